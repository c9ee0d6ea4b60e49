/- The laws' marks on rods. -/
import Derived.Test.YtkbdidpodcclfaaMark
import Derived.Test.YtkbdidpodcclfaaAppB
namespace Go.Proofs.Ytkbdidpodcclfaa
open Go.RowKit
set_option linter.unusedVariables false

set_option maxHeartbeats 1600000 in
theorem markRod_blk (g n : Nat) (f : Nat → Nat) (w : World) (hr : w.rowIs g 22 (4 * n) (fun i => .float .f32 (f i))) (hn : n ≤ 48) :
    Calls Try.prog 14 #[inBlk g n, .int .i64 1] w fun e w' => e = .returned (.int .i64 ((1 + n + n + n + n : Nat) : Int)) ∧ w'.rowIs g 22 (4 * n) (fun i => .float .f32 (fb (1 + i))) ∧ Tur (· = g) w w' := by
  have hgl := hr.lt
  have R := Lib.hid (rowIs_below hr (below_al1 w (.cells [Value.slice (some ⟨g, 0, none⟩) n n, .slice (some ⟨g, n, none⟩) n n, .slice (some ⟨g, 2 * n, none⟩) n n, .slice (some ⟨g, 3 * n, none⟩) n n].toArray 25)))
  have A := Lib.hid (Cells.made w [.slice (some ⟨g, 0, none⟩) n n, .slice (some ⟨g, n, none⟩) n n, .slice (some ⟨g, 2 * n, none⟩) n n, .slice (some ⟨g, 3 * n, none⟩) n n] 25)
  have T := Lib.hid (Tur.of_below (S := (· = g)) (below_al1 w (.cells [Value.slice (some ⟨g, 0, none⟩) n n, .slice (some ⟨g, n, none⟩) n n, .slice (some ⟨g, 2 * n, none⟩) n n, .slice (some ⟨g, 3 * n, none⟩) n n].toArray 25)))
  have NE : Hid (¬ w.heap.size = g) := Lib.hid (by omega)
  have GL := Lib.hid hgl
  have fin1 := Lib.hid (fun (w' : World) (h : w'.rowIs g 22 (4 * n) (fun i => .float .f32 (mkF (mkF (mkF (mkF f 0 n 1) n n (1 + n)) (2 * n) n (1 + n + n)) (3 * n) n (1 + n + n + n) i))) => h.congr (g := fun i => .float .f32 (fb (1 + i))) (fun i hi => by rw [mkF_all f n i hi]))
  clear hr hgl
  unfold inBlk
  go_enter Try.func14, Try.ntmps14
  go_wp2_with fail
  refine (mark_any g 0 n (4 * n) 1 n f _ R.out (by omega) hn (by omega)).mono ?_
  rintro _ w1 ⟨rfl, hr, ho⟩
  have R := Lib.hid hr
  have A := Lib.hid ((Tur.of_onl (S := (· = g)) ho rfl).cells A.out NE.out)
  have T := Lib.hid (T.out.trans (Tur.of_onl ho rfl))
  have c0 := A.out.at 0 rfl; have c1 := A.out.at 1 rfl; have c2 := A.out.at 2 rfl; have c3 := A.out.at 3 rfl
  clear hr ho
  go_wp2_with fail
  refine (mark_any g n n (4 * n) (1 + n) n _ _ R.out (by omega) hn (by omega)).mono ?_
  rintro _ w2 ⟨rfl, hr, ho⟩
  have R := Lib.hid hr
  have A := Lib.hid ((Tur.of_onl (S := (· = g)) ho rfl).cells A.out NE.out)
  have T := Lib.hid (T.out.trans (Tur.of_onl ho rfl))
  have c0 := A.out.at 0 rfl; have c1 := A.out.at 1 rfl; have c2 := A.out.at 2 rfl; have c3 := A.out.at 3 rfl
  clear hr ho
  go_wp2_with fail
  refine (mark_any g (2 * n) n (4 * n) (1 + n + n) n _ _ R.out (by omega) hn (by omega)).mono ?_
  rintro _ w3 ⟨rfl, hr, ho⟩
  have R := Lib.hid hr
  have A := Lib.hid ((Tur.of_onl (S := (· = g)) ho rfl).cells A.out NE.out)
  have T := Lib.hid (T.out.trans (Tur.of_onl ho rfl))
  have c0 := A.out.at 0 rfl; have c1 := A.out.at 1 rfl; have c2 := A.out.at 2 rfl; have c3 := A.out.at 3 rfl
  clear hr ho
  go_wp2_with fail
  refine (mark_any g (3 * n) n (4 * n) (1 + n + n + n) n _ _ R.out (by omega) hn (by omega)).mono ?_
  rintro _ w4 ⟨rfl, hr, ho⟩
  have R := Lib.hid hr
  have T := Lib.hid (T.out.trans (Tur.of_onl ho rfl))
  clear hr ho
  go_wp2
  go_ret
  exact ⟨rfl, fin1.out _ R.out, T.out⟩

set_option maxHeartbeats 1600000 in
theorem heldRod_blk (g n : Nat) (w : World) (hr : w.rowIs g 22 (4 * n) (fun i => .float .f32 (fb (1 + i)))) (hn : n ≤ 48) :
    Calls Try.prog 15 #[inBlk g n, .int .i64 1] w fun e w' => e = .returned (.int .i64 ((1 + n + n + n + n : Nat) : Int)) ∧ Below w.heap.size w w' := by
  have R := Lib.hid (rowIs_below hr (below_al1 w (.cells [Value.slice (some ⟨g, 0, none⟩) n n, .slice (some ⟨g, n, none⟩) n n, .slice (some ⟨g, 2 * n, none⟩) n n, .slice (some ⟨g, 3 * n, none⟩) n n].toArray 25)))
  clear hr
  unfold inBlk
  go_enter Try.func15, Try.ntmps15
  go_wp2_with fail
  refine (held_any g 0 n (4 * n) 1 n (fun i => fb (1 + i)) _ R.out (by omega) hn (by omega) (fun i _ => by congr 1; omega)).mono ?_
  rintro _ _ ⟨rfl, rfl⟩
  go_wp2_with fail
  refine (held_any g n n (4 * n) (1 + n) n (fun i => fb (1 + i)) _ R.out (by omega) hn (by omega) (fun i _ => by congr 1; omega)).mono ?_
  rintro _ _ ⟨rfl, rfl⟩
  go_wp2_with fail
  refine (held_any g (2 * n) n (4 * n) (1 + n + n) n (fun i => fb (1 + i)) _ R.out (by omega) hn (by omega) (fun i _ => by congr 1; omega)).mono ?_
  rintro _ _ ⟨rfl, rfl⟩
  go_wp2_with fail
  refine (held_any g (3 * n) n (4 * n) (1 + n + n + n) n (fun i => fb (1 + i)) _ R.out (by omega) hn (by omega) (fun i _ => by congr 1; omega)).mono ?_
  rintro _ _ ⟨rfl, rfl⟩
  go_wp2
  go_ret
  exact ⟨rfl, below_al1 _ _⟩

/-- the rod without cells -/
def nilRod : Value := .agg #[.slice none 0 0, .slice none 0 0, .slice none 0 0, .slice none 0 0]
theorem markRod_nil (w : World) : Calls Try.prog 14 #[nilRod, .int .i64 1] w fun e w' => e = .returned (.int .i64 1) ∧ Below w.heap.size w w' := by
  unfold nilRod
  go_enter Try.func14, Try.ntmps14
  go_wp2_with (go_at_call 26; refine (mark_nil 1 _ (by omega)).mono ?_; rintro e w' ⟨rfl, rfl⟩)
  go_ret
  exact ⟨rfl, below_al1 _ _⟩
theorem heldRod_nil (w : World) : Calls Try.prog 15 #[nilRod, .int .i64 1] w fun e w' => e = .returned (.int .i64 1) ∧ Below w.heap.size w w' := by
  unfold nilRod
  go_enter Try.func15, Try.ntmps15
  go_wp2_with (go_at_call 30; refine (held_nil 1 _ (by omega)).mono ?_; rintro e w' ⟨rfl, rfl⟩)
  go_ret
  exact ⟨rfl, below_al1 _ _⟩
end Go.Proofs.Ytkbdidpodcclfaa
