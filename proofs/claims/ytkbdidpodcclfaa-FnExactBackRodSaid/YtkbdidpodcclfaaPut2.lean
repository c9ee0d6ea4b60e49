/- The cells of a rod copied into a rod in one block. -/
import Derived.Test.YtkbdidpodcclfaaPut
import Derived.Test.YtkbdidpodcclfaaLay
namespace Go.Proofs.Ytkbdidpodcclfaa
open Go.RowKit
set_option linter.unusedVariables false

theorem onl_drew {g : Nat} {w w' : World} (h : Onl g w.drew w') : Onl g w w' := ⟨h.os, h.tape, h.output, h.size, h.block⟩
theorem lay_onl {w w' : World} {g n b0 o0 k0 b1 o1 k1 b2 o2 k2 b3 o3 k3 : Nat} {r : RL} (h : Lay w n b0 o0 k0 b1 o1 k1 b2 o2 k2 b3 o3 k3 r) (ho : Onl g w w') (hb0 : b0 ≠ g) (hb1 : b1 ≠ g) (hb2 : b2 ≠ g) (hb3 : b3 ≠ g) : Lay w' n b0 o0 k0 b1 o1 k1 b2 o2 k2 b3 o3 k3 r :=
  ⟨fun i hi => (World.cell?_of_block (w := w) (ho.block b0 hb0)).trans (h.W i hi), fun i hi => (World.cell?_of_block (w := w) (ho.block b1 hb1)).trans (h.E i hi), fun i hi => (World.cell?_of_block (w := w) (ho.block b2 hb2)).trans (h.H i hi), fun i hi => (World.cell?_of_block (w := w) (ho.block b3 hb3)).trans (h.T i hi)⟩

set_option maxHeartbeats 3200000 in
set_option maxRecDepth 4000 in
theorem put_any {n b0 o0 k0 b1 o1 k1 b2 o2 k2 b3 o3 k3 : Nat} (g N j : Nat) (f : Nat → Nat) (r : RL) (w : World) (hL : Lay w n b0 o0 k0 b1 o1 k1 b2 o2 k2 b3 o3 k3 r) (hr : w.rowIs g 22 (4 * N) (fun i => .float .f32 (f i))) (hN : N ≤ 96) (hj : j + n ≤ N) (hn : 1 ≤ n) (hb0 : b0 ≠ g) (hb1 : b1 ≠ g) (hb2 : b2 ≠ g) (hb3 : b3 ≠ g) :
    Calls Try.prog 47 #[inBlk g N, .int .i64 j, .agg #[.slice (some ⟨b0, o0, none⟩) n k0, .slice (some ⟨b1, o1, none⟩) n k1, .slice (some ⟨b2, o2, none⟩) n k2, .slice (some ⟨b3, o3, none⟩) n k3]] w fun e w' => e = .returned (.tuple #[]) ∧ w'.rowIs g 22 (4 * N) (fun i => .float .f32 (cpF (cpF (cpF (cpF f j n (fun i => r.W.getD i 0)) (N + j) n (fun i => r.E.getD i 0)) (2 * N + j) n (fun i => r.H.getD i 0)) (3 * N + j) n (fun i => r.T.getD i 0) i)) ∧ Tur (· = g) w w' := by
  have hgl := hr.lt
  have RO := Lib.hid (rowIs_below hr (below_al2 w (.cells [.slice (some ⟨g, 0, none⟩) N N, .slice (some ⟨g, N, none⟩) N N, .slice (some ⟨g, 2 * N, none⟩) N N, .slice (some ⟨g, 3 * N, none⟩) N N].toArray 25) (.cells [.slice (some ⟨b0, o0, none⟩) n k0, .slice (some ⟨b1, o1, none⟩) n k1, .slice (some ⟨b2, o2, none⟩) n k2, .slice (some ⟨b3, o3, none⟩) n k3].toArray 25)))
  have LY := Lib.hid (hL.below (below_al2 w (.cells [.slice (some ⟨g, 0, none⟩) N N, .slice (some ⟨g, N, none⟩) N N, .slice (some ⟨g, 2 * N, none⟩) N N, .slice (some ⟨g, 3 * N, none⟩) N N].toArray 25) (.cells [.slice (some ⟨b0, o0, none⟩) n k0, .slice (some ⟨b1, o1, none⟩) n k1, .slice (some ⟨b2, o2, none⟩) n k2, .slice (some ⟨b3, o3, none⟩) n k3].toArray 25)))
  have A := Lib.hid ((Cells.made w [.slice (some ⟨g, 0, none⟩) N N, .slice (some ⟨g, N, none⟩) N N, .slice (some ⟨g, 2 * N, none⟩) N N, .slice (some ⟨g, 3 * N, none⟩) N N] 25).al (.cells [.slice (some ⟨b0, o0, none⟩) n k0, .slice (some ⟨b1, o1, none⟩) n k1, .slice (some ⟨b2, o2, none⟩) n k2, .slice (some ⟨b3, o3, none⟩) n k3].toArray 25))
  have A5 := Cells.made (w.alloc (.cells [.slice (some ⟨g, 0, none⟩) N N, .slice (some ⟨g, N, none⟩) N N, .slice (some ⟨g, 2 * N, none⟩) N N, .slice (some ⟨g, 3 * N, none⟩) N N].toArray 25)) [.slice (some ⟨b0, o0, none⟩) n k0, .slice (some ⟨b1, o1, none⟩) n k1, .slice (some ⟨b2, o2, none⟩) n k2, .slice (some ⟨b3, o3, none⟩) n k3] 25
  rw [show (w.alloc (.cells [.slice (some ⟨g, 0, none⟩) N N, .slice (some ⟨g, N, none⟩) N N, .slice (some ⟨g, 2 * N, none⟩) N N, .slice (some ⟨g, 3 * N, none⟩) N N].toArray 25)).heap.size = w.heap.size + 1 from by simp] at A5
  have A5 := Lib.hid A5
  have T := Lib.hid (Tur.of_below (S := (· = g)) (below_al2 w (.cells [.slice (some ⟨g, 0, none⟩) N N, .slice (some ⟨g, N, none⟩) N N, .slice (some ⟨g, 2 * N, none⟩) N N, .slice (some ⟨g, 3 * N, none⟩) N N].toArray 25) (.cells [.slice (some ⟨b0, o0, none⟩) n k0, .slice (some ⟨b1, o1, none⟩) n k1, .slice (some ⟨b2, o2, none⟩) n k2, .slice (some ⟨b3, o3, none⟩) n k3].toArray 25)))
  have NE : Hid (¬ w.heap.size = g) := Lib.hid (by omega)
  have NE5 : Hid (¬ w.heap.size + 1 = g) := Lib.hid (by omega)
  have hjN : (j : Int) ≤ (N : Int) := by omega
  have hj0 : (0 : Int) ≤ (j : Int) := by omega
  have hjn : j ≤ N := by omega
  clear hr hL hgl
  unfold inBlk
  go_enter Try.func47, Try.ntmps47
  go_wp2
  generalize hW : ((w.alloc (.cells [.slice (some ⟨g, 0, none⟩) N N, .slice (some ⟨g, N, none⟩) N N, .slice (some ⟨g, 2 * N, none⟩) N N, .slice (some ⟨g, 3 * N, none⟩) N N].toArray 25)).alloc (.cells [.slice (some ⟨b0, o0, none⟩) n k0, .slice (some ⟨b1, o1, none⟩) n k1, .slice (some ⟨b2, o2, none⟩) n k2, .slice (some ⟨b3, o3, none⟩) n k3].toArray 25)) = w2 at *
  clear hW
  have c0 := A.out.at 0 rfl; have c1 := A.out.at 1 rfl; have c2 := A.out.at 2 rfl; have c3 := A.out.at 3 rfl; have d0 := A5.out.at 0 rfl; have d1 := A5.out.at 1 rfl; have d2 := A5.out.at 2 rfl; have d3 := A5.out.at 3 rfl
  all_goals
    go_region_law (refine step_copy32 rfl (.tmp 9) (.tmp 11) rfl g (j) (N - j) (N - j) (4 * N) _ (by simp [Act.eval, Act.put]; try omega) b0 o0 n k0 (fun i => r.W.getD i 0) (by simp [Act.eval, Act.put]) RO.out (by omega) (by omega) (LY.out.W) ?_; intro w3 hr3 ho3)
  all_goals
    have RO := Lib.hid hr3
    have LY := Lib.hid (lay_onl LY.out (onl_drew ho3) hb0 hb1 hb2 hb3)
    have T := Lib.hid (T.out.trans (Tur.of_onl (S := (· = g)) (onl_drew ho3) rfl))
    have A := Lib.hid ((Tur.of_onl (S := (· = g)) (onl_drew ho3) rfl).cells A.out NE.out)
    have A5 := Lib.hid ((Tur.of_onl (S := (· = g)) (onl_drew ho3) rfl).cells A5.out NE5.out)
    clear hr3 ho3 c0 c1 c2 c3 d0 d1 d2 d3
    have c0 := A.out.at 0 rfl; have c1 := A.out.at 1 rfl; have c2 := A.out.at 2 rfl; have c3 := A.out.at 3 rfl; have d0 := A5.out.at 0 rfl; have d1 := A5.out.at 1 rfl; have d2 := A5.out.at 2 rfl; have d3 := A5.out.at 3 rfl
    go_wp2
  all_goals
    go_region_law (refine step_copy32 rfl (.tmp 16) (.tmp 18) rfl g (N + j) (N - j) (N - j) (4 * N) _ (by simp [Act.eval, Act.put]; try omega) b1 o1 n k1 (fun i => r.E.getD i 0) (by simp [Act.eval, Act.put]) RO.out (by omega) (by omega) (LY.out.E) ?_; intro w4 hr3 ho3)
  all_goals
    have RO := Lib.hid hr3
    have LY := Lib.hid (lay_onl LY.out (onl_drew ho3) hb0 hb1 hb2 hb3)
    have T := Lib.hid (T.out.trans (Tur.of_onl (S := (· = g)) (onl_drew ho3) rfl))
    have A := Lib.hid ((Tur.of_onl (S := (· = g)) (onl_drew ho3) rfl).cells A.out NE.out)
    have A5 := Lib.hid ((Tur.of_onl (S := (· = g)) (onl_drew ho3) rfl).cells A5.out NE5.out)
    clear hr3 ho3 c0 c1 c2 c3 d0 d1 d2 d3
    have c0 := A.out.at 0 rfl; have c1 := A.out.at 1 rfl; have c2 := A.out.at 2 rfl; have c3 := A.out.at 3 rfl; have d0 := A5.out.at 0 rfl; have d1 := A5.out.at 1 rfl; have d2 := A5.out.at 2 rfl; have d3 := A5.out.at 3 rfl
    go_wp2
  all_goals
    go_region_law (refine step_copy32 rfl (.tmp 23) (.tmp 25) rfl g (2 * N + j) (N - j) (N - j) (4 * N) _ (by simp [Act.eval, Act.put]; try omega) b2 o2 n k2 (fun i => r.H.getD i 0) (by simp [Act.eval, Act.put]) RO.out (by omega) (by omega) (LY.out.H) ?_; intro w5 hr3 ho3)
  all_goals
    have RO := Lib.hid hr3
    have LY := Lib.hid (lay_onl LY.out (onl_drew ho3) hb0 hb1 hb2 hb3)
    have T := Lib.hid (T.out.trans (Tur.of_onl (S := (· = g)) (onl_drew ho3) rfl))
    have A := Lib.hid ((Tur.of_onl (S := (· = g)) (onl_drew ho3) rfl).cells A.out NE.out)
    have A5 := Lib.hid ((Tur.of_onl (S := (· = g)) (onl_drew ho3) rfl).cells A5.out NE5.out)
    clear hr3 ho3 c0 c1 c2 c3 d0 d1 d2 d3
    have c0 := A.out.at 0 rfl; have c1 := A.out.at 1 rfl; have c2 := A.out.at 2 rfl; have c3 := A.out.at 3 rfl; have d0 := A5.out.at 0 rfl; have d1 := A5.out.at 1 rfl; have d2 := A5.out.at 2 rfl; have d3 := A5.out.at 3 rfl
    go_wp2
  all_goals
    go_region_law (refine step_copy32 rfl (.tmp 30) (.tmp 32) rfl g (3 * N + j) (N - j) (N - j) (4 * N) _ (by simp [Act.eval, Act.put]; try omega) b3 o3 n k3 (fun i => r.T.getD i 0) (by simp [Act.eval, Act.put]) RO.out (by omega) (by omega) (LY.out.T) ?_; intro w6 hr3 ho3)
  all_goals
    have RO := Lib.hid hr3
    have LY := Lib.hid (lay_onl LY.out (onl_drew ho3) hb0 hb1 hb2 hb3)
    have T := Lib.hid (T.out.trans (Tur.of_onl (S := (· = g)) (onl_drew ho3) rfl))
    have A := Lib.hid ((Tur.of_onl (S := (· = g)) (onl_drew ho3) rfl).cells A.out NE.out)
    have A5 := Lib.hid ((Tur.of_onl (S := (· = g)) (onl_drew ho3) rfl).cells A5.out NE5.out)
    clear hr3 ho3 c0 c1 c2 c3 d0 d1 d2 d3
    have c0 := A.out.at 0 rfl; have c1 := A.out.at 1 rfl; have c2 := A.out.at 2 rfl; have c3 := A.out.at 3 rfl; have d0 := A5.out.at 0 rfl; have d1 := A5.out.at 1 rfl; have d2 := A5.out.at 2 rfl; have d3 := A5.out.at 3 rfl
    go_wp2
  all_goals
    go_end0
    exact ⟨rfl, RO.out, T.out⟩
end Go.Proofs.Ytkbdidpodcclfaa
