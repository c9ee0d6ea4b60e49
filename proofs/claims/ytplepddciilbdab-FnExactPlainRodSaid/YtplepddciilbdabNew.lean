/- A rod of n cells without numbers: four lists in one block. -/
import Derived.Test.YtplepddciilbdabMark
import Derived.Test.YtplepddciilbdabApp
import Derived.IntWalk
namespace Go.Proofs.Ytplepddciilbdab
open Go.RowKit
set_option linter.unusedVariables false

theorem part_any (o n N q1 q2 g : Nat) (w : World) (c1 : w.cell? ⟨q1, 0, none⟩ = some (.slice (some ⟨g, 0, none⟩) N N)) (c2 : w.cell? ⟨q2, 0, none⟩ = some (.int .i64 n)) (h : o + n ≤ N) (hN : N ≤ 192) (hn : 1 ≤ n) :
    Calls Try.prog 100 #[.int .i64 o, .pointer (some ⟨q1, 0, none⟩), .pointer (some ⟨q2, 0, none⟩)] w fun e w' => e = .returned (.slice (some ⟨g, o, none⟩) n n) ∧ w = w' := by
  have h1 : (0 : Int) ≤ (o : Int) := by omega
  have h2 : (o : Int) ≤ (o : Int) + (n : Int) := by omega
  have h3 : (o : Int) + (n : Int) ≤ (N : Int) := by omega
  have h4 : ¬ o + n = o := by omega
  have h5 : ¬ n = 0 := by omega
  go_enter Try.func100, Try.ntmps100
  go_wp2
  go_ret
  exact ⟨by show Ending.returned (.slice (some ⟨g, o, none⟩) (o + n - o) (o + n - o)) = _; rw [Nat.add_sub_cancel_left], rfl⟩

theorem rowIs_below {w w' : World} {b n : Nat} {t : TypeId} {f : Nat → Value} (h : w.rowIs b t n f) (hb : Below w.heap.size w w') : w'.rowIs b t n f := by
  have hl := h.lt
  unfold World.rowIs at *
  rw [hb.block b hl]
  exact h
theorem rowIs_far {w : World} {b n q i : Nat} {t : TypeId} {f : Nat → Value} {u : Value} (h : w.rowIs b t n f) (hq : b ≠ q) : (w.setCell ⟨q, i, none⟩ u).rowIs b t n f := by
  unfold World.rowIs at *
  rw [Below.heap_setCell w ⟨q, i, none⟩ u b hq]
  exact h

/-- a rod of zeros in one block of its own -/
def ZeroRod (n : Nat) (w : World) (e : Ending) (w' : World) : Prop := ∃ g, e = .returned (inBlk g n) ∧ w.heap.size ≤ g ∧ w'.rowIs g 22 (4 * n) (fun _ => .float .f32 0) ∧ Below w.heap.size w w'

set_option maxHeartbeats 1600000 in
theorem newRod_any (n : Nat) (w : World) (hn : 1 ≤ n) (hq : n ≤ 48) : Calls Try.prog 53 #[.int .i64 n] w (ZeroRod n w) := by
  unfold ZeroRod inBlk
  obtain ⟨N, hN⟩ : ∃ N : Nat, N = 4 * n := ⟨_, rfl⟩
  obtain ⟨n2, hn2⟩ : ∃ N : Nat, N = 2 * n := ⟨_, rfl⟩
  obtain ⟨n3, hn3⟩ : ∃ N : Nat, N = 3 * n := ⟨_, rfl⟩
  have e4 : (4 : Int) * (n : Int) = (N : Int) := by omega
  have hmk := run_make_row' (P := Try.prog) 23 22 (.float .f32 0) 4 Try.underlying23 Try.rowOf32 rfl .i64 .i64 N (by omega) (by omega)
  rw [← hN, ← hn2, ← hn3]
  have P0 := Lib.hid (fun q1 q2 g w1 c1 c2 => part_any 0 n N q1 q2 g w1 c1 c2 (by omega) (by omega) hn)
  rw [show (((0 : Nat)) : Int) = 0 from rfl] at P0
  have P1 := Lib.hid (fun q1 q2 g w1 c1 c2 => part_any n n N q1 q2 g w1 c1 c2 (by omega) (by omega) hn)
  have P2 := Lib.hid (fun q1 q2 g w1 c1 c2 => part_any n2 n N q1 q2 g w1 c1 c2 (by omega) (by omega) hn)
  have P3 := Lib.hid (fun q1 q2 g w1 c1 c2 => part_any n3 n N q1 q2 g w1 c1 c2 (by omega) (by omega) hn)
  have hw2 : IntKind.i64.wrap (2 * (n : Int)) = (n2 : Int) := by rw [IntWalk.i64_in _ (by omega)]; omega
  have hw3 : IntKind.i64.wrap (3 * (n : Int)) = (n3 : Int) := by rw [IntWalk.i64_in _ (by omega)]; omega
  have HN := Lib.hid hN
  have A := ((((Cells.made w [.int .i64 n] 3).al (.cells [Value.slice none 0 0, .slice none 0 0, .slice none 0 0, .slice none 0 0].toArray 25)).al (.cells (madeCells #[.float .f32 0] N) 22)).al (.cells [Value.slice (some ⟨w.heap.size + 1 + 1, 0, none⟩) N N].toArray 23))
  have R := (((Cells.made (w.alloc (.cells [Value.int .i64 n].toArray 3)) [.slice none 0 0, .slice none 0 0, .slice none 0 0, .slice none 0 0] 25).al (.cells (madeCells #[.float .f32 0] N) 22)).al (.cells [Value.slice (some ⟨w.heap.size + 1 + 1, 0, none⟩) N N].toArray 23))
  have B := Cells.made (((w.alloc (.cells [Value.int .i64 n].toArray 3)).alloc (.cells [Value.slice none 0 0, .slice none 0 0, .slice none 0 0, .slice none 0 0].toArray 25)).alloc (.cells (madeCells #[.float .f32 0] N) 22)) [.slice (some ⟨w.heap.size + 1 + 1, 0, none⟩) N N] 23
  have Ro := rowIs_below (World.rowIs_made ((w.alloc (.cells [Value.int .i64 n].toArray 3)).alloc (.cells [Value.slice none 0 0, .slice none 0 0, .slice none 0 0, .slice none 0 0].toArray 25)) (.float .f32 0) N 22) (below_al1 _ (.cells [Value.slice (some ⟨w.heap.size + 1 + 1, 0, none⟩) N N].toArray 23))
  rw [show (w.alloc (.cells [Value.int .i64 n].toArray 3)).heap.size = w.heap.size + 1 from by simp] at R
  rw [show ((w.alloc (.cells [Value.int .i64 n].toArray 3)).alloc (.cells [Value.slice none 0 0, .slice none 0 0, .slice none 0 0, .slice none 0 0].toArray 25)).heap.size = w.heap.size + 1 + 1 from by simp] at Ro
  rw [show (((w.alloc (.cells [Value.int .i64 n].toArray 3)).alloc (.cells [Value.slice none 0 0, .slice none 0 0, .slice none 0 0, .slice none 0 0].toArray 25)).alloc (.cells (madeCells #[.float .f32 0] N) 22)).heap.size = w.heap.size + 1 + 1 + 1 from by simp] at B
  have Bw := below_al4 w (.cells [Value.int .i64 n].toArray 3) (.cells [Value.slice none 0 0, .slice none 0 0, .slice none 0 0, .slice none 0 0].toArray 25) (.cells (madeCells #[.float .f32 0] N) 22) (.cells [Value.slice (some ⟨w.heap.size + 1 + 1, 0, none⟩) N N].toArray 23)
  have A := Lib.hid A
  have R := Lib.hid R
  have B := Lib.hid B
  have Ro := Lib.hid Ro
  have Bw := Lib.hid Bw
  clear hN hn2 hn3
  go_enter Try.func53, Try.ntmps53
  go_wp2
  clear hmk
  generalize hW : ((((w.alloc (.cells [Value.int .i64 n].toArray 3)).alloc (.cells [Value.slice none 0 0, .slice none 0 0, .slice none 0 0, .slice none 0 0].toArray 25)).alloc (.cells (madeCells #[.float .f32 0] N) 22)).alloc (.cells [Value.slice (some ⟨w.heap.size + 1 + 1, 0, none⟩) N N].toArray 23)) = w4 at *
  clear hW
  have a0 := A.out.at 0 rfl
  have b0 := B.out.at 0 rfl
  have r0 := R.out.at 0 rfl
  have r1 := R.out.at 1 rfl
  have r2 := R.out.at 2 rfl
  have r3 := R.out.at 3 rfl
  have rf := R.out.fz
  go_region_held3 (fun w' => w'.cell? ⟨w.heap.size, 0, none⟩ = some (.int .i64 n) ∧ w'.cell? ⟨w.heap.size + 1 + 1 + 1, 0, none⟩ = some (.slice (some ⟨w.heap.size + 1 + 1, 0, none⟩) N N)) (first | exact ⟨a0, b0⟩ | go_keep)
    (first
    | (go_at_call_of 100 n2; refine (P2.out _ _ _ w4.drew b0 a0).mono ?_; rintro e w' ⟨rfl, rfl⟩)
    | (go_at_call_of 100 n3; refine (P3.out _ _ _ w4.drew b0 a0).mono ?_; rintro e w' ⟨rfl, rfl⟩)
    | (go_at_call_of 100 n; refine (P1.out _ _ _ w4.drew b0 a0).mono ?_; rintro e w' ⟨rfl, rfl⟩)
    | (go_at_call 100; refine (P0.out _ _ _ w4.drew b0 a0).mono ?_; rintro e w' ⟨rfl, rfl⟩))
  go_wp2
  refine bodyPost_ret (v := .agg #[.slice (some ⟨w.heap.size + 1 + 1, 0, none⟩) n n, .slice (some ⟨w.heap.size + 1 + 1, n, none⟩) n n, .slice (some ⟨w.heap.size + 1 + 1, n2, none⟩) n n, .slice (some ⟨w.heap.size + 1 + 1, n3, none⟩) n n]) ?_ rfl ?_
  · rw [results_cell1 rfl]
    go_simp
  · refine ⟨_, rfl, by omega, rowIs_far (rowIs_far (rowIs_far (rowIs_far Ro.out (by omega)) (by omega)) (by omega)) (by omega), ?_⟩
    exact ((((Bw.out.setCell (by simp) _).setCell (by simp) _).setCell (by simp) _).setCell (by simp) _).drew
end Go.Proofs.Ytplepddciilbdab
