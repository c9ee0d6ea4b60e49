/- One block of numbers, cut into lists by a closure. -/
import Derived.Test.YtkbdidpodcclfaaOnl
import Derived.Test.YtkbdidpodcclfaaAppB
import Derived.IntWalk
namespace Go.Proofs.Ytkbdidpodcclfaa
open Go.RowKit
set_option linter.unusedVariables false

/-- the closure hands on the list that begins at cell o -/
theorem cut_any (i : Int) (o n N q1 q2 g : Nat) (w : World) (c1 : w.cell? ⟨q1, 0, none⟩ = some (.slice (some ⟨g, 0, none⟩) N N)) (c2 : w.cell? ⟨q2, 0, none⟩ = some (.int .i64 n)) (hi0 : 0 ≤ i) (hi1 : i ≤ 8) (hi : i * n = o) (hj : (i + 1) * n = ((o + n : Nat) : Int)) (h : o + n ≤ N) (hN : N ≤ 1000) (hn : 1 ≤ n) :
    Calls Try.prog 98 #[.int .i64 i, .pointer (some ⟨q1, 0, none⟩), .pointer (some ⟨q2, 0, none⟩)] w fun e w' => e = .returned (.slice (some ⟨g, o, none⟩) n n) ∧ w = w' := by
  have h1 : (0 : Int) ≤ (o : Int) := by omega
  have h2 : (o : Int) ≤ ((o + n : Nat) : Int) := by omega
  have h3 : ((o + n : Nat) : Int) ≤ (N : Int) := by omega
  have h4 : ¬ o + n = o := by omega
  have h5 : ¬ n = 0 := by omega
  have b1 : -1000 ≤ i * n ∧ i * n ≤ 1000 := by omega
  have b2 : -1000 ≤ (i + 1) * n ∧ (i + 1) * n ≤ 1000 := by omega
  obtain ⟨b1, b3⟩ := b1
  obtain ⟨b2, b4⟩ := b2
  have e1 : IntKind.i64.wrap (i * n) = o := by rw [IntWalk.i64_in _ (by omega)]; exact hi
  have e2 : IntKind.i64.wrap (IntKind.i64.wrap (i + 1) * n) = ((o + n : Nat) : Int) := by rw [IntWalk.i64_in (i + 1) (by omega), IntWalk.i64_in _ (by omega)]; exact hj
  go_enter Try.func98, Try.ntmps98
  go_wp2
  go_ret
  exact ⟨by show Ending.returned (.slice (some ⟨g, o, none⟩) (o + n - o) (o + n - o)) = _; rw [Nat.add_sub_cancel_left], rfl⟩

/-- a closure over a new block of N zeros, cut into lists of n -/
def Cut (n N : Nat) (w : World) (e : Ending) (w' : World) : Prop :=
  ∃ q1 q2 g : Nat, e = .returned (.func (.func 98) #[] #[.pointer (some ⟨q1, 0, none⟩), .pointer (some ⟨q2, 0, none⟩)]) ∧ Cells w' q1 [.slice (some ⟨g, 0, none⟩) N N] ∧ Cells w' q2 [.int .i64 n] ∧ w.heap.size ≤ g ∧
    w'.rowIs g 22 N (fun _ => .float .f32 0) ∧ Below w.heap.size w w'

set_option maxHeartbeats 1600000 in
theorem cutBlock3_any (n : Nat) (w : World) (hn : 1 ≤ n) (hq : n ≤ 48) : Calls Try.prog 75 #[.int .i64 3, .int .i64 n] w (Cut n (3 * n) w) := by
  obtain ⟨N, hN⟩ : ∃ N : Nat, N = 3 * n := ⟨_, rfl⟩
  have e4 : (3 : Int) * (n : Int) = (N : Int) := by omega
  have hmk := run_make_row' (P := Try.prog) 23 22 (.float .f32 0) 4 Try.underlying23 Try.rowOf32 rfl .i64 .i64 N (by omega) (by omega)
  rw [← hN]
  have A := (((Cells.made w [.int .i64 n] 3).al (.cells (madeCells #[.float .f32 0] N) 22)).al (.cells [Value.slice (some ⟨w.heap.size + 1, 0, none⟩) N N].toArray 23))
  have B := Cells.made ((w.alloc (.cells [Value.int .i64 n].toArray 3)).alloc (.cells (madeCells #[.float .f32 0] N) 22)) [.slice (some ⟨w.heap.size + 1, 0, none⟩) N N] 23
  have Ro := rowIs_below (World.rowIs_made (w.alloc (.cells [Value.int .i64 n].toArray 3)) (.float .f32 0) N 22) (below_al1 _ (.cells [Value.slice (some ⟨w.heap.size + 1, 0, none⟩) N N].toArray 23))
  rw [show (w.alloc (.cells [Value.int .i64 n].toArray 3)).heap.size = w.heap.size + 1 from by simp] at Ro
  rw [show ((w.alloc (.cells [Value.int .i64 n].toArray 3)).alloc (.cells (madeCells #[.float .f32 0] N) 22)).heap.size = w.heap.size + 1 + 1 from by simp] at B
  have Bw := below_al3 w (.cells [Value.int .i64 n].toArray 3) (.cells (madeCells #[.float .f32 0] N) 22) (.cells [Value.slice (some ⟨w.heap.size + 1, 0, none⟩) N N].toArray 23)
  have A := Lib.hid A
  have B := Lib.hid B
  have Ro := Lib.hid Ro
  have Bw := Lib.hid Bw
  clear hN
  go_enter Try.func75, Try.ntmps75
  go_wp2
  go_ret
  exact ⟨w.heap.size + 1 + 1, w.heap.size, w.heap.size + 1, rfl, B.out, A.out, by omega, Ro.out, Bw.out⟩

set_option maxHeartbeats 1600000 in
theorem cutBlock4_any (n : Nat) (w : World) (hn : 1 ≤ n) (hq : n ≤ 96) : Calls Try.prog 75 #[.int .i64 4, .int .i64 n] w (Cut n (4 * n) w) := by
  obtain ⟨N, hN⟩ : ∃ N : Nat, N = 4 * n := ⟨_, rfl⟩
  have e4 : (4 : Int) * (n : Int) = (N : Int) := by omega
  have hmk := run_make_row' (P := Try.prog) 23 22 (.float .f32 0) 4 Try.underlying23 Try.rowOf32 rfl .i64 .i64 N (by omega) (by omega)
  rw [← hN]
  have A := (((Cells.made w [.int .i64 n] 3).al (.cells (madeCells #[.float .f32 0] N) 22)).al (.cells [Value.slice (some ⟨w.heap.size + 1, 0, none⟩) N N].toArray 23))
  have B := Cells.made ((w.alloc (.cells [Value.int .i64 n].toArray 3)).alloc (.cells (madeCells #[.float .f32 0] N) 22)) [.slice (some ⟨w.heap.size + 1, 0, none⟩) N N] 23
  have Ro := rowIs_below (World.rowIs_made (w.alloc (.cells [Value.int .i64 n].toArray 3)) (.float .f32 0) N 22) (below_al1 _ (.cells [Value.slice (some ⟨w.heap.size + 1, 0, none⟩) N N].toArray 23))
  rw [show (w.alloc (.cells [Value.int .i64 n].toArray 3)).heap.size = w.heap.size + 1 from by simp] at Ro
  rw [show ((w.alloc (.cells [Value.int .i64 n].toArray 3)).alloc (.cells (madeCells #[.float .f32 0] N) 22)).heap.size = w.heap.size + 1 + 1 from by simp] at B
  have Bw := below_al3 w (.cells [Value.int .i64 n].toArray 3) (.cells (madeCells #[.float .f32 0] N) 22) (.cells [Value.slice (some ⟨w.heap.size + 1, 0, none⟩) N N].toArray 23)
  have A := Lib.hid A
  have B := Lib.hid B
  have Ro := Lib.hid Ro
  have Bw := Lib.hid Bw
  clear hN
  go_enter Try.func75, Try.ntmps75
  go_wp2
  go_ret
  exact ⟨w.heap.size + 1 + 1, w.heap.size, w.heap.size + 1, rfl, B.out, A.out, by omega, Ro.out, Bw.out⟩

end Go.Proofs.Ytkbdidpodcclfaa
