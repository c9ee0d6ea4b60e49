/- Low bytes of integers. -/
import Derived.Test.YtabdinmodopadaaAppU
import Derived.Laws.BytesArg
import Derived.Deep.OwnRows
namespace Go.Proofs.Ytabdinmodopadaa
open Go.RowKit
set_option linter.unusedVariables false

def lo1 (n : Int) : Nat → Int
  | 0 => n % 256
  | _ => 0
set_option maxHeartbeats 800000 in
theorem low1_any (n : Int) (w : World) (h0 : 0 ≤ n) (h1 : n < 65536) : Calls Try.prog 67 #[.int .i64 n, .int .i64 1] w fun e w' => e = .returned (.string (strOfNums [n % 256])) ∧ Below w.heap.size w w' := by
  have hmk : ∀ w, (Instr.makeSlice 71 (.int .i64 1) (.int .i64 1)).run Try.prog w = .ok (.slice (some ⟨w.heap.size, 0, none⟩) 1 1) (w.alloc (.cells (madeCells #[.int .u8 0] 1) 5)) := run_make_row' (P := Try.prog) 71 5 (.int .u8 0) 1 Try.underlying71 Try.rowOfU rfl .i64 .i64 1 (by omega) (by omega)
  have W0 : IntKind.u8.wrap n = n % 256 := by unfold IntKind.wrap; simp [IntKind.bits, IntKind.signed]
  have S0 : n >>> 0 = n := by simp
  have S8 : n >>> 8 = n / 256 := by rw [Int.shiftRight_eq_div_pow]; rfl
  have W8 : IntKind.u8.wrap (n / 256) = n / 256 % 256 := by unfold IntKind.wrap; simp [IntKind.bits, IntKind.signed]
  go_enter Try.func67, Try.ntmps67
  go_wp2
  go_loopw [6, 11] (fun _ i wr => ∃ j : Nat, j ≤ 1 ∧ i = .int .i64 j ∧ Hid (Below w.heap.size w wr) ∧ Hid (wr.rowIs w.heap.size 5 1 (fun i => .int .u8 (if i < j then lo1 n i else 0)))) (fun _ i _ => 1 - (intOf i).toNat)
  case atStart => exact ⟨0, Nat.zero_le _, rfl, Lib.hid ((Below.refl _ _).alloc (Nat.le_refl _) _), Lib.hid ((World.rowIs_made w (.int .u8 0) 1 5).congr (fun i _ => by simp))⟩
  case round =>
    obtain ⟨j, hj, rfl, hb, hr⟩ := hrel
    by_cases e0 : j = 0
    · subst e0
      have h3 : wr.cell? ⟨w.heap.size, 0, none⟩ = some (.int .u8 0) := hr.out.cell (by omega)
      have h4 : wr.frozen? ⟨w.heap.size, 0, none⟩ = false := hr.out.frozen 0
      have R2 := Lib.hid (hr.out.set 0 (.int .u8 (n % 256)))
      have B2 := Lib.hid (hb.out.setCell (p := ⟨w.heap.size, 0, none⟩) (Nat.le_refl _) (.int .u8 (n % 256)))
      go_wp2
      go_roundw
      case rel =>
        refine ⟨1, by omega, by go_num, by simpa using B2, Lib.hid ?_⟩
        refine World.rowIs.congr (by simpa using R2.out) (fun i hi => ?_)
        obtain rfl : i = 0 := by omega
        simp [lo1]
      case measure => simp [intOf]
    have e : j = 1 := by omega
    subst e
    have hcv := run_convert_bytes_arg (P := Try.prog) wr 71 5 Try.underlying71 Try.underlying5 w.heap.size 0 1 1 [n % 256] rfl (fun i hi => by rw [Nat.zero_add, hr.out.cell hi]; rcases i with _ | i <;> first | rfl | (rcases i with _ | i <;> first | rfl | omega)) 9 Try.underlying9
    go_wp2
    go_ret
    exact ⟨rfl, hb.out⟩

def lo2 (n : Int) : Nat → Int
  | 0 => n % 256
  | 1 => n / 256 % 256
  | _ => 0
set_option maxHeartbeats 800000 in
theorem low2_any (n : Int) (w : World) (h0 : 0 ≤ n) (h1 : n < 65536) : Calls Try.prog 67 #[.int .i64 n, .int .i64 2] w fun e w' => e = .returned (.string (strOfNums [n % 256, n / 256 % 256])) ∧ Below w.heap.size w w' := by
  have hmk : ∀ w, (Instr.makeSlice 71 (.int .i64 2) (.int .i64 2)).run Try.prog w = .ok (.slice (some ⟨w.heap.size, 0, none⟩) 2 2) (w.alloc (.cells (madeCells #[.int .u8 0] 2) 5)) := run_make_row' (P := Try.prog) 71 5 (.int .u8 0) 1 Try.underlying71 Try.rowOfU rfl .i64 .i64 2 (by omega) (by omega)
  have W0 : IntKind.u8.wrap n = n % 256 := by unfold IntKind.wrap; simp [IntKind.bits, IntKind.signed]
  have S0 : n >>> 0 = n := by simp
  have S8 : n >>> 8 = n / 256 := by rw [Int.shiftRight_eq_div_pow]; rfl
  have W8 : IntKind.u8.wrap (n / 256) = n / 256 % 256 := by unfold IntKind.wrap; simp [IntKind.bits, IntKind.signed]
  go_enter Try.func67, Try.ntmps67
  go_wp2
  go_loopw [6, 11] (fun _ i wr => ∃ j : Nat, j ≤ 2 ∧ i = .int .i64 j ∧ Hid (Below w.heap.size w wr) ∧ Hid (wr.rowIs w.heap.size 5 2 (fun i => .int .u8 (if i < j then lo2 n i else 0)))) (fun _ i _ => 2 - (intOf i).toNat)
  case atStart => exact ⟨0, Nat.zero_le _, rfl, Lib.hid ((Below.refl _ _).alloc (Nat.le_refl _) _), Lib.hid ((World.rowIs_made w (.int .u8 0) 2 5).congr (fun i _ => by simp))⟩
  case round =>
    obtain ⟨j, hj, rfl, hb, hr⟩ := hrel
    by_cases e0 : j = 0
    · subst e0
      have h3 : wr.cell? ⟨w.heap.size, 0, none⟩ = some (.int .u8 0) := hr.out.cell (by omega)
      have h4 : wr.frozen? ⟨w.heap.size, 0, none⟩ = false := hr.out.frozen 0
      have R2 := Lib.hid (hr.out.set 0 (.int .u8 (n % 256)))
      have B2 := Lib.hid (hb.out.setCell (p := ⟨w.heap.size, 0, none⟩) (Nat.le_refl _) (.int .u8 (n % 256)))
      go_wp2
      go_roundw
      case rel =>
        refine ⟨1, by omega, by go_num, by simpa using B2, Lib.hid ?_⟩
        refine World.rowIs.congr (by simpa using R2.out) (fun i hi => ?_)
        rcases (show i = 0 ∨ i = 1 by omega) with rfl | rfl <;> simp [lo2]
      case measure => simp [intOf]
    by_cases e1 : j = 1
    · subst e1
      have h3 : wr.cell? ⟨w.heap.size, 1, none⟩ = some (.int .u8 0) := hr.out.cell (by omega)
      have h4 : wr.frozen? ⟨w.heap.size, 1, none⟩ = false := hr.out.frozen 1
      have R2 := Lib.hid (hr.out.set 1 (.int .u8 (n / 256 % 256)))
      have B2 := Lib.hid (hb.out.setCell (p := ⟨w.heap.size, 1, none⟩) (Nat.le_refl _) (.int .u8 (n / 256 % 256)))
      go_wp2
      go_roundw
      case rel =>
        refine ⟨2, by omega, by go_num, by simpa using B2, Lib.hid ?_⟩
        refine World.rowIs.congr (by simpa using R2.out) (fun i hi => ?_)
        rcases (show i = 0 ∨ i = 1 by omega) with rfl | rfl <;> simp [lo2]
      case measure => simp [intOf]
    have e : j = 2 := by omega
    subst e
    have hcv := run_convert_bytes_arg (P := Try.prog) wr 71 5 Try.underlying71 Try.underlying5 w.heap.size 0 2 2 [n % 256, n / 256 % 256] rfl (fun i hi => by rw [Nat.zero_add, hr.out.cell hi]; rcases i with _ | i <;> first | rfl | (rcases i with _ | i <;> first | rfl | omega)) 9 Try.underlying9
    go_wp2
    go_ret
    exact ⟨rfl, hb.out⟩

end Go.Proofs.Ytabdinmodopadaa
