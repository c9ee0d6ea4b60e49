/- The text of a mark. -/
import Derived.Test.YtncjkhdnpioinaaDoorRun
import Derived.Test.YtncjkhdnpioinaaDoorCell
import Derived.Laws.BytesArg
import Derived.Lib.Hide
namespace Go.Proofs.YtncjkhdnpioinaaDoor
open Go.RowKit
set_option linter.unusedVariables false

def mtd : Nat → Nat → ByteArray
  | 0, _ => ⟨#[]⟩
  | f + 1, k => if k = 0 then ⟨#[]⟩ else mtd f (k / 10) ++ strOfNums [48 + (k : Int) % 10]
def mtx (k : Nat) : ByteArray := ⟨#[109]⟩ ++ mtd k k
theorem mtd_zero : ∀ f, mtd f 0 = ⟨#[]⟩
  | 0 => rfl
  | f + 1 => by simp [mtd]
theorem mtd_step {f j : Nat} (hf : j ≤ f) (hj : 1 ≤ j) : mtd f j = mtd (f - 1) (j / 10) ++ strOfNums [48 + (j : Int) % 10] := by
  cases f with
  | zero => omega
  | succ f =>
    rw [mtd, if_neg (by omega)]
    rfl
theorem nil_app (s : ByteArray) : (⟨#[]⟩ : ByteArray) ++ s = s := by
  apply ByteArray.ext
  simp [ByteArray.data_append]

set_option maxHeartbeats 1600000 in
set_option maxRecDepth 4000 in
theorem markText_any (K : Nat) (w : World) (h1 : 1 ≤ K) (h2 : K ≤ 1000000) : Calls Tryd.prog 58 #[.int .i64 K] w fun e w' => e = .returned (.string (mtx K)) ∧ Below w.heap.size w w' := by
  have hd : decide ((K : Int) ≤ 0) = false := decide_eq_false (by omega)
  have HK := Lib.hid h2
  have H0 : Hid (mtd K K = mtd K K ++ ⟨#[]⟩) := Lib.hid (by apply ByteArray.ext; simp [ByteArray.data_append])
  have HX : Hid (∀ o, mtd K K = o → mtx K = ⟨#[109]⟩ ++ o) := Lib.hid (fun o h => by unfold mtx; rw [h])
  go_enter Tryd.func58, Tryd.ntmps58
  go_wp2
  go_loopw [0, 3] (fun q s wr => ∃ (j f : Nat) (o : ByteArray), q = .int .i64 j ∧ s = .string o ∧ j ≤ f ∧ o.size + j ≤ K ∧ Hid (mtd K K = mtd f j ++ o) ∧ Hid (Below w.heap.size w wr)) (fun q _ _ => (intOf q).toNat)
  case atStart => exact ⟨K, K, _, rfl, rfl, Nat.le_refl _, by show 0 + K ≤ K; omega, H0, Lib.hid (Below.refl _ _)⟩
  case round =>
    obtain ⟨j, f, o, rfl, rfl, hf, ho, he, hb⟩ := hrel
    have hk := HK.out
    by_cases hj : 0 < j
    · have hg : decide (0 < (j : Int)) = true := decide_eq_true (by omega)
      have e1 : IntKind.i64.wrap (48 + (j : Int) % 10) = 48 + (j : Int) % 10 := by
        unfold IntKind.wrap; simp [IntKind.bits, IntKind.signed]; omega
      have e2 : IntKind.u8.wrap (48 + (j : Int) % 10) = 48 + (j : Int) % 10 := by
        unfold IntKind.wrap; simp [IntKind.bits, IntKind.signed]; omega
      have e4 : wrap64 ((j : Int) / 10) = ((j / 10 : Nat) : Int) := by unfold wrap64; omega
      have HN : Hid (mtd K K = mtd (f - 1) (j / 10) ++ (strOfNums [48 + (j : Int) % 10] ++ o)) := Lib.hid (by rw [he.out, mtd_step hf (by omega), ByteArray.append_assoc])
      obtain ⟨d, hdd⟩ : ∃ d : Int, 48 + (j : Int) % 10 = d := ⟨_, rfl⟩
      rw [hdd] at e1 e2 HN
      have HD := Lib.hid hdd
      have hsz : (strOfNums [d]).size = 1 := strOfNums_size _
      have hcv := run_convert_bytes_arg (P := Tryd.prog) (wr.alloc (.cells #[.int .u8 d] 5)) 141 5 Tryd.underlying141 Tryd.underlying5 wr.heap.size 0 1 1 [d] rfl (fun i hi => by
        obtain rfl : i = 0 := by omega
        exact (World.cell?_alloc_at _ _ _ _ (by simp)).trans rfl) 9 Tryd.underlying9
      have B2 := Lib.hid (hb.out.alloc (hb.out.size) (.cells #[.int .u8 d] 5))
      have HS : Hid ((strOfNums [d] ++ o).size + j / 10 ≤ K) := Lib.hid (by rw [ByteArray.size_append, hsz]; omega)
      have n1 : ¬ (9223372036854775807 < (strOfNums [d]).size + o.size) := by omega
      have n2 : ¬ (9223372036854775807 < 1 + o.size) := by omega
      obtain ⟨T, hT⟩ : ∃ T, strOfNums [d] = T := ⟨_, rfl⟩
      rw [hT] at hcv HN hsz HS n1
      have hrw : 48 + (j : Int) % 10 = d := hdd
      clear hdd he hT
      go_wp2
      go_roundw
      case rel => exact ⟨j / 10, f - 1, _, by go_num, rfl, by omega, HS.out, HN, B2⟩
      case measure => simp [intOf]; omega
    · have hg : decide (0 < (j : Int)) = false := decide_eq_false (by omega)
      have HE : Hid (mtx K = ⟨#[109]⟩ ++ o) := Lib.hid (HX.out o (by
        rw [he.out, show j = 0 from by omega, mtd_zero, nil_app]))
      have n1 : ¬ (9223372036854775807 < 1 + o.size) := by omega
      clear he
      go_wp2
      go_ret
      rw [HE.out]
      exact ⟨rfl, hb.out⟩
end Go.Proofs.YtncjkhdnpioinaaDoor
