/- The law on logarithms: zeros, negative numbers, the infinity, not-a-numbers, and all together. -/
import Derived.Test.YtdemahghjgghkaaLogN
namespace Go.Proofs.Ytdemahghjgghkaa
open Go.RowKit

theorem up_lit {a r v : Nat} (h : UR a r) (hn : nn .f32 a = false) (hv : cvu a = v) : r = v := by
  have h1 := h.1
  rw [cn_of_num (by rw [nn_up h]; exact hn), cn_of_num hn, hv] at h1
  exact h1

theorem up_zero {a r : Nat} (ha : a = 0 ∨ a = 2147483648) (h : UR a r) : FloatKind.f64.format.order r r = some .eq ∧ FloatKind.f64.format.order r 0 = some .eq := by
  rcases ha with rfl | rfl
  · have := up_lit h (by decide +kernel) (show cvu 0 = 0 by decide +kernel)
    subst this
    decide +kernel
  · have := up_lit h (by decide +kernel) (show cvu 2147483648 = 9223372036854775808 by decide +kernel)
    subst this
    decide +kernel
theorem up_nan {a r : Nat} (ha : nn .f32 a = true) (h : UR a r) : FloatKind.f64.format.order r r = none := by
  rw [order_self, nn_up h, ha]; rfl
theorem up_inf {r : Nat} (h : UR 2139095040 r) : FloatKind.f64.format.order r r = some .eq ∧ FloatKind.f64.format.order r 0 = some .gt ∧ FloatKind.f64.format.order r 9218868437227405311 = some .gt ∧ r = 9218868437227405312 := by
  have := up_lit h (by decide +kernel) (show cvu 2139095040 = 9218868437227405312 by decide +kernel)
  subst this
  decide +kernel

theorem read_sign32 (a : Nat) : (FloatKind.f32.decode a).neg = (a / 2147483648 % 2 == 1) := by
  unfold FloatKind.decode Ieee.Format.read
  dsimp only
  rw [single_sw]
  repeat' split
  all_goals rfl
theorem nonzero32 {a : Nat} {s : Bool} {e : Int} (h : FloatKind.f32.decode a = .number s 0 e) : a % 2147483648 = 0 := by
  unfold FloatKind.decode Ieee.Format.read at h
  dsimp only at h
  rw [single_sw, show FloatKind.f32.format.binade = 8388608 from single_binade] at h
  split at h
  · simp only [Ieee.Datum.number.injEq] at h; omega
  · split at h
    · simp only [Ieee.Datum.number.injEq] at h; omega
    · split at h <;> simp at h

theorem near_pos (s : Bool) (m : Nat) (e : Int) (hz : m ≠ 0) (h0 : -1000 ≤ e) : ∃ k, Ieee.double.nearest s m e = Ieee.double.word s k ∧ 0 < k ∧ k ≤ Ieee.double.infRung := by
  unfold Ieee.Format.nearest
  rw [if_neg hz]
  refine ⟨_, rfl, ?_, Nat.min_le_right _ _⟩
  rw [double_inf, double_binade, double_least, double_fraction]
  have : 1 ≤ (max (e + (m.log2 : Int) - 52) (-1074) - -1074).toNat := by omega
  refine Nat.lt_min.2 ⟨?_, by omega⟩
  have h2 : 1 * 4503599627370496 ≤ (max (e + (m.log2 : Int) - 52) (-1074) - -1074).toNat * 4503599627370496 := Nat.mul_le_mul_right _ this
  exact Nat.lt_of_lt_of_le (by omega) (Nat.le_trans h2 (Nat.le_add_right _ _))

theorem up_neg {a r : Nat} (h : UR a r) (ha : a < 4294967296) (h0 : 2147483648 < a) (hn : nn .f32 a = false) : FloatKind.f64.format.order r r = some .eq ∧ FloatKind.f64.format.order r 0 = some .lt := by
  have hr := nn_up h
  rw [hn] at hr
  refine ⟨by rw [order_self, hr]; rfl, ?_⟩
  have hk : ∃ k, r = 9223372036854775808 + k ∧ 0 < k ∧ k ≤ 9218868437227405312 := by
    obtain ⟨u, hu⟩ := up_some hn
    have e1 := up_lit h hn (show cvu a = u by rw [cvu, hu]; rfl)
    subst e1
    have hneg : (FloatKind.f32.decode a).neg = true := by
      rw [read_sign32, show a / 2147483648 % 2 = 1 by omega]; rfl
    unfold floatToFloatBits at hu
    rw [if_neg (by decide)] at hu
    split at hu
    · cases hu
    · rename_i s he
      rw [he] at hneg
      change s = true at hneg
      subst hneg
      cases hu
      exact ⟨9218868437227405312, by decide +kernel, by omega, by omega⟩
    · rename_i s m e he
      rw [he] at hneg
      change s = true at hneg
      subst hneg
      split at hu
      · cases hu
      · cases hu
        obtain ⟨hm, b0, b1⟩ := read_single_bounds (show Ieee.single.read a = _ from he)
        have hz : m ≠ 0 := by
          intro hz
          subst hz
          have hfr := nonzero32 he
          omega
        obtain ⟨k, hk, k0, k1⟩ := near_pos true m e hz (by omega)
        refine ⟨k, ?_, k0, by rw [double_inf] at k1; exact k1⟩
        show Ieee.double.nearest true m e = _
        rw [hk]
        unfold Ieee.Format.word
        rw [if_pos rfl, show Ieee.double.signWeight = 9223372036854775808 from double_sw]
  obtain ⟨k, rfl, k0, k1⟩ := hk
  rw [ord_key, hr, show nn .f64 0 = false by decide +kernel]
  have q1 : key FloatKind.f64.format (9223372036854775808 + k) = -(k : Int) := by
    unfold key
    rw [double_sw, Nat.add_mod_left, Nat.mod_eq_of_lt (show k < 9223372036854775808 by omega), show (9223372036854775808 + k) / 9223372036854775808 % 2 = 1 by omega]
    rfl
  rw [q1, key64_pos 0 (by omega)]
  simp only [Bool.or_self, Bool.false_eq_true, if_false, compare, compareOfLessAndEq]
  rw [if_pos (by omega)]
end Go.Proofs.Ytdemahghjgghkaa
