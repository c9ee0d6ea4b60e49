/- Parts of turns, in numbers: what is left of a 64-bit number without its whole part. -/
import Derived.Test.YtlhjmkdfemejmaaPur
import Derived.Test.YtlhjmkdfemejmaaOrd
import Derived.Test.YtlhjmkdfemejmaaHalf2
namespace Go.Proofs.Ytlhjmkdfemejmaa
open Go Go.RowKit
set_option linter.unusedVariables false

theorem d_sw : Ieee.double.signWeight = 9223372036854775808 := double_sw
theorem d_word (neg : Bool) (r : Nat) : Ieee.double.word neg r = if neg then 9223372036854775808 + r else r := by unfold Ieee.Format.word; rw [d_sw]
theorem word_back64 {x : Nat} (h : x < 18446744073709551616) : Ieee.double.word (x / 9223372036854775808 % 2 == 1) (x % 9223372036854775808) = x := by
  rw [d_word]
  by_cases h1 : x < 9223372036854775808
  · have e : x / 9223372036854775808 = 0 := Nat.div_eq_of_lt h1
    rw [e]; simp; omega
  · have e : x / 9223372036854775808 = 1 := by omega
    rw [e]; simp; omega
theorem word_sign64 (s : Bool) {r : Nat} (h : r < 9223372036854775808) : (Ieee.double.word s r / 9223372036854775808 % 2 == 1) = s ∧ Ieee.double.word s r % 9223372036854775808 = r := by
  rw [d_word]
  cases s
  · simp only [Bool.false_eq_true, if_false]
    rw [Nat.div_eq_of_lt h, Nat.mod_eq_of_lt h]
    exact ⟨rfl, rfl⟩
  · simp only [if_true]
    have e1 : (9223372036854775808 + r) / 9223372036854775808 = 1 := by omega
    have e2 : (9223372036854775808 + r) % 9223372036854775808 = r := by omega
    rw [e1, e2]
    exact ⟨rfl, rfl⟩
theorem log2_mg64 {R : Nat} (h : 4503599627370496 ≤ R) : (4503599627370496 + R % 4503599627370496).log2 = 52 := by
  have h1 : R % 4503599627370496 < 4503599627370496 := Nat.mod_lt _ (by decide)
  have hz : 4503599627370496 + R % 4503599627370496 ≠ 0 := by omega
  have a := (Nat.le_log2 hz (k := 52)).2 (by omega)
  have b := (Nat.log2_lt hz (k := 53)).2 (by omega)
  omega

/-- a word is the nearest one of its own number -/
theorem near_self64 {x : Nat} (h : x < 18446744073709551616) (hr : x % 9223372036854775808 < 9218868437227405312) (h0 : x % 9223372036854775808 ≠ 0) :
    Ieee.double.nearest (x / 9223372036854775808 % 2 == 1) (mg Ieee.double (x % 9223372036854775808)) (-1074 + (ex Ieee.double (x % 9223372036854775808) : Nat)) = x := by
  have hx := word_back64 h
  generalize (x / 9223372036854775808 % 2 == 1) = s at *
  generalize x % 9223372036854775808 = R at *
  rw [← hx]
  unfold Ieee.Format.nearest mg ex
  rw [double_binade, double_inf, double_least]
  by_cases h1 : R < 4503599627370496
  · have hl : R.log2 < 52 := (Nat.log2_lt h0).2 (by omega)
    rw [if_pos h1, if_neg h0, Nat.div_eq_of_lt h1]
    have e1 : max ((-1074 : Int) + ((0 - 1 : Nat) : Int) + (R.log2 : Int) - (Ieee.double.fractionBits : Int)) (-1074) = -1074 := by
      rw [double_fraction]; simp; omega
    simp only [e1]
    simp [cut_zero]
    congr 1
    omega
  · have hl := log2_mg64 (R := R) (by omega)
    rw [if_neg h1]
    have hz : 4503599627370496 + R % 4503599627370496 ≠ 0 := by omega
    rw [if_neg hz, hl]
    have q : 1 ≤ R / 4503599627370496 := by omega
    have e1 : max ((-1074 : Int) + ((R / 4503599627370496 - 1 : Nat) : Int) + ((52 : Nat) : Int) - (Ieee.double.fractionBits : Int)) (-1074) = -1074 + ((R / 4503599627370496 - 1 : Nat) : Int) := by
      rw [double_fraction]; omega
    simp only [e1]
    have e2 : ((-1074 : Int) + ((R / 4503599627370496 - 1 : Nat) : Int) - (-1074 + ((R / 4503599627370496 - 1 : Nat) : Int))).toNat = 0 := by omega
    have e3 : ((-1074 : Int) + ((R / 4503599627370496 - 1 : Nat) : Int) - -1074).toNat = R / 4503599627370496 - 1 := by omega
    rw [e2, e3, Nat.shiftLeft_zero, cut_zero]
    congr 1
    omega

theorem read_zero64 : Ieee.double.read 0 = .number false 0 (-1074) := by decide +kernel
/-- a number less +0 -/
theorem sub_zero64 {x : Nat} (h : x < 18446744073709551616) (hr : x % 9223372036854775808 < 9218868437227405312) : fop .sub .f64 x 0 = x := by
  unfold fop
  rw [show floatBits .sub .f64 x 0 = ((Ieee.double.read x).sum (Ieee.double.read 0).opposite).map Ieee.double.write from rfl, read_zero64]
  by_cases h0 : x % 9223372036854775808 = 0
  · by_cases h1 : x = 0
    · subst h1; decide +kernel
    · have : x = 9223372036854775808 := by omega
      subst this; decide +kernel
  · rw [read_fin Ieee.double x (by rw [d_sw, double_inf]; exact hr), d_sw, double_least]
    have hs := near_self64 h hr h0
    have hm : mg Ieee.double (x % 9223372036854775808) ≠ 0 := by
      unfold mg; rw [double_binade]; split <;> omega
    generalize mg Ieee.double (x % 9223372036854775808) = m at *
    generalize ex Ieee.double (x % 9223372036854775808) = k at *
    generalize (x / 9223372036854775808 % 2 == 1) = s at *
    have e2 : m <<< k ≠ 0 := by rw [Nat.shiftLeft_eq]; exact Nat.mul_ne_zero hm (by have := Nat.two_pow_pos k; omega)
    have e3 : Ieee.double.nearest s (m <<< k) (-1074) = x := by
      rw [Nat.shiftLeft_eq, show (-1074 : Int) = (-1074 + (k : Int)) - (k : Int) by omega, nearest_scale _ _ _ _ _ hm]
      exact hs
    have e0 : min ((-1074 : Int) + (k : Int)) (-1074) = -1074 := by omega
    have e1 : ((-1074 : Int) + (k : Int) - -1074).toNat = k := by omega
    have e4 : Ieee.signed true 0 ((-1074 : Int) - -1074).toNat = 0 := by decide
    have e6 : (Ieee.Datum.number s m (-1074 + (k : Int))).sum (Ieee.Datum.number false 0 (-1074)).opposite = some (.number s (m <<< k) (-1074)) := by
      simp only [Ieee.Datum.opposite, Ieee.Datum.sum, Bool.not_false]
      rw [e0, e1, e4, Int.add_zero]
      unfold Ieee.signed
      generalize m <<< k = M at *
      cases s
      · simp only [Bool.false_eq_true, if_false]
        have e5 : ¬ ((M : Nat) : Int) = 0 := by omega
        have e6 : decide (((M : Nat) : Int) < 0) = false := by simp
        rw [if_neg e5, e6, Int.natAbs_natCast]
      · simp only [if_true]
        have e5 : ¬ -((M : Nat) : Int) = 0 := by omega
        have e6 : decide (-((M : Nat) : Int) < 0) = true := by simp; omega
        rw [if_neg e5, e6, Int.natAbs_neg, Int.natAbs_natCast]
    rw [e6]
    exact e3

theorem cut_zero_way (neg : Bool) (n d : Nat) : Ieee.Toward.zero.cut neg n d = n / 2 ^ d := by
  unfold Ieee.Toward.cut
  simp only [Nat.one_shiftLeft, Bool.toNat_false, Nat.add_zero]
  by_cases h : d ≤ n.log2 + 2
  · rw [Nat.min_eq_left h]
  · rw [Nat.min_eq_right (by omega)]
    have a1 : n < 2 ^ (n.log2 + 1) := Nat.lt_log2_self
    have a2 : 2 ^ (n.log2 + 1) ≤ 2 ^ (n.log2 + 2) := Nat.pow_le_pow_right (by decide) (by omega)
    have a3 : 2 ^ (n.log2 + 1) ≤ 2 ^ d := Nat.pow_le_pow_right (by decide) (by omega)
    rw [Nat.div_eq_of_lt (by omega), Nat.div_eq_of_lt (by omega)]

theorem int_low {k : Nat} (hz : k ≠ 0) (hl : k.log2 ≤ 52) : 4503599627370496 ≤ k * 2 ^ (52 - k.log2) := by
  have h := Nat.mul_le_mul_right (2 ^ (52 - k.log2)) (Nat.log2_self_le hz)
  rw [← Nat.pow_add, show k.log2 + (52 - k.log2) = 52 by omega] at h
  exact h
theorem int_high {k : Nat} (hl : k.log2 ≤ 52) : k * 2 ^ (52 - k.log2) < 9007199254740992 := by
  have hup : k < 2 ^ (k.log2 + 1) := Nat.lt_log2_self
  have h : k * 2 ^ (52 - k.log2) < 2 ^ (k.log2 + 1) * 2 ^ (52 - k.log2) := Nat.mul_lt_mul_of_pos_right hup (Nat.two_pow_pos _)
  rw [← Nat.pow_add, show k.log2 + 1 + (52 - k.log2) = 53 by omega] at h
  exact h
theorem int_rung {T K : Nat} (hT : T ≤ 1074) (h1 : 4503599627370496 ≤ K) (h2 : K < 9007199254740992) :
    min (T * 4503599627370496 + K) 9218868437227405312 = T * 4503599627370496 + K ∧ T * 4503599627370496 + K < 9218868437227405312 ∧ (T * 4503599627370496 + K) % 4503599627370496 = K - 4503599627370496 ∧ (T * 4503599627370496 + K) / 4503599627370496 = T + 1 ∧ ¬ T * 4503599627370496 + K < 4503599627370496 := by
  refine ⟨?_, ?_, ?_, ?_, ?_⟩ <;> omega
/-- a whole number lies there as it is -/
theorem read_int (s : Bool) {k : Nat} (hz : k ≠ 0) (hl : k.log2 ≤ 52) : Ieee.double.read (Ieee.double.nearest s k 0) = .number s (k * 2 ^ (52 - k.log2)) ((k.log2 : Int) - 52) := by
  have hlo := int_low hz hl
  have hhi := int_high hl
  have e1 : max ((0 : Int) + (k.log2 : Int) - 52) (-1074) = (k.log2 : Int) - 52 := by omega
  have e2 : ((k.log2 : Int) - 52 - 0).toNat = 0 := by omega
  have e3 : ((0 : Int) - ((k.log2 : Int) - 52)).toNat = 52 - k.log2 := by omega
  have e4 : ((k.log2 : Int) - 52 - -1074).toNat = k.log2 + 1022 := by omega
  unfold Ieee.Format.nearest
  rw [if_neg hz]
  simp only [double_least, double_fraction, double_binade, double_inf, e1, e2, e3, e4, cut_zero, Nat.shiftLeft_eq]
  generalize k * 2 ^ (52 - k.log2) = K at *
  obtain ⟨r1, r2, r3, r4, r5⟩ := int_rung (T := k.log2 + 1022) (by omega) hlo hhi
  rw [r1]
  have hw := word_sign64 s (r := (k.log2 + 1022) * 4503599627370496 + K) (by omega)
  rw [read_fin Ieee.double _ (by rw [d_sw, double_inf, hw.2]; exact r2), d_sw, hw.1, hw.2, double_least]
  unfold mg ex
  rw [double_binade, if_neg r5, r3, r4]
  have a1 : 4503599627370496 + (K - 4503599627370496) = K := by omega
  have a2 : (-1074 : Int) + ((k.log2 + 1022 + 1 - 1 : Nat) : Int) = (k.log2 : Int) - 52 := by omega
  rw [a1, a2]

/-- cut off behind the point -/
def truncV (x : Nat) : Nat := Ieee.double.write ((Ieee.double.read x).integral .zero)
def trk (m : Nat) (i : Int) : Nat := (m <<< i.toNat) / 2 ^ (-i).toNat
theorem truncV_of {x : Nat} {s : Bool} {m : Nat} {i : Int} (h : Ieee.double.read x = .number s m i) : truncV x = Ieee.double.nearest s (trk m i) 0 := by
  unfold truncV
  rw [h]
  show Ieee.double.nearest s (Ieee.Toward.zero.cut s (m <<< i.toNat) (-i).toNat) 0 = _
  rw [cut_zero_way]; rfl
theorem trk_le {m : Nat} {i : Int} (h : Le 52 m i) : (trk m i).log2 ≤ 52 := by
  have hk : trk m i ≤ 2 ^ 52 := by
    unfold trk
    rcases h with h | ⟨h1, h2⟩
    · subst h; rw [Nat.zero_shiftLeft, Nat.zero_div]; exact Nat.zero_le _
    · by_cases hi : 0 ≤ i
      · rw [show (-i).toNat = 0 by omega, Nat.pow_zero, Nat.div_one, Nat.shiftLeft_eq]
        have := Nat.mul_le_mul_right (2 ^ i.toNat) h2
        rw [← Nat.pow_add, show (52 - i).toNat + i.toNat = 52 by omega] at this
        exact this
      · rw [show i.toNat = 0 by omega, Nat.shiftLeft_zero]
        have h3 : 2 ^ (52 - i).toNat = 2 ^ 52 * 2 ^ (-i).toNat := by rw [← Nat.pow_add]; congr 1; omega
        rw [h3] at h2
        exact Nat.div_le_of_le_mul (by rw [Nat.mul_comm]; exact h2)
  by_cases hz : trk m i = 0
  · rw [hz]; decide
  · have := (Nat.log2_lt hz (k := 53)).2 (by omega)
    omega
theorem trk_zero {m : Nat} {i : Int} (h : trk m i = 0) : Le 0 m i := by
  unfold trk at h
  rw [Nat.shiftLeft_eq] at h
  by_cases hi : 0 ≤ i
  · rw [show (-i).toNat = 0 by omega, Nat.pow_zero, Nat.div_one] at h
    refine .inl ?_
    rcases Nat.mul_eq_zero.1 h with h | h
    · exact h
    · have := Nat.two_pow_pos i.toNat; omega
  · rw [show i.toNat = 0 by omega, Nat.pow_zero, Nat.mul_one] at h
    refine .inr ⟨by omega, ?_⟩
    have hp := Nat.two_pow_pos (-i).toNat
    have : m < 2 ^ (-i).toNat := by
      rcases Nat.lt_or_ge m (2 ^ (-i).toNat) with hlt | hge
      · exact hlt
      · have := (Nat.le_div_iff_mul_le hp).2 (by rw [Nat.one_mul]; exact hge)
        omega
    rw [show (0 - i).toNat = (-i).toNat by omega]
    omega

theorem sub_abs (s : Bool) {A B : Nat} (h : B ≤ A) : ((if s then -(A : Int) else (A : Int)) + (if !s then -(B : Int) else (B : Int))).natAbs = A - B := by
  cases s <;> simp <;> omega
/-- a number less its whole part is at most 1 -/
theorem frac_le {s : Bool} {m k : Nat} {i : Int} (hk : k = trk m i) (hz : k ≠ 0) (hl : k.log2 ≤ 52) :
    ∃ sg M b, (Ieee.Datum.number s m i).sum (Ieee.Datum.number s (k * 2 ^ (52 - k.log2)) ((k.log2 : Int) - 52)).opposite = some (.number sg M b) ∧ Le 0 M b := by
  simp only [Ieee.Datum.opposite, Ieee.Datum.sum]
  refine ⟨_, _, _, rfl, ?_⟩
  have hj : ((k.log2 : Int) - 52) ≤ 0 := by omega
  have ej : (52 - k.log2 : Nat) = (-((k.log2 : Int) - 52)).toNat := by omega
  rw [ej]
  generalize ((k.log2 : Int) - 52) = j at *
  unfold Ieee.signed
  rw [Nat.shiftLeft_eq, Nat.shiftLeft_eq]
  by_cases hi : 0 ≤ i
  · have hmin : min i j = j := by omega
    have hkm : k = m * 2 ^ i.toNat := by rw [hk, trk, show (-i).toNat = 0 by omega, Nat.pow_zero, Nat.div_one, Nat.shiftLeft_eq]
    rw [hmin]
    have e1 : m * 2 ^ (i - j).toNat = k * 2 ^ (-j).toNat := by
      rw [hkm, Nat.mul_assoc, ← Nat.pow_add]; congr 2; omega
    have e2 : (j - j).toNat = 0 := by omega
    rw [e1, e2, Nat.pow_zero, Nat.mul_one, sub_abs s (Nat.le_refl _)]
    exact .inl (Nat.sub_self _)
  · have hkm : k = m / 2 ^ (-i).toNat := by rw [hk, trk, show i.toNat = 0 by omega, Nat.shiftLeft_zero]
    have hb : min i j ≤ 0 := by omega
    have hbi : min i j ≤ i := by omega
    have hbj : min i j ≤ j := by omega
    generalize min i j = b at *
    have e1 : k * 2 ^ (-j).toNat * 2 ^ (j - b).toNat = (k * 2 ^ (-i).toNat) * 2 ^ (i - b).toNat := by
      rw [Nat.mul_assoc, ← Nat.pow_add, Nat.mul_assoc, ← Nat.pow_add]; congr 2; omega
    rw [e1]
    have hdm := Nat.div_add_mod m (2 ^ (-i).toNat)
    rw [← hkm] at hdm
    have hlt : m % 2 ^ (-i).toNat < 2 ^ (-i).toNat := Nat.mod_lt _ (Nat.two_pow_pos _)
    have hle : k * 2 ^ (-i).toNat ≤ m := by rw [Nat.mul_comm]; omega
    have hd : m - k * 2 ^ (-i).toNat ≤ 2 ^ (-i).toNat := by rw [Nat.mul_comm k]; omega
    rw [sub_abs s (Nat.mul_le_mul_right _ hle), ← Nat.sub_mul]
    refine .inr ⟨hb, ?_⟩
    have := Nat.mul_le_mul_right (2 ^ (i - b).toNat) hd
    rw [← Nat.pow_add, show (-i).toNat + (i - b).toNat = (0 - b).toNat by omega] at this
    exact this

/-- what is left without the whole part -/
def frF (y : Nat) : Nat := if FloatKind.f64.format.order (truncV y) 0 == some .eq then y else fop .sub .f64 y (truncV y)
theorem order_word0 (s : Bool) : (FloatKind.f64.format.order (Ieee.double.word s 0) 0 == some .eq) = true := by cases s <;> decide +kernel
theorem order_read {x : Nat} {s : Bool} {m : Nat} {j : Int} (h : Ieee.double.read x = .number s m j) (hm : m ≠ 0) : (FloatKind.f64.format.order x 0 == some .eq) = false := by
  have e : FloatKind.f64.format.order x 0 = (Ieee.Datum.number s m j).order (Ieee.Datum.number false 0 (-1074)) := by
    show (Ieee.double.read x).order (Ieee.double.read 0) = _
    rw [h, read_zero64]
  rw [e]
  simp only [Ieee.Datum.order]
  have hz : Ieee.signed false 0 ((-1074 : Int) - min j (-1074)).toNat = 0 := by unfold Ieee.signed; simp
  rw [hz]
  unfold Ieee.signed
  rw [Nat.shiftLeft_eq]
  have hp := Nat.two_pow_pos (j - min j (-1074)).toNat
  have hM : m * 2 ^ (j - min j (-1074)).toNat ≠ 0 := Nat.mul_ne_zero hm (by omega)
  generalize m * 2 ^ (j - min j (-1074)).toNat = M at *
  have : ∀ z : Int, z ≠ 0 → (some (compare z 0) == some Ordering.eq) = false := fun z hz => by
    simp only [compare, compareOfLessAndEq]
    by_cases h1 : z < 0
    · rw [if_pos h1]; rfl
    · rw [if_neg h1, if_neg hz]; rfl
  apply this
  cases s <;> simp <;> omega

structure Small (y : Nat) : Prop where
  lt : y < 18446744073709551616
  sm : y % 9223372036854775808 < 4841369599423283200
theorem Small.Bl {y : Nat} (h : Small y) : Go.Proofs.Ytlhjmkdfemejmaa.Bl 52 y := by
  have := Bl_bits (x := y) 1074 (by omega) (by have := h.sm; omega)
  exact this
/-- both ways to be without the whole part -/
theorem frac_both {y : Nat} (h : Small y) : ∃ n, floatToIntVal .f64 y .i64 = some n ∧ floatBits .sub .f64 y (floatOfInt .f64 n) = some (frF y) ∧ ((FloatKind.f64.format.order (truncV y) 0 == some .eq) = false → floatBits .sub .f64 y (truncV y) = some (frF y)) ∧ Bl 0 (frF y) := by
  obtain ⟨s, m, i, hr, hle⟩ := h.Bl
  have hkl := trk_le hle
  have hT := truncV_of hr
  have hn : floatToIntVal .f64 y .i64 = some (Ieee.signed s (trk m i) 0) := by
    unfold floatToIntVal
    rw [show FloatKind.f64.decode y = .number s m i from hr]
    have ht : (Ieee.Datum.number s m i).toInt .zero = some (Ieee.signed s (Ieee.Toward.zero.cut s (m <<< i.toNat) (-i).toNat) 0) := rfl
    rw [ht, cut_zero_way]
    show (if IntKind.i64.min ≤ Ieee.signed s (trk m i) 0 ∧ Ieee.signed s (trk m i) 0 ≤ IntKind.i64.max then some (Ieee.signed s (trk m i) 0) else none) = _
    have hb : trk m i < 9007199254740992 := by
      have : trk m i < 2 ^ ((trk m i).log2 + 1) := Nat.lt_log2_self
      have h2 : 2 ^ ((trk m i).log2 + 1) ≤ 2 ^ 53 := Nat.pow_le_pow_right (by decide) (by omega)
      exact Nat.lt_of_lt_of_le this h2
    rw [if_pos]
    have m0 : IntKind.i64.min = -9223372036854775808 := by decide
    have m1 : IntKind.i64.max = 9223372036854775807 := by decide
    rw [m0, m1]
    unfold Ieee.signed
    rw [Nat.shiftLeft_zero]
    cases s <;> simp <;> omega
  refine ⟨_, hn, ?_⟩
  have hfi : floatOfInt .f64 (Ieee.signed s (trk m i) 0) = Ieee.double.nearest (decide (Ieee.signed s (trk m i) 0 < 0)) (Ieee.signed s (trk m i) 0).natAbs 0 := rfl
  have hab : (Ieee.signed s (trk m i) 0).natAbs = trk m i := by rw [signed_abs, Nat.pow_zero, Nat.mul_one]
  rw [hfi, hab]
  have hyf : y % 9223372036854775808 < 9218868437227405312 := by have := h.sm; omega
  by_cases hz : trk m i = 0
  · have e0 : truncV y = Ieee.double.word s 0 := by rw [hT, hz]; rfl
    have hF : frF y = y := by unfold frF; rw [e0, order_word0, if_pos rfl]
    have hd : decide (Ieee.signed s (trk m i) 0 < 0) = false := by
      rw [hz]; unfold Ieee.signed; cases s <;> simp
    have hs := sub_zero64 h.lt hyf
    refine ⟨?_, ?_, ?_⟩
    · rw [hd, hz, hF]
      show floatBits .sub .f64 y 0 = some y
      cases hb : floatBits .sub .f64 y 0 with
      | none =>
        unfold fop at hs
        rw [hb] at hs
        have hq : qn .f64 = y := hs
        have hnn := Bl_num h.Bl
        rw [← hq, nn_qn] at hnn; cases hnn
      | some v =>
        unfold fop at hs
        rw [hb] at hs
        exact congrArg some hs
    · intro hc; rw [e0, order_word0] at hc; cases hc
    · rw [hF]; exact ⟨s, m, i, hr, trk_zero hz⟩
  · have hrT : Ieee.double.read (truncV y) = .number s (trk m i * 2 ^ (52 - (trk m i).log2)) (((trk m i).log2 : Int) - 52) := by rw [hT]; exact read_int s hz hkl
    have ho : (FloatKind.f64.format.order (truncV y) 0 == some .eq) = false := order_read hrT (by have := int_low hz hkl; omega)
    have hd : decide (Ieee.signed s (trk m i) 0 < 0) = s := by
      unfold Ieee.signed; rw [Nat.shiftLeft_zero]; cases s <;> simp <;> omega
    obtain ⟨sg, M, b, hsum, hM⟩ := frac_le (s := s) rfl hz hkl
    have hfb : floatBits .sub .f64 y (truncV y) = some (Ieee.double.nearest sg M b) := by
      rw [show floatBits .sub .f64 y (truncV y) = ((Ieee.double.read y).sum (Ieee.double.read (truncV y)).opposite).map Ieee.double.write from rfl, hr, hrT, hsum]; rfl
    have hF : frF y = Ieee.double.nearest sg M b := by unfold frF; rw [ho, if_neg (by decide)]; unfold fop; rw [hfb]; rfl
    refine ⟨?_, fun _ => ?_, ?_⟩
    · rw [hd, ← hT, hfb, hF]
    · rw [hfb, hF]
    · rw [hF]; exact near_Le sg hM (by omega) (by omega)
end Go.Proofs.Ytlhjmkdfemejmaa
