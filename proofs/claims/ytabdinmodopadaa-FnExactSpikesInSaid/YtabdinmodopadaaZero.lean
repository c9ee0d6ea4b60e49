/- Adding zero changes nothing; a sum that begins with +0 is never -0; what is not finite stays so in products. -/
import Derived.Test.YtabdinmodopadaaHalf2
import Derived.Test.YtabdinmodopadaaOrd
import Derived.Test.YtabdinmodopadaaNum
import Derived.Test.YtabdinmodopadaaKp
namespace Go.Proofs.Ytabdinmodopadaa
open Go.RowKit
set_option linter.unusedVariables false

theorem word_back {x : Nat} (h : x < 4294967296) : Ieee.single.word (x / 2147483648 % 2 == 1) (x % 2147483648) = x := by
  rw [s_word]
  by_cases h1 : x < 2147483648
  · have e : x / 2147483648 = 0 := Nat.div_eq_of_lt h1
    rw [e]; simp; omega
  · have e : x / 2147483648 = 1 := by omega
    rw [e]; simp; omega

theorem log2_mg {R : Nat} (h : 8388608 ≤ R) : (8388608 + R % 8388608).log2 = 23 := by
  have h1 : R % 8388608 < 8388608 := Nat.mod_lt _ (by decide)
  have hz : 8388608 + R % 8388608 ≠ 0 := by omega
  have a := (Nat.le_log2 hz (k := 23)).2 (by omega)
  have b := (Nat.log2_lt hz (k := 24)).2 (by omega)
  omega

/-- a word is the nearest one of its own number -/
theorem near_self {x : Nat} (h : x < 4294967296) (hr : x % 2147483648 < 2139095040) (h0 : x % 2147483648 ≠ 0) :
    Ieee.single.nearest (x / 2147483648 % 2 == 1) (mg Ieee.single (x % 2147483648)) (-149 + (ex Ieee.single (x % 2147483648) : Nat)) = x := by
  have hx := word_back h
  generalize (x / 2147483648 % 2 == 1) = s at *
  generalize x % 2147483648 = R at *
  rw [← hx]
  unfold Ieee.Format.nearest mg ex
  rw [s_bin, s_inf, s_lp]
  by_cases h1 : R < 8388608
  · have hl : R.log2 < 23 := (Nat.log2_lt h0).2 (by omega)
    rw [if_pos h1, if_neg h0, Nat.div_eq_of_lt h1]
    have e1 : max ((-149 : Int) + ((0 - 1 : Nat) : Int) + (R.log2 : Int) - (Ieee.single.fractionBits : Int)) (-149) = -149 := by
      have : Ieee.single.fractionBits = 23 := rfl
      rw [this]; simp; omega
    simp only [e1]
    simp [cut_zero]
    congr 1
    omega
  · have hl := log2_mg (R := R) (by omega)
    rw [if_neg h1]
    have hz : 8388608 + R % 8388608 ≠ 0 := by omega
    rw [if_neg hz, hl]
    have q : 1 ≤ R / 8388608 := by omega
    have e1 : max ((-149 : Int) + ((R / 8388608 - 1 : Nat) : Int) + ((23 : Nat) : Int) - (Ieee.single.fractionBits : Int)) (-149) = -149 + ((R / 8388608 - 1 : Nat) : Int) := by
      have : Ieee.single.fractionBits = 23 := rfl
      rw [this]; omega
    simp only [e1]
    have e2 : ((-149 : Int) + ((R / 8388608 - 1 : Nat) : Int) - (-149 + ((R / 8388608 - 1 : Nat) : Int))).toNat = 0 := by omega
    have e3 : ((-149 : Int) + ((R / 8388608 - 1 : Nat) : Int) - -149).toNat = R / 8388608 - 1 := by omega
    rw [e2, e3, Nat.shiftLeft_zero, cut_zero]
    congr 1
    omega

theorem read_zero : Ieee.single.read 0 = .number false 0 (-149) := by decide +kernel
theorem f32_add (x y : Nat) : floatBits .add .f32 x y = ((Ieee.single.read x).sum (Ieee.single.read y)).map Ieee.single.write := rfl

theorem add_zero {x : Nat} (h : x < 4294967296) (hz : x ≠ 2147483648) (hn : nn .f32 x = false) : fop .add .f32 x 0 = x := by
  have hnn : notNan Ieee.single x := (nn_iff .f32 x).1 hn
  unfold notNan at hnn
  rw [s_sw, s_inf] at hnn
  unfold fop
  rw [f32_add, read_zero]
  by_cases hi : x % 2147483648 = 2139095040
  · rw [read_inf Ieee.single x (by rw [s_sw, s_inf]; exact hi) (by decide), s_sw]
    show Ieee.single.word (x / 2147483648 % 2 == 1) Ieee.single.infRung = x
    rw [s_inf, ← hi]
    exact word_back h
  · have hr : x % 2147483648 < 2139095040 := by omega
    rw [read_fin Ieee.single x (by rw [s_sw, s_inf]; exact hr), s_sw, s_lp]
    by_cases h0 : x % 2147483648 = 0
    · have : x = 0 := by omega
      subst this
      decide +kernel
    · have hs := near_self h hr h0
      have hm : mg Ieee.single (x % 2147483648) ≠ 0 := by
        unfold mg; rw [s_bin]; split <;> omega
      generalize mg Ieee.single (x % 2147483648) = m at *
      generalize ex Ieee.single (x % 2147483648) = k at *
      have e0 : min ((-149 : Int) + (k : Int)) (-149) = -149 := by omega
      have e1 : ((-149 : Int) + (k : Int) - -149).toNat = k := by omega
      have e2 : m <<< k ≠ 0 := by rw [Nat.shiftLeft_eq]; exact Nat.mul_ne_zero hm (by have := Nat.two_pow_pos k; omega)
      have e3 : Ieee.single.nearest (x / 2147483648 % 2 == 1) (m <<< k) (-149) = x := by
        rw [Nat.shiftLeft_eq, show (-149 : Int) = (-149 + (k : Int)) - (k : Int) by omega, nearest_scale _ _ _ _ _ hm]
        exact hs
      generalize (x / 2147483648 % 2 == 1) = s at *
      show (Option.map Ieee.single.write (some (Ieee.Datum.number (if Ieee.signed s m (((-149 : Int) + (k : Int)) - min ((-149 : Int) + (k : Int)) (-149)).toNat + Ieee.signed false 0 ((-149 : Int) - min ((-149 : Int) + (k : Int)) (-149)).toNat = 0 then s && false else decide (Ieee.signed s m (((-149 : Int) + (k : Int)) - min ((-149 : Int) + (k : Int)) (-149)).toNat + Ieee.signed false 0 ((-149 : Int) - min ((-149 : Int) + (k : Int)) (-149)).toNat < 0)) (Ieee.signed s m (((-149 : Int) + (k : Int)) - min ((-149 : Int) + (k : Int)) (-149)).toNat + Ieee.signed false 0 ((-149 : Int) - min ((-149 : Int) + (k : Int)) (-149)).toNat).natAbs (min ((-149 : Int) + (k : Int)) (-149))))).getD (qn .f32) = x
      rw [e0, e1]
      have e4 : Ieee.signed false 0 ((-149 : Int) - -149).toNat = 0 := by decide
      rw [e4, Int.add_zero]
      unfold Ieee.signed
      generalize m <<< k = M at *
      cases s
      · simp only [Bool.false_eq_true, if_false]
        have e5 : ¬ ((M : Nat) : Int) = 0 := by omega
        have e6 : decide (((M : Nat) : Int) < 0) = false := by simp
        rw [if_neg e5, e6, Int.natAbs_natCast]
        exact e3
      · simp only [if_true]
        have e5 : ¬ -((M : Nat) : Int) = 0 := by omega
        have e6 : decide (-((M : Nat) : Int) < 0) = true := by simp; omega
        rw [if_neg e5, e6, Int.natAbs_neg, Int.natAbs_natCast]
        exact e3

/-- a number in its form, and not -0 -/
structure Cz (x : Nat) : Prop where
  lt : x < 4294967296
  nz : x ≠ 2147483648
  cn : Go.Proofs.Ytabdinmodopadaa.cn .f32 x = x
theorem Cz.zero : Cz 0 := ⟨by decide, by decide, by decide +kernel⟩
theorem Cz.add0 {x : Nat} (h : Cz x) : fop .add .f32 x 0 = x := by
  cases hn : nn .f32 x
  · exact add_zero h.lt h.nz hn
  · have e := cn_of_nan hn
    rw [h.cn] at e
    unfold fop
    rw [floatBits_nan_left hn]
    exact e.symm

theorem near_pos32 (s : Bool) {m : Nat} {e : Int} (hz : m ≠ 0) (h0 : -149 ≤ e) : ∃ k, Ieee.single.nearest s m e = Ieee.single.word s k ∧ 0 < k ∧ k ≤ 2139095040 := by
  unfold Ieee.Format.nearest
  rw [if_neg hz, s_bin, s_inf, s_lp]
  refine ⟨_, rfl, ?_, Nat.min_le_right _ _⟩
  have hf : Ieee.single.fractionBits = 23 := rfl
  rw [hf]
  refine Nat.lt_min.2 ⟨?_, by decide⟩
  by_cases hl : (-149 : Int) < e + (m.log2 : Int) - ((23 : Nat) : Int)
  · rw [Int.max_eq_left (by omega)]
    have : 1 ≤ (e + (m.log2 : Int) - ((23 : Nat) : Int) - -149).toNat := by omega
    omega
  · rw [Int.max_eq_right (by omega)]
    have e1 : ((-149 : Int) - e).toNat = 0 := by omega
    rw [e1, cut_zero, Nat.shiftLeft_eq]
    have : 0 < m * 2 ^ (e - -149).toNat := Nat.mul_pos (by omega) (Nat.two_pow_pos _)
    omega
theorem word_nz (s : Bool) {k : Nat} (h : 0 < k) (h' : k ≤ 2139095040) : Ieee.single.word s k ≠ 2147483648 := by
  rw [s_word]
  cases s <;> simp <;> omega
theorem read_place {x : Nat} {s : Bool} {m : Nat} {e : Int} (h : Ieee.single.read x = .number s m e) : -149 ≤ e := by
  unfold Ieee.Format.read at h
  rw [s_bin, s_inf, s_sw, s_lp] at h
  dsimp only at h
  split at h
  · cases h; decide
  · split at h
    · cases h; omega
    · split at h <;> cases h
/-- only -0 reads as a negative zero -/
theorem read_neg0 {x : Nat} {e : Int} (hx : x < 4294967296) (h : Ieee.single.read x = .number true 0 e) : x = 2147483648 := by
  unfold Ieee.Format.read at h
  rw [s_bin, s_inf, s_sw, s_lp] at h
  dsimp only at h
  split at h
  · simp only [Ieee.Datum.number.injEq] at h
    obtain ⟨h1, h2, _⟩ := h
    have : x / 2147483648 % 2 = 1 := by simpa using h1
    omega
  · split at h
    · simp only [Ieee.Datum.number.injEq] at h
      omega
    · split at h <;> cases h

theorem add_nz {x y r : Nat} (hx : x < 4294967296) (hz : x ≠ 2147483648) (h : floatBits .add .f32 x y = some r) : r ≠ 2147483648 := by
  rw [f32_add] at h
  cases ex : Ieee.single.read x with
  | nan s t => rw [ex] at h; cases h
  | infinity s =>
    rw [ex] at h
    cases ey : Ieee.single.read y with
    | nan s t => rw [ey] at h; cases h
    | infinity t =>
      rw [ey] at h
      cases s <;> cases t <;> simp [Ieee.Datum.sum] at h <;> (subst h; decide +kernel)
    | number t m e =>
      rw [ey] at h
      simp [Ieee.Datum.sum] at h
      subst h
      cases s <;> decide +kernel
  | number s m e =>
    rw [ex] at h
    cases ey : Ieee.single.read y with
    | nan s t => rw [ey] at h; cases h
    | infinity t =>
      rw [ey] at h
      simp [Ieee.Datum.sum] at h
      subst h
      cases t <;> decide +kernel
    | number t n j =>
      rw [ey] at h
      have p1 := read_place ex
      have p2 := read_place ey
      have pm : -149 ≤ min e j := by omega
      have hs : ¬ (s = true ∧ m = 0) := by rintro ⟨rfl, rfl⟩; exact hz (read_neg0 hx ex)
      simp only [Ieee.Datum.sum, Option.map_some, Option.some.injEq] at h
      subst h
      by_cases h0 : Ieee.signed s m (e - min e j).toNat + Ieee.signed t n (j - min e j).toNat = 0
      · rw [if_pos h0, h0]
        have e1 : (s && t) = false := by
          cases s
          · rfl
          · cases t
            · rfl
            · exfalso
              unfold Ieee.signed at h0
              simp only [if_true] at h0
              have : m <<< (e - min e j).toNat = 0 := by
                generalize m <<< (e - min e j).toNat = A at h0 ⊢
                generalize n <<< (j - min e j).toNat = B at h0
                omega
              rw [Nat.shiftLeft_eq] at this
              have := Nat.two_pow_pos (e - min e j).toNat
              rcases Nat.mul_eq_zero.1 ‹m * 2 ^ (e - min e j).toNat = 0› with h | h
              · exact hs ⟨rfl, h⟩
              · omega
        rw [e1]
        show Ieee.single.nearest false 0 _ ≠ _
        unfold Ieee.Format.nearest
        rw [if_pos rfl]
        decide
      · rw [if_neg h0]
        obtain ⟨k, hk, k0, k1⟩ := near_pos32 (decide (Ieee.signed s m (e - min e j).toNat + Ieee.signed t n (j - min e j).toNat < 0)) (m := (Ieee.signed s m (e - min e j).toNat + Ieee.signed t n (j - min e j).toNat).natAbs) (e := min e j) (by omega) pm
        show Ieee.single.nearest _ _ _ ≠ _
        rw [hk]
        exact word_nz _ k0 k1

theorem Cz.add {x : Nat} (h : Cz x) (y : Nat) : Cz (fop .add .f32 x y) := by
  unfold fop
  cases e : floatBits .add .f32 x y with
  | none => exact ⟨by decide, by decide, by decide +kernel⟩
  | some r =>
    refine ⟨?_, add_nz h.lt h.nz e, cn_of_num (floatBits_num e)⟩
    rw [f32_add] at e
    exact Ieee.Format.map_write_lt Ieee.single e

theorem mul_fin {i k : Nat} (h : fin .f32 (fop .mul .f32 i k) = true) : fin .f32 i = true := by
  cases hi : fin .f32 i
  · exfalso
    cases hn : nn .f32 i
    · obtain ⟨s, hs⟩ := inf_of hi hn
      have e1 : Ieee.single.read i = .infinity s := hs
      have e : ∀ x y, floatBits .mul .f32 x y = ((Ieee.single.read x).product (Ieee.single.read y)).map Ieee.single.write := fun _ _ => rfl
      unfold fop at h
      rw [e i k, e1] at h
      cases hk : Ieee.single.read k with
      | number t m q =>
        rw [hk] at h
        by_cases hm : m = 0
        · simp [Ieee.Datum.product, hm] at h; revert h; decide +kernel
        · simp [Ieee.Datum.product, hm] at h; revert h; cases s <;> cases t <;> decide +kernel
      | infinity t => rw [hk] at h; revert h; cases s <;> cases t <;> decide +kernel
      | nan t p => rw [hk] at h; revert h; simp [Ieee.Datum.product]; decide +kernel
    · unfold fop at h
      rw [floatBits_nan_left hn] at h
      revert h
      decide +kernel
  · rfl
/-- where a sum is finite, both of its numbers are -/
theorem add_fin2 {i k : Nat} (h : fin .f32 (fop .add .f32 i k) = true) : fin .f32 i = true ∧ fin .f32 k = true := by
  have key : ∀ i k, fin .f32 i = false → fin .f32 (fop .add .f32 i k) = false ∧ fin .f32 (fop .add .f32 k i) = false := by
    intro i k hi
    cases hn : nn .f32 i
    · obtain ⟨s, hs⟩ := inf_of hi hn
      have e1 : FloatKind.f32.format.read i = .infinity s := hs
      have e : ∀ x y, floatBits .add .f32 x y = ((FloatKind.f32.format.read x).sum (FloatKind.f32.format.read y)).map FloatKind.f32.format.write := fun _ _ => rfl
      unfold fop
      rw [e i k, e k i, e1]
      cases hk : FloatKind.f32.format.read k with
      | number t m q => exact ⟨by simp [Ieee.Datum.sum]; cases s <;> decide +kernel, by simp [Ieee.Datum.sum]; cases s <;> decide +kernel⟩
      | infinity t => cases s <;> cases t <;> exact ⟨by decide +kernel, by decide +kernel⟩
      | nan t p => exact ⟨by simp [Ieee.Datum.sum]; decide +kernel, by simp [Ieee.Datum.sum]; decide +kernel⟩
    · unfold fop
      rw [floatBits_nan_left hn, floatBits_nan_right hn]
      exact ⟨by decide +kernel, by decide +kernel⟩
  constructor
  · cases hi : fin .f32 i
    · rw [(key i k hi).1] at h; cases h
    · rfl
  · cases hk : fin .f32 k
    · rw [(key k i hk).2] at h; cases h
    · rfl
end Go.Proofs.Ytabdinmodopadaa
