/- The error function's sum, as numbers: its terms and their bounds. -/
import Derived.Test.YtabdinmodopadabPur
namespace Go.Proofs.Ytabdinmodopadab

/-- the term behind j others -/
def tE (x : Nat) : Nat → Nat
  | 0 => x
  | j + 1 => fop .quo .f64 (fop .mul .f64 (fop .mul .f64 (tE x j) (fneg .f64 (fop .mul .f64 x x))) (fi (2 * ((j : Int) + 1) - 1))) (fi (((j : Int) + 1) * (2 * ((j : Int) + 1) + 1)))
/-- the sum of j terms -/
def uE (x : Nat) : Nat → Nat
  | 0 => 0
  | j + 1 => fop .add .f64 (uE x j) (tE x j)
def ge4 (x : Nat) : Bool := FloatKind.f64.format.order x 4616189618054758400 == some .gt || FloatKind.f64.format.order x 4616189618054758400 == some .eq
def le4 (x : Nat) : Bool := FloatKind.f64.format.order x 13839561654909534208 == some .lt || FloatKind.f64.format.order x 13839561654909534208 == some .eq
/-- the error function -/
def errF (x : Nat) : Nat := if ge4 x then 4607182418800017408 else if le4 x then 13830554455654793216 else fop .mul .f64 4607760587169110893 (uE x 60)

def lowB (L : Int) (y : Nat) : Bool := match Ieee.double.read y with
  | .number false n e => n != 0 && decide (L ≤ (n.log2 : Int) + e)
  | _ => false
theorem low_of {L : Int} {y : Nat} (h : lowB L y = true) : ∃ n j, Ieee.double.read y = .number false n j ∧ n ≠ 0 ∧ L ≤ (n.log2 : Int) + j := by
  unfold lowB at h
  split at h
  · rename_i n e hr
    simp at h
    exact ⟨n, e, hr, h.1, h.2⟩
  · cases h

def aK (j : Nat) : Int := if j = 0 then 0 else ((2 * j).log2 : Int) + 1
def bK (j : Nat) : Int := (((j + 1) * (2 * (j + 1) + 1)).log2 : Int)
def Tb (j : Nat) : Int := 2 + 3 * (min j 15 : Nat) + (min (j - 15) 7 : Nat)
theorem steps : ∀ j, j < 60 → (leB (aK j) (fi (2 * ((j : Int) + 1) - 1)) && lowB (bK j) (fi (((j : Int) + 1) * (2 * ((j : Int) + 1) + 1))) && decide (4 + aK j - bK j ≤ Tb (j + 1) - Tb j) && decide (0 ≤ aK j) && decide (aK j ≤ 10) && decide (0 ≤ bK j) && decide (bK j ≤ 20)) = true := by decide +kernel
theorem Tb_bd (j : Nat) : 2 ≤ Tb j ∧ Tb j ≤ 54 := by unfold Tb; omega

theorem tE_Bl {x : Nat} (hx : Bl 2 x) : ∀ j : Nat, j ≤ 60 → Bl (Tb j) (tE x j)
  | 0, _ => hx.mono (by unfold Tb; omega)
  | j + 1, h => by
    have hs := steps j (by omega)
    simp only [Bool.and_eq_true, decide_eq_true_eq] at hs
    obtain ⟨⟨⟨⟨⟨⟨s1, s2⟩, s3⟩, s4⟩, s5⟩, s6⟩, s7⟩ := hs
    obtain ⟨n, e, hr, hn, hl⟩ := low_of s2
    have hb := Tb_bd j
    have ih := tE_Bl hx j (by omega)
    have h2 := fneg_Bl (mul_Bl hx hx (by omega) (by omega))
    have h3 := mul_Bl ih h2 (by omega) (by omega)
    have h4 := mul_Bl h3 (Bl_of_B s1) (by omega) (by omega)
    have h5 := quo_Bl' h4 hr hn hl (by omega) (by omega)
    rw [tE]
    exact h5.mono (by omega)

theorem uE_Bl {x : Nat} (hx : Bl 2 x) : ∀ j : Nat, j ≤ 60 → Bl (54 + (j : Int)) (uE x j)
  | 0, _ => (Bl_of_B (show leB 1 0 = true by decide +kernel)).mono (by omega)
  | j + 1, h => by
    have ih := uE_Bl hx j (by omega)
    have ht := (tE_Bl hx j (by omega)).mono (show Tb j ≤ 54 + (j : Int) by have := Tb_bd j; omega)
    have := add_Bl ih ht (by omega) (by omega)
    rw [uE]
    exact this.mono (by omega)

theorem key64_neg (k : Nat) (hk : k < 9223372036854775808) : key FloatKind.f64.format (9223372036854775808 + k) = -(k : Int) := by
  unfold key
  rw [double_sw, Nat.add_mod_left, Nat.mod_eq_of_lt hk, show (9223372036854775808 + k) / 9223372036854775808 % 2 = 1 by omega]
  rfl

/-- between -4 and 4 -/
theorem mid_Bl {x : Nat} (hn : nn .f64 x = false) (h1 : ge4 x = false) (h2 : le4 x = false) : Bl 2 x := by
  unfold ge4 at h1
  unfold le4 at h2
  rw [ord_key, hn, show nn .f64 4616189618054758400 = false by decide +kernel] at h1
  rw [ord_key, hn, show nn .f64 13839561654909534208 = false by decide +kernel] at h2
  simp only [Bool.or_self, Bool.false_eq_true, if_false, cmp_gt, cmp_eq, cmp_lt, Bool.or_eq_false_iff, decide_eq_false_iff_not] at h1 h2
  rw [key64_pos 4616189618054758400 (by decide)] at h1
  rw [show (13839561654909534208 : Nat) = 9223372036854775808 + 4616189618054758400 from rfl, key64_neg _ (by decide)] at h2
  unfold key at h1 h2
  rw [double_sw] at h1 h2
  have := Bl_bits (x := x) 1024 (by decide) (by
    cases hs : (x / 9223372036854775808 % 2 == 1)
    · rw [hs] at h1
      simp only [Bool.false_eq_true, if_false] at h1
      omega
    · rw [hs] at h2
      simp only [if_true] at h2
      omega)
  exact this.mono (by omega)

theorem errF_Bl {x : Nat} (hn : nn .f64 x = false) : Bl 116 (errF x) := by
  unfold errF
  cases h1 : ge4 x
  · cases h2 : le4 x
    · simp only [Bool.false_eq_true, if_false]
      exact (mul_Bl (Bl_of_B (show leB 1 4607760587169110893 = true by decide +kernel)) (uE_Bl (mid_Bl hn h1 h2) 60 (by omega)) (by omega) (by omega)).mono (by omega)
    · simp only [Bool.false_eq_true, if_false, if_true]
      exact (Bl_of_B (show leB 0 13830554455654793216 = true by decide +kernel)).mono (by omega)
  · simp only [if_true]
    exact (Bl_of_B (show leB 0 4607182418800017408 = true by decide +kernel)).mono (by omega)
end Go.Proofs.Ytabdinmodopadab
