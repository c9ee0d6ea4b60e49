/- Words for functions of 64-bit numbers. -/
import Derived.Test.YtabdinmodopadabErrS
import Derived.Test.YtabdinmodopadabSame
import Derived.Test.YtabdinmodopadabNeg
import Derived.Lib.Hide
namespace Go.Proofs.Ytabdinmodopadab
open Go Go.RowKit
set_option linter.unusedVariables false

def Flw (P : Nat → Prop) (w : World) (e : Ending) (w' : World) : Prop := ∃ r n, P r ∧ e = .returned (.float .f64 r) ∧ w' = w.drewN n

theorem ord_cases (x c : Nat) : FloatKind.f64.format.order x c = none ∨ FloatKind.f64.format.order x c = some .lt ∨ FloatKind.f64.format.order x c = some .eq ∨ FloatKind.f64.format.order x c = some .gt := by
  cases FloatKind.f64.format.order x c with
  | none => exact .inl rfl
  | some o => cases o <;> simp
theorem err_step {x j tv r2 r3 r4 r5 : Nat} {a b : Int} (ht : cn .f64 tv = tE x j) (h2 : FR .mul .f64 x x r2) (h3 : FR .mul .f64 tv (Op.negFloat .f64 r2) r3) (h4 : FR .mul .f64 r3 (floatOfInt .f64 a) r4) (h5 : FR .quo .f64 r4 (floatOfInt .f64 b) r5)
    (ha : a = 2 * ((j : Int) + 1) - 1) (hb : b = ((j : Int) + 1) * (2 * ((j : Int) + 1) + 1)) : cn .f64 r5 = tE x (j + 1) := by
  subst ha hb
  have hn := cn_neg h2.1
  rw [h5.1, h4.1, h3.1, ht, hn, tE]
  simp only [fop_cnl, fop_cnr]
  rfl
theorem err_sum {x j sv tv r1 : Nat} (hs : cn .f64 sv = uE x j) (ht : cn .f64 tv = tE x j) (h1 : FR .add .f64 sv tv r1) : cn .f64 r1 = uE x (j + 1) := by
  rw [h1.1, hs, ht, uE]
theorem err_end {x sv r : Nat} (h1 : ge4 x = false) (h2 : le4 x = false) (hs : cn .f64 sv = uE x 60) (h : FR .mul .f64 4607760587169110893 sv r) : cn .f64 r = errF x := by
  unfold errF
  rw [h1, h2, h.1, hs]
  simp only [fop_cnl, Bool.false_eq_true, if_false]
theorem err_one {x : Nat} (h1 : ge4 x = true) : cn .f64 4607182418800017408 = errF x := by
  unfold errF; rw [h1, if_pos rfl]; decide +kernel
theorem err_mone {x : Nat} (h1 : ge4 x = false) (h2 : le4 x = true) : cn .f64 13830554455654793216 = errF x := by
  unfold errF; rw [h1, h2, if_neg (by decide), if_pos rfl]; decide +kernel
theorem cn64_zero : cn .f64 0 = 0 := by decide +kernel
theorem wrap_small {x : Int} (h : 0 ≤ x ∧ x ≤ 60 * 121) : wrap64 x = x := by unfold wrap64; omega
theorem prod_bd (j : Nat) (h : j < 60) : 0 ≤ ((j : Int) + 1) * (2 * ((j : Int) + 1) + 1) ∧ ((j : Int) + 1) * (2 * ((j : Int) + 1) + 1) ≤ 60 * 121 :=
  ⟨Int.mul_nonneg (by omega) (by omega), Int.mul_le_mul (by omega) (by omega) (by omega) (by omega)⟩
end Go.Proofs.Ytabdinmodopadab
