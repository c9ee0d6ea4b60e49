/- Numbers of 32 bits as integers in order. -/
import Derived.Test.YtabdinmodopadabOrd
import Derived.Test.YtabdinmodopadabNum
namespace Go.Proofs.Ytabdinmodopadab
open Go Go.RowKit
set_option linter.unusedVariables false

theorem s_bin : Ieee.single.binade = 8388608 := by decide
theorem s_inf : Ieee.single.infRung = 2139095040 := by decide
theorem s_sw : Ieee.single.signWeight = 2147483648 := by decide
theorem s_lp : Ieee.single.leastPlace = -149 := by decide
theorem s_word (neg : Bool) (r : Nat) : Ieee.single.word neg r = if neg then 2147483648 + r else r := by unfold Ieee.Format.word; rw [s_sw]
theorem s_key (x : Nat) : key FloatKind.f32.format x = if x / 2147483648 % 2 == 1 then -((x % 2147483648 : Nat) : Int) else ((x % 2147483648 : Nat) : Int) := by
  show key Ieee.single x = _
  unfold key; rw [s_sw]
theorem ordk {x y : Nat} (hx : nn .f32 x = false) (hy : nn .f32 y = false) : FloatKind.f32.format.order x y = some (compare (key FloatKind.f32.format x) (key FloatKind.f32.format y)) := by
  rw [ord_key, hx, hy]; rfl
theorem nn_small {x : Nat} (h : x % 2147483648 ≤ 2139095040) : nn .f32 x = false := (nn_iff .f32 x).2 (by unfold notNan; show x % Ieee.single.signWeight ≤ Ieee.single.infRung; rw [s_sw, s_inf]; exact h)
theorem nn_big {x : Nat} (h : nn .f32 x = false) : x % 2147483648 ≤ 2139095040 := by
  have := (nn_iff .f32 x).1 h
  unfold notNan at this
  have e : x % Ieee.single.signWeight ≤ Ieee.single.infRung := this
  rw [s_sw, s_inf] at e
  exact e
theorem dneg {x : Nat} (h : x < 2147483648) (hi : x ≤ 2139095040) : (FloatKind.f32.decode x).neg = false := by
  have e : x % 2147483648 = x := Nat.mod_eq_of_lt h
  have e0 : x / 2147483648 = 0 := Nat.div_eq_of_lt h
  show (Ieee.single.read x).neg = false
  by_cases h1 : x < 2139095040
  · rw [read_fin Ieee.single x (by rw [s_sw, s_inf, e]; exact h1), s_sw, e0]; rfl
  · rw [read_inf Ieee.single x (by rw [s_sw, s_inf, e]; omega) (by decide), s_sw, e0]; rfl
theorem kpos {x : Nat} (h : x < 2147483648) : key FloatKind.f32.format x = (x : Int) := by
  rw [s_key, Nat.div_eq_of_lt h, Nat.mod_eq_of_lt h]; rfl
theorem kneg {x : Nat} (h : 2147483648 ≤ x) (h2 : x < 4294967296) : key FloatKind.f32.format x = -((x - 2147483648 : Nat) : Int) := by
  have e1 : x / 2147483648 = 1 := by omega
  have e2 : x % 2147483648 = x - 2147483648 := by omega
  rw [s_key, e1, e2, if_pos (by decide)]
theorem icmp_lt {a b : Int} (h : a < b) : compare a b = .lt := by simp only [compare, compareOfLessAndEq]; rw [if_pos h]
theorem icmp_gt {a b : Int} (h : b < a) : compare a b = .gt := by simp only [compare, compareOfLessAndEq]; rw [if_neg (by omega), if_neg (by omega)]
theorem icmp_eq {a b : Int} (h : a = b) : compare a b = .eq := by simp only [compare, compareOfLessAndEq]; rw [if_neg (by omega), if_pos h]
theorem neg_bits {q : Nat} (h : q < 4294967296) : Op.negFloat .f32 q = if q < 2147483648 then q + 2147483648 else q - 2147483648 := by
  have e : Op.negFloat .f32 q % 2147483648 = q % 2147483648 := by
    show (q ^^^ 2 ^ 31) % 2 ^ 31 = q % 2 ^ 31
    rw [Nat.xor_mod_two_pow, Nat.mod_self, Nat.xor_zero]
  have e2 : Op.negFloat .f32 q / 2147483648 = (q / 2147483648) ^^^ 1 := by
    show (q ^^^ 2 ^ 31) / 2 ^ 31 = (q / 2 ^ 31) ^^^ 1
    rw [Nat.xor_div_two_pow]
  have h1 := Nat.div_add_mod (Op.negFloat .f32 q) 2147483648
  have h2 := Nat.div_add_mod q 2147483648
  by_cases hq : q < 2147483648
  · have e3 : q / 2147483648 = 0 := Nat.div_eq_of_lt hq
    rw [e3] at e2
    have e4 : (0 : Nat) ^^^ 1 = 1 := rfl
    rw [e4] at e2
    rw [if_pos hq]; omega
  · have e3 : q / 2147483648 = 1 := by omega
    rw [e3] at e2
    have e4 : (1 : Nat) ^^^ 1 = 0 := rfl
    rw [e4] at e2
    rw [if_neg hq]; omega
end Go.Proofs.Ytabdinmodopadab
