/- Numbers in decimal, digit by digit from the right. No program stands in this text. -/
import Derived.Lib.ItoaNum
namespace Go.Proofs.YtncjkhdnpioinaaDoor
open Go

/-- a byte as an integer -/
def nu (l : List UInt8) : List Int := l.map fun b => (b.toNat : Int)
/-- the digits that are still to come -/
def dpre (u : Nat) : List Int := if u = 0 then [] else nu (Lib.decDigits u)
def ddig (u : Nat) : List Int := nu (Lib.decDigits u)
theorem nu_app (a b : List UInt8) : nu (a ++ b) = nu a ++ nu b := by unfold nu; simp
theorem dig_one (d : Nat) (h : d < 10) : nu [UInt8.ofNat (48 + d)] = [48 + (d : Int)] := by
  unfold nu
  simp only [List.map_cons, List.map_nil, List.cons.injEq, and_true]
  rw [UInt8.toNat_ofNat']
  omega
theorem ddig_step (u : Nat) : ddig u = dpre (u / 10) ++ [48 + (u : Int) % 10] := by
  unfold ddig dpre
  rw [Lib.decDigits]
  by_cases h : u < 10
  · rw [dif_pos h, dig_one u h, if_pos (by omega)]
    simp only [List.nil_append, List.cons.injEq, and_true]
    omega
  · rw [dif_neg h, nu_app, dig_one (u % 10) (by omega), if_neg (by omega)]
    simp
theorem dpre_step (u : Nat) (h : u ≠ 0) : dpre u = dpre (u / 10) ++ [48 + (u : Int) % 10] := by
  rw [← ddig_step]; unfold dpre ddig; rw [if_neg h]
theorem ddig_len : ∀ (k u : Nat), u < 10 ^ (k + 1) → (ddig u).length ≤ k + 1
  | 0, u, h => by
    rw [ddig_step]; unfold dpre; rw [if_pos (by omega)]; simp
  | k + 1, u, h => by
    rw [ddig_step]
    have : (dpre (u / 10)).length ≤ k + 1 := by
      unfold dpre
      split
      · simp
      · exact ddig_len k (u / 10) (by rw [Nat.pow_succ] at h; omega)
    simp; omega
/-- a number in decimal, as bytes -/
def decN (n : Int) : List Int := if n < 0 then 45 :: ddig n.natAbs else ddig n.natAbs
theorem decN_itoa (n : Int) : decN n = nu (Lib.itoa n) := by
  unfold decN Lib.itoa ddig
  split
  · rfl
  · rw [show n.natAbs = n.toNat by omega]
theorem ddig_ne (u : Nat) : ddig u ≠ [] := by rw [ddig_step]; simp
end Go.Proofs.YtncjkhdnpioinaaDoor
