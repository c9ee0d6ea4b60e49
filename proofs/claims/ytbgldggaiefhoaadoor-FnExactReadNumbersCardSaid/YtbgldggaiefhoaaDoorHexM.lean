/- Eight hexadecimal digits. No program stands in this text. -/
import Derived.Lib.Repeat
namespace Go.Proofs.YtbgldggaiefhoaaDoor
open Go

/-- a digit's byte -/
def hd (d : Nat) : Int := if d < 10 then 48 + (d : Int) else 87 + (d : Int)
theorem hd_lo (d : Nat) : 0 ≤ hd d := by unfold hd; split <;> omega
theorem hd_hi (d : Nat) (h : d < 16) : hd d < 256 := by unfold hd; split <;> omega
/-- the digit of 16^e -/
def hx (u e : Nat) : Int := hd (u / 16 ^ e % 16)
theorem hx_zero {u k e : Nat} (h : u < 16 ^ (k + 1)) (he : k < e) : hx u e = 48 := by
  have : u < 16 ^ e := Nat.lt_of_lt_of_le h (Nat.pow_le_pow_right (by decide) he)
  unfold hx
  rw [Nat.div_eq_of_lt this]
  rfl
/-- the last digits, from that of 16^k on -/
def hexK (u : Nat) : Nat → List Int
  | 0 => [hx u 0]
  | k + 1 => hx u (k + 1) :: hexK u k
def hexL (u : Nat) : List Int := hexK u 7
theorem hexK_len (u : Nat) : ∀ k, (hexK u k).length = k + 1
  | 0 => rfl
  | k + 1 => by unfold hexK; rw [List.length_cons, hexK_len u k]
theorem hexK_at (u : Nat) : ∀ (k i : Nat), i ≤ k → (hexK u k)[i]? = some (hx u (k - i))
  | 0, 0, _ => rfl
  | k + 1, 0, _ => rfl
  | k + 1, i + 1, h => by
    unfold hexK
    rw [List.getElem?_cons_succ, hexK_at u k i (by omega), show k + 1 - (i + 1) = k - i from by omega]
theorem hexK_pad {u k : Nat} (h : u < 16 ^ (k + 1)) : ∀ n, hexK u (k + n) = List.replicate n 48 ++ hexK u k
  | 0 => rfl
  | n + 1 => by
    show hx u (k + n + 1) :: hexK u (k + n) = _
    rw [hexK_pad h n, hx_zero h (by omega), List.replicate_succ]
    rfl
theorem hexL_pad {u k : Nat} (hk : k ≤ 7) (h : u < 16 ^ (k + 1)) : hexL u = List.replicate (8 - (k + 1)) 48 ++ hexK u k := by
  unfold hexL
  rw [show 7 = k + (7 - k) from by omega, hexK_pad h, show 8 - (k + 1) = 7 - k from by omega]
theorem hexL_take (u m : Nat) (hm : m < 8) : (hexL u).take (m + 1) = (hexL u).take m ++ [hx u (7 - m)] := by
  rw [List.take_add_one, hexL, hexK_at u 7 m (by omega)]
  rfl
theorem hexL_len (u : Nat) : (hexL u).length = 8 := hexK_len u 7
end Go.Proofs.YtbgldggaiefhoaaDoor
