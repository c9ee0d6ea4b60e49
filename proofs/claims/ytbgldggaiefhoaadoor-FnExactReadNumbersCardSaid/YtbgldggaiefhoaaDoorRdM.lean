/- Numbers read in decimal. No program stands in this text. -/
import Derived.Lib.ItoaLen
import Derived.Lib.AtoiTie
import Derived.Lib.ParseIntBTie
namespace Go.Proofs.YtbgldggaiefhoaaDoor
open Go

def vstep (n : Nat) (b : UInt8) : Nat := if 48 ≤ b.toNat ∧ b.toNat ≤ 57 then 10 * n + (b.toNat - 48) else n
/-- the number that the digits among the bytes make -/
def vof (l : List UInt8) : Nat := l.foldl vstep 0
theorem vstep_lt {n k : Nat} (b : UInt8) (h : n < 10 ^ k) : vstep n b < 10 ^ (k + 1) := by
  unfold vstep
  rw [Nat.pow_succ]
  split <;> omega
theorem vof_take_succ (l : List UInt8) (k : Nat) (b : UInt8) (h : l[k]? = some b) : vof (l.take (k + 1)) = vstep (vof (l.take k)) b := by
  unfold vof
  rw [List.take_add_one, h, List.foldl_append]; rfl
theorem vof_take_lt (l : List UInt8) : ∀ k : Nat, vof (l.take k) < 10 ^ k
  | 0 => by simp [vof]
  | k + 1 => by
    cases h : l[k]? with
    | none =>
      have := vof_take_lt l k
      have hl : l.length ≤ k := List.getElem?_eq_none_iff.1 h
      rw [List.take_of_length_le hl] at this
      rw [List.take_of_length_le (by omega), Nat.pow_succ]; omega
    | some b => rw [vof_take_succ l k b h]; exact vstep_lt b (vof_take_lt l k)
theorem dig_nat {d : Nat} (h : d < 10) : (UInt8.ofNat (48 + d)).toNat = 48 + d := by rw [UInt8.toNat_ofNat']; omega
theorem vof_digits (u : Nat) : vof (Lib.decDigits u) = u := by
  induction u using Nat.strongRecOn with
  | _ u ih =>
    by_cases h : u < 10
    · rw [Lib.decDigits, dif_pos h]
      unfold vof vstep
      simp only [List.foldl_cons, List.foldl_nil, dig_nat h]
      rw [if_pos (by omega)]; omega
    · rw [Lib.decDigits, dif_neg h]
      have e := ih (u / 10) (by omega)
      unfold vof at e ⊢
      rw [List.foldl_append, e]
      unfold vstep
      simp only [List.foldl_cons, List.foldl_nil, dig_nat (show u % 10 < 10 by omega)]
      rw [if_pos (by omega)]; omega
theorem decFrom_app (a b : List UInt8) : ∀ acc : Nat, Lib.decFrom acc (a ++ b) = (Lib.decFrom acc a).bind fun n => Lib.decFrom n b := by
  induction a with
  | nil => intro acc; rfl
  | cons c r ih =>
    intro acc
    simp only [List.cons_append, Lib.decFrom]
    cases Lib.digitVal c with
    | none => rfl
    | some d => exact ih _
theorem digitVal_dig {d : Nat} (h : d < 10) : Lib.digitVal (UInt8.ofNat (48 + d)) = some d := by
  unfold Lib.digitVal
  rw [dig_nat h, if_pos (by omega)]
  congr 1
  omega
theorem decFrom_digits (u : Nat) : Lib.decFrom 0 (Lib.decDigits u) = some u := by
  induction u using Nat.strongRecOn with
  | _ u ih =>
    by_cases h : u < 10
    · rw [Lib.decDigits, dif_pos h]
      simp only [Lib.decFrom, digitVal_dig h]
      simp
    · rw [Lib.decDigits, dif_neg h, decFrom_app, ih (u / 10) (by omega)]
      simp only [Option.bind_some, Lib.decFrom, digitVal_dig (show u % 10 < 10 by omega)]
      congr 1
      omega
theorem digits_head (u : Nat) : ∃ b r, Lib.decDigits u = b :: r ∧ 48 ≤ b.toNat ∧ b.toNat ≤ 57 := by
  induction u using Nat.strongRecOn with
  | _ u ih =>
    by_cases h : u < 10
    · rw [Lib.decDigits, dif_pos h]
      exact ⟨_, _, rfl, by rw [dig_nat h]; omega, by rw [dig_nat h]; omega⟩
    · rw [Lib.decDigits, dif_neg h]
      obtain ⟨b, r, e, h1, h2⟩ := ih (u / 10) (by omega)
      exact ⟨b, r ++ [UInt8.ofNat (48 + u % 10)], by rw [e]; rfl, h1, h2⟩
theorem decNat_digits (u : Nat) : Lib.decNat (Lib.decDigits u) = some u := by
  obtain ⟨b, r, e, _, _⟩ := digits_head u
  unfold Lib.decNat
  rw [if_neg (by rw [e]; simp), decFrom_digits]
/-- the value of what is written -/
def sval (l : List UInt8) : Int := if l.head? = some 45 then -(vof l : Int) else (vof l : Int)
theorem sval_itoa (n : Int) : sval (Lib.itoa n) = n := by
  unfold Lib.itoa
  by_cases h : n < 0
  · rw [if_pos h]
    have : vof (45 :: Lib.decDigits n.natAbs) = vof (Lib.decDigits n.natAbs) := by
      show List.foldl vstep (vstep 0 45) _ = _
      rfl
    unfold sval
    rw [this, vof_digits]
    simp only [List.head?_cons, if_true]; omega
  · rw [if_neg h]
    obtain ⟨b, r, e, h1, h2⟩ := digits_head n.toNat
    unfold sval
    rw [vof_digits, if_neg ?_]
    · omega
    · rw [e]
      simp only [List.head?_cons, Option.some.injEq]
      rintro rfl
      exact absurd h1 (by decide)
theorem atoi_itoa (n : Int) : Lib.atoi (Lib.itoa n) = some n := by
  unfold Lib.itoa
  by_cases h : n < 0
  · rw [if_pos h]
    have e : Lib.atoi (45 :: Lib.decDigits n.natAbs) = (Lib.decNat (Lib.decDigits n.natAbs)).map fun (m : Nat) => -(m : Int) := rfl
    rw [e, decNat_digits]
    simp only [Option.map_some, Option.some.injEq]
    omega
  · rw [if_neg h]
    obtain ⟨b, r, e, h1, h2⟩ := digits_head n.toNat
    have e2 := decNat_digits n.toNat
    rw [e] at e2 ⊢
    have n45 : (b == 45) = false := by
      rw [beq_eq_false_iff_ne]; rintro rfl; exact absurd h1 (by decide)
    have n43 : (b == 43) = false := by
      rw [beq_eq_false_iff_ne]; rintro rfl; exact absurd h1 (by decide)
    unfold Lib.atoi
    simp only [n45, n43, Bool.false_eq_true, if_false]
    rw [e2]
    simp only [Option.map_some, Option.some.injEq]
    omega
theorem nDigits_lt : ∀ (k u : Nat), u < 10 ^ (k + 1) → Lib.nDigits u ≤ k + 1
  | 0, u, h => by rw [Lib.nDigits_small (by omega)]; omega
  | k + 1, u, h => by
    by_cases h1 : u < 10
    · rw [Lib.nDigits_small h1]; omega
    · rw [Lib.nDigits_big h1]
      have := nDigits_lt k (u / 10) (by rw [Nat.pow_succ] at h; omega)
      omega
theorem itoa_len {n : Int} (h0 : -1000000000000000 ≤ n) (h1 : n ≤ 1000000000000000) : 1 ≤ (Lib.itoa n).length ∧ (Lib.itoa n).length ≤ 17 := by
  unfold Lib.itoa
  have hp (u : Nat) (h : u ≤ 1000000000000000) : 1 ≤ (Lib.decDigits u).length ∧ (Lib.decDigits u).length ≤ 16 := by
    rw [Lib.decDigits_length]
    exact ⟨Lib.nDigits_pos u, nDigits_lt 15 u (by omega)⟩
  split
  · have := hp n.natAbs (by omega)
    simp only [List.length_cons]; omega
  · have := hp n.toNat (by omega)
    omega
theorem parse_itoa {n : Int} (h0 : -1000000000000000 ≤ n) (h1 : n ≤ 1000000000000000) : Lib.parseIntB 64 (Lib.itoa n) = .ok n := by
  rw [Lib.parseIntB_64, Lib.atoiAll_short _ (by have := (itoa_len h0 h1).2; omega), atoi_itoa]; rfl
end Go.Proofs.YtbgldggaiefhoaaDoor
