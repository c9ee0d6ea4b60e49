/- Journals: the specification. -/
import Derived.Test.YtncjkhdnpioinaaDoorJoI
import Derived.Test.YtncjkhdnpioinaaDoorDec
import Derived.Test.YtncjkhdnpioinaaDoorCutW
import Derived.Test.YtncjkhdnpioinaaDoorFacts2
namespace Go.Proofs.YtncjkhdnpioinaaDoor
open Go.RowKit
set_option linter.unusedVariables false

/-- the least that a journal's first lines take -/
def tot (zs : List ByteArray) : Nat → Nat
  | 0 => 0
  | k + 1 => tot zs k + ((zAt zs k).size + 3)
theorem itoa_pos (k : Int) : 1 ≤ (Lib.itoa k).length := by
  unfold Lib.itoa
  split
  · simp
  · rw [Lib.decDigits_length]; exact Lib.nDigits_pos _
theorem decZ_pos {k : Int} (h0 : 0 ≤ k) (h1 : k < 65003) : 1 ≤ (decZ k).size := by
  have e : (decZ k).size = (Lib.itoa k).length := by
    rw [decZ_itoa]; show (Lib.itoa k).toArray.size = _; rw [List.size_toArray]
  rw [e]
  exact (itoa_pos k)
theorem ent_size {c : Int} (h0 : 0 ≤ c) (h1 : c < 65003) (z : ByteArray) : z.size + 3 ≤ (entZ c z).size ∧ (entZ c z).size ≤ z.size + 23 := by
  have a := decZ_pos h0 h1
  have b := decZ_sz h0 h1
  unfold entZ
  rw [ByteArray.size_append, ByteArray.size_append, ByteArray.size_append]
  have e1 : (⟨#[32]⟩ : ByteArray).size = 1 := rfl
  have e2 : (⟨#[10]⟩ : ByteArray).size = 1 := rfl
  omega
theorem tot_jrn (zs : List ByteArray) : ∀ k, tot zs k ≤ (jrn zs k).size ∧ (jrn zs k).size ≤ tot zs k + 20 * k ∧ 3 * k ≤ tot zs k
  | 0 => ⟨Nat.le_refl _, Nat.le_refl _, Nat.le_refl _⟩
  | k + 1 => by
    obtain ⟨h1, h2, h3⟩ := tot_jrn zs k
    have h4 := ent_size (cks_bd zs (k + 1)).1 (cks_bd zs (k + 1)).2 (zAt zs k)
    have e : (jrn zs (k + 1)).size = (jrn zs k).size + (entZ (cks zs (k + 1)) (zAt zs k)).size := ByteArray.size_append
    have e2 : tot zs (k + 1) = tot zs k + ((zAt zs k).size + 3) := rfl
    omega
theorem nl_yes {z : ByteArray} {j : Nat} (hj : j < z.size) (h : byteAt z j = 10) : nlIn z = true := by
  unfold nlIn
  have hg := Lib.indexByte_ge z.data.toList 10
  refine decide_eq_true ?_
  by_cases e : Lib.indexByte z.data.toList 10 = -1
  · exact absurd ((by_at hj 10).2 h) (Lib.indexByte_none e j)
  · omega
theorem nl_no {z : ByteArray} (h : ∀ j, j < z.size → byteAt z j ≠ 10) : nlIn z = false := by
  unfold nlIn
  refine decide_eq_false (fun h0 => ?_)
  obtain ⟨o, ho⟩ : ∃ o : Nat, Lib.indexByte z.data.toList 10 = o := ⟨(Lib.indexByte z.data.toList 10).toNat, by omega⟩
  have hs := (Lib.indexByte_some ho).1
  have hL : z.data.toList.length = z.size := Array.length_toList
  have hlt : o < z.size := by
    by_cases hx : o < z.data.toList.length
    · omega
    · rw [List.getElem?_eq_none (Nat.le_of_not_lt hx)] at hs; cases hs
  exact h o hlt ((by_at hlt 10).1 hs)

end Go.Proofs.YtncjkhdnpioinaaDoor
