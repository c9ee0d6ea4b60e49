/- What is nearest, of either sign. -/
import Derived.Test.YtabdinmodopadabKp
namespace Go.Proofs.Ytabdinmodopadab
open Go.RowKit
set_option linter.unusedVariables false

theorem near_any (m : Nat) (e : Int) : ∃ k, k ≤ 2139095040 ∧ (m = 0 → k = 0) ∧ ∀ s, Ieee.single.nearest s m e = Ieee.single.word s k := by
  by_cases h : m = 0
  · exact ⟨0, by omega, fun _ => rfl, fun s => by unfold Ieee.Format.nearest; rw [if_pos h]⟩
  · refine ⟨_, Nat.min_le_right ((max (e + m.log2 - Ieee.single.fractionBits) Ieee.single.leastPlace - Ieee.single.leastPlace).toNat * Ieee.single.binade + Ieee.Toward.even.cut false (m <<< (e - max (e + m.log2 - Ieee.single.fractionBits) Ieee.single.leastPlace).toNat) (max (e + m.log2 - Ieee.single.fractionBits) Ieee.single.leastPlace - e).toNat) 2139095040, fun h' => absurd h' h, fun s => ?_⟩
    unfold Ieee.Format.nearest
    rw [if_neg h, ← s_inf]
    cases s <;> rfl

end Go.Proofs.Ytabdinmodopadab
