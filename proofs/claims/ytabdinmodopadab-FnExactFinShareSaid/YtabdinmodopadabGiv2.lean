/- A number that is handed back with true. -/
import Derived.Test.YtabdinmodopadabGiv
namespace Go.Proofs.Ytabdinmodopadab
open Go.RowKit

theorem GivB.ok {x S : Nat} {w w' : World} (h : cn .f32 x = S) (hf : fin .f32 S = true) (hb : Below w.heap.size w w') : GivB S true w (.returned (.tuple #[.float .f32 (ifF x), .bool (fin .f32 x)])) w' := by
  have h1 := GivB.num h hb
  have e : ifF S = S := by unfold ifF; rw [hf]; rfl
  rw [e, hf] at h1
  exact h1
theorem GivB.yes {x S : Nat} {w w' : World} (h : cn .f32 x = S) (hb : Below w.heap.size w w') : GivB S true w (.returned (.tuple #[.float .f32 x, .bool true])) w' := ⟨x, h, rfl, hb⟩
end Go.Proofs.Ytabdinmodopadab
