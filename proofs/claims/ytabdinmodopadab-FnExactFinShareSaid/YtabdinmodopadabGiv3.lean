/- A number that is handed back where something is valid. -/
import Derived.Test.YtabdinmodopadabGiv2
namespace Go.Proofs.Ytabdinmodopadab
open Go.RowKit
def cS (b : Bool) (V : Nat) : Nat := bif b then ifF V else 0
def cB (b : Bool) (V : Nat) : Bool := b && fin .f32 V
theorem cGiv_no {b : Bool} {V : Nat} {w w' : World} (h : b = false) (hb : Below w.heap.size w w') : GivB (cS b V) (cB b V) w (.returned (.tuple #[.float .f32 0, .bool false])) w' := by
  unfold cS cB; rw [h, cond_false, Bool.false_and]; exact GivB.no hb
theorem cGiv_yes {b : Bool} {V x : Nat} {w w' : World} (h : b = true) (hx : cn .f32 x = V) (hb : Below w.heap.size w w') : GivB (cS b V) (cB b V) w (.returned (.tuple #[.float .f32 (ifF x), .bool (fin .f32 x)])) w' := by
  unfold cS cB; rw [h, cond_true, Bool.true_and]; exact GivB.num hx hb
end Go.Proofs.Ytabdinmodopadab
