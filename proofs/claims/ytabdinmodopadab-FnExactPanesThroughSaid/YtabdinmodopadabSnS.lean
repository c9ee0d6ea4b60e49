/- Whether a number is a share: the program. -/
import Derived.Test.YtabdinmodopadabSnW
namespace Go.Proofs.Ytabdinmodopadab
open Go.RowKit
set_option linter.unusedVariables false

theorem implShare_any (x : Nat) (w : World) : Calls Try.prog 78 #[.float .f32 x] w (BolS (shr x) w) := by
  go_enter Try.func78, Try.ntmps78
  go_wp2_with fail
  refine (implWithin_any x _ _ _).mono ?_
  rintro e w' ⟨rfl, rfl⟩
  go_wp2
  go_ret
  exact ⟨rfl, rfl⟩
end Go.Proofs.Ytabdinmodopadab
