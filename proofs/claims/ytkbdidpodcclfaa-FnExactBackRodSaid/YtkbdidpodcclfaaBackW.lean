/- BackRod: the law's walk. -/
import Derived.Test.YtkbdidpodcclfaaLwBack
import Derived.Test.YtkbdidpodcclfaaBackI
namespace Go.Proofs.Ytkbdidpodcclfaa
open Go.RowKit
set_option linter.unusedVariables false

theorem back_small (r : RL) : (bif vRod r then backRL r else nilRL).size ≤ 300 := by
  cases h : vRod r with
  | false => exact Nat.zero_le _
  | true =>
    have := (vRod_size h).1
    show (backRL r).size ≤ 300
    rw [backRL_size]
    omega
theorem fnExactBackRod_walk (a b c d : Value) (r : RL) (w : World) (h : RRow w a b c d r) : Calls Try.prog 5 #[.agg #[a, b, c, d]] w (Tru w) :=
  fnExactBackRod_law a b c d r (vRod r) _ (back_small r) (fun a b c d w1 h => specBack_any a b c d r w1 h) (fun a b c d w1 h => implBack_any a b c d r w1 h) w h
end Go.Proofs.Ytkbdidpodcclfaa
