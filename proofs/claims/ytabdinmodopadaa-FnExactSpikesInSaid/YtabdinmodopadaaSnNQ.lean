/- Numbers that are not negative: the program. -/
import Derived.Test.YtabdinmodopadaaSnQ
namespace Go.Proofs.Ytabdinmodopadaa
open Go.RowKit
set_option linter.unusedVariables false

theorem implNotNeg_any (x : Nat) (w : World) : Calls Try.prog 54 #[.float .f32 x] w (Bol (lst x) w) := by
  unfold lst
  cases B0 : fin .f32 x
  · skip
    have H0 := Lib.hid B0
    clear B0
    go_enter Try.func54, Try.ntmps54
    go_wp2_with fail
    refine (implFinite_any x _).mono ?_
    rw [H0.out]
    rintro e w' ⟨rfl, n, rfl⟩
    go_wp2
    go_ret
    exact ⟨ret_bb (by simp), _, rfl⟩
  · skip
    have H0 := Lib.hid B0
    clear B0
    go_enter Try.func54, Try.ntmps54
    go_wp2_with fail
    refine (implFinite_any x _).mono ?_
    rw [H0.out]
    rintro e w' ⟨rfl, n, rfl⟩
    go_wp2
    go_ret
    exact ⟨ret_bb (by rw [Bool.true_and]; rfl), _, rfl⟩
end Go.Proofs.Ytabdinmodopadaa
