/- Whether a number lies within: the program. -/
import Derived.Test.YtabdinmodopadabSnP
namespace Go.Proofs.Ytabdinmodopadab
open Go.RowKit
set_option linter.unusedVariables false

theorem implWithin_any (x a b : Nat) (w : World) : Calls Try.prog 87 #[.float .f32 x, .float .f32 a, .float .f32 b] w (BolS (wth x a b) w) := by
  unfold wth
  cases B0 : geN x a
  · skip
    have o0 : (FloatKind.f32.format.order x a == some .gt || FloatKind.f32.format.order x a == some .eq) = false := B0
    have H0 := Lib.hid B0
    clear B0
    go_enter Try.func87, Try.ntmps87
    go_wp2
    go_ret
    exact ⟨ret_bb (by simp), rfl⟩
  · skip
    have o0 : (FloatKind.f32.format.order x a == some .gt || FloatKind.f32.format.order x a == some .eq) = true := B0
    have H0 := Lib.hid B0
    clear B0
    go_enter Try.func87, Try.ntmps87
    go_wp2
    go_ret
    exact ⟨ret_bb (by rw [Bool.true_and]; rfl), rfl⟩
end Go.Proofs.Ytabdinmodopadab
