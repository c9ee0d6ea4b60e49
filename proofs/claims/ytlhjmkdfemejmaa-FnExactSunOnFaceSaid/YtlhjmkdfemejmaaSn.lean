/- Shares, as the specification tells them. -/
import Derived.Test.YtlhjmkdfemejmaaSnA
import Derived.Test.YtlhjmkdfemejmaaRoot
namespace Go.Proofs.Ytlhjmkdfemejmaa
open Go.RowKit
set_option linter.unusedVariables false

theorem specShare_any (x : Nat) (w : World) : Calls Try.prog 69 #[.float .f32 x] w (BolS (shr x) w) := by
  unfold shr
  cases B0 : geN x 0
  · skip
    have o0 : (FloatKind.f32.format.order x 0 == some .gt || FloatKind.f32.format.order x 0 == some .eq) = false := B0
    have H0 := Lib.hid B0
    clear B0
    go_enter Try.func69, Try.ntmps69
    go_wp2
    go_ret
    exact ⟨ret_bb (by simp), rfl⟩
  · skip
    have o0 : (FloatKind.f32.format.order x 0 == some .gt || FloatKind.f32.format.order x 0 == some .eq) = true := B0
    have H0 := Lib.hid B0
    clear B0
    go_enter Try.func69, Try.ntmps69
    go_wp2
    go_ret
    exact ⟨ret_bb (by rw [Bool.true_and]; rfl), rfl⟩
end Go.Proofs.Ytlhjmkdfemejmaa
