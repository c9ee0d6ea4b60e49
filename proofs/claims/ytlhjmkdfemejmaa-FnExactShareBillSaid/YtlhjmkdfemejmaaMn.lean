/- The lesser of two integers. -/
import Derived.Test.YtlhjmkdfemejmaaFr
import Derived.Laws.Small
namespace Go.Proofs.Ytlhjmkdfemejmaa
open Go.RowKit
def mn (x y : Int) : Int := if y < x then y else x
theorem min_any (x y : Int) (w : World) : Calls Try.prog 95 #[.int .i64 x, .int .i64 y] w fun e w' => e = .returned (.int .i64 (mn x y)) ∧ w = w' := by
  by_cases h : x < y
  · have E := Lib.hid (show mn x y = x by unfold mn; rw [if_neg (by omega)])
    have f0 : decide (x < y) = true := by simp; omega
    go_enter Try.func95, Try.ntmps95
    go_wp2
    go_ret
    exact ⟨by rw [E.out]; rfl, rfl⟩
  · have E := Lib.hid (show mn x y = y by unfold mn; split <;> omega)
    have f0 : decide (x < y) = false := by simp; omega
    go_enter Try.func95, Try.ntmps95
    go_wp2
    go_ret
    exact ⟨by rw [E.out]; rfl, rfl⟩
theorem mn_bd {x y : Int} {M : Int} (hx : 0 ≤ x ∧ x ≤ M) (hy : 0 ≤ y) : 0 ≤ mn x y ∧ mn x y ≤ x := by unfold mn; split <;> omega

end Go.Proofs.Ytlhjmkdfemejmaa
