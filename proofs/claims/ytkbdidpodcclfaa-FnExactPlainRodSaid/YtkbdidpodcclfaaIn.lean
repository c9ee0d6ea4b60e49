/- Whether an integer lies between two others. -/
import Derived.Test.YtkbdidpodcclfaaPos
namespace Go.Proofs.Ytkbdidpodcclfaa
open Go.RowKit

/-- is a number from one to another -/
theorem in_any (x lo hi : Int) (w : World) : Calls Try.prog 38 #[.int .i64 x, .int .i64 lo, .int .i64 hi] w fun e w' => e = .returned (.bool (decide (lo ≤ x) && decide (x ≤ hi))) ∧ w = w' := by
  by_cases h : lo ≤ x
  · go_enter Try.func38, Try.ntmps38
    go_wp2
    go_ret
    exact ⟨by simp [h], rfl⟩
  · go_enter Try.func38, Try.ntmps38
    go_wp2
    go_ret
    exact ⟨by simp; intro; omega, rfl⟩
end Go.Proofs.Ytkbdidpodcclfaa
