/- Whether an integer lies between two others. -/
import Derived.Test.YtbgldggaiefhoaaDoorPos
namespace Go.Proofs.YtbgldggaiefhoaaDoor
open Go.RowKit

/-- is a number from one to another -/
theorem in_any (x lo hi : Int) (w : World) : Calls Tryd.prog 83 #[.int .i64 x, .int .i64 lo, .int .i64 hi] w fun e w' => e = .returned (.bool (decide (lo ≤ x) && decide (x ≤ hi))) ∧ w = w' := by
  by_cases h : lo ≤ x
  · go_enter Tryd.func83, Tryd.ntmps83
    go_wp2
    go_ret
    exact ⟨by simp [h], rfl⟩
  · go_enter Tryd.func83, Tryd.ntmps83
    go_wp2
    go_ret
    exact ⟨by simp; intro; omega, rfl⟩
end Go.Proofs.YtbgldggaiefhoaaDoor
