/- Numbers that are finite and greater than 0; whether two numbers are the same. -/
import Derived.Test.YtbgldggaiefhoaaDoorPosW
namespace Go.Proofs.YtbgldggaiefhoaaDoor
open Go.RowKit

theorem specAbove_any (a : Nat) (w : World) : Calls Tryd.prog 81 #[.float .f32 a] w (Bol (pos a) w) := by
  cases hf : fin .f32 a
  · go_enter Tryd.func81, Tryd.ntmps81
    go_wp2_with (go_at_call 80; refine (specFinite_any _ _).mono ?_; rw [hf]; rintro e w' ⟨rfl, n, rfl⟩)
    go_ret
    exact ⟨by simp [pos, hf], _, rfl⟩
  · go_enter Tryd.func81, Tryd.ntmps81
    go_wp2_with (go_at_call 80; refine (specFinite_any _ _).mono ?_; rw [hf]; rintro e w' ⟨rfl, n, rfl⟩)
    go_ret
    exact ⟨by simp [pos, hf, gt0], _, rfl⟩

theorem implPos_any (a : Nat) (w : World) : Calls Tryd.prog 88 #[.float .f32 a] w (Bol (pos a) w) := by
  cases hf : fin .f32 a
  · go_enter Tryd.func88, Tryd.ntmps88
    go_wp2_with (go_at_call 87; refine (implFinite_any _ _).mono ?_; rw [hf]; rintro e w' ⟨rfl, n, rfl⟩)
    go_ret
    exact ⟨by simp [pos, hf], _, rfl⟩
  · go_enter Tryd.func88, Tryd.ntmps88
    go_wp2_with (go_at_call 87; refine (implFinite_any _ _).mono ?_; rw [hf]; rintro e w' ⟨rfl, n, rfl⟩)
    go_ret
    exact ⟨by simp [pos, hf, gt0], _, rfl⟩
end Go.Proofs.YtbgldggaiefhoaaDoor
