/- Numbers that are finite and greater than 0; whether two numbers are the same. -/
import Derived.Test.YthedpbdeahieaaaDoorPosW
namespace Go.Proofs.YthedpbdeahieaaaDoor
open Go.RowKit

theorem specAbove_any (a : Nat) (w : World) : Calls Tryd.prog 98 #[.float .f32 a] w (Bol (pos a) w) := by
  cases hf : fin .f32 a
  · go_enter Tryd.func98, Tryd.ntmps98
    go_wp2_with (go_at_call 99; refine (specFinite_any _ _).mono ?_; rw [hf]; rintro e w' ⟨rfl, n, rfl⟩)
    go_ret
    exact ⟨by simp [pos, hf], _, rfl⟩
  · go_enter Tryd.func98, Tryd.ntmps98
    go_wp2_with (go_at_call 99; refine (specFinite_any _ _).mono ?_; rw [hf]; rintro e w' ⟨rfl, n, rfl⟩)
    go_ret
    exact ⟨by simp [pos, hf, gt0], _, rfl⟩

theorem implPos_any (a : Nat) (w : World) : Calls Tryd.prog 101 #[.float .f32 a] w (Bol (pos a) w) := by
  cases hf : fin .f32 a
  · go_enter Tryd.func101, Tryd.ntmps101
    go_wp2_with (go_at_call 102; refine (implFinite_any _ _).mono ?_; rw [hf]; rintro e w' ⟨rfl, n, rfl⟩)
    go_ret
    exact ⟨by simp [pos, hf], _, rfl⟩
  · go_enter Tryd.func101, Tryd.ntmps101
    go_wp2_with (go_at_call 102; refine (implFinite_any _ _).mono ?_; rw [hf]; rintro e w' ⟨rfl, n, rfl⟩)
    go_ret
    exact ⟨by simp [pos, hf, gt0], _, rfl⟩
end Go.Proofs.YthedpbdeahieaaaDoor
