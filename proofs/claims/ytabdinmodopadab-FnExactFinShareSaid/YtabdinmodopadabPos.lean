/- Numbers that are finite and greater than 0; whether two numbers are the same. -/
import Derived.Test.YtabdinmodopadabPosW
namespace Go.Proofs.Ytabdinmodopadab
open Go.RowKit

theorem specAbove_any (a : Nat) (w : World) : Calls Try.prog 57 #[.float .f32 a] w (Bol (pos a) w) := by
  cases hf : fin .f32 a
  · go_enter Try.func57, Try.ntmps57
    go_wp2_with (go_at_call 72; refine (specFinite_any _ _).mono ?_; rw [hf]; rintro e w' ⟨rfl, n, rfl⟩)
    go_ret
    exact ⟨by simp [pos, hf], _, rfl⟩
  · go_enter Try.func57, Try.ntmps57
    go_wp2_with (go_at_call 72; refine (specFinite_any _ _).mono ?_; rw [hf]; rintro e w' ⟨rfl, n, rfl⟩)
    go_ret
    exact ⟨by simp [pos, hf, gt0], _, rfl⟩

theorem implPos_any (a : Nat) (w : World) : Calls Try.prog 62 #[.float .f32 a] w (Bol (pos a) w) := by
  cases hf : fin .f32 a
  · go_enter Try.func62, Try.ntmps62
    go_wp2_with (go_at_call 76; refine (implFinite_any _ _).mono ?_; rw [hf]; rintro e w' ⟨rfl, n, rfl⟩)
    go_ret
    exact ⟨by simp [pos, hf], _, rfl⟩
  · go_enter Try.func62, Try.ntmps62
    go_wp2_with (go_at_call 76; refine (implFinite_any _ _).mono ?_; rw [hf]; rintro e w' ⟨rfl, n, rfl⟩)
    go_ret
    exact ⟨by simp [pos, hf, gt0], _, rfl⟩
end Go.Proofs.Ytabdinmodopadab
