/- Numbers that are finite and greater than 0; whether two numbers are the same. -/
import Derived.Test.YtkbdidpodcclfaaPosW
namespace Go.Proofs.Ytkbdidpodcclfaa
open Go.RowKit

theorem specAbove_any (a : Nat) (w : World) : Calls Try.prog 61 #[.float .f32 a] w (Bol (pos a) w) := by
  cases hf : fin .f32 a
  · go_enter Try.func61, Try.ntmps61
    go_wp2_with (go_at_call 70; refine (specFinite_any _ _).mono ?_; rw [hf]; rintro e w' ⟨rfl, n, rfl⟩)
    go_ret
    exact ⟨by simp [pos, hf], _, rfl⟩
  · go_enter Try.func61, Try.ntmps61
    go_wp2_with (go_at_call 70; refine (specFinite_any _ _).mono ?_; rw [hf]; rintro e w' ⟨rfl, n, rfl⟩)
    go_ret
    exact ⟨by simp [pos, hf, gt0], _, rfl⟩

theorem implPos_any (a : Nat) (w : World) : Calls Try.prog 77 #[.float .f32 a] w (Bol (pos a) w) := by
  cases hf : fin .f32 a
  · go_enter Try.func77, Try.ntmps77
    go_wp2_with (go_at_call 78; refine (implFinite_any _ _).mono ?_; rw [hf]; rintro e w' ⟨rfl, n, rfl⟩)
    go_ret
    exact ⟨by simp [pos, hf], _, rfl⟩
  · go_enter Try.func77, Try.ntmps77
    go_wp2_with (go_at_call 78; refine (implFinite_any _ _).mono ?_; rw [hf]; rintro e w' ⟨rfl, n, rfl⟩)
    go_ret
    exact ⟨by simp [pos, hf, gt0], _, rfl⟩
end Go.Proofs.Ytkbdidpodcclfaa
