/- A number, and whether it is finite: what functions hand back that may fail. -/
import Derived.Test.YtkbdidpodcclfaaPos
namespace Go.Proofs.Ytkbdidpodcclfaa
open Go.RowKit

/-- a number if it is finite -/
def ifF (x : Nat) : Nat := if fin .f32 x then x else 0
theorem ifF_cn {x S : Nat} (h : cn .f32 x = S) : cn .f32 (ifF x) = ifF S ∧ fin .f32 x = fin .f32 S := by
  have hf : fin .f32 x = fin .f32 S := by rw [← h, fin_cn]
  refine ⟨?_, hf⟩
  unfold ifF
  rw [← hf]
  cases e : fin .f32 x
  · rfl
  · simp only [if_true]; exact h

/-- a number up to a not-a-number's bits, and a bool; nothing that was there has turned -/
def GivB (S : Nat) (b : Bool) (w : World) (e : Ending) (w' : World) : Prop := ∃ r, cn .f32 r = S ∧ e = .returned (.tuple #[.float .f32 r, .bool b]) ∧ Below w.heap.size w w'

theorem ret2_b {r : Nat} {b b' : Bool} (h : b = b') : Ending.returned (.tuple #[.float .f32 r, .bool b]) = Ending.returned (.tuple #[.float .f32 r, .bool b']) := by rw [h]
theorem GivB.num {x S : Nat} {w w' : World} (h : cn .f32 x = S) (hb : Below w.heap.size w w') : GivB (ifF S) (fin .f32 S) w (.returned (.tuple #[.float .f32 (ifF x), .bool (fin .f32 x)])) w' :=
  ⟨_, (ifF_cn h).1, ret2_b (ifF_cn h).2, hb⟩
theorem GivB.no {w w' : World} (hb : Below w.heap.size w w') : GivB 0 false w (.returned (.tuple #[.float .f32 0, .bool false])) w' := ⟨0, rfl, rfl, hb⟩

theorem specNum_any (x : Nat) (w : World) : Calls Try.prog 89 #[.float .f32 x] w fun e w' => e = .returned (.tuple #[.float .f32 (ifF x), .bool (fin .f32 x)]) ∧ ∃ n, w' = w.drewN n := by
  cases hf : fin .f32 x
  · go_enter Try.func89, Try.ntmps89
    go_wp2_with (go_at_call 70; refine (specFinite_any _ _).mono ?_; rw [hf]; rintro e w' ⟨rfl, n, rfl⟩)
    go_ret2
    exact ⟨by simp [ifF, hf], _, rfl⟩
  · go_enter Try.func89, Try.ntmps89
    go_wp2_with (go_at_call 70; refine (specFinite_any _ _).mono ?_; rw [hf]; rintro e w' ⟨rfl, n, rfl⟩)
    go_ret2
    exact ⟨by simp [ifF, hf], _, rfl⟩

theorem implNum_any (x : Nat) (w : World) : Calls Try.prog 93 #[.float .f32 x] w fun e w' => e = .returned (.tuple #[.float .f32 (ifF x), .bool (fin .f32 x)]) ∧ ∃ n, w' = w.drewN n := by
  cases hf : fin .f32 x
  · go_enter Try.func93, Try.ntmps93
    go_wp2_with (go_at_call 78; refine (implFinite_any _ _).mono ?_; rw [hf]; rintro e w' ⟨rfl, n, rfl⟩)
    go_ret2
    exact ⟨by simp [ifF, hf], _, rfl⟩
  · go_enter Try.func93, Try.ntmps93
    go_wp2_with (go_at_call 78; refine (implFinite_any _ _).mono ?_; rw [hf]; rintro e w' ⟨rfl, n, rfl⟩)
    go_ret2
    exact ⟨by simp [ifF, hf], _, rfl⟩

end Go.Proofs.Ytkbdidpodcclfaa
