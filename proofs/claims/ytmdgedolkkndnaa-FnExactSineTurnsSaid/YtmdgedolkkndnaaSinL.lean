/- The sine of some turns: the law. -/
import Derived.Test.YtmdgedolkkndnaaSinW
namespace Go.Proofs.Ytmdgedolkkndnaa
open Go Go.RowKit
set_option linter.unusedVariables false

theorem specSineT_any (x : Nat) (w : World) : Calls Try.prog 14 #[.float .f32 x] w (Flo (fun r => cn .f32 r = sinF x) w) := by
  go_enter Try.func14, Try.ntmps14
  go_wp2_with fail
  refine (specSine_any x _).mono ?_
  rintro e w1 ⟨r, n, hr, hw, rfl, rfl⟩
  go_wp2
  go_ret
  exact ⟨_, _, hr, hw, rfl, rfl⟩
set_option maxRecDepth 20000 in
theorem fnExactSineTurns_walk (x : Nat) (w : World) (_ : (Lit.float .f32 x).wf = true) : Calls Try.prog 3 #[.float .f32 x] w (Tru w) := by
  go_enter Try.func3, Try.ntmps3
  go_wp2_with fail
  refine (specSineT_any x _).mono ?_
  rintro _ w1 ⟨s1, n1, hr1, _, rfl, rfl⟩
  have R1 := Lib.hid hr1
  clear hr1
  go_wp2_with fail
  refine (implSine_any x _).mono ?_
  rintro _ w2 ⟨s2, n2, hr2, _, rfl, rfl⟩
  have R2 := Lib.hid hr2
  clear hr2
  go_wp2_with (first | (refine wpList_up rfl Try.underlying22 Try.underlying25 _ rfl _ rfl ?_; intro _ _ _) | (go_at_call 16; refine (same_end (a := s2) (b := s1) _ (by assumption) (by assumption) (R2.out.trans R1.out.symm)).mono ?_; rintro e w' ⟨rfl, n, rfl⟩))
  go_ret
  exact Tru.below (by repeat (first | exact Below.refl _ _ | refine Below.setCell ?_ (by first | exact Nat.le_refl _ | (simp; done) | (simp; omega) | omega) _ | refine below_drewN ?_ _ | refine Below.alloc ?_ (by first | exact Nat.le_refl _ | (simp; done) | (simp; omega) | omega) _))

end Go.Proofs.Ytmdgedolkkndnaa
