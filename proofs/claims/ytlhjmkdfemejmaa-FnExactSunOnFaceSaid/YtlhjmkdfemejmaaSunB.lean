/- Sines and cosines of numbers: contracts. -/
import Derived.Test.YtlhjmkdfemejmaaSinW
import Derived.Test.YtlhjmkdfemejmaaGiv3
import Derived.Test.YtlhjmkdfemejmaaRoot
namespace Go.Proofs.Ytlhjmkdfemejmaa
open Go.RowKit
set_option linter.unusedVariables false

def sqF (a : Nat) : Nat := cvd (fsq (cvu a))
theorem sinF_cn (x : Nat) : sinF (cn .f32 x) = sinF x := by
  cases h : nn .f32 x
  · rw [cn_of_num h]
  · unfold sinF
    rw [fin_cn, fin_nan h]; rfl
theorem specSineC_any (x : Nat) (w : World) : Calls Try.prog 60 #[.float .f32 x] w (Flo (fun r => cn .f32 r = sinF (cn .f32 x)) w) := by
  rw [sinF_cn]; exact specSine_any x w
theorem implSineC_any (x : Nat) (w : World) : Calls Try.prog 66 #[.float .f32 x] w (Flo (fun r => cn .f32 r = sinF (cn .f32 x)) w) := by
  rw [sinF_cn]; exact implSine_any x w
def cosF (x : Nat) : Nat := sinF (fop .add .f32 x 1048576000)
theorem specCos_any (x : Nat) (w : World) : Calls Try.prog 61 #[.float .f32 x] w (Flo (fun r => cn .f32 r = cosF (cn .f32 x)) w) := by
  go_enter Try.func61, Try.ntmps61
  go_wp2_with (refine wpList_farith rfl _ _ _ _ _ rfl rfl _ _ _ rfl rfl ?_; intro r0 j0 g0; have f0 := Lib.hid g0; clear g0; refine Stop.go ?_)
  refine Stop.mk ?_
  go_wp2_with fail
  first | refine (specSineC_any _ _).mono ?_ | (go_at_call 60; refine (specSineC_any _ _).mono ?_)
  rintro e w' ⟨r1, j1, g1, _, rfl, rfl⟩
  have f1 := Lib.hid g1
  clear g1
  go_wp2
  go_ret
  exact ⟨_, _, by show cn .f32 r1 = cosF (cn .f32 x); unfold cosF; rw [f1.out, f0.out.1]; simp only [fopl', fopr'], by assumption, rfl, by first | rfl | (simp only [World.drewN_drewN]; rfl)⟩
theorem implCos_any (x : Nat) (w : World) : Calls Try.prog 67 #[.float .f32 x] w (Flo (fun r => cn .f32 r = cosF (cn .f32 x)) w) := by
  go_enter Try.func67, Try.ntmps67
  go_wp2_with (refine wpList_farith rfl _ _ _ _ _ rfl rfl _ _ _ rfl rfl ?_; intro r0 j0 g0; have f0 := Lib.hid g0; clear g0; refine Stop.go ?_)
  refine Stop.mk ?_
  go_wp2_with fail
  first | refine (implSineC_any _ _).mono ?_ | (go_at_call 66; refine (implSineC_any _ _).mono ?_)
  rintro e w' ⟨r1, j1, g1, _, rfl, rfl⟩
  have f1 := Lib.hid g1
  clear g1
  go_wp2
  go_ret
  exact ⟨_, _, by show cn .f32 r1 = cosF (cn .f32 x); unfold cosF; rw [f1.out, f0.out.1]; simp only [fopl', fopr'], by assumption, rfl, by first | rfl | (simp only [World.drewN_drewN]; rfl)⟩
/-- from a quarter below to a quarter above -/
theorem specNorth_any (x : Nat) (w : World) : Calls Try.prog 57 #[.float .f32 x] w (BolS (wth x 3196059648 1048576000) w) := by
  unfold wth
  cases B0 : geN x 3196059648
  · skip
    have o0 : (FloatKind.f32.format.order x 3196059648 == some .gt || FloatKind.f32.format.order x 3196059648 == some .eq) = false := B0
    have H0 := Lib.hid B0
    clear B0
    go_enter Try.func57, Try.ntmps57
    go_wp2
    go_ret
    exact ⟨ret_bb (by simp), rfl⟩
  · skip
    have o0 : (FloatKind.f32.format.order x 3196059648 == some .gt || FloatKind.f32.format.order x 3196059648 == some .eq) = true := B0
    have H0 := Lib.hid B0
    clear B0
    go_enter Try.func57, Try.ntmps57
    go_wp2
    go_ret
    exact ⟨ret_bb (by rw [Bool.true_and]; rfl), rfl⟩
end Go.Proofs.Ytlhjmkdfemejmaa
