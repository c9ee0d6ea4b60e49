/- How warm a face is that shines so much: both sides, and the law. -/
import Derived.Test.YtkjlofbnegjcoaaSn
namespace Go.Proofs.Ytkjlofbnegjcoaa
open Go.RowKit
set_option linter.unusedVariables false

def sqF (a : Nat) : Nat := cvd (fsq (cvu a))

def wfS (x : Nat) : Nat := (fop .mul .f32 1120403456 (sqF (sqF (fop .quo .f32 x 1085632676))))
theorem wfS_s {x r0 r1 r2 r3 : Nat} (f0 : FR .quo .f32 x 1085632676 r0) (f1 : cn .f32 r1 = cvd (fsq (cvu (cn .f32 r0)))) (f2 : cn .f32 r2 = cvd (fsq (cvu (cn .f32 r1)))) (f3 : FR .mul .f32 1120403456 r2 r3) : cn .f32 r3 = wfS x := by
  unfold wfS sqF
  simp only [f0.1, f1, f2, f3.1, fopl', fopr']

theorem wfS_i {x r0 r1 r2 r3 : Nat} (f0 : FR .quo .f32 x 1085632676 r0) (f1 : cn .f32 r1 = cvd (fsq (cvu (cn .f32 r0)))) (f2 : cn .f32 r2 = cvd (fsq (cvu (cn .f32 r1)))) (f3 : FR .mul .f32 1120403456 r2 r3) : cn .f32 r3 = wfS x := by
  unfold wfS sqF
  simp only [f0.1, f1, f2, f3.1, fopl', fopr']

def wfSb (x : Nat) : Bool := lst x
set_option maxHeartbeats 800000 in
theorem specWarmFor_any (x : Nat) (w : World) : Calls Try.prog 29 #[.float .f32 x] w (GivB (cS (wfSb x) (wfS x)) (cB (wfSb x) (wfS x)) w) := by
  cases B0 : lst x
  · skip
    have E := Lib.hid (show wfSb x = false by unfold wfSb; simp [B0])
    have H0 := Lib.hid B0
    clear B0
    go_enter Try.func29, Try.ntmps29
    go_wp2_with fail
    refine (specLeast_any x _).mono ?_
    rw [H0.out]
    rintro e w' ⟨rfl, n, rfl⟩
    go_wp2
    go_ret2
    exact cGiv_no E.out (by first | exact Below.refl _ _ | exact below_drewN (Below.refl _ _) _ | exact (by repeat (first | exact Below.refl _ _ | refine Below.setCell ?_ (by first | exact Nat.le_refl _ | (simp; done) | (simp; omega) | omega) _ | refine below_drewN ?_ _ | refine Below.alloc ?_ (by first | exact Nat.le_refl _ | (simp; done) | (simp; omega) | omega) _)))
  · skip
    have E := Lib.hid (show wfSb x = true by unfold wfSb; simp [B0])
    have H0 := Lib.hid B0
    clear B0
    go_enter Try.func29, Try.ntmps29
    go_wp2_with fail
    refine (specLeast_any x _).mono ?_
    rw [H0.out]
    rintro e w' ⟨rfl, n, rfl⟩
    go_wp2_with (refine wpList_farith rfl _ _ _ _ _ rfl rfl _ _ _ rfl rfl ?_; intro r0 j0 g0; have f0 := Lib.hid g0; clear g0; refine Stop.go ?_)
    refine Stop.mk ?_
    go_wp2_with fail
    first | refine (specRoot_any _ _).mono ?_ | (go_at_call 66; refine (specRoot_any _ _).mono ?_)
    rintro e w' ⟨r1, j1, g1, _, rfl, rfl⟩
    have f1 := Lib.hid g1
    clear g1
    go_wp2_with fail
    first | refine (specRoot_any _ _).mono ?_ | (go_at_call 66; refine (specRoot_any _ _).mono ?_)
    rintro e w' ⟨r2, j2, g2, _, rfl, rfl⟩
    have f2 := Lib.hid g2
    clear g2
    go_wp2_with (refine wpList_farith rfl _ _ _ _ _ rfl rfl _ _ _ rfl rfl ?_; intro r3 j3 g3; have f3 := Lib.hid g3; clear g3; refine Stop.go ?_)
    refine Stop.mk ?_
    go_wp2_with fail
    first | refine (specNum_any _ _).mono ?_ | (go_at_call 62; refine (specNum_any _ _).mono ?_)
    rintro e w' ⟨rfl, n9, rfl⟩
    go_wp2
    go_ret2
    exact cGiv_yes E.out (wfS_s f0.out f1.out f2.out f3.out) (by first | exact Below.refl _ _ | exact below_drewN (Below.refl _ _) _ | exact (by repeat (first | exact Below.refl _ _ | refine Below.setCell ?_ (by first | exact Nat.le_refl _ | (simp; done) | (simp; omega) | omega) _ | refine below_drewN ?_ _ | refine Below.alloc ?_ (by first | exact Nat.le_refl _ | (simp; done) | (simp; omega) | omega) _)))
set_option maxHeartbeats 800000 in
theorem implWarmFor_any (x : Nat) (w : World) : Calls Try.prog 30 #[.float .f32 x] w (GivB (cS (wfSb x) (wfS x)) (cB (wfSb x) (wfS x)) w) := by
  cases B0 : lst x
  · skip
    have E := Lib.hid (show wfSb x = false by unfold wfSb; simp [B0])
    have H0 := Lib.hid B0
    clear B0
    go_enter Try.func30, Try.ntmps30
    go_wp2_with fail
    refine (implNotNeg_any x _).mono ?_
    rw [H0.out]
    rintro e w' ⟨rfl, n, rfl⟩
    go_wp2
    go_ret2
    exact cGiv_no E.out (by first | exact Below.refl _ _ | exact below_drewN (Below.refl _ _) _ | exact (by repeat (first | exact Below.refl _ _ | refine Below.setCell ?_ (by first | exact Nat.le_refl _ | (simp; done) | (simp; omega) | omega) _ | refine below_drewN ?_ _ | refine Below.alloc ?_ (by first | exact Nat.le_refl _ | (simp; done) | (simp; omega) | omega) _)))
  · skip
    have E := Lib.hid (show wfSb x = true by unfold wfSb; simp [B0])
    have H0 := Lib.hid B0
    clear B0
    go_enter Try.func30, Try.ntmps30
    go_wp2_with fail
    refine (implNotNeg_any x _).mono ?_
    rw [H0.out]
    rintro e w' ⟨rfl, n, rfl⟩
    go_wp2_with (refine wpList_farith rfl _ _ _ _ _ rfl rfl _ _ _ rfl rfl ?_; intro r0 j0 g0; have f0 := Lib.hid g0; clear g0; refine Stop.go ?_)
    refine Stop.mk ?_
    go_wp2_with fail
    first | refine (implRoot_any _ _).mono ?_ | (go_at_call 67; refine (implRoot_any _ _).mono ?_)
    rintro e w' ⟨r1, j1, g1, _, rfl, rfl⟩
    have f1 := Lib.hid g1
    clear g1
    go_wp2_with fail
    first | refine (implRoot_any _ _).mono ?_ | (go_at_call 67; refine (implRoot_any _ _).mono ?_)
    rintro e w' ⟨r2, j2, g2, _, rfl, rfl⟩
    have f2 := Lib.hid g2
    clear g2
    go_wp2_with (refine wpList_farith rfl _ _ _ _ _ rfl rfl _ _ _ rfl rfl ?_; intro r3 j3 g3; have f3 := Lib.hid g3; clear g3; refine Stop.go ?_)
    refine Stop.mk ?_
    go_wp2_with fail
    first | refine (implNum_any _ _).mono ?_ | (go_at_call 65; refine (implNum_any _ _).mono ?_)
    rintro e w' ⟨rfl, n9, rfl⟩
    go_wp2
    go_ret2
    exact cGiv_yes E.out (wfS_i f0.out f1.out f2.out f3.out) (by first | exact Below.refl _ _ | exact below_drewN (Below.refl _ _) _ | exact (by repeat (first | exact Below.refl _ _ | refine Below.setCell ?_ (by first | exact Nat.le_refl _ | (simp; done) | (simp; omega) | omega) _ | refine below_drewN ?_ _ | refine Below.alloc ?_ (by first | exact Nat.le_refl _ | (simp; done) | (simp; omega) | omega) _)))
set_option maxRecDepth 20000 in
theorem fnExactWarmForShine_walk (x : Nat) (w : World) (_ : (Lit.float .f32 x).wf = true) : Calls Try.prog 7 #[.float .f32 x] w (Tru w) := by
  go_enter Try.func7, Try.ntmps7
  go_wp2_with fail
  refine (specWarmFor_any x _).mono ?_
  rintro _ w1 ⟨s1, hr1, rfl, hb⟩
  have Bw := Lib.hid hb
  have R1 := Lib.hid hr1
  clear hb hr1
  go_wp2_with fail
  refine (implWarmFor_any x _).mono ?_
  rintro _ w2 ⟨s2, hr2, rfl, hb⟩
  have Bw := Lib.hid (below_step Bw.out hb)
  have R2 := Lib.hid hr2
  clear hb hr2
  go_wp2_with (first | (refine wpList_up rfl Try.underlying22 Try.underlying40 _ rfl _ rfl ?_; intro _ _ _) | (go_at_call 28; refine (same_end (a := s2) (b := s1) _ (by assumption) (by assumption) (R2.out.trans R1.out.symm)).mono ?_; rintro e w' ⟨rfl, n, rfl⟩))
  go_ret
  exact Tru.below (below_drewN Bw.out _)

end Go.Proofs.Ytkjlofbnegjcoaa
