/- How warm one feels: both sides, and the law. -/
import Derived.Test.YtkjlofbnegjcoaaSn
namespace Go.Proofs.Ytkjlofbnegjcoaa
open Go.RowKit
set_option linter.unusedVariables false

def sqF (a : Nat) : Nat := cvd (fsq (cvu a))

def cmf (x y z : Nat) : Nat := (fop .sub .f32 (fop .quo .f32 (fop .add .f32 y (fop .mul .f32 x (sqF (fop .mul .f32 1092616192 z)))) (fop .add .f32 1065353216 (sqF (fop .mul .f32 1092616192 z)))) (fop .mul .f32 1073741824 (sqF (cn .f32 z))))
theorem cmf_s {x y z r0 r1 r2 r3 r4 r5 r6 r7 r8 : Nat} (f0 : FR .mul .f32 1092616192 z r0) (f1 : cn .f32 r1 = cvd (fsq (cvu (cn .f32 r0)))) (f2 : FR .mul .f32 x r1 r2) (f3 : FR .add .f32 y r2 r3) (f4 : FR .add .f32 1065353216 r1 r4) (f5 : FR .quo .f32 r3 r4 r5) (f6 : cn .f32 r6 = cvd (fsq (cvu (cn .f32 z)))) (f7 : FR .mul .f32 1073741824 r6 r7) (f8 : FR .sub .f32 r5 r7 r8) : cn .f32 r8 = cmf x y z := by
  unfold cmf sqF
  simp only [f0.1, f1, f2.1, f3.1, f4.1, f5.1, f6, f7.1, f8.1, fopl', fopr']

theorem cmf_i {x y z r0 r1 r2 r3 r4 r5 r6 r7 r8 : Nat} (f0 : FR .mul .f32 1092616192 z r0) (f1 : cn .f32 r1 = cvd (fsq (cvu (cn .f32 r0)))) (f2 : FR .mul .f32 x r1 r2) (f3 : FR .add .f32 y r2 r3) (f4 : FR .add .f32 1065353216 r1 r4) (f5 : FR .quo .f32 r3 r4 r5) (f6 : cn .f32 r6 = cvd (fsq (cvu (cn .f32 z)))) (f7 : FR .mul .f32 1073741824 r6 r7) (f8 : FR .sub .f32 r5 r7 r8) : cn .f32 r8 = cmf x y z := by
  unfold cmf sqF
  simp only [f0.1, f1, f2.1, f3.1, f4.1, f5.1, f6, f7.1, f8.1, fopl', fopr']

def cmfb (x y z : Nat) : Bool := fin .f32 x && fin .f32 y && lst z
set_option maxHeartbeats 800000 in
theorem specComfort_any (x y z : Nat) (w : World) : Calls Try.prog 47 #[.float .f32 x, .float .f32 y, .float .f32 z] w (GivB (cS (cmfb x y z) (cmf x y z)) (cB (cmfb x y z) (cmf x y z)) w) := by
  cases B0 : fin .f32 x
  · skip
    have E := Lib.hid (show cmfb x y z = false by unfold cmfb; simp [B0])
    have H0 := Lib.hid B0
    clear B0
    go_enter Try.func47, Try.ntmps47
    go_wp2_with fail
    refine (specFinite_any x _).mono ?_
    rw [H0.out]
    rintro e w' ⟨rfl, n, rfl⟩
    go_wp2
    go_ret2
    exact cGiv_no E.out (by first | exact Below.refl _ _ | exact below_drewN (Below.refl _ _) _ | exact (by repeat (first | exact Below.refl _ _ | refine Below.setCell ?_ (by first | exact Nat.le_refl _ | (simp; done) | (simp; omega) | omega) _ | refine below_drewN ?_ _ | refine Below.alloc ?_ (by first | exact Nat.le_refl _ | (simp; done) | (simp; omega) | omega) _)))
  · skip
    cases B1 : fin .f32 y
    · skip
      have E := Lib.hid (show cmfb x y z = false by unfold cmfb; simp [B0, B1])
      have H0 := Lib.hid B0
      have H1 := Lib.hid B1
      clear B0 B1
      go_enter Try.func47, Try.ntmps47
      go_wp2_with fail
      refine (specFinite_any x _).mono ?_
      rw [H0.out]
      rintro e w' ⟨rfl, n, rfl⟩
      go_wp2_with fail
      refine (specFinite_any y _).mono ?_
      rw [H1.out]
      rintro e w' ⟨rfl, n, rfl⟩
      go_wp2
      go_ret2
      exact cGiv_no E.out (by first | exact Below.refl _ _ | exact below_drewN (Below.refl _ _) _ | exact (by repeat (first | exact Below.refl _ _ | refine Below.setCell ?_ (by first | exact Nat.le_refl _ | (simp; done) | (simp; omega) | omega) _ | refine below_drewN ?_ _ | refine Below.alloc ?_ (by first | exact Nat.le_refl _ | (simp; done) | (simp; omega) | omega) _)))
    · skip
      cases B2 : lst z
      · skip
        have E := Lib.hid (show cmfb x y z = false by unfold cmfb; simp [B0, B1, B2])
        have H0 := Lib.hid B0
        have H1 := Lib.hid B1
        have H2 := Lib.hid B2
        clear B0 B1 B2
        go_enter Try.func47, Try.ntmps47
        go_wp2_with fail
        refine (specFinite_any x _).mono ?_
        rw [H0.out]
        rintro e w' ⟨rfl, n, rfl⟩
        go_wp2_with fail
        refine (specFinite_any y _).mono ?_
        rw [H1.out]
        rintro e w' ⟨rfl, n, rfl⟩
        go_wp2_with fail
        refine (specLeast_any z _).mono ?_
        rw [H2.out]
        rintro e w' ⟨rfl, n, rfl⟩
        go_wp2
        go_ret2
        exact cGiv_no E.out (by first | exact Below.refl _ _ | exact below_drewN (Below.refl _ _) _ | exact (by repeat (first | exact Below.refl _ _ | refine Below.setCell ?_ (by first | exact Nat.le_refl _ | (simp; done) | (simp; omega) | omega) _ | refine below_drewN ?_ _ | refine Below.alloc ?_ (by first | exact Nat.le_refl _ | (simp; done) | (simp; omega) | omega) _)))
      · skip
        have E := Lib.hid (show cmfb x y z = true by unfold cmfb; simp [B0, B1, B2])
        have H0 := Lib.hid B0
        have H1 := Lib.hid B1
        have H2 := Lib.hid B2
        clear B0 B1 B2
        go_enter Try.func47, Try.ntmps47
        go_wp2_with fail
        refine (specFinite_any x _).mono ?_
        rw [H0.out]
        rintro e w' ⟨rfl, n, rfl⟩
        go_wp2_with fail
        refine (specFinite_any y _).mono ?_
        rw [H1.out]
        rintro e w' ⟨rfl, n, rfl⟩
        go_wp2_with fail
        refine (specLeast_any z _).mono ?_
        rw [H2.out]
        rintro e w' ⟨rfl, n, rfl⟩
        go_wp2_with (refine wpList_farith rfl _ _ _ _ _ rfl rfl _ _ _ rfl rfl ?_; intro r0 j0 g0; have f0 := Lib.hid g0; clear g0; refine Stop.go ?_)
        refine Stop.mk ?_
        go_wp2_with fail
        first | refine (specRoot_any _ _).mono ?_ | (go_at_call 66; refine (specRoot_any _ _).mono ?_)
        rintro e w' ⟨r1, j1, g1, _, rfl, rfl⟩
        have f1 := Lib.hid g1
        clear g1
        go_wp2_with (refine wpList_farith rfl _ _ _ _ _ rfl rfl _ _ _ rfl rfl ?_; intro r2 j2 g2; have f2 := Lib.hid g2; clear g2; refine Stop.go ?_)
        refine Stop.mk ?_
        go_wp2_with (refine wpList_farith rfl _ _ _ _ _ rfl rfl _ _ _ rfl rfl ?_; intro r3 j3 g3; have f3 := Lib.hid g3; clear g3; refine Stop.go ?_)
        refine Stop.mk ?_
        go_wp2_with (refine wpList_farith rfl _ _ _ _ _ rfl rfl _ _ _ rfl rfl ?_; intro r4 j4 g4; have f4 := Lib.hid g4; clear g4; refine Stop.go ?_)
        refine Stop.mk ?_
        go_wp2_with (refine wpList_farith rfl _ _ _ _ _ rfl rfl _ _ _ rfl rfl ?_; intro r5 j5 g5; have f5 := Lib.hid g5; clear g5; refine Stop.go ?_)
        refine Stop.mk ?_
        go_wp2_with fail
        first | refine (specRoot_any _ _).mono ?_ | (go_at_call 66; refine (specRoot_any _ _).mono ?_)
        rintro e w' ⟨r6, j6, g6, _, rfl, rfl⟩
        have f6 := Lib.hid g6
        clear g6
        go_wp2_with (refine wpList_farith rfl _ _ _ _ _ rfl rfl _ _ _ rfl rfl ?_; intro r7 j7 g7; have f7 := Lib.hid g7; clear g7; refine Stop.go ?_)
        refine Stop.mk ?_
        go_wp2_with (refine wpList_farith rfl _ _ _ _ _ rfl rfl _ _ _ rfl rfl ?_; intro r8 j8 g8; have f8 := Lib.hid g8; clear g8; refine Stop.go ?_)
        refine Stop.mk ?_
        go_wp2_with fail
        first | refine (specNum_any _ _).mono ?_ | (go_at_call 62; refine (specNum_any _ _).mono ?_)
        rintro e w' ⟨rfl, n9, rfl⟩
        go_wp2
        go_ret2
        exact cGiv_yes E.out (cmf_s f0.out f1.out f2.out f3.out f4.out f5.out f6.out f7.out f8.out) (by first | exact Below.refl _ _ | exact below_drewN (Below.refl _ _) _ | exact (by repeat (first | exact Below.refl _ _ | refine Below.setCell ?_ (by first | exact Nat.le_refl _ | (simp; done) | (simp; omega) | omega) _ | refine below_drewN ?_ _ | refine Below.alloc ?_ (by first | exact Nat.le_refl _ | (simp; done) | (simp; omega) | omega) _)))
set_option maxHeartbeats 800000 in
theorem implComfort_any (x y z : Nat) (w : World) : Calls Try.prog 48 #[.float .f32 x, .float .f32 y, .float .f32 z] w (GivB (cS (cmfb x y z) (cmf x y z)) (cB (cmfb x y z) (cmf x y z)) w) := by
  cases B0 : fin .f32 x
  · skip
    have E := Lib.hid (show cmfb x y z = false by unfold cmfb; simp [B0])
    have H0 := Lib.hid B0
    clear B0
    go_enter Try.func48, Try.ntmps48
    go_wp2_with fail
    refine (implFinite_any x _).mono ?_
    rw [H0.out]
    rintro e w' ⟨rfl, n, rfl⟩
    go_wp2
    go_ret2
    exact cGiv_no E.out (by first | exact Below.refl _ _ | exact below_drewN (Below.refl _ _) _ | exact (by repeat (first | exact Below.refl _ _ | refine Below.setCell ?_ (by first | exact Nat.le_refl _ | (simp; done) | (simp; omega) | omega) _ | refine below_drewN ?_ _ | refine Below.alloc ?_ (by first | exact Nat.le_refl _ | (simp; done) | (simp; omega) | omega) _)))
  · skip
    cases B1 : fin .f32 y
    · skip
      have E := Lib.hid (show cmfb x y z = false by unfold cmfb; simp [B0, B1])
      have H0 := Lib.hid B0
      have H1 := Lib.hid B1
      clear B0 B1
      go_enter Try.func48, Try.ntmps48
      go_wp2_with fail
      refine (implFinite_any x _).mono ?_
      rw [H0.out]
      rintro e w' ⟨rfl, n, rfl⟩
      go_wp2_with fail
      refine (implFinite_any y _).mono ?_
      rw [H1.out]
      rintro e w' ⟨rfl, n, rfl⟩
      go_wp2
      go_ret2
      exact cGiv_no E.out (by first | exact Below.refl _ _ | exact below_drewN (Below.refl _ _) _ | exact (by repeat (first | exact Below.refl _ _ | refine Below.setCell ?_ (by first | exact Nat.le_refl _ | (simp; done) | (simp; omega) | omega) _ | refine below_drewN ?_ _ | refine Below.alloc ?_ (by first | exact Nat.le_refl _ | (simp; done) | (simp; omega) | omega) _)))
    · skip
      cases B2 : lst z
      · skip
        have E := Lib.hid (show cmfb x y z = false by unfold cmfb; simp [B0, B1, B2])
        have H0 := Lib.hid B0
        have H1 := Lib.hid B1
        have H2 := Lib.hid B2
        clear B0 B1 B2
        go_enter Try.func48, Try.ntmps48
        go_wp2_with fail
        refine (implFinite_any x _).mono ?_
        rw [H0.out]
        rintro e w' ⟨rfl, n, rfl⟩
        go_wp2_with fail
        refine (implFinite_any y _).mono ?_
        rw [H1.out]
        rintro e w' ⟨rfl, n, rfl⟩
        go_wp2_with fail
        refine (implNotNeg_any z _).mono ?_
        rw [H2.out]
        rintro e w' ⟨rfl, n, rfl⟩
        go_wp2
        go_ret2
        exact cGiv_no E.out (by first | exact Below.refl _ _ | exact below_drewN (Below.refl _ _) _ | exact (by repeat (first | exact Below.refl _ _ | refine Below.setCell ?_ (by first | exact Nat.le_refl _ | (simp; done) | (simp; omega) | omega) _ | refine below_drewN ?_ _ | refine Below.alloc ?_ (by first | exact Nat.le_refl _ | (simp; done) | (simp; omega) | omega) _)))
      · skip
        have E := Lib.hid (show cmfb x y z = true by unfold cmfb; simp [B0, B1, B2])
        have H0 := Lib.hid B0
        have H1 := Lib.hid B1
        have H2 := Lib.hid B2
        clear B0 B1 B2
        go_enter Try.func48, Try.ntmps48
        go_wp2_with fail
        refine (implFinite_any x _).mono ?_
        rw [H0.out]
        rintro e w' ⟨rfl, n, rfl⟩
        go_wp2_with fail
        refine (implFinite_any y _).mono ?_
        rw [H1.out]
        rintro e w' ⟨rfl, n, rfl⟩
        go_wp2_with fail
        refine (implNotNeg_any z _).mono ?_
        rw [H2.out]
        rintro e w' ⟨rfl, n, rfl⟩
        go_wp2_with (refine wpList_farith rfl _ _ _ _ _ rfl rfl _ _ _ rfl rfl ?_; intro r0 j0 g0; have f0 := Lib.hid g0; clear g0; refine Stop.go ?_)
        refine Stop.mk ?_
        go_wp2_with fail
        first | refine (implRoot_any _ _).mono ?_ | (go_at_call 67; refine (implRoot_any _ _).mono ?_)
        rintro e w' ⟨r1, j1, g1, _, rfl, rfl⟩
        have f1 := Lib.hid g1
        clear g1
        go_wp2_with (refine wpList_farith rfl _ _ _ _ _ rfl rfl _ _ _ rfl rfl ?_; intro r2 j2 g2; have f2 := Lib.hid g2; clear g2; refine Stop.go ?_)
        refine Stop.mk ?_
        go_wp2_with (refine wpList_farith rfl _ _ _ _ _ rfl rfl _ _ _ rfl rfl ?_; intro r3 j3 g3; have f3 := Lib.hid g3; clear g3; refine Stop.go ?_)
        refine Stop.mk ?_
        go_wp2_with (refine wpList_farith rfl _ _ _ _ _ rfl rfl _ _ _ rfl rfl ?_; intro r4 j4 g4; have f4 := Lib.hid g4; clear g4; refine Stop.go ?_)
        refine Stop.mk ?_
        go_wp2_with (refine wpList_farith rfl _ _ _ _ _ rfl rfl _ _ _ rfl rfl ?_; intro r5 j5 g5; have f5 := Lib.hid g5; clear g5; refine Stop.go ?_)
        refine Stop.mk ?_
        go_wp2_with fail
        first | refine (implRoot_any _ _).mono ?_ | (go_at_call 67; refine (implRoot_any _ _).mono ?_)
        rintro e w' ⟨r6, j6, g6, _, rfl, rfl⟩
        have f6 := Lib.hid g6
        clear g6
        go_wp2_with (refine wpList_farith rfl _ _ _ _ _ rfl rfl _ _ _ rfl rfl ?_; intro r7 j7 g7; have f7 := Lib.hid g7; clear g7; refine Stop.go ?_)
        refine Stop.mk ?_
        go_wp2_with (refine wpList_farith rfl _ _ _ _ _ rfl rfl _ _ _ rfl rfl ?_; intro r8 j8 g8; have f8 := Lib.hid g8; clear g8; refine Stop.go ?_)
        refine Stop.mk ?_
        go_wp2_with fail
        first | refine (implNum_any _ _).mono ?_ | (go_at_call 65; refine (implNum_any _ _).mono ?_)
        rintro e w' ⟨rfl, n9, rfl⟩
        go_wp2
        go_ret2
        exact cGiv_yes E.out (cmf_i f0.out f1.out f2.out f3.out f4.out f5.out f6.out f7.out f8.out) (by first | exact Below.refl _ _ | exact below_drewN (Below.refl _ _) _ | exact (by repeat (first | exact Below.refl _ _ | refine Below.setCell ?_ (by first | exact Nat.le_refl _ | (simp; done) | (simp; omega) | omega) _ | refine below_drewN ?_ _ | refine Below.alloc ?_ (by first | exact Nat.le_refl _ | (simp; done) | (simp; omega) | omega) _)))
set_option maxRecDepth 20000 in
theorem fnExactComfortOf_walk (x : Nat) (y : Nat) (z : Nat) (w : World) (_ : (Lit.float .f32 x).wf = true) (_ : (Lit.float .f32 y).wf = true) (_ : (Lit.float .f32 z).wf = true) : Calls Try.prog 15 #[.float .f32 x, .float .f32 y, .float .f32 z] w (Tru w) := by
  go_enter Try.func15, Try.ntmps15
  go_wp2_with fail
  refine (specComfort_any x y z _).mono ?_
  rintro _ w1 ⟨s1, hr1, rfl, hb⟩
  have Bw := Lib.hid hb
  have R1 := Lib.hid hr1
  clear hb hr1
  go_wp2_with fail
  refine (implComfort_any x y z _).mono ?_
  rintro _ w2 ⟨s2, hr2, rfl, hb⟩
  have Bw := Lib.hid (below_step Bw.out hb)
  have R2 := Lib.hid hr2
  clear hb hr2
  go_wp2_with (first | (refine wpList_up rfl Try.underlying22 Try.underlying40 _ rfl _ rfl ?_; intro _ _ _) | (go_at_call 28; refine (same_end (a := s2) (b := s1) _ (by assumption) (by assumption) (R2.out.trans R1.out.symm)).mono ?_; rintro e w' ⟨rfl, n, rfl⟩))
  go_ret
  exact Tru.below (below_drewN Bw.out _)

end Go.Proofs.Ytkjlofbnegjcoaa
