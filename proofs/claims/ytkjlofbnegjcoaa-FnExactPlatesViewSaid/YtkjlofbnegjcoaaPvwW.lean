/- How much of a strip comes to another one: both sides, and the law. -/
import Derived.Test.YtkjlofbnegjcoaaSn
namespace Go.Proofs.Ytkjlofbnegjcoaa
open Go.RowKit
set_option linter.unusedVariables false

def sqF (a : Nat) : Nat := cvd (fsq (cvu a))

def pvS (x y z : Nat) : Nat := (fop .quo .f32 (fop .sub .f32 (sqF (fop .add .f32 (fop .mul .f32 (fop .add .f32 (fop .quo .f32 x z) (fop .quo .f32 y z)) (fop .add .f32 (fop .quo .f32 x z) (fop .quo .f32 y z))) 1082130432)) (sqF (fop .add .f32 (fop .mul .f32 (fop .sub .f32 (fop .quo .f32 y z) (fop .quo .f32 x z)) (fop .sub .f32 (fop .quo .f32 y z) (fop .quo .f32 x z))) 1082130432))) (fop .mul .f32 1073741824 (fop .quo .f32 x z)))
theorem pvS_s {x y z r0 r1 r2 r3 r4 r5 r6 r7 r8 r9 r10 r11 r12 r13 r14 : Nat} (f0 : FR .quo .f32 x z r0) (f1 : FR .quo .f32 y z r1) (f2 : FR .add .f32 r0 r1 r2) (f3 : FR .add .f32 r0 r1 r3) (f4 : FR .mul .f32 r2 r3 r4) (f5 : FR .add .f32 r4 1082130432 r5) (f6 : cn .f32 r6 = cvd (fsq (cvu (cn .f32 r5)))) (f7 : FR .sub .f32 r1 r0 r7) (f8 : FR .sub .f32 r1 r0 r8) (f9 : FR .mul .f32 r7 r8 r9) (f10 : FR .add .f32 r9 1082130432 r10) (f11 : cn .f32 r11 = cvd (fsq (cvu (cn .f32 r10)))) (f12 : FR .sub .f32 r6 r11 r12) (f13 : FR .mul .f32 1073741824 r0 r13) (f14 : FR .quo .f32 r12 r13 r14) : cn .f32 r14 = pvS x y z := by
  unfold pvS sqF
  simp only [f0.1, f1.1, f2.1, f3.1, f4.1, f5.1, f6, f7.1, f8.1, f9.1, f10.1, f11, f12.1, f13.1, f14.1, fopl', fopr']

def slF (a : Nat) : Nat := sqF (fop .add .f32 (fop .mul .f32 a a) 1082130432)
theorem slant_any (a : Nat) (w : World) : Calls Try.prog 69 #[.float .f32 a] w (Flo (fun r => cn .f32 r = slF (cn .f32 a)) w) := by
  go_enter Try.func69, Try.ntmps69
  go_wp2_with (refine wpList_farith rfl _ _ _ _ _ rfl rfl _ _ _ rfl rfl ?_; intro r0 j0 g0; have f0 := Lib.hid g0; clear g0; refine Stop.go ?_)
  refine Stop.mk ?_
  go_wp2_with (refine wpList_farith rfl _ _ _ _ _ rfl rfl _ _ _ rfl rfl ?_; intro r1 j1 g1; have f1 := Lib.hid g1; clear g1; refine Stop.go ?_)
  refine Stop.mk ?_
  go_wp2_with fail
  first | refine (implRoot_any _ _).mono ?_ | (go_at_call 67; refine (implRoot_any _ _).mono ?_)
  rintro e w' ⟨r2, j2, g2, hw, rfl, rfl⟩
  have f2 := Lib.hid g2
  clear g2
  go_wp2
  go_ret
  exact ⟨_, _, by show cn .f32 r2 = slF (cn .f32 a); unfold slF sqF; rw [f2.out, f1.out.1, f0.out.1]; simp only [fopl', fopr'], hw, rfl, by first | rfl | simp only [World.drewN_drewN]⟩
theorem pvS_i {x y z r0 r1 r2 r3 r4 r5 r6 r7 r8 : Nat} (f0 : FR .quo .f32 x z r0) (f1 : FR .quo .f32 y z r1) (f2 : FR .add .f32 r0 r1 r2) (f3 : cn .f32 r3 = slF (cn .f32 r2)) (f4 : FR .sub .f32 r1 r0 r4) (f5 : cn .f32 r5 = slF (cn .f32 r4)) (f6 : FR .sub .f32 r3 r5 r6) (f7 : FR .mul .f32 1073741824 r0 r7) (f8 : FR .quo .f32 r6 r7 r8) : cn .f32 r8 = pvS x y z := by
  unfold pvS
  simp only [f0.1, f1.1, f2.1, f3, f4.1, f5, f6.1, f7.1, f8.1, slF, fopl', fopr']

def pvSb (x y z : Nat) : Bool := pos x && pos y && pos z
set_option maxHeartbeats 800000 in
theorem specPlatesView_any (x y z : Nat) (w : World) : Calls Try.prog 31 #[.float .f32 x, .float .f32 y, .float .f32 z] w (GivB (cS (pvSb x y z) (pvS x y z)) (cB (pvSb x y z) (pvS x y z)) w) := by
  cases B0 : pos x
  · skip
    have E := Lib.hid (show pvSb x y z = false by unfold pvSb; simp [B0])
    have H0 := Lib.hid B0
    clear B0
    go_enter Try.func31, Try.ntmps31
    go_wp2_with fail
    refine (specAbove_any x _).mono ?_
    rw [H0.out]
    rintro e w' ⟨rfl, n, rfl⟩
    go_wp2
    go_ret2
    exact cGiv_no E.out (by first | exact Below.refl _ _ | exact below_drewN (Below.refl _ _) _ | exact (by repeat (first | exact Below.refl _ _ | refine Below.setCell ?_ (by first | exact Nat.le_refl _ | (simp; done) | (simp; omega) | omega) _ | refine below_drewN ?_ _ | refine Below.alloc ?_ (by first | exact Nat.le_refl _ | (simp; done) | (simp; omega) | omega) _)))
  · skip
    cases B1 : pos y
    · skip
      have E := Lib.hid (show pvSb x y z = false by unfold pvSb; simp [B0, B1])
      have H0 := Lib.hid B0
      have H1 := Lib.hid B1
      clear B0 B1
      go_enter Try.func31, Try.ntmps31
      go_wp2_with fail
      refine (specAbove_any x _).mono ?_
      rw [H0.out]
      rintro e w' ⟨rfl, n, rfl⟩
      go_wp2_with fail
      refine (specAbove_any y _).mono ?_
      rw [H1.out]
      rintro e w' ⟨rfl, n, rfl⟩
      go_wp2
      go_ret2
      exact cGiv_no E.out (by first | exact Below.refl _ _ | exact below_drewN (Below.refl _ _) _ | exact (by repeat (first | exact Below.refl _ _ | refine Below.setCell ?_ (by first | exact Nat.le_refl _ | (simp; done) | (simp; omega) | omega) _ | refine below_drewN ?_ _ | refine Below.alloc ?_ (by first | exact Nat.le_refl _ | (simp; done) | (simp; omega) | omega) _)))
    · skip
      cases B2 : pos z
      · skip
        have E := Lib.hid (show pvSb x y z = false by unfold pvSb; simp [B0, B1, B2])
        have H0 := Lib.hid B0
        have H1 := Lib.hid B1
        have H2 := Lib.hid B2
        clear B0 B1 B2
        go_enter Try.func31, Try.ntmps31
        go_wp2_with fail
        refine (specAbove_any x _).mono ?_
        rw [H0.out]
        rintro e w' ⟨rfl, n, rfl⟩
        go_wp2_with fail
        refine (specAbove_any y _).mono ?_
        rw [H1.out]
        rintro e w' ⟨rfl, n, rfl⟩
        go_wp2_with fail
        refine (specAbove_any z _).mono ?_
        rw [H2.out]
        rintro e w' ⟨rfl, n, rfl⟩
        go_wp2
        go_ret2
        exact cGiv_no E.out (by first | exact Below.refl _ _ | exact below_drewN (Below.refl _ _) _ | exact (by repeat (first | exact Below.refl _ _ | refine Below.setCell ?_ (by first | exact Nat.le_refl _ | (simp; done) | (simp; omega) | omega) _ | refine below_drewN ?_ _ | refine Below.alloc ?_ (by first | exact Nat.le_refl _ | (simp; done) | (simp; omega) | omega) _)))
      · skip
        have E := Lib.hid (show pvSb x y z = true by unfold pvSb; simp [B0, B1, B2])
        have H0 := Lib.hid B0
        have H1 := Lib.hid B1
        have H2 := Lib.hid B2
        clear B0 B1 B2
        go_enter Try.func31, Try.ntmps31
        go_wp2_with fail
        refine (specAbove_any x _).mono ?_
        rw [H0.out]
        rintro e w' ⟨rfl, n, rfl⟩
        go_wp2_with fail
        refine (specAbove_any y _).mono ?_
        rw [H1.out]
        rintro e w' ⟨rfl, n, rfl⟩
        go_wp2_with fail
        refine (specAbove_any z _).mono ?_
        rw [H2.out]
        rintro e w' ⟨rfl, n, rfl⟩
        go_wp2_with (refine wpList_farith rfl _ _ _ _ _ rfl rfl _ _ _ rfl rfl ?_; intro r0 j0 g0; have f0 := Lib.hid g0; clear g0; refine Stop.go ?_)
        refine Stop.mk ?_
        go_wp2_with (refine wpList_farith rfl _ _ _ _ _ rfl rfl _ _ _ rfl rfl ?_; intro r1 j1 g1; have f1 := Lib.hid g1; clear g1; refine Stop.go ?_)
        refine Stop.mk ?_
        go_wp2_with (refine wpList_farith rfl _ _ _ _ _ rfl rfl _ _ _ rfl rfl ?_; intro r2 j2 g2; have f2 := Lib.hid g2; clear g2; refine Stop.go ?_)
        refine Stop.mk ?_
        go_wp2_with (refine wpList_farith rfl _ _ _ _ _ rfl rfl _ _ _ rfl rfl ?_; intro r3 j3 g3; have f3 := Lib.hid g3; clear g3; refine Stop.go ?_)
        refine Stop.mk ?_
        go_wp2_with (refine wpList_farith rfl _ _ _ _ _ rfl rfl _ _ _ rfl rfl ?_; intro r4 j4 g4; have f4 := Lib.hid g4; clear g4; refine Stop.go ?_)
        refine Stop.mk ?_
        go_wp2_with (refine wpList_farith rfl _ _ _ _ _ rfl rfl _ _ _ rfl rfl ?_; intro r5 j5 g5; have f5 := Lib.hid g5; clear g5; refine Stop.go ?_)
        refine Stop.mk ?_
        go_wp2_with fail
        first | refine (specRoot_any _ _).mono ?_ | (go_at_call 66; refine (specRoot_any _ _).mono ?_)
        rintro e w' ⟨r6, j6, g6, _, rfl, rfl⟩
        have f6 := Lib.hid g6
        clear g6
        go_wp2_with (refine wpList_farith rfl _ _ _ _ _ rfl rfl _ _ _ rfl rfl ?_; intro r7 j7 g7; have f7 := Lib.hid g7; clear g7; refine Stop.go ?_)
        refine Stop.mk ?_
        go_wp2_with (refine wpList_farith rfl _ _ _ _ _ rfl rfl _ _ _ rfl rfl ?_; intro r8 j8 g8; have f8 := Lib.hid g8; clear g8; refine Stop.go ?_)
        refine Stop.mk ?_
        go_wp2_with (refine wpList_farith rfl _ _ _ _ _ rfl rfl _ _ _ rfl rfl ?_; intro r9 j9 g9; have f9 := Lib.hid g9; clear g9; refine Stop.go ?_)
        refine Stop.mk ?_
        go_wp2_with (refine wpList_farith rfl _ _ _ _ _ rfl rfl _ _ _ rfl rfl ?_; intro r10 j10 g10; have f10 := Lib.hid g10; clear g10; refine Stop.go ?_)
        refine Stop.mk ?_
        go_wp2_with fail
        first | refine (specRoot_any _ _).mono ?_ | (go_at_call 66; refine (specRoot_any _ _).mono ?_)
        rintro e w' ⟨r11, j11, g11, _, rfl, rfl⟩
        have f11 := Lib.hid g11
        clear g11
        go_wp2_with (refine wpList_farith rfl _ _ _ _ _ rfl rfl _ _ _ rfl rfl ?_; intro r12 j12 g12; have f12 := Lib.hid g12; clear g12; refine Stop.go ?_)
        refine Stop.mk ?_
        go_wp2_with (refine wpList_farith rfl _ _ _ _ _ rfl rfl _ _ _ rfl rfl ?_; intro r13 j13 g13; have f13 := Lib.hid g13; clear g13; refine Stop.go ?_)
        refine Stop.mk ?_
        go_wp2_with (refine wpList_farith rfl _ _ _ _ _ rfl rfl _ _ _ rfl rfl ?_; intro r14 j14 g14; have f14 := Lib.hid g14; clear g14; refine Stop.go ?_)
        refine Stop.mk ?_
        go_wp2_with fail
        first | refine (specNum_any _ _).mono ?_ | (go_at_call 62; refine (specNum_any _ _).mono ?_)
        rintro e w' ⟨rfl, n9, rfl⟩
        go_wp2
        go_ret2
        exact cGiv_yes E.out (pvS_s f0.out f1.out f2.out f3.out f4.out f5.out f6.out f7.out f8.out f9.out f10.out f11.out f12.out f13.out f14.out) (by first | exact Below.refl _ _ | exact below_drewN (Below.refl _ _) _ | exact (by repeat (first | exact Below.refl _ _ | refine Below.setCell ?_ (by first | exact Nat.le_refl _ | (simp; done) | (simp; omega) | omega) _ | refine below_drewN ?_ _ | refine Below.alloc ?_ (by first | exact Nat.le_refl _ | (simp; done) | (simp; omega) | omega) _)))
set_option maxHeartbeats 800000 in
theorem implPlatesView_any (x y z : Nat) (w : World) : Calls Try.prog 32 #[.float .f32 x, .float .f32 y, .float .f32 z] w (GivB (cS (pvSb x y z) (pvS x y z)) (cB (pvSb x y z) (pvS x y z)) w) := by
  cases B0 : pos x
  · skip
    have E := Lib.hid (show pvSb x y z = false by unfold pvSb; simp [B0])
    have H0 := Lib.hid B0
    clear B0
    go_enter Try.func32, Try.ntmps32
    go_wp2_with fail
    refine (implPos_any x _).mono ?_
    rw [H0.out]
    rintro e w' ⟨rfl, n, rfl⟩
    go_wp2
    go_ret2
    exact cGiv_no E.out (by first | exact Below.refl _ _ | exact below_drewN (Below.refl _ _) _ | exact (by repeat (first | exact Below.refl _ _ | refine Below.setCell ?_ (by first | exact Nat.le_refl _ | (simp; done) | (simp; omega) | omega) _ | refine below_drewN ?_ _ | refine Below.alloc ?_ (by first | exact Nat.le_refl _ | (simp; done) | (simp; omega) | omega) _)))
  · skip
    cases B1 : pos y
    · skip
      have E := Lib.hid (show pvSb x y z = false by unfold pvSb; simp [B0, B1])
      have H0 := Lib.hid B0
      have H1 := Lib.hid B1
      clear B0 B1
      go_enter Try.func32, Try.ntmps32
      go_wp2_with fail
      refine (implPos_any x _).mono ?_
      rw [H0.out]
      rintro e w' ⟨rfl, n, rfl⟩
      go_wp2_with fail
      refine (implPos_any y _).mono ?_
      rw [H1.out]
      rintro e w' ⟨rfl, n, rfl⟩
      go_wp2
      go_ret2
      exact cGiv_no E.out (by first | exact Below.refl _ _ | exact below_drewN (Below.refl _ _) _ | exact (by repeat (first | exact Below.refl _ _ | refine Below.setCell ?_ (by first | exact Nat.le_refl _ | (simp; done) | (simp; omega) | omega) _ | refine below_drewN ?_ _ | refine Below.alloc ?_ (by first | exact Nat.le_refl _ | (simp; done) | (simp; omega) | omega) _)))
    · skip
      cases B2 : pos z
      · skip
        have E := Lib.hid (show pvSb x y z = false by unfold pvSb; simp [B0, B1, B2])
        have H0 := Lib.hid B0
        have H1 := Lib.hid B1
        have H2 := Lib.hid B2
        clear B0 B1 B2
        go_enter Try.func32, Try.ntmps32
        go_wp2_with fail
        refine (implPos_any x _).mono ?_
        rw [H0.out]
        rintro e w' ⟨rfl, n, rfl⟩
        go_wp2_with fail
        refine (implPos_any y _).mono ?_
        rw [H1.out]
        rintro e w' ⟨rfl, n, rfl⟩
        go_wp2_with fail
        refine (implPos_any z _).mono ?_
        rw [H2.out]
        rintro e w' ⟨rfl, n, rfl⟩
        go_wp2
        go_ret2
        exact cGiv_no E.out (by first | exact Below.refl _ _ | exact below_drewN (Below.refl _ _) _ | exact (by repeat (first | exact Below.refl _ _ | refine Below.setCell ?_ (by first | exact Nat.le_refl _ | (simp; done) | (simp; omega) | omega) _ | refine below_drewN ?_ _ | refine Below.alloc ?_ (by first | exact Nat.le_refl _ | (simp; done) | (simp; omega) | omega) _)))
      · skip
        have E := Lib.hid (show pvSb x y z = true by unfold pvSb; simp [B0, B1, B2])
        have H0 := Lib.hid B0
        have H1 := Lib.hid B1
        have H2 := Lib.hid B2
        clear B0 B1 B2
        go_enter Try.func32, Try.ntmps32
        go_wp2_with fail
        refine (implPos_any x _).mono ?_
        rw [H0.out]
        rintro e w' ⟨rfl, n, rfl⟩
        go_wp2_with fail
        refine (implPos_any y _).mono ?_
        rw [H1.out]
        rintro e w' ⟨rfl, n, rfl⟩
        go_wp2_with fail
        refine (implPos_any z _).mono ?_
        rw [H2.out]
        rintro e w' ⟨rfl, n, rfl⟩
        go_wp2_with (refine wpList_farith rfl _ _ _ _ _ rfl rfl _ _ _ rfl rfl ?_; intro r0 j0 g0; have f0 := Lib.hid g0; clear g0; refine Stop.go ?_)
        refine Stop.mk ?_
        go_wp2_with (refine wpList_farith rfl _ _ _ _ _ rfl rfl _ _ _ rfl rfl ?_; intro r1 j1 g1; have f1 := Lib.hid g1; clear g1; refine Stop.go ?_)
        refine Stop.mk ?_
        go_wp2_with (refine wpList_farith rfl _ _ _ _ _ rfl rfl _ _ _ rfl rfl ?_; intro r2 j2 g2; have f2 := Lib.hid g2; clear g2; refine Stop.go ?_)
        refine Stop.mk ?_
        go_wp2_with fail
        first | refine (slant_any _ _).mono ?_ | (go_at_call 69; refine (slant_any _ _).mono ?_)
        rintro e w' ⟨r3, j3, g3, _, rfl, rfl⟩
        have f3 := Lib.hid g3
        clear g3
        go_wp2_with (refine wpList_farith rfl _ _ _ _ _ rfl rfl _ _ _ rfl rfl ?_; intro r4 j4 g4; have f4 := Lib.hid g4; clear g4; refine Stop.go ?_)
        refine Stop.mk ?_
        go_wp2_with fail
        first | refine (slant_any _ _).mono ?_ | (go_at_call 69; refine (slant_any _ _).mono ?_)
        rintro e w' ⟨r5, j5, g5, _, rfl, rfl⟩
        have f5 := Lib.hid g5
        clear g5
        go_wp2_with (refine wpList_farith rfl _ _ _ _ _ rfl rfl _ _ _ rfl rfl ?_; intro r6 j6 g6; have f6 := Lib.hid g6; clear g6; refine Stop.go ?_)
        refine Stop.mk ?_
        go_wp2_with (refine wpList_farith rfl _ _ _ _ _ rfl rfl _ _ _ rfl rfl ?_; intro r7 j7 g7; have f7 := Lib.hid g7; clear g7; refine Stop.go ?_)
        refine Stop.mk ?_
        go_wp2_with (refine wpList_farith rfl _ _ _ _ _ rfl rfl _ _ _ rfl rfl ?_; intro r8 j8 g8; have f8 := Lib.hid g8; clear g8; refine Stop.go ?_)
        refine Stop.mk ?_
        go_wp2_with fail
        first | refine (implNum_any _ _).mono ?_ | (go_at_call 65; refine (implNum_any _ _).mono ?_)
        rintro e w' ⟨rfl, n9, rfl⟩
        go_wp2
        go_ret2
        exact cGiv_yes E.out (pvS_i f0.out f1.out f2.out f3.out f4.out f5.out f6.out f7.out f8.out) (by first | exact Below.refl _ _ | exact below_drewN (Below.refl _ _) _ | exact (by repeat (first | exact Below.refl _ _ | refine Below.setCell ?_ (by first | exact Nat.le_refl _ | (simp; done) | (simp; omega) | omega) _ | refine below_drewN ?_ _ | refine Below.alloc ?_ (by first | exact Nat.le_refl _ | (simp; done) | (simp; omega) | omega) _)))
set_option maxRecDepth 20000 in
theorem fnExactPlatesView_walk (x : Nat) (y : Nat) (z : Nat) (w : World) (_ : (Lit.float .f32 x).wf = true) (_ : (Lit.float .f32 y).wf = true) (_ : (Lit.float .f32 z).wf = true) : Calls Try.prog 8 #[.float .f32 x, .float .f32 y, .float .f32 z] w (Tru w) := by
  go_enter Try.func8, Try.ntmps8
  go_wp2_with fail
  refine (specPlatesView_any x y z _).mono ?_
  rintro _ w1 ⟨s1, hr1, rfl, hb⟩
  have Bw := Lib.hid hb
  have R1 := Lib.hid hr1
  clear hb hr1
  go_wp2_with fail
  refine (implPlatesView_any x y z _).mono ?_
  rintro _ w2 ⟨s2, hr2, rfl, hb⟩
  have Bw := Lib.hid (below_step Bw.out hb)
  have R2 := Lib.hid hr2
  clear hb hr2
  go_wp2_with (first | (refine wpList_up rfl Try.underlying22 Try.underlying40 _ rfl _ rfl ?_; intro _ _ _) | (go_at_call 28; refine (same_end (a := s2) (b := s1) _ (by assumption) (by assumption) (R2.out.trans R1.out.symm)).mono ?_; rintro e w' ⟨rfl, n, rfl⟩))
  go_ret
  exact Tru.below (below_drewN Bw.out _)

end Go.Proofs.Ytkjlofbnegjcoaa
