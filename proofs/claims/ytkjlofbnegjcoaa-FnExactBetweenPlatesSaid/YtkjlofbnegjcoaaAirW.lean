/- How much heat air takes from a wall: both sides, and the law. -/
import Derived.Test.YtkjlofbnegjcoaaSiz
namespace Go.Proofs.Ytkjlofbnegjcoaa
open Go.RowKit
set_option linter.unusedVariables false

def sqF (a : Nat) : Nat := cvd (fsq (cvu a))

def airX (x y z : Nat) : Nat := fop .mul .f32 1068876431 (sqF (sqF (fop .quo .f32 (adX x y) z)))
theorem airX_of {x y z r2 r3 r4 r5 : Nat} (f2 : FR .quo .f32 (adX x y) z r2) (f3 : cn .f32 r3 = cvd (fsq (cvu (cn .f32 r2)))) (f4 : cn .f32 r4 = cvd (fsq (cvu (cn .f32 r3)))) (f5 : FR .mul .f32 1068876431 r4 r5) : cn .f32 r5 = airX x y z := by
  unfold airX sqF
  simp only [f2.1, f3, f4, f5.1, fopl', fopr']

theorem specAirX_any (x y z : Nat) (w : World) (hx : fin .f32 x = true) (hy : fin .f32 y = true) : Calls Try.prog 73 #[.float .f32 x, .float .f32 y, .float .f32 z] w (Flo (fun r => cn .f32 r = airX x y z) w) := by
  have HX := Lib.hid hx
  have HY := Lib.hid hy
  clear hx hy
  go_enter Try.func73, Try.ntmps73
  go_wp2_with (refine wpList_farith rfl _ _ _ _ _ rfl rfl _ _ _ rfl rfl ?_; intro r0 j0 g0; have f0 := Lib.hid g0; clear g0; refine Stop.go ?_)
  refine Stop.mk ?_
  have SB := Lib.hid (ad_sub HX.out HY.out f0.out)
  have RM := Lib.hid SB.out.2.2
  go_wp2_with fail
  first | refine (specSize5_any _ SB.out.1 SB.out.2.1 _).mono ?_ | (go_at_call 83; refine (specSize5_any _ SB.out.1 SB.out.2.1 _).mono ?_)
  rw [RM.out]
  rintro e w' ⟨rfl, n1, rfl⟩
  go_wp2_with (refine wpList_farith rfl _ _ _ _ _ rfl rfl _ _ _ rfl rfl ?_; intro r2 j2 g2; have f2 := Lib.hid g2; clear g2; refine Stop.go ?_)
  refine Stop.mk ?_
  go_wp2_with fail
  first | refine (specRoot_any _ _).mono ?_ | (go_at_call 66; refine (specRoot_any _ _).mono ?_)
  rintro e w' ⟨r3, j3, g3, _, rfl, rfl⟩
  have f3 := Lib.hid g3
  clear g3
  go_wp2_with fail
  first | refine (specRoot_any _ _).mono ?_ | (go_at_call 66; refine (specRoot_any _ _).mono ?_)
  rintro e w' ⟨r4, j4, g4, _, rfl, rfl⟩
  have f4 := Lib.hid g4
  clear g4
  go_wp2_with (refine wpList_farith rfl _ _ _ _ _ rfl rfl _ _ _ rfl rfl ?_; intro r5 j5 g5; have f5 := Lib.hid g5; clear g5; refine Stop.go ?_)
  refine Stop.mk ?_
  have W5 := f5.out.2
  go_wp2
  go_ret
  exact ⟨_, _, airX_of f2.out f3.out f4.out f5.out, W5, rfl, by first | rfl | simp only [World.drewN_drewN]⟩

def airB (x y z : Nat) : Bool := fin .f32 x && fin .f32 y && pos z
set_option maxHeartbeats 800000 in
theorem specAir_any (x y z : Nat) (w : World) : Calls Try.prog 41 #[.float .f32 x, .float .f32 y, .float .f32 z] w (GivB (cS (airB x y z) (airX x y z)) (cB (airB x y z) (airX x y z)) w) := by
  cases B0 : fin .f32 x
  · skip
    have E := Lib.hid (show airB x y z = false by unfold airB; simp [B0])
    have H0 := Lib.hid B0
    clear B0
    go_enter Try.func41, Try.ntmps41
    go_wp2_with fail
    refine (specFinite_any x _).mono ?_
    rw [H0.out]
    rintro e w' ⟨rfl, n, rfl⟩
    go_wp2
    go_ret2
    exact cGiv_no E.out (by first | exact Below.refl _ _ | exact below_drewN (Below.refl _ _) _ | exact (by repeat (first | exact Below.refl _ _ | refine Below.setCell ?_ (by first | exact Nat.le_refl _ | (simp; done) | (simp; omega) | omega) _ | refine below_drewN ?_ _ | refine Below.alloc ?_ (by first | exact Nat.le_refl _ | (simp; done) | (simp; omega) | omega) _)))
  · skip
    cases B1 : fin .f32 y
    · skip
      have E := Lib.hid (show airB x y z = false by unfold airB; simp [B0, B1])
      have H0 := Lib.hid B0
      have H1 := Lib.hid B1
      clear B0 B1
      go_enter Try.func41, Try.ntmps41
      go_wp2_with fail
      refine (specFinite_any x _).mono ?_
      rw [H0.out]
      rintro e w' ⟨rfl, n, rfl⟩
      go_wp2_with fail
      refine (specFinite_any y _).mono ?_
      rw [H1.out]
      rintro e w' ⟨rfl, n, rfl⟩
      go_wp2
      go_ret2
      exact cGiv_no E.out (by first | exact Below.refl _ _ | exact below_drewN (Below.refl _ _) _ | exact (by repeat (first | exact Below.refl _ _ | refine Below.setCell ?_ (by first | exact Nat.le_refl _ | (simp; done) | (simp; omega) | omega) _ | refine below_drewN ?_ _ | refine Below.alloc ?_ (by first | exact Nat.le_refl _ | (simp; done) | (simp; omega) | omega) _)))
    · skip
      cases B2 : pos z
      · skip
        have E := Lib.hid (show airB x y z = false by unfold airB; simp [B0, B1, B2])
        have H0 := Lib.hid B0
        have H1 := Lib.hid B1
        have H2 := Lib.hid B2
        clear B0 B1 B2
        go_enter Try.func41, Try.ntmps41
        go_wp2_with fail
        refine (specFinite_any x _).mono ?_
        rw [H0.out]
        rintro e w' ⟨rfl, n, rfl⟩
        go_wp2_with fail
        refine (specFinite_any y _).mono ?_
        rw [H1.out]
        rintro e w' ⟨rfl, n, rfl⟩
        go_wp2_with fail
        refine (specAbove_any z _).mono ?_
        rw [H2.out]
        rintro e w' ⟨rfl, n, rfl⟩
        go_wp2
        go_ret2
        exact cGiv_no E.out (by first | exact Below.refl _ _ | exact below_drewN (Below.refl _ _) _ | exact (by repeat (first | exact Below.refl _ _ | refine Below.setCell ?_ (by first | exact Nat.le_refl _ | (simp; done) | (simp; omega) | omega) _ | refine below_drewN ?_ _ | refine Below.alloc ?_ (by first | exact Nat.le_refl _ | (simp; done) | (simp; omega) | omega) _)))
      · skip
        have E := Lib.hid (show airB x y z = true by unfold airB; simp [B0, B1, B2])
        have H0 := Lib.hid B0
        have H1 := Lib.hid B1
        have H2 := Lib.hid B2
        clear B0 B1 B2
        go_enter Try.func41, Try.ntmps41
        go_wp2_with fail
        refine (specFinite_any x _).mono ?_
        rw [H0.out]
        rintro e w' ⟨rfl, n, rfl⟩
        go_wp2_with fail
        refine (specFinite_any y _).mono ?_
        rw [H1.out]
        rintro e w' ⟨rfl, n, rfl⟩
        go_wp2_with fail
        refine (specAbove_any z _).mono ?_
        rw [H2.out]
        rintro e w' ⟨rfl, n, rfl⟩
        go_wp2_with fail
        first | refine (specAirX_any x y z _ H0.out H1.out).mono ?_ | (go_at_call 73; refine (specAirX_any x y z _ H0.out H1.out).mono ?_)
        rintro e w' ⟨r5, j5, g5, _, rfl, rfl⟩
        have f5 := Lib.hid g5
        clear g5
        go_wp2_with fail
        first | refine (specNum_any _ _).mono ?_ | (go_at_call 62; refine (specNum_any _ _).mono ?_)
        rintro e w' ⟨rfl, n9, rfl⟩
        go_wp2
        go_ret2
        exact cGiv_yes E.out f5.out (by first | exact Below.refl _ _ | exact below_drewN (Below.refl _ _) _ | exact (by repeat (first | exact Below.refl _ _ | refine Below.setCell ?_ (by first | exact Nat.le_refl _ | (simp; done) | (simp; omega) | omega) _ | refine below_drewN ?_ _ | refine Below.alloc ?_ (by first | exact Nat.le_refl _ | (simp; done) | (simp; omega) | omega) _)))
set_option maxHeartbeats 800000 in
theorem implAir_any (x y z : Nat) (w : World) : Calls Try.prog 42 #[.float .f32 x, .float .f32 y, .float .f32 z] w (GivB (cS (airB x y z) (airX x y z)) (cB (airB x y z) (airX x y z)) w) := by
  cases B0 : fin .f32 x
  · skip
    have E := Lib.hid (show airB x y z = false by unfold airB; simp [B0])
    have H0 := Lib.hid B0
    clear B0
    go_enter Try.func42, Try.ntmps42
    go_wp2_with fail
    refine (implFinite_any x _).mono ?_
    rw [H0.out]
    rintro e w' ⟨rfl, n, rfl⟩
    go_wp2
    go_ret2
    exact cGiv_no E.out (by first | exact Below.refl _ _ | exact below_drewN (Below.refl _ _) _ | exact (by repeat (first | exact Below.refl _ _ | refine Below.setCell ?_ (by first | exact Nat.le_refl _ | (simp; done) | (simp; omega) | omega) _ | refine below_drewN ?_ _ | refine Below.alloc ?_ (by first | exact Nat.le_refl _ | (simp; done) | (simp; omega) | omega) _)))
  · skip
    cases B1 : fin .f32 y
    · skip
      have E := Lib.hid (show airB x y z = false by unfold airB; simp [B0, B1])
      have H0 := Lib.hid B0
      have H1 := Lib.hid B1
      clear B0 B1
      go_enter Try.func42, Try.ntmps42
      go_wp2_with fail
      refine (implFinite_any x _).mono ?_
      rw [H0.out]
      rintro e w' ⟨rfl, n, rfl⟩
      go_wp2_with fail
      refine (implFinite_any y _).mono ?_
      rw [H1.out]
      rintro e w' ⟨rfl, n, rfl⟩
      go_wp2
      go_ret2
      exact cGiv_no E.out (by first | exact Below.refl _ _ | exact below_drewN (Below.refl _ _) _ | exact (by repeat (first | exact Below.refl _ _ | refine Below.setCell ?_ (by first | exact Nat.le_refl _ | (simp; done) | (simp; omega) | omega) _ | refine below_drewN ?_ _ | refine Below.alloc ?_ (by first | exact Nat.le_refl _ | (simp; done) | (simp; omega) | omega) _)))
    · skip
      cases B2 : pos z
      · skip
        have E := Lib.hid (show airB x y z = false by unfold airB; simp [B0, B1, B2])
        have H0 := Lib.hid B0
        have H1 := Lib.hid B1
        have H2 := Lib.hid B2
        clear B0 B1 B2
        go_enter Try.func42, Try.ntmps42
        go_wp2_with fail
        refine (implFinite_any x _).mono ?_
        rw [H0.out]
        rintro e w' ⟨rfl, n, rfl⟩
        go_wp2_with fail
        refine (implFinite_any y _).mono ?_
        rw [H1.out]
        rintro e w' ⟨rfl, n, rfl⟩
        go_wp2_with fail
        refine (implPos_any z _).mono ?_
        rw [H2.out]
        rintro e w' ⟨rfl, n, rfl⟩
        go_wp2
        go_ret2
        exact cGiv_no E.out (by first | exact Below.refl _ _ | exact below_drewN (Below.refl _ _) _ | exact (by repeat (first | exact Below.refl _ _ | refine Below.setCell ?_ (by first | exact Nat.le_refl _ | (simp; done) | (simp; omega) | omega) _ | refine below_drewN ?_ _ | refine Below.alloc ?_ (by first | exact Nat.le_refl _ | (simp; done) | (simp; omega) | omega) _)))
      · skip
        have E := Lib.hid (show airB x y z = true by unfold airB; simp [B0, B1, B2])
        have H0 := Lib.hid B0
        have H1 := Lib.hid B1
        have H2 := Lib.hid B2
        clear B0 B1 B2
        go_enter Try.func42, Try.ntmps42
        go_wp2_with fail
        refine (implFinite_any x _).mono ?_
        rw [H0.out]
        rintro e w' ⟨rfl, n, rfl⟩
        go_wp2_with fail
        refine (implFinite_any y _).mono ?_
        rw [H1.out]
        rintro e w' ⟨rfl, n, rfl⟩
        go_wp2_with fail
        refine (implPos_any z _).mono ?_
        rw [H2.out]
        rintro e w' ⟨rfl, n, rfl⟩
        go_wp2_with (refine wpList_farith rfl _ _ _ _ _ rfl rfl _ _ _ rfl rfl ?_; intro r0 j0 g0; have f0 := Lib.hid g0; clear g0; refine Stop.go ?_)
        refine Stop.mk ?_
        go_wp2_with (refine wpList_farith rfl _ _ _ _ _ rfl rfl _ _ _ rfl rfl ?_; intro r1 j1 g1; have f1 := Lib.hid g1; clear g1; refine Stop.go ?_)
        refine Stop.mk ?_
        have MX := Lib.hid (ad_max H0.out H1.out f0.out f1.out)
        go_wp2_with (refine upon_maxK _ _ _ _ _ MX.out.1 MX.out.2 ?_; intro jm; refine Stop.go ?_)
        refine Stop.mk ?_
        go_wp2_with (refine wpList_farith rfl _ _ _ _ _ rfl rfl _ _ _ rfl rfl ?_; intro r2 j2 g2; have f2 := Lib.hid g2; clear g2; refine Stop.go ?_)
        refine Stop.mk ?_
        go_wp2_with fail
        first | refine (implRoot_any _ _).mono ?_ | (go_at_call 67; refine (implRoot_any _ _).mono ?_)
        rintro e w' ⟨r3, j3, g3, _, rfl, rfl⟩
        have f3 := Lib.hid g3
        clear g3
        go_wp2_with fail
        first | refine (implRoot_any _ _).mono ?_ | (go_at_call 67; refine (implRoot_any _ _).mono ?_)
        rintro e w' ⟨r4, j4, g4, _, rfl, rfl⟩
        have f4 := Lib.hid g4
        clear g4
        go_wp2_with (refine wpList_farith rfl _ _ _ _ _ rfl rfl _ _ _ rfl rfl ?_; intro r5 j5 g5; have f5 := Lib.hid g5; clear g5; refine Stop.go ?_)
        refine Stop.mk ?_
        go_wp2_with fail
        first | refine (implNum_any _ _).mono ?_ | (go_at_call 65; refine (implNum_any _ _).mono ?_)
        rintro e w' ⟨rfl, n9, rfl⟩
        go_wp2
        go_ret2
        exact cGiv_yes E.out (airX_of f2.out f3.out f4.out f5.out) (by first | exact Below.refl _ _ | exact below_drewN (Below.refl _ _) _ | exact (by repeat (first | exact Below.refl _ _ | refine Below.setCell ?_ (by first | exact Nat.le_refl _ | (simp; done) | (simp; omega) | omega) _ | refine below_drewN ?_ _ | refine Below.alloc ?_ (by first | exact Nat.le_refl _ | (simp; done) | (simp; omega) | omega) _)))
set_option maxRecDepth 20000 in
theorem fnExactAirAlong_walk (x : Nat) (y : Nat) (z : Nat) (w : World) (_ : (Lit.float .f32 x).wf = true) (_ : (Lit.float .f32 y).wf = true) (_ : (Lit.float .f32 z).wf = true) : Calls Try.prog 12 #[.float .f32 x, .float .f32 y, .float .f32 z] w (Tru w) := by
  go_enter Try.func12, Try.ntmps12
  go_wp2_with fail
  refine (specAir_any x y z _).mono ?_
  rintro _ w1 ⟨s1, hr1, rfl, hb⟩
  have Bw := Lib.hid hb
  have R1 := Lib.hid hr1
  clear hb hr1
  go_wp2_with fail
  refine (implAir_any x y z _).mono ?_
  rintro _ w2 ⟨s2, hr2, rfl, hb⟩
  have Bw := Lib.hid (below_step Bw.out hb)
  have R2 := Lib.hid hr2
  clear hb hr2
  go_wp2_with (first | (refine wpList_up rfl Try.underlying22 Try.underlying40 _ rfl _ rfl ?_; intro _ _ _) | (go_at_call 28; refine (same_end (a := s2) (b := s1) _ (by assumption) (by assumption) (R2.out.trans R1.out.symm)).mono ?_; rintro e w' ⟨rfl, n, rfl⟩))
  go_ret
  exact Tru.below (below_drewN Bw.out _)

end Go.Proofs.Ytkjlofbnegjcoaa
