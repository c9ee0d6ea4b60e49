/- How much a face shines: both sides, and the law. -/
import Derived.Test.YtkjlofbnegjcoaaSn
namespace Go.Proofs.Ytkjlofbnegjcoaa
open Go.RowKit
set_option linter.unusedVariables false

def shX (x y : Nat) : Nat := (fop .mul .f32 (fop .mul .f32 (fop .mul .f32 (fop .mul .f32 (fop .mul .f32 1085632676 y) (fop .mul .f32 1008981770 x)) (fop .mul .f32 1008981770 x)) (fop .mul .f32 1008981770 x)) (fop .mul .f32 1008981770 x))
def shP (x y : Nat) : Nat → Nat
  | 0 => fop .mul .f32 1085632676 y
  | k + 1 => fop .mul .f32 (shP x y k) (fop .mul .f32 1008981770 x)
theorem shP4 (x y : Nat) : shP x y 4 = shX x y := rfl
theorem shX_i {x y r0 r1 r2 r3 r4 r5 : Nat} (f0 : FR .mul .f32 1008981770 x r0) (f1 : FR .mul .f32 1085632676 y r1) (f2 : FR .mul .f32 r1 r0 r2) (f3 : FR .mul .f32 r2 r0 r3) (f4 : FR .mul .f32 r3 r0 r4) (f5 : FR .mul .f32 r4 r0 r5) : cn .f32 r5 = shX x y := by
  unfold shX
  simp only [f0.1, f1.1, f2.1, f3.1, f4.1, f5.1, fopl', fopr']

theorem shP_start {x y r : Nat} (f : FR .mul .f32 1085632676 y r) : cn .f32 r = shP x y 0 := by rw [f.1]; unfold shP; simp only [fopl', fopr']
theorem shP_step {x y q r s k : Nat} (hq : cn .f32 q = fop .mul .f32 1008981770 x) (hr : cn .f32 r = shP x y k) (f : FR .mul .f32 r q s) : cn .f32 s = shP x y (k + 1) := by rw [f.1, hq, hr]; rfl
theorem shQ_of {x q : Nat} (f : FR .mul .f32 1008981770 x q) : cn .f32 q = fop .mul .f32 1008981770 x := by rw [f.1]; simp only [fopl', fopr']

/-- how much a face shines: a number, the world as it was but for questions -/
theorem specShineX_any (x y : Nat) (w : World) : Calls Try.prog 63 #[.float .f32 x, .float .f32 y] w (Flo (fun r => cn .f32 r = shX x y) w) := by
  go_enter Try.func63, Try.ntmps63
  go_wp2_with (refine wpList_farith rfl _ _ _ _ _ rfl rfl _ _ _ rfl rfl ?_; intro q0 j0 g0; have f0 := Lib.hid g0; clear g0; refine Stop.go ?_)
  refine Stop.mk ?_
  go_wp2_with (refine wpList_farith rfl _ _ _ _ _ rfl rfl _ _ _ rfl rfl ?_; intro r0 j1 g1; have f1 := Lib.hid g1; clear g1; refine Stop.go ?_)
  refine Stop.mk ?_
  have Q := Lib.hid (shQ_of f0.out)
  have S := Lib.hid (shP_start (x := x) f1.out)
  have W0 := f1.out.2
  clear f0 f1
  go_wp2
  go_loopw [6, 7] (fun r k wr => ∃ j rv n : Nat, k = .int .i64 (j : Int) ∧ j ≤ 4 ∧ r = .float .f32 rv ∧ wr = w.drewN n ∧ (Lit.float .f32 rv).wf = true ∧ Hid (cn .f32 rv = shP x y j)) (fun _ k _ => (4 - intOf k).toNat)
  case atStart => exact ⟨0, r0, _, rfl, by omega, rfl, by first | rfl | (rw [World.drewN_drewN]), W0, S⟩
  case round =>
    obtain ⟨j, rv, n, rfl, hj, rfl, rfl, hw, hc⟩ := hrel
    by_cases hk : j < 4
    · go_wp2_with (refine wpList_farith rfl _ _ _ _ _ rfl rfl _ _ _ rfl rfl ?_; intro r1 j2 f2)
      go_roundw
      case rel => exact ⟨j + 1, r1, _, by go_num, by omega, rfl, rfl, f2.2, Lib.hid (shP_step Q.out hc.out f2)⟩
      case measure => simp [intOf]; omega
    · have ej : j = 4 := by omega
      subst ej
      go_wp2
      go_ret
      exact ⟨_, _, hc.out.trans (shP4 x y), hw, rfl, rfl⟩

def shXb (x y : Nat) : Bool := lst x && shr y
set_option maxHeartbeats 800000 in
theorem specShineOf_any (x y : Nat) (w : World) : Calls Try.prog 26 #[.float .f32 x, .float .f32 y] w (GivB (cS (shXb x y) (shX x y)) (cB (shXb x y) (shX x y)) w) := by
  cases B0 : lst x
  · skip
    have E := Lib.hid (show shXb x y = false by unfold shXb; simp [B0])
    have H0 := Lib.hid B0
    clear B0
    go_enter Try.func26, Try.ntmps26
    go_wp2_with fail
    refine (specLeast_any x _).mono ?_
    rw [H0.out]
    rintro e w' ⟨rfl, n, rfl⟩
    go_wp2
    go_ret2
    exact cGiv_no E.out (by first | exact Below.refl _ _ | exact below_drewN (Below.refl _ _) _ | exact (by repeat (first | exact Below.refl _ _ | refine Below.setCell ?_ (by first | exact Nat.le_refl _ | (simp; done) | (simp; omega) | omega) _ | refine below_drewN ?_ _ | refine Below.alloc ?_ (by first | exact Nat.le_refl _ | (simp; done) | (simp; omega) | omega) _)))
  · skip
    cases B1 : shr y
    · skip
      have E := Lib.hid (show shXb x y = false by unfold shXb; simp [B0, B1])
      have H0 := Lib.hid B0
      have H1 := Lib.hid B1
      clear B0 B1
      go_enter Try.func26, Try.ntmps26
      go_wp2_with fail
      refine (specLeast_any x _).mono ?_
      rw [H0.out]
      rintro e w' ⟨rfl, n, rfl⟩
      go_wp2_with fail
      refine (specShare_any y _).mono ?_
      rw [H1.out]
      rintro e w' ⟨rfl, rfl⟩
      go_wp2
      go_ret2
      exact cGiv_no E.out (by first | exact Below.refl _ _ | exact below_drewN (Below.refl _ _) _ | exact (by repeat (first | exact Below.refl _ _ | refine Below.setCell ?_ (by first | exact Nat.le_refl _ | (simp; done) | (simp; omega) | omega) _ | refine below_drewN ?_ _ | refine Below.alloc ?_ (by first | exact Nat.le_refl _ | (simp; done) | (simp; omega) | omega) _)))
    · skip
      have E := Lib.hid (show shXb x y = true by unfold shXb; simp [B0, B1])
      have H0 := Lib.hid B0
      have H1 := Lib.hid B1
      clear B0 B1
      go_enter Try.func26, Try.ntmps26
      go_wp2_with fail
      refine (specLeast_any x _).mono ?_
      rw [H0.out]
      rintro e w' ⟨rfl, n, rfl⟩
      go_wp2_with fail
      refine (specShare_any y _).mono ?_
      rw [H1.out]
      rintro e w' ⟨rfl, rfl⟩
      go_wp2_with fail
      refine (specShineX_any _ _ _).mono ?_
      rintro e w' ⟨r5, j5, g5, _, rfl, rfl⟩
      have f5 := Lib.hid g5
      clear g5
      go_wp2_with fail
      first | refine (specNum_any _ _).mono ?_ | (go_at_call 62; refine (specNum_any _ _).mono ?_)
      rintro e w' ⟨rfl, n9, rfl⟩
      go_wp2
      go_ret2
      exact cGiv_yes E.out f5.out (by first | exact Below.refl _ _ | exact below_drewN (Below.refl _ _) _ | exact (by repeat (first | exact Below.refl _ _ | refine Below.setCell ?_ (by first | exact Nat.le_refl _ | (simp; done) | (simp; omega) | omega) _ | refine below_drewN ?_ _ | refine Below.alloc ?_ (by first | exact Nat.le_refl _ | (simp; done) | (simp; omega) | omega) _)))
set_option maxHeartbeats 800000 in
theorem implShineOf_any (x y : Nat) (w : World) : Calls Try.prog 27 #[.float .f32 x, .float .f32 y] w (GivB (cS (shXb x y) (shX x y)) (cB (shXb x y) (shX x y)) w) := by
  cases B0 : lst x
  · skip
    have E := Lib.hid (show shXb x y = false by unfold shXb; simp [B0])
    have H0 := Lib.hid B0
    clear B0
    go_enter Try.func27, Try.ntmps27
    go_wp2_with fail
    refine (implNotNeg_any x _).mono ?_
    rw [H0.out]
    rintro e w' ⟨rfl, n, rfl⟩
    go_wp2
    go_ret2
    exact cGiv_no E.out (by first | exact Below.refl _ _ | exact below_drewN (Below.refl _ _) _ | exact (by repeat (first | exact Below.refl _ _ | refine Below.setCell ?_ (by first | exact Nat.le_refl _ | (simp; done) | (simp; omega) | omega) _ | refine below_drewN ?_ _ | refine Below.alloc ?_ (by first | exact Nat.le_refl _ | (simp; done) | (simp; omega) | omega) _)))
  · skip
    cases B1 : shr y
    · skip
      have E := Lib.hid (show shXb x y = false by unfold shXb; simp [B0, B1])
      have H0 := Lib.hid B0
      have H1 := Lib.hid B1
      clear B0 B1
      go_enter Try.func27, Try.ntmps27
      go_wp2_with fail
      refine (implNotNeg_any x _).mono ?_
      rw [H0.out]
      rintro e w' ⟨rfl, n, rfl⟩
      go_wp2_with fail
      refine (implShare_any y _).mono ?_
      rw [H1.out]
      rintro e w' ⟨rfl, rfl⟩
      go_wp2
      go_ret2
      exact cGiv_no E.out (by first | exact Below.refl _ _ | exact below_drewN (Below.refl _ _) _ | exact (by repeat (first | exact Below.refl _ _ | refine Below.setCell ?_ (by first | exact Nat.le_refl _ | (simp; done) | (simp; omega) | omega) _ | refine below_drewN ?_ _ | refine Below.alloc ?_ (by first | exact Nat.le_refl _ | (simp; done) | (simp; omega) | omega) _)))
    · skip
      have E := Lib.hid (show shXb x y = true by unfold shXb; simp [B0, B1])
      have H0 := Lib.hid B0
      have H1 := Lib.hid B1
      clear B0 B1
      go_enter Try.func27, Try.ntmps27
      go_wp2_with fail
      refine (implNotNeg_any x _).mono ?_
      rw [H0.out]
      rintro e w' ⟨rfl, n, rfl⟩
      go_wp2_with fail
      refine (implShare_any y _).mono ?_
      rw [H1.out]
      rintro e w' ⟨rfl, rfl⟩
      go_wp2_with (refine wpList_farith rfl _ _ _ _ _ rfl rfl _ _ _ rfl rfl ?_; intro r0 j0 g0; have f0 := Lib.hid g0; clear g0; refine Stop.go ?_)
      refine Stop.mk ?_
      go_wp2_with (refine wpList_farith rfl _ _ _ _ _ rfl rfl _ _ _ rfl rfl ?_; intro r1 j1 g1; have f1 := Lib.hid g1; clear g1; refine Stop.go ?_)
      refine Stop.mk ?_
      go_wp2_with (refine wpList_farith rfl _ _ _ _ _ rfl rfl _ _ _ rfl rfl ?_; intro r2 j2 g2; have f2 := Lib.hid g2; clear g2; refine Stop.go ?_)
      refine Stop.mk ?_
      go_wp2_with (refine wpList_farith rfl _ _ _ _ _ rfl rfl _ _ _ rfl rfl ?_; intro r3 j3 g3; have f3 := Lib.hid g3; clear g3; refine Stop.go ?_)
      refine Stop.mk ?_
      go_wp2_with (refine wpList_farith rfl _ _ _ _ _ rfl rfl _ _ _ rfl rfl ?_; intro r4 j4 g4; have f4 := Lib.hid g4; clear g4; refine Stop.go ?_)
      refine Stop.mk ?_
      go_wp2_with (refine wpList_farith rfl _ _ _ _ _ rfl rfl _ _ _ rfl rfl ?_; intro r5 j5 g5; have f5 := Lib.hid g5; clear g5; refine Stop.go ?_)
      refine Stop.mk ?_
      go_wp2_with fail
      first | refine (implNum_any _ _).mono ?_ | (go_at_call 65; refine (implNum_any _ _).mono ?_)
      rintro e w' ⟨rfl, n9, rfl⟩
      go_wp2
      go_ret2
      exact cGiv_yes E.out (shX_i f0.out f1.out f2.out f3.out f4.out f5.out) (by first | exact Below.refl _ _ | exact below_drewN (Below.refl _ _) _ | exact (by repeat (first | exact Below.refl _ _ | refine Below.setCell ?_ (by first | exact Nat.le_refl _ | (simp; done) | (simp; omega) | omega) _ | refine below_drewN ?_ _ | refine Below.alloc ?_ (by first | exact Nat.le_refl _ | (simp; done) | (simp; omega) | omega) _)))
set_option maxRecDepth 20000 in
theorem fnExactShineOf_walk (x : Nat) (y : Nat) (w : World) (_ : (Lit.float .f32 x).wf = true) (_ : (Lit.float .f32 y).wf = true) : Calls Try.prog 6 #[.float .f32 x, .float .f32 y] w (Tru w) := by
  go_enter Try.func6, Try.ntmps6
  go_wp2_with fail
  refine (specShineOf_any x y _).mono ?_
  rintro _ w1 ⟨s1, hr1, rfl, hb⟩
  have Bw := Lib.hid hb
  have R1 := Lib.hid hr1
  clear hb hr1
  go_wp2_with fail
  refine (implShineOf_any x y _).mono ?_
  rintro _ w2 ⟨s2, hr2, rfl, hb⟩
  have Bw := Lib.hid (below_step Bw.out hb)
  have R2 := Lib.hid hr2
  clear hb hr2
  go_wp2_with (first | (refine wpList_up rfl Try.underlying22 Try.underlying40 _ rfl _ rfl ?_; intro _ _ _) | (go_at_call 28; refine (same_end (a := s2) (b := s1) _ (by assumption) (by assumption) (R2.out.trans R1.out.symm)).mono ?_; rintro e w' ⟨rfl, n, rfl⟩))
  go_ret
  exact Tru.below (below_drewN Bw.out _)

end Go.Proofs.Ytkjlofbnegjcoaa
