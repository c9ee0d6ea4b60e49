/- How far waves of warmth reach. -/
import Derived.Test.YtplepddciilbdaaGiv
import Derived.Test.YtplepddciilbdaaRoot
import Derived.Deep.RegionWith
namespace Go.Proofs.Ytplepddciilbdaa
open Go.RowKit

def waveS (x y z : Nat) : Nat := cvd (fsq (cvu (fop .quo .f32 (cn .f32 x) (fop .mul .f32 (fop .mul .f32 (cn .f32 y) (cn .f32 1078530011)) (cn .f32 z)))))
theorem cn_fop (op : BinOp) (k : FloatKind) (x y : Nat) : cn k (fop op k x y) = fop op k x y := by
  unfold fop
  cases h : floatBits op k x y with
  | none => exact cn_of_nan (nn_qn k)
  | some r => exact cn_of_num (floatBits_num h)
theorem wave_val {x y z m1 m2 q r : Nat} (h1 : FR .mul .f32 y 1078530011 m1) (h2 : FR .mul .f32 m1 z m2) (h3 : FR .quo .f32 x m2 q) (hr : cn .f32 r = cvd (fsq (cvu (cn .f32 q)))) : cn .f32 r = waveS x y z := by
  rw [hr, h3.1, h2.1, h1.1]
  rfl

theorem specWave_no (x y z : Nat) (w : World) (h : (pos x && pos y && pos z) = false) : Calls Try.prog 40 #[.float .f32 x, .float .f32 y, .float .f32 z] w (GivB 0 false w) := by
  cases B0 : pos x
  · clear h
    go_enter Try.func40, Try.ntmps40
    go_wp2_with (first | (go_at_call_of 74 x; refine (specAbove_any x _).mono ?_; rw [B0]; rintro e w' ⟨rfl, n, rfl⟩))
    go_ret2
    exact GivB.no (by first | exact Below.refl _ _ | exact below_drewN (Below.refl _ _) _)
  · cases B1 : pos y
    · clear h
      go_enter Try.func40, Try.ntmps40
      go_wp2_with (first | (go_at_call_of 74 x; refine (specAbove_any x _).mono ?_; rw [B0]; rintro e w' ⟨rfl, n, rfl⟩) | (go_at_call_of 74 y; refine (specAbove_any y _).mono ?_; rw [B1]; rintro e w' ⟨rfl, n, rfl⟩))
      go_ret2
      exact GivB.no (by first | exact Below.refl _ _ | exact below_drewN (Below.refl _ _) _)
    · cases B2 : pos z
      · clear h
        go_enter Try.func40, Try.ntmps40
        go_wp2_with (first | (go_at_call_of 74 x; refine (specAbove_any x _).mono ?_; rw [B0]; rintro e w' ⟨rfl, n, rfl⟩) | (go_at_call_of 74 y; refine (specAbove_any y _).mono ?_; rw [B1]; rintro e w' ⟨rfl, n, rfl⟩) | (go_at_call_of 74 z; refine (specAbove_any z _).mono ?_; rw [B2]; rintro e w' ⟨rfl, n, rfl⟩))
        go_ret2
        exact GivB.no (by first | exact Below.refl _ _ | exact below_drewN (Below.refl _ _) _)
      · simp [B0, B1, B2] at h

theorem specWave_yes (x y z : Nat) (w : World) (B0 : pos x = true) (B1 : pos y = true) (B2 : pos z = true) : Calls Try.prog 40 #[.float .f32 x, .float .f32 y, .float .f32 z] w (GivB (ifF (waveS x y z)) (fin .f32 (waveS x y z)) w) := by
  go_enter Try.func40, Try.ntmps40
  go_wp2_with (first | (go_at_call_of 74 x; refine (specAbove_any x _).mono ?_; rw [B0]; rintro e w' ⟨rfl, n, rfl⟩) | (go_at_call_of 74 y; refine (specAbove_any y _).mono ?_; rw [B1]; rintro e w' ⟨rfl, n, rfl⟩) | (go_at_call_of 74 z; refine (specAbove_any z _).mono ?_; rw [B2]; rintro e w' ⟨rfl, n, rfl⟩) | (refine wpList_farith rfl _ _ _ _ _ rfl rfl _ _ _ rfl rfl ?_; intro _ _ _) | (go_at_call 75; refine (specRoot_any _ _).mono ?_; rintro e w' ⟨r, n, hr, _, rfl, rfl⟩) | (go_at_call 56; refine (specNum_any _ _).mono ?_; rintro e w' ⟨rfl, n, rfl⟩))
  go_ret2
  exact GivB.num (wave_val (by assumption) (by assumption) (by assumption) hr) (below_drewN (Below.refl _ _) _)

theorem implWave_no (x y z : Nat) (w : World) (h : (pos x && pos y && pos z) = false) : Calls Try.prog 41 #[.float .f32 x, .float .f32 y, .float .f32 z] w (GivB 0 false w) := by
  cases B0 : pos x
  · clear h
    go_enter Try.func41, Try.ntmps41
    go_wp2_with (first | (go_at_call_of 48 x; refine (implPos_any x _).mono ?_; rw [B0]; rintro e w' ⟨rfl, n, rfl⟩))
    go_ret2
    exact GivB.no (by first | exact Below.refl _ _ | exact below_drewN (Below.refl _ _) _)
  · cases B1 : pos y
    · clear h
      go_enter Try.func41, Try.ntmps41
      go_wp2_with (first | (go_at_call_of 48 x; refine (implPos_any x _).mono ?_; rw [B0]; rintro e w' ⟨rfl, n, rfl⟩) | (go_at_call_of 48 y; refine (implPos_any y _).mono ?_; rw [B1]; rintro e w' ⟨rfl, n, rfl⟩))
      go_ret2
      exact GivB.no (by first | exact Below.refl _ _ | exact below_drewN (Below.refl _ _) _)
    · cases B2 : pos z
      · clear h
        go_enter Try.func41, Try.ntmps41
        go_wp2_with (first | (go_at_call_of 48 x; refine (implPos_any x _).mono ?_; rw [B0]; rintro e w' ⟨rfl, n, rfl⟩) | (go_at_call_of 48 y; refine (implPos_any y _).mono ?_; rw [B1]; rintro e w' ⟨rfl, n, rfl⟩) | (go_at_call_of 48 z; refine (implPos_any z _).mono ?_; rw [B2]; rintro e w' ⟨rfl, n, rfl⟩))
        go_ret2
        exact GivB.no (by first | exact Below.refl _ _ | exact below_drewN (Below.refl _ _) _)
      · simp [B0, B1, B2] at h

theorem implWave_yes (x y z : Nat) (w : World) (B0 : pos x = true) (B1 : pos y = true) (B2 : pos z = true) : Calls Try.prog 41 #[.float .f32 x, .float .f32 y, .float .f32 z] w (GivB (ifF (waveS x y z)) (fin .f32 (waveS x y z)) w) := by
  go_enter Try.func41, Try.ntmps41
  go_wp2_with (first | (go_at_call_of 48 x; refine (implPos_any x _).mono ?_; rw [B0]; rintro e w' ⟨rfl, n, rfl⟩) | (go_at_call_of 48 y; refine (implPos_any y _).mono ?_; rw [B1]; rintro e w' ⟨rfl, n, rfl⟩) | (go_at_call_of 48 z; refine (implPos_any z _).mono ?_; rw [B2]; rintro e w' ⟨rfl, n, rfl⟩) | (refine wpList_farith rfl _ _ _ _ _ rfl rfl _ _ _ rfl rfl ?_; intro _ _ _) | (go_at_call 76; refine (implRoot_any _ _).mono ?_; rintro e w' ⟨r, n, hr, _, rfl, rfl⟩) | (go_at_call 58; refine (implNum_any _ _).mono ?_; rintro e w' ⟨rfl, n, rfl⟩))
  go_ret2
  exact GivB.num (wave_val (by assumption) (by assumption) (by assumption) hr) (below_drewN (Below.refl _ _) _)

theorem wave_ends (x y z : Nat) : ∃ S b, ∀ w, Calls Try.prog 40 #[.float .f32 x, .float .f32 y, .float .f32 z] w (GivB S b w) ∧ Calls Try.prog 41 #[.float .f32 x, .float .f32 y, .float .f32 z] w (GivB S b w) := by
  cases h : (pos x && pos y && pos z)
  · exact ⟨0, false, fun w => ⟨specWave_no x y z w h, implWave_no x y z w h⟩⟩
  · simp only [Bool.and_eq_true] at h
    obtain ⟨⟨h0, h1⟩, h2⟩ := h
    exact ⟨_, _, fun w => ⟨specWave_yes x y z w h0 h1 h2, implWave_yes x y z w h0 h1 h2⟩⟩

theorem fnExactWaveDepth_walk (x y z : Nat) (w : World) (_ : (Lit.float .f32 x).wf = true) (_ : (Lit.float .f32 y).wf = true) (_ : (Lit.float .f32 z).wf = true) :
    Calls Try.prog 13 #[.float .f32 x, .float .f32 y, .float .f32 z] w (Tru w) := by
  obtain ⟨S, b, H⟩ := wave_ends x y z
  have H := Lib.hid H
  go_enter Try.func13, Try.ntmps13
  go_wp2_with fail
  refine (H.out _).1.mono ?_
  rintro _ w1 ⟨r1, hr1, rfl, hb⟩
  have Bw := Lib.hid hb
  have R1 := Lib.hid hr1
  clear hb hr1
  go_wp2_with fail
  refine (H.out _).2.mono ?_
  rintro _ w2 ⟨r2, hr2, rfl, hb⟩
  have Bw := Lib.hid (below_step Bw.out hb)
  have R2 := Lib.hid hr2
  clear hb hr2
  go_wp2_with (first | (refine wpList_up rfl Try.underlying32 Try.underlying44 _ rfl _ rfl ?_; intro _ _ _) | (go_at_call 29; refine (same_end (a := r2) (b := r1) _ (by assumption) (by assumption) (R2.out.trans R1.out.symm)).mono ?_; rintro e w' ⟨rfl, n, rfl⟩))
  go_ret
  exact Tru.below (below_drewN Bw.out _)
end Go.Proofs.Ytplepddciilbdaa
