/- What a face loses: both sides. -/
import Derived.Test.YtkjlofbnegjcoaaFace
import Derived.Test.YtkjlofbnegjcoaaShnW
import Derived.Test.YtkjlofbnegjcoaaAirW
namespace Go.Proofs.Ytkjlofbnegjcoaa
open Go.RowKit
set_option linter.unusedVariables false

theorem sub_fin2 {i k : Nat} (h : fin .f32 (fop .sub .f32 i k) = true) : fin .f32 i = true ∧ fin .f32 k = true := by
  have e : ∀ x y, floatBits .sub .f32 x y = ((FloatKind.f32.format.read x).sum (FloatKind.f32.format.read y).opposite).map FloatKind.f32.format.write := fun _ _ => rfl
  have key : ∀ i k, fin .f32 i = false → fin .f32 (fop .sub .f32 i k) = false ∧ fin .f32 (fop .sub .f32 k i) = false := by
    intro i k hi
    cases hn : nn .f32 i
    · obtain ⟨s, hs⟩ := inf_of hi hn
      have e1 : FloatKind.f32.format.read i = .infinity s := hs
      unfold fop
      rw [e i k, e k i, e1]
      cases hk : FloatKind.f32.format.read k with
      | number t m q => exact ⟨by simp [Ieee.Datum.sum, Ieee.Datum.opposite]; cases s <;> decide +kernel, by simp [Ieee.Datum.sum, Ieee.Datum.opposite]; cases s <;> decide +kernel⟩
      | infinity t => cases s <;> cases t <;> exact ⟨by decide +kernel, by decide +kernel⟩
      | nan t p => exact ⟨by simp [Ieee.Datum.sum, Ieee.Datum.opposite]; decide +kernel, by simp [Ieee.Datum.sum]; decide +kernel⟩
    · unfold fop
      rw [floatBits_nan_left hn, floatBits_nan_right hn]
      exact ⟨by decide +kernel, by decide +kernel⟩
  constructor
  · cases hi : fin .f32 i
    · rw [(key i k hi).1] at h; cases h
    · rfl
  · cases hk : fin .f32 k
    · rw [(key k i hk).2] at h; cases h
    · rfl
theorem cGiv_bad {b : Bool} {V : Nat} {w w' : World} (h : cB b V = false) (hb : Below w.heap.size w w') : GivB (cS b V) (cB b V) w (.returned (.tuple #[.float .f32 0, .bool false])) w' := by
  have e : cS b V = 0 := by
    unfold cB at h; unfold cS ifF
    cases b
    · rfl
    · rw [Bool.true_and] at h; rw [h]; rfl
  rw [e, h]; exact GivB.no hb
theorem cB_yes {b : Bool} {V : Nat} (h : cB b V = true) : cS b V = V ∧ b = true ∧ fin .f32 V = true := by
  unfold cB at h
  simp only [Bool.and_eq_true] at h
  refine ⟨?_, h.1, h.2⟩
  unfold cS ifF
  rw [h.1, h.2]; rfl
def wlX (s : FA) (x y z : Nat) : Nat := fop .add .f32 (fop .sub .f32 (shX s.wm s.sh) (shX y s.sh)) (fop .mul .f32 (airX s.wm x z) (fop .sub .f32 s.wm x))
def wlB (s : FA) (x y z : Nat) : Bool := vFace s && fin .f32 x && lst y && pos z && fin .f32 (airX s.wm x z)
theorem wlX_of {s : FA} {x y z r0 r1 r2 r3 r4 r5 r6 : Nat} (f0 : cn .f32 r0 = shX s.wm s.sh) (f1 : cn .f32 r1 = shX y s.sh) (f2 : FR .sub .f32 r0 r1 r2) (f3 : cn .f32 r3 = airX s.wm x z) (f4 : FR .sub .f32 s.wm x r4) (f5 : FR .mul .f32 r3 r4 r5) (f6 : FR .add .f32 r2 r5 r6) : cn .f32 r6 = wlX s x y z := by
  unfold wlX
  simp only [f0, f1, f2.1, f3, f4.1, f5.1, f6.1, fopl', fopr']
theorem vFace_of {s : FA} (h : vFace s = true) : pos s.wd = true ∧ shn s.sh = true ∧ lst s.wm = true := by
  unfold vFace at h; simp only [Bool.and_eq_true] at h; exact ⟨h.1.1, h.1.2, h.2⟩
theorem shn_shr' {x : Nat} (h : shn x = true) : shr x = true := by
  rw [← shn_shr] at h; simp only [Bool.and_eq_true] at h; exact h.1
theorem lst_fin {x : Nat} (h : lst x = true) : fin .f32 x = true := by unfold lst at h; simp only [Bool.and_eq_true] at h; exact h.1
theorem wl_parts {s : FA} {x y z : Nat} (h : cB (wlB s x y z) (wlX s x y z) = true) : fin .f32 (shX s.wm s.sh) = true ∧ fin .f32 (shX y s.sh) = true ∧ lst y = true ∧ cB (airB s.wm x z) (airX s.wm x z) = true := by
  obtain ⟨_, h1, h2⟩ := cB_yes h
  obtain ⟨a, b⟩ := add_fin2 (show fin .f32 (fop .add .f32 _ _) = true from h2)
  obtain ⟨c, d⟩ := sub_fin2 a
  unfold wlB at h1
  simp only [Bool.and_eq_true] at h1
  refine ⟨c, d, h1.1.1.2, ?_⟩
  unfold cB airB
  rw [lst_fin (vFace_of h1.1.1.1.1).2.2, h1.1.1.1.2, h1.1.2, h1.2]; rfl
theorem wl_no1 {s : FA} {x y z : Nat} (hv : vFace s = true) (h : cB (shXb s.wm s.sh) (shX s.wm s.sh) = false) : cB (wlB s x y z) (wlX s x y z) = false := by
  cases hc : cB (wlB s x y z) (wlX s x y z)
  · rfl
  · exfalso
    obtain ⟨a, b⟩ := wl_parts hc
    obtain ⟨_, h2, h3⟩ := vFace_of hv
    unfold cB shXb at h
    rw [h3, shn_shr' h2, a] at h; cases h
theorem wl_no2 {s : FA} {x y z : Nat} (hv : vFace s = true) (h : cB (shXb y s.sh) (shX y s.sh) = false) : cB (wlB s x y z) (wlX s x y z) = false := by
  cases hc : cB (wlB s x y z) (wlX s x y z)
  · rfl
  · exfalso
    obtain ⟨a, b, c, _⟩ := wl_parts hc
    obtain ⟨_, h2, h3⟩ := vFace_of hv
    unfold cB shXb at h
    rw [c, shn_shr' h2, b] at h; cases h
theorem wl_no3 {s : FA} {x y z : Nat} (h : cB (airB s.wm x z) (airX s.wm x z) = false) : cB (wlB s x y z) (wlX s x y z) = false := by
  cases hc : cB (wlB s x y z) (wlX s x y z)
  · rfl
  · rw [(wl_parts hc).2.2.2] at h; cases h
theorem wl_yes {s : FA} {x y z : Nat} (hv : vFace s = true) (h2 : cB (shXb y s.sh) (shX y s.sh) = true) (h3 : cB (airB s.wm x z) (airX s.wm x z) = true) : wlB s x y z = true := by
  obtain ⟨_, a, _⟩ := cB_yes h2
  obtain ⟨_, b, c⟩ := cB_yes h3
  unfold shXb at a
  unfold airB at b
  simp only [Bool.and_eq_true] at a b
  unfold wlB
  rw [hv, b.1.2, a.1, b.2, c]; rfl

set_option maxHeartbeats 800000 in
theorem specLoss_any (s : FA) (x y z : Nat) (w : World) (hm : fin .f32 s.wm = true) (hx : fin .f32 x = true) : Calls Try.prog 75 #[.float .f32 s.wm, .float .f32 s.sh, .float .f32 x, .float .f32 y, .float .f32 z] w (Flo (fun r => cn .f32 r = wlX s x y z) w) := by
  have HM := Lib.hid hm
  have HX := Lib.hid hx
  clear hm hx
  go_enter Try.func75, Try.ntmps75
  go_wp2_with fail
  first | refine (specShineX_any s.wm s.sh _).mono ?_ | (go_at_call 63; refine (specShineX_any s.wm s.sh _).mono ?_)
  rintro e w' ⟨r0, j0, g0, _, rfl, rfl⟩
  have f0 := Lib.hid g0
  clear g0
  go_wp2_with fail
  first | refine (specShineX_any y s.sh _).mono ?_ | (go_at_call 63; refine (specShineX_any y s.sh _).mono ?_)
  rintro e w' ⟨r1, j1, g1, _, rfl, rfl⟩
  have f1 := Lib.hid g1
  clear g1
  go_wp2_with (refine wpList_farith rfl _ _ _ _ _ rfl rfl _ _ _ rfl rfl ?_; intro r2 j2 g2; have f2 := Lib.hid g2; clear g2; refine Stop.go ?_)
  refine Stop.mk ?_
  go_wp2_with fail
  first | refine (specAirX_any s.wm x z _ HM.out HX.out).mono ?_ | (go_at_call 73; refine (specAirX_any s.wm x z _ HM.out HX.out).mono ?_)
  rintro e w' ⟨r3, j3, g3, _, rfl, rfl⟩
  have f3 := Lib.hid g3
  clear g3
  go_wp2_with (refine wpList_farith rfl _ _ _ _ _ rfl rfl _ _ _ rfl rfl ?_; intro r4 j4 g4; have f4 := Lib.hid g4; clear g4; refine Stop.go ?_)
  refine Stop.mk ?_
  go_wp2_with (refine wpList_farith rfl _ _ _ _ _ rfl rfl _ _ _ rfl rfl ?_; intro r5 j5 g5; have f5 := Lib.hid g5; clear g5; refine Stop.go ?_)
  refine Stop.mk ?_
  go_wp2_with (refine wpList_farith rfl _ _ _ _ _ rfl rfl _ _ _ rfl rfl ?_; intro r6 j6 g6; have f6 := Lib.hid g6; clear g6; refine Stop.go ?_)
  refine Stop.mk ?_
  have W6 := f6.out.2
  go_wp2
  go_ret
  exact ⟨_, _, wlX_of f0.out f1.out f2.out f3.out f4.out f5.out f6.out, W6, rfl, by first | rfl | simp only [World.drewN_drewN]⟩

set_option maxHeartbeats 1600000 in
theorem specWall_any (s : FA) (x y z : Nat) (w : World) : Calls Try.prog 43 #[.agg #[.float .f32 s.wd, .float .f32 s.sh, .float .f32 s.wm], .float .f32 x, .float .f32 y, .float .f32 z] w (GivB (cS (wlB s x y z) (wlX s x y z)) (cB (wlB s x y z) (wlX s x y z)) w) := by
  have A := Lib.hid (Cells.made w s.vs 26)
  have Bw := Lib.hid (below_al1 w (.cells #[.float .f32 s.wd, .float .f32 s.sh, .float .f32 s.wm] 26))
  cases B0 : vFace s
  · skip
    have E := Lib.hid (show wlB s x y z = false by unfold wlB; simp [B0])
    have H0 := Lib.hid B0
    clear B0
    go_enter Try.func43, Try.ntmps43
    go_wp2_with fail
    refine (specFace_any s _ _ A.out).mono ?_
    rw [H0.out]
    rintro e w' ⟨rfl, n0, rfl⟩
    go_wp2
    go_ret2
    exact cGiv_no E.out (by first | exact below_drewN Bw.out _ | exact Bw.out)
  · skip
    cases B1 : fin .f32 x
    · skip
      have E := Lib.hid (show wlB s x y z = false by unfold wlB; simp [B0, B1])
      have H0 := Lib.hid B0
      have H1 := Lib.hid B1
      clear B0 B1
      go_enter Try.func43, Try.ntmps43
      go_wp2_with fail
      refine (specFace_any s _ _ A.out).mono ?_
      rw [H0.out]
      rintro e w' ⟨rfl, n0, rfl⟩
      go_wp2_with fail
      refine (specFinite_any x _).mono ?_
      rw [H1.out]
      rintro e w' ⟨rfl, n1, rfl⟩
      go_wp2
      go_ret2
      exact cGiv_no E.out (by first | exact below_drewN Bw.out _ | exact Bw.out)
    · skip
      cases B2 : lst y
      · skip
        have E := Lib.hid (show wlB s x y z = false by unfold wlB; simp [B0, B1, B2])
        have H0 := Lib.hid B0
        have H1 := Lib.hid B1
        have H2 := Lib.hid B2
        clear B0 B1 B2
        go_enter Try.func43, Try.ntmps43
        go_wp2_with fail
        refine (specFace_any s _ _ A.out).mono ?_
        rw [H0.out]
        rintro e w' ⟨rfl, n0, rfl⟩
        go_wp2_with fail
        refine (specFinite_any x _).mono ?_
        rw [H1.out]
        rintro e w' ⟨rfl, n1, rfl⟩
        go_wp2_with fail
        refine (specLeast_any y _).mono ?_
        rw [H2.out]
        rintro e w' ⟨rfl, n2, rfl⟩
        go_wp2
        go_ret2
        exact cGiv_no E.out (by first | exact below_drewN Bw.out _ | exact Bw.out)
      · skip
        cases B3 : pos z
        · skip
          have E := Lib.hid (show wlB s x y z = false by unfold wlB; simp [B0, B1, B2, B3])
          have H0 := Lib.hid B0
          have H1 := Lib.hid B1
          have H2 := Lib.hid B2
          have H3 := Lib.hid B3
          clear B0 B1 B2 B3
          go_enter Try.func43, Try.ntmps43
          go_wp2_with fail
          refine (specFace_any s _ _ A.out).mono ?_
          rw [H0.out]
          rintro e w' ⟨rfl, n0, rfl⟩
          go_wp2_with fail
          refine (specFinite_any x _).mono ?_
          rw [H1.out]
          rintro e w' ⟨rfl, n1, rfl⟩
          go_wp2_with fail
          refine (specLeast_any y _).mono ?_
          rw [H2.out]
          rintro e w' ⟨rfl, n2, rfl⟩
          go_wp2_with fail
          refine (specAbove_any z _).mono ?_
          rw [H3.out]
          rintro e w' ⟨rfl, n3, rfl⟩
          go_wp2
          go_ret2
          exact cGiv_no E.out (by first | exact below_drewN Bw.out _ | exact Bw.out)
        · skip
          cases B4 : fin .f32 (airX s.wm x z)
          · skip
            have E := Lib.hid (show wlB s x y z = false by unfold wlB; simp [B0, B1, B2, B3, B4])
            have H0 := Lib.hid B0
            have H1 := Lib.hid B1
            have H2 := Lib.hid B2
            have H3 := Lib.hid B3
            have H4 := Lib.hid B4
            clear B0 B1 B2 B3 B4
            go_enter Try.func43, Try.ntmps43
            go_wp2_with fail
            refine (specFace_any s _ _ A.out).mono ?_
            rw [H0.out]
            rintro e w' ⟨rfl, n0, rfl⟩
            go_wp2_with fail
            refine (specFinite_any x _).mono ?_
            rw [H1.out]
            rintro e w' ⟨rfl, n1, rfl⟩
            go_wp2_with fail
            refine (specLeast_any y _).mono ?_
            rw [H2.out]
            rintro e w' ⟨rfl, n2, rfl⟩
            go_wp2_with fail
            refine (specAbove_any z _).mono ?_
            rw [H3.out]
            rintro e w' ⟨rfl, n3, rfl⟩
            go_wp2_with fail
            refine (specAirX_any s.wm x z _ (lst_fin (vFace_of H0.out).2.2) H1.out).mono ?_
            rintro e w' ⟨r9, j9, g9, _, rfl, rfl⟩
            have F9 := Lib.hid (show fin .f32 r9 = fin .f32 (airX s.wm x z) by rw [← g9, fin_cn])
            clear g9
            go_wp2_with fail
            first | refine (specFinite_any r9 _).mono ?_ | (go_at_call 72; refine (specFinite_any r9 _).mono ?_)
            rw [F9.out, H4.out]
            rintro e w' ⟨rfl, n5, rfl⟩
            go_wp2
            go_ret2
            exact cGiv_no E.out (by first | exact below_drewN Bw.out _ | exact Bw.out)
          · skip
            have E := Lib.hid (show wlB s x y z = true by unfold wlB; simp [B0, B1, B2, B3, B4])
            have H0 := Lib.hid B0
            have H1 := Lib.hid B1
            have H2 := Lib.hid B2
            have H3 := Lib.hid B3
            have H4 := Lib.hid B4
            clear B0 B1 B2 B3 B4
            go_enter Try.func43, Try.ntmps43
            go_wp2_with fail
            refine (specFace_any s _ _ A.out).mono ?_
            rw [H0.out]
            rintro e w' ⟨rfl, n0, rfl⟩
            go_wp2_with fail
            refine (specFinite_any x _).mono ?_
            rw [H1.out]
            rintro e w' ⟨rfl, n1, rfl⟩
            go_wp2_with fail
            refine (specLeast_any y _).mono ?_
            rw [H2.out]
            rintro e w' ⟨rfl, n2, rfl⟩
            go_wp2_with fail
            refine (specAbove_any z _).mono ?_
            rw [H3.out]
            rintro e w' ⟨rfl, n3, rfl⟩
            go_wp2_with fail
            refine (specAirX_any s.wm x z _ (lst_fin (vFace_of H0.out).2.2) H1.out).mono ?_
            rintro e w' ⟨r9, j9, g9, _, rfl, rfl⟩
            have F9 := Lib.hid (show fin .f32 r9 = fin .f32 (airX s.wm x z) by rw [← g9, fin_cn])
            clear g9
            go_wp2_with fail
            first | refine (specFinite_any r9 _).mono ?_ | (go_at_call 72; refine (specFinite_any r9 _).mono ?_)
            rw [F9.out, H4.out]
            rintro e w' ⟨rfl, n5, rfl⟩
            go_wp2_with fail
            refine (specLoss_any s x y z _ (lst_fin (vFace_of H0.out).2.2) H1.out).mono ?_
            rintro e w' ⟨r5, j5, g5, _, rfl, rfl⟩
            have f5 := Lib.hid g5
            clear g5
            go_wp2_with fail
            first | refine (specNum_any _ _).mono ?_ | (go_at_call 62; refine (specNum_any _ _).mono ?_)
            rintro e w' ⟨rfl, n9, rfl⟩
            go_wp2
            go_ret2
            exact cGiv_yes E.out f5.out (by first | exact below_drewN Bw.out _ | exact Bw.out)

set_option maxHeartbeats 1600000 in
theorem implWall_any (s : FA) (x y z : Nat) (w : World) : Calls Try.prog 44 #[.agg #[.float .f32 s.wd, .float .f32 s.sh, .float .f32 s.wm], .float .f32 x, .float .f32 y, .float .f32 z] w (GivB (cS (wlB s x y z) (wlX s x y z)) (cB (wlB s x y z) (wlX s x y z)) w) := by
  have A := Lib.hid (Cells.made w s.vs 26)
  have Bw := Lib.hid (below_al1 w (.cells #[.float .f32 s.wd, .float .f32 s.sh, .float .f32 s.wm] 26))
  cases B0 : vFace s
  · have E := Lib.hid (show wlB s x y z = false by unfold wlB; rw [B0]; rfl)
    have H0 := Lib.hid B0
    clear B0
    go_enter Try.func44, Try.ntmps44
    go_wp2_with fail
    refine (implFace_any s _).mono ?_
    rw [H0.out]
    rintro e w1 ⟨rfl, hb⟩
    (first | (have Bw := Lib.hid (below_step Bw.out hb)) | (have Bw := Lib.hid (below_step Bw.out (below_undrew hb))) | (have Bw := Lib.hid (below_step Bw.out (below_unal hb))) | (have Bw := Lib.hid (below_step Bw.out (below_unal (below_undrew hb)))) | (have Bw := Lib.hid (below_step Bw.out (below_undrew (below_unal hb)))) | (have Bw := Lib.hid (below_step Bw.out (below_unal (below_unal hb)))))
    clear hb
    go_wp2
    go_ret2
    exact cGiv_no E.out Bw.out
  · have HV := Lib.hid B0
    clear B0
    cases C1 : cB (shXb s.wm s.sh) (shX s.wm s.sh)
    · skip
      have D1 := Lib.hid C1
      clear C1
      have E := Lib.hid (wl_no1 HV.out D1.out (x := x) (y := y) (z := z))
      go_enter Try.func44, Try.ntmps44
      go_wp2_with fail
      refine (implFace_any s _).mono ?_
      rw [HV.out]
      rintro e w1 ⟨rfl, hb⟩
      (first | (have Bw := Lib.hid (below_step Bw.out hb)) | (have Bw := Lib.hid (below_step Bw.out (below_undrew hb))) | (have Bw := Lib.hid (below_step Bw.out (below_unal hb))) | (have Bw := Lib.hid (below_step Bw.out (below_unal (below_undrew hb)))) | (have Bw := Lib.hid (below_step Bw.out (below_undrew (below_unal hb)))) | (have Bw := Lib.hid (below_step Bw.out (below_unal (below_unal hb)))))
      (first | (have A := Lib.hid (A.out.kept hb)) | (have A := Lib.hid (A.out.kept (below_undrew hb))) | (have A := Lib.hid (A.out.kept (below_unal hb))) | (have A := Lib.hid (A.out.kept (below_unal (below_undrew hb)))) | (have A := Lib.hid (A.out.kept (below_undrew (below_unal hb)))) | (have A := Lib.hid (A.out.kept (below_unal (below_unal hb)))))
      have c0 := A.out.at 0 rfl; have c1 := A.out.at 1 rfl; have c2 := A.out.at 2 rfl
      clear hb
      go_wp2_with fail
      refine (implShineOf_any s.wm s.sh _).mono ?_
      rw [D1.out]
      rintro e w2 ⟨q0, hq0, rfl, hb⟩
      have Q0 := Lib.hid hq0
      (first | (have Bw := Lib.hid (below_step Bw.out hb)) | (have Bw := Lib.hid (below_step Bw.out (below_undrew hb))) | (have Bw := Lib.hid (below_step Bw.out (below_unal hb))) | (have Bw := Lib.hid (below_step Bw.out (below_unal (below_undrew hb)))) | (have Bw := Lib.hid (below_step Bw.out (below_undrew (below_unal hb)))) | (have Bw := Lib.hid (below_step Bw.out (below_unal (below_unal hb)))))
      (first | (have A := Lib.hid (A.out.kept hb)) | (have A := Lib.hid (A.out.kept (below_undrew hb))) | (have A := Lib.hid (A.out.kept (below_unal hb))) | (have A := Lib.hid (A.out.kept (below_unal (below_undrew hb)))) | (have A := Lib.hid (A.out.kept (below_undrew (below_unal hb)))) | (have A := Lib.hid (A.out.kept (below_unal (below_unal hb)))))
      clear c0 c1 c2
      have c0 := A.out.at 0 rfl; have c1 := A.out.at 1 rfl; have c2 := A.out.at 2 rfl
      clear hb hq0
      go_wp2_with fail
      refine (implShineOf_any y s.sh _).mono ?_
      skip
      rintro e w3 ⟨q1, hq1, rfl, hb⟩
      have Q1 := Lib.hid hq1
      (first | (have Bw := Lib.hid (below_step Bw.out hb)) | (have Bw := Lib.hid (below_step Bw.out (below_undrew hb))) | (have Bw := Lib.hid (below_step Bw.out (below_unal hb))) | (have Bw := Lib.hid (below_step Bw.out (below_unal (below_undrew hb)))) | (have Bw := Lib.hid (below_step Bw.out (below_undrew (below_unal hb)))) | (have Bw := Lib.hid (below_step Bw.out (below_unal (below_unal hb)))))
      (first | (have A := Lib.hid (A.out.kept hb)) | (have A := Lib.hid (A.out.kept (below_undrew hb))) | (have A := Lib.hid (A.out.kept (below_unal hb))) | (have A := Lib.hid (A.out.kept (below_unal (below_undrew hb)))) | (have A := Lib.hid (A.out.kept (below_undrew (below_unal hb)))) | (have A := Lib.hid (A.out.kept (below_unal (below_unal hb)))))
      clear c0 c1 c2
      have c0 := A.out.at 0 rfl; have c1 := A.out.at 1 rfl; have c2 := A.out.at 2 rfl
      clear hb hq1
      go_wp2_with fail
      refine (implAir_any s.wm x z _).mono ?_
      skip
      rintro e w4 ⟨q2, hq2, rfl, hb⟩
      have Q2 := Lib.hid hq2
      (first | (have Bw := Lib.hid (below_step Bw.out hb)) | (have Bw := Lib.hid (below_step Bw.out (below_undrew hb))) | (have Bw := Lib.hid (below_step Bw.out (below_unal hb))) | (have Bw := Lib.hid (below_step Bw.out (below_unal (below_undrew hb)))) | (have Bw := Lib.hid (below_step Bw.out (below_undrew (below_unal hb)))) | (have Bw := Lib.hid (below_step Bw.out (below_unal (below_unal hb)))))
      (first | (have A := Lib.hid (A.out.kept hb)) | (have A := Lib.hid (A.out.kept (below_undrew hb))) | (have A := Lib.hid (A.out.kept (below_unal hb))) | (have A := Lib.hid (A.out.kept (below_unal (below_undrew hb)))) | (have A := Lib.hid (A.out.kept (below_undrew (below_unal hb)))) | (have A := Lib.hid (A.out.kept (below_unal (below_unal hb)))))
      clear c0 c1 c2
      have c0 := A.out.at 0 rfl; have c1 := A.out.at 1 rfl; have c2 := A.out.at 2 rfl
      clear hb hq2
      go_wp2
      go_ret2
      exact cGiv_bad E.out Bw.out
    · skip
      cases C2 : cB (shXb y s.sh) (shX y s.sh)
      · skip
        have D1 := Lib.hid C1
        have D2 := Lib.hid C2
        clear C1 C2
        have E := Lib.hid (wl_no2 HV.out D2.out (x := x) (y := y) (z := z))
        go_enter Try.func44, Try.ntmps44
        go_wp2_with fail
        refine (implFace_any s _).mono ?_
        rw [HV.out]
        rintro e w1 ⟨rfl, hb⟩
        (first | (have Bw := Lib.hid (below_step Bw.out hb)) | (have Bw := Lib.hid (below_step Bw.out (below_undrew hb))) | (have Bw := Lib.hid (below_step Bw.out (below_unal hb))) | (have Bw := Lib.hid (below_step Bw.out (below_unal (below_undrew hb)))) | (have Bw := Lib.hid (below_step Bw.out (below_undrew (below_unal hb)))) | (have Bw := Lib.hid (below_step Bw.out (below_unal (below_unal hb)))))
        (first | (have A := Lib.hid (A.out.kept hb)) | (have A := Lib.hid (A.out.kept (below_undrew hb))) | (have A := Lib.hid (A.out.kept (below_unal hb))) | (have A := Lib.hid (A.out.kept (below_unal (below_undrew hb)))) | (have A := Lib.hid (A.out.kept (below_undrew (below_unal hb)))) | (have A := Lib.hid (A.out.kept (below_unal (below_unal hb)))))
        have c0 := A.out.at 0 rfl; have c1 := A.out.at 1 rfl; have c2 := A.out.at 2 rfl
        clear hb
        go_wp2_with fail
        refine (implShineOf_any s.wm s.sh _).mono ?_
        rw [D1.out]
        rintro e w2 ⟨q0, hq0, rfl, hb⟩
        have Q0 := Lib.hid hq0
        (first | (have Bw := Lib.hid (below_step Bw.out hb)) | (have Bw := Lib.hid (below_step Bw.out (below_undrew hb))) | (have Bw := Lib.hid (below_step Bw.out (below_unal hb))) | (have Bw := Lib.hid (below_step Bw.out (below_unal (below_undrew hb)))) | (have Bw := Lib.hid (below_step Bw.out (below_undrew (below_unal hb)))) | (have Bw := Lib.hid (below_step Bw.out (below_unal (below_unal hb)))))
        (first | (have A := Lib.hid (A.out.kept hb)) | (have A := Lib.hid (A.out.kept (below_undrew hb))) | (have A := Lib.hid (A.out.kept (below_unal hb))) | (have A := Lib.hid (A.out.kept (below_unal (below_undrew hb)))) | (have A := Lib.hid (A.out.kept (below_undrew (below_unal hb)))) | (have A := Lib.hid (A.out.kept (below_unal (below_unal hb)))))
        clear c0 c1 c2
        have c0 := A.out.at 0 rfl; have c1 := A.out.at 1 rfl; have c2 := A.out.at 2 rfl
        clear hb hq0
        go_wp2_with fail
        refine (implShineOf_any y s.sh _).mono ?_
        rw [D2.out]
        rintro e w3 ⟨q1, hq1, rfl, hb⟩
        have Q1 := Lib.hid hq1
        (first | (have Bw := Lib.hid (below_step Bw.out hb)) | (have Bw := Lib.hid (below_step Bw.out (below_undrew hb))) | (have Bw := Lib.hid (below_step Bw.out (below_unal hb))) | (have Bw := Lib.hid (below_step Bw.out (below_unal (below_undrew hb)))) | (have Bw := Lib.hid (below_step Bw.out (below_undrew (below_unal hb)))) | (have Bw := Lib.hid (below_step Bw.out (below_unal (below_unal hb)))))
        (first | (have A := Lib.hid (A.out.kept hb)) | (have A := Lib.hid (A.out.kept (below_undrew hb))) | (have A := Lib.hid (A.out.kept (below_unal hb))) | (have A := Lib.hid (A.out.kept (below_unal (below_undrew hb)))) | (have A := Lib.hid (A.out.kept (below_undrew (below_unal hb)))) | (have A := Lib.hid (A.out.kept (below_unal (below_unal hb)))))
        clear c0 c1 c2
        have c0 := A.out.at 0 rfl; have c1 := A.out.at 1 rfl; have c2 := A.out.at 2 rfl
        clear hb hq1
        go_wp2_with fail
        refine (implAir_any s.wm x z _).mono ?_
        skip
        rintro e w4 ⟨q2, hq2, rfl, hb⟩
        have Q2 := Lib.hid hq2
        (first | (have Bw := Lib.hid (below_step Bw.out hb)) | (have Bw := Lib.hid (below_step Bw.out (below_undrew hb))) | (have Bw := Lib.hid (below_step Bw.out (below_unal hb))) | (have Bw := Lib.hid (below_step Bw.out (below_unal (below_undrew hb)))) | (have Bw := Lib.hid (below_step Bw.out (below_undrew (below_unal hb)))) | (have Bw := Lib.hid (below_step Bw.out (below_unal (below_unal hb)))))
        (first | (have A := Lib.hid (A.out.kept hb)) | (have A := Lib.hid (A.out.kept (below_undrew hb))) | (have A := Lib.hid (A.out.kept (below_unal hb))) | (have A := Lib.hid (A.out.kept (below_unal (below_undrew hb)))) | (have A := Lib.hid (A.out.kept (below_undrew (below_unal hb)))) | (have A := Lib.hid (A.out.kept (below_unal (below_unal hb)))))
        clear c0 c1 c2
        have c0 := A.out.at 0 rfl; have c1 := A.out.at 1 rfl; have c2 := A.out.at 2 rfl
        clear hb hq2
        go_wp2
        go_ret2
        exact cGiv_bad E.out Bw.out
      · skip
        cases C3 : cB (airB s.wm x z) (airX s.wm x z)
        · skip
          have D1 := Lib.hid C1
          have D2 := Lib.hid C2
          have D3 := Lib.hid C3
          clear C1 C2 C3
          have E := Lib.hid (wl_no3 D3.out (x := x) (y := y) (z := z))
          go_enter Try.func44, Try.ntmps44
          go_wp2_with fail
          refine (implFace_any s _).mono ?_
          rw [HV.out]
          rintro e w1 ⟨rfl, hb⟩
          (first | (have Bw := Lib.hid (below_step Bw.out hb)) | (have Bw := Lib.hid (below_step Bw.out (below_undrew hb))) | (have Bw := Lib.hid (below_step Bw.out (below_unal hb))) | (have Bw := Lib.hid (below_step Bw.out (below_unal (below_undrew hb)))) | (have Bw := Lib.hid (below_step Bw.out (below_undrew (below_unal hb)))) | (have Bw := Lib.hid (below_step Bw.out (below_unal (below_unal hb)))))
          (first | (have A := Lib.hid (A.out.kept hb)) | (have A := Lib.hid (A.out.kept (below_undrew hb))) | (have A := Lib.hid (A.out.kept (below_unal hb))) | (have A := Lib.hid (A.out.kept (below_unal (below_undrew hb)))) | (have A := Lib.hid (A.out.kept (below_undrew (below_unal hb)))) | (have A := Lib.hid (A.out.kept (below_unal (below_unal hb)))))
          have c0 := A.out.at 0 rfl; have c1 := A.out.at 1 rfl; have c2 := A.out.at 2 rfl
          clear hb
          go_wp2_with fail
          refine (implShineOf_any s.wm s.sh _).mono ?_
          rw [D1.out]
          rintro e w2 ⟨q0, hq0, rfl, hb⟩
          have Q0 := Lib.hid hq0
          (first | (have Bw := Lib.hid (below_step Bw.out hb)) | (have Bw := Lib.hid (below_step Bw.out (below_undrew hb))) | (have Bw := Lib.hid (below_step Bw.out (below_unal hb))) | (have Bw := Lib.hid (below_step Bw.out (below_unal (below_undrew hb)))) | (have Bw := Lib.hid (below_step Bw.out (below_undrew (below_unal hb)))) | (have Bw := Lib.hid (below_step Bw.out (below_unal (below_unal hb)))))
          (first | (have A := Lib.hid (A.out.kept hb)) | (have A := Lib.hid (A.out.kept (below_undrew hb))) | (have A := Lib.hid (A.out.kept (below_unal hb))) | (have A := Lib.hid (A.out.kept (below_unal (below_undrew hb)))) | (have A := Lib.hid (A.out.kept (below_undrew (below_unal hb)))) | (have A := Lib.hid (A.out.kept (below_unal (below_unal hb)))))
          clear c0 c1 c2
          have c0 := A.out.at 0 rfl; have c1 := A.out.at 1 rfl; have c2 := A.out.at 2 rfl
          clear hb hq0
          go_wp2_with fail
          refine (implShineOf_any y s.sh _).mono ?_
          rw [D2.out]
          rintro e w3 ⟨q1, hq1, rfl, hb⟩
          have Q1 := Lib.hid hq1
          (first | (have Bw := Lib.hid (below_step Bw.out hb)) | (have Bw := Lib.hid (below_step Bw.out (below_undrew hb))) | (have Bw := Lib.hid (below_step Bw.out (below_unal hb))) | (have Bw := Lib.hid (below_step Bw.out (below_unal (below_undrew hb)))) | (have Bw := Lib.hid (below_step Bw.out (below_undrew (below_unal hb)))) | (have Bw := Lib.hid (below_step Bw.out (below_unal (below_unal hb)))))
          (first | (have A := Lib.hid (A.out.kept hb)) | (have A := Lib.hid (A.out.kept (below_undrew hb))) | (have A := Lib.hid (A.out.kept (below_unal hb))) | (have A := Lib.hid (A.out.kept (below_unal (below_undrew hb)))) | (have A := Lib.hid (A.out.kept (below_undrew (below_unal hb)))) | (have A := Lib.hid (A.out.kept (below_unal (below_unal hb)))))
          clear c0 c1 c2
          have c0 := A.out.at 0 rfl; have c1 := A.out.at 1 rfl; have c2 := A.out.at 2 rfl
          clear hb hq1
          go_wp2_with fail
          refine (implAir_any s.wm x z _).mono ?_
          rw [D3.out]
          rintro e w4 ⟨q2, hq2, rfl, hb⟩
          have Q2 := Lib.hid hq2
          (first | (have Bw := Lib.hid (below_step Bw.out hb)) | (have Bw := Lib.hid (below_step Bw.out (below_undrew hb))) | (have Bw := Lib.hid (below_step Bw.out (below_unal hb))) | (have Bw := Lib.hid (below_step Bw.out (below_unal (below_undrew hb)))) | (have Bw := Lib.hid (below_step Bw.out (below_undrew (below_unal hb)))) | (have Bw := Lib.hid (below_step Bw.out (below_unal (below_unal hb)))))
          (first | (have A := Lib.hid (A.out.kept hb)) | (have A := Lib.hid (A.out.kept (below_undrew hb))) | (have A := Lib.hid (A.out.kept (below_unal hb))) | (have A := Lib.hid (A.out.kept (below_unal (below_undrew hb)))) | (have A := Lib.hid (A.out.kept (below_undrew (below_unal hb)))) | (have A := Lib.hid (A.out.kept (below_unal (below_unal hb)))))
          clear c0 c1 c2
          have c0 := A.out.at 0 rfl; have c1 := A.out.at 1 rfl; have c2 := A.out.at 2 rfl
          clear hb hq2
          go_wp2
          go_ret2
          exact cGiv_bad E.out Bw.out
        · skip
          have D1 := Lib.hid C1
          have D2 := Lib.hid C2
          have D3 := Lib.hid C3
          clear C1 C2 C3
          have E := Lib.hid (wl_yes HV.out D2.out D3.out)
          go_enter Try.func44, Try.ntmps44
          go_wp2_with fail
          refine (implFace_any s _).mono ?_
          rw [HV.out]
          rintro e w1 ⟨rfl, hb⟩
          (first | (have Bw := Lib.hid (below_step Bw.out hb)) | (have Bw := Lib.hid (below_step Bw.out (below_undrew hb))) | (have Bw := Lib.hid (below_step Bw.out (below_unal hb))) | (have Bw := Lib.hid (below_step Bw.out (below_unal (below_undrew hb)))) | (have Bw := Lib.hid (below_step Bw.out (below_undrew (below_unal hb)))) | (have Bw := Lib.hid (below_step Bw.out (below_unal (below_unal hb)))))
          (first | (have A := Lib.hid (A.out.kept hb)) | (have A := Lib.hid (A.out.kept (below_undrew hb))) | (have A := Lib.hid (A.out.kept (below_unal hb))) | (have A := Lib.hid (A.out.kept (below_unal (below_undrew hb)))) | (have A := Lib.hid (A.out.kept (below_undrew (below_unal hb)))) | (have A := Lib.hid (A.out.kept (below_unal (below_unal hb)))))
          have c0 := A.out.at 0 rfl; have c1 := A.out.at 1 rfl; have c2 := A.out.at 2 rfl
          clear hb
          go_wp2_with fail
          refine (implShineOf_any s.wm s.sh _).mono ?_
          rw [D1.out]
          rintro e w2 ⟨q0, hq0, rfl, hb⟩
          have Q0 := Lib.hid hq0
          (first | (have Bw := Lib.hid (below_step Bw.out hb)) | (have Bw := Lib.hid (below_step Bw.out (below_undrew hb))) | (have Bw := Lib.hid (below_step Bw.out (below_unal hb))) | (have Bw := Lib.hid (below_step Bw.out (below_unal (below_undrew hb)))) | (have Bw := Lib.hid (below_step Bw.out (below_undrew (below_unal hb)))) | (have Bw := Lib.hid (below_step Bw.out (below_unal (below_unal hb)))))
          (first | (have A := Lib.hid (A.out.kept hb)) | (have A := Lib.hid (A.out.kept (below_undrew hb))) | (have A := Lib.hid (A.out.kept (below_unal hb))) | (have A := Lib.hid (A.out.kept (below_unal (below_undrew hb)))) | (have A := Lib.hid (A.out.kept (below_undrew (below_unal hb)))) | (have A := Lib.hid (A.out.kept (below_unal (below_unal hb)))))
          clear c0 c1 c2
          have c0 := A.out.at 0 rfl; have c1 := A.out.at 1 rfl; have c2 := A.out.at 2 rfl
          clear hb hq0
          go_wp2_with fail
          refine (implShineOf_any y s.sh _).mono ?_
          rw [D2.out]
          rintro e w3 ⟨q1, hq1, rfl, hb⟩
          have Q1 := Lib.hid hq1
          (first | (have Bw := Lib.hid (below_step Bw.out hb)) | (have Bw := Lib.hid (below_step Bw.out (below_undrew hb))) | (have Bw := Lib.hid (below_step Bw.out (below_unal hb))) | (have Bw := Lib.hid (below_step Bw.out (below_unal (below_undrew hb)))) | (have Bw := Lib.hid (below_step Bw.out (below_undrew (below_unal hb)))) | (have Bw := Lib.hid (below_step Bw.out (below_unal (below_unal hb)))))
          (first | (have A := Lib.hid (A.out.kept hb)) | (have A := Lib.hid (A.out.kept (below_undrew hb))) | (have A := Lib.hid (A.out.kept (below_unal hb))) | (have A := Lib.hid (A.out.kept (below_unal (below_undrew hb)))) | (have A := Lib.hid (A.out.kept (below_undrew (below_unal hb)))) | (have A := Lib.hid (A.out.kept (below_unal (below_unal hb)))))
          clear c0 c1 c2
          have c0 := A.out.at 0 rfl; have c1 := A.out.at 1 rfl; have c2 := A.out.at 2 rfl
          clear hb hq1
          go_wp2_with fail
          refine (implAir_any s.wm x z _).mono ?_
          rw [D3.out]
          rintro e w4 ⟨q2, hq2, rfl, hb⟩
          have Q2 := Lib.hid hq2
          (first | (have Bw := Lib.hid (below_step Bw.out hb)) | (have Bw := Lib.hid (below_step Bw.out (below_undrew hb))) | (have Bw := Lib.hid (below_step Bw.out (below_unal hb))) | (have Bw := Lib.hid (below_step Bw.out (below_unal (below_undrew hb)))) | (have Bw := Lib.hid (below_step Bw.out (below_undrew (below_unal hb)))) | (have Bw := Lib.hid (below_step Bw.out (below_unal (below_unal hb)))))
          (first | (have A := Lib.hid (A.out.kept hb)) | (have A := Lib.hid (A.out.kept (below_undrew hb))) | (have A := Lib.hid (A.out.kept (below_unal hb))) | (have A := Lib.hid (A.out.kept (below_unal (below_undrew hb)))) | (have A := Lib.hid (A.out.kept (below_undrew (below_unal hb)))) | (have A := Lib.hid (A.out.kept (below_unal (below_unal hb)))))
          clear c0 c1 c2
          have c0 := A.out.at 0 rfl; have c1 := A.out.at 1 rfl; have c2 := A.out.at 2 rfl
          clear hb hq2
          have P0 := Lib.hid (Q0.out.trans (cB_yes D1.out).1)
          have P1 := Lib.hid (Q1.out.trans (cB_yes D2.out).1)
          have P2 := Lib.hid (Q2.out.trans (cB_yes D3.out).1)
          go_wp2_with (refine wpList_farith rfl _ _ _ _ _ rfl rfl _ _ _ rfl rfl ?_; intro r3 j3 g3; have f3 := Lib.hid g3; clear g3; refine Stop.go ?_)
          refine Stop.mk ?_
          go_wp2_with (refine wpList_farith rfl _ _ _ _ _ rfl rfl _ _ _ rfl rfl ?_; intro r4 j4 g4; have f4 := Lib.hid g4; clear g4; refine Stop.go ?_)
          refine Stop.mk ?_
          go_wp2_with (refine wpList_farith rfl _ _ _ _ _ rfl rfl _ _ _ rfl rfl ?_; intro r5 j5 g5; have f5 := Lib.hid g5; clear g5; refine Stop.go ?_)
          refine Stop.mk ?_
          go_wp2_with (refine wpList_farith rfl _ _ _ _ _ rfl rfl _ _ _ rfl rfl ?_; intro r6 j6 g6; have f6 := Lib.hid g6; clear g6; refine Stop.go ?_)
          refine Stop.mk ?_
          go_wp2_with fail
          first | refine (implNum_any _ _).mono ?_ | (go_at_call 65; refine (implNum_any _ _).mono ?_)
          rintro e w' ⟨rfl, n9, rfl⟩
          go_wp2
          go_ret2
          exact cGiv_yes E.out (wlX_of P0.out P1.out f3.out P2.out f4.out f5.out f6.out) (by first | exact below_drewN Bw.out _ | exact Bw.out)
end Go.Proofs.Ytkjlofbnegjcoaa
