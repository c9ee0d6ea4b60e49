/- Pumps: both sides, and the laws. -/
import Derived.Test.YtjkokhdbkmjenaaSnA
import Derived.Test.YtjkokhdbkmjenaaFu
import Derived.OwnWalk
namespace Go.Proofs.Ytjkokhdbkmjenaa
open Go.RowKit
set_option linter.unusedVariables false

open Go
def gtN (x y : Nat) : Bool := FloatKind.f32.format.order x y == some .gt
theorem ord_finN {x y : Nat} (h : FloatKind.f32.format.order x y = none) (hx : fin .f32 x = true) (hy : fin .f32 y = true) : False := by
  have a : nn .f32 x = false := by cases hn : nn .f32 x with | false => rfl | true => rw [fin_nan hn] at hx; cases hx
  have b : nn .f32 y = false := by cases hn : nn .f32 y with | false => rfl | true => rw [fin_nan hn] at hy; cases hy
  rw [ord_key, a, b] at h
  simp at h
theorem nle_gt {x y : Nat} (hx : fin .f32 x = true) (hy : fin .f32 y = true) : (FloatKind.f32.format.order x y == some .lt || FloatKind.f32.format.order x y == some .eq) = !gtN x y := by
  unfold gtN
  cases h : FloatKind.f32.format.order x y with
  | none => exact (ord_finN h hx hy).elim
  | some o => cases o <;> rfl
theorem fin_K : fin .f32 3280507699 = true := by decide +kernel

def pfV (x y z : Nat) : Nat := (fop .quo .f32 (fop .mul .f32 z (fop .add .f32 x 1133024051)) (fop .sub .f32 x y))
theorem pfV_s {x y z r0 r1 r2 r3 : Nat} (f0 : FR .add .f32 x 1133024051 r0) (f1 : FR .mul .f32 z r0 r1) (f2 : FR .sub .f32 x y r2) (f3 : FR .quo .f32 r1 r2 r3) : cn .f32 r3 = pfV x y z := by
  unfold pfV
  simp only [f0.1, f1.1, f2.1, f3.1, fopl', fopr']

def pfB (x y z : Nat) : Bool := fin .f32 x && fin .f32 y && gtN x y && gtN x 3280507699 && shn z
abbrev pfF (x y z : Nat) : Nat := cS (pfB x y z) (pfV x y z)
abbrev pfO (x y z : Nat) : Bool := cB (pfB x y z) (pfV x y z)
set_option maxHeartbeats 800000 in
theorem specPump_any (x y z : Nat) (w : World) : Calls Try.prog 54 #[.float .f32 x, .float .f32 y, .float .f32 z] w (GivB (pfF x y z) (pfO x y z) w) := by
  cases B0 : fin .f32 x
  · skip
    have E := Lib.hid (show pfB x y z = false by unfold pfB shn; simp [B0])
    have H0 := Lib.hid B0
    clear B0
    go_enter Try.func54, Try.ntmps54
    go_wp2_with fail
    refine (specFinite_any x _).mono ?_
    rw [H0.out]
    rintro e w' ⟨rfl, n, rfl⟩
    go_wp2
    go_ret2
    exact cGiv_no E.out (by first | exact Below.refl _ _ | exact below_drewN (Below.refl _ _) _ | exact (by repeat (first | exact Below.refl _ _ | refine Below.setCell ?_ (by first | exact Nat.le_refl _ | (simp; done) | (simp; omega) | omega) _ | refine below_drewN ?_ _ | refine Below.alloc ?_ (by first | exact Nat.le_refl _ | (simp; done) | (simp; omega) | omega) _)))
  · skip
    cases B1 : fin .f32 y
    · skip
      have E := Lib.hid (show pfB x y z = false by unfold pfB shn; simp [B0, B1])
      have H0 := Lib.hid B0
      have H1 := Lib.hid B1
      clear B0 B1
      go_enter Try.func54, Try.ntmps54
      go_wp2_with fail
      refine (specFinite_any x _).mono ?_
      rw [H0.out]
      rintro e w' ⟨rfl, n, rfl⟩
      go_wp2_with fail
      refine (specFinite_any y _).mono ?_
      rw [H1.out]
      rintro e w' ⟨rfl, n, rfl⟩
      go_wp2
      go_ret2
      exact cGiv_no E.out (by first | exact Below.refl _ _ | exact below_drewN (Below.refl _ _) _ | exact (by repeat (first | exact Below.refl _ _ | refine Below.setCell ?_ (by first | exact Nat.le_refl _ | (simp; done) | (simp; omega) | omega) _ | refine below_drewN ?_ _ | refine Below.alloc ?_ (by first | exact Nat.le_refl _ | (simp; done) | (simp; omega) | omega) _)))
    · skip
      cases B2 : gtN x y
      · skip
        have E := Lib.hid (show pfB x y z = false by unfold pfB shn; simp [B0, B1, B2])
        have H0 := Lib.hid B0
        have H1 := Lib.hid B1
        have o2_0 : (FloatKind.f32.format.order x y == some .gt) = false := B2
        have H2 := Lib.hid B2
        clear B0 B1 B2
        go_enter Try.func54, Try.ntmps54
        go_wp2_with fail
        refine (specFinite_any x _).mono ?_
        rw [H0.out]
        rintro e w' ⟨rfl, n, rfl⟩
        go_wp2_with fail
        refine (specFinite_any y _).mono ?_
        rw [H1.out]
        rintro e w' ⟨rfl, n, rfl⟩
        go_wp2
        go_ret2
        exact cGiv_no E.out (by first | exact Below.refl _ _ | exact below_drewN (Below.refl _ _) _ | exact (by repeat (first | exact Below.refl _ _ | refine Below.setCell ?_ (by first | exact Nat.le_refl _ | (simp; done) | (simp; omega) | omega) _ | refine below_drewN ?_ _ | refine Below.alloc ?_ (by first | exact Nat.le_refl _ | (simp; done) | (simp; omega) | omega) _)))
      · skip
        cases B3 : gtN x 3280507699
        · skip
          have E := Lib.hid (show pfB x y z = false by unfold pfB shn; simp [B0, B1, B2, B3])
          have H0 := Lib.hid B0
          have H1 := Lib.hid B1
          have o2_0 : (FloatKind.f32.format.order x y == some .gt) = true := B2
          have H2 := Lib.hid B2
          have o3_0 : (FloatKind.f32.format.order x 3280507699 == some .gt) = false := B3
          have H3 := Lib.hid B3
          clear B0 B1 B2 B3
          go_enter Try.func54, Try.ntmps54
          go_wp2_with fail
          refine (specFinite_any x _).mono ?_
          rw [H0.out]
          rintro e w' ⟨rfl, n, rfl⟩
          go_wp2_with fail
          refine (specFinite_any y _).mono ?_
          rw [H1.out]
          rintro e w' ⟨rfl, n, rfl⟩
          go_wp2
          go_ret2
          exact cGiv_no E.out (by first | exact Below.refl _ _ | exact below_drewN (Below.refl _ _) _ | exact (by repeat (first | exact Below.refl _ _ | refine Below.setCell ?_ (by first | exact Nat.le_refl _ | (simp; done) | (simp; omega) | omega) _ | refine below_drewN ?_ _ | refine Below.alloc ?_ (by first | exact Nat.le_refl _ | (simp; done) | (simp; omega) | omega) _)))
        · skip
          cases B4 : gt0 z
          · skip
            have E := Lib.hid (show pfB x y z = false by unfold pfB shn; simp [B0, B1, B2, B3, B4])
            have H0 := Lib.hid B0
            have H1 := Lib.hid B1
            have o2_0 : (FloatKind.f32.format.order x y == some .gt) = true := B2
            have H2 := Lib.hid B2
            have o3_0 : (FloatKind.f32.format.order x 3280507699 == some .gt) = true := B3
            have H3 := Lib.hid B3
            have o4_0 : (FloatKind.f32.format.order z 0 == some .gt) = false := B4
            have H4 := Lib.hid B4
            clear B0 B1 B2 B3 B4
            go_enter Try.func54, Try.ntmps54
            go_wp2_with fail
            refine (specFinite_any x _).mono ?_
            rw [H0.out]
            rintro e w' ⟨rfl, n, rfl⟩
            go_wp2_with fail
            refine (specFinite_any y _).mono ?_
            rw [H1.out]
            rintro e w' ⟨rfl, n, rfl⟩
            go_wp2
            go_ret2
            exact cGiv_no E.out (by first | exact Below.refl _ _ | exact below_drewN (Below.refl _ _) _ | exact (by repeat (first | exact Below.refl _ _ | refine Below.setCell ?_ (by first | exact Nat.le_refl _ | (simp; done) | (simp; omega) | omega) _ | refine below_drewN ?_ _ | refine Below.alloc ?_ (by first | exact Nat.le_refl _ | (simp; done) | (simp; omega) | omega) _)))
          · skip
            cases B5 : leN z 1065353216
            · skip
              have E := Lib.hid (show pfB x y z = false by unfold pfB shn; simp [B0, B1, B2, B3, B4, B5])
              have H0 := Lib.hid B0
              have H1 := Lib.hid B1
              have o2_0 : (FloatKind.f32.format.order x y == some .gt) = true := B2
              have H2 := Lib.hid B2
              have o3_0 : (FloatKind.f32.format.order x 3280507699 == some .gt) = true := B3
              have H3 := Lib.hid B3
              have o4_0 : (FloatKind.f32.format.order z 0 == some .gt) = true := B4
              have H4 := Lib.hid B4
              have o5_0 : (FloatKind.f32.format.order z 1065353216 == some .lt || FloatKind.f32.format.order z 1065353216 == some .eq) = false := B5
              have H5 := Lib.hid B5
              clear B0 B1 B2 B3 B4 B5
              go_enter Try.func54, Try.ntmps54
              go_wp2_with fail
              refine (specFinite_any x _).mono ?_
              rw [H0.out]
              rintro e w' ⟨rfl, n, rfl⟩
              go_wp2_with fail
              refine (specFinite_any y _).mono ?_
              rw [H1.out]
              rintro e w' ⟨rfl, n, rfl⟩
              go_wp2
              go_ret2
              exact cGiv_no E.out (by first | exact Below.refl _ _ | exact below_drewN (Below.refl _ _) _ | exact (by repeat (first | exact Below.refl _ _ | refine Below.setCell ?_ (by first | exact Nat.le_refl _ | (simp; done) | (simp; omega) | omega) _ | refine below_drewN ?_ _ | refine Below.alloc ?_ (by first | exact Nat.le_refl _ | (simp; done) | (simp; omega) | omega) _)))
            · skip
              have E := Lib.hid (show pfB x y z = true by unfold pfB shn; simp [B0, B1, B2, B3, B4, B5])
              have H0 := Lib.hid B0
              have H1 := Lib.hid B1
              have o2_0 : (FloatKind.f32.format.order x y == some .gt) = true := B2
              have H2 := Lib.hid B2
              have o3_0 : (FloatKind.f32.format.order x 3280507699 == some .gt) = true := B3
              have H3 := Lib.hid B3
              have o4_0 : (FloatKind.f32.format.order z 0 == some .gt) = true := B4
              have H4 := Lib.hid B4
              have o5_0 : (FloatKind.f32.format.order z 1065353216 == some .lt || FloatKind.f32.format.order z 1065353216 == some .eq) = true := B5
              have H5 := Lib.hid B5
              clear B0 B1 B2 B3 B4 B5
              go_enter Try.func54, Try.ntmps54
              go_wp2_with fail
              refine (specFinite_any x _).mono ?_
              rw [H0.out]
              rintro e w' ⟨rfl, n, rfl⟩
              go_wp2_with fail
              refine (specFinite_any y _).mono ?_
              rw [H1.out]
              rintro e w' ⟨rfl, n, rfl⟩
              go_wp2_with (refine wpList_farith rfl _ _ _ _ _ rfl rfl _ _ _ rfl rfl ?_; intro r0 j0 g0; have f0 := Lib.hid g0; clear g0; refine Stop.go ?_)
              refine Stop.mk ?_
              go_wp2_with (refine wpList_farith rfl _ _ _ _ _ rfl rfl _ _ _ rfl rfl ?_; intro r1 j1 g1; have f1 := Lib.hid g1; clear g1; refine Stop.go ?_)
              refine Stop.mk ?_
              go_wp2_with (refine wpList_farith rfl _ _ _ _ _ rfl rfl _ _ _ rfl rfl ?_; intro r2 j2 g2; have f2 := Lib.hid g2; clear g2; refine Stop.go ?_)
              refine Stop.mk ?_
              go_wp2_with (refine wpList_farith rfl _ _ _ _ _ rfl rfl _ _ _ rfl rfl ?_; intro r3 j3 g3; have f3 := Lib.hid g3; clear g3; refine Stop.go ?_)
              refine Stop.mk ?_
              go_wp2_with fail
              first | refine (specNum_any _ _).mono ?_ | (go_at_call 63; refine (specNum_any _ _).mono ?_)
              rintro e w' ⟨rfl, n9, rfl⟩
              go_wp2
              go_ret2
              exact cGiv_yes E.out (pfV_s f0.out f1.out f2.out f3.out) (by first | exact Below.refl _ _ | exact below_drewN (Below.refl _ _) _ | exact (by repeat (first | exact Below.refl _ _ | refine Below.setCell ?_ (by first | exact Nat.le_refl _ | (simp; done) | (simp; omega) | omega) _ | refine below_drewN ?_ _ | refine Below.alloc ?_ (by first | exact Nat.le_refl _ | (simp; done) | (simp; omega) | omega) _)))
set_option maxHeartbeats 800000 in
theorem implPump_any (x y z : Nat) (w : World) : Calls Try.prog 23 #[.float .f32 x, .float .f32 y, .float .f32 z] w (GivB (pfF x y z) (pfO x y z) w) := by
  cases B0 : fin .f32 x
  · skip
    have E := Lib.hid (show pfB x y z = false by unfold pfB; simp [B0])
    have H0 := Lib.hid B0
    clear B0
    go_enter Try.func23, Try.ntmps23
    go_wp2_with fail
    refine (implFinite_any x _).mono ?_
    rw [H0.out]
    rintro e w' ⟨rfl, n, rfl⟩
    go_wp2
    go_ret2
    exact cGiv_no E.out (by first | exact Below.refl _ _ | exact below_drewN (Below.refl _ _) _ | exact (by repeat (first | exact Below.refl _ _ | refine Below.setCell ?_ (by first | exact Nat.le_refl _ | (simp; done) | (simp; omega) | omega) _ | refine below_drewN ?_ _ | refine Below.alloc ?_ (by first | exact Nat.le_refl _ | (simp; done) | (simp; omega) | omega) _)))
  · skip
    cases B1 : fin .f32 y
    · skip
      have E := Lib.hid (show pfB x y z = false by unfold pfB; simp [B0, B1])
      have H0 := Lib.hid B0
      have H1 := Lib.hid B1
      clear B0 B1
      go_enter Try.func23, Try.ntmps23
      go_wp2_with fail
      refine (implFinite_any x _).mono ?_
      rw [H0.out]
      rintro e w' ⟨rfl, n, rfl⟩
      go_wp2_with fail
      refine (implFinite_any y _).mono ?_
      rw [H1.out]
      rintro e w' ⟨rfl, n, rfl⟩
      go_wp2
      go_ret2
      exact cGiv_no E.out (by first | exact Below.refl _ _ | exact below_drewN (Below.refl _ _) _ | exact (by repeat (first | exact Below.refl _ _ | refine Below.setCell ?_ (by first | exact Nat.le_refl _ | (simp; done) | (simp; omega) | omega) _ | refine below_drewN ?_ _ | refine Below.alloc ?_ (by first | exact Nat.le_refl _ | (simp; done) | (simp; omega) | omega) _)))
    · skip
      cases B2 : gtN x y
      · skip
        have E := Lib.hid (show pfB x y z = false by unfold pfB; simp [B0, B1, B2])
        have H0 := Lib.hid B0
        have H1 := Lib.hid B1
        have o2_0 : (FloatKind.f32.format.order x y == some .lt || FloatKind.f32.format.order x y == some .eq) = true := (nle_gt H0.out H1.out).trans (by rw [B2]; rfl)
        have H2 := Lib.hid B2
        clear B0 B1 B2
        go_enter Try.func23, Try.ntmps23
        go_wp2_with fail
        refine (implFinite_any x _).mono ?_
        rw [H0.out]
        rintro e w' ⟨rfl, n, rfl⟩
        go_wp2_with fail
        refine (implFinite_any y _).mono ?_
        rw [H1.out]
        rintro e w' ⟨rfl, n, rfl⟩
        go_wp2
        go_ret2
        exact cGiv_no E.out (by first | exact Below.refl _ _ | exact below_drewN (Below.refl _ _) _ | exact (by repeat (first | exact Below.refl _ _ | refine Below.setCell ?_ (by first | exact Nat.le_refl _ | (simp; done) | (simp; omega) | omega) _ | refine below_drewN ?_ _ | refine Below.alloc ?_ (by first | exact Nat.le_refl _ | (simp; done) | (simp; omega) | omega) _)))
      · skip
        cases B3 : gtN x 3280507699
        · skip
          have E := Lib.hid (show pfB x y z = false by unfold pfB; simp [B0, B1, B2, B3])
          have H0 := Lib.hid B0
          have H1 := Lib.hid B1
          have o2_0 : (FloatKind.f32.format.order x y == some .lt || FloatKind.f32.format.order x y == some .eq) = false := (nle_gt H0.out H1.out).trans (by rw [B2]; rfl)
          have H2 := Lib.hid B2
          have o3_0 : (FloatKind.f32.format.order x 3280507699 == some .lt || FloatKind.f32.format.order x 3280507699 == some .eq) = true := (nle_gt H0.out fin_K).trans (by rw [B3]; rfl)
          have H3 := Lib.hid B3
          clear B0 B1 B2 B3
          go_enter Try.func23, Try.ntmps23
          go_wp2_with fail
          refine (implFinite_any x _).mono ?_
          rw [H0.out]
          rintro e w' ⟨rfl, n, rfl⟩
          go_wp2_with fail
          refine (implFinite_any y _).mono ?_
          rw [H1.out]
          rintro e w' ⟨rfl, n, rfl⟩
          go_wp2
          go_ret2
          exact cGiv_no E.out (by first | exact Below.refl _ _ | exact below_drewN (Below.refl _ _) _ | exact (by repeat (first | exact Below.refl _ _ | refine Below.setCell ?_ (by first | exact Nat.le_refl _ | (simp; done) | (simp; omega) | omega) _ | refine below_drewN ?_ _ | refine Below.alloc ?_ (by first | exact Nat.le_refl _ | (simp; done) | (simp; omega) | omega) _)))
        · skip
          cases B4 : shn z
          · skip
            have E := Lib.hid (show pfB x y z = false by unfold pfB; simp [B0, B1, B2, B3, B4])
            have H0 := Lib.hid B0
            have H1 := Lib.hid B1
            have o2_0 : (FloatKind.f32.format.order x y == some .lt || FloatKind.f32.format.order x y == some .eq) = false := (nle_gt H0.out H1.out).trans (by rw [B2]; rfl)
            have H2 := Lib.hid B2
            have o3_0 : (FloatKind.f32.format.order x 3280507699 == some .lt || FloatKind.f32.format.order x 3280507699 == some .eq) = false := (nle_gt H0.out fin_K).trans (by rw [B3]; rfl)
            have H3 := Lib.hid B3
            have H4 := Lib.hid B4
            clear B0 B1 B2 B3 B4
            go_enter Try.func23, Try.ntmps23
            go_wp2_with fail
            refine (implFinite_any x _).mono ?_
            rw [H0.out]
            rintro e w' ⟨rfl, n, rfl⟩
            go_wp2_with fail
            refine (implFinite_any y _).mono ?_
            rw [H1.out]
            rintro e w' ⟨rfl, n, rfl⟩
            go_wp2_with fail
            refine (implShine_any z _).mono ?_
            rw [H4.out]
            rintro e w' ⟨rfl, rfl⟩
            go_wp2
            go_ret2
            exact cGiv_no E.out (by first | exact Below.refl _ _ | exact below_drewN (Below.refl _ _) _ | exact (by repeat (first | exact Below.refl _ _ | refine Below.setCell ?_ (by first | exact Nat.le_refl _ | (simp; done) | (simp; omega) | omega) _ | refine below_drewN ?_ _ | refine Below.alloc ?_ (by first | exact Nat.le_refl _ | (simp; done) | (simp; omega) | omega) _)))
          · skip
            have E := Lib.hid (show pfB x y z = true by unfold pfB; simp [B0, B1, B2, B3, B4])
            have H0 := Lib.hid B0
            have H1 := Lib.hid B1
            have o2_0 : (FloatKind.f32.format.order x y == some .lt || FloatKind.f32.format.order x y == some .eq) = false := (nle_gt H0.out H1.out).trans (by rw [B2]; rfl)
            have H2 := Lib.hid B2
            have o3_0 : (FloatKind.f32.format.order x 3280507699 == some .lt || FloatKind.f32.format.order x 3280507699 == some .eq) = false := (nle_gt H0.out fin_K).trans (by rw [B3]; rfl)
            have H3 := Lib.hid B3
            have H4 := Lib.hid B4
            clear B0 B1 B2 B3 B4
            go_enter Try.func23, Try.ntmps23
            go_wp2_with fail
            refine (implFinite_any x _).mono ?_
            rw [H0.out]
            rintro e w' ⟨rfl, n, rfl⟩
            go_wp2_with fail
            refine (implFinite_any y _).mono ?_
            rw [H1.out]
            rintro e w' ⟨rfl, n, rfl⟩
            go_wp2_with fail
            refine (implShine_any z _).mono ?_
            rw [H4.out]
            rintro e w' ⟨rfl, rfl⟩
            go_wp2_with (refine wpList_farith rfl _ _ _ _ _ rfl rfl _ _ _ rfl rfl ?_; intro r0 j0 g0; have f0 := Lib.hid g0; clear g0; refine Stop.go ?_)
            refine Stop.mk ?_
            go_wp2_with (refine wpList_farith rfl _ _ _ _ _ rfl rfl _ _ _ rfl rfl ?_; intro r1 j1 g1; have f1 := Lib.hid g1; clear g1; refine Stop.go ?_)
            refine Stop.mk ?_
            go_wp2_with (refine wpList_farith rfl _ _ _ _ _ rfl rfl _ _ _ rfl rfl ?_; intro r2 j2 g2; have f2 := Lib.hid g2; clear g2; refine Stop.go ?_)
            refine Stop.mk ?_
            go_wp2_with (refine wpList_farith rfl _ _ _ _ _ rfl rfl _ _ _ rfl rfl ?_; intro r3 j3 g3; have f3 := Lib.hid g3; clear g3; refine Stop.go ?_)
            refine Stop.mk ?_
            go_wp2_with fail
            first | refine (implNum_any _ _).mono ?_ | (go_at_call 56; refine (implNum_any _ _).mono ?_)
            rintro e w' ⟨rfl, n9, rfl⟩
            go_wp2
            go_ret2
            exact cGiv_yes E.out (pfV_s f0.out f1.out f2.out f3.out) (by first | exact Below.refl _ _ | exact below_drewN (Below.refl _ _) _ | exact (by repeat (first | exact Below.refl _ _ | refine Below.setCell ?_ (by first | exact Nat.le_refl _ | (simp; done) | (simp; omega) | omega) _ | refine below_drewN ?_ _ | refine Below.alloc ?_ (by first | exact Nat.le_refl _ | (simp; done) | (simp; omega) | omega) _)))
theorem specPumpF_any (x y z : Nat) (w : World) : Calls Try.prog 22 #[.float .f32 x, .float .f32 y, .float .f32 z] w (GivB (pfF x y z) (pfO x y z) w) := by
  go_enter Try.func22, Try.ntmps22
  go_wp2_with fail
  refine (specPump_any x y z _).mono ?_
  rintro _ w1 ⟨s1, hr1, rfl, hb⟩
  go_wp2
  go_ret2
  exact ⟨s1, hr1, rfl, hb⟩

set_option maxRecDepth 20000 in
theorem fnExactPumpFactor_walk (x : Nat) (y : Nat) (z : Nat) (w : World) (_ : (Lit.float .f32 x).wf = true) (_ : (Lit.float .f32 y).wf = true) (_ : (Lit.float .f32 z).wf = true) : Calls Try.prog 5 #[.float .f32 x, .float .f32 y, .float .f32 z] w (Tru w) := by
  go_enter Try.func5, Try.ntmps5
  go_wp2_with fail
  refine (specPumpF_any x y z _).mono ?_
  rintro _ w1 ⟨s1, hr1, rfl, hb⟩
  have Bw := Lib.hid hb
  have R1 := Lib.hid hr1
  clear hb hr1
  go_wp2_with fail
  refine (implPump_any x y z _).mono ?_
  rintro _ w2 ⟨s2, hr2, rfl, hb⟩
  have Bw := Lib.hid (below_step Bw.out hb)
  have R2 := Lib.hid hr2
  clear hb hr2
  go_wp2_with (first | (refine wpList_up rfl Try.underlying22 Try.underlying33 _ rfl _ rfl ?_; intro _ _ _) | (go_at_call 21; refine (same_end (a := s2) (b := s1) _ (by assumption) (by assumption) (R2.out.trans R1.out.symm)).mono ?_; rintro e w' ⟨rfl, n, rfl⟩))
  go_ret
  exact Tru.below (below_drewN Bw.out _)

/-- two numbers up to a not-a-number's bits, and a bool -/
def Duo (S T : Nat) (b : Bool) (w : World) (e : Ending) (w' : World) : Prop := ∃ r s, cn .f32 r = S ∧ cn .f32 s = T ∧ e = .returned (.tuple #[.float .f32 r, .float .f32 s, .bool b]) ∧ Below w.heap.size w w'
/-- the power that is asked, and where it is over the most -/
def pwQ (h F : Nat) : Nat := fop .quo .f32 h F
def pwO (h F m : Nat) : Bool := gtN (pwQ h F) (cn .f32 m)
def pwP (h F m : Nat) : Nat := bif pwO h F m then cn .f32 m else pwQ h F
def pwT (h F m : Nat) : Nat := fop .mul .f32 (pwP h F m) F
def pwB (h F m : Nat) (ok : Bool) : Bool := ok && lst h && lst m && fin .f32 (pwP h F m) && fin .f32 (pwT h F m)
abbrev pwS (h F m : Nat) (ok : Bool) : Nat := bif pwB h F m ok then pwP h F m else 0
abbrev pwU (h F m : Nat) (ok : Bool) : Nat := bif pwB h F m ok then pwT h F m else 0
theorem pwQ_of {h f F r : Nat} (hf : cn .f32 f = F) (a : FR .quo .f32 h f r) : cn .f32 r = pwQ h F := by unfold pwQ; rw [a.1, ← hf]; simp only [fopl', fopr']
theorem pwO_of {h F m r : Nat} {v : Bool} (hr : cn .f32 r = pwQ h F) (e : pwO h F m = v) : (FloatKind.f32.format.order r m == some .gt) = v := by
  rw [← e, ← order_cn, hr]; rfl
theorem pwT_of {h F m f p r : Nat} (hf : cn .f32 f = F) (hp : cn .f32 p = pwP h F m) (a : FR .mul .f32 p f r) : cn .f32 r = pwT h F m := by unfold pwT; rw [a.1, ← hp, ← hf]
theorem pwP_o {h F m : Nat} (e : pwO h F m = true) : cn .f32 m = pwP h F m := by unfold pwP; rw [e]; rfl
theorem pwP_n {h F m r : Nat} (e : pwO h F m = false) (hr : cn .f32 r = pwQ h F) : cn .f32 r = pwP h F m := by unfold pwP; rw [e]; exact hr
theorem Duo.no {h F m : Nat} {ok : Bool} {w w' : World} (e : pwB h F m ok = false) (hb : Below w.heap.size w w') : Duo (pwS h F m ok) (pwU h F m ok) (pwB h F m ok) w (.returned (.tuple #[.float .f32 0, .float .f32 0, .bool false])) w' := by
  unfold pwS pwU; rw [e]; exact ⟨0, 0, rfl, rfl, rfl, hb⟩
theorem Duo.yes {h F m p t : Nat} {ok : Bool} {w w' : World} (e : pwB h F m ok = true) (hp : cn .f32 p = pwP h F m) (ht : cn .f32 t = pwT h F m) (hb : Below w.heap.size w w') : Duo (pwS h F m ok) (pwU h F m ok) (pwB h F m ok) w (.returned (.tuple #[.float .f32 p, .float .f32 t, .bool true])) w' := by
  unfold pwS pwU; rw [e]; exact ⟨p, t, hp, ht, rfl, hb⟩
theorem fin_of {r S : Nat} (h : cn .f32 r = S) : fin .f32 r = fin .f32 S := by rw [← h, fin_cn]

set_option maxHeartbeats 1600000 in
theorem specPumpP_any (h x y z m : Nat) (w : World) : Calls Try.prog 24 #[.float .f32 h, .float .f32 x, .float .f32 y, .float .f32 z, .float .f32 m] w (Duo (pwS h (pfF x y z) m (pfO x y z)) (pwU h (pfF x y z) m (pfO x y z)) (pwB h (pfF x y z) m (pfO x y z)) w) := by
  have PF := Lib.hid (specPump_any x y z w)
  generalize pfF x y z = F at *
  generalize pfO x y z = ok at *
  cases B0 : ok
  · skip
    have E := Lib.hid (show pwB h F m false = false by unfold pwB; simp [])
    have H0 := Lib.hid B0
    clear B0
    go_enter Try.func24, Try.ntmps24
    go_wp2_with fail
    refine PF.out.mono ?_
    rw [H0.out]
    rintro e w' ⟨f, hf, rfl, hb⟩
    have HF := Lib.hid hf
    have Bw := Lib.hid hb
    clear hf hb
    go_wp2
    go_ret3
    exact Duo.no E.out (by first | exact Bw.out | exact below_drewN Bw.out _ | exact below_drewN (below_drewN Bw.out _) _)
  · skip
    cases B1 : lst h
    · skip
      have E := Lib.hid (show pwB h F m true = false by unfold pwB; simp [B1])
      have H0 := Lib.hid B0
      have H1 := Lib.hid B1
      clear B0 B1
      go_enter Try.func24, Try.ntmps24
      go_wp2_with fail
      refine PF.out.mono ?_
      rw [H0.out]
      rintro e w' ⟨f, hf, rfl, hb⟩
      have HF := Lib.hid hf
      have Bw := Lib.hid hb
      clear hf hb
      go_wp2_with fail
      refine (specLeast_any h _).mono ?_
      rw [H1.out]
      rintro e w' ⟨rfl, n, rfl⟩
      go_wp2
      go_ret3
      exact Duo.no E.out (by first | exact Bw.out | exact below_drewN Bw.out _ | exact below_drewN (below_drewN Bw.out _) _)
    · skip
      cases B2 : lst m
      · skip
        have E := Lib.hid (show pwB h F m true = false by unfold pwB; simp [B1, B2])
        have H0 := Lib.hid B0
        have H1 := Lib.hid B1
        have H2 := Lib.hid B2
        clear B0 B1 B2
        go_enter Try.func24, Try.ntmps24
        go_wp2_with fail
        refine PF.out.mono ?_
        rw [H0.out]
        rintro e w' ⟨f, hf, rfl, hb⟩
        have HF := Lib.hid hf
        have Bw := Lib.hid hb
        clear hf hb
        go_wp2_with fail
        refine (specLeast_any h _).mono ?_
        rw [H1.out]
        rintro e w' ⟨rfl, n, rfl⟩
        go_wp2_with fail
        refine (specLeast_any m _).mono ?_
        rw [H2.out]
        rintro e w' ⟨rfl, n, rfl⟩
        go_wp2
        go_ret3
        exact Duo.no E.out (by first | exact Bw.out | exact below_drewN Bw.out _ | exact below_drewN (below_drewN Bw.out _) _)
      · skip
        cases BO : pwO h F m
        · skip
          cases B3 : fin .f32 (pwP h F m)
          · skip
            have E := Lib.hid (show pwB h F m true = false by unfold pwB; simp [B1, B2, B3])
            have H0 := Lib.hid B0
            have H1 := Lib.hid B1
            have H2 := Lib.hid B2
            have HO := Lib.hid BO
            have H3 := Lib.hid B3
            clear B0 B1 B2 B3 BO
            go_enter Try.func24, Try.ntmps24
            go_wp2_with fail
            refine PF.out.mono ?_
            rw [H0.out]
            rintro e w' ⟨f, hf, rfl, hb⟩
            have HF := Lib.hid hf
            have Bw := Lib.hid hb
            clear hf hb
            go_wp2_with fail
            refine (specLeast_any h _).mono ?_
            rw [H1.out]
            rintro e w' ⟨rfl, n, rfl⟩
            go_wp2_with fail
            refine (specLeast_any m _).mono ?_
            rw [H2.out]
            rintro e w' ⟨rfl, n, rfl⟩
            go_wp2_with (refine wpList_farith rfl _ _ _ _ _ rfl rfl _ _ _ rfl rfl ?_; intro r0 j0 g0; have f0 := Lib.hid g0; clear g0; refine Stop.go ?_)
            refine Stop.mk ?_
            have Q := Lib.hid (pwQ_of HF.out f0.out)
            have oo := pwO_of (m := m) Q.out HO.out
            have PP := Lib.hid (pwP_n HO.out Q.out)
            clear f0
            go_wp2_with (refine wpList_farith rfl _ _ _ _ _ rfl rfl _ _ _ rfl rfl ?_; intro r1 j1 g1; have f1 := Lib.hid g1; clear g1; refine Stop.go ?_)
            refine Stop.mk ?_
            have TT := Lib.hid (pwT_of HF.out PP.out f1.out)
            clear f1
            go_wp2_with fail
            refine (specFinite_any r0 _).mono ?_
            rw [(fin_of PP.out).trans H3.out]
            rintro e w' ⟨rfl, n1, rfl⟩
            go_wp2
            go_ret3
            exact Duo.no E.out (by repeat (first | exact Bw.out | refine below_drewN ?_ _))
          · skip
            cases B4 : fin .f32 (pwT h F m)
            · skip
              have E := Lib.hid (show pwB h F m true = false by unfold pwB; simp [B1, B2, B3, B4])
              have H0 := Lib.hid B0
              have H1 := Lib.hid B1
              have H2 := Lib.hid B2
              have HO := Lib.hid BO
              have H3 := Lib.hid B3
              have H4 := Lib.hid B4
              clear B0 B1 B2 B3 B4 BO
              go_enter Try.func24, Try.ntmps24
              go_wp2_with fail
              refine PF.out.mono ?_
              rw [H0.out]
              rintro e w' ⟨f, hf, rfl, hb⟩
              have HF := Lib.hid hf
              have Bw := Lib.hid hb
              clear hf hb
              go_wp2_with fail
              refine (specLeast_any h _).mono ?_
              rw [H1.out]
              rintro e w' ⟨rfl, n, rfl⟩
              go_wp2_with fail
              refine (specLeast_any m _).mono ?_
              rw [H2.out]
              rintro e w' ⟨rfl, n, rfl⟩
              go_wp2_with (refine wpList_farith rfl _ _ _ _ _ rfl rfl _ _ _ rfl rfl ?_; intro r0 j0 g0; have f0 := Lib.hid g0; clear g0; refine Stop.go ?_)
              refine Stop.mk ?_
              have Q := Lib.hid (pwQ_of HF.out f0.out)
              have oo := pwO_of (m := m) Q.out HO.out
              have PP := Lib.hid (pwP_n HO.out Q.out)
              clear f0
              go_wp2_with (refine wpList_farith rfl _ _ _ _ _ rfl rfl _ _ _ rfl rfl ?_; intro r1 j1 g1; have f1 := Lib.hid g1; clear g1; refine Stop.go ?_)
              refine Stop.mk ?_
              have TT := Lib.hid (pwT_of HF.out PP.out f1.out)
              clear f1
              go_wp2_with fail
              refine (specFinite_any r0 _).mono ?_
              rw [(fin_of PP.out).trans H3.out]
              rintro e w' ⟨rfl, n1, rfl⟩
              go_wp2_with fail
              refine (specFinite_any _ _).mono ?_
              rw [(fin_of TT.out).trans H4.out]
              rintro e w' ⟨rfl, n2, rfl⟩
              go_wp2
              go_ret3
              exact Duo.no E.out (by repeat (first | exact Bw.out | refine below_drewN ?_ _))
            · skip
              have E := Lib.hid (show pwB h F m true = true by unfold pwB; simp [B1, B2, B3, B4])
              have H0 := Lib.hid B0
              have H1 := Lib.hid B1
              have H2 := Lib.hid B2
              have HO := Lib.hid BO
              have H3 := Lib.hid B3
              have H4 := Lib.hid B4
              clear B0 B1 B2 B3 B4 BO
              go_enter Try.func24, Try.ntmps24
              go_wp2_with fail
              refine PF.out.mono ?_
              rw [H0.out]
              rintro e w' ⟨f, hf, rfl, hb⟩
              have HF := Lib.hid hf
              have Bw := Lib.hid hb
              clear hf hb
              go_wp2_with fail
              refine (specLeast_any h _).mono ?_
              rw [H1.out]
              rintro e w' ⟨rfl, n, rfl⟩
              go_wp2_with fail
              refine (specLeast_any m _).mono ?_
              rw [H2.out]
              rintro e w' ⟨rfl, n, rfl⟩
              go_wp2_with (refine wpList_farith rfl _ _ _ _ _ rfl rfl _ _ _ rfl rfl ?_; intro r0 j0 g0; have f0 := Lib.hid g0; clear g0; refine Stop.go ?_)
              refine Stop.mk ?_
              have Q := Lib.hid (pwQ_of HF.out f0.out)
              have oo := pwO_of (m := m) Q.out HO.out
              have PP := Lib.hid (pwP_n HO.out Q.out)
              clear f0
              go_wp2_with (refine wpList_farith rfl _ _ _ _ _ rfl rfl _ _ _ rfl rfl ?_; intro r1 j1 g1; have f1 := Lib.hid g1; clear g1; refine Stop.go ?_)
              refine Stop.mk ?_
              have TT := Lib.hid (pwT_of HF.out PP.out f1.out)
              clear f1
              go_wp2_with fail
              refine (specFinite_any r0 _).mono ?_
              rw [(fin_of PP.out).trans H3.out]
              rintro e w' ⟨rfl, n1, rfl⟩
              go_wp2_with fail
              refine (specFinite_any _ _).mono ?_
              rw [(fin_of TT.out).trans H4.out]
              rintro e w' ⟨rfl, n2, rfl⟩
              go_wp2
              go_ret3
              exact Duo.yes E.out PP.out TT.out (by repeat (first | exact Bw.out | refine below_drewN ?_ _))
        · skip
          cases B3 : fin .f32 (pwP h F m)
          · skip
            have E := Lib.hid (show pwB h F m true = false by unfold pwB; simp [B1, B2, B3])
            have H0 := Lib.hid B0
            have H1 := Lib.hid B1
            have H2 := Lib.hid B2
            have HO := Lib.hid BO
            have H3 := Lib.hid B3
            clear B0 B1 B2 B3 BO
            go_enter Try.func24, Try.ntmps24
            go_wp2_with fail
            refine PF.out.mono ?_
            rw [H0.out]
            rintro e w' ⟨f, hf, rfl, hb⟩
            have HF := Lib.hid hf
            have Bw := Lib.hid hb
            clear hf hb
            go_wp2_with fail
            refine (specLeast_any h _).mono ?_
            rw [H1.out]
            rintro e w' ⟨rfl, n, rfl⟩
            go_wp2_with fail
            refine (specLeast_any m _).mono ?_
            rw [H2.out]
            rintro e w' ⟨rfl, n, rfl⟩
            go_wp2_with (refine wpList_farith rfl _ _ _ _ _ rfl rfl _ _ _ rfl rfl ?_; intro r0 j0 g0; have f0 := Lib.hid g0; clear g0; refine Stop.go ?_)
            refine Stop.mk ?_
            have Q := Lib.hid (pwQ_of HF.out f0.out)
            have oo := pwO_of (m := m) Q.out HO.out
            have PP := Lib.hid (pwP_o HO.out)
            clear f0
            go_wp2_with (refine wpList_farith rfl _ _ _ _ _ rfl rfl _ _ _ rfl rfl ?_; intro r1 j1 g1; have f1 := Lib.hid g1; clear g1; refine Stop.go ?_)
            refine Stop.mk ?_
            have TT := Lib.hid (pwT_of HF.out PP.out f1.out)
            clear f1
            go_wp2_with fail
            refine (specFinite_any m _).mono ?_
            rw [(fin_of PP.out).trans H3.out]
            rintro e w' ⟨rfl, n1, rfl⟩
            go_wp2
            go_ret3
            exact Duo.no E.out (by repeat (first | exact Bw.out | refine below_drewN ?_ _))
          · skip
            cases B4 : fin .f32 (pwT h F m)
            · skip
              have E := Lib.hid (show pwB h F m true = false by unfold pwB; simp [B1, B2, B3, B4])
              have H0 := Lib.hid B0
              have H1 := Lib.hid B1
              have H2 := Lib.hid B2
              have HO := Lib.hid BO
              have H3 := Lib.hid B3
              have H4 := Lib.hid B4
              clear B0 B1 B2 B3 B4 BO
              go_enter Try.func24, Try.ntmps24
              go_wp2_with fail
              refine PF.out.mono ?_
              rw [H0.out]
              rintro e w' ⟨f, hf, rfl, hb⟩
              have HF := Lib.hid hf
              have Bw := Lib.hid hb
              clear hf hb
              go_wp2_with fail
              refine (specLeast_any h _).mono ?_
              rw [H1.out]
              rintro e w' ⟨rfl, n, rfl⟩
              go_wp2_with fail
              refine (specLeast_any m _).mono ?_
              rw [H2.out]
              rintro e w' ⟨rfl, n, rfl⟩
              go_wp2_with (refine wpList_farith rfl _ _ _ _ _ rfl rfl _ _ _ rfl rfl ?_; intro r0 j0 g0; have f0 := Lib.hid g0; clear g0; refine Stop.go ?_)
              refine Stop.mk ?_
              have Q := Lib.hid (pwQ_of HF.out f0.out)
              have oo := pwO_of (m := m) Q.out HO.out
              have PP := Lib.hid (pwP_o HO.out)
              clear f0
              go_wp2_with (refine wpList_farith rfl _ _ _ _ _ rfl rfl _ _ _ rfl rfl ?_; intro r1 j1 g1; have f1 := Lib.hid g1; clear g1; refine Stop.go ?_)
              refine Stop.mk ?_
              have TT := Lib.hid (pwT_of HF.out PP.out f1.out)
              clear f1
              go_wp2_with fail
              refine (specFinite_any m _).mono ?_
              rw [(fin_of PP.out).trans H3.out]
              rintro e w' ⟨rfl, n1, rfl⟩
              go_wp2_with fail
              refine (specFinite_any _ _).mono ?_
              rw [(fin_of TT.out).trans H4.out]
              rintro e w' ⟨rfl, n2, rfl⟩
              go_wp2
              go_ret3
              exact Duo.no E.out (by repeat (first | exact Bw.out | refine below_drewN ?_ _))
            · skip
              have E := Lib.hid (show pwB h F m true = true by unfold pwB; simp [B1, B2, B3, B4])
              have H0 := Lib.hid B0
              have H1 := Lib.hid B1
              have H2 := Lib.hid B2
              have HO := Lib.hid BO
              have H3 := Lib.hid B3
              have H4 := Lib.hid B4
              clear B0 B1 B2 B3 B4 BO
              go_enter Try.func24, Try.ntmps24
              go_wp2_with fail
              refine PF.out.mono ?_
              rw [H0.out]
              rintro e w' ⟨f, hf, rfl, hb⟩
              have HF := Lib.hid hf
              have Bw := Lib.hid hb
              clear hf hb
              go_wp2_with fail
              refine (specLeast_any h _).mono ?_
              rw [H1.out]
              rintro e w' ⟨rfl, n, rfl⟩
              go_wp2_with fail
              refine (specLeast_any m _).mono ?_
              rw [H2.out]
              rintro e w' ⟨rfl, n, rfl⟩
              go_wp2_with (refine wpList_farith rfl _ _ _ _ _ rfl rfl _ _ _ rfl rfl ?_; intro r0 j0 g0; have f0 := Lib.hid g0; clear g0; refine Stop.go ?_)
              refine Stop.mk ?_
              have Q := Lib.hid (pwQ_of HF.out f0.out)
              have oo := pwO_of (m := m) Q.out HO.out
              have PP := Lib.hid (pwP_o HO.out)
              clear f0
              go_wp2_with (refine wpList_farith rfl _ _ _ _ _ rfl rfl _ _ _ rfl rfl ?_; intro r1 j1 g1; have f1 := Lib.hid g1; clear g1; refine Stop.go ?_)
              refine Stop.mk ?_
              have TT := Lib.hid (pwT_of HF.out PP.out f1.out)
              clear f1
              go_wp2_with fail
              refine (specFinite_any m _).mono ?_
              rw [(fin_of PP.out).trans H3.out]
              rintro e w' ⟨rfl, n1, rfl⟩
              go_wp2_with fail
              refine (specFinite_any _ _).mono ?_
              rw [(fin_of TT.out).trans H4.out]
              rintro e w' ⟨rfl, n2, rfl⟩
              go_wp2
              go_ret3
              exact Duo.yes E.out PP.out TT.out (by repeat (first | exact Bw.out | refine below_drewN ?_ _))
set_option maxHeartbeats 1600000 in
theorem implPumpP_any (h x y z m : Nat) (w : World) : Calls Try.prog 25 #[.float .f32 h, .float .f32 x, .float .f32 y, .float .f32 z, .float .f32 m] w (Duo (pwS h (pfF x y z) m (pfO x y z)) (pwU h (pfF x y z) m (pfO x y z)) (pwB h (pfF x y z) m (pfO x y z)) w) := by
  have PF := Lib.hid (implPump_any x y z w)
  generalize pfF x y z = F at *
  generalize pfO x y z = ok at *
  cases B0 : ok
  · skip
    have E := Lib.hid (show pwB h F m false = false by unfold pwB; simp [])
    have H0 := Lib.hid B0
    clear B0
    go_enter Try.func25, Try.ntmps25
    go_wp2_with fail
    refine PF.out.mono ?_
    rw [H0.out]
    rintro e w' ⟨f, hf, rfl, hb⟩
    have HF := Lib.hid hf
    have Bw := Lib.hid hb
    clear hf hb
    go_wp2
    go_ret3
    exact Duo.no E.out (by first | exact Bw.out | exact below_drewN Bw.out _ | exact below_drewN (below_drewN Bw.out _) _)
  · skip
    cases B1 : lst h
    · skip
      have E := Lib.hid (show pwB h F m true = false by unfold pwB; simp [B1])
      have H0 := Lib.hid B0
      have H1 := Lib.hid B1
      clear B0 B1
      go_enter Try.func25, Try.ntmps25
      go_wp2_with fail
      refine PF.out.mono ?_
      rw [H0.out]
      rintro e w' ⟨f, hf, rfl, hb⟩
      have HF := Lib.hid hf
      have Bw := Lib.hid hb
      clear hf hb
      go_wp2_with fail
      refine (implNotNeg_any h _).mono ?_
      rw [H1.out]
      rintro e w' ⟨rfl, n, rfl⟩
      go_wp2
      go_ret3
      exact Duo.no E.out (by first | exact Bw.out | exact below_drewN Bw.out _ | exact below_drewN (below_drewN Bw.out _) _)
    · skip
      cases B2 : lst m
      · skip
        have E := Lib.hid (show pwB h F m true = false by unfold pwB; simp [B1, B2])
        have H0 := Lib.hid B0
        have H1 := Lib.hid B1
        have H2 := Lib.hid B2
        clear B0 B1 B2
        go_enter Try.func25, Try.ntmps25
        go_wp2_with fail
        refine PF.out.mono ?_
        rw [H0.out]
        rintro e w' ⟨f, hf, rfl, hb⟩
        have HF := Lib.hid hf
        have Bw := Lib.hid hb
        clear hf hb
        go_wp2_with fail
        refine (implNotNeg_any h _).mono ?_
        rw [H1.out]
        rintro e w' ⟨rfl, n, rfl⟩
        go_wp2_with fail
        refine (implNotNeg_any m _).mono ?_
        rw [H2.out]
        rintro e w' ⟨rfl, n, rfl⟩
        go_wp2
        go_ret3
        exact Duo.no E.out (by first | exact Bw.out | exact below_drewN Bw.out _ | exact below_drewN (below_drewN Bw.out _) _)
      · skip
        cases BO : pwO h F m
        · skip
          cases B3 : fin .f32 (pwP h F m)
          · skip
            have E := Lib.hid (show pwB h F m true = false by unfold pwB; simp [B1, B2, B3])
            have H0 := Lib.hid B0
            have H1 := Lib.hid B1
            have H2 := Lib.hid B2
            have HO := Lib.hid BO
            have H3 := Lib.hid B3
            clear B0 B1 B2 B3 BO
            go_enter Try.func25, Try.ntmps25
            go_wp2_with fail
            refine PF.out.mono ?_
            rw [H0.out]
            rintro e w' ⟨f, hf, rfl, hb⟩
            have HF := Lib.hid hf
            have Bw := Lib.hid hb
            clear hf hb
            go_wp2_with fail
            refine (implNotNeg_any h _).mono ?_
            rw [H1.out]
            rintro e w' ⟨rfl, n, rfl⟩
            go_wp2_with fail
            refine (implNotNeg_any m _).mono ?_
            rw [H2.out]
            rintro e w' ⟨rfl, n, rfl⟩
            go_wp2_with (refine wpList_farith rfl _ _ _ _ _ rfl rfl _ _ _ rfl rfl ?_; intro r0 j0 g0; have f0 := Lib.hid g0; clear g0; refine Stop.go ?_)
            refine Stop.mk ?_
            have Q := Lib.hid (pwQ_of HF.out f0.out)
            have oo := pwO_of (m := m) Q.out HO.out
            have PP := Lib.hid (pwP_n HO.out Q.out)
            clear f0
            go_wp2_with (refine wpList_farith rfl _ _ _ _ _ rfl rfl _ _ _ rfl rfl ?_; intro r1 j1 g1; have f1 := Lib.hid g1; clear g1; refine Stop.go ?_)
            refine Stop.mk ?_
            have TT := Lib.hid (pwT_of HF.out PP.out f1.out)
            clear f1
            go_wp2_with fail
            refine (implFinite_any r0 _).mono ?_
            rw [(fin_of PP.out).trans H3.out]
            rintro e w' ⟨rfl, n1, rfl⟩
            go_wp2
            go_ret3
            exact Duo.no E.out (by repeat (first | exact Bw.out | refine below_drewN ?_ _))
          · skip
            cases B4 : fin .f32 (pwT h F m)
            · skip
              have E := Lib.hid (show pwB h F m true = false by unfold pwB; simp [B1, B2, B3, B4])
              have H0 := Lib.hid B0
              have H1 := Lib.hid B1
              have H2 := Lib.hid B2
              have HO := Lib.hid BO
              have H3 := Lib.hid B3
              have H4 := Lib.hid B4
              clear B0 B1 B2 B3 B4 BO
              go_enter Try.func25, Try.ntmps25
              go_wp2_with fail
              refine PF.out.mono ?_
              rw [H0.out]
              rintro e w' ⟨f, hf, rfl, hb⟩
              have HF := Lib.hid hf
              have Bw := Lib.hid hb
              clear hf hb
              go_wp2_with fail
              refine (implNotNeg_any h _).mono ?_
              rw [H1.out]
              rintro e w' ⟨rfl, n, rfl⟩
              go_wp2_with fail
              refine (implNotNeg_any m _).mono ?_
              rw [H2.out]
              rintro e w' ⟨rfl, n, rfl⟩
              go_wp2_with (refine wpList_farith rfl _ _ _ _ _ rfl rfl _ _ _ rfl rfl ?_; intro r0 j0 g0; have f0 := Lib.hid g0; clear g0; refine Stop.go ?_)
              refine Stop.mk ?_
              have Q := Lib.hid (pwQ_of HF.out f0.out)
              have oo := pwO_of (m := m) Q.out HO.out
              have PP := Lib.hid (pwP_n HO.out Q.out)
              clear f0
              go_wp2_with (refine wpList_farith rfl _ _ _ _ _ rfl rfl _ _ _ rfl rfl ?_; intro r1 j1 g1; have f1 := Lib.hid g1; clear g1; refine Stop.go ?_)
              refine Stop.mk ?_
              have TT := Lib.hid (pwT_of HF.out PP.out f1.out)
              clear f1
              go_wp2_with fail
              refine (implFinite_any r0 _).mono ?_
              rw [(fin_of PP.out).trans H3.out]
              rintro e w' ⟨rfl, n1, rfl⟩
              go_wp2_with fail
              refine (implFinite_any _ _).mono ?_
              rw [(fin_of TT.out).trans H4.out]
              rintro e w' ⟨rfl, n2, rfl⟩
              go_wp2
              go_ret3
              exact Duo.no E.out (by repeat (first | exact Bw.out | refine below_drewN ?_ _))
            · skip
              have E := Lib.hid (show pwB h F m true = true by unfold pwB; simp [B1, B2, B3, B4])
              have H0 := Lib.hid B0
              have H1 := Lib.hid B1
              have H2 := Lib.hid B2
              have HO := Lib.hid BO
              have H3 := Lib.hid B3
              have H4 := Lib.hid B4
              clear B0 B1 B2 B3 B4 BO
              go_enter Try.func25, Try.ntmps25
              go_wp2_with fail
              refine PF.out.mono ?_
              rw [H0.out]
              rintro e w' ⟨f, hf, rfl, hb⟩
              have HF := Lib.hid hf
              have Bw := Lib.hid hb
              clear hf hb
              go_wp2_with fail
              refine (implNotNeg_any h _).mono ?_
              rw [H1.out]
              rintro e w' ⟨rfl, n, rfl⟩
              go_wp2_with fail
              refine (implNotNeg_any m _).mono ?_
              rw [H2.out]
              rintro e w' ⟨rfl, n, rfl⟩
              go_wp2_with (refine wpList_farith rfl _ _ _ _ _ rfl rfl _ _ _ rfl rfl ?_; intro r0 j0 g0; have f0 := Lib.hid g0; clear g0; refine Stop.go ?_)
              refine Stop.mk ?_
              have Q := Lib.hid (pwQ_of HF.out f0.out)
              have oo := pwO_of (m := m) Q.out HO.out
              have PP := Lib.hid (pwP_n HO.out Q.out)
              clear f0
              go_wp2_with (refine wpList_farith rfl _ _ _ _ _ rfl rfl _ _ _ rfl rfl ?_; intro r1 j1 g1; have f1 := Lib.hid g1; clear g1; refine Stop.go ?_)
              refine Stop.mk ?_
              have TT := Lib.hid (pwT_of HF.out PP.out f1.out)
              clear f1
              go_wp2_with fail
              refine (implFinite_any r0 _).mono ?_
              rw [(fin_of PP.out).trans H3.out]
              rintro e w' ⟨rfl, n1, rfl⟩
              go_wp2_with fail
              refine (implFinite_any _ _).mono ?_
              rw [(fin_of TT.out).trans H4.out]
              rintro e w' ⟨rfl, n2, rfl⟩
              go_wp2
              go_ret3
              exact Duo.yes E.out PP.out TT.out (by repeat (first | exact Bw.out | refine below_drewN ?_ _))
        · skip
          cases B3 : fin .f32 (pwP h F m)
          · skip
            have E := Lib.hid (show pwB h F m true = false by unfold pwB; simp [B1, B2, B3])
            have H0 := Lib.hid B0
            have H1 := Lib.hid B1
            have H2 := Lib.hid B2
            have HO := Lib.hid BO
            have H3 := Lib.hid B3
            clear B0 B1 B2 B3 BO
            go_enter Try.func25, Try.ntmps25
            go_wp2_with fail
            refine PF.out.mono ?_
            rw [H0.out]
            rintro e w' ⟨f, hf, rfl, hb⟩
            have HF := Lib.hid hf
            have Bw := Lib.hid hb
            clear hf hb
            go_wp2_with fail
            refine (implNotNeg_any h _).mono ?_
            rw [H1.out]
            rintro e w' ⟨rfl, n, rfl⟩
            go_wp2_with fail
            refine (implNotNeg_any m _).mono ?_
            rw [H2.out]
            rintro e w' ⟨rfl, n, rfl⟩
            go_wp2_with (refine wpList_farith rfl _ _ _ _ _ rfl rfl _ _ _ rfl rfl ?_; intro r0 j0 g0; have f0 := Lib.hid g0; clear g0; refine Stop.go ?_)
            refine Stop.mk ?_
            have Q := Lib.hid (pwQ_of HF.out f0.out)
            have oo := pwO_of (m := m) Q.out HO.out
            have PP := Lib.hid (pwP_o HO.out)
            clear f0
            go_wp2_with (refine wpList_farith rfl _ _ _ _ _ rfl rfl _ _ _ rfl rfl ?_; intro r1 j1 g1; have f1 := Lib.hid g1; clear g1; refine Stop.go ?_)
            refine Stop.mk ?_
            have TT := Lib.hid (pwT_of HF.out PP.out f1.out)
            clear f1
            go_wp2_with fail
            refine (implFinite_any m _).mono ?_
            rw [(fin_of PP.out).trans H3.out]
            rintro e w' ⟨rfl, n1, rfl⟩
            go_wp2
            go_ret3
            exact Duo.no E.out (by repeat (first | exact Bw.out | refine below_drewN ?_ _))
          · skip
            cases B4 : fin .f32 (pwT h F m)
            · skip
              have E := Lib.hid (show pwB h F m true = false by unfold pwB; simp [B1, B2, B3, B4])
              have H0 := Lib.hid B0
              have H1 := Lib.hid B1
              have H2 := Lib.hid B2
              have HO := Lib.hid BO
              have H3 := Lib.hid B3
              have H4 := Lib.hid B4
              clear B0 B1 B2 B3 B4 BO
              go_enter Try.func25, Try.ntmps25
              go_wp2_with fail
              refine PF.out.mono ?_
              rw [H0.out]
              rintro e w' ⟨f, hf, rfl, hb⟩
              have HF := Lib.hid hf
              have Bw := Lib.hid hb
              clear hf hb
              go_wp2_with fail
              refine (implNotNeg_any h _).mono ?_
              rw [H1.out]
              rintro e w' ⟨rfl, n, rfl⟩
              go_wp2_with fail
              refine (implNotNeg_any m _).mono ?_
              rw [H2.out]
              rintro e w' ⟨rfl, n, rfl⟩
              go_wp2_with (refine wpList_farith rfl _ _ _ _ _ rfl rfl _ _ _ rfl rfl ?_; intro r0 j0 g0; have f0 := Lib.hid g0; clear g0; refine Stop.go ?_)
              refine Stop.mk ?_
              have Q := Lib.hid (pwQ_of HF.out f0.out)
              have oo := pwO_of (m := m) Q.out HO.out
              have PP := Lib.hid (pwP_o HO.out)
              clear f0
              go_wp2_with (refine wpList_farith rfl _ _ _ _ _ rfl rfl _ _ _ rfl rfl ?_; intro r1 j1 g1; have f1 := Lib.hid g1; clear g1; refine Stop.go ?_)
              refine Stop.mk ?_
              have TT := Lib.hid (pwT_of HF.out PP.out f1.out)
              clear f1
              go_wp2_with fail
              refine (implFinite_any m _).mono ?_
              rw [(fin_of PP.out).trans H3.out]
              rintro e w' ⟨rfl, n1, rfl⟩
              go_wp2_with fail
              refine (implFinite_any _ _).mono ?_
              rw [(fin_of TT.out).trans H4.out]
              rintro e w' ⟨rfl, n2, rfl⟩
              go_wp2
              go_ret3
              exact Duo.no E.out (by repeat (first | exact Bw.out | refine below_drewN ?_ _))
            · skip
              have E := Lib.hid (show pwB h F m true = true by unfold pwB; simp [B1, B2, B3, B4])
              have H0 := Lib.hid B0
              have H1 := Lib.hid B1
              have H2 := Lib.hid B2
              have HO := Lib.hid BO
              have H3 := Lib.hid B3
              have H4 := Lib.hid B4
              clear B0 B1 B2 B3 B4 BO
              go_enter Try.func25, Try.ntmps25
              go_wp2_with fail
              refine PF.out.mono ?_
              rw [H0.out]
              rintro e w' ⟨f, hf, rfl, hb⟩
              have HF := Lib.hid hf
              have Bw := Lib.hid hb
              clear hf hb
              go_wp2_with fail
              refine (implNotNeg_any h _).mono ?_
              rw [H1.out]
              rintro e w' ⟨rfl, n, rfl⟩
              go_wp2_with fail
              refine (implNotNeg_any m _).mono ?_
              rw [H2.out]
              rintro e w' ⟨rfl, n, rfl⟩
              go_wp2_with (refine wpList_farith rfl _ _ _ _ _ rfl rfl _ _ _ rfl rfl ?_; intro r0 j0 g0; have f0 := Lib.hid g0; clear g0; refine Stop.go ?_)
              refine Stop.mk ?_
              have Q := Lib.hid (pwQ_of HF.out f0.out)
              have oo := pwO_of (m := m) Q.out HO.out
              have PP := Lib.hid (pwP_o HO.out)
              clear f0
              go_wp2_with (refine wpList_farith rfl _ _ _ _ _ rfl rfl _ _ _ rfl rfl ?_; intro r1 j1 g1; have f1 := Lib.hid g1; clear g1; refine Stop.go ?_)
              refine Stop.mk ?_
              have TT := Lib.hid (pwT_of HF.out PP.out f1.out)
              clear f1
              go_wp2_with fail
              refine (implFinite_any m _).mono ?_
              rw [(fin_of PP.out).trans H3.out]
              rintro e w' ⟨rfl, n1, rfl⟩
              go_wp2_with fail
              refine (implFinite_any _ _).mono ?_
              rw [(fin_of TT.out).trans H4.out]
              rintro e w' ⟨rfl, n2, rfl⟩
              go_wp2
              go_ret3
              exact Duo.yes E.out PP.out TT.out (by repeat (first | exact Bw.out | refine below_drewN ?_ _))
set_option maxRecDepth 20000 in
theorem fnExactPumpPower_walk (h x y z m : Nat) (w : World) (_ : (Lit.float .f32 h).wf = true) (_ : (Lit.float .f32 x).wf = true) (_ : (Lit.float .f32 y).wf = true) (_ : (Lit.float .f32 z).wf = true) (_ : (Lit.float .f32 m).wf = true) : Calls Try.prog 6 #[.float .f32 h, .float .f32 x, .float .f32 y, .float .f32 z, .float .f32 m] w (Tru w) := by
  go_enter Try.func6, Try.ntmps6
  go_wp2_with fail
  refine (specPumpP_any h x y z m _).mono ?_
  rintro _ w1 ⟨s1, t1, hs1, ht1, rfl, hb⟩
  have Bw := Lib.hid hb
  have R1 := Lib.hid hs1
  have T1 := Lib.hid ht1
  clear hb hs1 ht1
  go_wp2_with fail
  refine (implPumpP_any h x y z m _).mono ?_
  rintro _ w2 ⟨s2, t2, hs2, ht2, rfl, hb⟩
  have Bw := Lib.hid (below_step Bw.out hb)
  have R2 := Lib.hid hs2
  have T2 := Lib.hid ht2
  clear hb hs2 ht2
  go_wp2_with (first | (refine wpList_up rfl Try.underlying22 Try.underlying33 _ rfl _ rfl ?_; intro _ _ _) | (refine upon_up Try.underlying22 Try.underlying33 _ ?_; intro _ _ _; simp only [Result.andThen_ok]) | (go_at_call 21; refine (same_end (a := s2) (b := s1) _ (by assumption) (by assumption) (R2.out.trans R1.out.symm)).mono ?_; rintro e w' ⟨rfl, n, rfl⟩) | (go_at_call 21; refine (same_end (a := t2) (b := t1) _ (by assumption) (by assumption) (T2.out.trans T1.out.symm)).mono ?_; rintro e w' ⟨rfl, n, rfl⟩))
  go_ret
  exact Tru.below (by repeat (first | exact Bw.out | refine below_drewN ?_ _))

end Go.Proofs.Ytjkokhdbkmjenaa
