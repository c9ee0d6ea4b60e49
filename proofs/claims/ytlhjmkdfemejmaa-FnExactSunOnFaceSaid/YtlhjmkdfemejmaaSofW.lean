/- What comes to a face: both sides, and the law. -/
import Derived.Test.YtlhjmkdfemejmaaSunB
import Derived.Test.YtlhjmkdfemejmaaHalf2
namespace Go.Proofs.Ytlhjmkdfemejmaa
open Go.RowKit
set_option linter.unusedVariables false

def soI (h t k f : Nat) : Nat := (fop .add .f32 (fop .mul .f32 (sinF (cn .f32 h)) (cosF (cn .f32 k))) (fop .mul .f32 (fop .mul .f32 (cosF (cn .f32 h)) (sinF (cn .f32 k))) (cosF (fop .sub .f32 t f))))
theorem soI_of {h t k f r0 r1 r2 r3 r4 r5 r6 r7 r8 r9 : Nat} (f0 : cn .f32 r0 = sinF (cn .f32 h)) (f1 : cn .f32 r1 = cosF (cn .f32 k)) (f2 : FR .mul .f32 r0 r1 r2) (f3 : cn .f32 r3 = cosF (cn .f32 h)) (f4 : cn .f32 r4 = sinF (cn .f32 k)) (f5 : FR .mul .f32 r3 r4 r5) (f6 : FR .sub .f32 t f r6) (f7 : cn .f32 r7 = cosF (cn .f32 r6)) (f8 : FR .mul .f32 r5 r7 r8) (f9 : FR .add .f32 r2 r8 r9) : cn .f32 r9 = soI h t k f := by
  unfold soI
  simp only [f0, f1, f2.1, f3, f4, f5.1, f6.1, f7, f8.1, f9.1, fopl', fopr']
def soX (h t k f b : Nat) : Nat := if gt0 h && gt0 (soI h t k f) then fop .mul .f32 b (soI h t k f) else 0
def soV (h t k f b y : Nat) : Nat := fop .add .f32 (soX h t k f b) (fop .mul .f32 y (fop .mul .f32 1056964608 (fop .add .f32 1065353216 (cosF (cn .f32 k)))))
theorem gt0_cn' {x S : Nat} (h : cn .f32 x = S) : gt0 x = gt0 S := by
  unfold gt0
  rw [← order_cn .f32 x 0, ← order_cn .f32 S 0, h, show cn .f32 S = S by rw [← h, cn_cn]]
theorem soX_no {h t k f b : Nat} (hg : (gt0 h && gt0 (soI h t k f)) = false) : cn .f32 0 = soX h t k f b := by unfold soX; rw [hg, if_neg (by decide)]; decide +kernel
theorem soX_yes {h t k f b r9 r10 : Nat} (hg : (gt0 h && gt0 (soI h t k f)) = true) (hi : cn .f32 r9 = soI h t k f) (f10 : FR .mul .f32 b r9 r10) : cn .f32 r10 = soX h t k f b := by unfold soX; rw [hg, if_pos rfl, f10.1, hi]; simp only [fopl']
theorem soV_s {h t k f b y x r11 r12 r13 r14 r15 : Nat} (hx : cn .f32 x = soX h t k f b) (f11 : cn .f32 r11 = cosF (cn .f32 k)) (f12 : FR .add .f32 1065353216 r11 r12) (f13 : FR .mul .f32 1056964608 r12 r13) (f14 : FR .mul .f32 y r13 r14) (f15 : FR .add .f32 x r14 r15) : cn .f32 r15 = soV h t k f b y := by
  unfold soV
  rw [f15.1, hx, f14.1, f13.1, f12.1, f11]
  simp only [fopl']
theorem soV_i {h t k f b y x r11 r12 r13 r14 r15 : Nat} (hx : cn .f32 x = soX h t k f b) (f11 : cn .f32 r11 = cosF (cn .f32 k)) (f12 : FR .add .f32 1065353216 r11 r12) (f13 : FR .quo .f32 r12 1073741824 r13) (f14 : FR .mul .f32 y r13 r14) (f15 : FR .add .f32 x r14 r15) : cn .f32 r15 = soV h t k f b y := by
  unfold soV
  rw [f15.1, hx, f14.1, f13.1, fop_half, f12.1, f11]
  simp only [fopl']
def soB (h t k f b y : Nat) : Bool := wth h 3196059648 1048576000 && fin .f32 t && geN k 0 && leN k 1056964608 && fin .f32 f && lst b && lst y
theorem soB_eq (h t k f b y : Nat) : soB h t k f b y = (wth h 3196059648 1048576000 && wth k 0 1056964608 && fin .f32 t && fin .f32 f && lst b && lst y) := by
  unfold soB
  rw [show wth k 0 1056964608 = (geN k 0 && leN k 1056964608) from rfl]
  cases wth h 3196059648 1048576000 <;> cases fin .f32 t <;> cases geN k 0 <;> cases leN k 1056964608 <;> simp

set_option maxHeartbeats 3200000 in
theorem specSunFace_any (h t k f b y : Nat) (w : World) : Calls Try.prog 15 #[.float .f32 h, .float .f32 t, .float .f32 k, .float .f32 f, .float .f32 b, .float .f32 y] w (GivB (cS (soB h t k f b y) (soV h t k f b y)) (cB (soB h t k f b y) (soV h t k f b y)) w) := by
  cases B0 : wth h 3196059648 1048576000
  · skip
    have E := Lib.hid (show soB h t k f b y = false by unfold soB; rw [B0]; simp)
    have H0 := Lib.hid B0
    clear B0
    go_enter Try.func15, Try.ntmps15
    go_wp2_with fail
    refine (specNorth_any h _).mono ?_
    rw [H0.out]
    rintro e w' ⟨rfl, rfl⟩
    go_wp2
    go_ret2
    exact cGiv_no E.out (by first | exact Below.refl _ _ | exact below_drewN (Below.refl _ _) _ | exact (by repeat (first | exact Below.refl _ _ | refine Below.setCell ?_ (by first | exact Nat.le_refl _ | (simp; done) | (simp; omega) | omega) _ | refine below_drewN ?_ _ | refine Below.alloc ?_ (by first | exact Nat.le_refl _ | (simp; done) | (simp; omega) | omega) _)))
  · skip
    cases B1 : fin .f32 t
    · skip
      have E := Lib.hid (show soB h t k f b y = false by unfold soB; rw [B0, B1]; simp)
      have H0 := Lib.hid B0
      have H1 := Lib.hid B1
      clear B0 B1
      go_enter Try.func15, Try.ntmps15
      go_wp2_with fail
      refine (specNorth_any h _).mono ?_
      rw [H0.out]
      rintro e w' ⟨rfl, rfl⟩
      go_wp2_with fail
      refine (specFinite_any t _).mono ?_
      rw [H1.out]
      rintro e w' ⟨rfl, n1, rfl⟩
      go_wp2
      go_ret2
      exact cGiv_no E.out (by first | exact Below.refl _ _ | exact below_drewN (Below.refl _ _) _ | exact (by repeat (first | exact Below.refl _ _ | refine Below.setCell ?_ (by first | exact Nat.le_refl _ | (simp; done) | (simp; omega) | omega) _ | refine below_drewN ?_ _ | refine Below.alloc ?_ (by first | exact Nat.le_refl _ | (simp; done) | (simp; omega) | omega) _)))
    · skip
      cases B2 : geN k 0
      · skip
        have E := Lib.hid (show soB h t k f b y = false by unfold soB; rw [B0, B1, B2]; simp)
        have H0 := Lib.hid B0
        have H1 := Lib.hid B1
        have o2 : (FloatKind.f32.format.order k 0 == some .gt || FloatKind.f32.format.order k 0 == some .eq) = false := B2
        have H2 := Lib.hid B2
        clear B0 B1 B2
        go_enter Try.func15, Try.ntmps15
        go_wp2_with fail
        refine (specNorth_any h _).mono ?_
        rw [H0.out]
        rintro e w' ⟨rfl, rfl⟩
        go_wp2_with fail
        refine (specFinite_any t _).mono ?_
        rw [H1.out]
        rintro e w' ⟨rfl, n1, rfl⟩
        go_wp2
        go_ret2
        exact cGiv_no E.out (by first | exact Below.refl _ _ | exact below_drewN (Below.refl _ _) _ | exact (by repeat (first | exact Below.refl _ _ | refine Below.setCell ?_ (by first | exact Nat.le_refl _ | (simp; done) | (simp; omega) | omega) _ | refine below_drewN ?_ _ | refine Below.alloc ?_ (by first | exact Nat.le_refl _ | (simp; done) | (simp; omega) | omega) _)))
      · skip
        cases B3 : leN k 1056964608
        · skip
          have E := Lib.hid (show soB h t k f b y = false by unfold soB; rw [B0, B1, B2, B3]; simp)
          have H0 := Lib.hid B0
          have H1 := Lib.hid B1
          have o2 : (FloatKind.f32.format.order k 0 == some .gt || FloatKind.f32.format.order k 0 == some .eq) = true := B2
          have H2 := Lib.hid B2
          have o3 : (FloatKind.f32.format.order k 1056964608 == some .lt || FloatKind.f32.format.order k 1056964608 == some .eq) = false := B3
          have H3 := Lib.hid B3
          clear B0 B1 B2 B3
          go_enter Try.func15, Try.ntmps15
          go_wp2_with fail
          refine (specNorth_any h _).mono ?_
          rw [H0.out]
          rintro e w' ⟨rfl, rfl⟩
          go_wp2_with fail
          refine (specFinite_any t _).mono ?_
          rw [H1.out]
          rintro e w' ⟨rfl, n1, rfl⟩
          go_wp2
          go_ret2
          exact cGiv_no E.out (by first | exact Below.refl _ _ | exact below_drewN (Below.refl _ _) _ | exact (by repeat (first | exact Below.refl _ _ | refine Below.setCell ?_ (by first | exact Nat.le_refl _ | (simp; done) | (simp; omega) | omega) _ | refine below_drewN ?_ _ | refine Below.alloc ?_ (by first | exact Nat.le_refl _ | (simp; done) | (simp; omega) | omega) _)))
        · skip
          cases B4 : fin .f32 f
          · skip
            have E := Lib.hid (show soB h t k f b y = false by unfold soB; rw [B0, B1, B2, B3, B4]; simp)
            have H0 := Lib.hid B0
            have H1 := Lib.hid B1
            have o2 : (FloatKind.f32.format.order k 0 == some .gt || FloatKind.f32.format.order k 0 == some .eq) = true := B2
            have H2 := Lib.hid B2
            have o3 : (FloatKind.f32.format.order k 1056964608 == some .lt || FloatKind.f32.format.order k 1056964608 == some .eq) = true := B3
            have H3 := Lib.hid B3
            have H4 := Lib.hid B4
            clear B0 B1 B2 B3 B4
            go_enter Try.func15, Try.ntmps15
            go_wp2_with fail
            refine (specNorth_any h _).mono ?_
            rw [H0.out]
            rintro e w' ⟨rfl, rfl⟩
            go_wp2_with fail
            refine (specFinite_any t _).mono ?_
            rw [H1.out]
            rintro e w' ⟨rfl, n1, rfl⟩
            go_wp2_with fail
            refine (specFinite_any f _).mono ?_
            rw [H4.out]
            rintro e w' ⟨rfl, n2, rfl⟩
            go_wp2
            go_ret2
            exact cGiv_no E.out (by first | exact Below.refl _ _ | exact below_drewN (Below.refl _ _) _ | exact (by repeat (first | exact Below.refl _ _ | refine Below.setCell ?_ (by first | exact Nat.le_refl _ | (simp; done) | (simp; omega) | omega) _ | refine below_drewN ?_ _ | refine Below.alloc ?_ (by first | exact Nat.le_refl _ | (simp; done) | (simp; omega) | omega) _)))
          · skip
            cases B5 : lst b
            · skip
              have E := Lib.hid (show soB h t k f b y = false by unfold soB; rw [B0, B1, B2, B3, B4, B5]; simp)
              have H0 := Lib.hid B0
              have H1 := Lib.hid B1
              have o2 : (FloatKind.f32.format.order k 0 == some .gt || FloatKind.f32.format.order k 0 == some .eq) = true := B2
              have H2 := Lib.hid B2
              have o3 : (FloatKind.f32.format.order k 1056964608 == some .lt || FloatKind.f32.format.order k 1056964608 == some .eq) = true := B3
              have H3 := Lib.hid B3
              have H4 := Lib.hid B4
              have H5 := Lib.hid B5
              clear B0 B1 B2 B3 B4 B5
              go_enter Try.func15, Try.ntmps15
              go_wp2_with fail
              refine (specNorth_any h _).mono ?_
              rw [H0.out]
              rintro e w' ⟨rfl, rfl⟩
              go_wp2_with fail
              refine (specFinite_any t _).mono ?_
              rw [H1.out]
              rintro e w' ⟨rfl, n1, rfl⟩
              go_wp2_with fail
              refine (specFinite_any f _).mono ?_
              rw [H4.out]
              rintro e w' ⟨rfl, n2, rfl⟩
              go_wp2_with fail
              refine (specLeast_any b _).mono ?_
              rw [H5.out]
              rintro e w' ⟨rfl, n3, rfl⟩
              go_wp2
              go_ret2
              exact cGiv_no E.out (by first | exact Below.refl _ _ | exact below_drewN (Below.refl _ _) _ | exact (by repeat (first | exact Below.refl _ _ | refine Below.setCell ?_ (by first | exact Nat.le_refl _ | (simp; done) | (simp; omega) | omega) _ | refine below_drewN ?_ _ | refine Below.alloc ?_ (by first | exact Nat.le_refl _ | (simp; done) | (simp; omega) | omega) _)))
            · skip
              cases B6 : lst y
              · skip
                have E := Lib.hid (show soB h t k f b y = false by unfold soB; rw [B0, B1, B2, B3, B4, B5, B6]; simp)
                have H0 := Lib.hid B0
                have H1 := Lib.hid B1
                have o2 : (FloatKind.f32.format.order k 0 == some .gt || FloatKind.f32.format.order k 0 == some .eq) = true := B2
                have H2 := Lib.hid B2
                have o3 : (FloatKind.f32.format.order k 1056964608 == some .lt || FloatKind.f32.format.order k 1056964608 == some .eq) = true := B3
                have H3 := Lib.hid B3
                have H4 := Lib.hid B4
                have H5 := Lib.hid B5
                have H6 := Lib.hid B6
                clear B0 B1 B2 B3 B4 B5 B6
                go_enter Try.func15, Try.ntmps15
                go_wp2_with fail
                refine (specNorth_any h _).mono ?_
                rw [H0.out]
                rintro e w' ⟨rfl, rfl⟩
                go_wp2_with fail
                refine (specFinite_any t _).mono ?_
                rw [H1.out]
                rintro e w' ⟨rfl, n1, rfl⟩
                go_wp2_with fail
                refine (specFinite_any f _).mono ?_
                rw [H4.out]
                rintro e w' ⟨rfl, n2, rfl⟩
                go_wp2_with fail
                refine (specLeast_any b _).mono ?_
                rw [H5.out]
                rintro e w' ⟨rfl, n3, rfl⟩
                go_wp2_with fail
                refine (specLeast_any y _).mono ?_
                rw [H6.out]
                rintro e w' ⟨rfl, n4, rfl⟩
                go_wp2
                go_ret2
                exact cGiv_no E.out (by first | exact Below.refl _ _ | exact below_drewN (Below.refl _ _) _ | exact (by repeat (first | exact Below.refl _ _ | refine Below.setCell ?_ (by first | exact Nat.le_refl _ | (simp; done) | (simp; omega) | omega) _ | refine below_drewN ?_ _ | refine Below.alloc ?_ (by first | exact Nat.le_refl _ | (simp; done) | (simp; omega) | omega) _)))
              · skip
                cases C1 : gt0 h
                · skip
                  have oh : (FloatKind.f32.format.order h 0 == some .gt) = false := C1
                  have CC := Lib.hid (show (gt0 h && gt0 (soI h t k f)) = false by rw [C1]; rfl)
                  clear C1
                  have E := Lib.hid (show soB h t k f b y = true by unfold soB; rw [B0, B1, B2, B3, B4, B5, B6]; simp)
                  have H0 := Lib.hid B0
                  have H1 := Lib.hid B1
                  have o2 : (FloatKind.f32.format.order k 0 == some .gt || FloatKind.f32.format.order k 0 == some .eq) = true := B2
                  have H2 := Lib.hid B2
                  have o3 : (FloatKind.f32.format.order k 1056964608 == some .lt || FloatKind.f32.format.order k 1056964608 == some .eq) = true := B3
                  have H3 := Lib.hid B3
                  have H4 := Lib.hid B4
                  have H5 := Lib.hid B5
                  have H6 := Lib.hid B6
                  clear B0 B1 B2 B3 B4 B5 B6
                  go_enter Try.func15, Try.ntmps15
                  go_wp2_with fail
                  refine (specNorth_any h _).mono ?_
                  rw [H0.out]
                  rintro e w' ⟨rfl, rfl⟩
                  go_wp2_with fail
                  refine (specFinite_any t _).mono ?_
                  rw [H1.out]
                  rintro e w' ⟨rfl, n1, rfl⟩
                  go_wp2_with fail
                  refine (specFinite_any f _).mono ?_
                  rw [H4.out]
                  rintro e w' ⟨rfl, n2, rfl⟩
                  go_wp2_with fail
                  refine (specLeast_any b _).mono ?_
                  rw [H5.out]
                  rintro e w' ⟨rfl, n3, rfl⟩
                  go_wp2_with fail
                  refine (specLeast_any y _).mono ?_
                  rw [H6.out]
                  rintro e w' ⟨rfl, n4, rfl⟩
                  go_wp2_with fail
                  first | refine (specSineC_any _ _).mono ?_ | (go_at_call 60; refine (specSineC_any _ _).mono ?_)
                  rintro e w' ⟨r0, j0, g0, _, rfl, rfl⟩
                  have f0 := Lib.hid g0
                  clear g0
                  go_wp2_with fail
                  first | refine (specCos_any _ _).mono ?_ | (go_at_call 61; refine (specCos_any _ _).mono ?_)
                  rintro e w' ⟨r1, j1, g1, _, rfl, rfl⟩
                  have f1 := Lib.hid g1
                  clear g1
                  go_wp2_with (refine wpList_farith rfl _ _ _ _ _ rfl rfl _ _ _ rfl rfl ?_; intro r2 j2 g2; have f2 := Lib.hid g2; clear g2; refine Stop.go ?_)
                  refine Stop.mk ?_
                  go_wp2_with fail
                  first | refine (specCos_any _ _).mono ?_ | (go_at_call 61; refine (specCos_any _ _).mono ?_)
                  rintro e w' ⟨r3, j3, g3, _, rfl, rfl⟩
                  have f3 := Lib.hid g3
                  clear g3
                  go_wp2_with fail
                  first | refine (specSineC_any _ _).mono ?_ | (go_at_call 60; refine (specSineC_any _ _).mono ?_)
                  rintro e w' ⟨r4, j4, g4, _, rfl, rfl⟩
                  have f4 := Lib.hid g4
                  clear g4
                  go_wp2_with (refine wpList_farith rfl _ _ _ _ _ rfl rfl _ _ _ rfl rfl ?_; intro r5 j5 g5; have f5 := Lib.hid g5; clear g5; refine Stop.go ?_)
                  refine Stop.mk ?_
                  go_wp2_with (refine wpList_farith rfl _ _ _ _ _ rfl rfl _ _ _ rfl rfl ?_; intro r6 j6 g6; have f6 := Lib.hid g6; clear g6; refine Stop.go ?_)
                  refine Stop.mk ?_
                  go_wp2_with fail
                  first | refine (specCos_any _ _).mono ?_ | (go_at_call 61; refine (specCos_any _ _).mono ?_)
                  rintro e w' ⟨r7, j7, g7, _, rfl, rfl⟩
                  have f7 := Lib.hid g7
                  clear g7
                  go_wp2_with (refine wpList_farith rfl _ _ _ _ _ rfl rfl _ _ _ rfl rfl ?_; intro r8 j8 g8; have f8 := Lib.hid g8; clear g8; refine Stop.go ?_)
                  refine Stop.mk ?_
                  go_wp2_with (refine wpList_farith rfl _ _ _ _ _ rfl rfl _ _ _ rfl rfl ?_; intro r9 j9 g9; have f9 := Lib.hid g9; clear g9; refine Stop.go ?_)
                  refine Stop.mk ?_
                  have SI := Lib.hid (soI_of f0.out f1.out f2.out f3.out f4.out f5.out f6.out f7.out f8.out f9.out)
                  go_wp2_with fail
                  first | refine (specCos_any _ _).mono ?_ | (go_at_call 61; refine (specCos_any _ _).mono ?_)
                  rintro e w' ⟨r11, j11, g11, _, rfl, rfl⟩
                  have f11 := Lib.hid g11
                  clear g11
                  go_wp2_with (refine wpList_farith rfl _ _ _ _ _ rfl rfl _ _ _ rfl rfl ?_; intro r12 j12 g12; have f12 := Lib.hid g12; clear g12; refine Stop.go ?_)
                  refine Stop.mk ?_
                  go_wp2_with (refine wpList_farith rfl _ _ _ _ _ rfl rfl _ _ _ rfl rfl ?_; intro r13 j13 g13; have f13 := Lib.hid g13; clear g13; refine Stop.go ?_)
                  refine Stop.mk ?_
                  go_wp2_with (refine wpList_farith rfl _ _ _ _ _ rfl rfl _ _ _ rfl rfl ?_; intro r14 j14 g14; have f14 := Lib.hid g14; clear g14; refine Stop.go ?_)
                  refine Stop.mk ?_
                  go_wp2_with (refine wpList_farith rfl _ _ _ _ _ rfl rfl _ _ _ rfl rfl ?_; intro r15 j15 g15; have f15 := Lib.hid g15; clear g15; refine Stop.go ?_)
                  refine Stop.mk ?_
                  go_wp2_with fail
                  first | refine (specNum_any _ _).mono ?_ | (go_at_call 62; refine (specNum_any _ _).mono ?_)
                  rintro e w' ⟨rfl, n9, rfl⟩
                  go_wp2
                  go_ret2
                  exact cGiv_yes E.out (soV_s (soX_no CC.out) f11.out f12.out f13.out f14.out f15.out) (by first | exact Below.refl _ _ | exact below_drewN (Below.refl _ _) _ | exact (by repeat (first | exact Below.refl _ _ | refine Below.setCell ?_ (by first | exact Nat.le_refl _ | (simp; done) | (simp; omega) | omega) _ | refine below_drewN ?_ _ | refine Below.alloc ?_ (by first | exact Nat.le_refl _ | (simp; done) | (simp; omega) | omega) _)))
                · cases C2 : gt0 (soI h t k f)
                  · skip
                    have oh : (FloatKind.f32.format.order h 0 == some .gt) = true := C1
                    have CC := Lib.hid (show (gt0 h && gt0 (soI h t k f)) = false by rw [C1, C2]; rfl)
                    have D2 := Lib.hid C2
                    clear C1 C2
                    have E := Lib.hid (show soB h t k f b y = true by unfold soB; rw [B0, B1, B2, B3, B4, B5, B6]; simp)
                    have H0 := Lib.hid B0
                    have H1 := Lib.hid B1
                    have o2 : (FloatKind.f32.format.order k 0 == some .gt || FloatKind.f32.format.order k 0 == some .eq) = true := B2
                    have H2 := Lib.hid B2
                    have o3 : (FloatKind.f32.format.order k 1056964608 == some .lt || FloatKind.f32.format.order k 1056964608 == some .eq) = true := B3
                    have H3 := Lib.hid B3
                    have H4 := Lib.hid B4
                    have H5 := Lib.hid B5
                    have H6 := Lib.hid B6
                    clear B0 B1 B2 B3 B4 B5 B6
                    go_enter Try.func15, Try.ntmps15
                    go_wp2_with fail
                    refine (specNorth_any h _).mono ?_
                    rw [H0.out]
                    rintro e w' ⟨rfl, rfl⟩
                    go_wp2_with fail
                    refine (specFinite_any t _).mono ?_
                    rw [H1.out]
                    rintro e w' ⟨rfl, n1, rfl⟩
                    go_wp2_with fail
                    refine (specFinite_any f _).mono ?_
                    rw [H4.out]
                    rintro e w' ⟨rfl, n2, rfl⟩
                    go_wp2_with fail
                    refine (specLeast_any b _).mono ?_
                    rw [H5.out]
                    rintro e w' ⟨rfl, n3, rfl⟩
                    go_wp2_with fail
                    refine (specLeast_any y _).mono ?_
                    rw [H6.out]
                    rintro e w' ⟨rfl, n4, rfl⟩
                    go_wp2_with fail
                    first | refine (specSineC_any _ _).mono ?_ | (go_at_call 60; refine (specSineC_any _ _).mono ?_)
                    rintro e w' ⟨r0, j0, g0, _, rfl, rfl⟩
                    have f0 := Lib.hid g0
                    clear g0
                    go_wp2_with fail
                    first | refine (specCos_any _ _).mono ?_ | (go_at_call 61; refine (specCos_any _ _).mono ?_)
                    rintro e w' ⟨r1, j1, g1, _, rfl, rfl⟩
                    have f1 := Lib.hid g1
                    clear g1
                    go_wp2_with (refine wpList_farith rfl _ _ _ _ _ rfl rfl _ _ _ rfl rfl ?_; intro r2 j2 g2; have f2 := Lib.hid g2; clear g2; refine Stop.go ?_)
                    refine Stop.mk ?_
                    go_wp2_with fail
                    first | refine (specCos_any _ _).mono ?_ | (go_at_call 61; refine (specCos_any _ _).mono ?_)
                    rintro e w' ⟨r3, j3, g3, _, rfl, rfl⟩
                    have f3 := Lib.hid g3
                    clear g3
                    go_wp2_with fail
                    first | refine (specSineC_any _ _).mono ?_ | (go_at_call 60; refine (specSineC_any _ _).mono ?_)
                    rintro e w' ⟨r4, j4, g4, _, rfl, rfl⟩
                    have f4 := Lib.hid g4
                    clear g4
                    go_wp2_with (refine wpList_farith rfl _ _ _ _ _ rfl rfl _ _ _ rfl rfl ?_; intro r5 j5 g5; have f5 := Lib.hid g5; clear g5; refine Stop.go ?_)
                    refine Stop.mk ?_
                    go_wp2_with (refine wpList_farith rfl _ _ _ _ _ rfl rfl _ _ _ rfl rfl ?_; intro r6 j6 g6; have f6 := Lib.hid g6; clear g6; refine Stop.go ?_)
                    refine Stop.mk ?_
                    go_wp2_with fail
                    first | refine (specCos_any _ _).mono ?_ | (go_at_call 61; refine (specCos_any _ _).mono ?_)
                    rintro e w' ⟨r7, j7, g7, _, rfl, rfl⟩
                    have f7 := Lib.hid g7
                    clear g7
                    go_wp2_with (refine wpList_farith rfl _ _ _ _ _ rfl rfl _ _ _ rfl rfl ?_; intro r8 j8 g8; have f8 := Lib.hid g8; clear g8; refine Stop.go ?_)
                    refine Stop.mk ?_
                    go_wp2_with (refine wpList_farith rfl _ _ _ _ _ rfl rfl _ _ _ rfl rfl ?_; intro r9 j9 g9; have f9 := Lib.hid g9; clear g9; refine Stop.go ?_)
                    refine Stop.mk ?_
                    have SI := Lib.hid (soI_of f0.out f1.out f2.out f3.out f4.out f5.out f6.out f7.out f8.out f9.out)
                    have oi : (FloatKind.f32.format.order r9 0 == some .gt) = false := (gt0_cn' SI.out).trans D2.out
                    go_wp2_with fail
                    first | refine (specCos_any _ _).mono ?_ | (go_at_call 61; refine (specCos_any _ _).mono ?_)
                    rintro e w' ⟨r11, j11, g11, _, rfl, rfl⟩
                    have f11 := Lib.hid g11
                    clear g11
                    go_wp2_with (refine wpList_farith rfl _ _ _ _ _ rfl rfl _ _ _ rfl rfl ?_; intro r12 j12 g12; have f12 := Lib.hid g12; clear g12; refine Stop.go ?_)
                    refine Stop.mk ?_
                    go_wp2_with (refine wpList_farith rfl _ _ _ _ _ rfl rfl _ _ _ rfl rfl ?_; intro r13 j13 g13; have f13 := Lib.hid g13; clear g13; refine Stop.go ?_)
                    refine Stop.mk ?_
                    go_wp2_with (refine wpList_farith rfl _ _ _ _ _ rfl rfl _ _ _ rfl rfl ?_; intro r14 j14 g14; have f14 := Lib.hid g14; clear g14; refine Stop.go ?_)
                    refine Stop.mk ?_
                    go_wp2_with (refine wpList_farith rfl _ _ _ _ _ rfl rfl _ _ _ rfl rfl ?_; intro r15 j15 g15; have f15 := Lib.hid g15; clear g15; refine Stop.go ?_)
                    refine Stop.mk ?_
                    go_wp2_with fail
                    first | refine (specNum_any _ _).mono ?_ | (go_at_call 62; refine (specNum_any _ _).mono ?_)
                    rintro e w' ⟨rfl, n9, rfl⟩
                    go_wp2
                    go_ret2
                    exact cGiv_yes E.out (soV_s (soX_no CC.out) f11.out f12.out f13.out f14.out f15.out) (by first | exact Below.refl _ _ | exact below_drewN (Below.refl _ _) _ | exact (by repeat (first | exact Below.refl _ _ | refine Below.setCell ?_ (by first | exact Nat.le_refl _ | (simp; done) | (simp; omega) | omega) _ | refine below_drewN ?_ _ | refine Below.alloc ?_ (by first | exact Nat.le_refl _ | (simp; done) | (simp; omega) | omega) _)))
                  · skip
                    have oh : (FloatKind.f32.format.order h 0 == some .gt) = true := C1
                    have CC := Lib.hid (show (gt0 h && gt0 (soI h t k f)) = true by rw [C1, C2]; rfl)
                    have D2 := Lib.hid C2
                    clear C1 C2
                    have E := Lib.hid (show soB h t k f b y = true by unfold soB; rw [B0, B1, B2, B3, B4, B5, B6]; simp)
                    have H0 := Lib.hid B0
                    have H1 := Lib.hid B1
                    have o2 : (FloatKind.f32.format.order k 0 == some .gt || FloatKind.f32.format.order k 0 == some .eq) = true := B2
                    have H2 := Lib.hid B2
                    have o3 : (FloatKind.f32.format.order k 1056964608 == some .lt || FloatKind.f32.format.order k 1056964608 == some .eq) = true := B3
                    have H3 := Lib.hid B3
                    have H4 := Lib.hid B4
                    have H5 := Lib.hid B5
                    have H6 := Lib.hid B6
                    clear B0 B1 B2 B3 B4 B5 B6
                    go_enter Try.func15, Try.ntmps15
                    go_wp2_with fail
                    refine (specNorth_any h _).mono ?_
                    rw [H0.out]
                    rintro e w' ⟨rfl, rfl⟩
                    go_wp2_with fail
                    refine (specFinite_any t _).mono ?_
                    rw [H1.out]
                    rintro e w' ⟨rfl, n1, rfl⟩
                    go_wp2_with fail
                    refine (specFinite_any f _).mono ?_
                    rw [H4.out]
                    rintro e w' ⟨rfl, n2, rfl⟩
                    go_wp2_with fail
                    refine (specLeast_any b _).mono ?_
                    rw [H5.out]
                    rintro e w' ⟨rfl, n3, rfl⟩
                    go_wp2_with fail
                    refine (specLeast_any y _).mono ?_
                    rw [H6.out]
                    rintro e w' ⟨rfl, n4, rfl⟩
                    go_wp2_with fail
                    first | refine (specSineC_any _ _).mono ?_ | (go_at_call 60; refine (specSineC_any _ _).mono ?_)
                    rintro e w' ⟨r0, j0, g0, _, rfl, rfl⟩
                    have f0 := Lib.hid g0
                    clear g0
                    go_wp2_with fail
                    first | refine (specCos_any _ _).mono ?_ | (go_at_call 61; refine (specCos_any _ _).mono ?_)
                    rintro e w' ⟨r1, j1, g1, _, rfl, rfl⟩
                    have f1 := Lib.hid g1
                    clear g1
                    go_wp2_with (refine wpList_farith rfl _ _ _ _ _ rfl rfl _ _ _ rfl rfl ?_; intro r2 j2 g2; have f2 := Lib.hid g2; clear g2; refine Stop.go ?_)
                    refine Stop.mk ?_
                    go_wp2_with fail
                    first | refine (specCos_any _ _).mono ?_ | (go_at_call 61; refine (specCos_any _ _).mono ?_)
                    rintro e w' ⟨r3, j3, g3, _, rfl, rfl⟩
                    have f3 := Lib.hid g3
                    clear g3
                    go_wp2_with fail
                    first | refine (specSineC_any _ _).mono ?_ | (go_at_call 60; refine (specSineC_any _ _).mono ?_)
                    rintro e w' ⟨r4, j4, g4, _, rfl, rfl⟩
                    have f4 := Lib.hid g4
                    clear g4
                    go_wp2_with (refine wpList_farith rfl _ _ _ _ _ rfl rfl _ _ _ rfl rfl ?_; intro r5 j5 g5; have f5 := Lib.hid g5; clear g5; refine Stop.go ?_)
                    refine Stop.mk ?_
                    go_wp2_with (refine wpList_farith rfl _ _ _ _ _ rfl rfl _ _ _ rfl rfl ?_; intro r6 j6 g6; have f6 := Lib.hid g6; clear g6; refine Stop.go ?_)
                    refine Stop.mk ?_
                    go_wp2_with fail
                    first | refine (specCos_any _ _).mono ?_ | (go_at_call 61; refine (specCos_any _ _).mono ?_)
                    rintro e w' ⟨r7, j7, g7, _, rfl, rfl⟩
                    have f7 := Lib.hid g7
                    clear g7
                    go_wp2_with (refine wpList_farith rfl _ _ _ _ _ rfl rfl _ _ _ rfl rfl ?_; intro r8 j8 g8; have f8 := Lib.hid g8; clear g8; refine Stop.go ?_)
                    refine Stop.mk ?_
                    go_wp2_with (refine wpList_farith rfl _ _ _ _ _ rfl rfl _ _ _ rfl rfl ?_; intro r9 j9 g9; have f9 := Lib.hid g9; clear g9; refine Stop.go ?_)
                    refine Stop.mk ?_
                    have SI := Lib.hid (soI_of f0.out f1.out f2.out f3.out f4.out f5.out f6.out f7.out f8.out f9.out)
                    have oi : (FloatKind.f32.format.order r9 0 == some .gt) = true := (gt0_cn' SI.out).trans D2.out
                    go_wp2_with (refine wpList_farith rfl _ _ _ _ _ rfl rfl _ _ _ rfl rfl ?_; intro r10 j10 g10; have f10 := Lib.hid g10; clear g10; refine Stop.go ?_)
                    refine Stop.mk ?_
                    go_wp2_with fail
                    first | refine (specCos_any _ _).mono ?_ | (go_at_call 61; refine (specCos_any _ _).mono ?_)
                    rintro e w' ⟨r11, j11, g11, _, rfl, rfl⟩
                    have f11 := Lib.hid g11
                    clear g11
                    go_wp2_with (refine wpList_farith rfl _ _ _ _ _ rfl rfl _ _ _ rfl rfl ?_; intro r12 j12 g12; have f12 := Lib.hid g12; clear g12; refine Stop.go ?_)
                    refine Stop.mk ?_
                    go_wp2_with (refine wpList_farith rfl _ _ _ _ _ rfl rfl _ _ _ rfl rfl ?_; intro r13 j13 g13; have f13 := Lib.hid g13; clear g13; refine Stop.go ?_)
                    refine Stop.mk ?_
                    go_wp2_with (refine wpList_farith rfl _ _ _ _ _ rfl rfl _ _ _ rfl rfl ?_; intro r14 j14 g14; have f14 := Lib.hid g14; clear g14; refine Stop.go ?_)
                    refine Stop.mk ?_
                    go_wp2_with (refine wpList_farith rfl _ _ _ _ _ rfl rfl _ _ _ rfl rfl ?_; intro r15 j15 g15; have f15 := Lib.hid g15; clear g15; refine Stop.go ?_)
                    refine Stop.mk ?_
                    go_wp2_with fail
                    first | refine (specNum_any _ _).mono ?_ | (go_at_call 62; refine (specNum_any _ _).mono ?_)
                    rintro e w' ⟨rfl, n9, rfl⟩
                    go_wp2
                    go_ret2
                    exact cGiv_yes E.out (soV_s (soX_yes CC.out SI.out f10.out) f11.out f12.out f13.out f14.out f15.out) (by first | exact Below.refl _ _ | exact below_drewN (Below.refl _ _) _ | exact (by repeat (first | exact Below.refl _ _ | refine Below.setCell ?_ (by first | exact Nat.le_refl _ | (simp; done) | (simp; omega) | omega) _ | refine below_drewN ?_ _ | refine Below.alloc ?_ (by first | exact Nat.le_refl _ | (simp; done) | (simp; omega) | omega) _)))

set_option maxHeartbeats 3200000 in
theorem implSunFace_any (h t k f b y : Nat) (w : World) : Calls Try.prog 16 #[.float .f32 h, .float .f32 t, .float .f32 k, .float .f32 f, .float .f32 b, .float .f32 y] w (GivB (cS (soB h t k f b y) (soV h t k f b y)) (cB (soB h t k f b y) (soV h t k f b y)) w) := by
  have BE := soB_eq h t k f b y
  cases B0 : wth h 3196059648 1048576000
  · skip
    have E := Lib.hid (show soB h t k f b y = false by rw [BE]; rw [B0]; simp)
    have H0 := Lib.hid B0
    clear BE B0
    go_enter Try.func16, Try.ntmps16
    go_wp2_with fail
    refine (implWithin_any h _ _ _).mono ?_
    rw [H0.out]
    rintro e w' ⟨rfl, rfl⟩
    go_wp2
    go_ret2
    exact cGiv_no E.out (by first | exact Below.refl _ _ | exact below_drewN (Below.refl _ _) _ | exact (by repeat (first | exact Below.refl _ _ | refine Below.setCell ?_ (by first | exact Nat.le_refl _ | (simp; done) | (simp; omega) | omega) _ | refine below_drewN ?_ _ | refine Below.alloc ?_ (by first | exact Nat.le_refl _ | (simp; done) | (simp; omega) | omega) _)))
  · skip
    cases B1 : wth k 0 1056964608
    · skip
      have E := Lib.hid (show soB h t k f b y = false by rw [BE]; rw [B0, B1]; simp)
      have H0 := Lib.hid B0
      have H1 := Lib.hid B1
      clear BE B0 B1
      go_enter Try.func16, Try.ntmps16
      go_wp2_with fail
      refine (implWithin_any h _ _ _).mono ?_
      rw [H0.out]
      rintro e w' ⟨rfl, rfl⟩
      go_wp2_with fail
      refine (implWithin_any k _ _ _).mono ?_
      rw [H1.out]
      rintro e w' ⟨rfl, rfl⟩
      go_wp2
      go_ret2
      exact cGiv_no E.out (by first | exact Below.refl _ _ | exact below_drewN (Below.refl _ _) _ | exact (by repeat (first | exact Below.refl _ _ | refine Below.setCell ?_ (by first | exact Nat.le_refl _ | (simp; done) | (simp; omega) | omega) _ | refine below_drewN ?_ _ | refine Below.alloc ?_ (by first | exact Nat.le_refl _ | (simp; done) | (simp; omega) | omega) _)))
    · skip
      cases B2 : fin .f32 t
      · skip
        have E := Lib.hid (show soB h t k f b y = false by rw [BE]; rw [B0, B1, B2]; simp)
        have H0 := Lib.hid B0
        have H1 := Lib.hid B1
        have H2 := Lib.hid B2
        clear BE B0 B1 B2
        go_enter Try.func16, Try.ntmps16
        go_wp2_with fail
        refine (implWithin_any h _ _ _).mono ?_
        rw [H0.out]
        rintro e w' ⟨rfl, rfl⟩
        go_wp2_with fail
        refine (implWithin_any k _ _ _).mono ?_
        rw [H1.out]
        rintro e w' ⟨rfl, rfl⟩
        go_wp2_with fail
        refine (implFinite_any t _).mono ?_
        rw [H2.out]
        rintro e w' ⟨rfl, n1, rfl⟩
        go_wp2
        go_ret2
        exact cGiv_no E.out (by first | exact Below.refl _ _ | exact below_drewN (Below.refl _ _) _ | exact (by repeat (first | exact Below.refl _ _ | refine Below.setCell ?_ (by first | exact Nat.le_refl _ | (simp; done) | (simp; omega) | omega) _ | refine below_drewN ?_ _ | refine Below.alloc ?_ (by first | exact Nat.le_refl _ | (simp; done) | (simp; omega) | omega) _)))
      · skip
        cases B3 : fin .f32 f
        · skip
          have E := Lib.hid (show soB h t k f b y = false by rw [BE]; rw [B0, B1, B2, B3]; simp)
          have H0 := Lib.hid B0
          have H1 := Lib.hid B1
          have H2 := Lib.hid B2
          have H3 := Lib.hid B3
          clear BE B0 B1 B2 B3
          go_enter Try.func16, Try.ntmps16
          go_wp2_with fail
          refine (implWithin_any h _ _ _).mono ?_
          rw [H0.out]
          rintro e w' ⟨rfl, rfl⟩
          go_wp2_with fail
          refine (implWithin_any k _ _ _).mono ?_
          rw [H1.out]
          rintro e w' ⟨rfl, rfl⟩
          go_wp2_with fail
          refine (implFinite_any t _).mono ?_
          rw [H2.out]
          rintro e w' ⟨rfl, n1, rfl⟩
          go_wp2_with fail
          refine (implFinite_any f _).mono ?_
          rw [H3.out]
          rintro e w' ⟨rfl, n2, rfl⟩
          go_wp2
          go_ret2
          exact cGiv_no E.out (by first | exact Below.refl _ _ | exact below_drewN (Below.refl _ _) _ | exact (by repeat (first | exact Below.refl _ _ | refine Below.setCell ?_ (by first | exact Nat.le_refl _ | (simp; done) | (simp; omega) | omega) _ | refine below_drewN ?_ _ | refine Below.alloc ?_ (by first | exact Nat.le_refl _ | (simp; done) | (simp; omega) | omega) _)))
        · skip
          cases B4 : lst b
          · skip
            have E := Lib.hid (show soB h t k f b y = false by rw [BE]; rw [B0, B1, B2, B3, B4]; simp)
            have H0 := Lib.hid B0
            have H1 := Lib.hid B1
            have H2 := Lib.hid B2
            have H3 := Lib.hid B3
            have H4 := Lib.hid B4
            clear BE B0 B1 B2 B3 B4
            go_enter Try.func16, Try.ntmps16
            go_wp2_with fail
            refine (implWithin_any h _ _ _).mono ?_
            rw [H0.out]
            rintro e w' ⟨rfl, rfl⟩
            go_wp2_with fail
            refine (implWithin_any k _ _ _).mono ?_
            rw [H1.out]
            rintro e w' ⟨rfl, rfl⟩
            go_wp2_with fail
            refine (implFinite_any t _).mono ?_
            rw [H2.out]
            rintro e w' ⟨rfl, n1, rfl⟩
            go_wp2_with fail
            refine (implFinite_any f _).mono ?_
            rw [H3.out]
            rintro e w' ⟨rfl, n2, rfl⟩
            go_wp2_with fail
            refine (implNotNeg_any b _).mono ?_
            rw [H4.out]
            rintro e w' ⟨rfl, n3, rfl⟩
            go_wp2
            go_ret2
            exact cGiv_no E.out (by first | exact Below.refl _ _ | exact below_drewN (Below.refl _ _) _ | exact (by repeat (first | exact Below.refl _ _ | refine Below.setCell ?_ (by first | exact Nat.le_refl _ | (simp; done) | (simp; omega) | omega) _ | refine below_drewN ?_ _ | refine Below.alloc ?_ (by first | exact Nat.le_refl _ | (simp; done) | (simp; omega) | omega) _)))
          · skip
            cases B5 : lst y
            · skip
              have E := Lib.hid (show soB h t k f b y = false by rw [BE]; rw [B0, B1, B2, B3, B4, B5]; simp)
              have H0 := Lib.hid B0
              have H1 := Lib.hid B1
              have H2 := Lib.hid B2
              have H3 := Lib.hid B3
              have H4 := Lib.hid B4
              have H5 := Lib.hid B5
              clear BE B0 B1 B2 B3 B4 B5
              go_enter Try.func16, Try.ntmps16
              go_wp2_with fail
              refine (implWithin_any h _ _ _).mono ?_
              rw [H0.out]
              rintro e w' ⟨rfl, rfl⟩
              go_wp2_with fail
              refine (implWithin_any k _ _ _).mono ?_
              rw [H1.out]
              rintro e w' ⟨rfl, rfl⟩
              go_wp2_with fail
              refine (implFinite_any t _).mono ?_
              rw [H2.out]
              rintro e w' ⟨rfl, n1, rfl⟩
              go_wp2_with fail
              refine (implFinite_any f _).mono ?_
              rw [H3.out]
              rintro e w' ⟨rfl, n2, rfl⟩
              go_wp2_with fail
              refine (implNotNeg_any b _).mono ?_
              rw [H4.out]
              rintro e w' ⟨rfl, n3, rfl⟩
              go_wp2_with fail
              refine (implNotNeg_any y _).mono ?_
              rw [H5.out]
              rintro e w' ⟨rfl, n4, rfl⟩
              go_wp2
              go_ret2
              exact cGiv_no E.out (by first | exact Below.refl _ _ | exact below_drewN (Below.refl _ _) _ | exact (by repeat (first | exact Below.refl _ _ | refine Below.setCell ?_ (by first | exact Nat.le_refl _ | (simp; done) | (simp; omega) | omega) _ | refine below_drewN ?_ _ | refine Below.alloc ?_ (by first | exact Nat.le_refl _ | (simp; done) | (simp; omega) | omega) _)))
            · skip
              cases C1 : gt0 h
              · skip
                have oh : (FloatKind.f32.format.order h 0 == some .gt) = false := C1
                have CC := Lib.hid (show (gt0 h && gt0 (soI h t k f)) = false by rw [C1]; rfl)
                clear C1
                have E := Lib.hid (show soB h t k f b y = true by rw [BE]; rw [B0, B1, B2, B3, B4, B5]; simp)
                have H0 := Lib.hid B0
                have H1 := Lib.hid B1
                have H2 := Lib.hid B2
                have H3 := Lib.hid B3
                have H4 := Lib.hid B4
                have H5 := Lib.hid B5
                clear BE B0 B1 B2 B3 B4 B5
                go_enter Try.func16, Try.ntmps16
                go_wp2_with fail
                refine (implWithin_any h _ _ _).mono ?_
                rw [H0.out]
                rintro e w' ⟨rfl, rfl⟩
                go_wp2_with fail
                refine (implWithin_any k _ _ _).mono ?_
                rw [H1.out]
                rintro e w' ⟨rfl, rfl⟩
                go_wp2_with fail
                refine (implFinite_any t _).mono ?_
                rw [H2.out]
                rintro e w' ⟨rfl, n1, rfl⟩
                go_wp2_with fail
                refine (implFinite_any f _).mono ?_
                rw [H3.out]
                rintro e w' ⟨rfl, n2, rfl⟩
                go_wp2_with fail
                refine (implNotNeg_any b _).mono ?_
                rw [H4.out]
                rintro e w' ⟨rfl, n3, rfl⟩
                go_wp2_with fail
                refine (implNotNeg_any y _).mono ?_
                rw [H5.out]
                rintro e w' ⟨rfl, n4, rfl⟩
                go_wp2_with fail
                first | refine (implSineC_any _ _).mono ?_ | (go_at_call 66; refine (implSineC_any _ _).mono ?_)
                rintro e w' ⟨r0, j0, g0, _, rfl, rfl⟩
                have f0 := Lib.hid g0
                clear g0
                go_wp2_with fail
                first | refine (implCos_any _ _).mono ?_ | (go_at_call 67; refine (implCos_any _ _).mono ?_)
                rintro e w' ⟨r1, j1, g1, _, rfl, rfl⟩
                have f1 := Lib.hid g1
                clear g1
                go_wp2_with (refine wpList_farith rfl _ _ _ _ _ rfl rfl _ _ _ rfl rfl ?_; intro r2 j2 g2; have f2 := Lib.hid g2; clear g2; refine Stop.go ?_)
                refine Stop.mk ?_
                go_wp2_with fail
                first | refine (implCos_any _ _).mono ?_ | (go_at_call 67; refine (implCos_any _ _).mono ?_)
                rintro e w' ⟨r3, j3, g3, _, rfl, rfl⟩
                have f3 := Lib.hid g3
                clear g3
                go_wp2_with fail
                first | refine (implSineC_any _ _).mono ?_ | (go_at_call 66; refine (implSineC_any _ _).mono ?_)
                rintro e w' ⟨r4, j4, g4, _, rfl, rfl⟩
                have f4 := Lib.hid g4
                clear g4
                go_wp2_with (refine wpList_farith rfl _ _ _ _ _ rfl rfl _ _ _ rfl rfl ?_; intro r5 j5 g5; have f5 := Lib.hid g5; clear g5; refine Stop.go ?_)
                refine Stop.mk ?_
                go_wp2_with (refine wpList_farith rfl _ _ _ _ _ rfl rfl _ _ _ rfl rfl ?_; intro r6 j6 g6; have f6 := Lib.hid g6; clear g6; refine Stop.go ?_)
                refine Stop.mk ?_
                go_wp2_with fail
                first | refine (implCos_any _ _).mono ?_ | (go_at_call 67; refine (implCos_any _ _).mono ?_)
                rintro e w' ⟨r7, j7, g7, _, rfl, rfl⟩
                have f7 := Lib.hid g7
                clear g7
                go_wp2_with (refine wpList_farith rfl _ _ _ _ _ rfl rfl _ _ _ rfl rfl ?_; intro r8 j8 g8; have f8 := Lib.hid g8; clear g8; refine Stop.go ?_)
                refine Stop.mk ?_
                go_wp2_with (refine wpList_farith rfl _ _ _ _ _ rfl rfl _ _ _ rfl rfl ?_; intro r9 j9 g9; have f9 := Lib.hid g9; clear g9; refine Stop.go ?_)
                refine Stop.mk ?_
                have SI := Lib.hid (soI_of f0.out f1.out f2.out f3.out f4.out f5.out f6.out f7.out f8.out f9.out)
                go_wp2_with fail
                first | refine (implCos_any _ _).mono ?_ | (go_at_call 67; refine (implCos_any _ _).mono ?_)
                rintro e w' ⟨r11, j11, g11, _, rfl, rfl⟩
                have f11 := Lib.hid g11
                clear g11
                go_wp2_with (refine wpList_farith rfl _ _ _ _ _ rfl rfl _ _ _ rfl rfl ?_; intro r12 j12 g12; have f12 := Lib.hid g12; clear g12; refine Stop.go ?_)
                refine Stop.mk ?_
                go_wp2_with (refine wpList_farith rfl _ _ _ _ _ rfl rfl _ _ _ rfl rfl ?_; intro r13 j13 g13; have f13 := Lib.hid g13; clear g13; refine Stop.go ?_)
                refine Stop.mk ?_
                go_wp2_with (refine wpList_farith rfl _ _ _ _ _ rfl rfl _ _ _ rfl rfl ?_; intro r14 j14 g14; have f14 := Lib.hid g14; clear g14; refine Stop.go ?_)
                refine Stop.mk ?_
                go_wp2_with (refine wpList_farith rfl _ _ _ _ _ rfl rfl _ _ _ rfl rfl ?_; intro r15 j15 g15; have f15 := Lib.hid g15; clear g15; refine Stop.go ?_)
                refine Stop.mk ?_
                go_wp2_with fail
                first | refine (implNum_any _ _).mono ?_ | (go_at_call 68; refine (implNum_any _ _).mono ?_)
                rintro e w' ⟨rfl, n9, rfl⟩
                go_wp2
                go_ret2
                exact cGiv_yes E.out (soV_i (soX_no CC.out) f11.out f12.out f13.out f14.out f15.out) (by first | exact Below.refl _ _ | exact below_drewN (Below.refl _ _) _ | exact (by repeat (first | exact Below.refl _ _ | refine Below.setCell ?_ (by first | exact Nat.le_refl _ | (simp; done) | (simp; omega) | omega) _ | refine below_drewN ?_ _ | refine Below.alloc ?_ (by first | exact Nat.le_refl _ | (simp; done) | (simp; omega) | omega) _)))
              · cases C2 : gt0 (soI h t k f)
                · skip
                  have oh : (FloatKind.f32.format.order h 0 == some .gt) = true := C1
                  have CC := Lib.hid (show (gt0 h && gt0 (soI h t k f)) = false by rw [C1, C2]; rfl)
                  have D2 := Lib.hid C2
                  clear C1 C2
                  have E := Lib.hid (show soB h t k f b y = true by rw [BE]; rw [B0, B1, B2, B3, B4, B5]; simp)
                  have H0 := Lib.hid B0
                  have H1 := Lib.hid B1
                  have H2 := Lib.hid B2
                  have H3 := Lib.hid B3
                  have H4 := Lib.hid B4
                  have H5 := Lib.hid B5
                  clear BE B0 B1 B2 B3 B4 B5
                  go_enter Try.func16, Try.ntmps16
                  go_wp2_with fail
                  refine (implWithin_any h _ _ _).mono ?_
                  rw [H0.out]
                  rintro e w' ⟨rfl, rfl⟩
                  go_wp2_with fail
                  refine (implWithin_any k _ _ _).mono ?_
                  rw [H1.out]
                  rintro e w' ⟨rfl, rfl⟩
                  go_wp2_with fail
                  refine (implFinite_any t _).mono ?_
                  rw [H2.out]
                  rintro e w' ⟨rfl, n1, rfl⟩
                  go_wp2_with fail
                  refine (implFinite_any f _).mono ?_
                  rw [H3.out]
                  rintro e w' ⟨rfl, n2, rfl⟩
                  go_wp2_with fail
                  refine (implNotNeg_any b _).mono ?_
                  rw [H4.out]
                  rintro e w' ⟨rfl, n3, rfl⟩
                  go_wp2_with fail
                  refine (implNotNeg_any y _).mono ?_
                  rw [H5.out]
                  rintro e w' ⟨rfl, n4, rfl⟩
                  go_wp2_with fail
                  first | refine (implSineC_any _ _).mono ?_ | (go_at_call 66; refine (implSineC_any _ _).mono ?_)
                  rintro e w' ⟨r0, j0, g0, _, rfl, rfl⟩
                  have f0 := Lib.hid g0
                  clear g0
                  go_wp2_with fail
                  first | refine (implCos_any _ _).mono ?_ | (go_at_call 67; refine (implCos_any _ _).mono ?_)
                  rintro e w' ⟨r1, j1, g1, _, rfl, rfl⟩
                  have f1 := Lib.hid g1
                  clear g1
                  go_wp2_with (refine wpList_farith rfl _ _ _ _ _ rfl rfl _ _ _ rfl rfl ?_; intro r2 j2 g2; have f2 := Lib.hid g2; clear g2; refine Stop.go ?_)
                  refine Stop.mk ?_
                  go_wp2_with fail
                  first | refine (implCos_any _ _).mono ?_ | (go_at_call 67; refine (implCos_any _ _).mono ?_)
                  rintro e w' ⟨r3, j3, g3, _, rfl, rfl⟩
                  have f3 := Lib.hid g3
                  clear g3
                  go_wp2_with fail
                  first | refine (implSineC_any _ _).mono ?_ | (go_at_call 66; refine (implSineC_any _ _).mono ?_)
                  rintro e w' ⟨r4, j4, g4, _, rfl, rfl⟩
                  have f4 := Lib.hid g4
                  clear g4
                  go_wp2_with (refine wpList_farith rfl _ _ _ _ _ rfl rfl _ _ _ rfl rfl ?_; intro r5 j5 g5; have f5 := Lib.hid g5; clear g5; refine Stop.go ?_)
                  refine Stop.mk ?_
                  go_wp2_with (refine wpList_farith rfl _ _ _ _ _ rfl rfl _ _ _ rfl rfl ?_; intro r6 j6 g6; have f6 := Lib.hid g6; clear g6; refine Stop.go ?_)
                  refine Stop.mk ?_
                  go_wp2_with fail
                  first | refine (implCos_any _ _).mono ?_ | (go_at_call 67; refine (implCos_any _ _).mono ?_)
                  rintro e w' ⟨r7, j7, g7, _, rfl, rfl⟩
                  have f7 := Lib.hid g7
                  clear g7
                  go_wp2_with (refine wpList_farith rfl _ _ _ _ _ rfl rfl _ _ _ rfl rfl ?_; intro r8 j8 g8; have f8 := Lib.hid g8; clear g8; refine Stop.go ?_)
                  refine Stop.mk ?_
                  go_wp2_with (refine wpList_farith rfl _ _ _ _ _ rfl rfl _ _ _ rfl rfl ?_; intro r9 j9 g9; have f9 := Lib.hid g9; clear g9; refine Stop.go ?_)
                  refine Stop.mk ?_
                  have SI := Lib.hid (soI_of f0.out f1.out f2.out f3.out f4.out f5.out f6.out f7.out f8.out f9.out)
                  have oi : (FloatKind.f32.format.order r9 0 == some .gt) = false := (gt0_cn' SI.out).trans D2.out
                  go_wp2_with fail
                  first | refine (implCos_any _ _).mono ?_ | (go_at_call 67; refine (implCos_any _ _).mono ?_)
                  rintro e w' ⟨r11, j11, g11, _, rfl, rfl⟩
                  have f11 := Lib.hid g11
                  clear g11
                  go_wp2_with (refine wpList_farith rfl _ _ _ _ _ rfl rfl _ _ _ rfl rfl ?_; intro r12 j12 g12; have f12 := Lib.hid g12; clear g12; refine Stop.go ?_)
                  refine Stop.mk ?_
                  go_wp2_with (refine wpList_farith rfl _ _ _ _ _ rfl rfl _ _ _ rfl rfl ?_; intro r13 j13 g13; have f13 := Lib.hid g13; clear g13; refine Stop.go ?_)
                  refine Stop.mk ?_
                  go_wp2_with (refine wpList_farith rfl _ _ _ _ _ rfl rfl _ _ _ rfl rfl ?_; intro r14 j14 g14; have f14 := Lib.hid g14; clear g14; refine Stop.go ?_)
                  refine Stop.mk ?_
                  go_wp2_with (refine wpList_farith rfl _ _ _ _ _ rfl rfl _ _ _ rfl rfl ?_; intro r15 j15 g15; have f15 := Lib.hid g15; clear g15; refine Stop.go ?_)
                  refine Stop.mk ?_
                  go_wp2_with fail
                  first | refine (implNum_any _ _).mono ?_ | (go_at_call 68; refine (implNum_any _ _).mono ?_)
                  rintro e w' ⟨rfl, n9, rfl⟩
                  go_wp2
                  go_ret2
                  exact cGiv_yes E.out (soV_i (soX_no CC.out) f11.out f12.out f13.out f14.out f15.out) (by first | exact Below.refl _ _ | exact below_drewN (Below.refl _ _) _ | exact (by repeat (first | exact Below.refl _ _ | refine Below.setCell ?_ (by first | exact Nat.le_refl _ | (simp; done) | (simp; omega) | omega) _ | refine below_drewN ?_ _ | refine Below.alloc ?_ (by first | exact Nat.le_refl _ | (simp; done) | (simp; omega) | omega) _)))
                · skip
                  have oh : (FloatKind.f32.format.order h 0 == some .gt) = true := C1
                  have CC := Lib.hid (show (gt0 h && gt0 (soI h t k f)) = true by rw [C1, C2]; rfl)
                  have D2 := Lib.hid C2
                  clear C1 C2
                  have E := Lib.hid (show soB h t k f b y = true by rw [BE]; rw [B0, B1, B2, B3, B4, B5]; simp)
                  have H0 := Lib.hid B0
                  have H1 := Lib.hid B1
                  have H2 := Lib.hid B2
                  have H3 := Lib.hid B3
                  have H4 := Lib.hid B4
                  have H5 := Lib.hid B5
                  clear BE B0 B1 B2 B3 B4 B5
                  go_enter Try.func16, Try.ntmps16
                  go_wp2_with fail
                  refine (implWithin_any h _ _ _).mono ?_
                  rw [H0.out]
                  rintro e w' ⟨rfl, rfl⟩
                  go_wp2_with fail
                  refine (implWithin_any k _ _ _).mono ?_
                  rw [H1.out]
                  rintro e w' ⟨rfl, rfl⟩
                  go_wp2_with fail
                  refine (implFinite_any t _).mono ?_
                  rw [H2.out]
                  rintro e w' ⟨rfl, n1, rfl⟩
                  go_wp2_with fail
                  refine (implFinite_any f _).mono ?_
                  rw [H3.out]
                  rintro e w' ⟨rfl, n2, rfl⟩
                  go_wp2_with fail
                  refine (implNotNeg_any b _).mono ?_
                  rw [H4.out]
                  rintro e w' ⟨rfl, n3, rfl⟩
                  go_wp2_with fail
                  refine (implNotNeg_any y _).mono ?_
                  rw [H5.out]
                  rintro e w' ⟨rfl, n4, rfl⟩
                  go_wp2_with fail
                  first | refine (implSineC_any _ _).mono ?_ | (go_at_call 66; refine (implSineC_any _ _).mono ?_)
                  rintro e w' ⟨r0, j0, g0, _, rfl, rfl⟩
                  have f0 := Lib.hid g0
                  clear g0
                  go_wp2_with fail
                  first | refine (implCos_any _ _).mono ?_ | (go_at_call 67; refine (implCos_any _ _).mono ?_)
                  rintro e w' ⟨r1, j1, g1, _, rfl, rfl⟩
                  have f1 := Lib.hid g1
                  clear g1
                  go_wp2_with (refine wpList_farith rfl _ _ _ _ _ rfl rfl _ _ _ rfl rfl ?_; intro r2 j2 g2; have f2 := Lib.hid g2; clear g2; refine Stop.go ?_)
                  refine Stop.mk ?_
                  go_wp2_with fail
                  first | refine (implCos_any _ _).mono ?_ | (go_at_call 67; refine (implCos_any _ _).mono ?_)
                  rintro e w' ⟨r3, j3, g3, _, rfl, rfl⟩
                  have f3 := Lib.hid g3
                  clear g3
                  go_wp2_with fail
                  first | refine (implSineC_any _ _).mono ?_ | (go_at_call 66; refine (implSineC_any _ _).mono ?_)
                  rintro e w' ⟨r4, j4, g4, _, rfl, rfl⟩
                  have f4 := Lib.hid g4
                  clear g4
                  go_wp2_with (refine wpList_farith rfl _ _ _ _ _ rfl rfl _ _ _ rfl rfl ?_; intro r5 j5 g5; have f5 := Lib.hid g5; clear g5; refine Stop.go ?_)
                  refine Stop.mk ?_
                  go_wp2_with (refine wpList_farith rfl _ _ _ _ _ rfl rfl _ _ _ rfl rfl ?_; intro r6 j6 g6; have f6 := Lib.hid g6; clear g6; refine Stop.go ?_)
                  refine Stop.mk ?_
                  go_wp2_with fail
                  first | refine (implCos_any _ _).mono ?_ | (go_at_call 67; refine (implCos_any _ _).mono ?_)
                  rintro e w' ⟨r7, j7, g7, _, rfl, rfl⟩
                  have f7 := Lib.hid g7
                  clear g7
                  go_wp2_with (refine wpList_farith rfl _ _ _ _ _ rfl rfl _ _ _ rfl rfl ?_; intro r8 j8 g8; have f8 := Lib.hid g8; clear g8; refine Stop.go ?_)
                  refine Stop.mk ?_
                  go_wp2_with (refine wpList_farith rfl _ _ _ _ _ rfl rfl _ _ _ rfl rfl ?_; intro r9 j9 g9; have f9 := Lib.hid g9; clear g9; refine Stop.go ?_)
                  refine Stop.mk ?_
                  have SI := Lib.hid (soI_of f0.out f1.out f2.out f3.out f4.out f5.out f6.out f7.out f8.out f9.out)
                  have oi : (FloatKind.f32.format.order r9 0 == some .gt) = true := (gt0_cn' SI.out).trans D2.out
                  go_wp2_with (refine wpList_farith rfl _ _ _ _ _ rfl rfl _ _ _ rfl rfl ?_; intro r10 j10 g10; have f10 := Lib.hid g10; clear g10; refine Stop.go ?_)
                  refine Stop.mk ?_
                  go_wp2_with fail
                  first | refine (implCos_any _ _).mono ?_ | (go_at_call 67; refine (implCos_any _ _).mono ?_)
                  rintro e w' ⟨r11, j11, g11, _, rfl, rfl⟩
                  have f11 := Lib.hid g11
                  clear g11
                  go_wp2_with (refine wpList_farith rfl _ _ _ _ _ rfl rfl _ _ _ rfl rfl ?_; intro r12 j12 g12; have f12 := Lib.hid g12; clear g12; refine Stop.go ?_)
                  refine Stop.mk ?_
                  go_wp2_with (refine wpList_farith rfl _ _ _ _ _ rfl rfl _ _ _ rfl rfl ?_; intro r13 j13 g13; have f13 := Lib.hid g13; clear g13; refine Stop.go ?_)
                  refine Stop.mk ?_
                  go_wp2_with (refine wpList_farith rfl _ _ _ _ _ rfl rfl _ _ _ rfl rfl ?_; intro r14 j14 g14; have f14 := Lib.hid g14; clear g14; refine Stop.go ?_)
                  refine Stop.mk ?_
                  go_wp2_with (refine wpList_farith rfl _ _ _ _ _ rfl rfl _ _ _ rfl rfl ?_; intro r15 j15 g15; have f15 := Lib.hid g15; clear g15; refine Stop.go ?_)
                  refine Stop.mk ?_
                  go_wp2_with fail
                  first | refine (implNum_any _ _).mono ?_ | (go_at_call 68; refine (implNum_any _ _).mono ?_)
                  rintro e w' ⟨rfl, n9, rfl⟩
                  go_wp2
                  go_ret2
                  exact cGiv_yes E.out (soV_i (soX_yes CC.out SI.out f10.out) f11.out f12.out f13.out f14.out f15.out) (by first | exact Below.refl _ _ | exact below_drewN (Below.refl _ _) _ | exact (by repeat (first | exact Below.refl _ _ | refine Below.setCell ?_ (by first | exact Nat.le_refl _ | (simp; done) | (simp; omega) | omega) _ | refine below_drewN ?_ _ | refine Below.alloc ?_ (by first | exact Nat.le_refl _ | (simp; done) | (simp; omega) | omega) _)))

set_option maxRecDepth 20000 in
theorem fnExactSunOnFace_walk (h : Nat) (t : Nat) (k : Nat) (f : Nat) (b : Nat) (y : Nat) (w : World) (_ : (Lit.float .f32 h).wf = true) (_ : (Lit.float .f32 t).wf = true) (_ : (Lit.float .f32 k).wf = true) (_ : (Lit.float .f32 f).wf = true) (_ : (Lit.float .f32 b).wf = true) (_ : (Lit.float .f32 y).wf = true) : Calls Try.prog 3 #[.float .f32 h, .float .f32 t, .float .f32 k, .float .f32 f, .float .f32 b, .float .f32 y] w (Tru w) := by
  go_enter Try.func3, Try.ntmps3
  go_wp2_with fail
  refine (specSunFace_any h t k f b y _).mono ?_
  rintro _ w1 ⟨s1, hr1, rfl, hb⟩
  have Bw := Lib.hid hb
  have R1 := Lib.hid hr1
  clear hb hr1
  go_wp2_with fail
  refine (implSunFace_any h t k f b y _).mono ?_
  rintro _ w2 ⟨s2, hr2, rfl, hb⟩
  have Bw := Lib.hid (below_step Bw.out hb)
  have R2 := Lib.hid hr2
  clear hb hr2
  go_wp2_with (first | (refine wpList_up rfl Try.underlying22 Try.underlying26 _ rfl _ rfl ?_; intro _ _ _) | (go_at_call 17; refine (same_end (a := s2) (b := s1) _ (by assumption) (by assumption) (R2.out.trans R1.out.symm)).mono ?_; rintro e w' ⟨rfl, n, rfl⟩))
  go_ret
  exact Tru.below (below_drewN Bw.out _)

end Go.Proofs.Ytlhjmkdfemejmaa
