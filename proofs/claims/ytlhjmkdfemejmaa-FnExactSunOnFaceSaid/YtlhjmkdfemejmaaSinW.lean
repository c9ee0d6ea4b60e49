/- The sine of some turns: both sides. -/
import Derived.Test.YtlhjmkdfemejmaaSinS
namespace Go.Proofs.Ytlhjmkdfemejmaa
open Go Go.RowKit
set_option linter.unusedVariables false

theorem specNarrow_any (y : Nat) (w : World) : Calls Try.prog 125 #[.float .f64 y] w (fun e w' => ∃ t n, DR y t ∧ e = .returned (.float .f32 t) ∧ w' = w.drewN n) := by
  go_enter Try.func125, Try.ntmps125
  go_wp2_with (refine wpList_down rfl Try.underlying26 Try.underlying22 _ rfl _ rfl ?_; intro t j1 gd)
  go_ret
  exact ⟨_, _, gd, rfl, rfl⟩
theorem specSinN_any (y : Nat) (w : World) (h : fin .f64 y = false) : Calls Try.prog 126 #[.float .f64 y] w (fun e w' => e = .returned (.float .f64 9221120237041090561) ∧ ∃ n, w' = w.drewN n) := by
  have SF : Hid (∀ r, FR .sub .f64 y y r → (FloatKind.f64.format.order r 0 != some .eq) = true ∧ (FloatKind.f64.format.order r 0 == some .eq) = false) := Lib.hid (fun r hr => by
    have e := sub_zero hr
    rw [h] at e
    exact ⟨by rw [bne, e]; rfl, e⟩)
  go_enter Try.func126, Try.ntmps126
  go_wp2_with (refine wpList_farith rfl _ _ _ _ _ rfl rfl _ _ _ rfl rfl ?_; intro q jq gq; have fq := Lib.hid gq; clear gq; refine Stop.go ?_)
  refine Stop.mk ?_
  have sq := (SF.out q fq.out).1
  have sq' := (SF.out q fq.out).2
  go_wp2_with fail
  refine (nanL_any _).mono ?_
  rintro e w1 ⟨rfl, rfl⟩
  go_wp2
  go_ret
  exact ⟨rfl, _, rfl⟩
theorem specSinB_any (y : Nat) (hf : fin .f64 y = true) (hb : bigB y = true) (w : World) : Calls Try.prog 126 #[.float .f64 y] w (fun e w' => e = .returned (.float .f64 0) ∧ ∃ n, w' = w.drewN n) := by
  have SF : Hid (∀ r, FR .sub .f64 y y r → (FloatKind.f64.format.order r 0 != some .eq) = false ∧ (FloatKind.f64.format.order r 0 == some .eq) = true) := Lib.hid (fun r hr => by
    have e := sub_zero hr
    rw [hf] at e
    exact ⟨by rw [bne, e]; rfl, e⟩)
  have G := big_two (show nn .f64 y = false by cases hn : nn .f64 y; rfl; rw [fin_nan hn] at hf; cases hf)
  rw [hb] at G
  cases g1 : (FloatKind.f64.format.order y 4841369599423283200 == some .gt || FloatKind.f64.format.order y 4841369599423283200 == some .eq)
  all_goals
    rw [g1] at G
    try simp only [Bool.false_or] at G
    go_enter Try.func126, Try.ntmps126
    go_wp2_with (refine wpList_farith rfl _ _ _ _ _ rfl rfl _ _ _ rfl rfl ?_; intro q jq gq; have fq := Lib.hid gq; clear gq; refine Stop.go ?_)
    refine Stop.mk ?_
    have sq := (SF.out q fq.out).1
    have sq' := (SF.out q fq.out).2
    go_wp2
    go_ret
    exact ⟨rfl, _, rfl⟩

theorem specSinA {F F1 F2 F3 Z U V : Nat} {Q : Nat → Nat} {b1 b2 b3 : Bool} (S : Sn F F1 F2 F3 Z U V Q b1 b2 b3) (y : Nat) (n : Int) (SF : Hid (∀ r, FR .sub .f64 y y r → (FloatKind.f64.format.order r 0 != some .eq) = false ∧ (FloatKind.f64.format.order r 0 == some .eq) = true)) (G1 : (FloatKind.f64.format.order y 4841369599423283200 == some .gt || FloatKind.f64.format.order y 4841369599423283200 == some .eq) = false) (G2 : (FloatKind.f64.format.order y 14064741636278059008 == some .lt || FloatKind.f64.format.order y 14064741636278059008 == some .eq) = false) (N1 : floatToIntVal .f64 y .i64 = some n) (N2 : floatBits .sub .f64 y (floatOfInt .f64 n) = some F) (w : World) : Calls Try.prog 126 #[.float .f64 y] w (fun e w' => e = .returned (.float .f64 (if b2 then Op.negFloat .f64 V else V)) ∧ ∃ n, w' = w.drewN n) := by
  obtain ⟨o1, e1, o2, e2, o3, e3, E4, E5, p0, pn, e6⟩ := S
  cases b1 <;> cases b2 <;> cases b3
  · simp only [Bool.false_eq_true, if_false] at e1 e2 e3 ⊢
    subst e3
    subst e2
    subst e1
    exact specSin000 _ _ _ _ _ y n SF G1 G2 N1 N2 o1 o2 o3 E4 E5 (Lib.hid p0) (Lib.hid pn) (Lib.hid e6) w
  · simp only [Bool.false_eq_true, if_false, if_true] at e1 e2 e3 ⊢
    subst e2
    subst e1
    exact specSin001 _ _ _ _ _ _ y n SF G1 G2 N1 N2 o1 o2 o3 e3 E4 E5 (Lib.hid p0) (Lib.hid pn) (Lib.hid e6) w
  · simp only [Bool.false_eq_true, if_false, if_true] at e1 e2 e3 ⊢
    subst e3
    subst e1
    exact specSin010 _ _ _ _ _ _ y n SF G1 G2 N1 N2 o1 o2 e2 o3 E4 E5 (Lib.hid p0) (Lib.hid pn) (Lib.hid e6) w
  · simp only [Bool.false_eq_true, if_false, if_true] at e1 e2 e3 ⊢
    subst e1
    exact specSin011 _ _ _ _ _ _ _ y n SF G1 G2 N1 N2 o1 o2 e2 o3 e3 E4 E5 (Lib.hid p0) (Lib.hid pn) (Lib.hid e6) w
  · simp only [Bool.false_eq_true, if_false, if_true] at e1 e2 e3 ⊢
    subst e3
    subst e2
    exact specSin100 _ _ _ _ _ _ y n SF G1 G2 N1 N2 o1 e1 o2 o3 E4 E5 (Lib.hid p0) (Lib.hid pn) (Lib.hid e6) w
  · simp only [Bool.false_eq_true, if_false, if_true] at e1 e2 e3 ⊢
    subst e2
    exact specSin101 _ _ _ _ _ _ _ y n SF G1 G2 N1 N2 o1 e1 o2 o3 e3 E4 E5 (Lib.hid p0) (Lib.hid pn) (Lib.hid e6) w
  · simp only [Bool.false_eq_true, if_false, if_true] at e1 e2 e3 ⊢
    subst e3
    exact specSin110 _ _ _ _ _ _ _ y n SF G1 G2 N1 N2 o1 e1 o2 e2 o3 E4 E5 (Lib.hid p0) (Lib.hid pn) (Lib.hid e6) w
  · simp only [if_true] at e1 e2 e3 ⊢
    exact specSin111 _ _ _ _ _ _ _ _ y n SF G1 G2 N1 N2 o1 e1 o2 e2 o3 e3 E4 E5 (Lib.hid p0) (Lib.hid pn) (Lib.hid e6) w

theorem implSinA {F F1 F2 F3 Z U V : Nat} {Q : Nat → Nat} {b1 b2 b3 : Bool} (S : Sn F F1 F2 F3 Z U V Q b1 b2 b3) (y : Nat) (PA : Hid (∀ w, Calls Try.prog 164 #[.float .f64 y] w fun e w' => e = .returned (.float .f64 F1) ∧ w = w')) (w : World) : Calls Try.prog 128 #[.float .f64 y] w (fun e w' => e = .returned (.float .f64 (if b2 then Op.negFloat .f64 V else V)) ∧ ∃ n, w' = w.drewN n) := by
  obtain ⟨o1, e1, o2, e2, o3, e3, E4, E5, p0, pn, e6⟩ := S
  cases b1 <;> cases b2 <;> cases b3
  · simp only [Bool.false_eq_true, if_false] at e1 e2 e3 ⊢
    subst e3
    subst e2
    subst e1
    exact implSin000 _ _ _ _ _ y PA o2 o3 E4 E5 (Lib.hid p0) (Lib.hid pn) (Lib.hid e6) w
  · simp only [Bool.false_eq_true, if_false, if_true] at e1 e2 e3 ⊢
    subst e2
    subst e1
    exact implSin001 _ _ _ _ _ _ y PA o2 o3 e3 E4 E5 (Lib.hid p0) (Lib.hid pn) (Lib.hid e6) w
  · simp only [Bool.false_eq_true, if_false, if_true] at e1 e2 e3 ⊢
    subst e3
    subst e1
    exact implSin010 _ _ _ _ _ _ y PA o2 e2 o3 E4 E5 (Lib.hid p0) (Lib.hid pn) (Lib.hid e6) w
  · simp only [Bool.false_eq_true, if_false, if_true] at e1 e2 e3 ⊢
    subst e1
    exact implSin011 _ _ _ _ _ _ _ y PA o2 e2 o3 e3 E4 E5 (Lib.hid p0) (Lib.hid pn) (Lib.hid e6) w
  · simp only [Bool.false_eq_true, if_false, if_true] at e1 e2 e3 ⊢
    subst e3
    subst e2
    exact implSin100 _ _ _ _ _ y PA o2 o3 E4 E5 (Lib.hid p0) (Lib.hid pn) (Lib.hid e6) w
  · simp only [Bool.false_eq_true, if_false, if_true] at e1 e2 e3 ⊢
    subst e2
    exact implSin101 _ _ _ _ _ _ y PA o2 o3 e3 E4 E5 (Lib.hid p0) (Lib.hid pn) (Lib.hid e6) w
  · simp only [Bool.false_eq_true, if_false, if_true] at e1 e2 e3 ⊢
    subst e3
    exact implSin110 _ _ _ _ _ _ y PA o2 e2 o3 E4 E5 (Lib.hid p0) (Lib.hid pn) (Lib.hid e6) w
  · simp only [if_true] at e1 e2 e3 ⊢
    exact implSin111 _ _ _ _ _ _ _ y PA o2 e2 o3 e3 E4 E5 (Lib.hid p0) (Lib.hid pn) (Lib.hid e6) w

theorem sub_fin_self {y : Nat} (h : fin .f64 y = true) : ∀ r, FR .sub .f64 y y r → (FloatKind.f64.format.order r 0 != some .eq) = false ∧ (FloatKind.f64.format.order r 0 == some .eq) = true := fun r hr => by
  have e := sub_zero hr
  rw [h] at e
  exact ⟨by rw [bne, e]; rfl, e⟩
theorem up_val {x y : Nat} (h : UR x y) (hf : fin .f32 x = true) : y = cvu x := by
  have hn : nn .f32 x = false := by
    cases hn : nn .f32 x
    · rfl
    · rw [fin_nan hn] at hf; cases hf
  have hy : nn .f64 y = false := by rw [nn_up h]; exact hn
  have e := h.1
  rw [cn_of_num hn, cn_of_num hy] at e
  exact e
theorem fin_nn64 {y : Nat} (h : fin .f64 y = true) : nn .f64 y = false := by
  cases hn : nn .f64 y
  · rfl
  · rw [fin_nan hn] at h; cases h
theorem bool_or {a b : Bool} (h : (a || b) = false) : a = false ∧ b = false := by cases a <;> cases b <;> simp_all
/-- the specification's sine of a 64-bit number that is not too great -/
theorem specSinW_any (y : Nat) (hw : (Lit.float .f64 y).wf = true) (hf : fin .f64 y = true) (hb : bigB y = false) (w : World) : Calls Try.prog 126 #[.float .f64 y] w (fun e w' => e = .returned (.float .f64 (sfR (frF y))) ∧ ∃ n, w' = w.drewN n) := by
  have hs := small_of hw hb
  obtain ⟨n, N1, N2, _, hB⟩ := frac_both hs
  have S := sn_of hB
  have SF := Lib.hid (sub_fin_self hf)
  have G := big_two (fin_nn64 hf)
  rw [hb] at G
  obtain ⟨G1, G2⟩ := bool_or G

  exact specSinA S y n SF G1 G2 N1 N2 w

theorem implSinW_any (y : Nat) (hw : (Lit.float .f64 y).wf = true) (hf : fin .f64 y = true) (hb : bigB y = false) (w : World) : Calls Try.prog 128 #[.float .f64 y] w (fun e w' => e = .returned (.float .f64 (sfR (frF y))) ∧ ∃ n, w' = w.drewN n) := by
  have hs := small_of hw hb
  obtain ⟨n, _, _, N3, hB⟩ := frac_both hs
  have S := sn_of hB
  have PA := Lib.hid (fun w => part_any y (frF y) (sf1 (frF y)) _ w (fin_nn64 hf) rfl N3 S.o1 S.e1)
  exact implSinA S y PA w

set_option maxRecDepth 20000 in
set_option maxHeartbeats 800000 in
theorem specSine_any (x : Nat) (w : World) : Calls Try.prog 60 #[.float .f32 x] w (Flo (fun r => cn .f32 r = sinF x) w) := by
  cases hf : fin .f32 x
  · have eS : sinF x = qn .f32 := by unfold sinF; rw [hf]; rfl
    rw [eS]
    have HF := Lib.hid hf
    clear hf eS
    go_enter Try.func60, Try.ntmps60
    go_wp2_with (refine wpList_up rfl Try.underlying22 Try.underlying26 _ rfl _ rfl ?_; intro y j0 gu; have U := Lib.hid gu; clear gu; refine Stop.go ?_)
    refine Stop.mk ?_
    go_wp2_with fail
    first | refine (specSinN_any y _ (by rw [fin_up U.out]; exact HF.out)).mono ?_ | (go_at_call 126; refine (specSinN_any y _ (by rw [fin_up U.out]; exact HF.out)).mono ?_)
    rintro e w1 ⟨rfl, n1, rfl⟩
    go_wp2_with fail
    first | refine (specNarrow_any _ _).mono ?_ | (go_at_call 125; refine (specNarrow_any _ _).mono ?_)
    rintro e w2 ⟨t, n2, D, rfl, rfl⟩
    have D := Lib.hid D
    go_wp2
    go_ret
    exact ⟨_, _, by show cn .f32 t = _; rw [D.out.1 (ovf_nan (by decide +kernel))]; decide +kernel, D.out.2, rfl, by first | rfl | (simp only [World.drewN_drewN]; rfl)⟩
  · cases hb : bigB (cvu x)
    · have eS : sinF x = cvd (sfR (frF (cvu x))) := by unfold sinF; rw [hf, hb]; rfl
      rw [eS]
      have HF := Lib.hid hf
      have HB := Lib.hid hb
      clear hf hb eS
      go_enter Try.func60, Try.ntmps60
      go_wp2_with (refine wpList_up rfl Try.underlying22 Try.underlying26 _ rfl _ rfl ?_; intro y j0 gu; have U := Lib.hid gu; clear gu; refine Stop.go ?_)
      refine Stop.mk ?_
      have UV := Lib.hid (up_val U.out HF.out)
      have FY : Hid (fin .f64 y = true) := Lib.hid (by rw [fin_up U.out]; exact HF.out)
      have BY : Hid (bigB y = false) := Lib.hid (by rw [UV.out]; exact HB.out)
      have OV : Hid (∀ t, DR (sfR (frF y)) t → cn .f32 t = cvd (sfR (frF (cvu x)))) := Lib.hid (fun t h => by
        obtain ⟨_, _, _, _, hB⟩ := frac_both (small_of U.out.2 BY.out)
        have hR := sfR_Bl hB
        have hn := Bl_num hR
        have h1 := h.1
        rw [cn_of_num hn] at h1
        rw [← UV.out]
        exact h1 (ovf_small ((Bl_Bd hR).mono (by omega))))
      go_wp2_with fail
      first | refine (specSinW_any y U.out.2 FY.out BY.out _).mono ?_ | (go_at_call 126; refine (specSinW_any y U.out.2 FY.out BY.out _).mono ?_)
      rintro e w1 ⟨rfl, n1, rfl⟩
      go_wp2_with fail
      first | refine (specNarrow_any _ _).mono ?_ | (go_at_call 125; refine (specNarrow_any _ _).mono ?_)
      rintro e w2 ⟨t, n2, D, rfl, rfl⟩
      have D := Lib.hid D
      go_wp2
      go_ret
      exact ⟨_, _, OV.out _ D.out, D.out.2, rfl, by first | rfl | (simp only [World.drewN_drewN]; rfl)⟩
    · have eS : sinF x = 0 := by unfold sinF; rw [hf, hb]; rfl
      rw [eS]
      have HF := Lib.hid hf
      have HB := Lib.hid hb
      clear hf hb eS
      go_enter Try.func60, Try.ntmps60
      go_wp2_with (refine wpList_up rfl Try.underlying22 Try.underlying26 _ rfl _ rfl ?_; intro y j0 gu; have U := Lib.hid gu; clear gu; refine Stop.go ?_)
      refine Stop.mk ?_
      have UV := Lib.hid (up_val U.out HF.out)
      have FY : Hid (fin .f64 y = true) := Lib.hid (by rw [fin_up U.out]; exact HF.out)
      have BY : Hid (bigB y = true) := Lib.hid (by rw [UV.out]; exact HB.out)
      go_wp2_with fail
      first | refine (specSinB_any y FY.out BY.out _).mono ?_ | (go_at_call 126; refine (specSinB_any y FY.out BY.out _).mono ?_)
      rintro e w1 ⟨rfl, n1, rfl⟩
      go_wp2_with fail
      first | refine (specNarrow_any _ _).mono ?_ | (go_at_call 125; refine (specNarrow_any _ _).mono ?_)
      rintro e w2 ⟨t, n2, D, rfl, rfl⟩
      have D := Lib.hid D
      go_wp2
      go_ret
      exact ⟨_, _, by show cn .f32 t = _; rw [D.out.1 (by decide +kernel)]; decide +kernel, D.out.2, rfl, by first | rfl | (simp only [World.drewN_drewN]; rfl)⟩

set_option maxRecDepth 20000 in
set_option maxHeartbeats 800000 in
theorem implSine_any (x : Nat) (w : World) : Calls Try.prog 66 #[.float .f32 x] w (Flo (fun r => cn .f32 r = sinF x) w) := by
  cases hf : fin .f32 x
  · have eS : sinF x = qn .f32 := by unfold sinF; rw [hf]; rfl
    rw [eS]
    have HF := Lib.hid hf
    clear hf eS
    go_enter Try.func66, Try.ntmps66
    go_wp2_with (refine wpList_up rfl Try.underlying22 Try.underlying26 _ rfl _ rfl ?_; intro y j0 gu; have U := Lib.hid gu; clear gu; refine Stop.go ?_)
    refine Stop.mk ?_
    go_wp2_with fail
    refine (isFiniteLong_up _ U.out).mono ?_
    rw [HF.out]
    rintro e w1 ⟨rfl, rfl⟩
    go_wp2_with fail
    refine (nanF_any _).mono ?_
    rintro e w1 ⟨rfl, rfl⟩
    go_wp2
    go_ret
    exact ⟨_, _, by show cn .f32 2143289344 = _; decide +kernel, by decide, rfl, by first | rfl | (simp only [World.drewN_drewN]; rfl)⟩
  · cases hb : bigB (cvu x)
    · have eS : sinF x = cvd (sfR (frF (cvu x))) := by unfold sinF; rw [hf, hb]; rfl
      rw [eS]
      have HF := Lib.hid hf
      have HB := Lib.hid hb
      clear hf hb eS
      go_enter Try.func66, Try.ntmps66
      go_wp2_with (refine wpList_up rfl Try.underlying22 Try.underlying26 _ rfl _ rfl ?_; intro y j0 gu; have U := Lib.hid gu; clear gu; refine Stop.go ?_)
      refine Stop.mk ?_
      have UV := Lib.hid (up_val U.out HF.out)
      have FY : Hid (fin .f64 y = true) := Lib.hid (by rw [fin_up U.out]; exact HF.out)
      have BY : Hid (bigB y = false) := Lib.hid (by rw [UV.out]; exact HB.out)
      have OV : Hid (∀ t, DR (sfR (frF y)) t → cn .f32 t = cvd (sfR (frF (cvu x)))) := Lib.hid (fun t h => by
        obtain ⟨_, _, _, _, hB⟩ := frac_both (small_of U.out.2 BY.out)
        have hR := sfR_Bl hB
        have hn := Bl_num hR
        have h1 := h.1
        rw [cn_of_num hn] at h1
        rw [← UV.out]
        exact h1 (ovf_small ((Bl_Bd hR).mono (by omega))))
      have AB := Lib.hid (big_abs (fin_nn64 FY.out))
      rw [BY.out] at AB
      go_wp2_with fail
      refine (isFiniteLong_up _ U.out).mono ?_
      rw [HF.out]
      rintro e w1 ⟨rfl, rfl⟩
      go_wp2_with fail
      refine (abs_any y _ U.out.2).mono ?_
      rintro e w1 ⟨rfl, rfl⟩
      have ab := AB.out
      go_wp2_with fail
      refine (implSinW_any y U.out.2 FY.out BY.out _).mono ?_
      rintro e w1 ⟨rfl, n1, rfl⟩
      go_wp2_with (refine wpList_down rfl Try.underlying26 Try.underlying22 _ rfl _ rfl ?_; intro t j1 gd; have D := Lib.hid gd; clear gd; refine Stop.go ?_)
      refine Stop.mk ?_
      go_wp2
      go_ret
      exact ⟨_, _, OV.out _ D.out, D.out.2, rfl, by first | rfl | (simp only [World.drewN_drewN]; rfl)⟩
    · have eS : sinF x = 0 := by unfold sinF; rw [hf, hb]; rfl
      rw [eS]
      have HF := Lib.hid hf
      have HB := Lib.hid hb
      clear hf hb eS
      go_enter Try.func66, Try.ntmps66
      go_wp2_with (refine wpList_up rfl Try.underlying22 Try.underlying26 _ rfl _ rfl ?_; intro y j0 gu; have U := Lib.hid gu; clear gu; refine Stop.go ?_)
      refine Stop.mk ?_
      have UV := Lib.hid (up_val U.out HF.out)
      have FY : Hid (fin .f64 y = true) := Lib.hid (by rw [fin_up U.out]; exact HF.out)
      have BY : Hid (bigB y = true) := Lib.hid (by rw [UV.out]; exact HB.out)
      have AB := Lib.hid (big_abs (fin_nn64 FY.out))
      rw [BY.out] at AB
      go_wp2_with fail
      refine (isFiniteLong_up _ U.out).mono ?_
      rw [HF.out]
      rintro e w1 ⟨rfl, rfl⟩
      go_wp2_with fail
      refine (abs_any y _ U.out.2).mono ?_
      rintro e w1 ⟨rfl, rfl⟩
      have ab := AB.out
      go_wp2
      go_ret
      exact ⟨_, _, by show cn .f32 0 = _; decide +kernel, by decide, rfl, by first | rfl | (simp only [World.drewN_drewN]; rfl)⟩

end Go.Proofs.Ytlhjmkdfemejmaa
