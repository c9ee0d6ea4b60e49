/- How much a fin shares: both sides, and the law. -/
import Derived.Test.YtabdinmodopadabFsM
import Derived.Test.YtabdinmodopadabExpN
import Derived.Test.YtabdinmodopadabAllP
import Derived.Test.YtabdinmodopadabGiv3
namespace Go.Proofs.Ytabdinmodopadab
open Go.RowKit
set_option linter.unusedVariables false

def fsM (l e t a : Nat) : Nat := fop .mul .f32 l (cvd (fsq (cvu (fop .quo .f32 (fop .mul .f32 1073741824 a) (fop .mul .f32 e t)))))
theorem fsM_of {l e t a r0 r1 r2 s m : Nat} (f0 : FR .mul .f32 1073741824 a r0) (f1 : FR .mul .f32 e t r1) (f2 : FR .quo .f32 r0 r1 r2) (hs : cn .f32 s = cvd (fsq (cvu (cn .f32 r2)))) (f3 : FR .mul .f32 l s m) : cn .f32 m = fsM l e t a := by
  have e2 : cn .f32 r2 = fop .quo .f32 (fop .mul .f32 1073741824 a) (fop .mul .f32 e t) := by simp only [f2.1, f1.1, f0.1, fopl', fopr']
  unfold fsM
  rw [f3.1, hs, e2]
  simp only [fopl']
theorem fsM_sg {l e t a : Nat} (h : pos l = true) : Nng (fsM l e t a) ∨ nn .f32 (fsM l e t a) = true := by
  unfold fsM
  have h1 := cvd_sg (fsq_sg (cvu (fop .quo .f32 (fop .mul .f32 1073741824 a) (fop .mul .f32 e t))))
  generalize cvd (fsq (cvu (fop .quo .f32 (fop .mul .f32 1073741824 a) (fop .mul .f32 e t)))) = R at *
  rcases h1 with h1 | h1
  · exact .inl (mul_sg h h1)
  · refine .inr ?_
    unfold fop
    rw [floatBits_nan_right h1, Option.getD_none]
    exact nn_qn .f32
/-- what the exponential function is asked for -/
def fsA (M a : Nat) : Prop := (Nng M ∧ a = Op.negFloat .f32 (fop .mul .f32 1073741824 M)) ∨ (nn .f32 M = true ∧ nn .f32 a = true)
theorem nn_of {m M : Nat} (h : cn .f32 m = M) (hM : nn .f32 M = true) : nn .f32 m = true := by rw [← nn_cn, h]; exact hM
theorem fsA_spec {m M r : Nat} (hM : Nng M ∨ nn .f32 M = true) (h : cn .f32 m = M) (f : FR .mul .f32 1073741824 m r) : fsA M (Op.negFloat .f32 r) := by
  rcases hM with hM | hM
  · have e : m = M := Nng_is hM h
    have e2 : r = fop .mul .f32 1073741824 M := Nng_is (mul_two hM).1 (by rw [f.1, e]; simp only [fopl', fopr'])
    exact .inl ⟨hM, by rw [e2]⟩
  · exact .inr ⟨hM, by rw [nn_negF]; exact fr_nanr f (nn_of h hM)⟩
theorem fsA_impl {m M r : Nat} (hM : Nng M ∨ nn .f32 M = true) (h : cn .f32 m = M) (f : FR .mul .f32 3221225472 m r) : fsA M r := by
  rcases hM with hM | hM
  · have e : m = M := Nng_is hM h
    have c : cn .f32 r = Op.negFloat .f32 (fop .mul .f32 1073741824 M) := by rw [f.1, e, ← (mul_two hM).2]; simp only [fopl', fopr']
    have hn : nn .f32 (Op.negFloat .f32 (fop .mul .f32 1073741824 M)) = false := by rw [nn_negF]; exact Nng_num (mul_two hM).1
    refine .inl ⟨hM, ?_⟩
    cases hr : nn .f32 r
    · rw [cn_of_num hr] at c; exact c
    · rw [← nn_cn, c, hn] at hr; cases hr
  · exact .inr ⟨hM, fr_nanr f (nn_of h hM)⟩
theorem fs_exps (M : Nat) : ∃ c, ∀ a, fsA M a → ∀ w, Calls Try.prog 59 #[.float .f32 a] w (ExV c w) ∧ Calls Try.prog 64 #[.float .f32 a] w (ExV c w) := by
  by_cases hM : Nng M
  · obtain ⟨c, hc⟩ := exps_agree (Op.negFloat .f32 (fop .mul .f32 1073741824 M)) (Nng_neg (mul_two hM).1)
    refine ⟨c, fun a ha w => ?_⟩
    rcases ha with ⟨_, rfl⟩ | ⟨h, _⟩
    · exact hc w
    · rw [Nng_num hM] at h; cases h
  · refine ⟨2143289344, fun a ha w => ?_⟩
    rcases ha with ⟨h, _⟩ | ⟨_, h⟩
    · exact absurd h hM
    · exact exps_nan a h w
def fsV (c M : Nat) : Nat := fop .quo .f32 (fop .quo .f32 (fop .sub .f32 1065353216 c) (fop .add .f32 1065353216 c)) M
theorem fsV_of {c M l m r0 r1 r2 r3 : Nat} (hc : cn .f32 l = c) (hm : cn .f32 m = M) (f0 : FR .sub .f32 1065353216 l r0) (f1 : FR .add .f32 1065353216 l r1) (f2 : FR .quo .f32 r0 r1 r2) (f3 : FR .quo .f32 r2 m r3) : cn .f32 r3 = fsV c M := by
  unfold fsV
  simp only [f3.1, f2.1, f1.1, f0.1, hc, hm, fopl']
def fsG (l e t a : Nat) : Bool := pos l && pos e && pos t && pos a
theorem fsG_impl (l e t a : Nat) : fsG l e t a = [l, e, t, a].all pos := by
  unfold fsG
  simp only [List.all_cons, List.all_nil, Bool.and_true, Bool.and_assoc]
theorem fsG_l {l e t a : Nat} (h : fsG l e t a = true) : pos l = true := by
  unfold fsG at h
  simp only [Bool.and_eq_true] at h
  exact h.1.1.1

set_option maxHeartbeats 1600000 in
theorem specFs_any (l e t a c : Nat) (w : World) (hc : ∀ x, fsA (fsM l e t a) x → ∀ w, Calls Try.prog 59 #[.float .f32 x] w (ExV c w)) : Calls Try.prog 21 #[.float .f32 l, .float .f32 e, .float .f32 t, .float .f32 a] w (GivB (cS (fsG l e t a) (fsV c (fsM l e t a))) (cB (fsG l e t a) (fsV c (fsM l e t a))) w) := by
  have HE := Lib.hid hc
  have FN := Lib.hid (fun (e1 : fsG l e t a = false) w1 (hb : Below w.heap.size w w1) => cGiv_no (V := fsV c (fsM l e t a)) e1 hb)
  have FY := Lib.hid (fun (e1 : fsG l e t a = true) s w1 (hx : cn .f32 s = fsV c (fsM l e t a)) (hb : Below w.heap.size w w1) => cGiv_yes e1 hx hb)
  have GE := Lib.hid (show fsG l e t a = (pos l && pos e && pos t && pos a) from rfl)
  have SG := Lib.hid (fun (h : fsG l e t a = true) => fsM_sg (e := e) (t := t) (a := a) (fsG_l h))
  have MO := Lib.hid (fun r0 r1 r2 s m f0 f1 f2 hs f3 => @fsM_of l e t a r0 r1 r2 s m f0 f1 f2 hs f3)
  generalize fsM l e t a = M at *
  generalize cS (fsG l e t a) (fsV c M) = S at *
  generalize cB (fsG l e t a) (fsV c M) = O at *
  generalize fsG l e t a = Q at *
  have Bw := Lib.hid (Below.refl w.heap.size w)
  clear hc
  cases B0 : pos l
  · skip
    have E := Lib.hid (FN.out (GE.out.trans (by rw [B0]; simp : _ = false)))
    have H0 := Lib.hid B0
    clear B0 FN FY GE SG HE MO
    go_enter Try.func21, Try.ntmps21
    go_wp2_with fail
    refine (specAbove_any l _).mono ?_
    rw [H0.out]
    rintro e w' ⟨rfl, n0, rfl⟩
    have Bw := Lib.hid (below_drewN Bw.out n0)
    go_wp2
    go_ret2
    exact E.out _ (by repeat (first | (with_reducible exact Bw.out) | (with_reducible exact Bp.out) | (with_reducible refine below_drewN ?_ _) | (with_reducible exact Below.refl _ _)))
  · skip
    cases B1 : pos e
    · skip
      have E := Lib.hid (FN.out (GE.out.trans (by rw [B1]; simp : _ = false)))
      have H0 := Lib.hid B0
      have H1 := Lib.hid B1
      clear B0 B1 FN FY GE SG HE MO
      go_enter Try.func21, Try.ntmps21
      go_wp2_with fail
      refine (specAbove_any l _).mono ?_
      rw [H0.out]
      rintro e w' ⟨rfl, n0, rfl⟩
      have Bw := Lib.hid (below_drewN Bw.out n0)
      go_wp2_with fail
      refine (specAbove_any e _).mono ?_
      rw [H1.out]
      rintro e w' ⟨rfl, n1, rfl⟩
      have Bw := Lib.hid (below_drewN Bw.out n1)
      go_wp2
      go_ret2
      exact E.out _ (by repeat (first | (with_reducible exact Bw.out) | (with_reducible exact Bp.out) | (with_reducible refine below_drewN ?_ _) | (with_reducible exact Below.refl _ _)))
    · skip
      cases B2 : pos t
      · skip
        have E := Lib.hid (FN.out (GE.out.trans (by rw [B2]; simp : _ = false)))
        have H0 := Lib.hid B0
        have H1 := Lib.hid B1
        have H2 := Lib.hid B2
        clear B0 B1 B2 FN FY GE SG HE MO
        go_enter Try.func21, Try.ntmps21
        go_wp2_with fail
        refine (specAbove_any l _).mono ?_
        rw [H0.out]
        rintro e w' ⟨rfl, n0, rfl⟩
        have Bw := Lib.hid (below_drewN Bw.out n0)
        go_wp2_with fail
        refine (specAbove_any e _).mono ?_
        rw [H1.out]
        rintro e w' ⟨rfl, n1, rfl⟩
        have Bw := Lib.hid (below_drewN Bw.out n1)
        go_wp2_with fail
        refine (specAbove_any t _).mono ?_
        rw [H2.out]
        rintro e w' ⟨rfl, n2, rfl⟩
        have Bw := Lib.hid (below_drewN Bw.out n2)
        go_wp2
        go_ret2
        exact E.out _ (by repeat (first | (with_reducible exact Bw.out) | (with_reducible exact Bp.out) | (with_reducible refine below_drewN ?_ _) | (with_reducible exact Below.refl _ _)))
      · skip
        cases B3 : pos a
        · skip
          have E := Lib.hid (FN.out (GE.out.trans (by rw [B3]; simp : _ = false)))
          have H0 := Lib.hid B0
          have H1 := Lib.hid B1
          have H2 := Lib.hid B2
          have H3 := Lib.hid B3
          clear B0 B1 B2 B3 FN FY GE SG HE MO
          go_enter Try.func21, Try.ntmps21
          go_wp2_with fail
          refine (specAbove_any l _).mono ?_
          rw [H0.out]
          rintro e w' ⟨rfl, n0, rfl⟩
          have Bw := Lib.hid (below_drewN Bw.out n0)
          go_wp2_with fail
          refine (specAbove_any e _).mono ?_
          rw [H1.out]
          rintro e w' ⟨rfl, n1, rfl⟩
          have Bw := Lib.hid (below_drewN Bw.out n1)
          go_wp2_with fail
          refine (specAbove_any t _).mono ?_
          rw [H2.out]
          rintro e w' ⟨rfl, n2, rfl⟩
          have Bw := Lib.hid (below_drewN Bw.out n2)
          go_wp2_with fail
          refine (specAbove_any a _).mono ?_
          rw [H3.out]
          rintro e w' ⟨rfl, n3, rfl⟩
          have Bw := Lib.hid (below_drewN Bw.out n3)
          go_wp2
          go_ret2
          exact E.out _ (by repeat (first | (with_reducible exact Bw.out) | (with_reducible exact Bp.out) | (with_reducible refine below_drewN ?_ _) | (with_reducible exact Below.refl _ _)))
        · skip
          have GT := Lib.hid (GE.out.trans (by rw [B0, B1, B2, B3]; rfl : _ = true))
          have E := Lib.hid (FY.out GT.out)
          have SGN := Lib.hid (SG.out GT.out)
          clear GT
          have H0 := Lib.hid B0
          have H1 := Lib.hid B1
          have H2 := Lib.hid B2
          have H3 := Lib.hid B3
          clear B0 B1 B2 B3 FN FY GE SG
          go_enter Try.func21, Try.ntmps21
          go_wp2_with fail
          refine (specAbove_any l _).mono ?_
          rw [H0.out]
          rintro e w' ⟨rfl, n0, rfl⟩
          have Bw := Lib.hid (below_drewN Bw.out n0)
          go_wp2_with fail
          refine (specAbove_any e _).mono ?_
          rw [H1.out]
          rintro e w' ⟨rfl, n1, rfl⟩
          have Bw := Lib.hid (below_drewN Bw.out n1)
          go_wp2_with fail
          refine (specAbove_any t _).mono ?_
          rw [H2.out]
          rintro e w' ⟨rfl, n2, rfl⟩
          have Bw := Lib.hid (below_drewN Bw.out n2)
          go_wp2_with fail
          refine (specAbove_any a _).mono ?_
          rw [H3.out]
          rintro e w' ⟨rfl, n3, rfl⟩
          have Bw := Lib.hid (below_drewN Bw.out n3)
          go_wp2_with (refine wpList_farith rfl _ _ _ _ _ rfl rfl _ _ _ rfl rfl ?_; intro r0 j0 g0; have f0 := Lib.hid g0; clear g0; refine Stop.go ?_)
          refine Stop.mk ?_
          go_wp2_with (refine wpList_farith rfl _ _ _ _ _ rfl rfl _ _ _ rfl rfl ?_; intro r1 j1 g1; have f1 := Lib.hid g1; clear g1; refine Stop.go ?_)
          refine Stop.mk ?_
          go_wp2_with (refine wpList_farith rfl _ _ _ _ _ rfl rfl _ _ _ rfl rfl ?_; intro r2 j2 g2; have f2 := Lib.hid g2; clear g2; refine Stop.go ?_)
          refine Stop.mk ?_
          go_wp2_with fail
          refine (specRoot_any _ _).mono ?_
          rintro e w' ⟨s, nr, hs, _, rfl, rfl⟩
          have RS := Lib.hid hs
          clear hs
          go_wp2_with (refine wpList_farith rfl _ _ _ _ _ rfl rfl _ _ _ rfl rfl ?_; intro r3 j3 g3; have f3 := Lib.hid g3; clear g3; refine Stop.go ?_)
          refine Stop.mk ?_
          have MM := Lib.hid (MO.out _ _ _ _ _ f0.out f1.out f2.out RS.out f3.out)
          clear f0 f1 f2 f3 MO
          go_wp2_with (refine wpList_farith rfl _ _ _ _ _ rfl rfl _ _ _ rfl rfl ?_; intro r4 j4 g4; have f4 := Lib.hid g4; clear g4; refine Stop.go ?_)
          refine Stop.mk ?_
          have HEa := Lib.hid (HE.out _ (fsA_spec SGN.out MM.out f4.out))
          clear f4 HE SGN
          go_wp2_with fail
          refine (HEa.out _).mono ?_
          rintro e w' ⟨l, nl, hl, rfl, rfl⟩
          have L := Lib.hid hl
          clear hl HEa
          go_wp2_with (refine wpList_farith rfl _ _ _ _ _ rfl rfl _ _ _ rfl rfl ?_; intro r5 j5 g5; have f5 := Lib.hid g5; clear g5; refine Stop.go ?_)
          refine Stop.mk ?_
          go_wp2_with (refine wpList_farith rfl _ _ _ _ _ rfl rfl _ _ _ rfl rfl ?_; intro r6 j6 g6; have f6 := Lib.hid g6; clear g6; refine Stop.go ?_)
          refine Stop.mk ?_
          go_wp2_with (refine wpList_farith rfl _ _ _ _ _ rfl rfl _ _ _ rfl rfl ?_; intro r7 j7 g7; have f7 := Lib.hid g7; clear g7; refine Stop.go ?_)
          refine Stop.mk ?_
          go_wp2_with (refine wpList_farith rfl _ _ _ _ _ rfl rfl _ _ _ rfl rfl ?_; intro r8 j8 g8; have f8 := Lib.hid g8; clear g8; refine Stop.go ?_)
          refine Stop.mk ?_
          have V := Lib.hid (fsV_of L.out MM.out f5.out f6.out f7.out f8.out)
          clear f5 f6 f7 f8
          go_wp2_with fail
          (first | refine (specNum_any _ _).mono ?_ | (go_at_call 60; refine (specNum_any _ _).mono ?_))
          rintro e w' ⟨rfl, n9, rfl⟩
          go_wp2
          go_ret2
          exact E.out _ _ V.out (by repeat (first | (with_reducible exact Bw.out) | (with_reducible exact Bp.out) | (with_reducible refine below_drewN ?_ _) | (with_reducible exact Below.refl _ _)))

set_option maxHeartbeats 1600000 in
theorem implFs_any (l e t a c : Nat) (w : World) (hc : ∀ x, fsA (fsM l e t a) x → ∀ w, Calls Try.prog 64 #[.float .f32 x] w (ExV c w)) : Calls Try.prog 22 #[.float .f32 l, .float .f32 e, .float .f32 t, .float .f32 a] w (GivB (cS (fsG l e t a) (fsV c (fsM l e t a))) (cB (fsG l e t a) (fsV c (fsM l e t a))) w) := by
  have HE := Lib.hid hc
  have FN := Lib.hid (fun (e1 : fsG l e t a = false) w1 (hb : Below w.heap.size w w1) => cGiv_no (V := fsV c (fsM l e t a)) e1 hb)
  have FY := Lib.hid (fun (e1 : fsG l e t a = true) s w1 (hx : cn .f32 s = fsV c (fsM l e t a)) (hb : Below w.heap.size w w1) => cGiv_yes e1 hx hb)
  have GE := Lib.hid (fsG_impl l e t a)
  have SG := Lib.hid (fun (h : fsG l e t a = true) => fsM_sg (e := e) (t := t) (a := a) (fsG_l h))
  have MO := Lib.hid (fun r0 r1 r2 s m f0 f1 f2 hs f3 => @fsM_of l e t a r0 r1 r2 s m f0 f1 f2 hs f3)
  generalize fsM l e t a = M at *
  generalize cS (fsG l e t a) (fsV c M) = S at *
  generalize cB (fsG l e t a) (fsV c M) = O at *
  generalize fsG l e t a = Q at *
  have Bw := Lib.hid (Below.refl w.heap.size w)
  clear hc
  have HA := Lib.hid (fun w1 => allPos_any _ [l, e, t, a] _ (FRow.of_cells (Cells.made w1 (fl [l, e, t, a]) 23) (by show 4 ≤ maxLen; decide)))
  cases B0 : [l, e, t, a].all pos
  · skip
    have E := Lib.hid (FN.out (GE.out.trans (by rw [B0] : _ = false)))
    have H0 := Lib.hid B0
    clear B0 FN FY GE SG HE MO
    go_enter Try.func22, Try.ntmps22
    go_wp2_with fail
    refine (HA.out _).mono ?_
    rw [H0.out]
    rintro e w1 ⟨rfl, hb⟩
    have Bw := Lib.hid (below_unal hb)
    have Bp := Lib.hid Bw.out
    clear hb
    go_wp2
    go_ret2
    exact E.out _ (by repeat (first | (with_reducible exact Bw.out) | (with_reducible exact Bp.out) | (with_reducible refine below_drewN ?_ _) | (with_reducible exact Below.refl _ _)))
  · skip
    have GT := Lib.hid (GE.out.trans (by rw [B0] : _ = true))
    have E := Lib.hid (FY.out GT.out)
    have SGN := Lib.hid (SG.out GT.out)
    clear GT
    have H0 := Lib.hid B0
    clear B0 FN FY GE SG
    go_enter Try.func22, Try.ntmps22
    go_wp2_with fail
    refine (HA.out _).mono ?_
    rw [H0.out]
    rintro e w1 ⟨rfl, hb⟩
    have Bw := Lib.hid (below_unal hb)
    have Bp := Lib.hid Bw.out
    clear hb
    go_wp2_with (refine wpList_farith rfl _ _ _ _ _ rfl rfl _ _ _ rfl rfl ?_; intro r0 j0 g0; have f0 := Lib.hid g0; clear g0; refine Stop.go ?_)
    refine Stop.mk ?_
    go_wp2_with (refine wpList_farith rfl _ _ _ _ _ rfl rfl _ _ _ rfl rfl ?_; intro r1 j1 g1; have f1 := Lib.hid g1; clear g1; refine Stop.go ?_)
    refine Stop.mk ?_
    go_wp2_with (refine wpList_farith rfl _ _ _ _ _ rfl rfl _ _ _ rfl rfl ?_; intro r2 j2 g2; have f2 := Lib.hid g2; clear g2; refine Stop.go ?_)
    refine Stop.mk ?_
    go_wp2_with fail
    refine (implRoot_any _ _).mono ?_
    rintro e w' ⟨s, nr, hs, _, rfl, rfl⟩
    have RS := Lib.hid hs
    clear hs
    go_wp2_with (refine wpList_farith rfl _ _ _ _ _ rfl rfl _ _ _ rfl rfl ?_; intro r3 j3 g3; have f3 := Lib.hid g3; clear g3; refine Stop.go ?_)
    refine Stop.mk ?_
    have MM := Lib.hid (MO.out _ _ _ _ _ f0.out f1.out f2.out RS.out f3.out)
    clear f0 f1 f2 f3 MO
    go_wp2_with (refine wpList_farith rfl _ _ _ _ _ rfl rfl _ _ _ rfl rfl ?_; intro r4 j4 g4; have f4 := Lib.hid g4; clear g4; refine Stop.go ?_)
    refine Stop.mk ?_
    have HEa := Lib.hid (HE.out _ (fsA_impl SGN.out MM.out f4.out))
    clear f4 HE SGN
    go_wp2_with fail
    refine (HEa.out _).mono ?_
    rintro e w' ⟨l, nl, hl, rfl, rfl⟩
    have L := Lib.hid hl
    clear hl HEa
    go_wp2_with (refine wpList_farith rfl _ _ _ _ _ rfl rfl _ _ _ rfl rfl ?_; intro r5 j5 g5; have f5 := Lib.hid g5; clear g5; refine Stop.go ?_)
    refine Stop.mk ?_
    go_wp2_with (refine wpList_farith rfl _ _ _ _ _ rfl rfl _ _ _ rfl rfl ?_; intro r6 j6 g6; have f6 := Lib.hid g6; clear g6; refine Stop.go ?_)
    refine Stop.mk ?_
    go_wp2_with (refine wpList_farith rfl _ _ _ _ _ rfl rfl _ _ _ rfl rfl ?_; intro r7 j7 g7; have f7 := Lib.hid g7; clear g7; refine Stop.go ?_)
    refine Stop.mk ?_
    go_wp2_with (refine wpList_farith rfl _ _ _ _ _ rfl rfl _ _ _ rfl rfl ?_; intro r8 j8 g8; have f8 := Lib.hid g8; clear g8; refine Stop.go ?_)
    refine Stop.mk ?_
    have V := Lib.hid (fsV_of L.out MM.out f5.out f6.out f7.out f8.out)
    clear f5 f6 f7 f8
    go_wp2_with fail
    (first | refine (implNum_any _ _).mono ?_ | (go_at_call 65; refine (implNum_any _ _).mono ?_))
    rintro e w' ⟨rfl, n9, rfl⟩
    go_wp2
    go_ret2
    exact E.out _ _ V.out (by repeat (first | (with_reducible exact Bw.out) | (with_reducible exact Bp.out) | (with_reducible refine below_drewN ?_ _) | (with_reducible exact Below.refl _ _)))

set_option maxRecDepth 20000 in
set_option maxHeartbeats 1600000 in
theorem fnExactFinShare_walk (l : Nat) (e : Nat) (t : Nat) (a : Nat) (w : World) (wf0 : (Lit.float .f32 l).wf = true) (wf1 : (Lit.float .f32 e).wf = true) (wf2 : (Lit.float .f32 t).wf = true) (wf3 : (Lit.float .f32 a).wf = true) : Calls Try.prog 5 #[.float .f32 l, .float .f32 e, .float .f32 t, .float .f32 a] w (Tru w) := by
  obtain ⟨c, hs⟩ := fs_exps (fsM l e t a)
  have HS := Lib.hid hs
  clear hs
  clear wf0
  clear wf1
  clear wf2
  clear wf3
  have Bw := Lib.hid (Below.refl w.heap.size w)
  go_enter Try.func5, Try.ntmps5
  go_wp2_with fail
  refine (specFs_any l e t a c _ (fun x h w => (HS.out x h w).1)).mono ?_
  rintro _ w1 ⟨r1, hr, rfl, hb⟩
  have Bw := Lib.hid (below_step Bw.out (by first | exact hb | exact below_undrew hb))
  clear hb
  have R1 := Lib.hid hr
  clear hr
  go_wp2_with fail
  refine (implFs_any l e t a c _ (fun x h w => (HS.out x h w).2)).mono ?_
  rintro _ w2 ⟨r2, hr, rfl, hb⟩
  have Bw := Lib.hid (below_step Bw.out (by first | exact hb | exact below_undrew hb))
  clear hb
  have R2 := Lib.hid hr
  clear hr
  go_wp2_with (first | (refine wpList_up rfl Try.underlying23 Try.underlying33 _ rfl _ rfl ?_; intro _ _ _) | (refine upon_up Try.underlying23 Try.underlying33 _ ?_; intro _ _ _; simp only [Result.andThen_ok]) | (go_at_call 23; refine (same_end (a := r2) (b := r1) _ (by assumption) (by assumption) (R2.out.trans R1.out.symm)).mono ?_; rintro e w' ⟨rfl, n, rfl⟩))
  skip
  go_ret
  exact Tru.below (by repeat (first | (with_reducible exact Bw.out) | (with_reducible refine below_drewN ?_ _) | (with_reducible exact Below.refl _ _)))


end Go.Proofs.Ytabdinmodopadab
