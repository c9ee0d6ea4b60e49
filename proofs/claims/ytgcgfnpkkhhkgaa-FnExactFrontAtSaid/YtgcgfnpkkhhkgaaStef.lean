/- How fast a front goes; the error function handed back: both sides, and the laws' walks. -/
import Derived.Test.YtgcgfnpkkhhkgaaExpW
import Derived.Test.YtgcgfnpkkhhkgaaGiv2
namespace Go.Proofs.Ytgcgfnpkkhhkgaa
open Go Go.RowKit
set_option linter.unusedVariables false

def midF (a b : Nat) : Nat := fop .quo .f64 (fop .add .f64 a b) 4611686018427387904
def prdF (m : Nat) : Nat := fop .mul .f64 (fop .mul .f64 (fop .mul .f64 4610661241675116395 m) (expF (fop .mul .f64 m m))) (errF m)
def over (size m : Nat) : Bool := FloatKind.f64.format.order (prdF m) size == some .gt
/-- the two bounds behind k halvings -/
def itS (size : Nat) : Nat → Nat × Nat
  | 0 => (0, 4613937818241073152)
  | k + 1 => if over size (midF (itS size k).1 (itS size k).2) then ((itS size k).1, midF (itS size k).1 (itS size k).2) else (midF (itS size k).1 (itS size k).2, (itS size k).2)

theorem two_low : lowB 1 4611686018427387904 = true := by decide +kernel
theorem mid_Bl2 {a b : Nat} (ha : Bl 2 a) (hb : Bl 2 b) : Bl 2 (midF a b) := by
  obtain ⟨n, j, hr, hn, hl⟩ := low_of two_low
  exact (quo_Bl' (add_Bl ha hb (by omega) (by omega)) hr hn hl (by omega) (by omega)).mono (by omega)
theorem itS_Bl (size : Nat) : ∀ k, Bl 2 (itS size k).1 ∧ Bl 2 (itS size k).2
  | 0 => ⟨(Bl_of_B (show leB 2 0 = true by decide +kernel)), (Bl_of_B (show leB 2 4613937818241073152 = true by decide +kernel))⟩
  | k + 1 => by
    obtain ⟨h1, h2⟩ := itS_Bl size k
    have hm := mid_Bl2 h1 h2
    unfold itS
    split
    · exact ⟨h1, hm⟩
    · exact ⟨hm, h2⟩
theorem it_up {size k lo hi m : Nat} (h : (lo, hi) = itS size k) (hm : m = midF lo hi) (ho : over size m = true) : (lo, m) = itS size (k + 1) := by
  subst hm
  unfold itS
  rw [← h]
  simp only [ho, if_true]
theorem it_dn {size k lo hi m : Nat} (h : (lo, hi) = itS size k) (hm : m = midF lo hi) (ho : over size m = false) : (m, hi) = itS size (k + 1) := by
  subst hm
  unfold itS
  rw [← h]
  simp only [ho, Bool.false_eq_true, if_false]
theorem it_lo {size k lo hi : Nat} (h : (lo, hi) = itS size k) : Bl 2 lo ∧ Bl 2 hi := by
  have := itS_Bl size k
  rw [← h] at this
  exact this
theorem Bl_cn {K : Int} {x : Nat} (h : Bl K x) : cn .f64 x = x := cn_of_num (Bl_num h)
/-- the middle that the code reckons -/
theorem mid_val {lo hi s m : Nat} (hl : Bl 2 lo) (hh : Bl 2 hi) (h1 : FR .add .f64 lo hi s) (h2 : FR .quo .f64 s 4611686018427387904 m) : m = midF lo hi := by
  have e : cn .f64 m = midF lo hi := by
    rw [h2.1, h1.1]; simp only [fop_cnl, fop_cnr]; rfl
  have hb := mid_Bl2 hl hh
  have hn : nn .f64 m = false := by rw [← nn_cn, e]; exact Bl_num hb
  rw [cn_of_num hn] at e
  exact e
theorem prd_val {m q r1 r2 r3 e t : Nat} (h1 : FR .mul .f64 4610661241675116395 m r1) (h2 : FR .mul .f64 m m q) (he : cn .f64 e = expF q) (h3 : FR .mul .f64 r1 e r2) (ht : cn .f64 t = errF m) (h4 : FR .mul .f64 r2 t r3) (hm : Bl 2 m) : cn .f64 r3 = prdF m := by
  have hq : q = fop .mul .f64 m m := by
    have e1 : cn .f64 q = fop .mul .f64 m m := by rw [h2.1]; simp only [fop_cnl, fop_cnr]
    have hn : nn .f64 q = false := by rw [← nn_cn, e1]; exact Bl_num (mul_Bl hm hm (by omega) (by omega))
    rw [cn_of_num hn] at e1
    exact e1
  rw [h4.1, h3.1, h1.1, he, ht, hq]
  simp only [fop_cnl, fop_cnr]
  rfl
theorem sq_num {m q : Nat} (hm : Bl 2 m) (h2 : FR .mul .f64 m m q) : nn .f64 q = false := by
  rw [← nn_cn, h2.1]
  simp only [fop_cnl, fop_cnr]
  exact Bl_num (mul_Bl hm hm (by omega) (by omega))
theorem over_val {size r m p : Nat} (hp : cn .f64 p = prdF m) (hs : cn .f64 r = size) : (FloatKind.f64.format.order p r == some .gt) = over size m := by
  unfold over
  rw [← order_cn, hp, hs]

set_option maxRecDepth 20000 in
set_option maxHeartbeats 1000000 in
theorem specRootF_any (r size : Nat) (w : World) (hs : cn .f64 r = size) : Calls Try.prog 63 #[.float .f64 r] w (Flw (fun t => t = (itS size 50).1) w) := by
  have HS := Lib.hid hs
  clear hs
  go_enter Try.func63, Try.ntmps63
  go_wp2
  go_loopw [3, 4, 5] (fun a b k wr => ∃ j lo hi n : Nat, j ≤ 50 ∧ k = .int .i64 (j : Int) ∧ a = .float .f64 lo ∧ b = .float .f64 hi ∧ wr = w.drewN n ∧ Hid ((lo, hi) = itS size j)) (fun _ _ k _ => (50 - intOf k).toNat)
  case atStart => first | exact ⟨0, 0, 4613937818241073152, _, by omega, rfl, rfl, rfl, rfl, Lib.hid rfl⟩ | exact ⟨0, 0, 4613937818241073152, 0, by omega, rfl, rfl, rfl, rfl, Lib.hid rfl⟩
  case round =>
    obtain ⟨j, lo, hi, n, hj, rfl, rfl, rfl, rfl, hc⟩ := hrel
    have HB := Lib.hid (it_lo hc.out)
    by_cases hk : j < 50
    · go_wp2_with (first | (refine wpList_farith rfl .add _ _ _ _ rfl rfl .f64 lo hi rfl rfl ?_; intro s0 j1 f1) | (refine wpList_farith rfl .quo _ _ _ _ rfl rfl .f64 s0 4611686018427387904 rfl rfl ?_; intro m j2 f2; have hm := mid_val HB.out.1 HB.out.2 f1 f2; have M := Lib.hid hm; have MB := Lib.hid (show Bl 2 m by rw [hm]; exact mid_Bl2 HB.out.1 HB.out.2); clear hm) | (refine wpList_farith rfl .mul _ _ _ _ rfl rfl .f64 4610661241675116395 m rfl rfl ?_; intro r1 j3 f3) | (refine wpList_farith rfl .mul _ _ _ _ rfl rfl .f64 m m rfl rfl ?_; intro q j4 f4) | (go_at_call 72; refine (specExp_any q _ (sq_num MB.out f4)).mono ?_; rintro _ _ ⟨e, n2, he, rfl, rfl⟩; have HE := Lib.hid he; clear he) | (refine wpList_farith rfl .mul _ _ _ _ rfl rfl .f64 r1 e rfl rfl ?_; intro r2 j5 f5) | (go_at_call 59; refine (specErr_any m _ (Bl_num MB.out)).mono ?_; rintro _ _ ⟨t, n3, ht, rfl, rfl⟩; have HT := Lib.hid ht; clear ht) | (refine wpList_farith rfl .mul _ _ _ _ rfl rfl .f64 r2 t rfl rfl ?_; intro p j6 f6; have OV := Lib.hid (fun (z size : Nat) (hz : cn .f64 z = size) => over_val (m := m) (prd_val f3 f4 HE.out f5 HT.out f6 MB.out) hz)))
      · rename_i hgt
        have HG := Lib.hid hgt
        clear hgt
        go_roundw
        case rel => exact ⟨j + 1, lo, m, _, by omega, by go_num, rfl, rfl, rfl, Lib.hid (it_up hc.out M.out ((OV.out r size HS.out).symm.trans HG.out))⟩
        case measure => simp [intOf]; omega
      · rename_i hgt
        have HG := Lib.hid hgt
        clear hgt
        go_roundw
        case rel => exact ⟨j + 1, m, hi, _, by omega, by go_num, rfl, rfl, rfl, Lib.hid (it_dn hc.out M.out ((OV.out r size HS.out).symm.trans HG.out))⟩
        case measure => simp [intOf]; omega
    · have e50 := Lib.hid (show j = 50 by omega)
      go_wp2
      go_ret
      exact ⟨lo, _, by rw [← e50.out, ← hc.out], rfl, rfl⟩

def stefS (a : Nat) : Nat := cvd (itS (cvu (cn .f32 a)) 50).1
theorem stef_bd (size : Nat) : Bd 127 (itS size 50).1 := (Bl_Bd (itS_Bl size 50).1).mono (by omega)

theorem specStef_any (a : Nat) (w : World) : Calls Try.prog 37 #[.float .f32 a] w (GivB (bif pos a then stefS a else 0) (pos a) w) := by
  cases B : pos a
  · have HB := Lib.hid B
    clear B
    go_enter Try.func37, Try.ntmps37
    go_wp2_with fail
    refine (specAbove_any _ _).mono ?_
    rw [HB.out]
    rintro e w' ⟨rfl, n, rfl⟩
    go_wp2
    go_ret2
    exact GivB.no (by repeat (first | exact Below.refl _ _ | refine Below.setCell ?_ (by first | exact Nat.le_refl _ | (simp; done) | (simp; omega) | omega) _ | refine below_drewN ?_ _ | refine Below.alloc ?_ (by first | exact Nat.le_refl _ | (simp; done) | (simp; omega) | omega) _))
  · have HB := Lib.hid B
    clear B
    have F : Hid (fin .f32 (stefS a) = true) := Lib.hid (cvd_fin (stef_bd (cvu (cn .f32 a))))
    have HS2 : Hid (∀ x t : Nat, t = (itS (cvu (cn .f32 a)) 50).1 → cn .f32 x = cvd t → cn .f32 x = stefS a) := Lib.hid (fun x t h1 h2 => by rw [h2, h1]; rfl)
    generalize stefS a = S at *
    show Calls _ _ _ _ (GivB S true w)
    go_enter Try.func37, Try.ntmps37
    go_wp2_with fail
    refine (specAbove_any _ _).mono ?_
    rw [HB.out]
    rintro e w' ⟨rfl, n, rfl⟩
    go_wp2_with (first | (refine wpList_up rfl Try.underlying38 Try.underlying42 _ rfl _ rfl ?_; intro rr j7 f7; have UPS := Lib.hid f7.1) | (go_at_call 63; refine (specRootF_any rr _ _ UPS.out).mono ?_; rintro _ _ ⟨t, n2, ht, rfl, rfl⟩; have HT := Lib.hid ht; clear ht) | (go_at_call 58; refine (specNarrow_any t _ (by rw [HT.out]; exact stef_bd _)).mono ?_; rintro _ _ ⟨x, n3, hx, _, rfl, rfl⟩; have HX := Lib.hid (HS2.out x t HT.out hx); clear hx) | (go_at_call 52; refine (specNum_any _ _).mono ?_; rintro e w' ⟨rfl, n4, rfl⟩))
    go_ret2
    exact GivB.ok HX.out F.out (by repeat (first | exact Below.refl _ _ | refine Below.setCell ?_ (by first | exact Nat.le_refl _ | (simp; done) | (simp; omega) | omega) _ | refine below_drewN ?_ _ | refine Below.alloc ?_ (by first | exact Nat.le_refl _ | (simp; done) | (simp; omega) | omega) _))

set_option maxRecDepth 20000 in
set_option maxHeartbeats 4000000 in
theorem implStef_any (a : Nat) (w : World) : Calls Try.prog 38 #[.float .f32 a] w (GivB (bif pos a then stefS a else 0) (pos a) w) := by
  cases B : pos a
  · have HB := Lib.hid B
    clear B
    go_enter Try.func38, Try.ntmps38
    go_wp2_with fail
    refine (implPos_any _ _).mono ?_
    rw [HB.out]
    rintro e w' ⟨rfl, n, rfl⟩
    go_wp2
    go_ret2
    exact GivB.no (by repeat (first | exact Below.refl _ _ | refine Below.setCell ?_ (by first | exact Nat.le_refl _ | (simp; done) | (simp; omega) | omega) _ | refine below_drewN ?_ _ | refine Below.alloc ?_ (by first | exact Nat.le_refl _ | (simp; done) | (simp; omega) | omega) _))
  · have HP := Lib.hid B
    clear B
    generalize hsz : cvu (cn .f32 a) = size
    have HS := Lib.hid hsz
    have STS := Lib.hid (show stefS a = cvd (itS size 50).1 by unfold stefS; rw [hsz])
    clear hsz
    generalize stefS a = S at *
    show Calls _ _ _ _ (GivB S true w)
    go_enter Try.func38, Try.ntmps38
    go_wp2_with fail
    refine (implPos_any _ _).mono ?_
    rw [HP.out]
    rintro e w' ⟨rfl, n, rfl⟩
    go_wp2
    go_loopw [4, 5, 10] (fun a b k wr => ∃ j lo hi n : Nat, j ≤ 50 ∧ k = .int .i64 (j : Int) ∧ a = .float .f64 lo ∧ b = .float .f64 hi ∧ wr = w.drewN n ∧ Hid ((lo, hi) = itS size j)) (fun _ _ k _ => (50 - intOf k).toNat)
    case atStart => first | exact ⟨0, 0, 4613937818241073152, _, by omega, rfl, rfl, rfl, rfl, Lib.hid rfl⟩ | exact ⟨0, 0, 4613937818241073152, 0, by omega, rfl, rfl, rfl, rfl, Lib.hid rfl⟩
    case round =>
      obtain ⟨j, lo, hi, n, hj, rfl, rfl, rfl, rfl, hc⟩ := hrel
      have HB := Lib.hid (it_lo hc.out)
      by_cases hk : j < 50
      · go_wp2_with (first | (refine wpList_farith rfl .add _ _ _ _ rfl rfl .f64 lo hi rfl rfl ?_; intro s0 j1 f1) | (refine wpList_farith rfl .quo _ _ _ _ rfl rfl .f64 s0 4611686018427387904 rfl rfl ?_; intro m j2 f2; have hm := mid_val HB.out.1 HB.out.2 f1 f2; have M := Lib.hid hm; have MB := Lib.hid (show Bl 2 m by rw [hm]; exact mid_Bl2 HB.out.1 HB.out.2); clear hm) | (refine wpList_farith rfl .mul _ _ _ _ rfl rfl .f64 4610661241675116395 m rfl rfl ?_; intro r1 j3 f3) | (refine wpList_farith rfl .mul _ _ _ _ rfl rfl .f64 m m rfl rfl ?_; intro q j4 f4) | (go_at_call 65; refine (implExp_any q _ (sq_num MB.out f4)).mono ?_; rintro _ _ ⟨e, n2, he, rfl, rfl⟩; have HE := Lib.hid he; clear he) | (refine wpList_farith rfl .mul _ _ _ _ rfl rfl .f64 r1 e rfl rfl ?_; intro r2 j5 f5) | (go_at_call 61; refine (implErr_any m _ (Bl_num MB.out)).mono ?_; rintro _ _ ⟨t, n3, ht, rfl, rfl⟩; have HT := Lib.hid ht; clear ht) | (refine wpList_farith rfl .mul _ _ _ _ rfl rfl .f64 r2 t rfl rfl ?_; intro p j6 f6; have OV := Lib.hid (fun (z size : Nat) (hz : cn .f64 z = size) => over_val (m := m) (prd_val f3 f4 HE.out f5 HT.out f6 MB.out) hz)) | (refine wpList_up rfl Try.underlying38 Try.underlying42 _ rfl _ rfl ?_; intro rr j7 f7; have UPS := Lib.hid f7.1))
        · rename_i hgt
          have HG := Lib.hid hgt
          clear hgt
          go_roundw
          case rel => exact ⟨j + 1, lo, m, _, by omega, by go_num, rfl, rfl, rfl, Lib.hid (it_up hc.out M.out ((OV.out rr size (UPS.out.trans HS.out)).symm.trans HG.out))⟩
          case measure => simp [intOf]; omega
        · rename_i hgt
          have HG := Lib.hid hgt
          clear hgt
          go_roundw
          case rel => exact ⟨j + 1, m, hi, _, by omega, by go_num, rfl, rfl, rfl, Lib.hid (it_dn hc.out M.out ((OV.out rr size (UPS.out.trans HS.out)).symm.trans HG.out))⟩
          case measure => simp [intOf]; omega
      · have e50 := Lib.hid (show j = 50 by omega)
        go_wp2_with (go_at_call 60; refine (implNarrow_any lo _ ((Bl_Bd HB.out.1).mono (by omega))).mono ?_; rintro _ _ ⟨x, n3, hx, _, rfl, rfl⟩; have HX := Lib.hid hx; clear hx)
        go_ret2
        exact GivB.yes (by rw [HX.out, STS.out, ← e50.out, ← hc.out]) (by repeat (first | exact Below.refl _ _ | refine Below.setCell ?_ (by first | exact Nat.le_refl _ | (simp; done) | (simp; omega) | omega) _ | refine below_drewN ?_ _ | refine Below.alloc ?_ (by first | exact Nat.le_refl _ | (simp; done) | (simp; omega) | omega) _))

set_option maxRecDepth 20000 in
theorem fnExactStefanRoot_walk (a : Nat) (w : World) (_ : (Lit.float .f32 a).wf = true) : Calls Try.prog 12 #[.float .f32 a] w (Tru w) := by
  go_enter Try.func12, Try.ntmps12
  go_wp2_with fail
  refine (specStef_any a _).mono ?_
  rintro _ w1 ⟨r1, hr1, rfl, hb⟩
  have Bw := Lib.hid hb
  have R1 := Lib.hid hr1
  clear hb hr1
  go_wp2_with fail
  refine (implStef_any a _).mono ?_
  rintro _ w2 ⟨r2, hr2, rfl, hb⟩
  have Bw := Lib.hid (below_step Bw.out hb)
  have R2 := Lib.hid hr2
  clear hb hr2
  go_wp2_with (first | (refine wpList_up rfl Try.underlying38 Try.underlying42 _ rfl _ rfl ?_; intro _ _ _) | (go_at_call 29; refine (same_end (a := r2) (b := r1) _ (by assumption) (by assumption) (R2.out.trans R1.out.symm)).mono ?_; rintro e w' ⟨rfl, n, rfl⟩))
  go_ret
  exact Tru.below (below_drewN Bw.out _)

def errS (a : Nat) : Nat := cvd (errF (cvu a))
theorem fin_num32 {a : Nat} (h : fin .f32 a = true) : nn .f32 a = false := by
  cases hn : nn .f32 a
  · rfl
  · rw [fin_nan hn] at h; cases h
theorem up_nf {a r : Nat} (h : UR a r) (hf : fin .f32 a = true) : r = cvu a ∧ nn .f64 r = false := by
  have hn := fin_num32 hf
  have hr : nn .f64 r = false := by rw [nn_up h]; exact hn
  have e := h.1
  rw [cn_of_num hr, cn_of_num hn] at e
  exact ⟨e, hr⟩
theorem err_bd {r t : Nat} (hn : nn .f64 r = false) (ht : cn .f64 t = errF r) : t = errF r ∧ Bd 127 t := by
  have hb := errF_Bl hn
  have hm : nn .f64 t = false := by rw [← nn_cn, ht]; exact Bl_num hb
  rw [cn_of_num hm] at ht
  exact ⟨ht, by rw [ht]; exact (Bl_Bd hb).mono (by omega)⟩

theorem specErrO_any (a : Nat) (w : World) : Calls Try.prog 35 #[.float .f32 a] w (GivB (bif fin .f32 a then errS a else 0) (fin .f32 a) w) := by
  cases B : fin .f32 a
  · have HB := Lib.hid B
    clear B
    go_enter Try.func35, Try.ntmps35
    go_wp2_with fail
    refine (specFinite_any _ _).mono ?_
    rw [HB.out]
    rintro e w' ⟨rfl, n, rfl⟩
    go_wp2
    go_ret2
    exact GivB.no (by repeat (first | exact Below.refl _ _ | refine Below.setCell ?_ (by first | exact Nat.le_refl _ | (simp; done) | (simp; omega) | omega) _ | refine below_drewN ?_ _ | refine Below.alloc ?_ (by first | exact Nat.le_refl _ | (simp; done) | (simp; omega) | omega) _))
  · have HB := Lib.hid B
    have UF := Lib.hid (fun r (h : UR a r) => up_nf h B)
    clear B
    go_enter Try.func35, Try.ntmps35
    go_wp2_with fail
    refine (specFinite_any _ _).mono ?_
    rw [HB.out]
    rintro e w' ⟨rfl, n, rfl⟩
    go_wp2_with (first | (refine wpList_up rfl Try.underlying38 Try.underlying42 _ rfl _ rfl ?_; intro rr j7 f7; have UPS := Lib.hid (UF.out rr f7)) | (go_at_call 59; refine (specErr_any rr _ UPS.out.2).mono ?_; rintro _ _ ⟨t, n2, ht, rfl, rfl⟩; have HT := Lib.hid (err_bd UPS.out.2 ht); clear ht) | (go_at_call 58; refine (specNarrow_any t _ HT.out.2).mono ?_; rintro _ _ ⟨x, n3, hx, _, rfl, rfl⟩; have HX := Lib.hid (show cn .f32 x = errS a by rw [hx, HT.out.1, UPS.out.1]; rfl); clear hx) | (go_at_call 52; refine (specNum_any _ _).mono ?_; rintro e w' ⟨rfl, n4, rfl⟩))
    go_ret2
    exact GivB.ok HX.out (by have := cvd_fin HT.out.2; rw [HT.out.1, UPS.out.1] at this; exact this) (by repeat (first | exact Below.refl _ _ | refine Below.setCell ?_ (by first | exact Nat.le_refl _ | (simp; done) | (simp; omega) | omega) _ | refine below_drewN ?_ _ | refine Below.alloc ?_ (by first | exact Nat.le_refl _ | (simp; done) | (simp; omega) | omega) _))

theorem implErrO_any (a : Nat) (w : World) : Calls Try.prog 36 #[.float .f32 a] w (GivB (bif fin .f32 a then errS a else 0) (fin .f32 a) w) := by
  cases B : fin .f32 a
  · have HB := Lib.hid B
    clear B
    go_enter Try.func36, Try.ntmps36
    go_wp2_with fail
    refine (implFinite_any _ _).mono ?_
    rw [HB.out]
    rintro e w' ⟨rfl, n, rfl⟩
    go_wp2
    go_ret2
    exact GivB.no (by repeat (first | exact Below.refl _ _ | refine Below.setCell ?_ (by first | exact Nat.le_refl _ | (simp; done) | (simp; omega) | omega) _ | refine below_drewN ?_ _ | refine Below.alloc ?_ (by first | exact Nat.le_refl _ | (simp; done) | (simp; omega) | omega) _))
  · have HB := Lib.hid B
    have UF := Lib.hid (fun r (h : UR a r) => up_nf h B)
    clear B
    go_enter Try.func36, Try.ntmps36
    go_wp2_with fail
    refine (implFinite_any _ _).mono ?_
    rw [HB.out]
    rintro e w' ⟨rfl, n, rfl⟩
    go_wp2_with (first | (refine wpList_up rfl Try.underlying38 Try.underlying42 _ rfl _ rfl ?_; intro rr j7 f7; have UPS := Lib.hid (UF.out rr f7)) | (go_at_call 61; refine (implErr_any rr _ UPS.out.2).mono ?_; rintro _ _ ⟨t, n2, ht, rfl, rfl⟩; have HT := Lib.hid (err_bd UPS.out.2 ht); clear ht) | (go_at_call 60; refine (implNarrow_any t _ HT.out.2).mono ?_; rintro _ _ ⟨x, n3, hx, _, rfl, rfl⟩; have HX := Lib.hid (show cn .f32 x = errS a by rw [hx, HT.out.1, UPS.out.1]; rfl); clear hx))
    go_ret2
    exact GivB.yes HX.out (by repeat (first | exact Below.refl _ _ | refine Below.setCell ?_ (by first | exact Nat.le_refl _ | (simp; done) | (simp; omega) | omega) _ | refine below_drewN ?_ _ | refine Below.alloc ?_ (by first | exact Nat.le_refl _ | (simp; done) | (simp; omega) | omega) _))

set_option maxRecDepth 20000 in
theorem fnExactErrorOf_walk (a : Nat) (w : World) (_ : (Lit.float .f32 a).wf = true) : Calls Try.prog 11 #[.float .f32 a] w (Tru w) := by
  go_enter Try.func11, Try.ntmps11
  go_wp2_with fail
  refine (specErrO_any a _).mono ?_
  rintro _ w1 ⟨r1, hr1, rfl, hb⟩
  have Bw := Lib.hid hb
  have R1 := Lib.hid hr1
  clear hb hr1
  go_wp2_with fail
  refine (implErrO_any a _).mono ?_
  rintro _ w2 ⟨r2, hr2, rfl, hb⟩
  have Bw := Lib.hid (below_step Bw.out hb)
  have R2 := Lib.hid hr2
  clear hb hr2
  go_wp2_with (first | (refine wpList_up rfl Try.underlying38 Try.underlying42 _ rfl _ rfl ?_; intro _ _ _) | (go_at_call 29; refine (same_end (a := r2) (b := r1) _ (by assumption) (by assumption) (R2.out.trans R1.out.symm)).mono ?_; rintro e w' ⟨rfl, n, rfl⟩))
  go_ret
  exact Tru.below (below_drewN Bw.out _)

end Go.Proofs.Ytgcgfnpkkhhkgaa
