/- How warm something becomes: both sides, and the law. -/
import Derived.Test.YtdemahghjgghkaaExpB
import Derived.Test.YtdemahghjgghkaaSg32
import Derived.Test.YtdemahghjgghkaaSnN
import Derived.Test.YtdemahghjgghkaaSnL
namespace Go.Proofs.Ytdemahghjgghkaa
open Go.RowKit
set_option linter.unusedVariables false

def coG (x y r t : Nat) : Bool := fin .f32 x && fin .f32 y && pos r && lst t
def coA (r t : Nat) : Nat := Op.negFloat .f32 (fop .mul .f32 r t)
def coV (x y c : Nat) : Nat := fop .add .f32 y (fop .mul .f32 (fop .sub .f32 x y) c)
theorem coV_of {x y c l r0 r1 r2 : Nat} (hc : cn .f32 l = c) (f0 : FR .sub .f32 x y r0) (f1 : FR .mul .f32 r0 l r1) (f2 : FR .add .f32 y r1 r2) : cn .f32 r2 = coV x y c := by
  unfold coV
  simp only [f2.1, f1.1, f0.1, hc, fopl', fopr']
theorem co_Nng {r t : Nat} (hr : pos r = true) (ht : lst t = true) : Nng (fop .mul .f32 r t) := by
  obtain ⟨a, b, _⟩ := pos_nz hr
  unfold lst at ht
  rw [Bool.and_eq_true] at ht
  exact mul_Nng a b ht.1 ht.2
theorem co_arg {r t p : Nat} (hr : pos r = true) (ht : lst t = true) (f : FR .mul .f32 r t p) : Op.negFloat .f32 p = coA r t := by
  have e : p = fop .mul .f32 r t := Nng_is (co_Nng hr ht) (by rw [f.1]; simp only [fopl', fopr'])
  rw [e]; rfl

set_option maxHeartbeats 1600000 in
theorem specCo_any (x y r t c : Nat) (w : World) (hc : pos r = true → lst t = true → ∀ w, Calls Try.prog 75 #[.float .f32 (coA r t)] w (ExV c w)) : Calls Try.prog 40 #[.float .f32 x, .float .f32 y, .float .f32 r, .float .f32 t] w (GivB (cS (coG x y r t) (coV x y c)) (cB (coG x y r t) (coV x y c)) w) := by
  have HL := Lib.hid hc
  have FN := Lib.hid (fun (e : coG x y r t = false) w1 (hb : Below w.heap.size w w1) => cGiv_no (V := coV x y c) e hb)
  have FY := Lib.hid (fun (e : coG x y r t = true) s w1 (hx : cn .f32 s = coV x y c) (hb : Below w.heap.size w w1) => cGiv_yes e hx hb)
  have GE := Lib.hid (show coG x y r t = (fin .f32 x && fin .f32 y && pos r && lst t) from rfl)
  generalize cS (coG x y r t) (coV x y c) = S at *
  generalize cB (coG x y r t) (coV x y c) = O at *
  generalize coG x y r t = Q at *
  have Bw := Lib.hid (Below.refl w.heap.size w)
  clear hc
  cases B0 : fin .f32 x
  · skip
    have E := Lib.hid (FN.out (GE.out.trans (by rw [B0]; simp : _ = false)))
    have H0 := Lib.hid B0
    clear B0 FN FY GE
    go_enter Try.func40, Try.ntmps40
    go_wp2_with fail
    refine (specFinite_any x _).mono ?_
    rw [H0.out]
    rintro e w' ⟨rfl, n0, rfl⟩
    have Bw := Lib.hid (below_drewN Bw.out n0)
    go_wp2
    go_ret2
    exact E.out _ (by repeat (first | (with_reducible exact Bw.out) | (with_reducible refine below_drewN ?_ _) | (with_reducible exact Below.refl _ _)))
  · skip
    cases B1 : fin .f32 y
    · skip
      have E := Lib.hid (FN.out (GE.out.trans (by rw [B1]; simp : _ = false)))
      have H0 := Lib.hid B0
      have H1 := Lib.hid B1
      clear B0 B1 FN FY GE
      go_enter Try.func40, Try.ntmps40
      go_wp2_with fail
      refine (specFinite_any x _).mono ?_
      rw [H0.out]
      rintro e w' ⟨rfl, n0, rfl⟩
      have Bw := Lib.hid (below_drewN Bw.out n0)
      go_wp2_with fail
      refine (specFinite_any y _).mono ?_
      rw [H1.out]
      rintro e w' ⟨rfl, n1, rfl⟩
      have Bw := Lib.hid (below_drewN Bw.out n1)
      go_wp2
      go_ret2
      exact E.out _ (by repeat (first | (with_reducible exact Bw.out) | (with_reducible refine below_drewN ?_ _) | (with_reducible exact Below.refl _ _)))
    · skip
      cases B2 : pos r
      · skip
        have E := Lib.hid (FN.out (GE.out.trans (by rw [B2]; simp : _ = false)))
        have H0 := Lib.hid B0
        have H1 := Lib.hid B1
        have H2 := Lib.hid B2
        clear B0 B1 B2 FN FY GE
        go_enter Try.func40, Try.ntmps40
        go_wp2_with fail
        refine (specFinite_any x _).mono ?_
        rw [H0.out]
        rintro e w' ⟨rfl, n0, rfl⟩
        have Bw := Lib.hid (below_drewN Bw.out n0)
        go_wp2_with fail
        refine (specFinite_any y _).mono ?_
        rw [H1.out]
        rintro e w' ⟨rfl, n1, rfl⟩
        have Bw := Lib.hid (below_drewN Bw.out n1)
        go_wp2_with fail
        refine (specAbove_any r _).mono ?_
        rw [H2.out]
        rintro e w' ⟨rfl, n2, rfl⟩
        have Bw := Lib.hid (below_drewN Bw.out n2)
        go_wp2
        go_ret2
        exact E.out _ (by repeat (first | (with_reducible exact Bw.out) | (with_reducible refine below_drewN ?_ _) | (with_reducible exact Below.refl _ _)))
      · skip
        cases B3 : lst t
        · skip
          have E := Lib.hid (FN.out (GE.out.trans (by rw [B3]; simp : _ = false)))
          have H0 := Lib.hid B0
          have H1 := Lib.hid B1
          have H2 := Lib.hid B2
          have H3 := Lib.hid B3
          clear B0 B1 B2 B3 FN FY GE
          go_enter Try.func40, Try.ntmps40
          go_wp2_with fail
          refine (specFinite_any x _).mono ?_
          rw [H0.out]
          rintro e w' ⟨rfl, n0, rfl⟩
          have Bw := Lib.hid (below_drewN Bw.out n0)
          go_wp2_with fail
          refine (specFinite_any y _).mono ?_
          rw [H1.out]
          rintro e w' ⟨rfl, n1, rfl⟩
          have Bw := Lib.hid (below_drewN Bw.out n1)
          go_wp2_with fail
          refine (specAbove_any r _).mono ?_
          rw [H2.out]
          rintro e w' ⟨rfl, n2, rfl⟩
          have Bw := Lib.hid (below_drewN Bw.out n2)
          go_wp2_with fail
          refine (specLeast_any t _).mono ?_
          rw [H3.out]
          rintro e w' ⟨rfl, n3, rfl⟩
          have Bw := Lib.hid (below_drewN Bw.out n3)
          go_wp2
          go_ret2
          exact E.out _ (by repeat (first | (with_reducible exact Bw.out) | (with_reducible refine below_drewN ?_ _) | (with_reducible exact Below.refl _ _)))
        · skip
          have E := Lib.hid (FY.out (GE.out.trans (by rw [B0, B1, B2, B3]; rfl : _ = true)))
          have H0 := Lib.hid B0
          have H1 := Lib.hid B1
          have H2 := Lib.hid B2
          have H3 := Lib.hid B3
          clear B0 B1 B2 B3 FN FY GE
          go_enter Try.func40, Try.ntmps40
          go_wp2_with fail
          refine (specFinite_any x _).mono ?_
          rw [H0.out]
          rintro e w' ⟨rfl, n0, rfl⟩
          have Bw := Lib.hid (below_drewN Bw.out n0)
          go_wp2_with fail
          refine (specFinite_any y _).mono ?_
          rw [H1.out]
          rintro e w' ⟨rfl, n1, rfl⟩
          have Bw := Lib.hid (below_drewN Bw.out n1)
          go_wp2_with fail
          refine (specAbove_any r _).mono ?_
          rw [H2.out]
          rintro e w' ⟨rfl, n2, rfl⟩
          have Bw := Lib.hid (below_drewN Bw.out n2)
          go_wp2_with fail
          refine (specLeast_any t _).mono ?_
          rw [H3.out]
          rintro e w' ⟨rfl, n3, rfl⟩
          have Bw := Lib.hid (below_drewN Bw.out n3)
          go_wp2_with (refine wpList_farith rfl _ _ _ _ _ rfl rfl _ _ _ rfl rfl ?_; intro r0 j0 g0; have f0 := Lib.hid g0; clear g0; refine Stop.go ?_)
          refine Stop.mk ?_
          go_wp2_with (refine wpList_farith rfl _ _ _ _ _ rfl rfl _ _ _ rfl rfl ?_; intro r1 j1 g1; have f1 := Lib.hid g1; clear g1; refine Stop.go ?_)
          refine Stop.mk ?_
          have ea := co_arg H2.out H3.out f1.out
          have HLq := Lib.hid (HL.out H2.out H3.out)
          rw [← ea] at HLq
          clear ea HL
          go_wp2_with fail
          refine (HLq.out _).mono ?_
          rintro e w' ⟨l, nl, hl, rfl, rfl⟩
          have L := Lib.hid hl
          clear hl HLq
          go_wp2_with (refine wpList_farith rfl _ _ _ _ _ rfl rfl _ _ _ rfl rfl ?_; intro r2 j2 g2; have f2 := Lib.hid g2; clear g2; refine Stop.go ?_)
          refine Stop.mk ?_
          go_wp2_with (refine wpList_farith rfl _ _ _ _ _ rfl rfl _ _ _ rfl rfl ?_; intro r3 j3 g3; have f3 := Lib.hid g3; clear g3; refine Stop.go ?_)
          refine Stop.mk ?_
          have V := Lib.hid (coV_of L.out f0.out f2.out f3.out)
          clear f0 f1 f2 f3
          go_wp2_with fail
          (first | refine (specNum_any _ _).mono ?_ | (go_at_call 53; refine (specNum_any _ _).mono ?_))
          rintro e w' ⟨rfl, n9, rfl⟩
          go_wp2
          go_ret2
          exact E.out _ _ V.out (by repeat (first | (with_reducible exact Bw.out) | (with_reducible refine below_drewN ?_ _) | (with_reducible exact Below.refl _ _)))

set_option maxHeartbeats 1600000 in
theorem implCo_any (x y r t c : Nat) (w : World) (hc : pos r = true → lst t = true → ∀ w, Calls Try.prog 76 #[.float .f32 (coA r t)] w (ExV c w)) : Calls Try.prog 41 #[.float .f32 x, .float .f32 y, .float .f32 r, .float .f32 t] w (GivB (cS (coG x y r t) (coV x y c)) (cB (coG x y r t) (coV x y c)) w) := by
  have HL := Lib.hid hc
  have FN := Lib.hid (fun (e : coG x y r t = false) w1 (hb : Below w.heap.size w w1) => cGiv_no (V := coV x y c) e hb)
  have FY := Lib.hid (fun (e : coG x y r t = true) s w1 (hx : cn .f32 s = coV x y c) (hb : Below w.heap.size w w1) => cGiv_yes e hx hb)
  have GE := Lib.hid (show coG x y r t = (fin .f32 x && fin .f32 y && pos r && lst t) from rfl)
  generalize cS (coG x y r t) (coV x y c) = S at *
  generalize cB (coG x y r t) (coV x y c) = O at *
  generalize coG x y r t = Q at *
  have Bw := Lib.hid (Below.refl w.heap.size w)
  clear hc
  cases B0 : fin .f32 x
  · skip
    have E := Lib.hid (FN.out (GE.out.trans (by rw [B0]; simp : _ = false)))
    have H0 := Lib.hid B0
    clear B0 FN FY GE
    go_enter Try.func41, Try.ntmps41
    go_wp2_with fail
    refine (implFinite_any x _).mono ?_
    rw [H0.out]
    rintro e w' ⟨rfl, n0, rfl⟩
    have Bw := Lib.hid (below_drewN Bw.out n0)
    go_wp2
    go_ret2
    exact E.out _ (by repeat (first | (with_reducible exact Bw.out) | (with_reducible refine below_drewN ?_ _) | (with_reducible exact Below.refl _ _)))
  · skip
    cases B1 : fin .f32 y
    · skip
      have E := Lib.hid (FN.out (GE.out.trans (by rw [B1]; simp : _ = false)))
      have H0 := Lib.hid B0
      have H1 := Lib.hid B1
      clear B0 B1 FN FY GE
      go_enter Try.func41, Try.ntmps41
      go_wp2_with fail
      refine (implFinite_any x _).mono ?_
      rw [H0.out]
      rintro e w' ⟨rfl, n0, rfl⟩
      have Bw := Lib.hid (below_drewN Bw.out n0)
      go_wp2_with fail
      refine (implFinite_any y _).mono ?_
      rw [H1.out]
      rintro e w' ⟨rfl, n1, rfl⟩
      have Bw := Lib.hid (below_drewN Bw.out n1)
      go_wp2
      go_ret2
      exact E.out _ (by repeat (first | (with_reducible exact Bw.out) | (with_reducible refine below_drewN ?_ _) | (with_reducible exact Below.refl _ _)))
    · skip
      cases B2 : pos r
      · skip
        have E := Lib.hid (FN.out (GE.out.trans (by rw [B2]; simp : _ = false)))
        have H0 := Lib.hid B0
        have H1 := Lib.hid B1
        have H2 := Lib.hid B2
        clear B0 B1 B2 FN FY GE
        go_enter Try.func41, Try.ntmps41
        go_wp2_with fail
        refine (implFinite_any x _).mono ?_
        rw [H0.out]
        rintro e w' ⟨rfl, n0, rfl⟩
        have Bw := Lib.hid (below_drewN Bw.out n0)
        go_wp2_with fail
        refine (implFinite_any y _).mono ?_
        rw [H1.out]
        rintro e w' ⟨rfl, n1, rfl⟩
        have Bw := Lib.hid (below_drewN Bw.out n1)
        go_wp2_with fail
        refine (implPos_any r _).mono ?_
        rw [H2.out]
        rintro e w' ⟨rfl, n2, rfl⟩
        have Bw := Lib.hid (below_drewN Bw.out n2)
        go_wp2
        go_ret2
        exact E.out _ (by repeat (first | (with_reducible exact Bw.out) | (with_reducible refine below_drewN ?_ _) | (with_reducible exact Below.refl _ _)))
      · skip
        cases B3 : lst t
        · skip
          have E := Lib.hid (FN.out (GE.out.trans (by rw [B3]; simp : _ = false)))
          have H0 := Lib.hid B0
          have H1 := Lib.hid B1
          have H2 := Lib.hid B2
          have H3 := Lib.hid B3
          clear B0 B1 B2 B3 FN FY GE
          go_enter Try.func41, Try.ntmps41
          go_wp2_with fail
          refine (implFinite_any x _).mono ?_
          rw [H0.out]
          rintro e w' ⟨rfl, n0, rfl⟩
          have Bw := Lib.hid (below_drewN Bw.out n0)
          go_wp2_with fail
          refine (implFinite_any y _).mono ?_
          rw [H1.out]
          rintro e w' ⟨rfl, n1, rfl⟩
          have Bw := Lib.hid (below_drewN Bw.out n1)
          go_wp2_with fail
          refine (implPos_any r _).mono ?_
          rw [H2.out]
          rintro e w' ⟨rfl, n2, rfl⟩
          have Bw := Lib.hid (below_drewN Bw.out n2)
          go_wp2_with fail
          refine (implNotNeg_any t _).mono ?_
          rw [H3.out]
          rintro e w' ⟨rfl, n3, rfl⟩
          have Bw := Lib.hid (below_drewN Bw.out n3)
          go_wp2
          go_ret2
          exact E.out _ (by repeat (first | (with_reducible exact Bw.out) | (with_reducible refine below_drewN ?_ _) | (with_reducible exact Below.refl _ _)))
        · skip
          have E := Lib.hid (FY.out (GE.out.trans (by rw [B0, B1, B2, B3]; rfl : _ = true)))
          have H0 := Lib.hid B0
          have H1 := Lib.hid B1
          have H2 := Lib.hid B2
          have H3 := Lib.hid B3
          clear B0 B1 B2 B3 FN FY GE
          go_enter Try.func41, Try.ntmps41
          go_wp2_with fail
          refine (implFinite_any x _).mono ?_
          rw [H0.out]
          rintro e w' ⟨rfl, n0, rfl⟩
          have Bw := Lib.hid (below_drewN Bw.out n0)
          go_wp2_with fail
          refine (implFinite_any y _).mono ?_
          rw [H1.out]
          rintro e w' ⟨rfl, n1, rfl⟩
          have Bw := Lib.hid (below_drewN Bw.out n1)
          go_wp2_with fail
          refine (implPos_any r _).mono ?_
          rw [H2.out]
          rintro e w' ⟨rfl, n2, rfl⟩
          have Bw := Lib.hid (below_drewN Bw.out n2)
          go_wp2_with fail
          refine (implNotNeg_any t _).mono ?_
          rw [H3.out]
          rintro e w' ⟨rfl, n3, rfl⟩
          have Bw := Lib.hid (below_drewN Bw.out n3)
          go_wp2_with (refine wpList_farith rfl _ _ _ _ _ rfl rfl _ _ _ rfl rfl ?_; intro r0 j0 g0; have f0 := Lib.hid g0; clear g0; refine Stop.go ?_)
          refine Stop.mk ?_
          go_wp2_with (refine wpList_farith rfl _ _ _ _ _ rfl rfl _ _ _ rfl rfl ?_; intro r1 j1 g1; have f1 := Lib.hid g1; clear g1; refine Stop.go ?_)
          refine Stop.mk ?_
          have ea := co_arg H2.out H3.out f1.out
          have HLq := Lib.hid (HL.out H2.out H3.out)
          rw [← ea] at HLq
          clear ea HL
          go_wp2_with fail
          refine (HLq.out _).mono ?_
          rintro e w' ⟨l, nl, hl, rfl, rfl⟩
          have L := Lib.hid hl
          clear hl HLq
          go_wp2_with (refine wpList_farith rfl _ _ _ _ _ rfl rfl _ _ _ rfl rfl ?_; intro r2 j2 g2; have f2 := Lib.hid g2; clear g2; refine Stop.go ?_)
          refine Stop.mk ?_
          go_wp2_with (refine wpList_farith rfl _ _ _ _ _ rfl rfl _ _ _ rfl rfl ?_; intro r3 j3 g3; have f3 := Lib.hid g3; clear g3; refine Stop.go ?_)
          refine Stop.mk ?_
          have V := Lib.hid (coV_of L.out f0.out f2.out f3.out)
          clear f0 f1 f2 f3
          go_wp2_with fail
          (first | refine (implNum_any _ _).mono ?_ | (go_at_call 50; refine (implNum_any _ _).mono ?_))
          rintro e w' ⟨rfl, n9, rfl⟩
          go_wp2
          go_ret2
          exact E.out _ _ V.out (by repeat (first | (with_reducible exact Bw.out) | (with_reducible refine below_drewN ?_ _) | (with_reducible exact Below.refl _ _)))

set_option maxRecDepth 20000 in
set_option maxHeartbeats 1600000 in
theorem fnExactCoolTo_walk (x : Nat) (y : Nat) (r : Nat) (t : Nat) (w : World) (wf0 : (Lit.float .f32 x).wf = true) (wf1 : (Lit.float .f32 y).wf = true) (wf2 : (Lit.float .f32 r).wf = true) (wf3 : (Lit.float .f32 t).wf = true) : Calls Try.prog 13 #[.float .f32 x, .float .f32 y, .float .f32 r, .float .f32 t] w (Tru w) := by
  obtain ⟨c, hs, hi⟩ : ∃ c, (pos r = true → lst t = true → ∀ w, Calls Try.prog 75 #[.float .f32 (coA r t)] w (ExV c w)) ∧ (pos r = true → lst t = true → ∀ w, Calls Try.prog 76 #[.float .f32 (coA r t)] w (ExV c w)) := by
    by_cases g : pos r = true ∧ lst t = true
    · obtain ⟨c, hc⟩ := exps_agree (coA r t) (Nng_neg (co_Nng g.1 g.2))
      exact ⟨c, fun _ _ w => (hc w).1, fun _ _ w => (hc w).2⟩
    · exact ⟨0, fun h1 h2 => absurd ⟨h1, h2⟩ g, fun h1 h2 => absurd ⟨h1, h2⟩ g⟩
  have HS := Lib.hid hs
  have HI := Lib.hid hi
  clear hs hi
  clear wf0
  clear wf1
  clear wf2
  clear wf3
  have Bw := Lib.hid (Below.refl w.heap.size w)
  go_enter Try.func13, Try.ntmps13
  go_wp2_with fail
  refine (specCo_any x y r t c _ HS.out).mono ?_
  rintro _ w1 ⟨r1, hr, rfl, hb⟩
  have Bw := Lib.hid (below_step Bw.out (by first | exact hb | exact below_undrew hb))
  clear hb
  have R1 := Lib.hid hr
  clear hr
  go_wp2_with fail
  refine (implCo_any x y r t c _ HI.out).mono ?_
  rintro _ w2 ⟨r2, hr, rfl, hb⟩
  have Bw := Lib.hid (below_step Bw.out (by first | exact hb | exact below_undrew hb))
  clear hb
  have R2 := Lib.hid hr
  clear hr
  go_wp2_with (first | (refine wpList_up rfl Try.underlying25 Try.underlying29 _ rfl _ rfl ?_; intro _ _ _) | (refine upon_up Try.underlying25 Try.underlying29 _ ?_; intro _ _ _; simp only [Result.andThen_ok]) | (go_at_call 21; refine (same_end (a := r2) (b := r1) _ (by assumption) (by assumption) (R2.out.trans R1.out.symm)).mono ?_; rintro e w' ⟨rfl, n, rfl⟩))
  skip
  go_ret
  exact Tru.below (by repeat (first | (with_reducible exact Bw.out) | (with_reducible refine below_drewN ?_ _) | (with_reducible exact Below.refl _ _)))


end Go.Proofs.Ytdemahghjgghkaa
