/- When something has cooled: both sides, and the law. -/
import Derived.Test.YtdemahghjgghkaaLogV
import Derived.Test.YtdemahghjgghkaaSnP
import Derived.Test.YtdemahghjgghkaaAllP
import Derived.Test.YtdemahghjgghkaaFu
namespace Go.Proofs.Ytdemahghjgghkaa
open Go.RowKit
set_option linter.unusedVariables false

def tmQ (x y z : Nat) : Nat := fop .quo .f32 (fop .sub .f32 x y) (fop .sub .f32 z y)
theorem tmQ_of {x y z r0 r1 r2 : Nat} (f0 : FR .sub .f32 x y r0) (f1 : FR .sub .f32 z y r1) (f2 : FR .quo .f32 r0 r1 r2) : cn .f32 r2 = tmQ x y z := by
  unfold tmQ
  simp only [f2.1, f1.1, f0.1, fopl', fopr']
/-- the program's reading of the guards -/
def tmG (x y r z : Nat) : Bool := fin .f32 x && fin .f32 y && pos r && fin .f32 z && geN (tmQ x y z) 1065353216
theorem tmG_impl (x y r z : Nat) : tmG x y r z = ([x, y, z].all (fin .f32) && pos r && geN (tmQ x y z) 1065353216) := by
  unfold tmG
  simp only [List.all_cons, List.all_nil, Bool.and_true]
  cases fin .f32 x <;> cases fin .f32 y <;> cases fin .f32 z <;> cases pos r <;> simp
theorem ge_same {q Q c : Nat} {v : Bool} (h : cn .f32 q = Q) (e : geN Q c = v) : (FloatKind.f32.format.order q c == some .gt || FloatKind.f32.format.order q c == some .eq) = v := by
  rw [← e, ← h]; unfold geN; rw [← order_cn .f32 (cn .f32 q) c, cn_cn, order_cn]
theorem ge_num {q Q c : Nat} (h : cn .f32 q = Q) (e : geN Q c = true) : q = Q := by
  cases hn : nn .f32 q
  · rw [cn_of_num hn] at h; exact h
  · exfalso
    have hQ : nn .f32 Q = true := by rw [← h, nn_cn]; exact hn
    unfold geN at e
    rw [ord_key, hQ] at e
    simp at e
theorem tmQ_wf {x y z : Nat} (h : geN (tmQ x y z) 1065353216 = true) : tmQ x y z < 4294967296 := by
  obtain ⟨r, _, hr, _⟩ := run_farith (P := Try.prog) .quo rfl 0 .f32 (fop .sub .f32 x y) (fop .sub .f32 z y) default
  have e : cn .f32 r = tmQ x y z := by rw [hr.1]; unfold tmQ; simp only [fopl', fopr']
  rw [← ge_num e h]
  exact wf32 hr.2
def tmV (c r : Nat) : Nat := fop .quo .f32 c r
theorem tmV_of {c r l s : Nat} (h : cn .f32 l = c) (f : FR .quo .f32 l r s) : cn .f32 s = tmV c r := by
  unfold tmV; rw [f.1, h]; simp only [fopr']

set_option maxHeartbeats 1600000 in
theorem specTm_any (x y r z c : Nat) (w : World) (hc : geN (tmQ x y z) 1065353216 = true → ∀ w, Calls Try.prog 72 #[.float .f32 (tmQ x y z)] w (Val c w)) : Calls Try.prog 38 #[.float .f32 x, .float .f32 y, .float .f32 r, .float .f32 z] w (GivB (cS (tmG x y r z) (tmV c r)) (cB (tmG x y r z) (tmV c r)) w) := by
  have HL := Lib.hid hc
  have FN := Lib.hid (fun (e : tmG x y r z = false) w1 (hb : Below w.heap.size w w1) => cGiv_no (V := tmV c r) e hb)
  have FY := Lib.hid (fun (e : tmG x y r z = true) s w1 (hx : cn .f32 s = tmV c r) (hb : Below w.heap.size w w1) => cGiv_yes e hx hb)
  have GE := Lib.hid (show tmG x y r z = (fin .f32 x && fin .f32 y && pos r && fin .f32 z && geN (tmQ x y z) 1065353216) from rfl)
  generalize cS (tmG x y r z) (tmV c r) = S at *
  generalize cB (tmG x y r z) (tmV c r) = O at *
  generalize tmG x y r z = T at *
  have Bw := Lib.hid (Below.refl w.heap.size w)
  clear hc
  cases B0 : fin .f32 x
  · skip
    have E := Lib.hid (FN.out (GE.out.trans (by rw [B0]; simp : _ = false)))
    have H0 := Lib.hid B0
    clear B0 FN FY GE
    go_enter Try.func38, Try.ntmps38
    go_wp2_with fail
    refine (specFinite_any x _).mono ?_
    rw [H0.out]
    rintro e w' ⟨rfl, n0, rfl⟩
    have Bw := Lib.hid (below_drewN Bw.out n0)
    go_wp2
    go_ret2
    exact E.out _ (by repeat (first | (with_reducible exact Bw.out) | (with_reducible exact Bp.out) | (with_reducible refine below_drewN ?_ _) | (with_reducible exact Below.refl _ _)))
  · skip
    cases B1 : fin .f32 y
    · skip
      have E := Lib.hid (FN.out (GE.out.trans (by rw [B1]; simp : _ = false)))
      have H0 := Lib.hid B0
      have H1 := Lib.hid B1
      clear B0 B1 FN FY GE
      go_enter Try.func38, Try.ntmps38
      go_wp2_with fail
      refine (specFinite_any x _).mono ?_
      rw [H0.out]
      rintro e w' ⟨rfl, n0, rfl⟩
      have Bw := Lib.hid (below_drewN Bw.out n0)
      go_wp2_with fail
      refine (specFinite_any y _).mono ?_
      rw [H1.out]
      rintro e w' ⟨rfl, n1, rfl⟩
      have Bw := Lib.hid (below_drewN Bw.out n1)
      go_wp2
      go_ret2
      exact E.out _ (by repeat (first | (with_reducible exact Bw.out) | (with_reducible exact Bp.out) | (with_reducible refine below_drewN ?_ _) | (with_reducible exact Below.refl _ _)))
    · skip
      cases B2 : pos r
      · skip
        have E := Lib.hid (FN.out (GE.out.trans (by rw [B2]; simp : _ = false)))
        have H0 := Lib.hid B0
        have H1 := Lib.hid B1
        have H2 := Lib.hid B2
        clear B0 B1 B2 FN FY GE
        go_enter Try.func38, Try.ntmps38
        go_wp2_with fail
        refine (specFinite_any x _).mono ?_
        rw [H0.out]
        rintro e w' ⟨rfl, n0, rfl⟩
        have Bw := Lib.hid (below_drewN Bw.out n0)
        go_wp2_with fail
        refine (specFinite_any y _).mono ?_
        rw [H1.out]
        rintro e w' ⟨rfl, n1, rfl⟩
        have Bw := Lib.hid (below_drewN Bw.out n1)
        go_wp2_with fail
        refine (specAbove_any r _).mono ?_
        rw [H2.out]
        rintro e w' ⟨rfl, n2, rfl⟩
        have Bw := Lib.hid (below_drewN Bw.out n2)
        go_wp2
        go_ret2
        exact E.out _ (by repeat (first | (with_reducible exact Bw.out) | (with_reducible exact Bp.out) | (with_reducible refine below_drewN ?_ _) | (with_reducible exact Below.refl _ _)))
      · skip
        cases B3 : fin .f32 z
        · skip
          have E := Lib.hid (FN.out (GE.out.trans (by rw [B3]; simp : _ = false)))
          have H0 := Lib.hid B0
          have H1 := Lib.hid B1
          have H2 := Lib.hid B2
          have H3 := Lib.hid B3
          clear B0 B1 B2 B3 FN FY GE
          go_enter Try.func38, Try.ntmps38
          go_wp2_with fail
          refine (specFinite_any x _).mono ?_
          rw [H0.out]
          rintro e w' ⟨rfl, n0, rfl⟩
          have Bw := Lib.hid (below_drewN Bw.out n0)
          go_wp2_with fail
          refine (specFinite_any y _).mono ?_
          rw [H1.out]
          rintro e w' ⟨rfl, n1, rfl⟩
          have Bw := Lib.hid (below_drewN Bw.out n1)
          go_wp2_with fail
          refine (specAbove_any r _).mono ?_
          rw [H2.out]
          rintro e w' ⟨rfl, n2, rfl⟩
          have Bw := Lib.hid (below_drewN Bw.out n2)
          go_wp2_with fail
          refine (specFinite_any z _).mono ?_
          rw [H3.out]
          rintro e w' ⟨rfl, n3, rfl⟩
          have Bw := Lib.hid (below_drewN Bw.out n3)
          go_wp2
          go_ret2
          exact E.out _ (by repeat (first | (with_reducible exact Bw.out) | (with_reducible exact Bp.out) | (with_reducible refine below_drewN ?_ _) | (with_reducible exact Below.refl _ _)))
        · skip
          cases B4 : geN (tmQ x y z) 1065353216
          · skip
            have E := Lib.hid (FN.out (GE.out.trans (by rw [B4]; simp : _ = false)))
            have H0 := Lib.hid B0
            have H1 := Lib.hid B1
            have H2 := Lib.hid B2
            have H3 := Lib.hid B3
            have H4 := Lib.hid B4
            clear B0 B1 B2 B3 B4 FN FY GE
            go_enter Try.func38, Try.ntmps38
            go_wp2_with fail
            refine (specFinite_any x _).mono ?_
            rw [H0.out]
            rintro e w' ⟨rfl, n0, rfl⟩
            have Bw := Lib.hid (below_drewN Bw.out n0)
            go_wp2_with fail
            refine (specFinite_any y _).mono ?_
            rw [H1.out]
            rintro e w' ⟨rfl, n1, rfl⟩
            have Bw := Lib.hid (below_drewN Bw.out n1)
            go_wp2_with fail
            refine (specAbove_any r _).mono ?_
            rw [H2.out]
            rintro e w' ⟨rfl, n2, rfl⟩
            have Bw := Lib.hid (below_drewN Bw.out n2)
            go_wp2_with fail
            refine (specFinite_any z _).mono ?_
            rw [H3.out]
            rintro e w' ⟨rfl, n3, rfl⟩
            have Bw := Lib.hid (below_drewN Bw.out n3)
            go_wp2_with (refine wpList_farith rfl _ _ _ _ _ rfl rfl _ _ _ rfl rfl ?_; intro r0 j0 g0; have f0 := Lib.hid g0; clear g0; refine Stop.go ?_)
            refine Stop.mk ?_
            go_wp2_with (refine wpList_farith rfl _ _ _ _ _ rfl rfl _ _ _ rfl rfl ?_; intro r1 j1 g1; have f1 := Lib.hid g1; clear g1; refine Stop.go ?_)
            refine Stop.mk ?_
            go_wp2_with (refine wpList_farith rfl _ _ _ _ _ rfl rfl _ _ _ rfl rfl ?_; intro r2 j2 g2; have f2 := Lib.hid g2; clear g2; refine Stop.go ?_)
            refine Stop.mk ?_
            have Q := Lib.hid (tmQ_of f0.out f1.out f2.out)
            clear f0 f1 f2
            have og := ge_same Q.out H4.out
            go_wp2
            go_ret2
            exact E.out _ (by repeat (first | (with_reducible exact Bw.out) | (with_reducible exact Bp.out) | (with_reducible refine below_drewN ?_ _) | (with_reducible exact Below.refl _ _)))
          · skip
            have E := Lib.hid (FY.out (GE.out.trans (by rw [B0, B1, B2, B3, B4]; rfl : _ = true)))
            have H0 := Lib.hid B0
            have H1 := Lib.hid B1
            have H2 := Lib.hid B2
            have H3 := Lib.hid B3
            have H4 := Lib.hid B4
            clear B0 B1 B2 B3 B4 FN FY GE
            go_enter Try.func38, Try.ntmps38
            go_wp2_with fail
            refine (specFinite_any x _).mono ?_
            rw [H0.out]
            rintro e w' ⟨rfl, n0, rfl⟩
            have Bw := Lib.hid (below_drewN Bw.out n0)
            go_wp2_with fail
            refine (specFinite_any y _).mono ?_
            rw [H1.out]
            rintro e w' ⟨rfl, n1, rfl⟩
            have Bw := Lib.hid (below_drewN Bw.out n1)
            go_wp2_with fail
            refine (specAbove_any r _).mono ?_
            rw [H2.out]
            rintro e w' ⟨rfl, n2, rfl⟩
            have Bw := Lib.hid (below_drewN Bw.out n2)
            go_wp2_with fail
            refine (specFinite_any z _).mono ?_
            rw [H3.out]
            rintro e w' ⟨rfl, n3, rfl⟩
            have Bw := Lib.hid (below_drewN Bw.out n3)
            go_wp2_with (refine wpList_farith rfl _ _ _ _ _ rfl rfl _ _ _ rfl rfl ?_; intro r0 j0 g0; have f0 := Lib.hid g0; clear g0; refine Stop.go ?_)
            refine Stop.mk ?_
            go_wp2_with (refine wpList_farith rfl _ _ _ _ _ rfl rfl _ _ _ rfl rfl ?_; intro r1 j1 g1; have f1 := Lib.hid g1; clear g1; refine Stop.go ?_)
            refine Stop.mk ?_
            go_wp2_with (refine wpList_farith rfl _ _ _ _ _ rfl rfl _ _ _ rfl rfl ?_; intro r2 j2 g2; have f2 := Lib.hid g2; clear g2; refine Stop.go ?_)
            refine Stop.mk ?_
            have Q := Lib.hid (tmQ_of f0.out f1.out f2.out)
            clear f0 f1 f2
            have og := ge_same Q.out H4.out
            have eq := ge_num Q.out H4.out
            have HLq := Lib.hid (HL.out H4.out)
            rw [← eq] at HLq
            clear eq HL
            go_wp2_with fail
            refine (HLq.out _).mono ?_
            rintro e w' ⟨l, nl, hl, rfl, rfl⟩
            have L := Lib.hid hl
            clear hl HLq
            go_wp2_with (refine wpList_farith rfl _ _ _ _ _ rfl rfl _ _ _ rfl rfl ?_; intro r9 j9 g9; have f9 := Lib.hid g9; clear g9; refine Stop.go ?_)
            refine Stop.mk ?_
            have V := Lib.hid (tmV_of L.out f9.out)
            clear f9
            go_wp2_with fail
            (first | refine (specNum_any _ _).mono ?_ | (go_at_call 53; refine (specNum_any _ _).mono ?_))
            rintro e w' ⟨rfl, n9, rfl⟩
            go_wp2
            go_ret2
            exact E.out _ _ V.out (by repeat (first | (with_reducible exact Bw.out) | (with_reducible exact Bp.out) | (with_reducible refine below_drewN ?_ _) | (with_reducible exact Below.refl _ _)))

set_option maxHeartbeats 1600000 in
theorem implTm_any (x y r z c : Nat) (w : World) (hc : geN (tmQ x y z) 1065353216 = true → ∀ w, Calls Try.prog 74 #[.float .f32 (tmQ x y z)] w (Val c w)) : Calls Try.prog 39 #[.float .f32 x, .float .f32 y, .float .f32 r, .float .f32 z] w (GivB (cS (tmG x y r z) (tmV c r)) (cB (tmG x y r z) (tmV c r)) w) := by
  have HL := Lib.hid hc
  have FN := Lib.hid (fun (e : tmG x y r z = false) w1 (hb : Below w.heap.size w w1) => cGiv_no (V := tmV c r) e hb)
  have FY := Lib.hid (fun (e : tmG x y r z = true) s w1 (hx : cn .f32 s = tmV c r) (hb : Below w.heap.size w w1) => cGiv_yes e hx hb)
  have GE := Lib.hid (tmG_impl x y r z)
  generalize cS (tmG x y r z) (tmV c r) = S at *
  generalize cB (tmG x y r z) (tmV c r) = O at *
  generalize tmG x y r z = T at *
  have Bw := Lib.hid (Below.refl w.heap.size w)
  clear hc
  have HA := Lib.hid (fun w1 => allFin_any _ [x, y, z] _ (FRow.of_cells (Cells.made w1 (fl [x, y, z]) 25) (by show 3 ≤ maxLen; decide)))
  cases B0 : [x, y, z].all (fin .f32)
  · skip
    have E := Lib.hid (FN.out (GE.out.trans (by rw [B0]; simp : _ = false)))
    have H0 := Lib.hid B0
    clear B0 FN FY GE
    go_enter Try.func39, Try.ntmps39
    go_wp2_with (refine wpList_farith rfl _ _ _ _ _ rfl rfl _ _ _ rfl rfl ?_; intro r0 j0 g0; have f0 := Lib.hid g0; clear g0; refine Stop.go ?_)
    refine Stop.mk ?_
    go_wp2_with (refine wpList_farith rfl _ _ _ _ _ rfl rfl _ _ _ rfl rfl ?_; intro r1 j1 g1; have f1 := Lib.hid g1; clear g1; refine Stop.go ?_)
    refine Stop.mk ?_
    go_wp2_with (refine wpList_farith rfl _ _ _ _ _ rfl rfl _ _ _ rfl rfl ?_; intro r2 j2 g2; have f2 := Lib.hid g2; clear g2; refine Stop.go ?_)
    refine Stop.mk ?_
    have Q := Lib.hid (tmQ_of f0.out f1.out f2.out)
    clear f0 f1 f2
    go_wp2_with fail
    refine (HA.out _).mono ?_
    rw [H0.out]
    rintro e w1 ⟨rfl, hb⟩
    have Bw := Lib.hid ((below_drewN Bw.out _).trans (((below_unal hb)).mono (below_drewN Bw.out _).size))
    have Bp := Lib.hid Bw.out
    clear hb
    go_wp2
    go_ret2
    exact E.out _ (by repeat (first | (with_reducible exact Bw.out) | (with_reducible exact Bp.out) | (with_reducible refine below_drewN ?_ _) | (with_reducible exact Below.refl _ _)))
  · skip
    cases B1 : pos r
    · skip
      have E := Lib.hid (FN.out (GE.out.trans (by rw [B1]; simp : _ = false)))
      have H0 := Lib.hid B0
      have H1 := Lib.hid B1
      clear B0 B1 FN FY GE
      go_enter Try.func39, Try.ntmps39
      go_wp2_with (refine wpList_farith rfl _ _ _ _ _ rfl rfl _ _ _ rfl rfl ?_; intro r0 j0 g0; have f0 := Lib.hid g0; clear g0; refine Stop.go ?_)
      refine Stop.mk ?_
      go_wp2_with (refine wpList_farith rfl _ _ _ _ _ rfl rfl _ _ _ rfl rfl ?_; intro r1 j1 g1; have f1 := Lib.hid g1; clear g1; refine Stop.go ?_)
      refine Stop.mk ?_
      go_wp2_with (refine wpList_farith rfl _ _ _ _ _ rfl rfl _ _ _ rfl rfl ?_; intro r2 j2 g2; have f2 := Lib.hid g2; clear g2; refine Stop.go ?_)
      refine Stop.mk ?_
      have Q := Lib.hid (tmQ_of f0.out f1.out f2.out)
      clear f0 f1 f2
      go_wp2_with fail
      refine (HA.out _).mono ?_
      rw [H0.out]
      rintro e w1 ⟨rfl, hb⟩
      have Bw := Lib.hid ((below_drewN Bw.out _).trans (((below_unal hb)).mono (below_drewN Bw.out _).size))
      have Bp := Lib.hid Bw.out
      clear hb
      go_wp2_with fail
      refine (implPos_any r _).mono ?_
      rw [H1.out]
      rintro e w' ⟨rfl, n2, rfl⟩
      have Bw := Lib.hid (below_drewN Bw.out n2)
      go_wp2
      go_ret2
      exact E.out _ (by repeat (first | (with_reducible exact Bw.out) | (with_reducible exact Bp.out) | (with_reducible refine below_drewN ?_ _) | (with_reducible exact Below.refl _ _)))
    · skip
      cases B2 : geN (tmQ x y z) 1065353216
      · skip
        have E := Lib.hid (FN.out (GE.out.trans (by rw [B2]; simp : _ = false)))
        have H0 := Lib.hid B0
        have H1 := Lib.hid B1
        have H2 := Lib.hid B2
        clear B0 B1 B2 FN FY GE
        go_enter Try.func39, Try.ntmps39
        go_wp2_with (refine wpList_farith rfl _ _ _ _ _ rfl rfl _ _ _ rfl rfl ?_; intro r0 j0 g0; have f0 := Lib.hid g0; clear g0; refine Stop.go ?_)
        refine Stop.mk ?_
        go_wp2_with (refine wpList_farith rfl _ _ _ _ _ rfl rfl _ _ _ rfl rfl ?_; intro r1 j1 g1; have f1 := Lib.hid g1; clear g1; refine Stop.go ?_)
        refine Stop.mk ?_
        go_wp2_with (refine wpList_farith rfl _ _ _ _ _ rfl rfl _ _ _ rfl rfl ?_; intro r2 j2 g2; have f2 := Lib.hid g2; clear g2; refine Stop.go ?_)
        refine Stop.mk ?_
        have Q := Lib.hid (tmQ_of f0.out f1.out f2.out)
        clear f0 f1 f2
        have og := ge_same Q.out H2.out
        go_wp2_with fail
        refine (HA.out _).mono ?_
        rw [H0.out]
        rintro e w1 ⟨rfl, hb⟩
        have Bw := Lib.hid ((below_drewN Bw.out _).trans (((below_unal hb)).mono (below_drewN Bw.out _).size))
        have Bp := Lib.hid Bw.out
        clear hb
        go_wp2_with fail
        refine (implPos_any r _).mono ?_
        rw [H1.out]
        rintro e w' ⟨rfl, n2, rfl⟩
        have Bw := Lib.hid (below_drewN Bw.out n2)
        go_wp2
        go_ret2
        exact E.out _ (by repeat (first | (with_reducible exact Bw.out) | (with_reducible exact Bp.out) | (with_reducible refine below_drewN ?_ _) | (with_reducible exact Below.refl _ _)))
      · skip
        have E := Lib.hid (FY.out (GE.out.trans (by rw [B0, B1, B2]; rfl : _ = true)))
        have H0 := Lib.hid B0
        have H1 := Lib.hid B1
        have H2 := Lib.hid B2
        clear B0 B1 B2 FN FY GE
        go_enter Try.func39, Try.ntmps39
        go_wp2_with (refine wpList_farith rfl _ _ _ _ _ rfl rfl _ _ _ rfl rfl ?_; intro r0 j0 g0; have f0 := Lib.hid g0; clear g0; refine Stop.go ?_)
        refine Stop.mk ?_
        go_wp2_with (refine wpList_farith rfl _ _ _ _ _ rfl rfl _ _ _ rfl rfl ?_; intro r1 j1 g1; have f1 := Lib.hid g1; clear g1; refine Stop.go ?_)
        refine Stop.mk ?_
        go_wp2_with (refine wpList_farith rfl _ _ _ _ _ rfl rfl _ _ _ rfl rfl ?_; intro r2 j2 g2; have f2 := Lib.hid g2; clear g2; refine Stop.go ?_)
        refine Stop.mk ?_
        have Q := Lib.hid (tmQ_of f0.out f1.out f2.out)
        clear f0 f1 f2
        have og := ge_same Q.out H2.out
        go_wp2_with fail
        refine (HA.out _).mono ?_
        rw [H0.out]
        rintro e w1 ⟨rfl, hb⟩
        have Bw := Lib.hid ((below_drewN Bw.out _).trans (((below_unal hb)).mono (below_drewN Bw.out _).size))
        have Bp := Lib.hid Bw.out
        clear hb
        go_wp2_with fail
        refine (implPos_any r _).mono ?_
        rw [H1.out]
        rintro e w' ⟨rfl, n2, rfl⟩
        have Bw := Lib.hid (below_drewN Bw.out n2)
        have eq := ge_num Q.out H2.out
        have HLq := Lib.hid (HL.out H2.out)
        rw [← eq] at HLq
        clear eq HL
        go_wp2_with fail
        refine (HLq.out _).mono ?_
        rintro e w' ⟨l, nl, hl, rfl, rfl⟩
        have L := Lib.hid hl
        clear hl HLq
        go_wp2_with (refine wpList_farith rfl _ _ _ _ _ rfl rfl _ _ _ rfl rfl ?_; intro r9 j9 g9; have f9 := Lib.hid g9; clear g9; refine Stop.go ?_)
        refine Stop.mk ?_
        have V := Lib.hid (tmV_of L.out f9.out)
        clear f9
        go_wp2_with fail
        (first | refine (implNum_any _ _).mono ?_ | (go_at_call 50; refine (implNum_any _ _).mono ?_))
        rintro e w' ⟨rfl, n9, rfl⟩
        go_wp2
        go_ret2
        exact E.out _ _ V.out (by repeat (first | (with_reducible exact Bw.out) | (with_reducible exact Bp.out) | (with_reducible refine below_drewN ?_ _) | (with_reducible exact Below.refl _ _)))

set_option maxRecDepth 20000 in
set_option maxHeartbeats 1600000 in
theorem fnExactTimeTo_walk (x : Nat) (y : Nat) (r : Nat) (z : Nat) (w : World) (wf0 : (Lit.float .f32 x).wf = true) (wf1 : (Lit.float .f32 y).wf = true) (wf2 : (Lit.float .f32 r).wf = true) (wf3 : (Lit.float .f32 z).wf = true) : Calls Try.prog 12 #[.float .f32 x, .float .f32 y, .float .f32 r, .float .f32 z] w (Tru w) := by
  obtain ⟨c, hs, hi⟩ : ∃ c, (geN (tmQ x y z) 1065353216 = true → ∀ w, Calls Try.prog 72 #[.float .f32 (tmQ x y z)] w (Val c w)) ∧ (geN (tmQ x y z) 1065353216 = true → ∀ w, Calls Try.prog 74 #[.float .f32 (tmQ x y z)] w (Val c w)) := by
    by_cases g : geN (tmQ x y z) 1065353216 = true
    · obtain ⟨c, hc⟩ := logs_agree (tmQ x y z) (tmQ_wf g)
      exact ⟨c, fun _ w => (hc w).1, fun _ w => (hc w).2⟩
    · exact ⟨0, fun h => absurd h g, fun h => absurd h g⟩
  have HS := Lib.hid hs
  have HI := Lib.hid hi
  clear hs hi
  clear wf0
  clear wf1
  clear wf2
  clear wf3
  have Bw := Lib.hid (Below.refl w.heap.size w)
  go_enter Try.func12, Try.ntmps12
  go_wp2_with fail
  refine (specTm_any x y r z c _ HS.out).mono ?_
  rintro _ w1 ⟨r1, hr, rfl, hb⟩
  have Bw := Lib.hid (below_step Bw.out (by first | exact hb | exact below_undrew hb))
  clear hb
  have R1 := Lib.hid hr
  clear hr
  go_wp2_with fail
  refine (implTm_any x y r z c _ HI.out).mono ?_
  rintro _ w2 ⟨r2, hr, rfl, hb⟩
  have Bw := Lib.hid (below_step Bw.out (by first | exact hb | exact below_undrew hb))
  clear hb
  have R2 := Lib.hid hr
  clear hr
  go_wp2_with (first | (refine wpList_up rfl Try.underlying25 Try.underlying29 _ rfl _ rfl ?_; intro _ _ _) | (refine upon_up Try.underlying25 Try.underlying29 _ ?_; intro _ _ _; simp only [Result.andThen_ok]) | (go_at_call 21; refine (same_end (a := r2) (b := r1) _ (by assumption) (by assumption) (R2.out.trans R1.out.symm)).mono ?_; rintro e w' ⟨rfl, n, rfl⟩))
  skip
  go_ret
  exact Tru.below (by repeat (first | (with_reducible exact Bw.out) | (with_reducible refine below_drewN ?_ _) | (with_reducible exact Below.refl _ _)))


end Go.Proofs.Ytdemahghjgghkaa
