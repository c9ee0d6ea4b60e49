/- How much heat flows to a room, and fails: both sides. -/
import Derived.Test.YtjkokhdbkmjenaaHsF
namespace Go.Proofs.Ytjkokhdbkmjenaa
open Go.RowKit
set_option linter.unusedVariables false

def flwB (r : HS) (i : Int) (y : Nat) : Bool := vHs r && inN r.W.length i && fin .f32 y
def flwV (r : HS) (i : Int) (y : Nat) : Nat := flwTo r i y r.K.length

set_option maxRecDepth 10000 in
set_option maxHeartbeats 1600000 in
theorem specFlowH_any (a b c d : Value) (r : HS) (i : Int) (y : Nat) (w : World) (h : HRow w a b c d r) : Calls Try.prog 47 #[.agg #[a, b, c, d], .int .i64 i, .float .f32 y] w (GivB (cS (flwB r i y) (flwV r i y)) (cB (flwB r i y) (flwV r i y)) w) := by
  have FN := Lib.hid (fun (e : flwB r i y = false) (w1 : World) (hb : Below w.heap.size w w1) => cGiv_no (V := flwV r i y) e hb)
  have FY := Lib.hid (fun (e : flwB r i y = true) (x : Nat) (w1 : World) (hx : cn .f32 x = flwV r i y) (hb : Below w.heap.size w w1) => cGiv_yes e hx hb)
  generalize cS (flwB r i y) (flwV r i y) = SV at *
  generalize cB (flwB r i y) (flwV r i y) = BV at *
  have A := Lib.hid (Cells.made w [a, b, c, d] 61)
  have Bw := Lib.hid (below_al1 w (.cells ([a, b, c, d] : List Value).toArray 61))
  have Bw0 := Bw
  have R := Lib.hid (fun w1 (hb : Below w.heap.size w w1) => h.below hb)
  have IS := Lib.hid (specHas_any _ a b c d r i _ A.out (R.out _ Bw.out))
  cases hv : (vHs r && inN r.W.length i)
  · skip
    have E := Lib.hid (FN.out (by unfold flwB; rw [hv]; rfl))
    have HV := Lib.hid hv
    clear h hv FN FY
    go_enter Try.func47, Try.ntmps47
    go_wp2_with fail
    refine IS.out.mono ?_
    rw [HV.out]
    rintro e w' ⟨rfl, q, rfl⟩
    have Bw := Lib.hid (below_drewN Bw.out q)
    go_wp2
    go_ret2
    exact E.out _ (by repeat (first | (with_reducible exact Bw.out) | (with_reducible exact Bw0.out) | (with_reducible refine below_drewN ?_ _) | (with_reducible exact Below.refl _ _) | (with_reducible exact below_al1 _ _)))
  · cases B1 : fin .f32 y
    · skip
      have E := Lib.hid (FN.out (by unfold flwB; rw [hv, B1]; rfl))
      have HV := Lib.hid hv
      have H1 := Lib.hid B1
      clear h hv FN FY B1
      go_enter Try.func47, Try.ntmps47
      go_wp2_with fail
      refine IS.out.mono ?_
      rw [HV.out]
      rintro e w' ⟨rfl, q, rfl⟩
      have Bw := Lib.hid (below_drewN Bw.out q)
      go_wp2_with fail
      refine (specFinite_any y _).mono ?_
      rw [H1.out]
      rintro e w' ⟨rfl, q2, rfl⟩
      have Bw := Lib.hid (below_drewN Bw.out q2)
      go_wp2
      go_ret2
      exact E.out _ (by repeat (first | (with_reducible exact Bw.out) | (with_reducible exact Bw0.out) | (with_reducible refine below_drewN ?_ _) | (with_reducible exact Below.refl _ _) | (with_reducible exact below_al1 _ _)))
    · skip
      have E := Lib.hid (FY.out (by unfold flwB; rw [hv, B1]; rfl))
      have HV := Lib.hid hv
      have H1 := Lib.hid B1
      obtain ⟨x0, o0, k0, x1, o1, k1, x2, o2, k2, e1, e2, rfl, rfl, rfl, rfl, hL⟩ := h.lay (HsN.ofV (Bool.and_eq_true_iff.1 hv).1)
      have hin := inN_bd (Bool.and_eq_true_iff.1 hv).2
      have hv1 : vHs r = true := (Bool.and_eq_true_iff.1 hv).1
      have FL := Lib.hid (fun p w1 (hb : Below w.heap.size w w1) A => specFlow_any (k0 := k0) (k1 := k1) (k2 := k2) p r i y w1 hv1 rfl rfl A (hL.below hb) (h.K.below hb) hin)
      have VV := Lib.hid (show flwV r i y = flwTo r i y r.K.length from rfl)
      clear h hv hL hin hv1 FN FY R B1
      go_enter Try.func47, Try.ntmps47
      go_wp2_with fail
      refine IS.out.mono ?_
      rw [HV.out]
      rintro e w' ⟨rfl, q, rfl⟩
      have Bw := Lib.hid (below_drewN Bw.out q)
      go_wp2_with fail
      refine (specFinite_any y _).mono ?_
      rw [H1.out]
      rintro e w' ⟨rfl, q2, rfl⟩
      have Bw := Lib.hid (below_drewN Bw.out q2)
      go_wp2_with fail
      refine (FL.out _ _ (below_drewN Bw0.out _) (A.out.kept (below_drewN (Below.refl _ _) _))).mono ?_
      rintro e w' ⟨s, q3, hs, rfl, rfl⟩
      have SS := Lib.hid (hs.trans VV.out.symm)
      clear hs
      go_wp2_with fail
      first | refine (specNum_any _ _).mono ?_ | (go_at_call 63; refine (specNum_any _ _).mono ?_)
      rintro e w' ⟨rfl, n9, rfl⟩
      go_wp2
      go_ret2
      exact E.out _ _ SS.out (by repeat (first | (with_reducible exact Bw.out) | (with_reducible exact Bw0.out) | (with_reducible refine below_drewN ?_ _) | (with_reducible exact Below.refl _ _) | (with_reducible exact below_al1 _ _)))

set_option maxRecDepth 10000 in
set_option maxHeartbeats 1600000 in
theorem implFlowH_any (a b c d : Value) (r : HS) (i : Int) (y : Nat) (w : World) (h : HRow w a b c d r) : Calls Try.prog 48 #[.agg #[a, b, c, d], .int .i64 i, .float .f32 y] w (GivB (cS (flwB r i y) (flwV r i y)) (cB (flwB r i y) (flwV r i y)) w) := by
  have FN := Lib.hid (fun (e : flwB r i y = false) (w1 : World) (hb : Below w.heap.size w w1) => cGiv_no (V := flwV r i y) e hb)
  have FY := Lib.hid (fun (e : flwB r i y = true) (x : Nat) (w1 : World) (hx : cn .f32 x = flwV r i y) (hb : Below w.heap.size w w1) => cGiv_yes e hx hb)
  generalize cS (flwB r i y) (flwV r i y) = SV at *
  generalize cB (flwB r i y) (flwV r i y) = BV at *
  have A := Lib.hid (Cells.made w [a, b, c, d] 61)
  have Bw := Lib.hid (below_al1 w (.cells ([a, b, c, d] : List Value).toArray 61))
  have Bw0 := Bw
  have R := Lib.hid (fun w1 (hb : Below w.heap.size w w1) => h.below hb)
  have IS := Lib.hid (implHs_any a b c d r _ (R.out _ Bw.out))
  cases hv : vHs r
  · skip
    have E := Lib.hid (FN.out (by unfold flwB; rw [hv]; rfl))
    have HV := Lib.hid hv
    clear h hv FN FY
    go_enter Try.func48, Try.ntmps48
    go_wp2_with fail
    refine IS.out.mono ?_
    rw [HV.out]
    rintro e w1 ⟨rfl, hb⟩
    have Bw := Lib.hid (below_step Bw.out hb)
    have A := Lib.hid (A.out.kept hb)
    clear hb
    have c0 := A.out.at 0 rfl; have c1 := A.out.at 1 rfl; have c2 := A.out.at 2 rfl; have c3 := A.out.at 3 rfl
    go_wp2
    go_ret2
    exact E.out _ (by repeat (first | (with_reducible exact Bw.out) | (with_reducible exact Bw0.out) | (with_reducible refine below_drewN ?_ _) | (with_reducible exact Below.refl _ _) | (with_reducible exact below_al1 _ _)))
  · skip
    have HA := Lib.hid (fun w1 (hb : Below w.heap.size w w1) => hasRoom_any a b c d r i w1 (h.below hb) (HsN.ofV hv).b)
    cases B0 : inN r.W.length i
    · skip
      have E := Lib.hid (FN.out (by unfold flwB; rw [hv, B0]; rfl))
      have HV := Lib.hid hv
      have HI := Lib.hid B0
      clear h hv FN FY B0
      go_enter Try.func48, Try.ntmps48
      go_wp2_with fail
      refine IS.out.mono ?_
      rw [HV.out]
      rintro e w1 ⟨rfl, hb⟩
      have Bw := Lib.hid (below_step Bw.out hb)
      have A := Lib.hid (A.out.kept hb)
      clear hb
      have c0 := A.out.at 0 rfl; have c1 := A.out.at 1 rfl; have c2 := A.out.at 2 rfl; have c3 := A.out.at 3 rfl
      go_wp2_with fail
      refine (HA.out _ Bw.out).mono ?_
      rw [HI.out]
      rintro e w2 ⟨rfl, hb⟩
      have Bw := Lib.hid (below_step Bw.out hb)
      have A := Lib.hid (A.out.kept hb)
      clear hb c0 c1 c2 c3
      have c0 := A.out.at 0 rfl; have c1 := A.out.at 1 rfl; have c2 := A.out.at 2 rfl; have c3 := A.out.at 3 rfl
      go_wp2
      go_ret2
      exact E.out _ (by repeat (first | (with_reducible exact Bw.out) | (with_reducible exact Bw0.out) | (with_reducible refine below_drewN ?_ _) | (with_reducible exact Below.refl _ _) | (with_reducible exact below_al1 _ _)))
    · cases B1 : fin .f32 y
      · skip
        have E := Lib.hid (FN.out (by unfold flwB; rw [hv, B0, B1]; rfl))
        have HV := Lib.hid hv
        have HI := Lib.hid B0
        have H1 := Lib.hid B1
        clear h hv FN FY B0 B1
        go_enter Try.func48, Try.ntmps48
        go_wp2_with fail
        refine IS.out.mono ?_
        rw [HV.out]
        rintro e w1 ⟨rfl, hb⟩
        have Bw := Lib.hid (below_step Bw.out hb)
        have A := Lib.hid (A.out.kept hb)
        clear hb
        have c0 := A.out.at 0 rfl; have c1 := A.out.at 1 rfl; have c2 := A.out.at 2 rfl; have c3 := A.out.at 3 rfl
        go_wp2_with fail
        refine (HA.out _ Bw.out).mono ?_
        rw [HI.out]
        rintro e w2 ⟨rfl, hb⟩
        have Bw := Lib.hid (below_step Bw.out hb)
        have A := Lib.hid (A.out.kept hb)
        clear hb c0 c1 c2 c3
        have c0 := A.out.at 0 rfl; have c1 := A.out.at 1 rfl; have c2 := A.out.at 2 rfl; have c3 := A.out.at 3 rfl
        go_wp2_with fail
        refine (implFinite_any y _).mono ?_
        rw [H1.out]
        rintro e w' ⟨rfl, q2, rfl⟩
        have Bw := Lib.hid (below_drewN Bw.out q2)
        go_wp2
        go_ret2
        exact E.out _ (by repeat (first | (with_reducible exact Bw.out) | (with_reducible exact Bw0.out) | (with_reducible refine below_drewN ?_ _) | (with_reducible exact Below.refl _ _) | (with_reducible exact below_al1 _ _)))
      · skip
        have E := Lib.hid (FY.out (by unfold flwB; rw [hv, B0, B1]; rfl))
        have HV := Lib.hid hv
        have HI := Lib.hid B0
        have H1 := Lib.hid B1
        obtain ⟨x0, o0, k0, x1, o1, k1, x2, o2, k2, e1, e2, rfl, rfl, rfl, rfl, hL⟩ := h.lay (HsN.ofV hv)
        have hin := inN_bd B0
        have hv1 : vHs r = true := hv
        have FL := Lib.hid (fun w1 (hb : Below w.heap.size w w1) => implFlow_any (k0 := k0) (k1 := k1) (k2 := k2) r i y w1 hv1 rfl rfl (hL.below hb) (h.K.below hb) hin)
        have VV := Lib.hid (show flwV r i y = flwTo r i y r.K.length from rfl)
        clear h hv hL hin hv1 FN FY R B1 B0
        go_enter Try.func48, Try.ntmps48
        go_wp2_with fail
        refine IS.out.mono ?_
        rw [HV.out]
        rintro e w1 ⟨rfl, hb⟩
        have Bw := Lib.hid (below_step Bw.out hb)
        have A := Lib.hid (A.out.kept hb)
        clear hb
        have c0 := A.out.at 0 rfl; have c1 := A.out.at 1 rfl; have c2 := A.out.at 2 rfl; have c3 := A.out.at 3 rfl
        go_wp2_with fail
        refine (HA.out _ Bw.out).mono ?_
        rw [HI.out]
        rintro e w2 ⟨rfl, hb⟩
        have Bw := Lib.hid (below_step Bw.out hb)
        have A := Lib.hid (A.out.kept hb)
        clear hb c0 c1 c2 c3
        have c0 := A.out.at 0 rfl; have c1 := A.out.at 1 rfl; have c2 := A.out.at 2 rfl; have c3 := A.out.at 3 rfl
        go_wp2_with fail
        refine (implFinite_any y _).mono ?_
        rw [H1.out]
        rintro e w' ⟨rfl, q2, rfl⟩
        have Bw := Lib.hid (below_drewN Bw.out q2)
        go_wp2_with fail
        refine (FL.out _ Bw.out).mono ?_
        rintro e w3 ⟨s, hs, rfl, hb⟩
        have Bw := Lib.hid (below_step Bw.out hb)
        clear hb
        have SS := Lib.hid (hs.trans VV.out.symm)
        clear hs
        go_wp2_with fail
        first | refine (implNum_any _ _).mono ?_ | (go_at_call 56; refine (implNum_any _ _).mono ?_)
        rintro e w' ⟨rfl, n9, rfl⟩
        go_wp2
        go_ret2
        exact E.out _ _ SS.out (by repeat (first | (with_reducible exact Bw.out) | (with_reducible exact Bw0.out) | (with_reducible refine below_drewN ?_ _) | (with_reducible exact Below.refl _ _) | (with_reducible exact below_al1 _ _)))

end Go.Proofs.Ytjkokhdbkmjenaa
