/- The heat of a house, and what it loses: both sides. -/
import Derived.Test.YtjkokhdbkmjenaaHsI
import Derived.Test.YtjkokhdbkmjenaaDotI
namespace Go.Proofs.Ytjkokhdbkmjenaa
open Go.RowKit
set_option linter.unusedVariables false

/-- what the first k rooms lose -/
def losTo (r : HS) (y : Nat) : Nat → Nat
  | 0 => cn .f32 0
  | k + 1 => fop .add .f32 (losTo r y k) (fop .mul .f32 (r.L.getD k 0) (fop .sub .f32 (r.W.getD k 0) y))
theorem los_step {r : HS} {y k s p q s' : Nat} (h : cn .f32 s = losTo r y k) (f0 : FR .sub .f32 (r.W.getD k 0) y p) (f1 : FR .mul .f32 (r.L.getD k 0) p q) (f2 : FR .add .f32 s q s') : cn .f32 s' = losTo r y (k + 1) := by
  unfold losTo
  rw [f2.1, h, f1.1, f0.1]
  simp only [fopl', fopr']
/-- the cells of a valid house's lists -/
structure HLay (w : World) (n x0 o0 x1 o1 x2 o2 : Nat) (r : HS) : Prop where
  W : ∀ i, i < n → w.cell? ⟨x0, o0 + i, none⟩ = some (.float .f32 (r.W.getD i 0))
  H : ∀ i, i < n → w.cell? ⟨x1, o1 + i, none⟩ = some (.float .f32 (r.H.getD i 0))
  L : ∀ i, i < n → w.cell? ⟨x2, o2 + i, none⟩ = some (.float .f32 (r.L.getD i 0))
theorem HLay.below {w w' : World} {n x0 o0 x1 o1 x2 o2 : Nat} {r : HS} (h : HLay w n x0 o0 x1 o1 x2 o2 r) (hb : Below w.heap.size w w') : HLay w' n x0 o0 x1 o1 x2 o2 r :=
  ⟨fun i hi => (hb.cell (p := ⟨x0, o0 + i, none⟩) (cell_lt (h.W i hi))).trans (h.W i hi), fun i hi => (hb.cell (p := ⟨x1, o1 + i, none⟩) (cell_lt (h.H i hi))).trans (h.H i hi), fun i hi => (hb.cell (p := ⟨x2, o2 + i, none⟩) (cell_lt (h.L i hi))).trans (h.L i hi)⟩
theorem HRow.lay {w : World} {a b c d : Value} {r : HS} (h : HRow w a b c d r) (hn : HsN r) : ∃ x0 o0 k0 x1 o1 k1 x2 o2 k2 e1 e2, a = .slice (some ⟨x0, o0, none⟩) r.W.length k0 ∧ b = .slice (some ⟨x1, o1, none⟩) r.W.length k1 ∧ c = .slice (some ⟨x2, o2, none⟩) r.W.length k2 ∧ d = .slice e1 r.K.length e2 ∧ HLay w r.W.length x0 o0 x1 o1 x2 o2 r := by
  obtain ⟨x0, o0, k0, h0, c0⟩ := h.W.cells hn.a
  obtain ⟨x1, o1, k1, h1, c1⟩ := h.H.cells (by rw [hn.H]; exact hn.a)
  obtain ⟨x2, o2, k2, h2, c2⟩ := h.L.cells (by rw [hn.L]; exact hn.a)
  obtain ⟨e1, e2, h3⟩ := h.K.shape
  rw [hn.H] at h1 c1
  rw [hn.L] at h2 c2
  exact ⟨x0, o0, k0, x1, o1, k1, x2, o2, k2, e1, e2, h0, h1, h2, h3, c0, c1, c2⟩

set_option maxRecDepth 10000 in
set_option maxHeartbeats 1600000 in
theorem specHeatH_any (a b c d : Value) (r : HS) (w : World) (h : HRow w a b c d r) : Calls Try.prog 43 #[.agg #[a, b, c, d]] w (GivB (cS (vHs r) (dotTo r.H r.W r.W.length)) (cB (vHs r) (dotTo r.H r.W r.W.length)) w) := by
  have IS := Lib.hid (specHs_any _ a b c d r _ (Cells.made w [a, b, c, d] 61) (h.below (below_al1 w (.cells ([a, b, c, d] : List Value).toArray 61))))
  have FN := Lib.hid (fun (e : (vHs r) = false) (w1 : World) (hb : Below w.heap.size w w1) => cGiv_no (V := (dotTo r.H r.W r.W.length)) e hb)
  have FY := Lib.hid (fun (e : (vHs r) = true) (x : Nat) (w1 : World) (hx : cn .f32 x = (dotTo r.H r.W r.W.length)) (hb : Below w.heap.size w w1) => cGiv_yes e hx hb)
  generalize cS (vHs r) (dotTo r.H r.W r.W.length) = SV at *
  generalize cB (vHs r) (dotTo r.H r.W r.W.length) = BV at *
  cases hv : vHs r
  · skip
    have E := Lib.hid (FN.out (by simp [hv]))
    have HV := Lib.hid hv
    have A := Lib.hid (Cells.made w [a, b, c, d] 61)
    have Bw := Lib.hid (below_al1 w (.cells ([a, b, c, d] : List Value).toArray 61))
    clear h hv FN FY
    go_enter Try.func43, Try.ntmps43
    go_wp2_with fail
    refine IS.out.mono ?_
    rw [HV.out]
    rintro e w' ⟨rfl, q, rfl⟩
    have Bw := Lib.hid (below_drewN Bw.out q)
    go_wp2
    go_ret2
    exact E.out _ (by repeat (first | (with_reducible exact Bw.out) | (with_reducible refine below_drewN ?_ _) | (with_reducible exact Below.refl _ _) | (with_reducible exact below_al1 _ _)))
  · skip
    obtain ⟨x0, o0, k0, x1, o1, k1, x2, o2, k2, e1, e2, rfl, rfl, rfl, rfl, hL⟩ := h.lay (HsN.ofV hv)
    have HV := Lib.hid hv
    have NN := HsN.ofV hv
    have n1 := NN.a
    have n8 := NN.b
    clear h NN
    have E := Lib.hid (FY.out hv)
    clear hv FN FY
    have ST := Lib.hid (fun k s p s2 h h0 h1 => @dot_step r.H r.W k s p s2 h h0 h1)
    have S0 := Lib.hid (show cn .f32 0 = dotTo r.H r.W 0 from rfl)
    generalize r.W.length = n at *
    generalize r.K.length = m at *
    have A := Lib.hid (Cells.made w [Value.slice (some ⟨x0, o0, none⟩) n k0, .slice (some ⟨x1, o1, none⟩) n k1, .slice (some ⟨x2, o2, none⟩) n k2, .slice e1 m e2] 61)
    have Bw := Lib.hid (below_al1 w (.cells ([Value.slice (some ⟨x0, o0, none⟩) n k0, .slice (some ⟨x1, o1, none⟩) n k1, .slice (some ⟨x2, o2, none⟩) n k2, .slice e1 m e2] : List Value).toArray 61))
    have LY := Lib.hid (hL.below (below_al1 w (.cells ([Value.slice (some ⟨x0, o0, none⟩) n k0, .slice (some ⟨x1, o1, none⟩) n k1, .slice (some ⟨x2, o2, none⟩) n k2, .slice e1 m e2] : List Value).toArray 61)))
    clear hL
    go_enter Try.func43, Try.ntmps43
    go_wp2_with fail
    refine IS.out.mono ?_
    rw [HV.out]
    rintro e w' ⟨rfl, q, rfl⟩
    have Bw := Lib.hid (below_drewN Bw.out q)
    skip
    go_wp2
    go_loopw [4, 5] (fun s i wr => ∃ k s0 : Nat, k ≤ n ∧ i = .int .i64 k ∧ s = .float .f32 s0 ∧ Hid (cn .f32 s0 = dotTo r.H r.W k) ∧ Hid (Below w.heap.size w wr) ∧ Hid (Cells wr w.heap.size [Value.slice (some ⟨x0, o0, none⟩) n k0, .slice (some ⟨x1, o1, none⟩) n k1, .slice (some ⟨x2, o2, none⟩) n k2, .slice e1 m e2]) ∧ Hid (HLay wr n x0 o0 x1 o1 x2 o2 r)) (fun _ i _ => n - (intOf i).toNat)
    case atStart => exact ⟨0, 0, Nat.zero_le _, rfl, rfl, S0, Lib.hid (by repeat (first | (with_reducible exact Bw.out) | (with_reducible refine below_drewN ?_ _) | (with_reducible exact Below.refl _ _) | (with_reducible exact below_al1 _ _))), Lib.hid (by first | exact A.out.kept (below_drewN (Below.refl _ _) _) | exact A.out.kept (below_drewN (below_drewN (Below.refl _ _) _) _)), Lib.hid (by first | exact LY.out.below (below_drewN (Below.refl _ _) _) | exact LY.out.below (below_drewN (below_drewN (Below.refl _ _) _) _))⟩
    case round =>
      obtain ⟨k, s0, hk, rfl, rfl, hs, BwL, AL, LYL⟩ := hrel
      have c0 := AL.out.at 0 rfl; have c1 := AL.out.at 1 rfl; have c2 := AL.out.at 2 rfl; have c3 := AL.out.at 3 rfl
      have gk : n ≤ 8 := n8
      by_cases hlt : k < n
      · skip
        have z0 := LYL.out.W k hlt
        have z1 := LYL.out.H k hlt
        have STk := Lib.hid (ST.out k)
        have hi : (0 : Int) ≤ (k : Int) := by omega
        have hi' : (k : Int) < (n : Int) := by omega
        generalize r.W.getD k 0 = x at *
        generalize r.H.getD k 0 = x' at *
        go_wp2
        refine wp_region_loose (fun _ _ _ => True) (by kernel_rfl) (by kernel_rfl) ?_
        repeat (first | (refine wpLoose_farith rfl _ _ _ _ _ rfl rfl _ _ _ rfl rfl ?_; intro _ _) | (refine wpLoose_valK rfl ?_ (fun w1 hw1 => ?_) (fun K hK => ?_); rotate_left; (focus (obtain ⟨nq, rfl⟩ := hw1; go_simp; first | done | rfl)); go_simp; refine hK _ ?_; clear hK K))
        (refine wpLoose_nil ?_; rintro _ ⟨nq, rfl⟩)
        go_wp2
        go_roundw
        case rel =>
          rename_i r1 f1 r2 f2
          exact ⟨k + 1, r2, by omega, by go_num, rfl, Lib.hid (STk.out _ _ _ hs.out f1 f2), Lib.hid (below_drewN BwL.out _), Lib.hid (AL.out.kept (below_drewN (Below.refl _ _) _)), Lib.hid (LYL.out.below (below_drewN (Below.refl _ _) _))⟩
        case measure => simp [intOf]; omega
      · skip
        have ek := Lib.hid (show k = n by omega)
        go_wp2_with fail
        first | refine (specNum_any _ _).mono ?_ | (go_at_call 63; refine (specNum_any _ _).mono ?_)
        rintro e w' ⟨rfl, n9, rfl⟩
        go_wp2
        go_ret2
        have := ek.out
        subst this
        exact E.out _ _ hs.out (by repeat (first | (with_reducible exact BwL.out) | (with_reducible refine below_drewN ?_ _) | (with_reducible exact Below.refl _ _) | (with_reducible exact below_al1 _ _)))

set_option maxRecDepth 10000 in
set_option maxHeartbeats 1600000 in
theorem implHeatH_any (a b c d : Value) (r : HS) (w : World) (h : HRow w a b c d r) : Calls Try.prog 44 #[.agg #[a, b, c, d]] w (GivB (cS (vHs r) (dotTo r.H r.W r.W.length)) (cB (vHs r) (dotTo r.H r.W r.W.length)) w) := by
  have IS := Lib.hid (implHs_any a b c d r _ (h.below (below_al1 w (.cells ([a, b, c, d] : List Value).toArray 61))))
  have FN := Lib.hid (fun (e : (vHs r) = false) (w1 : World) (hb : Below w.heap.size w w1) => cGiv_no (V := (dotTo r.H r.W r.W.length)) e hb)
  have FY := Lib.hid (fun (e : (vHs r) = true) (x : Nat) (w1 : World) (hx : cn .f32 x = (dotTo r.H r.W r.W.length)) (hb : Below w.heap.size w w1) => cGiv_yes e hx hb)
  generalize cS (vHs r) (dotTo r.H r.W r.W.length) = SV at *
  generalize cB (vHs r) (dotTo r.H r.W r.W.length) = BV at *
  cases hv : vHs r
  · skip
    have E := Lib.hid (FN.out (by simp [hv]))
    have HV := Lib.hid hv
    have A := Lib.hid (Cells.made w [a, b, c, d] 61)
    have Bw := Lib.hid (below_al1 w (.cells ([a, b, c, d] : List Value).toArray 61))
    clear h hv FN FY
    go_enter Try.func44, Try.ntmps44
    go_wp2_with fail
    refine IS.out.mono ?_
    rw [HV.out]
    rintro e w1 ⟨rfl, hb⟩
    have Bw := Lib.hid (below_step Bw.out hb)
    have A := Lib.hid (A.out.kept hb)
    clear hb
    have c0 := A.out.at 0 rfl; have c1 := A.out.at 1 rfl; have c2 := A.out.at 2 rfl; have c3 := A.out.at 3 rfl
    go_wp2
    go_ret2
    exact E.out _ (by repeat (first | (with_reducible exact Bw.out) | (with_reducible refine below_drewN ?_ _) | (with_reducible exact Below.refl _ _) | (with_reducible exact below_al1 _ _)))
  · skip
    obtain ⟨x0, o0, k0, x1, o1, k1, x2, o2, k2, e1, e2, rfl, rfl, rfl, rfl, hL⟩ := h.lay (HsN.ofV hv)
    have HV := Lib.hid hv
    have NN := HsN.ofV hv
    have n1 := NN.a
    have n8 := NN.b
    have DT := Lib.hid (fun w1 (hb : Below w.heap.size w w1) => implDot_any _ _ r.H r.W w1 (h.H.below hb) (h.W.below hb) NN.H (by rw [NN.H]; omega))
    rw [NN.H] at DT
    clear h NN
    have E := Lib.hid (FY.out hv)
    clear hv FN FY
    have ST := Lib.hid (fun k s p s2 h h0 h1 => @dot_step r.H r.W k s p s2 h h0 h1)
    have S0 := Lib.hid (show cn .f32 0 = dotTo r.H r.W 0 from rfl)
    generalize r.W.length = n at *
    generalize r.K.length = m at *
    have A := Lib.hid (Cells.made w [Value.slice (some ⟨x0, o0, none⟩) n k0, .slice (some ⟨x1, o1, none⟩) n k1, .slice (some ⟨x2, o2, none⟩) n k2, .slice e1 m e2] 61)
    have Bw := Lib.hid (below_al1 w (.cells ([Value.slice (some ⟨x0, o0, none⟩) n k0, .slice (some ⟨x1, o1, none⟩) n k1, .slice (some ⟨x2, o2, none⟩) n k2, .slice e1 m e2] : List Value).toArray 61))
    have LY := Lib.hid (hL.below (below_al1 w (.cells ([Value.slice (some ⟨x0, o0, none⟩) n k0, .slice (some ⟨x1, o1, none⟩) n k1, .slice (some ⟨x2, o2, none⟩) n k2, .slice e1 m e2] : List Value).toArray 61)))
    clear hL
    go_enter Try.func44, Try.ntmps44
    go_wp2_with fail
    refine IS.out.mono ?_
    rw [HV.out]
    rintro e w1 ⟨rfl, hb⟩
    have Bw := Lib.hid (below_step Bw.out hb)
    have A := Lib.hid (A.out.kept hb)
    have LY := Lib.hid (LY.out.below hb)
    clear hb
    have c0 := A.out.at 0 rfl; have c1 := A.out.at 1 rfl; have c2 := A.out.at 2 rfl; have c3 := A.out.at 3 rfl
    go_wp2_with fail
    refine (DT.out _ Bw.out).mono ?_
    rintro e w' ⟨s, q3, hs, rfl, rfl⟩
    have SS := Lib.hid hs
    clear hs
    go_wp2_with fail
    first | refine (implNum_any _ _).mono ?_ | (go_at_call 56; refine (implNum_any _ _).mono ?_)
    rintro e w' ⟨rfl, n9, rfl⟩
    go_wp2
    go_ret2
    exact E.out _ _ SS.out (by repeat (first | (with_reducible exact Bw.out) | (with_reducible refine below_drewN ?_ _) | (with_reducible exact Below.refl _ _) | (with_reducible exact below_al1 _ _)))

set_option maxRecDepth 10000 in
set_option maxHeartbeats 1600000 in
theorem specLossH_any (a b c d : Value) (r : HS) (y : Nat) (w : World) (h : HRow w a b c d r) : Calls Try.prog 45 #[.agg #[a, b, c, d], .float .f32 y] w (GivB (cS (vHs r && fin .f32 y) (losTo r y r.W.length)) (cB (vHs r && fin .f32 y) (losTo r y r.W.length)) w) := by
  have IS := Lib.hid (specHs_any _ a b c d r _ (Cells.made w [a, b, c, d] 61) (h.below (below_al1 w (.cells ([a, b, c, d] : List Value).toArray 61))))
  have FN := Lib.hid (fun (e : (vHs r && fin .f32 y) = false) (w1 : World) (hb : Below w.heap.size w w1) => cGiv_no (V := (losTo r y r.W.length)) e hb)
  have FY := Lib.hid (fun (e : (vHs r && fin .f32 y) = true) (x : Nat) (w1 : World) (hx : cn .f32 x = (losTo r y r.W.length)) (hb : Below w.heap.size w w1) => cGiv_yes e hx hb)
  generalize cS (vHs r && fin .f32 y) (losTo r y r.W.length) = SV at *
  generalize cB (vHs r && fin .f32 y) (losTo r y r.W.length) = BV at *
  cases hv : vHs r
  · skip
    have E := Lib.hid (FN.out (by simp [hv]))
    have HV := Lib.hid hv
    have A := Lib.hid (Cells.made w [a, b, c, d] 61)
    have Bw := Lib.hid (below_al1 w (.cells ([a, b, c, d] : List Value).toArray 61))
    clear h hv FN FY
    go_enter Try.func45, Try.ntmps45
    go_wp2_with fail
    refine IS.out.mono ?_
    rw [HV.out]
    rintro e w' ⟨rfl, q, rfl⟩
    have Bw := Lib.hid (below_drewN Bw.out q)
    go_wp2
    go_ret2
    exact E.out _ (by repeat (first | (with_reducible exact Bw.out) | (with_reducible refine below_drewN ?_ _) | (with_reducible exact Below.refl _ _) | (with_reducible exact below_al1 _ _)))
  · skip
    obtain ⟨x0, o0, k0, x1, o1, k1, x2, o2, k2, e1, e2, rfl, rfl, rfl, rfl, hL⟩ := h.lay (HsN.ofV hv)
    have HV := Lib.hid hv
    have NN := HsN.ofV hv
    have n1 := NN.a
    have n8 := NN.b
    clear h NN
    cases B1 : fin .f32 y
    · skip
      have E := Lib.hid (FN.out (by simp [hv, B1]))
      have H1 := Lib.hid B1
      clear hv FN FY B1
      have LY := Lib.hid (hL.below (below_al1 w (.cells ([Value.slice (some ⟨x0, o0, none⟩) r.W.length k0, .slice (some ⟨x1, o1, none⟩) r.W.length k1, .slice (some ⟨x2, o2, none⟩) r.W.length k2, .slice e1 r.K.length e2] : List Value).toArray 61)))
      have A := Lib.hid (Cells.made w [Value.slice (some ⟨x0, o0, none⟩) r.W.length k0, .slice (some ⟨x1, o1, none⟩) r.W.length k1, .slice (some ⟨x2, o2, none⟩) r.W.length k2, .slice e1 r.K.length e2] 61)
      have Bw := Lib.hid (below_al1 w (.cells ([Value.slice (some ⟨x0, o0, none⟩) r.W.length k0, .slice (some ⟨x1, o1, none⟩) r.W.length k1, .slice (some ⟨x2, o2, none⟩) r.W.length k2, .slice e1 r.K.length e2] : List Value).toArray 61))
      go_enter Try.func45, Try.ntmps45
      go_wp2_with fail
      refine IS.out.mono ?_
      rw [HV.out]
      rintro e w' ⟨rfl, q, rfl⟩
      have Bw := Lib.hid (below_drewN Bw.out q)
      go_wp2_with fail
      refine (specFinite_any y _).mono ?_
      rw [H1.out]
      rintro e w' ⟨rfl, q2, rfl⟩
      have Bw := Lib.hid (below_drewN Bw.out q2)
      go_wp2
      go_ret2
      exact E.out _ (by repeat (first | (with_reducible exact Bw.out) | (with_reducible refine below_drewN ?_ _) | (with_reducible exact Below.refl _ _) | (with_reducible exact below_al1 _ _)))
    · skip
      have E := Lib.hid (FY.out (by simp [hv, B1]))
      have H1 := Lib.hid B1
      clear hv FN FY B1
      have ST := Lib.hid (fun k s p q s2 h h0 h1 h2 => @los_step r y k s p q s2 h h0 h1 h2)
      have S0 := Lib.hid (show cn .f32 0 = losTo r y 0 from rfl)
      generalize r.W.length = n at *
      generalize r.K.length = m at *
      have A := Lib.hid (Cells.made w [Value.slice (some ⟨x0, o0, none⟩) n k0, .slice (some ⟨x1, o1, none⟩) n k1, .slice (some ⟨x2, o2, none⟩) n k2, .slice e1 m e2] 61)
      have Bw := Lib.hid (below_al1 w (.cells ([Value.slice (some ⟨x0, o0, none⟩) n k0, .slice (some ⟨x1, o1, none⟩) n k1, .slice (some ⟨x2, o2, none⟩) n k2, .slice e1 m e2] : List Value).toArray 61))
      have LY := Lib.hid (hL.below (below_al1 w (.cells ([Value.slice (some ⟨x0, o0, none⟩) n k0, .slice (some ⟨x1, o1, none⟩) n k1, .slice (some ⟨x2, o2, none⟩) n k2, .slice e1 m e2] : List Value).toArray 61)))
      clear hL
      go_enter Try.func45, Try.ntmps45
      go_wp2_with fail
      refine IS.out.mono ?_
      rw [HV.out]
      rintro e w' ⟨rfl, q, rfl⟩
      have Bw := Lib.hid (below_drewN Bw.out q)
      go_wp2_with fail
      refine (specFinite_any y _).mono ?_
      rw [H1.out]
      rintro e w' ⟨rfl, q2, rfl⟩
      have Bw := Lib.hid (below_drewN Bw.out q2)
      skip
      go_wp2
      go_loopw [6, 7] (fun s i wr => ∃ k s0 : Nat, k ≤ n ∧ i = .int .i64 k ∧ s = .float .f32 s0 ∧ Hid (cn .f32 s0 = losTo r y k) ∧ Hid (Below w.heap.size w wr) ∧ Hid (Cells wr w.heap.size [Value.slice (some ⟨x0, o0, none⟩) n k0, .slice (some ⟨x1, o1, none⟩) n k1, .slice (some ⟨x2, o2, none⟩) n k2, .slice e1 m e2]) ∧ Hid (HLay wr n x0 o0 x1 o1 x2 o2 r)) (fun _ i _ => n - (intOf i).toNat)
      case atStart => exact ⟨0, 0, Nat.zero_le _, rfl, rfl, S0, Lib.hid (by repeat (first | (with_reducible exact Bw.out) | (with_reducible refine below_drewN ?_ _) | (with_reducible exact Below.refl _ _) | (with_reducible exact below_al1 _ _))), Lib.hid (by first | exact A.out.kept (below_drewN (Below.refl _ _) _) | exact A.out.kept (below_drewN (below_drewN (Below.refl _ _) _) _)), Lib.hid (by first | exact LY.out.below (below_drewN (Below.refl _ _) _) | exact LY.out.below (below_drewN (below_drewN (Below.refl _ _) _) _))⟩
      case round =>
        obtain ⟨k, s0, hk, rfl, rfl, hs, BwL, AL, LYL⟩ := hrel
        have c0 := AL.out.at 0 rfl; have c1 := AL.out.at 1 rfl; have c2 := AL.out.at 2 rfl; have c3 := AL.out.at 3 rfl
        have gk : n ≤ 8 := n8
        by_cases hlt : k < n
        · skip
          have z0 := LYL.out.W k hlt
          have z1 := LYL.out.L k hlt
          have STk := Lib.hid (ST.out k)
          have hi : (0 : Int) ≤ (k : Int) := by omega
          have hi' : (k : Int) < (n : Int) := by omega
          generalize r.W.getD k 0 = x at *
          generalize r.L.getD k 0 = x' at *
          go_wp2
          refine wp_region_loose (fun _ _ _ => True) (by kernel_rfl) (by kernel_rfl) ?_
          repeat (first | (refine wpLoose_farith rfl _ _ _ _ _ rfl rfl _ _ _ rfl rfl ?_; intro _ _) | (refine wpLoose_valK rfl ?_ (fun w1 hw1 => ?_) (fun K hK => ?_); rotate_left; (focus (obtain ⟨nq, rfl⟩ := hw1; go_simp; first | done | rfl)); go_simp; refine hK _ ?_; clear hK K))
          (refine wpLoose_nil ?_; rintro _ ⟨nq, rfl⟩)
          go_wp2
          go_roundw
          case rel =>
            rename_i r1 f1 r2 f2 r3 f3
            exact ⟨k + 1, r3, by omega, by go_num, rfl, Lib.hid (STk.out _ _ _ _ hs.out f1 f2 f3), Lib.hid (below_drewN BwL.out _), Lib.hid (AL.out.kept (below_drewN (Below.refl _ _) _)), Lib.hid (LYL.out.below (below_drewN (Below.refl _ _) _))⟩
          case measure => simp [intOf]; omega
        · skip
          have ek := Lib.hid (show k = n by omega)
          go_wp2_with fail
          first | refine (specNum_any _ _).mono ?_ | (go_at_call 63; refine (specNum_any _ _).mono ?_)
          rintro e w' ⟨rfl, n9, rfl⟩
          go_wp2
          go_ret2
          have := ek.out
          subst this
          exact E.out _ _ hs.out (by repeat (first | (with_reducible exact BwL.out) | (with_reducible refine below_drewN ?_ _) | (with_reducible exact Below.refl _ _) | (with_reducible exact below_al1 _ _)))

set_option maxRecDepth 10000 in
set_option maxHeartbeats 1600000 in
theorem implLossH_any (a b c d : Value) (r : HS) (y : Nat) (w : World) (h : HRow w a b c d r) : Calls Try.prog 46 #[.agg #[a, b, c, d], .float .f32 y] w (GivB (cS (vHs r && fin .f32 y) (losTo r y r.W.length)) (cB (vHs r && fin .f32 y) (losTo r y r.W.length)) w) := by
  have IS := Lib.hid (implHs_any a b c d r _ (h.below (below_al1 w (.cells ([a, b, c, d] : List Value).toArray 61))))
  have FN := Lib.hid (fun (e : (vHs r && fin .f32 y) = false) (w1 : World) (hb : Below w.heap.size w w1) => cGiv_no (V := (losTo r y r.W.length)) e hb)
  have FY := Lib.hid (fun (e : (vHs r && fin .f32 y) = true) (x : Nat) (w1 : World) (hx : cn .f32 x = (losTo r y r.W.length)) (hb : Below w.heap.size w w1) => cGiv_yes e hx hb)
  generalize cS (vHs r && fin .f32 y) (losTo r y r.W.length) = SV at *
  generalize cB (vHs r && fin .f32 y) (losTo r y r.W.length) = BV at *
  cases hv : vHs r
  · skip
    have E := Lib.hid (FN.out (by simp [hv]))
    have HV := Lib.hid hv
    have A := Lib.hid (Cells.made w [a, b, c, d] 61)
    have Bw := Lib.hid (below_al1 w (.cells ([a, b, c, d] : List Value).toArray 61))
    clear h hv FN FY
    go_enter Try.func46, Try.ntmps46
    go_wp2_with fail
    refine IS.out.mono ?_
    rw [HV.out]
    rintro e w1 ⟨rfl, hb⟩
    have Bw := Lib.hid (below_step Bw.out hb)
    have A := Lib.hid (A.out.kept hb)
    clear hb
    have c0 := A.out.at 0 rfl; have c1 := A.out.at 1 rfl; have c2 := A.out.at 2 rfl; have c3 := A.out.at 3 rfl
    go_wp2
    go_ret2
    exact E.out _ (by repeat (first | (with_reducible exact Bw.out) | (with_reducible refine below_drewN ?_ _) | (with_reducible exact Below.refl _ _) | (with_reducible exact below_al1 _ _)))
  · skip
    obtain ⟨x0, o0, k0, x1, o1, k1, x2, o2, k2, e1, e2, rfl, rfl, rfl, rfl, hL⟩ := h.lay (HsN.ofV hv)
    have HV := Lib.hid hv
    have NN := HsN.ofV hv
    have n1 := NN.a
    have n8 := NN.b
    clear h NN
    cases B1 : fin .f32 y
    · skip
      have E := Lib.hid (FN.out (by simp [hv, B1]))
      have H1 := Lib.hid B1
      clear hv FN FY B1
      have LY := Lib.hid (hL.below (below_al1 w (.cells ([Value.slice (some ⟨x0, o0, none⟩) r.W.length k0, .slice (some ⟨x1, o1, none⟩) r.W.length k1, .slice (some ⟨x2, o2, none⟩) r.W.length k2, .slice e1 r.K.length e2] : List Value).toArray 61)))
      have A := Lib.hid (Cells.made w [Value.slice (some ⟨x0, o0, none⟩) r.W.length k0, .slice (some ⟨x1, o1, none⟩) r.W.length k1, .slice (some ⟨x2, o2, none⟩) r.W.length k2, .slice e1 r.K.length e2] 61)
      have Bw := Lib.hid (below_al1 w (.cells ([Value.slice (some ⟨x0, o0, none⟩) r.W.length k0, .slice (some ⟨x1, o1, none⟩) r.W.length k1, .slice (some ⟨x2, o2, none⟩) r.W.length k2, .slice e1 r.K.length e2] : List Value).toArray 61))
      go_enter Try.func46, Try.ntmps46
      go_wp2_with fail
      refine IS.out.mono ?_
      rw [HV.out]
      rintro e w1 ⟨rfl, hb⟩
      have Bw := Lib.hid (below_step Bw.out hb)
      have A := Lib.hid (A.out.kept hb)
      clear hb
      have c0 := A.out.at 0 rfl; have c1 := A.out.at 1 rfl; have c2 := A.out.at 2 rfl; have c3 := A.out.at 3 rfl
      go_wp2_with fail
      refine (implFinite_any y _).mono ?_
      rw [H1.out]
      rintro e w' ⟨rfl, q2, rfl⟩
      have Bw := Lib.hid (below_drewN Bw.out q2)
      go_wp2
      go_ret2
      exact E.out _ (by repeat (first | (with_reducible exact Bw.out) | (with_reducible refine below_drewN ?_ _) | (with_reducible exact Below.refl _ _) | (with_reducible exact below_al1 _ _)))
    · skip
      have E := Lib.hid (FY.out (by simp [hv, B1]))
      have H1 := Lib.hid B1
      clear hv FN FY B1
      have ST := Lib.hid (fun k s p q s2 h h0 h1 h2 => @los_step r y k s p q s2 h h0 h1 h2)
      have S0 := Lib.hid (show cn .f32 0 = losTo r y 0 from rfl)
      generalize r.W.length = n at *
      generalize r.K.length = m at *
      have A := Lib.hid (Cells.made w [Value.slice (some ⟨x0, o0, none⟩) n k0, .slice (some ⟨x1, o1, none⟩) n k1, .slice (some ⟨x2, o2, none⟩) n k2, .slice e1 m e2] 61)
      have Bw := Lib.hid (below_al1 w (.cells ([Value.slice (some ⟨x0, o0, none⟩) n k0, .slice (some ⟨x1, o1, none⟩) n k1, .slice (some ⟨x2, o2, none⟩) n k2, .slice e1 m e2] : List Value).toArray 61))
      have LY := Lib.hid (hL.below (below_al1 w (.cells ([Value.slice (some ⟨x0, o0, none⟩) n k0, .slice (some ⟨x1, o1, none⟩) n k1, .slice (some ⟨x2, o2, none⟩) n k2, .slice e1 m e2] : List Value).toArray 61)))
      clear hL
      go_enter Try.func46, Try.ntmps46
      go_wp2_with fail
      refine IS.out.mono ?_
      rw [HV.out]
      rintro e w1 ⟨rfl, hb⟩
      have Bw := Lib.hid (below_step Bw.out hb)
      have A := Lib.hid (A.out.kept hb)
      have LY := Lib.hid (LY.out.below hb)
      clear hb
      have c0 := A.out.at 0 rfl; have c1 := A.out.at 1 rfl; have c2 := A.out.at 2 rfl; have c3 := A.out.at 3 rfl
      go_wp2_with fail
      refine (implFinite_any y _).mono ?_
      rw [H1.out]
      rintro e w' ⟨rfl, q2, rfl⟩
      have Bw := Lib.hid (below_drewN Bw.out q2)
      go_wp2
      go_loopw [6, 7, 8, 20] (fun s _ _ i wr => ∃ k s0 : Nat, k ≤ n ∧ i = .int .i64 k ∧ s = .float .f32 s0 ∧ Hid (cn .f32 s0 = losTo r y k) ∧ Hid (Below w.heap.size w wr) ∧ Hid (Cells wr w.heap.size [Value.slice (some ⟨x0, o0, none⟩) n k0, .slice (some ⟨x1, o1, none⟩) n k1, .slice (some ⟨x2, o2, none⟩) n k2, .slice e1 m e2]) ∧ Hid (HLay wr n x0 o0 x1 o1 x2 o2 r)) (fun _ _ _ i _ => n - (intOf i).toNat)
      case atStart => exact ⟨0, 0, Nat.zero_le _, rfl, rfl, S0, Lib.hid (by repeat (first | (with_reducible exact Bw.out) | (with_reducible refine below_drewN ?_ _) | (with_reducible exact Below.refl _ _) | (with_reducible exact below_al1 _ _))), Lib.hid (A.out.kept (below_drewN (Below.refl _ _) _)), Lib.hid (LY.out.below (below_drewN (Below.refl _ _) _))⟩
      case round =>
        obtain ⟨k, s0, hk, rfl, rfl, hs, BwL, AL, LYL⟩ := hrel
        clear c0 c1 c2 c3
        have c0 := AL.out.at 0 rfl; have c1 := AL.out.at 1 rfl; have c2 := AL.out.at 2 rfl; have c3 := AL.out.at 3 rfl
        have gk : n ≤ 8 := n8
        by_cases hlt : k < n
        · skip
          have z0 := LYL.out.W k hlt
          have z1 := LYL.out.L k hlt
          have STk := Lib.hid (ST.out k)
          have hi : (0 : Int) ≤ (k : Int) := by omega
          have hi' : (k : Int) < (n : Int) := by omega
          generalize r.W.getD k 0 = x at *
          generalize r.L.getD k 0 = x' at *
          go_wp2_with (refine wpList_farith rfl _ _ _ _ _ rfl rfl _ _ _ rfl rfl ?_; intro r0 j0 g0; have f0 := Lib.hid g0; clear g0; refine Stop.go ?_)
          refine Stop.mk ?_
          go_wp2_with (refine wpList_farith rfl _ _ _ _ _ rfl rfl _ _ _ rfl rfl ?_; intro r1 j1 g1; have f1 := Lib.hid g1; clear g1; refine Stop.go ?_)
          refine Stop.mk ?_
          go_wp2_with (refine wpList_farith rfl _ _ _ _ _ rfl rfl _ _ _ rfl rfl ?_; intro r2 j2 g2; have f2 := Lib.hid g2; clear g2; refine Stop.go ?_)
          refine Stop.mk ?_
          go_wp2
          go_roundw
          case rel => exact ⟨k + 1, r2, by omega, by go_num, rfl, Lib.hid (STk.out _ _ _ _ hs.out f0.out f1.out f2.out), Lib.hid (by repeat (first | (with_reducible exact BwL.out) | (with_reducible refine below_drewN ?_ _) | (with_reducible exact Below.refl _ _) | (with_reducible exact below_al1 _ _))), Lib.hid (AL.out.kept (by repeat (first | (with_reducible exact Below.refl _ _) | (with_reducible refine below_drewN ?_ _)))), Lib.hid (LYL.out.below (by repeat (first | (with_reducible exact Below.refl _ _) | (with_reducible refine below_drewN ?_ _))))⟩
          case measure => simp [intOf]; omega
        · skip
          have ek := Lib.hid (show k = n by omega)
          go_wp2_with fail
          first | refine (implNum_any _ _).mono ?_ | (go_at_call 56; refine (implNum_any _ _).mono ?_)
          rintro e w' ⟨rfl, n9, rfl⟩
          go_wp2
          go_ret2
          have := ek.out
          subst this
          exact E.out _ _ hs.out (by repeat (first | (with_reducible exact BwL.out) | (with_reducible refine below_drewN ?_ _) | (with_reducible exact Below.refl _ _) | (with_reducible exact below_al1 _ _)))

end Go.Proofs.Ytjkokhdbkmjenaa
