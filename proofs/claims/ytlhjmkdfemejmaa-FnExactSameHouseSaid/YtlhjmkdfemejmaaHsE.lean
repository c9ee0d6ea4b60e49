/- Whether two houses are the same: both sides. -/
import Derived.Test.YtlhjmkdfemejmaaSmK
import Derived.Test.YtlhjmkdfemejmaaOpenHs
import Derived.Test.YtlhjmkdfemejmaaSameL
namespace Go.Proofs.Ytlhjmkdfemejmaa
open Go.RowKit
set_option linter.unusedVariables false

def sameH (r s : HS) : Bool := smL r.W s.W && smL r.H s.H && smL r.L s.L && sameLL r.K s.K
theorem FRow_injH {w : World} {v : Value} {zs ys : List Nat} (h : FRow w v zs) (h' : FRow w v ys) : zs = ys := by
  obtain ⟨a, c, e⟩ := h.shape
  obtain ⟨a', c', e'⟩ := h'.shape
  have hl : zs.length = ys.length := by rw [e] at e'; simp at e'; exact e'.2.1
  by_cases h0 : zs.length = 0
  · have hz := List.length_eq_zero_iff.1 h0
    have hy := List.length_eq_zero_iff.1 (show ys.length = 0 by omega)
    rw [hz, hy]
  · obtain ⟨b, o, k, e1, hc⟩ := h.cells (by omega)
    obtain ⟨b', o', k', e2, hc'⟩ := h'.cells (by omega)
    rw [e1] at e2
    simp at e2
    obtain ⟨⟨rfl, rfl⟩, _, _⟩ := e2
    refine List.ext_getElem hl fun i h1 h2 => ?_
    have := (hc i h1).symm.trans (hc' i h2)
    simpa [List.getD_eq_getElem?_getD, h1, h2] using this
/-- what the comparison of two lists of numbers hands back -/
def SgH (w : World) (_f : FuncId) (args : Array Value) (v : Value) : Prop := ∀ zs ys, FRow w (args.getD 0 undef) zs → FRow w (args.getD 1 undef) ys → Wf zs → Wf ys → v = .bool (smL zs ys)
theorem SgH.of {w : World} {f : FuncId} {a b : Value} {zs ys : List Nat} (h : FRow w a zs) (h' : FRow w b ys) : SgH w f #[a, b] (.bool (smL zs ys)) := by
  intro zs' ys' k k' _ _
  rw [FRow_injH h k, FRow_injH h' k']

set_option maxRecDepth 10000 in
set_option maxHeartbeats 1600000 in
theorem implSameH_any (a b c d a' b' c' d' : Value) (r s : HS) (w : World) (h : HRow w a b c d r) (h' : HRow w a' b' c' d' s) (wr : HWf r) (ws : HWf s) : Calls Try.prog 51 #[.agg #[a, b, c, d], .agg #[a', b', c', d']] w (BolB (sameH r s) w) := by
  have WW := Lib.hid (And.intro wr ws)
  have HH := Lib.hid (fun w1 (hb : Below w.heap.size w w1) => And.intro (h.below hb) (h'.below hb))
  clear h h' wr ws
  have A := Lib.hid ((Cells.made w (hvs a b c d) 70).al (.cells (hvs a' b' c' d').toArray 70))
  have X := Cells.made (w.alloc (.cells (hvs a b c d).toArray 70)) (hvs a' b' c' d') 70
  rw [show (w.alloc (.cells (hvs a b c d).toArray 70)).heap.size = w.heap.size + 1 from by simp] at X
  have X := Lib.hid X
  have Bw := Lib.hid (below_al2 w (.cells (hvs a b c d).toArray 70) (.cells (hvs a' b' c' d').toArray 70))
  have VB : Hid (sameH r s = (smL r.W s.W && smL r.H s.H && smL r.L s.L && sameLL r.K s.K)) := Lib.hid rfl
  generalize sameH r s = B at *
  have c0 := A.out.at 0 rfl
  have c1 := A.out.at 1 rfl
  have c2 := A.out.at 2 rfl
  have c3 := A.out.at 3 rfl
  have x0 := X.out.at 0 rfl
  have x1 := X.out.at 1 rfl
  have x2 := X.out.at 2 rfl
  have x3 := X.out.at 3 rfl
  cases B0 : smL r.W s.W
  · skip
    have V := Lib.hid (show B = false by rw [VB.out]; simp [B0])
    have H0 := Lib.hid B0
    clear VB B0
    go_enter Try.func51, Try.ntmps51
    go_wp2_with fail
    refine (eqFunc_any _ _ r.W s.W _ (HH.out _ (by repeat (first | (with_reducible exact Below.refl _ _) | (with_reducible exact Bw.out) | (with_reducible refine below_drewN ?_ _)))).1.W (HH.out _ (by repeat (first | (with_reducible exact Below.refl _ _) | (with_reducible exact Bw.out) | (with_reducible refine below_drewN ?_ _)))).2.W WW.out.1.W WW.out.2.W).mono ?_
    rw [H0.out]
    rintro e w' ⟨rfl, n0, rfl⟩
    go_wp2
    go_ret
    exact ⟨ret_bb V.out, (by repeat (first | (with_reducible exact Below.refl _ _) | (with_reducible exact Bw.out) | (with_reducible refine below_drewN ?_ _)))⟩
  · cases B1 : smL r.H s.H
    · skip
      have V := Lib.hid (show B = false by rw [VB.out]; simp [B0, B1])
      have H0 := Lib.hid B0
      have H1 := Lib.hid B1
      clear VB B0 B1
      go_enter Try.func51, Try.ntmps51
      go_wp2_with fail
      refine (eqFunc_any _ _ r.W s.W _ (HH.out _ (by repeat (first | (with_reducible exact Below.refl _ _) | (with_reducible exact Bw.out) | (with_reducible refine below_drewN ?_ _)))).1.W (HH.out _ (by repeat (first | (with_reducible exact Below.refl _ _) | (with_reducible exact Bw.out) | (with_reducible refine below_drewN ?_ _)))).2.W WW.out.1.W WW.out.2.W).mono ?_
      rw [H0.out]
      rintro e w' ⟨rfl, n0, rfl⟩
      go_wp2_with fail
      refine (eqFunc_any _ _ r.H s.H _ (HH.out _ (by repeat (first | (with_reducible exact Below.refl _ _) | (with_reducible exact Bw.out) | (with_reducible refine below_drewN ?_ _)))).1.H (HH.out _ (by repeat (first | (with_reducible exact Below.refl _ _) | (with_reducible exact Bw.out) | (with_reducible refine below_drewN ?_ _)))).2.H WW.out.1.H WW.out.2.H).mono ?_
      rw [H1.out]
      rintro e w' ⟨rfl, n1, rfl⟩
      go_wp2
      go_ret
      exact ⟨ret_bb V.out, (by repeat (first | (with_reducible exact Below.refl _ _) | (with_reducible exact Bw.out) | (with_reducible refine below_drewN ?_ _)))⟩
    · cases B2 : smL r.L s.L
      · skip
        have V := Lib.hid (show B = false by rw [VB.out]; simp [B0, B1, B2])
        have H0 := Lib.hid B0
        have H1 := Lib.hid B1
        have H2 := Lib.hid B2
        clear VB B0 B1 B2
        go_enter Try.func51, Try.ntmps51
        go_wp2_with fail
        refine (eqFunc_any _ _ r.W s.W _ (HH.out _ (by repeat (first | (with_reducible exact Below.refl _ _) | (with_reducible exact Bw.out) | (with_reducible refine below_drewN ?_ _)))).1.W (HH.out _ (by repeat (first | (with_reducible exact Below.refl _ _) | (with_reducible exact Bw.out) | (with_reducible refine below_drewN ?_ _)))).2.W WW.out.1.W WW.out.2.W).mono ?_
        rw [H0.out]
        rintro e w' ⟨rfl, n0, rfl⟩
        go_wp2_with fail
        refine (eqFunc_any _ _ r.H s.H _ (HH.out _ (by repeat (first | (with_reducible exact Below.refl _ _) | (with_reducible exact Bw.out) | (with_reducible refine below_drewN ?_ _)))).1.H (HH.out _ (by repeat (first | (with_reducible exact Below.refl _ _) | (with_reducible exact Bw.out) | (with_reducible refine below_drewN ?_ _)))).2.H WW.out.1.H WW.out.2.H).mono ?_
        rw [H1.out]
        rintro e w' ⟨rfl, n1, rfl⟩
        go_wp2_with fail
        refine (eqFunc_any _ _ r.L s.L _ (HH.out _ (by repeat (first | (with_reducible exact Below.refl _ _) | (with_reducible exact Bw.out) | (with_reducible refine below_drewN ?_ _)))).1.L (HH.out _ (by repeat (first | (with_reducible exact Below.refl _ _) | (with_reducible exact Bw.out) | (with_reducible refine below_drewN ?_ _)))).2.L WW.out.1.L WW.out.2.L).mono ?_
        rw [H2.out]
        rintro e w' ⟨rfl, n2, rfl⟩
        go_wp2
        go_ret
        exact ⟨ret_bb V.out, (by repeat (first | (with_reducible exact Below.refl _ _) | (with_reducible exact Bw.out) | (with_reducible refine below_drewN ?_ _)))⟩
      · skip
        have V := Lib.hid (show B = sameLL r.K s.K by rw [VB.out]; simp [B0, B1, B2])
        have H0 := Lib.hid B0
        have H1 := Lib.hid B1
        have H2 := Lib.hid B2
        clear VB B0 B1 B2
        go_enter Try.func51, Try.ntmps51
        go_wp2_with fail
        refine (eqFunc_any _ _ r.W s.W _ (HH.out _ (by repeat (first | (with_reducible exact Below.refl _ _) | (with_reducible exact Bw.out) | (with_reducible refine below_drewN ?_ _)))).1.W (HH.out _ (by repeat (first | (with_reducible exact Below.refl _ _) | (with_reducible exact Bw.out) | (with_reducible refine below_drewN ?_ _)))).2.W WW.out.1.W WW.out.2.W).mono ?_
        rw [H0.out]
        rintro e w' ⟨rfl, n0, rfl⟩
        go_wp2_with fail
        refine (eqFunc_any _ _ r.H s.H _ (HH.out _ (by repeat (first | (with_reducible exact Below.refl _ _) | (with_reducible exact Bw.out) | (with_reducible refine below_drewN ?_ _)))).1.H (HH.out _ (by repeat (first | (with_reducible exact Below.refl _ _) | (with_reducible exact Bw.out) | (with_reducible refine below_drewN ?_ _)))).2.H WW.out.1.H WW.out.2.H).mono ?_
        rw [H1.out]
        rintro e w' ⟨rfl, n1, rfl⟩
        go_wp2_with fail
        refine (eqFunc_any _ _ r.L s.L _ (HH.out _ (by repeat (first | (with_reducible exact Below.refl _ _) | (with_reducible exact Bw.out) | (with_reducible refine below_drewN ?_ _)))).1.L (HH.out _ (by repeat (first | (with_reducible exact Below.refl _ _) | (with_reducible exact Bw.out) | (with_reducible refine below_drewN ?_ _)))).2.L WW.out.1.L WW.out.2.L).mono ?_
        rw [H2.out]
        rintro e w' ⟨rfl, n2, rfl⟩
        go_wp2_with fail
        refine (eqfL_any _ _ r.K s.K _ (HH.out _ (by repeat (first | (with_reducible exact Below.refl _ _) | (with_reducible exact Bw.out) | (with_reducible refine below_drewN ?_ _)))).1.K (HH.out _ (by repeat (first | (with_reducible exact Below.refl _ _) | (with_reducible exact Bw.out) | (with_reducible refine below_drewN ?_ _)))).2.K WW.out.1.K WW.out.2.K).mono ?_
        rw [← V.out]
        rintro e w1 ⟨rfl, hb⟩
        have Bw := Lib.hid (show Below w.heap.size w w1 from below_step (by repeat (first | (with_reducible exact Below.refl _ _) | (with_reducible exact Bw.out) | (with_reducible refine below_drewN ?_ _))) hb)
        go_wp2
        go_ret
        exact ⟨ret_bb rfl, Bw.out⟩

set_option maxRecDepth 20000 in
set_option maxHeartbeats 3200000 in
theorem specSameH_any (a b c d a' b' c' d' : Value) (r s : HS) (p q : Nat) (w : World) (A0 : Cells w p (hvs a b c d)) (X0 : Cells w q (hvs a' b' c' d')) (h : HRow w a b c d r) (h' : HRow w a' b' c' d' s) (wr : HWf r) (ws : HWf s) : Calls Try.prog 107 #[.pointer (some ⟨p, 0, none⟩), .pointer (some ⟨q, 0, none⟩)] w (Bol (sameH r s) w) := by
  have c0 := A0.at 0 rfl
  have c1 := A0.at 1 rfl
  have c2 := A0.at 2 rfl
  have c3 := A0.at 3 rfl
  have x0 := X0.at 0 rfl
  have x1 := X0.at 1 rfl
  have x2 := X0.at 2 rfl
  have x3 := X0.at 3 rfl
  have WW := Lib.hid (And.intro wr ws)
  have RR := Lib.hid (And.intro h h')
  have VB : Hid (sameH r s = (smL r.W s.W && smL r.H s.H && smL r.L s.L && sameLL r.K s.K)) := Lib.hid rfl
  have VL := Lib.hid (fun hl => @sameLL_len r.K s.K hl)
  have VS0 := Lib.hid (fun k x y (hs : r.K[k]? = some x) (ht : s.K[k]? = some y) (e : sameL x y = false) => sameLL_no hs ht e)
  have VN0 := Lib.hid (fun hl h => @sameLL_yes r.K s.K hl h)
  have HC := Lib.hid (fun (hn : 1 ≤ r.K.length) => h.K.cells LK.len hn)
  have HC' := Lib.hid (fun (hn : 1 ≤ s.K.length) => h'.K.cells LK.len hn)
  have AT := Lib.hid (fun k (hk : k < r.K.length) => LK.at (zs := r.K) hk)
  have AT' := Lib.hid (fun k (hk : k < s.K.length) => LK.at (zs := s.K) hk)
  have WK := Lib.hid (fun k x y (hs : r.K[k]? = some x) (ht : s.K[k]? = some y) => And.intro (wr.K x (List.mem_of_getElem? hs)) (ws.K y (List.mem_of_getElem? ht)))
  have HL := Lib.hid h.K.len
  have HL2 := Lib.hid h'.K.len
  obtain ⟨i1, i2, rfl⟩ := h.W.shape
  obtain ⟨i3, i4, rfl⟩ := h'.W.shape
  obtain ⟨j1, j2, rfl⟩ := h.H.shape
  obtain ⟨j3, j4, rfl⟩ := h'.H.shape
  obtain ⟨l1, l2, rfl⟩ := h.L.shape
  obtain ⟨l3, l4, rfl⟩ := h'.L.shape
  obtain ⟨d1, d2, rfl⟩ := h.K.shape
  obtain ⟨e1, e2, rfl⟩ := h'.K.shape
  clear A0 X0 h h' wr ws
  generalize sameH r s = B at *
  cases B0 : smL r.W s.W
  · skip
    have V := Lib.hid (show B = false by rw [VB.out]; simp [B0])
    have H0 := Lib.hid B0
    clear VB VL VS0 VN0 HC HC' AT AT' WK B0
    generalize r.W.length = nw at *
    generalize s.W.length = nw' at *
    generalize r.H.length = nh at *
    generalize s.H.length = nh' at *
    generalize r.L.length = nl at *
    generalize s.L.length = nl' at *
    generalize r.K.length = nk at *
    generalize s.K.length = nk' at *
    go_enter Try.func107, Try.ntmps107
    go_wp2
    refine wp_region_loose (SgH w) (by kernel_rfl) (by kernel_rfl) ?_
    try simp only [List.append]
    repeat ((with_reducible refine wpLoose_cons ?_); (first | ((with_reducible refine wpLoose_skip ?_ ?_); (focus (go_simp; done)); intro K hK; go_simp; refine hK _ ?_; clear hK K) | (refine wpLoose_farithG ?_ _ _ _ _ _ rfl rfl _ _ _ rfl rfl ?_; (focus (go_simp; done)); intro _ _) | (refine wpLoose_valG ?_ ?_ (fun w1 hw1 => ?_) (fun K hK => ?_); (focus (go_simp; done)); rotate_left; (focus (obtain ⟨nq, rfl⟩ := hw1; go_simp; first | done | rfl)); go_simp; refine hK _ ?_; clear hK K) | fail))
    refine wpLoose_callG ?_ 150 #[.slice i1 nw i2, .slice i3 nw' i4] (fun w1 => ?_) (fun w1 hw1 => ?_) (fun v1 hv1 => ?_)
    · go_simp
    · go_simp
    · obtain ⟨nq, rfl⟩ := hw1
      refine (sameAll_any _ _ r.W s.W _ (FRow.drewN RR.out.1.W) (FRow.drewN RR.out.2.W) WW.out.1.W WW.out.2.W).mono ?_
      rintro e w2 ⟨rfl, n, rfl⟩
      exact ⟨_, rfl, SgH.of RR.out.1.W RR.out.2.W, n, rfl⟩
    have hv2 := hv1 _ _ RR.out.1.W RR.out.2.W WW.out.1.W WW.out.2.W
    clear hv1
    rw [H0.out] at hv2
    subst hv2
    repeat ((with_reducible refine wpLoose_cons ?_); (first | ((with_reducible refine wpLoose_skip ?_ ?_); (focus (go_simp; done)); intro K hK; go_simp; refine hK _ ?_; clear hK K) | (refine wpLoose_farithG ?_ _ _ _ _ _ rfl rfl _ _ _ rfl rfl ?_; (focus (go_simp; done)); intro _ _) | (refine wpLoose_valG ?_ ?_ (fun w1 hw1 => ?_) (fun K hK => ?_); (focus (go_simp; done)); rotate_left; (focus (obtain ⟨nq, rfl⟩ := hw1; go_simp; first | done | rfl)); go_simp; refine hK _ ?_; clear hK K) | fail))
    (refine wpLoose_nil ?_; rintro _ ⟨nq, rfl⟩)
    go_wp2
    go_ret
    exact ⟨ret_b V.out, _, by first | rfl | rw [World.drewN_drewN]⟩
  · cases B1 : smL r.H s.H
    · skip
      have V := Lib.hid (show B = false by rw [VB.out]; simp [B0, B1])
      have H0 := Lib.hid B0
      have H1 := Lib.hid B1
      clear VB VL VS0 VN0 HC HC' AT AT' WK B0 B1
      generalize r.W.length = nw at *
      generalize s.W.length = nw' at *
      generalize r.H.length = nh at *
      generalize s.H.length = nh' at *
      generalize r.L.length = nl at *
      generalize s.L.length = nl' at *
      generalize r.K.length = nk at *
      generalize s.K.length = nk' at *
      go_enter Try.func107, Try.ntmps107
      go_wp2
      refine wp_region_loose (SgH w) (by kernel_rfl) (by kernel_rfl) ?_
      try simp only [List.append]
      repeat ((with_reducible refine wpLoose_cons ?_); (first | ((with_reducible refine wpLoose_skip ?_ ?_); (focus (go_simp; done)); intro K hK; go_simp; refine hK _ ?_; clear hK K) | (refine wpLoose_farithG ?_ _ _ _ _ _ rfl rfl _ _ _ rfl rfl ?_; (focus (go_simp; done)); intro _ _) | (refine wpLoose_valG ?_ ?_ (fun w1 hw1 => ?_) (fun K hK => ?_); (focus (go_simp; done)); rotate_left; (focus (obtain ⟨nq, rfl⟩ := hw1; go_simp; first | done | rfl)); go_simp; refine hK _ ?_; clear hK K) | fail))
      refine wpLoose_callG ?_ 150 #[.slice i1 nw i2, .slice i3 nw' i4] (fun w1 => ?_) (fun w1 hw1 => ?_) (fun v1 hv1 => ?_)
      · go_simp
      · go_simp
      · obtain ⟨nq, rfl⟩ := hw1
        refine (sameAll_any _ _ r.W s.W _ (FRow.drewN RR.out.1.W) (FRow.drewN RR.out.2.W) WW.out.1.W WW.out.2.W).mono ?_
        rintro e w2 ⟨rfl, n, rfl⟩
        exact ⟨_, rfl, SgH.of RR.out.1.W RR.out.2.W, n, rfl⟩
      have hv2 := hv1 _ _ RR.out.1.W RR.out.2.W WW.out.1.W WW.out.2.W
      clear hv1
      rw [H0.out] at hv2
      subst hv2
      repeat ((with_reducible refine wpLoose_cons ?_); (first | ((with_reducible refine wpLoose_skip ?_ ?_); (focus (go_simp; done)); intro K hK; go_simp; refine hK _ ?_; clear hK K) | (refine wpLoose_farithG ?_ _ _ _ _ _ rfl rfl _ _ _ rfl rfl ?_; (focus (go_simp; done)); intro _ _) | (refine wpLoose_valG ?_ ?_ (fun w1 hw1 => ?_) (fun K hK => ?_); (focus (go_simp; done)); rotate_left; (focus (obtain ⟨nq, rfl⟩ := hw1; go_simp; first | done | rfl)); go_simp; refine hK _ ?_; clear hK K) | fail))
      refine wpLoose_callG ?_ 150 #[.slice j1 nh j2, .slice j3 nh' j4] (fun w1 => ?_) (fun w1 hw1 => ?_) (fun v1 hv1 => ?_)
      · go_simp
      · go_simp
      · obtain ⟨nq, rfl⟩ := hw1
        refine (sameAll_any _ _ r.H s.H _ (FRow.drewN RR.out.1.H) (FRow.drewN RR.out.2.H) WW.out.1.H WW.out.2.H).mono ?_
        rintro e w2 ⟨rfl, n, rfl⟩
        exact ⟨_, rfl, SgH.of RR.out.1.H RR.out.2.H, n, rfl⟩
      have hv2 := hv1 _ _ RR.out.1.H RR.out.2.H WW.out.1.H WW.out.2.H
      clear hv1
      rw [H1.out] at hv2
      subst hv2
      repeat ((with_reducible refine wpLoose_cons ?_); (first | ((with_reducible refine wpLoose_skip ?_ ?_); (focus (go_simp; done)); intro K hK; go_simp; refine hK _ ?_; clear hK K) | (refine wpLoose_farithG ?_ _ _ _ _ _ rfl rfl _ _ _ rfl rfl ?_; (focus (go_simp; done)); intro _ _) | (refine wpLoose_valG ?_ ?_ (fun w1 hw1 => ?_) (fun K hK => ?_); (focus (go_simp; done)); rotate_left; (focus (obtain ⟨nq, rfl⟩ := hw1; go_simp; first | done | rfl)); go_simp; refine hK _ ?_; clear hK K) | fail))
      (refine wpLoose_nil ?_; rintro _ ⟨nq, rfl⟩)
      go_wp2
      go_ret
      exact ⟨ret_b V.out, _, by first | rfl | rw [World.drewN_drewN]⟩
    · cases B2 : smL r.L s.L
      · skip
        have V := Lib.hid (show B = false by rw [VB.out]; simp [B0, B1, B2])
        have H0 := Lib.hid B0
        have H1 := Lib.hid B1
        have H2 := Lib.hid B2
        clear VB VL VS0 VN0 HC HC' AT AT' WK B0 B1 B2
        generalize r.W.length = nw at *
        generalize s.W.length = nw' at *
        generalize r.H.length = nh at *
        generalize s.H.length = nh' at *
        generalize r.L.length = nl at *
        generalize s.L.length = nl' at *
        generalize r.K.length = nk at *
        generalize s.K.length = nk' at *
        go_enter Try.func107, Try.ntmps107
        go_wp2
        refine wp_region_loose (SgH w) (by kernel_rfl) (by kernel_rfl) ?_
        try simp only [List.append]
        repeat ((with_reducible refine wpLoose_cons ?_); (first | ((with_reducible refine wpLoose_skip ?_ ?_); (focus (go_simp; done)); intro K hK; go_simp; refine hK _ ?_; clear hK K) | (refine wpLoose_farithG ?_ _ _ _ _ _ rfl rfl _ _ _ rfl rfl ?_; (focus (go_simp; done)); intro _ _) | (refine wpLoose_valG ?_ ?_ (fun w1 hw1 => ?_) (fun K hK => ?_); (focus (go_simp; done)); rotate_left; (focus (obtain ⟨nq, rfl⟩ := hw1; go_simp; first | done | rfl)); go_simp; refine hK _ ?_; clear hK K) | fail))
        refine wpLoose_callG ?_ 150 #[.slice i1 nw i2, .slice i3 nw' i4] (fun w1 => ?_) (fun w1 hw1 => ?_) (fun v1 hv1 => ?_)
        · go_simp
        · go_simp
        · obtain ⟨nq, rfl⟩ := hw1
          refine (sameAll_any _ _ r.W s.W _ (FRow.drewN RR.out.1.W) (FRow.drewN RR.out.2.W) WW.out.1.W WW.out.2.W).mono ?_
          rintro e w2 ⟨rfl, n, rfl⟩
          exact ⟨_, rfl, SgH.of RR.out.1.W RR.out.2.W, n, rfl⟩
        have hv2 := hv1 _ _ RR.out.1.W RR.out.2.W WW.out.1.W WW.out.2.W
        clear hv1
        rw [H0.out] at hv2
        subst hv2
        repeat ((with_reducible refine wpLoose_cons ?_); (first | ((with_reducible refine wpLoose_skip ?_ ?_); (focus (go_simp; done)); intro K hK; go_simp; refine hK _ ?_; clear hK K) | (refine wpLoose_farithG ?_ _ _ _ _ _ rfl rfl _ _ _ rfl rfl ?_; (focus (go_simp; done)); intro _ _) | (refine wpLoose_valG ?_ ?_ (fun w1 hw1 => ?_) (fun K hK => ?_); (focus (go_simp; done)); rotate_left; (focus (obtain ⟨nq, rfl⟩ := hw1; go_simp; first | done | rfl)); go_simp; refine hK _ ?_; clear hK K) | fail))
        refine wpLoose_callG ?_ 150 #[.slice j1 nh j2, .slice j3 nh' j4] (fun w1 => ?_) (fun w1 hw1 => ?_) (fun v1 hv1 => ?_)
        · go_simp
        · go_simp
        · obtain ⟨nq, rfl⟩ := hw1
          refine (sameAll_any _ _ r.H s.H _ (FRow.drewN RR.out.1.H) (FRow.drewN RR.out.2.H) WW.out.1.H WW.out.2.H).mono ?_
          rintro e w2 ⟨rfl, n, rfl⟩
          exact ⟨_, rfl, SgH.of RR.out.1.H RR.out.2.H, n, rfl⟩
        have hv2 := hv1 _ _ RR.out.1.H RR.out.2.H WW.out.1.H WW.out.2.H
        clear hv1
        rw [H1.out] at hv2
        subst hv2
        repeat ((with_reducible refine wpLoose_cons ?_); (first | ((with_reducible refine wpLoose_skip ?_ ?_); (focus (go_simp; done)); intro K hK; go_simp; refine hK _ ?_; clear hK K) | (refine wpLoose_farithG ?_ _ _ _ _ _ rfl rfl _ _ _ rfl rfl ?_; (focus (go_simp; done)); intro _ _) | (refine wpLoose_valG ?_ ?_ (fun w1 hw1 => ?_) (fun K hK => ?_); (focus (go_simp; done)); rotate_left; (focus (obtain ⟨nq, rfl⟩ := hw1; go_simp; first | done | rfl)); go_simp; refine hK _ ?_; clear hK K) | fail))
        refine wpLoose_callG ?_ 150 #[.slice l1 nl l2, .slice l3 nl' l4] (fun w1 => ?_) (fun w1 hw1 => ?_) (fun v1 hv1 => ?_)
        · go_simp
        · go_simp
        · obtain ⟨nq, rfl⟩ := hw1
          refine (sameAll_any _ _ r.L s.L _ (FRow.drewN RR.out.1.L) (FRow.drewN RR.out.2.L) WW.out.1.L WW.out.2.L).mono ?_
          rintro e w2 ⟨rfl, n, rfl⟩
          exact ⟨_, rfl, SgH.of RR.out.1.L RR.out.2.L, n, rfl⟩
        have hv2 := hv1 _ _ RR.out.1.L RR.out.2.L WW.out.1.L WW.out.2.L
        clear hv1
        rw [H2.out] at hv2
        subst hv2
        repeat ((with_reducible refine wpLoose_cons ?_); (first | ((with_reducible refine wpLoose_skip ?_ ?_); (focus (go_simp; done)); intro K hK; go_simp; refine hK _ ?_; clear hK K) | (refine wpLoose_farithG ?_ _ _ _ _ _ rfl rfl _ _ _ rfl rfl ?_; (focus (go_simp; done)); intro _ _) | (refine wpLoose_valG ?_ ?_ (fun w1 hw1 => ?_) (fun K hK => ?_); (focus (go_simp; done)); rotate_left; (focus (obtain ⟨nq, rfl⟩ := hw1; go_simp; first | done | rfl)); go_simp; refine hK _ ?_; clear hK K) | fail))
        (refine wpLoose_nil ?_; rintro _ ⟨nq, rfl⟩)
        go_wp2
        go_ret
        exact ⟨ret_b V.out, _, by first | rfl | rw [World.drewN_drewN]⟩
      · by_cases hl : r.K.length = s.K.length
        rotate_left
        · skip
          have V := Lib.hid (show B = false by rw [VB.out, VL.out hl]; simp)
          have H0 := Lib.hid B0
          have H1 := Lib.hid B1
          have H2 := Lib.hid B2
          have f1 : ((r.K.length : Int) == (s.K.length : Int)) = false := by simp; omega
          have f2 : ((r.K.length : Int) != (s.K.length : Int)) = true := by simp; omega
          clear VB VL VS0 VN0 HC HC' AT AT' WK B0 B1 B2 hl
          generalize r.W.length = nw at *
          generalize s.W.length = nw' at *
          generalize r.H.length = nh at *
          generalize s.H.length = nh' at *
          generalize r.L.length = nl at *
          generalize s.L.length = nl' at *
          generalize r.K.length = nk at *
          generalize s.K.length = nk' at *
          go_enter Try.func107, Try.ntmps107
          go_wp2
          refine wp_region_loose (SgH w) (by kernel_rfl) (by kernel_rfl) ?_
          try simp only [List.append]
          repeat ((with_reducible refine wpLoose_cons ?_); (first | ((with_reducible refine wpLoose_skip ?_ ?_); (focus (go_simp; done)); intro K hK; go_simp; refine hK _ ?_; clear hK K) | (refine wpLoose_farithG ?_ _ _ _ _ _ rfl rfl _ _ _ rfl rfl ?_; (focus (go_simp; done)); intro _ _) | (refine wpLoose_valG ?_ ?_ (fun w1 hw1 => ?_) (fun K hK => ?_); (focus (go_simp; done)); rotate_left; (focus (obtain ⟨nq, rfl⟩ := hw1; go_simp; first | done | rfl)); go_simp; refine hK _ ?_; clear hK K) | fail))
          refine wpLoose_callG ?_ 150 #[.slice i1 nw i2, .slice i3 nw' i4] (fun w1 => ?_) (fun w1 hw1 => ?_) (fun v1 hv1 => ?_)
          · go_simp
          · go_simp
          · obtain ⟨nq, rfl⟩ := hw1
            refine (sameAll_any _ _ r.W s.W _ (FRow.drewN RR.out.1.W) (FRow.drewN RR.out.2.W) WW.out.1.W WW.out.2.W).mono ?_
            rintro e w2 ⟨rfl, n, rfl⟩
            exact ⟨_, rfl, SgH.of RR.out.1.W RR.out.2.W, n, rfl⟩
          have hv2 := hv1 _ _ RR.out.1.W RR.out.2.W WW.out.1.W WW.out.2.W
          clear hv1
          rw [H0.out] at hv2
          subst hv2
          repeat ((with_reducible refine wpLoose_cons ?_); (first | ((with_reducible refine wpLoose_skip ?_ ?_); (focus (go_simp; done)); intro K hK; go_simp; refine hK _ ?_; clear hK K) | (refine wpLoose_farithG ?_ _ _ _ _ _ rfl rfl _ _ _ rfl rfl ?_; (focus (go_simp; done)); intro _ _) | (refine wpLoose_valG ?_ ?_ (fun w1 hw1 => ?_) (fun K hK => ?_); (focus (go_simp; done)); rotate_left; (focus (obtain ⟨nq, rfl⟩ := hw1; go_simp; first | done | rfl)); go_simp; refine hK _ ?_; clear hK K) | fail))
          refine wpLoose_callG ?_ 150 #[.slice j1 nh j2, .slice j3 nh' j4] (fun w1 => ?_) (fun w1 hw1 => ?_) (fun v1 hv1 => ?_)
          · go_simp
          · go_simp
          · obtain ⟨nq, rfl⟩ := hw1
            refine (sameAll_any _ _ r.H s.H _ (FRow.drewN RR.out.1.H) (FRow.drewN RR.out.2.H) WW.out.1.H WW.out.2.H).mono ?_
            rintro e w2 ⟨rfl, n, rfl⟩
            exact ⟨_, rfl, SgH.of RR.out.1.H RR.out.2.H, n, rfl⟩
          have hv2 := hv1 _ _ RR.out.1.H RR.out.2.H WW.out.1.H WW.out.2.H
          clear hv1
          rw [H1.out] at hv2
          subst hv2
          repeat ((with_reducible refine wpLoose_cons ?_); (first | ((with_reducible refine wpLoose_skip ?_ ?_); (focus (go_simp; done)); intro K hK; go_simp; refine hK _ ?_; clear hK K) | (refine wpLoose_farithG ?_ _ _ _ _ _ rfl rfl _ _ _ rfl rfl ?_; (focus (go_simp; done)); intro _ _) | (refine wpLoose_valG ?_ ?_ (fun w1 hw1 => ?_) (fun K hK => ?_); (focus (go_simp; done)); rotate_left; (focus (obtain ⟨nq, rfl⟩ := hw1; go_simp; first | done | rfl)); go_simp; refine hK _ ?_; clear hK K) | fail))
          refine wpLoose_callG ?_ 150 #[.slice l1 nl l2, .slice l3 nl' l4] (fun w1 => ?_) (fun w1 hw1 => ?_) (fun v1 hv1 => ?_)
          · go_simp
          · go_simp
          · obtain ⟨nq, rfl⟩ := hw1
            refine (sameAll_any _ _ r.L s.L _ (FRow.drewN RR.out.1.L) (FRow.drewN RR.out.2.L) WW.out.1.L WW.out.2.L).mono ?_
            rintro e w2 ⟨rfl, n, rfl⟩
            exact ⟨_, rfl, SgH.of RR.out.1.L RR.out.2.L, n, rfl⟩
          have hv2 := hv1 _ _ RR.out.1.L RR.out.2.L WW.out.1.L WW.out.2.L
          clear hv1
          rw [H2.out] at hv2
          subst hv2
          repeat ((with_reducible refine wpLoose_cons ?_); (first | ((with_reducible refine wpLoose_skip ?_ ?_); (focus (go_simp; done)); intro K hK; go_simp; refine hK _ ?_; clear hK K) | (refine wpLoose_farithG ?_ _ _ _ _ _ rfl rfl _ _ _ rfl rfl ?_; (focus (go_simp; done)); intro _ _) | (refine wpLoose_valG ?_ ?_ (fun w1 hw1 => ?_) (fun K hK => ?_); (focus (go_simp; done)); rotate_left; (focus (obtain ⟨nq, rfl⟩ := hw1; go_simp; first | done | rfl)); go_simp; refine hK _ ?_; clear hK K) | fail))
          (refine wpLoose_nil ?_; rintro _ ⟨nq, rfl⟩)
          go_wp2
          go_ret
          exact ⟨ret_b V.out, _, by first | rfl | rw [World.drewN_drewN]⟩
        · skip
          have VN := Lib.hid (fun h => (VB.out.trans (by rw [B0, B1, B2, VN0.out hl h]; rfl) : B = true))
          have VS := Lib.hid (fun k x y hs ht e => (VB.out.trans (by rw [VS0.out k x y hs ht e]; simp) : B = false))
          have H0 := Lib.hid B0
          have H1 := Lib.hid B1
          have H2 := Lib.hid B2
          rw [← hl] at HC' AT' x3 RR
          have f1 : ((r.K.length : Int) == (r.K.length : Int)) = true := by simp
          have f2 : ((r.K.length : Int) != (r.K.length : Int)) = false := by simp
          clear VB VL VS0 VN0 B0 B1 B2 HL2 hl
          generalize r.W.length = nw at *
          generalize s.W.length = nw' at *
          generalize r.H.length = nh at *
          generalize s.H.length = nh' at *
          generalize r.L.length = nl at *
          generalize s.L.length = nl' at *
          generalize hn : r.K.length = n at *
          have KL := Lib.hid hn
          clear hn
          go_enter Try.func107, Try.ntmps107
          go_wp2
          refine wp_region_loose (SgH w) (by kernel_rfl) (by kernel_rfl) ?_
          try simp only [List.append]
          repeat ((with_reducible refine wpLoose_cons ?_); (first | ((with_reducible refine wpLoose_skip ?_ ?_); (focus (go_simp; done)); intro K hK; go_simp; refine hK _ ?_; clear hK K) | (refine wpLoose_farithG ?_ _ _ _ _ _ rfl rfl _ _ _ rfl rfl ?_; (focus (go_simp; done)); intro _ _) | (refine wpLoose_valG ?_ ?_ (fun w1 hw1 => ?_) (fun K hK => ?_); (focus (go_simp; done)); rotate_left; (focus (obtain ⟨nq, rfl⟩ := hw1; go_simp; first | done | rfl)); go_simp; refine hK _ ?_; clear hK K) | fail))
          refine wpLoose_callG ?_ 150 #[.slice i1 nw i2, .slice i3 nw' i4] (fun w1 => ?_) (fun w1 hw1 => ?_) (fun v1 hv1 => ?_)
          · go_simp
          · go_simp
          · obtain ⟨nq, rfl⟩ := hw1
            refine (sameAll_any _ _ r.W s.W _ (FRow.drewN RR.out.1.W) (FRow.drewN RR.out.2.W) WW.out.1.W WW.out.2.W).mono ?_
            rintro e w2 ⟨rfl, n, rfl⟩
            exact ⟨_, rfl, SgH.of RR.out.1.W RR.out.2.W, n, rfl⟩
          have hv2 := hv1 _ _ RR.out.1.W RR.out.2.W WW.out.1.W WW.out.2.W
          clear hv1
          rw [H0.out] at hv2
          subst hv2
          repeat ((with_reducible refine wpLoose_cons ?_); (first | ((with_reducible refine wpLoose_skip ?_ ?_); (focus (go_simp; done)); intro K hK; go_simp; refine hK _ ?_; clear hK K) | (refine wpLoose_farithG ?_ _ _ _ _ _ rfl rfl _ _ _ rfl rfl ?_; (focus (go_simp; done)); intro _ _) | (refine wpLoose_valG ?_ ?_ (fun w1 hw1 => ?_) (fun K hK => ?_); (focus (go_simp; done)); rotate_left; (focus (obtain ⟨nq, rfl⟩ := hw1; go_simp; first | done | rfl)); go_simp; refine hK _ ?_; clear hK K) | fail))
          refine wpLoose_callG ?_ 150 #[.slice j1 nh j2, .slice j3 nh' j4] (fun w1 => ?_) (fun w1 hw1 => ?_) (fun v1 hv1 => ?_)
          · go_simp
          · go_simp
          · obtain ⟨nq, rfl⟩ := hw1
            refine (sameAll_any _ _ r.H s.H _ (FRow.drewN RR.out.1.H) (FRow.drewN RR.out.2.H) WW.out.1.H WW.out.2.H).mono ?_
            rintro e w2 ⟨rfl, n, rfl⟩
            exact ⟨_, rfl, SgH.of RR.out.1.H RR.out.2.H, n, rfl⟩
          have hv2 := hv1 _ _ RR.out.1.H RR.out.2.H WW.out.1.H WW.out.2.H
          clear hv1
          rw [H1.out] at hv2
          subst hv2
          repeat ((with_reducible refine wpLoose_cons ?_); (first | ((with_reducible refine wpLoose_skip ?_ ?_); (focus (go_simp; done)); intro K hK; go_simp; refine hK _ ?_; clear hK K) | (refine wpLoose_farithG ?_ _ _ _ _ _ rfl rfl _ _ _ rfl rfl ?_; (focus (go_simp; done)); intro _ _) | (refine wpLoose_valG ?_ ?_ (fun w1 hw1 => ?_) (fun K hK => ?_); (focus (go_simp; done)); rotate_left; (focus (obtain ⟨nq, rfl⟩ := hw1; go_simp; first | done | rfl)); go_simp; refine hK _ ?_; clear hK K) | fail))
          refine wpLoose_callG ?_ 150 #[.slice l1 nl l2, .slice l3 nl' l4] (fun w1 => ?_) (fun w1 hw1 => ?_) (fun v1 hv1 => ?_)
          · go_simp
          · go_simp
          · obtain ⟨nq, rfl⟩ := hw1
            refine (sameAll_any _ _ r.L s.L _ (FRow.drewN RR.out.1.L) (FRow.drewN RR.out.2.L) WW.out.1.L WW.out.2.L).mono ?_
            rintro e w2 ⟨rfl, n, rfl⟩
            exact ⟨_, rfl, SgH.of RR.out.1.L RR.out.2.L, n, rfl⟩
          have hv2 := hv1 _ _ RR.out.1.L RR.out.2.L WW.out.1.L WW.out.2.L
          clear hv1
          rw [H2.out] at hv2
          subst hv2
          repeat ((with_reducible refine wpLoose_cons ?_); (first | ((with_reducible refine wpLoose_skip ?_ ?_); (focus (go_simp; done)); intro K hK; go_simp; refine hK _ ?_; clear hK K) | (refine wpLoose_farithG ?_ _ _ _ _ _ rfl rfl _ _ _ rfl rfl ?_; (focus (go_simp; done)); intro _ _) | (refine wpLoose_valG ?_ ?_ (fun w1 hw1 => ?_) (fun K hK => ?_); (focus (go_simp; done)); rotate_left; (focus (obtain ⟨nq, rfl⟩ := hw1; go_simp; first | done | rfl)); go_simp; refine hK _ ?_; clear hK K) | fail))
          (refine wpLoose_nil ?_; rintro _ ⟨nq, rfl⟩)
          go_wp2
          clear c0 c1 c2 x0 x1 x2 H0 H1 H2
          go_loopw [5, 6, 7] (fun i _ _ wr => ∃ k g : Nat, k ≤ n ∧ i = .int .i64 k ∧ Hid (∀ (j : Nat) (x y : LK), j < k → r.K[j]? = some x → s.K[j]? = some y → sameL x y = true) ∧ wr = w.drewN g) (fun i _ _ _ => n - (intOf i).toNat)
          case atStart => exact ⟨0, _, Nat.zero_le _, rfl, Lib.hid (fun j x y hj => absurd hj (Nat.not_lt_zero _)), rfl⟩
          case round =>
            obtain ⟨k, g, hk, rfl, hall, rfl⟩ := hrel
            by_cases hlt : k < n
            · obtain ⟨b0, o0, c0, e, hc⟩ := HC.out (by omega)
              obtain ⟨b1, o1, c1, e', hc'⟩ := HC'.out (by omega)
              have ea : d1 = some ⟨b0, o0, none⟩ := by cases e; rfl
              have ea' : e1 = some ⟨b1, o1, none⟩ := by cases e'; rfl
              obtain ⟨x, hs⟩ := AT.out k hlt
              obtain ⟨y, ht⟩ := AT'.out k hlt
              have z := hc k x hs
              have zz := hc' k y ht
              have WWk := WK.out k x y hs ht
              have VSk := Lib.hid (VS.out k x y hs ht)
              have HS := Lib.hid (And.intro hs ht)
              obtain ⟨sa, sb, sps⟩ := x
              obtain ⟨ta, tb, tps⟩ := y
              obtain ⟨W9, hw9⟩ : ∃ W9, w.drewN g = W9 := ⟨_, rfl⟩
              have z0 : W9.cell? ⟨b0, o0 + k * 3, none⟩ = some (.int .i64 sa) := hw9 ▸ (z 0 _ rfl : w.cell? ⟨b0, o0 + k * 3, none⟩ = some (.int .i64 sa))
              have z1 : W9.cell? ⟨b0, o0 + k * 3 + 1, none⟩ = some (.int .i64 sb) := hw9 ▸ (z 1 _ rfl : w.cell? ⟨b0, o0 + k * 3 + 1, none⟩ = some (.int .i64 sb))
              have z2 : W9.cell? ⟨b0, o0 + k * 3 + 2, none⟩ = some (.float .f32 sps) := hw9 ▸ (z 2 _ rfl : w.cell? ⟨b0, o0 + k * 3 + 2, none⟩ = some (.float .f32 sps))
              have y0 : W9.cell? ⟨b1, o1 + k * 3, none⟩ = some (.int .i64 ta) := hw9 ▸ (zz 0 _ rfl : w.cell? ⟨b1, o1 + k * 3, none⟩ = some (.int .i64 ta))
              have y1 : W9.cell? ⟨b1, o1 + k * 3 + 1, none⟩ = some (.int .i64 tb) := hw9 ▸ (zz 1 _ rfl : w.cell? ⟨b1, o1 + k * 3 + 1, none⟩ = some (.int .i64 tb))
              have y2 : W9.cell? ⟨b1, o1 + k * 3 + 2, none⟩ = some (.float .f32 tps) := hw9 ▸ (zz 2 _ rfl : w.cell? ⟨b1, o1 + k * 3 + 2, none⟩ = some (.float .f32 tps))
              have Qps := Lib.hid (fun w => show Calls Try.prog 140 #[.float .f32 sps, .float .f32 tps] w (Bol (sm sps tps) w) from (specSame_any _ _ w WWk.1.2.2 WWk.2.2.2).mono (fun _ _ ⟨he, hw⟩ => ⟨he, 0, hw.symm⟩))
              have c3' : W9.cell? ⟨p, 3, none⟩ = some (.slice (some ⟨b0, o0, none⟩) n d2) := hw9 ▸ (ea ▸ c3)
              have x3' : W9.cell? ⟨q, 3, none⟩ = some (.slice (some ⟨b1, o1, none⟩) n e2) := hw9 ▸ (ea' ▸ x3)
              rw [hw9]
              clear c3 x3
              have HW9 := Lib.hid hw9
              clear e hc e' hc' z zz hs ht VS VN HC HC' AT AT' WK WWk hw9
              subst ea
              subst ea'
              have hG := HL.out
              have hi : (0 : Int) ≤ (k : Int) := by omega
              have hi' : (k : Int) < (n : Int) := by omega
              have hd : decide ((k : Int) < (n : Int)) = true := by simp; omega
              cases B0 : (sa == ta)
              · skip
                have V := Lib.hid (VSk.out (by unfold sameL; simp only [B0]; simp))
                have o0 : (sa == ta) = false := B0
                have p0 : (sa != ta) = true := by rw [bne, o0]; rfl
                have H0 := Lib.hid B0
                clear B0
                go_wp2
                go_quiet (fail)
                go_wp2
                go_ret
                exact ⟨ret_bb V.out, _, by rw [← HW9.out]; exact World.drewN_drewN _ _ _⟩
              · skip
                cases B1 : (sb == tb)
                · skip
                  have V := Lib.hid (VSk.out (by unfold sameL; simp only [B0, B1]; simp))
                  have o0 : (sa == ta) = true := B0
                  have p0 : (sa != ta) = false := by rw [bne, o0]; rfl
                  have H0 := Lib.hid B0
                  have o1 : (sb == tb) = false := B1
                  have p1 : (sb != tb) = true := by rw [bne, o1]; rfl
                  have H1 := Lib.hid B1
                  clear B0 B1
                  go_wp2
                  go_quiet (fail)
                  go_wp2
                  go_ret
                  exact ⟨ret_bb V.out, _, by rw [← HW9.out]; exact World.drewN_drewN _ _ _⟩
                · skip
                  cases B2 : sm sps tps
                  · skip
                    have V := Lib.hid (VSk.out (by unfold sameL; simp only [B0, B1, B2]; simp))
                    have o0 : (sa == ta) = true := B0
                    have p0 : (sa != ta) = false := by rw [bne, o0]; rfl
                    have H0 := Lib.hid B0
                    have o1 : (sb == tb) = true := B1
                    have p1 : (sb != tb) = false := by rw [bne, o1]; rfl
                    have H1 := Lib.hid B1
                    have H2 := Lib.hid B2
                    clear B0 B1 B2
                    go_wp2
                    go_quiet (first | (go_at_call_of 140 sps; refine Calls.quiet_of (v := .bool false) ?_; have hq := Qps.out; rw [H2.out] at hq; exact hq _))
                    go_wp2
                    go_ret
                    exact ⟨ret_bb V.out, _, by rw [← HW9.out]; exact World.drewN_drewN _ _ _⟩
                  · skip
                    have V := Lib.hid (show sameL ⟨sa, sb, sps⟩ ⟨ta, tb, tps⟩ = true by unfold sameL; simp only [B0, B1, B2]; rfl)
                    have o0 : (sa == ta) = true := B0
                    have p0 : (sa != ta) = false := by rw [bne, o0]; rfl
                    have H0 := Lib.hid B0
                    have o1 : (sb == tb) = true := B1
                    have p1 : (sb != tb) = false := by rw [bne, o1]; rfl
                    have H1 := Lib.hid B1
                    have H2 := Lib.hid B2
                    clear B0 B1 B2
                    go_wp2
                    go_quiet (first | (go_at_call_of 140 sps; refine Calls.quiet_of (v := .bool true) ?_; have hq := Qps.out; rw [H2.out] at hq; exact hq _))
                    go_wp2
                    go_roundw
                    case rel => exact ⟨k + 1, _, by omega, by go_num, Lib.hid (fun j x' y' hj hs ht => by rcases Nat.lt_succ_iff_lt_or_eq.1 hj with h | h; exact hall.out j x' y' h hs ht; subst h; have he := HS.out.1.symm.trans hs; have hf := HS.out.2.symm.trans ht; cases he; cases hf; exact V.out), by rw [← HW9.out]; exact World.drewN_drewN _ _ _⟩
                    case measure => simp [intOf]; omega
            · have e := Lib.hid (show k = n by omega)
              have hd : decide ((k : Int) < (n : Int)) = false := by simp; omega
              have V := Lib.hid (VN.out (fun j x y hs ht => hall.out j x y (by have h1 := (List.getElem?_eq_some_iff.1 hs).1; have h2 := e.out; have h3 := KL.out; omega) hs ht))
              clear VS VN HC HC' AT AT' WK
              go_wp2
              go_ret
              exact ⟨ret_bb V.out, _, rfl⟩

end Go.Proofs.Ytlhjmkdfemejmaa
