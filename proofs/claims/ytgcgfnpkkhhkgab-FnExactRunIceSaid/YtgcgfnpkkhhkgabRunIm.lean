/- Ice, tick by tick: both sides walked. -/
import Derived.Test.YtgcgfnpkkhhkgabRunI
namespace Go.Proofs.Ytgcgfnpkkhhkgab
open Go.RowKit
set_option linter.unusedVariables false

set_option maxHeartbeats 1600000 in
set_option maxRecDepth 8000 in
theorem implRun_any (s : SF) (i k t : Nat) (v : Value) (zs : List Nat) (w : World) (h : FRow w v zs) : Calls Try.prog 48 #[.agg #[.float .f32 s.so, .float .f32 s.fl, .float .f32 s.es, .float .f32 s.ef, .float .f32 s.pt, .float .f32 s.la], .float .f32 i, .float .f32 k, v, .float .f32 t] w (LstO (runS s i k t zs) (runB s i k t zs) w) := by
  have A := Lib.hid (Cells.made w s.vs 26)
  have Bw := Lib.hid (below_al1 w (.cells s.vs.toArray 26))
  have R := Lib.hid (fun w1 (hb : Below w.heap.size w w1) => h.below hb)
  have HL := Lib.hid h.len
  obtain ⟨a, cap, rfl⟩ := h.shape
  clear h
  have hG := HL.out
  cases S0 : iceOk s i k t
  · have HI := Lib.hid S0
    clear S0
    go_enter Try.func48, Try.ntmps48
    go_wp2_with fail
    refine (implIce_any s i k t _).mono ?_
    rw [HI.out]
    rintro e w1 ⟨rfl, hb⟩
    (first | (have Bw := Lib.hid (below_step Bw.out hb)) | (have Bw := Lib.hid (below_step Bw.out (below_undrew hb))) | (have Bw := Lib.hid (below_step Bw.out (below_unal hb))) | (have Bw := Lib.hid (below_step Bw.out (below_unal (below_undrew hb)))) | (have Bw := Lib.hid (below_step Bw.out (below_undrew (below_unal hb)))) | (have Bw := Lib.hid (below_step Bw.out (below_unal (below_unal hb)))))
    clear hb
    go_wp2
    (first | go_ret | go_ret2)
    exact RunO.no (runB_ice HI.out) Bw.out
  · have HI := Lib.hid S0
    clear S0
    by_cases hl : 128 < zs.length
    · go_enter Try.func48, Try.ntmps48
      go_wp2_with fail
      refine (implIce_any s i k t _).mono ?_
      rw [HI.out]
      rintro e w1 ⟨rfl, hb⟩
      (first | (have Bw := Lib.hid (below_step Bw.out hb)) | (have Bw := Lib.hid (below_step Bw.out (below_undrew hb))) | (have Bw := Lib.hid (below_step Bw.out (below_unal hb))) | (have Bw := Lib.hid (below_step Bw.out (below_unal (below_undrew hb)))) | (have Bw := Lib.hid (below_step Bw.out (below_undrew (below_unal hb)))) | (have Bw := Lib.hid (below_step Bw.out (below_unal (below_unal hb)))))
      clear hb
      go_wp2
      (first | go_ret | go_ret2)
      exact RunO.no (runB_len hl) Bw.out
    · have HN := Lib.hid (Nat.le_of_not_lt hl)
      go_enter Try.func48, Try.ntmps48
      go_wp2_with fail
      refine (implIce_any s i k t _).mono ?_
      rw [HI.out]
      rintro e w1 ⟨rfl, hb⟩
      (first | (have Bw := Lib.hid (below_step Bw.out hb)) | (have Bw := Lib.hid (below_step Bw.out (below_undrew hb))) | (have Bw := Lib.hid (below_step Bw.out (below_unal hb))) | (have Bw := Lib.hid (below_step Bw.out (below_unal (below_undrew hb)))) | (have Bw := Lib.hid (below_step Bw.out (below_undrew (below_unal hb)))) | (have Bw := Lib.hid (below_step Bw.out (below_unal (below_unal hb)))))
      (first | (have A := Lib.hid (A.out.kept hb)) | (have A := Lib.hid (A.out.kept (below_undrew hb))) | (have A := Lib.hid (A.out.kept (below_unal hb))) | (have A := Lib.hid (A.out.kept (below_unal (below_undrew hb)))) | (have A := Lib.hid (A.out.kept (below_undrew (below_unal hb)))) | (have A := Lib.hid (A.out.kept (below_unal (below_unal hb)))))
      clear hb
      go_wp2
      have RW := Lib.hid (R.out _ Bw.out)
      have B1 := Lib.hid (Below.refl w1.heap.size w1)
      generalize hn : zs.length = n at *
      have HE := Lib.hid hn
      clear hn
      go_loopw [1, 12, 14, 15, 16, 30] (fun r L _ _ _ idx wr => ∃ (j x : Nat) (Ls : List Nat), j ≤ n ∧ idx = .int .i64 j ∧ r = .float .f32 x ∧ Hid (Ices s i k t zs j x Ls) ∧ Hid (Own wr w1.heap.size L Ls) ∧ Hid (Below w1.heap.size w1 wr)) (fun _ _ _ _ _ idx _ => n - (intOf idx).toNat)
      case atStart => exact ⟨0, i, [], Nat.zero_le _, rfl, rfl, Lib.hid (Ices.start s i k t zs), Lib.hid (World.ownsRow_nil _ _ _ _), B1⟩
      case round =>
        obtain ⟨j, x, Ls, hj, rfl, rfl, hI, hO, hB⟩ := hrel
        have c0 := (A.out.kept hB.out).at 0 rfl; have c1 := (A.out.kept hB.out).at 1 rfl; have c2 := (A.out.kept hB.out).at 2 rfl; have c3 := (A.out.kept hB.out).at 3 rfl; have c4 := (A.out.kept hB.out).at 4 rfl; have c5 := (A.out.kept hB.out).at 5 rfl
        by_cases hlt : j < n
        · obtain ⟨b0, o0, cap', e, hc⟩ := (RW.out.below hB.out).cells (by rw [HE.out]; omega)
          have ea : a = some ⟨b0, o0, none⟩ := by cases e; rfl
          have z0 := hc j (by rw [HE.out]; exact hlt)
          subst ea
          clear e hc
          have HT := Lib.hid hI.out.tick
          have HS := Lib.hid (fun x1 => hI.out.step (x := x1))
          have hi : (0 : Int) ≤ (j : Int) := by omega
          have hi' : (j : Int) < (n : Int) := by omega
          have hzb : Hid (Ls.length ≤ 1048576) := Lib.hid (by rw [hI.out.len]; have := HN.out; omega)
          generalize zs.getD j 0 = y at *
          cases G : growB s x k y t
          · have HG := Lib.hid G
            clear G
            go_wp2_with fail
            refine (implGrow_any s x k y t _).mono ?_
            rw [HG.out]
            rintro e w2 ⟨x1, _, rfl, hb⟩
            have B2 := Lib.hid (below_step Bw.out (below_step hB.out hb))
            clear hb c0 c1 c2 c3 c4 c5 z0
            go_wp2
            (first | go_ret | go_ret2)
            exact RunO.no (runB_tick (j := j) (by rw [HE.out]; exact hlt) (by rw [HT.out, HG.out])) B2.out
          · have HG := Lib.hid G
            clear G
            go_wp2_with fail
            refine (implGrow_any s x k y t _).mono ?_
            rw [growS_yes HG.out, HG.out]
            rintro e w2 ⟨x1, hx1, rfl, hb⟩
            have I2 := Lib.hid (HS.out x1 HG.out hx1)
            have O2 := Lib.hid (hO.out.kept hb)
            have B2 := Lib.hid (below_step hB.out hb)
            have hbs : Hid (w1.heap.size ≤ w2.heap.size) := Lib.hid B2.out.size
            clear hb hx1 c0 c1 c2 c3 c4 c5 z0 HS
            go_wp2_with (at_builtin; refine wpList_app32 rfl _ _ rfl w1.heap.size _ Ls rfl (O2.out.al _) _ x1 _ rfl ((World.cell?_alloc_at _ _ _ _ (by simp)).trans rfl) hzb.out (by have := hbs.out; simp; omega) ?_; intro v' w3 hown' hb; have O3 := Lib.hid hown'; have B3 := Lib.hid ((B2.out.alloc (by have := hbs.out; omega) _).trans hb); clear hown' hb)
            go_roundw
            case rel => exact ⟨j + 1, x1, Ls ++ [x1], by omega, by go_num, rfl, I2, O3, B3⟩
            case measure => simp [intOf]; omega
        · have e := Lib.hid (show j = n by omega)
          clear c0 c1 c2 c3 c4 c5
          go_wp2
          (first | go_ret | go_ret2)
          have e1 := e.out
          subst e1
          exact RunO.yes (runB_yes HI.out (by rw [HE.out]; exact HN.out) (by rw [HE.out]; exact hI.out.ok)) (hO.out.orow.mono Bw.out.size) (by rw [HE.out]; exact hI.out.map) (below_step Bw.out hB.out)

set_option maxHeartbeats 1600000 in
set_option maxRecDepth 8000 in
theorem specRun_any (s : SF) (i k t : Nat) (v : Value) (zs : List Nat) (w : World) (h : FRow w v zs) : Calls Try.prog 46 #[.agg #[.float .f32 s.so, .float .f32 s.fl, .float .f32 s.es, .float .f32 s.ef, .float .f32 s.pt, .float .f32 s.la], .float .f32 i, .float .f32 k, v, .float .f32 t] w (LstB (runS s i k t zs) (runB s i k t zs) w) := by
  have A := Lib.hid (Cells.made w s.vs 26)
  have Bw := Lib.hid (below_al1 w (.cells s.vs.toArray 26))
  have R := Lib.hid (fun w1 (hb : Below w.heap.size w w1) => h.below hb)
  have HL := Lib.hid h.len
  obtain ⟨a, cap, rfl⟩ := h.shape
  clear h
  have FL := fun (w1 : World) (hb : Below w.heap.size w w1) => specFinL_any (.slice a zs.length cap) zs w1 (R.out w1 hb)
  have FL := Lib.hid FL
  have hG := HL.out
  cases S0 : iceOk s i k t
  · have HI := Lib.hid S0
    clear S0
    go_enter Try.func46, Try.ntmps46
    go_wp2_with fail
    refine (specIce_any s i k t _ _ A.out).mono ?_
    rw [HI.out]
    rintro e w1 ⟨rfl, m, rfl⟩
    go_wp2
    (first | go_ret | go_ret2)
    exact RunB.no (runB_ice HI.out) (below_drewN Bw.out _)
  · have HI := Lib.hid S0
    clear S0
    by_cases hl : 128 < zs.length
    · go_enter Try.func46, Try.ntmps46
      go_wp2_with fail
      refine (specIce_any s i k t _ _ A.out).mono ?_
      rw [HI.out]
      rintro e w1 ⟨rfl, m, rfl⟩
      go_wp2
      (first | go_ret | go_ret2)
      exact RunB.no (runB_len hl) (below_drewN Bw.out _)
    · have HN := Lib.hid (Nat.le_of_not_lt hl)
      cases F0 : zs.all (fin .f32)
      · have HF := Lib.hid F0
        clear F0
        go_enter Try.func46, Try.ntmps46
        go_wp2_with fail
        refine (specIce_any s i k t _ _ A.out).mono ?_
        rw [HI.out]
        rintro e w1 ⟨rfl, m, rfl⟩
        go_wp2_with fail
        refine (FL.out _ (below_drewN Bw.out _)).mono ?_
        rw [HF.out]
        rintro e w1 ⟨rfl, m2, rfl⟩
        go_wp2
        (first | go_ret | go_ret2)
        exact RunB.no (runB_fin HF.out) (below_drewN Bw.out _)
      · have HF := Lib.hid F0
        clear F0
        go_enter Try.func46, Try.ntmps46
        go_wp2_with fail
        refine (specIce_any s i k t _ _ A.out).mono ?_
        rw [HI.out]
        rintro e w1 ⟨rfl, m, rfl⟩
        go_wp2_with fail
        refine (FL.out _ (below_drewN Bw.out _)).mono ?_
        rw [HF.out]
        rintro e w1 ⟨rfl, m2, rfl⟩
        have Bw := Lib.hid (below_drewN (below_drewN Bw.out m) m2)
        have A := Lib.hid ((A.out.drewN (n := m)).drewN (n := m2))
        have RW := Lib.hid (R.out _ Bw.out)
        generalize ((w.alloc (.cells s.vs.toArray 26)).drewN m).drewN m2 = w1 at *
        go_wp2
        have O1 := Lib.hid (Own.empty w1 w1.heap.size (Nat.le_refl _))
        have B1 := Lib.hid (below_al1 w1 (.cells #[] 22))
        have HF2 := Lib.hid (fun j (hj : j < zs.length) => fin_at HF.out hj)
        generalize hn : zs.length = n at *
        have HE := Lib.hid hn
        clear hn
        go_loopw [1, 12, 13, 32] (fun r L _ idx wr => ∃ (j x : Nat) (Ls : List Nat), j ≤ n ∧ idx = .int .i64 j ∧ r = .float .f32 x ∧ Hid (Ices s i k t zs j x Ls) ∧ Hid (ge0 x = true) ∧ Hid (Own wr w1.heap.size L Ls) ∧ Hid (Below w1.heap.size w1 wr)) (fun _ _ _ idx _ => n - (intOf idx).toNat)
        case atStart => exact ⟨0, i, [], Nat.zero_le _, rfl, rfl, Lib.hid (Ices.start s i k t zs), Lib.hid (ice_ge0 HI.out), O1, B1⟩
        case round =>
          obtain ⟨j, x, Ls, hj, rfl, rfl, hI, hx, hO, hB⟩ := hrel
          by_cases hlt : j < n
          · obtain ⟨b0, o0, cap', e, hc⟩ := (RW.out.below hB.out).cells (by rw [HE.out]; omega)
            have ea : a = some ⟨b0, o0, none⟩ := by cases e; rfl
            have z0 := hc j (by rw [HE.out]; exact hlt)
            subst ea
            clear e hc
            have HT := Lib.hid hI.out.tick
            have HS := Lib.hid (fun x1 => hI.out.step (x := x1))
            have HY := Lib.hid (HF2.out j hlt)
            have hi : (0 : Int) ≤ (j : Int) := by omega
            have hi' : (j : Int) < (n : Int) := by omega
            have hzb : Hid (Ls.length ≤ 1048576) := Lib.hid (by rw [hI.out.len]; have := HN.out; omega)
            generalize zs.getD j 0 = y at *
            cases P0 : pos (fop .add .f32 x k)
            · have HP := Lib.hid P0
              clear P0
              go_wp2_with (refine wpList_farith rfl _ _ _ _ _ rfl rfl _ _ _ rfl rfl ?_; intro r1 j1 h1; have F1 := Lib.hid h1; clear h1)
              refine (specAbove_any _ _).mono ?_
              rw [add_pos F1.out, HP.out]
              rintro e w2 ⟨rfl, m3, rfl⟩
              clear z0
              go_wp2
              (first | go_ret | go_ret2)
              exact RunB.no (runB_tick (j := j) (by rw [HE.out]; exact hlt) (by rw [HT.out, grow_nopos HP.out])) (below_step Bw.out (below_drewN hB.out _))
            · have HP := Lib.hid P0
              clear P0
              cases G : fin .f32 (growF s x k y t)
              · have HG := Lib.hid G
                clear G
                go_wp2_with (refine wpList_farith rfl _ _ _ _ _ rfl rfl _ _ _ rfl rfl ?_; intro r1 j1 h1; have F1 := Lib.hid h1; clear h1)
                refine (specAbove_any _ _).mono ?_
                rw [add_pos F1.out, HP.out]
                rintro e w2 ⟨rfl, m3, rfl⟩
                go_wp2_with fail
                refine (specGrowV_any s x k y t _ _ (A.out.kept (below_drewN hB.out _))).mono ?_
                rintro e w2 ⟨x1, hx1, rfl, m4, rfl⟩
                have X1 := Lib.hid hx1
                clear hx1
                go_wp2_with fail
                refine (specFinite_any _ _).mono ?_
                rw [show fin .f32 x1 = false from by rw [← fin_cn .f32 x1, X1.out, HG.out]]
                rintro e w2 ⟨rfl, m5, rfl⟩
                clear z0
                go_wp2
                (first | go_ret | go_ret2)
                exact RunB.no (runB_tick (j := j) (by rw [HE.out]; exact hlt) (by rw [HT.out, grow_nofin HG.out])) (below_step Bw.out (below_drewN hB.out _))
              · have HG := Lib.hid G
                clear G
                go_wp2_with (refine wpList_farith rfl _ _ _ _ _ rfl rfl _ _ _ rfl rfl ?_; intro r1 j1 h1; have F1 := Lib.hid h1; clear h1)
                refine (specAbove_any _ _).mono ?_
                rw [add_pos F1.out, HP.out]
                rintro e w2 ⟨rfl, m3, rfl⟩
                go_wp2_with fail
                refine (specGrowV_any s x k y t _ _ (A.out.kept (below_drewN hB.out _))).mono ?_
                rintro e w2 ⟨x1, hx1, rfl, m4, rfl⟩
                have X1 := Lib.hid hx1
                clear hx1
                go_wp2_with fail
                refine (specFinite_any _ _).mono ?_
                rw [show fin .f32 x1 = true from by rw [← fin_cn .f32 x1, X1.out, HG.out]]
                rintro e w2 ⟨rfl, m5, rfl⟩
                have I2 := Lib.hid (HS.out x1 (grow_all HI.out hx.out HP.out HY.out HG.out) X1.out)
                have G2 := Lib.hid (show ge0 x1 = true from by rw [ge0_cn X1.out]; exact ge0_grow s x k y t)
                have hbs : Hid (w1.heap.size ≤ wr.heap.size) := Lib.hid hB.out.size
                clear z0 HS
                go_wp2_with (at_builtin; refine wpList_app32 rfl _ _ rfl w1.heap.size _ Ls rfl ((hO.out.drewN _).al _) _ x1 _ rfl ((World.cell?_alloc_at _ _ _ _ (by simp)).trans rfl) hzb.out (by have := hbs.out; simp; omega) ?_; intro v' w3 hown' hb; have O3 := Lib.hid hown'; have B3 := Lib.hid (((below_drewN hB.out _).alloc (by have := hbs.out; simp; omega) _).trans hb); clear hown' hb)
                go_roundw
                case rel => exact ⟨j + 1, x1, Ls ++ [x1], by omega, by go_num, rfl, I2, G2, O3, B3⟩
                case measure => simp [intOf]; omega
          · have e := Lib.hid (show j = n by omega)
            have hr := Lib.hid (hO.out.row (by rw [hI.out.len]; have := HN.out; omega))
            go_wp2
            (first | go_ret | go_ret2)
            have e1 := e.out
            subst e1
            exact RunB.yes (runB_yes HI.out (by rw [HE.out]; exact HN.out) (by rw [HE.out]; exact hI.out.ok)) hr.out (by rw [HE.out]; exact hI.out.map) (below_step Bw.out hB.out)
end Go.Proofs.Ytgcgfnpkkhhkgab
