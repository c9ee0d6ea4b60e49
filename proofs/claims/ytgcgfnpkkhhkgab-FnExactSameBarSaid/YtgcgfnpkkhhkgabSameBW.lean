/- Whether two bars are the same: the law's walk. -/
import Derived.Test.YtgcgfnpkkhhkgabSameB
import Derived.Test.YtgcgfnpkkhhkgabFactsB
namespace Go.Proofs.Ytgcgfnpkkhhkgab
open Go.RowKit
set_option linter.unusedVariables false

set_option maxRecDepth 10000 in
set_option maxHeartbeats 3200000 in
theorem fnExactSameBar_walk (s : SF) (st : Nat) (v : Value) (zs : List Nat) (t : SF) (st' : Nat) (v' : Value) (ys : List Nat) (w : World) (h : FRow w v zs) (ws : s.wf) (wst : (Lit.float .f32 st).wf = true) (hz : Wf zs) (h' : FRow w v' ys) (wt : t.wf) (wst' : (Lit.float .f32 st').wf = true) (hy : Wf ys) :
    Calls Try.prog 9 #[.agg #[.float .f32 s.so, .float .f32 s.fl, .float .f32 s.es, .float .f32 s.ef, .float .f32 s.pt, .float .f32 s.la, .float .f32 st, v], .agg #[.float .f32 t.so, .float .f32 t.fl, .float .f32 t.es, .float .f32 t.ef, .float .f32 t.pt, .float .f32 t.la, .float .f32 st', v']] w (Tru w) := by
  have A := Lib.hid ((Cells.made w (bvs s st (v)) 38).al (.cells (bvs t st' (v')).toArray 38))
  have B := Cells.made (w.alloc (.cells (bvs s st (v)).toArray 38)) (bvs t st' (v')) 38
  rw [show (w.alloc (.cells (bvs s st (v)).toArray 38)).heap.size = w.heap.size + 1 from by simp] at B
  have B := Lib.hid B
  have Bw := Lib.hid (below_al2 w (.cells (bvs s st (v)).toArray 38) (.cells (bvs t st' (v')).toArray 38))
  have R := Lib.hid (fun w1 (hb : Below w.heap.size w w1) => And.intro (h.below hb) (h'.below hb))
  have SP := Lib.hid (fun (v v' : Value) (w : World) (h : FRow w v zs) (h' : FRow w v' ys) => And.intro (specSameB_any s t st st' v v' zs ys w h h' ws wt wst wst' hz hy) (implSameB_any s t st st' v v' zs ys w h h' ws wt wst wst' hz hy))
  generalize sameB s t st st' zs ys = r at SP
  clear h h' ws wt wst wst' hz hy
  by_cases hl : zs.length ≤ 1048576
  case neg =>
    have HL := Lib.hid (Nat.lt_of_not_le hl)
    clear hl
    go_enter Try.func9, Try.ntmps9
    go_wp2_with fail
    refine (szBar_over s st v zs 1048576 _ (R.out _ Bw.out).1 HL.out (Nat.le_refl _)).mono ?_
    rintro _ w1 ⟨rfl, hb⟩
    have Bw := Lib.hid (below_step Bw.out hb); have A := Lib.hid (A.out.kept hb); have B := Lib.hid (B.out.kept hb); have c0 := A.out.at 0 rfl; have c1 := A.out.at 1 rfl; have c2 := A.out.at 2 rfl; have c3 := A.out.at 3 rfl; have c4 := A.out.at 4 rfl; have c5 := A.out.at 5 rfl; have c6 := A.out.at 6 rfl; have c7 := A.out.at 7 rfl; have d0 := B.out.at 0 rfl; have d1 := B.out.at 1 rfl; have d2 := B.out.at 2 rfl; have d3 := B.out.at 3 rfl; have d4 := B.out.at 4 rfl; have d5 := B.out.at 5 rfl; have d6 := B.out.at 6 rfl; have d7 := B.out.at 7 rfl; clear hb
    go_wp2
    go_ret
    exact Tru.below Bw.out
  case pos =>
    have HL := Lib.hid hl
    have HM : Hid (zs.length ≤ maxLen) := Lib.hid (Nat.le_trans hl (by decide))
    by_cases kl : ys.length ≤ 1048576 - zs.length
    case neg =>
      have KL := Lib.hid (Nat.lt_of_not_le kl)
      clear hl kl
      go_enter Try.func9, Try.ntmps9
      go_wp2_with fail
      refine (szBar_fit s st v zs 1048576 _ (R.out _ Bw.out).1 HL.out (Nat.le_refl _)).mono ?_
      rintro _ w1 ⟨rfl, hb⟩
      have Bw := Lib.hid (below_step Bw.out hb); have A := Lib.hid (A.out.kept hb); have B := Lib.hid (B.out.kept hb); have c0 := A.out.at 0 rfl; have c1 := A.out.at 1 rfl; have c2 := A.out.at 2 rfl; have c3 := A.out.at 3 rfl; have c4 := A.out.at 4 rfl; have c5 := A.out.at 5 rfl; have c6 := A.out.at 6 rfl; have c7 := A.out.at 7 rfl; have d0 := B.out.at 0 rfl; have d1 := B.out.at 1 rfl; have d2 := B.out.at 2 rfl; have d3 := B.out.at 3 rfl; have d4 := B.out.at 4 rfl; have d5 := B.out.at 5 rfl; have d6 := B.out.at 6 rfl; have d7 := B.out.at 7 rfl; clear hb
      have ML : Hid (1048576 - zs.length ≤ 1048576) := Lib.hid (Nat.sub_le _ _)
      generalize 1048576 - zs.length = L2 at *
      go_wp2_with fail
      refine (szBar_over t st' v' ys L2 _ (R.out _ Bw.out).2 KL.out ML.out).mono ?_
      rintro _ w2 ⟨rfl, hb⟩
      clear c0 c1 c2 c3 c4 c5 c6 c7 d0 d1 d2 d3 d4 d5 d6 d7
      have Bw := Lib.hid (below_step Bw.out hb); have A := Lib.hid (A.out.kept hb); have B := Lib.hid (B.out.kept hb); have c0 := A.out.at 0 rfl; have c1 := A.out.at 1 rfl; have c2 := A.out.at 2 rfl; have c3 := A.out.at 3 rfl; have c4 := A.out.at 4 rfl; have c5 := A.out.at 5 rfl; have c6 := A.out.at 6 rfl; have c7 := A.out.at 7 rfl; have d0 := B.out.at 0 rfl; have d1 := B.out.at 1 rfl; have d2 := B.out.at 2 rfl; have d3 := B.out.at 3 rfl; have d4 := B.out.at 4 rfl; have d5 := B.out.at 5 rfl; have d6 := B.out.at 6 rfl; have d7 := B.out.at 7 rfl; clear hb
      go_wp2
      go_ret
      exact Tru.below Bw.out
    case pos =>
      have K0 := Lib.hid kl
      have KL : Hid (ys.length ≤ 1048576) := Lib.hid (Nat.le_trans kl (Nat.sub_le _ _))
      have KM : Hid (ys.length ≤ maxLen) := Lib.hid (Nat.le_trans KL.out (by decide))
      clear hl kl
      go_enter Try.func9, Try.ntmps9
      go_wp2_with fail
      refine (szBar_fit s st v zs 1048576 _ (R.out _ Bw.out).1 HL.out (Nat.le_refl _)).mono ?_
      rintro _ w1 ⟨rfl, hb⟩
      have Bw := Lib.hid (below_step Bw.out hb); have A := Lib.hid (A.out.kept hb); have B := Lib.hid (B.out.kept hb); have c0 := A.out.at 0 rfl; have c1 := A.out.at 1 rfl; have c2 := A.out.at 2 rfl; have c3 := A.out.at 3 rfl; have c4 := A.out.at 4 rfl; have c5 := A.out.at 5 rfl; have c6 := A.out.at 6 rfl; have c7 := A.out.at 7 rfl; have d0 := B.out.at 0 rfl; have d1 := B.out.at 1 rfl; have d2 := B.out.at 2 rfl; have d3 := B.out.at 3 rfl; have d4 := B.out.at 4 rfl; have d5 := B.out.at 5 rfl; have d6 := B.out.at 6 rfl; have d7 := B.out.at 7 rfl; clear hb
      have ML : Hid (1048576 - zs.length ≤ 1048576) := Lib.hid (Nat.sub_le _ _)
      generalize 1048576 - zs.length = L2 at *
      go_wp2_with fail
      refine (szBar_fit t st' v' ys L2 _ (R.out _ Bw.out).2 K0.out ML.out).mono ?_
      rintro _ w2 ⟨rfl, hb⟩
      clear c0 c1 c2 c3 c4 c5 c6 c7 d0 d1 d2 d3 d4 d5 d6 d7
      have Bw := Lib.hid (below_step Bw.out hb); have A := Lib.hid (A.out.kept hb); have B := Lib.hid (B.out.kept hb); have c0 := A.out.at 0 rfl; have c1 := A.out.at 1 rfl; have c2 := A.out.at 2 rfl; have c3 := A.out.at 3 rfl; have c4 := A.out.at 4 rfl; have c5 := A.out.at 5 rfl; have c6 := A.out.at 6 rfl; have c7 := A.out.at 7 rfl; have d0 := B.out.at 0 rfl; have d1 := B.out.at 1 rfl; have d2 := B.out.at 2 rfl; have d3 := B.out.at 3 rfl; have d4 := B.out.at 4 rfl; have d5 := B.out.at 5 rfl; have d6 := B.out.at 6 rfl; have d7 := B.out.at 7 rfl; clear hb
      generalize L2 - ys.length = L3 at *
      go_wp2
      have RV := Lib.hid (R.out _ Bw.out).1
      have RY := Lib.hid (R.out _ Bw.out).2
      have FACT := Lib.hid (fun w1 (hw : Ext (w2) w1) => And.intro (hw.cell (A.out.at 0 rfl)) (And.intro (hw.cell (A.out.at 1 rfl)) (And.intro (hw.cell (A.out.at 2 rfl)) (And.intro (hw.cell (A.out.at 3 rfl)) (And.intro (hw.cell (A.out.at 4 rfl)) (And.intro (hw.cell (A.out.at 5 rfl)) (And.intro (hw.cell (A.out.at 6 rfl)) (And.intro (hw.cell (A.out.at 7 rfl)) (And.intro (hw.cell (B.out.at 0 rfl)) (And.intro (hw.cell (B.out.at 1 rfl)) (And.intro (hw.cell (B.out.at 2 rfl)) (And.intro (hw.cell (B.out.at 3 rfl)) (And.intro (hw.cell (B.out.at 4 rfl)) (And.intro (hw.cell (B.out.at 5 rfl)) (And.intro (hw.cell (B.out.at 6 rfl)) (hw.cell (B.out.at 7 rfl)))))))))))))))))
      refine wp_region_facts (Ext (w2)) (TS [(21, (fBarAt s st zs)), (23, (fBarAt t st' ys)), (24, fIs (.bool r))]) (Pers.ext _) (TS.pers _) (Ext.start _) (by kernel_rfl) (by kernel_rfl) (by intro d v c a w h; cases d <;> exact h) ?_
      repeat (refine wpF_val rfl monoQ_end (by rintro _ ⟨⟩; rfl) ?_ (fun w1 hw1 => ?_) (fun K hK => ?_); rotate_left; (focus (have hF := FACT.out w1 hw1; go_simp; first | done | rfl)); go_simp; refine hK _ ?_; clear hK K)
      refine wpF_callF rfl 21 rfl 29 #[.agg #[.float .f32 s.so, .float .f32 s.fl, .float .f32 s.es, .float .f32 s.ef, .float .f32 s.pt, .float .f32 s.la, .float .f32 st, v]] (fBarAt s st zs) rfl (fun w1 => ?_) (fun w1 hC hN => ?_) (fun v1 hv1 => ?_)
      · go_simp
      · refine (toBar_any s st v zs w1 (RV.out.below hC) HL.out).mono ?_
        rintro _ w2 ⟨p, rfl, hp, Z, hb⟩
        exact ⟨_, rfl, hb, p, rfl, Z⟩
      obtain ⟨w2, p1, rfl, _⟩ := hv1
      unfold bagV
      repeat (refine wpF_val rfl monoQ_end (by rintro _ ⟨⟩; rfl) ?_ (fun w1 hw1 => ?_) (fun K hK => ?_); rotate_left; (focus (have hF := FACT.out w1 hw1; go_simp; first | done | rfl)); go_simp; refine hK _ ?_; clear hK K)
      refine wpF_callF rfl 23 rfl 29 #[.agg #[.float .f32 t.so, .float .f32 t.fl, .float .f32 t.es, .float .f32 t.ef, .float .f32 t.pt, .float .f32 t.la, .float .f32 st', v']] (fBarAt t st' ys) rfl (fun w1 => ?_) (fun w1 hC hN => ?_) (fun v1 hv1 => ?_)
      · go_simp
      · refine (toBar_any t st' v' ys w1 (RY.out.below hC) KL.out).mono ?_
        rintro _ w2 ⟨p, rfl, hp, Z, hb⟩
        exact ⟨_, rfl, hb, p, rfl, Z⟩
      obtain ⟨w2, p2, rfl, _⟩ := hv1
      unfold bagV
      repeat (refine wpF_val rfl monoQ_end (by rintro _ ⟨⟩; rfl) ?_ (fun w1 hw1 => ?_) (fun K hK => ?_); rotate_left; (focus (have hF := FACT.out w1 hw1; go_simp; first | done | rfl)); go_simp; refine hK _ ?_; clear hK K)
      refine wpF_callF rfl 24 rfl 32 #[.agg #[.float .f32 s.so, .float .f32 s.fl, .float .f32 s.es, .float .f32 s.ef, .float .f32 s.pt, .float .f32 s.la, .float .f32 st, sl p1 zs], .agg #[.float .f32 t.so, .float .f32 t.fl, .float .f32 t.es, .float .f32 t.ef, .float .f32 t.pt, .float .f32 t.la, .float .f32 st', sl p2 ys]] (fIs (.bool r)) rfl (fun w1 => ?_) (fun w1 hC hN => ?_) (fun v1 hv1 => ?_)
      · go_simp
      · have Z := bar_at (fact_need (d := 21) rfl hN (by kernel_rfl) (by repeat (first | exact Or.inr ⟨rfl, rfl⟩ | refine Or.inl ?_)))
        have Z2 := bar_at (fact_need (d := 23) rfl hN (by kernel_rfl) (by repeat (first | exact Or.inr ⟨rfl, rfl⟩ | refine Or.inl ?_)))
        refine (SP.out _ _ w1 (.of_cells Z HM.out) (.of_cells Z2 KM.out)).1.mono ?_
        rintro _ w2 ⟨rfl, hb⟩
        exact ⟨_, rfl, hb, rfl⟩
      obtain ⟨w4, rfl⟩ := hv1
      repeat (refine wpF_val rfl monoQ_end (by rintro _ ⟨⟩; rfl) ?_ (fun w1 hw1 => ?_) (fun K hK => ?_); rotate_left; (focus (have hF := FACT.out w1 hw1; go_simp; first | done | rfl)); go_simp; refine hK _ ?_; clear hK K)
      refine wpFacts_nil ?_
      intro w3 hb _
      have Bw := Lib.hid (below_step Bw.out hb)
      have A := Lib.hid (A.out.kept hb)
      have B := Lib.hid (B.out.kept hb)
      have RV := Lib.hid (RV.out.below hb)
      have RY := Lib.hid (RY.out.below hb)
      clear c0 c1 c2 c3 c4 c5 c6 c7 d0 d1 d2 d3 d4 d5 d6 d7
      have c0 := A.out.at 0 rfl; have c1 := A.out.at 1 rfl; have c2 := A.out.at 2 rfl; have c3 := A.out.at 3 rfl; have c4 := A.out.at 4 rfl; have c5 := A.out.at 5 rfl; have c6 := A.out.at 6 rfl; have c7 := A.out.at 7 rfl; have d0 := B.out.at 0 rfl; have d1 := B.out.at 1 rfl; have d2 := B.out.at 2 rfl; have d3 := B.out.at 3 rfl; have d4 := B.out.at 4 rfl; have d5 := B.out.at 5 rfl; have d6 := B.out.at 6 rfl; have d7 := B.out.at 7 rfl
      clear hb FACT
      go_wp2_with fail
      refine (toBar_any s st v zs _ RV.out HL.out).mono ?_
      rintro _ w4 ⟨x0, rfl, hp, V, hb⟩
      have Bw := Lib.hid (below_step Bw.out hb)
      have A := Lib.hid (A.out.kept hb)
      have B := Lib.hid (B.out.kept hb)
      have RV := Lib.hid (RV.out.below hb)
      have RY := Lib.hid (RY.out.below hb)
      have X := Lib.hid (Cells.made w4 [.float .f32 s.so, .float .f32 s.fl, .float .f32 s.es, .float .f32 s.ef, .float .f32 s.pt, .float .f32 s.la, .float .f32 st, .slice (some ⟨x0, 0, none⟩) zs.length zs.length] 42)
      have V := Lib.hid (V.kept (below_al1 w4 (.cells #[.float .f32 s.so, .float .f32 s.fl, .float .f32 s.es, .float .f32 s.ef, .float .f32 s.pt, .float .f32 s.la, .float .f32 st, .slice (some ⟨x0, 0, none⟩) zs.length zs.length] 42)))
      have Bw := Lib.hid (below_step Bw.out (below_al1 w4 (.cells #[.float .f32 s.so, .float .f32 s.fl, .float .f32 s.es, .float .f32 s.ef, .float .f32 s.pt, .float .f32 s.la, .float .f32 st, .slice (some ⟨x0, 0, none⟩) zs.length zs.length] 42)))
      have A := Lib.hid (A.out.al (.cells #[.float .f32 s.so, .float .f32 s.fl, .float .f32 s.es, .float .f32 s.ef, .float .f32 s.pt, .float .f32 s.la, .float .f32 st, .slice (some ⟨x0, 0, none⟩) zs.length zs.length] 42))
      have B := Lib.hid (B.out.al (.cells #[.float .f32 s.so, .float .f32 s.fl, .float .f32 s.es, .float .f32 s.ef, .float .f32 s.pt, .float .f32 s.la, .float .f32 st, .slice (some ⟨x0, 0, none⟩) zs.length zs.length] 42))
      have RV := Lib.hid (RV.out.below (below_al1 w4 (.cells #[.float .f32 s.so, .float .f32 s.fl, .float .f32 s.es, .float .f32 s.ef, .float .f32 s.pt, .float .f32 s.la, .float .f32 st, .slice (some ⟨x0, 0, none⟩) zs.length zs.length] 42)))
      have RY := Lib.hid (RY.out.below (below_al1 w4 (.cells #[.float .f32 s.so, .float .f32 s.fl, .float .f32 s.es, .float .f32 s.ef, .float .f32 s.pt, .float .f32 s.la, .float .f32 st, .slice (some ⟨x0, 0, none⟩) zs.length zs.length] 42)))
      clear hb hp
      clear c0 c1 c2 c3 c4 c5 c6 c7 d0 d1 d2 d3 d4 d5 d6 d7
      have c0 := A.out.at 0 rfl; have c1 := A.out.at 1 rfl; have c2 := A.out.at 2 rfl; have c3 := A.out.at 3 rfl; have c4 := A.out.at 4 rfl; have c5 := A.out.at 5 rfl; have c6 := A.out.at 6 rfl; have c7 := A.out.at 7 rfl; have d0 := B.out.at 0 rfl; have d1 := B.out.at 1 rfl; have d2 := B.out.at 2 rfl; have d3 := B.out.at 3 rfl; have d4 := B.out.at 4 rfl; have d5 := B.out.at 5 rfl; have d6 := B.out.at 6 rfl; have d7 := B.out.at 7 rfl
      go_wp2_with fail
      refine (toBar_any t st' v' ys _ RY.out KL.out).mono ?_
      rintro _ w5 ⟨y0, rfl, hp, U, hb⟩
      have Bw := Lib.hid (below_step Bw.out hb)
      have X := Lib.hid (X.out.kept hb)
      have V := Lib.hid (V.out.kept hb)
      have A := Lib.hid (A.out.kept hb)
      have B := Lib.hid (B.out.kept hb)
      have RV := Lib.hid (RV.out.below hb)
      have RY := Lib.hid (RY.out.below hb)
      have Y := Lib.hid (Cells.made w5 [.float .f32 t.so, .float .f32 t.fl, .float .f32 t.es, .float .f32 t.ef, .float .f32 t.pt, .float .f32 t.la, .float .f32 st', .slice (some ⟨y0, 0, none⟩) ys.length ys.length] 42)
      have U := Lib.hid (U.kept (below_al1 w5 (.cells #[.float .f32 t.so, .float .f32 t.fl, .float .f32 t.es, .float .f32 t.ef, .float .f32 t.pt, .float .f32 t.la, .float .f32 st', .slice (some ⟨y0, 0, none⟩) ys.length ys.length] 42)))
      have Bw := Lib.hid (below_step Bw.out (below_al1 w5 (.cells #[.float .f32 t.so, .float .f32 t.fl, .float .f32 t.es, .float .f32 t.ef, .float .f32 t.pt, .float .f32 t.la, .float .f32 st', .slice (some ⟨y0, 0, none⟩) ys.length ys.length] 42)))
      have X := Lib.hid (X.out.al (.cells #[.float .f32 t.so, .float .f32 t.fl, .float .f32 t.es, .float .f32 t.ef, .float .f32 t.pt, .float .f32 t.la, .float .f32 st', .slice (some ⟨y0, 0, none⟩) ys.length ys.length] 42))
      have V := Lib.hid (V.out.al (.cells #[.float .f32 t.so, .float .f32 t.fl, .float .f32 t.es, .float .f32 t.ef, .float .f32 t.pt, .float .f32 t.la, .float .f32 st', .slice (some ⟨y0, 0, none⟩) ys.length ys.length] 42))
      have A := Lib.hid (A.out.al (.cells #[.float .f32 t.so, .float .f32 t.fl, .float .f32 t.es, .float .f32 t.ef, .float .f32 t.pt, .float .f32 t.la, .float .f32 st', .slice (some ⟨y0, 0, none⟩) ys.length ys.length] 42))
      have B := Lib.hid (B.out.al (.cells #[.float .f32 t.so, .float .f32 t.fl, .float .f32 t.es, .float .f32 t.ef, .float .f32 t.pt, .float .f32 t.la, .float .f32 st', .slice (some ⟨y0, 0, none⟩) ys.length ys.length] 42))
      have RV := Lib.hid (RV.out.below (below_al1 w5 (.cells #[.float .f32 t.so, .float .f32 t.fl, .float .f32 t.es, .float .f32 t.ef, .float .f32 t.pt, .float .f32 t.la, .float .f32 st', .slice (some ⟨y0, 0, none⟩) ys.length ys.length] 42)))
      have RY := Lib.hid (RY.out.below (below_al1 w5 (.cells #[.float .f32 t.so, .float .f32 t.fl, .float .f32 t.es, .float .f32 t.ef, .float .f32 t.pt, .float .f32 t.la, .float .f32 st', .slice (some ⟨y0, 0, none⟩) ys.length ys.length] 42)))
      clear hb hp
      clear c0 c1 c2 c3 c4 c5 c6 c7 d0 d1 d2 d3 d4 d5 d6 d7
      have c0 := A.out.at 0 rfl; have c1 := A.out.at 1 rfl; have c2 := A.out.at 2 rfl; have c3 := A.out.at 3 rfl; have c4 := A.out.at 4 rfl; have c5 := A.out.at 5 rfl; have c6 := A.out.at 6 rfl; have c7 := A.out.at 7 rfl; have d0 := B.out.at 0 rfl; have d1 := B.out.at 1 rfl; have d2 := B.out.at 2 rfl; have d3 := B.out.at 3 rfl; have d4 := B.out.at 4 rfl; have d5 := B.out.at 5 rfl; have d6 := B.out.at 6 rfl; have d7 := B.out.at 7 rfl
      have e0 := X.out.at 0 rfl; have e1 := X.out.at 1 rfl; have e2 := X.out.at 2 rfl; have e3 := X.out.at 3 rfl; have e4 := X.out.at 4 rfl; have e5 := X.out.at 5 rfl; have e6 := X.out.at 6 rfl; have e7 := X.out.at 7 rfl; have f0 := Y.out.at 0 rfl; have f1 := Y.out.at 1 rfl; have f2 := Y.out.at 2 rfl; have f3 := Y.out.at 3 rfl; have f4 := Y.out.at 4 rfl; have f5 := Y.out.at 5 rfl; have f6 := Y.out.at 6 rfl; have f7 := Y.out.at 7 rfl
      go_wp2_with fail
      refine (SP.out _ _ _ (.of_cells V.out HM.out) (.of_cells U.out KM.out)).2.mono ?_
      rintro _ w6 ⟨rfl, hb⟩
      have Bw := Lib.hid (below_step Bw.out hb)
      have A := Lib.hid (A.out.kept hb)
      have B := Lib.hid (B.out.kept hb)
      have X := Lib.hid (X.out.kept hb)
      have V := Lib.hid (V.out.kept hb)
      have Y := Lib.hid (Y.out.kept hb)
      have U := Lib.hid (U.out.kept hb)
      have RV := Lib.hid (RV.out.below hb)
      have RY := Lib.hid (RY.out.below hb)
      clear hb
      clear c0 c1 c2 c3 c4 c5 c6 c7 d0 d1 d2 d3 d4 d5 d6 d7 e0 e1 e2 e3 e4 e5 e6 e7 f0 f1 f2 f3 f4 f5 f6 f7
      generalize w4.heap.size = q1 at *
      generalize w5.heap.size = q2 at *
      go_wp2
      have FACT := Lib.hid (fun w1 (hw : Ext (w6) w1) => And.intro (hw.cell (A.out.at 0 rfl)) (And.intro (hw.cell (A.out.at 1 rfl)) (And.intro (hw.cell (A.out.at 2 rfl)) (And.intro (hw.cell (A.out.at 3 rfl)) (And.intro (hw.cell (A.out.at 4 rfl)) (And.intro (hw.cell (A.out.at 5 rfl)) (And.intro (hw.cell (A.out.at 6 rfl)) (And.intro (hw.cell (A.out.at 7 rfl)) (And.intro (hw.cell (X.out.at 0 rfl)) (And.intro (hw.cell (X.out.at 1 rfl)) (And.intro (hw.cell (X.out.at 2 rfl)) (And.intro (hw.cell (X.out.at 3 rfl)) (And.intro (hw.cell (X.out.at 4 rfl)) (And.intro (hw.cell (X.out.at 5 rfl)) (And.intro (hw.cell (X.out.at 6 rfl)) (hw.cell (X.out.at 7 rfl)))))))))))))))))
      refine wp_region_facts (Ext (w6)) (TS [(37, (fBarAt s st zs)), (38, fIs (.bool true))]) (Pers.ext _) (TS.pers _) (Ext.start _) (by kernel_rfl) (by kernel_rfl) (by intro d v c a w h; cases d <;> exact h) ?_
      repeat (refine wpF_val rfl monoQ_end (by rintro _ ⟨⟩; rfl) ?_ (fun w1 hw1 => ?_) (fun K hK => ?_); rotate_left; (focus (have hF := FACT.out w1 hw1; go_simp; first | done | rfl)); go_simp; refine hK _ ?_; clear hK K)
      refine wpF_callF rfl 37 rfl 29 #[.agg #[.float .f32 s.so, .float .f32 s.fl, .float .f32 s.es, .float .f32 s.ef, .float .f32 s.pt, .float .f32 s.la, .float .f32 st, v]] (fBarAt s st zs) rfl (fun w1 => ?_) (fun w1 hC hN => ?_) (fun v1 hv1 => ?_)
      · go_simp
      · refine (toBar_any s st v zs w1 (RV.out.below hC) HL.out).mono ?_
        rintro _ w2 ⟨p, rfl, hp, Z, hb⟩
        exact ⟨_, rfl, hb, p, rfl, Z⟩
      obtain ⟨w2, p3, rfl, _⟩ := hv1
      unfold bagV
      repeat (refine wpF_val rfl monoQ_end (by rintro _ ⟨⟩; rfl) ?_ (fun w1 hw1 => ?_) (fun K hK => ?_); rotate_left; (focus (have hF := FACT.out w1 hw1; go_simp; first | done | rfl)); go_simp; refine hK _ ?_; clear hK K)
      refine wpF_callF rfl 38 rfl 31 #[.agg #[.float .f32 s.so, .float .f32 s.fl, .float .f32 s.es, .float .f32 s.ef, .float .f32 s.pt, .float .f32 s.la, .float .f32 st, sl x0 zs], .agg #[.float .f32 s.so, .float .f32 s.fl, .float .f32 s.es, .float .f32 s.ef, .float .f32 s.pt, .float .f32 s.la, .float .f32 st, sl p3 zs]] (fIs (.bool true)) rfl (fun w1 => ?_) (fun w1 hC hN => ?_) (fun v1 hv1 => ?_)
      · go_simp
      · have Z := bar_at (fact_need (d := 37) rfl hN (by kernel_rfl) (by repeat (first | exact Or.inr ⟨rfl, rfl⟩ | refine Or.inl ?_)))
        refine (eqBar_any s st _ _ zs zs w1 (.of_cells (V.out.kept hC) HM.out) (.of_cells Z HM.out) (.refl zs)).mono ?_
        rintro _ w2 ⟨rfl, hb⟩
        exact ⟨_, rfl, hb, rfl⟩
      obtain ⟨w2, rfl⟩ := hv1
      repeat (refine wpF_val rfl monoQ_end (by rintro _ ⟨⟩; rfl) ?_ (fun w1 hw1 => ?_) (fun K hK => ?_); rotate_left; (focus (have hF := FACT.out w1 hw1; go_simp; first | done | rfl)); go_simp; refine hK _ ?_; clear hK K)
      refine wpFacts_nil ?_
      intro w7 hb _
      have Bw := Lib.hid (below_step Bw.out hb)
      have B := Lib.hid (B.out.kept hb)
      have Y := Lib.hid (Y.out.kept hb)
      have U := Lib.hid (U.out.kept hb)
      have RY := Lib.hid (RY.out.below hb)
      clear hb FACT A X V
      go_wp2
      have FACT := Lib.hid (fun w1 (hw : Ext (w7) w1) => And.intro (hw.cell (B.out.at 0 rfl)) (And.intro (hw.cell (B.out.at 1 rfl)) (And.intro (hw.cell (B.out.at 2 rfl)) (And.intro (hw.cell (B.out.at 3 rfl)) (And.intro (hw.cell (B.out.at 4 rfl)) (And.intro (hw.cell (B.out.at 5 rfl)) (And.intro (hw.cell (B.out.at 6 rfl)) (And.intro (hw.cell (B.out.at 7 rfl)) (And.intro (hw.cell (Y.out.at 0 rfl)) (And.intro (hw.cell (Y.out.at 1 rfl)) (And.intro (hw.cell (Y.out.at 2 rfl)) (And.intro (hw.cell (Y.out.at 3 rfl)) (And.intro (hw.cell (Y.out.at 4 rfl)) (And.intro (hw.cell (Y.out.at 5 rfl)) (And.intro (hw.cell (Y.out.at 6 rfl)) (hw.cell (Y.out.at 7 rfl)))))))))))))))))
      refine wp_region_facts (Ext (w7)) (TS [(42, (fBarAt t st' ys)), (43, fIs (.bool true))]) (Pers.ext _) (TS.pers _) (Ext.start _) (by kernel_rfl) (by kernel_rfl) (by intro d v c a w h; cases d <;> exact h) ?_
      repeat (refine wpF_val rfl monoQ_end (by rintro _ ⟨⟩; rfl) ?_ (fun w1 hw1 => ?_) (fun K hK => ?_); rotate_left; (focus (have hF := FACT.out w1 hw1; go_simp; first | done | rfl)); go_simp; refine hK _ ?_; clear hK K)
      refine wpF_callF rfl 42 rfl 29 #[.agg #[.float .f32 t.so, .float .f32 t.fl, .float .f32 t.es, .float .f32 t.ef, .float .f32 t.pt, .float .f32 t.la, .float .f32 st', v']] (fBarAt t st' ys) rfl (fun w1 => ?_) (fun w1 hC hN => ?_) (fun v1 hv1 => ?_)
      · go_simp
      · refine (toBar_any t st' v' ys w1 (RY.out.below hC) KL.out).mono ?_
        rintro _ w2 ⟨p, rfl, hp, Z, hb⟩
        exact ⟨_, rfl, hb, p, rfl, Z⟩
      obtain ⟨w2, p4, rfl, _⟩ := hv1
      unfold bagV
      repeat (refine wpF_val rfl monoQ_end (by rintro _ ⟨⟩; rfl) ?_ (fun w1 hw1 => ?_) (fun K hK => ?_); rotate_left; (focus (have hF := FACT.out w1 hw1; go_simp; first | done | rfl)); go_simp; refine hK _ ?_; clear hK K)
      refine wpF_callF rfl 43 rfl 31 #[.agg #[.float .f32 t.so, .float .f32 t.fl, .float .f32 t.es, .float .f32 t.ef, .float .f32 t.pt, .float .f32 t.la, .float .f32 st', sl y0 ys], .agg #[.float .f32 t.so, .float .f32 t.fl, .float .f32 t.es, .float .f32 t.ef, .float .f32 t.pt, .float .f32 t.la, .float .f32 st', sl p4 ys]] (fIs (.bool true)) rfl (fun w1 => ?_) (fun w1 hC hN => ?_) (fun v1 hv1 => ?_)
      · go_simp
      · have Z := bar_at (fact_need (d := 42) rfl hN (by kernel_rfl) (by repeat (first | exact Or.inr ⟨rfl, rfl⟩ | refine Or.inl ?_)))
        refine (eqBar_any t st' _ _ ys ys w1 (.of_cells (U.out.kept hC) KM.out) (.of_cells Z KM.out) (.refl ys)).mono ?_
        rintro _ w2 ⟨rfl, hb⟩
        exact ⟨_, rfl, hb, rfl⟩
      obtain ⟨w2, rfl⟩ := hv1
      repeat (refine wpF_val rfl monoQ_end (by rintro _ ⟨⟩; rfl) ?_ (fun w1 hw1 => ?_) (fun K hK => ?_); rotate_left; (focus (have hF := FACT.out w1 hw1; go_simp; first | done | rfl)); go_simp; refine hK _ ?_; clear hK K)
      refine wpFacts_nil ?_
      intro w8 hb _
      have Bw := Lib.hid (below_step Bw.out hb)
      clear hb FACT
      go_wp2
      go_ret
      exact Tru.below Bw.out
end Go.Proofs.Ytgcgfnpkkhhkgab
