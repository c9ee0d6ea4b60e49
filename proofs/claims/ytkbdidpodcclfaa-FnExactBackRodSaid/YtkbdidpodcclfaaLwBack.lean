/- The law on BackRod: the walk, for any answer that both sides give. -/
import Derived.Test.YtkbdidpodcclfaaRodL
namespace Go.Proofs.Ytkbdidpodcclfaa
open Go.RowKit
set_option linter.unusedVariables false

set_option maxRecDepth 20000 in
set_option maxHeartbeats 12800000 in
theorem fnExactBackRod_law (a0 b0 c0 d0 : Value) (r0 : RL) (ok : Bool) (S : RL) (hS : S.size ≤ 300) 
    (cs : ∀ (a0 b0 c0 d0 : Value) (w1 : World) (h0 : RRow w1 a0 b0 c0 d0 r0), Calls Try.prog 20 #[.agg #[a0, b0, c0, d0]] w1 (RdB ok S w1))
    (ci : ∀ (a0 b0 c0 d0 : Value) (w1 : World) (h0 : RRow w1 a0 b0 c0 d0 r0), Calls Try.prog 21 #[.agg #[a0, b0, c0, d0]] w1 (RdO ok S w1))
    (w : World) (h0 : RRow w a0 b0 c0 d0 r0) : Calls Try.prog 5 #[.agg #[a0, b0, c0, d0]] w (Tru w) := by
  have CS := Lib.hid cs
  have CI := Lib.hid ci
  unfold RdB at CS
  unfold RdO at CI
  have HSm := Lib.hid hS
  have S2 : Hid (S.size ≤ 1048576) := Lib.hid (Nat.le_trans hS (by decide))
  have R0 := Lib.hid (fun w1 (hb : Below w.heap.size w w1) => h0.below hb)
  clear cs ci hS h0
  have L0 := Cells.made w [a0, b0, c0, d0] 31
  have L0 := Lib.hid L0
  have Bw := Lib.hid (below_al1 w (.cells [a0, b0, c0, d0].toArray 31))
  by_cases hl0 : r0.size ≤ 1048576
  case neg =>
    have HO := Lib.hid (Nat.lt_of_not_le hl0)
    clear hl0
    go_enter Try.func5, Try.ntmps5
    go_wp2_with fail
    refine (szRod_over a0 b0 c0 d0 r0 1048576 _ (R0.out _ Bw.out) HO.out (Nat.le_refl _)).mono ?_
    rintro _ ws0 ⟨rfl, hb⟩
    have Bw := Lib.hid (below_step Bw.out hb); have L0 := Lib.hid (L0.out.kept hb); have c00 := (L0.out).at 0 rfl; have c01 := (L0.out).at 1 rfl; have c02 := (L0.out).at 2 rfl; have c03 := (L0.out).at 3 rfl; clear hb
    go_wp2
    go_ret
    exact Tru.below Bw.out
  case pos =>
    have HF0 := Lib.hid hl0
    have HL0 : Hid (r0.size ≤ 1048576) := Lib.hid hl0
    clear hl0
    go_enter Try.func5, Try.ntmps5
    go_wp2_with fail
    refine (szRod_fit a0 b0 c0 d0 r0 1048576 _ (R0.out _ Bw.out) HF0.out (Nat.le_refl _)).mono ?_
    rintro _ ws0 ⟨rfl, hb⟩
    have Bw := Lib.hid (below_step Bw.out hb); have L0 := Lib.hid (L0.out.kept hb); have c00 := (L0.out).at 0 rfl; have c01 := (L0.out).at 1 rfl; have c02 := (L0.out).at 2 rfl; have c03 := (L0.out).at 3 rfl; clear hb
    go_wp2_with fail
    refine (toRod_any a0 b0 c0 d0 r0 _ (R0.out _ Bw.out) HL0.out).mono ?_
    rintro _ wp0 ⟨u00, u01, u02, u03, rfl, hp, V, hb⟩
    clear c00 c01 c02 c03
    have Bw := Lib.hid (below_step Bw.out hb); have L0 := Lib.hid (L0.out.kept hb); have c00 := (L0.out).at 0 rfl; have c01 := (L0.out).at 1 rfl; have c02 := (L0.out).at 2 rfl; have c03 := (L0.out).at 3 rfl
    have VS0 := Lib.hid V
    clear hb hp V
    go_wp2_with fail
    refine (CS.out _ _ _ _ _ (VS0.out.row HL0.out)).mono ?_
    rintro _ w1 ⟨s0, s1, s2, s3, rfl, hY, hb⟩
    clear c00 c01 c02 c03
    have Bw := Lib.hid (below_step Bw.out hb); have L0 := Lib.hid (L0.out.kept hb)
    clear VS0
    have hW := hY.W.shape; have hE := hY.E.shape; have hH := hY.H.shape; have hT := hY.T.shape
    obtain ⟨⟨xs0, cs0, e0⟩, ⟨xs1, cs1, e1⟩, ⟨xs2, cs2, e2⟩, ⟨xs3, cs3, e3⟩⟩ := And.intro hW (And.intro hE (And.intro hH hT))
    obtain ⟨n0, f0⟩ : ∃ n, S.W.length = n := ⟨_, rfl⟩
    obtain ⟨n1, f1⟩ : ∃ n, S.E.length = n := ⟨_, rfl⟩
    obtain ⟨n2, f2⟩ : ∃ n, S.H.length = n := ⟨_, rfl⟩
    obtain ⟨n3, f3⟩ : ∃ n, S.T.length = n := ⟨_, rfl⟩
    have FF := Lib.hid (And.intro f0 (And.intro f1 (And.intro f2 f3)))
    rw [f0] at e0; rw [f1] at e1; rw [f2] at e2; rw [f3] at e3
    subst e0 e1 e2 e3
    clear hW hE hH hT
    have A := Cells.made w1 [.slice xs0 n0 cs0, .slice xs1 n1 cs1, .slice xs2 n2 cs2, .slice xs3 n3 cs3] 25
    have bA := below_al1 w1 (.cells [Value.slice xs0 n0 cs0, .slice xs1 n1 cs1, .slice xs2 n2 cs2, .slice xs3 n3 cs3].toArray 25)
    obtain ⟨wA, hwA⟩ : ∃ wA, w1.alloc (.cells [Value.slice xs0 n0 cs0, .slice xs1 n1 cs1, .slice xs2 n2 cs2, .slice xs3 n3 cs3].toArray 25) = wA := ⟨_, rfl⟩
    rw [hwA] at A bA
    have HWA := Lib.hid hwA
    have A := Lib.hid A
    have Y := Lib.hid (hY.below bA)
    have Bw := Lib.hid (below_step Bw.out bA)
    have LS0 := L0.out.kept (below_al1 w1 (.cells [Value.slice xs0 n0 cs0, .slice xs1 n1 cs1, .slice xs2 n2 cs2, .slice xs3 n3 cs3].toArray 25))
    have c00 := (LS0).at 0 rfl; have c01 := (LS0).at 1 rfl; have c02 := (LS0).at 2 rfl; have c03 := (LS0).at 3 rfl
    have L0 := Lib.hid (L0.out.kept bA)
    have RA0 := Lib.hid (R0.out _ Bw.out)
    have BB := Lib.hid (Below.refl wA.heap.size wA)
    clear hY hb bA f0 f1 f2 f3 hwA LS0
    go_wp2_with fail
    rw [show w1.alloc (.cells #[Value.slice xs0 n0 cs0, .slice xs1 n1 cs1, .slice xs2 n2 cs2, .slice xs3 n3 cs3] 25) = wA from HWA.out]
    refine (toRod_any a0 b0 c0 d0 r0 _ (RA0.out.below BB.out) HL0.out).mono ?_
    rintro _ wx0 ⟨x00, x01, x02, x03, rfl, hp, V, hb⟩
    clear c00 c01 c02 c03
    have XL0 := Lib.hid (Nat.le_trans BB.out.size hp)
    have BB := Lib.hid (below_step BB.out hb)
    have V0 := Lib.hid V
    have BOX0 := Lib.hid (show x03 < wx0.heap.size from V0.out.T.lt)
    have ORD0 := Lib.hid (And.intro V0.out.o01 (And.intro V0.out.o12 V0.out.o23))
    clear V hp hb
    have X := Cells.made wx0 [.slice (some ⟨x00, 0, none⟩) r0.W.length r0.W.length, .slice (some ⟨x01, 0, none⟩) r0.E.length r0.E.length, .slice (some ⟨x02, 0, none⟩) r0.H.length r0.H.length, .slice (some ⟨x03, 0, none⟩) r0.T.length r0.T.length] 25
    have hb := below_al1 wx0 (.cells [Value.slice (some ⟨x00, 0, none⟩) r0.W.length r0.W.length, .slice (some ⟨x01, 0, none⟩) r0.E.length r0.E.length, .slice (some ⟨x02, 0, none⟩) r0.H.length r0.H.length, .slice (some ⟨x03, 0, none⟩) r0.T.length r0.T.length].toArray 25)
    have c00 := ((L0.out.kept BB.out).kept hb).at 0 rfl; have c01 := ((L0.out.kept BB.out).kept hb).at 1 rfl; have c02 := ((L0.out.kept BB.out).kept hb).at 2 rfl; have c03 := ((L0.out.kept BB.out).kept hb).at 3 rfl
    obtain ⟨wb0, hwb⟩ : ∃ wA, wx0.alloc (.cells [Value.slice (some ⟨x00, 0, none⟩) r0.W.length r0.W.length, .slice (some ⟨x01, 0, none⟩) r0.E.length r0.E.length, .slice (some ⟨x02, 0, none⟩) r0.H.length r0.H.length, .slice (some ⟨x03, 0, none⟩) r0.T.length r0.T.length].toArray 25) = wA := ⟨_, rfl⟩
    have hb2 := hb
    rw [hwb] at X hb2
    have HWB0 := Lib.hid hwb
    have X0 := Lib.hid X
    have V0 := Lib.hid (V0.out.kept hb2)
    have BB := Lib.hid (below_step BB.out hb2)
    have TOP0 := Lib.hid (Nat.lt_of_lt_of_le BOX0.out hb2.size)
    clear hb hb2 hwb X

    go_wp2_with fail
    rw [show wx0.alloc (.cells #[Value.slice (some ⟨x00, 0, none⟩) r0.W.length r0.W.length, .slice (some ⟨x01, 0, none⟩) r0.E.length r0.E.length, .slice (some ⟨x02, 0, none⟩) r0.H.length r0.H.length, .slice (some ⟨x03, 0, none⟩) r0.T.length r0.T.length] 25) = wb0 from HWB0.out]
    refine (CI.out _ _ _ _ _ (V0.out.row HL0.out)).mono ?_
    rintro _ w2 ⟨g0, g1, g2, g3, rfl, hO, hb⟩
    have BW0 := Lib.hid BB.out.size
    obtain ⟨⟨xg0, cg0, e0⟩, ⟨xg1, cg1, e1⟩, ⟨xg2, cg2, e2⟩, ⟨xg3, cg3, e3⟩⟩ := hO.shapes
    obtain ⟨f0, f1, f2, f3⟩ := FF.out
    rw [f0] at e0; rw [f1] at e1; rw [f2] at e2; rw [f3] at e3
    subst e0 e1 e2 e3
    clear c00 c01 c02 c03
    have G := Cells.made w2 [.slice xg0 n0 cg0, .slice xg1 n1 cg1, .slice xg2 n2 cg2, .slice xg3 n3 cg3] 25
    have bG := below_al1 w2 (.cells [Value.slice xg0 n0 cg0, .slice xg1 n1 cg1, .slice xg2 n2 cg2, .slice xg3 n3 cg3].toArray 25)
    have AS := (A.out.kept BB.out).kept (below_step hb bG)
    have a0 := AS.at 0 rfl; have a1 := AS.at 1 rfl; have a2 := AS.at 2 rfl; have a3 := AS.at 3 rfl
    obtain ⟨wG, hwG⟩ : ∃ wG, w2.alloc (.cells [Value.slice xg0 n0 cg0, .slice xg1 n1 cg1, .slice xg2 n2 cg2, .slice xg3 n3 cg3].toArray 25) = wG := ⟨_, rfl⟩
    have bG2 := bG
    rw [hwG] at G bG2
    have HWG := Lib.hid hwG
    have U := Lib.hid (hO.kept bG2)
    have UU := Lib.hid bG2.size
    have b3 := below_step hb bG2
    have BB := Lib.hid (below_step BB.out b3)
    have X0 := Lib.hid (X0.out.kept b3)
    have V0 := Lib.hid (V0.out.kept b3)
    have GG := Lib.hid G
    have EQ := Lib.hid (eqRod_any _ _ _ _ _ _ _ _ S S wG (U.out.rrow S2.out) (Y.out.below BB.out) (SameRL.refl S))
    have GH := Lib.hid (hb.size)
    clear hO hb G bG bG2 f0 f1 f2 f3 hwG AS b3
    go_wp2_with fail
    rw [show w2.alloc (.cells #[Value.slice xg0 n0 cg0, .slice xg1 n1 cg1, .slice xg2 n2 cg2, .slice xg3 n3 cg3] 25) = wG from HWG.out]
    refine EQ.out.mono ?_
    rintro _ w3 ⟨rfl, hb⟩
    clear a0 a1 a2 a3
    have BB := Lib.hid (below_step BB.out hb)
    have U := Lib.hid (U.out.kept hb)
    have GG := Lib.hid (GG.out.kept hb)
    have UU := Lib.hid (Nat.le_trans UU.out hb.size)
    have X0 := Lib.hid (X0.out.kept hb)
    have V0 := Lib.hid (V0.out.kept hb)
    clear hb
    have c00 := (L0.out.kept BB.out).at 0 rfl; have c01 := (L0.out.kept BB.out).at 1 rfl; have c02 := (L0.out.kept BB.out).at 2 rfl; have c03 := (L0.out.kept BB.out).at 3 rfl
    have d00 := X0.out.at 0 rfl; have d01 := X0.out.at 1 rfl; have d02 := X0.out.at 2 rfl; have d03 := X0.out.at 3 rfl
    go_wp2
    have FACT := Lib.hid (fun w1 (hw : Ext w3 w1) => And.intro (hw.cell c00) (And.intro (hw.cell c01) (And.intro (hw.cell c02) (And.intro (hw.cell c03) (And.intro (hw.cell d00) (And.intro (hw.cell d01) (And.intro (hw.cell d02) (hw.cell d03))))))))
    have RV := Lib.hid (RA0.out.below BB.out)
    refine wp_region_facts (Ext w3) (TS [(43, fRdAt r0), (44, fIs (.bool true))]) (Pers.ext _) (TS.pers _) (Ext.start _) (by kernel_rfl) (by kernel_rfl) (by intro d v c a w h; cases d <;> exact h) ?_
    repeat (refine wpF_val rfl monoQ_end (by rintro _ ⟨⟩; rfl) ?_ (fun w1 hw1 => ?_) (fun K hK => ?_); rotate_left; (focus (have hF := FACT.out w1 hw1; go_simp; first | done | rfl)); go_simp; refine hK _ ?_; clear hK K)
    refine wpF_callF rfl 43 rfl 18 #[.agg #[a0, b0, c0, d0]] (fRdAt r0) rfl (fun w1 => ?_) (fun w1 hC hN => ?_) (fun v1 hv1 => ?_)
    · go_simp
    · refine (toRod_any a0 b0 c0 d0 r0 w1 (RV.out.below hC) HL0.out).mono ?_
      rintro _ w2 ⟨q0, q1, q2, q3, rfl, hp, Z, hb⟩
      exact ⟨_, rfl, hb, q0, q1, q2, q3, rfl, Z⟩
    obtain ⟨_, zz0, zz1, zz2, zz3, rfl, _⟩ := hv1
    unfold ragV
    repeat (refine wpF_val rfl monoQ_end (by rintro _ ⟨⟩; rfl) ?_ (fun w1 hw1 => ?_) (fun K hK => ?_); rotate_left; (focus (have hF := FACT.out w1 hw1; go_simp; first | done | rfl)); go_simp; refine hK _ ?_; clear hK K)
    refine wpF_callF rfl 44 rfl 13 #[.agg #[(sl x00 r0.W), (sl x01 r0.E), (sl x02 r0.H), (sl x03 r0.T)], .agg #[sl zz0 r0.W, sl zz1 r0.E, sl zz2 r0.H, sl zz3 r0.T]] (fIs (.bool true)) rfl (fun w1 => ?_) (fun w1 hC hN => ?_) (fun v1 hv1 => ?_)
    · go_simp
    · have Z := rod_at (fact_needR (d := 43) rfl hN (by kernel_rfl) (by repeat (first | exact Or.inr ⟨rfl, rfl⟩ | refine Or.inl ?_)))
      refine (eqRod_any _ _ _ _ _ _ _ _ r0 r0 w1 ((V0.out.kept hC).row HL0.out) (Z.row HL0.out) (.refl _)).mono ?_
      rintro _ w2 ⟨rfl, hb⟩
      exact ⟨_, rfl, hb, rfl⟩
    obtain ⟨_, rfl⟩ := hv1
    repeat (refine wpF_val rfl monoQ_end (by rintro _ ⟨⟩; rfl) ?_ (fun w1 hw1 => ?_) (fun K hK => ?_); rotate_left; (focus (have hF := FACT.out w1 hw1; go_simp; first | done | rfl)); go_simp; refine hK _ ?_; clear hK K)
    refine wpFacts_nil ?_
    intro w4 hb _
    clear FACT RV c00 c01 c02 c03 d00 d01 d02 d03
    have BB := Lib.hid (below_step BB.out hb)
    have U := Lib.hid (U.out.kept hb)
    have GG := Lib.hid (GG.out.kept hb)
    have UU := Lib.hid (Nat.le_trans UU.out hb.size)
    have X0 := Lib.hid (X0.out.kept hb)
    have V0 := Lib.hid (V0.out.kept hb)
    clear hb
    have d00 := X0.out.at 0 rfl; have d01 := X0.out.at 1 rfl; have d02 := X0.out.at 2 rfl; have d03 := X0.out.at 3 rfl
    go_wp2_with fail
    refine (markRod_at r0 x00 x01 x02 x03 _ V0.out (1) (by decide) HL0.out).mono ?_
    rintro _ wk0 ⟨rfl, ht⟩
    have BB := Lib.hid (BB.out.trans (ht.below (B := wA.heap.size) (fun k hk => Nat.le_trans XL0.out hk.1) BB.out.size))
    have U := Lib.hid (U.out.tur ht (fun j hj e => by have e' : x00 ≤ j ∧ j ≤ x03 := e; have := TOP0.out; have := GH.out; have := ORD0.out; omega))
    have GG := Lib.hid (ht.cells GG.out (fun e => by have e' : x00 ≤ w2.heap.size ∧ w2.heap.size ≤ x03 := e; have := TOP0.out; have := GH.out; have := ORD0.out; omega))
    have UU := Lib.hid (Nat.le_trans UU.out ht.size)
    clear ht d00 d01 d02 d03
    have a0 := (A.out.kept BB.out).at 0 rfl; have a1 := (A.out.kept BB.out).at 1 rfl; have a2 := (A.out.kept BB.out).at 2 rfl; have a3 := (A.out.kept BB.out).at 3 rfl
    have e0 := GG.out.at 0 rfl; have e1 := GG.out.at 1 rfl; have e2 := GG.out.at 2 rfl; have e3 := GG.out.at 3 rfl
    go_wp2_with fail
    refine (eqRod_any _ _ _ _ _ _ _ _ S S _ (U.out.rrow S2.out) (Y.out.below BB.out) (SameRL.refl S)).mono ?_
    rintro _ wq ⟨rfl, hb⟩
    clear a0 a1 a2 a3 e0 e1 e2 e3
    have BB := Lib.hid (below_step BB.out hb)
    have U := Lib.hid (U.out.kept hb)
    have GG := Lib.hid (GG.out.kept hb)
    have UU := Lib.hid (Nat.le_trans UU.out hb.size)
    clear hb
    have e0 := GG.out.at 0 rfl; have e1 := GG.out.at 1 rfl; have e2 := GG.out.at 2 rfl; have e3 := GG.out.at 3 rfl
    go_wp2_with fail
    refine (markRodX U.out UU.out HSm.out).mono ?_
    rintro _ wm ⟨rfl, hU, ht⟩
    clear e0 e1 e2 e3
    have U := Lib.hid hU
    have GG := Lib.hid (ht.cells GG.out (fun e => by have e' : wb0.heap.size ≤ w2.heap.size ∧ w2.heap.size < w2.heap.size := e; omega))
    have BB := Lib.hid (BB.out.trans (ht.below (B := wA.heap.size) (fun k hk => Nat.le_trans BW0.out hk.1) BB.out.size))
    have UU := Lib.hid (Nat.le_trans UU.out ht.size)
    clear hU ht
    have e0 := GG.out.at 0 rfl; have e1 := GG.out.at 1 rfl; have e2 := GG.out.at 2 rfl; have e3 := GG.out.at 3 rfl
    go_wp2_with fail
    refine (heldRodX U.out UU.out HSm.out).mono ?_
    rintro _ wh ⟨rfl, hb⟩
    clear e0 e1 e2 e3
    have BB := Lib.hid (below_step BB.out hb)
    have U := Lib.hid (U.out.kept hb)
    have GG := Lib.hid (GG.out.kept hb)
    have UU := Lib.hid (Nat.le_trans UU.out hb.size)
    clear hb
    have c00 := (L0.out.kept BB.out).at 0 rfl; have c01 := (L0.out.kept BB.out).at 1 rfl; have c02 := (L0.out.kept BB.out).at 2 rfl; have c03 := (L0.out.kept BB.out).at 3 rfl
    go_wp2_with fail
    refine (toRod_any a0 b0 c0 d0 r0 _ (RA0.out.below BB.out) HL0.out).mono ?_
    rintro _ wy0 ⟨tx00, tx01, tx02, tx03, rfl, hp, V, hb⟩
    clear c00 c01 c02 c03
    have V0 := Lib.hid V
    clear V hp
    have BB := Lib.hid (below_step BB.out hb)
    have U := Lib.hid (U.out.kept hb)
    have GG := Lib.hid (GG.out.kept hb)
    have UU := Lib.hid (Nat.le_trans UU.out hb.size)
    clear hb
    have c00 := (L0.out.kept BB.out).at 0 rfl; have c01 := (L0.out.kept BB.out).at 1 rfl; have c02 := (L0.out.kept BB.out).at 2 rfl; have c03 := (L0.out.kept BB.out).at 3 rfl
    go_wp2_with fail
    refine (CI.out _ _ _ _ _ (V0.out.row HL0.out)).mono ?_
    rintro _ w8 ⟨g0, g1, g2, g3, rfl, hO, hb⟩
    clear c00 c01 c02 c03
    clear V0
    obtain ⟨⟨xh0, ch0, e0⟩, ⟨xh1, ch1, e1⟩, ⟨xh2, ch2, e2⟩, ⟨xh3, ch3, e3⟩⟩ := hO.shapes
    obtain ⟨f0, f1, f2, f3⟩ := FF.out
    rw [f0] at e0; rw [f1] at e1; rw [f2] at e2; rw [f3] at e3
    subst e0 e1 e2 e3
    have bH := below_al1 w8 (.cells [Value.slice xh0 n0 ch0, .slice xh1 n1 ch1, .slice xh2 n2 ch2, .slice xh3 n3 ch3].toArray 25)
    have AS := (A.out.kept BB.out).kept (below_step hb bH)
    have a0 := AS.at 0 rfl; have a1 := AS.at 1 rfl; have a2 := AS.at 2 rfl; have a3 := AS.at 3 rfl
    obtain ⟨wH, hwH⟩ : ∃ wH, w8.alloc (.cells [Value.slice xh0 n0 ch0, .slice xh1 n1 ch1, .slice xh2 n2 ch2, .slice xh3 n3 ch3].toArray 25) = wH := ⟨_, rfl⟩
    have bH2 := bH
    rw [hwH] at bH2
    have HWH := Lib.hid hwH
    have R6 := (hO.kept bH2).rrow S2.out
    have b3 := below_step hb bH2
    have BB := Lib.hid (below_step BB.out b3)
    have U := Lib.hid (U.out.kept b3)
    have GG := Lib.hid (GG.out.kept b3)
    have UU := Lib.hid (Nat.le_trans UU.out b3.size)
    have EQ2 := Lib.hid (eqRod_any _ _ _ _ _ _ _ _ S S wH R6 (Y.out.below BB.out) (SameRL.refl S))
    clear hO hb bH bH2 f0 f1 f2 f3 hwH AS b3 R6
    go_wp2_with fail
    rw [show w8.alloc (.cells #[Value.slice xh0 n0 ch0, .slice xh1 n1 ch1, .slice xh2 n2 ch2, .slice xh3 n3 ch3] 25) = wH from HWH.out]
    refine EQ2.out.mono ?_
    rintro _ w9 ⟨rfl, hb⟩
    clear a0 a1 a2 a3
    have BB := Lib.hid (below_step BB.out hb)
    have U := Lib.hid (U.out.kept hb)
    have GG := Lib.hid (GG.out.kept hb)
    have UU := Lib.hid (Nat.le_trans UU.out hb.size)
    clear hb
    have e0 := GG.out.at 0 rfl; have e1 := GG.out.at 1 rfl; have e2 := GG.out.at 2 rfl; have e3 := GG.out.at 3 rfl
    go_wp2_with fail
    refine (heldRodX U.out UU.out HSm.out).mono ?_
    rintro _ wl ⟨rfl, hb⟩
    have Bz := Lib.hid (below_step Bw.out (below_step BB.out hb))
    clear e0 e1 e2 e3 hb
    go_wp2
    go_ret
    exact Tru.below Bz.out
end Go.Proofs.Ytkbdidpodcclfaa
