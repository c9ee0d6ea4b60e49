/- Several texts in one, for a claim holds 60 files at most: LwStep StpM GivePS StpS StpT2 StpT GivePI StpI StpW. -/
import Derived.Test.YthfkmcpajookaaaYSA
import Derived.Test.YthfkmcpajookaaaYSB
import Derived.Test.YthfkmcpajookaaaYSC
import Derived.Laws.ResultCell
import Derived.BigRegion

/- The law on StepPlate: the walk, for any answer that both sides give. -/
namespace Go.Proofs.Ythfkmcpajookaaa
open Go.RowKit
set_option linter.unusedVariables false

set_option maxRecDepth 20000 in
set_option maxHeartbeats 12800000 in
theorem fnExactStepPlate_law (a0 b0 c0 d0 : Value) (r0 : PL) (y1 : Nat) (ok : Bool) (S : PL) (hS : PSm S) 
    (cs : ∀ (a0 b0 c0 d0 : Value) (w1 : World) (h0 : PRow w1 a0 b0 c0 d0 r0), Calls Try.prog 30 #[.agg #[.int .i64 r0.X, .int .i64 r0.Y, a0, b0, c0, d0], .float .f32 y1] w1 (PdB ok S w1))
    (ci : ∀ (a0 b0 c0 d0 : Value) (w1 : World) (h0 : PRow w1 a0 b0 c0 d0 r0), Calls Try.prog 31 #[.agg #[.int .i64 r0.X, .int .i64 r0.Y, a0, b0, c0, d0], .float .f32 y1] w1 (PdO ok S w1))
    (w : World) (h0 : PRow w a0 b0 c0 d0 r0) : Calls Try.prog 9 #[.agg #[.int .i64 r0.X, .int .i64 r0.Y, a0, b0, c0, d0], .float .f32 y1] w (Tru w) := by
  have CS := Lib.hid cs
  have CI := Lib.hid ci
  unfold PdB at CS
  unfold PdO at CI
  have HSm := Lib.hid hS
  have S2 : Hid (S.size ≤ 1048576) := Lib.hid (by obtain ⟨h0, h1, h2, h3⟩ := hS; unfold PL.size; omega)
  have R0 := Lib.hid (fun w1 (hb : Below w.heap.size w w1) => h0.below hb)
  clear cs ci hS h0
  have L0 := Cells.made w [.int .i64 r0.X, .int .i64 r0.Y, a0, b0, c0, d0] 32
  have L0 := Lib.hid L0
  have Bw := Lib.hid (below_al1 w (.cells [.int .i64 r0.X, .int .i64 r0.Y, a0, b0, c0, d0].toArray 32))
  by_cases hl0 : r0.size ≤ 1048576
  case neg =>
    have HO := Lib.hid (Nat.lt_of_not_le hl0)
    clear hl0
    go_enter Try.func9, Try.ntmps9
    go_wp2_with fail
    refine (szPlate_over a0 b0 c0 d0 r0 1048576 _ (R0.out _ Bw.out) HO.out (Nat.le_refl _)).mono ?_
    rintro _ ws0 ⟨rfl, hb⟩
    have Bw := Lib.hid (below_step Bw.out hb); have L0 := Lib.hid (L0.out.kept hb); have c00 := (L0.out).at 0 rfl; have c01 := (L0.out).at 1 rfl; have c02 := (L0.out).at 2 rfl; have c03 := (L0.out).at 3 rfl; have c04 := (L0.out).at 4 rfl; have c05 := (L0.out).at 5 rfl; clear hb
    go_wp2
    go_ret
    exact Tru.below Bw.out
  case pos =>
    have HF0 := Lib.hid hl0
    have HL0 : Hid (r0.size ≤ 1048576) := Lib.hid hl0
    clear hl0
    go_enter Try.func9, Try.ntmps9
    go_wp2_with fail
    refine (szPlate_fit a0 b0 c0 d0 r0 1048576 _ (R0.out _ Bw.out) HF0.out (Nat.le_refl _)).mono ?_
    rintro _ ws0 ⟨rfl, hb⟩
    have Bw := Lib.hid (below_step Bw.out hb); have L0 := Lib.hid (L0.out.kept hb); have c00 := (L0.out).at 0 rfl; have c01 := (L0.out).at 1 rfl; have c02 := (L0.out).at 2 rfl; have c03 := (L0.out).at 3 rfl; have c04 := (L0.out).at 4 rfl; have c05 := (L0.out).at 5 rfl; clear hb
    go_wp2_with fail
    refine (toPlate_any a0 b0 c0 d0 r0 _ (R0.out _ Bw.out) HL0.out).mono ?_
    rintro _ wp0 ⟨u00, u01, u02, u03, rfl, hp, V, hb⟩
    clear c00 c01 c02 c03 c04 c05
    have Bw := Lib.hid (below_step Bw.out hb); have L0 := Lib.hid (L0.out.kept hb); have c00 := (L0.out).at 0 rfl; have c01 := (L0.out).at 1 rfl; have c02 := (L0.out).at 2 rfl; have c03 := (L0.out).at 3 rfl; have c04 := (L0.out).at 4 rfl; have c05 := (L0.out).at 5 rfl
    have VS0 := Lib.hid V
    clear hb hp V
    go_wp2_with fail
    refine (CS.out _ _ _ _ _ (VS0.out.row HL0.out)).mono ?_
    rintro _ w1 ⟨s0, s1, s2, s3, rfl, hY, hb⟩
    clear c00 c01 c02 c03 c04 c05
    have Bw := Lib.hid (below_step Bw.out hb); have L0 := Lib.hid (L0.out.kept hb)
    clear VS0
    have hW := hY.W.shape; have hE := hY.E.shape; have hH := hY.G.shape; have hT := hY.H.shape
    obtain ⟨⟨xs0, cs0, e0⟩, ⟨xs1, cs1, e1⟩, ⟨xs2, cs2, e2⟩, ⟨xs3, cs3, e3⟩⟩ := And.intro hW (And.intro hE (And.intro hH hT))
    obtain ⟨n0, f0⟩ : ∃ n, S.W.length = n := ⟨_, rfl⟩
    obtain ⟨n1, f1⟩ : ∃ n, S.E.length = n := ⟨_, rfl⟩
    obtain ⟨n2, f2⟩ : ∃ n, S.G.length = n := ⟨_, rfl⟩
    obtain ⟨n3, f3⟩ : ∃ n, S.H.length = n := ⟨_, rfl⟩
    have FF := Lib.hid (And.intro f0 (And.intro f1 (And.intro f2 f3)))
    rw [f0] at e0; rw [f1] at e1; rw [f2] at e2; rw [f3] at e3
    subst e0 e1 e2 e3
    clear hW hE hH hT
    have A := Cells.made w1 [.int .i64 S.X, .int .i64 S.Y, .slice xs0 n0 cs0, .slice xs1 n1 cs1, .slice xs2 n2 cs2, .slice xs3 n3 cs3] 26
    have bA := below_al1 w1 (.cells [Value.int .i64 S.X, .int .i64 S.Y, .slice xs0 n0 cs0, .slice xs1 n1 cs1, .slice xs2 n2 cs2, .slice xs3 n3 cs3].toArray 26)
    obtain ⟨wA, hwA⟩ : ∃ wA, w1.alloc (.cells [Value.int .i64 S.X, .int .i64 S.Y, .slice xs0 n0 cs0, .slice xs1 n1 cs1, .slice xs2 n2 cs2, .slice xs3 n3 cs3].toArray 26) = wA := ⟨_, rfl⟩
    rw [hwA] at A bA
    have HWA := Lib.hid hwA
    have A := Lib.hid A
    have Y := Lib.hid (hY.below bA)
    have Bw := Lib.hid (below_step Bw.out bA)
    have LS0 := L0.out.kept (below_al1 w1 (.cells [Value.int .i64 S.X, .int .i64 S.Y, .slice xs0 n0 cs0, .slice xs1 n1 cs1, .slice xs2 n2 cs2, .slice xs3 n3 cs3].toArray 26))
    have c00 := (LS0).at 0 rfl; have c01 := (LS0).at 1 rfl; have c02 := (LS0).at 2 rfl; have c03 := (LS0).at 3 rfl; have c04 := (LS0).at 4 rfl; have c05 := (LS0).at 5 rfl
    have L0 := Lib.hid (L0.out.kept bA)
    have RA0 := Lib.hid (R0.out _ Bw.out)
    have BB := Lib.hid (Below.refl wA.heap.size wA)
    clear hY hb bA f0 f1 f2 f3 hwA LS0
    go_wp2_with fail
    rw [show w1.alloc (.cells #[Value.int .i64 S.X, .int .i64 S.Y, .slice xs0 n0 cs0, .slice xs1 n1 cs1, .slice xs2 n2 cs2, .slice xs3 n3 cs3] 26) = wA from HWA.out]
    refine (toPlate_any a0 b0 c0 d0 r0 _ (RA0.out.below BB.out) HL0.out).mono ?_
    rintro _ wx0 ⟨x00, x01, x02, x03, rfl, hp, V, hb⟩
    clear c00 c01 c02 c03 c04 c05
    have XL0 := Lib.hid (Nat.le_trans BB.out.size hp)
    have BB := Lib.hid (below_step BB.out hb)
    have V0 := Lib.hid V
    have BOX0 := Lib.hid (show x03 < wx0.heap.size from V0.out.H.lt)
    have ORD0 := Lib.hid (And.intro V0.out.o01 (And.intro V0.out.o12 V0.out.o23))
    clear V hp hb
    have X := Cells.made wx0 [.int .i64 r0.X, .int .i64 r0.Y, .slice (some ⟨x00, 0, none⟩) r0.W.length r0.W.length, .slice (some ⟨x01, 0, none⟩) r0.E.length r0.E.length, .slice (some ⟨x02, 0, none⟩) r0.G.length r0.G.length, .slice (some ⟨x03, 0, none⟩) r0.H.length r0.H.length] 26
    have hb := below_al1 wx0 (.cells [Value.int .i64 r0.X, .int .i64 r0.Y, .slice (some ⟨x00, 0, none⟩) r0.W.length r0.W.length, .slice (some ⟨x01, 0, none⟩) r0.E.length r0.E.length, .slice (some ⟨x02, 0, none⟩) r0.G.length r0.G.length, .slice (some ⟨x03, 0, none⟩) r0.H.length r0.H.length].toArray 26)
    have c00 := ((L0.out.kept BB.out).kept hb).at 0 rfl; have c01 := ((L0.out.kept BB.out).kept hb).at 1 rfl; have c02 := ((L0.out.kept BB.out).kept hb).at 2 rfl; have c03 := ((L0.out.kept BB.out).kept hb).at 3 rfl; have c04 := ((L0.out.kept BB.out).kept hb).at 4 rfl; have c05 := ((L0.out.kept BB.out).kept hb).at 5 rfl
    obtain ⟨wb0, hwb⟩ : ∃ wA, wx0.alloc (.cells [Value.int .i64 r0.X, .int .i64 r0.Y, .slice (some ⟨x00, 0, none⟩) r0.W.length r0.W.length, .slice (some ⟨x01, 0, none⟩) r0.E.length r0.E.length, .slice (some ⟨x02, 0, none⟩) r0.G.length r0.G.length, .slice (some ⟨x03, 0, none⟩) r0.H.length r0.H.length].toArray 26) = wA := ⟨_, rfl⟩
    have hb2 := hb
    rw [hwb] at X hb2
    have HWB0 := Lib.hid hwb
    have X0 := Lib.hid X
    have V0 := Lib.hid (V0.out.kept hb2)
    have BB := Lib.hid (below_step BB.out hb2)
    have TOP0 := Lib.hid (Nat.lt_of_lt_of_le BOX0.out hb2.size)
    clear hb hb2 hwb X

    go_wp2_with fail
    rw [show wx0.alloc (.cells #[Value.int .i64 r0.X, .int .i64 r0.Y, .slice (some ⟨x00, 0, none⟩) r0.W.length r0.W.length, .slice (some ⟨x01, 0, none⟩) r0.E.length r0.E.length, .slice (some ⟨x02, 0, none⟩) r0.G.length r0.G.length, .slice (some ⟨x03, 0, none⟩) r0.H.length r0.H.length] 26) = wb0 from HWB0.out]
    refine (CI.out _ _ _ _ _ (V0.out.row HL0.out)).mono ?_
    rintro _ w2 ⟨g0, g1, g2, g3, rfl, hO, hb⟩
    have BW0 := Lib.hid BB.out.size
    obtain ⟨⟨xg0, cg0, e0⟩, ⟨xg1, cg1, e1⟩, ⟨xg2, cg2, e2⟩, ⟨xg3, cg3, e3⟩⟩ := hO.shapes
    obtain ⟨f0, f1, f2, f3⟩ := FF.out
    rw [f0] at e0; rw [f1] at e1; rw [f2] at e2; rw [f3] at e3
    subst e0 e1 e2 e3
    clear c00 c01 c02 c03 c04 c05
    have G := Cells.made w2 [.int .i64 S.X, .int .i64 S.Y, .slice xg0 n0 cg0, .slice xg1 n1 cg1, .slice xg2 n2 cg2, .slice xg3 n3 cg3] 26
    have bG := below_al1 w2 (.cells [Value.int .i64 S.X, .int .i64 S.Y, .slice xg0 n0 cg0, .slice xg1 n1 cg1, .slice xg2 n2 cg2, .slice xg3 n3 cg3].toArray 26)
    have AS := (A.out.kept BB.out).kept (below_step hb bG)
    have a0 := AS.at 0 rfl; have a1 := AS.at 1 rfl; have a2 := AS.at 2 rfl; have a3 := AS.at 3 rfl; have a4 := AS.at 4 rfl; have a5 := AS.at 5 rfl
    obtain ⟨wG, hwG⟩ : ∃ wG, w2.alloc (.cells [Value.int .i64 S.X, .int .i64 S.Y, .slice xg0 n0 cg0, .slice xg1 n1 cg1, .slice xg2 n2 cg2, .slice xg3 n3 cg3].toArray 26) = wG := ⟨_, rfl⟩
    have bG2 := bG
    rw [hwG] at G bG2
    have HWG := Lib.hid hwG
    have U := Lib.hid (hO.kept bG2)
    have UU := Lib.hid bG2.size
    have b3 := below_step hb bG2
    have BB := Lib.hid (below_step BB.out b3)
    have X0 := Lib.hid (X0.out.kept b3)
    have V0 := Lib.hid (V0.out.kept b3)
    have GG := Lib.hid G
    have EQ := Lib.hid (eqPlate_any _ _ _ _ _ _ _ _ S wG (U.out.prow S2.out) (Y.out.below BB.out))
    have GH := Lib.hid (hb.size)
    clear hO hb G bG bG2 f0 f1 f2 f3 hwG AS b3
    go_wp2_with fail
    rw [show w2.alloc (.cells #[Value.int .i64 S.X, .int .i64 S.Y, .slice xg0 n0 cg0, .slice xg1 n1 cg1, .slice xg2 n2 cg2, .slice xg3 n3 cg3] 26) = wG from HWG.out]
    refine EQ.out.mono ?_
    rintro _ w3 ⟨rfl, hb⟩
    clear a0 a1 a2 a3 a4 a5
    have BB := Lib.hid (below_step BB.out hb)
    have U := Lib.hid (U.out.kept hb)
    have GG := Lib.hid (GG.out.kept hb)
    have UU := Lib.hid (Nat.le_trans UU.out hb.size)
    have X0 := Lib.hid (X0.out.kept hb)
    have V0 := Lib.hid (V0.out.kept hb)
    clear hb
    have c00 := (L0.out.kept BB.out).at 0 rfl; have c01 := (L0.out.kept BB.out).at 1 rfl; have c02 := (L0.out.kept BB.out).at 2 rfl; have c03 := (L0.out.kept BB.out).at 3 rfl; have c04 := (L0.out.kept BB.out).at 4 rfl; have c05 := (L0.out.kept BB.out).at 5 rfl
    have d00 := X0.out.at 0 rfl; have d01 := X0.out.at 1 rfl; have d02 := X0.out.at 2 rfl; have d03 := X0.out.at 3 rfl; have d04 := X0.out.at 4 rfl; have d05 := X0.out.at 5 rfl
    go_wp2
    have FACT := Lib.hid (fun w1 (hw : Ext w3 w1) => And.intro (hw.cell c00) (And.intro (hw.cell c01) (And.intro (hw.cell c02) (And.intro (hw.cell c03) (And.intro (hw.cell c04) (And.intro (hw.cell c05) (And.intro (hw.cell d00) (And.intro (hw.cell d01) (And.intro (hw.cell d02) (And.intro (hw.cell d03) (And.intro (hw.cell d04) (hw.cell d05))))))))))))
    have RV := Lib.hid (RA0.out.below BB.out)
    refine wp_region_facts (Ext w3) (TS [(47, fPlAt r0), (48, fIs (.bool true))]) (Pers.ext _) (TS.pers _) (Ext.start _) (by kernel_rfl) (by kernel_rfl) (by intro d v c a w h; cases d <;> exact h) ?_
    repeat (refine wpF_val rfl monoQ_end (by rintro _ ⟨⟩; rfl) ?_ (fun w1 hw1 => ?_) (fun K hK => ?_); rotate_left; (focus (have hF := FACT.out w1 hw1; go_simp; first | done | rfl)); go_simp; refine hK _ ?_; clear hK K)
    refine wpF_callF rfl 47 rfl 17 #[.agg #[.int .i64 r0.X, .int .i64 r0.Y, a0, b0, c0, d0]] (fPlAt r0) rfl (fun w1 => ?_) (fun w1 hC hN => ?_) (fun v1 hv1 => ?_)
    · go_simp
    · refine (toPlate_any a0 b0 c0 d0 r0 w1 (RV.out.below hC) HL0.out).mono ?_
      rintro _ w2 ⟨q0, q1, q2, q3, rfl, hp, Z, hb⟩
      exact ⟨_, rfl, hb, q0, q1, q2, q3, rfl, Z⟩
    obtain ⟨_, zz0, zz1, zz2, zz3, rfl, _⟩ := hv1
    unfold pagV
    repeat (refine wpF_val rfl monoQ_end (by rintro _ ⟨⟩; rfl) ?_ (fun w1 hw1 => ?_) (fun K hK => ?_); rotate_left; (focus (have hF := FACT.out w1 hw1; go_simp; first | done | rfl)); go_simp; refine hK _ ?_; clear hK K)
    refine wpF_callF rfl 48 rfl 12 #[.agg #[.int .i64 r0.X, .int .i64 r0.Y, (sl x00 r0.W), (sl x01 r0.E), (sl x02 r0.G), (slb x03 r0.H)], .agg #[.int .i64 r0.X, .int .i64 r0.Y, sl zz0 r0.W, sl zz1 r0.E, sl zz2 r0.G, slb zz3 r0.H]] (fIs (.bool true)) rfl (fun w1 => ?_) (fun w1 hC hN => ?_) (fun v1 hv1 => ?_)
    · go_simp
    · have Z := plate_at (fact_needP (d := 47) rfl hN (by kernel_rfl) (by repeat (first | exact Or.inr ⟨rfl, rfl⟩ | refine Or.inl ?_)))
      refine (eqPlate_any _ _ _ _ _ _ _ _ r0 w1 ((V0.out.kept hC).row HL0.out) (Z.row HL0.out)).mono ?_
      rintro _ w2 ⟨rfl, hb⟩
      exact ⟨_, rfl, hb, rfl⟩
    obtain ⟨_, rfl⟩ := hv1
    repeat (refine wpF_val rfl monoQ_end (by rintro _ ⟨⟩; rfl) ?_ (fun w1 hw1 => ?_) (fun K hK => ?_); rotate_left; (focus (have hF := FACT.out w1 hw1; go_simp; first | done | rfl)); go_simp; refine hK _ ?_; clear hK K)
    refine wpFacts_nil ?_
    intro w4 hb _
    clear FACT RV c00 c01 c02 c03 c04 c05 d00 d01 d02 d03 d04 d05
    have BB := Lib.hid (below_step BB.out hb)
    have U := Lib.hid (U.out.kept hb)
    have GG := Lib.hid (GG.out.kept hb)
    have UU := Lib.hid (Nat.le_trans UU.out hb.size)
    have X0 := Lib.hid (X0.out.kept hb)
    have V0 := Lib.hid (V0.out.kept hb)
    clear hb
    have d00 := X0.out.at 0 rfl; have d01 := X0.out.at 1 rfl; have d02 := X0.out.at 2 rfl; have d03 := X0.out.at 3 rfl; have d04 := X0.out.at 4 rfl; have d05 := X0.out.at 5 rfl
    go_wp2_with fail
    refine (markPlate_at r0 x00 x01 x02 x03 _ V0.out HL0.out).mono ?_
    rintro _ wk0 ⟨rfl, ht⟩
    have BB := Lib.hid (BB.out.trans (ht.below (B := wA.heap.size) (fun k hk => Nat.le_trans XL0.out hk.1) BB.out.size))
    have U := Lib.hid (U.out.tur ht (fun j hj e => by have e' : x00 ≤ j ∧ j ≤ x03 := e; have := TOP0.out; have := GH.out; have := ORD0.out; omega))
    have GG := Lib.hid (ht.cells GG.out (fun e => by have e' : x00 ≤ w2.heap.size ∧ w2.heap.size ≤ x03 := e; have := TOP0.out; have := GH.out; have := ORD0.out; omega))
    have UU := Lib.hid (Nat.le_trans UU.out ht.size)
    clear ht d00 d01 d02 d03 d04 d05
    have a0 := (A.out.kept BB.out).at 0 rfl; have a1 := (A.out.kept BB.out).at 1 rfl; have a2 := (A.out.kept BB.out).at 2 rfl; have a3 := (A.out.kept BB.out).at 3 rfl; have a4 := (A.out.kept BB.out).at 4 rfl; have a5 := (A.out.kept BB.out).at 5 rfl
    have e0 := GG.out.at 0 rfl; have e1 := GG.out.at 1 rfl; have e2 := GG.out.at 2 rfl; have e3 := GG.out.at 3 rfl; have e4 := GG.out.at 4 rfl; have e5 := GG.out.at 5 rfl
    go_wp2_with fail
    refine (eqPlate_any _ _ _ _ _ _ _ _ S _ (U.out.prow S2.out) (Y.out.below BB.out)).mono ?_
    rintro _ wq ⟨rfl, hb⟩
    clear a0 a1 a2 a3 a4 a5 e0 e1 e2 e3
    have BB := Lib.hid (below_step BB.out hb)
    have U := Lib.hid (U.out.kept hb)
    have GG := Lib.hid (GG.out.kept hb)
    have UU := Lib.hid (Nat.le_trans UU.out hb.size)
    clear hb
    have e0 := GG.out.at 0 rfl; have e1 := GG.out.at 1 rfl; have e2 := GG.out.at 2 rfl; have e3 := GG.out.at 3 rfl; have e4 := GG.out.at 4 rfl; have e5 := GG.out.at 5 rfl
    go_wp2_with fail
    refine (markPlateX U.out UU.out HSm.out).mono ?_
    rintro _ wm ⟨rfl, hU, ht⟩
    clear e0 e1 e2 e3 e4 e5
    have U := Lib.hid hU
    have GG := Lib.hid (ht.cells GG.out (fun e => by have e' : wb0.heap.size ≤ w2.heap.size ∧ w2.heap.size < w2.heap.size := e; omega))
    have BB := Lib.hid (BB.out.trans (ht.below (B := wA.heap.size) (fun k hk => Nat.le_trans BW0.out hk.1) BB.out.size))
    have UU := Lib.hid (Nat.le_trans UU.out ht.size)
    clear hU ht
    have e0 := GG.out.at 0 rfl; have e1 := GG.out.at 1 rfl; have e2 := GG.out.at 2 rfl; have e3 := GG.out.at 3 rfl; have e4 := GG.out.at 4 rfl; have e5 := GG.out.at 5 rfl
    go_wp2_with fail
    refine (heldPlateX U.out UU.out HSm.out).mono ?_
    rintro _ wh ⟨rfl, hb⟩
    clear e0 e1 e2 e3 e4 e5
    have BB := Lib.hid (below_step BB.out hb)
    have U := Lib.hid (U.out.kept hb)
    have GG := Lib.hid (GG.out.kept hb)
    have UU := Lib.hid (Nat.le_trans UU.out hb.size)
    clear hb
    have c00 := (L0.out.kept BB.out).at 0 rfl; have c01 := (L0.out.kept BB.out).at 1 rfl; have c02 := (L0.out.kept BB.out).at 2 rfl; have c03 := (L0.out.kept BB.out).at 3 rfl; have c04 := (L0.out.kept BB.out).at 4 rfl; have c05 := (L0.out.kept BB.out).at 5 rfl
    go_wp2_with fail
    refine (toPlate_any a0 b0 c0 d0 r0 _ (RA0.out.below BB.out) HL0.out).mono ?_
    rintro _ wy0 ⟨tx00, tx01, tx02, tx03, rfl, hp, V, hb⟩
    clear c00 c01 c02 c03 c04 c05
    have V0 := Lib.hid V
    clear V hp
    have BB := Lib.hid (below_step BB.out hb)
    have U := Lib.hid (U.out.kept hb)
    have GG := Lib.hid (GG.out.kept hb)
    have UU := Lib.hid (Nat.le_trans UU.out hb.size)
    clear hb
    have c00 := (L0.out.kept BB.out).at 0 rfl; have c01 := (L0.out.kept BB.out).at 1 rfl; have c02 := (L0.out.kept BB.out).at 2 rfl; have c03 := (L0.out.kept BB.out).at 3 rfl; have c04 := (L0.out.kept BB.out).at 4 rfl; have c05 := (L0.out.kept BB.out).at 5 rfl
    go_wp2_with fail
    refine (CI.out _ _ _ _ _ (V0.out.row HL0.out)).mono ?_
    rintro _ w8 ⟨g0, g1, g2, g3, rfl, hO, hb⟩
    clear c00 c01 c02 c03 c04 c05
    clear V0
    obtain ⟨⟨xh0, ch0, e0⟩, ⟨xh1, ch1, e1⟩, ⟨xh2, ch2, e2⟩, ⟨xh3, ch3, e3⟩⟩ := hO.shapes
    obtain ⟨f0, f1, f2, f3⟩ := FF.out
    rw [f0] at e0; rw [f1] at e1; rw [f2] at e2; rw [f3] at e3
    subst e0 e1 e2 e3
    have bH := below_al1 w8 (.cells [Value.int .i64 S.X, .int .i64 S.Y, .slice xh0 n0 ch0, .slice xh1 n1 ch1, .slice xh2 n2 ch2, .slice xh3 n3 ch3].toArray 26)
    have AS := (A.out.kept BB.out).kept (below_step hb bH)
    have a0 := AS.at 0 rfl; have a1 := AS.at 1 rfl; have a2 := AS.at 2 rfl; have a3 := AS.at 3 rfl; have a4 := AS.at 4 rfl; have a5 := AS.at 5 rfl
    obtain ⟨wH, hwH⟩ : ∃ wH, w8.alloc (.cells [Value.int .i64 S.X, .int .i64 S.Y, .slice xh0 n0 ch0, .slice xh1 n1 ch1, .slice xh2 n2 ch2, .slice xh3 n3 ch3].toArray 26) = wH := ⟨_, rfl⟩
    have bH2 := bH
    rw [hwH] at bH2
    have HWH := Lib.hid hwH
    have R6 := (hO.kept bH2).prow S2.out
    have b3 := below_step hb bH2
    have BB := Lib.hid (below_step BB.out b3)
    have U := Lib.hid (U.out.kept b3)
    have GG := Lib.hid (GG.out.kept b3)
    have UU := Lib.hid (Nat.le_trans UU.out b3.size)
    have EQ2 := Lib.hid (eqPlate_any _ _ _ _ _ _ _ _ S wH R6 (Y.out.below BB.out))
    clear hO hb bH bH2 f0 f1 f2 f3 hwH AS b3 R6
    go_wp2_with fail
    rw [show w8.alloc (.cells #[Value.int .i64 S.X, .int .i64 S.Y, .slice xh0 n0 ch0, .slice xh1 n1 ch1, .slice xh2 n2 ch2, .slice xh3 n3 ch3] 26) = wH from HWH.out]
    refine EQ2.out.mono ?_
    rintro _ w9 ⟨rfl, hb⟩
    clear a0 a1 a2 a3 a4 a5
    have BB := Lib.hid (below_step BB.out hb)
    have U := Lib.hid (U.out.kept hb)
    have GG := Lib.hid (GG.out.kept hb)
    have UU := Lib.hid (Nat.le_trans UU.out hb.size)
    clear hb
    have e0 := GG.out.at 0 rfl; have e1 := GG.out.at 1 rfl; have e2 := GG.out.at 2 rfl; have e3 := GG.out.at 3 rfl; have e4 := GG.out.at 4 rfl; have e5 := GG.out.at 5 rfl
    go_wp2_with fail
    refine (heldPlateX U.out UU.out HSm.out).mono ?_
    rintro _ wl ⟨rfl, hb⟩
    have Bz := Lib.hid (below_step Bw.out (below_step BB.out hb))
    clear e0 e1 e2 e3 e4 e5 hb
    go_wp2
    go_ret
    exact Tru.below Bz.out
end Go.Proofs.Ythfkmcpajookaaa

/- A plate behind a tick: its numbers. -/
namespace Go.Proofs.Ythfkmcpajookaaa
open Go.RowKit
set_option linter.unusedVariables false

theorem mul_fin2 {i k : Nat} (h : fin .f32 (fop .mul .f32 i k) = true) : fin .f32 k = true := by
  cases hi : fin .f32 k
  · exfalso
    cases hn : nn .f32 k
    · obtain ⟨s, hs⟩ := inf_of hi hn
      have e1 : Ieee.single.read k = .infinity s := hs
      have e : ∀ x y, floatBits .mul .f32 x y = ((Ieee.single.read x).product (Ieee.single.read y)).map Ieee.single.write := fun _ _ => rfl
      unfold fop at h
      rw [e i k, e1] at h
      cases hk : Ieee.single.read i with
      | number t m q =>
        rw [hk] at h
        by_cases hm : m = 0
        · simp [Ieee.Datum.product, hm] at h; revert h; decide +kernel
        · simp [Ieee.Datum.product, hm] at h; revert h; cases s <;> cases t <;> decide +kernel
      | infinity t => rw [hk] at h; revert h; cases s <;> cases t <;> decide +kernel
      | nan t p => rw [hk] at h; revert h; simp [Ieee.Datum.product]; decide +kernel
    · unfold fop at h
      rw [floatBits_nan_right hn] at h
      revert h
      decide +kernel
  · rfl
theorem eq0_fin {x : Nat} (h : (FloatKind.f32.format.order x 0 == some .eq) = true) : fin .f32 x = true := by
  cases hi : fin .f32 x
  · exfalso
    cases hn : nn .f32 x
    · obtain ⟨s, hs⟩ := inf_of hi hn
      unfold Ieee.Format.order at h
      rw [hs] at h
      revert h
      cases s <;> decide +kernel
    · rw [ord_key, hn] at h
      simp at h
  · rfl
theorem lst_tick (x : Nat) : lst x = (pos x || (FloatKind.f32.format.order x 0 == some .eq)) := by
  unfold lst pos geN gt0
  cases hf : fin .f32 x with
  | true => simp
  | false =>
    cases he : (FloatKind.f32.format.order x 0 == some .eq) with
    | false => simp
    | true => rw [eq0_fin he] at hf; cases hf
/-- how warm a free cell becomes -/
def stV (r : PL) (t k : Nat) : Nat := fop .add .f32 (cn .f32 (r.W.getD k 0)) (fop .mul .f32 (cn .f32 t) (fop .add .f32 (fV r k) (cn .f32 (r.G.getD k 0))))
/-- the numbers of the warmths, k cells being done -/
def St (r : PL) (t k j : Nat) : Nat := bif decide (j < k) && !(r.H.getD j false) then stV r t j else cn .f32 (r.W.getD j 0)
def stR (r : PL) (t : Nat) : PL := { r with W := (List.range r.W.length).map (St r t r.W.length) }
/-- the list L has these numbers -/
def Stp (r : PL) (t n k : Nat) (L : List Nat) : Prop := L.length = n ∧ ∀ j, j < n → cn .f32 (L.getD j 0) = St r t k j
theorem Stp.start (r : PL) (t : Nat) : Stp r t r.W.length 0 r.W := ⟨rfl, fun j _ => by unfold St; rw [decide_eq_false (by omega)]; rfl⟩
theorem Stp.held {r : PL} {t n k : Nat} {L : List Nat} (h : Stp r t n k L) (hh : r.H.getD k false = true) : Stp r t n (k + 1) L := by
  refine ⟨h.1, fun j hj => (h.2 j hj).trans ?_⟩
  unfold St
  by_cases e : j = k
  · subst e; rw [hh]; simp
  · by_cases hl : j < k
    · rw [decide_eq_true hl, decide_eq_true (show j < k + 1 by omega)]
    · rw [decide_eq_false hl, decide_eq_false (show ¬ j < k + 1 by omega)]
theorem Stp.step {r : PL} {t n k x : Nat} {L : List Nat} (h : Stp r t n k L) (hh : r.H.getD k false = false) (hx : cn .f32 x = stV r t k) (hk : k < n) : Stp r t n (k + 1) (L.set k x) := by
  refine ⟨by rw [List.length_set]; exact h.1, fun j hj => ?_⟩
  by_cases e : j = k
  · subst e
    have hl : j < L.length := by rw [h.1]; exact hk
    rw [show (L.set j x).getD j 0 = x by simp [List.getD_eq_getElem?_getD, hl], hx]
    unfold St
    rw [hh, decide_eq_true (Nat.lt_succ_self j)]
    rfl
  · rw [show (L.set k x).getD j 0 = L.getD j 0 by simp [List.getD_eq_getElem?_getD, List.getElem?_set_ne (Ne.symm e)], h.2 j hj]
    unfold St
    by_cases hl : j < k
    · rw [decide_eq_true hl, decide_eq_true (show j < k + 1 by omega)]
    · rw [decide_eq_false hl, decide_eq_false (show ¬ j < k + 1 by omega)]
theorem stp_fins {r : PL} {t : Nat} {L : List Nat} (h : Stp r t r.W.length r.W.length L) : L.all (fin .f32) = (stR r t).W.all (fin .f32) := by
  have e : L.map (cn .f32) = (stR r t).W := by
    refine List.ext_getElem (by simp [stR, h.1]) fun i h1 h2 => ?_
    have hi : i < r.W.length := by simpa [h.1] using h1
    have := h.2 i hi
    simp only [stR, List.getElem_map, List.getElem_range]
    rw [← this]
    simp [List.getD_eq_getElem?_getD, h.1, hi]
  rw [← e]
  clear e h
  induction L with
  | nil => rfl
  | cons x xs ih => simp only [List.map_cons, List.all_cons, fin_cn, ih]
theorem cn_of_fin {x : Nat} (h : fin .f32 x = true) : cn .f32 x = x := by
  unfold cn
  cases hn : nn .f32 x with
  | false => rfl
  | true => rw [fin_nan hn] at h; cases h
theorem stp_eq {r : PL} {t : Nat} {L : List Nat} (h : Stp r t r.W.length r.W.length L) (hf : (stR r t).W.all (fin .f32) = true) : L = (stR r t).W := by
  rw [← stp_fins h, List.all_eq_true] at hf
  refine List.ext_getElem (by rw [h.1]; simp [stR]) fun i h1 h2 => ?_
  have hi : i < r.W.length := by simpa [h.1] using h1
  have := h.2 i hi
  simp only [stR, List.getElem_map, List.getElem_range]
  rw [← this]
  rw [show L.getD i 0 = L[i] by simp [List.getD_eq_getElem?_getD, h.1, hi], cn_of_fin (hf _ (List.getElem_mem h1))]
theorem vPl_warms {r : PL} {L M : List Nat} (hl : L.length = M.length) (ha : L.all (fin .f32) = M.all (fin .f32)) : vPl { r with W := L } = vPl { r with W := M } := by
  unfold vPl hPl lenP exX exY
  simp only [hl, ha]
theorem stp_valid {r : PL} {t : Nat} {L : List Nat} (h : Stp r t r.W.length r.W.length L) : vPl { r with W := L } = vPl (stR r t) :=
  vPl_warms (r := r) (by simp [h.1]) (stp_fins h)
theorem vPl_fins {r : PL} (h : vPl r = true) : r.W.all (fin .f32) = true := by
  unfold vPl at h
  simp only [Bool.and_eq_true] at h
  exact h.1.1.2
theorem stp_same {r : PL} {t : Nat} {L : List Nat} (h : Stp r t r.W.length r.W.length L) (hv : vPl (stR r t) = true) : { r with W := L } = stR r t := by
  rw [stp_eq h (vPl_fins hv)]
  rfl
theorem stR_no {r : PL} {t k : Nat} (hk : k < r.W.length) (hh : r.H.getD k false = false) (hf : fin .f32 (fV r k) = false) : vPl (stR r t) = false := by
  cases hv : vPl (stR r t)
  · rfl
  · exfalso
    have := vPl_fins hv
    rw [List.all_eq_true] at this
    have h2 := this (St r t r.W.length k) (by simp only [stR, List.mem_map, List.mem_range]; exact ⟨k, hk, rfl⟩)
    unfold St at h2
    rw [hh, decide_eq_true hk] at h2
    have h3 : fin .f32 (stV r t k) = true := h2
    unfold stV at h3
    rw [(add_fin2 (mul_fin2 (add_fin2 h3).2)).1] at hf
    cases hf
def stB (r : PL) (t : Nat) : Bool := (vPl r && lst t) && vPl (stR r t)
def stS (r : PL) (t : Nat) : PL := bif stB r t then stR r t else nilPL
theorem stS_small (r : PL) (t : Nat) : PSm (stS r t) := by
  unfold stS
  cases h : stB r t with
  | false => exact ⟨Nat.zero_le _, Nat.zero_le _, Nat.zero_le _, Nat.zero_le _⟩
  | true =>
    unfold stB at h
    simp only [Bool.and_eq_true] at h
    have N := PlN.ofV h.1.1
    have e1 := N.E; have e2 := N.G; have e3 := N.H; have e4 := N.q
    show (stR r t).W.length ≤ 144 ∧ r.E.length ≤ 144 ∧ r.G.length ≤ 144 ∧ r.H.length ≤ 144
    have e5 : (stR r t).W.length = r.W.length := by simp [stR]
    omega
end Go.Proofs.Ythfkmcpajookaaa

/- A plate handed on, if it is valid: the specification's side. -/
namespace Go.Proofs.Ythfkmcpajookaaa
open Go.RowKit
set_option linter.unusedVariables false

def nilPd : Value := .agg #[.int .i64 0, .int .i64 0, .slice none 0 0, .slice none 0 0, .slice none 0 0, .slice none 0 0]
def ifP (b : Bool) (v : Value) : Value := bif b then v else nilPd
def GivP (v : Value) (b : Bool) (w : World) (e : Ending) (w' : World) : Prop := e = .returned (.tuple #[ifP b v, .bool b]) ∧ Below w.heap.size w w'
set_option maxHeartbeats 1600000 in
theorem specGiveP_any (a b c d : Value) (r : PL) (w : World) (h : PRow w a b c d r) : Calls Try.prog 33 #[.agg #[.int .i64 r.X, .int .i64 r.Y, a, b, c, d]] w (GivP (.agg #[.int .i64 r.X, .int .i64 r.Y, a, b, c, d]) (vPl r) w) := by
  obtain ⟨a0, q0, rfl⟩ := h.W.shape
  obtain ⟨a1, q1, rfl⟩ := h.E.shape
  obtain ⟨a2, q2, rfl⟩ := h.G.shape
  obtain ⟨a3, q3, rfl⟩ := h.H.shape
  have H := Lib.hid (fun w1 (hb : Below w.heap.size w w1) => h.below hb)
  have A := Lib.hid ((Cells.made w [.int .i64 r.X, .int .i64 r.Y, .slice a0 r.W.length q0, .slice a1 r.E.length q1, .slice a2 r.G.length q2, .slice a3 r.H.length q3] 26).al (.cells zpl.toArray 26))
  have R := Cells.made (w.alloc (.cells [Value.int .i64 r.X, .int .i64 r.Y, .slice a0 r.W.length q0, .slice a1 r.E.length q1, .slice a2 r.G.length q2, .slice a3 r.H.length q3].toArray 26)) zpl 26
  rw [show (w.alloc (.cells [Value.int .i64 r.X, .int .i64 r.Y, .slice a0 r.W.length q0, .slice a1 r.E.length q1, .slice a2 r.G.length q2, .slice a3 r.H.length q3].toArray 26)).heap.size = w.heap.size + 1 from by simp] at R
  have R := Lib.hid R
  have Bw := Lib.hid (below_al2 w (.cells [Value.int .i64 r.X, .int .i64 r.Y, .slice a0 r.W.length q0, .slice a1 r.E.length q1, .slice a2 r.G.length q2, .slice a3 r.H.length q3].toArray 26) (.cells zpl.toArray 26))
  clear h
  unfold GivP ifP nilPd
  cases hv : vPl r
  · have HV := Lib.hid hv
    clear hv
    go_enter Try.func33, Try.ntmps33
    go_wp2_with fail
    refine (specPl_any _ _ _ _ r _ _ A.out (H.out _ Bw.out)).mono ?_
    rw [HV.out]
    rintro _ _ ⟨rfl, m, rfl⟩
    have A := Lib.hid (A.out.drewN (n := m))
    have R := Lib.hid (R.out.drewN (n := m))
    have Bw := Lib.hid (below_drewN Bw.out m)
    have r0 := R.out.at 0 rfl; have r1 := R.out.at 1 rfl; have r2 := R.out.at 2 rfl; have r3 := R.out.at 3 rfl; have r4 := R.out.at 4 rfl; have r5 := R.out.at 5 rfl; have rf := R.out.fz
    go_wp2
    refine bodyPost_ret (v := .tuple #[.agg #[.int .i64 0, .int .i64 0, .slice none 0 0, .slice none 0 0, .slice none 0 0, .slice none 0 0], .bool false]) ?_ rfl ?_
    · rw [results_cell_tmp rfl]
      go_simp
    · exact ⟨rfl, below_set6 Bw.out (by omega) _ _ _ _ _ _⟩
  · have HV := Lib.hid hv
    clear hv
    go_enter Try.func33, Try.ntmps33
    go_wp2_with fail
    refine (specPl_any _ _ _ _ r _ _ A.out (H.out _ Bw.out)).mono ?_
    rw [HV.out]
    rintro _ _ ⟨rfl, m, rfl⟩
    have A := Lib.hid (A.out.drewN (n := m))
    have R := Lib.hid (R.out.drewN (n := m))
    have Bw := Lib.hid (below_drewN Bw.out m)
    have c0 := A.out.at 0 rfl; have c1 := A.out.at 1 rfl; have c2 := A.out.at 2 rfl; have c3 := A.out.at 3 rfl; have c4 := A.out.at 4 rfl; have c5 := A.out.at 5 rfl
    have r0 := R.out.at 0 rfl; have r1 := R.out.at 1 rfl; have r2 := R.out.at 2 rfl; have r3 := R.out.at 3 rfl; have r4 := R.out.at 4 rfl; have r5 := R.out.at 5 rfl; have rf := R.out.fz
    go_wp2
    refine bodyPost_ret (v := .tuple #[.agg #[.int .i64 r.X, .int .i64 r.Y, .slice a0 r.W.length q0, .slice a1 r.E.length q1, .slice a2 r.G.length q2, .slice a3 r.H.length q3], .bool true]) ?_ rfl ?_
    · rw [results_cell_tmp rfl]
      go_simp
    · exact ⟨rfl, below_set6 Bw.out (by omega) _ _ _ _ _ _⟩
end Go.Proofs.Ythfkmcpajookaaa

/- A plate behind a tick: the specification's side. -/
namespace Go.Proofs.Ythfkmcpajookaaa
open Go.RowKit
set_option linter.unusedVariables false

/-- a plate in four blocks of its own, or none -/
def StO (b : Bool) (n : Nat) (S : PL) (w : World) (e : Ending) (w' : World) : Prop := Below w.heap.size w w' ∧ ((b = false ∧ e = .returned (.tuple #[.agg #[.int .i64 0, .int .i64 0, .slice none 0 0, .slice none 0 0, .slice none 0 0, .slice none 0 0], .bool false])) ∨ (b = true ∧ ∃ g0 g1 g2 g3 c0 c1 c2 c3, e = .returned (.tuple #[.agg #[.int .i64 S.X, .int .i64 S.Y, ps g0 0 n c0, ps g1 0 n c1, ps g2 0 n c2, ps g3 0 n c3], .bool true]) ∧ PB w.heap.size w' g0 g1 g2 g3 n S))
set_option maxRecDepth 10000 in
set_option maxHeartbeats 6400000 in
theorem specStep_any (a b c d : Value) (r : PL) (t p : Nat) (w : World) (A0 : Cells w p (pvs r a b c d)) (h : PRow w a b c d r) (hv : vPl r = true) :
    Calls Try.prog 64 #[.pointer (some ⟨p, 0, none⟩), .float .f32 t] w (StO (vPl (stR r t)) r.W.length (stR r t) w) := by
  have LN := PlN.ofV hv
  obtain ⟨n, hn⟩ : ∃ n, r.W.length = n := ⟨_, rfl⟩
  have NR := Lib.hid (fun k hk hh hf => stR_no (r := r) (t := t) (k := k) (by omega) hh hf)
  have S0 := Lib.hid (Stp.start r t)
  have SV := Lib.hid (fun L h => stp_valid (r := r) (t := t) (L := L) h)
  have SS := Lib.hid (fun L h hv => stp_same (r := r) (t := t) (L := L) h hv)
  rw [hn] at LN NR S0 SV SS ⊢
  have FL := Lib.hid (fun k (hk : k < n) w1 A (h1 : PRow w1 a b c d r) => specFlowV_any r n k a b c d p w1 A h1 LN hk)
  obtain ⟨b0, o0, k0, b1, o1, k1, b2, o2, k2, b3, o3, k3, rfl, rfl, rfl, rfl, hL⟩ := h.lay LN
  have H := Lib.hid (fun w1 (hb : Below w.heap.size w w1) => h.below hb)
  have LY := Lib.hid (fun w1 (hb : Below w.heap.size w w1) => hL.below hb)
  have NN := Lib.hid LN
  have PL0 : Hid (p < w.heap.size) := Lib.hid A0.lt
  have Bw := Lib.hid (below_al1 w (.cells zpl.toArray 26))
  have A := Lib.hid (A0.al (.cells zpl.toArray 26))
  have AA := Lib.hid (fun w1 (hb : Below w.heap.size w w1) => A0.kept hb)
  have R := Lib.hid (Cells.made w zpl 26)
  clear h hL hv hn A0 LN
  unfold StO
  go_enter Try.func64, Try.ntmps64
  go_wp2_with fail
  refine (Pr.specOwnP_any _ _ _ _ r n p _ A.out (H.out _ Bw.out) NN.out).mono ?_
  rintro _ w4 ⟨g0, g1, g2, g3, c0', c1', c2', c3', rfl, P, hb⟩
  have hsz := R.out.lt
  have P := P.mono (h' := w.heap.size + 1) (by omega)
  have R := Lib.hid (R.out.kept hb)
  have Bw := Lib.hid (below_step Bw.out hb)
  have ha := below_al1 w4 (.cells [Value.int .i64 r.X, .int .i64 r.Y, ps g0 0 n c0', ps g1 0 n c1', ps g2 0 n c2', ps g3 0 n c3'].toArray 26)
  have D := Cells.made w4 [.int .i64 r.X, .int .i64 r.Y, ps g0 0 n c0', ps g1 0 n c1', ps g2 0 n c2', ps g3 0 n c3'] 26
  obtain ⟨w5, hw5⟩ : ∃ w5, w4.alloc (.cells [Value.int .i64 r.X, .int .i64 r.Y, ps g0 0 n c0', ps g1 0 n c1', ps g2 0 n c2', ps g3 0 n c3'].toArray 26) = w5 := ⟨_, rfl⟩
  rw [hw5] at ha D
  have QL := Lib.hid (And.intro P.W.lt (And.intro P.E.lt (And.intro P.G.lt P.H.lt)))
  have P := Lib.hid (P.kept ha)
  have D := Lib.hid D
  have R := Lib.hid (R.out.kept ha)
  have Bw := Lib.hid (below_step Bw.out ha)
  have HW5 := Lib.hid hw5
  clear ha hw5 hb hsz A
  have GB := Lib.hid (And.intro P.out.b0 (And.intro P.out.b1 (And.intro P.out.b2 P.out.b3)))
  go_wp2_with fail
  rw [show w4.alloc (.cells #[Value.int .i64 r.X, .int .i64 r.Y, ps g0 0 n c0', ps g1 0 n c1', ps g2 0 n c2', ps g3 0 n c3'] 26) = w5 from HW5.out]
  go_loopw [7] (fun i wr => ∃ (k : Nat) (L : List Nat), k ≤ n ∧ i = .int .i64 k ∧ Hid (Stp r t n k L) ∧ Hid (PB (w.heap.size + 1) wr g0 g1 g2 g3 n { r with W := L }) ∧ Hid (Cells wr w4.heap.size [.int .i64 r.X, .int .i64 r.Y, ps g0 0 n c0', ps g1 0 n c1', ps g2 0 n c2', ps g3 0 n c3']) ∧ Hid (Cells wr w.heap.size zpl) ∧ Hid (Below w.heap.size w wr)) (fun i _ => n - (intOf i).toNat)
  case atStart => exact ⟨0, _, Nat.zero_le _, rfl, S0, P, D, R, Bw⟩
  case round =>
    obtain ⟨k, L, hk, rfl, hS, hP, hD, hR, hB⟩ := hrel
    have hxy := NN.out.xy
    have hn1 := NN.out.p
    have hn9 := NN.out.q
    have c0 := (AA.out _ hB.out).at 0 rfl; have c1 := (AA.out _ hB.out).at 1 rfl; have c2 := (AA.out _ hB.out).at 2 rfl; have c3 := (AA.out _ hB.out).at 3 rfl; have c4 := (AA.out _ hB.out).at 4 rfl; have c5 := (AA.out _ hB.out).at 5 rfl
    by_cases hlt : k < n
    · go_wp2
      go_region
      clear c0 c1 c2 c3 c4 c5
      have hP := Lib.hid (hP.out.kept (Below.refl _ _).drew)
      have hD := Lib.hid (hD.out.kept (Below.refl _ _).drew)
      have hR := Lib.hid (hR.out.kept (Below.refl _ _).drew)
      have hB := Lib.hid hB.out.drew
      generalize wr.drew = wr1 at *
      have A1 := Lib.hid (AA.out _ hB.out)
      have c0 := A1.out.at 0 rfl; have c1 := A1.out.at 1 rfl; have c2 := A1.out.at 2 rfl; have c3 := A1.out.at 3 rfl; have c4 := A1.out.at 4 rfl; have c5 := A1.out.at 5 rfl
      have zH := (LY.out _ hB.out).H k hlt
      obtain ⟨hh, ehh⟩ : ∃ hh, r.H.getD k false = hh := ⟨_, rfl⟩
      rw [ehh] at zH
      have EH := Lib.hid ehh
      clear ehh
      have hi : (0 : Int) ≤ (k : Int) := by omega
      have hi' : (k : Int) < (n : Int) := by omega
      cases hh
      · go_wp2_with fail
        refine (FL.out k hlt _ A1.out (H.out _ hB.out)).mono ?_
        rintro _ w6 ⟨f, hf, rfl, hb⟩
        clear c0 c1 c2 c3 c4 c5 zH
        have hP := Lib.hid (hP.out.kept hb)
        have hD := Lib.hid (hD.out.kept hb)
        have hR := Lib.hid (hR.out.kept hb)
        have hB := Lib.hid (below_step hB.out hb)
        clear hb A1
        cases BB : fin .f32 (fV r k)
        · have NO := Lib.hid (NR.out k hlt EH.out BB)
          have q0 := hR.out.at 0 rfl; have q1 := hR.out.at 1 rfl; have q2 := hR.out.at 2 rfl; have q3 := hR.out.at 3 rfl; have q4 := hR.out.at 4 rfl; have q5 := hR.out.at 5 rfl; have qf := hR.out.fz
          go_wp2
          refine bodyPost_ret (v := .tuple #[.agg #[.int .i64 0, .int .i64 0, .slice none 0 0, .slice none 0 0, .slice none 0 0, .slice none 0 0], .bool false]) ?_ rfl ?_
          · rw [results_cell_tmp rfl]
            go_simp
          · exact ⟨below_set6 hB.out (Nat.le_refl _) _ _ _ _ _ _, .inl ⟨NO.out, rfl⟩⟩
        · have HF : Hid (cn .f32 f = fV r k) := Lib.hid (hf.trans (by unfold ifF; rw [BB]; rfl))
          have A1 := Lib.hid (AA.out _ hB.out)
          have LY1 := LY.out _ hB.out
          have zW := LY1.W k hlt
          have zG := LY1.G k hlt
          have y0 := hP.out.W.cell (i := k) (by rw [hP.out.lW]; exact hlt)
          rw [Nat.zero_add] at y0
          have yf := hP.out.W.frozen
          obtain ⟨xw, exw⟩ : ∃ x, r.W.getD k 0 = x := ⟨_, rfl⟩
          obtain ⟨xg, exg⟩ : ∃ x, r.G.getD k 0 = x := ⟨_, rfl⟩
          obtain ⟨xo, exo⟩ : ∃ x, ({ r with W := L } : PL).W.getD k 0 = x := ⟨_, rfl⟩
          rw [exw] at zW
          rw [exg] at zG
          rw [exo] at y0
          have EW := Lib.hid exw
          have EG := Lib.hid exg
          clear exw exg exo hf LY1
          have c0 := A1.out.at 0 rfl; have c1 := A1.out.at 1 rfl; have c2 := A1.out.at 2 rfl; have c3 := A1.out.at 3 rfl; have c4 := A1.out.at 4 rfl; have c5 := A1.out.at 5 rfl
          have d0 := hD.out.at 0 rfl; have d1 := hD.out.at 1 rfl; have d2 := hD.out.at 2 rfl; have d3 := hD.out.at 3 rfl; have d4 := hD.out.at 4 rfl; have d5 := hD.out.at 5 rfl
          have FACT := Lib.hid (fun w1 (hw : Ext w6 w1) => And.intro (hw.cell c0) (And.intro (hw.cell c1) (And.intro (hw.cell c2) (And.intro (hw.cell c3) (And.intro (hw.cell c4) (And.intro (hw.cell c5) (And.intro (hw.cell d0) (And.intro (hw.cell d1) (And.intro (hw.cell d2) (And.intro (hw.cell d3) (And.intro (hw.cell d4) (And.intro (hw.cell d5) (And.intro (hw.cell zW) (hw.cell zG))))))))))))))
          go_wp2
          refine wp_region_facts_tail 23 [] (Ext w6) (TS [(60, fNum .f32 (fop .add .f32 (fV r k) (cn .f32 xg))), (61, fNum .f32 (fop .mul .f32 (cn .f32 t) (fop .add .f32 (fV r k) (cn .f32 xg)))), (62, fNum .f32 (fop .add .f32 (cn .f32 xw) (fop .mul .f32 (cn .f32 t) (fop .add .f32 (fV r k) (cn .f32 xg)))))]) (Pers.ext _) (TS.pers _) (Ext.start _) (by kernel_rfl) (by kernel_rfl) (by intro d v c a w h; cases d <;> exact h) ?_
          simp only [List.take_succ_cons, List.take_zero, List.drop_succ_cons, List.drop_zero]
          repeat (refine wpF_val rfl monoQ_end (by rintro _ ⟨⟩; rfl) ?_ (fun w1 hw1 => ?_) (fun K hK => ?_); rotate_left; (focus (have hF := FACT.out w1 hw1; go_simp; first | done | rfl)); go_simp; refine hK _ ?_; clear hK K)
          refine wpF_farith rfl 60 rfl .add _ _ _ _ rfl rfl .f32 f xg rfl rfl _ rfl (by rw [HF.out]) (fun x1 hx1 => ?_)
          repeat (refine wpF_val rfl monoQ_end (by rintro _ ⟨⟩; rfl) ?_ (fun w1 hw1 => ?_) (fun K hK => ?_); rotate_left; (focus (have hF := FACT.out w1 hw1; go_simp; first | done | rfl)); go_simp; refine hK _ ?_; clear hK K)
          refine wpF_farith rfl 61 rfl .mul _ _ _ _ rfl rfl .f32 t x1 rfl rfl _ rfl (by rw [hx1]) (fun x2 hx2 => ?_)
          repeat (refine wpF_val rfl monoQ_end (by rintro _ ⟨⟩; rfl) ?_ (fun w1 hw1 => ?_) (fun K hK => ?_); rotate_left; (focus (have hF := FACT.out w1 hw1; go_simp; first | done | rfl)); go_simp; refine hK _ ?_; clear hK K)
          refine wpF_farith rfl 62 rfl .add _ _ _ _ rfl rfl .f32 xw x2 rfl rfl _ rfl (by rw [hx2]) (fun x3 hx3 => ?_)
          repeat (refine wpF_val rfl monoQ_end (by rintro _ ⟨⟩; rfl) ?_ (fun w1 hw1 => ?_) (fun K hK => ?_); rotate_left; (focus (have hF := FACT.out w1 hw1; go_simp; first | done | rfl)); go_simp; refine hK _ ?_; clear hK K)
          refine wpFacts_nil ?_
          intro w7 hC hF
          have X3 : Hid (cn .f32 x3 = stV r t k) := Lib.hid (by unfold stV; rw [EW.out, EG.out]; exact hx3)
          have y0 := hC.cell y0
          have hP := Lib.hid (hP.out.kept hC)
          have yf := hP.out.W.frozen
          have hD := Lib.hid (hD.out.kept hC)
          have hR := Lib.hid (hR.out.kept hC)
          have hB := Lib.hid (below_step hB.out hC)
          clear hF hC FACT c0 c1 c2 c3 c4 c5 d0 d1 d2 d3 d4 d5 zW zG hx1 hx2 hx3
          go_wp2
          go_roundw
          case rel => exact ⟨k + 1, _, by omega, by go_num, Lib.hid (hS.out.step EH.out X3.out hlt), Lib.hid (hP.out.setW k x3 hlt), Lib.hid (hD.out.far (q := g0) (by have := QL.out; omega) k _), Lib.hid (hR.out.far (q := g0) (by have := GB.out; omega) k _), Lib.hid (hB.out.setCell (p := ⟨g0, k, none⟩) (by have := GB.out; show w.heap.size ≤ g0; omega) _)⟩
          case measure => simp [intOf]; omega
      · go_wp2
        go_roundw
        case rel => exact ⟨k + 1, L, by omega, by go_num, Lib.hid (hS.out.held EH.out), hP, hD, hR, hB⟩
        case measure => simp [intOf]; omega
    · have e := Lib.hid (show k = n by omega)
      have hS2 : Stp r t n n L := by have := hS.out; rw [e.out] at this; exact this
      have VV := Lib.hid (SV.out L hS2)
      have VS2 := Lib.hid (SS.out L hS2)
      clear hS2
      go_wp2
      go_region
      clear c0 c1 c2 c3 c4 c5
      have hP := Lib.hid (hP.out.kept (Below.refl _ _).drew)
      have hD := Lib.hid (hD.out.kept (Below.refl _ _).drew)
      have hR := Lib.hid (hR.out.kept (Below.refl _ _).drew)
      have hB := Lib.hid hB.out.drew
      generalize wr.drew = wr1 at *
      have CG := Lib.hid (specGiveP_any _ _ _ _ { r with W := L } _ (hP.out.prow c0' c1' c2' c3'))
      rw [VV.out] at CG
      unfold GivP ifP nilPd at CG
      have d0 := hD.out.at 0 rfl; have d1 := hD.out.at 1 rfl; have d2 := hD.out.at 2 rfl; have d3 := hD.out.at 3 rfl; have d4 := hD.out.at 4 rfl; have d5 := hD.out.at 5 rfl
      cases hvs : vPl (stR r t)
      all_goals
        have HVS := Lib.hid hvs
        rw [hvs] at CG
        simp only [cond_true, cond_false] at CG
        go_wp2_with fail
        refine CG.out.mono ?_
        rintro _ w8 ⟨rfl, hb⟩
        have hR := Lib.hid (hR.out.kept hb)
        have hP := Lib.hid (hP.out.kept hb)
        have hB := Lib.hid (below_step hB.out hb)
        clear hb CG d0 d1 d2 d3 d4 d5
        have q0 := hR.out.at 0 rfl; have q1 := hR.out.at 1 rfl; have q2 := hR.out.at 2 rfl; have q3 := hR.out.at 3 rfl; have q4 := hR.out.at 4 rfl; have q5 := hR.out.at 5 rfl; have qf := hR.out.fz
        go_wp2
      · refine bodyPost_ret (v := .tuple #[.agg #[.int .i64 0, .int .i64 0, .slice none 0 0, .slice none 0 0, .slice none 0 0, .slice none 0 0], .bool false]) ?_ rfl ?_
        · rw [results_cell_tmp rfl]
          go_simp
        · exact ⟨below_set6 hB.out (Nat.le_refl _) _ _ _ _ _ _, .inl ⟨HVS.out, rfl⟩⟩
      · refine bodyPost_ret (v := .tuple #[.agg #[.int .i64 r.X, .int .i64 r.Y, ps g0 0 n c0', ps g1 0 n c1', ps g2 0 n c2', ps g3 0 n c3'], .bool true]) ?_ rfl ?_
        · rw [results_cell_tmp rfl]
          go_simp
        · have hq := hP.out.far6 w.heap.size (Nat.lt_succ_self _) (.int .i64 r.X) (.int .i64 r.Y) (ps g0 0 n c0') (ps g1 0 n c1') (ps g2 0 n c2') (ps g3 0 n c3')
          rw [VS2.out HVS.out] at hq
          exact ⟨below_set6 hB.out (Nat.le_refl _) _ _ _ _ _ _, .inr ⟨HVS.out, _, _, _, _, _, _, _, _, rfl, hq.mono (by omega)⟩⟩
end Go.Proofs.Ythfkmcpajookaaa

/- StepPlate: the specification's side. -/
namespace Go.Proofs.Ythfkmcpajookaaa
open Go.RowKit
set_option linter.unusedVariables false

set_option maxRecDepth 10000 in
set_option maxHeartbeats 3200000 in
theorem specStepPl_any (a b c d : Value) (r : PL) (t : Nat) (w : World) (h : PRow w a b c d r) : Calls Try.prog 30 #[.agg #[.int .i64 r.X, .int .i64 r.Y, a, b, c, d], .float .f32 t] w (PdB (stB r t) (stS r t) w) := by
  unfold PdB stS
  have H := Lib.hid (fun w1 (hb : Below w.heap.size w w1) => h.below hb)
  have A := Lib.hid ((Cells.made w (pvs r a b c d) 26).al (.cells zpl.toArray 26))
  have R := Cells.made (w.alloc (.cells (pvs r a b c d).toArray 26)) zpl 26
  rw [show (w.alloc (.cells (pvs r a b c d).toArray 26)).heap.size = w.heap.size + 1 from by simp] at R
  have R := Lib.hid R
  have Bw := Lib.hid (below_al2 w (.cells (pvs r a b c d).toArray 26) (.cells zpl.toArray 26))
  clear h
  cases hv : vPl r
  · have HV := Lib.hid hv
    have NO : Hid (stB r t = false) := Lib.hid (by unfold stB; rw [hv]; rfl)
    clear hv
    go_enter Try.func30, Try.ntmps30
    go_wp2_with fail
    refine (specPl_any a b c d r _ _ A.out (H.out _ Bw.out)).mono ?_
    rw [HV.out]
    rintro _ _ ⟨rfl, m, rfl⟩
    have A := Lib.hid (A.out.drewN (n := m))
    have R := Lib.hid (R.out.drewN (n := m))
    have Bw := Lib.hid (below_drewN Bw.out m)
    generalize ((w.alloc (.cells (pvs r a b c d).toArray 26)).alloc (.cells zpl.toArray 26)).drewN m = w2 at *
    have q0 := R.out.at 0 rfl; have q1 := R.out.at 1 rfl; have q2 := R.out.at 2 rfl; have q3 := R.out.at 3 rfl; have q4 := R.out.at 4 rfl; have q5 := R.out.at 5 rfl; have qf := R.out.fz
    go_wp2
    refine bodyPost_ret (v := .tuple #[.agg #[.int .i64 0, .int .i64 0, .slice none 0 0, .slice none 0 0, .slice none 0 0, .slice none 0 0], .bool false]) ?_ rfl ?_
    · rw [results_cell_tmp rfl]
      go_simp
    · rw [NO.out]; exact ⟨_, _, _, _, rfl, nil_prow _, below_set6 Bw.out (by omega) _ _ _ _ _ _⟩
  · cases ht : lst t
    · have HV := Lib.hid hv
      have HT := Lib.hid ht
      have NO : Hid (stB r t = false) := Lib.hid (by unfold stB; rw [hv, ht]; rfl)
      clear hv ht
      go_enter Try.func30, Try.ntmps30
      go_wp2_with fail
      refine (specPl_any a b c d r _ _ A.out (H.out _ Bw.out)).mono ?_
      rw [HV.out]
      rintro _ _ ⟨rfl, m, rfl⟩
      have A := Lib.hid (A.out.drewN (n := m))
      have R := Lib.hid (R.out.drewN (n := m))
      have Bw := Lib.hid (below_drewN Bw.out m)
      generalize ((w.alloc (.cells (pvs r a b c d).toArray 26)).alloc (.cells zpl.toArray 26)).drewN m = w2 at *
      go_wp2_with fail
      refine (specLeast_any t _).mono ?_
      rw [HT.out]
      rintro _ _ ⟨rfl, m2, rfl⟩
      have A := Lib.hid (A.out.drewN (n := m2))
      have R := Lib.hid (R.out.drewN (n := m2))
      have Bw := Lib.hid (below_drewN Bw.out m2)
      generalize w2.drewN m2 = w3 at *
      have q0 := R.out.at 0 rfl; have q1 := R.out.at 1 rfl; have q2 := R.out.at 2 rfl; have q3 := R.out.at 3 rfl; have q4 := R.out.at 4 rfl; have q5 := R.out.at 5 rfl; have qf := R.out.fz
      go_wp2
      refine bodyPost_ret (v := .tuple #[.agg #[.int .i64 0, .int .i64 0, .slice none 0 0, .slice none 0 0, .slice none 0 0, .slice none 0 0], .bool false]) ?_ rfl ?_
      · rw [results_cell_tmp rfl]
        go_simp
      · rw [NO.out]; exact ⟨_, _, _, _, rfl, nil_prow _, below_set6 Bw.out (by omega) _ _ _ _ _ _⟩
    · have HV := Lib.hid hv
      have HT := Lib.hid ht
      have SB : Hid (stB r t = vPl (stR r t)) := Lib.hid (by unfold stB; rw [hv, ht]; rfl)
      clear hv ht
      go_enter Try.func30, Try.ntmps30
      go_wp2_with fail
      refine (specPl_any a b c d r _ _ A.out (H.out _ Bw.out)).mono ?_
      rw [HV.out]
      rintro _ _ ⟨rfl, m, rfl⟩
      have A := Lib.hid (A.out.drewN (n := m))
      have R := Lib.hid (R.out.drewN (n := m))
      have Bw := Lib.hid (below_drewN Bw.out m)
      generalize ((w.alloc (.cells (pvs r a b c d).toArray 26)).alloc (.cells zpl.toArray 26)).drewN m = w2 at *
      go_wp2_with fail
      refine (specLeast_any t _).mono ?_
      rw [HT.out]
      rintro _ _ ⟨rfl, m2, rfl⟩
      have A := Lib.hid (A.out.drewN (n := m2))
      have R := Lib.hid (R.out.drewN (n := m2))
      have Bw := Lib.hid (below_drewN Bw.out m2)
      generalize w2.drewN m2 = w3 at *
      have c0 := A.out.at 0 rfl; have c1 := A.out.at 1 rfl; have c2 := A.out.at 2 rfl; have c3 := A.out.at 3 rfl; have c4 := A.out.at 4 rfl; have c5 := A.out.at 5 rfl
      go_wp2_with fail
      refine (specStep_any a b c d r t _ _ A.out (H.out _ Bw.out) HV.out).mono ?_
      rintro _ w4 ⟨hb, ⟨hvs, rfl⟩ | ⟨hvs, g0, g1, g2, g3, k0, k1, k2, k3, rfl, P⟩⟩
      · have NO := Lib.hid (SB.out.trans hvs)
        have R := Lib.hid (R.out.kept hb)
        have Bw := Lib.hid (below_step Bw.out hb)
        clear hb hvs c0 c1 c2 c3 c4 c5
        have q0 := R.out.at 0 rfl; have q1 := R.out.at 1 rfl; have q2 := R.out.at 2 rfl; have q3 := R.out.at 3 rfl; have q4 := R.out.at 4 rfl; have q5 := R.out.at 5 rfl; have qf := R.out.fz
        go_wp2
        refine bodyPost_ret (v := .tuple #[.agg #[.int .i64 0, .int .i64 0, .slice none 0 0, .slice none 0 0, .slice none 0 0, .slice none 0 0], .bool false]) ?_ rfl ?_
        · rw [results_cell_tmp rfl]
          go_simp
        · rw [NO.out]; exact ⟨_, _, _, _, rfl, nil_prow _, below_set6 Bw.out (by omega) _ _ _ _ _ _⟩
      · have YES := Lib.hid (SB.out.trans hvs)
        have RLt := Lib.hid R.out.lt
        have R := Lib.hid (R.out.kept hb)
        have Bw := Lib.hid (below_step Bw.out hb)
        have PP := Lib.hid P
        clear hb hvs c0 c1 c2 c3 c4 c5 P
        have q0 := R.out.at 0 rfl; have q1 := R.out.at 1 rfl; have q2 := R.out.at 2 rfl; have q3 := R.out.at 3 rfl; have q4 := R.out.at 4 rfl; have q5 := R.out.at 5 rfl; have qf := R.out.fz
        go_wp2
        refine bodyPost_ret (v := .tuple #[.agg #[.int .i64 (stR r t).X, .int .i64 (stR r t).Y, ps g0 0 r.W.length k0, ps g1 0 r.W.length k1, ps g2 0 r.W.length k2, ps g3 0 r.W.length k3], .bool true]) ?_ rfl ?_
        · rw [results_cell_tmp rfl]
          go_simp
        · rw [YES.out]
          exact ⟨_, _, _, _, rfl, (PP.out.far6 (w.heap.size + 1) RLt.out _ _ _ _ _ _).prow k0 k1 k2 k3, below_set6 Bw.out (by omega) _ _ _ _ _ _⟩
end Go.Proofs.Ythfkmcpajookaaa

/- Ticks, as the program tells them. -/
namespace Go.Proofs.Ythfkmcpajookaaa
open Go.RowKit
set_option linter.unusedVariables false

theorem isTick_any (x : Nat) (w : World) : Calls Try.prog 65 #[.float .f32 x, .bool false] w (Bol (lst x) w) := by
  rw [lst_tick]
  cases hp : pos x
  · have HP := Lib.hid hp
    clear hp
    cases he : (FloatKind.f32.format.order x 0 == some .eq)
    · have hz : (FloatKind.f32.format.order x 0 == some .eq) = false := he
      go_enter Try.func65, Try.ntmps65
      go_wp2_with fail
      refine (implPos_any x _).mono ?_
      rw [HP.out]
      rintro _ _ ⟨rfl, m, rfl⟩
      go_wp2
      go_ret
      exact ⟨rfl, _, rfl⟩
    · have hz : (FloatKind.f32.format.order x 0 == some .eq) = true := he
      go_enter Try.func65, Try.ntmps65
      go_wp2_with fail
      refine (implPos_any x _).mono ?_
      rw [HP.out]
      rintro _ _ ⟨rfl, m, rfl⟩
      go_wp2
      go_ret
      exact ⟨rfl, _, rfl⟩
  · have HP := Lib.hid hp
    clear hp
    go_enter Try.func65, Try.ntmps65
    go_wp2_with fail
    refine (implPos_any x _).mono ?_
    rw [HP.out]
    rintro _ _ ⟨rfl, m, rfl⟩
    go_wp2
    go_ret
    exact ⟨rfl, _, rfl⟩
end Go.Proofs.Ythfkmcpajookaaa

/- A plate handed on, if it is valid: the program's side. -/
namespace Go.Proofs.Ythfkmcpajookaaa
open Go.RowKit
set_option linter.unusedVariables false

set_option maxHeartbeats 1600000 in
theorem implGiveP_any (a b c d : Value) (r : PL) (w : World) (h : PRow w a b c d r) : Calls Try.prog 36 #[.agg #[.int .i64 r.X, .int .i64 r.Y, a, b, c, d]] w (GivP (.agg #[.int .i64 r.X, .int .i64 r.Y, a, b, c, d]) (vPl r) w) := by
  obtain ⟨a0, q0, rfl⟩ := h.W.shape
  obtain ⟨a1, q1, rfl⟩ := h.E.shape
  obtain ⟨a2, q2, rfl⟩ := h.G.shape
  obtain ⟨a3, q3, rfl⟩ := h.H.shape
  have H := Lib.hid (fun w1 (hb : Below w.heap.size w w1) => h.below hb)
  have A := Lib.hid ((Cells.made w [.int .i64 r.X, .int .i64 r.Y, .slice a0 r.W.length q0, .slice a1 r.E.length q1, .slice a2 r.G.length q2, .slice a3 r.H.length q3] 26).al (.cells zpl.toArray 26))
  have R := Cells.made (w.alloc (.cells [Value.int .i64 r.X, .int .i64 r.Y, .slice a0 r.W.length q0, .slice a1 r.E.length q1, .slice a2 r.G.length q2, .slice a3 r.H.length q3].toArray 26)) zpl 26
  rw [show (w.alloc (.cells [Value.int .i64 r.X, .int .i64 r.Y, .slice a0 r.W.length q0, .slice a1 r.E.length q1, .slice a2 r.G.length q2, .slice a3 r.H.length q3].toArray 26)).heap.size = w.heap.size + 1 from by simp] at R
  have R := Lib.hid R
  have Bw := Lib.hid (below_al2 w (.cells [Value.int .i64 r.X, .int .i64 r.Y, .slice a0 r.W.length q0, .slice a1 r.E.length q1, .slice a2 r.G.length q2, .slice a3 r.H.length q3].toArray 26) (.cells zpl.toArray 26))
  clear h
  unfold GivP ifP nilPd
  cases hv : vPl r
  · have HV := Lib.hid hv
    clear hv
    go_enter Try.func36, Try.ntmps36
    go_wp2_with fail
    refine (implPl_any _ _ _ _ r _ (H.out _ Bw.out)).mono ?_
    rw [HV.out]
    rintro _ w3 ⟨rfl, hb⟩
    have A := Lib.hid (A.out.kept hb)
    have R := Lib.hid (R.out.kept hb)
    have Bw := Lib.hid (below_step Bw.out hb)
    clear hb
    have r0 := R.out.at 0 rfl; have r1 := R.out.at 1 rfl; have r2 := R.out.at 2 rfl; have r3 := R.out.at 3 rfl; have r4 := R.out.at 4 rfl; have r5 := R.out.at 5 rfl; have rf := R.out.fz
    go_wp2
    refine bodyPost_ret (v := .tuple #[.agg #[.int .i64 0, .int .i64 0, .slice none 0 0, .slice none 0 0, .slice none 0 0, .slice none 0 0], .bool false]) ?_ rfl ?_
    · rw [results_cell_tmp rfl]
      go_simp
    · exact ⟨rfl, below_set6 Bw.out (by omega) _ _ _ _ _ _⟩
  · have HV := Lib.hid hv
    clear hv
    go_enter Try.func36, Try.ntmps36
    go_wp2_with fail
    refine (implPl_any _ _ _ _ r _ (H.out _ Bw.out)).mono ?_
    rw [HV.out]
    rintro _ w3 ⟨rfl, hb⟩
    have A := Lib.hid (A.out.kept hb)
    have R := Lib.hid (R.out.kept hb)
    have Bw := Lib.hid (below_step Bw.out hb)
    clear hb
    have c0 := A.out.at 0 rfl; have c1 := A.out.at 1 rfl; have c2 := A.out.at 2 rfl; have c3 := A.out.at 3 rfl; have c4 := A.out.at 4 rfl; have c5 := A.out.at 5 rfl
    have r0 := R.out.at 0 rfl; have r1 := R.out.at 1 rfl; have r2 := R.out.at 2 rfl; have r3 := R.out.at 3 rfl; have r4 := R.out.at 4 rfl; have r5 := R.out.at 5 rfl; have rf := R.out.fz
    go_wp2
    refine bodyPost_ret (v := .tuple #[.agg #[.int .i64 r.X, .int .i64 r.Y, .slice a0 r.W.length q0, .slice a1 r.E.length q1, .slice a2 r.G.length q2, .slice a3 r.H.length q3], .bool true]) ?_ rfl ?_
    · rw [results_cell_tmp rfl]
      go_simp
    · exact ⟨rfl, below_set6 Bw.out (by omega) _ _ _ _ _ _⟩
end Go.Proofs.Ythfkmcpajookaaa

/- StepPlate: the program's side. -/
namespace Go.Proofs.Ythfkmcpajookaaa
open Go.RowKit
set_option linter.unusedVariables false

set_option maxRecDepth 10000 in
set_option maxHeartbeats 6400000 in
theorem implStepPl_any (a b c d : Value) (r : PL) (t : Nat) (w : World) (h : PRow w a b c d r) : Calls Try.prog 31 #[.agg #[.int .i64 r.X, .int .i64 r.Y, a, b, c, d], .float .f32 t] w (PdO (stB r t) (stS r t) w) := by
  unfold PdO stS
  cases hv : vPl r
  · 
    have H := Lib.hid (fun w1 (hb : Below w.heap.size w w1) => h.below hb)
    have A := Lib.hid ((Cells.made w (pvs r a b c d) 26).al (.cells zpl.toArray 26))
    have R := Cells.made (w.alloc (.cells (pvs r a b c d).toArray 26)) zpl 26
    rw [show (w.alloc (.cells (pvs r a b c d).toArray 26)).heap.size = w.heap.size + 1 from by simp] at R
    have R := Lib.hid R
    have Bw := Lib.hid (below_al2 w (.cells (pvs r a b c d).toArray 26) (.cells zpl.toArray 26))
    have HV := Lib.hid hv
    have NO : Hid (stB r t = false) := Lib.hid (by unfold stB; rw [hv]; rfl)
    clear hv h
    go_enter Try.func31, Try.ntmps31
    go_wp2_with fail
    refine (implPl_any _ _ _ _ r _ (H.out _ Bw.out)).mono ?_
    rw [HV.out]
    rintro _ w2 ⟨rfl, hb⟩
    have A := Lib.hid (A.out.kept hb)
    have R := Lib.hid (R.out.kept hb)
    have Bw := Lib.hid (below_step Bw.out hb)
    clear hb
    have q0 := R.out.at 0 rfl; have q1 := R.out.at 1 rfl; have q2 := R.out.at 2 rfl; have q3 := R.out.at 3 rfl; have q4 := R.out.at 4 rfl; have q5 := R.out.at 5 rfl; have qf := R.out.fz
    go_wp2
    refine bodyPost_ret (v := .tuple #[.agg #[.int .i64 0, .int .i64 0, .slice none 0 0, .slice none 0 0, .slice none 0 0, .slice none 0 0], .bool false]) ?_ rfl ?_
    · rw [results_cell_tmp rfl]
      go_simp
    · have hb9 := below_set6 Bw.out (p := w.heap.size + 1) (by omega) (.int .i64 0) (.int .i64 0) (.slice none 0 0) (.slice none 0 0) (.slice none 0 0) (.slice none 0 0)
      rw [NO.out]
      exact ⟨_, _, _, _, rfl, PX.nil, hb9⟩
  · cases ht : lst t
    · 
      have H := Lib.hid (fun w1 (hb : Below w.heap.size w w1) => h.below hb)
      have A := Lib.hid ((Cells.made w (pvs r a b c d) 26).al (.cells zpl.toArray 26))
      have R := Cells.made (w.alloc (.cells (pvs r a b c d).toArray 26)) zpl 26
      rw [show (w.alloc (.cells (pvs r a b c d).toArray 26)).heap.size = w.heap.size + 1 from by simp] at R
      have R := Lib.hid R
      have Bw := Lib.hid (below_al2 w (.cells (pvs r a b c d).toArray 26) (.cells zpl.toArray 26))
      have HV := Lib.hid hv
      have HT := Lib.hid ht
      have NO : Hid (stB r t = false) := Lib.hid (by unfold stB; rw [hv, ht]; rfl)
      clear hv ht h
      go_enter Try.func31, Try.ntmps31
      go_wp2_with fail
      refine (implPl_any _ _ _ _ r _ (H.out _ Bw.out)).mono ?_
      rw [HV.out]
      rintro _ w2 ⟨rfl, hb⟩
      have A := Lib.hid (A.out.kept hb)
      have R := Lib.hid (R.out.kept hb)
      have Bw := Lib.hid (below_step Bw.out hb)
      clear hb
      go_wp2_with fail
      refine (isTick_any t _).mono ?_
      rw [HT.out]
      rintro _ _ ⟨rfl, m2, rfl⟩
      have A := Lib.hid (A.out.drewN (n := m2))
      have R := Lib.hid (R.out.drewN (n := m2))
      have Bw := Lib.hid (below_drewN Bw.out m2)
      generalize w2.drewN m2 = w3 at *
      have q0 := R.out.at 0 rfl; have q1 := R.out.at 1 rfl; have q2 := R.out.at 2 rfl; have q3 := R.out.at 3 rfl; have q4 := R.out.at 4 rfl; have q5 := R.out.at 5 rfl; have qf := R.out.fz
      go_wp2
      refine bodyPost_ret (v := .tuple #[.agg #[.int .i64 0, .int .i64 0, .slice none 0 0, .slice none 0 0, .slice none 0 0, .slice none 0 0], .bool false]) ?_ rfl ?_
      · rw [results_cell_tmp rfl]
        go_simp
      · have hb9 := below_set6 Bw.out (p := w.heap.size + 1) (by omega) (.int .i64 0) (.int .i64 0) (.slice none 0 0) (.slice none 0 0) (.slice none 0 0) (.slice none 0 0)
        rw [NO.out]
        exact ⟨_, _, _, _, rfl, PX.nil, hb9⟩
    · have LN := PlN.ofV hv
      obtain ⟨n, hn⟩ : ∃ n, r.W.length = n := ⟨_, rfl⟩
      have S0 := Lib.hid (Stp.start r t)
      have SV := Lib.hid (fun L h => stp_valid (r := r) (t := t) (L := L) h)
      have SS := Lib.hid (fun L h hv => stp_same (r := r) (t := t) (L := L) h hv)
      rw [hn] at LN S0 SV SS
      have FL := Lib.hid (fun k (hk : k < n) w1 (h1 : PRow w1 a b c d r) => implFlowV_any r n k a b c d w1 h1 LN hk)
      obtain ⟨b0, o0, k0, b1, o1, k1, b2, o2, k2, b3, o3, k3, rfl, rfl, rfl, rfl, hL⟩ := h.lay LN
      have H := Lib.hid (fun w1 (hb : Below w.heap.size w w1) => h.below hb)
      have A := Lib.hid ((Cells.made w (pvs r (ps b0 o0 n k0) (ps b1 o1 n k1) (ps b2 o2 n k2) (ps b3 o3 n k3)) 26).al (.cells zpl.toArray 26))
      have R := Cells.made (w.alloc (.cells (pvs r (ps b0 o0 n k0) (ps b1 o1 n k1) (ps b2 o2 n k2) (ps b3 o3 n k3)).toArray 26)) zpl 26
      rw [show (w.alloc (.cells (pvs r (ps b0 o0 n k0) (ps b1 o1 n k1) (ps b2 o2 n k2) (ps b3 o3 n k3)).toArray 26)).heap.size = w.heap.size + 1 from by simp] at R
      have R := Lib.hid R
      have Bw := Lib.hid (below_al2 w (.cells (pvs r (ps b0 o0 n k0) (ps b1 o1 n k1) (ps b2 o2 n k2) (ps b3 o3 n k3)).toArray 26) (.cells zpl.toArray 26))
      have LY := Lib.hid (fun w1 (hb : Below w.heap.size w w1) => hL.below hb)
      have NN := Lib.hid LN
      have HV := Lib.hid hv
      have HT := Lib.hid ht
      have SB : Hid (stB r t = vPl (stR r t)) := Lib.hid (by unfold stB; rw [hv, ht]; rfl)
      clear h hL hv hn LN ht
      go_enter Try.func31, Try.ntmps31
      go_wp2_with fail
      refine (implPl_any _ _ _ _ r _ (H.out _ Bw.out)).mono ?_
      rw [HV.out]
      rintro _ w2 ⟨rfl, hb⟩
      have A := Lib.hid (A.out.kept hb)
      have R := Lib.hid (R.out.kept hb)
      have Bw := Lib.hid (below_step Bw.out hb)
      clear hb
      go_wp2_with fail
      refine (isTick_any t _).mono ?_
      rw [HT.out]
      rintro _ _ ⟨rfl, m2, rfl⟩
      have A := Lib.hid (A.out.drewN (n := m2))
      have R := Lib.hid (R.out.drewN (n := m2))
      have Bw := Lib.hid (below_drewN Bw.out m2)
      generalize w2.drewN m2 = w3 at *
      have c0 := A.out.at 0 rfl; have c1 := A.out.at 1 rfl; have c2 := A.out.at 2 rfl; have c3 := A.out.at 3 rfl; have c4 := A.out.at 4 rfl; have c5 := A.out.at 5 rfl
      go_wp2_with fail
      refine (Pr.copyPl_any _ _ _ _ r n _ (H.out _ Bw.out) NN.out).mono ?_
      rintro _ w4 ⟨g0, g1, g2, g3, c0', c1', c2', c3', rfl, P, hb⟩
      clear c0 c1 c2 c3 c4 c5
      have hsz := R.out.lt
      have P := P.mono (h' := w.heap.size + 2) (by omega)
      have A := Lib.hid (A.out.kept hb)
      have R := Lib.hid (R.out.kept hb)
      have Bw := Lib.hid (below_step Bw.out hb)
      have ha := below_al1 w4 (.cells [Value.int .i64 r.X, .int .i64 r.Y, ps g0 0 n c0', ps g1 0 n c1', ps g2 0 n c2', ps g3 0 n c3'].toArray 26)
      have D := Cells.made w4 [.int .i64 r.X, .int .i64 r.Y, ps g0 0 n c0', ps g1 0 n c1', ps g2 0 n c2', ps g3 0 n c3'] 26
      obtain ⟨w5, hw5⟩ : ∃ w5, w4.alloc (.cells [Value.int .i64 r.X, .int .i64 r.Y, ps g0 0 n c0', ps g1 0 n c1', ps g2 0 n c2', ps g3 0 n c3'].toArray 26) = w5 := ⟨_, rfl⟩
      have A5 := A.out.kept ha
      have c0 := A5.at 0 rfl; have c1 := A5.at 1 rfl; have c2 := A5.at 2 rfl; have c3 := A5.at 3 rfl; have c4 := A5.at 4 rfl; have c5 := A5.at 5 rfl
      rw [hw5] at ha D
      have QL := Lib.hid (And.intro P.W.lt (And.intro P.E.lt (And.intro P.G.lt P.H.lt)))
      have P := Lib.hid (P.kept ha)
      have D := Lib.hid D
      have A := Lib.hid (A.out.kept ha)
      have R := Lib.hid (R.out.kept ha)
      have Bw := Lib.hid (below_step Bw.out ha)
      have HW5 := Lib.hid hw5
      clear ha hw5 hb hsz A5
      have GB := Lib.hid (And.intro P.out.b0 (And.intro P.out.b1 (And.intro P.out.b2 P.out.b3)))
      go_wp2_with fail
      rw [show w4.alloc (.cells #[Value.int .i64 r.X, .int .i64 r.Y, ps g0 0 n c0', ps g1 0 n c1', ps g2 0 n c2', ps g3 0 n c3'] 26) = w5 from HW5.out]
      clear c0 c1 c2 c3 c4 c5
      go_loopw [7, 8, 23] (fun _ _ i wr => ∃ (k : Nat) (L : List Nat), k ≤ n ∧ i = .int .i64 k ∧ Hid (Stp r t n k L) ∧ Hid (PB (w.heap.size + 2) wr g0 g1 g2 g3 n { r with W := L }) ∧ Hid (Cells wr w4.heap.size [.int .i64 r.X, .int .i64 r.Y, ps g0 0 n c0', ps g1 0 n c1', ps g2 0 n c2', ps g3 0 n c3']) ∧ Hid (Cells wr (w.heap.size + 1) zpl) ∧ Hid (Cells wr w.heap.size (pvs r (ps b0 o0 n k0) (ps b1 o1 n k1) (ps b2 o2 n k2) (ps b3 o3 n k3))) ∧ Hid (Below w.heap.size w wr)) (fun _ _ i _ => n - (intOf i).toNat)
      case atStart => exact ⟨0, _, Nat.zero_le _, rfl, S0, P, D, R, A, Bw⟩
      case round =>
        obtain ⟨k, L, hk, rfl, hS, hP, hD, hR, hA, hB⟩ := hrel
        have hn1 := NN.out.p
        have hn9 := NN.out.q
        by_cases hlt : k < n
        · have LY1 := LY.out _ hB.out
          have zH := LY1.H k hlt
          obtain ⟨hh, ehh⟩ : ∃ hh, r.H.getD k false = hh := ⟨_, rfl⟩
          rw [ehh] at zH
          have EH := Lib.hid ehh
          clear ehh
          have hi : (0 : Int) ≤ (k : Int) := by omega
          have hi' : (k : Int) < (n : Int) := by omega
          cases hh
          · have zW := LY1.W k hlt
            have zG := LY1.G k hlt
            have y0 := hP.out.W.cell (i := k) (by rw [hP.out.lW]; exact hlt)
            rw [Nat.zero_add] at y0
            have yf := hP.out.W.frozen
            obtain ⟨xg, exg⟩ : ∃ x, r.G.getD k 0 = x := ⟨_, rfl⟩
            obtain ⟨xo, exo⟩ : ∃ x, ({ r with W := L } : PL).W.getD k 0 = x := ⟨_, rfl⟩
            rw [exg] at zG
            rw [exo] at y0
            have EG := Lib.hid exg
            have EO : Hid (cn .f32 xo = cn .f32 (r.W.getD k 0)) := Lib.hid (by
              have := hS.out.2 k hlt
              unfold St at this
              rw [decide_eq_false (Nat.lt_irrefl k)] at this
              rw [← exo]
              exact this)
            clear exg exo zW LY1
            have c0 := hA.out.at 0 rfl; have c1 := hA.out.at 1 rfl; have c2 := hA.out.at 2 rfl; have c3 := hA.out.at 3 rfl; have c4 := hA.out.at 4 rfl; have c5 := hA.out.at 5 rfl
            have d0 := hD.out.at 0 rfl; have d1 := hD.out.at 1 rfl; have d2 := hD.out.at 2 rfl; have d3 := hD.out.at 3 rfl; have d4 := hD.out.at 4 rfl; have d5 := hD.out.at 5 rfl
            have FACT := Lib.hid (fun w1 (hw : Ext wr w1) => And.intro (hw.cell c0) (And.intro (hw.cell c1) (And.intro (hw.cell c2) (And.intro (hw.cell c3) (And.intro (hw.cell c4) (And.intro (hw.cell c5) (And.intro (hw.cell d0) (And.intro (hw.cell d1) (And.intro (hw.cell d2) (And.intro (hw.cell d3) (And.intro (hw.cell d4) (And.intro (hw.cell d5) (And.intro (hw.cell zG) (hw.cell y0))))))))))))))
            go_wp2
            refine wp_region_facts_tail 18 [] (Ext wr) (TS [(38, fNum .f32 (fV r k)), (44, fNum .f32 (fop .add .f32 (fV r k) (cn .f32 xg))), (45, fNum .f32 (fop .mul .f32 (cn .f32 t) (fop .add .f32 (fV r k) (cn .f32 xg)))), (46, fNum .f32 (fop .add .f32 (cn .f32 xo) (fop .mul .f32 (cn .f32 t) (fop .add .f32 (fV r k) (cn .f32 xg)))))]) (Pers.ext _) (TS.pers _) (Ext.start _) (by kernel_rfl) (by kernel_rfl) (by intro d v c a w h; cases d <;> exact h) ?_
            simp only [List.take_succ_cons, List.take_zero, List.drop_succ_cons, List.drop_zero]
            repeat (refine wpF_val rfl monoQ_end (by rintro _ ⟨⟩; rfl) ?_ (fun w1 hw1 => ?_) (fun K hK => ?_); rotate_left; (focus (have hF := FACT.out w1 hw1; go_simp; first | done | rfl)); go_simp; refine hK _ ?_; clear hK K)
            refine wpF_callN rfl 38 rfl 67 #[.agg #[.int .i64 r.X, .int .i64 r.Y, ps b0 o0 n k0, ps b1 o1 n k1, ps b2 o2 n k2, ps b3 o3 n k3], .int .i64 (k : Int)] .f32 (fV r k) rfl (fun w1 => ?_) (fun w1 hC => FL.out k hlt w1 (H.out w1 (below_step hB.out hC))) (fun x0 hx0 => ?_)
            · go_simp
            repeat (refine wpF_val rfl monoQ_end (by rintro _ ⟨⟩; rfl) ?_ (fun w1 hw1 => ?_) (fun K hK => ?_); rotate_left; (focus (have hF := FACT.out w1 hw1; go_simp; first | done | rfl)); go_simp; refine hK _ ?_; clear hK K)
            refine wpF_farith rfl 44 rfl .add _ _ _ _ rfl rfl .f32 x0 xg rfl rfl _ rfl (by rw [hx0]) (fun x1 hx1 => ?_)
            repeat (refine wpF_val rfl monoQ_end (by rintro _ ⟨⟩; rfl) ?_ (fun w1 hw1 => ?_) (fun K hK => ?_); rotate_left; (focus (have hF := FACT.out w1 hw1; go_simp; first | done | rfl)); go_simp; refine hK _ ?_; clear hK K)
            refine wpF_farith rfl 45 rfl .mul _ _ _ _ rfl rfl .f32 t x1 rfl rfl _ rfl (by rw [hx1]) (fun x2 hx2 => ?_)
            repeat (refine wpF_val rfl monoQ_end (by rintro _ ⟨⟩; rfl) ?_ (fun w1 hw1 => ?_) (fun K hK => ?_); rotate_left; (focus (have hF := FACT.out w1 hw1; go_simp; first | done | rfl)); go_simp; refine hK _ ?_; clear hK K)
            refine wpF_farith rfl 46 rfl .add _ _ _ _ rfl rfl .f32 xo x2 rfl rfl _ rfl (by rw [hx2]) (fun x3 hx3 => ?_)
            repeat (refine wpF_val rfl monoQ_end (by rintro _ ⟨⟩; rfl) ?_ (fun w1 hw1 => ?_) (fun K hK => ?_); rotate_left; (focus (have hF := FACT.out w1 hw1; go_simp; first | done | rfl)); go_simp; refine hK _ ?_; clear hK K)
            refine wpFacts_nil ?_
            intro w7 hC hF
            have X3 : Hid (cn .f32 x3 = stV r t k) := Lib.hid (by unfold stV; rw [← EO.out, EG.out]; exact hx3)
            have y0 := hC.cell y0
            have hP := Lib.hid (hP.out.kept hC)
            have yf := hP.out.W.frozen
            have hD := Lib.hid (hD.out.kept hC)
            have hR := Lib.hid (hR.out.kept hC)
            have hA := Lib.hid (hA.out.kept hC)
            have hB := Lib.hid (below_step hB.out hC)
            clear hF hC FACT c0 c1 c2 c3 c4 c5 d0 d1 d2 d3 d4 d5 zG hx0 hx1 hx2 hx3 zH
            go_wp2
            go_roundw
            case rel => exact ⟨k + 1, _, by omega, by go_num, Lib.hid (hS.out.step EH.out X3.out hlt), Lib.hid (hP.out.setW k x3 hlt), Lib.hid (hD.out.far (q := g0) (by have := QL.out; omega) k _), Lib.hid (hR.out.far (q := g0) (by have := GB.out; omega) k _), Lib.hid (hA.out.far (q := g0) (by have := GB.out; omega) k _), Lib.hid (hB.out.setCell (p := ⟨g0, k, none⟩) (by have := GB.out; show w.heap.size ≤ g0; omega) _)⟩
            case measure => simp [intOf]; omega
          · go_wp2
            go_roundw
            case rel => exact ⟨k + 1, L, by omega, by go_num, Lib.hid (hS.out.held EH.out), hP, hD, hR, hA, hB⟩
            case measure => simp [intOf]; omega
        · have e := Lib.hid (show k = n by omega)
          have hS2 : Stp r t n n L := by have := hS.out; rw [e.out] at this; exact this
          have VV := Lib.hid (SV.out L hS2)
          have VS2 := Lib.hid (SS.out L hS2)
          clear hS2
          have CG := Lib.hid (implGiveP_any _ _ _ _ { r with W := L } _ (hP.out.prow c0' c1' c2' c3'))
          rw [VV.out] at CG
          unfold GivP ifP nilPd at CG
          have d0 := hD.out.at 0 rfl; have d1 := hD.out.at 1 rfl; have d2 := hD.out.at 2 rfl; have d3 := hD.out.at 3 rfl; have d4 := hD.out.at 4 rfl; have d5 := hD.out.at 5 rfl
          cases hvs : vPl (stR r t)
          all_goals
            have HVS := Lib.hid (SB.out.trans hvs)
            have HVT := Lib.hid hvs
            rw [hvs] at CG
            simp only [cond_true, cond_false] at CG
            go_wp2_with fail
            refine CG.out.mono ?_
            rintro _ w8 ⟨rfl, hb⟩
            have R := Lib.hid (hR.out.kept hb)
            have hP := Lib.hid (hP.out.kept hb)
            have Bw := Lib.hid (below_step hB.out hb)
            clear hb CG d0 d1 d2 d3 d4 d5
          · have NO := HVS
            have q0 := R.out.at 0 rfl; have q1 := R.out.at 1 rfl; have q2 := R.out.at 2 rfl; have q3 := R.out.at 3 rfl; have q4 := R.out.at 4 rfl; have q5 := R.out.at 5 rfl; have qf := R.out.fz
            go_wp2
            refine bodyPost_ret (v := .tuple #[.agg #[.int .i64 0, .int .i64 0, .slice none 0 0, .slice none 0 0, .slice none 0 0, .slice none 0 0], .bool false]) ?_ rfl ?_
            · rw [results_cell_tmp rfl]
              go_simp
            · have hb9 := below_set6 Bw.out (p := w.heap.size + 1) (by omega) (.int .i64 0) (.int .i64 0) (.slice none 0 0) (.slice none 0 0) (.slice none 0 0) (.slice none 0 0)
              rw [NO.out]
              exact ⟨_, _, _, _, rfl, PX.nil, hb9⟩
          · have q0 := R.out.at 0 rfl; have q1 := R.out.at 1 rfl; have q2 := R.out.at 2 rfl; have q3 := R.out.at 3 rfl; have q4 := R.out.at 4 rfl; have q5 := R.out.at 5 rfl; have qf := R.out.fz
            go_wp2
            refine bodyPost_ret (v := .tuple #[.agg #[.int .i64 r.X, .int .i64 r.Y, ps g0 0 n c0', ps g1 0 n c1', ps g2 0 n c2', ps g3 0 n c3'], .bool true]) ?_ rfl ?_
            · rw [results_cell_tmp rfl]
              go_simp
            · have hq := hP.out.far6 (w.heap.size + 1) (by omega) (.int .i64 r.X) (.int .i64 r.Y) (ps g0 0 n c0') (ps g1 0 n c1') (ps g2 0 n c2') (ps g3 0 n c3')
              rw [VS2.out HVT.out] at hq
              have hb9 := below_set6 Bw.out (p := w.heap.size + 1) (by omega) (.int .i64 r.X) (.int .i64 r.Y) (ps g0 0 n c0') (ps g1 0 n c1') (ps g2 0 n c2') (ps g3 0 n c3')
              rw [HVS.out]
              exact ⟨_, _, _, _, rfl, (hq.mono (h' := w.heap.size) (by omega)).px c0' c1' c2' c3', hb9⟩
end Go.Proofs.Ythfkmcpajookaaa

/- StepPlate: the law's walk. -/
namespace Go.Proofs.Ythfkmcpajookaaa
open Go.RowKit
set_option linter.unusedVariables false

theorem fnExactStepPlate_walk (r : PL) (a b c d : Value) (t : Nat) (w : World) (h : PRow w a b c d r) (_ : PWf r) (_ : (Lit.float .f32 t).wf = true) : Calls Try.prog 9 #[.agg #[.int .i64 r.X, .int .i64 r.Y, a, b, c, d], .float .f32 t] w (Tru w) :=
  fnExactStepPlate_law a b c d r t (stB r t) (stS r t) (stS_small r t) (fun a b c d w1 h => specStepPl_any a b c d r t w1 h) (fun a b c d w1 h => implStepPl_any a b c d r t w1 h) w h
end Go.Proofs.Ythfkmcpajookaaa
