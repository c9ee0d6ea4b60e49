/- Several texts in one, for a claim holds 60 files at most: LwGain ChgSGain CloGain ChgCGain ChgIGain GainW. -/
import Derived.Test.YthfkmcpajookaaaYA
import Derived.Test.YthfkmcpajookaaaYB
import Derived.BigRegion

/- The law on GainCells: the walk, for any answer that both sides give. -/
namespace Go.Proofs.Ythfkmcpajookaaa
open Go.RowKit
set_option linter.unusedVariables false

set_option maxRecDepth 20000 in
set_option maxHeartbeats 12800000 in
theorem fnExactGainCells_law (a0 b0 c0 d0 : Value) (r0 : PL) (v1 : Value) (z1 : List Int) (y2 : Nat) (ok : Bool) (S : PL) (hS : PSm S) 
    (cs : ∀ (a0 b0 c0 d0 : Value) (v1 : Value) (w1 : World) (h0 : PRow w1 a0 b0 c0 d0 r0) (h1 : JRow w1 v1 z1), Calls Try.prog 26 #[.agg #[.int .i64 r0.X, .int .i64 r0.Y, a0, b0, c0, d0], v1, .float .f32 y2] w1 (PdB ok S w1))
    (ci : ∀ (a0 b0 c0 d0 : Value) (v1 : Value) (w1 : World) (h0 : PRow w1 a0 b0 c0 d0 r0) (h1 : JRow w1 v1 z1), Calls Try.prog 27 #[.agg #[.int .i64 r0.X, .int .i64 r0.Y, a0, b0, c0, d0], v1, .float .f32 y2] w1 (PdO ok S w1))
    (w : World) (h0 : PRow w a0 b0 c0 d0 r0) (h1 : JRow w v1 z1) : Calls Try.prog 7 #[.agg #[.int .i64 r0.X, .int .i64 r0.Y, a0, b0, c0, d0], v1, .float .f32 y2] w (Tru w) := by
  have CS := Lib.hid cs
  have CI := Lib.hid ci
  unfold PdB at CS
  unfold PdO at CI
  have HSm := Lib.hid hS
  have S2 : Hid (S.size ≤ 1048576) := Lib.hid (by obtain ⟨h0, h1, h2, h3⟩ := hS; unfold PL.size; omega)
  have R0 := Lib.hid (fun w1 (hb : Below w.heap.size w w1) => h0.below hb)
  have R1 := Lib.hid (fun w1 (hb : Below w.heap.size w w1) => h1.below hb)
  clear cs ci hS h0 h1
  have L0 := Cells.made w [.int .i64 r0.X, .int .i64 r0.Y, a0, b0, c0, d0] 32
  have L0 := Lib.hid L0
  have Bw := Lib.hid (below_al1 w (.cells [.int .i64 r0.X, .int .i64 r0.Y, a0, b0, c0, d0].toArray 32))
  by_cases hz : z1.length ≤ 1048576
  case neg =>
    obtain ⟨az, cz, rfl⟩ := (R1.out w (Below.refl _ _)).shape
    have hd : decide (1048576 < (z1.length : Int)) = true := decide_eq_true (by omega)
    clear hz
    go_enter Try.func7, Try.ntmps7
    go_wp2
    go_ret
    exact Tru.below Bw.out
  case pos =>
    obtain ⟨az, cz, hvz⟩ := (R1.out w (Below.refl _ _)).shape
    have hd : decide (1048576 < (z1.length : Int)) = false := decide_eq_false (by omega)
    have HZ := Lib.hid hz
    clear hz
    subst hvz
    by_cases hl0 : r0.size ≤ 1048576
    case neg =>
      have HO := Lib.hid (Nat.lt_of_not_le hl0)
      clear hl0
      go_enter Try.func7, Try.ntmps7
      go_wp2_with fail
      refine (szPlate_over a0 b0 c0 d0 r0 1048576 _ (R0.out _ Bw.out) HO.out (Nat.le_refl _)).mono ?_
      rintro _ ws0 ⟨rfl, hb⟩
      have Bw := Lib.hid (below_step Bw.out hb); have L0 := Lib.hid (L0.out.kept hb); have c00 := (L0.out).at 0 rfl; have c01 := (L0.out).at 1 rfl; have c02 := (L0.out).at 2 rfl; have c03 := (L0.out).at 3 rfl; have c04 := (L0.out).at 4 rfl; have c05 := (L0.out).at 5 rfl; clear hb
      go_wp2
      go_ret
      exact Tru.below Bw.out
    case pos =>
      have HF0 := Lib.hid hl0
      have HL0 : Hid (r0.size ≤ 1048576) := Lib.hid hl0
      clear hl0
      go_enter Try.func7, Try.ntmps7
      go_wp2_with fail
      refine (szPlate_fit a0 b0 c0 d0 r0 1048576 _ (R0.out _ Bw.out) HF0.out (Nat.le_refl _)).mono ?_
      rintro _ ws0 ⟨rfl, hb⟩
      have Bw := Lib.hid (below_step Bw.out hb); have L0 := Lib.hid (L0.out.kept hb); have c00 := (L0.out).at 0 rfl; have c01 := (L0.out).at 1 rfl; have c02 := (L0.out).at 2 rfl; have c03 := (L0.out).at 3 rfl; have c04 := (L0.out).at 4 rfl; have c05 := (L0.out).at 5 rfl; clear hb
      go_wp2_with fail
      refine (toPlate_any a0 b0 c0 d0 r0 _ (R0.out _ Bw.out) HL0.out).mono ?_
      rintro _ wp0 ⟨u00, u01, u02, u03, rfl, hp, V, hb⟩
      clear c00 c01 c02 c03 c04 c05
      have Bw := Lib.hid (below_step Bw.out hb); have L0 := Lib.hid (L0.out.kept hb); have c00 := (L0.out).at 0 rfl; have c01 := (L0.out).at 1 rfl; have c02 := (L0.out).at 2 rfl; have c03 := (L0.out).at 3 rfl; have c04 := (L0.out).at 4 rfl; have c05 := (L0.out).at 5 rfl
      have VS0 := Lib.hid V
      clear hb hp V
      go_wp2_with fail
      refine (toJ_sl _ z1 _ (R1.out _ Bw.out) HZ.out).mono ?_
      rintro _ wp1 ⟨u10, rfl, hp, V, hb⟩
      clear c00 c01 c02 c03 c04 c05
      have Bw := Lib.hid (below_step Bw.out hb); have L0 := Lib.hid (L0.out.kept hb); have c00 := (L0.out).at 0 rfl; have c01 := (L0.out).at 1 rfl; have c02 := (L0.out).at 2 rfl; have c03 := (L0.out).at 3 rfl; have c04 := (L0.out).at 4 rfl; have c05 := (L0.out).at 5 rfl
      have VS0 := Lib.hid (VS0.out.kept hb)
      have VS1 := Lib.hid V
      clear hb hp V
      go_wp2_with fail
      refine (CS.out _ _ _ _ _ _ (VS0.out.row HL0.out) (JRow.of_cells VS1.out (Nat.le_trans HZ.out (by decide)))).mono ?_
      rintro _ w1 ⟨s0, s1, s2, s3, rfl, hY, hb⟩
      clear c00 c01 c02 c03 c04 c05
      have Bw := Lib.hid (below_step Bw.out hb); have L0 := Lib.hid (L0.out.kept hb)
      clear VS0 VS1
      have hW := hY.W.shape; have hE := hY.E.shape; have hH := hY.G.shape; have hT := hY.H.shape
      obtain ⟨⟨xs0, cs0, e0⟩, ⟨xs1, cs1, e1⟩, ⟨xs2, cs2, e2⟩, ⟨xs3, cs3, e3⟩⟩ := And.intro hW (And.intro hE (And.intro hH hT))
      obtain ⟨n0, f0⟩ : ∃ n, S.W.length = n := ⟨_, rfl⟩
      obtain ⟨n1, f1⟩ : ∃ n, S.E.length = n := ⟨_, rfl⟩
      obtain ⟨n2, f2⟩ : ∃ n, S.G.length = n := ⟨_, rfl⟩
      obtain ⟨n3, f3⟩ : ∃ n, S.H.length = n := ⟨_, rfl⟩
      have FF := Lib.hid (And.intro f0 (And.intro f1 (And.intro f2 f3)))
      rw [f0] at e0; rw [f1] at e1; rw [f2] at e2; rw [f3] at e3
      subst e0 e1 e2 e3
      clear hW hE hH hT
      have A := Cells.made w1 [.int .i64 S.X, .int .i64 S.Y, .slice xs0 n0 cs0, .slice xs1 n1 cs1, .slice xs2 n2 cs2, .slice xs3 n3 cs3] 26
      have bA := below_al1 w1 (.cells [Value.int .i64 S.X, .int .i64 S.Y, .slice xs0 n0 cs0, .slice xs1 n1 cs1, .slice xs2 n2 cs2, .slice xs3 n3 cs3].toArray 26)
      obtain ⟨wA, hwA⟩ : ∃ wA, w1.alloc (.cells [Value.int .i64 S.X, .int .i64 S.Y, .slice xs0 n0 cs0, .slice xs1 n1 cs1, .slice xs2 n2 cs2, .slice xs3 n3 cs3].toArray 26) = wA := ⟨_, rfl⟩
      rw [hwA] at A bA
      have HWA := Lib.hid hwA
      have A := Lib.hid A
      have Y := Lib.hid (hY.below bA)
      have Bw := Lib.hid (below_step Bw.out bA)
      have LS0 := L0.out.kept (below_al1 w1 (.cells [Value.int .i64 S.X, .int .i64 S.Y, .slice xs0 n0 cs0, .slice xs1 n1 cs1, .slice xs2 n2 cs2, .slice xs3 n3 cs3].toArray 26))
      have c00 := (LS0).at 0 rfl; have c01 := (LS0).at 1 rfl; have c02 := (LS0).at 2 rfl; have c03 := (LS0).at 3 rfl; have c04 := (LS0).at 4 rfl; have c05 := (LS0).at 5 rfl
      have L0 := Lib.hid (L0.out.kept bA)
      have RA0 := Lib.hid (R0.out _ Bw.out)
      have RA1 := Lib.hid (R1.out _ Bw.out)
      have BB := Lib.hid (Below.refl wA.heap.size wA)
      clear hY hb bA f0 f1 f2 f3 hwA LS0
      go_wp2_with fail
      rw [show w1.alloc (.cells #[Value.int .i64 S.X, .int .i64 S.Y, .slice xs0 n0 cs0, .slice xs1 n1 cs1, .slice xs2 n2 cs2, .slice xs3 n3 cs3] 26) = wA from HWA.out]
      refine (toPlate_any a0 b0 c0 d0 r0 _ (RA0.out.below BB.out) HL0.out).mono ?_
      rintro _ wx0 ⟨x00, x01, x02, x03, rfl, hp, V, hb⟩
      clear c00 c01 c02 c03 c04 c05
      have XL0 := Lib.hid (Nat.le_trans BB.out.size hp)
      have BB := Lib.hid (below_step BB.out hb)
      have V0 := Lib.hid V
      have BOX0 := Lib.hid (show x03 < wx0.heap.size from V0.out.H.lt)
      have ORD0 := Lib.hid (And.intro V0.out.o01 (And.intro V0.out.o12 V0.out.o23))
      clear V hp hb
      have X := Cells.made wx0 [.int .i64 r0.X, .int .i64 r0.Y, .slice (some ⟨x00, 0, none⟩) r0.W.length r0.W.length, .slice (some ⟨x01, 0, none⟩) r0.E.length r0.E.length, .slice (some ⟨x02, 0, none⟩) r0.G.length r0.G.length, .slice (some ⟨x03, 0, none⟩) r0.H.length r0.H.length] 26
      have hb := below_al1 wx0 (.cells [Value.int .i64 r0.X, .int .i64 r0.Y, .slice (some ⟨x00, 0, none⟩) r0.W.length r0.W.length, .slice (some ⟨x01, 0, none⟩) r0.E.length r0.E.length, .slice (some ⟨x02, 0, none⟩) r0.G.length r0.G.length, .slice (some ⟨x03, 0, none⟩) r0.H.length r0.H.length].toArray 26)
      have c00 := ((L0.out.kept BB.out).kept hb).at 0 rfl; have c01 := ((L0.out.kept BB.out).kept hb).at 1 rfl; have c02 := ((L0.out.kept BB.out).kept hb).at 2 rfl; have c03 := ((L0.out.kept BB.out).kept hb).at 3 rfl; have c04 := ((L0.out.kept BB.out).kept hb).at 4 rfl; have c05 := ((L0.out.kept BB.out).kept hb).at 5 rfl
      obtain ⟨wb0, hwb⟩ : ∃ wA, wx0.alloc (.cells [Value.int .i64 r0.X, .int .i64 r0.Y, .slice (some ⟨x00, 0, none⟩) r0.W.length r0.W.length, .slice (some ⟨x01, 0, none⟩) r0.E.length r0.E.length, .slice (some ⟨x02, 0, none⟩) r0.G.length r0.G.length, .slice (some ⟨x03, 0, none⟩) r0.H.length r0.H.length].toArray 26) = wA := ⟨_, rfl⟩
      have hb2 := hb
      rw [hwb] at X hb2
      have HWB0 := Lib.hid hwb
      have X0 := Lib.hid X
      have V0 := Lib.hid (V0.out.kept hb2)
      have BB := Lib.hid (below_step BB.out hb2)
      have TOP0 := Lib.hid (Nat.lt_of_lt_of_le BOX0.out hb2.size)
      clear hb hb2 hwb X
      go_wp2_with fail
      rw [show wx0.alloc (.cells #[Value.int .i64 r0.X, .int .i64 r0.Y, .slice (some ⟨x00, 0, none⟩) r0.W.length r0.W.length, .slice (some ⟨x01, 0, none⟩) r0.E.length r0.E.length, .slice (some ⟨x02, 0, none⟩) r0.G.length r0.G.length, .slice (some ⟨x03, 0, none⟩) r0.H.length r0.H.length] 26) = wb0 from HWB0.out]
      refine (toJ_sl _ z1 _ (RA1.out.below BB.out) HZ.out).mono ?_
      rintro _ wx1 ⟨x1, rfl, hp, V, hb⟩
      clear c00 c01 c02 c03 c04 c05
      have XL1 := Lib.hid (Nat.le_trans BB.out.size hp)
      have BB := Lib.hid (below_step BB.out hb)
      have X0 := Lib.hid (X0.out.kept hb)
      have V0 := Lib.hid (V0.out.kept hb)
      have GAP01 := Lib.hid (show x03 < x1 from Nat.lt_of_lt_of_le TOP0.out hp)
      have V1 := Lib.hid V
      have BOX1 := Lib.hid (show x1 < wx1.heap.size from V1.out.lt)
      have TOP0 := Lib.hid (Nat.lt_of_lt_of_le TOP0.out hb.size)
      clear V hp hb
      have c00 := (L0.out.kept BB.out).at 0 rfl; have c01 := (L0.out.kept BB.out).at 1 rfl; have c02 := (L0.out.kept BB.out).at 2 rfl; have c03 := (L0.out.kept BB.out).at 3 rfl; have c04 := (L0.out.kept BB.out).at 4 rfl; have c05 := (L0.out.kept BB.out).at 5 rfl
      have d00 := X0.out.at 0 rfl; have d01 := X0.out.at 1 rfl; have d02 := X0.out.at 2 rfl; have d03 := X0.out.at 3 rfl; have d04 := X0.out.at 4 rfl; have d05 := X0.out.at 5 rfl
      have TOP1 := BOX1

      go_wp2_with fail
      refine (CI.out _ _ _ _ _ _ (V0.out.row HL0.out) (JRow.of_cells V1.out (Nat.le_trans HZ.out (by decide)))).mono ?_
      rintro _ w2 ⟨g0, g1, g2, g3, rfl, hO, hb⟩
      have BW0 := Lib.hid BB.out.size
      obtain ⟨⟨xg0, cg0, e0⟩, ⟨xg1, cg1, e1⟩, ⟨xg2, cg2, e2⟩, ⟨xg3, cg3, e3⟩⟩ := hO.shapes
      obtain ⟨f0, f1, f2, f3⟩ := FF.out
      rw [f0] at e0; rw [f1] at e1; rw [f2] at e2; rw [f3] at e3
      subst e0 e1 e2 e3
      clear c00 c01 c02 c03 c04 c05
      clear d00 d01 d02 d03 d04 d05
      have G := Cells.made w2 [.int .i64 S.X, .int .i64 S.Y, .slice xg0 n0 cg0, .slice xg1 n1 cg1, .slice xg2 n2 cg2, .slice xg3 n3 cg3] 26
      have bG := below_al1 w2 (.cells [Value.int .i64 S.X, .int .i64 S.Y, .slice xg0 n0 cg0, .slice xg1 n1 cg1, .slice xg2 n2 cg2, .slice xg3 n3 cg3].toArray 26)
      have AS := (A.out.kept BB.out).kept (below_step hb bG)
      have a0 := AS.at 0 rfl; have a1 := AS.at 1 rfl; have a2 := AS.at 2 rfl; have a3 := AS.at 3 rfl; have a4 := AS.at 4 rfl; have a5 := AS.at 5 rfl
      obtain ⟨wG, hwG⟩ : ∃ wG, w2.alloc (.cells [Value.int .i64 S.X, .int .i64 S.Y, .slice xg0 n0 cg0, .slice xg1 n1 cg1, .slice xg2 n2 cg2, .slice xg3 n3 cg3].toArray 26) = wG := ⟨_, rfl⟩
      have bG2 := bG
      rw [hwG] at G bG2
      have HWG := Lib.hid hwG
      have U := Lib.hid (hO.kept bG2)
      have UU := Lib.hid bG2.size
      have b3 := below_step hb bG2
      have BB := Lib.hid (below_step BB.out b3)
      have X0 := Lib.hid (X0.out.kept b3)
      have V0 := Lib.hid (V0.out.kept b3)
      have V1 := Lib.hid (V1.out.kept b3)
      have GG := Lib.hid G
      have EQ := Lib.hid (eqPlate_any _ _ _ _ _ _ _ _ S wG (U.out.prow S2.out) (Y.out.below BB.out))
      have GH := Lib.hid (hb.size)
      clear hO hb G bG bG2 f0 f1 f2 f3 hwG AS b3
      go_wp2_with fail
      rw [show w2.alloc (.cells #[Value.int .i64 S.X, .int .i64 S.Y, .slice xg0 n0 cg0, .slice xg1 n1 cg1, .slice xg2 n2 cg2, .slice xg3 n3 cg3] 26) = wG from HWG.out]
      refine EQ.out.mono ?_
      rintro _ w3 ⟨rfl, hb⟩
      clear a0 a1 a2 a3 a4 a5
      have BB := Lib.hid (below_step BB.out hb)
      have U := Lib.hid (U.out.kept hb)
      have GG := Lib.hid (GG.out.kept hb)
      have UU := Lib.hid (Nat.le_trans UU.out hb.size)
      have X0 := Lib.hid (X0.out.kept hb)
      have V0 := Lib.hid (V0.out.kept hb)
      have V1 := Lib.hid (V1.out.kept hb)
      clear hb
      have c00 := (L0.out.kept BB.out).at 0 rfl; have c01 := (L0.out.kept BB.out).at 1 rfl; have c02 := (L0.out.kept BB.out).at 2 rfl; have c03 := (L0.out.kept BB.out).at 3 rfl; have c04 := (L0.out.kept BB.out).at 4 rfl; have c05 := (L0.out.kept BB.out).at 5 rfl
      have d00 := X0.out.at 0 rfl; have d01 := X0.out.at 1 rfl; have d02 := X0.out.at 2 rfl; have d03 := X0.out.at 3 rfl; have d04 := X0.out.at 4 rfl; have d05 := X0.out.at 5 rfl
      go_wp2
      have FACT := Lib.hid (fun w1 (hw : Ext w3 w1) => And.intro (hw.cell c00) (And.intro (hw.cell c01) (And.intro (hw.cell c02) (And.intro (hw.cell c03) (And.intro (hw.cell c04) (And.intro (hw.cell c05) (And.intro (hw.cell d00) (And.intro (hw.cell d01) (And.intro (hw.cell d02) (And.intro (hw.cell d03) (And.intro (hw.cell d04) (hw.cell d05))))))))))))
      have RV := Lib.hid (RA0.out.below BB.out)
      refine wp_region_facts (Ext w3) (TS [(58, fPlAt r0), (59, fIs (.bool true))]) (Pers.ext _) (TS.pers _) (Ext.start _) (by kernel_rfl) (by kernel_rfl) (by intro d v c a w h; cases d <;> exact h) ?_
      repeat (refine wpF_val rfl monoQ_end (by rintro _ ⟨⟩; rfl) ?_ (fun w1 hw1 => ?_) (fun K hK => ?_); rotate_left; (focus (have hF := FACT.out w1 hw1; go_simp; first | done | rfl)); go_simp; refine hK _ ?_; clear hK K)
      refine wpF_callF rfl 58 rfl 17 #[.agg #[.int .i64 r0.X, .int .i64 r0.Y, a0, b0, c0, d0]] (fPlAt r0) rfl (fun w1 => ?_) (fun w1 hC hN => ?_) (fun v1 hv1 => ?_)
      · go_simp
      · refine (toPlate_any a0 b0 c0 d0 r0 w1 (RV.out.below hC) HL0.out).mono ?_
        rintro _ w2 ⟨q0, q1, q2, q3, rfl, hp, Z, hb⟩
        exact ⟨_, rfl, hb, q0, q1, q2, q3, rfl, Z⟩
      obtain ⟨_, zz0, zz1, zz2, zz3, rfl, _⟩ := hv1
      unfold pagV
      repeat (refine wpF_val rfl monoQ_end (by rintro _ ⟨⟩; rfl) ?_ (fun w1 hw1 => ?_) (fun K hK => ?_); rotate_left; (focus (have hF := FACT.out w1 hw1; go_simp; first | done | rfl)); go_simp; refine hK _ ?_; clear hK K)
      refine wpF_callF rfl 59 rfl 12 #[.agg #[.int .i64 r0.X, .int .i64 r0.Y, (sl x00 r0.W), (sl x01 r0.E), (sl x02 r0.G), (slb x03 r0.H)], .agg #[.int .i64 r0.X, .int .i64 r0.Y, sl zz0 r0.W, sl zz1 r0.E, sl zz2 r0.G, slb zz3 r0.H]] (fIs (.bool true)) rfl (fun w1 => ?_) (fun w1 hC hN => ?_) (fun v1 hv1 => ?_)
      · go_simp
      · have Z := plate_at (fact_needP (d := 58) rfl hN (by kernel_rfl) (by repeat (first | exact Or.inr ⟨rfl, rfl⟩ | refine Or.inl ?_)))
        refine (eqPlate_any _ _ _ _ _ _ _ _ r0 w1 ((V0.out.kept hC).row HL0.out) (Z.row HL0.out)).mono ?_
        rintro _ w2 ⟨rfl, hb⟩
        exact ⟨_, rfl, hb, rfl⟩
      obtain ⟨_, rfl⟩ := hv1
      repeat (refine wpF_val rfl monoQ_end (by rintro _ ⟨⟩; rfl) ?_ (fun w1 hw1 => ?_) (fun K hK => ?_); rotate_left; (focus (have hF := FACT.out w1 hw1; go_simp; first | done | rfl)); go_simp; refine hK _ ?_; clear hK K)
      refine wpFacts_nil ?_
      intro w4 hb _
      clear FACT RV c00 c01 c02 c03 c04 c05 d00 d01 d02 d03 d04 d05
      have BB := Lib.hid (below_step BB.out hb)
      have U := Lib.hid (U.out.kept hb)
      have GG := Lib.hid (GG.out.kept hb)
      have UU := Lib.hid (Nat.le_trans UU.out hb.size)
      have X0 := Lib.hid (X0.out.kept hb)
      have V0 := Lib.hid (V0.out.kept hb)
      have V1 := Lib.hid (V1.out.kept hb)
      clear hb
      go_wp2_with fail
      refine (toJ_sl _ z1 _ (RA1.out.below BB.out) HZ.out).mono ?_
      rintro _ w5' ⟨y0, rfl, hp, Z, hb⟩
      clear hp
      have ZZ := Lib.hid Z
      clear Z
      have BB := Lib.hid (below_step BB.out hb)
      have U := Lib.hid (U.out.kept hb)
      have GG := Lib.hid (GG.out.kept hb)
      have UU := Lib.hid (Nat.le_trans UU.out hb.size)
      have X0 := Lib.hid (X0.out.kept hb)
      have V0 := Lib.hid (V0.out.kept hb)
      have V1 := Lib.hid (V1.out.kept hb)
      clear hb
      go_wp2_with fail
      refine (eqJB64 _ _ z1 _ (JRow.of_cells V1.out (Nat.le_trans HZ.out (by decide))) (JRow.of_cells ZZ.out (Nat.le_trans HZ.out (by decide)))).mono ?_
      rintro _ w5 ⟨rfl, hb⟩
      clear ZZ
      have BB := Lib.hid (below_step BB.out hb)
      have U := Lib.hid (U.out.kept hb)
      have GG := Lib.hid (GG.out.kept hb)
      have UU := Lib.hid (Nat.le_trans UU.out hb.size)
      have X0 := Lib.hid (X0.out.kept hb)
      have V0 := Lib.hid (V0.out.kept hb)
      have V1 := Lib.hid (V1.out.kept hb)
      clear hb
      have d00 := X0.out.at 0 rfl; have d01 := X0.out.at 1 rfl; have d02 := X0.out.at 2 rfl; have d03 := X0.out.at 3 rfl; have d04 := X0.out.at 4 rfl; have d05 := X0.out.at 5 rfl
      go_wp2_with fail
      refine (markPlate_at r0 x00 x01 x02 x03 _ V0.out HL0.out).mono ?_
      rintro _ wk0 ⟨rfl, ht⟩
      have BB := Lib.hid (BB.out.trans (ht.below (B := wA.heap.size) (fun k hk => Nat.le_trans XL0.out hk.1) BB.out.size))
      have U := Lib.hid (U.out.tur ht (fun j hj e => by have e' : x00 ≤ j ∧ j ≤ x03 := e; have := TOP0.out; have := TOP1.out; have := GH.out; have := ORD0.out; omega))
      have GG := Lib.hid (ht.cells GG.out (fun e => by have e' : x00 ≤ w2.heap.size ∧ w2.heap.size ≤ x03 := e; have := TOP0.out; have := TOP1.out; have := GH.out; have := ORD0.out; omega))
      have UU := Lib.hid (Nat.le_trans UU.out ht.size)
      have V1 := Lib.hid (ht.cells V1.out (fun e => by have e' : x00 ≤ x1 ∧ x1 ≤ x03 := e; have := GAP01.out; have := TOP0.out; have := TOP1.out; have := GH.out; have := ORD0.out; omega))
      clear ht d00 d01 d02 d03 d04 d05
      go_wp2_with fail
      refine (markJk x1 (1 + r0.size) z1 _ V1.out HZ.out (by have := HL0.out; omega)).mono ?_
      rintro _ wk1 ⟨rfl, ho⟩
      have ht := Tur.of_onl (S := (· = x1)) ho rfl
      clear ho
      have BB := Lib.hid (BB.out.trans (ht.below (B := wA.heap.size) (fun k hk => by have e : k = x1 := hk; have := XL1.out; omega) BB.out.size))
      have U := Lib.hid (U.out.tur ht (fun j hj e => by have e' : j = x1 := e; have := TOP0.out; have := TOP1.out; have := GH.out; have := ORD0.out; omega))
      have GG := Lib.hid (ht.cells GG.out (fun e => by have e' : w2.heap.size = x1 := e; have := TOP0.out; have := TOP1.out; have := GH.out; have := ORD0.out; omega))
      have UU := Lib.hid (Nat.le_trans UU.out ht.size)
      clear ht 
      have a0 := (A.out.kept BB.out).at 0 rfl; have a1 := (A.out.kept BB.out).at 1 rfl; have a2 := (A.out.kept BB.out).at 2 rfl; have a3 := (A.out.kept BB.out).at 3 rfl; have a4 := (A.out.kept BB.out).at 4 rfl; have a5 := (A.out.kept BB.out).at 5 rfl
      have e0 := GG.out.at 0 rfl; have e1 := GG.out.at 1 rfl; have e2 := GG.out.at 2 rfl; have e3 := GG.out.at 3 rfl; have e4 := GG.out.at 4 rfl; have e5 := GG.out.at 5 rfl
      go_wp2_with fail
      refine (eqPlate_any _ _ _ _ _ _ _ _ S _ (U.out.prow S2.out) (Y.out.below BB.out)).mono ?_
      rintro _ wq ⟨rfl, hb⟩
      clear a0 a1 a2 a3 a4 a5 e0 e1 e2 e3
      have BB := Lib.hid (below_step BB.out hb)
      have U := Lib.hid (U.out.kept hb)
      have GG := Lib.hid (GG.out.kept hb)
      have UU := Lib.hid (Nat.le_trans UU.out hb.size)
      clear hb
      have e0 := GG.out.at 0 rfl; have e1 := GG.out.at 1 rfl; have e2 := GG.out.at 2 rfl; have e3 := GG.out.at 3 rfl; have e4 := GG.out.at 4 rfl; have e5 := GG.out.at 5 rfl
      go_wp2_with fail
      refine (markPlateX U.out UU.out HSm.out).mono ?_
      rintro _ wm ⟨rfl, hU, ht⟩
      clear e0 e1 e2 e3 e4 e5
      have U := Lib.hid hU
      have GG := Lib.hid (ht.cells GG.out (fun e => by have e' : wx1.heap.size ≤ w2.heap.size ∧ w2.heap.size < w2.heap.size := e; omega))
      have BB := Lib.hid (BB.out.trans (ht.below (B := wA.heap.size) (fun k hk => Nat.le_trans BW0.out hk.1) BB.out.size))
      have UU := Lib.hid (Nat.le_trans UU.out ht.size)
      clear hU ht
      have e0 := GG.out.at 0 rfl; have e1 := GG.out.at 1 rfl; have e2 := GG.out.at 2 rfl; have e3 := GG.out.at 3 rfl; have e4 := GG.out.at 4 rfl; have e5 := GG.out.at 5 rfl
      go_wp2_with fail
      refine (heldPlateX U.out UU.out HSm.out).mono ?_
      rintro _ wh ⟨rfl, hb⟩
      clear e0 e1 e2 e3 e4 e5
      have BB := Lib.hid (below_step BB.out hb)
      have U := Lib.hid (U.out.kept hb)
      have GG := Lib.hid (GG.out.kept hb)
      have UU := Lib.hid (Nat.le_trans UU.out hb.size)
      clear hb
      have c00 := (L0.out.kept BB.out).at 0 rfl; have c01 := (L0.out.kept BB.out).at 1 rfl; have c02 := (L0.out.kept BB.out).at 2 rfl; have c03 := (L0.out.kept BB.out).at 3 rfl; have c04 := (L0.out.kept BB.out).at 4 rfl; have c05 := (L0.out.kept BB.out).at 5 rfl
      go_wp2_with fail
      refine (toPlate_any a0 b0 c0 d0 r0 _ (RA0.out.below BB.out) HL0.out).mono ?_
      rintro _ wy0 ⟨tx00, tx01, tx02, tx03, rfl, hp, V, hb⟩
      clear c00 c01 c02 c03 c04 c05
      have V0 := Lib.hid V
      clear V hp
      have BB := Lib.hid (below_step BB.out hb)
      have U := Lib.hid (U.out.kept hb)
      have GG := Lib.hid (GG.out.kept hb)
      have UU := Lib.hid (Nat.le_trans UU.out hb.size)
      clear hb
      have c00 := (L0.out.kept BB.out).at 0 rfl; have c01 := (L0.out.kept BB.out).at 1 rfl; have c02 := (L0.out.kept BB.out).at 2 rfl; have c03 := (L0.out.kept BB.out).at 3 rfl; have c04 := (L0.out.kept BB.out).at 4 rfl; have c05 := (L0.out.kept BB.out).at 5 rfl
      go_wp2_with fail
      refine (toJ_sl _ z1 _ (RA1.out.below BB.out) HZ.out).mono ?_
      rintro _ wy1 ⟨tx1, rfl, hp, V, hb⟩
      clear c00 c01 c02 c03 c04 c05
      have V0 := Lib.hid (V0.out.kept hb)
      have V1 := Lib.hid V
      clear V hp
      have BB := Lib.hid (below_step BB.out hb)
      have U := Lib.hid (U.out.kept hb)
      have GG := Lib.hid (GG.out.kept hb)
      have UU := Lib.hid (Nat.le_trans UU.out hb.size)
      clear hb
      have c00 := (L0.out.kept BB.out).at 0 rfl; have c01 := (L0.out.kept BB.out).at 1 rfl; have c02 := (L0.out.kept BB.out).at 2 rfl; have c03 := (L0.out.kept BB.out).at 3 rfl; have c04 := (L0.out.kept BB.out).at 4 rfl; have c05 := (L0.out.kept BB.out).at 5 rfl
      go_wp2_with fail
      refine (CI.out _ _ _ _ _ _ (V0.out.row HL0.out) (JRow.of_cells V1.out (Nat.le_trans HZ.out (by decide)))).mono ?_
      rintro _ w8 ⟨g0, g1, g2, g3, rfl, hO, hb⟩
      clear c00 c01 c02 c03 c04 c05
      clear V0 V1
      obtain ⟨⟨xh0, ch0, e0⟩, ⟨xh1, ch1, e1⟩, ⟨xh2, ch2, e2⟩, ⟨xh3, ch3, e3⟩⟩ := hO.shapes
      obtain ⟨f0, f1, f2, f3⟩ := FF.out
      rw [f0] at e0; rw [f1] at e1; rw [f2] at e2; rw [f3] at e3
      subst e0 e1 e2 e3
      have bH := below_al1 w8 (.cells [Value.int .i64 S.X, .int .i64 S.Y, .slice xh0 n0 ch0, .slice xh1 n1 ch1, .slice xh2 n2 ch2, .slice xh3 n3 ch3].toArray 26)
      have AS := (A.out.kept BB.out).kept (below_step hb bH)
      have a0 := AS.at 0 rfl; have a1 := AS.at 1 rfl; have a2 := AS.at 2 rfl; have a3 := AS.at 3 rfl; have a4 := AS.at 4 rfl; have a5 := AS.at 5 rfl
      obtain ⟨wH, hwH⟩ : ∃ wH, w8.alloc (.cells [Value.int .i64 S.X, .int .i64 S.Y, .slice xh0 n0 ch0, .slice xh1 n1 ch1, .slice xh2 n2 ch2, .slice xh3 n3 ch3].toArray 26) = wH := ⟨_, rfl⟩
      have bH2 := bH
      rw [hwH] at bH2
      have HWH := Lib.hid hwH
      have R6 := (hO.kept bH2).prow S2.out
      have b3 := below_step hb bH2
      have BB := Lib.hid (below_step BB.out b3)
      have U := Lib.hid (U.out.kept b3)
      have GG := Lib.hid (GG.out.kept b3)
      have UU := Lib.hid (Nat.le_trans UU.out b3.size)
      have EQ2 := Lib.hid (eqPlate_any _ _ _ _ _ _ _ _ S wH R6 (Y.out.below BB.out))
      clear hO hb bH bH2 f0 f1 f2 f3 hwH AS b3 R6
      go_wp2_with fail
      rw [show w8.alloc (.cells #[Value.int .i64 S.X, .int .i64 S.Y, .slice xh0 n0 ch0, .slice xh1 n1 ch1, .slice xh2 n2 ch2, .slice xh3 n3 ch3] 26) = wH from HWH.out]
      refine EQ2.out.mono ?_
      rintro _ w9 ⟨rfl, hb⟩
      clear a0 a1 a2 a3 a4 a5
      have BB := Lib.hid (below_step BB.out hb)
      have U := Lib.hid (U.out.kept hb)
      have GG := Lib.hid (GG.out.kept hb)
      have UU := Lib.hid (Nat.le_trans UU.out hb.size)
      clear hb
      have e0 := GG.out.at 0 rfl; have e1 := GG.out.at 1 rfl; have e2 := GG.out.at 2 rfl; have e3 := GG.out.at 3 rfl; have e4 := GG.out.at 4 rfl; have e5 := GG.out.at 5 rfl
      go_wp2_with fail
      refine (heldPlateX U.out UU.out HSm.out).mono ?_
      rintro _ wl ⟨rfl, hb⟩
      have Bz := Lib.hid (below_step Bw.out (below_step BB.out hb))
      clear e0 e1 e2 e3 e4 e5 hb
      go_wp2
      go_ret
      exact Tru.below Bz.out
end Go.Proofs.Ythfkmcpajookaaa

/- GainCells: the specification's side. -/
namespace Go.Proofs.Ythfkmcpajookaaa
open Go.RowKit
set_option linter.unusedVariables false

set_option maxRecDepth 10000 in
set_option maxHeartbeats 3200000 in
theorem specGain_any (a b c d v : Value) (r : PL) (zs : List Int) (x : Nat) (w : World) (h : PRow w a b c d r) (hz : JRow w v zs) (hl : zs.length ≤ 1048576) :
    Calls Try.prog 26 #[.agg #[.int .i64 r.X, .int .i64 r.Y, a, b, c, d], v, .float .f32 x] w (PdB (chB (fin .f32 x) r zs) (chS (gainF x) (fin .f32 x) r zs) w) := by
  unfold PdB chS
  have H := Lib.hid (fun w1 (hb : Below w.heap.size w w1) => h.below hb)
  have Z := Lib.hid (fun w1 (hb : Below w.heap.size w w1) => hz.below hb)
  have A := Lib.hid ((Cells.made w (pvs r a b c d) 26).al (.cells zpl.toArray 26))
  have R := Cells.made (w.alloc (.cells (pvs r a b c d).toArray 26)) zpl 26
  rw [show (w.alloc (.cells (pvs r a b c d).toArray 26)).heap.size = w.heap.size + 1 from by simp] at R
  have R := Lib.hid R
  have Bw := Lib.hid (below_al2 w (.cells (pvs r a b c d).toArray 26) (.cells zpl.toArray 26))
  clear h hz
  cases hs : setOk r zs
  · have HS := Lib.hid hs
    have NO : Hid (chB (fin .f32 x) r zs = false) := Lib.hid (by unfold chB; rw [hs]; rfl)
    clear hs
    go_enter Try.func26, Try.ntmps26
    go_wp2_with fail
    refine (specSet_any r zs a b c d v _ _ A.out (H.out _ Bw.out) (Z.out _ Bw.out) hl).mono ?_
    rw [HS.out]
    rintro _ _ ⟨rfl, m, rfl⟩
    have A := Lib.hid (A.out.drewN (n := m))
    have R := Lib.hid (R.out.drewN (n := m))
    have Bw := Lib.hid (below_drewN Bw.out m)
    generalize ((w.alloc (.cells (pvs r a b c d).toArray 26)).alloc (.cells zpl.toArray 26)).drewN m = w2 at *
    have r0 := R.out.at 0 rfl; have r1 := R.out.at 1 rfl; have r2 := R.out.at 2 rfl; have r3 := R.out.at 3 rfl; have r4 := R.out.at 4 rfl; have r5 := R.out.at 5 rfl; have rf := R.out.fz
    go_wp2
    refine bodyPost_ret (v := .tuple #[.agg #[.int .i64 0, .int .i64 0, .slice none 0 0, .slice none 0 0, .slice none 0 0, .slice none 0 0], .bool false]) ?_ rfl ?_
    · rw [results_cell_tmp rfl]
      go_simp
    · rw [NO.out]; exact ⟨_, _, _, _, rfl, nil_prow _, below_set6 Bw.out (by omega) _ _ _ _ _ _⟩
  · cases hx : (fin .f32 x)
    · have HS := Lib.hid hs
      have HX := Lib.hid hx
      have NO : Hid (chB false r zs = false) := Lib.hid (by unfold chB; rw [hs]; rfl)
      clear hs hx
      go_enter Try.func26, Try.ntmps26
      go_wp2_with fail
      refine (specSet_any r zs a b c d v _ _ A.out (H.out _ Bw.out) (Z.out _ Bw.out) hl).mono ?_
      rw [HS.out]
      rintro _ _ ⟨rfl, m, rfl⟩
      have A := Lib.hid (A.out.drewN (n := m))
      have R := Lib.hid (R.out.drewN (n := m))
      have Bw := Lib.hid (below_drewN Bw.out m)
      generalize ((w.alloc (.cells (pvs r a b c d).toArray 26)).alloc (.cells zpl.toArray 26)).drewN m = w2 at *
      go_wp2_with fail
      refine (specFinite_any x _).mono ?_
      rw [HX.out]
      rintro _ _ ⟨rfl, m2, rfl⟩
      have A := Lib.hid (A.out.drewN (n := m2))
      have R := Lib.hid (R.out.drewN (n := m2))
      have Bw := Lib.hid (below_drewN Bw.out m2)
      generalize w2.drewN m2 = w22 at *
      have r0 := R.out.at 0 rfl; have r1 := R.out.at 1 rfl; have r2 := R.out.at 2 rfl; have r3 := R.out.at 3 rfl; have r4 := R.out.at 4 rfl; have r5 := R.out.at 5 rfl; have rf := R.out.fz
      go_wp2
      refine bodyPost_ret (v := .tuple #[.agg #[.int .i64 0, .int .i64 0, .slice none 0 0, .slice none 0 0, .slice none 0 0, .slice none 0 0], .bool false]) ?_ rfl ?_
      · rw [results_cell_tmp rfl]
        go_simp
      · rw [NO.out]; exact ⟨_, _, _, _, rfl, nil_prow _, below_set6 Bw.out (by omega) _ _ _ _ _ _⟩
    · have HX := Lib.hid hx
      clear hx
      have HS := Lib.hid hs
      have OKK : Hid (chB true r zs = true) := Lib.hid (by unfold chB; rw [hs]; rfl)
      have VU : vPl r = true ∧ setUp r.W.length zs = true := by unfold setOk at hs; simpa using hs
      have LN := PlN.ofV VU.1
      obtain ⟨n, hn⟩ : ∃ n, r.W.length = n := ⟨_, rfl⟩
      rw [hn] at LN VU
      have UP := Lib.hid VU.2
      have LN := Lib.hid LN
      clear hs VU hn
      go_enter Try.func26, Try.ntmps26
      go_wp2_with fail
      refine (specSet_any r zs a b c d v _ _ A.out (H.out _ Bw.out) (Z.out _ Bw.out) hl).mono ?_
      rw [HS.out]
      rintro _ _ ⟨rfl, m, rfl⟩
      have A := Lib.hid (A.out.drewN (n := m))
      have R := Lib.hid (R.out.drewN (n := m))
      have Bw := Lib.hid (below_drewN Bw.out m)
      generalize ((w.alloc (.cells (pvs r a b c d).toArray 26)).alloc (.cells zpl.toArray 26)).drewN m = w2 at *
      go_wp2_with fail
      refine (specFinite_any x _).mono ?_
      rw [HX.out]
      rintro _ _ ⟨rfl, m2, rfl⟩
      have A := Lib.hid (A.out.drewN (n := m2))
      have R := Lib.hid (R.out.drewN (n := m2))
      have Bw := Lib.hid (below_drewN Bw.out m2)
      generalize w2.drewN m2 = w22 at *
      have c0 := A.out.at 0 rfl; have c1 := A.out.at 1 rfl; have c2 := A.out.at 2 rfl; have c3 := A.out.at 3 rfl; have c4 := A.out.at 4 rfl; have c5 := A.out.at 5 rfl
      go_wp2_with fail
      refine (Pr.specOwnP_any a b c d r n _ _ A.out (H.out _ Bw.out) LN.out).mono ?_
      rintro _ w4 ⟨g0, g1, g2, g3, c0', c1', c2', c3', rfl, P, hb⟩
      clear c0 c1 c2 c3 c4 c5
      have RL := Lib.hid R.out.lt
      have hsz := hb.size
      have P := P.mono (h' := w.heap.size + 2) (by have := RL.out; omega)
      have R := Lib.hid (R.out.kept hb)
      have Bw := Lib.hid (below_step Bw.out hb)
      have ha := below_al1 w4 (.cells [Value.int .i64 r.X, .int .i64 r.Y, ps g0 0 n c0', ps g1 0 n c1', ps g2 0 n c2', ps g3 0 n c3'].toArray 26)
      have D := Cells.made w4 [.int .i64 r.X, .int .i64 r.Y, ps g0 0 n c0', ps g1 0 n c1', ps g2 0 n c2', ps g3 0 n c3'] 26
      obtain ⟨w5, hw5⟩ : ∃ w5, w4.alloc (.cells [Value.int .i64 r.X, .int .i64 r.Y, ps g0 0 n c0', ps g1 0 n c1', ps g2 0 n c2', ps g3 0 n c3'].toArray 26) = w5 := ⟨_, rfl⟩
      rw [hw5] at ha D
      have QL := Lib.hid (And.intro P.W.lt (And.intro P.E.lt (And.intro P.G.lt P.H.lt)))
      have P := Lib.hid (P.kept ha)
      have D := Lib.hid D
      have R := Lib.hid (R.out.kept ha)
      have Bw := Lib.hid (below_step Bw.out ha)
      have HW5 := Lib.hid hw5
      clear ha hw5 hb hsz
      obtain ⟨bz, oz, cz, hv, ZC⟩ : ∃ bz oz cz, v = .slice bz zs.length cz ∧ ∀ w', Below w.heap.size w w' → ∀ k, k < zs.length → ∃ b, bz = some ⟨b, oz, none⟩ ∧ w'.cell? ⟨b, oz + k, none⟩ = some (.int .i64 (zs.getD k 0)) := by
        by_cases h0 : zs.length = 0
        · obtain ⟨x, y, hx⟩ := (Z.out w (Below.refl _ _)).shape
          exact ⟨x, 0, y, hx, fun w' _ k hk => absurd hk (by omega)⟩
        · obtain ⟨b, o, y, hx, _⟩ := (Z.out w (Below.refl _ _)).cells (by omega)
          refine ⟨some ⟨b, o, none⟩, o, y, hx, fun w' hb k hk => ?_⟩
          obtain ⟨b', o', y', hx', hc'⟩ := (Z.out w' hb).cells (by omega)
          rw [hx] at hx'
          simp at hx'
          obtain ⟨⟨rfl, rfl⟩, _⟩ := hx'
          exact ⟨b, rfl, hc' k hk⟩
      subst hv
      have ZC := Lib.hid ZC
      obtain ⟨m0, hm0⟩ : ∃ m, zs.length = m := ⟨_, rfl⟩
      have HM := Lib.hid hm0
      rw [hm0] at ZC hl ⊢
      have HL := Lib.hid hl
      clear hm0 H Z
      go_wp2_with fail
      rw [show w4.alloc (.cells #[Value.int .i64 r.X, .int .i64 r.Y, ps g0 0 n c0', ps g1 0 n c1', ps g2 0 n c2', ps g3 0 n c3'] 26) = w5 from HW5.out]
      have GB := Lib.hid (And.intro P.out.b0 (And.intro P.out.b1 (And.intro P.out.b2 P.out.b3)))
      have NQ : Hid (1 ≤ n ∧ n ≤ 144) := Lib.hid ⟨P.out.p, P.out.q⟩
      go_loopw [9] (fun i wr => ∃ k : Nat, k ≤ m0 ∧ i = .int .i64 k ∧ Hid (PB (w.heap.size + 2) wr g0 g1 g2 g3 n (chgs (gainF x) (zs.take k) r)) ∧ Hid (Cells wr w4.heap.size [.int .i64 r.X, .int .i64 r.Y, ps g0 0 n c0', ps g1 0 n c1', ps g2 0 n c2', ps g3 0 n c3']) ∧ Hid (Cells wr (w.heap.size + 1) zpl) ∧ Hid (Below w.heap.size w wr)) (fun i _ => m0 - (intOf i).toNat)
      case atStart => exact ⟨0, Nat.zero_le _, rfl, P, D, R, Bw⟩
      case round =>
        obtain ⟨k, hk, rfl, hP, hD, hR, hB⟩ := hrel
        have hml := HL.out
        by_cases hlt : k < m0
        · obtain ⟨b, hb, z0⟩ := ZC.out wr hB.out k hlt
          subst hb
          have ZR := setUp_at UP.out (k := k) (by have := HM.out; omega)
          obtain ⟨i, hzi⟩ : ∃ i : Nat, zs.getD k 0 = (i : Int) := ⟨(zs.getD k 0).toNat, by omega⟩
          rw [hzi] at z0 ZR
          have hin : i < n := by omega
          have HTK := Lib.hid (chgs_take (f := (gainF x)) r (by have := HM.out; omega) hzi)
          have hi1 : (0 : Int) ≤ (k : Int) := by omega
          have hi2 : (k : Int) < (m0 : Int) := by omega
          have hi3 : (0 : Int) ≤ (i : Int) := by omega
          have hi4 : (i : Int) < (n : Int) := by omega
          have nq1 := NQ.out.1
          have nq2 := NQ.out.2
          clear ZR
          have y0 := hP.out.G.cell (i := i) (by rw [hP.out.lG]; exact hin)
          have yf := hP.out.G.frozen
          rw [Nat.zero_add] at y0
          obtain ⟨old, ho⟩ : ∃ old, ((chgs (gainF x) (zs.take k) r).G).getD i 0 = old := ⟨_, rfl⟩
          rw [ho] at y0
          clear ho
          have d0 := hD.out.at 0 rfl; have d1 := hD.out.at 1 rfl; have d2 := hD.out.at 2 rfl; have d3 := hD.out.at 3 rfl; have d4 := hD.out.at 4 rfl; have d5 := hD.out.at 5 rfl
          go_wp2
          go_region
          all_goals
            clear y0 yf d0 d1 d2 d3 d4 d5
            have hP := Lib.hid ((hP.out.setG i x hin).drew)
            have hD := Lib.hid ((hD.out.far (q := g2) (by have := QL.out; omega) i (.float .f32 x)).kept (Below.refl _ _).drew)
            have hR := Lib.hid ((hR.out.far (q := g2) (by have := GB.out; omega) i (.float .f32 x)).kept (Below.refl _ _).drew)
            have hB := Lib.hid ((hB.out.setCell (p := ⟨g2, i, none⟩) (by have := GB.out; show w.heap.size ≤ g2; omega) (.float .f32 x)).drew)
            go_wp2
            go_roundw
            case rel => exact ⟨k + 1, by omega, by go_num, Lib.hid (by rw [HTK.out]; exact hP.out), hD, hR, hB⟩
            case measure => simp [intOf]; omega
        · have e := Lib.hid (show k = m0 by omega)
          have HP : Hid (PB (w.heap.size + 2) wr g0 g1 g2 g3 n (chgs (gainF x) zs r)) := Lib.hid (by have := hP.out; rw [e.out, ← HM.out, List.take_length] at this; exact this)
          have d0 := hD.out.at 0 rfl; have d1 := hD.out.at 1 rfl; have d2 := hD.out.at 2 rfl; have d3 := hD.out.at 3 rfl; have d4 := hD.out.at 4 rfl; have d5 := hD.out.at 5 rfl
          have r0 := hR.out.at 0 rfl; have r1 := hR.out.at 1 rfl; have r2 := hR.out.at 2 rfl; have r3 := hR.out.at 3 rfl; have r4 := hR.out.at 4 rfl; have r5 := hR.out.at 5 rfl; have rf := hR.out.fz
          go_wp2
          refine bodyPost_ret (v := .tuple #[.agg #[.int .i64 r.X, .int .i64 r.Y, ps g0 0 n c0', ps g1 0 n c1', ps g2 0 n c2', ps g3 0 n c3'], .bool true]) ?_ rfl ?_
          · rw [results_cell_tmp rfl]
            go_simp
          · rw [OKK.out]
            obtain ⟨kX, kY, _⟩ := (gainK x).chgs zs r
            exact ⟨_, _, _, _, by rw [cond_true, kX, kY], (HP.out.far6 _ (by omega) _ _ _ _ _ _).prow c0' c1' c2' c3', below_set6 hB.out (by omega) _ _ _ _ _ _⟩
end Go.Proofs.Ythfkmcpajookaaa

/- GainCells: the change of one cell, as the program's closure makes it. -/
namespace Go.Proofs.Ythfkmcpajookaaa
open Go.RowKit
set_option linter.unusedVariables false

set_option maxRecDepth 10000 in
set_option maxHeartbeats 1600000 in
theorem cloGain_any (x q5 : Nat) (h n g0 g1 g2 g3 c0 c1 c2 c3 i : Nat) (X Y : Int) (r : PL) (w : World) (P0 : PB h w g0 g1 g2 g3 n r) (hin : i < n) (C0 : Cells w q5 [.float .f32 x]) (hq5 : q5 < h) :
    Calls Try.prog 58 #[.agg #[.int .i64 X, .int .i64 Y, ps g0 0 n c0, ps g1 0 n c1, ps g2 0 n c2, ps g3 0 n c3], .int .i64 i, .pointer (some ⟨q5, 0, none⟩)] w fun e w' => e = .returned (.tuple #[]) ∧ PB h w' g0 g1 g2 g3 n (gainF x r i) ∧ Tur (S4 g0 g1 g2 g3) w w' := by
  have hb := below_al1 w (.cells [Value.int .i64 X, .int .i64 Y, ps g0 0 n c0, ps g1 0 n c1, ps g2 0 n c2, ps g3 0 n c3].toArray 26)
  have A := Cells.made w [.int .i64 X, .int .i64 Y, ps g0 0 n c0, ps g1 0 n c1, ps g2 0 n c2, ps g3 0 n c3] 26
  have P := P0.kept hb
  have T := Lib.hid (Tur.of_below (S := S4 g0 g1 g2 g3) hb)
  have C := C0.kept hb
  have k0 := C.at 0 rfl
  have d0 := A.at 0 rfl; have d1 := A.at 1 rfl; have d2 := A.at 2 rfl; have d3 := A.at 3 rfl; have d4 := A.at 4 rfl; have d5 := A.at 5 rfl
  have y0 := P.G.cell (i := i) (by rw [P.lG]; exact hin)
  have yf0 := P.G.frozen
  rw [Nat.zero_add] at y0
  generalize r.G.getD i 0 = old0 at y0
  have P := Lib.hid P
  have i1 : (0 : Int) ≤ (i : Int) := by omega
  have i2 : (i : Int) < (n : Int) := by omega
  have p1 := P0.p
  have p2 := P0.q
  clear hb A P0 C C0
  go_enter Try.func58, Try.ntmps58
  go_wp2
  go_end0
  first | exact ⟨rfl, (P.out.setG i x hin), (tur_set T.out g2 i (.float .f32 x) (by unfold S4; omega))⟩ | exact ⟨rfl, (P.out.setG i x hin).drew, tur_drew (tur_set T.out g2 i (.float .f32 x) (by unfold S4; omega))⟩
end Go.Proofs.Ythfkmcpajookaaa

/- GainCells: a plate in which cells are changed, as the program makes it. -/
namespace Go.Proofs.Ythfkmcpajookaaa
open Go.RowKit
set_option linter.unusedVariables false

set_option maxRecDepth 10000 in
set_option maxHeartbeats 3200000 in
theorem changeGain_no (x q5 : Nat) (a b c d v : Value) (r : PL) (zs : List Int) (w : World) (h : PRow w a b c d r) (hz : JRow w v zs) (hs : setOk r zs = false) :
    Calls Try.prog 52 #[.agg #[.int .i64 r.X, .int .i64 r.Y, a, b, c, d], v, .func (.func 58) #[] #[.pointer (some ⟨q5, 0, none⟩)]] w fun e w' => e = .returned (.tuple #[.agg #[.int .i64 0, .int .i64 0, .slice none 0 0, .slice none 0 0, .slice none 0 0, .slice none 0 0], .bool false]) ∧ Below w.heap.size w w' := by
  have H := Lib.hid (fun w1 (hb : Below w.heap.size w w1) => h.below hb)
  have A := Lib.hid ((Cells.made w (pvs r a b c d) 26).al (.cells zpl.toArray 26))
  have R := Cells.made (w.alloc (.cells (pvs r a b c d).toArray 26)) zpl 26
  rw [show (w.alloc (.cells (pvs r a b c d).toArray 26)).heap.size = w.heap.size + 1 from by simp] at R
  have R := Lib.hid R
  have Bw := Lib.hid (below_al2 w (.cells (pvs r a b c d).toArray 26) (.cells zpl.toArray 26))
  have Z := Lib.hid (fun w1 (hb : Below w.heap.size w w1) => hz.below hb)
  clear h hz
  cases hv : vPl r
  · have HV := Lib.hid hv
    clear hv hs
    go_enter Try.func52, Try.ntmps52
    go_wp2_with fail
    refine (implPl_any a b c d r _ (H.out _ Bw.out)).mono ?_
    rw [HV.out]
    rintro _ w3 ⟨rfl, hb⟩
    have R := Lib.hid (R.out.kept hb)
    have A := Lib.hid (A.out.kept hb)
    have Bw := Lib.hid (below_step Bw.out hb)
    clear hb
    have r0 := R.out.at 0 rfl; have r1 := R.out.at 1 rfl; have r2 := R.out.at 2 rfl; have r3 := R.out.at 3 rfl; have r4 := R.out.at 4 rfl; have r5 := R.out.at 5 rfl; have rf := R.out.fz
    go_wp2
    refine bodyPost_ret (v := .tuple #[.agg #[.int .i64 0, .int .i64 0, .slice none 0 0, .slice none 0 0, .slice none 0 0, .slice none 0 0], .bool false]) ?_ rfl ?_
    · rw [results_cell_tmp rfl]
      go_simp
    · exact ⟨rfl, below_set6 Bw.out (by omega) _ _ _ _ _ _⟩
  · have HV := Lib.hid hv
    have LN := PlN.ofV hv
    obtain ⟨n, hn⟩ : ∃ n, r.W.length = n := ⟨_, rfl⟩
    unfold setOk at hs
    rw [hv, Bool.true_and, hn] at hs
    rw [hn] at LN
    have HU := Lib.hid hs
    have LN := Lib.hid LN
    clear hv hs hn
    go_enter Try.func52, Try.ntmps52
    go_wp2_with fail
    refine (implPl_any a b c d r _ (H.out _ Bw.out)).mono ?_
    rw [HV.out]
    rintro _ w3 ⟨rfl, hb⟩
    have R := Lib.hid (R.out.kept hb)
    have A := Lib.hid (A.out.kept hb)
    have Bw := Lib.hid (below_step Bw.out hb)
    clear hb
    have c0 := A.out.at 0 rfl; have c1 := A.out.at 1 rfl; have c2 := A.out.at 2 rfl; have c3 := A.out.at 3 rfl; have c4 := A.out.at 4 rfl; have c5 := A.out.at 5 rfl
    go_wp2_with fail
    refine (areCells_any r zs a b c d v n _ LN.out (Z.out _ Bw.out)).mono ?_
    rw [HU.out]
    rintro _ w4 ⟨rfl, hb⟩
    clear c0 c1 c2 c3 c4 c5
    have R := Lib.hid (R.out.kept hb)
    have A := Lib.hid (A.out.kept hb)
    have Bw := Lib.hid (below_step Bw.out hb)
    clear hb
    have r0 := R.out.at 0 rfl; have r1 := R.out.at 1 rfl; have r2 := R.out.at 2 rfl; have r3 := R.out.at 3 rfl; have r4 := R.out.at 4 rfl; have r5 := R.out.at 5 rfl; have rf := R.out.fz
    go_wp2
    refine bodyPost_ret (v := .tuple #[.agg #[.int .i64 0, .int .i64 0, .slice none 0 0, .slice none 0 0, .slice none 0 0, .slice none 0 0], .bool false]) ?_ rfl ?_
    · rw [results_cell_tmp rfl]
      go_simp
    · exact ⟨rfl, below_set6 Bw.out (by omega) _ _ _ _ _ _⟩
set_option maxRecDepth 10000 in
set_option maxHeartbeats 3200000 in
theorem changeGain_yes (x q5 : Nat) (a b c d v : Value) (r : PL) (zs : List Int) (n : Nat) (w : World) (h : PRow w a b c d r) (hz : JRow w v zs) (hv : vPl r = true) (hn : r.W.length = n) (hu : setUp n zs = true) (C5 : Cells w q5 [.float .f32 x]) :
    Calls Try.prog 52 #[.agg #[.int .i64 r.X, .int .i64 r.Y, a, b, c, d], v, .func (.func 58) #[] #[.pointer (some ⟨q5, 0, none⟩)]] w fun e w' => ∃ g0 g1 g2 g3 c0 c1 c2 c3, e = .returned (.tuple #[.agg #[.int .i64 r.X, .int .i64 r.Y, ps g0 0 n c0, ps g1 0 n c1, ps g2 0 n c2, ps g3 0 n c3], .bool true]) ∧ PB w.heap.size w' g0 g1 g2 g3 n (chgs (gainF x) zs r) ∧ Below w.heap.size w w' := by
  have H := Lib.hid (fun w1 (hb : Below w.heap.size w w1) => h.below hb)
  have A := Lib.hid ((Cells.made w (pvs r a b c d) 26).al (.cells zpl.toArray 26))
  have R := Cells.made (w.alloc (.cells (pvs r a b c d).toArray 26)) zpl 26
  rw [show (w.alloc (.cells (pvs r a b c d).toArray 26)).heap.size = w.heap.size + 1 from by simp] at R
  have R := Lib.hid R
  have Bw := Lib.hid (below_al2 w (.cells (pvs r a b c d).toArray 26) (.cells zpl.toArray 26))
  obtain ⟨bz, oz, cz, hvz, ZC⟩ : ∃ bz oz cz, v = .slice bz zs.length cz ∧ ∀ w', Below w.heap.size w w' → ∀ k, k < zs.length → ∃ b, bz = some ⟨b, oz, none⟩ ∧ w'.cell? ⟨b, oz + k, none⟩ = some (.int .i64 (zs.getD k 0)) := by
    by_cases h0 : zs.length = 0
    · obtain ⟨x, y, hx⟩ := hz.shape
      exact ⟨x, 0, y, hx, fun w' _ k hk => absurd hk (by omega)⟩
    · obtain ⟨b, o, y, hx, _⟩ := hz.cells (by omega)
      refine ⟨some ⟨b, o, none⟩, o, y, hx, fun w' hb k hk => ?_⟩
      obtain ⟨b', o', y', hx', hc'⟩ := (hz.below hb).cells (by omega)
      rw [hx] at hx'
      simp at hx'
      obtain ⟨⟨rfl, rfl⟩, _⟩ := hx'
      exact ⟨b, rfl, hc' k hk⟩
  subst hvz
  have ZC := Lib.hid ZC
  have Z := Lib.hid (fun w1 (hb : Below w.heap.size w w1) => hz.below hb)
  have HV := Lib.hid hv
  have HU := Lib.hid hu
  have UP := Lib.hid hu
  have LN := PlN.ofV hv
  rw [hn] at LN
  have LN := Lib.hid LN
  have hlen := setUp_len hu
  have C5L := Lib.hid C5.lt
  have C5 := Lib.hid (fun w1 (hb : Below w.heap.size w w1) => C5.kept hb)
  obtain ⟨m0, hm0⟩ : ∃ m, zs.length = m := ⟨_, rfl⟩
  have HM := Lib.hid hm0
  have hm1 : m0 ≤ 1048576 := by have := LN.out.q; omega
  have HL := Lib.hid hm1
  rw [hm0] at ZC Z ⊢
  clear h hz hv hu hn hlen hm0
  go_enter Try.func52, Try.ntmps52
  go_wp2_with fail
  refine (implPl_any a b c d r _ (H.out _ Bw.out)).mono ?_
  rw [HV.out]
  rintro _ w3 ⟨rfl, hb⟩
  have R := Lib.hid (R.out.kept hb)
  have A := Lib.hid (A.out.kept hb)
  have Bw := Lib.hid (below_step Bw.out hb)
  clear hb
  have c0 := A.out.at 0 rfl; have c1 := A.out.at 1 rfl; have c2 := A.out.at 2 rfl; have c3 := A.out.at 3 rfl; have c4 := A.out.at 4 rfl; have c5 := A.out.at 5 rfl
  go_wp2_with fail
  refine (areCells_any r zs a b c d _ n _ LN.out (Z.out _ Bw.out)).mono ?_
  rw [HU.out]
  rintro _ w4 ⟨rfl, hb⟩
  clear c0 c1 c2 c3 c4 c5
  have R := Lib.hid (R.out.kept hb)
  have A := Lib.hid (A.out.kept hb)
  have Bw := Lib.hid (below_step Bw.out hb)
  clear hb
  have c0 := A.out.at 0 rfl; have c1 := A.out.at 1 rfl; have c2 := A.out.at 2 rfl; have c3 := A.out.at 3 rfl; have c4 := A.out.at 4 rfl; have c5 := A.out.at 5 rfl
  go_wp2_with fail
  refine (Pr.copyPl_any a b c d r n _ (H.out _ Bw.out) LN.out).mono ?_
  rintro _ w5 ⟨g0, g1, g2, g3, c0', c1', c2', c3', rfl, P, hb⟩
  clear c0 c1 c2 c3 c4 c5
  have RLt := R.out.lt
  have P := P.mono (h' := w.heap.size + 2) (by omega)
  have R := Lib.hid (R.out.kept hb)
  have Bw := Lib.hid (below_step Bw.out hb)
  have ha := below_al1 w5 (.cells [Value.int .i64 r.X, .int .i64 r.Y, ps g0 0 n c0', ps g1 0 n c1', ps g2 0 n c2', ps g3 0 n c3'].toArray 26)
  have D := Cells.made w5 [.int .i64 r.X, .int .i64 r.Y, ps g0 0 n c0', ps g1 0 n c1', ps g2 0 n c2', ps g3 0 n c3'] 26
  obtain ⟨w6, hw6⟩ : ∃ w6, w5.alloc (.cells [Value.int .i64 r.X, .int .i64 r.Y, ps g0 0 n c0', ps g1 0 n c1', ps g2 0 n c2', ps g3 0 n c3'].toArray 26) = w6 := ⟨_, rfl⟩
  rw [hw6] at ha D
  have QL := Lib.hid (And.intro P.W.lt (And.intro P.E.lt (And.intro P.G.lt P.H.lt)))
  have P := Lib.hid (P.kept ha)
  have D := Lib.hid D
  have R := Lib.hid (R.out.kept ha)
  have Bw := Lib.hid (below_step Bw.out ha)
  have HW6 := Lib.hid hw6
  clear ha hw6 hb RLt hm1
  have GB := Lib.hid (And.intro P.out.b0 (And.intro P.out.b1 (And.intro P.out.b2 P.out.b3)))
  go_wp2_with fail
  rw [show w5.alloc (.cells #[Value.int .i64 r.X, .int .i64 r.Y, ps g0 0 n c0', ps g1 0 n c1', ps g2 0 n c2', ps g3 0 n c3'] 26) = w6 from HW6.out]
  go_loopw [10, 25] (fun _ i wr => ∃ k : Nat, k ≤ m0 ∧ i = .int .i64 k ∧ Hid (PB (w.heap.size + 2) wr g0 g1 g2 g3 n (chgs (gainF x) (zs.take k) r)) ∧ Hid (Cells wr w5.heap.size [.int .i64 r.X, .int .i64 r.Y, ps g0 0 n c0', ps g1 0 n c1', ps g2 0 n c2', ps g3 0 n c3']) ∧ Hid (Cells wr (w.heap.size + 1) zpl) ∧ Hid (Below w.heap.size w wr)) (fun _ i _ => m0 - (intOf i).toNat)
  case atStart => exact ⟨0, Nat.zero_le _, rfl, P, D, R, Bw⟩
  case round =>
    obtain ⟨k, hk, rfl, hP, hD, hR, hB⟩ := hrel
    have hml := HL.out
    by_cases hlt : k < m0
    · obtain ⟨b, hb, z0⟩ := ZC.out wr hB.out k hlt
      subst hb
      have ZR := setUp_at UP.out (k := k) (by have := HM.out; omega)
      obtain ⟨i, hzi⟩ : ∃ i : Nat, zs.getD k 0 = (i : Int) := ⟨(zs.getD k 0).toNat, by omega⟩
      rw [hzi] at z0 ZR
      have HIN : Hid (i < n) := Lib.hid (by omega)
      have HTK := Lib.hid (chgs_take (f := (gainF x)) r (by have := HM.out; omega) hzi)
      have hi1 : (0 : Int) ≤ (k : Int) := by omega
      have hi2 : (k : Int) < (m0 : Int) := by omega
      have d0 := hD.out.at 0 rfl; have d1 := hD.out.at 1 rfl; have d2 := hD.out.at 2 rfl; have d3 := hD.out.at 3 rfl; have d4 := hD.out.at 4 rfl; have d5 := hD.out.at 5 rfl
      clear ZR
      go_wp2_with fail
      refine (cloGain_any x q5 _ _ _ _ _ _ _ _ _ _ _ _ _ _ _ hP.out HIN.out (C5.out _ hB.out) (by have := C5L.out; omega)).mono ?_
      rintro _ w7 ⟨rfl, hP2, ht⟩
      clear d0 d1 d2 d3 d4 d5
      have P2 := Lib.hid hP2
      have D2 := Lib.hid (ht.cells hD.out (by have := QL.out; intro e; rcases e with e | e | e | e <;> omega))
      have R2 := Lib.hid (ht.cells hR.out (by have := GB.out; intro e; rcases e with e | e | e | e <;> omega))
      have B2 := Lib.hid (hB.out.trans (ht.below (B := w.heap.size) (fun k hk => Nat.le_trans (by omega) (hP.out.s4 hk)) hB.out.size))
      clear hP2 ht
      go_wp2
      go_roundw
      case rel => exact ⟨k + 1, by omega, by go_num, Lib.hid (by rw [HTK.out]; exact P2.out), D2, R2, B2⟩
      case measure => simp [intOf]; omega
    · have e := Lib.hid (show k = m0 by omega)
      have HP : Hid (PB (w.heap.size + 2) wr g0 g1 g2 g3 n (chgs (gainF x) zs r)) := Lib.hid (by have := hP.out; rw [e.out, ← HM.out, List.take_length] at this; exact this)
      have d0 := hD.out.at 0 rfl; have d1 := hD.out.at 1 rfl; have d2 := hD.out.at 2 rfl; have d3 := hD.out.at 3 rfl; have d4 := hD.out.at 4 rfl; have d5 := hD.out.at 5 rfl
      have r0 := hR.out.at 0 rfl; have r1 := hR.out.at 1 rfl; have r2 := hR.out.at 2 rfl; have r3 := hR.out.at 3 rfl; have r4 := hR.out.at 4 rfl; have r5 := hR.out.at 5 rfl; have rf := hR.out.fz
      go_wp2
      refine bodyPost_ret (v := .tuple #[.agg #[.int .i64 r.X, .int .i64 r.Y, ps g0 0 n c0', ps g1 0 n c1', ps g2 0 n c2', ps g3 0 n c3'], .bool true]) ?_ rfl ?_
      · rw [results_cell_tmp rfl]
        go_simp
      · exact ⟨_, _, _, _, _, _, _, _, rfl, (HP.out.far6 _ (by omega) _ _ _ _ _ _).mono (by omega), below_set6 hB.out (by omega) _ _ _ _ _ _⟩
end Go.Proofs.Ythfkmcpajookaaa

/- GainCells: the program's side. -/
namespace Go.Proofs.Ythfkmcpajookaaa
open Go.RowKit
set_option linter.unusedVariables false

set_option maxRecDepth 10000 in
set_option maxHeartbeats 3200000 in
theorem implGain_any (a b c d v : Value) (r : PL) (zs : List Int) (x : Nat) (w : World) (h : PRow w a b c d r) (hz : JRow w v zs) :
    Calls Try.prog 27 #[.agg #[.int .i64 r.X, .int .i64 r.Y, a, b, c, d], v, .float .f32 x] w (PdO (chB (fin .f32 x) r zs) (chS (gainF x) (fin .f32 x) r zs) w) := by
  unfold PdO chS
  have H := Lib.hid (fun w1 (hb : Below w.heap.size w w1) => h.below hb)
  have Z := Lib.hid (fun w1 (hb : Below w.heap.size w w1) => hz.below hb)
  have A := Lib.hid (((Cells.made w (pvs r a b c d) 26).al (.cells [Value.float .f32 x].toArray 22)).al (.cells zpl.toArray 26))
  have Q := (Cells.made (w.alloc (.cells (pvs r a b c d).toArray 26)) [.float .f32 x] 22).al (.cells zpl.toArray 26)
  rw [show (w.alloc (.cells (pvs r a b c d).toArray 26)).heap.size = w.heap.size + 1 from by simp] at Q
  have Q := Lib.hid Q
  have R := Cells.made ((w.alloc (.cells (pvs r a b c d).toArray 26)).alloc (.cells [Value.float .f32 x].toArray 22)) zpl 26
  rw [show ((w.alloc (.cells (pvs r a b c d).toArray 26)).alloc (.cells [Value.float .f32 x].toArray 22)).heap.size = w.heap.size + 1 + 1 from by simp] at R
  have R := Lib.hid R
  have Bw := Lib.hid (below_al3 w (.cells (pvs r a b c d).toArray 26) (.cells [Value.float .f32 x].toArray 22) (.cells zpl.toArray 26))
  clear h hz
  cases hx : (fin .f32 x)
  · have HX := Lib.hid hx
    have NO : Hid (chB false r zs = false) := Lib.hid (by unfold chB; simp)
    clear hx
    go_enter Try.func27, Try.ntmps27
    have q0 := Q.out.at 0 rfl
    go_wp2_with fail
    refine (implFinite_any x _).mono ?_
    rw [HX.out]
    rintro _ _ ⟨rfl, m, rfl⟩
    clear q0
    have A := Lib.hid (A.out.drewN (n := m))
    have Q := Lib.hid (Q.out.drewN (n := m))
    have R := Lib.hid (R.out.drewN (n := m))
    have Bw := Lib.hid (below_drewN Bw.out m)
    generalize (((w.alloc (.cells (pvs r a b c d).toArray 26)).alloc (.cells [Value.float .f32 x].toArray 22)).alloc (.cells zpl.toArray 26)).drewN m = w2 at *
    have r0 := R.out.at 0 rfl; have r1 := R.out.at 1 rfl; have r2 := R.out.at 2 rfl; have r3 := R.out.at 3 rfl; have r4 := R.out.at 4 rfl; have r5 := R.out.at 5 rfl; have rf := R.out.fz
    go_wp2
    refine bodyPost_ret (v := .tuple #[.agg #[.int .i64 0, .int .i64 0, .slice none 0 0, .slice none 0 0, .slice none 0 0, .slice none 0 0], .bool false]) ?_ rfl ?_
    · rw [results_cell_tmp rfl]
      go_simp
    · have hb := below_set6 Bw.out (p := w.heap.size + 1 + 1) (by omega) (.int .i64 0) (.int .i64 0) (.slice none 0 0) (.slice none 0 0) (.slice none 0 0) (.slice none 0 0)
      rw [NO.out]
      exact ⟨_, _, _, _, rfl, PX.nil, hb⟩
  · have HX := Lib.hid hx
    clear hx
    cases hs : setOk r zs
    · have HS := Lib.hid hs
      have NO : Hid (chB true r zs = false) := Lib.hid (by unfold chB; rw [hs]; rfl)
      clear hs
      go_enter Try.func27, Try.ntmps27
      have q0 := Q.out.at 0 rfl
      go_wp2_with fail
      refine (implFinite_any x _).mono ?_
      rw [HX.out]
      rintro _ _ ⟨rfl, m, rfl⟩
      clear q0
      have A := Lib.hid (A.out.drewN (n := m))
      have Q := Lib.hid (Q.out.drewN (n := m))
      have R := Lib.hid (R.out.drewN (n := m))
      have Bw := Lib.hid (below_drewN Bw.out m)
      generalize (((w.alloc (.cells (pvs r a b c d).toArray 26)).alloc (.cells [Value.float .f32 x].toArray 22)).alloc (.cells zpl.toArray 26)).drewN m = w2 at *
      have c0 := A.out.at 0 rfl; have c1 := A.out.at 1 rfl; have c2 := A.out.at 2 rfl; have c3 := A.out.at 3 rfl; have c4 := A.out.at 4 rfl; have c5 := A.out.at 5 rfl
      go_wp2_with fail
      refine (changeGain_no x (w.heap.size + 1) a b c d v r zs _ (H.out _ Bw.out) (Z.out _ Bw.out) HS.out).mono ?_
      rintro _ w4 ⟨rfl, hb⟩
      clear c0 c1 c2 c3 c4 c5
      have R := Lib.hid (R.out.kept hb)
      have Bw := Lib.hid (below_step Bw.out hb)
      clear hb
      have r0 := R.out.at 0 rfl; have r1 := R.out.at 1 rfl; have r2 := R.out.at 2 rfl; have r3 := R.out.at 3 rfl; have r4 := R.out.at 4 rfl; have r5 := R.out.at 5 rfl; have rf := R.out.fz
      go_wp2
      refine bodyPost_ret (v := .tuple #[.agg #[.int .i64 0, .int .i64 0, .slice none 0 0, .slice none 0 0, .slice none 0 0, .slice none 0 0], .bool false]) ?_ rfl ?_
      · rw [results_cell_tmp rfl]
        go_simp
      · have hb := below_set6 Bw.out (p := w.heap.size + 1 + 1) (by omega) (.int .i64 0) (.int .i64 0) (.slice none 0 0) (.slice none 0 0) (.slice none 0 0) (.slice none 0 0)
        rw [NO.out]
        exact ⟨_, _, _, _, rfl, PX.nil, hb⟩
    · have YES : Hid (chB true r zs = true) := Lib.hid (by unfold chB; rw [hs]; rfl)
      have VU : vPl r = true ∧ setUp r.W.length zs = true := by unfold setOk at hs; simpa using hs
      have HV := Lib.hid VU
      clear hs VU
      go_enter Try.func27, Try.ntmps27
      have q0 := Q.out.at 0 rfl
      go_wp2_with fail
      refine (implFinite_any x _).mono ?_
      rw [HX.out]
      rintro _ _ ⟨rfl, m, rfl⟩
      clear q0
      have A := Lib.hid (A.out.drewN (n := m))
      have Q := Lib.hid (Q.out.drewN (n := m))
      have R := Lib.hid (R.out.drewN (n := m))
      have Bw := Lib.hid (below_drewN Bw.out m)
      generalize (((w.alloc (.cells (pvs r a b c d).toArray 26)).alloc (.cells [Value.float .f32 x].toArray 22)).alloc (.cells zpl.toArray 26)).drewN m = w2 at *
      have c0 := A.out.at 0 rfl; have c1 := A.out.at 1 rfl; have c2 := A.out.at 2 rfl; have c3 := A.out.at 3 rfl; have c4 := A.out.at 4 rfl; have c5 := A.out.at 5 rfl
      go_wp2_with fail
      refine (changeGain_yes x (w.heap.size + 1) a b c d v r zs _ _ (H.out _ Bw.out) (Z.out _ Bw.out) HV.out.1 rfl HV.out.2 Q.out).mono ?_
      rintro _ w4 ⟨g0, g1, g2, g3, k0, k1, k2, k3, rfl, hP, hb⟩
      clear c0 c1 c2 c3 c4 c5
      have RLt := Lib.hid R.out.lt
      have R := Lib.hid (R.out.kept hb)
      have Bw := Lib.hid (below_step Bw.out hb)
      have P := Lib.hid hP
      clear hb hP
      have r0 := R.out.at 0 rfl; have r1 := R.out.at 1 rfl; have r2 := R.out.at 2 rfl; have r3 := R.out.at 3 rfl; have r4 := R.out.at 4 rfl; have r5 := R.out.at 5 rfl; have rf := R.out.fz
      go_wp2
      refine bodyPost_ret (v := .tuple #[.agg #[.int .i64 r.X, .int .i64 r.Y, ps g0 0 r.W.length k0, ps g1 0 r.W.length k1, ps g2 0 r.W.length k2, ps g3 0 r.W.length k3], .bool true]) ?_ rfl ?_
      · rw [results_cell_tmp rfl]
        go_simp
      · rw [YES.out]
        obtain ⟨kX, kY, _⟩ := (gainK x).chgs zs r
        have hlt := RLt.out
        exact ⟨_, _, _, _, by rw [cond_true, kX, kY], ((P.out.far6 (w.heap.size + 1 + 1) hlt _ _ _ _ _ _).mono (by omega)).px k0 k1 k2 k3, below_set6 Bw.out (by omega) _ _ _ _ _ _⟩
end Go.Proofs.Ythfkmcpajookaaa

/- GainCells: the law's walk. -/
namespace Go.Proofs.Ythfkmcpajookaaa
open Go.RowKit
set_option linter.unusedVariables false

theorem fnExactGainCells_walk (r : PL) (a b c d : Value) (v : Value) (zs : List Int) (x : Nat) (w : World) (h : PRow w a b c d r) (_ : PWf r) (hz' : IRow .i64 w v zs ∧ ∀ i, i < zs.length → (Lit.int .i64 (zs.getD i 0)).wf = true) (_ : (Lit.float .f32 x).wf = true) : Calls Try.prog 7 #[.agg #[.int .i64 r.X, .int .i64 r.Y, a, b, c, d], v, .float .f32 x] w (Tru w) := by
  have hz : JRow w v zs := hz'.1
  by_cases hl : zs.length ≤ 1048576
  · exact fnExactGainCells_law a b c d r v zs x (chB (fin .f32 x) r zs) (chS (gainF x) (fin .f32 x) r zs) (chS_small (gainK x) (fin .f32 x) r zs) (fun a b c d v w1 h hz => specGain_any a b c d v r zs x w1 h hz hl) (fun a b c d v w1 h hz => implGain_any a b c d v r zs x w1 h hz) w h hz
  · obtain ⟨x1, y1, rfl⟩ := hz.shape
    have hd : decide (1048576 < (zs.length : Int)) = true := decide_eq_true (by omega)
    have hl2 := hz.len
    go_enter Try.func7, Try.ntmps7
    go_wp2
    go_ret
    exact Tru.below (below_al1 _ _)
end Go.Proofs.Ythfkmcpajookaaa
