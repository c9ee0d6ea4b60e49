/- Several texts in one, for a claim holds 60 files at most: LwJoin. -/
import Derived.Test.YtkbdidpodcclfaaYC
import Derived.Test.YtkbdidpodcclfaaYD

/- The law on JoinRods: the walk, for any answer that both sides give. -/
namespace Go.Proofs.Ytkbdidpodcclfaa
open Go.RowKit
set_option linter.unusedVariables false

set_option maxRecDepth 20000 in
set_option maxHeartbeats 12800000 in
theorem fnExactJoinRods_law (a0 b0 c0 d0 : Value) (r0 : RL) (a1 b1 c1 d1 : Value) (r1 : RL) (ok : Bool) (S : RL) (hS : S.size ≤ 300) 
    (cs : ∀ (a0 b0 c0 d0 : Value) (a1 b1 c1 d1 : Value) (w1 : World) (h0 : RRow w1 a0 b0 c0 d0 r0) (h1 : RRow w1 a1 b1 c1 d1 r1), Calls Try.prog 17 #[.agg #[a0, b0, c0, d0], .agg #[a1, b1, c1, d1]] w1 (RdB ok S w1))
    (ci : ∀ (a0 b0 c0 d0 : Value) (a1 b1 c1 d1 : Value) (w1 : World) (h0 : RRow w1 a0 b0 c0 d0 r0) (h1 : RRow w1 a1 b1 c1 d1 r1), Calls Try.prog 19 #[.agg #[a0, b0, c0, d0], .agg #[a1, b1, c1, d1]] w1 (RdO ok S w1))
    (w : World) (h0 : RRow w a0 b0 c0 d0 r0) (h1 : RRow w a1 b1 c1 d1 r1) : Calls Try.prog 4 #[.agg #[a0, b0, c0, d0], .agg #[a1, b1, c1, d1]] w (Tru w) := by
  have CS := Lib.hid cs
  have CI := Lib.hid ci
  unfold RdB at CS
  unfold RdO at CI
  have HSm := Lib.hid hS
  have S2 : Hid (S.size ≤ 1048576) := Lib.hid (Nat.le_trans hS (by decide))
  have R0 := Lib.hid (fun w1 (hb : Below w.heap.size w w1) => h0.below hb)
  have R1 := Lib.hid (fun w1 (hb : Below w.heap.size w w1) => h1.below hb)
  clear cs ci hS h0 h1
  have L0 := (Cells.made w [a0, b0, c0, d0] 31).al (.cells [a1, b1, c1, d1].toArray 31)
  have L0 := Lib.hid L0
  have L1 := Cells.made (w.alloc (.cells [a0, b0, c0, d0].toArray 31)) [a1, b1, c1, d1] 31
  rw [show (w.alloc (.cells [a0, b0, c0, d0].toArray 31)).heap.size = w.heap.size + 1 from by simp] at L1
  have L1 := Lib.hid L1
  have Bw := Lib.hid (below_al2 w (.cells [a0, b0, c0, d0].toArray 31) (.cells [a1, b1, c1, d1].toArray 31))
  by_cases hl0 : r0.size ≤ 1048576
  case neg =>
    have HO := Lib.hid (Nat.lt_of_not_le hl0)
    clear hl0
    go_enter Try.func4, Try.ntmps4
    go_wp2_with fail
    refine (szRod_over a0 b0 c0 d0 r0 1048576 _ (R0.out _ Bw.out) HO.out (Nat.le_refl _)).mono ?_
    rintro _ ws0 ⟨rfl, hb⟩
    have Bw := Lib.hid (below_step Bw.out hb); have L0 := Lib.hid (L0.out.kept hb); have L1 := Lib.hid (L1.out.kept hb); have c00 := (L0.out).at 0 rfl; have c01 := (L0.out).at 1 rfl; have c02 := (L0.out).at 2 rfl; have c03 := (L0.out).at 3 rfl; have c10 := (L1.out).at 0 rfl; have c11 := (L1.out).at 1 rfl; have c12 := (L1.out).at 2 rfl; have c13 := (L1.out).at 3 rfl; clear hb
    go_wp2
    go_ret
    exact Tru.below Bw.out
  case pos =>
    have HF0 := Lib.hid hl0
    have HL0 : Hid (r0.size ≤ 1048576) := Lib.hid hl0
    clear hl0
    by_cases hl1 : r1.size ≤ 1048576 - r0.size
    case neg =>
      have HO := Lib.hid (Nat.lt_of_not_le hl1)
      clear hl1
      go_enter Try.func4, Try.ntmps4
      go_wp2_with fail
      refine (szRod_fit a0 b0 c0 d0 r0 1048576 _ (R0.out _ Bw.out) HF0.out (Nat.le_refl _)).mono ?_
      rintro _ ws0 ⟨rfl, hb⟩
      have Bw := Lib.hid (below_step Bw.out hb); have L0 := Lib.hid (L0.out.kept hb); have L1 := Lib.hid (L1.out.kept hb); have c00 := (L0.out).at 0 rfl; have c01 := (L0.out).at 1 rfl; have c02 := (L0.out).at 2 rfl; have c03 := (L0.out).at 3 rfl; have c10 := (L1.out).at 0 rfl; have c11 := (L1.out).at 1 rfl; have c12 := (L1.out).at 2 rfl; have c13 := (L1.out).at 3 rfl; clear hb
      have ML : Hid (1048576 - r0.size ≤ 1048576) := Lib.hid (Nat.sub_le _ _)
      generalize 1048576 - r0.size = L2 at *
      go_wp2_with fail
      refine (szRod_over a1 b1 c1 d1 r1 L2 _ (R1.out _ Bw.out) HO.out ML.out).mono ?_
      rintro _ ws1 ⟨rfl, hb⟩
      clear c00 c01 c02 c03 c10 c11 c12 c13
      have Bw := Lib.hid (below_step Bw.out hb); have L0 := Lib.hid (L0.out.kept hb); have L1 := Lib.hid (L1.out.kept hb); have c00 := (L0.out).at 0 rfl; have c01 := (L0.out).at 1 rfl; have c02 := (L0.out).at 2 rfl; have c03 := (L0.out).at 3 rfl; have c10 := (L1.out).at 0 rfl; have c11 := (L1.out).at 1 rfl; have c12 := (L1.out).at 2 rfl; have c13 := (L1.out).at 3 rfl; clear hb
      go_wp2
      go_ret
      exact Tru.below Bw.out
    case pos =>
      have HF1 := Lib.hid hl1
      have HL1 : Hid (r1.size ≤ 1048576) := Lib.hid (Nat.le_trans hl1 (Nat.sub_le _ _))
      clear hl1
      go_enter Try.func4, Try.ntmps4
      go_wp2_with fail
      refine (szRod_fit a0 b0 c0 d0 r0 1048576 _ (R0.out _ Bw.out) HF0.out (Nat.le_refl _)).mono ?_
      rintro _ ws0 ⟨rfl, hb⟩
      have Bw := Lib.hid (below_step Bw.out hb); have L0 := Lib.hid (L0.out.kept hb); have L1 := Lib.hid (L1.out.kept hb); have c00 := (L0.out).at 0 rfl; have c01 := (L0.out).at 1 rfl; have c02 := (L0.out).at 2 rfl; have c03 := (L0.out).at 3 rfl; have c10 := (L1.out).at 0 rfl; have c11 := (L1.out).at 1 rfl; have c12 := (L1.out).at 2 rfl; have c13 := (L1.out).at 3 rfl; clear hb
      have ML : Hid (1048576 - r0.size ≤ 1048576) := Lib.hid (Nat.sub_le _ _)
      generalize 1048576 - r0.size = L2 at *
      go_wp2_with fail
      refine (szRod_fit a1 b1 c1 d1 r1 L2 _ (R1.out _ Bw.out) HF1.out ML.out).mono ?_
      rintro _ ws1 ⟨rfl, hb⟩
      clear c00 c01 c02 c03 c10 c11 c12 c13
      have Bw := Lib.hid (below_step Bw.out hb); have L0 := Lib.hid (L0.out.kept hb); have L1 := Lib.hid (L1.out.kept hb); have c00 := (L0.out).at 0 rfl; have c01 := (L0.out).at 1 rfl; have c02 := (L0.out).at 2 rfl; have c03 := (L0.out).at 3 rfl; have c10 := (L1.out).at 0 rfl; have c11 := (L1.out).at 1 rfl; have c12 := (L1.out).at 2 rfl; have c13 := (L1.out).at 3 rfl; clear hb
      generalize L2 - r1.size = L3 at *
      clear c00 c01 c02 c03 c10 c11 c12 c13
      have c00 := (L0.out).at 0 rfl; have c01 := (L0.out).at 1 rfl; have c02 := (L0.out).at 2 rfl; have c03 := (L0.out).at 3 rfl; have c10 := (L1.out).at 0 rfl; have c11 := (L1.out).at 1 rfl; have c12 := (L1.out).at 2 rfl; have c13 := (L1.out).at 3 rfl
      go_wp2
      have FACT := Lib.hid (fun w1 (hw : Ext ws1 w1) => And.intro (hw.cell c00) (And.intro (hw.cell c01) (And.intro (hw.cell c02) (And.intro (hw.cell c03) (And.intro (hw.cell c10) (And.intro (hw.cell c11) (And.intro (hw.cell c12) (hw.cell c13))))))))
      refine wp_region_facts_tail 9 [7] (Ext ws1) (TS [(29, fRdAt r0), (31, fRdAt r1), (32, fRTup ok S), (6, fBox ws1.heap.size nil4)]) (Pers.ext _) (TS.pers _) (Ext.start _) (by kernel_rfl) (by kernel_rfl) (by intro d v c a w h; cases d <;> exact h) ?_
      simp only [List.take_succ_cons, List.take_zero, List.drop_succ_cons, List.drop_zero]
      repeat (refine wpF_val rfl monoQ_end (by rintro _ ⟨⟩; rfl) ?_ (fun w1 hw1 => ?_) (fun K hK => ?_); rotate_left; (focus (have hF := FACT.out w1 hw1; go_simp; first | done | rfl)); go_simp; refine hK _ ?_; clear hK K)
      refine wpF_callF rfl 29 rfl 18 #[.agg #[a0, b0, c0, d0]] (fRdAt r0) rfl (fun w1 => ?_) (fun w1 hC hN => ?_) (fun v1 hv1 => ?_)
      · go_simp
      · refine (toRod_any a0 b0 c0 d0 r0 w1 (R0.out _ (below_step Bw.out hC)) HL0.out).mono ?_
        rintro _ w2 ⟨q0, q1, q2, q3, rfl, hp, Z, hb⟩
        exact ⟨_, rfl, hb, q0, q1, q2, q3, rfl, Z⟩
      obtain ⟨_, za0, za1, za2, za3, rfl, _⟩ := hv1
      unfold ragV
      repeat (refine wpF_val rfl monoQ_end (by rintro _ ⟨⟩; rfl) ?_ (fun w1 hw1 => ?_) (fun K hK => ?_); rotate_left; (focus (have hF := FACT.out w1 hw1; go_simp; first | done | rfl)); go_simp; refine hK _ ?_; clear hK K)
      refine wpF_callF rfl 31 rfl 18 #[.agg #[a1, b1, c1, d1]] (fRdAt r1) rfl (fun w1 => ?_) (fun w1 hC hN => ?_) (fun v1 hv1 => ?_)
      · go_simp
      · refine (toRod_any a1 b1 c1 d1 r1 w1 (R1.out _ (below_step Bw.out hC)) HL1.out).mono ?_
        rintro _ w2 ⟨q0, q1, q2, q3, rfl, hp, Z, hb⟩
        exact ⟨_, rfl, hb, q0, q1, q2, q3, rfl, Z⟩
      obtain ⟨_, zb0, zb1, zb2, zb3, rfl, _⟩ := hv1
      unfold ragV
      repeat (refine wpF_val rfl monoQ_end (by rintro _ ⟨⟩; rfl) ?_ (fun w1 hw1 => ?_) (fun K hK => ?_); rotate_left; (focus (have hF := FACT.out w1 hw1; go_simp; first | done | rfl)); go_simp; refine hK _ ?_; clear hK K)
      refine wpF_callF rfl 32 rfl 17 #[.agg #[sl za0 r0.W, sl za1 r0.E, sl za2 r0.H, sl za3 r0.T], .agg #[sl zb0 r1.W, sl zb1 r1.E, sl zb2 r1.H, sl zb3 r1.T]] (fRTup ok S) rfl (fun w1 => ?_) (fun w1 hC hN => ?_) (fun v1 hv1 => ?_)
      · go_simp
      · have Z0 := rod_at (fact_needR (d := 29) rfl hN (by kernel_rfl) (by repeat (first | exact Or.inr ⟨rfl, rfl⟩ | refine Or.inl ?_)))
        have Z1 := rod_at (fact_needR (d := 31) rfl hN (by kernel_rfl) (by repeat (first | exact Or.inr ⟨rfl, rfl⟩ | refine Or.inl ?_)))
        refine (CS.out _ _ _ _ _ _ _ _ w1 (Z0.row HL0.out) (Z1.row HL1.out)).mono ?_
        rintro _ w2 ⟨s0, s1, s2, s3, rfl, hY, hb⟩
        exact ⟨_, rfl, hb, s0, s1, s2, s3, rfl, hY⟩
      obtain ⟨_, s0, s1, s2, s3, rfl, hz⟩ := hv1
      have hW := hz.W.shape; have hE := hz.E.shape; have hH := hz.H.shape; have hT := hz.T.shape
      obtain ⟨⟨xs0, cs0, e0⟩, ⟨xs1, cs1, e1⟩, ⟨xs2, cs2, e2⟩, ⟨xs3, cs3, e3⟩⟩ := And.intro hW (And.intro hE (And.intro hH hT))
      obtain ⟨n0, f0⟩ : ∃ n, S.W.length = n := ⟨_, rfl⟩
      obtain ⟨n1, f1⟩ : ∃ n, S.E.length = n := ⟨_, rfl⟩
      obtain ⟨n2, f2⟩ : ∃ n, S.H.length = n := ⟨_, rfl⟩
      obtain ⟨n3, f3⟩ : ∃ n, S.T.length = n := ⟨_, rfl⟩
      have FF := Lib.hid (And.intro f0 (And.intro f1 (And.intro f2 f3)))
      rw [f0] at e0; rw [f1] at e1; rw [f2] at e2; rw [f3] at e3
      subst e0 e1 e2 e3
      clear hW hE hH hT hz
      repeat (refine wpF_val rfl monoQ_end (by rintro _ ⟨⟩; rfl) ?_ (fun w1 hw1 => ?_) (fun K hK => ?_); rotate_left; (focus (have hF := FACT.out w1 hw1; go_simp; first | done | rfl)); go_simp; refine hK _ ?_; clear hK K)
      refine wpF_alloc rfl 6 rfl ws1.heap.size nil4 25 rfl (fun w1 hw1 => hw1.size) (fun w1 => ?_) (fun p => ?_)
      · go_simp
      refine wpFacts_nil ?_
      intro w1 hC hF
      obtain ⟨hp, C1⟩ := fact_box rfl hF (by repeat (first | exact Or.inr ⟨rfl, rfl⟩ | refine Or.inl ?_))
      have hY := rtup_at (fact_of (d := 32) rfl hF (by repeat (first | exact Or.inr ⟨rfl, rfl⟩ | refine Or.inl ?_)))
      clear hF FACT c00 c01 c02 c03 c10 c11 c12 c13
      have q0 := C1.at 0 rfl; have q1 := C1.at 1 rfl; have q2 := C1.at 2 rfl; have q3 := C1.at 3 rfl; have qf := C1.fz
      have bA : Below ws1.heap.size ws1 ((((w1.setCell ⟨p, 0, none⟩ (.slice xs0 n0 cs0)).setCell ⟨p, 1, none⟩ (.slice xs1 n1 cs1)).setCell ⟨p, 2, none⟩ (.slice xs2 n2 cs2)).setCell ⟨p, 3, none⟩ (.slice xs3 n3 cs3)) := below_set4d hC hp _ _ _ _
      obtain ⟨Y, A⟩ := boxRod C1 hY
      have PN0 : ¬ p = w.heap.size := by have := L0.out.lt; omega
      have PM0 : ¬ w.heap.size = p := fun e => PN0 e.symm
      have c00 := ((L0.out.kept hC)).at 0 rfl; have c01 := ((L0.out.kept hC)).at 1 rfl; have c02 := ((L0.out.kept hC)).at 2 rfl; have c03 := ((L0.out.kept hC)).at 3 rfl
      have PN1 : ¬ p = w.heap.size + 1 := by have := L1.out.lt; omega
      have PM1 : ¬ w.heap.size + 1 = p := fun e => PN1 e.symm
      have c10 := ((L1.out.kept hC)).at 0 rfl; have c11 := ((L1.out.kept hC)).at 1 rfl; have c12 := ((L1.out.kept hC)).at 2 rfl; have c13 := ((L1.out.kept hC)).at 3 rfl
      obtain ⟨wA, hwA⟩ : ∃ wA, (((w1.setCell ⟨p, 0, none⟩ (.slice xs0 n0 cs0)).setCell ⟨p, 1, none⟩ (.slice xs1 n1 cs1)).setCell ⟨p, 2, none⟩ (.slice xs2 n2 cs2)).setCell ⟨p, 3, none⟩ (.slice xs3 n3 cs3) = wA := ⟨_, rfl⟩
      rw [hwA] at A Y bA
      have HWA := Lib.hid hwA
      have A := Lib.hid A
      have Y := Lib.hid Y
      have Bw := Lib.hid (below_step Bw.out bA)
      have L0 := Lib.hid (L0.out.kept bA)
      have L1 := Lib.hid (L1.out.kept bA)
      have RA0 := Lib.hid (R0.out _ Bw.out)
      have RA1 := Lib.hid (R1.out _ Bw.out)
      have BB := Lib.hid (Below.refl wA.heap.size wA)
      clear hY bA f0 f1 f2 f3 hwA hC C1
      go_wp2_with fail
      rw [show (((w1.setCell ⟨p, 0, none⟩ (.slice xs0 n0 cs0)).setCell ⟨p, 1, none⟩ (.slice xs1 n1 cs1)).setCell ⟨p, 2, none⟩ (.slice xs2 n2 cs2)).setCell ⟨p, 3, none⟩ (.slice xs3 n3 cs3) = wA from HWA.out]
      clear q0 q1 q2 q3 qf hp PN0 PM0 PN1 PM1
      refine (toRod_any a0 b0 c0 d0 r0 _ (RA0.out.below BB.out) HL0.out).mono ?_
      rintro _ wx0 ⟨x00, x01, x02, x03, rfl, hp, V, hb⟩
      clear c00 c01 c02 c03 c10 c11 c12 c13
      have XL0 := Lib.hid (Nat.le_trans BB.out.size hp)
      have BB := Lib.hid (below_step BB.out hb)
      have V0 := Lib.hid V
      have BOX0 := Lib.hid (show x03 < wx0.heap.size from V0.out.T.lt)
      have ORD0 := Lib.hid (And.intro V0.out.o01 (And.intro V0.out.o12 V0.out.o23))
      clear V hp hb
      have X := Cells.made wx0 [.slice (some ⟨x00, 0, none⟩) r0.W.length r0.W.length, .slice (some ⟨x01, 0, none⟩) r0.E.length r0.E.length, .slice (some ⟨x02, 0, none⟩) r0.H.length r0.H.length, .slice (some ⟨x03, 0, none⟩) r0.T.length r0.T.length] 25
      have hb := below_al1 wx0 (.cells [Value.slice (some ⟨x00, 0, none⟩) r0.W.length r0.W.length, .slice (some ⟨x01, 0, none⟩) r0.E.length r0.E.length, .slice (some ⟨x02, 0, none⟩) r0.H.length r0.H.length, .slice (some ⟨x03, 0, none⟩) r0.T.length r0.T.length].toArray 25)
      have c00 := ((L0.out.kept BB.out).kept hb).at 0 rfl; have c01 := ((L0.out.kept BB.out).kept hb).at 1 rfl; have c02 := ((L0.out.kept BB.out).kept hb).at 2 rfl; have c03 := ((L0.out.kept BB.out).kept hb).at 3 rfl
      have c10 := ((L1.out.kept BB.out).kept hb).at 0 rfl; have c11 := ((L1.out.kept BB.out).kept hb).at 1 rfl; have c12 := ((L1.out.kept BB.out).kept hb).at 2 rfl; have c13 := ((L1.out.kept BB.out).kept hb).at 3 rfl
      obtain ⟨wb0, hwb⟩ : ∃ wA, wx0.alloc (.cells [Value.slice (some ⟨x00, 0, none⟩) r0.W.length r0.W.length, .slice (some ⟨x01, 0, none⟩) r0.E.length r0.E.length, .slice (some ⟨x02, 0, none⟩) r0.H.length r0.H.length, .slice (some ⟨x03, 0, none⟩) r0.T.length r0.T.length].toArray 25) = wA := ⟨_, rfl⟩
      have hb2 := hb
      rw [hwb] at X hb2
      have HWB0 := Lib.hid hwb
      have X0 := Lib.hid X
      have V0 := Lib.hid (V0.out.kept hb2)
      have BB := Lib.hid (below_step BB.out hb2)
      have TOP0 := Lib.hid (Nat.lt_of_lt_of_le BOX0.out hb2.size)
      clear hb hb2 hwb X
      go_wp2_with fail
      rw [show wx0.alloc (.cells #[Value.slice (some ⟨x00, 0, none⟩) r0.W.length r0.W.length, .slice (some ⟨x01, 0, none⟩) r0.E.length r0.E.length, .slice (some ⟨x02, 0, none⟩) r0.H.length r0.H.length, .slice (some ⟨x03, 0, none⟩) r0.T.length r0.T.length] 25) = wb0 from HWB0.out]
      refine (toRod_any a1 b1 c1 d1 r1 _ (RA1.out.below BB.out) HL1.out).mono ?_
      rintro _ wx1 ⟨x10, x11, x12, x13, rfl, hp, V, hb⟩
      clear c00 c01 c02 c03 c10 c11 c12 c13
      have XL1 := Lib.hid (Nat.le_trans BB.out.size hp)
      have BB := Lib.hid (below_step BB.out hb)
      have X0 := Lib.hid (X0.out.kept hb)
      have V0 := Lib.hid (V0.out.kept hb)
      have GAP01 := Lib.hid (show x03 < x10 from Nat.lt_of_lt_of_le TOP0.out hp)
      have V1 := Lib.hid V
      have BOX1 := Lib.hid (show x13 < wx1.heap.size from V1.out.T.lt)
      have ORD1 := Lib.hid (And.intro V1.out.o01 (And.intro V1.out.o12 V1.out.o23))
      have TOP0 := Lib.hid (Nat.lt_of_lt_of_le TOP0.out hb.size)
      clear V hp hb
      have X := Cells.made wx1 [.slice (some ⟨x10, 0, none⟩) r1.W.length r1.W.length, .slice (some ⟨x11, 0, none⟩) r1.E.length r1.E.length, .slice (some ⟨x12, 0, none⟩) r1.H.length r1.H.length, .slice (some ⟨x13, 0, none⟩) r1.T.length r1.T.length] 25
      have hb := below_al1 wx1 (.cells [Value.slice (some ⟨x10, 0, none⟩) r1.W.length r1.W.length, .slice (some ⟨x11, 0, none⟩) r1.E.length r1.E.length, .slice (some ⟨x12, 0, none⟩) r1.H.length r1.H.length, .slice (some ⟨x13, 0, none⟩) r1.T.length r1.T.length].toArray 25)
      have c00 := ((L0.out.kept BB.out).kept hb).at 0 rfl; have c01 := ((L0.out.kept BB.out).kept hb).at 1 rfl; have c02 := ((L0.out.kept BB.out).kept hb).at 2 rfl; have c03 := ((L0.out.kept BB.out).kept hb).at 3 rfl
      have c10 := ((L1.out.kept BB.out).kept hb).at 0 rfl; have c11 := ((L1.out.kept BB.out).kept hb).at 1 rfl; have c12 := ((L1.out.kept BB.out).kept hb).at 2 rfl; have c13 := ((L1.out.kept BB.out).kept hb).at 3 rfl
      have XS0 := X0.out.kept hb
      have d00 := XS0.at 0 rfl; have d01 := XS0.at 1 rfl; have d02 := XS0.at 2 rfl; have d03 := XS0.at 3 rfl
      clear XS0
      obtain ⟨wb1, hwb⟩ : ∃ wA, wx1.alloc (.cells [Value.slice (some ⟨x10, 0, none⟩) r1.W.length r1.W.length, .slice (some ⟨x11, 0, none⟩) r1.E.length r1.E.length, .slice (some ⟨x12, 0, none⟩) r1.H.length r1.H.length, .slice (some ⟨x13, 0, none⟩) r1.T.length r1.T.length].toArray 25) = wA := ⟨_, rfl⟩
      have hb2 := hb
      rw [hwb] at X hb2
      have HWB1 := Lib.hid hwb
      have X1 := Lib.hid X
      have V1 := Lib.hid (V1.out.kept hb2)
      have BB := Lib.hid (below_step BB.out hb2)
      have X0 := Lib.hid (X0.out.kept hb2)
      have V0 := Lib.hid (V0.out.kept hb2)
      have TOP0 := Lib.hid (Nat.lt_of_lt_of_le TOP0.out hb2.size)
      have TOP1 := Lib.hid (Nat.lt_of_lt_of_le BOX1.out hb2.size)
      clear hb hb2 hwb X

      go_wp2_with fail
      rw [show wx1.alloc (.cells #[Value.slice (some ⟨x10, 0, none⟩) r1.W.length r1.W.length, .slice (some ⟨x11, 0, none⟩) r1.E.length r1.E.length, .slice (some ⟨x12, 0, none⟩) r1.H.length r1.H.length, .slice (some ⟨x13, 0, none⟩) r1.T.length r1.T.length] 25) = wb1 from HWB1.out]
      refine (CI.out _ _ _ _ _ _ _ _ _ (V0.out.row HL0.out) (V1.out.row HL1.out)).mono ?_
      rintro _ w2 ⟨g0, g1, g2, g3, rfl, hO, hb⟩
      have BW0 := Lib.hid BB.out.size
      obtain ⟨⟨xg0, cg0, e0⟩, ⟨xg1, cg1, e1⟩, ⟨xg2, cg2, e2⟩, ⟨xg3, cg3, e3⟩⟩ := hO.shapes
      obtain ⟨f0, f1, f2, f3⟩ := FF.out
      rw [f0] at e0; rw [f1] at e1; rw [f2] at e2; rw [f3] at e3
      subst e0 e1 e2 e3
      clear c00 c01 c02 c03 c10 c11 c12 c13
      clear d00 d01 d02 d03
      have G := Cells.made w2 [.slice xg0 n0 cg0, .slice xg1 n1 cg1, .slice xg2 n2 cg2, .slice xg3 n3 cg3] 25
      have bG := below_al1 w2 (.cells [Value.slice xg0 n0 cg0, .slice xg1 n1 cg1, .slice xg2 n2 cg2, .slice xg3 n3 cg3].toArray 25)
      have AS := (A.out.kept BB.out).kept (below_step hb bG)
      have a0 := AS.at 0 rfl; have a1 := AS.at 1 rfl; have a2 := AS.at 2 rfl; have a3 := AS.at 3 rfl
      obtain ⟨wG, hwG⟩ : ∃ wG, w2.alloc (.cells [Value.slice xg0 n0 cg0, .slice xg1 n1 cg1, .slice xg2 n2 cg2, .slice xg3 n3 cg3].toArray 25) = wG := ⟨_, rfl⟩
      have bG2 := bG
      rw [hwG] at G bG2
      have HWG := Lib.hid hwG
      have U := Lib.hid (hO.kept bG2)
      have UU := Lib.hid bG2.size
      have b3 := below_step hb bG2
      have BB := Lib.hid (below_step BB.out b3)
      have X0 := Lib.hid (X0.out.kept b3)
      have V0 := Lib.hid (V0.out.kept b3)
      have X1 := Lib.hid (X1.out.kept b3)
      have V1 := Lib.hid (V1.out.kept b3)
      have GG := Lib.hid G
      have EQ := Lib.hid (eqRod_any _ _ _ _ _ _ _ _ S S wG (U.out.rrow S2.out) (Y.out.below BB.out) (SameRL.refl S))
      have GH := Lib.hid (hb.size)
      clear hO hb G bG bG2 f0 f1 f2 f3 hwG AS b3
      go_wp2_with fail
      rw [show w2.alloc (.cells #[Value.slice xg0 n0 cg0, .slice xg1 n1 cg1, .slice xg2 n2 cg2, .slice xg3 n3 cg3] 25) = wG from HWG.out]
      refine EQ.out.mono ?_
      rintro _ w3 ⟨rfl, hb⟩
      clear a0 a1 a2 a3
      have BB := Lib.hid (below_step BB.out hb)
      have U := Lib.hid (U.out.kept hb)
      have GG := Lib.hid (GG.out.kept hb)
      have UU := Lib.hid (Nat.le_trans UU.out hb.size)
      have X0 := Lib.hid (X0.out.kept hb)
      have V0 := Lib.hid (V0.out.kept hb)
      have X1 := Lib.hid (X1.out.kept hb)
      have V1 := Lib.hid (V1.out.kept hb)
      clear hb
      have c00 := (L0.out.kept BB.out).at 0 rfl; have c01 := (L0.out.kept BB.out).at 1 rfl; have c02 := (L0.out.kept BB.out).at 2 rfl; have c03 := (L0.out.kept BB.out).at 3 rfl
      have d00 := X0.out.at 0 rfl; have d01 := X0.out.at 1 rfl; have d02 := X0.out.at 2 rfl; have d03 := X0.out.at 3 rfl
      go_wp2
      have FACT := Lib.hid (fun w1 (hw : Ext w3 w1) => And.intro (hw.cell c00) (And.intro (hw.cell c01) (And.intro (hw.cell c02) (And.intro (hw.cell c03) (And.intro (hw.cell d00) (And.intro (hw.cell d01) (And.intro (hw.cell d02) (hw.cell d03))))))))
      have RV := Lib.hid (RA0.out.below BB.out)
      refine wp_region_facts (Ext w3) (TS [(56, fRdAt r0), (57, fIs (.bool true))]) (Pers.ext _) (TS.pers _) (Ext.start _) (by kernel_rfl) (by kernel_rfl) (by intro d v c a w h; cases d <;> exact h) ?_
      repeat (refine wpF_val rfl monoQ_end (by rintro _ ⟨⟩; rfl) ?_ (fun w1 hw1 => ?_) (fun K hK => ?_); rotate_left; (focus (have hF := FACT.out w1 hw1; go_simp; first | done | rfl)); go_simp; refine hK _ ?_; clear hK K)
      refine wpF_callF rfl 56 rfl 18 #[.agg #[a0, b0, c0, d0]] (fRdAt r0) rfl (fun w1 => ?_) (fun w1 hC hN => ?_) (fun v1 hv1 => ?_)
      · go_simp
      · refine (toRod_any a0 b0 c0 d0 r0 w1 (RV.out.below hC) HL0.out).mono ?_
        rintro _ w2 ⟨q0, q1, q2, q3, rfl, hp, Z, hb⟩
        exact ⟨_, rfl, hb, q0, q1, q2, q3, rfl, Z⟩
      obtain ⟨_, zz0, zz1, zz2, zz3, rfl, _⟩ := hv1
      unfold ragV
      repeat (refine wpF_val rfl monoQ_end (by rintro _ ⟨⟩; rfl) ?_ (fun w1 hw1 => ?_) (fun K hK => ?_); rotate_left; (focus (have hF := FACT.out w1 hw1; go_simp; first | done | rfl)); go_simp; refine hK _ ?_; clear hK K)
      refine wpF_callF rfl 57 rfl 13 #[.agg #[(sl x00 r0.W), (sl x01 r0.E), (sl x02 r0.H), (sl x03 r0.T)], .agg #[sl zz0 r0.W, sl zz1 r0.E, sl zz2 r0.H, sl zz3 r0.T]] (fIs (.bool true)) rfl (fun w1 => ?_) (fun w1 hC hN => ?_) (fun v1 hv1 => ?_)
      · go_simp
      · have Z := rod_at (fact_needR (d := 56) rfl hN (by kernel_rfl) (by repeat (first | exact Or.inr ⟨rfl, rfl⟩ | refine Or.inl ?_)))
        refine (eqRod_any _ _ _ _ _ _ _ _ r0 r0 w1 ((V0.out.kept hC).row HL0.out) (Z.row HL0.out) (.refl _)).mono ?_
        rintro _ w2 ⟨rfl, hb⟩
        exact ⟨_, rfl, hb, rfl⟩
      obtain ⟨_, rfl⟩ := hv1
      repeat (refine wpF_val rfl monoQ_end (by rintro _ ⟨⟩; rfl) ?_ (fun w1 hw1 => ?_) (fun K hK => ?_); rotate_left; (focus (have hF := FACT.out w1 hw1; go_simp; first | done | rfl)); go_simp; refine hK _ ?_; clear hK K)
      refine wpFacts_nil ?_
      intro w4 hb _
      clear FACT RV c00 c01 c02 c03 d00 d01 d02 d03
      have BB := Lib.hid (below_step BB.out hb)
      have U := Lib.hid (U.out.kept hb)
      have GG := Lib.hid (GG.out.kept hb)
      have UU := Lib.hid (Nat.le_trans UU.out hb.size)
      have X0 := Lib.hid (X0.out.kept hb)
      have V0 := Lib.hid (V0.out.kept hb)
      have X1 := Lib.hid (X1.out.kept hb)
      have V1 := Lib.hid (V1.out.kept hb)
      clear hb
      have c10 := (L1.out.kept BB.out).at 0 rfl; have c11 := (L1.out.kept BB.out).at 1 rfl; have c12 := (L1.out.kept BB.out).at 2 rfl; have c13 := (L1.out.kept BB.out).at 3 rfl
      have d10 := X1.out.at 0 rfl; have d11 := X1.out.at 1 rfl; have d12 := X1.out.at 2 rfl; have d13 := X1.out.at 3 rfl
      go_wp2
      have FACT := Lib.hid (fun w1 (hw : Ext w4 w1) => And.intro (hw.cell c10) (And.intro (hw.cell c11) (And.intro (hw.cell c12) (And.intro (hw.cell c13) (And.intro (hw.cell d10) (And.intro (hw.cell d11) (And.intro (hw.cell d12) (hw.cell d13))))))))
      have RV := Lib.hid (RA1.out.below BB.out)
      refine wp_region_facts (Ext w4) (TS [(61, fRdAt r1), (62, fIs (.bool true))]) (Pers.ext _) (TS.pers _) (Ext.start _) (by kernel_rfl) (by kernel_rfl) (by intro d v c a w h; cases d <;> exact h) ?_
      repeat (refine wpF_val rfl monoQ_end (by rintro _ ⟨⟩; rfl) ?_ (fun w1 hw1 => ?_) (fun K hK => ?_); rotate_left; (focus (have hF := FACT.out w1 hw1; go_simp; first | done | rfl)); go_simp; refine hK _ ?_; clear hK K)
      refine wpF_callF rfl 61 rfl 18 #[.agg #[a1, b1, c1, d1]] (fRdAt r1) rfl (fun w1 => ?_) (fun w1 hC hN => ?_) (fun v1 hv1 => ?_)
      · go_simp
      · refine (toRod_any a1 b1 c1 d1 r1 w1 (RV.out.below hC) HL1.out).mono ?_
        rintro _ w2 ⟨q0, q1, q2, q3, rfl, hp, Z, hb⟩
        exact ⟨_, rfl, hb, q0, q1, q2, q3, rfl, Z⟩
      obtain ⟨_, zz0, zz1, zz2, zz3, rfl, _⟩ := hv1
      unfold ragV
      repeat (refine wpF_val rfl monoQ_end (by rintro _ ⟨⟩; rfl) ?_ (fun w1 hw1 => ?_) (fun K hK => ?_); rotate_left; (focus (have hF := FACT.out w1 hw1; go_simp; first | done | rfl)); go_simp; refine hK _ ?_; clear hK K)
      refine wpF_callF rfl 62 rfl 13 #[.agg #[(sl x10 r1.W), (sl x11 r1.E), (sl x12 r1.H), (sl x13 r1.T)], .agg #[sl zz0 r1.W, sl zz1 r1.E, sl zz2 r1.H, sl zz3 r1.T]] (fIs (.bool true)) rfl (fun w1 => ?_) (fun w1 hC hN => ?_) (fun v1 hv1 => ?_)
      · go_simp
      · have Z := rod_at (fact_needR (d := 61) rfl hN (by kernel_rfl) (by repeat (first | exact Or.inr ⟨rfl, rfl⟩ | refine Or.inl ?_)))
        refine (eqRod_any _ _ _ _ _ _ _ _ r1 r1 w1 ((V1.out.kept hC).row HL1.out) (Z.row HL1.out) (.refl _)).mono ?_
        rintro _ w2 ⟨rfl, hb⟩
        exact ⟨_, rfl, hb, rfl⟩
      obtain ⟨_, rfl⟩ := hv1
      repeat (refine wpF_val rfl monoQ_end (by rintro _ ⟨⟩; rfl) ?_ (fun w1 hw1 => ?_) (fun K hK => ?_); rotate_left; (focus (have hF := FACT.out w1 hw1; go_simp; first | done | rfl)); go_simp; refine hK _ ?_; clear hK K)
      refine wpFacts_nil ?_
      intro w5 hb _
      clear FACT RV c10 c11 c12 c13 d10 d11 d12 d13
      have BB := Lib.hid (below_step BB.out hb)
      have U := Lib.hid (U.out.kept hb)
      have GG := Lib.hid (GG.out.kept hb)
      have UU := Lib.hid (Nat.le_trans UU.out hb.size)
      have X0 := Lib.hid (X0.out.kept hb)
      have V0 := Lib.hid (V0.out.kept hb)
      have X1 := Lib.hid (X1.out.kept hb)
      have V1 := Lib.hid (V1.out.kept hb)
      clear hb
      have d00 := X0.out.at 0 rfl; have d01 := X0.out.at 1 rfl; have d02 := X0.out.at 2 rfl; have d03 := X0.out.at 3 rfl
      go_wp2_with fail
      refine (markRod_at r0 x00 x01 x02 x03 _ V0.out (1) (by decide) HL0.out).mono ?_
      rintro _ wk0 ⟨rfl, ht⟩
      have BB := Lib.hid (BB.out.trans (ht.below (B := wA.heap.size) (fun k hk => Nat.le_trans XL0.out hk.1) BB.out.size))
      have U := Lib.hid (U.out.tur ht (fun j hj e => by have e' : x00 ≤ j ∧ j ≤ x03 := e; have := TOP0.out; have := TOP1.out; have := GH.out; have := ORD0.out; have := ORD1.out; omega))
      have GG := Lib.hid (ht.cells GG.out (fun e => by have e' : x00 ≤ w2.heap.size ∧ w2.heap.size ≤ x03 := e; have := TOP0.out; have := TOP1.out; have := GH.out; have := ORD0.out; have := ORD1.out; omega))
      have UU := Lib.hid (Nat.le_trans UU.out ht.size)
      have X1 := Lib.hid (ht.cells X1.out (fun e => by have e' : x00 ≤ wx1.heap.size ∧ wx1.heap.size ≤ x03 := e; have := TOP0.out; have := TOP1.out; have := GH.out; have := ORD0.out; have := ORD1.out; have := BOX1.out; have := GAP01.out; omega))
      have V1 := Lib.hid (V1.out.tur ht (fun j hj _ e => by have e' : x00 ≤ j ∧ j ≤ x03 := e; have := GAP01.out; have := TOP0.out; have := TOP1.out; have := GH.out; have := ORD0.out; have := ORD1.out; omega))
      clear ht d00 d01 d02 d03
      have d10 := X1.out.at 0 rfl; have d11 := X1.out.at 1 rfl; have d12 := X1.out.at 2 rfl; have d13 := X1.out.at 3 rfl
      go_wp2_with fail
      refine (markRod_at r1 x10 x11 x12 x13 _ V1.out (1 + r0.size) (by have := HL0.out; omega) HL1.out).mono ?_
      rintro _ wk1 ⟨rfl, ht⟩
      have BB := Lib.hid (BB.out.trans (ht.below (B := wA.heap.size) (fun k hk => Nat.le_trans XL1.out hk.1) BB.out.size))
      have U := Lib.hid (U.out.tur ht (fun j hj e => by have e' : x10 ≤ j ∧ j ≤ x13 := e; have := TOP0.out; have := TOP1.out; have := GH.out; have := ORD0.out; have := ORD1.out; omega))
      have GG := Lib.hid (ht.cells GG.out (fun e => by have e' : x10 ≤ w2.heap.size ∧ w2.heap.size ≤ x13 := e; have := TOP0.out; have := TOP1.out; have := GH.out; have := ORD0.out; have := ORD1.out; omega))
      have UU := Lib.hid (Nat.le_trans UU.out ht.size)
      clear ht d10 d11 d12 d13
      have a0 := (A.out.kept BB.out).at 0 rfl; have a1 := (A.out.kept BB.out).at 1 rfl; have a2 := (A.out.kept BB.out).at 2 rfl; have a3 := (A.out.kept BB.out).at 3 rfl
      have e0 := GG.out.at 0 rfl; have e1 := GG.out.at 1 rfl; have e2 := GG.out.at 2 rfl; have e3 := GG.out.at 3 rfl
      go_wp2_with fail
      refine (eqRod_any _ _ _ _ _ _ _ _ S S _ (U.out.rrow S2.out) (Y.out.below BB.out) (SameRL.refl S)).mono ?_
      rintro _ wq ⟨rfl, hb⟩
      clear a0 a1 a2 a3 e0 e1 e2 e3
      have BB := Lib.hid (below_step BB.out hb)
      have U := Lib.hid (U.out.kept hb)
      have GG := Lib.hid (GG.out.kept hb)
      have UU := Lib.hid (Nat.le_trans UU.out hb.size)
      clear hb
      have e0 := GG.out.at 0 rfl; have e1 := GG.out.at 1 rfl; have e2 := GG.out.at 2 rfl; have e3 := GG.out.at 3 rfl
      go_wp2_with fail
      refine (markRodX U.out UU.out HSm.out).mono ?_
      rintro _ wm ⟨rfl, hU, ht⟩
      clear e0 e1 e2 e3
      have U := Lib.hid hU
      have GG := Lib.hid (ht.cells GG.out (fun e => by have e' : wb1.heap.size ≤ w2.heap.size ∧ w2.heap.size < w2.heap.size := e; omega))
      have BB := Lib.hid (BB.out.trans (ht.below (B := wA.heap.size) (fun k hk => Nat.le_trans BW0.out hk.1) BB.out.size))
      have UU := Lib.hid (Nat.le_trans UU.out ht.size)
      clear hU ht
      have e0 := GG.out.at 0 rfl; have e1 := GG.out.at 1 rfl; have e2 := GG.out.at 2 rfl; have e3 := GG.out.at 3 rfl
      go_wp2_with fail
      refine (heldRodX U.out UU.out HSm.out).mono ?_
      rintro _ wh ⟨rfl, hb⟩
      clear e0 e1 e2 e3
      have BB := Lib.hid (below_step BB.out hb)
      have U := Lib.hid (U.out.kept hb)
      have GG := Lib.hid (GG.out.kept hb)
      have UU := Lib.hid (Nat.le_trans UU.out hb.size)
      clear hb
      have c00 := (L0.out.kept BB.out).at 0 rfl; have c01 := (L0.out.kept BB.out).at 1 rfl; have c02 := (L0.out.kept BB.out).at 2 rfl; have c03 := (L0.out.kept BB.out).at 3 rfl; have c10 := (L1.out.kept BB.out).at 0 rfl; have c11 := (L1.out.kept BB.out).at 1 rfl; have c12 := (L1.out.kept BB.out).at 2 rfl; have c13 := (L1.out.kept BB.out).at 3 rfl
      go_wp2
      have FACT := Lib.hid (fun w1 (hw : Ext wh w1) => And.intro (hw.cell c00) (And.intro (hw.cell c01) (And.intro (hw.cell c02) (And.intro (hw.cell c03) (And.intro (hw.cell c10) (And.intro (hw.cell c11) (And.intro (hw.cell c12) (hw.cell c13))))))))
      refine wp_region_facts_tail 9 [7] (Ext wh) (TS [(96, fRdAt r0), (98, fRdAt r1), (99, fRTup ok S), (15, fBox wh.heap.size nil4)]) (Pers.ext _) (TS.pers _) (Ext.start _) (by kernel_rfl) (by kernel_rfl) (by intro d v c a w h; cases d <;> exact h) ?_
      simp only [List.take_succ_cons, List.take_zero, List.drop_succ_cons, List.drop_zero]
      repeat (refine wpF_val rfl monoQ_end (by rintro _ ⟨⟩; rfl) ?_ (fun w1 hw1 => ?_) (fun K hK => ?_); rotate_left; (focus (have hF := FACT.out w1 hw1; go_simp; first | done | rfl)); go_simp; refine hK _ ?_; clear hK K)
      refine wpF_callF rfl 96 rfl 18 #[.agg #[a0, b0, c0, d0]] (fRdAt r0) rfl (fun w1 => ?_) (fun w1 hC hN => ?_) (fun v1 hv1 => ?_)
      · go_simp
      · refine (toRod_any a0 b0 c0 d0 r0 w1 (RA0.out.below (below_step BB.out hC)) HL0.out).mono ?_
        rintro _ w2 ⟨q0, q1, q2, q3, rfl, hp, Z, hb⟩
        exact ⟨_, rfl, hb, q0, q1, q2, q3, rfl, Z⟩
      obtain ⟨_, za0, za1, za2, za3, rfl, _⟩ := hv1
      unfold ragV
      repeat (refine wpF_val rfl monoQ_end (by rintro _ ⟨⟩; rfl) ?_ (fun w1 hw1 => ?_) (fun K hK => ?_); rotate_left; (focus (have hF := FACT.out w1 hw1; go_simp; first | done | rfl)); go_simp; refine hK _ ?_; clear hK K)
      refine wpF_callF rfl 98 rfl 18 #[.agg #[a1, b1, c1, d1]] (fRdAt r1) rfl (fun w1 => ?_) (fun w1 hC hN => ?_) (fun v1 hv1 => ?_)
      · go_simp
      · refine (toRod_any a1 b1 c1 d1 r1 w1 (RA1.out.below (below_step BB.out hC)) HL1.out).mono ?_
        rintro _ w2 ⟨q0, q1, q2, q3, rfl, hp, Z, hb⟩
        exact ⟨_, rfl, hb, q0, q1, q2, q3, rfl, Z⟩
      obtain ⟨_, zb0, zb1, zb2, zb3, rfl, _⟩ := hv1
      unfold ragV
      repeat (refine wpF_val rfl monoQ_end (by rintro _ ⟨⟩; rfl) ?_ (fun w1 hw1 => ?_) (fun K hK => ?_); rotate_left; (focus (have hF := FACT.out w1 hw1; go_simp; first | done | rfl)); go_simp; refine hK _ ?_; clear hK K)
      refine wpF_callF rfl 99 rfl 19 #[.agg #[sl za0 r0.W, sl za1 r0.E, sl za2 r0.H, sl za3 r0.T], .agg #[sl zb0 r1.W, sl zb1 r1.E, sl zb2 r1.H, sl zb3 r1.T]] (fRTup ok S) rfl (fun w1 => ?_) (fun w1 hC hN => ?_) (fun v1 hv1 => ?_)
      · go_simp
      · have Z0 := rod_at (fact_needR (d := 96) rfl hN (by kernel_rfl) (by repeat (first | exact Or.inr ⟨rfl, rfl⟩ | refine Or.inl ?_)))
        have Z1 := rod_at (fact_needR (d := 98) rfl hN (by kernel_rfl) (by repeat (first | exact Or.inr ⟨rfl, rfl⟩ | refine Or.inl ?_)))
        refine (CI.out _ _ _ _ _ _ _ _ w1 (Z0.row HL0.out) (Z1.row HL1.out)).mono ?_
        rintro _ w2 ⟨s0, s1, s2, s3, rfl, hY, hb⟩
        exact ⟨_, rfl, hb, s0, s1, s2, s3, rfl, hY.rrow S2.out⟩
      obtain ⟨_, s0, s1, s2, s3, rfl, hz⟩ := hv1
      have hW := hz.W.shape; have hE := hz.E.shape; have hH := hz.H.shape; have hT := hz.T.shape
      obtain ⟨⟨xh0, ch0, e0⟩, ⟨xh1, ch1, e1⟩, ⟨xh2, ch2, e2⟩, ⟨xh3, ch3, e3⟩⟩ := And.intro hW (And.intro hE (And.intro hH hT))
      obtain ⟨f0, f1, f2, f3⟩ := FF.out
      rw [f0] at e0; rw [f1] at e1; rw [f2] at e2; rw [f3] at e3
      subst e0 e1 e2 e3
      clear hW hE hH hT hz
      repeat (refine wpF_val rfl monoQ_end (by rintro _ ⟨⟩; rfl) ?_ (fun w1 hw1 => ?_) (fun K hK => ?_); rotate_left; (focus (have hF := FACT.out w1 hw1; go_simp; first | done | rfl)); go_simp; refine hK _ ?_; clear hK K)
      refine wpF_alloc rfl 15 rfl wh.heap.size nil4 25 rfl (fun w1 hw1 => hw1.size) (fun w1 => ?_) (fun p => ?_)
      · go_simp
      refine wpFacts_nil ?_
      intro w8 hC hF
      obtain ⟨hp, C1⟩ := fact_box rfl hF (by repeat (first | exact Or.inr ⟨rfl, rfl⟩ | refine Or.inl ?_))
      have hY := rtup_at (fact_of (d := 99) rfl hF (by repeat (first | exact Or.inr ⟨rfl, rfl⟩ | refine Or.inl ?_)))
      clear hF FACT c00 c01 c02 c03 c10 c11 c12 c13
      have q0 := C1.at 0 rfl; have q1 := C1.at 1 rfl; have q2 := C1.at 2 rfl; have q3 := C1.at 3 rfl; have qf := C1.fz
      have b3 : Below wh.heap.size wh ((((w8.setCell ⟨p, 0, none⟩ (.slice xh0 n0 ch0)).setCell ⟨p, 1, none⟩ (.slice xh1 n1 ch1)).setCell ⟨p, 2, none⟩ (.slice xh2 n2 ch2)).setCell ⟨p, 3, none⟩ (.slice xh3 n3 ch3)) := below_set4d hC hp _ _ _ _
      obtain ⟨R6, _⟩ := boxRod C1 hY
      have AW := A.out.kept (below_step BB.out hC)
      have a0 := AW.at 0 rfl; have a1 := AW.at 1 rfl; have a2 := AW.at 2 rfl; have a3 := AW.at 3 rfl
      have PN := show ¬ p = _ from Nat.ne_of_gt (Nat.lt_of_lt_of_le A.out.lt (Nat.le_trans BB.out.size hp))
      have PM := show ¬ _ = p from fun e => PN e.symm
      obtain ⟨wH, hwH⟩ : ∃ wH, (((w8.setCell ⟨p, 0, none⟩ (.slice xh0 n0 ch0)).setCell ⟨p, 1, none⟩ (.slice xh1 n1 ch1)).setCell ⟨p, 2, none⟩ (.slice xh2 n2 ch2)).setCell ⟨p, 3, none⟩ (.slice xh3 n3 ch3) = wH := ⟨_, rfl⟩
      rw [hwH] at R6 b3
      have HWH := Lib.hid hwH
      have BB := Lib.hid (below_step BB.out b3)
      have U := Lib.hid (U.out.kept b3)
      have GG := Lib.hid (GG.out.kept b3)
      have UU := Lib.hid (Nat.le_trans UU.out b3.size)
      have EQ2 := Lib.hid (eqRod_any _ _ _ _ _ _ _ _ S S wH R6 (Y.out.below BB.out) (SameRL.refl S))
      clear hY b3 f0 f1 f2 f3 hwH hC C1 AW R6
      go_wp2_with fail
      rw [show (((w8.setCell ⟨p, 0, none⟩ (.slice xh0 n0 ch0)).setCell ⟨p, 1, none⟩ (.slice xh1 n1 ch1)).setCell ⟨p, 2, none⟩ (.slice xh2 n2 ch2)).setCell ⟨p, 3, none⟩ (.slice xh3 n3 ch3) = wH from HWH.out]
      refine EQ2.out.mono ?_
      rintro _ w9 ⟨rfl, hb⟩
      clear a0 a1 a2 a3
      have BB := Lib.hid (below_step BB.out hb)
      have U := Lib.hid (U.out.kept hb)
      have GG := Lib.hid (GG.out.kept hb)
      have UU := Lib.hid (Nat.le_trans UU.out hb.size)
      clear hb
      have e0 := GG.out.at 0 rfl; have e1 := GG.out.at 1 rfl; have e2 := GG.out.at 2 rfl; have e3 := GG.out.at 3 rfl
      go_wp2_with fail
      refine (heldRodX U.out UU.out HSm.out).mono ?_
      rintro _ wl ⟨rfl, hb⟩
      have Bz := Lib.hid (below_step Bw.out (below_step BB.out hb))
      clear e0 e1 e2 e3 hb
      go_wp2
      go_ret
      exact Tru.below Bz.out
end Go.Proofs.Ytkbdidpodcclfaa
