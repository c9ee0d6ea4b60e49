/- Several texts in one, for a claim holds 60 files at most: LwFlows PsW CloF FwI FwW. -/
import Derived.Test.YtkbdidpodcclfaaYG
import Derived.Test.YtkbdidpodcclfaaYH
import Derived.Test.YtkbdidpodcclfaaYI
import Derived.Test.YtkbdidpodcclfaaYJ
import Derived.Lib.SliceRun

/- The law on FlowsInRod: the walk, for any answer that both sides give. -/
namespace Go.Proofs.Ytkbdidpodcclfaa
open Go.RowKit
set_option linter.unusedVariables false

set_option maxRecDepth 20000 in
set_option maxHeartbeats 12800000 in
theorem fnExactFlowsInRod_law (a0 b0 c0 d0 : Value) (r0 : RL) (k1 : Int) (p1 q1 : Nat) (k2 : Int) (p2 q2 : Nat) (ok : Bool) (S : List Nat) (hS : S.length ≤ 400)
    (cs : ∀ (a0 b0 c0 d0 : Value) (w1 : World) (h0 : RRow w1 a0 b0 c0 d0 r0), Calls Try.prog 27 #[.agg #[a0, b0, c0, d0], .agg #[.int .i64 k1, .float .f32 p1, .float .f32 q1], .agg #[.int .i64 k2, .float .f32 p2, .float .f32 q2]] w1 (LstB S ok w1))
    (ci : ∀ (a0 b0 c0 d0 : Value) (w1 : World) (h0 : RRow w1 a0 b0 c0 d0 r0), Calls Try.prog 29 #[.agg #[a0, b0, c0, d0], .agg #[.int .i64 k1, .float .f32 p1, .float .f32 q1], .agg #[.int .i64 k2, .float .f32 p2, .float .f32 q2]] w1 (LstO S ok w1))
    (w : World) (h0 : RRow w a0 b0 c0 d0 r0) : Calls Try.prog 7 #[.agg #[a0, b0, c0, d0], .agg #[.int .i64 k1, .float .f32 p1, .float .f32 q1], .agg #[.int .i64 k2, .float .f32 p2, .float .f32 q2]] w (Tru w) := by
  have CS := Lib.hid cs
  have CI := Lib.hid ci
  unfold LstB at CS
  unfold LstO at CI
  have HSm := Lib.hid hS
  have R0 := Lib.hid (fun w1 (hb : Below w.heap.size w w1) => h0.below hb)
  clear cs ci hS h0
  have L0 := ((Cells.made w [a0, b0, c0, d0] 31).al (.cells [.int .i64 k1, .float .f32 p1, .float .f32 q1].toArray 44)).al (.cells [.int .i64 k2, .float .f32 p2, .float .f32 q2].toArray 44)
  have L0 := Lib.hid L0
  have L1 := (Cells.made (w.alloc (.cells [a0, b0, c0, d0].toArray 31)) [.int .i64 k1, .float .f32 p1, .float .f32 q1] 44).al (.cells [.int .i64 k2, .float .f32 p2, .float .f32 q2].toArray 44)
  rw [show (w.alloc (.cells [a0, b0, c0, d0].toArray 31)).heap.size = w.heap.size + 1 from by simp] at L1
  have L1 := Lib.hid L1
  have L2 := Cells.made ((w.alloc (.cells [a0, b0, c0, d0].toArray 31)).alloc (.cells [.int .i64 k1, .float .f32 p1, .float .f32 q1].toArray 44)) [.int .i64 k2, .float .f32 p2, .float .f32 q2] 44
  rw [show ((w.alloc (.cells [a0, b0, c0, d0].toArray 31)).alloc (.cells [.int .i64 k1, .float .f32 p1, .float .f32 q1].toArray 44)).heap.size = w.heap.size + 2 from by simp] at L2
  have L2 := Lib.hid L2
  have Bw := Lib.hid (below_al3 w (.cells [a0, b0, c0, d0].toArray 31) (.cells [.int .i64 k1, .float .f32 p1, .float .f32 q1].toArray 44) (.cells [.int .i64 k2, .float .f32 p2, .float .f32 q2].toArray 44))
  by_cases hl0 : r0.size ≤ 1048576
  case neg =>
    have HO := Lib.hid (Nat.lt_of_not_le hl0)
    clear hl0
    go_enter Try.func7, Try.ntmps7
    go_wp2_with fail
    refine (szRod_over a0 b0 c0 d0 r0 1048576 _ (R0.out _ Bw.out) HO.out (Nat.le_refl _)).mono ?_
    rintro _ ws0 ⟨rfl, hb⟩
    have Bw := Lib.hid (below_step Bw.out hb)
    clear hb
    go_wp2
    go_ret
    exact Tru.below Bw.out
  case pos =>
    have HF0 := Lib.hid hl0
    have HL0 : Hid (r0.size ≤ 1048576) := Lib.hid hl0
    clear hl0
    go_enter Try.func7, Try.ntmps7
    go_wp2_with fail
    refine (szRod_fit a0 b0 c0 d0 r0 1048576 _ (R0.out _ Bw.out) HF0.out (Nat.le_refl _)).mono ?_
    rintro _ ws0 ⟨rfl, hb⟩
    have Bw := Lib.hid (below_step Bw.out hb); have L0 := Lib.hid (L0.out.kept hb); have L1 := Lib.hid (L1.out.kept hb); have L2 := Lib.hid (L2.out.kept hb)
    have c00 := (L0.out).at 0 rfl; have c01 := (L0.out).at 1 rfl; have c02 := (L0.out).at 2 rfl; have c03 := (L0.out).at 3 rfl; have c10 := (L1.out).at 0 rfl; have c11 := (L1.out).at 1 rfl; have c12 := (L1.out).at 2 rfl; have c20 := (L2.out).at 0 rfl; have c21 := (L2.out).at 1 rfl; have c22 := (L2.out).at 2 rfl
    clear hb
    go_wp2
    have FACT := Lib.hid (fun w1 (hw : Ext ws0 w1) => And.intro (hw.cell c00) (And.intro (hw.cell c01) (And.intro (hw.cell c02) (And.intro (hw.cell c03) (And.intro (hw.cell c10) (And.intro (hw.cell c11) (And.intro (hw.cell c12) (And.intro (hw.cell c20) (And.intro (hw.cell c21) (hw.cell c22))))))))))
    refine wp_region_facts (Ext ws0) (TS [(25, fRdAt r0), (27, fIs (.agg #[.int .i64 k1, .float .f32 p1, .float .f32 q1])), (29, fIs (.agg #[.int .i64 k2, .float .f32 p2, .float .f32 q2])), (30, fLB S ok)]) (Pers.ext _) (TS.pers _) (Ext.start _) (by kernel_rfl) (by kernel_rfl) (by intro d v c a w h; cases d <;> exact h) ?_
    repeat (refine wpF_val rfl monoQ_end (by rintro _ ⟨⟩; rfl) ?_ (fun w1 hw1 => ?_) (fun K hK => ?_); rotate_left; (focus (have hF := FACT.out w1 hw1; go_simp; first | done | rfl)); go_simp; refine hK _ ?_; clear hK K)
    refine wpF_callF rfl 25 rfl 18 #[.agg #[a0, b0, c0, d0]] (fRdAt r0) rfl (fun w1 => ?_) (fun w1 hC hN => ?_) (fun v1 hv1 => ?_)
    · go_simp
    · refine (toRod_any a0 b0 c0 d0 r0 w1 (R0.out _ (below_step Bw.out hC)) HL0.out).mono ?_
      rintro _ w2 ⟨q0, q1, q2, q3, rfl, hp, Z, hb⟩
      exact ⟨_, rfl, hb, q0, q1, q2, q3, rfl, Z⟩
    obtain ⟨_, za0, za1, za2, za3, rfl, _⟩ := hv1
    unfold ragV
    repeat (refine wpF_val rfl monoQ_end (by rintro _ ⟨⟩; rfl) ?_ (fun w1 hw1 => ?_) (fun K hK => ?_); rotate_left; (focus (have hF := FACT.out w1 hw1; go_simp; first | done | rfl)); go_simp; refine hK _ ?_; clear hK K)
    refine wpF_callV rfl 27 rfl 28 #[.agg #[.int .i64 k1, .float .f32 p1, .float .f32 q1]] (.agg #[.int .i64 k1, .float .f32 p1, .float .f32 q1]) rfl (fun w1 => ?_) (fun w1 _ => toEnd_any k1 p1 q1 w1) ?_
    · go_simp
    repeat (refine wpF_val rfl monoQ_end (by rintro _ ⟨⟩; rfl) ?_ (fun w1 hw1 => ?_) (fun K hK => ?_); rotate_left; (focus (have hF := FACT.out w1 hw1; go_simp; first | done | rfl)); go_simp; refine hK _ ?_; clear hK K)
    refine wpF_callV rfl 29 rfl 28 #[.agg #[.int .i64 k2, .float .f32 p2, .float .f32 q2]] (.agg #[.int .i64 k2, .float .f32 p2, .float .f32 q2]) rfl (fun w1 => ?_) (fun w1 _ => toEnd_any k2 p2 q2 w1) ?_
    · go_simp
    repeat (refine wpF_val rfl monoQ_end (by rintro _ ⟨⟩; rfl) ?_ (fun w1 hw1 => ?_) (fun K hK => ?_); rotate_left; (focus (have hF := FACT.out w1 hw1; go_simp; first | done | rfl)); go_simp; refine hK _ ?_; clear hK K)
    refine wpF_callF rfl 30 rfl 27 #[.agg #[sl za0 r0.W, sl za1 r0.E, sl za2 r0.H, sl za3 r0.T], .agg #[.int .i64 k1, .float .f32 p1, .float .f32 q1], .agg #[.int .i64 k2, .float .f32 p2, .float .f32 q2]] (fLB S ok) rfl (fun w1 => ?_) (fun w1 hC hN => ?_) (fun v1 hv1 => ?_)
    · go_simp
    · have Z := rod_at (fact_needR (d := 25) rfl hN (by kernel_rfl) (by repeat (first | exact Or.inr ⟨rfl, rfl⟩ | refine Or.inl ?_)))
      refine (CS.out _ _ _ _ w1 (Z.row HL0.out)).mono ?_
      rintro _ w2 ⟨v, zs, rfl, hY, hm, hb⟩
      exact ⟨_, rfl, hb, v, zs, rfl, hY, hm⟩
    obtain ⟨_, v0, _, rfl, _⟩ := hv1
    repeat (refine wpF_val rfl monoQ_end (by rintro _ ⟨⟩; rfl) ?_ (fun w1 hw1 => ?_) (fun K hK => ?_); rotate_left; (focus (have hF := FACT.out w1 hw1; go_simp; first | done | rfl)); go_simp; refine hK _ ?_; clear hK K)
    refine wpFacts_nil ?_
    intro wA hb hF
    obtain ⟨ys, hY, hm⟩ := lb_at (fact_of (d := 30) rfl hF (by repeat (first | exact Or.inr ⟨rfl, rfl⟩ | refine Or.inl ?_)))
    clear hF FACT c00 c01 c02 c03 c10 c11 c12 c20 c21 c22
    have Y := Lib.hid hY
    have MY := Lib.hid hm
    have Bw := Lib.hid (below_step Bw.out hb)
    have L0 := Lib.hid (L0.out.kept hb); have L1 := Lib.hid (L1.out.kept hb); have L2 := Lib.hid (L2.out.kept hb)
    have RA0 := Lib.hid (R0.out _ Bw.out)
    have BB := Lib.hid (Below.refl wA.heap.size wA)
    clear hb hY hm
    have c00 := (L0.out).at 0 rfl; have c01 := (L0.out).at 1 rfl; have c02 := (L0.out).at 2 rfl; have c03 := (L0.out).at 3 rfl; have c10 := (L1.out).at 0 rfl; have c11 := (L1.out).at 1 rfl; have c12 := (L1.out).at 2 rfl; have c20 := (L2.out).at 0 rfl; have c21 := (L2.out).at 1 rfl; have c22 := (L2.out).at 2 rfl
    go_wp2_with fail
    refine (toRod_any a0 b0 c0 d0 r0 _ (RA0.out.below BB.out) HL0.out).mono ?_
    rintro _ wx0 ⟨x00, x01, x02, x03, rfl, hp, V, hb⟩
    clear c00 c01 c02 c03 c10 c11 c12 c20 c21 c22
    have XL0 := Lib.hid (Nat.le_trans BB.out.size hp)
    have BB := Lib.hid (below_step BB.out hb)
    have V0 := Lib.hid V
    have BOX0 := Lib.hid (show x03 < wx0.heap.size from V0.out.T.lt)
    have ORD0 := Lib.hid (And.intro V0.out.o01 (And.intro V0.out.o12 V0.out.o23))
    clear V hp hb
    have X := Cells.made wx0 [.slice (some ⟨x00, 0, none⟩) r0.W.length r0.W.length, .slice (some ⟨x01, 0, none⟩) r0.E.length r0.E.length, .slice (some ⟨x02, 0, none⟩) r0.H.length r0.H.length, .slice (some ⟨x03, 0, none⟩) r0.T.length r0.T.length] 25
    have hb := below_al1 wx0 (.cells [Value.slice (some ⟨x00, 0, none⟩) r0.W.length r0.W.length, .slice (some ⟨x01, 0, none⟩) r0.E.length r0.E.length, .slice (some ⟨x02, 0, none⟩) r0.H.length r0.H.length, .slice (some ⟨x03, 0, none⟩) r0.T.length r0.T.length].toArray 25)
    have c00 := ((L0.out.kept BB.out).kept hb).at 0 rfl; have c01 := ((L0.out.kept BB.out).kept hb).at 1 rfl; have c02 := ((L0.out.kept BB.out).kept hb).at 2 rfl; have c03 := ((L0.out.kept BB.out).kept hb).at 3 rfl; have c10 := ((L1.out.kept BB.out).kept hb).at 0 rfl; have c11 := ((L1.out.kept BB.out).kept hb).at 1 rfl; have c12 := ((L1.out.kept BB.out).kept hb).at 2 rfl; have c20 := ((L2.out.kept BB.out).kept hb).at 0 rfl; have c21 := ((L2.out.kept BB.out).kept hb).at 1 rfl; have c22 := ((L2.out.kept BB.out).kept hb).at 2 rfl
    obtain ⟨wb0, hwb⟩ : ∃ wA, wx0.alloc (.cells [Value.slice (some ⟨x00, 0, none⟩) r0.W.length r0.W.length, .slice (some ⟨x01, 0, none⟩) r0.E.length r0.E.length, .slice (some ⟨x02, 0, none⟩) r0.H.length r0.H.length, .slice (some ⟨x03, 0, none⟩) r0.T.length r0.T.length].toArray 25) = wA := ⟨_, rfl⟩
    have hb2 := hb
    rw [hwb] at X hb2
    have HWB0 := Lib.hid hwb
    have X0 := Lib.hid X
    have V0 := Lib.hid (V0.out.kept hb2)
    have BB := Lib.hid (below_step BB.out hb2)
    have TOP0 := Lib.hid (Nat.lt_of_lt_of_le BOX0.out hb2.size)
    have XBX := Lib.hid X0.out.lt
    clear hb hb2 hwb X
    go_wp2
    rw [show wx0.alloc (.cells #[Value.slice (some ⟨x00, 0, none⟩) r0.W.length r0.W.length, .slice (some ⟨x01, 0, none⟩) r0.E.length r0.E.length, .slice (some ⟨x02, 0, none⟩) r0.H.length r0.H.length, .slice (some ⟨x03, 0, none⟩) r0.T.length r0.T.length] 25) = wb0 from HWB0.out]
    clear c00 c01 c02 c03 c10 c11 c12 c20 c21 c22
    have c00 := (L0.out.kept BB.out).at 0 rfl; have c01 := (L0.out.kept BB.out).at 1 rfl; have c02 := (L0.out.kept BB.out).at 2 rfl; have c03 := (L0.out.kept BB.out).at 3 rfl; have c10 := (L1.out.kept BB.out).at 0 rfl; have c11 := (L1.out.kept BB.out).at 1 rfl; have c12 := (L1.out.kept BB.out).at 2 rfl; have c20 := (L2.out.kept BB.out).at 0 rfl; have c21 := (L2.out.kept BB.out).at 1 rfl; have c22 := (L2.out.kept BB.out).at 2 rfl
    have d00 := X0.out.at 0 rfl; have d01 := X0.out.at 1 rfl; have d02 := X0.out.at 2 rfl; have d03 := X0.out.at 3 rfl
    have FACT := Lib.hid (fun w1 (hw : Ext wb0 w1) => And.intro (hw.cell c00) (And.intro (hw.cell c01) (And.intro (hw.cell c02) (And.intro (hw.cell c03) (And.intro (hw.cell c10) (And.intro (hw.cell c11) (And.intro (hw.cell c12) (And.intro (hw.cell c20) (And.intro (hw.cell c21) (And.intro (hw.cell c22) (And.intro (hw.cell d00) (And.intro (hw.cell d01) (And.intro (hw.cell d02) (hw.cell d03))))))))))))))
    refine wp_region_facts (Ext wb0) (TS [(38, fIs (.agg #[.int .i64 k1, .float .f32 p1, .float .f32 q1])), (40, fIs (.agg #[.int .i64 k2, .float .f32 p2, .float .f32 q2])), (41, fLO wb0.heap.size S ok)]) (Pers.ext _) (TS.pers _) (Ext.start _) (by kernel_rfl) (by kernel_rfl) (by intro d v c a w h; cases d <;> exact h) ?_
    repeat (refine wpF_val rfl monoQ_end (by rintro _ ⟨⟩; rfl) ?_ (fun w1 hw1 => ?_) (fun K hK => ?_); rotate_left; (focus (have hF := FACT.out w1 hw1; go_simp; first | done | rfl)); go_simp; refine hK _ ?_; clear hK K)
    refine wpF_callV rfl 38 rfl 28 #[.agg #[.int .i64 k1, .float .f32 p1, .float .f32 q1]] (.agg #[.int .i64 k1, .float .f32 p1, .float .f32 q1]) rfl (fun w1 => ?_) (fun w1 _ => toEnd_any k1 p1 q1 w1) ?_
    · go_simp
    repeat (refine wpF_val rfl monoQ_end (by rintro _ ⟨⟩; rfl) ?_ (fun w1 hw1 => ?_) (fun K hK => ?_); rotate_left; (focus (have hF := FACT.out w1 hw1; go_simp; first | done | rfl)); go_simp; refine hK _ ?_; clear hK K)
    refine wpF_callV rfl 40 rfl 28 #[.agg #[.int .i64 k2, .float .f32 p2, .float .f32 q2]] (.agg #[.int .i64 k2, .float .f32 p2, .float .f32 q2]) rfl (fun w1 => ?_) (fun w1 _ => toEnd_any k2 p2 q2 w1) ?_
    · go_simp
    repeat (refine wpF_val rfl monoQ_end (by rintro _ ⟨⟩; rfl) ?_ (fun w1 hw1 => ?_) (fun K hK => ?_); rotate_left; (focus (have hF := FACT.out w1 hw1; go_simp; first | done | rfl)); go_simp; refine hK _ ?_; clear hK K)
    refine wpF_callF rfl 41 rfl 29 #[.agg #[(sl x00 r0.W), (sl x01 r0.E), (sl x02 r0.H), (sl x03 r0.T)], .agg #[.int .i64 k1, .float .f32 p1, .float .f32 q1], .agg #[.int .i64 k2, .float .f32 p2, .float .f32 q2]] (fLO wb0.heap.size S ok) rfl (fun w1 => ?_) (fun w1 hC hN => ?_) (fun v1 hv1 => ?_)
    · go_simp
    · refine (CI.out _ _ _ _ w1 ((V0.out.kept hC).row HL0.out)).mono ?_
      rintro _ w2 ⟨v, zs, rfl, hO, hm, hb⟩
      exact ⟨_, rfl, hb, v, zs, rfl, hO.mono hC.size, hm⟩
    obtain ⟨_, v1, _, rfl, _⟩ := hv1
    repeat (refine wpF_val rfl monoQ_end (by rintro _ ⟨⟩; rfl) ?_ (fun w1 hw1 => ?_) (fun K hK => ?_); rotate_left; (focus (have hF := FACT.out w1 hw1; go_simp; first | done | rfl)); go_simp; refine hK _ ?_; clear hK K)
    refine wpFacts_nil ?_
    intro w2 hb hF
    obtain ⟨zs, hO, hm⟩ := lo_at (fact_of (d := 41) rfl hF (by repeat (first | exact Or.inr ⟨rfl, rfl⟩ | refine Or.inl ?_)))
    clear hF FACT d00 d01 d02 d03 c00 c01 c02 c03 c10 c11 c12 c20 c21 c22
    have U := Lib.hid hO
    have MZ := Lib.hid hm
    have ZL : Hid (zs.length ≤ 400) := Lib.hid (by rw [len_of_map hm]; exact HSm.out)
    have SM := Lib.hid (same_of_map hm MY.out)
    have BBS := Lib.hid BB.out.size
    have UU := Lib.hid hb.size
    have BB := Lib.hid (below_step BB.out hb)
    have X0 := Lib.hid (X0.out.kept hb)
    have V0 := Lib.hid (V0.out.kept hb)
    clear hb hO hm
    go_wp2_with fail
    refine (eqFB32 _ _ zs ys _ (U.out.frow (Nat.le_trans ZL.out (by decide))) (Y.out.below BB.out) SM.out).mono ?_
    rintro _ w3 ⟨rfl, hb⟩
    have BB := Lib.hid (below_step BB.out hb); have U := Lib.hid (U.out.kept hb); have UU := Lib.hid (Nat.le_trans UU.out hb.size); have X0 := Lib.hid (X0.out.kept hb); have V0 := Lib.hid (V0.out.kept hb)
    clear hb
    have c00 := (L0.out.kept BB.out).at 0 rfl; have c01 := (L0.out.kept BB.out).at 1 rfl; have c02 := (L0.out.kept BB.out).at 2 rfl; have c03 := (L0.out.kept BB.out).at 3 rfl; have c10 := (L1.out.kept BB.out).at 0 rfl; have c11 := (L1.out.kept BB.out).at 1 rfl; have c12 := (L1.out.kept BB.out).at 2 rfl; have c20 := (L2.out.kept BB.out).at 0 rfl; have c21 := (L2.out.kept BB.out).at 1 rfl; have c22 := (L2.out.kept BB.out).at 2 rfl
    have d00 := X0.out.at 0 rfl; have d01 := X0.out.at 1 rfl; have d02 := X0.out.at 2 rfl; have d03 := X0.out.at 3 rfl
    go_wp2
    have FACT := Lib.hid (fun w1 (hw : Ext w3 w1) => And.intro (hw.cell c00) (And.intro (hw.cell c01) (And.intro (hw.cell c02) (And.intro (hw.cell c03) (And.intro (hw.cell c10) (And.intro (hw.cell c11) (And.intro (hw.cell c12) (And.intro (hw.cell c20) (And.intro (hw.cell c21) (And.intro (hw.cell c22) (And.intro (hw.cell d00) (And.intro (hw.cell d01) (And.intro (hw.cell d02) (hw.cell d03))))))))))))))
    have RV := Lib.hid (RA0.out.below BB.out)
    refine wp_region_facts (Ext w3) (TS [(55, fRdAt r0), (56, fIs (.bool true))]) (Pers.ext _) (TS.pers _) (Ext.start _) (by kernel_rfl) (by kernel_rfl) (by intro d v c a w h; cases d <;> exact h) ?_
    repeat (refine wpF_val rfl monoQ_end (by rintro _ ⟨⟩; rfl) ?_ (fun w1 hw1 => ?_) (fun K hK => ?_); rotate_left; (focus (have hF := FACT.out w1 hw1; go_simp; first | done | rfl)); go_simp; refine hK _ ?_; clear hK K)
    refine wpF_callF rfl 55 rfl 18 #[.agg #[a0, b0, c0, d0]] (fRdAt r0) rfl (fun w1 => ?_) (fun w1 hC hN => ?_) (fun v1 hv1 => ?_)
    · go_simp
    · refine (toRod_any a0 b0 c0 d0 r0 w1 (RV.out.below hC) HL0.out).mono ?_
      rintro _ w2 ⟨q0, q1, q2, q3, rfl, hp, Z, hb⟩
      exact ⟨_, rfl, hb, q0, q1, q2, q3, rfl, Z⟩
    obtain ⟨_, za0, za1, za2, za3, rfl, _⟩ := hv1
    unfold ragV
    repeat (refine wpF_val rfl monoQ_end (by rintro _ ⟨⟩; rfl) ?_ (fun w1 hw1 => ?_) (fun K hK => ?_); rotate_left; (focus (have hF := FACT.out w1 hw1; go_simp; first | done | rfl)); go_simp; refine hK _ ?_; clear hK K)
    refine wpF_callF rfl 56 rfl 13 #[.agg #[(sl x00 r0.W), (sl x01 r0.E), (sl x02 r0.H), (sl x03 r0.T)], .agg #[sl za0 r0.W, sl za1 r0.E, sl za2 r0.H, sl za3 r0.T]] (fIs (.bool true)) rfl (fun w1 => ?_) (fun w1 hC hN => ?_) (fun v1 hv1 => ?_)
    · go_simp
    · have Z := rod_at (fact_needR (d := 55) rfl hN (by kernel_rfl) (by repeat (first | exact Or.inr ⟨rfl, rfl⟩ | refine Or.inl ?_)))
      refine (eqRod_any _ _ _ _ _ _ _ _ r0 r0 w1 ((V0.out.kept hC).row HL0.out) (Z.row HL0.out) (.refl _)).mono ?_
      rintro _ w2 ⟨rfl, hb⟩
      exact ⟨_, rfl, hb, rfl⟩
    obtain ⟨_, rfl⟩ := hv1
    repeat (refine wpF_val rfl monoQ_end (by rintro _ ⟨⟩; rfl) ?_ (fun w1 hw1 => ?_) (fun K hK => ?_); rotate_left; (focus (have hF := FACT.out w1 hw1; go_simp; first | done | rfl)); go_simp; refine hK _ ?_; clear hK K)
    refine wpFacts_nil ?_
    intro w4 hb _
    clear FACT RV d00 d01 d02 d03 c00 c01 c02 c03 c10 c11 c12 c20 c21 c22
    have BB := Lib.hid (below_step BB.out hb); have U := Lib.hid (U.out.kept hb); have UU := Lib.hid (Nat.le_trans UU.out hb.size); have X0 := Lib.hid (X0.out.kept hb); have V0 := Lib.hid (V0.out.kept hb)
    clear hb
    have d00 := X0.out.at 0 rfl; have d01 := X0.out.at 1 rfl; have d02 := X0.out.at 2 rfl; have d03 := X0.out.at 3 rfl
    go_wp2_with fail
    refine (markRod_at r0 x00 x01 x02 x03 _ V0.out (1) (by decide) HL0.out).mono ?_
    rintro _ wk0 ⟨rfl, ht⟩
    have BB := Lib.hid (BB.out.trans (ht.below (B := wA.heap.size) (fun k hk => Nat.le_trans XL0.out hk.1) BB.out.size))
    have U := Lib.hid (U.out.tur ht (fun j hj e => by have e' : x00 ≤ j ∧ j ≤ x03 := e; have := TOP0.out; omega))
    have UU := Lib.hid (Nat.le_trans UU.out ht.size)
    clear ht d00 d01 d02 d03
    go_wp2_with fail
    refine (eqFB32 _ _ zs ys _ (U.out.frow (Nat.le_trans ZL.out (by decide))) (Y.out.below BB.out) SM.out).mono ?_
    rintro _ wq ⟨rfl, hb⟩
    have BB := Lib.hid (below_step BB.out hb); have U := Lib.hid (U.out.kept hb); have UU := Lib.hid (Nat.le_trans UU.out hb.size)
    clear hb
    go_wp2_with fail
    refine (markO U.out ZL.out).mono ?_
    rintro _ wm ⟨rfl, hU, ht⟩
    have ht := ht UU.out
    have hb := Lib.hid ht
    have UU := Lib.hid (Nat.le_trans UU.out ht.size)
    have BB := Lib.hid (BB.out.trans (below_lower ht BBS.out))
    have U := Lib.hid hU
    clear hU ht hb
    go_wp2_with fail
    refine (heldO U.out ZL.out).mono ?_
    rintro _ _ ⟨rfl, rfl⟩
    have c00 := (L0.out.kept BB.out).at 0 rfl; have c01 := (L0.out.kept BB.out).at 1 rfl; have c02 := (L0.out.kept BB.out).at 2 rfl; have c03 := (L0.out.kept BB.out).at 3 rfl; have c10 := (L1.out.kept BB.out).at 0 rfl; have c11 := (L1.out.kept BB.out).at 1 rfl; have c12 := (L1.out.kept BB.out).at 2 rfl; have c20 := (L2.out.kept BB.out).at 0 rfl; have c21 := (L2.out.kept BB.out).at 1 rfl; have c22 := (L2.out.kept BB.out).at 2 rfl
    go_wp2
    have FACT := Lib.hid (fun w1 (hw : Ext wm w1) => And.intro (hw.cell c00) (And.intro (hw.cell c01) (And.intro (hw.cell c02) (And.intro (hw.cell c03) (And.intro (hw.cell c10) (And.intro (hw.cell c11) (And.intro (hw.cell c12) (And.intro (hw.cell c20) (And.intro (hw.cell c21) (hw.cell c22))))))))))
    refine wp_region_facts (Ext wm) (TS [(87, fRdAt r0), (89, fIs (.agg #[.int .i64 k1, .float .f32 p1, .float .f32 q1])), (91, fIs (.agg #[.int .i64 k2, .float .f32 p2, .float .f32 q2])), (92, fLB S ok)]) (Pers.ext _) (TS.pers _) (Ext.start _) (by kernel_rfl) (by kernel_rfl) (by intro d v c a w h; cases d <;> exact h) ?_
    repeat (refine wpF_val rfl monoQ_end (by rintro _ ⟨⟩; rfl) ?_ (fun w1 hw1 => ?_) (fun K hK => ?_); rotate_left; (focus (have hF := FACT.out w1 hw1; go_simp; first | done | rfl)); go_simp; refine hK _ ?_; clear hK K)
    refine wpF_callF rfl 87 rfl 18 #[.agg #[a0, b0, c0, d0]] (fRdAt r0) rfl (fun w1 => ?_) (fun w1 hC hN => ?_) (fun v1 hv1 => ?_)
    · go_simp
    · refine (toRod_any a0 b0 c0 d0 r0 w1 (RA0.out.below (below_step BB.out hC)) HL0.out).mono ?_
      rintro _ w2 ⟨q0, q1, q2, q3, rfl, hp, Z, hb⟩
      exact ⟨_, rfl, hb, q0, q1, q2, q3, rfl, Z⟩
    obtain ⟨_, za0, za1, za2, za3, rfl, _⟩ := hv1
    unfold ragV
    repeat (refine wpF_val rfl monoQ_end (by rintro _ ⟨⟩; rfl) ?_ (fun w1 hw1 => ?_) (fun K hK => ?_); rotate_left; (focus (have hF := FACT.out w1 hw1; go_simp; first | done | rfl)); go_simp; refine hK _ ?_; clear hK K)
    refine wpF_callV rfl 89 rfl 28 #[.agg #[.int .i64 k1, .float .f32 p1, .float .f32 q1]] (.agg #[.int .i64 k1, .float .f32 p1, .float .f32 q1]) rfl (fun w1 => ?_) (fun w1 _ => toEnd_any k1 p1 q1 w1) ?_
    · go_simp
    repeat (refine wpF_val rfl monoQ_end (by rintro _ ⟨⟩; rfl) ?_ (fun w1 hw1 => ?_) (fun K hK => ?_); rotate_left; (focus (have hF := FACT.out w1 hw1; go_simp; first | done | rfl)); go_simp; refine hK _ ?_; clear hK K)
    refine wpF_callV rfl 91 rfl 28 #[.agg #[.int .i64 k2, .float .f32 p2, .float .f32 q2]] (.agg #[.int .i64 k2, .float .f32 p2, .float .f32 q2]) rfl (fun w1 => ?_) (fun w1 _ => toEnd_any k2 p2 q2 w1) ?_
    · go_simp
    repeat (refine wpF_val rfl monoQ_end (by rintro _ ⟨⟩; rfl) ?_ (fun w1 hw1 => ?_) (fun K hK => ?_); rotate_left; (focus (have hF := FACT.out w1 hw1; go_simp; first | done | rfl)); go_simp; refine hK _ ?_; clear hK K)
    refine wpF_callF rfl 92 rfl 29 #[.agg #[sl za0 r0.W, sl za1 r0.E, sl za2 r0.H, sl za3 r0.T], .agg #[.int .i64 k1, .float .f32 p1, .float .f32 q1], .agg #[.int .i64 k2, .float .f32 p2, .float .f32 q2]] (fLB S ok) rfl (fun w1 => ?_) (fun w1 hC hN => ?_) (fun v1 hv1 => ?_)
    · go_simp
    · have Z := rod_at (fact_needR (d := 87) rfl hN (by kernel_rfl) (by repeat (first | exact Or.inr ⟨rfl, rfl⟩ | refine Or.inl ?_)))
      refine (CI.out _ _ _ _ w1 (Z.row HL0.out)).mono ?_
      rintro _ w2 ⟨v, zs, rfl, hY, hm, hb⟩
      exact ⟨_, rfl, hb, v, zs, rfl, hY.frow (by rw [len_of_map hm]; exact Nat.le_trans HSm.out (by decide)), hm⟩
    obtain ⟨_, v2, _, rfl, _⟩ := hv1
    repeat (refine wpF_val rfl monoQ_end (by rintro _ ⟨⟩; rfl) ?_ (fun w1 hw1 => ?_) (fun K hK => ?_); rotate_left; (focus (have hF := FACT.out w1 hw1; go_simp; first | done | rfl)); go_simp; refine hK _ ?_; clear hK K)
    refine wpFacts_nil ?_
    intro wH hb hF
    obtain ⟨zs2, hY, hm⟩ := lb_at (fact_of (d := 92) rfl hF (by repeat (first | exact Or.inr ⟨rfl, rfl⟩ | refine Or.inl ?_)))
    clear hF FACT c00 c01 c02 c03 c10 c11 c12 c20 c21 c22
    have BB := Lib.hid (below_step BB.out hb); have U := Lib.hid (U.out.kept hb); have UU := Lib.hid (Nat.le_trans UU.out hb.size)
    have SM2 := Lib.hid (same_of_map hm MY.out)
    have EQ2 := Lib.hid (eqFB32 _ _ zs2 ys _ hY (Y.out.below BB.out) SM2.out)
    clear hb hY hm
    go_wp2_with fail
    refine EQ2.out.mono ?_
    rintro _ w9 ⟨rfl, hb⟩
    have BB := Lib.hid (below_step BB.out hb); have U := Lib.hid (U.out.kept hb); have UU := Lib.hid (Nat.le_trans UU.out hb.size)
    clear hb
    go_wp2_with fail
    refine (heldO U.out ZL.out).mono ?_
    rintro _ _ ⟨rfl, rfl⟩
    have Bz := Lib.hid (below_step Bw.out BB.out)
    go_wp2
    go_ret
    exact Tru.below Bz.out
end Go.Proofs.Ytkbdidpodcclfaa

/- The passes of a rod: the program's answer. -/
namespace Go.Proofs.Ytkbdidpodcclfaa
open Go.RowKit
set_option linter.unusedVariables false

set_option maxHeartbeats 1600000 in
set_option maxRecDepth 4000 in
theorem implPs_no (a b c d : Value) (r : RL) (kl : Int) (xl yl : Nat) (kr : Int) (xr yr : Nat) (w : World) (h : RRow w a b c d r) (hn : enB r kl xl yl kr xr yr = false) :
    Calls Try.prog 54 #[.agg #[a, b, c, d], .agg #[.int .i64 kl, .float .f32 xl, .float .f32 yl], .agg #[.int .i64 kr, .float .f32 xr, .float .f32 yr]] w fun e w' => e = .returned (.tuple #[.slice none 0 0, .bool false]) ∧ Below w.heap.size w w' := by
  have bb := below_al3 w (.cells [a, b, c, d].toArray 25) (.cells [Value.int .i64 kl, .float .f32 xl, .float .f32 yl].toArray 47) (.cells [Value.int .i64 kr, .float .f32 xr, .float .f32 yr].toArray 47)
  have A := Lib.hid (((Cells.made w [a, b, c, d] 25).al (.cells [Value.int .i64 kl, .float .f32 xl, .float .f32 yl].toArray 47)).al (.cells [Value.int .i64 kr, .float .f32 xr, .float .f32 yr].toArray 47))
  have E1 := (Cells.made (w.alloc (.cells [a, b, c, d].toArray 25)) [.int .i64 kl, .float .f32 xl, .float .f32 yl] 47).al (.cells [Value.int .i64 kr, .float .f32 xr, .float .f32 yr].toArray 47)
  rw [show (w.alloc (.cells [a, b, c, d].toArray 25)).heap.size = w.heap.size + 1 from by simp] at E1
  have E1 := Lib.hid E1
  have E2 := Cells.made ((w.alloc (.cells [a, b, c, d].toArray 25)).alloc (.cells [Value.int .i64 kl, .float .f32 xl, .float .f32 yl].toArray 47)) [.int .i64 kr, .float .f32 xr, .float .f32 yr] 47
  rw [show ((w.alloc (.cells [a, b, c, d].toArray 25)).alloc (.cells [Value.int .i64 kl, .float .f32 xl, .float .f32 yl].toArray 47)).heap.size = w.heap.size + 2 from by simp] at E2
  have E2 := Lib.hid E2
  have Bw := Lib.hid bb
  have IV := Lib.hid (implValid_any _ _ _ _ r _ (h.below bb))
  have I1 := Lib.hid (fun w1 => implVEnd_any kl xl yl w1)
  have I2 := Lib.hid (fun w1 => implVEnd_any kr xr yr w1)
  unfold endV at I1 I2
  unfold enB at hn
  clear h bb
  cases hv : vRod r
  · rw [hv] at IV
    clear hn
    go_enter Try.func54, Try.ntmps54
    go_wp2_with fail
    refine IV.out.mono ?_
    rintro _ w1 ⟨rfl, hb⟩
    have Bw := Lib.hid (below_step Bw.out hb)
    clear hb
    go_wp2
    go_ret2
    exact ⟨rfl, Bw.out⟩
  · rw [hv] at IV
    cases hl : vEnd kl xl yl
    · rw [hl] at I1
      clear hn
      go_enter Try.func54, Try.ntmps54
      go_wp2_with fail
      refine IV.out.mono ?_
      rintro _ w1 ⟨rfl, hb⟩
      have A := Lib.hid (A.out.kept hb); have E1 := Lib.hid (E1.out.kept hb); have E2 := Lib.hid (E2.out.kept hb); have Bw := Lib.hid (below_step Bw.out hb); have c0 := E1.out.at 0 rfl; have c1 := E1.out.at 1 rfl; have c2 := E1.out.at 2 rfl
      clear hb
      go_wp2_with fail
      refine (I1.out _).mono ?_
      rintro _ w2 ⟨rfl, hb⟩
      have Bw := Lib.hid (below_step Bw.out hb)
      clear hb
      go_wp2
      go_ret2
      exact ⟨rfl, Bw.out⟩
    · rw [hl] at I1
      have hr : vEnd kr xr yr = false := by simpa [hv, hl] using hn
      rw [hr] at I2
      clear hn
      go_enter Try.func54, Try.ntmps54
      go_wp2_with fail
      refine IV.out.mono ?_
      rintro _ w1 ⟨rfl, hb⟩
      have A := Lib.hid (A.out.kept hb); have E1 := Lib.hid (E1.out.kept hb); have E2 := Lib.hid (E2.out.kept hb); have Bw := Lib.hid (below_step Bw.out hb); have c0 := E1.out.at 0 rfl; have c1 := E1.out.at 1 rfl; have c2 := E1.out.at 2 rfl
      clear hb
      go_wp2_with fail
      refine (I1.out _).mono ?_
      rintro _ w2 ⟨rfl, hb⟩
      have A := Lib.hid (A.out.kept hb); have E1 := Lib.hid (E1.out.kept hb); have E2 := Lib.hid (E2.out.kept hb); have Bw := Lib.hid (below_step Bw.out hb); have e0 := E2.out.at 0 rfl; have e1 := E2.out.at 1 rfl; have e2 := E2.out.at 2 rfl
      clear hb
      go_wp2_with fail
      refine (I2.out _).mono ?_
      rintro _ w3 ⟨rfl, hb⟩
      have Bw := Lib.hid (below_step Bw.out hb)
      clear hb
      go_wp2
      go_ret2
      exact ⟨rfl, Bw.out⟩
theorem implPs_yes (a b c d : Value) (r : RL) (kl : Int) (xl yl : Nat) (kr : Int) (xr yr : Nat) (w : World) (h : RRow w a b c d r) (he : enB r kl xl yl kr xr yr = true) :
    Calls Try.prog 54 #[.agg #[a, b, c, d], .agg #[.int .i64 kl, .float .f32 xl, .float .f32 yl], .agg #[.int .i64 kr, .float .f32 xr, .float .f32 yr]] w (PsO (pL r r.W.length kl yl kr yr) w) := by
  have hv : vRod r = true ∧ vEnd kl xl yl = true ∧ vEnd kr xr yr = true := by unfold enB at he; simp only [Bool.and_eq_true] at he; exact ⟨he.1.1, he.1.2, he.2⟩
  obtain ⟨b0, o0, k0, b1, o1, k1, b2, o2, k2, b3, o3, k3, rfl, rfl, rfl, rfl, hL⟩ := h.lay (Len.ofV hv.1)
  rcases kOk_cases (vEnd_kOk hv.2.1) with hk | hk | hk
  · subst hk; exact implPs0_any r xl yl kr xr yr w hL h hv.1 rfl hv.2.1 hv.2.2
  · subst hk; exact implPs1_any r xl yl kr xr yr w hL h hv.1 rfl hv.2.1 hv.2.2
  · subst hk; exact implPs2_any r xl yl kr xr yr w hL h hv.1 rfl hv.2.1 hv.2.2
end Go.Proofs.Ytkbdidpodcclfaa

/- Copies of lists, as the library makes them: numbers. -/
namespace Go.Proofs.Ytkbdidpodcclfaa
open Go.RowKit
set_option linter.unusedVariables false

/-- a whole list appended -/
theorem wpList_catF {ops : Array Oper} {rest : List Oper} {o : Oper} {a : Act} {Q : Exit → Act → World → Prop} {w : World} (hgd : o.guard = none) (s x : Operand)
    (ho : o.op = .call { callee := .builtin .append, args := #[s, x], argTypes := #[23, 23] })
    (base : Nat) (v : Value) (zs ys : List Nat) (hs : a.eval s = v) (hown : Own w base v zs) (q off c : Nat) (hx : a.eval x = .slice (some ⟨q, off, none⟩) ys.length c) (hq : ∀ i, i < ys.length → w.cell? ⟨q, off + i, none⟩ = some (.float .f32 (ys.getD i 0)))
    (hk : zs.length ≤ 1048576) (hk2 : ys.length ≤ 1048576) (hbase : base ≤ w.heap.size)
    (h : ∀ v' w', Own w' base v' (zs ++ ys) → Below base w w' → wpList Try.prog ops Q rest (a.put o.dst v') w') : wpList Try.prog ops Q (o :: rest) a w := by
  obtain ⟨i, hi, hz, hsz, hby⟩ := info32
  have hm : maxLen = 9223372036854775807 := rfl
  refine wpList_append_own w hgd s x _ ho base 22 i (.float .f32 0) 1 4 Try.underlying23 hi hz hsz hby rfl (by decide) v zs.length (fl zs) hs hown ⟨q, off, none⟩ ys.length c (fl ys) hx (by simp [fl]) (fun j u hj => ?_) (fun u hu => ?_) (by omega) (by omega) hbase (fun v' w' h1 h2 _ => ?_)
  · have hjl : j < ys.length := by
      by_cases hl : j < ys.length
      · exact hl
      · rw [List.getElem?_eq_none (by simpa [fl] using hl)] at hj
        cases hj
    have e : u = .float .f32 (ys.getD j 0) := by
      simp [fl, hjl] at hj
      simp [← hj, List.getD_eq_getElem?_getD, hjl]
    rw [e]
    have h2 := hq j hjl
    by_cases hj0 : j = 0
    · subst hj0
      first | (simp [Addr.add]; done) | simpa [Addr.add] using h2
    · first | (simp [Addr.add, hj0]; done) | simpa [Addr.add, hj0] using h2
  · simp [fl] at hu
    obtain ⟨z, _, rfl⟩ := hu
    rfl
  · refine h v' w' ?_ ((Below.refl base w).grown h2 hbase (fun k hk => (World.ownsRow.lt hown k hk).1))
    unfold Own
    simpa [fl] using h1

theorem cloneF_any (q off c : Nat) (zs : List Nat) (w : World) (hc : ∀ i, i < zs.length → w.cell? ⟨q, off + i, none⟩ = some (.float .f32 (zs.getD i 0))) (hl : zs.length ≤ 1048576) :
    Calls Try.prog 55 #[.slice (some ⟨q, off, none⟩) zs.length c] w fun e w' => ∃ v', e = .returned v' ∧ Own w' w.heap.size v' zs ∧ Below w.heap.size w w' := by
  have qT : ∀ (w : World) (a : Option Addr) (n c n' c' : Nat), (binOp .eql 23 (.slice a n c) (.slice none n' c')).run Try.prog w = .ok (.bool a.isNone) w := fun w a n c n' c' => Lib.run_eql_slice_nil w _ _ a n c n' c' Try.underlying23
  have HC := Lib.hid (fun w' (hb : Below w.heap.size w w') i (hi : i < zs.length) => (hb.cell (p := ⟨q, off + i, none⟩) (cell_lt (hc i hi))).trans (hc i hi))
  have O0 := Lib.hid (Own.empty w w.heap.size (Nat.le_refl _))
  have HL := Lib.hid hl
  clear hc hl
  go_enter Try.func55, Try.ntmps55
  go_wp2_with (at_builtin; refine wpList_catF rfl _ _ rfl w.heap.size _ [] zs rfl O0.out q off c rfl (HC.out _ (below_al1 _ _)) (by simp) HL.out (by simp) ?_; intro v' w1 hown hb; have O1 := Lib.hid hown; have B1 := Lib.hid hb; clear hown hb)
  go_ret
  exact ⟨_, rfl, O1.out, (below_al1 _ _).trans B1.out⟩
end Go.Proofs.Ytkbdidpodcclfaa

/- The flows of a rod: the program's answer. -/
namespace Go.Proofs.Ytkbdidpodcclfaa
open Go.RowKit
set_option linter.unusedVariables false

theorem Own.low {w : World} {b b' : Nat} {v : Value} {zs : List Nat} (h : Own w b v zs) (hb : b' ≤ b) : Own w b' v zs := by
  refine ⟨h.1, ?_⟩
  rcases h.2 with h' | ⟨g, cap, cur, hv, hg, rest⟩
  · exact .inl h'
  · exact .inr ⟨g, cap, cur, hv, Nat.le_trans hb hg, rest⟩
/-- the warmth behind the left side of cell k -/
def bfV (r : RL) (xl xr k : Nat) : Nat := if k = 0 then xl else (r.T ++ [xr]).getD (k - 1) 0
theorem wV_bf (r : RL) (n xl xr k : Nat) (hn : r.T.length = n) (hp : 1 ≤ n) (hk : k < n + 1) : fop .sub .f32 (cn .f32 (bfV r xl xr k)) (cn .f32 ((r.T ++ [xr]).getD k 0)) = wV r n xl xr k := by
  have g1 : ∀ i, i < n → (r.T ++ [xr]).getD i 0 = r.T.getD i 0 := fun i hi => by simp [List.getD_eq_getElem?_getD, List.getElem?_append_left (show i < r.T.length by omega)]
  have g2 : (r.T ++ [xr]).getD n 0 = xr := by subst hn; simp [List.getD_eq_getElem?_getD]
  unfold bfV wV
  by_cases h0 : k = 0
  · subst h0; rw [if_pos rfl, if_pos rfl, g1 0 (by omega)]
  · rw [if_neg h0, if_neg h0, g1 (k - 1) (by omega)]
    by_cases h1 : k < n
    · rw [if_pos h1, g1 k h1]
    · rw [if_neg h1, show k = n by omega, g2]
theorem bfV_succ (r : RL) (xl xr k : Nat) : bfV r xl xr (k + 1) = (r.T ++ [xr]).getD k 0 := by unfold bfV; rw [if_neg (by omega), Nat.add_sub_cancel]
set_option maxHeartbeats 6400000 in
set_option maxRecDepth 8000 in
theorem implFw_any (a b c d : Value) (r : RL) (kl : Int) (xl yl : Nat) (kr : Int) (xr yr : Nat) (w : World) (h : RRow w a b c d r) :
    Calls Try.prog 29 #[.agg #[a, b, c, d], .agg #[.int .i64 kl, .float .f32 xl, .float .f32 yl], .agg #[.int .i64 kr, .float .f32 xr, .float .f32 yr]] w (LstO (fwS r kl xl yl kr xr yr) (fwB r kl xl yl kr xr yr) w) := by
  unfold fwS fwB
  cases he : enB r kl xl yl kr xr yr
  · have H := Lib.hid (fun w1 (hb : Below w.heap.size w w1) => implPs_no a b c d r kl xl yl kr xr yr w1 (h.below hb) he)
    have bb := below_al3 w (.cells [a, b, c, d].toArray 25) (.cells [Value.int .i64 kl, .float .f32 xl, .float .f32 yl].toArray 47) (.cells [Value.int .i64 kr, .float .f32 xr, .float .f32 yr].toArray 47)
    have A := Lib.hid (((Cells.made w [a, b, c, d] 25).al (.cells [Value.int .i64 kl, .float .f32 xl, .float .f32 yl].toArray 47)).al (.cells [Value.int .i64 kr, .float .f32 xr, .float .f32 yr].toArray 47))
    have E1 := (Cells.made (w.alloc (.cells [a, b, c, d].toArray 25)) [.int .i64 kl, .float .f32 xl, .float .f32 yl] 47).al (.cells [Value.int .i64 kr, .float .f32 xr, .float .f32 yr].toArray 47)
    rw [show (w.alloc (.cells [a, b, c, d].toArray 25)).heap.size = w.heap.size + 1 from by simp] at E1
    have E1 := Lib.hid E1
    have E2 := Cells.made ((w.alloc (.cells [a, b, c, d].toArray 25)).alloc (.cells [Value.int .i64 kl, .float .f32 xl, .float .f32 yl].toArray 47)) [.int .i64 kr, .float .f32 xr, .float .f32 yr] 47
    rw [show ((w.alloc (.cells [a, b, c, d].toArray 25)).alloc (.cells [Value.int .i64 kl, .float .f32 xl, .float .f32 yl].toArray 47)).heap.size = w.heap.size + 2 from by simp] at E2
    have E2 := Lib.hid E2
    have Bw := Lib.hid bb
    clear h bb he
    go_enter Try.func29, Try.ntmps29
    go_wp2_with fail
    refine (H.out _ Bw.out).mono ?_
    rintro _ w1 ⟨rfl, hb⟩
    have Bw := Lib.hid (below_step Bw.out hb)
    clear hb
    go_wp2
    go_ret2
    exact LstO.no Bw.out
  · have hv : vRod r = true := by unfold enB at he; simp only [Bool.and_eq_true] at he; exact he.1.1
    have LN := Len.ofV hv
    obtain ⟨b0, o0, k0, b1, o1, k1, b2, o2, k2, b3, o3, k3, rfl, rfl, rfl, rfl, hL⟩ := h.lay LN
    have H := Lib.hid (fun w1 (hb : Below w.heap.size w w1) => implPs_yes _ _ _ _ r kl xl yl kr xr yr w1 (h.below hb) he)
    obtain ⟨n, hn⟩ : ∃ n, r.W.length = n := ⟨_, rfl⟩
    rw [hn] at LN hL h H ⊢
    have LYF := Lib.hid (fun w1 (hb : Below w.heap.size w w1) => hL.below hb)
    have HP := Lib.hid LN.p; have HQ := Lib.hid LN.q; have HT := Lib.hid LN.T
    have bb := below_al3 w (.cells [Value.slice (some ⟨b0, o0, none⟩) n k0, .slice (some ⟨b1, o1, none⟩) n k1, .slice (some ⟨b2, o2, none⟩) n k2, .slice (some ⟨b3, o3, none⟩) n k3].toArray 25) (.cells [Value.int .i64 kl, .float .f32 xl, .float .f32 yl].toArray 47) (.cells [Value.int .i64 kr, .float .f32 xr, .float .f32 yr].toArray 47)
    have A := Lib.hid (((Cells.made w [.slice (some ⟨b0, o0, none⟩) n k0, .slice (some ⟨b1, o1, none⟩) n k1, .slice (some ⟨b2, o2, none⟩) n k2, .slice (some ⟨b3, o3, none⟩) n k3] 25).al (.cells [Value.int .i64 kl, .float .f32 xl, .float .f32 yl].toArray 47)).al (.cells [Value.int .i64 kr, .float .f32 xr, .float .f32 yr].toArray 47))
    have E1 := (Cells.made (w.alloc (.cells [Value.slice (some ⟨b0, o0, none⟩) n k0, .slice (some ⟨b1, o1, none⟩) n k1, .slice (some ⟨b2, o2, none⟩) n k2, .slice (some ⟨b3, o3, none⟩) n k3].toArray 25)) [.int .i64 kl, .float .f32 xl, .float .f32 yl] 47).al (.cells [Value.int .i64 kr, .float .f32 xr, .float .f32 yr].toArray 47)
    rw [show (w.alloc (.cells [Value.slice (some ⟨b0, o0, none⟩) n k0, .slice (some ⟨b1, o1, none⟩) n k1, .slice (some ⟨b2, o2, none⟩) n k2, .slice (some ⟨b3, o3, none⟩) n k3].toArray 25)).heap.size = w.heap.size + 1 from by simp] at E1
    have E1 := Lib.hid E1
    have E2 := Cells.made ((w.alloc (.cells [Value.slice (some ⟨b0, o0, none⟩) n k0, .slice (some ⟨b1, o1, none⟩) n k1, .slice (some ⟨b2, o2, none⟩) n k2, .slice (some ⟨b3, o3, none⟩) n k3].toArray 25)).alloc (.cells [Value.int .i64 kl, .float .f32 xl, .float .f32 yl].toArray 47)) [.int .i64 kr, .float .f32 xr, .float .f32 yr] 47
    rw [show ((w.alloc (.cells [Value.slice (some ⟨b0, o0, none⟩) n k0, .slice (some ⟨b1, o1, none⟩) n k1, .slice (some ⟨b2, o2, none⟩) n k2, .slice (some ⟨b3, o3, none⟩) n k3].toArray 25)).alloc (.cells [Value.int .i64 kl, .float .f32 xl, .float .f32 yl].toArray 47)).heap.size = w.heap.size + 2 from by simp] at E2
    have E2 := Lib.hid E2
    have Bw := Lib.hid bb
    have HBS := Lib.hid (show w.heap.size + 3 ≤ _ from E2.out.lt)
    clear he h hL bb hv LN hn
    go_enter Try.func29, Try.ntmps29
    go_wp2_with fail
    refine (H.out _ Bw.out).mono ?_
    rintro _ w1 ⟨hb, (⟨hf, v0, ps, rfl, hz, hm⟩ | ⟨hf, rfl⟩)⟩
    case inr =>
      have Bw := Lib.hid (below_step Bw.out hb)
      have HF := Lib.hid hf
      clear hb hf
      go_wp2
      go_ret2
      rw [show fsB r n kl xl yl kr xr yr = false from by unfold fsB; rw [HF.out]; rfl]
      exact LstO.no Bw.out
    case inl =>
      obtain ⟨hl, hv⟩ := map_at (S := ps) (show ps.map (cn .f32) = (List.range (n + 1)).map (pV r n kl yl kr yr) from hm)
      obtain ⟨bz, oz, cz, rfl, hc⟩ := hz.cells (by omega)
      rw [hl]
      have ZC := Lib.hid (fun w' (hb : Below w1.heap.size w1 w') i (hi : i < n + 1) => (hb.cell (p := ⟨bz, oz + i, none⟩) (cell_lt (hc i (by omega)))).trans (hc i (by omega)))
      have PV := Lib.hid hv
      have HF := Lib.hid hf
      have HBS := Lib.hid (Nat.le_trans HBS.out hb.size)
      have A := Lib.hid (A.out.kept hb); have E1 := Lib.hid (E1.out.kept hb); have E2 := Lib.hid (E2.out.kept hb); have Bw := Lib.hid (below_step Bw.out hb)
      clear hb hf hz hm hl hv hc H
      have c0 := E1.out.at 0 rfl; have c1 := E1.out.at 1 rfl; have c2 := E1.out.at 2 rfl; have e0 := E2.out.at 0 rfl; have e1 := E2.out.at 1 rfl; have e2 := E2.out.at 2 rfl; have a3 := A.out.at 3 rfl
      obtain ⟨N, hN⟩ : ∃ N, N = n + 1 := ⟨_, rfl⟩
      rw [← hN] at ZC PV ⊢
      have HN := Lib.hid hN
      have hmk1 : (0 : Int) ≤ (N : Int) := by omega
      have hmk2 : N ≤ 49 := by have := HQ.out; omega
      clear hN
      have hmk := run_make_row' (P := Try.prog) 23 22 (.float .f32 0) 4 Try.underlying23 Try.rowOf32 rfl .i64 .i64 N (by omega) (by omega)
      have R0 := Lib.hid ((World.rowIs_made w1 (.float .f32 0) N 22).congr (g := fun j => .float .f32 ((fun _ => 0 : Nat → Nat) j)) (fun j _ => rfl))
      have ba := below_al1 w1 (.cells (madeCells #[Value.float .f32 0] N) 22)
      have A := Lib.hid (A.out.kept ba); have E1 := Lib.hid (E1.out.kept ba); have E2 := Lib.hid (E2.out.kept ba)
      have ZS : (w1.alloc (.cells (madeCells #[Value.float .f32 0] N) 22)).heap.size = w1.heap.size + 1 := by simp
      obtain ⟨ws, hws⟩ : ∃ ws, w1.alloc (.cells (madeCells #[Value.float .f32 0] N) 22) = ws := ⟨_, rfl⟩
      rw [hws] at ba A E1 E2 R0 ZS
      have HWS := Lib.hid hws
      have BA := Lib.hid ba
      have SZ := Lib.hid ZS
      clear hws ba ZS c0 c1 c2 e0 e1 e2 a3
      have a3 := A.out.at 3 rfl; have x1 := E1.out.at 1 rfl; have x2 := E2.out.at 1 rfl
      have b1 := (A.out).at 0 rfl
      clear b1
      have l1 := E1.out.at 1 rfl
      have z1 : (w1.alloc (.cells (madeCells #[Value.float .f32 0] N) 22)).cell? ⟨w.heap.size + 1, 1, none⟩ = some (.float .f32 xl) := by rw [HWS.out]; exact l1
      go_wp2
      rw [show w1.alloc (.cells (madeCells #[Value.float .f32 0] N) 22) = ws from HWS.out]
      have hN1 : 1 ≤ N := by have := HN.out; omega
      have hT1 : r.T.length ≤ 1048576 := by rw [HT.out]; have := HQ.out; omega
      have LY := Lib.hid (LYF.out ws (below_step Bw.out BA.out))
      have AB : Hid (w.heap.size + 3 ≤ w1.heap.size) := HBS
      have LNT : Hid ((r.T ++ [xr]).length = N) := Lib.hid (by rw [List.length_append, HT.out, HN.out]; rfl)
      have CL := Lib.hid (fun w2 (hT : ∀ i, i < n → w2.cell? ⟨b3, o3 + i, none⟩ = some (.float .f32 (r.T.getD i 0))) => (by
        have hc := cloneF_any b3 o3 k3 r.T w2 (by rw [HT.out]; exact hT) (by rw [HT.out]; have := HQ.out; omega)
        rw [HT.out] at hc
        exact hc : Calls Try.prog 55 #[.slice (some ⟨b3, o3, none⟩) n k3] w2 fun e w' => ∃ v', e = .returned v' ∧ Own w' w2.heap.size v' r.T ∧ Below w2.heap.size w2 w'))
      go_region_held3 (fun w' => w'.cell? ⟨w.heap.size, 3, none⟩ = some (.slice (some ⟨b3, o3, none⟩) n k3) ∧ w'.cell? ⟨w.heap.size + 2, 1, none⟩ = some (.float .f32 xr)) (first | exact ⟨a3, x2⟩ | exact ⟨(A.out.al _).at 3 rfl, (E2.out.al _).at 1 rfl⟩)
        (first
        | (go_at_call 55; (first | refine (CL.out _ (LY.out.below (below_drewN (Below.refl _ _) 1)).T).mono ?_ | refine (CL.out _ ((LY.out.below (below_drewN (Below.refl _ _) 1)).below (below_al1 _ _)).T).mono ?_ | refine (CL.out _ (LY.out.below (below_al1 _ _)).T).mono ?_ | refine (CL.out _ LY.out.T).mono ?_); rintro e w' ⟨v', rfl, hO, hb⟩; (first | (have O := Lib.hid (hO.low (Nat.le_of_eq SZ.out.symm))) | (have O := Lib.hid (hO.low (Nat.le_trans (Nat.le_of_eq SZ.out.symm) (below_al1 _ _).size)))); (try (have LC := Lib.hid ((Cells.made _ [.float .f32 xr] _).kept hb))); (first | (have A := Lib.hid (A.out.kept hb)) | (have A := Lib.hid (A.out.kept (below_undrew hb))) | (have A := Lib.hid (A.out.kept (below_unal hb))) | (have A := Lib.hid (A.out.kept (below_unal (below_undrew hb)))) | (have A := Lib.hid (A.out.kept (below_undrew (below_unal hb))))); (first | (have E2 := Lib.hid (E2.out.kept hb)) | (have E2 := Lib.hid (E2.out.kept (below_undrew hb))) | (have E2 := Lib.hid (E2.out.kept (below_unal hb))) | (have E2 := Lib.hid (E2.out.kept (below_unal (below_undrew hb)))) | (have E2 := Lib.hid (E2.out.kept (below_undrew (below_unal hb))))); (first | (have BA := Lib.hid (below_step BA.out hb)) | (have BA := Lib.hid (below_step BA.out (below_undrew hb))) | (have BA := Lib.hid (below_step BA.out (below_unal hb))) | (have BA := Lib.hid (below_step BA.out (below_unal (below_undrew hb)))) | (have BA := Lib.hid (below_step BA.out (below_undrew (below_unal hb))))); (first | (have R0 := Lib.hid (rowIs_below R0.out hb)) | (have R0 := Lib.hid (rowIs_below R0.out (below_undrew hb))) | (have R0 := Lib.hid (rowIs_below R0.out (below_unal hb))) | (have R0 := Lib.hid (rowIs_below R0.out (below_unal (below_undrew hb)))) | (have R0 := Lib.hid (rowIs_below R0.out (below_undrew (below_unal hb))))); clear hb hO; have a3 := A.out.at 3 rfl; have x2 := E2.out.at 1 rfl)
        | (refine step_app32 rfl _ _ rfl (w1.heap.size + 1) _ r.T rfl (by first | exact O.out | exact O.out.al _ | exact (O.out.drewN _).al _) _ xr _ rfl (by first | exact (World.cell?_alloc_at _ _ _ _ (by simp)).trans rfl | exact LC.out.at 0 rfl) hT1 (by first | exact R0.out.lt | exact Nat.le_trans R0.out.lt (below_al1 _ _).size) ?_; intro v' w6 hown hb; have hlt := fun g e => (World.ownsRow.lt hown g e).1; obtain ⟨bt, ot, ct, hvv, hct⟩ := (hown.row (by rw [LNT.out]; omega)).cells (by rw [LNT.out]; omega); rw [LNT.out] at hvv hct; subst hvv; have TC := Lib.hid hct; have TG := Lib.hid (show w1.heap.size + 1 ≤ bt from hlt bt rfl); (first | (have A := Lib.hid (cells_base A.out hb (by have := BA.out.size; have := AB.out; omega))) | (have A := Lib.hid (cells_base (A.out.al _) hb (by have := AB.out; omega)))); (first | (have E2 := Lib.hid (cells_base E2.out hb (by have := AB.out; omega))) | (have E2 := Lib.hid (cells_base (E2.out.al _) hb (by have := AB.out; omega)))); (first | (have BA := Lib.hid (BA.out.trans (below_low hb (by omega)))) | (have BA := Lib.hid ((BA.out.alloc BA.out.size _).trans (below_low hb (by omega))))); (first | (have R0 := Lib.hid (R0.out.of_block (hb.block _ (by omega)))) | (have R0 := Lib.hid ((rowIs_below R0.out (below_al1 _ _)).of_block (hb.block _ (by omega))))); clear hown hb hct hlt; have a3 := A.out.at 3 rfl; have x2 := E2.out.at 1 rfl))
      all_goals
        have BZ := Lib.hid (cell_lt (ZC.out w1 (Below.refl _ _) 0 (by omega)))
        have ZK := Lib.hid (ZC.out w6 BA.out)
        have LT6 := Lib.hid (cell_lt (TC.out 0 (by omega)))
        have SG := Lib.hid BA.out.size
        go_wp2
        go_loopw [11, 36] (fun x i wr => ∃ (k : Nat) (f : Nat → Nat), k ≤ N ∧ i = .int .i64 k ∧ x = .float .f32 (bfV r xl xr k) ∧ Hid (∀ j, j < k → cn .f32 (f j) = qV r n kl xl yl kr xr yr j) ∧ Hid (wr.rowIs w1.heap.size 22 N (fun j => .float .f32 (f j))) ∧ Hid (Tur (· = w1.heap.size) w6 wr)) (fun _ i _ => N - (intOf i).toNat)
        case atStart => exact ⟨0, fun _ => 0, Nat.zero_le _, rfl, rfl, Lib.hid (fun j hj => absurd hj (Nat.not_lt_zero _)), R0, Lib.hid (Tur.of_below (Below.refl _ _))⟩
        case round =>
          obtain ⟨k, f, hk, rfl, rfl, hq, hr, ht⟩ := hrel
          by_cases hlt : k < N
          · have hi : (k : Int) < (N : Int) := by omega
            have hi0 : (0 : Int) ≤ (k : Int) := by omega
            have tc : wr.cell? ⟨bt, ot + k, none⟩ = some (.float .f32 ((r.T ++ [xr]).getD k 0)) := (World.cell?_of_block (w := w6) (ht.out.block bt LT6.out (fun e => by have e' : bt = w1.heap.size := e; have := TG.out; omega))).trans (TC.out k hlt)
            have zc : wr.cell? ⟨bz, oz + k, none⟩ = some (.float .f32 (ps.getD k 0)) := (World.cell?_of_block (w := w6) (ht.out.block bz (Nat.lt_of_lt_of_le BZ.out SG.out) (fun e => by have e' : bz = w1.heap.size := e; have := BZ.out; omega))).trans (ZK.out k hlt)
            have C1 := hr.out.cell hlt
            have F1 := hr.out.frozen k
            have PK := Lib.hid (PV.out k hlt)
            have WB := Lib.hid (wV_bf r n xl xr k HT.out HP.out (by have := HN.out; omega))
            have BS := Lib.hid (bfV_succ r xl xr k)
            have HLT := Lib.hid hlt
            generalize hzz : ps.getD k 0 = pz at *
            generalize htt : (r.T ++ [xr]).getD k 0 = pt at *
            generalize hbb : bfV r xl xr k = pb at *
            clear hzz htt hbb
            go_wp2_with (refine wpList_farith rfl _ _ _ _ _ rfl rfl _ _ _ rfl rfl ?_; intro y1 j1 h1; have F1' := Lib.hid h1; clear h1)
            go_roundw
            rename_i ya ja FA
            have VY := Lib.hid (show cn .f32 y1 = qV r n kl xl yl kr xr yr k from by unfold qV; rw [F1'.out.1, FA.out.1, PK.out, WB.out])
            case rel => exact ⟨k + 1, fun j => if j = k then y1 else f j, by have := HLT.out; omega, by go_num, by rw [BS.out], Lib.hid (fun j hj => by
              by_cases e : j = k
              · subst e; simpa using VY.out
              · simpa [e] using hq.out j (by omega)), Lib.hid (((show (wr.drewN (ja + j1)).rowIs _ _ _ _ from hr.out).set k (.float .f32 y1)).congr (fun j hj => by by_cases e : j = k <;> simp [e])), Lib.hid ((ht.out.trans (Tur.of_below (below_drewN (Below.refl _ _) (ja + j1)))).trans (Tur.of_onl ((Onl.refl _ _).setCell k _) rfl))⟩
            case measure => simp [intOf]; omega
          · have e : k = N := by omega
            subst e
            obtain ⟨zs, hzs⟩ : ∃ zs, zs = (List.range k).map f := ⟨_, rfl⟩
            have hl : zs.length = k := by rw [hzs]; simp
            have hm : zs.map (cn .f32) = qL r n kl xl yl kr xr yr := by
              rw [hzs]; unfold qL; rw [← HN.out, List.map_map]
              exact List.map_congr_left (fun j hj => hq.out j (by simpa using hj))
            have HM := Lib.hid hm
            have OR := Lib.hid (show ORow w.heap.size wr (.slice (some ⟨w1.heap.size, 0, none⟩) k k) zs from .inr ⟨w1.heap.size, 0, k, by rw [hl], by have := HBS.out; omega, RowF.of_row hr.out (by omega) (fun i hi => by
              have : i < k := by omega
              rw [hzs]; simp [List.getD_eq_getElem?_getD, this])⟩)
            have FR1 := Lib.hid (OR.out.frow (by rw [hl]; exact Nat.le_trans hmk2 (by decide)))
            have B8 := Lib.hid ((below_step Bw.out BA.out).trans (ht.out.below (B := w.heap.size) (fun j (hj : j = w1.heap.size) => by have := HBS.out; omega) (Nat.le_trans (by have := HBS.out; omega) SG.out)))
            have ALL : Hid (zs.all (fin .f32) = (qL r n kl xl yl kr xr yr).all (fin .f32)) := Lib.hid (by rw [← HM.out, all_fin_cn])
            clear hzs hl hm
            go_wp2_with fail
            refine (implListQ_any _ zs _ FR1.out).mono ?_
            rintro _ w8 ⟨hb, (⟨hf, rfl⟩ | ⟨hf, rfl⟩)⟩
            · have B9 := Lib.hid (below_step B8.out hb)
              have OR := Lib.hid (OR.out.kept hb)
              have HF2 := Lib.hid hf
              clear hb hf
              go_wp2
              go_ret2
              rw [show fsB r n kl xl yl kr xr yr = true from by unfold fsB; rw [HF.out, ← ALL.out, HF2.out]; rfl]
              exact ⟨_, zs, rfl, OR.out, HM.out, B9.out⟩
            · have B9 := Lib.hid (below_step B8.out hb)
              have HF2 := Lib.hid hf
              clear hb hf
              go_wp2
              go_ret2
              rw [show fsB r n kl xl yl kr xr yr = false from by unfold fsB; rw [HF.out, ← ALL.out, HF2.out]; rfl]
              exact LstO.no B9.out
end Go.Proofs.Ytkbdidpodcclfaa

/- FlowsInRod: the law's walk. -/
namespace Go.Proofs.Ytkbdidpodcclfaa
open Go.RowKit
set_option linter.unusedVariables false

theorem fnExactFlowsInRod_walk (a b c d : Value) (r : RL) (kl : Int) (xl yl : Nat) (kr : Int) (xr yr : Nat) (w : World) (h : RRow w a b c d r) (_ : (Lit.int .i64 kl).wf = true) (_ : (Lit.float .f32 xl).wf = true) (_ : (Lit.float .f32 yl).wf = true) (_ : (Lit.int .i64 kr).wf = true) (_ : (Lit.float .f32 xr).wf = true) (_ : (Lit.float .f32 yr).wf = true) :
    Calls Try.prog 7 #[.agg #[a, b, c, d], .agg #[.int .i64 kl, .float .f32 xl, .float .f32 yl], .agg #[.int .i64 kr, .float .f32 xr, .float .f32 yr]] w (Tru w) :=
  fnExactFlowsInRod_law a b c d r kl xl yl kr xr yr (fwB r kl xl yl kr xr yr) (fwS r kl xl yl kr xr yr) (fwS_le r kl xl yl kr xr yr) (fun a b c d w1 h0 => specFw_any a b c d r kl xl yl kr xr yr w1 h0) (fun a b c d w1 h0 => implFw_any a b c d r kl xl yl kr xr yr w1 h0) w h
end Go.Proofs.Ytkbdidpodcclfaa
