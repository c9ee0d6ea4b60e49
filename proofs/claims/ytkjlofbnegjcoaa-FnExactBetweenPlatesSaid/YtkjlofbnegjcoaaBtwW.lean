/- What flows between plates: the law. -/
import Derived.Test.YtkjlofbnegjcoaaBti
import Derived.Test.YtkjlofbnegjcoaaFacts2
namespace Go.Proofs.Ytkjlofbnegjcoaa
open Go.RowKit
set_option linter.unusedVariables false


/-- a number, up to its bits, and a bool -/
def fTup (S : Nat) (b : Bool) : Fct := ⟨fun v _ => ∃ r, cn .f32 r = S ∧ v = .tuple #[.float .f32 r, .bool b], fun _ => Pers.const _⟩
set_option maxRecDepth 20000 in
set_option maxHeartbeats 1600000 in
theorem fnExactBetweenPlates_walk (a b : FA)  (w : World) (_ : a.wf) (_ : b.wf)  : Calls Try.prog 9 #[.agg #[.float .f32 a.wd, .float .f32 a.sh, .float .f32 a.wm], .agg #[.float .f32 b.wd, .float .f32 b.sh, .float .f32 b.wm]] w (Tru w) := by
  have A := Lib.hid ((Cells.made w a.vs 24).kept (below_al1 _ (.cells #[.float .f32 b.wd, .float .f32 b.sh, .float .f32 b.wm] 24)))
  have X := Cells.made (w.alloc (.cells #[.float .f32 a.wd, .float .f32 a.sh, .float .f32 a.wm] 24)) b.vs 24
  rw [show (w.alloc (.cells #[.float .f32 a.wd, .float .f32 a.sh, .float .f32 a.wm] 24)).heap.size = w.heap.size + 1 from by simp] at X
  have X := Lib.hid X
  have Bw := Lib.hid (below_step (below_al1 w (.cells #[.float .f32 a.wd, .float .f32 a.sh, .float .f32 a.wm] 24)) (below_al1 _ (.cells #[.float .f32 b.wd, .float .f32 b.sh, .float .f32 b.wm] 24)))
  obtain ⟨S, b0, hs⟩ : ∃ S b0, cS (bvB a b) (bwX a b 0 1065353216) = S ∧ cB (bvB a b) (bwX a b 0 1065353216) = b0 := ⟨_, _, rfl, rfl⟩
  have HS := Lib.hid hs
  clear hs
  go_enter Try.func9, Try.ntmps9
  have FACT := Lib.hid (fun w1 (hw : Ext ((w.alloc (.cells #[.float .f32 a.wd, .float .f32 a.sh, .float .f32 a.wm] 24)).alloc (.cells #[.float .f32 b.wd, .float .f32 b.sh, .float .f32 b.wm] 24)) w1) => And.intro (hw.cell (A.out.at 0 rfl)) (And.intro (hw.cell (A.out.at 1 rfl)) (And.intro (hw.cell (A.out.at 2 rfl)) (And.intro (hw.cell (X.out.at 0 rfl)) (And.intro (hw.cell (X.out.at 1 rfl)) (hw.cell (X.out.at 2 rfl)))))))
  go_wp2
  refine wp_region_facts (Ext ((w.alloc (.cells #[.float .f32 a.wd, .float .f32 a.sh, .float .f32 a.wm] 24)).alloc (.cells #[.float .f32 b.wd, .float .f32 b.sh, .float .f32 b.wm] 24))) (TS [(11, fIs (.agg #[.float .f32 a.wd, .float .f32 a.sh, .float .f32 a.wm])), (13, fIs (.agg #[.float .f32 b.wd, .float .f32 b.sh, .float .f32 b.wm])), (14, fTup S b0)]) (Pers.ext _) (TS.pers _) (Ext.start _) (by kernel_rfl) (by kernel_rfl) (by intro d v c a w h; cases d <;> exact h) ?_
  repeat (refine wpF_val rfl monoQ_end (by rintro _ ⟨⟩; rfl) ?_ (fun w1 hw1 => ?_) (fun K hK => ?_); rotate_left; (focus (have hF := FACT.out w1 hw1; go_simp; first | done | rfl)); go_simp; refine hK _ ?_; clear hK K)
  refine wpF_callV rfl 11 rfl 17 #[.agg #[.float .f32 a.wd, .float .f32 a.sh, .float .f32 a.wm]] (.agg #[.float .f32 a.wd, .float .f32 a.sh, .float .f32 a.wm]) rfl (fun w1 => ?_) (fun w1 _ => ?_) ?_
  · go_simp
  · exact toFace_any a w1
  repeat (refine wpF_val rfl monoQ_end (by rintro _ ⟨⟩; rfl) ?_ (fun w1 hw1 => ?_) (fun K hK => ?_); rotate_left; (focus (have hF := FACT.out w1 hw1; go_simp; first | done | rfl)); go_simp; refine hK _ ?_; clear hK K)
  refine wpF_callV rfl 13 rfl 17 #[.agg #[.float .f32 b.wd, .float .f32 b.sh, .float .f32 b.wm]] (.agg #[.float .f32 b.wd, .float .f32 b.sh, .float .f32 b.wm]) rfl (fun w1 => ?_) (fun w1 _ => ?_) ?_
  · go_simp
  · exact toFace_any b w1
  repeat (refine wpF_val rfl monoQ_end (by rintro _ ⟨⟩; rfl) ?_ (fun w1 hw1 => ?_) (fun K hK => ?_); rotate_left; (focus (have hF := FACT.out w1 hw1; go_simp; first | done | rfl)); go_simp; refine hK _ ?_; clear hK K)
  refine wpF_callF rfl 14 rfl 33 #[.agg #[.float .f32 a.wd, .float .f32 a.sh, .float .f32 a.wm], .agg #[.float .f32 b.wd, .float .f32 b.sh, .float .f32 b.wm]] (fTup S b0) rfl (fun w1 => ?_) (fun w1 _ _ => ?_) ?_
  · go_simp
  · refine (specBet_any a b  w1).mono ?_
    rw [HS.out.1, HS.out.2]
    rintro e w2 ⟨r, hr, rfl, hb⟩
    exact ⟨_, rfl, hb, r, hr, rfl⟩
  rintro v0 ⟨wv, s1, hs1, rfl⟩
  have Rs1 := Lib.hid hs1
  clear hs1
  repeat (refine wpF_val rfl monoQ_end (by rintro _ ⟨⟩; rfl) ?_ (fun w1 hw1 => ?_) (fun K hK => ?_); rotate_left; (focus (have hF := FACT.out w1 hw1; go_simp; first | done | rfl)); go_simp; refine hK _ ?_; clear hK K)
  refine wpFacts_nil ?_
  intro w2 hC _
  have Bw := Lib.hid (below_step Bw.out hC)
  have A := Lib.hid (A.out.kept hC)
  have X := Lib.hid (X.out.kept hC)
  clear hC FACT
  have FACT := Lib.hid (fun w1 (hw : Ext (w2) w1) => And.intro (hw.cell (A.out.at 0 rfl)) (And.intro (hw.cell (A.out.at 1 rfl)) (And.intro (hw.cell (A.out.at 2 rfl)) (And.intro (hw.cell (X.out.at 0 rfl)) (And.intro (hw.cell (X.out.at 1 rfl)) (hw.cell (X.out.at 2 rfl)))))))
  go_wp2
  refine wp_region_facts (Ext (w2)) (TS [(19, fIs (.agg #[.float .f32 a.wd, .float .f32 a.sh, .float .f32 a.wm])), (21, fIs (.agg #[.float .f32 b.wd, .float .f32 b.sh, .float .f32 b.wm])), (22, fTup S b0)]) (Pers.ext _) (TS.pers _) (Ext.start _) (by kernel_rfl) (by kernel_rfl) (by intro d v c a w h; cases d <;> exact h) ?_
  repeat (refine wpF_val rfl monoQ_end (by rintro _ ⟨⟩; rfl) ?_ (fun w1 hw1 => ?_) (fun K hK => ?_); rotate_left; (focus (have hF := FACT.out w1 hw1; go_simp; first | done | rfl)); go_simp; refine hK _ ?_; clear hK K)
  refine wpF_callV rfl 19 rfl 17 #[.agg #[.float .f32 a.wd, .float .f32 a.sh, .float .f32 a.wm]] (.agg #[.float .f32 a.wd, .float .f32 a.sh, .float .f32 a.wm]) rfl (fun w1 => ?_) (fun w1 _ => ?_) ?_
  · go_simp
  · exact toFace_any a w1
  repeat (refine wpF_val rfl monoQ_end (by rintro _ ⟨⟩; rfl) ?_ (fun w1 hw1 => ?_) (fun K hK => ?_); rotate_left; (focus (have hF := FACT.out w1 hw1; go_simp; first | done | rfl)); go_simp; refine hK _ ?_; clear hK K)
  refine wpF_callV rfl 21 rfl 17 #[.agg #[.float .f32 b.wd, .float .f32 b.sh, .float .f32 b.wm]] (.agg #[.float .f32 b.wd, .float .f32 b.sh, .float .f32 b.wm]) rfl (fun w1 => ?_) (fun w1 _ => ?_) ?_
  · go_simp
  · exact toFace_any b w1
  repeat (refine wpF_val rfl monoQ_end (by rintro _ ⟨⟩; rfl) ?_ (fun w1 hw1 => ?_) (fun K hK => ?_); rotate_left; (focus (have hF := FACT.out w1 hw1; go_simp; first | done | rfl)); go_simp; refine hK _ ?_; clear hK K)
  refine wpF_callF rfl 22 rfl 34 #[.agg #[.float .f32 a.wd, .float .f32 a.sh, .float .f32 a.wm], .agg #[.float .f32 b.wd, .float .f32 b.sh, .float .f32 b.wm]] (fTup S b0) rfl (fun w1 => ?_) (fun w1 _ _ => ?_) ?_
  · go_simp
  · refine (implBet_any a b  w1).mono ?_
    rw [HS.out.1, HS.out.2]
    rintro e w2 ⟨r, hr, rfl, hb⟩
    exact ⟨_, rfl, hb, r, hr, rfl⟩
  rintro v0 ⟨wv, s2, hs2, rfl⟩
  have Rs2 := Lib.hid hs2
  clear hs2
  repeat (refine wpF_val rfl monoQ_end (by rintro _ ⟨⟩; rfl) ?_ (fun w1 hw1 => ?_) (fun K hK => ?_); rotate_left; (focus (have hF := FACT.out w1 hw1; go_simp; first | done | rfl)); go_simp; refine hK _ ?_; clear hK K)
  refine wpFacts_nil ?_
  intro w3 hC _
  have Bw := Lib.hid (below_step Bw.out hC)
  have A := Lib.hid (A.out.kept hC)
  have X := Lib.hid (X.out.kept hC)
  clear hC FACT
  go_wp2_with (first | (refine wpList_up rfl Try.underlying22 Try.underlying40 _ rfl _ rfl ?_; intro _ _ _) | (go_at_call 28; refine (same_end (a := s2) (b := s1) _ (by assumption) (by assumption) (Rs2.out.trans Rs1.out.symm)).mono ?_; rintro e w' ⟨rfl, n, rfl⟩))
  go_ret
  exact Tru.below (below_drewN Bw.out _)

end Go.Proofs.Ytkjlofbnegjcoaa
