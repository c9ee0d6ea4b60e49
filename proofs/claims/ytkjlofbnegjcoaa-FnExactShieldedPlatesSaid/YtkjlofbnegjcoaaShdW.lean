/- What flows between plates with shields: the law. -/
import Derived.Test.YtkjlofbnegjcoaaBti
import Derived.Test.YtkjlofbnegjcoaaFacts2
namespace Go.Proofs.Ytkjlofbnegjcoaa
open Go.RowKit
set_option linter.unusedVariables false


/-- a number, up to its bits, and a bool -/
def fTup (S : Nat) (b : Bool) : Fct := ⟨fun v _ => ∃ r, cn .f32 r = S ∧ v = .tuple #[.float .f32 r, .bool b], fun _ => Pers.const _⟩
set_option maxRecDepth 20000 in
set_option maxHeartbeats 1600000 in
theorem fnExactShieldedPlates_walk (a b : FA) (n : Int) (x : Nat) (w : World) (_ : a.wf) (_ : b.wf) (_ : (Lit.int .i64 n).wf = true) (_ : (Lit.float .f32 x).wf = true) : Calls Try.prog 10 #[.agg #[.float .f32 a.wd, .float .f32 a.sh, .float .f32 a.wm], .agg #[.float .f32 b.wd, .float .f32 b.sh, .float .f32 b.wm], .int .i64 n, .float .f32 x] w (Tru w) := by
  have A := Lib.hid ((Cells.made w a.vs 24).kept (below_al1 _ (.cells #[.float .f32 b.wd, .float .f32 b.sh, .float .f32 b.wm] 24)))
  have X := Cells.made (w.alloc (.cells #[.float .f32 a.wd, .float .f32 a.sh, .float .f32 a.wm] 24)) b.vs 24
  rw [show (w.alloc (.cells #[.float .f32 a.wd, .float .f32 a.sh, .float .f32 a.wm] 24)).heap.size = w.heap.size + 1 from by simp] at X
  have X := Lib.hid X
  have Bw := Lib.hid (below_step (below_al1 w (.cells #[.float .f32 a.wd, .float .f32 a.sh, .float .f32 a.wm] 24)) (below_al1 _ (.cells #[.float .f32 b.wd, .float .f32 b.sh, .float .f32 b.wm] 24)))
  obtain ⟨S, b0, hs⟩ : ∃ S b0, cS (bwB a b n x) (bwX a b n x) = S ∧ cB (bwB a b n x) (bwX a b n x) = b0 := ⟨_, _, rfl, rfl⟩
  have HS := Lib.hid hs
  clear hs
  go_enter Try.func10, Try.ntmps10
  have FACT := Lib.hid (fun w1 (hw : Ext ((w.alloc (.cells #[.float .f32 a.wd, .float .f32 a.sh, .float .f32 a.wm] 24)).alloc (.cells #[.float .f32 b.wd, .float .f32 b.sh, .float .f32 b.wm] 24)) w1) => And.intro (hw.cell (A.out.at 0 rfl)) (And.intro (hw.cell (A.out.at 1 rfl)) (And.intro (hw.cell (A.out.at 2 rfl)) (And.intro (hw.cell (X.out.at 0 rfl)) (And.intro (hw.cell (X.out.at 1 rfl)) (hw.cell (X.out.at 2 rfl)))))))
  go_wp2
  refine wp_region_facts (Ext ((w.alloc (.cells #[.float .f32 a.wd, .float .f32 a.sh, .float .f32 a.wm] 24)).alloc (.cells #[.float .f32 b.wd, .float .f32 b.sh, .float .f32 b.wm] 24))) (TS [(15, fIs (.agg #[.float .f32 a.wd, .float .f32 a.sh, .float .f32 a.wm])), (17, fIs (.agg #[.float .f32 b.wd, .float .f32 b.sh, .float .f32 b.wm])), (20, fTup S b0)]) (Pers.ext _) (TS.pers _) (Ext.start _) (by kernel_rfl) (by kernel_rfl) (by intro d v c a w h; cases d <;> exact h) ?_
  repeat (refine wpF_val rfl monoQ_end (by rintro _ ⟨⟩; rfl) ?_ (fun w1 hw1 => ?_) (fun K hK => ?_); rotate_left; (focus (have hF := FACT.out w1 hw1; go_simp; first | done | rfl)); go_simp; refine hK _ ?_; clear hK K)
  refine wpF_callV rfl 15 rfl 17 #[.agg #[.float .f32 a.wd, .float .f32 a.sh, .float .f32 a.wm]] (.agg #[.float .f32 a.wd, .float .f32 a.sh, .float .f32 a.wm]) rfl (fun w1 => ?_) (fun w1 _ => ?_) ?_
  · go_simp
  · exact toFace_any a w1
  repeat (refine wpF_val rfl monoQ_end (by rintro _ ⟨⟩; rfl) ?_ (fun w1 hw1 => ?_) (fun K hK => ?_); rotate_left; (focus (have hF := FACT.out w1 hw1; go_simp; first | done | rfl)); go_simp; refine hK _ ?_; clear hK K)
  refine wpF_callV rfl 17 rfl 17 #[.agg #[.float .f32 b.wd, .float .f32 b.sh, .float .f32 b.wm]] (.agg #[.float .f32 b.wd, .float .f32 b.sh, .float .f32 b.wm]) rfl (fun w1 => ?_) (fun w1 _ => ?_) ?_
  · go_simp
  · exact toFace_any b w1
  repeat (refine wpF_val rfl monoQ_end (by rintro _ ⟨⟩; rfl) ?_ (fun w1 hw1 => ?_) (fun K hK => ?_); rotate_left; (focus (have hF := FACT.out w1 hw1; go_simp; first | done | rfl)); go_simp; refine hK _ ?_; clear hK K)
  refine wpF_callF rfl 20 rfl 35 #[.agg #[.float .f32 a.wd, .float .f32 a.sh, .float .f32 a.wm], .agg #[.float .f32 b.wd, .float .f32 b.sh, .float .f32 b.wm], .int .i64 n, .float .f32 x] (fTup S b0) rfl (fun w1 => ?_) (fun w1 _ _ => ?_) ?_
  · go_simp
  · refine (specShield_any a b n x w1).mono ?_
    rw [HS.out.1, HS.out.2]
    rintro e w2 ⟨r, hr, rfl, hb⟩
    exact ⟨_, rfl, hb, r, hr, rfl⟩
  rintro v0 ⟨wv, s1, hs1, rfl⟩
  have Rs1 := Lib.hid hs1
  clear hs1
  repeat (refine wpF_val rfl monoQ_end (by rintro _ ⟨⟩; rfl) ?_ (fun w1 hw1 => ?_) (fun K hK => ?_); rotate_left; (focus (have hF := FACT.out w1 hw1; go_simp; first | done | rfl)); go_simp; refine hK _ ?_; clear hK K)
  refine wpFacts_nil ?_
  intro w2 hC _
  have Bw := Lib.hid (below_step Bw.out hC)
  have A := Lib.hid (A.out.kept hC)
  have X := Lib.hid (X.out.kept hC)
  clear hC FACT
  have FACT := Lib.hid (fun w1 (hw : Ext (w2) w1) => And.intro (hw.cell (A.out.at 0 rfl)) (And.intro (hw.cell (A.out.at 1 rfl)) (And.intro (hw.cell (A.out.at 2 rfl)) (And.intro (hw.cell (X.out.at 0 rfl)) (And.intro (hw.cell (X.out.at 1 rfl)) (hw.cell (X.out.at 2 rfl)))))))
  go_wp2
  refine wp_region_facts (Ext (w2)) (TS [(25, fIs (.agg #[.float .f32 a.wd, .float .f32 a.sh, .float .f32 a.wm])), (27, fIs (.agg #[.float .f32 b.wd, .float .f32 b.sh, .float .f32 b.wm])), (30, fTup S b0)]) (Pers.ext _) (TS.pers _) (Ext.start _) (by kernel_rfl) (by kernel_rfl) (by intro d v c a w h; cases d <;> exact h) ?_
  repeat (refine wpF_val rfl monoQ_end (by rintro _ ⟨⟩; rfl) ?_ (fun w1 hw1 => ?_) (fun K hK => ?_); rotate_left; (focus (have hF := FACT.out w1 hw1; go_simp; first | done | rfl)); go_simp; refine hK _ ?_; clear hK K)
  refine wpF_callV rfl 25 rfl 17 #[.agg #[.float .f32 a.wd, .float .f32 a.sh, .float .f32 a.wm]] (.agg #[.float .f32 a.wd, .float .f32 a.sh, .float .f32 a.wm]) rfl (fun w1 => ?_) (fun w1 _ => ?_) ?_
  · go_simp
  · exact toFace_any a w1
  repeat (refine wpF_val rfl monoQ_end (by rintro _ ⟨⟩; rfl) ?_ (fun w1 hw1 => ?_) (fun K hK => ?_); rotate_left; (focus (have hF := FACT.out w1 hw1; go_simp; first | done | rfl)); go_simp; refine hK _ ?_; clear hK K)
  refine wpF_callV rfl 27 rfl 17 #[.agg #[.float .f32 b.wd, .float .f32 b.sh, .float .f32 b.wm]] (.agg #[.float .f32 b.wd, .float .f32 b.sh, .float .f32 b.wm]) rfl (fun w1 => ?_) (fun w1 _ => ?_) ?_
  · go_simp
  · exact toFace_any b w1
  repeat (refine wpF_val rfl monoQ_end (by rintro _ ⟨⟩; rfl) ?_ (fun w1 hw1 => ?_) (fun K hK => ?_); rotate_left; (focus (have hF := FACT.out w1 hw1; go_simp; first | done | rfl)); go_simp; refine hK _ ?_; clear hK K)
  refine wpF_callF rfl 30 rfl 36 #[.agg #[.float .f32 a.wd, .float .f32 a.sh, .float .f32 a.wm], .agg #[.float .f32 b.wd, .float .f32 b.sh, .float .f32 b.wm], .int .i64 n, .float .f32 x] (fTup S b0) rfl (fun w1 => ?_) (fun w1 _ _ => ?_) ?_
  · go_simp
  · refine (implShield_any a b n x w1).mono ?_
    rw [HS.out.1, HS.out.2]
    rintro e w2 ⟨r, hr, rfl, hb⟩
    exact ⟨_, rfl, hb, r, hr, rfl⟩
  rintro v0 ⟨wv, s2, hs2, rfl⟩
  have Rs2 := Lib.hid hs2
  clear hs2
  repeat (refine wpF_val rfl monoQ_end (by rintro _ ⟨⟩; rfl) ?_ (fun w1 hw1 => ?_) (fun K hK => ?_); rotate_left; (focus (have hF := FACT.out w1 hw1; go_simp; first | done | rfl)); go_simp; refine hK _ ?_; clear hK K)
  refine wpFacts_nil ?_
  intro w3 hC _
  have Bw := Lib.hid (below_step Bw.out hC)
  have A := Lib.hid (A.out.kept hC)
  have X := Lib.hid (X.out.kept hC)
  clear hC FACT
  go_wp2_with (first | (refine wpList_up rfl Try.underlying22 Try.underlying40 _ rfl _ rfl ?_; intro _ _ _) | (go_at_call 28; refine (same_end (a := s2) (b := s1) _ (by assumption) (by assumption) (Rs2.out.trans Rs1.out.symm)).mono ?_; rintro e w' ⟨rfl, n, rfl⟩))
  go_ret
  exact Tru.below (below_drewN Bw.out _)

end Go.Proofs.Ytkjlofbnegjcoaa
