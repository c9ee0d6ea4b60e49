/- Whether two stuffs are the same: the implementation's side, and the law's walk. -/
import Derived.Test.YtgcgfnpkkhhkgabSameS
import Derived.Test.YtgcgfnpkkhhkgabFacts2
namespace Go.Proofs.Ytgcgfnpkkhhkgab
open Go.RowKit
set_option linter.unusedVariables false

set_option maxHeartbeats 1600000 in
theorem implSameS_any (s t : SF) (w : World) (ws : s.wf) (wt : t.wf) : Calls Try.prog 17 #[.agg #[.float .f32 s.so, .float .f32 s.fl, .float .f32 s.es, .float .f32 s.ef, .float .f32 s.pt, .float .f32 s.la], .agg #[.float .f32 t.so, .float .f32 t.fl, .float .f32 t.es, .float .f32 t.ef, .float .f32 t.pt, .float .f32 t.la]] w (BolB (sameS s t) w) := by
  have A := Lib.hid ((Cells.made w [.float .f32 s.so, .float .f32 s.fl, .float .f32 s.es, .float .f32 s.ef, .float .f32 s.pt, .float .f32 s.la] 26).al (.cells #[.float .f32 t.so, .float .f32 t.fl, .float .f32 t.es, .float .f32 t.ef, .float .f32 t.pt, .float .f32 t.la] 26))
  have X := Cells.made (w.alloc (.cells #[.float .f32 s.so, .float .f32 s.fl, .float .f32 s.es, .float .f32 s.ef, .float .f32 s.pt, .float .f32 s.la] 26)) [.float .f32 t.so, .float .f32 t.fl, .float .f32 t.es, .float .f32 t.ef, .float .f32 t.pt, .float .f32 t.la] 26
  rw [show (w.alloc (.cells #[.float .f32 s.so, .float .f32 s.fl, .float .f32 s.es, .float .f32 s.ef, .float .f32 s.pt, .float .f32 s.la] 26)).heap.size = w.heap.size + 1 from by simp] at X
  have X := Lib.hid X
  have Bw := Lib.hid (below_al2 w (.cells #[.float .f32 s.so, .float .f32 s.fl, .float .f32 s.es, .float .f32 s.ef, .float .f32 s.pt, .float .f32 s.la] 26) (.cells #[.float .f32 t.so, .float .f32 t.fl, .float .f32 t.es, .float .f32 t.ef, .float .f32 t.pt, .float .f32 t.la] 26))
  have E := fun w => run_sb (bits32 s.so) (bits32 t.so) (bits32 s.fl) (bits32 t.fl) (bits32 s.es) (bits32 t.es) (bits32 s.ef) (bits32 t.ef) (bits32 s.pt) (bits32 t.pt) (bits32 s.la) (bits32 t.la) w
  have hg : Try.prog.eqGuardType Try.prog.depth 59 = false := by kernel_rfl
  have FACT := Lib.hid (fun w1 (hw : Ext ((w.alloc (.cells #[.float .f32 s.so, .float .f32 s.fl, .float .f32 s.es, .float .f32 s.ef, .float .f32 s.pt, .float .f32 s.la] 26)).alloc (.cells #[.float .f32 t.so, .float .f32 t.fl, .float .f32 t.es, .float .f32 t.ef, .float .f32 t.pt, .float .f32 t.la] 26)) w1) => And.intro (hw.cell (A.out.at 0 rfl)) (And.intro (hw.cell (A.out.at 1 rfl)) (And.intro (hw.cell (A.out.at 2 rfl)) (And.intro (hw.cell (A.out.at 3 rfl)) (And.intro (hw.cell (A.out.at 4 rfl)) (And.intro (hw.cell (A.out.at 5 rfl)) (And.intro (hw.cell (X.out.at 0 rfl)) (And.intro (hw.cell (X.out.at 1 rfl)) (And.intro (hw.cell (X.out.at 2 rfl)) (And.intro (hw.cell (X.out.at 3 rfl)) (And.intro (hw.cell (X.out.at 4 rfl)) (hw.cell (X.out.at 5 rfl)))))))))))))
  go_enter Try.func17, Try.ntmps17
  go_wp2
  refine wp_region_facts (Ext ((w.alloc (.cells #[.float .f32 s.so, .float .f32 s.fl, .float .f32 s.es, .float .f32 s.ef, .float .f32 s.pt, .float .f32 s.la] 26)).alloc (.cells #[.float .f32 t.so, .float .f32 t.fl, .float .f32 t.es, .float .f32 t.ef, .float .f32 t.pt, .float .f32 t.la] 26))) (TS [(6, fIs (.agg #[.int .i64 (bits32 s.so), .int .i64 (bits32 s.fl), .int .i64 (bits32 s.es), .int .i64 (bits32 s.ef), .int .i64 (bits32 s.pt), .int .i64 (bits32 s.la)])), (8, fIs (.agg #[.int .i64 (bits32 t.so), .int .i64 (bits32 t.fl), .int .i64 (bits32 t.es), .int .i64 (bits32 t.ef), .int .i64 (bits32 t.pt), .int .i64 (bits32 t.la)]))]) (Pers.ext _) (TS.pers _) (Ext.start _) (by kernel_rfl) (by kernel_rfl) (by intro d v c a w h; cases d <;> exact h) ?_
  repeat (refine wpF_val rfl monoQ_end (by rintro _ ⟨⟩; rfl) ?_ (fun w1 hw1 => ?_) (fun K hK => ?_); rotate_left; (focus (have hF := FACT.out w1 hw1; go_simp; first | done | rfl)); go_simp; refine hK _ ?_; clear hK K)
  refine wpF_callV rfl 6 rfl 50 #[.agg #[.float .f32 s.so, .float .f32 s.fl, .float .f32 s.es, .float .f32 s.ef, .float .f32 s.pt, .float .f32 s.la]] (.agg #[.int .i64 (bits32 s.so), .int .i64 (bits32 s.fl), .int .i64 (bits32 s.es), .int .i64 (bits32 s.ef), .int .i64 (bits32 s.pt), .int .i64 (bits32 s.la)]) rfl (fun w1 => ?_) (fun w1 _ => ?_) ?_
  · go_simp
  · exact bitsOfStuff_any s w1 ws
  repeat (refine wpF_val rfl monoQ_end (by rintro _ ⟨⟩; rfl) ?_ (fun w1 hw1 => ?_) (fun K hK => ?_); rotate_left; (focus (have hF := FACT.out w1 hw1; go_simp; first | done | rfl)); go_simp; refine hK _ ?_; clear hK K)
  refine wpF_callV rfl 8 rfl 50 #[.agg #[.float .f32 t.so, .float .f32 t.fl, .float .f32 t.es, .float .f32 t.ef, .float .f32 t.pt, .float .f32 t.la]] (.agg #[.int .i64 (bits32 t.so), .int .i64 (bits32 t.fl), .int .i64 (bits32 t.es), .int .i64 (bits32 t.ef), .int .i64 (bits32 t.pt), .int .i64 (bits32 t.la)]) rfl (fun w1 => ?_) (fun w1 _ => ?_) ?_
  · go_simp
  · exact bitsOfStuff_any t w1 wt
  repeat (refine wpF_val rfl monoQ_end (by rintro _ ⟨⟩; rfl) ?_ (fun w1 hw1 => ?_) (fun K hK => ?_); rotate_left; (focus (have hF := FACT.out w1 hw1; go_simp; first | done | rfl)); go_simp; refine hK _ ?_; clear hK K)
  refine wpFacts_nil ?_
  intro w2 hC _
  go_wp2
  go_ret
  exact ⟨rfl, below_step Bw.out hC⟩

set_option maxHeartbeats 1600000 in
theorem fnExactSameStuff_walk (s t : SF) (w : World) (ws : s.wf) (wt : t.wf) : Calls Try.prog 3 #[.agg #[.float .f32 s.so, .float .f32 s.fl, .float .f32 s.es, .float .f32 s.ef, .float .f32 s.pt, .float .f32 s.la], .agg #[.float .f32 t.so, .float .f32 t.fl, .float .f32 t.es, .float .f32 t.ef, .float .f32 t.pt, .float .f32 t.la]] w (Tru w) := by
  have A := Lib.hid ((Cells.made w [.float .f32 s.so, .float .f32 s.fl, .float .f32 s.es, .float .f32 s.ef, .float .f32 s.pt, .float .f32 s.la] 24).al (.cells #[.float .f32 t.so, .float .f32 t.fl, .float .f32 t.es, .float .f32 t.ef, .float .f32 t.pt, .float .f32 t.la] 24))
  have X := Cells.made (w.alloc (.cells #[.float .f32 s.so, .float .f32 s.fl, .float .f32 s.es, .float .f32 s.ef, .float .f32 s.pt, .float .f32 s.la] 24)) [.float .f32 t.so, .float .f32 t.fl, .float .f32 t.es, .float .f32 t.ef, .float .f32 t.pt, .float .f32 t.la] 24
  rw [show (w.alloc (.cells #[.float .f32 s.so, .float .f32 s.fl, .float .f32 s.es, .float .f32 s.ef, .float .f32 s.pt, .float .f32 s.la] 24)).heap.size = w.heap.size + 1 from by simp] at X
  have X := Lib.hid X
  have Bw := Lib.hid (below_al2 w (.cells #[.float .f32 s.so, .float .f32 s.fl, .float .f32 s.es, .float .f32 s.ef, .float .f32 s.pt, .float .f32 s.la] 24) (.cells #[.float .f32 t.so, .float .f32 t.fl, .float .f32 t.es, .float .f32 t.ef, .float .f32 t.pt, .float .f32 t.la] 24))
  generalize hv : sameS s t = b
  have HV := Lib.hid hv
  clear hv
  have FACT := Lib.hid (fun w1 (hw : Ext ((w.alloc (.cells #[.float .f32 s.so, .float .f32 s.fl, .float .f32 s.es, .float .f32 s.ef, .float .f32 s.pt, .float .f32 s.la] 24)).alloc (.cells #[.float .f32 t.so, .float .f32 t.fl, .float .f32 t.es, .float .f32 t.ef, .float .f32 t.pt, .float .f32 t.la] 24)) w1) => And.intro (hw.cell (A.out.at 0 rfl)) (And.intro (hw.cell (A.out.at 1 rfl)) (And.intro (hw.cell (A.out.at 2 rfl)) (And.intro (hw.cell (A.out.at 3 rfl)) (And.intro (hw.cell (A.out.at 4 rfl)) (And.intro (hw.cell (A.out.at 5 rfl)) (And.intro (hw.cell (X.out.at 0 rfl)) (And.intro (hw.cell (X.out.at 1 rfl)) (And.intro (hw.cell (X.out.at 2 rfl)) (And.intro (hw.cell (X.out.at 3 rfl)) (And.intro (hw.cell (X.out.at 4 rfl)) (hw.cell (X.out.at 5 rfl)))))))))))))
  go_enter Try.func3, Try.ntmps3
  go_wp2
  refine wp_region_facts (Ext ((w.alloc (.cells #[.float .f32 s.so, .float .f32 s.fl, .float .f32 s.es, .float .f32 s.ef, .float .f32 s.pt, .float .f32 s.la] 24)).alloc (.cells #[.float .f32 t.so, .float .f32 t.fl, .float .f32 t.es, .float .f32 t.ef, .float .f32 t.pt, .float .f32 t.la] 24))) (TS [(8, fIs (.agg #[.float .f32 s.so, .float .f32 s.fl, .float .f32 s.es, .float .f32 s.ef, .float .f32 s.pt, .float .f32 s.la])), (10, fIs (.agg #[.float .f32 t.so, .float .f32 t.fl, .float .f32 t.es, .float .f32 t.ef, .float .f32 t.pt, .float .f32 t.la])), (11, fIs (.bool b))]) (Pers.ext _) (TS.pers _) (Ext.start _) (by kernel_rfl) (by kernel_rfl) (by intro d v c a w h; cases d <;> exact h) ?_
  repeat (refine wpF_val rfl monoQ_end (by rintro _ ⟨⟩; rfl) ?_ (fun w1 hw1 => ?_) (fun K hK => ?_); rotate_left; (focus (have hF := FACT.out w1 hw1; go_simp; first | done | rfl)); go_simp; refine hK _ ?_; clear hK K)
  refine wpF_callV rfl 8 rfl 16 #[.agg #[.float .f32 s.so, .float .f32 s.fl, .float .f32 s.es, .float .f32 s.ef, .float .f32 s.pt, .float .f32 s.la]] (.agg #[.float .f32 s.so, .float .f32 s.fl, .float .f32 s.es, .float .f32 s.ef, .float .f32 s.pt, .float .f32 s.la]) rfl (fun w1 => ?_) (fun w1 _ => ?_) ?_
  · go_simp
  · exact toStuff_any s w1
  repeat (refine wpF_val rfl monoQ_end (by rintro _ ⟨⟩; rfl) ?_ (fun w1 hw1 => ?_) (fun K hK => ?_); rotate_left; (focus (have hF := FACT.out w1 hw1; go_simp; first | done | rfl)); go_simp; refine hK _ ?_; clear hK K)
  refine wpF_callV rfl 10 rfl 16 #[.agg #[.float .f32 t.so, .float .f32 t.fl, .float .f32 t.es, .float .f32 t.ef, .float .f32 t.pt, .float .f32 t.la]] (.agg #[.float .f32 t.so, .float .f32 t.fl, .float .f32 t.es, .float .f32 t.ef, .float .f32 t.pt, .float .f32 t.la]) rfl (fun w1 => ?_) (fun w1 _ => ?_) ?_
  · go_simp
  · exact toStuff_any t w1
  repeat (refine wpF_val rfl monoQ_end (by rintro _ ⟨⟩; rfl) ?_ (fun w1 hw1 => ?_) (fun K hK => ?_); rotate_left; (focus (have hF := FACT.out w1 hw1; go_simp; first | done | rfl)); go_simp; refine hK _ ?_; clear hK K)
  refine wpF_callV rfl 11 rfl 15 #[.agg #[.float .f32 s.so, .float .f32 s.fl, .float .f32 s.es, .float .f32 s.ef, .float .f32 s.pt, .float .f32 s.la], .agg #[.float .f32 t.so, .float .f32 t.fl, .float .f32 t.es, .float .f32 t.ef, .float .f32 t.pt, .float .f32 t.la]] (.bool b) rfl (fun w1 => ?_) (fun w1 _ => ?_) ?_
  · go_simp
  · rw [← HV.out]; exact specSameS_any s t w1 ws wt
  repeat (refine wpF_val rfl monoQ_end (by rintro _ ⟨⟩; rfl) ?_ (fun w1 hw1 => ?_) (fun K hK => ?_); rotate_left; (focus (have hF := FACT.out w1 hw1; go_simp; first | done | rfl)); go_simp; refine hK _ ?_; clear hK K)
  refine wpFacts_nil ?_
  intro w2 hC _
  have Bw := Lib.hid (below_step Bw.out hC)
  have A := Lib.hid (A.out.kept hC)
  have X := Lib.hid (X.out.kept hC)
  clear hC FACT
  have FACT := Lib.hid (fun w1 (hw : Ext (w2) w1) => And.intro (hw.cell (A.out.at 0 rfl)) (And.intro (hw.cell (A.out.at 1 rfl)) (And.intro (hw.cell (A.out.at 2 rfl)) (And.intro (hw.cell (A.out.at 3 rfl)) (And.intro (hw.cell (A.out.at 4 rfl)) (And.intro (hw.cell (A.out.at 5 rfl)) (And.intro (hw.cell (X.out.at 0 rfl)) (And.intro (hw.cell (X.out.at 1 rfl)) (And.intro (hw.cell (X.out.at 2 rfl)) (And.intro (hw.cell (X.out.at 3 rfl)) (And.intro (hw.cell (X.out.at 4 rfl)) (hw.cell (X.out.at 5 rfl)))))))))))))
  go_wp2
  refine wp_region_facts (Ext (w2)) (TS [(13, fIs (.agg #[.float .f32 s.so, .float .f32 s.fl, .float .f32 s.es, .float .f32 s.ef, .float .f32 s.pt, .float .f32 s.la])), (15, fIs (.agg #[.float .f32 t.so, .float .f32 t.fl, .float .f32 t.es, .float .f32 t.ef, .float .f32 t.pt, .float .f32 t.la])), (16, fIs (.bool b))]) (Pers.ext _) (TS.pers _) (Ext.start _) (by kernel_rfl) (by kernel_rfl) (by intro d v c a w h; cases d <;> exact h) ?_
  repeat (refine wpF_val rfl monoQ_end (by rintro _ ⟨⟩; rfl) ?_ (fun w1 hw1 => ?_) (fun K hK => ?_); rotate_left; (focus (have hF := FACT.out w1 hw1; go_simp; first | done | rfl)); go_simp; refine hK _ ?_; clear hK K)
  refine wpF_callV rfl 13 rfl 16 #[.agg #[.float .f32 s.so, .float .f32 s.fl, .float .f32 s.es, .float .f32 s.ef, .float .f32 s.pt, .float .f32 s.la]] (.agg #[.float .f32 s.so, .float .f32 s.fl, .float .f32 s.es, .float .f32 s.ef, .float .f32 s.pt, .float .f32 s.la]) rfl (fun w1 => ?_) (fun w1 _ => ?_) ?_
  · go_simp
  · exact toStuff_any s w1
  repeat (refine wpF_val rfl monoQ_end (by rintro _ ⟨⟩; rfl) ?_ (fun w1 hw1 => ?_) (fun K hK => ?_); rotate_left; (focus (have hF := FACT.out w1 hw1; go_simp; first | done | rfl)); go_simp; refine hK _ ?_; clear hK K)
  refine wpF_callV rfl 15 rfl 16 #[.agg #[.float .f32 t.so, .float .f32 t.fl, .float .f32 t.es, .float .f32 t.ef, .float .f32 t.pt, .float .f32 t.la]] (.agg #[.float .f32 t.so, .float .f32 t.fl, .float .f32 t.es, .float .f32 t.ef, .float .f32 t.pt, .float .f32 t.la]) rfl (fun w1 => ?_) (fun w1 _ => ?_) ?_
  · go_simp
  · exact toStuff_any t w1
  repeat (refine wpF_val rfl monoQ_end (by rintro _ ⟨⟩; rfl) ?_ (fun w1 hw1 => ?_) (fun K hK => ?_); rotate_left; (focus (have hF := FACT.out w1 hw1; go_simp; first | done | rfl)); go_simp; refine hK _ ?_; clear hK K)
  refine wpF_callV rfl 16 rfl 17 #[.agg #[.float .f32 s.so, .float .f32 s.fl, .float .f32 s.es, .float .f32 s.ef, .float .f32 s.pt, .float .f32 s.la], .agg #[.float .f32 t.so, .float .f32 t.fl, .float .f32 t.es, .float .f32 t.ef, .float .f32 t.pt, .float .f32 t.la]] (.bool b) rfl (fun w1 => ?_) (fun w1 _ => ?_) ?_
  · go_simp
  · rw [← HV.out]; exact implSameS_any s t w1 ws wt
  repeat (refine wpF_val rfl monoQ_end (by rintro _ ⟨⟩; rfl) ?_ (fun w1 hw1 => ?_) (fun K hK => ?_); rotate_left; (focus (have hF := FACT.out w1 hw1; go_simp; first | done | rfl)); go_simp; refine hK _ ?_; clear hK K)
  refine wpFacts_nil ?_
  intro w3 hC _
  have Bw := Lib.hid (below_step Bw.out hC)
  clear hC FACT
  go_wp2
  go_ret
  exact Tru.below Bw.out
end Go.Proofs.Ytgcgfnpkkhhkgab
