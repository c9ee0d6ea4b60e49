/- The law on cups that are mixed, walked. -/
import Derived.Test.YtgcgfnpkkhhkgaaCupW
import Derived.Test.YtgcgfnpkkhhkgaaFacts2
namespace Go.Proofs.Ytgcgfnpkkhhkgaa
open Go.RowKit
set_option linter.unusedVariables false

/-- what calls in these regions hand back: a cup (of one), or the value V (of two) -/
def SgM (V : Value) (_f : FuncId) (args : Array Value) (v : Value) : Prop := match args.toList with | [x] => v = x | _ => v = V

set_option maxHeartbeats 1600000 in
theorem fnExactMixCups_walk (m k m' k' : Int) (w : World) (_ : (Lit.int .i64 m).wf = true) (_ : (Lit.int .i64 k).wf = true) (_ : (Lit.int .i64 m').wf = true) (_ : (Lit.int .i64 k').wf = true) :
    Calls Try.prog 4 #[.agg #[.int .i64 m, .int .i64 k], .agg #[.int .i64 m', .int .i64 k']] w (Tru w) := by
  have A := Lib.hid ((Cells.made w [.int .i64 m, .int .i64 k] 23).al (.cells [Value.int .i64 m', .int .i64 k'].toArray 23))
  have X := Cells.made (w.alloc (.cells [Value.int .i64 m, .int .i64 k].toArray 23)) [.int .i64 m', .int .i64 k'] 23
  rw [show (w.alloc (.cells [Value.int .i64 m, .int .i64 k].toArray 23)).heap.size = w.heap.size + 1 from by simp] at X
  have X := Lib.hid X
  have Bw := Lib.hid (below_al2 w (.cells [Value.int .i64 m, .int .i64 k].toArray 23) (.cells [Value.int .i64 m', .int .i64 k'].toArray 23))
  cases hB : mixB m k m' k'
  · have HB := Lib.hid hB
    clear hB
    go_enter Try.func4, Try.ntmps4
    go_wp2
    have FACT := Lib.hid (fun w1 (hw : Ext ((w.alloc (.cells [Value.int .i64 m, .int .i64 k].toArray 23)).alloc (.cells [Value.int .i64 m', .int .i64 k'].toArray 23)) w1) => And.intro (hw.cell (A.out.at 0 rfl)) (And.intro (hw.cell (A.out.at 1 rfl)) (And.intro (hw.cell (X.out.at 0 rfl)) (hw.cell (X.out.at 1 rfl)))))
    refine wp_region_facts_tail 9 [7] (Ext ((w.alloc (.cells [Value.int .i64 m, .int .i64 k].toArray 23)).alloc (.cells [Value.int .i64 m', .int .i64 k'].toArray 23))) (TS [(11, fIs (.agg #[.int .i64 m, .int .i64 k])), (13, fIs (.agg #[.int .i64 m', .int .i64 k'])), (14, fIs (.tuple #[.agg #[.int .i64 0, .int .i64 0], .bool false])), (5, fBox ((w.alloc (.cells [Value.int .i64 m, .int .i64 k].toArray 23)).alloc (.cells [Value.int .i64 m', .int .i64 k'].toArray 23)).heap.size [.int .i64 0, .int .i64 0])]) (Pers.ext _) (TS.pers _) (Ext.start _) (by kernel_rfl) (by kernel_rfl) (by intro d v c a w h; cases d <;> exact h) ?_
    simp only [List.take_succ_cons, List.take_zero, List.drop_succ_cons, List.drop_zero]
    repeat (refine wpF_val rfl monoQ_end (by rintro _ ⟨⟩; rfl) ?_ (fun w1 hw1 => ?_) (fun K hK => ?_); rotate_left; (focus (have hF := FACT.out w1 hw1; go_simp; first | done | rfl)); go_simp; refine hK _ ?_; clear hK K)
    refine wpF_callV rfl 11 rfl 16 #[.agg #[.int .i64 m, .int .i64 k]] (.agg #[.int .i64 m, .int .i64 k]) rfl (fun w1 => ?_) (fun w1 _ => toCup_any m k w1) ?_
    · go_simp
    repeat (refine wpF_val rfl monoQ_end (by rintro _ ⟨⟩; rfl) ?_ (fun w1 hw1 => ?_) (fun K hK => ?_); rotate_left; (focus (have hF := FACT.out w1 hw1; go_simp; first | done | rfl)); go_simp; refine hK _ ?_; clear hK K)
    refine wpF_callV rfl 13 rfl 16 #[.agg #[.int .i64 m', .int .i64 k']] (.agg #[.int .i64 m', .int .i64 k']) rfl (fun w1 => ?_) (fun w1 _ => toCup_any m' k' w1) ?_
    · go_simp
    repeat (refine wpF_val rfl monoQ_end (by rintro _ ⟨⟩; rfl) ?_ (fun w1 hw1 => ?_) (fun K hK => ?_); rotate_left; (focus (have hF := FACT.out w1 hw1; go_simp; first | done | rfl)); go_simp; refine hK _ ?_; clear hK K)
    refine wpF_callV rfl 14 rfl 18 #[.agg #[.int .i64 m, .int .i64 k], .agg #[.int .i64 m', .int .i64 k']] (.tuple #[.agg #[.int .i64 0, .int .i64 0], .bool false]) rfl (fun w1 => ?_) (fun w1 _ => ?_) ?_
    · go_simp
    · refine (specMix_any m k m' k' w1).mono ?_
      unfold CupB
      rw [HB.out]
      rintro e w2 ⟨rfl, hb⟩
      exact ⟨rfl, hb⟩
    repeat (refine wpF_val rfl monoQ_end (by rintro _ ⟨⟩; rfl) ?_ (fun w1 hw1 => ?_) (fun K hK => ?_); rotate_left; (focus (have hF := FACT.out w1 hw1; go_simp; first | done | rfl)); go_simp; refine hK _ ?_; clear hK K)
    refine wpF_alloc rfl 5 rfl ((w.alloc (.cells [Value.int .i64 m, .int .i64 k].toArray 23)).alloc (.cells [Value.int .i64 m', .int .i64 k'].toArray 23)).heap.size [.int .i64 0, .int .i64 0] 25 rfl (fun w1 hw1 => hw1.size) (fun w1 => ?_) (fun p => ?_)
    · go_simp
    refine wpFacts_nil ?_
    intro w3 hC hF
    obtain ⟨hp, C1⟩ := fact_box rfl hF (by repeat (first | exact Or.inr ⟨rfl, rfl⟩ | refine Or.inl ?_))
    clear hF FACT
    have hp : w.heap.size + 2 ≤ p := by simpa using hp
    have c0 := C1.at 0 rfl; have c1 := C1.at 1 rfl; have cf := C1.fz
    have Bw := Lib.hid (((below_step Bw.out hC).setCell (p := ⟨p, 0, none⟩) (by show w.heap.size ≤ p; omega) (.int .i64 0)).setCell (p := ⟨p, 1, none⟩) (by show w.heap.size ≤ p; omega) (.int .i64 0))
    have A := Lib.hid (((A.out.kept hC).far (q := p) (by omega) 0 (.int .i64 0)).far (q := p) (by omega) 1 (.int .i64 0))
    have X := Lib.hid (((X.out.kept hC).far (q := p) (by omega) 0 (.int .i64 0)).far (q := p) (by omega) 1 (.int .i64 0))
    have D := Lib.hid ((C1.set 0 (by simp) (.int .i64 0)).set 1 (by simp) (.int .i64 0))
    have PP := Lib.hid hp
    clear C1 hC hp
    go_wp2
    generalize (w3.setCell ⟨p, 0, none⟩ (.int .i64 0)).setCell ⟨p, 1, none⟩ (.int .i64 0) = w4 at *
    clear c0 c1 cf
    have FACT := Lib.hid (fun w1 (hw : Ext (w4) w1) => And.intro (hw.cell (A.out.at 0 rfl)) (And.intro (hw.cell (A.out.at 1 rfl)) (And.intro (hw.cell (X.out.at 0 rfl)) (hw.cell (X.out.at 1 rfl)))))
    refine wp_region_facts_tail 9 [7] (Ext (w4)) (TS [(19, fIs (.agg #[.int .i64 m, .int .i64 k])), (21, fIs (.agg #[.int .i64 m', .int .i64 k'])), (22, fIs (.tuple #[.agg #[.int .i64 0, .int .i64 0], .bool false])), (7, fBox (w4).heap.size [.int .i64 0, .int .i64 0])]) (Pers.ext _) (TS.pers _) (Ext.start _) (by kernel_rfl) (by kernel_rfl) (by intro d v c a w h; cases d <;> exact h) ?_
    simp only [List.take_succ_cons, List.take_zero, List.drop_succ_cons, List.drop_zero]
    repeat (refine wpF_val rfl monoQ_end (by rintro _ ⟨⟩; rfl) ?_ (fun w1 hw1 => ?_) (fun K hK => ?_); rotate_left; (focus (have hF := FACT.out w1 hw1; go_simp; first | done | rfl)); go_simp; refine hK _ ?_; clear hK K)
    refine wpF_callV rfl 19 rfl 16 #[.agg #[.int .i64 m, .int .i64 k]] (.agg #[.int .i64 m, .int .i64 k]) rfl (fun w1 => ?_) (fun w1 _ => toCup_any m k w1) ?_
    · go_simp
    repeat (refine wpF_val rfl monoQ_end (by rintro _ ⟨⟩; rfl) ?_ (fun w1 hw1 => ?_) (fun K hK => ?_); rotate_left; (focus (have hF := FACT.out w1 hw1; go_simp; first | done | rfl)); go_simp; refine hK _ ?_; clear hK K)
    refine wpF_callV rfl 21 rfl 16 #[.agg #[.int .i64 m', .int .i64 k']] (.agg #[.int .i64 m', .int .i64 k']) rfl (fun w1 => ?_) (fun w1 _ => toCup_any m' k' w1) ?_
    · go_simp
    repeat (refine wpF_val rfl monoQ_end (by rintro _ ⟨⟩; rfl) ?_ (fun w1 hw1 => ?_) (fun K hK => ?_); rotate_left; (focus (have hF := FACT.out w1 hw1; go_simp; first | done | rfl)); go_simp; refine hK _ ?_; clear hK K)
    refine wpF_callV rfl 22 rfl 19 #[.agg #[.int .i64 m, .int .i64 k], .agg #[.int .i64 m', .int .i64 k']] (.tuple #[.agg #[.int .i64 0, .int .i64 0], .bool false]) rfl (fun w1 => ?_) (fun w1 _ => ?_) ?_
    · go_simp
    · refine (implMix_any m k m' k' w1).mono ?_
      unfold CupB
      rw [HB.out]
      rintro e w2 ⟨rfl, hb⟩
      exact ⟨rfl, hb⟩
    repeat (refine wpF_val rfl monoQ_end (by rintro _ ⟨⟩; rfl) ?_ (fun w1 hw1 => ?_) (fun K hK => ?_); rotate_left; (focus (have hF := FACT.out w1 hw1; go_simp; first | done | rfl)); go_simp; refine hK _ ?_; clear hK K)
    refine wpF_alloc rfl 7 rfl (w4).heap.size [.int .i64 0, .int .i64 0] 25 rfl (fun w1 hw1 => hw1.size) (fun w1 => ?_) (fun q => ?_)
    · go_simp
    refine wpFacts_nil ?_
    intro w5 hC hF
    obtain ⟨hp, C2⟩ := fact_box rfl hF (by repeat (first | exact Or.inr ⟨rfl, rfl⟩ | refine Or.inl ?_))
    clear hF FACT
    have hq : w.heap.size + 2 ≤ q := Nat.le_trans PP.out (Nat.le_of_lt (Nat.lt_of_lt_of_le D.out.lt hp))
    have hne : p < q := Nat.lt_of_lt_of_le D.out.lt hp
    have y0 := C2.at 0 rfl; have y1 := C2.at 1 rfl; have yf := C2.fz
    have Bw := Lib.hid (((below_step Bw.out hC).setCell (p := ⟨q, 0, none⟩) (by show w.heap.size ≤ q; omega) (.int .i64 0)).setCell (p := ⟨q, 1, none⟩) (by show w.heap.size ≤ q; omega) (.int .i64 0))
    have D := Lib.hid (((D.out.kept hC).far (q := q) (by omega) 0 (.int .i64 0)).far (q := q) (by omega) 1 (.int .i64 0))
    have G := Lib.hid ((C2.set 0 (by simp) (.int .i64 0)).set 1 (by simp) (.int .i64 0))
    clear C2 hC hp A X hq hne
    have d0 := D.out.at 0 rfl; have d1 := D.out.at 1 rfl; have g0 := G.out.at 0 rfl; have g1 := G.out.at 1 rfl
    go_wp2_with fail
    refine (eqCup_any _ _ _).mono ?_
    rintro e w7 ⟨rfl, hb⟩
    have Bw := Lib.hid (below_step Bw.out hb)
    clear hb
    go_wp2
    go_ret
    exact Tru.below Bw.out

  · have HB := Lib.hid hB
    clear hB
    go_enter Try.func4, Try.ntmps4
    go_wp2
    have FACT := Lib.hid (fun w1 (hw : Ext ((w.alloc (.cells [Value.int .i64 m, .int .i64 k].toArray 23)).alloc (.cells [Value.int .i64 m', .int .i64 k'].toArray 23)) w1) => And.intro (hw.cell (A.out.at 0 rfl)) (And.intro (hw.cell (A.out.at 1 rfl)) (And.intro (hw.cell (X.out.at 0 rfl)) (hw.cell (X.out.at 1 rfl)))))
    refine wp_region_facts_tail 9 [7] (Ext ((w.alloc (.cells [Value.int .i64 m, .int .i64 k].toArray 23)).alloc (.cells [Value.int .i64 m', .int .i64 k'].toArray 23))) (TS [(11, fIs (.agg #[.int .i64 m, .int .i64 k])), (13, fIs (.agg #[.int .i64 m', .int .i64 k'])), (14, fIs (.tuple #[.agg #[.int .i64 (m + m'), .int .i64 (k + k')], .bool true])), (5, fBox ((w.alloc (.cells [Value.int .i64 m, .int .i64 k].toArray 23)).alloc (.cells [Value.int .i64 m', .int .i64 k'].toArray 23)).heap.size [.int .i64 0, .int .i64 0])]) (Pers.ext _) (TS.pers _) (Ext.start _) (by kernel_rfl) (by kernel_rfl) (by intro d v c a w h; cases d <;> exact h) ?_
    simp only [List.take_succ_cons, List.take_zero, List.drop_succ_cons, List.drop_zero]
    repeat (refine wpF_val rfl monoQ_end (by rintro _ ⟨⟩; rfl) ?_ (fun w1 hw1 => ?_) (fun K hK => ?_); rotate_left; (focus (have hF := FACT.out w1 hw1; go_simp; first | done | rfl)); go_simp; refine hK _ ?_; clear hK K)
    refine wpF_callV rfl 11 rfl 16 #[.agg #[.int .i64 m, .int .i64 k]] (.agg #[.int .i64 m, .int .i64 k]) rfl (fun w1 => ?_) (fun w1 _ => toCup_any m k w1) ?_
    · go_simp
    repeat (refine wpF_val rfl monoQ_end (by rintro _ ⟨⟩; rfl) ?_ (fun w1 hw1 => ?_) (fun K hK => ?_); rotate_left; (focus (have hF := FACT.out w1 hw1; go_simp; first | done | rfl)); go_simp; refine hK _ ?_; clear hK K)
    refine wpF_callV rfl 13 rfl 16 #[.agg #[.int .i64 m', .int .i64 k']] (.agg #[.int .i64 m', .int .i64 k']) rfl (fun w1 => ?_) (fun w1 _ => toCup_any m' k' w1) ?_
    · go_simp
    repeat (refine wpF_val rfl monoQ_end (by rintro _ ⟨⟩; rfl) ?_ (fun w1 hw1 => ?_) (fun K hK => ?_); rotate_left; (focus (have hF := FACT.out w1 hw1; go_simp; first | done | rfl)); go_simp; refine hK _ ?_; clear hK K)
    refine wpF_callV rfl 14 rfl 18 #[.agg #[.int .i64 m, .int .i64 k], .agg #[.int .i64 m', .int .i64 k']] (.tuple #[.agg #[.int .i64 (m + m'), .int .i64 (k + k')], .bool true]) rfl (fun w1 => ?_) (fun w1 _ => ?_) ?_
    · go_simp
    · refine (specMix_any m k m' k' w1).mono ?_
      unfold CupB
      rw [HB.out]
      rintro e w2 ⟨rfl, hb⟩
      exact ⟨rfl, hb⟩
    repeat (refine wpF_val rfl monoQ_end (by rintro _ ⟨⟩; rfl) ?_ (fun w1 hw1 => ?_) (fun K hK => ?_); rotate_left; (focus (have hF := FACT.out w1 hw1; go_simp; first | done | rfl)); go_simp; refine hK _ ?_; clear hK K)
    refine wpF_alloc rfl 5 rfl ((w.alloc (.cells [Value.int .i64 m, .int .i64 k].toArray 23)).alloc (.cells [Value.int .i64 m', .int .i64 k'].toArray 23)).heap.size [.int .i64 0, .int .i64 0] 25 rfl (fun w1 hw1 => hw1.size) (fun w1 => ?_) (fun p => ?_)
    · go_simp
    refine wpFacts_nil ?_
    intro w3 hC hF
    obtain ⟨hp, C1⟩ := fact_box rfl hF (by repeat (first | exact Or.inr ⟨rfl, rfl⟩ | refine Or.inl ?_))
    clear hF FACT
    have hp : w.heap.size + 2 ≤ p := by simpa using hp
    have c0 := C1.at 0 rfl; have c1 := C1.at 1 rfl; have cf := C1.fz
    have Bw := Lib.hid (((below_step Bw.out hC).setCell (p := ⟨p, 0, none⟩) (by show w.heap.size ≤ p; omega) (.int .i64 (m + m'))).setCell (p := ⟨p, 1, none⟩) (by show w.heap.size ≤ p; omega) (.int .i64 (k + k')))
    have A := Lib.hid (((A.out.kept hC).far (q := p) (by omega) 0 (.int .i64 (m + m'))).far (q := p) (by omega) 1 (.int .i64 (k + k')))
    have X := Lib.hid (((X.out.kept hC).far (q := p) (by omega) 0 (.int .i64 (m + m'))).far (q := p) (by omega) 1 (.int .i64 (k + k')))
    have D := Lib.hid ((C1.set 0 (by simp) (.int .i64 (m + m'))).set 1 (by simp) (.int .i64 (k + k')))
    have PP := Lib.hid hp
    clear C1 hC hp
    go_wp2
    generalize (w3.setCell ⟨p, 0, none⟩ (.int .i64 (m + m'))).setCell ⟨p, 1, none⟩ (.int .i64 (k + k')) = w4 at *
    clear c0 c1 cf
    have FACT := Lib.hid (fun w1 (hw : Ext (w4) w1) => And.intro (hw.cell (A.out.at 0 rfl)) (And.intro (hw.cell (A.out.at 1 rfl)) (And.intro (hw.cell (X.out.at 0 rfl)) (hw.cell (X.out.at 1 rfl)))))
    refine wp_region_facts_tail 9 [7] (Ext (w4)) (TS [(19, fIs (.agg #[.int .i64 m, .int .i64 k])), (21, fIs (.agg #[.int .i64 m', .int .i64 k'])), (22, fIs (.tuple #[.agg #[.int .i64 (m + m'), .int .i64 (k + k')], .bool true])), (7, fBox (w4).heap.size [.int .i64 0, .int .i64 0])]) (Pers.ext _) (TS.pers _) (Ext.start _) (by kernel_rfl) (by kernel_rfl) (by intro d v c a w h; cases d <;> exact h) ?_
    simp only [List.take_succ_cons, List.take_zero, List.drop_succ_cons, List.drop_zero]
    repeat (refine wpF_val rfl monoQ_end (by rintro _ ⟨⟩; rfl) ?_ (fun w1 hw1 => ?_) (fun K hK => ?_); rotate_left; (focus (have hF := FACT.out w1 hw1; go_simp; first | done | rfl)); go_simp; refine hK _ ?_; clear hK K)
    refine wpF_callV rfl 19 rfl 16 #[.agg #[.int .i64 m, .int .i64 k]] (.agg #[.int .i64 m, .int .i64 k]) rfl (fun w1 => ?_) (fun w1 _ => toCup_any m k w1) ?_
    · go_simp
    repeat (refine wpF_val rfl monoQ_end (by rintro _ ⟨⟩; rfl) ?_ (fun w1 hw1 => ?_) (fun K hK => ?_); rotate_left; (focus (have hF := FACT.out w1 hw1; go_simp; first | done | rfl)); go_simp; refine hK _ ?_; clear hK K)
    refine wpF_callV rfl 21 rfl 16 #[.agg #[.int .i64 m', .int .i64 k']] (.agg #[.int .i64 m', .int .i64 k']) rfl (fun w1 => ?_) (fun w1 _ => toCup_any m' k' w1) ?_
    · go_simp
    repeat (refine wpF_val rfl monoQ_end (by rintro _ ⟨⟩; rfl) ?_ (fun w1 hw1 => ?_) (fun K hK => ?_); rotate_left; (focus (have hF := FACT.out w1 hw1; go_simp; first | done | rfl)); go_simp; refine hK _ ?_; clear hK K)
    refine wpF_callV rfl 22 rfl 19 #[.agg #[.int .i64 m, .int .i64 k], .agg #[.int .i64 m', .int .i64 k']] (.tuple #[.agg #[.int .i64 (m + m'), .int .i64 (k + k')], .bool true]) rfl (fun w1 => ?_) (fun w1 _ => ?_) ?_
    · go_simp
    · refine (implMix_any m k m' k' w1).mono ?_
      unfold CupB
      rw [HB.out]
      rintro e w2 ⟨rfl, hb⟩
      exact ⟨rfl, hb⟩
    repeat (refine wpF_val rfl monoQ_end (by rintro _ ⟨⟩; rfl) ?_ (fun w1 hw1 => ?_) (fun K hK => ?_); rotate_left; (focus (have hF := FACT.out w1 hw1; go_simp; first | done | rfl)); go_simp; refine hK _ ?_; clear hK K)
    refine wpF_alloc rfl 7 rfl (w4).heap.size [.int .i64 0, .int .i64 0] 25 rfl (fun w1 hw1 => hw1.size) (fun w1 => ?_) (fun q => ?_)
    · go_simp
    refine wpFacts_nil ?_
    intro w5 hC hF
    obtain ⟨hp, C2⟩ := fact_box rfl hF (by repeat (first | exact Or.inr ⟨rfl, rfl⟩ | refine Or.inl ?_))
    clear hF FACT
    have hq : w.heap.size + 2 ≤ q := Nat.le_trans PP.out (Nat.le_of_lt (Nat.lt_of_lt_of_le D.out.lt hp))
    have hne : p < q := Nat.lt_of_lt_of_le D.out.lt hp
    have y0 := C2.at 0 rfl; have y1 := C2.at 1 rfl; have yf := C2.fz
    have Bw := Lib.hid (((below_step Bw.out hC).setCell (p := ⟨q, 0, none⟩) (by show w.heap.size ≤ q; omega) (.int .i64 (m + m'))).setCell (p := ⟨q, 1, none⟩) (by show w.heap.size ≤ q; omega) (.int .i64 (k + k')))
    have D := Lib.hid (((D.out.kept hC).far (q := q) (by omega) 0 (.int .i64 (m + m'))).far (q := q) (by omega) 1 (.int .i64 (k + k')))
    have G := Lib.hid ((C2.set 0 (by simp) (.int .i64 (m + m'))).set 1 (by simp) (.int .i64 (k + k')))
    clear C2 hC hp A X hq hne
    have d0 := D.out.at 0 rfl; have d1 := D.out.at 1 rfl; have g0 := G.out.at 0 rfl; have g1 := G.out.at 1 rfl
    go_wp2_with fail
    refine (eqCup_any _ _ _).mono ?_
    rintro e w7 ⟨rfl, hb⟩
    have Bw := Lib.hid (below_step Bw.out hb)
    clear hb
    go_wp2
    go_ret
    exact Tru.below Bw.out

end Go.Proofs.Ytgcgfnpkkhhkgaa
