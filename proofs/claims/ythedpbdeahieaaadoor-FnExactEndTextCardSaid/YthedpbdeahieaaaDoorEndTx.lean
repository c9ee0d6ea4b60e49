/- The text of an end: both sides, and the law's walk. -/
import Derived.Test.YthedpbdeahieaaaDoorTls
import Derived.Test.YthedpbdeahieaaaDoorDecI
import Derived.Test.YthedpbdeahieaaaDoorEnd
import Derived.Test.YthedpbdeahieaaaDoorFactsL
namespace Go.Proofs.YthedpbdeahieaaaDoor
open Go.RowKit
set_option linter.unusedVariables false

def eTx (k : Int) (x y : Nat) : ByteArray := decZ k ++ (⟨#[58]⟩ : ByteArray) ++ nTx [x, y]
theorem decZ_size (k : Int) (h0 : -9223372036854775808 ≤ k) (h1 : k ≤ 9223372036854775807) : (decZ k).size ≤ 21 := by
  unfold decZ
  rw [strOfNums_size]
  unfold decN
  have := ddig_len 19 k.natAbs (by omega)
  split
  · simp only [List.length_cons]; omega
  · omega
theorem row2 {w : World} {p x y : Nat} (h : Cells w p [.float .f32 x, .float .f32 y]) : FRow w (.slice (some ⟨p, 0, none⟩) 2 2) [x, y] := FRow.of_cells (zs := [x, y]) h (by show 2 ≤ 9223372036854775807; decide)
theorem ok2 {x y : Nat} (wx : (Lit.float .f32 x).wf = true) (wy : (Lit.float .f32 y).wf = true) : LOk [x, y] := ⟨by simp, fun i hi => by
  match i, hi with
  | 0, _ => exact wx
  | 1, _ => exact wy
  | i + 2, hi => exact absurd hi (by show ¬ (i + 2 < 2); omega)⟩

set_option maxHeartbeats 1600000 in
set_option maxRecDepth 20000 in
theorem specEndT_any (k : Int) (x y : Nat) (p : Nat) (w : World) (A : Cells w p [.int .i64 k, .float .f32 x, .float .f32 y]) (wk : -9223372036854775808 ≤ k ∧ k ≤ 9223372036854775807) (wx : (Lit.float .f32 x).wf = true) (wy : (Lit.float .f32 y).wf = true) :
    Calls Tryd.prog 75 #[.pointer (some ⟨p, 0, none⟩)] w fun e w' => e = .returned (.string (eTx k x y)) ∧ Below w.heap.size w w' := by
  have KD := Lib.hid (fun w1 => specDec_any k w1 wk.1 wk.2)
  have KN := Lib.hid (fun w1 q (h : Cells w1 q [.float .f32 x, .float .f32 y]) => specNTx_any _ [x, y] w1 (row2 h) (ok2 wx wy).2 (ok2 wx wy).1)
  have s1 := decZ_size k wk.1 wk.2
  have s2 := nTx_size (ok2 wx wy).1
  have HA := Lib.hid A
  have ET : eTx k x y = decZ k ++ (⟨#[58]⟩ : ByteArray) ++ nTx [x, y] := rfl
  rw [ET]
  clear A wk wx wy ET
  generalize decZ k = td at *
  generalize nTx [x, y] = tn at *
  have n1 : ¬ (9223372036854775807 < td.size + 1) := by omega
  have n2 : ¬ (9223372036854775807 < td.size + 1 + tn.size) := by omega
  clear s1 s2
  have FACT := Lib.hid (fun w1 (hw : Ext w w1) => And.intro (hw.cell (HA.out.at 0 rfl)) (And.intro (hw.cell (HA.out.at 1 rfl)) (hw.cell (HA.out.at 2 rfl))))
  go_enter Tryd.func75, Tryd.ntmps75
  go_wp2
  refine wp_region_facts (Ext w) (TS [(7, fIs (.string td)), (17, fLit 2 [.float .f32 x, .float .f32 y]), (18, fIs (.string tn))]) (Pers.ext _) (TS.pers _) (Ext.start _) (by kernel_rfl) (by kernel_rfl) (by intro d v c a w h; cases d <;> exact h) ?_
  repeat (refine wpF_val rfl monoQ_end (by rintro _ ⟨⟩; rfl) ?_ (fun w1 hw1 => ?_) (fun K hK => ?_); rotate_left; (focus (have hF := FACT.out w1 hw1; go_simp; first | done | rfl)); go_simp; refine hK _ ?_; clear hK K)
  refine wpF_callF rfl 7 rfl 58 #[.int .i64 k] (fIs (.string td)) rfl (fun w1 => ?_) (fun w1 hC hN => ?_) (fun v1 hv1 => ?_)
  · go_simp
  · refine (KD.out w1).mono ?_
    rintro _ w2 ⟨rfl, hb⟩
    exact ⟨_, rfl, hb, rfl⟩
  obtain ⟨_, rfl⟩ := hv1
  repeat (refine wpF_val rfl monoQ_end (by rintro _ ⟨⟩; rfl) ?_ (fun w1 hw1 => ?_) (fun K hK => ?_); rotate_left; (focus (have hF := FACT.out w1 hw1; go_simp; first | done | rfl)); go_simp; refine hK _ ?_; clear hK K)
  refine wpF_lit rfl 17 rfl 2 [.float .f32 x, .float .f32 y] 54 rfl (fun w1 => ?_) (fun q => ?_)
  · go_simp
  repeat (refine wpF_val rfl monoQ_end (by rintro _ ⟨⟩; rfl) ?_ (fun w1 hw1 => ?_) (fun K hK => ?_); rotate_left; (focus (have hF := FACT.out w1 hw1; go_simp; first | done | rfl)); go_simp; refine hK _ ?_; clear hK K)
  refine wpF_callF rfl 18 rfl 65 #[.slice (some ⟨q, 0, none⟩) 2 2] (fIs (.string tn)) rfl (fun w1 => ?_) (fun w1 hC hN => ?_) (fun v1 hv1 => ?_)
  · go_simp
  · refine (KN.out w1 q (lit_of (fact_needL (d := 17) rfl hN (by kernel_rfl) (by repeat (first | exact Or.inr ⟨rfl, rfl⟩ | refine Or.inl ?_))))).mono ?_
    rintro _ w2 ⟨rfl, hb⟩
    exact ⟨_, rfl, hb, rfl⟩
  obtain ⟨_, rfl⟩ := hv1
  repeat (refine wpF_val rfl monoQ_end (by rintro _ ⟨⟩; rfl) ?_ (fun w1 hw1 => ?_) (fun K hK => ?_); rotate_left; (focus (have hF := FACT.out w1 hw1; go_simp; first | done | rfl)); go_simp; refine hK _ ?_; clear hK K)
  refine wpFacts_nil ?_
  intro w3 hb _
  go_wp2
  go_ret
  exact ⟨rfl, hb⟩

set_option maxRecDepth 20000 in
theorem specET_any (k : Int) (x y : Nat) (w : World) (wk : -9223372036854775808 ≤ k ∧ k ≤ 9223372036854775807) (wx : (Lit.float .f32 x).wf = true) (wy : (Lit.float .f32 y).wf = true) : Calls Tryd.prog 38 #[.agg #[.int .i64 k, .float .f32 x, .float .f32 y]] w (TxB (eTx k x y) (vEnd k x y) w) := by
  have A := Lib.hid (Cells.made w [.int .i64 k, .float .f32 x, .float .f32 y] 58)
  have Bw := Lib.hid (below_al1 w (.cells [Value.int .i64 k, .float .f32 x, .float .f32 y].toArray 58))
  have HV := Lib.hid (specEnd_any k x y _ _ (A.out.at 0 rfl) (A.out.at 1 rfl) (A.out.at 2 rfl))
  have HT := Lib.hid (fun n => specEndT_any k x y w.heap.size ((w.alloc (.cells [Value.int .i64 k, .float .f32 x, .float .f32 y].toArray 58)).drewN n) (A.out.drewN) wk wx wy)
  clear wk wx wy
  unfold TxB
  cases hv : vEnd k x y
  · have HB := Lib.hid hv
    clear hv HT
    go_enter Tryd.func38, Tryd.ntmps38
    go_wp2_with fail
    refine HV.out.mono ?_
    rw [HB.out]
    rintro e w1 ⟨rfl, n, rfl⟩
    go_wp2
    go_ret2
    exact ⟨rfl, below_drewN Bw.out n⟩
  · have HB := Lib.hid hv
    clear hv
    generalize eTx k x y = T at *
    go_enter Tryd.func38, Tryd.ntmps38
    go_wp2_with fail
    refine HV.out.mono ?_
    rw [HB.out]
    rintro e w1 ⟨rfl, n, rfl⟩
    go_wp2_with fail
    refine (HT.out n).mono ?_
    rintro e w2 ⟨rfl, hb⟩
    have B := Lib.hid (below_step (below_drewN Bw.out n) hb)
    clear hb
    go_wp2
    go_ret2
    exact ⟨rfl, B.out⟩

theorem lrows1 {w : World} {q p x y : Nat} (hq : Cells w q [.slice (some ⟨p, 0, none⟩) 2 2]) (hp : Cells w p [.float .f32 x, .float .f32 y]) (wx : (Lit.float .f32 x).wf = true) (wy : (Lit.float .f32 y).wf = true) : LRows w q [.slice (some ⟨p, 0, none⟩) 2 2] [[x, y]] :=
  ⟨rfl, fun j hj => by
    match j, hj with
    | 0, _ => exact hq.at 0 rfl
    | j + 1, hj => exact absurd hj (by show ¬ (j + 1 < 1); omega), fun j hj => by
    match j, hj with
    | 0, _ => exact row2 hp
    | j + 1, hj => exact absurd hj (by show ¬ (j + 1 < 1); omega), fun j hj => by
    match j, hj with
    | 0, _ => exact ok2 wx wy
    | j + 1, hj => exact absurd hj (by show ¬ (j + 1 < 1); omega)⟩

set_option maxHeartbeats 1600000 in
set_option maxRecDepth 20000 in
theorem implET_any (k : Int) (x y : Nat) (w : World) (wk : -9223372036854775808 ≤ k ∧ k ≤ 9223372036854775807) (wx : (Lit.float .f32 x).wf = true) (wy : (Lit.float .f32 y).wf = true) (ht : Tabs w) : Calls Tryd.prog 40 #[.agg #[.int .i64 k, .float .f32 x, .float .f32 y]] w (TxB (eTx k x y) (vEnd k x y) w) := by
  have A := Lib.hid (Cells.made w [.int .i64 k, .float .f32 x, .float .f32 y] 58)
  have Bw := Lib.hid (below_al1 w (.cells [Value.int .i64 k, .float .f32 x, .float .f32 y].toArray 58))
  have HV := Lib.hid (implVEnd_any k x y (w.alloc (.cells [Value.int .i64 k, .float .f32 x, .float .f32 y].toArray 58)))
  unfold endV at HV
  have KD := Lib.hid (fun w1 (hT : Tabs w1) => implDec_any k w1 wk.1 wk.2 hT)
  have KN := Lib.hid (fun w1 q p (hT : Tabs w1) (hq : Cells w1 q [.slice (some ⟨p, 0, none⟩) 2 2]) (hp : Cells w1 p [.float .f32 x, .float .f32 y]) => show Calls Tryd.prog 73 #[.slice (some ⟨q, 0, none⟩) 1 1] w1 (fun e w' => e = .returned (.string (nTx [x, y])) ∧ Below w1.heap.size w1 w') from by
    have := textLists_any q _ [[x, y]] w1 (lrows1 hq hp wx wy) (by simp) (by simp) hT
    rwa [show jn 59 ([[x, y]].map nTx) = nTx [x, y] from jn_one 59 _] at this)
  have s1 := decZ_size k wk.1 wk.2
  have s2 := nTx_size (ok2 wx wy).1
  have HT := Lib.hid (ht.below Bw.out)
  have c0 := A.out.at 0 rfl
  have c1 := A.out.at 1 rfl
  have c2 := A.out.at 2 rfl
  clear wk wx wy ht
  unfold TxB
  cases hv : vEnd k x y
  · have HB := Lib.hid hv
    clear hv KD KN
    go_enter Tryd.func40, Tryd.ntmps40
    go_wp2_with fail
    refine HV.out.mono ?_
    rw [HB.out]
    rintro e w1 ⟨rfl, hb⟩
    have B := Lib.hid (below_step Bw.out hb)
    clear hb
    go_wp2
    go_ret2
    exact ⟨rfl, B.out⟩
  · have HB := Lib.hid hv
    clear hv
    have ET : eTx k x y = decZ k ++ (⟨#[58]⟩ : ByteArray) ++ nTx [x, y] := rfl
    rw [ET]
    clear ET
    generalize decZ k = td at *
    generalize nTx [x, y] = tn at *
    have n1 : ¬ (9223372036854775807 < td.size + 1) := by omega
    have n2 : ¬ (9223372036854775807 < td.size + 1 + tn.size) := by omega
    clear s1 s2
    go_enter Tryd.func40, Tryd.ntmps40
    go_wp2_with fail
    refine HV.out.mono ?_
    rw [HB.out]
    rintro e w1 ⟨rfl, hb⟩
    have B := Lib.hid (below_step Bw.out hb)
    have A := Lib.hid (A.out.kept hb)
    have HT := Lib.hid (HT.out.below hb)
    clear hb c0 c1 c2
    go_wp2
    have FACT := Lib.hid (fun w2 (hw : Ext w1 w2) => And.intro (hw.cell (A.out.at 0 rfl)) (And.intro (hw.cell (A.out.at 1 rfl)) (hw.cell (A.out.at 2 rfl))))
    refine wp_region_facts (Ext w1) (TS [(9, fIs (.string td)), (15, fLit 2 [.float .f32 x, .float .f32 y]), (16, fLit1 2 [.float .f32 x, .float .f32 y]), (17, fIs (.string tn))]) (Pers.ext _) (TS.pers _) (Ext.start _) (by kernel_rfl) (by kernel_rfl) (by intro d v c a w h; cases d <;> exact h) ?_
    repeat (refine wpF_val rfl monoQ_end (by rintro _ ⟨⟩; rfl) ?_ (fun w1 hw1 => ?_) (fun K hK => ?_); rotate_left; (focus (have hF := FACT.out w1 hw1; go_simp; first | done | rfl)); go_simp; refine hK _ ?_; clear hK K)
    refine wpF_callF rfl 9 rfl 24 #[.int .i64 k] (fIs (.string td)) rfl (fun w2 => ?_) (fun w2 hC hN => ?_) (fun v1 hv1 => ?_)
    · go_simp
    · refine (KD.out w2 (HT.out.below hC)).mono ?_
      rintro _ w3 ⟨rfl, hb⟩
      exact ⟨_, rfl, hb, rfl⟩
    obtain ⟨_, rfl⟩ := hv1
    repeat (refine wpF_val rfl monoQ_end (by rintro _ ⟨⟩; rfl) ?_ (fun w1 hw1 => ?_) (fun K hK => ?_); rotate_left; (focus (have hF := FACT.out w1 hw1; go_simp; first | done | rfl)); go_simp; refine hK _ ?_; clear hK K)
    refine wpF_lit rfl 15 rfl 2 [.float .f32 x, .float .f32 y] 54 rfl (fun w2 => ?_) (fun p => ?_)
    · go_simp
    repeat (refine wpF_val rfl monoQ_end (by rintro _ ⟨⟩; rfl) ?_ (fun w1 hw1 => ?_) (fun K hK => ?_); rotate_left; (focus (have hF := FACT.out w1 hw1; go_simp; first | done | rfl)); go_simp; refine hK _ ?_; clear hK K)
    refine wpF_lit1 rfl 16 rfl 2 p [.float .f32 x, .float .f32 y] 41 rfl (fun w2 hC hN => lit_of (fact_needL (d := 15) rfl hN (by kernel_rfl) (by repeat (first | exact Or.inr ⟨rfl, rfl⟩ | refine Or.inl ?_)))) (fun w2 => ?_) (fun q => ?_)
    · go_simp
    repeat (refine wpF_val rfl monoQ_end (by rintro _ ⟨⟩; rfl) ?_ (fun w1 hw1 => ?_) (fun K hK => ?_); rotate_left; (focus (have hF := FACT.out w1 hw1; go_simp; first | done | rfl)); go_simp; refine hK _ ?_; clear hK K)
    refine wpF_callF rfl 17 rfl 73 #[.slice (some ⟨q, 0, none⟩) 1 1] (fIs (.string tn)) rfl (fun w2 => ?_) (fun w2 hC hN => ?_) (fun v1 hv1 => ?_)
    · go_simp
    · obtain ⟨p2, hq, hp⟩ := lit1_of (fact_needL (d := 16) rfl hN (by kernel_rfl) (by repeat (first | exact Or.inr ⟨rfl, rfl⟩ | refine Or.inl ?_)))
      refine (KN.out w2 q p2 (HT.out.below hC) hq hp).mono ?_
      rintro _ w3 ⟨rfl, hb⟩
      exact ⟨_, rfl, hb, rfl⟩
    obtain ⟨_, rfl⟩ := hv1
    repeat (refine wpF_val rfl monoQ_end (by rintro _ ⟨⟩; rfl) ?_ (fun w1 hw1 => ?_) (fun K hK => ?_); rotate_left; (focus (have hF := FACT.out w1 hw1; go_simp; first | done | rfl)); go_simp; refine hK _ ?_; clear hK K)
    refine wpFacts_nil ?_
    intro w3 hb _
    have B := Lib.hid (below_step B.out hb)
    clear hb
    go_wp2
    go_ret2
    exact ⟨rfl, B.out⟩

set_option maxRecDepth 20000 in
theorem fnExactEndText_walk (k : Int) (x y : Nat) (w : World) (hk : (Lit.int .i64 k).wf = true) (wx : (Lit.float .f32 x).wf = true) (wy : (Lit.float .f32 y).wf = true) (ht : Tabs w) :
    Calls Tryd.prog 10 #[.agg #[.int .i64 k, .float .f32 x, .float .f32 y]] w (Tru w) := by
  have wk : -9223372036854775808 ≤ k ∧ k ≤ 9223372036854775807 := by simpa [Lit.wf, IntKind.signed, IntKind.bits, IntKind.min] using hk
  have A := Lib.hid (Cells.made w [.int .i64 k, .float .f32 x, .float .f32 y] 56)
  have Bw := Lib.hid (below_al1 w (.cells [Value.int .i64 k, .float .f32 x, .float .f32 y].toArray 56))
  have CS := Lib.hid (fun w1 => specET_any k x y w1 wk wx wy)
  have CI := Lib.hid (fun w1 (hT : Tabs w1) => implET_any k x y w1 wk wx wy hT)
  have CT := Lib.hid (fun w1 => toEnd_any k x y w1)
  unfold endV at CT
  have HT := Lib.hid ht
  clear hk wk wx wy ht
  unfold TxB at *
  generalize (bif vEnd k x y then eTx k x y else (⟨#[]⟩ : ByteArray)) = S at *
  generalize vEnd k x y = ok at *
  go_enter Tryd.func10, Tryd.ntmps10
  go_wp2_with fail
  refine (CT.out _).mono ?_
  rintro e w1 ⟨rfl, hb⟩
  have Bw := Lib.hid (below_step Bw.out hb)
  have A := Lib.hid (A.out.kept hb)
  clear hb
  go_wp2_with fail
  refine (CS.out _).mono ?_
  rintro e w2 ⟨rfl, hb⟩
  have Bw := Lib.hid (below_step Bw.out hb)
  have A := Lib.hid (A.out.kept hb)
  have c0 := A.out.at 0 rfl
  have c1 := A.out.at 1 rfl
  have c2 := A.out.at 2 rfl
  clear hb
  go_wp2_with fail
  refine (CT.out _).mono ?_
  rintro e w3 ⟨rfl, hb⟩
  have Bw := Lib.hid (below_step Bw.out hb)
  clear hb c0 c1 c2 A
  go_wp2_with fail
  refine (CI.out _ (HT.out.below Bw.out)).mono ?_
  rintro e w4 ⟨rfl, hb⟩
  have Bw := Lib.hid (below_step Bw.out hb)
  clear hb
  go_wp2
  go_ret
  exact Tru.below Bw.out
end Go.Proofs.YthedpbdeahieaaaDoor
