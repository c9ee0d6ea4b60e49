/- The text of a bar: both sides, and the law's walk. -/
import Derived.Test.YthedpbdeahieaaaDoorTls
import Derived.Test.YthedpbdeahieaaaDoorBarI
import Derived.Test.YthedpbdeahieaaaDoorBarE
import Derived.Test.YthedpbdeahieaaaDoorFactsL
import Derived.Deep.RegionHeld3
namespace Go.Proofs.YthedpbdeahieaaaDoor
open Go.RowKit
set_option linter.unusedVariables false

def sLs (s : SF) : List Nat := [s.so, s.fl, s.es, s.ef, s.pt, s.la]
def bLs (s : SF) (st : Nat) (zs : List Nat) : List (List Nat) := [sLs s, [st], zs]
def bTx (s : SF) (st : Nat) (zs : List Nat) : ByteArray := jn 59 ((bLs s st zs).map nTx)
theorem jn3 (c : UInt8) (x y z : ByteArray) : jn c [x, y, z] = x ++ (⟨#[c]⟩ : ByteArray) ++ y ++ (⟨#[c]⟩ : ByteArray) ++ z := by
  rw [show [x, y, z] = ([x, y] ++ [z]) from rfl, jn_snoc _ _ _ (by simp), show [x, y] = ([x] ++ [y]) from rfl, jn_snoc _ _ _ (by simp), jn_one]
  simp only [ByteArray.append_assoc]
theorem ok6 {s : SF} (h : s.wf) : LOk (sLs s) := ⟨by show 6 ≤ 256; decide, fun i hi => by
  obtain ⟨h0, h1, h2, h3, h4, h5⟩ := h
  match i, hi with
  | 0, _ => exact h0
  | 1, _ => exact h1
  | 2, _ => exact h2
  | 3, _ => exact h3
  | 4, _ => exact h4
  | 5, _ => exact h5
  | i + 6, hi => exact absurd hi (by show ¬ (i + 6 < 6); omega)⟩
theorem ok1 {x : Nat} (h : (Lit.float .f32 x).wf = true) : LOk [x] := ⟨by simp, fun i hi => by
  match i, hi with
  | 0, _ => exact h
  | i + 1, hi => exact absurd hi (by show ¬ (i + 1 < 1); omega)⟩
theorem row6 {w : World} {p : Nat} {s : SF} (h : Cells w p [.float .f32 s.so, .float .f32 s.fl, .float .f32 s.es, .float .f32 s.ef, .float .f32 s.pt, .float .f32 s.la]) : FRow w (.slice (some ⟨p, 0, none⟩) 6 6) (sLs s) := FRow.of_cells (zs := sLs s) h (by show 6 ≤ 9223372036854775807; decide)
theorem row1 {w : World} {p x : Nat} (h : Cells w p [.float .f32 x]) : FRow w (.slice (some ⟨p, 0, none⟩) 1 1) [x] := FRow.of_cells (zs := [x]) h (by show 1 ≤ 9223372036854775807; decide)
theorem vBar_ok {s : SF} {st : Nat} {zs : List Nat} (h : vBar s st zs = true) (hw : ∀ i, i < zs.length → (Lit.float .f32 (zs.getD i 0)).wf = true) : LOk zs := by
  rw [vBar_and] at h
  simp only [Bool.and_eq_true, decide_eq_true_eq] at h
  exact ⟨by omega, hw⟩

set_option maxHeartbeats 3200000 in
set_option maxRecDepth 20000 in
theorem specBarT_any (s : SF) (st : Nat) (v : Value) (zs : List Nat) (p : Nat) (w : World) (A : Cells w p (bvs s st v)) (h : FRow w v zs) (hs : s.wf) (hst : (Lit.float .f32 st).wf = true) (ho : LOk zs) : Calls Tryd.prog 78 #[.pointer (some ⟨p, 0, none⟩)] w fun e w' => e = .returned (.string (bTx s st zs)) ∧ Below w.heap.size w w' := by
  have EN : bTx s st zs = nTx (sLs s) ++ (⟨#[59]⟩ : ByteArray) ++ nTx [st] ++ (⟨#[59]⟩ : ByteArray) ++ nTx zs := jn3 59 _ _ _
  rw [EN]
  clear EN
  have K6 := Lib.hid (fun w1 q (h : Cells w1 q [.float .f32 s.so, .float .f32 s.fl, .float .f32 s.es, .float .f32 s.ef, .float .f32 s.pt, .float .f32 s.la]) => specNTx_any _ (sLs s) w1 (row6 h) (ok6 hs).2 (ok6 hs).1)
  have K1 := Lib.hid (fun w1 q (h : Cells w1 q [.float .f32 st]) => specNTx_any _ [st] w1 (row1 h) (ok1 hst).2 (ok1 hst).1)
  have KZ := Lib.hid (fun w1 (hb : Below w.heap.size w w1) => specNTx_any v zs w1 (h.below hb) ho.2 ho.1)
  have s1 := nTx_size (ok6 hs).1
  have s2 := nTx_size (ok1 hst).1
  have s3 := nTx_size ho.1
  have HA := Lib.hid A
  clear h hs hst ho A
  generalize nTx (sLs s) = ta at *
  generalize nTx [st] = tb at *
  generalize nTx zs = tc at *
  have n1 : ¬ (9223372036854775807 < ta.size + 1) := by omega
  have n2 : ¬ (9223372036854775807 < ta.size + 1 + tb.size) := by omega
  have n3 : ¬ (9223372036854775807 < ta.size + 1 + tb.size + 1) := by omega
  have n4 : ¬ (9223372036854775807 < ta.size + 1 + tb.size + 1 + tc.size) := by omega
  clear s1 s2 s3
  have FACT := Lib.hid (fun w1 (hw : Ext w w1) => And.intro (hw.cell (HA.out.at 0 rfl)) (And.intro (hw.cell (HA.out.at 1 rfl)) (And.intro (hw.cell (HA.out.at 2 rfl)) (And.intro (hw.cell (HA.out.at 3 rfl)) (And.intro (hw.cell (HA.out.at 4 rfl)) (hw.cell (HA.out.at 5 rfl)))))))
  go_enter Tryd.func78, Tryd.ntmps78
  go_wp2
  refine wp_region_facts (Ext w) (TS [(32, fLit 6 [.float .f32 s.so, .float .f32 s.fl, .float .f32 s.es, .float .f32 s.ef, .float .f32 s.pt, .float .f32 s.la]), (33, fIs (.string ta))]) (Pers.ext _) (TS.pers _) (Ext.start _) (by kernel_rfl) (by kernel_rfl) (by intro d v c a w h; cases d <;> exact h) ?_
  repeat (refine wpF_val rfl monoQ_end (by rintro _ ⟨⟩; rfl) ?_ (fun w1 hw1 => ?_) (fun K hK => ?_); rotate_left; (focus (have hF := FACT.out w1 hw1; go_simp; first | done | rfl)); go_simp; refine hK _ ?_; clear hK K)
  refine wpF_lit rfl 32 rfl 6 [.float .f32 s.so, .float .f32 s.fl, .float .f32 s.es, .float .f32 s.ef, .float .f32 s.pt, .float .f32 s.la] 54 rfl (fun w1 => ?_) (fun q => ?_)
  · go_simp
  repeat (refine wpF_val rfl monoQ_end (by rintro _ ⟨⟩; rfl) ?_ (fun w1 hw1 => ?_) (fun K hK => ?_); rotate_left; (focus (have hF := FACT.out w1 hw1; go_simp; first | done | rfl)); go_simp; refine hK _ ?_; clear hK K)
  refine wpF_callF rfl 33 rfl 65 #[.slice (some ⟨q, 0, none⟩) 6 6] (fIs (.string ta)) rfl (fun w1 => ?_) (fun w1 hC hN => ?_) (fun v1 hv1 => ?_)
  · go_simp
  · refine (K6.out w1 q (lit_of (fact_needL (d := 32) rfl hN (by kernel_rfl) (by repeat (first | exact Or.inr ⟨rfl, rfl⟩ | refine Or.inl ?_))))).mono ?_
    rintro _ w2 ⟨rfl, hb⟩
    exact ⟨_, rfl, hb, rfl⟩
  obtain ⟨_, rfl⟩ := hv1
  repeat (refine wpF_val rfl monoQ_end (by rintro _ ⟨⟩; rfl) ?_ (fun w1 hw1 => ?_) (fun K hK => ?_); rotate_left; (focus (have hF := FACT.out w1 hw1; go_simp; first | done | rfl)); go_simp; refine hK _ ?_; clear hK K)
  refine wpFacts_nil ?_
  intro w3 hb _
  have B3 := Lib.hid hb
  have HA3 := Lib.hid (HA.out.kept hb)
  clear hb FACT
  have FACT := Lib.hid (fun w1 (hw : Ext w3 w1) => And.intro (hw.cell (HA3.out.at 6 rfl)) (hw.cell (HA3.out.at 7 rfl)))
  go_wp2
  refine wp_region_facts (Ext w3) (TS [(40, fLit 1 [.float .f32 st]), (41, fIs (.string tb)), (48, fIs (.string tc))]) (Pers.ext _) (TS.pers _) (Ext.start _) (by kernel_rfl) (by kernel_rfl) (by intro d v c a w h; cases d <;> exact h) ?_
  repeat (refine wpF_val rfl monoQ_end (by rintro _ ⟨⟩; rfl) ?_ (fun w1 hw1 => ?_) (fun K hK => ?_); rotate_left; (focus (have hF := FACT.out w1 hw1; go_simp; first | done | rfl)); go_simp; refine hK _ ?_; clear hK K)
  refine wpF_lit rfl 40 rfl 1 [.float .f32 st] 54 rfl (fun w1 => ?_) (fun q => ?_)
  · go_simp
  repeat (refine wpF_val rfl monoQ_end (by rintro _ ⟨⟩; rfl) ?_ (fun w1 hw1 => ?_) (fun K hK => ?_); rotate_left; (focus (have hF := FACT.out w1 hw1; go_simp; first | done | rfl)); go_simp; refine hK _ ?_; clear hK K)
  refine wpF_callF rfl 41 rfl 65 #[.slice (some ⟨q, 0, none⟩) 1 1] (fIs (.string tb)) rfl (fun w1 => ?_) (fun w1 hC hN => ?_) (fun v1 hv1 => ?_)
  · go_simp
  · refine (K1.out w1 q (lit_of (fact_needL (d := 40) rfl hN (by kernel_rfl) (by repeat (first | exact Or.inr ⟨rfl, rfl⟩ | refine Or.inl ?_))))).mono ?_
    rintro _ w2 ⟨rfl, hb⟩
    exact ⟨_, rfl, hb, rfl⟩
  obtain ⟨_, rfl⟩ := hv1
  repeat (refine wpF_val rfl monoQ_end (by rintro _ ⟨⟩; rfl) ?_ (fun w1 hw1 => ?_) (fun K hK => ?_); rotate_left; (focus (have hF := FACT.out w1 hw1; go_simp; first | done | rfl)); go_simp; refine hK _ ?_; clear hK K)
  refine wpF_callF rfl 48 rfl 65 #[v] (fIs (.string tc)) rfl (fun w1 => ?_) (fun w1 hC hN => ?_) (fun v1 hv1 => ?_)
  · go_simp
  · refine (KZ.out w1 (below_step B3.out hC)).mono ?_
    rintro _ w2 ⟨rfl, hb⟩
    exact ⟨_, rfl, hb, rfl⟩
  obtain ⟨_, rfl⟩ := hv1
  repeat (refine wpF_val rfl monoQ_end (by rintro _ ⟨⟩; rfl) ?_ (fun w1 hw1 => ?_) (fun K hK => ?_); rotate_left; (focus (have hF := FACT.out w1 hw1; go_simp; first | done | rfl)); go_simp; refine hK _ ?_; clear hK K)
  refine wpFacts_nil ?_
  intro w4 hb _
  have B4 := Lib.hid (below_step B3.out hb)
  clear hb
  go_wp2
  go_ret
  exact ⟨rfl, B4.out⟩

set_option maxRecDepth 20000 in
theorem specBT_any (s : SF) (st : Nat) (v : Value) (zs : List Nat) (w : World) (h : FRow w v zs) (hs : s.wf) (hst : (Lit.float .f32 st).wf = true) (hw : ∀ i, i < zs.length → (Lit.float .f32 (zs.getD i 0)).wf = true) : Calls Tryd.prog 42 #[.agg #[.float .f32 s.so, .float .f32 s.fl, .float .f32 s.es, .float .f32 s.ef, .float .f32 s.pt, .float .f32 s.la, .float .f32 st, v]] w (TxB (bTx s st zs) (vBar s st zs) w) := by
  have A := Lib.hid (Cells.made w (bvs s st v) 69)
  have Bw := Lib.hid (below_al1 w (.cells (bvs s st v).toArray 69))
  have HV := Lib.hid (specBar_any s st v zs _ _ A.out (h.below Bw.out))
  have HT := Lib.hid (fun ho n => specBarT_any s st v zs w.heap.size ((w.alloc (.cells (bvs s st v).toArray 69)).drewN n) (A.out.drewN) ((h.below Bw.out).drewN) hs hst ho)
  unfold TxB
  cases hv : vBar s st zs
  · have HB := Lib.hid hv
    clear hv HT h hs hst hw
    go_enter Tryd.func42, Tryd.ntmps42
    go_wp2_with fail
    refine HV.out.mono ?_
    rw [HB.out]
    rintro e w1 ⟨rfl, n, rfl⟩
    go_wp2
    go_ret2
    exact ⟨rfl, below_drewN Bw.out n⟩
  · have HB := Lib.hid hv
    have HT := Lib.hid (HT.out (vBar_ok hv hw))
    clear hv h hs hst hw
    generalize bTx s st zs = T at *
    go_enter Tryd.func42, Tryd.ntmps42
    go_wp2_with fail
    refine HV.out.mono ?_
    rw [HB.out]
    rintro e w1 ⟨rfl, n, rfl⟩
    go_wp2_with fail
    refine (HT.out n).mono ?_
    rintro e w2 ⟨rfl, hb⟩
    have B := Lib.hid (below_step (below_drewN Bw.out n) hb)
    clear hb
    go_wp2
    go_ret2
    exact ⟨rfl, B.out⟩

/-- the world in which the program's three lists lie -/
def bW (s : SF) (st : Nat) (v : Value) (w : World) : World := (((w.alloc (.cells #[.float .f32 s.so, .float .f32 s.fl, .float .f32 s.es, .float .f32 s.ef, .float .f32 s.pt, .float .f32 s.la] 67)).alloc (.cells #[.float .f32 s.so, .float .f32 s.fl, .float .f32 s.es, .float .f32 s.ef, .float .f32 s.pt, .float .f32 s.la] 54)).alloc (.cells #[.float .f32 st] 54)).alloc (.cells #[.slice (some ⟨w.heap.size + 1, 0, none⟩) 6 6, .slice (some ⟨w.heap.size + 2, 0, none⟩) 1 1, v] 41)
theorem bW_below (s : SF) (st : Nat) (v : Value) (w : World) : Below w.heap.size w (bW s st v w) := (((((Below.refl _ _).alloc (Nat.le_refl _) _).alloc (by simp) _).alloc (by simp; omega) _).alloc (by simp; omega) _)
theorem bW_rows {s : SF} {st : Nat} {v : Value} {zs : List Nat} {w : World} (h : FRow w v zs) (hs : s.wf) (hst : (Lit.float .f32 st).wf = true) (ho : LOk zs) : LRows (bW s st v w) (w.heap.size + 3) [.slice (some ⟨w.heap.size + 1, 0, none⟩) 6 6, .slice (some ⟨w.heap.size + 2, 0, none⟩) 1 1, v] (bLs s st zs) := by
  have A1 := ((Cells.made (w.alloc (.cells #[.float .f32 s.so, .float .f32 s.fl, .float .f32 s.es, .float .f32 s.ef, .float .f32 s.pt, .float .f32 s.la] 67)) [.float .f32 s.so, .float .f32 s.fl, .float .f32 s.es, .float .f32 s.ef, .float .f32 s.pt, .float .f32 s.la] 54).al (.cells #[.float .f32 st] 54)).al (.cells #[.slice (some ⟨w.heap.size + 1, 0, none⟩) 6 6, .slice (some ⟨w.heap.size + 2, 0, none⟩) 1 1, v] 41)
  rw [show (w.alloc (.cells #[.float .f32 s.so, .float .f32 s.fl, .float .f32 s.es, .float .f32 s.ef, .float .f32 s.pt, .float .f32 s.la] 67)).heap.size = w.heap.size + 1 from by simp] at A1
  have A2 := (Cells.made ((w.alloc (.cells #[.float .f32 s.so, .float .f32 s.fl, .float .f32 s.es, .float .f32 s.ef, .float .f32 s.pt, .float .f32 s.la] 67)).alloc (.cells #[.float .f32 s.so, .float .f32 s.fl, .float .f32 s.es, .float .f32 s.ef, .float .f32 s.pt, .float .f32 s.la] 54)) [.float .f32 st] 54).al (.cells #[.slice (some ⟨w.heap.size + 1, 0, none⟩) 6 6, .slice (some ⟨w.heap.size + 2, 0, none⟩) 1 1, v] 41)
  rw [show ((w.alloc (.cells #[.float .f32 s.so, .float .f32 s.fl, .float .f32 s.es, .float .f32 s.ef, .float .f32 s.pt, .float .f32 s.la] 67)).alloc (.cells #[.float .f32 s.so, .float .f32 s.fl, .float .f32 s.es, .float .f32 s.ef, .float .f32 s.pt, .float .f32 s.la] 54)).heap.size = w.heap.size + 2 from by simp] at A2
  have A3 := Cells.made (((w.alloc (.cells #[.float .f32 s.so, .float .f32 s.fl, .float .f32 s.es, .float .f32 s.ef, .float .f32 s.pt, .float .f32 s.la] 67)).alloc (.cells #[.float .f32 s.so, .float .f32 s.fl, .float .f32 s.es, .float .f32 s.ef, .float .f32 s.pt, .float .f32 s.la] 54)).alloc (.cells #[.float .f32 st] 54)) [.slice (some ⟨w.heap.size + 1, 0, none⟩) 6 6, .slice (some ⟨w.heap.size + 2, 0, none⟩) 1 1, v] 41
  rw [show (((w.alloc (.cells #[.float .f32 s.so, .float .f32 s.fl, .float .f32 s.es, .float .f32 s.ef, .float .f32 s.pt, .float .f32 s.la] 67)).alloc (.cells #[.float .f32 s.so, .float .f32 s.fl, .float .f32 s.es, .float .f32 s.ef, .float .f32 s.pt, .float .f32 s.la] 54)).alloc (.cells #[.float .f32 st] 54)).heap.size = w.heap.size + 3 from by simp] at A3
  refine ⟨rfl, fun j hj => ?_, fun j hj => ?_, fun j hj => ?_⟩
  · match j, hj with
    | 0, _ => exact A3.at 0 rfl
    | 1, _ => exact A3.at 1 rfl
    | 2, _ => exact A3.at 2 rfl
    | j + 3, hj => exact absurd hj (by show ¬ (j + 3 < 3); omega)
  · match j, hj with
    | 0, _ => exact row6 A1
    | 1, _ => exact row1 A2
    | 2, _ => exact h.below (bW_below s st v w)
    | j + 3, hj => exact absurd hj (by show ¬ (j + 3 < 3); omega)
  · match j, hj with
    | 0, _ => exact ok6 hs
    | 1, _ => exact ok1 hst
    | 2, _ => exact ho
    | j + 3, hj => exact absurd hj (by show ¬ (j + 3 < 3); omega)

set_option maxHeartbeats 1600000 in
set_option maxRecDepth 20000 in
theorem implBT_any (s : SF) (st : Nat) (v : Value) (zs : List Nat) (w : World) (h : FRow w v zs) (hs : s.wf) (hst : (Lit.float .f32 st).wf = true) (hw : ∀ i, i < zs.length → (Lit.float .f32 (zs.getD i 0)).wf = true) (ht : Tabs w) : Calls Tryd.prog 44 #[.agg #[.float .f32 s.so, .float .f32 s.fl, .float .f32 s.es, .float .f32 s.ef, .float .f32 s.pt, .float .f32 s.la, .float .f32 st, v]] w (TxB (bTx s st zs) (vBar s st zs) w) := by
  have HB2 := Lib.hid (fun w1 (hb : Below w.heap.size w w1) (hv : vBar s st zs = true) => show Calls Tryd.prog 73 #[.slice (some ⟨w1.heap.size + 3, 0, none⟩) 3 3] (bW s st v w1) (fun e w' => e = .returned (.string (bTx s st zs)) ∧ Below (bW s st v w1).heap.size (bW s st v w1) w') from
    textLists_any (w1.heap.size + 3) _ (bLs s st zs) (bW s st v w1) (bW_rows (h.below hb) hs hst (vBar_ok hv hw)) (by show 1 ≤ 3; decide) (by show 3 ≤ 8; decide) ((ht.below hb).below (bW_below s st v w1)))
  obtain ⟨a, cap, rfl⟩ := h.shape
  generalize hn : zs.length = n at *
  have A := Lib.hid (Cells.made w (bvs s st (.slice a n cap)) 69)
  have Bw := Lib.hid (below_al1 w (.cells (bvs s st (.slice a n cap)).toArray 69))
  have HV := Lib.hid (implVBar_any s st (.slice a n cap) zs (w.alloc (.cells (bvs s st (.slice a n cap)).toArray 69)) (h.below Bw.out))
  clear h hs hst hw ht hn
  have c0 := A.out.at 0 rfl; have c1 := A.out.at 1 rfl; have c2 := A.out.at 2 rfl; have c3 := A.out.at 3 rfl; have c4 := A.out.at 4 rfl; have c5 := A.out.at 5 rfl; have c6 := A.out.at 6 rfl; have c7 := A.out.at 7 rfl
  unfold TxB
  cases hv : vBar s st zs
  · have HB := Lib.hid hv
    clear hv HB2
    go_enter Tryd.func44, Tryd.ntmps44
    go_wp2_with fail
    refine HV.out.mono ?_
    rw [HB.out]
    rintro e w1 ⟨rfl, hb⟩
    have B := Lib.hid (below_step Bw.out hb)
    clear hb
    go_wp2
    go_ret2
    exact ⟨rfl, B.out⟩
  · have HB := Lib.hid hv
    have HB2 := Lib.hid (fun w1 hb => HB2.out w1 hb hv)
    clear hv
    generalize bTx s st zs = T at *
    go_enter Tryd.func44, Tryd.ntmps44
    go_wp2_with fail
    refine HV.out.mono ?_
    rw [HB.out]
    rintro e w1 ⟨rfl, hb⟩
    have B := Lib.hid (below_step Bw.out hb)
    have A := Lib.hid (A.out.kept hb)
    clear hb c0 c1 c2 c3 c4 c5 c6 c7
    have c0 := A.out.at 0 rfl; have c1 := A.out.at 1 rfl; have c2 := A.out.at 2 rfl; have c3 := A.out.at 3 rfl; have c4 := A.out.at 4 rfl; have c5 := A.out.at 5 rfl; have c6 := A.out.at 6 rfl; have c7 := A.out.at 7 rfl
    have HX := HB2.out w1 B.out
    unfold bW at HX
    have B2 := Lib.hid (below_step B.out (bW_below s st (.slice a n cap) w1))
    unfold bW at B2
    have HX := Lib.hid HX
    have d6 := ((A.out.al (.cells #[.float .f32 s.so, .float .f32 s.fl, .float .f32 s.es, .float .f32 s.ef, .float .f32 s.pt, .float .f32 s.la] 67)).al (.cells #[.float .f32 s.so, .float .f32 s.fl, .float .f32 s.es, .float .f32 s.ef, .float .f32 s.pt, .float .f32 s.la] 54)).at 6 rfl
    have d7 := (((A.out.al (.cells #[.float .f32 s.so, .float .f32 s.fl, .float .f32 s.es, .float .f32 s.ef, .float .f32 s.pt, .float .f32 s.la] 67)).al (.cells #[.float .f32 s.so, .float .f32 s.fl, .float .f32 s.es, .float .f32 s.ef, .float .f32 s.pt, .float .f32 s.la] 54)).al (.cells #[.float .f32 st] 54)).at 7 rfl
    clear HB2
    go_wp2_with fail
    refine HX.out.mono ?_
    rintro e w2 ⟨rfl, hb⟩
    have B := Lib.hid (below_step B2.out hb)
    clear hb
    go_wp2
    go_ret2
    exact ⟨rfl, B.out⟩

set_option maxRecDepth 10000 in
set_option maxHeartbeats 1600000 in
theorem fnExactBarText_walk (s : SF) (st : Nat) (v : Value) (zs : List Nat) (w : World) (h : FRow w v zs) (_ : s.wf) (_ : (Lit.float .f32 st).wf = true) (_ : ∀ i, i < zs.length → (Lit.float .f32 (zs.getD i 0)).wf = true) (ht : Tabs w) :
    Calls Tryd.prog 11 #[.agg #[.float .f32 s.so, .float .f32 s.fl, .float .f32 s.es, .float .f32 s.ef, .float .f32 s.pt, .float .f32 s.la, .float .f32 st, v]] w (Tru w) := by
  have R := Lib.hid (fun w1 (hb : Below w.heap.size w w1) => h.below hb)
  clear h
  have CS := Lib.hid (fun v1 w1 (h1 : FRow w1 v1 zs) => specBT_any s st v1 zs w1 h1 (by assumption) (by assumption) (by assumption))
  have CI := Lib.hid (fun v1 w1 (h1 : FRow w1 v1 zs) (hT : Tabs w1) => implBT_any s st v1 zs w1 h1 (by assumption) (by assumption) (by assumption) hT)
  have HT := Lib.hid ht
  clear ht
  unfold TxB at *
  generalize (bif vBar s st zs then bTx s st zs else (⟨#[]⟩ : ByteArray)) = S at *
  generalize vBar s st zs = ok at *
  have A := Lib.hid (Cells.made w (bvs s st v) 64)
  have Bw := Lib.hid (below_al1 w (.cells (bvs s st v).toArray 64))
  by_cases hl : zs.length ≤ 1048576
  · have HL := Lib.hid hl
    have HM : Hid (zs.length ≤ maxLen) := Lib.hid (Nat.le_trans hl (by decide))
    clear hl
    go_enter Tryd.func11, Tryd.ntmps11
    go_wp2_with fail
    refine (szBar_fit s st v zs 1048576 _ (R.out _ Bw.out) HL.out (Nat.le_refl _)).mono ?_
    rintro _ w1 ⟨rfl, hb⟩
    have Bw := Lib.hid (below_step Bw.out hb); have A := Lib.hid (A.out.kept hb); have c0 := A.out.at 0 rfl; have c1 := A.out.at 1 rfl; have c2 := A.out.at 2 rfl; have c3 := A.out.at 3 rfl; have c4 := A.out.at 4 rfl; have c5 := A.out.at 5 rfl; have c6 := A.out.at 6 rfl; have c7 := A.out.at 7 rfl; clear hb
    go_wp2_with fail
    refine (toBar_any s st v zs _ (R.out _ Bw.out) HL.out).mono ?_
    rintro _ w2 ⟨p0, rfl, hp, V, hb⟩
    clear c0 c1 c2 c3 c4 c5 c6 c7
    have Bw := Lib.hid (below_step Bw.out hb); have A := Lib.hid (A.out.kept hb); have c0 := A.out.at 0 rfl; have c1 := A.out.at 1 rfl; have c2 := A.out.at 2 rfl; have c3 := A.out.at 3 rfl; have c4 := A.out.at 4 rfl; have c5 := A.out.at 5 rfl; have c6 := A.out.at 6 rfl; have c7 := A.out.at 7 rfl; have V := Lib.hid V; clear hb hp
    go_wp2_with fail
    refine (CS.out _ _ (.of_cells V.out HM.out)).mono ?_
    rintro _ w3 ⟨rfl, hb⟩
    clear c0 c1 c2 c3 c4 c5 c6 c7
    have Bw := Lib.hid (below_step Bw.out hb); have A := Lib.hid (A.out.kept hb); have c0 := A.out.at 0 rfl; have c1 := A.out.at 1 rfl; have c2 := A.out.at 2 rfl; have c3 := A.out.at 3 rfl; have c4 := A.out.at 4 rfl; have c5 := A.out.at 5 rfl; have c6 := A.out.at 6 rfl; have c7 := A.out.at 7 rfl; clear hb V
    go_wp2_with fail
    refine (toBar_any s st v zs _ (R.out _ Bw.out) HL.out).mono ?_
    rintro _ w4 ⟨x0, rfl, hp, V, hb⟩
    clear c0 c1 c2 c3 c4 c5 c6 c7
    have Bw := Lib.hid (below_step Bw.out hb); have A := Lib.hid (A.out.kept hb); have c0 := A.out.at 0 rfl; have c1 := A.out.at 1 rfl; have c2 := A.out.at 2 rfl; have c3 := A.out.at 3 rfl; have c4 := A.out.at 4 rfl; have c5 := A.out.at 5 rfl; have c6 := A.out.at 6 rfl; have c7 := A.out.at 7 rfl; have V := Lib.hid V; clear hb hp
    have X := Lib.hid (Cells.made w4 (bvs s st (sl x0 zs)) 69)
    have V := Lib.hid (V.out.kept (below_al1 w4 (.cells (bvs s st (sl x0 zs)).toArray 69)))
    have A := Lib.hid (A.out.kept (below_al1 w4 (.cells (bvs s st (sl x0 zs)).toArray 69)))
    have Bw := Lib.hid (below_step Bw.out (below_al1 w4 (.cells (bvs s st (sl x0 zs)).toArray 69)))
    go_wp2_with fail
    refine (CI.out _ _ (.of_cells V.out HM.out) (HT.out.below Bw.out)).mono ?_
    rintro _ w5 ⟨rfl, hb⟩
    clear c0 c1 c2 c3 c4 c5 c6 c7
    have Bw := Lib.hid (below_step Bw.out hb); have A := Lib.hid (A.out.kept hb); have X := Lib.hid (X.out.kept hb); have V := Lib.hid (V.out.kept hb); have c0 := A.out.at 0 rfl; have c1 := A.out.at 1 rfl; have c2 := A.out.at 2 rfl; have c3 := A.out.at 3 rfl; have c4 := A.out.at 4 rfl; have c5 := A.out.at 5 rfl; have c6 := A.out.at 6 rfl; have c7 := A.out.at 7 rfl; clear hb
    have d0 := X.out.at 0 rfl; have d1 := X.out.at 1 rfl; have d2 := X.out.at 2 rfl; have d3 := X.out.at 3 rfl; have d4 := X.out.at 4 rfl; have d5 := X.out.at 5 rfl; have d6 := X.out.at 6 rfl; have d7 := X.out.at 7 rfl
    go_wp2
    generalize w4.heap.size = q at *
    go_region_held3 (fun w' => w'.cell? ⟨w.heap.size, 0, none⟩ = some (.float .f32 s.so) ∧ w'.cell? ⟨w.heap.size, 1, none⟩ = some (.float .f32 s.fl) ∧ w'.cell? ⟨w.heap.size, 2, none⟩ = some (.float .f32 s.es) ∧ w'.cell? ⟨w.heap.size, 3, none⟩ = some (.float .f32 s.ef) ∧ w'.cell? ⟨w.heap.size, 4, none⟩ = some (.float .f32 s.pt) ∧ w'.cell? ⟨w.heap.size, 5, none⟩ = some (.float .f32 s.la) ∧ w'.cell? ⟨w.heap.size, 6, none⟩ = some (.float .f32 st) ∧ w'.cell? ⟨w.heap.size, 7, none⟩ = some (v) ∧ w'.cell? ⟨q, 0, none⟩ = some (.float .f32 s.so) ∧ w'.cell? ⟨q, 1, none⟩ = some (.float .f32 s.fl) ∧ w'.cell? ⟨q, 2, none⟩ = some (.float .f32 s.es) ∧ w'.cell? ⟨q, 3, none⟩ = some (.float .f32 s.ef) ∧ w'.cell? ⟨q, 4, none⟩ = some (.float .f32 s.pt) ∧ w'.cell? ⟨q, 5, none⟩ = some (.float .f32 s.la) ∧ w'.cell? ⟨q, 6, none⟩ = some (.float .f32 st) ∧ w'.cell? ⟨q, 7, none⟩ = some (sl x0 zs)) (exact ⟨c0, c1, c2, c3, c4, c5, c6, c7, d0, d1, d2, d3, d4, d5, d6, d7⟩)
      (first
      | (go_at_call 43; refine (toBar_any s st v zs _ (R.out _ (below_drewN Bw.out _)) HL.out).mono ?_; rintro _ w6 ⟨y0, rfl, hp, Z, hb⟩; have Bw := Lib.hid (below_step Bw.out (below_undrew hb)); have A := Lib.hid (A.out.kept (below_undrew hb)); have X := Lib.hid (X.out.kept (below_undrew hb)); have V := Lib.hid (V.out.kept (below_undrew hb)); have Z := Lib.hid Z; clear hp hb; have c0 := A.out.at 0 rfl; have c1 := A.out.at 1 rfl; have c2 := A.out.at 2 rfl; have c3 := A.out.at 3 rfl; have c4 := A.out.at 4 rfl; have c5 := A.out.at 5 rfl; have c6 := A.out.at 6 rfl; have c7 := A.out.at 7 rfl; have d0 := X.out.at 0 rfl; have d1 := X.out.at 1 rfl; have d2 := X.out.at 2 rfl; have d3 := X.out.at 3 rfl; have d4 := X.out.at 4 rfl; have d5 := X.out.at 5 rfl; have d6 := X.out.at 6 rfl; have d7 := X.out.at 7 rfl)
      | (go_at_call 45; refine (eqBar_any s st _ _ zs zs _ (.of_cells V.out HM.out) (.of_cells Z.out HM.out) (.refl zs)).mono ?_; rintro _ w7 ⟨rfl, hb⟩; have Bw := Lib.hid (below_step Bw.out hb); have A := Lib.hid (A.out.kept hb); have X := Lib.hid (X.out.kept hb); clear hb; have c0 := A.out.at 0 rfl; have c1 := A.out.at 1 rfl; have c2 := A.out.at 2 rfl; have c3 := A.out.at 3 rfl; have c4 := A.out.at 4 rfl; have c5 := A.out.at 5 rfl; have c6 := A.out.at 6 rfl; have c7 := A.out.at 7 rfl; have d0 := X.out.at 0 rfl; have d1 := X.out.at 1 rfl; have d2 := X.out.at 2 rfl; have d3 := X.out.at 3 rfl; have d4 := X.out.at 4 rfl; have d5 := X.out.at 5 rfl; have d6 := X.out.at 6 rfl; have d7 := X.out.at 7 rfl))
    all_goals
      go_wp2
      go_ret
      exact Tru.below Bw.out
  · have HL := Lib.hid (Nat.lt_of_not_le hl)
    clear hl
    go_enter Tryd.func11, Tryd.ntmps11
    go_wp2_with fail
    refine (szBar_over s st v zs 1048576 _ (R.out _ Bw.out) HL.out (Nat.le_refl _)).mono ?_
    rintro _ w1 ⟨rfl, hb⟩
    have Bw := Lib.hid (below_step Bw.out hb); have A := Lib.hid (A.out.kept hb); have c0 := A.out.at 0 rfl; have c1 := A.out.at 1 rfl; have c2 := A.out.at 2 rfl; have c3 := A.out.at 3 rfl; have c4 := A.out.at 4 rfl; have c5 := A.out.at 5 rfl; have c6 := A.out.at 6 rfl; have c7 := A.out.at 7 rfl; clear hb
    go_wp2
    go_ret
    exact Tru.below Bw.out

end Go.Proofs.YthedpbdeahieaaaDoor
