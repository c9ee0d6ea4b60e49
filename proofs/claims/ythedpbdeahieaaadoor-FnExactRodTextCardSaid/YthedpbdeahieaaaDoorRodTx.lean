/- The text of a rod: both sides. -/
import Derived.Test.YthedpbdeahieaaaDoorTls
import Derived.Test.YthedpbdeahieaaaDoorAll
import Derived.Test.YthedpbdeahieaaaDoorFacts2
namespace Go.Proofs.YthedpbdeahieaaaDoor
open Go.RowKit
set_option linter.unusedVariables false

/-- a rod's numbers are numbers -/
structure RWn (r : RL) : Prop where
  W : ∀ i, i < r.W.length → (Lit.float .f32 (r.W.getD i 0)).wf = true
  E : ∀ i, i < r.E.length → (Lit.float .f32 (r.E.getD i 0)).wf = true
  H : ∀ i, i < r.H.length → (Lit.float .f32 (r.H.getD i 0)).wf = true
  T : ∀ i, i < r.T.length → (Lit.float .f32 (r.T.getD i 0)).wf = true
def rLs (r : RL) : List (List Nat) := [r.W, r.E, r.H, r.T]
structure ROk (r : RL) : Prop where
  W : LOk r.W
  E : LOk r.E
  H : LOk r.H
  T : LOk r.T
theorem vRod_lens {r : RL} (h : vRod r = true) (hw : RWn r) : ROk r := by
  unfold vRod at h
  rw [Bool.and_eq_true] at h
  have h1 := h.1
  unfold lensOk at h1
  simp only [Bool.and_eq_true, decide_eq_true_eq, beq_iff_eq] at h1
  obtain ⟨⟨⟨⟨_, a⟩, b⟩, c⟩, d⟩ := h1
  exact ⟨⟨by omega, hw.W⟩, ⟨by omega, hw.E⟩, ⟨by omega, hw.H⟩, ⟨by omega, hw.T⟩⟩
theorem jn4 (c : UInt8) (x y z t : ByteArray) : jn c [x, y, z, t] = x ++ (⟨#[c]⟩ : ByteArray) ++ y ++ (⟨#[c]⟩ : ByteArray) ++ z ++ (⟨#[c]⟩ : ByteArray) ++ t := by
  rw [show [x, y, z, t] = ([x, y, z] ++ [t]) from rfl, jn_snoc _ _ _ (by simp), show [x, y, z] = ([x, y] ++ [z]) from rfl, jn_snoc _ _ _ (by simp), show [x, y] = ([x] ++ [y]) from rfl, jn_snoc _ _ _ (by simp), jn_one]
  simp only [ByteArray.append_assoc]
def rTx (r : RL) : ByteArray := jn 59 ((rLs r).map nTx)

set_option maxHeartbeats 3200000 in
set_option maxRecDepth 20000 in
theorem specRodT_any (a b c d : Value) (r : RL) (p : Nat) (w : World) (A : Cells w p [a, b, c, d]) (h : RRow w a b c d r) (ho : ROk r) : Calls Tryd.prog 71 #[.pointer (some ⟨p, 0, none⟩)] w fun e w' => e = .returned (.string (rTx r)) ∧ Below w.heap.size w w' := by
  have EN : rTx r = nTx r.W ++ (⟨#[59]⟩ : ByteArray) ++ nTx r.E ++ (⟨#[59]⟩ : ByteArray) ++ nTx r.H ++ (⟨#[59]⟩ : ByteArray) ++ nTx r.T := jn4 59 _ _ _ _
  rw [EN]
  clear EN
  have KW := Lib.hid (fun w1 (hb : Below w.heap.size w w1) => specNTx_any a r.W w1 (h.W.below hb) ho.W.2 ho.W.1)
  have KE := Lib.hid (fun w1 (hb : Below w.heap.size w w1) => specNTx_any b r.E w1 (h.E.below hb) ho.E.2 ho.E.1)
  have KH := Lib.hid (fun w1 (hb : Below w.heap.size w w1) => specNTx_any c r.H w1 (h.H.below hb) ho.H.2 ho.H.1)
  have KT := Lib.hid (fun w1 (hb : Below w.heap.size w w1) => specNTx_any d r.T w1 (h.T.below hb) ho.T.2 ho.T.1)
  have s1 := nTx_size ho.W.1
  have s2 := nTx_size ho.E.1
  have s3 := nTx_size ho.H.1
  have s4 := nTx_size ho.T.1
  have HA := Lib.hid A
  clear h ho A
  generalize nTx r.W = ta at *
  generalize nTx r.E = tb at *
  generalize nTx r.H = tc at *
  generalize nTx r.T = td at *
  have n1 : ¬ (9223372036854775807 < ta.size + 1) := by omega
  have n2 : ¬ (9223372036854775807 < ta.size + 1 + tb.size) := by omega
  have n3 : ¬ (9223372036854775807 < ta.size + 1 + tb.size + 1) := by omega
  have n4 : ¬ (9223372036854775807 < ta.size + 1 + tb.size + 1 + tc.size) := by omega
  have n5 : ¬ (9223372036854775807 < ta.size + 1 + tb.size + 1 + tc.size + 1) := by omega
  have n6 : ¬ (9223372036854775807 < ta.size + 1 + tb.size + 1 + tc.size + 1 + td.size) := by omega
  clear s1 s2 s3 s4
  have FACT := Lib.hid (fun w1 (hw : Ext w w1) => And.intro (hw.cell (HA.out.at 0 rfl)) (And.intro (hw.cell (HA.out.at 1 rfl)) (And.intro (hw.cell (HA.out.at 2 rfl)) (hw.cell (HA.out.at 3 rfl)))))
  have f0 := HA.out.at 0 rfl
  have f1 := HA.out.at 1 rfl
  have f2 := HA.out.at 2 rfl
  have f3 := HA.out.at 3 rfl
  go_enter Tryd.func71, Tryd.ntmps71
  go_wp2
  clear f0 f1 f2 f3
  refine wp_region_facts (Ext w) (TS [(7, fIs (.string ta)), (13, fIs (.string tb)), (20, fIs (.string tc)), (27, fIs (.string td))]) (Pers.ext _) (TS.pers _) (Ext.start _) (by kernel_rfl) (by kernel_rfl) (by intro d v c a w h; cases d <;> exact h) ?_
  repeat (refine wpF_val rfl monoQ_end (by rintro _ ⟨⟩; rfl) ?_ (fun w1 hw1 => ?_) (fun K hK => ?_); rotate_left; (focus (have hF := FACT.out w1 hw1; go_simp; first | done | rfl)); go_simp; refine hK _ ?_; clear hK K)
  refine wpF_callF rfl 7 rfl 65 #[a] (fIs (.string ta)) rfl (fun w1 => ?_) (fun w1 hC hN => ?_) (fun v1 hv1 => ?_)
  · go_simp
  · refine (KW.out w1 hC).mono ?_
    rintro _ w2 ⟨rfl, hb⟩
    exact ⟨_, rfl, hb, rfl⟩
  obtain ⟨_, rfl⟩ := hv1
  repeat (refine wpF_val rfl monoQ_end (by rintro _ ⟨⟩; rfl) ?_ (fun w1 hw1 => ?_) (fun K hK => ?_); rotate_left; (focus (have hF := FACT.out w1 hw1; go_simp; first | done | rfl)); go_simp; refine hK _ ?_; clear hK K)
  refine wpF_callF rfl 13 rfl 65 #[b] (fIs (.string tb)) rfl (fun w1 => ?_) (fun w1 hC hN => ?_) (fun v1 hv1 => ?_)
  · go_simp
  · refine (KE.out w1 hC).mono ?_
    rintro _ w2 ⟨rfl, hb⟩
    exact ⟨_, rfl, hb, rfl⟩
  obtain ⟨_, rfl⟩ := hv1
  repeat (refine wpF_val rfl monoQ_end (by rintro _ ⟨⟩; rfl) ?_ (fun w1 hw1 => ?_) (fun K hK => ?_); rotate_left; (focus (have hF := FACT.out w1 hw1; go_simp; first | done | rfl)); go_simp; refine hK _ ?_; clear hK K)
  refine wpF_callF rfl 20 rfl 65 #[c] (fIs (.string tc)) rfl (fun w1 => ?_) (fun w1 hC hN => ?_) (fun v1 hv1 => ?_)
  · go_simp
  · refine (KH.out w1 hC).mono ?_
    rintro _ w2 ⟨rfl, hb⟩
    exact ⟨_, rfl, hb, rfl⟩
  obtain ⟨_, rfl⟩ := hv1
  repeat (refine wpF_val rfl monoQ_end (by rintro _ ⟨⟩; rfl) ?_ (fun w1 hw1 => ?_) (fun K hK => ?_); rotate_left; (focus (have hF := FACT.out w1 hw1; go_simp; first | done | rfl)); go_simp; refine hK _ ?_; clear hK K)
  refine wpF_callF rfl 27 rfl 65 #[d] (fIs (.string td)) rfl (fun w1 => ?_) (fun w1 hC hN => ?_) (fun v1 hv1 => ?_)
  · go_simp
  · refine (KT.out w1 hC).mono ?_
    rintro _ w2 ⟨rfl, hb⟩
    exact ⟨_, rfl, hb, rfl⟩
  obtain ⟨_, rfl⟩ := hv1
  repeat (refine wpF_val rfl monoQ_end (by rintro _ ⟨⟩; rfl) ?_ (fun w1 hw1 => ?_) (fun K hK => ?_); rotate_left; (focus (have hF := FACT.out w1 hw1; go_simp; first | done | rfl)); go_simp; refine hK _ ?_; clear hK K)
  refine wpFacts_nil ?_
  intro w3 hb _
  go_wp2
  go_ret
  exact ⟨rfl, hb⟩

set_option maxRecDepth 20000 in
theorem specRT_any (a b c d : Value) (r : RL) (w : World) (h : RRow w a b c d r) (hw : RWn r) : Calls Tryd.prog 34 #[.agg #[a, b, c, d]] w (TxB (rTx r) (vRod r) w) := by
  have A := Lib.hid (Cells.made w [a, b, c, d] 50)
  have Bw := Lib.hid (below_al1 w (.cells [a, b, c, d].toArray 50))
  have HV := Lib.hid (specIs_any a b c d r _ _ A.out (h.below Bw.out))
  have HT := Lib.hid (fun (ho : ROk r) n => specRodT_any a b c d r w.heap.size ((w.alloc (.cells [a, b, c, d].toArray 50)).drewN n) (A.out.drewN) ((h.below Bw.out).drewN) ho)
  unfold TxB
  cases hv : vRod r
  · have HB := Lib.hid hv
    clear hv HT h hw
    go_enter Tryd.func34, Tryd.ntmps34
    go_wp2_with fail
    refine HV.out.mono ?_
    rw [HB.out]
    rintro e w1 ⟨rfl, n, rfl⟩
    go_wp2
    go_ret2
    exact ⟨rfl, below_drewN Bw.out n⟩
  · have HB := Lib.hid hv
    have HT := Lib.hid (HT.out (vRod_lens hv hw))
    clear hv h hw
    generalize rTx r = T at *
    go_enter Tryd.func34, Tryd.ntmps34
    go_wp2_with fail
    refine HV.out.mono ?_
    rw [HB.out]
    rintro e w1 ⟨rfl, n, rfl⟩
    go_wp2_with fail
    refine (HT.out n).mono ?_
    rintro e w2 ⟨rfl, hb⟩
    have B := Lib.hid (below_step (below_drewN Bw.out n) hb)
    clear hb
    go_wp2
    go_ret2
    exact ⟨rfl, B.out⟩

set_option maxHeartbeats 1600000 in
set_option maxRecDepth 20000 in
theorem implRT_any (a b c d : Value) (r : RL) (w : World) (h : RRow w a b c d r) (hw : RWn r) (ht : Tabs w) : Calls Tryd.prog 36 #[.agg #[a, b, c, d]] w (TxB (rTx r) (vRod r) w) := by
  obtain ⟨a1, q1, rfl⟩ := h.W.shape
  obtain ⟨a2, q2, rfl⟩ := h.E.shape
  obtain ⟨a3, q3, rfl⟩ := h.H.shape
  obtain ⟨a4, q4, rfl⟩ := h.T.shape
  generalize hh1 : r.W.length = n1 at *
  generalize hh2 : r.E.length = n2 at *
  generalize hh3 : r.H.length = n3 at *
  generalize hh4 : r.T.length = n4 at *
  clear hh1 hh2 hh3 hh4
  have A := Lib.hid (Cells.made w [.slice a1 n1 q1, .slice a2 n2 q2, .slice a3 n3 q3, .slice a4 n4 q4] 50)
  have Bw := Lib.hid (below_al1 w (.cells [.slice a1 n1 q1, .slice a2 n2 q2, .slice a3 n3 q3, .slice a4 n4 q4].toArray 50))
  have HV := Lib.hid (implValid_any _ _ _ _ r (w.alloc (.cells [.slice a1 n1 q1, .slice a2 n2 q2, .slice a3 n3 q3, .slice a4 n4 q4].toArray 50)) (h.below Bw.out))
  have c0 := A.out.at 0 rfl
  have c1 := A.out.at 1 rfl
  have c2 := A.out.at 2 rfl
  have c3 := A.out.at 3 rfl
  unfold TxB
  cases hv : vRod r
  · have HB := Lib.hid hv
    clear hv h hw ht
    go_enter Tryd.func36, Tryd.ntmps36
    go_wp2_with fail
    refine HV.out.mono ?_
    rw [HB.out]
    rintro e w1 ⟨rfl, hb⟩
    have B := Lib.hid (below_step Bw.out hb)
    clear hb
    go_wp2
    go_ret2
    exact ⟨rfl, B.out⟩
  · have HB := Lib.hid hv
    have HO := Lib.hid (vRod_lens hv hw)
    have HR := Lib.hid h
    have HT := Lib.hid ht
    clear hv h hw ht
    go_enter Tryd.func36, Tryd.ntmps36
    go_wp2_with fail
    refine HV.out.mono ?_
    rw [HB.out]
    rintro e w1 ⟨rfl, hb⟩
    have B := Lib.hid (below_step Bw.out hb)
    have A := Lib.hid (A.out.kept hb)
    have B2 := Lib.hid (below_step B.out (below_al1 w1 (.cells #[.slice a1 n1 q1, .slice a2 n2 q2, .slice a3 n3 q3, .slice a4 n4 q4] 41)))
    have HX := Lib.hid (textLists_any w1.heap.size [.slice a1 n1 q1, .slice a2 n2 q2, .slice a3 n3 q3, .slice a4 n4 q4] (rLs r) (w1.alloc (.cells #[.slice a1 n1 q1, .slice a2 n2 q2, .slice a3 n3 q3, .slice a4 n4 q4] 41)) ⟨rfl, fun j hj => by
        match j, hj with
        | 0, _ => exact World.cell?_alloc_at _ _ _ _ (by simp)
        | 1, _ => exact World.cell?_alloc_at _ _ _ _ (by simp)
        | 2, _ => exact World.cell?_alloc_at _ _ _ _ (by simp)
        | 3, _ => exact World.cell?_alloc_at _ _ _ _ (by simp)
        | j + 4, hj => exact absurd hj (by show ¬ (j + 4 < 4); omega), fun j hj => by
        match j, hj with
        | 0, _ => exact HR.out.W.below B2.out
        | 1, _ => exact HR.out.E.below B2.out
        | 2, _ => exact HR.out.H.below B2.out
        | 3, _ => exact HR.out.T.below B2.out
        | j + 4, hj => exact absurd hj (by show ¬ (j + 4 < 4); omega), fun j hj => by
        match j, hj with
        | 0, _ => exact HO.out.W
        | 1, _ => exact HO.out.E
        | 2, _ => exact HO.out.H
        | 3, _ => exact HO.out.T
        | j + 4, hj => exact absurd hj (by show ¬ (j + 4 < 4); omega)⟩ (by simp [rLs]) (by simp [rLs]) (HT.out.below B2.out))
    clear hb c0 c1 c2 c3
    have c0 := A.out.at 0 rfl
    have c1 := A.out.at 1 rfl
    have c2 := A.out.at 2 rfl
    have c3 := A.out.at 3 rfl
    have ET : Hid (jn 59 ((rLs r).map nTx) = rTx r) := Lib.hid rfl
    rw [ET.out] at HX
    rw [show (rLs r).length = 4 from rfl] at HX
    go_wp2_with fail
    refine HX.out.mono ?_
    rintro e w2 ⟨rfl, hb⟩
    have B := Lib.hid (below_step B2.out hb)
    clear hb
    go_wp2
    go_ret2
    exact ⟨rfl, B.out⟩
end Go.Proofs.YthedpbdeahieaaaDoor
