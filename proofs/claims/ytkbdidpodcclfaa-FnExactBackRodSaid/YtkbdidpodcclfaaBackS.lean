/- A rod in the opposite order, as the specification makes it. -/
import Derived.Test.YtkbdidpodcclfaaR4
import Derived.Test.YtkbdidpodcclfaaValidS
import Derived.Test.YtkbdidpodcclfaaNew
import Derived.Test.YtkbdidpodcclfaaAppB
import Derived.Laws.ResultCell
namespace Go.Proofs.Ytkbdidpodcclfaa
open Go.RowKit
set_option linter.unusedVariables false

theorem rev_snoc (zs : List Nat) (m : Nat) (h : m < zs.length) : (zs.drop m).reverse = (zs.drop (m + 1)).reverse ++ [zs.getD m 0] := by
  rw [List.drop_eq_getElem_cons h, List.reverse_cons]
  simp [List.getD_eq_getElem?_getD, h]
set_option maxHeartbeats 1600000 in
theorem specBackL_any (v : Value) (zs : List Nat) (w : World) (h : FRow w v zs) (hn : 1 ≤ zs.length) (hl : zs.length ≤ 1048576) :
    Calls Try.prog 48 #[v] w fun e w' => ∃ v', e = .returned v' ∧ Own w' w.heap.size v' zs.reverse ∧ Below w.heap.size w w' := by
  obtain ⟨b, off, c, rfl, hc⟩ := h.cells hn
  have HC : ∀ w', Below w.heap.size w w' → ∀ i, i < zs.length → w'.cell? ⟨b, off + i, none⟩ = some (.float .f32 (zs.getD i 0)) := by
    intro w' hb
    obtain ⟨b', o', c', e, hc'⟩ := (h.below hb).cells hn
    cases e
    exact hc'
  have HC := Lib.hid HC
  have O0 := Lib.hid (Own.empty w w.heap.size (Nat.le_refl _))
  obtain ⟨n, hN⟩ : ∃ n, zs.length = n := ⟨_, rfl⟩
  rw [hN] at hn hl HC
  have HN := Lib.hid hN
  have B0 := Lib.hid (below_al1 w (.cells #[] 22))
  rw [hN]
  clear h hc hN
  go_enter Try.func48, Try.ntmps48
  go_wp2
  go_loopw [3, 4] (fun L i wr => ∃ j : Nat, j ≤ n ∧ i = .int .i64 ((j : Int) - 1) ∧ Hid (Own wr w.heap.size L (zs.drop j).reverse) ∧ Hid (Below w.heap.size w wr)) (fun _ i _ => (intOf i + 1).toNat)
  case atStart => exact ⟨n, Nat.le_refl _, by go_num, Lib.hid (by have := O0.out; rw [← HN.out, List.drop_length]; exact this), B0⟩
  case round =>
    obtain ⟨j, hj, rfl, hO, hB⟩ := hrel
    cases j with
    | zero =>
      have h0 : ¬ (0 : Int) ≤ ((0 : Nat) : Int) - 1 := by omega
      go_wp2
      go_ret
      exact ⟨_, rfl, by simpa using hO.out, hB.out⟩
    | succ m =>
      have ei : ((m + 1 : Nat) : Int) - 1 = (m : Int) := by omega
      rw [ei]
      have z0 := HC.out wr hB.out m (by omega)
      have SN := Lib.hid (rev_snoc zs m (by have := HN.out; omega))
      have hzb : Hid ((zs.drop (m + 1)).reverse.length ≤ 1048576) := Lib.hid (by have := HN.out; simp; omega)
      have hbs : Hid (w.heap.size ≤ wr.heap.size) := Lib.hid hB.out.size
      generalize zs.getD m 0 = y at *
      generalize (zs.drop (m + 1)).reverse = Ls at *
      have hi : (0 : Int) ≤ (m : Int) := by omega
      have hi' : (m : Int) < (n : Int) := by omega
      clear ei
      go_wp2_with (at_builtin; refine wpList_app32 rfl _ _ rfl w.heap.size _ Ls rfl (hO.out.al _) _ y _ rfl ((World.cell?_alloc_at _ _ _ _ (by simp)).trans rfl) hzb.out (by have := hbs.out; simp; omega) ?_; intro v' w3 hown' hb; have O3 := Lib.hid hown'; have B3 := Lib.hid ((hB.out.alloc (by have := hbs.out; omega) _).trans hb); clear hown' hb)
      go_roundw
      case rel => exact ⟨m, by omega, by go_num, Lib.hid (by rw [SN.out]; exact O3.out), B3⟩
      case measure => first | (simp [intOf]; done) | (simp [intOf]; omega)

def backRL (r : RL) : RL := ⟨r.W.reverse, r.E.reverse, r.H.reverse, r.T.reverse⟩
theorem backRL_size (r : RL) : (backRL r).size = r.size := by simp [backRL, RL.size]
theorem vRod_size {r : RL} (h : vRod r = true) : r.size ≤ 192 ∧ 1 ≤ r.W.length ∧ 1 ≤ r.E.length ∧ 1 ≤ r.H.length ∧ 1 ≤ r.T.length := by
  unfold vRod lensOk at h
  simp only [Bool.and_eq_true, decide_eq_true_eq, beq_iff_eq] at h
  obtain ⟨⟨⟨⟨⟨_, h1⟩, h2⟩, h3⟩, h4⟩, _⟩ := h
  unfold RL.size
  omega
set_option maxHeartbeats 3200000 in
set_option maxRecDepth 8000 in
theorem specBack_any (a b c d : Value) (r : RL) (w : World) (h : RRow w a b c d r) : Calls Try.prog 20 #[.agg #[a, b, c, d]] w (RdB (vRod r) (bif vRod r then backRL r else nilRL) w) := by
  unfold RdB
  have H := Lib.hid (fun w1 (hb : Below w.heap.size w w1) => h.below hb)
  have A := Lib.hid ((Cells.made w [a, b, c, d] 25).al (.cells [Value.slice none 0 0, .slice none 0 0, .slice none 0 0, .slice none 0 0].toArray 25))
  have R := Cells.made (w.alloc (.cells [a, b, c, d].toArray 25)) [.slice none 0 0, .slice none 0 0, .slice none 0 0, .slice none 0 0] 25
  rw [show (w.alloc (.cells [a, b, c, d].toArray 25)).heap.size = w.heap.size + 1 from by simp] at R
  have R := Lib.hid R
  have Bw := Lib.hid (below_al2 w (.cells [a, b, c, d].toArray 25) (.cells [Value.slice none 0 0, .slice none 0 0, .slice none 0 0, .slice none 0 0].toArray 25))
  clear h
  cases hv : vRod r
  · have HV := Lib.hid hv
    clear hv
    go_enter Try.func20, Try.ntmps20
    go_wp2_with fail
    refine (specIs_any _ _ _ _ r _ _ A.out (H.out _ Bw.out)).mono ?_
    rw [HV.out]
    rintro _ _ ⟨rfl, m, rfl⟩
    have R := Lib.hid (R.out.drewN (n := m))
    have Bw := Lib.hid (below_drewN Bw.out m)
    have r0 := R.out.at 0 rfl; have r1 := R.out.at 1 rfl; have r2 := R.out.at 2 rfl; have r3 := R.out.at 3 rfl; have rf := R.out.fz
    go_wp2
    refine bodyPost_ret (v := .tuple #[.agg #[.slice none 0 0, .slice none 0 0, .slice none 0 0, .slice none 0 0], .bool false]) ?_ rfl ?_
    · rw [results_cell_tmp rfl]
      go_simp
    · exact ⟨_, _, _, _, rfl, nil_row _, below_set4n Bw.out (by omega) _ _ _ _⟩
  · have HV := Lib.hid hv
    have SZ := Lib.hid (vRod_size hv)
    clear hv
    go_enter Try.func20, Try.ntmps20
    go_wp2_with fail
    refine (specIs_any _ _ _ _ r _ _ A.out (H.out _ Bw.out)).mono ?_
    rw [HV.out]
    rintro _ _ ⟨rfl, m, rfl⟩
    have R := Lib.hid (R.out.drewN (n := m))
    have A := Lib.hid (A.out.drewN (n := m))
    have Bw := Lib.hid (below_drewN Bw.out m)
    have W3 : Hid (w.heap.size + 1 < (((w.alloc (.cells [a, b, c, d].toArray 25)).alloc (.cells [Value.slice none 0 0, .slice none 0 0, .slice none 0 0, .slice none 0 0].toArray 25)).drewN m).heap.size) := Lib.hid (by simp)
    generalize ((w.alloc (.cells [a, b, c, d].toArray 25)).alloc (.cells [Value.slice none 0 0, .slice none 0 0, .slice none 0 0, .slice none 0 0].toArray 25)).drewN m = w3 at *
    go_wp2
    have FACT := Lib.hid (fun w1 (hw : Ext w3 w1) => And.intro (hw.cell (A.out.at 0 rfl)) (And.intro (hw.cell (A.out.at 1 rfl)) (And.intro (hw.cell (A.out.at 2 rfl)) (hw.cell (A.out.at 3 rfl)))))
    refine wp_region_facts_tail 13 [] (Ext w3) (TS [(9, fO w3.heap.size r.W.reverse), (12, fO w3.heap.size r.E.reverse), (15, fO w3.heap.size r.H.reverse), (18, fO w3.heap.size r.T.reverse)]) (Pers.ext _) (TS.pers _) (Ext.start _) (by kernel_rfl) (by kernel_rfl) (by intro d v c a w h; cases d <;> exact h) ?_
    simp only [List.take_succ_cons, List.take_zero, List.drop_succ_cons, List.drop_zero]
    repeat (refine wpF_val rfl monoQ_end (by rintro _ ⟨⟩; rfl) ?_ (fun w1 hw1 => ?_) (fun K hK => ?_); rotate_left; (focus (have hF := FACT.out w1 hw1; go_simp; first | done | rfl)); go_simp; refine hK _ ?_; clear hK K)
    refine wpF_callF rfl 9 rfl 48 #[a] (fO w3.heap.size r.W.reverse) rfl (fun w1 => ?_) (fun w1 hC hN => ?_) (fun v1 hv1 => ?_)
    · go_simp
    · refine (specBackL_any a r.W w1 (H.out w1 (below_step Bw.out hC)).W SZ.out.2.1 (Nat.le_trans (by have := SZ.out.1; unfold RL.size at this; omega) (show 192 ≤ 1048576 by decide))).mono ?_
      rintro e w2 ⟨v', rfl, ho, hb⟩
      exact ⟨_, rfl, hb, (ho.orow).mono hC.size⟩
    obtain ⟨w5, hv1⟩ := hv1
    obtain ⟨i9, j9, e9⟩ := ORow.shape hv1
    rw [List.length_reverse] at e9
    subst e9
    clear hv1 w5
    repeat (refine wpF_val rfl monoQ_end (by rintro _ ⟨⟩; rfl) ?_ (fun w1 hw1 => ?_) (fun K hK => ?_); rotate_left; (focus (have hF := FACT.out w1 hw1; go_simp; first | done | rfl)); go_simp; refine hK _ ?_; clear hK K)
    refine wpF_callF rfl 12 rfl 48 #[b] (fO w3.heap.size r.E.reverse) rfl (fun w1 => ?_) (fun w1 hC hN => ?_) (fun v1 hv1 => ?_)
    · go_simp
    · refine (specBackL_any b r.E w1 (H.out w1 (below_step Bw.out hC)).E SZ.out.2.2.1 (Nat.le_trans (by have := SZ.out.1; unfold RL.size at this; omega) (show 192 ≤ 1048576 by decide))).mono ?_
      rintro e w2 ⟨v', rfl, ho, hb⟩
      exact ⟨_, rfl, hb, (ho.orow).mono hC.size⟩
    obtain ⟨w5, hv1⟩ := hv1
    obtain ⟨i12, j12, e12⟩ := ORow.shape hv1
    rw [List.length_reverse] at e12
    subst e12
    clear hv1 w5
    repeat (refine wpF_val rfl monoQ_end (by rintro _ ⟨⟩; rfl) ?_ (fun w1 hw1 => ?_) (fun K hK => ?_); rotate_left; (focus (have hF := FACT.out w1 hw1; go_simp; first | done | rfl)); go_simp; refine hK _ ?_; clear hK K)
    refine wpF_callF rfl 15 rfl 48 #[c] (fO w3.heap.size r.H.reverse) rfl (fun w1 => ?_) (fun w1 hC hN => ?_) (fun v1 hv1 => ?_)
    · go_simp
    · refine (specBackL_any c r.H w1 (H.out w1 (below_step Bw.out hC)).H SZ.out.2.2.2.1 (Nat.le_trans (by have := SZ.out.1; unfold RL.size at this; omega) (show 192 ≤ 1048576 by decide))).mono ?_
      rintro e w2 ⟨v', rfl, ho, hb⟩
      exact ⟨_, rfl, hb, (ho.orow).mono hC.size⟩
    obtain ⟨w5, hv1⟩ := hv1
    obtain ⟨i15, j15, e15⟩ := ORow.shape hv1
    rw [List.length_reverse] at e15
    subst e15
    clear hv1 w5
    repeat (refine wpF_val rfl monoQ_end (by rintro _ ⟨⟩; rfl) ?_ (fun w1 hw1 => ?_) (fun K hK => ?_); rotate_left; (focus (have hF := FACT.out w1 hw1; go_simp; first | done | rfl)); go_simp; refine hK _ ?_; clear hK K)
    refine wpF_callF rfl 18 rfl 48 #[d] (fO w3.heap.size r.T.reverse) rfl (fun w1 => ?_) (fun w1 hC hN => ?_) (fun v1 hv1 => ?_)
    · go_simp
    · refine (specBackL_any d r.T w1 (H.out w1 (below_step Bw.out hC)).T SZ.out.2.2.2.2 (Nat.le_trans (by have := SZ.out.1; unfold RL.size at this; omega) (show 192 ≤ 1048576 by decide))).mono ?_
      rintro e w2 ⟨v', rfl, ho, hb⟩
      exact ⟨_, rfl, hb, (ho.orow).mono hC.size⟩
    obtain ⟨w5, hv1⟩ := hv1
    obtain ⟨i18, j18, e18⟩ := ORow.shape hv1
    rw [List.length_reverse] at e18
    subst e18
    clear hv1 w5
    repeat (refine wpF_val rfl monoQ_end (by rintro _ ⟨⟩; rfl) ?_ (fun w1 hw1 => ?_) (fun K hK => ?_); rotate_left; (focus (have hF := FACT.out w1 hw1; go_simp; first | done | rfl)); go_simp; refine hK _ ?_; clear hK K)
    refine wpFacts_nil ?_
    intro w4 hC hF
    have oW := Lib.hid (OIn.of (show ORow w3.heap.size w4 (.slice i9 r.W.length j9) r.W.reverse from fact_of (d := 9) rfl hF (by repeat (first | exact Or.inr ⟨rfl, rfl⟩ | refine Or.inl ?_))))
    have oE := Lib.hid (OIn.of (show ORow w3.heap.size w4 (.slice i12 r.E.length j12) r.E.reverse from fact_of (d := 12) rfl hF (by repeat (first | exact Or.inr ⟨rfl, rfl⟩ | refine Or.inl ?_))))
    have oH := Lib.hid (OIn.of (show ORow w3.heap.size w4 (.slice i15 r.H.length j15) r.H.reverse from fact_of (d := 15) rfl hF (by repeat (first | exact Or.inr ⟨rfl, rfl⟩ | refine Or.inl ?_))))
    have oT := Lib.hid (OIn.of (show ORow w3.heap.size w4 (.slice i18 r.T.length j18) r.T.reverse from fact_of (d := 18) rfl hF (by repeat (first | exact Or.inr ⟨rfl, rfl⟩ | refine Or.inl ?_))))
    have R := Lib.hid (R.out.kept hC)
    have Bw := Lib.hid (below_step Bw.out hC)
    have Q := Lib.hid (show R4 w3.heap.size w4.heap.size w4 (.slice i9 r.W.length j9) (.slice i12 r.E.length j12) (.slice i15 r.H.length j15) (.slice i18 r.T.length j18) (backRL r) from ⟨oW.out, oE.out, oH.out, oT.out⟩)
    clear hF hC A FACT oW oE oH oT
    generalize r.W.length = n0 at *
    generalize r.E.length = n1 at *
    generalize r.H.length = n2 at *
    generalize r.T.length = n3 at *
    have r0 := R.out.at 0 rfl; have r1 := R.out.at 1 rfl; have r2 := R.out.at 2 rfl; have r3 := R.out.at 3 rfl; have rf := R.out.fz
    go_wp2
    refine bodyPost_ret (v := .tuple #[.agg #[.slice i9 n0 j9, .slice i12 n1 j12, .slice i15 n2 j15, .slice i18 n3 j18], .bool true]) ?_ rfl ?_
    · rw [results_cell_tmp rfl]
      go_simp
    · have hlt := W3.out
      refine ⟨_, _, _, _, rfl, ?_, below_set4n Bw.out (by omega) _ _ _ _⟩
      exact ((((Q.out.set _ 0 _ (.inl hlt)).set _ 1 _ (.inl hlt)).set _ 2 _ (.inl hlt)).set _ 3 _ (.inl hlt)).rrow (by rw [backRL_size]; exact Nat.le_trans SZ.out.1 (by decide))
end Go.Proofs.Ytkbdidpodcclfaa
