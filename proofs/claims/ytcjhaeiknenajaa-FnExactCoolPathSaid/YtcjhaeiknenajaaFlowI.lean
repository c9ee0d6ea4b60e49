/- What flows into a cell of a plate: the program's side. -/
import Derived.Test.YtcjhaeiknenajaaFlowM
import Derived.Test.YtcjhaeiknenajaaLooseB
namespace Go.Proofs.Ytcjhaeiknenajaa
open Go.RowKit
set_option linter.unusedVariables false

theorem isCell_any (r : PL) (a b c d : Value) (n : Nat) (i : Int) (w : World) (hl : PlN r n) : Calls Try.prog 69 #[.agg #[.int .i64 r.X, .int .i64 r.Y, a, b, c, d], .int .i64 i] w (BolB (decide (0 ≤ i) && decide (i < (n : Int))) w) := by
  have hn := hl.xy
  have n9 := hl.q
  clear hl
  by_cases h : 0 ≤ i
  · have f1 : decide ((0 : Int) ≤ i) = true := by simp; omega
    go_enter Try.func69, Try.ntmps69
    go_wp2_with fail
    refine (countOf_any _ _ n _ _ _ _ _ hn n9).mono ?_
    rintro e w1 ⟨rfl, hb⟩
    go_wp2
    go_ret
    exact ⟨by rw [f1]; rfl, below_step (below_al1 _ _) hb⟩
  · have f1 : decide ((0 : Int) ≤ i) = false := by simp; omega
    go_enter Try.func69, Try.ntmps69
    go_wp2
    go_ret
    exact ⟨rfl, below_al1 _ _⟩

set_option maxRecDepth 10000 in
set_option maxHeartbeats 1600000 in
theorem flowBeside_any (x y z n k j : Nat) (a b c d : Value) (r : PL) (w : World) (h : PRow w a b c d r) (hl : PlN r n) (S : Sd r x y n) (hz : x * (y - 1) = z) (hk : k < n) (hj : j < 4) :
    Calls Try.prog 105 #[.agg #[.int .i64 r.X, .int .i64 r.Y, a, b, c, d], .int .i64 (k : Int), .int .i64 (j : Int)] w (FlP (tF r x z k j) w) := by
  obtain ⟨b0, o0, k0, b1, o1, k1, b2, o2, k2, b3, o3, k3, rfl, rfl, rfl, rfl, hL⟩ := h.lay hl
  have N9 := Lib.hid hl.q
  have BES := Lib.hid (fun w1 => beside_any x y z n k j hj (ps b0 o0 n k0) (ps b1 o1 n k1) (ps b2 o2 n k2) (ps b3 o3 n k3) r w1 S hz hk)
  have NN := Lib.hid (fun h => nbr_nat S hz hk j h)
  have TN := Lib.hid (fun h => tF_no (r := r) (x := x) (z := z) (k := k) (j := j) h)
  have TY := Lib.hid (fun m h => tF_yes (r := r) (x := x) (z := z) (k := k) (j := j) (m := m) h)
  have LY := Lib.hid (hL.below (below_al1 w (.cells (pvs r (ps b0 o0 n k0) (ps b1 o1 n k1) (ps b2 o2 n k2) (ps b3 o3 n k3)).toArray 28)))
  have HK := Lib.hid hk
  clear h hl S hz hL hk
  generalize tF r x z k j = T at *
  generalize nbr x z k j = nb at *
  have A := Lib.hid (Cells.made w (pvs r (ps b0 o0 n k0) (ps b1 o1 n k1) (ps b2 o2 n k2) (ps b3 o3 n k3)) 28)
  have Bw := Lib.hid (below_al1 w (.cells (pvs r (ps b0 o0 n k0) (ps b1 o1 n k1) (ps b2 o2 n k2) (ps b3 o3 n k3)).toArray 28))
  go_enter Try.func105, Try.ntmps105
  go_wp2_with fail
  refine (BES.out _).mono ?_
  rintro e w1 ⟨v, rfl, hv, hb⟩
  have HV := Lib.hid hv
  have Bw := Lib.hid (below_step Bw.out hb)
  have A := Lib.hid (A.out.kept hb)
  have LY := Lib.hid (LY.out.below hb)
  clear hv hb BES
  have c0 := A.out.at 0 rfl; have c1 := A.out.at 1 rfl; have c2 := A.out.at 2 rfl; have c3 := A.out.at 3 rfl; have c4 := A.out.at 4 rfl; have c5 := A.out.at 5 rfl
  by_cases hn0 : 0 ≤ nb
  · obtain ⟨m, hm, hmn⟩ := NN.out hn0
    obtain rfl := HV.out hn0
    have T2 := Lib.hid (TY.out m hm)
    subst hm
    have f1 : decide ((0 : Int) ≤ (m : Int)) = true := by simp
    have hn := N9.out
    have hk := HK.out
    have zk := LY.out.W k hk
    have zm := LY.out.W m hmn
    have hm0 : (0 : Int) ≤ (m : Int) := by omega
    have hm1 : (m : Int) < (n : Int) := by omega
    have hk0 : (0 : Int) ≤ (k : Int) := by omega
    have hk1 : (k : Int) < (n : Int) := by omega
    have FACT := Lib.hid (fun w2 (hw : Ext w1 w2) => And.intro (Ext.cell hw c0) (And.intro (Ext.cell hw c1) (And.intro (Ext.cell hw c2) (And.intro (Ext.cell hw c3) (And.intro (Ext.cell hw c4) (And.intro (Ext.cell hw c5) (And.intro (Ext.cell hw zk) (Ext.cell hw zm))))))))
    have PS := Lib.hid (fun w2 (hw : Ext w1 w2) => implPass_any r (ps b0 o0 n k0) (ps b2 o2 n k2) (ps b3 o3 n k3) b1 o1 k1 n k m w2 hn hk hmn (fun i hi => Ext.cell hw (LY.out.E i hi)))
    have F0 : Hid (flF r k m = fop .mul .f32 (psF r k m) (fop .sub .f32 (cn .f32 (r.W.getD m 0)) (cn .f32 (r.W.getD k 0)))) := Lib.hid rfl
    generalize flF r k m = FL at *
    generalize psF r k m = PP at *
    generalize r.W.getD k 0 = yk at *
    generalize r.W.getD m 0 = ym at *
    clear hn0 HV NN TN TY
    go_wp2
    refine wp_region_looseC (Ext _) (fun _ _ v => ∃ s, cn .f32 s = PP ∧ v = .float .f32 s) (Ext.start _) (by kernel_rfl) (by kernel_rfl) ?_
    repeat (first | (refine wpLoose_farithB rfl _ _ _ _ _ rfl rfl _ _ _ rfl rfl ?_; intro _ _) | (refine wpLoose_valK rfl ?_ (fun w1 hw1 => ?_) (fun K hK => ?_); rotate_left; (focus (have hF := FACT.out w1 hw1; go_simp; first | done | rfl)); go_simp; refine hK _ ?_; clear hK K))
    refine wpLoose_callS rfl 73 #[.agg #[.int .i64 r.X, .int .i64 r.Y, (ps b0 o0 n k0), (ps b1 o1 n k1), (ps b2 o2 n k2), (ps b3 o3 n k3)], .int .i64 (k : Int), .int .i64 (m : Int)] (fun w2 => ?_) (fun w2 hw2 => ?_) (fun v hv => ?_)
    · go_simp
    · refine (PS.out w2 hw2).mono ?_
      rintro e w3 ⟨s, hs, rfl, hb⟩
      exact ⟨_, rfl, ⟨s, hs, rfl⟩, hb⟩
    obtain ⟨s, hs, rfl⟩ := hv
    repeat (first | (refine wpLoose_farithB rfl _ _ _ _ _ rfl rfl _ _ _ rfl rfl ?_; intro _ _) | (refine wpLoose_valK rfl ?_ (fun w1 hw1 => ?_) (fun K hK => ?_); rotate_left; (focus (have hF := FACT.out w1 hw1; go_simp; first | done | rfl)); go_simp; refine hK _ ?_; clear hK K))
    refine wpLoose_nil ?_; intro w1 hb
    have B9 := Lib.hid (below_step Bw.out hb)
    clear hb
    go_wp2
    go_ret
    rename_i r1 g1 r2 g2
    exact ⟨_, by rw [g2.1, g1.1, hs, T2.out, F0.out], rfl, B9.out⟩
  · have f1 : decide (0 ≤ nb) = false := by simp; omega
    have T2 := Lib.hid (TN.out (by omega))
    clear HV NN TN TY
    go_wp2
    go_ret
    exact ⟨0, by rw [T2.out]; decide +kernel, rfl, Bw.out⟩

set_option maxHeartbeats 1600000 in
theorem flowInto_any (x y z n k : Nat) (a b c d : Value) (r : PL) (w : World) (h : PRow w a b c d r) (hl : PlN r n) (S : Sd r x y n) (hz : x * (y - 1) = z) (hk : k < n) :
    Calls Try.prog 75 #[.agg #[.int .i64 r.X, .int .i64 r.Y, a, b, c, d], .int .i64 (k : Int)] w (FlP (inS r x z k 4) w) := by
  have FB := Lib.hid (fun j hj w1 (hb : Below w.heap.size w w1) => flowBeside_any x y z n k j a b c d r w1 (h.below hb) hl S hz hk hj)
  have S0 : Hid (cn .f32 0 = inS r x z k 0) := Lib.hid (show cn .f32 0 = 0 by decide +kernel)
  have SU : Hid (∀ j, inS r x z k (j + 1) = fop .add .f32 (inS r x z k j) (tF r x z k j)) := Lib.hid (fun j => rfl)
  clear h hl S hz hk
  generalize inS r x z k = I at *
  generalize tF r x z k = T at *
  have A := Lib.hid (Cells.made w (pvs r a b c d) 28)
  have Bw := Lib.hid (below_al1 w (.cells (pvs r a b c d).toArray 28))
  go_enter Try.func75, Try.ntmps75
  go_wp2
  go_loopw [5, 7] (fun s i wr => ∃ j x : Nat, j ≤ 4 ∧ i = .int .i64 j ∧ s = .float .f32 x ∧ Hid (cn .f32 x = I j) ∧ Hid (Below w.heap.size w wr) ∧ Hid (Cells wr w.heap.size (pvs r a b c d))) (fun _ i _ => 4 - (intOf i).toNat)
  case atStart => exact ⟨0, 0, Nat.zero_le _, rfl, rfl, S0, Bw, A⟩
  case round =>
    obtain ⟨j, x, hj, rfl, rfl, hx, B0, A0⟩ := hrel
    by_cases hlt : j < 4
    · have hi : (0 : Int) ≤ (j : Int) := by omega
      have hi' : (j : Int) < 4 := by omega
      have c0 := A0.out.at 0 rfl
      have c1 := A0.out.at 1 rfl
      have c2 := A0.out.at 2 rfl
      have c3 := A0.out.at 3 rfl
      have c4 := A0.out.at 4 rfl
      have c5 := A0.out.at 5 rfl
      have FJ := Lib.hid (FB.out j hlt)
      go_wp2_with fail
      refine (FJ.out _ B0.out).mono ?_
      rintro e w2 ⟨s, hs, rfl, hb⟩
      have HS := Lib.hid hs
      have B1 := Lib.hid (below_step B0.out hb)
      have A1 := Lib.hid (A0.out.kept hb)
      clear hs hb
      go_wp2_with (first | (refine wpList_farith rfl _ _ _ _ _ rfl rfl _ _ _ rfl rfl ?_; intro _ _ _))
      rename_i r1 j1 g1
      go_roundw
      case rel => exact ⟨j + 1, _, by omega, by go_num, rfl, Lib.hid (by rw [g1.1, hx.out, HS.out, SU.out]), Lib.hid (below_drewN B1.out _), Lib.hid A1.out.drewN⟩
      case measure => simp [intOf]; omega
    · have e := Lib.hid (show j = 4 by omega)
      go_wp2
      go_ret
      exact ⟨_, by rw [hx.out, e.out], rfl, B0.out⟩
end Go.Proofs.Ytcjhaeiknenajaa
