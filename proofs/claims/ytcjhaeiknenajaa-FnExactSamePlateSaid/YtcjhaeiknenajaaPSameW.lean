/- Whether two plates are the same: the law's walk. -/
import Derived.Test.YtcjhaeiknenajaaPSameI
import Derived.Test.YtcjhaeiknenajaaFacts2
import Derived.Test.YtcjhaeiknenajaaOpenP
namespace Go.Proofs.Ytcjhaeiknenajaa
open Go.RowKit
set_option linter.unusedVariables false

abbrev pagV (r : PL) (a b c d : Value) : Value := .agg #[.int .i64 r.X, .int .i64 r.Y, a, b, c, d]
/-- it is a plate whose lists lie in blocks of their own -/
def fPlAt (r : PL) : Fct := ⟨fun v w => ∃ p0 p1 p2 p3, v = pagV r (sl p0 r.W) (sl p1 r.E) (sl p2 r.G) (slb p3 r.H) ∧ PlateAt w p0 p1 p2 p3 r, fun _ => Pers.ex fun _ => Pers.ex fun _ => Pers.ex fun _ => Pers.ex fun _ => Pers.and (Pers.const _) (fun _ _ h hb => h.kept hb)⟩
theorem fact_needP {l : List (Nat × Fct)} {ops : Array Oper} {o : Oper} {E : SEnv} {w : World} {d : Nat} {φ : Fct} {v : Value} (hT : TS.findB l d = some φ) (hN : FNeed (TS l) ops o E w) (hd : (o.looksAt ops).contains d = true) (hE : E d v) : φ.1 v w :=
  TS.get hT (hN d v (by simpa using hd) hE)
theorem plate_at {r : PL} {p0 p1 p2 p3 : Nat} {w : World} (h : (fPlAt r).1 (pagV r (sl p0 r.W) (sl p1 r.E) (sl p2 r.G) (slb p3 r.H)) w) : PlateAt w p0 p1 p2 p3 r := by
  obtain ⟨q0, q1, q2, q3, e, hc⟩ := h
  simp [pagV, sl, slb] at e
  obtain ⟨rfl, rfl, rfl, rfl⟩ := e
  exact hc
theorem specSameTop (a b c d a' b' c' d' : Value) (r s : PL) (w : World) (h : PRow w a b c d r) (h' : PRow w a' b' c' d' s) (wr : LWf r) (ws : LWf s) : Calls Try.prog 20 #[.agg #[.int .i64 r.X, .int .i64 r.Y, a, b, c, d], .agg #[.int .i64 s.X, .int .i64 s.Y, a', b', c', d']] w (BolB (sameP r s) w) := by
  have A := Lib.hid ((Cells.made w (pvs r a b c d) 28).al (.cells (pvs s a' b' c' d').toArray 28))
  have X := Cells.made (w.alloc (.cells (pvs r a b c d).toArray 28)) (pvs s a' b' c' d') 28
  rw [show (w.alloc (.cells (pvs r a b c d).toArray 28)).heap.size = w.heap.size + 1 from by simp] at X
  have X := Lib.hid X
  have Bw := Lib.hid (below_al2 w (.cells (pvs r a b c d).toArray 28) (.cells (pvs s a' b' c' d').toArray 28))
  have R := Lib.hid (And.intro (h.below Bw.out) (h'.below Bw.out))
  clear h h'
  go_enter Try.func20, Try.ntmps20
  go_wp2_with fail
  refine (specSameP_any a b c d a' b' c' d' r s _ _ _ A.out X.out R.out.1 R.out.2 wr ws).mono ?_
  rintro e w1 ⟨rfl, n, rfl⟩
  go_wp2
  go_ret
  exact ⟨rfl, below_drewN Bw.out _⟩

set_option maxRecDepth 10000 in
set_option maxHeartbeats 3200000 in
theorem fnExactSamePlate_walk (r : PL) (a b c d : Value) (s : PL) (a' b' c' d' : Value) (w : World) (h : PRow w a b c d r) (hf : PWf r) (h' : PRow w a' b' c' d' s) (hf' : PWf s) :
    Calls Try.prog 4 #[.agg #[.int .i64 r.X, .int .i64 r.Y, a, b, c, d], .agg #[.int .i64 s.X, .int .i64 s.Y, a', b', c', d']] w (Tru w) := by
  have A := Lib.hid ((Cells.made w (pvs r a b c d) 25).al (.cells (pvs s a' b' c' d').toArray 25))
  have B := Cells.made (w.alloc (.cells (pvs r a b c d).toArray 25)) (pvs s a' b' c' d') 25
  rw [show (w.alloc (.cells (pvs r a b c d).toArray 25)).heap.size = w.heap.size + 1 from by simp] at B
  have B := Lib.hid B
  have Bw := Lib.hid (below_al2 w (.cells (pvs r a b c d).toArray 25) (.cells (pvs s a' b' c' d').toArray 25))
  have R := Lib.hid (fun w1 (hb : Below w.heap.size w w1) => And.intro (h.below hb) (h'.below hb))
  have wr : LWf r := ⟨hf.W, hf.E, hf.G⟩
  have ws : LWf s := ⟨hf'.W, hf'.E, hf'.G⟩
  have SP := Lib.hid (fun (a b c d a' b' c' d' : Value) (w : World) (h : PRow w a b c d r) (h' : PRow w a' b' c' d' s) => And.intro (specSameTop a b c d a' b' c' d' r s w h h' wr ws) (implSameP_any a b c d a' b' c' d' r s w h h' wr ws))
  generalize sameP r s = rr at SP
  clear h h' hf hf' wr ws
  by_cases hl : r.size ≤ 1048576
  case neg =>
    have HL := Lib.hid (Nat.lt_of_not_le hl)
    clear hl
    go_enter Try.func4, Try.ntmps4
    go_wp2_with fail
    refine (szPlate_over a b c d r 1048576 _ (R.out _ Bw.out).1 HL.out (Nat.le_refl _)).mono ?_
    rintro _ w1 ⟨rfl, hb⟩
    have Bw := Lib.hid (below_step Bw.out hb); have A := Lib.hid (A.out.kept hb); have B := Lib.hid (B.out.kept hb); have f0 := A.out.at 0 rfl; have f1 := A.out.at 1 rfl; have f2 := A.out.at 2 rfl; have f3 := A.out.at 3 rfl; have f4 := A.out.at 4 rfl; have f5 := A.out.at 5 rfl; have g0 := B.out.at 0 rfl; have g1 := B.out.at 1 rfl; have g2 := B.out.at 2 rfl; have g3 := B.out.at 3 rfl; have g4 := B.out.at 4 rfl; have g5 := B.out.at 5 rfl; clear hb
    go_wp2
    go_ret
    exact Tru.below Bw.out
  case pos =>
    have HL := Lib.hid hl
    by_cases kl : s.size ≤ 1048576 - r.size
    case neg =>
      have KL := Lib.hid (Nat.lt_of_not_le kl)
      clear hl kl
      go_enter Try.func4, Try.ntmps4
      go_wp2_with fail
      refine (szPlate_fit a b c d r 1048576 _ (R.out _ Bw.out).1 HL.out (Nat.le_refl _)).mono ?_
      rintro _ w1 ⟨rfl, hb⟩
      have Bw := Lib.hid (below_step Bw.out hb); have A := Lib.hid (A.out.kept hb); have B := Lib.hid (B.out.kept hb); have f0 := A.out.at 0 rfl; have f1 := A.out.at 1 rfl; have f2 := A.out.at 2 rfl; have f3 := A.out.at 3 rfl; have f4 := A.out.at 4 rfl; have f5 := A.out.at 5 rfl; have g0 := B.out.at 0 rfl; have g1 := B.out.at 1 rfl; have g2 := B.out.at 2 rfl; have g3 := B.out.at 3 rfl; have g4 := B.out.at 4 rfl; have g5 := B.out.at 5 rfl; clear hb
      have ML : Hid (1048576 - r.size ≤ 1048576) := Lib.hid (Nat.sub_le _ _)
      generalize 1048576 - r.size = L2 at *
      go_wp2_with fail
      refine (szPlate_over a' b' c' d' s L2 _ (R.out _ Bw.out).2 KL.out ML.out).mono ?_
      rintro _ w2 ⟨rfl, hb⟩
      clear f0 f1 f2 f3 f4 f5 g0 g1 g2 g3 g4 g5
      have Bw := Lib.hid (below_step Bw.out hb); have A := Lib.hid (A.out.kept hb); have B := Lib.hid (B.out.kept hb); have f0 := A.out.at 0 rfl; have f1 := A.out.at 1 rfl; have f2 := A.out.at 2 rfl; have f3 := A.out.at 3 rfl; have f4 := A.out.at 4 rfl; have f5 := A.out.at 5 rfl; have g0 := B.out.at 0 rfl; have g1 := B.out.at 1 rfl; have g2 := B.out.at 2 rfl; have g3 := B.out.at 3 rfl; have g4 := B.out.at 4 rfl; have g5 := B.out.at 5 rfl; clear hb
      go_wp2
      go_ret
      exact Tru.below Bw.out
    case pos =>
      have K0 := Lib.hid kl
      have KL : Hid (s.size ≤ 1048576) := Lib.hid (Nat.le_trans kl (Nat.sub_le _ _))
      clear hl kl
      go_enter Try.func4, Try.ntmps4
      go_wp2_with fail
      refine (szPlate_fit a b c d r 1048576 _ (R.out _ Bw.out).1 HL.out (Nat.le_refl _)).mono ?_
      rintro _ w1 ⟨rfl, hb⟩
      have Bw := Lib.hid (below_step Bw.out hb); have A := Lib.hid (A.out.kept hb); have B := Lib.hid (B.out.kept hb); have f0 := A.out.at 0 rfl; have f1 := A.out.at 1 rfl; have f2 := A.out.at 2 rfl; have f3 := A.out.at 3 rfl; have f4 := A.out.at 4 rfl; have f5 := A.out.at 5 rfl; have g0 := B.out.at 0 rfl; have g1 := B.out.at 1 rfl; have g2 := B.out.at 2 rfl; have g3 := B.out.at 3 rfl; have g4 := B.out.at 4 rfl; have g5 := B.out.at 5 rfl; clear hb
      have ML : Hid (1048576 - r.size ≤ 1048576) := Lib.hid (Nat.sub_le _ _)
      generalize 1048576 - r.size = L2 at *
      go_wp2_with fail
      refine (szPlate_fit a' b' c' d' s L2 _ (R.out _ Bw.out).2 K0.out ML.out).mono ?_
      rintro _ w2 ⟨rfl, hb⟩
      clear f0 f1 f2 f3 f4 f5 g0 g1 g2 g3 g4 g5
      have Bw := Lib.hid (below_step Bw.out hb); have A := Lib.hid (A.out.kept hb); have B := Lib.hid (B.out.kept hb); have f0 := A.out.at 0 rfl; have f1 := A.out.at 1 rfl; have f2 := A.out.at 2 rfl; have f3 := A.out.at 3 rfl; have f4 := A.out.at 4 rfl; have f5 := A.out.at 5 rfl; have g0 := B.out.at 0 rfl; have g1 := B.out.at 1 rfl; have g2 := B.out.at 2 rfl; have g3 := B.out.at 3 rfl; have g4 := B.out.at 4 rfl; have g5 := B.out.at 5 rfl; clear hb
      generalize L2 - s.size = L3 at *
      go_wp2
      have RV := Lib.hid (R.out _ Bw.out).1
      have RY := Lib.hid (R.out _ Bw.out).2
      have FACT := Lib.hid (fun w1 (hw : Ext (w2) w1) => And.intro (hw.cell (A.out.at 0 rfl)) (And.intro (hw.cell (A.out.at 1 rfl)) (And.intro (hw.cell (A.out.at 2 rfl)) (And.intro (hw.cell (A.out.at 3 rfl)) (And.intro (hw.cell (A.out.at 4 rfl)) (And.intro (hw.cell (A.out.at 5 rfl)) (And.intro (hw.cell (B.out.at 0 rfl)) (And.intro (hw.cell (B.out.at 1 rfl)) (And.intro (hw.cell (B.out.at 2 rfl)) (And.intro (hw.cell (B.out.at 3 rfl)) (And.intro (hw.cell (B.out.at 4 rfl)) (hw.cell (B.out.at 5 rfl)))))))))))))
      refine wp_region_facts (Ext (w2)) (TS [(21, (fPlAt r)), (23, (fPlAt s)), (24, fIs (.bool rr))]) (Pers.ext _) (TS.pers _) (Ext.start _) (by kernel_rfl) (by kernel_rfl) (by intro d v c a w h; cases d <;> exact h) ?_
      repeat (refine wpF_val rfl monoQ_end (by rintro _ ⟨⟩; rfl) ?_ (fun w1 hw1 => ?_) (fun K hK => ?_); rotate_left; (focus (have hF := FACT.out w1 hw1; go_simp; first | done | rfl)); go_simp; refine hK _ ?_; clear hK K)
      refine wpF_callF rfl 21 rfl 17 #[.agg #[.int .i64 r.X, .int .i64 r.Y, a, b, c, d]] (fPlAt r) rfl (fun w1 => ?_) (fun w1 hC hN => ?_) (fun v1 hv1 => ?_)
      · go_simp
      · refine (toPlate_any a b c d r w1 (RV.out.below hC) HL.out).mono ?_
        rintro _ w2 ⟨q0, q1, q2, q3, rfl, hp, Z, hb⟩
        exact ⟨_, rfl, hb, q0, q1, q2, q3, rfl, Z⟩
      obtain ⟨w2, u0, u1, u2, u3, rfl, _⟩ := hv1
      unfold pagV
      repeat (refine wpF_val rfl monoQ_end (by rintro _ ⟨⟩; rfl) ?_ (fun w1 hw1 => ?_) (fun K hK => ?_); rotate_left; (focus (have hF := FACT.out w1 hw1; go_simp; first | done | rfl)); go_simp; refine hK _ ?_; clear hK K)
      refine wpF_callF rfl 23 rfl 17 #[.agg #[.int .i64 s.X, .int .i64 s.Y, a', b', c', d']] (fPlAt s) rfl (fun w1 => ?_) (fun w1 hC hN => ?_) (fun v1 hv1 => ?_)
      · go_simp
      · refine (toPlate_any a' b' c' d' s w1 (RY.out.below hC) KL.out).mono ?_
        rintro _ w2 ⟨q0, q1, q2, q3, rfl, hp, Z, hb⟩
        exact ⟨_, rfl, hb, q0, q1, q2, q3, rfl, Z⟩
      obtain ⟨w2, v0, v1, v2, v3, rfl, _⟩ := hv1
      unfold pagV
      repeat (refine wpF_val rfl monoQ_end (by rintro _ ⟨⟩; rfl) ?_ (fun w1 hw1 => ?_) (fun K hK => ?_); rotate_left; (focus (have hF := FACT.out w1 hw1; go_simp; first | done | rfl)); go_simp; refine hK _ ?_; clear hK K)
      refine wpF_callF rfl 24 rfl 20 #[.agg #[.int .i64 r.X, .int .i64 r.Y, (sl u0 r.W), (sl u1 r.E), (sl u2 r.G), (slb u3 r.H)], .agg #[.int .i64 s.X, .int .i64 s.Y, (sl v0 s.W), (sl v1 s.E), (sl v2 s.G), (slb v3 s.H)]] (fIs (.bool rr)) rfl (fun w1 => ?_) (fun w1 hC hN => ?_) (fun v1 hv1 => ?_)
      · go_simp
      · have Z := plate_at (fact_needP (d := 21) rfl hN (by kernel_rfl) (by repeat (first | exact Or.inr ⟨rfl, rfl⟩ | refine Or.inl ?_)))
        have Z2 := plate_at (fact_needP (d := 23) rfl hN (by kernel_rfl) (by repeat (first | exact Or.inr ⟨rfl, rfl⟩ | refine Or.inl ?_)))
        refine (SP.out _ _ _ _ _ _ _ _ w1 (Z.row HL.out) (Z2.row KL.out)).1.mono ?_
        rintro _ w2 ⟨rfl, hb⟩
        exact ⟨_, rfl, hb, rfl⟩
      obtain ⟨w4, rfl⟩ := hv1
      repeat (refine wpF_val rfl monoQ_end (by rintro _ ⟨⟩; rfl) ?_ (fun w1 hw1 => ?_) (fun K hK => ?_); rotate_left; (focus (have hF := FACT.out w1 hw1; go_simp; first | done | rfl)); go_simp; refine hK _ ?_; clear hK K)
      refine wpFacts_nil ?_
      intro w3 hb _
      have Bw := Lib.hid (below_step Bw.out hb)
      have A := Lib.hid (A.out.kept hb)
      have B := Lib.hid (B.out.kept hb)
      have RV := Lib.hid (RV.out.below hb)
      have RY := Lib.hid (RY.out.below hb)
      clear f0 f1 f2 f3 f4 f5 g0 g1 g2 g3 g4 g5
      have f0 := A.out.at 0 rfl; have f1 := A.out.at 1 rfl; have f2 := A.out.at 2 rfl; have f3 := A.out.at 3 rfl; have f4 := A.out.at 4 rfl; have f5 := A.out.at 5 rfl; have g0 := B.out.at 0 rfl; have g1 := B.out.at 1 rfl; have g2 := B.out.at 2 rfl; have g3 := B.out.at 3 rfl; have g4 := B.out.at 4 rfl; have g5 := B.out.at 5 rfl
      clear hb FACT
      go_wp2_with fail
      refine (toPlate_any a b c d r _ RV.out HL.out).mono ?_
      rintro _ w4 ⟨x0, x1, x2, x3, rfl, hp, V, hb⟩
      have Bw := Lib.hid (below_step Bw.out hb)
      have A := Lib.hid (A.out.kept hb)
      have B := Lib.hid (B.out.kept hb)
      have RV := Lib.hid (RV.out.below hb)
      have RY := Lib.hid (RY.out.below hb)
      have X := Lib.hid (Cells.made w4 [.int .i64 r.X, .int .i64 r.Y, .slice (some ⟨x0, 0, none⟩) r.W.length r.W.length, .slice (some ⟨x1, 0, none⟩) r.E.length r.E.length, .slice (some ⟨x2, 0, none⟩) r.G.length r.G.length, .slice (some ⟨x3, 0, none⟩) r.H.length r.H.length] 28)
      have V := Lib.hid (V.kept (below_al1 w4 (.cells #[.int .i64 r.X, .int .i64 r.Y, .slice (some ⟨x0, 0, none⟩) r.W.length r.W.length, .slice (some ⟨x1, 0, none⟩) r.E.length r.E.length, .slice (some ⟨x2, 0, none⟩) r.G.length r.G.length, .slice (some ⟨x3, 0, none⟩) r.H.length r.H.length] 28)))
      have Bw := Lib.hid (below_step Bw.out (below_al1 w4 (.cells #[.int .i64 r.X, .int .i64 r.Y, .slice (some ⟨x0, 0, none⟩) r.W.length r.W.length, .slice (some ⟨x1, 0, none⟩) r.E.length r.E.length, .slice (some ⟨x2, 0, none⟩) r.G.length r.G.length, .slice (some ⟨x3, 0, none⟩) r.H.length r.H.length] 28)))
      have A := Lib.hid (A.out.al (.cells #[.int .i64 r.X, .int .i64 r.Y, .slice (some ⟨x0, 0, none⟩) r.W.length r.W.length, .slice (some ⟨x1, 0, none⟩) r.E.length r.E.length, .slice (some ⟨x2, 0, none⟩) r.G.length r.G.length, .slice (some ⟨x3, 0, none⟩) r.H.length r.H.length] 28))
      have B := Lib.hid (B.out.al (.cells #[.int .i64 r.X, .int .i64 r.Y, .slice (some ⟨x0, 0, none⟩) r.W.length r.W.length, .slice (some ⟨x1, 0, none⟩) r.E.length r.E.length, .slice (some ⟨x2, 0, none⟩) r.G.length r.G.length, .slice (some ⟨x3, 0, none⟩) r.H.length r.H.length] 28))
      have RV := Lib.hid (RV.out.below (below_al1 w4 (.cells #[.int .i64 r.X, .int .i64 r.Y, .slice (some ⟨x0, 0, none⟩) r.W.length r.W.length, .slice (some ⟨x1, 0, none⟩) r.E.length r.E.length, .slice (some ⟨x2, 0, none⟩) r.G.length r.G.length, .slice (some ⟨x3, 0, none⟩) r.H.length r.H.length] 28)))
      have RY := Lib.hid (RY.out.below (below_al1 w4 (.cells #[.int .i64 r.X, .int .i64 r.Y, .slice (some ⟨x0, 0, none⟩) r.W.length r.W.length, .slice (some ⟨x1, 0, none⟩) r.E.length r.E.length, .slice (some ⟨x2, 0, none⟩) r.G.length r.G.length, .slice (some ⟨x3, 0, none⟩) r.H.length r.H.length] 28)))
      clear hb hp
      clear f0 f1 f2 f3 f4 f5 g0 g1 g2 g3 g4 g5
      have f0 := A.out.at 0 rfl; have f1 := A.out.at 1 rfl; have f2 := A.out.at 2 rfl; have f3 := A.out.at 3 rfl; have f4 := A.out.at 4 rfl; have f5 := A.out.at 5 rfl; have g0 := B.out.at 0 rfl; have g1 := B.out.at 1 rfl; have g2 := B.out.at 2 rfl; have g3 := B.out.at 3 rfl; have g4 := B.out.at 4 rfl; have g5 := B.out.at 5 rfl
      go_wp2_with fail
      refine (toPlate_any a' b' c' d' s _ RY.out KL.out).mono ?_
      rintro _ w5 ⟨y0, y1, y2, y3, rfl, hp, U, hb⟩
      have Bw := Lib.hid (below_step Bw.out hb)
      have X := Lib.hid (X.out.kept hb)
      have V := Lib.hid (V.out.kept hb)
      have A := Lib.hid (A.out.kept hb)
      have B := Lib.hid (B.out.kept hb)
      have RV := Lib.hid (RV.out.below hb)
      have RY := Lib.hid (RY.out.below hb)
      have Y := Lib.hid (Cells.made w5 [.int .i64 s.X, .int .i64 s.Y, .slice (some ⟨y0, 0, none⟩) s.W.length s.W.length, .slice (some ⟨y1, 0, none⟩) s.E.length s.E.length, .slice (some ⟨y2, 0, none⟩) s.G.length s.G.length, .slice (some ⟨y3, 0, none⟩) s.H.length s.H.length] 28)
      have U := Lib.hid (U.kept (below_al1 w5 (.cells #[.int .i64 s.X, .int .i64 s.Y, .slice (some ⟨y0, 0, none⟩) s.W.length s.W.length, .slice (some ⟨y1, 0, none⟩) s.E.length s.E.length, .slice (some ⟨y2, 0, none⟩) s.G.length s.G.length, .slice (some ⟨y3, 0, none⟩) s.H.length s.H.length] 28)))
      have Bw := Lib.hid (below_step Bw.out (below_al1 w5 (.cells #[.int .i64 s.X, .int .i64 s.Y, .slice (some ⟨y0, 0, none⟩) s.W.length s.W.length, .slice (some ⟨y1, 0, none⟩) s.E.length s.E.length, .slice (some ⟨y2, 0, none⟩) s.G.length s.G.length, .slice (some ⟨y3, 0, none⟩) s.H.length s.H.length] 28)))
      have X := Lib.hid (X.out.kept (below_al1 w5 (.cells #[.int .i64 s.X, .int .i64 s.Y, .slice (some ⟨y0, 0, none⟩) s.W.length s.W.length, .slice (some ⟨y1, 0, none⟩) s.E.length s.E.length, .slice (some ⟨y2, 0, none⟩) s.G.length s.G.length, .slice (some ⟨y3, 0, none⟩) s.H.length s.H.length] 28)))
      have V := Lib.hid (V.out.kept (below_al1 w5 (.cells #[.int .i64 s.X, .int .i64 s.Y, .slice (some ⟨y0, 0, none⟩) s.W.length s.W.length, .slice (some ⟨y1, 0, none⟩) s.E.length s.E.length, .slice (some ⟨y2, 0, none⟩) s.G.length s.G.length, .slice (some ⟨y3, 0, none⟩) s.H.length s.H.length] 28)))
      have A := Lib.hid (A.out.al (.cells #[.int .i64 s.X, .int .i64 s.Y, .slice (some ⟨y0, 0, none⟩) s.W.length s.W.length, .slice (some ⟨y1, 0, none⟩) s.E.length s.E.length, .slice (some ⟨y2, 0, none⟩) s.G.length s.G.length, .slice (some ⟨y3, 0, none⟩) s.H.length s.H.length] 28))
      have B := Lib.hid (B.out.al (.cells #[.int .i64 s.X, .int .i64 s.Y, .slice (some ⟨y0, 0, none⟩) s.W.length s.W.length, .slice (some ⟨y1, 0, none⟩) s.E.length s.E.length, .slice (some ⟨y2, 0, none⟩) s.G.length s.G.length, .slice (some ⟨y3, 0, none⟩) s.H.length s.H.length] 28))
      have RV := Lib.hid (RV.out.below (below_al1 w5 (.cells #[.int .i64 s.X, .int .i64 s.Y, .slice (some ⟨y0, 0, none⟩) s.W.length s.W.length, .slice (some ⟨y1, 0, none⟩) s.E.length s.E.length, .slice (some ⟨y2, 0, none⟩) s.G.length s.G.length, .slice (some ⟨y3, 0, none⟩) s.H.length s.H.length] 28)))
      have RY := Lib.hid (RY.out.below (below_al1 w5 (.cells #[.int .i64 s.X, .int .i64 s.Y, .slice (some ⟨y0, 0, none⟩) s.W.length s.W.length, .slice (some ⟨y1, 0, none⟩) s.E.length s.E.length, .slice (some ⟨y2, 0, none⟩) s.G.length s.G.length, .slice (some ⟨y3, 0, none⟩) s.H.length s.H.length] 28)))
      clear hb hp
      clear f0 f1 f2 f3 f4 f5 g0 g1 g2 g3 g4 g5
      have f0 := A.out.at 0 rfl; have f1 := A.out.at 1 rfl; have f2 := A.out.at 2 rfl; have f3 := A.out.at 3 rfl; have f4 := A.out.at 4 rfl; have f5 := A.out.at 5 rfl; have g0 := B.out.at 0 rfl; have g1 := B.out.at 1 rfl; have g2 := B.out.at 2 rfl; have g3 := B.out.at 3 rfl; have g4 := B.out.at 4 rfl; have g5 := B.out.at 5 rfl
      have k0 := X.out.at 0 rfl; have k1 := X.out.at 1 rfl; have k2 := X.out.at 2 rfl; have k3 := X.out.at 3 rfl; have k4 := X.out.at 4 rfl; have k5 := X.out.at 5 rfl; have l0 := Y.out.at 0 rfl; have l1 := Y.out.at 1 rfl; have l2 := Y.out.at 2 rfl; have l3 := Y.out.at 3 rfl; have l4 := Y.out.at 4 rfl; have l5 := Y.out.at 5 rfl
      go_wp2_with fail
      refine (SP.out _ _ _ _ _ _ _ _ _ (V.out.row HL.out) (U.out.row KL.out)).2.mono ?_
      rintro _ w6 ⟨rfl, hb⟩
      have Bw := Lib.hid (below_step Bw.out hb)
      have A := Lib.hid (A.out.kept hb)
      have B := Lib.hid (B.out.kept hb)
      have X := Lib.hid (X.out.kept hb)
      have V := Lib.hid (V.out.kept hb)
      have Y := Lib.hid (Y.out.kept hb)
      have U := Lib.hid (U.out.kept hb)
      have RV := Lib.hid (RV.out.below hb)
      have RY := Lib.hid (RY.out.below hb)
      clear hb
      clear f0 f1 f2 f3 f4 f5 g0 g1 g2 g3 g4 g5 k0 k1 k2 k3 k4 k5 l0 l1 l2 l3 l4 l5
      generalize w4.heap.size = h1 at *
      generalize w5.heap.size = h2 at *
      go_wp2
      have FACT := Lib.hid (fun w1 (hw : Ext (w6) w1) => And.intro (hw.cell (A.out.at 0 rfl)) (And.intro (hw.cell (A.out.at 1 rfl)) (And.intro (hw.cell (A.out.at 2 rfl)) (And.intro (hw.cell (A.out.at 3 rfl)) (And.intro (hw.cell (A.out.at 4 rfl)) (And.intro (hw.cell (A.out.at 5 rfl)) (And.intro (hw.cell (X.out.at 0 rfl)) (And.intro (hw.cell (X.out.at 1 rfl)) (And.intro (hw.cell (X.out.at 2 rfl)) (And.intro (hw.cell (X.out.at 3 rfl)) (And.intro (hw.cell (X.out.at 4 rfl)) (hw.cell (X.out.at 5 rfl)))))))))))))
      refine wp_region_facts (Ext (w6)) (TS [(37, (fPlAt r)), (38, fIs (.bool true))]) (Pers.ext _) (TS.pers _) (Ext.start _) (by kernel_rfl) (by kernel_rfl) (by intro d v c a w h; cases d <;> exact h) ?_
      repeat (refine wpF_val rfl monoQ_end (by rintro _ ⟨⟩; rfl) ?_ (fun w1 hw1 => ?_) (fun K hK => ?_); rotate_left; (focus (have hF := FACT.out w1 hw1; go_simp; first | done | rfl)); go_simp; refine hK _ ?_; clear hK K)
      refine wpF_callF rfl 37 rfl 17 #[.agg #[.int .i64 r.X, .int .i64 r.Y, a, b, c, d]] (fPlAt r) rfl (fun w1 => ?_) (fun w1 hC hN => ?_) (fun v1 hv1 => ?_)
      · go_simp
      · refine (toPlate_any a b c d r w1 (RV.out.below hC) HL.out).mono ?_
        rintro _ w2 ⟨q0, q1, q2, q3, rfl, hp, Z, hb⟩
        exact ⟨_, rfl, hb, q0, q1, q2, q3, rfl, Z⟩
      obtain ⟨w2, z0, z1, z2, z3, rfl, _⟩ := hv1
      unfold pagV
      repeat (refine wpF_val rfl monoQ_end (by rintro _ ⟨⟩; rfl) ?_ (fun w1 hw1 => ?_) (fun K hK => ?_); rotate_left; (focus (have hF := FACT.out w1 hw1; go_simp; first | done | rfl)); go_simp; refine hK _ ?_; clear hK K)
      refine wpF_callF rfl 38 rfl 19 #[.agg #[.int .i64 r.X, .int .i64 r.Y, (sl x0 r.W), (sl x1 r.E), (sl x2 r.G), (slb x3 r.H)], .agg #[.int .i64 r.X, .int .i64 r.Y, (sl z0 r.W), (sl z1 r.E), (sl z2 r.G), (slb z3 r.H)]] (fIs (.bool true)) rfl (fun w1 => ?_) (fun w1 hC hN => ?_) (fun v1 hv1 => ?_)
      · go_simp
      · have Z := plate_at (fact_needP (d := 37) rfl hN (by kernel_rfl) (by repeat (first | exact Or.inr ⟨rfl, rfl⟩ | refine Or.inl ?_)))
        refine (eqPlate_any _ _ _ _ _ _ _ _ r w1 ((V.out.kept hC).row HL.out) (Z.row HL.out)).mono ?_
        rintro _ w2 ⟨rfl, hb⟩
        exact ⟨_, rfl, hb, rfl⟩
      obtain ⟨w2, rfl⟩ := hv1
      repeat (refine wpF_val rfl monoQ_end (by rintro _ ⟨⟩; rfl) ?_ (fun w1 hw1 => ?_) (fun K hK => ?_); rotate_left; (focus (have hF := FACT.out w1 hw1; go_simp; first | done | rfl)); go_simp; refine hK _ ?_; clear hK K)
      refine wpFacts_nil ?_
      intro w7 hb _
      have Bw := Lib.hid (below_step Bw.out hb)
      have B := Lib.hid (B.out.kept hb)
      have Y := Lib.hid (Y.out.kept hb)
      have U := Lib.hid (U.out.kept hb)
      have RY := Lib.hid (RY.out.below hb)
      clear hb FACT A X V
      go_wp2
      have FACT := Lib.hid (fun w1 (hw : Ext (w7) w1) => And.intro (hw.cell (B.out.at 0 rfl)) (And.intro (hw.cell (B.out.at 1 rfl)) (And.intro (hw.cell (B.out.at 2 rfl)) (And.intro (hw.cell (B.out.at 3 rfl)) (And.intro (hw.cell (B.out.at 4 rfl)) (And.intro (hw.cell (B.out.at 5 rfl)) (And.intro (hw.cell (Y.out.at 0 rfl)) (And.intro (hw.cell (Y.out.at 1 rfl)) (And.intro (hw.cell (Y.out.at 2 rfl)) (And.intro (hw.cell (Y.out.at 3 rfl)) (And.intro (hw.cell (Y.out.at 4 rfl)) (hw.cell (Y.out.at 5 rfl)))))))))))))
      refine wp_region_facts (Ext (w7)) (TS [(42, (fPlAt s)), (43, fIs (.bool true))]) (Pers.ext _) (TS.pers _) (Ext.start _) (by kernel_rfl) (by kernel_rfl) (by intro d v c a w h; cases d <;> exact h) ?_
      repeat (refine wpF_val rfl monoQ_end (by rintro _ ⟨⟩; rfl) ?_ (fun w1 hw1 => ?_) (fun K hK => ?_); rotate_left; (focus (have hF := FACT.out w1 hw1; go_simp; first | done | rfl)); go_simp; refine hK _ ?_; clear hK K)
      refine wpF_callF rfl 42 rfl 17 #[.agg #[.int .i64 s.X, .int .i64 s.Y, a', b', c', d']] (fPlAt s) rfl (fun w1 => ?_) (fun w1 hC hN => ?_) (fun v1 hv1 => ?_)
      · go_simp
      · refine (toPlate_any a' b' c' d' s w1 (RY.out.below hC) KL.out).mono ?_
        rintro _ w2 ⟨q0, q1, q2, q3, rfl, hp, Z, hb⟩
        exact ⟨_, rfl, hb, q0, q1, q2, q3, rfl, Z⟩
      obtain ⟨w2, t0, t1, t2, t3, rfl, _⟩ := hv1
      unfold pagV
      repeat (refine wpF_val rfl monoQ_end (by rintro _ ⟨⟩; rfl) ?_ (fun w1 hw1 => ?_) (fun K hK => ?_); rotate_left; (focus (have hF := FACT.out w1 hw1; go_simp; first | done | rfl)); go_simp; refine hK _ ?_; clear hK K)
      refine wpF_callF rfl 43 rfl 19 #[.agg #[.int .i64 s.X, .int .i64 s.Y, (sl y0 s.W), (sl y1 s.E), (sl y2 s.G), (slb y3 s.H)], .agg #[.int .i64 s.X, .int .i64 s.Y, (sl t0 s.W), (sl t1 s.E), (sl t2 s.G), (slb t3 s.H)]] (fIs (.bool true)) rfl (fun w1 => ?_) (fun w1 hC hN => ?_) (fun v1 hv1 => ?_)
      · go_simp
      · have Z := plate_at (fact_needP (d := 42) rfl hN (by kernel_rfl) (by repeat (first | exact Or.inr ⟨rfl, rfl⟩ | refine Or.inl ?_)))
        refine (eqPlate_any _ _ _ _ _ _ _ _ s w1 ((U.out.kept hC).row KL.out) (Z.row KL.out)).mono ?_
        rintro _ w2 ⟨rfl, hb⟩
        exact ⟨_, rfl, hb, rfl⟩
      obtain ⟨w2, rfl⟩ := hv1
      repeat (refine wpF_val rfl monoQ_end (by rintro _ ⟨⟩; rfl) ?_ (fun w1 hw1 => ?_) (fun K hK => ?_); rotate_left; (focus (have hF := FACT.out w1 hw1; go_simp; first | done | rfl)); go_simp; refine hK _ ?_; clear hK K)
      refine wpFacts_nil ?_
      intro w8 hb _
      have Bw := Lib.hid (below_step Bw.out hb)
      clear hb FACT
      go_wp2
      go_ret
      exact Tru.below Bw.out
end Go.Proofs.Ytcjhaeiknenajaa
