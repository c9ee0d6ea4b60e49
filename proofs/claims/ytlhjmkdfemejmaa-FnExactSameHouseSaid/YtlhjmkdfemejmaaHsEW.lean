/- Whether two houses are the same: the law's walk. -/
import Derived.Test.YtlhjmkdfemejmaaHsE
import Derived.Test.YtlhjmkdfemejmaaFacts2
import Derived.Test.YtlhjmkdfemejmaaOpenHs
namespace Go.Proofs.Ytlhjmkdfemejmaa
open Go.RowKit
set_option linter.unusedVariables false

abbrev hagV (a b c d : Value) : Value := .agg #[a, b, c, d]
/-- it is a house whose lists lie in blocks of their own -/
def fHsAt (r : HS) : Fct := ⟨fun v w => ∃ p0 p1 p2 p3, v = hagV (sl p0 r.W) (sl p1 r.H) (sl p2 r.L) (slk p3 r.K) ∧ HouseAt w p0 p1 p2 p3 r, fun _ => Pers.ex fun _ => Pers.ex fun _ => Pers.ex fun _ => Pers.ex fun _ => Pers.and (Pers.const _) (fun _ _ h hb => h.kept hb)⟩
theorem fact_needP {l : List (Nat × Fct)} {ops : Array Oper} {o : Oper} {E : SEnv} {w : World} {d : Nat} {φ : Fct} {v : Value} (hT : TS.findB l d = some φ) (hN : FNeed (TS l) ops o E w) (hd : (o.looksAt ops).contains d = true) (hE : E d v) : φ.1 v w :=
  TS.get hT (hN d v (by simpa using hd) hE)
theorem house_at {r : HS} {p0 p1 p2 p3 : Nat} {w : World} (h : (fHsAt r).1 (hagV (sl p0 r.W) (sl p1 r.H) (sl p2 r.L) (slk p3 r.K)) w) : HouseAt w p0 p1 p2 p3 r := by
  obtain ⟨q0, q1, q2, q3, e, hc⟩ := h
  simp [hagV, sl, slk] at e
  obtain ⟨rfl, rfl, rfl, rfl⟩ := e
  exact hc
theorem specSameHTop (a b c d a' b' c' d' : Value) (r s : HS) (w : World) (h : HRow w a b c d r) (h' : HRow w a' b' c' d' s) (wr : HWf r) (ws : HWf s) : Calls Try.prog 49 #[.agg #[a, b, c, d], .agg #[a', b', c', d']] w (BolB (sameH r s) w) := by
  have A := Lib.hid ((Cells.made w (hvs a b c d) 70).al (.cells (hvs a' b' c' d').toArray 70))
  have X := Cells.made (w.alloc (.cells (hvs a b c d).toArray 70)) (hvs a' b' c' d') 70
  rw [show (w.alloc (.cells (hvs a b c d).toArray 70)).heap.size = w.heap.size + 1 from by simp] at X
  have X := Lib.hid X
  have Bw := Lib.hid (below_al2 w (.cells (hvs a b c d).toArray 70) (.cells (hvs a' b' c' d').toArray 70))
  have R := Lib.hid (And.intro (h.below Bw.out) (h'.below Bw.out))
  clear h h'
  go_enter Try.func49, Try.ntmps49
  go_wp2_with fail
  refine (specSameH_any a b c d a' b' c' d' r s _ _ _ A.out X.out R.out.1 R.out.2 wr ws).mono ?_
  rintro e w1 ⟨rfl, n, rfl⟩
  go_wp2
  go_ret
  exact ⟨rfl, below_drewN Bw.out _⟩

set_option maxRecDepth 10000 in
set_option maxHeartbeats 3200000 in
theorem fnExactSameHouse_walk (r : HS) (a b c d : Value) (s : HS) (a' b' c' d' : Value) (w : World) (h : HRow w a b c d r) (hf : HWf r) (h' : HRow w a' b' c' d' s) (hf' : HWf s) :
    Calls Try.prog 13 #[.agg #[a, b, c, d], .agg #[a', b', c', d']] w (Tru w) := by
  have A := Lib.hid ((Cells.made w (hvs a b c d) 65).al (.cells (hvs a' b' c' d').toArray 65))
  have B := Cells.made (w.alloc (.cells (hvs a b c d).toArray 65)) (hvs a' b' c' d') 65
  rw [show (w.alloc (.cells (hvs a b c d).toArray 65)).heap.size = w.heap.size + 1 from by simp] at B
  have B := Lib.hid B
  have Bw := Lib.hid (below_al2 w (.cells (hvs a b c d).toArray 65) (.cells (hvs a' b' c' d').toArray 65))
  have R := Lib.hid (fun w1 (hb : Below w.heap.size w w1) => And.intro (h.below hb) (h'.below hb))
  have wr : HWf r := hf
  have ws : HWf s := hf'
  have SP := Lib.hid (fun (a b c d a' b' c' d' : Value) (w : World) (h : HRow w a b c d r) (h' : HRow w a' b' c' d' s) => And.intro (specSameHTop a b c d a' b' c' d' r s w h h' wr ws) (implSameH_any a b c d a' b' c' d' r s w h h' wr ws))
  generalize sameH r s = rr at SP
  clear h h' hf hf' wr ws
  by_cases hl : r.size ≤ 1048576
  case neg =>
    have HL := Lib.hid (Nat.lt_of_not_le hl)
    clear hl
    go_enter Try.func13, Try.ntmps13
    go_wp2_with fail
    refine (szHouse_over a b c d r 1048576 _ (R.out _ Bw.out).1 HL.out (Nat.le_refl _)).mono ?_
    rintro _ w1 ⟨rfl, hb⟩
    have Bw := Lib.hid (below_step Bw.out hb); have A := Lib.hid (A.out.kept hb); have B := Lib.hid (B.out.kept hb); have f0 := A.out.at 0 rfl; have f1 := A.out.at 1 rfl; have f2 := A.out.at 2 rfl; have f3 := A.out.at 3 rfl; have g0 := B.out.at 0 rfl; have g1 := B.out.at 1 rfl; have g2 := B.out.at 2 rfl; have g3 := B.out.at 3 rfl; clear hb
    go_wp2
    go_ret
    exact Tru.below Bw.out
  case pos =>
    have HL := Lib.hid hl
    by_cases kl : s.size ≤ 1048576 - r.size
    case neg =>
      have KL := Lib.hid (Nat.lt_of_not_le kl)
      clear hl kl
      go_enter Try.func13, Try.ntmps13
      go_wp2_with fail
      refine (szHouse_fit a b c d r 1048576 _ (R.out _ Bw.out).1 HL.out (Nat.le_refl _)).mono ?_
      rintro _ w1 ⟨rfl, hb⟩
      have Bw := Lib.hid (below_step Bw.out hb); have A := Lib.hid (A.out.kept hb); have B := Lib.hid (B.out.kept hb); have f0 := A.out.at 0 rfl; have f1 := A.out.at 1 rfl; have f2 := A.out.at 2 rfl; have f3 := A.out.at 3 rfl; have g0 := B.out.at 0 rfl; have g1 := B.out.at 1 rfl; have g2 := B.out.at 2 rfl; have g3 := B.out.at 3 rfl; clear hb
      have ML : Hid (1048576 - r.size ≤ 1048576) := Lib.hid (Nat.sub_le _ _)
      generalize 1048576 - r.size = L2 at *
      go_wp2_with fail
      refine (szHouse_over a' b' c' d' s L2 _ (R.out _ Bw.out).2 KL.out ML.out).mono ?_
      rintro _ w2 ⟨rfl, hb⟩
      clear f0 f1 f2 f3 g0 g1 g2 g3
      have Bw := Lib.hid (below_step Bw.out hb); have A := Lib.hid (A.out.kept hb); have B := Lib.hid (B.out.kept hb); have f0 := A.out.at 0 rfl; have f1 := A.out.at 1 rfl; have f2 := A.out.at 2 rfl; have f3 := A.out.at 3 rfl; have g0 := B.out.at 0 rfl; have g1 := B.out.at 1 rfl; have g2 := B.out.at 2 rfl; have g3 := B.out.at 3 rfl; clear hb
      go_wp2
      go_ret
      exact Tru.below Bw.out
    case pos =>
      have K0 := Lib.hid kl
      have KL : Hid (s.size ≤ 1048576) := Lib.hid (Nat.le_trans kl (Nat.sub_le _ _))
      clear hl kl
      go_enter Try.func13, Try.ntmps13
      go_wp2_with fail
      refine (szHouse_fit a b c d r 1048576 _ (R.out _ Bw.out).1 HL.out (Nat.le_refl _)).mono ?_
      rintro _ w1 ⟨rfl, hb⟩
      have Bw := Lib.hid (below_step Bw.out hb); have A := Lib.hid (A.out.kept hb); have B := Lib.hid (B.out.kept hb); have f0 := A.out.at 0 rfl; have f1 := A.out.at 1 rfl; have f2 := A.out.at 2 rfl; have f3 := A.out.at 3 rfl; have g0 := B.out.at 0 rfl; have g1 := B.out.at 1 rfl; have g2 := B.out.at 2 rfl; have g3 := B.out.at 3 rfl; clear hb
      have ML : Hid (1048576 - r.size ≤ 1048576) := Lib.hid (Nat.sub_le _ _)
      generalize 1048576 - r.size = L2 at *
      go_wp2_with fail
      refine (szHouse_fit a' b' c' d' s L2 _ (R.out _ Bw.out).2 K0.out ML.out).mono ?_
      rintro _ w2 ⟨rfl, hb⟩
      clear f0 f1 f2 f3 g0 g1 g2 g3
      have Bw := Lib.hid (below_step Bw.out hb); have A := Lib.hid (A.out.kept hb); have B := Lib.hid (B.out.kept hb); have f0 := A.out.at 0 rfl; have f1 := A.out.at 1 rfl; have f2 := A.out.at 2 rfl; have f3 := A.out.at 3 rfl; have g0 := B.out.at 0 rfl; have g1 := B.out.at 1 rfl; have g2 := B.out.at 2 rfl; have g3 := B.out.at 3 rfl; clear hb
      generalize L2 - s.size = L3 at *
      go_wp2
      have RV := Lib.hid (R.out _ Bw.out).1
      have RY := Lib.hid (R.out _ Bw.out).2
      have FACT := Lib.hid (fun w1 (hw : Ext (w2) w1) => And.intro (hw.cell (A.out.at 0 rfl)) (And.intro (hw.cell (A.out.at 1 rfl)) (And.intro (hw.cell (A.out.at 2 rfl)) (And.intro (hw.cell (A.out.at 3 rfl)) (And.intro (hw.cell (B.out.at 0 rfl)) (And.intro (hw.cell (B.out.at 1 rfl)) (And.intro (hw.cell (B.out.at 2 rfl)) (hw.cell (B.out.at 3 rfl)))))))))
      refine wp_region_facts (Ext (w2)) (TS [(21, (fHsAt r)), (23, (fHsAt s)), (24, fIs (.bool rr))]) (Pers.ext _) (TS.pers _) (Ext.start _) (by kernel_rfl) (by kernel_rfl) (by intro d v c a w h; cases d <;> exact h) ?_
      repeat (refine wpF_val rfl monoQ_end (by rintro _ ⟨⟩; rfl) ?_ (fun w1 hw1 => ?_) (fun K hK => ?_); rotate_left; (focus (have hF := FACT.out w1 hw1; go_simp; first | done | rfl)); go_simp; refine hK _ ?_; clear hK K)
      refine wpF_callF rfl 21 rfl 50 #[.agg #[a, b, c, d]] (fHsAt r) rfl (fun w1 => ?_) (fun w1 hC hN => ?_) (fun v1 hv1 => ?_)
      · go_simp
      · refine (toHouse_any a b c d r w1 (RV.out.below hC) HL.out).mono ?_
        rintro _ w2 ⟨q0, q1, q2, q3, rfl, hp, Z, hb⟩
        exact ⟨_, rfl, hb, q0, q1, q2, q3, rfl, Z⟩
      obtain ⟨w2, u0, u1, u2, u3, rfl, _⟩ := hv1
      unfold hagV
      repeat (refine wpF_val rfl monoQ_end (by rintro _ ⟨⟩; rfl) ?_ (fun w1 hw1 => ?_) (fun K hK => ?_); rotate_left; (focus (have hF := FACT.out w1 hw1; go_simp; first | done | rfl)); go_simp; refine hK _ ?_; clear hK K)
      refine wpF_callF rfl 23 rfl 50 #[.agg #[a', b', c', d']] (fHsAt s) rfl (fun w1 => ?_) (fun w1 hC hN => ?_) (fun v1 hv1 => ?_)
      · go_simp
      · refine (toHouse_any a' b' c' d' s w1 (RY.out.below hC) KL.out).mono ?_
        rintro _ w2 ⟨q0, q1, q2, q3, rfl, hp, Z, hb⟩
        exact ⟨_, rfl, hb, q0, q1, q2, q3, rfl, Z⟩
      obtain ⟨w2, v0, v1, v2, v3, rfl, _⟩ := hv1
      unfold hagV
      repeat (refine wpF_val rfl monoQ_end (by rintro _ ⟨⟩; rfl) ?_ (fun w1 hw1 => ?_) (fun K hK => ?_); rotate_left; (focus (have hF := FACT.out w1 hw1; go_simp; first | done | rfl)); go_simp; refine hK _ ?_; clear hK K)
      refine wpF_callF rfl 24 rfl 49 #[.agg #[(sl u0 r.W), (sl u1 r.H), (sl u2 r.L), (slk u3 r.K)], .agg #[(sl v0 s.W), (sl v1 s.H), (sl v2 s.L), (slk v3 s.K)]] (fIs (.bool rr)) rfl (fun w1 => ?_) (fun w1 hC hN => ?_) (fun v1 hv1 => ?_)
      · go_simp
      · have Z := house_at (fact_needP (d := 21) rfl hN (by kernel_rfl) (by repeat (first | exact Or.inr ⟨rfl, rfl⟩ | refine Or.inl ?_)))
        have Z2 := house_at (fact_needP (d := 23) rfl hN (by kernel_rfl) (by repeat (first | exact Or.inr ⟨rfl, rfl⟩ | refine Or.inl ?_)))
        refine (SP.out _ _ _ _ _ _ _ _ w1 (Z.row HL.out) (Z2.row KL.out)).1.mono ?_
        rintro _ w2 ⟨rfl, hb⟩
        exact ⟨_, rfl, hb, rfl⟩
      obtain ⟨w4, rfl⟩ := hv1
      repeat (refine wpF_val rfl monoQ_end (by rintro _ ⟨⟩; rfl) ?_ (fun w1 hw1 => ?_) (fun K hK => ?_); rotate_left; (focus (have hF := FACT.out w1 hw1; go_simp; first | done | rfl)); go_simp; refine hK _ ?_; clear hK K)
      refine wpFacts_nil ?_
      intro w3 hb _
      have Bw := Lib.hid (below_step Bw.out hb)
      have A := Lib.hid (A.out.kept hb)
      have B := Lib.hid (B.out.kept hb)
      have RV := Lib.hid (RV.out.below hb)
      have RY := Lib.hid (RY.out.below hb)
      clear f0 f1 f2 f3 g0 g1 g2 g3
      have f0 := A.out.at 0 rfl; have f1 := A.out.at 1 rfl; have f2 := A.out.at 2 rfl; have f3 := A.out.at 3 rfl; have g0 := B.out.at 0 rfl; have g1 := B.out.at 1 rfl; have g2 := B.out.at 2 rfl; have g3 := B.out.at 3 rfl
      clear hb FACT
      go_wp2_with fail
      refine (toHouse_any a b c d r _ RV.out HL.out).mono ?_
      rintro _ w4 ⟨x0, x1, x2, x3, rfl, hp, V, hb⟩
      have Bw := Lib.hid (below_step Bw.out hb)
      have A := Lib.hid (A.out.kept hb)
      have B := Lib.hid (B.out.kept hb)
      have RV := Lib.hid (RV.out.below hb)
      have RY := Lib.hid (RY.out.below hb)
      have X := Lib.hid (Cells.made w4 [.slice (some ⟨x0, 0, none⟩) r.W.length r.W.length, .slice (some ⟨x1, 0, none⟩) r.H.length r.H.length, .slice (some ⟨x2, 0, none⟩) r.L.length r.L.length, .slice (some ⟨x3, 0, none⟩) r.K.length r.K.length] 70)
      have V := Lib.hid (V.kept (below_al1 w4 (.cells #[.slice (some ⟨x0, 0, none⟩) r.W.length r.W.length, .slice (some ⟨x1, 0, none⟩) r.H.length r.H.length, .slice (some ⟨x2, 0, none⟩) r.L.length r.L.length, .slice (some ⟨x3, 0, none⟩) r.K.length r.K.length] 70)))
      have Bw := Lib.hid (below_step Bw.out (below_al1 w4 (.cells #[.slice (some ⟨x0, 0, none⟩) r.W.length r.W.length, .slice (some ⟨x1, 0, none⟩) r.H.length r.H.length, .slice (some ⟨x2, 0, none⟩) r.L.length r.L.length, .slice (some ⟨x3, 0, none⟩) r.K.length r.K.length] 70)))
      have A := Lib.hid (A.out.al (.cells #[.slice (some ⟨x0, 0, none⟩) r.W.length r.W.length, .slice (some ⟨x1, 0, none⟩) r.H.length r.H.length, .slice (some ⟨x2, 0, none⟩) r.L.length r.L.length, .slice (some ⟨x3, 0, none⟩) r.K.length r.K.length] 70))
      have B := Lib.hid (B.out.al (.cells #[.slice (some ⟨x0, 0, none⟩) r.W.length r.W.length, .slice (some ⟨x1, 0, none⟩) r.H.length r.H.length, .slice (some ⟨x2, 0, none⟩) r.L.length r.L.length, .slice (some ⟨x3, 0, none⟩) r.K.length r.K.length] 70))
      have RV := Lib.hid (RV.out.below (below_al1 w4 (.cells #[.slice (some ⟨x0, 0, none⟩) r.W.length r.W.length, .slice (some ⟨x1, 0, none⟩) r.H.length r.H.length, .slice (some ⟨x2, 0, none⟩) r.L.length r.L.length, .slice (some ⟨x3, 0, none⟩) r.K.length r.K.length] 70)))
      have RY := Lib.hid (RY.out.below (below_al1 w4 (.cells #[.slice (some ⟨x0, 0, none⟩) r.W.length r.W.length, .slice (some ⟨x1, 0, none⟩) r.H.length r.H.length, .slice (some ⟨x2, 0, none⟩) r.L.length r.L.length, .slice (some ⟨x3, 0, none⟩) r.K.length r.K.length] 70)))
      clear hb hp
      clear f0 f1 f2 f3 g0 g1 g2 g3
      have f0 := A.out.at 0 rfl; have f1 := A.out.at 1 rfl; have f2 := A.out.at 2 rfl; have f3 := A.out.at 3 rfl; have g0 := B.out.at 0 rfl; have g1 := B.out.at 1 rfl; have g2 := B.out.at 2 rfl; have g3 := B.out.at 3 rfl
      go_wp2_with fail
      refine (toHouse_any a' b' c' d' s _ RY.out KL.out).mono ?_
      rintro _ w5 ⟨y0, y1, y2, y3, rfl, hp, U, hb⟩
      have Bw := Lib.hid (below_step Bw.out hb)
      have X := Lib.hid (X.out.kept hb)
      have V := Lib.hid (V.out.kept hb)
      have A := Lib.hid (A.out.kept hb)
      have B := Lib.hid (B.out.kept hb)
      have RV := Lib.hid (RV.out.below hb)
      have RY := Lib.hid (RY.out.below hb)
      have Y := Lib.hid (Cells.made w5 [.slice (some ⟨y0, 0, none⟩) s.W.length s.W.length, .slice (some ⟨y1, 0, none⟩) s.H.length s.H.length, .slice (some ⟨y2, 0, none⟩) s.L.length s.L.length, .slice (some ⟨y3, 0, none⟩) s.K.length s.K.length] 70)
      have U := Lib.hid (U.kept (below_al1 w5 (.cells #[.slice (some ⟨y0, 0, none⟩) s.W.length s.W.length, .slice (some ⟨y1, 0, none⟩) s.H.length s.H.length, .slice (some ⟨y2, 0, none⟩) s.L.length s.L.length, .slice (some ⟨y3, 0, none⟩) s.K.length s.K.length] 70)))
      have Bw := Lib.hid (below_step Bw.out (below_al1 w5 (.cells #[.slice (some ⟨y0, 0, none⟩) s.W.length s.W.length, .slice (some ⟨y1, 0, none⟩) s.H.length s.H.length, .slice (some ⟨y2, 0, none⟩) s.L.length s.L.length, .slice (some ⟨y3, 0, none⟩) s.K.length s.K.length] 70)))
      have X := Lib.hid (X.out.kept (below_al1 w5 (.cells #[.slice (some ⟨y0, 0, none⟩) s.W.length s.W.length, .slice (some ⟨y1, 0, none⟩) s.H.length s.H.length, .slice (some ⟨y2, 0, none⟩) s.L.length s.L.length, .slice (some ⟨y3, 0, none⟩) s.K.length s.K.length] 70)))
      have V := Lib.hid (V.out.kept (below_al1 w5 (.cells #[.slice (some ⟨y0, 0, none⟩) s.W.length s.W.length, .slice (some ⟨y1, 0, none⟩) s.H.length s.H.length, .slice (some ⟨y2, 0, none⟩) s.L.length s.L.length, .slice (some ⟨y3, 0, none⟩) s.K.length s.K.length] 70)))
      have A := Lib.hid (A.out.al (.cells #[.slice (some ⟨y0, 0, none⟩) s.W.length s.W.length, .slice (some ⟨y1, 0, none⟩) s.H.length s.H.length, .slice (some ⟨y2, 0, none⟩) s.L.length s.L.length, .slice (some ⟨y3, 0, none⟩) s.K.length s.K.length] 70))
      have B := Lib.hid (B.out.al (.cells #[.slice (some ⟨y0, 0, none⟩) s.W.length s.W.length, .slice (some ⟨y1, 0, none⟩) s.H.length s.H.length, .slice (some ⟨y2, 0, none⟩) s.L.length s.L.length, .slice (some ⟨y3, 0, none⟩) s.K.length s.K.length] 70))
      have RV := Lib.hid (RV.out.below (below_al1 w5 (.cells #[.slice (some ⟨y0, 0, none⟩) s.W.length s.W.length, .slice (some ⟨y1, 0, none⟩) s.H.length s.H.length, .slice (some ⟨y2, 0, none⟩) s.L.length s.L.length, .slice (some ⟨y3, 0, none⟩) s.K.length s.K.length] 70)))
      have RY := Lib.hid (RY.out.below (below_al1 w5 (.cells #[.slice (some ⟨y0, 0, none⟩) s.W.length s.W.length, .slice (some ⟨y1, 0, none⟩) s.H.length s.H.length, .slice (some ⟨y2, 0, none⟩) s.L.length s.L.length, .slice (some ⟨y3, 0, none⟩) s.K.length s.K.length] 70)))
      clear hb hp
      clear f0 f1 f2 f3 g0 g1 g2 g3
      have f0 := A.out.at 0 rfl; have f1 := A.out.at 1 rfl; have f2 := A.out.at 2 rfl; have f3 := A.out.at 3 rfl; have g0 := B.out.at 0 rfl; have g1 := B.out.at 1 rfl; have g2 := B.out.at 2 rfl; have g3 := B.out.at 3 rfl
      have k0 := X.out.at 0 rfl; have k1 := X.out.at 1 rfl; have k2 := X.out.at 2 rfl; have k3 := X.out.at 3 rfl; have l0 := Y.out.at 0 rfl; have l1 := Y.out.at 1 rfl; have l2 := Y.out.at 2 rfl; have l3 := Y.out.at 3 rfl
      go_wp2_with fail
      refine (SP.out _ _ _ _ _ _ _ _ _ (V.out.row HL.out) (U.out.row KL.out)).2.mono ?_
      rintro _ w6 ⟨rfl, hb⟩
      have Bw := Lib.hid (below_step Bw.out hb)
      have A := Lib.hid (A.out.kept hb)
      have B := Lib.hid (B.out.kept hb)
      have X := Lib.hid (X.out.kept hb)
      have V := Lib.hid (V.out.kept hb)
      have Y := Lib.hid (Y.out.kept hb)
      have U := Lib.hid (U.out.kept hb)
      have RV := Lib.hid (RV.out.below hb)
      have RY := Lib.hid (RY.out.below hb)
      clear hb
      clear f0 f1 f2 f3 g0 g1 g2 g3 k0 k1 k2 k3 l0 l1 l2 l3
      generalize w4.heap.size = h1 at *
      generalize w5.heap.size = h2 at *
      go_wp2
      have FACT := Lib.hid (fun w1 (hw : Ext (w6) w1) => And.intro (hw.cell (A.out.at 0 rfl)) (And.intro (hw.cell (A.out.at 1 rfl)) (And.intro (hw.cell (A.out.at 2 rfl)) (And.intro (hw.cell (A.out.at 3 rfl)) (And.intro (hw.cell (X.out.at 0 rfl)) (And.intro (hw.cell (X.out.at 1 rfl)) (And.intro (hw.cell (X.out.at 2 rfl)) (hw.cell (X.out.at 3 rfl)))))))))
      refine wp_region_facts (Ext (w6)) (TS [(37, (fHsAt r)), (38, fIs (.bool true))]) (Pers.ext _) (TS.pers _) (Ext.start _) (by kernel_rfl) (by kernel_rfl) (by intro d v c a w h; cases d <;> exact h) ?_
      repeat (refine wpF_val rfl monoQ_end (by rintro _ ⟨⟩; rfl) ?_ (fun w1 hw1 => ?_) (fun K hK => ?_); rotate_left; (focus (have hF := FACT.out w1 hw1; go_simp; first | done | rfl)); go_simp; refine hK _ ?_; clear hK K)
      refine wpF_callF rfl 37 rfl 50 #[.agg #[a, b, c, d]] (fHsAt r) rfl (fun w1 => ?_) (fun w1 hC hN => ?_) (fun v1 hv1 => ?_)
      · go_simp
      · refine (toHouse_any a b c d r w1 (RV.out.below hC) HL.out).mono ?_
        rintro _ w2 ⟨q0, q1, q2, q3, rfl, hp, Z, hb⟩
        exact ⟨_, rfl, hb, q0, q1, q2, q3, rfl, Z⟩
      obtain ⟨w2, z0, z1, z2, z3, rfl, _⟩ := hv1
      unfold hagV
      repeat (refine wpF_val rfl monoQ_end (by rintro _ ⟨⟩; rfl) ?_ (fun w1 hw1 => ?_) (fun K hK => ?_); rotate_left; (focus (have hF := FACT.out w1 hw1; go_simp; first | done | rfl)); go_simp; refine hK _ ?_; clear hK K)
      refine wpF_callF rfl 38 rfl 52 #[.agg #[(sl x0 r.W), (sl x1 r.H), (sl x2 r.L), (slk x3 r.K)], .agg #[(sl z0 r.W), (sl z1 r.H), (sl z2 r.L), (slk z3 r.K)]] (fIs (.bool true)) rfl (fun w1 => ?_) (fun w1 hC hN => ?_) (fun v1 hv1 => ?_)
      · go_simp
      · have Z := house_at (fact_needP (d := 37) rfl hN (by kernel_rfl) (by repeat (first | exact Or.inr ⟨rfl, rfl⟩ | refine Or.inl ?_)))
        refine (eqHouse_any _ _ _ _ _ _ _ _ r w1 ((V.out.kept hC).row HL.out) (Z.row HL.out)).mono ?_
        rintro _ w2 ⟨rfl, hb⟩
        exact ⟨_, rfl, hb, rfl⟩
      obtain ⟨w2, rfl⟩ := hv1
      repeat (refine wpF_val rfl monoQ_end (by rintro _ ⟨⟩; rfl) ?_ (fun w1 hw1 => ?_) (fun K hK => ?_); rotate_left; (focus (have hF := FACT.out w1 hw1; go_simp; first | done | rfl)); go_simp; refine hK _ ?_; clear hK K)
      refine wpFacts_nil ?_
      intro w7 hb _
      have Bw := Lib.hid (below_step Bw.out hb)
      have B := Lib.hid (B.out.kept hb)
      have Y := Lib.hid (Y.out.kept hb)
      have U := Lib.hid (U.out.kept hb)
      have RY := Lib.hid (RY.out.below hb)
      clear hb FACT A X V
      go_wp2
      have FACT := Lib.hid (fun w1 (hw : Ext (w7) w1) => And.intro (hw.cell (B.out.at 0 rfl)) (And.intro (hw.cell (B.out.at 1 rfl)) (And.intro (hw.cell (B.out.at 2 rfl)) (And.intro (hw.cell (B.out.at 3 rfl)) (And.intro (hw.cell (Y.out.at 0 rfl)) (And.intro (hw.cell (Y.out.at 1 rfl)) (And.intro (hw.cell (Y.out.at 2 rfl)) (hw.cell (Y.out.at 3 rfl)))))))))
      refine wp_region_facts (Ext (w7)) (TS [(42, (fHsAt s)), (43, fIs (.bool true))]) (Pers.ext _) (TS.pers _) (Ext.start _) (by kernel_rfl) (by kernel_rfl) (by intro d v c a w h; cases d <;> exact h) ?_
      repeat (refine wpF_val rfl monoQ_end (by rintro _ ⟨⟩; rfl) ?_ (fun w1 hw1 => ?_) (fun K hK => ?_); rotate_left; (focus (have hF := FACT.out w1 hw1; go_simp; first | done | rfl)); go_simp; refine hK _ ?_; clear hK K)
      refine wpF_callF rfl 42 rfl 50 #[.agg #[a', b', c', d']] (fHsAt s) rfl (fun w1 => ?_) (fun w1 hC hN => ?_) (fun v1 hv1 => ?_)
      · go_simp
      · refine (toHouse_any a' b' c' d' s w1 (RY.out.below hC) KL.out).mono ?_
        rintro _ w2 ⟨q0, q1, q2, q3, rfl, hp, Z, hb⟩
        exact ⟨_, rfl, hb, q0, q1, q2, q3, rfl, Z⟩
      obtain ⟨w2, t0, t1, t2, t3, rfl, _⟩ := hv1
      unfold hagV
      repeat (refine wpF_val rfl monoQ_end (by rintro _ ⟨⟩; rfl) ?_ (fun w1 hw1 => ?_) (fun K hK => ?_); rotate_left; (focus (have hF := FACT.out w1 hw1; go_simp; first | done | rfl)); go_simp; refine hK _ ?_; clear hK K)
      refine wpF_callF rfl 43 rfl 52 #[.agg #[(sl y0 s.W), (sl y1 s.H), (sl y2 s.L), (slk y3 s.K)], .agg #[(sl t0 s.W), (sl t1 s.H), (sl t2 s.L), (slk t3 s.K)]] (fIs (.bool true)) rfl (fun w1 => ?_) (fun w1 hC hN => ?_) (fun v1 hv1 => ?_)
      · go_simp
      · have Z := house_at (fact_needP (d := 42) rfl hN (by kernel_rfl) (by repeat (first | exact Or.inr ⟨rfl, rfl⟩ | refine Or.inl ?_)))
        refine (eqHouse_any _ _ _ _ _ _ _ _ s w1 ((U.out.kept hC).row KL.out) (Z.row KL.out)).mono ?_
        rintro _ w2 ⟨rfl, hb⟩
        exact ⟨_, rfl, hb, rfl⟩
      obtain ⟨w2, rfl⟩ := hv1
      repeat (refine wpF_val rfl monoQ_end (by rintro _ ⟨⟩; rfl) ?_ (fun w1 hw1 => ?_) (fun K hK => ?_); rotate_left; (focus (have hF := FACT.out w1 hw1; go_simp; first | done | rfl)); go_simp; refine hK _ ?_; clear hK K)
      refine wpFacts_nil ?_
      intro w8 hb _
      have Bw := Lib.hid (below_step Bw.out hb)
      clear hb FACT
      go_wp2
      go_ret
      exact Tru.below Bw.out
end Go.Proofs.Ytlhjmkdfemejmaa
