/- What flows into a cell of a plate: both tops, and the law. -/
import Derived.Test.YtcjhaeiknenajaaHas
namespace Go.Proofs.Ytcjhaeiknenajaa
open Go.RowKit
set_option linter.unusedVariables false

def fV (r : PL) (k : Nat) : Nat := inS r r.X.toNat (r.X.toNat * (r.Y.toNat - 1)) k 4
theorem specFlowV_any (r : PL) (n k : Nat) (a b c d : Value) (p : Nat) (w : World) (A : Cells w p (pvs r a b c d)) (h : PRow w a b c d r) (hl : PlN r n) (hk : k < n) : Calls Try.prog 74 #[.pointer (some ⟨p, 0, none⟩), .int .i64 (k : Int)] w (GivB (ifF (fV r k)) (fin .f32 (fV r k)) w) :=
  specInto_any _ _ _ n k a b c d r p w A h hl (Sd.std hl) rfl hk
theorem implFlowV_any (r : PL) (n k : Nat) (a b c d : Value) (w : World) (h : PRow w a b c d r) (hl : PlN r n) (hk : k < n) : Calls Try.prog 75 #[.agg #[.int .i64 r.X, .int .i64 r.Y, a, b, c, d], .int .i64 (k : Int)] w (FlP (fV r k) w) :=
  flowInto_any _ _ _ n k a b c d r w h hl (Sd.std hl) rfl hk

theorem specFlow_any (a b c d : Value) (r : PL) (i : Int) (w : World) (h : PRow w a b c d r) : Calls Try.prog 25 #[.agg #[.int .i64 r.X, .int .i64 r.Y, a, b, c, d], .int .i64 i] w (GivB (cS (okC r i) (fV r i.toNat)) (cB (okC r i) (fV r i.toNat)) w) := by
  have A := Lib.hid (Cells.made w (pvs r a b c d) 28)
  have R := Lib.hid (h.below (below_al1 w (.cells (pvs r a b c d).toArray 28)))
  have HA := Lib.hid (specHas_any r i a b c d _ _ A.out R.out)
  clear h
  cases hv : okC r i
  · have E0 := Lib.hid (fun w' hb => cGiv_no (V := fV r i.toNat) (w := w) (w' := w') hv hb)
    rw [hv] at HA E0
    go_enter Try.func25, Try.ntmps25
    go_wp2_with fail
    refine HA.out.mono ?_
    rintro e w' ⟨rfl, n1, rfl⟩
    go_wp2
    go_ret2
    exact E0.out _ (below_drewN (below_al1 _ _) _)
  · obtain ⟨v1, v2, v3⟩ := okC_nat hv
    have IN := Lib.hid (fun q => specFlowV_any r _ i.toNat a b c d _ _ (A.out.drewN (n := q)) (R.out.below (below_drewN (Below.refl _ _) q)) (PlN.ofV v1) v3)
    rw [← v2] at IN
    rw [hv] at HA
    clear v1 v2 v3 R hv
    unfold cS cB
    simp only [cond_true, Bool.true_and]
    generalize fV r i.toNat = V at *
    go_enter Try.func25, Try.ntmps25
    go_wp2_with fail
    refine HA.out.mono ?_
    rintro e w' ⟨rfl, n1, rfl⟩
    go_wp2_with fail
    refine (IN.out _).mono ?_
    rintro e w' ⟨s, hs, rfl, hb⟩
    go_wp2
    go_ret2
    exact ⟨s, hs, rfl, below_step (below_drewN (below_al1 _ _) _) hb⟩

theorem implFlow_any (a b c d : Value) (r : PL) (i : Int) (w : World) (h : PRow w a b c d r) : Calls Try.prog 26 #[.agg #[.int .i64 r.X, .int .i64 r.Y, a, b, c, d], .int .i64 i] w (GivB (cS (okC r i) (fV r i.toNat)) (cB (okC r i) (fV r i.toNat)) w) := by
  have A := Lib.hid (Cells.made w (pvs r a b c d) 28)
  have Bw := Lib.hid (below_al1 w (.cells (pvs r a b c d).toArray 28))
  have R := Lib.hid (fun w1 (hb : Below w.heap.size w w1) => h.below hb)
  have IV := Lib.hid (implPl_any a b c d r _ (h.below (below_al1 w (.cells (pvs r a b c d).toArray 28))))
  clear h
  cases hp : vPl r
  · have ho : okC r i = false := by unfold okC; rw [hp]; rfl
    have E0 := Lib.hid (fun w' hb => cGiv_no (V := fV r i.toNat) (w := w) (w' := w') ho hb)
    rw [hp] at IV
    clear hp
    go_enter Try.func26, Try.ntmps26
    go_wp2_with fail
    refine IV.out.mono ?_
    rintro e w1 ⟨rfl, hb⟩
    go_wp2
    go_ret2
    exact E0.out _ (below_step Bw.out hb)
  · have NN := Lib.hid (PlN.ofV hp)
    rw [hp] at IV
    cases hi : (decide (0 ≤ i) && decide (i < (r.W.length : Int)))
    · have ho : okC r i = false := by unfold okC; rw [hp, hi]; rfl
      have E0 := Lib.hid (fun w' hb => cGiv_no (V := fV r i.toNat) (w := w) (w' := w') ho hb)
      clear hp
      go_enter Try.func26, Try.ntmps26
      go_wp2_with fail
      refine IV.out.mono ?_
      rintro e w1 ⟨rfl, hb⟩
      have Bw := Lib.hid (below_step Bw.out hb); have A := Lib.hid (A.out.kept hb); have c0 := A.out.at 0 rfl; have c1 := A.out.at 1 rfl; have c2 := A.out.at 2 rfl; have c3 := A.out.at 3 rfl; have c4 := A.out.at 4 rfl; have c5 := A.out.at 5 rfl; clear hb
      go_wp2_with fail
      refine (isCell_any r _ _ _ _ _ i _ NN.out).mono ?_
      rw [hi]
      rintro e w2 ⟨rfl, hb⟩
      go_wp2
      go_ret2
      exact E0.out _ (below_step Bw.out hb)
    · have ho : okC r i = true := by unfold okC; rw [hp, hi]; rfl
      have E1 := Lib.hid (fun x w' hx hb => cGiv_yes (V := fV r i.toNat) (x := x) (w := w) (w' := w') ho hx hb)
      obtain ⟨_, v2, v3⟩ := okC_nat ho
      have IN := Lib.hid (fun w1 hb => implFlowV_any r _ i.toNat a b c d w1 (R.out w1 hb) NN.out v3)
      rw [← v2] at IN
      clear hp ho v2 v3
      generalize fV r i.toNat = V at *
      go_enter Try.func26, Try.ntmps26
      go_wp2_with fail
      refine IV.out.mono ?_
      rintro e w1 ⟨rfl, hb⟩
      have Bw := Lib.hid (below_step Bw.out hb); have A := Lib.hid (A.out.kept hb); have c0 := A.out.at 0 rfl; have c1 := A.out.at 1 rfl; have c2 := A.out.at 2 rfl; have c3 := A.out.at 3 rfl; have c4 := A.out.at 4 rfl; have c5 := A.out.at 5 rfl; clear hb
      go_wp2_with fail
      refine (isCell_any r _ _ _ _ _ i _ NN.out).mono ?_
      rw [hi]
      rintro e w2 ⟨rfl, hb⟩
      clear c0 c1 c2 c3 c4 c5
      have Bw := Lib.hid (below_step Bw.out hb); have A := Lib.hid (A.out.kept hb); have c0 := A.out.at 0 rfl; have c1 := A.out.at 1 rfl; have c2 := A.out.at 2 rfl; have c3 := A.out.at 3 rfl; have c4 := A.out.at 4 rfl; have c5 := A.out.at 5 rfl; clear hb
      go_wp2_with fail
      refine (IN.out _ Bw.out).mono ?_
      rintro e w3 ⟨s, hs, rfl, hb⟩
      have HS := Lib.hid hs
      have Bw := Lib.hid (below_step Bw.out hb)
      clear hs hb
      go_wp2_with (first | (go_at_call 72; refine (implNum_any _ _).mono ?_; rintro e w' ⟨rfl, n3, rfl⟩))
      go_ret2
      exact E1.out _ _ HS.out (by first | exact below_drewN Bw.out _ | exact Bw.out)

set_option maxRecDepth 10000 in
set_option maxHeartbeats 1600000 in
theorem fnExactFlowInto_walk (r : PL) (a b c d : Value) (i : Int) (w : World) (h : PRow w a b c d r) (hf : PWf r) (_ : (Lit.int .i64 i).wf = true) :
    Calls Try.prog 6 #[.agg #[.int .i64 r.X, .int .i64 r.Y, a, b, c, d], .int .i64 i] w (Tru w) := by
  have R := Lib.hid (fun w1 (hb : Below w.heap.size w w1) => h.below hb)
  have PW := Lib.hid hf
  clear h hf
  have A := Lib.hid (Cells.made w (pvs r a b c d) 25)
  have Bw := Lib.hid (below_al1 w (.cells (pvs r a b c d).toArray 25))
  by_cases hl : r.size ≤ 1048576
  · have HL := Lib.hid hl
    clear hl
    go_enter Try.func6, Try.ntmps6
    go_wp2_with fail
    refine (szPlate_fit a b c d r 1048576 _ (R.out _ Bw.out) HL.out (Nat.le_refl _)).mono ?_
    rintro _ w1 ⟨rfl, hb⟩
    have Bw := Lib.hid (below_step Bw.out hb); have A := Lib.hid (A.out.kept hb); have c0 := A.out.at 0 rfl; have c1 := A.out.at 1 rfl; have c2 := A.out.at 2 rfl; have c3 := A.out.at 3 rfl; have c4 := A.out.at 4 rfl; have c5 := A.out.at 5 rfl; clear hb
    go_wp2_with fail
    refine (toPlate_any a b c d r _ (R.out _ Bw.out) HL.out).mono ?_
    rintro _ w2 ⟨p0, p1, p2, p3, rfl, hp, V, hb⟩
    clear c0 c1 c2 c3 c4 c5
    have Bw := Lib.hid (below_step Bw.out hb); have A := Lib.hid (A.out.kept hb); have c0 := A.out.at 0 rfl; have c1 := A.out.at 1 rfl; have c2 := A.out.at 2 rfl; have c3 := A.out.at 3 rfl; have c4 := A.out.at 4 rfl; have c5 := A.out.at 5 rfl; have V := Lib.hid V; clear hb hp
    go_wp2_with fail
    refine (specFlow_any _ _ _ _ r i _ (V.out.row HL.out)).mono ?_
    rintro _ w3 ⟨f1, hf1, rfl, hb⟩
    have F1 := Lib.hid hf1
    clear hf1
    clear c0 c1 c2 c3 c4 c5
    have Bw := Lib.hid (below_step Bw.out hb); have A := Lib.hid (A.out.kept hb); have c0 := A.out.at 0 rfl; have c1 := A.out.at 1 rfl; have c2 := A.out.at 2 rfl; have c3 := A.out.at 3 rfl; have c4 := A.out.at 4 rfl; have c5 := A.out.at 5 rfl; clear hb V
    go_wp2_with fail
    refine (toPlate_any a b c d r _ (R.out _ Bw.out) HL.out).mono ?_
    rintro _ w4 ⟨x0, x1, x2, x3, rfl, hp, V, hb⟩
    clear c0 c1 c2 c3 c4 c5
    have Bw := Lib.hid (below_step Bw.out hb); have A := Lib.hid (A.out.kept hb); have c0 := A.out.at 0 rfl; have c1 := A.out.at 1 rfl; have c2 := A.out.at 2 rfl; have c3 := A.out.at 3 rfl; have c4 := A.out.at 4 rfl; have c5 := A.out.at 5 rfl; have V := Lib.hid V; clear hb hp
    have X := Lib.hid (Cells.made w4 (pvs r (sl x0 r.W) (sl x1 r.E) (sl x2 r.G) (slb x3 r.H)) 28)
    have V := Lib.hid (V.out.kept (below_al1 w4 (.cells (pvs r (sl x0 r.W) (sl x1 r.E) (sl x2 r.G) (slb x3 r.H)).toArray 28)))
    have A := Lib.hid (A.out.kept (below_al1 w4 (.cells (pvs r (sl x0 r.W) (sl x1 r.E) (sl x2 r.G) (slb x3 r.H)).toArray 28)))
    have Bw := Lib.hid (below_step Bw.out (below_al1 w4 (.cells (pvs r (sl x0 r.W) (sl x1 r.E) (sl x2 r.G) (slb x3 r.H)).toArray 28)))
    go_wp2_with fail
    refine (implFlow_any _ _ _ _ r i _ (V.out.row HL.out)).mono ?_
    rintro _ w5 ⟨f2, hf2, rfl, hb⟩
    have F2 := Lib.hid (hf2.trans F1.out.symm)
    clear hf2
    clear c0 c1 c2 c3 c4 c5
    have Bw := Lib.hid (below_step Bw.out hb); have A := Lib.hid (A.out.kept hb); have X := Lib.hid (X.out.kept hb); have V := Lib.hid (V.out.kept hb); have c0 := A.out.at 0 rfl; have c1 := A.out.at 1 rfl; have c2 := A.out.at 2 rfl; have c3 := A.out.at 3 rfl; have c4 := A.out.at 4 rfl; have c5 := A.out.at 5 rfl; clear hb
    have d0 := X.out.at 0 rfl; have d1 := X.out.at 1 rfl; have d2 := X.out.at 2 rfl; have d3 := X.out.at 3 rfl; have d4 := X.out.at 4 rfl; have d5 := X.out.at 5 rfl
    go_wp2_with (first | (refine wpList_up rfl Try.underlying33 Try.underlying37 _ rfl _ rfl ?_; intro _ _ _) | (go_at_call 24; refine (same_end (a := f2) (b := f1) _ (by assumption) (by assumption) F2.out).mono ?_; rintro e w' ⟨rfl, m, rfl⟩))
    generalize w4.heap.size = q at *
    go_region_held3 (fun w' => w'.cell? ⟨w.heap.size, 0, none⟩ = some (.int .i64 r.X) ∧ w'.cell? ⟨w.heap.size, 1, none⟩ = some (.int .i64 r.Y) ∧ w'.cell? ⟨w.heap.size, 2, none⟩ = some (a) ∧ w'.cell? ⟨w.heap.size, 3, none⟩ = some (b) ∧ w'.cell? ⟨w.heap.size, 4, none⟩ = some (c) ∧ w'.cell? ⟨w.heap.size, 5, none⟩ = some (d) ∧ w'.cell? ⟨q, 0, none⟩ = some (.int .i64 r.X) ∧ w'.cell? ⟨q, 1, none⟩ = some (.int .i64 r.Y) ∧ w'.cell? ⟨q, 2, none⟩ = some (sl x0 r.W) ∧ w'.cell? ⟨q, 3, none⟩ = some (sl x1 r.E) ∧ w'.cell? ⟨q, 4, none⟩ = some (sl x2 r.G) ∧ w'.cell? ⟨q, 5, none⟩ = some (slb x3 r.H)) (exact ⟨c0, c1, c2, c3, c4, c5, d0, d1, d2, d3, d4, d5⟩)
      (first
      | (go_at_call 17; refine (toPlate_any a b c d r _ (R.out _ (below_drewN Bw.out _)) HL.out).mono ?_; rintro _ w6 ⟨y0, y1, y2, y3, rfl, hp, Z, hb⟩; have Bw := Lib.hid (below_step Bw.out (below_undrew hb)); have A := Lib.hid (A.out.kept (below_undrew hb)); have X := Lib.hid (X.out.kept (below_undrew hb)); have V := Lib.hid (V.out.kept (below_undrew hb)); have Z := Lib.hid Z; clear hp hb; have c0 := A.out.at 0 rfl; have c1 := A.out.at 1 rfl; have c2 := A.out.at 2 rfl; have c3 := A.out.at 3 rfl; have c4 := A.out.at 4 rfl; have c5 := A.out.at 5 rfl; have d0 := X.out.at 0 rfl; have d1 := X.out.at 1 rfl; have d2 := X.out.at 2 rfl; have d3 := X.out.at 3 rfl; have d4 := X.out.at 4 rfl; have d5 := X.out.at 5 rfl)
      | (go_at_call 19; refine (eqPlate_any _ _ _ _ _ _ _ _ r _ (V.out.row HL.out) (Z.out.row HL.out)).mono ?_; rintro _ w7 ⟨rfl, hb⟩; have Bw := Lib.hid (below_step Bw.out hb); have A := Lib.hid (A.out.kept hb); have X := Lib.hid (X.out.kept hb); clear hb; have c0 := A.out.at 0 rfl; have c1 := A.out.at 1 rfl; have c2 := A.out.at 2 rfl; have c3 := A.out.at 3 rfl; have c4 := A.out.at 4 rfl; have c5 := A.out.at 5 rfl; have d0 := X.out.at 0 rfl; have d1 := X.out.at 1 rfl; have d2 := X.out.at 2 rfl; have d3 := X.out.at 3 rfl; have d4 := X.out.at 4 rfl; have d5 := X.out.at 5 rfl))
    all_goals
      go_wp2
      go_ret
      exact Tru.below Bw.out
  · have HL := Lib.hid (Nat.lt_of_not_le hl)
    clear hl
    go_enter Try.func6, Try.ntmps6
    go_wp2_with fail
    refine (szPlate_over a b c d r 1048576 _ (R.out _ Bw.out) HL.out (Nat.le_refl _)).mono ?_
    rintro _ w1 ⟨rfl, hb⟩
    have Bw := Lib.hid (below_step Bw.out hb); have A := Lib.hid (A.out.kept hb); have c0 := A.out.at 0 rfl; have c1 := A.out.at 1 rfl; have c2 := A.out.at 2 rfl; have c3 := A.out.at 3 rfl; have c4 := A.out.at 4 rfl; have c5 := A.out.at 5 rfl; clear hb
    go_wp2
    go_ret
    exact Tru.below Bw.out


end Go.Proofs.Ytcjhaeiknenajaa
