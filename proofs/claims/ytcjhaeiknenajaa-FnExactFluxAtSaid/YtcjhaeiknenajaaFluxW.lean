/- The law FnExactFluxAt, walked. -/
import Derived.Test.YtcjhaeiknenajaaFluxT
import Derived.Test.YtcjhaeiknenajaaOpenP
import Derived.Deep.RegionHeld3
namespace Go.Proofs.Ytcjhaeiknenajaa
open Go.RowKit
set_option linter.unusedVariables false

theorem run_upC {P : Program} {S D : TypeId} (hs : P.underlying S = some (.complex .f32)) (hd : P.underlying D = some (.complex .f64)) {S' D' : TypeId} (hs' : P.underlying S' = some (.float .f32)) (hd' : P.underlying D' = some (.float .f64)) (m n : Nat) (w : World) :
    ∃ r s j, UR m r ∧ UR n s ∧ (convert S D (.complex .f32 m n)).run P w = .ok (.complex .f64 r s) (w.drewN j) := by
  obtain ⟨r, j, hr, h1⟩ := run_up hs' hd' m w
  obtain ⟨s, q, hq, h2⟩ := run_up hs' hd' n (w.drewN j)
  simp only [convert, Sem.run_bind, run_underlying hs', run_underlying hd', Result.andThen_ok] at h1 h2
  refine ⟨r, s, j + q, hr, hq, ?_⟩
  simp only [convert, Sem.run_bind, run_underlying hs, run_underlying hd, Result.andThen_ok, Conv.complexToComplex, h1, h2, Sem.run_pure, World.drewN_drewN]
theorem wpList_upC {P : Program} {ops : Array Oper} {Q : Exit → Act → World → Prop} {rest : List Oper} {o : Oper} {a : Act} {w : World} (hgd : o.guard = none) {S D : TypeId} (hs : P.underlying S = some (.complex .f32)) (hd : P.underlying D = some (.complex .f64)) {S' D' : TypeId} (hs' : P.underlying S' = some (.float .f32)) (hd' : P.underlying D' = some (.float .f64)) (x : Operand) (ho : o.op = .convert S D x) (m n : Nat)
    (hx : a.eval x = .complex .f32 m n) (h : ∀ r s j, UR m r → UR n s → wpList P ops Q rest (a.put o.dst (.complex .f64 r s)) (w.drewN j)) : wpList P ops Q (o :: rest) a w :=
  wpList_plain hgd fun _ hK => by
    obtain ⟨r, s, j, hr, hq, hw⟩ := run_upC hs hd hs' hd' m n w
    unfold Oper.wp execOp
    simp only [ho, hx, Sem.run_bind, Sem.run_pure, Result.andThen_ok, hw]
    exact hK _ _ (h r s j hr hq)
theorem sameC_any (p q r s a b c d : Nat) (w : World) (h1 : UR a p) (h2 : UR b q) (h3 : UR c r) (h4 : UR d s) (e1 : cn .f32 a = cn .f32 c) (e2 : cn .f32 b = cn .f32 d) : Calls Try.prog 39 #[.complex .f64 p q, .complex .f64 r s] w (Yes w) := by
  go_enter Try.func39, Try.ntmps39
  go_wp2_with fail
  refine (same_end _ h1 h3 e1).mono ?_
  rintro e w' ⟨rfl, m, rfl⟩
  go_wp2_with fail
  refine (same_end _ h2 h4 e2).mono ?_
  rintro e w' ⟨rfl, m2, rfl⟩
  go_wp2
  go_ret
  exact ⟨rfl, _, by first | rfl | rw [World.drewN_drewN]⟩

set_option maxRecDepth 10000 in
set_option maxHeartbeats 1600000 in
theorem fnExactFluxAt_walk (r : PL) (a b c d : Value) (i : Int) (w : World) (h : PRow w a b c d r) (hf : PWf r) (_ : (Lit.int .i64 i).wf = true) :
    Calls Try.prog 12 #[.agg #[.int .i64 r.X, .int .i64 r.Y, a, b, c, d], .int .i64 i] w (Tru w) := by
  have R := Lib.hid (fun w1 (hb : Below w.heap.size w w1) => h.below hb)
  have PW := Lib.hid hf
  clear h hf
  have A := Lib.hid (Cells.made w (pvs r a b c d) 25)
  have Bw := Lib.hid (below_al1 w (.cells (pvs r a b c d).toArray 25))
  by_cases hl : r.size ≤ 1048576
  · have HL := Lib.hid hl
    clear hl
    go_enter Try.func12, Try.ntmps12
    go_wp2_with fail
    refine (szPlate_fit a b c d r 1048576 _ (R.out _ Bw.out) HL.out (Nat.le_refl _)).mono ?_
    rintro _ w1 ⟨rfl, hb⟩
    have Bw := Lib.hid (below_step Bw.out hb); have A := Lib.hid (A.out.kept hb); have c0 := A.out.at 0 rfl; have c1 := A.out.at 1 rfl; have c2 := A.out.at 2 rfl; have c3 := A.out.at 3 rfl; have c4 := A.out.at 4 rfl; have c5 := A.out.at 5 rfl; clear hb
    go_wp2_with fail
    refine (toPlate_any a b c d r _ (R.out _ Bw.out) HL.out).mono ?_
    rintro _ w2 ⟨p0, p1, p2, p3, rfl, hp, V, hb⟩
    clear c0 c1 c2 c3 c4 c5
    have Bw := Lib.hid (below_step Bw.out hb); have A := Lib.hid (A.out.kept hb); have c0 := A.out.at 0 rfl; have c1 := A.out.at 1 rfl; have c2 := A.out.at 2 rfl; have c3 := A.out.at 3 rfl; have c4 := A.out.at 4 rfl; have c5 := A.out.at 5 rfl; have V := Lib.hid V; clear hb hp
    go_wp2_with fail
    refine (specFlux_any _ _ _ _ r i _ (V.out.row HL.out)).mono ?_
    rintro _ w3 ⟨f1, g1, hf1, hg1, rfl, hb⟩
    have F1 := Lib.hid (And.intro hf1 hg1)
    clear hf1 hg1
    clear c0 c1 c2 c3 c4 c5
    have Bw := Lib.hid (below_step Bw.out hb); have A := Lib.hid (A.out.kept hb); have c0 := A.out.at 0 rfl; have c1 := A.out.at 1 rfl; have c2 := A.out.at 2 rfl; have c3 := A.out.at 3 rfl; have c4 := A.out.at 4 rfl; have c5 := A.out.at 5 rfl; clear hb V
    go_wp2_with fail
    refine (toPlate_any a b c d r _ (R.out _ Bw.out) HL.out).mono ?_
    rintro _ w4 ⟨x0, x1, x2, x3, rfl, hp, V, hb⟩
    clear c0 c1 c2 c3 c4 c5
    have Bw := Lib.hid (below_step Bw.out hb); have A := Lib.hid (A.out.kept hb); have c0 := A.out.at 0 rfl; have c1 := A.out.at 1 rfl; have c2 := A.out.at 2 rfl; have c3 := A.out.at 3 rfl; have c4 := A.out.at 4 rfl; have c5 := A.out.at 5 rfl; have V := Lib.hid V; clear hb hp
    have X := Lib.hid (Cells.made w4 (pvs r (sl x0 r.W) (sl x1 r.E) (sl x2 r.G) (slb x3 r.H)) 28)
    have V := Lib.hid (V.out.kept (below_al1 w4 (.cells (pvs r (sl x0 r.W) (sl x1 r.E) (sl x2 r.G) (slb x3 r.H)).toArray 28)))
    have A := Lib.hid (A.out.kept (below_al1 w4 (.cells (pvs r (sl x0 r.W) (sl x1 r.E) (sl x2 r.G) (slb x3 r.H)).toArray 28)))
    have Bw := Lib.hid (below_step Bw.out (below_al1 w4 (.cells (pvs r (sl x0 r.W) (sl x1 r.E) (sl x2 r.G) (slb x3 r.H)).toArray 28)))
    go_wp2_with fail
    refine (implFlux_any _ _ _ _ r i _ (V.out.row HL.out)).mono ?_
    rintro _ w5 ⟨f2, g2, hf2, hg2, rfl, hb⟩
    have F2 := Lib.hid (And.intro (hf2.trans F1.out.1.symm) (hg2.trans F1.out.2.symm))
    clear hf2 hg2
    clear c0 c1 c2 c3 c4 c5
    have Bw := Lib.hid (below_step Bw.out hb); have A := Lib.hid (A.out.kept hb); have X := Lib.hid (X.out.kept hb); have V := Lib.hid (V.out.kept hb); have c0 := A.out.at 0 rfl; have c1 := A.out.at 1 rfl; have c2 := A.out.at 2 rfl; have c3 := A.out.at 3 rfl; have c4 := A.out.at 4 rfl; have c5 := A.out.at 5 rfl; clear hb
    have d0 := X.out.at 0 rfl; have d1 := X.out.at 1 rfl; have d2 := X.out.at 2 rfl; have d3 := X.out.at 3 rfl; have d4 := X.out.at 4 rfl; have d5 := X.out.at 5 rfl
    go_wp2_with (first | (refine wpList_upC rfl Try.underlying44 Try.underlying48 Try.underlying33 Try.underlying37 _ rfl _ _ rfl ?_; intro _ _ _ _ _) | (go_at_call 39; refine (sameC_any _ _ _ _ f2 g2 f1 g1 _ (by assumption) (by assumption) (by assumption) (by assumption) F2.out.1 F2.out.2).mono ?_; rintro e w' ⟨rfl, m, rfl⟩))
    generalize w4.heap.size = q at *
    go_region_held3 (fun w' => w'.cell? ⟨w.heap.size, 0, none⟩ = some (.int .i64 r.X) ∧ w'.cell? ⟨w.heap.size, 1, none⟩ = some (.int .i64 r.Y) ∧ w'.cell? ⟨w.heap.size, 2, none⟩ = some (a) ∧ w'.cell? ⟨w.heap.size, 3, none⟩ = some (b) ∧ w'.cell? ⟨w.heap.size, 4, none⟩ = some (c) ∧ w'.cell? ⟨w.heap.size, 5, none⟩ = some (d) ∧ w'.cell? ⟨q, 0, none⟩ = some (.int .i64 r.X) ∧ w'.cell? ⟨q, 1, none⟩ = some (.int .i64 r.Y) ∧ w'.cell? ⟨q, 2, none⟩ = some (sl x0 r.W) ∧ w'.cell? ⟨q, 3, none⟩ = some (sl x1 r.E) ∧ w'.cell? ⟨q, 4, none⟩ = some (sl x2 r.G) ∧ w'.cell? ⟨q, 5, none⟩ = some (slb x3 r.H)) (exact ⟨c0, c1, c2, c3, c4, c5, d0, d1, d2, d3, d4, d5⟩)
      (first
      | (go_at_call 17; refine (toPlate_any a b c d r _ (R.out _ (below_drewN Bw.out _)) HL.out).mono ?_; rintro _ w6 ⟨y0, y1, y2, y3, rfl, hp, Z, hb⟩; have Bw := Lib.hid (below_step Bw.out (below_undrew hb)); have A := Lib.hid (A.out.kept (below_undrew hb)); have X := Lib.hid (X.out.kept (below_undrew hb)); have V := Lib.hid (V.out.kept (below_undrew hb)); have Z := Lib.hid Z; clear hp hb; have c0 := A.out.at 0 rfl; have c1 := A.out.at 1 rfl; have c2 := A.out.at 2 rfl; have c3 := A.out.at 3 rfl; have c4 := A.out.at 4 rfl; have c5 := A.out.at 5 rfl; have d0 := X.out.at 0 rfl; have d1 := X.out.at 1 rfl; have d2 := X.out.at 2 rfl; have d3 := X.out.at 3 rfl; have d4 := X.out.at 4 rfl; have d5 := X.out.at 5 rfl)
      | (go_at_call 19; refine (eqPlate_any _ _ _ _ _ _ _ _ r _ (V.out.row HL.out) (Z.out.row HL.out)).mono ?_; rintro _ w7 ⟨rfl, hb⟩; have Bw := Lib.hid (below_step Bw.out hb); have A := Lib.hid (A.out.kept hb); have X := Lib.hid (X.out.kept hb); clear hb; have c0 := A.out.at 0 rfl; have c1 := A.out.at 1 rfl; have c2 := A.out.at 2 rfl; have c3 := A.out.at 3 rfl; have c4 := A.out.at 4 rfl; have c5 := A.out.at 5 rfl; have d0 := X.out.at 0 rfl; have d1 := X.out.at 1 rfl; have d2 := X.out.at 2 rfl; have d3 := X.out.at 3 rfl; have d4 := X.out.at 4 rfl; have d5 := X.out.at 5 rfl))
    all_goals
      go_wp2
      go_ret
      exact Tru.below Bw.out
  · have HL := Lib.hid (Nat.lt_of_not_le hl)
    clear hl
    go_enter Try.func12, Try.ntmps12
    go_wp2_with fail
    refine (szPlate_over a b c d r 1048576 _ (R.out _ Bw.out) HL.out (Nat.le_refl _)).mono ?_
    rintro _ w1 ⟨rfl, hb⟩
    have Bw := Lib.hid (below_step Bw.out hb); have A := Lib.hid (A.out.kept hb); have c0 := A.out.at 0 rfl; have c1 := A.out.at 1 rfl; have c2 := A.out.at 2 rfl; have c3 := A.out.at 3 rfl; have c4 := A.out.at 4 rfl; have c5 := A.out.at 5 rfl; clear hb
    go_wp2
    go_ret
    exact Tru.below Bw.out

end Go.Proofs.Ytcjhaeiknenajaa
