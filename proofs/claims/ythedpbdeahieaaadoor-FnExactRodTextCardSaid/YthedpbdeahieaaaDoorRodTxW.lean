/- The text of a rod: the law's walk. -/
import Derived.Test.YthedpbdeahieaaaDoorRodTx
namespace Go.Proofs.YthedpbdeahieaaaDoor
open Go.RowKit
set_option linter.unusedVariables false
set_option maxRecDepth 20000 in
set_option maxHeartbeats 1600000 in
theorem fnExactRodText_walk (a b c d : Value) (r : RL) (w : World) (h : RRow w a b c d r) (hw0 : (∀ i, i < r.W.length → (Lit.float .f32 (r.W.getD i 0)).wf = true) ∧ (∀ i, i < r.E.length → (Lit.float .f32 (r.E.getD i 0)).wf = true) ∧ (∀ i, i < r.H.length → (Lit.float .f32 (r.H.getD i 0)).wf = true) ∧ (∀ i, i < r.T.length → (Lit.float .f32 (r.T.getD i 0)).wf = true)) (ht : Tabs w) :
    Calls Tryd.prog 9 #[.agg #[a, b, c, d]] w (Tru w) := by
  have R := Lib.hid (fun w1 (hb : Below w.heap.size w w1) => h.below hb)
  clear h
  have hw : RWn r := ⟨hw0.1, hw0.2.1, hw0.2.2.1, hw0.2.2.2⟩
  clear hw0
  have CS := Lib.hid (fun a b c d w1 (h1 : RRow w1 a b c d r) => specRT_any a b c d r w1 h1 hw)
  have CI := Lib.hid (fun a b c d w1 (h1 : RRow w1 a b c d r) (hT : Tabs w1) => implRT_any a b c d r w1 h1 hw hT)
  have HT := Lib.hid ht
  clear hw ht
  unfold TxB at *
  generalize (bif vRod r then rTx r else (⟨#[]⟩ : ByteArray)) = S at *
  generalize vRod r = ok at *
  have A := Lib.hid (Cells.made w [a, b, c, d] 47)
  have Bw := Lib.hid (below_al1 w (.cells [a, b, c, d].toArray 47))
  by_cases hl : r.size ≤ 1048576
  · have HL := Lib.hid hl
    clear hl
    go_enter Tryd.func9, Tryd.ntmps9
    go_wp2_with fail
    refine (szRod_fit a b c d r 1048576 _ (R.out _ Bw.out) HL.out (Nat.le_refl _)).mono ?_
    rintro _ w1 ⟨rfl, hb⟩
    have Bw := Lib.hid (below_step Bw.out hb); have A := Lib.hid (A.out.kept hb); have c0 := A.out.at 0 rfl; have c1 := A.out.at 1 rfl; have c2 := A.out.at 2 rfl; have c3 := A.out.at 3 rfl; clear hb
    go_wp2_with fail
    refine (toRod_any a b c d r _ (R.out _ Bw.out) HL.out).mono ?_
    rintro _ w2 ⟨p0, p1, p2, p3, rfl, hp, V, hb⟩
    have Bw := Lib.hid (below_step Bw.out hb); have A := Lib.hid (A.out.kept hb); have c0 := A.out.at 0 rfl; have c1 := A.out.at 1 rfl; have c2 := A.out.at 2 rfl; have c3 := A.out.at 3 rfl; have V := Lib.hid V; clear hb hp
    go_wp2_with fail
    refine (CS.out _ _ _ _ _ (V.out.row HL.out)).mono ?_
    rintro _ w3 ⟨rfl, hb⟩
    have Bw := Lib.hid (below_step Bw.out hb); have A := Lib.hid (A.out.kept hb); have c0 := A.out.at 0 rfl; have c1 := A.out.at 1 rfl; have c2 := A.out.at 2 rfl; have c3 := A.out.at 3 rfl; clear hb V
    go_wp2_with fail
    refine (toRod_any a b c d r _ (R.out _ Bw.out) HL.out).mono ?_
    rintro _ w4 ⟨x0, x1, x2, x3, rfl, hp, V, hb⟩
    have Bw := Lib.hid (below_step Bw.out hb); have A := Lib.hid (A.out.kept hb); have c0 := A.out.at 0 rfl; have c1 := A.out.at 1 rfl; have c2 := A.out.at 2 rfl; have c3 := A.out.at 3 rfl; have V := Lib.hid V; clear hb hp
    have X := Lib.hid (Cells.made w4 [sl x0 r.W, sl x1 r.E, sl x2 r.H, sl x3 r.T] 50)
    have V := Lib.hid (V.out.kept (below_al1 w4 (.cells [sl x0 r.W, sl x1 r.E, sl x2 r.H, sl x3 r.T].toArray 50)))
    have A := Lib.hid (A.out.kept (below_al1 w4 (.cells [sl x0 r.W, sl x1 r.E, sl x2 r.H, sl x3 r.T].toArray 50)))
    have Bw := Lib.hid (below_step Bw.out (below_al1 w4 (.cells [sl x0 r.W, sl x1 r.E, sl x2 r.H, sl x3 r.T].toArray 50)))
    go_wp2_with fail
    refine (CI.out _ _ _ _ _ (V.out.row HL.out) (HT.out.below Bw.out)).mono ?_
    rintro _ w5 ⟨rfl, hb⟩
    have Bw := Lib.hid (below_step Bw.out hb); have A := Lib.hid (A.out.kept hb); have X := Lib.hid (X.out.kept hb); have V := Lib.hid (V.out.kept hb); have c0 := A.out.at 0 rfl; have c1 := A.out.at 1 rfl; have c2 := A.out.at 2 rfl; have c3 := A.out.at 3 rfl; clear hb
    have d0 := X.out.at 0 rfl; have d1 := X.out.at 1 rfl; have d2 := X.out.at 2 rfl; have d3 := X.out.at 3 rfl
    go_wp2
    generalize w4.heap.size = q at *
    go_region_held3 (fun w' => w'.cell? ⟨w.heap.size, 0, none⟩ = some a ∧ w'.cell? ⟨w.heap.size, 1, none⟩ = some b ∧ w'.cell? ⟨w.heap.size, 2, none⟩ = some c ∧ w'.cell? ⟨w.heap.size, 3, none⟩ = some d ∧ w'.cell? ⟨q, 0, none⟩ = some (sl x0 r.W) ∧ w'.cell? ⟨q, 1, none⟩ = some (sl x1 r.E) ∧ w'.cell? ⟨q, 2, none⟩ = some (sl x2 r.H) ∧ w'.cell? ⟨q, 3, none⟩ = some (sl x3 r.T)) (exact ⟨c0, c1, c2, c3, d0, d1, d2, d3⟩)
      (first
      | (go_at_call 35; refine (toRod_any a b c d r _ (R.out _ (below_drewN Bw.out _)) HL.out).mono ?_; rintro _ w6 ⟨y0, y1, y2, y3, rfl, hp, Z, hb⟩; have Bw := Lib.hid (below_step Bw.out (below_undrew hb)); have A := Lib.hid (A.out.kept (below_undrew hb)); have X := Lib.hid (X.out.kept (below_undrew hb)); have V := Lib.hid (V.out.kept (below_undrew hb)); have Z := Lib.hid Z; clear hp hb; have c0 := A.out.at 0 rfl; have c1 := A.out.at 1 rfl; have c2 := A.out.at 2 rfl; have c3 := A.out.at 3 rfl; have d0 := X.out.at 0 rfl; have d1 := X.out.at 1 rfl; have d2 := X.out.at 2 rfl; have d3 := X.out.at 3 rfl)
      | (go_at_call 37; refine (eqRod_any _ _ _ _ _ _ _ _ r r _ (V.out.row HL.out) (Z.out.row HL.out) (.refl r)).mono ?_; rintro _ w7 ⟨rfl, hb⟩; have Bw := Lib.hid (below_step Bw.out hb); have A := Lib.hid (A.out.kept hb); have X := Lib.hid (X.out.kept hb); clear hb; have c0 := A.out.at 0 rfl; have c1 := A.out.at 1 rfl; have c2 := A.out.at 2 rfl; have c3 := A.out.at 3 rfl; have d0 := X.out.at 0 rfl; have d1 := X.out.at 1 rfl; have d2 := X.out.at 2 rfl; have d3 := X.out.at 3 rfl))
    all_goals
      go_wp2
      go_ret
      exact Tru.below Bw.out
  · have HL := Lib.hid (Nat.lt_of_not_le hl)
    clear hl
    go_enter Tryd.func9, Tryd.ntmps9
    go_wp2_with fail
    refine (szRod_over a b c d r 1048576 _ (R.out _ Bw.out) HL.out (Nat.le_refl _)).mono ?_
    rintro _ w1 ⟨rfl, hb⟩
    have Bw := Lib.hid (below_step Bw.out hb); have A := Lib.hid (A.out.kept hb); have c0 := A.out.at 0 rfl; have c1 := A.out.at 1 rfl; have c2 := A.out.at 2 rfl; have c3 := A.out.at 3 rfl; clear hb
    go_wp2
    go_ret
    exact Tru.below Bw.out

end Go.Proofs.YthedpbdeahieaaaDoor
