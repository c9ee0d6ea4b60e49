/- The law on whether two rods are the same. -/
import Derived.Test.YtplepddciilbdaaSameRod
namespace Go.Proofs.Ytplepddciilbdaa
open Go.RowKit
set_option linter.unusedVariables false

set_option maxHeartbeats 1600000 in
theorem fnExactSameRod_walk (a b c d : Value) (r : RL) (a' b' c' d' : Value) (r' : RL) (w : World) (h : RRow w a b c d r) (hw : (∀ i, i < r.W.length → (Lit.float .f32 (r.W.getD i 0)).wf = true) ∧ (∀ i, i < r.E.length → (Lit.float .f32 (r.E.getD i 0)).wf = true) ∧ (∀ i, i < r.H.length → (Lit.float .f32 (r.H.getD i 0)).wf = true) ∧ (∀ i, i < r.T.length → (Lit.float .f32 (r.T.getD i 0)).wf = true)) (h' : RRow w a' b' c' d' r') (hw' : (∀ i, i < r'.W.length → (Lit.float .f32 (r'.W.getD i 0)).wf = true) ∧ (∀ i, i < r'.E.length → (Lit.float .f32 (r'.E.getD i 0)).wf = true) ∧ (∀ i, i < r'.H.length → (Lit.float .f32 (r'.H.getD i 0)).wf = true) ∧ (∀ i, i < r'.T.length → (Lit.float .f32 (r'.T.getD i 0)).wf = true)) :
    Calls Try.prog 4 #[.agg #[a, b, c, d], .agg #[a', b', c', d']] w (Tru w) := by
  have R := Lib.hid (fun w1 (hb : Below w.heap.size w w1) => h.below hb)
  have R' := Lib.hid (fun w1 (hb : Below w.heap.size w w1) => h'.below hb)
  have WF : Hid (RWf r) := Lib.hid ⟨hw.1, hw.2.1, hw.2.2.1, hw.2.2.2⟩
  have WF' : Hid (RWf r') := Lib.hid ⟨hw'.1, hw'.2.1, hw'.2.2.1, hw'.2.2.2⟩
  clear h h' hw hw'
  have A := Lib.hid ((Cells.made w [a, b, c, d] 24).al (.cells [a', b', c', d'].toArray 24))
  have E := Cells.made (w.alloc (.cells [a, b, c, d].toArray 24)) [a', b', c', d'] 24
  rw [show (w.alloc (.cells [a, b, c, d].toArray 24)).heap.size = w.heap.size + 1 from by simp] at E
  have E := Lib.hid E
  have Bw := Lib.hid (below_al2 w (.cells [a, b, c, d].toArray 24) (.cells [a', b', c', d'].toArray 24))
  by_cases hl : r.size ≤ 1048576
  · by_cases hl' : r'.size ≤ 1048576 - r.size
    · have HL := Lib.hid hl
      have HM := Lib.hid hl'
      have HL' := Lib.hid (Nat.le_trans hl' (Nat.sub_le _ _))
      clear hl hl'
      go_enter Try.func4, Try.ntmps4
      go_wp2_with fail
      refine (szRod_fit a b c d r 1048576 _ (R.out _ Bw.out) HL.out (Nat.le_refl _)).mono ?_
      rintro _ w1 ⟨rfl, hb⟩
      (first | (have Bw := Lib.hid (below_step Bw.out hb)) | (have Bw := Lib.hid (below_step Bw.out (below_undrew hb)))); (first | (have A := Lib.hid (A.out.kept hb)) | (have A := Lib.hid (A.out.kept (below_undrew hb)))); (first | (have E := Lib.hid (E.out.kept hb)) | (have E := Lib.hid (E.out.kept (below_undrew hb)))); have c0 := A.out.at 0 rfl; have c1 := A.out.at 1 rfl; have c2 := A.out.at 2 rfl; have c3 := A.out.at 3 rfl; have d0 := E.out.at 0 rfl; have d1 := E.out.at 1 rfl; have d2 := E.out.at 2 rfl; have d3 := E.out.at 3 rfl; clear hb
      go_wp2_with fail
      refine (szRod_fit a' b' c' d' r' (1048576 - r.size) _ (R'.out _ Bw.out) HM.out (Nat.sub_le _ _)).mono ?_
      rintro _ w2 ⟨rfl, hb⟩
      (first | (have Bw := Lib.hid (below_step Bw.out hb)) | (have Bw := Lib.hid (below_step Bw.out (below_undrew hb)))); (first | (have A := Lib.hid (A.out.kept hb)) | (have A := Lib.hid (A.out.kept (below_undrew hb)))); (first | (have E := Lib.hid (E.out.kept hb)) | (have E := Lib.hid (E.out.kept (below_undrew hb)))); have c0 := A.out.at 0 rfl; have c1 := A.out.at 1 rfl; have c2 := A.out.at 2 rfl; have c3 := A.out.at 3 rfl; have d0 := E.out.at 0 rfl; have d1 := E.out.at 1 rfl; have d2 := E.out.at 2 rfl; have d3 := E.out.at 3 rfl; clear hb
      go_wp2_with fail
      go_region_held3 (fun w' => w'.cell? ⟨w.heap.size, 0, none⟩ = some a ∧ w'.cell? ⟨w.heap.size, 1, none⟩ = some b ∧ w'.cell? ⟨w.heap.size, 2, none⟩ = some c ∧ w'.cell? ⟨w.heap.size, 3, none⟩ = some d ∧ w'.cell? ⟨w.heap.size + 1, 0, none⟩ = some a' ∧ w'.cell? ⟨w.heap.size + 1, 1, none⟩ = some b' ∧ w'.cell? ⟨w.heap.size + 1, 2, none⟩ = some c' ∧ w'.cell? ⟨w.heap.size + 1, 3, none⟩ = some d') (exact ⟨c0, c1, c2, c3, d0, d1, d2, d3⟩)
        (first
        | (go_at_call_of 17 a; refine (toRod_any a b c d r _ (R.out _ (by first | exact Bw.out | exact below_drewN Bw.out _)) HL.out).mono ?_; rintro _ w6 ⟨p0, p1, p2, p3, rfl, hp, Z, hb⟩; (first | (have Bw := Lib.hid (below_step Bw.out hb)) | (have Bw := Lib.hid (below_step Bw.out (below_undrew hb)))); (first | (have A := Lib.hid (A.out.kept hb)) | (have A := Lib.hid (A.out.kept (below_undrew hb)))); (first | (have E := Lib.hid (E.out.kept hb)) | (have E := Lib.hid (E.out.kept (below_undrew hb)))); (try (first | (have X := Lib.hid (X.out.kept hb)) | (have X := Lib.hid (X.out.kept (below_undrew hb))))); (try (first | (have Y := Lib.hid (Y.out.kept hb)) | (have Y := Lib.hid (Y.out.kept (below_undrew hb))))); (try (first | (have V := Lib.hid (V.out.kept hb)) | (have V := Lib.hid (V.out.kept (below_undrew hb))))); (try (first | (have V' := Lib.hid (V'.out.kept hb)) | (have V' := Lib.hid (V'.out.kept (below_undrew hb))))); have c0 := A.out.at 0 rfl; have c1 := A.out.at 1 rfl; have c2 := A.out.at 2 rfl; have c3 := A.out.at 3 rfl; have d0 := E.out.at 0 rfl; have d1 := E.out.at 1 rfl; have d2 := E.out.at 2 rfl; have d3 := E.out.at 3 rfl; have V := Lib.hid Z; clear hp hb Z)
        | (go_at_call_of 17 a'; refine (toRod_any a' b' c' d' r' _ (R'.out _ (by first | exact Bw.out | exact below_drewN Bw.out _)) HL'.out).mono ?_; rintro _ w6 ⟨p0, p1, p2, p3, rfl, hp, Z, hb⟩; (first | (have Bw := Lib.hid (below_step Bw.out hb)) | (have Bw := Lib.hid (below_step Bw.out (below_undrew hb)))); (first | (have A := Lib.hid (A.out.kept hb)) | (have A := Lib.hid (A.out.kept (below_undrew hb)))); (first | (have E := Lib.hid (E.out.kept hb)) | (have E := Lib.hid (E.out.kept (below_undrew hb)))); (try (first | (have X := Lib.hid (X.out.kept hb)) | (have X := Lib.hid (X.out.kept (below_undrew hb))))); (try (first | (have Y := Lib.hid (Y.out.kept hb)) | (have Y := Lib.hid (Y.out.kept (below_undrew hb))))); (try (first | (have V := Lib.hid (V.out.kept hb)) | (have V := Lib.hid (V.out.kept (below_undrew hb))))); (try (first | (have V' := Lib.hid (V'.out.kept hb)) | (have V' := Lib.hid (V'.out.kept (below_undrew hb))))); have c0 := A.out.at 0 rfl; have c1 := A.out.at 1 rfl; have c2 := A.out.at 2 rfl; have c3 := A.out.at 3 rfl; have d0 := E.out.at 0 rfl; have d1 := E.out.at 1 rfl; have d2 := E.out.at 2 rfl; have d3 := E.out.at 3 rfl; have V' := Lib.hid Z; clear hp hb Z)
        | (go_at_call 20; refine (specSameRod_any _ _ _ _ _ _ _ _ r r' _ (V.out.row HL.out) (V'.out.row HL'.out) WF.out WF'.out).mono ?_; rintro _ w3 ⟨rfl, hb⟩; (first | (have Bw := Lib.hid (below_step Bw.out hb)) | (have Bw := Lib.hid (below_step Bw.out (below_undrew hb)))); (first | (have A := Lib.hid (A.out.kept hb)) | (have A := Lib.hid (A.out.kept (below_undrew hb)))); (first | (have E := Lib.hid (E.out.kept hb)) | (have E := Lib.hid (E.out.kept (below_undrew hb)))); (try (first | (have X := Lib.hid (X.out.kept hb)) | (have X := Lib.hid (X.out.kept (below_undrew hb))))); (try (first | (have Y := Lib.hid (Y.out.kept hb)) | (have Y := Lib.hid (Y.out.kept (below_undrew hb))))); (try (first | (have V := Lib.hid (V.out.kept hb)) | (have V := Lib.hid (V.out.kept (below_undrew hb))))); (try (first | (have V' := Lib.hid (V'.out.kept hb)) | (have V' := Lib.hid (V'.out.kept (below_undrew hb))))); have c0 := A.out.at 0 rfl; have c1 := A.out.at 1 rfl; have c2 := A.out.at 2 rfl; have c3 := A.out.at 3 rfl; have d0 := E.out.at 0 rfl; have d1 := E.out.at 1 rfl; have d2 := E.out.at 2 rfl; have d3 := E.out.at 3 rfl; clear hb))
      all_goals
        clear V V'
        go_wp2_with fail
        refine (toRod_any a b c d r _ (R.out _ Bw.out) HL.out).mono ?_
        rintro _ w4 ⟨x0, x1, x2, x3, rfl, hp, V, hb⟩
        have V := Lib.hid V
        (first | (have Bw := Lib.hid (below_step Bw.out hb)) | (have Bw := Lib.hid (below_step Bw.out (below_undrew hb)))); (first | (have A := Lib.hid (A.out.kept hb)) | (have A := Lib.hid (A.out.kept (below_undrew hb)))); (first | (have E := Lib.hid (E.out.kept hb)) | (have E := Lib.hid (E.out.kept (below_undrew hb)))); have c0 := A.out.at 0 rfl; have c1 := A.out.at 1 rfl; have c2 := A.out.at 2 rfl; have c3 := A.out.at 3 rfl; have d0 := E.out.at 0 rfl; have d1 := E.out.at 1 rfl; have d2 := E.out.at 2 rfl; have d3 := E.out.at 3 rfl; clear hb hp
        have X := Lib.hid (Cells.made w4 [sl x0 r.W, sl x1 r.E, sl x2 r.H, sl x3 r.T] 27)
        have V := Lib.hid (V.out.kept (below_al1 w4 (.cells [sl x0 r.W, sl x1 r.E, sl x2 r.H, sl x3 r.T].toArray 27)))
        have A := Lib.hid (A.out.kept (below_al1 w4 (.cells [sl x0 r.W, sl x1 r.E, sl x2 r.H, sl x3 r.T].toArray 27)))
        have E := Lib.hid (E.out.kept (below_al1 w4 (.cells [sl x0 r.W, sl x1 r.E, sl x2 r.H, sl x3 r.T].toArray 27)))
        have Bw := Lib.hid (below_step Bw.out (below_al1 w4 (.cells [sl x0 r.W, sl x1 r.E, sl x2 r.H, sl x3 r.T].toArray 27)))
        have c0 := A.out.at 0 rfl; have c1 := A.out.at 1 rfl; have c2 := A.out.at 2 rfl; have c3 := A.out.at 3 rfl; have d0 := E.out.at 0 rfl; have d1 := E.out.at 1 rfl; have d2 := E.out.at 2 rfl; have d3 := E.out.at 3 rfl
        go_wp2_with fail
        refine (toRod_any a' b' c' d' r' _ (R'.out _ Bw.out) HL'.out).mono ?_
        rintro _ w5 ⟨y0, y1, y2, y3, rfl, hp, V', hb⟩
        have V' := Lib.hid V'
        (first | (have Bw := Lib.hid (below_step Bw.out hb)) | (have Bw := Lib.hid (below_step Bw.out (below_undrew hb)))); (first | (have A := Lib.hid (A.out.kept hb)) | (have A := Lib.hid (A.out.kept (below_undrew hb)))); (first | (have E := Lib.hid (E.out.kept hb)) | (have E := Lib.hid (E.out.kept (below_undrew hb)))); have X := Lib.hid (X.out.kept hb); have V := Lib.hid (V.out.kept hb); have c0 := A.out.at 0 rfl; have c1 := A.out.at 1 rfl; have c2 := A.out.at 2 rfl; have c3 := A.out.at 3 rfl; have d0 := E.out.at 0 rfl; have d1 := E.out.at 1 rfl; have d2 := E.out.at 2 rfl; have d3 := E.out.at 3 rfl; clear hb hp
        have Y := Lib.hid (Cells.made w5 [sl y0 r'.W, sl y1 r'.E, sl y2 r'.H, sl y3 r'.T] 27)
        have hb := below_al1 w5 (.cells [sl y0 r'.W, sl y1 r'.E, sl y2 r'.H, sl y3 r'.T].toArray 27)
        have V := Lib.hid (V.out.kept hb); have V' := Lib.hid (V'.out.kept hb); have A := Lib.hid (A.out.kept hb); have E := Lib.hid (E.out.kept hb); have X := Lib.hid (X.out.kept hb); have Bw := Lib.hid (below_step Bw.out hb)
        clear hb
        have c0 := A.out.at 0 rfl; have c1 := A.out.at 1 rfl; have c2 := A.out.at 2 rfl; have c3 := A.out.at 3 rfl; have d0 := E.out.at 0 rfl; have d1 := E.out.at 1 rfl; have d2 := E.out.at 2 rfl; have d3 := E.out.at 3 rfl
        have g0 := X.out.at 0 rfl; have g1 := X.out.at 1 rfl; have g2 := X.out.at 2 rfl; have g3 := X.out.at 3 rfl; have h0 := Y.out.at 0 rfl; have h1 := Y.out.at 1 rfl; have h2 := Y.out.at 2 rfl; have h3 := Y.out.at 3 rfl
        go_wp2_with fail
        refine (implSameRod_any _ _ _ _ _ _ _ _ r r' _ (V.out.row HL.out) (V'.out.row HL'.out) WF.out WF'.out).mono ?_
        rintro _ w6 ⟨rfl, hb⟩
        (first | (have Bw := Lib.hid (below_step Bw.out hb)) | (have Bw := Lib.hid (below_step Bw.out (below_undrew hb)))); (first | (have A := Lib.hid (A.out.kept hb)) | (have A := Lib.hid (A.out.kept (below_undrew hb)))); (first | (have E := Lib.hid (E.out.kept hb)) | (have E := Lib.hid (E.out.kept (below_undrew hb)))); (try (first | (have X := Lib.hid (X.out.kept hb)) | (have X := Lib.hid (X.out.kept (below_undrew hb))))); (try (first | (have Y := Lib.hid (Y.out.kept hb)) | (have Y := Lib.hid (Y.out.kept (below_undrew hb))))); (try (first | (have V := Lib.hid (V.out.kept hb)) | (have V := Lib.hid (V.out.kept (below_undrew hb))))); (try (first | (have V' := Lib.hid (V'.out.kept hb)) | (have V' := Lib.hid (V'.out.kept (below_undrew hb))))); have c0 := A.out.at 0 rfl; have c1 := A.out.at 1 rfl; have c2 := A.out.at 2 rfl; have c3 := A.out.at 3 rfl; have d0 := E.out.at 0 rfl; have d1 := E.out.at 1 rfl; have d2 := E.out.at 2 rfl; have d3 := E.out.at 3 rfl; have g0 := X.out.at 0 rfl; have g1 := X.out.at 1 rfl; have g2 := X.out.at 2 rfl; have g3 := X.out.at 3 rfl; have h0 := Y.out.at 0 rfl; have h1 := Y.out.at 1 rfl; have h2 := Y.out.at 2 rfl; have h3 := Y.out.at 3 rfl; clear hb
        go_wp2_with fail
        generalize w4.heap.size = q at *
        generalize w5.heap.size = q' at *
        go_region_held3 (fun w' => w'.cell? ⟨w.heap.size, 0, none⟩ = some a ∧ w'.cell? ⟨w.heap.size, 1, none⟩ = some b ∧ w'.cell? ⟨w.heap.size, 2, none⟩ = some c ∧ w'.cell? ⟨w.heap.size, 3, none⟩ = some d ∧ w'.cell? ⟨q, 0, none⟩ = some (sl x0 r.W) ∧ w'.cell? ⟨q, 1, none⟩ = some (sl x1 r.E) ∧ w'.cell? ⟨q, 2, none⟩ = some (sl x2 r.H) ∧ w'.cell? ⟨q, 3, none⟩ = some (sl x3 r.T)) (exact ⟨c0, c1, c2, c3, g0, g1, g2, g3⟩)
          (first
          | (go_at_call_of 17 a; refine (toRod_any a b c d r _ (R.out _ (by first | exact Bw.out | exact below_drewN Bw.out _)) HL.out).mono ?_; rintro _ w6 ⟨p0, p1, p2, p3, rfl, hp, Z, hb⟩; (first | (have Bw := Lib.hid (below_step Bw.out hb)) | (have Bw := Lib.hid (below_step Bw.out (below_undrew hb)))); (first | (have A := Lib.hid (A.out.kept hb)) | (have A := Lib.hid (A.out.kept (below_undrew hb)))); (first | (have E := Lib.hid (E.out.kept hb)) | (have E := Lib.hid (E.out.kept (below_undrew hb)))); (try (first | (have X := Lib.hid (X.out.kept hb)) | (have X := Lib.hid (X.out.kept (below_undrew hb))))); (try (first | (have Y := Lib.hid (Y.out.kept hb)) | (have Y := Lib.hid (Y.out.kept (below_undrew hb))))); (try (first | (have V := Lib.hid (V.out.kept hb)) | (have V := Lib.hid (V.out.kept (below_undrew hb))))); (try (first | (have V' := Lib.hid (V'.out.kept hb)) | (have V' := Lib.hid (V'.out.kept (below_undrew hb))))); have c0 := A.out.at 0 rfl; have c1 := A.out.at 1 rfl; have c2 := A.out.at 2 rfl; have c3 := A.out.at 3 rfl; have d0 := E.out.at 0 rfl; have d1 := E.out.at 1 rfl; have d2 := E.out.at 2 rfl; have d3 := E.out.at 3 rfl; have g0 := X.out.at 0 rfl; have g1 := X.out.at 1 rfl; have g2 := X.out.at 2 rfl; have g3 := X.out.at 3 rfl; have h0 := Y.out.at 0 rfl; have h1 := Y.out.at 1 rfl; have h2 := Y.out.at 2 rfl; have h3 := Y.out.at 3 rfl; have Z' := Lib.hid Z; clear hp hb Z)
          | (go_at_call 19; refine (eqRod_any _ _ _ _ _ _ _ _ r r _ (V.out.row HL.out) (Z'.out.row HL.out) (.refl r)).mono ?_; rintro _ w7 ⟨rfl, hb⟩; (first | (have Bw := Lib.hid (below_step Bw.out hb)) | (have Bw := Lib.hid (below_step Bw.out (below_undrew hb)))); (first | (have A := Lib.hid (A.out.kept hb)) | (have A := Lib.hid (A.out.kept (below_undrew hb)))); (first | (have E := Lib.hid (E.out.kept hb)) | (have E := Lib.hid (E.out.kept (below_undrew hb)))); (try (first | (have X := Lib.hid (X.out.kept hb)) | (have X := Lib.hid (X.out.kept (below_undrew hb))))); (try (first | (have Y := Lib.hid (Y.out.kept hb)) | (have Y := Lib.hid (Y.out.kept (below_undrew hb))))); (try (first | (have V := Lib.hid (V.out.kept hb)) | (have V := Lib.hid (V.out.kept (below_undrew hb))))); (try (first | (have V' := Lib.hid (V'.out.kept hb)) | (have V' := Lib.hid (V'.out.kept (below_undrew hb))))); have c0 := A.out.at 0 rfl; have c1 := A.out.at 1 rfl; have c2 := A.out.at 2 rfl; have c3 := A.out.at 3 rfl; have d0 := E.out.at 0 rfl; have d1 := E.out.at 1 rfl; have d2 := E.out.at 2 rfl; have d3 := E.out.at 3 rfl; have g0 := X.out.at 0 rfl; have g1 := X.out.at 1 rfl; have g2 := X.out.at 2 rfl; have g3 := X.out.at 3 rfl; have h0 := Y.out.at 0 rfl; have h1 := Y.out.at 1 rfl; have h2 := Y.out.at 2 rfl; have h3 := Y.out.at 3 rfl; clear hb))
        go_wp2_with fail
        go_region_held3 (fun w' => w'.cell? ⟨w.heap.size + 1, 0, none⟩ = some a' ∧ w'.cell? ⟨w.heap.size + 1, 1, none⟩ = some b' ∧ w'.cell? ⟨w.heap.size + 1, 2, none⟩ = some c' ∧ w'.cell? ⟨w.heap.size + 1, 3, none⟩ = some d' ∧ w'.cell? ⟨q', 0, none⟩ = some (sl y0 r'.W) ∧ w'.cell? ⟨q', 1, none⟩ = some (sl y1 r'.E) ∧ w'.cell? ⟨q', 2, none⟩ = some (sl y2 r'.H) ∧ w'.cell? ⟨q', 3, none⟩ = some (sl y3 r'.T)) (exact ⟨d0, d1, d2, d3, h0, h1, h2, h3⟩)
          (first
          | (go_at_call_of 17 a'; refine (toRod_any a' b' c' d' r' _ (R'.out _ (by first | exact Bw.out | exact below_drewN Bw.out _)) HL'.out).mono ?_; rintro _ w6 ⟨p0, p1, p2, p3, rfl, hp, Z, hb⟩; (first | (have Bw := Lib.hid (below_step Bw.out hb)) | (have Bw := Lib.hid (below_step Bw.out (below_undrew hb)))); (first | (have A := Lib.hid (A.out.kept hb)) | (have A := Lib.hid (A.out.kept (below_undrew hb)))); (first | (have E := Lib.hid (E.out.kept hb)) | (have E := Lib.hid (E.out.kept (below_undrew hb)))); (try (first | (have X := Lib.hid (X.out.kept hb)) | (have X := Lib.hid (X.out.kept (below_undrew hb))))); (try (first | (have Y := Lib.hid (Y.out.kept hb)) | (have Y := Lib.hid (Y.out.kept (below_undrew hb))))); (try (first | (have V := Lib.hid (V.out.kept hb)) | (have V := Lib.hid (V.out.kept (below_undrew hb))))); (try (first | (have V' := Lib.hid (V'.out.kept hb)) | (have V' := Lib.hid (V'.out.kept (below_undrew hb))))); have c0 := A.out.at 0 rfl; have c1 := A.out.at 1 rfl; have c2 := A.out.at 2 rfl; have c3 := A.out.at 3 rfl; have d0 := E.out.at 0 rfl; have d1 := E.out.at 1 rfl; have d2 := E.out.at 2 rfl; have d3 := E.out.at 3 rfl; have g0 := X.out.at 0 rfl; have g1 := X.out.at 1 rfl; have g2 := X.out.at 2 rfl; have g3 := X.out.at 3 rfl; have h0 := Y.out.at 0 rfl; have h1 := Y.out.at 1 rfl; have h2 := Y.out.at 2 rfl; have h3 := Y.out.at 3 rfl; have Z2 := Lib.hid Z; clear hp hb Z)
          | (go_at_call 19; refine (eqRod_any _ _ _ _ _ _ _ _ r' r' _ (V'.out.row HL'.out) (Z2.out.row HL'.out) (.refl r')).mono ?_; rintro _ w7 ⟨rfl, hb⟩; (first | (have Bw := Lib.hid (below_step Bw.out hb)) | (have Bw := Lib.hid (below_step Bw.out (below_undrew hb)))); (first | (have A := Lib.hid (A.out.kept hb)) | (have A := Lib.hid (A.out.kept (below_undrew hb)))); (first | (have E := Lib.hid (E.out.kept hb)) | (have E := Lib.hid (E.out.kept (below_undrew hb)))); (try (first | (have X := Lib.hid (X.out.kept hb)) | (have X := Lib.hid (X.out.kept (below_undrew hb))))); (try (first | (have Y := Lib.hid (Y.out.kept hb)) | (have Y := Lib.hid (Y.out.kept (below_undrew hb))))); (try (first | (have V := Lib.hid (V.out.kept hb)) | (have V := Lib.hid (V.out.kept (below_undrew hb))))); (try (first | (have V' := Lib.hid (V'.out.kept hb)) | (have V' := Lib.hid (V'.out.kept (below_undrew hb))))); have c0 := A.out.at 0 rfl; have c1 := A.out.at 1 rfl; have c2 := A.out.at 2 rfl; have c3 := A.out.at 3 rfl; have d0 := E.out.at 0 rfl; have d1 := E.out.at 1 rfl; have d2 := E.out.at 2 rfl; have d3 := E.out.at 3 rfl; have g0 := X.out.at 0 rfl; have g1 := X.out.at 1 rfl; have g2 := X.out.at 2 rfl; have g3 := X.out.at 3 rfl; have h0 := Y.out.at 0 rfl; have h1 := Y.out.at 1 rfl; have h2 := Y.out.at 2 rfl; have h3 := Y.out.at 3 rfl; clear hb))
        go_wp2
        go_ret
        exact Tru.below Bw.out
    · have HL := Lib.hid hl
      have HM := Lib.hid (Nat.lt_of_not_le hl')
      clear hl hl'
      go_enter Try.func4, Try.ntmps4
      go_wp2_with fail
      refine (szRod_fit a b c d r 1048576 _ (R.out _ Bw.out) HL.out (Nat.le_refl _)).mono ?_
      rintro _ w1 ⟨rfl, hb⟩
      (first | (have Bw := Lib.hid (below_step Bw.out hb)) | (have Bw := Lib.hid (below_step Bw.out (below_undrew hb)))); (first | (have A := Lib.hid (A.out.kept hb)) | (have A := Lib.hid (A.out.kept (below_undrew hb)))); (first | (have E := Lib.hid (E.out.kept hb)) | (have E := Lib.hid (E.out.kept (below_undrew hb)))); have c0 := A.out.at 0 rfl; have c1 := A.out.at 1 rfl; have c2 := A.out.at 2 rfl; have c3 := A.out.at 3 rfl; have d0 := E.out.at 0 rfl; have d1 := E.out.at 1 rfl; have d2 := E.out.at 2 rfl; have d3 := E.out.at 3 rfl; clear hb
      go_wp2_with fail
      refine (szRod_over a' b' c' d' r' (1048576 - r.size) _ (R'.out _ Bw.out) HM.out (Nat.sub_le _ _)).mono ?_
      rintro _ w2 ⟨rfl, hb⟩
      (first | (have Bw := Lib.hid (below_step Bw.out hb)) | (have Bw := Lib.hid (below_step Bw.out (below_undrew hb)))); clear hb
      go_wp2
      go_ret
      exact Tru.below Bw.out
  · have HL := Lib.hid (Nat.lt_of_not_le hl)
    clear hl
    go_enter Try.func4, Try.ntmps4
    go_wp2_with fail
    refine (szRod_over a b c d r 1048576 _ (R.out _ Bw.out) HL.out (Nat.le_refl _)).mono ?_
    rintro _ w1 ⟨rfl, hb⟩
    (first | (have Bw := Lib.hid (below_step Bw.out hb)) | (have Bw := Lib.hid (below_step Bw.out (below_undrew hb)))); clear hb
    go_wp2
    go_ret
    exact Tru.below Bw.out
end Go.Proofs.Ytplepddciilbdaa
