/- The law on how much passes at an end of a rod. -/
import Derived.Test.YtplepddciilbdaaPassE
namespace Go.Proofs.Ytplepddciilbdaa
open Go.RowKit
set_option linter.unusedVariables false

theorem implPassAtEnd_any (a b c d : Value) (r : RL) (last : Bool) (k : Int) (x y : Nat) (w : World) (h : RRow w a b c d r) : Calls Try.prog 39 #[.agg #[a, b, c, d], .bool last, endV k x y] w (GivB (paS r last k x y) (paB r last k x y) w) := by
  cases hv : vRod r
  · have IV := Lib.hid (implValid_any a b c d r _ (h.below (below_al2 w (.cells [a, b, c, d].toArray 27) (.cells [Value.int .i64 k, .float .f32 x, .float .f32 y].toArray 36))))
    rw [hv] at IV
    have N : Hid (paOk r k x y = false) := Lib.hid (by simp [paOk, hv])
    clear h hv
    unfold endV
    go_enter Try.func39, Try.ntmps39
    go_wp2_with (go_at_call 18; refine IV.out.mono ?_; rintro e w' ⟨rfl, hb⟩; have B1 := Lib.hid hb; clear hb)
    go_ret2
    exact pa_no N.out (below_step (below_al2 _ _ _) B1.out)
  · cases he : vEnd k x y
    · have IV := Lib.hid (implValid_any a b c d r _ (h.below (below_al2 w (.cells [a, b, c, d].toArray 27) (.cells [Value.int .i64 k, .float .f32 x, .float .f32 y].toArray 36))))
      rw [hv] at IV
      have IE := Lib.hid (fun w1 => implVEnd_any k x y w1)
      rw [he] at IE
      unfold endV at IE
      have N : Hid (paOk r k x y = false) := Lib.hid (by simp [paOk, he])
      have E := Cells.made (w.alloc (.cells [a, b, c, d].toArray 27)) [.int .i64 k, .float .f32 x, .float .f32 y] 36
      rw [show (w.alloc (.cells [a, b, c, d].toArray 27)).heap.size = w.heap.size + 1 from by simp] at E
      have E := Lib.hid E
      have Bw := Lib.hid (below_al2 w (.cells [a, b, c, d].toArray 27) (.cells [Value.int .i64 k, .float .f32 x, .float .f32 y].toArray 36))
      clear h hv he
      unfold endV
      go_enter Try.func39, Try.ntmps39
      go_wp2_with (first | (go_at_call 18; refine IV.out.mono ?_; rintro e w' ⟨rfl, hb⟩; have Bw := Lib.hid (below_step Bw.out hb); have E := Lib.hid (E.out.kept hb); have d0 := E.out.at 0 rfl; have d1 := E.out.at 1 rfl; have d2 := E.out.at 2 rfl; clear hb) | (go_at_call 24; refine (IE.out _).mono ?_; rintro e w' ⟨rfl, hb⟩; have Bw := Lib.hid (below_step Bw.out hb); clear hb))
      go_ret2
      exact pa_no N.out Bw.out
    · obtain ⟨b0, o0, k0, b1, o1, k1, b2, o2, k2, b3, o3, k3, rfl, rfl, rfl, rfl, hL⟩ := h.lay (Len.ofV hv)
      unfold endV
      rcases kOk_cases (vEnd_kOk he) with rfl | rfl | rfl
      · exact implPA0_any r last x y w hL (Len.ofV hv) hv he
      · exact implPA1_any r last x y w hL (Len.ofV hv) hv he
      · exact implPA2_any r last x y w hL (Len.ofV hv) hv he

set_option maxHeartbeats 1600000 in
theorem fnExactPassAtEnd_walk (a b c d : Value) (r : RL) (last : Bool) (k : Int) (x y : Nat) (w : World) (h : RRow w a b c d r) (_ : (Lit.int .i64 k).wf = true) (_ : (Lit.float .f32 x).wf = true) (_ : (Lit.float .f32 y).wf = true) :
    Calls Try.prog 12 #[.agg #[a, b, c, d], .bool last, .agg #[.int .i64 k, .float .f32 x, .float .f32 y]] w (Tru w) := by
  have R := Lib.hid (fun w1 (hb : Below w.heap.size w w1) => h.below hb)
  have TE := Lib.hid (fun w1 => toEnd_any k x y w1)
  have SP := Lib.hid (fun a b c d w1 hr => specPassAtEnd_any a b c d r last k x y w1 hr)
  have IP := Lib.hid (fun a b c d w1 hr => implPassAtEnd_any a b c d r last k x y w1 hr)
  unfold endV at TE SP IP
  generalize paS r last k x y = GS at *
  generalize paB r last k x y = GB at *
  clear h
  have A := Lib.hid ((Cells.made w [a, b, c, d] 24).al (.cells [Value.int .i64 k, .float .f32 x, .float .f32 y].toArray 34))
  have E := Cells.made (w.alloc (.cells [a, b, c, d].toArray 24)) [.int .i64 k, .float .f32 x, .float .f32 y] 34
  rw [show (w.alloc (.cells [a, b, c, d].toArray 24)).heap.size = w.heap.size + 1 from by simp] at E
  have E := Lib.hid E
  have Bw := Lib.hid (below_al2 w (.cells [a, b, c, d].toArray 24) (.cells [Value.int .i64 k, .float .f32 x, .float .f32 y].toArray 34))
  by_cases hl : r.size ≤ 1048576
  · have HL := Lib.hid hl
    clear hl
    go_enter Try.func12, Try.ntmps12
    go_wp2_with fail
    refine (szRod_fit a b c d r 1048576 _ (R.out _ Bw.out) HL.out (Nat.le_refl _)).mono ?_
    rintro _ w1 ⟨rfl, hb⟩
    (first | (have Bw := Lib.hid (below_step Bw.out hb)) | (have Bw := Lib.hid (below_step Bw.out (below_undrew hb)))); (first | (have A := Lib.hid (A.out.kept hb)) | (have A := Lib.hid (A.out.kept (below_undrew hb)))); (first | (have E := Lib.hid (E.out.kept hb)) | (have E := Lib.hid (E.out.kept (below_undrew hb)))); (try (first | (have V := Lib.hid (V.out.kept hb)) | (have V := Lib.hid (V.out.kept (below_undrew hb))))); have c0 := A.out.at 0 rfl; have c1 := A.out.at 1 rfl; have c2 := A.out.at 2 rfl; have c3 := A.out.at 3 rfl; have d0 := E.out.at 0 rfl; have d1 := E.out.at 1 rfl; have d2 := E.out.at 2 rfl; clear hb
    go_wp2_with fail
    go_region_held3 (fun w' => w'.cell? ⟨w.heap.size, 0, none⟩ = some a ∧ w'.cell? ⟨w.heap.size, 1, none⟩ = some b ∧ w'.cell? ⟨w.heap.size, 2, none⟩ = some c ∧ w'.cell? ⟨w.heap.size, 3, none⟩ = some d ∧ w'.cell? ⟨w.heap.size + 1, 0, none⟩ = some (.int .i64 k) ∧ w'.cell? ⟨w.heap.size + 1, 1, none⟩ = some (.float .f32 x) ∧ w'.cell? ⟨w.heap.size + 1, 2, none⟩ = some (.float .f32 y)) (exact ⟨c0, c1, c2, c3, d0, d1, d2⟩)
      (first
      | (go_at_call 17; refine (toRod_any a b c d r _ (R.out _ (by first | exact Bw.out | exact below_drewN Bw.out _)) HL.out).mono ?_; rintro _ w6 ⟨p0, p1, p2, p3, rfl, hp, Z, hb⟩; (first | (have Bw := Lib.hid (below_step Bw.out hb)) | (have Bw := Lib.hid (below_step Bw.out (below_undrew hb)))); (first | (have A := Lib.hid (A.out.kept hb)) | (have A := Lib.hid (A.out.kept (below_undrew hb)))); (first | (have E := Lib.hid (E.out.kept hb)) | (have E := Lib.hid (E.out.kept (below_undrew hb)))); (try (first | (have V := Lib.hid (V.out.kept hb)) | (have V := Lib.hid (V.out.kept (below_undrew hb))))); have c0 := A.out.at 0 rfl; have c1 := A.out.at 1 rfl; have c2 := A.out.at 2 rfl; have c3 := A.out.at 3 rfl; have d0 := E.out.at 0 rfl; have d1 := E.out.at 1 rfl; have d2 := E.out.at 2 rfl; have V := Lib.hid Z; clear hp hb Z)
      | (go_at_call 23; refine (TE.out _).mono ?_; rintro e w' ⟨rfl, hb⟩; (first | (have Bw := Lib.hid (below_step Bw.out hb)) | (have Bw := Lib.hid (below_step Bw.out (below_undrew hb)))); (first | (have A := Lib.hid (A.out.kept hb)) | (have A := Lib.hid (A.out.kept (below_undrew hb)))); (first | (have E := Lib.hid (E.out.kept hb)) | (have E := Lib.hid (E.out.kept (below_undrew hb)))); (try (first | (have V := Lib.hid (V.out.kept hb)) | (have V := Lib.hid (V.out.kept (below_undrew hb))))); have c0 := A.out.at 0 rfl; have c1 := A.out.at 1 rfl; have c2 := A.out.at 2 rfl; have c3 := A.out.at 3 rfl; have d0 := E.out.at 0 rfl; have d1 := E.out.at 1 rfl; have d2 := E.out.at 2 rfl; clear hb)
      | (go_at_call 38; refine (SP.out _ _ _ _ _ (V.out.row HL.out)).mono ?_; rintro _ w3 ⟨f1, hf1, rfl, hb⟩; have F1 := Lib.hid hf1; (first | (have Bw := Lib.hid (below_step Bw.out hb)) | (have Bw := Lib.hid (below_step Bw.out (below_undrew hb)))); (first | (have A := Lib.hid (A.out.kept hb)) | (have A := Lib.hid (A.out.kept (below_undrew hb)))); (first | (have E := Lib.hid (E.out.kept hb)) | (have E := Lib.hid (E.out.kept (below_undrew hb)))); (try (first | (have V := Lib.hid (V.out.kept hb)) | (have V := Lib.hid (V.out.kept (below_undrew hb))))); have c0 := A.out.at 0 rfl; have c1 := A.out.at 1 rfl; have c2 := A.out.at 2 rfl; have c3 := A.out.at 3 rfl; have d0 := E.out.at 0 rfl; have d1 := E.out.at 1 rfl; have d2 := E.out.at 2 rfl; clear hb hf1))
    all_goals
      clear V
      go_wp2_with fail
      refine (toRod_any a b c d r _ (R.out _ Bw.out) HL.out).mono ?_
      rintro _ w4 ⟨x0, x1, x2, x3, rfl, hp, V, hb⟩
      have V := Lib.hid V
      (first | (have Bw := Lib.hid (below_step Bw.out hb)) | (have Bw := Lib.hid (below_step Bw.out (below_undrew hb)))); (first | (have A := Lib.hid (A.out.kept hb)) | (have A := Lib.hid (A.out.kept (below_undrew hb)))); (first | (have E := Lib.hid (E.out.kept hb)) | (have E := Lib.hid (E.out.kept (below_undrew hb)))); have c0 := A.out.at 0 rfl; have c1 := A.out.at 1 rfl; have c2 := A.out.at 2 rfl; have c3 := A.out.at 3 rfl; have d0 := E.out.at 0 rfl; have d1 := E.out.at 1 rfl; have d2 := E.out.at 2 rfl; clear hb hp
      have X := Lib.hid (Cells.made w4 [sl x0 r.W, sl x1 r.E, sl x2 r.H, sl x3 r.T] 27)
      have V := Lib.hid (V.out.kept (below_al1 w4 (.cells [sl x0 r.W, sl x1 r.E, sl x2 r.H, sl x3 r.T].toArray 27)))
      have A := Lib.hid (A.out.kept (below_al1 w4 (.cells [sl x0 r.W, sl x1 r.E, sl x2 r.H, sl x3 r.T].toArray 27)))
      have E := Lib.hid (E.out.kept (below_al1 w4 (.cells [sl x0 r.W, sl x1 r.E, sl x2 r.H, sl x3 r.T].toArray 27)))
      have Bw := Lib.hid (below_step Bw.out (below_al1 w4 (.cells [sl x0 r.W, sl x1 r.E, sl x2 r.H, sl x3 r.T].toArray 27)))
      have c0 := A.out.at 0 rfl; have c1 := A.out.at 1 rfl; have c2 := A.out.at 2 rfl; have c3 := A.out.at 3 rfl
      have d0 := E.out.at 0 rfl; have d1 := E.out.at 1 rfl; have d2 := E.out.at 2 rfl
      have g0 := X.out.at 0 rfl; have g1 := X.out.at 1 rfl; have g2 := X.out.at 2 rfl; have g3 := X.out.at 3 rfl
      go_wp2_with fail
      go_region_held3 (fun w' => w'.cell? ⟨w.heap.size + 1, 0, none⟩ = some (.int .i64 k) ∧ w'.cell? ⟨w.heap.size + 1, 1, none⟩ = some (.float .f32 x) ∧ w'.cell? ⟨w.heap.size + 1, 2, none⟩ = some (.float .f32 y) ∧ w'.cell? ⟨w4.heap.size, 0, none⟩ = some (sl x0 r.W) ∧ w'.cell? ⟨w4.heap.size, 1, none⟩ = some (sl x1 r.E) ∧ w'.cell? ⟨w4.heap.size, 2, none⟩ = some (sl x2 r.H) ∧ w'.cell? ⟨w4.heap.size, 3, none⟩ = some (sl x3 r.T)) (exact ⟨d0, d1, d2, g0, g1, g2, g3⟩)
        (first
        | (go_at_call 23; refine (TE.out _).mono ?_; rintro e w' ⟨rfl, hb⟩; (first | (have Bw := Lib.hid (below_step Bw.out hb)) | (have Bw := Lib.hid (below_step Bw.out (below_undrew hb)))); (first | (have A := Lib.hid (A.out.kept hb)) | (have A := Lib.hid (A.out.kept (below_undrew hb)))); (first | (have E := Lib.hid (E.out.kept hb)) | (have E := Lib.hid (E.out.kept (below_undrew hb)))); (first | (have X := Lib.hid (X.out.kept hb)) | (have X := Lib.hid (X.out.kept (below_undrew hb)))); (try (first | (have V := Lib.hid (V.out.kept hb)) | (have V := Lib.hid (V.out.kept (below_undrew hb))))); have c0 := A.out.at 0 rfl; have c1 := A.out.at 1 rfl; have c2 := A.out.at 2 rfl; have c3 := A.out.at 3 rfl; have d0 := E.out.at 0 rfl; have d1 := E.out.at 1 rfl; have d2 := E.out.at 2 rfl; have g0 := X.out.at 0 rfl; have g1 := X.out.at 1 rfl; have g2 := X.out.at 2 rfl; have g3 := X.out.at 3 rfl; clear hb)
        | (go_at_call 39; refine (IP.out _ _ _ _ _ (V.out.row HL.out)).mono ?_; rintro _ w5 ⟨f2, hf2, rfl, hb⟩; have F2 := Lib.hid (hf2.trans F1.out.symm); (first | (have Bw := Lib.hid (below_step Bw.out hb)) | (have Bw := Lib.hid (below_step Bw.out (below_undrew hb)))); (first | (have A := Lib.hid (A.out.kept hb)) | (have A := Lib.hid (A.out.kept (below_undrew hb)))); (first | (have E := Lib.hid (E.out.kept hb)) | (have E := Lib.hid (E.out.kept (below_undrew hb)))); (first | (have X := Lib.hid (X.out.kept hb)) | (have X := Lib.hid (X.out.kept (below_undrew hb)))); (try (first | (have V := Lib.hid (V.out.kept hb)) | (have V := Lib.hid (V.out.kept (below_undrew hb))))); have c0 := A.out.at 0 rfl; have c1 := A.out.at 1 rfl; have c2 := A.out.at 2 rfl; have c3 := A.out.at 3 rfl; have d0 := E.out.at 0 rfl; have d1 := E.out.at 1 rfl; have d2 := E.out.at 2 rfl; have g0 := X.out.at 0 rfl; have g1 := X.out.at 1 rfl; have g2 := X.out.at 2 rfl; have g3 := X.out.at 3 rfl; clear hb hf2))
      go_wp2_with (first | (refine wpList_up rfl Try.underlying32 Try.underlying44 _ rfl _ rfl ?_; intro _ _ _) | (go_at_call 29; refine (same_end (a := f2) (b := f1) _ (by assumption) (by assumption) F2.out).mono ?_; rintro e w' ⟨rfl, m, rfl⟩))
      generalize w4.heap.size = q at *
      go_region_held3 (fun w' => w'.cell? ⟨w.heap.size, 0, none⟩ = some a ∧ w'.cell? ⟨w.heap.size, 1, none⟩ = some b ∧ w'.cell? ⟨w.heap.size, 2, none⟩ = some c ∧ w'.cell? ⟨w.heap.size, 3, none⟩ = some d ∧ w'.cell? ⟨q, 0, none⟩ = some (sl x0 r.W) ∧ w'.cell? ⟨q, 1, none⟩ = some (sl x1 r.E) ∧ w'.cell? ⟨q, 2, none⟩ = some (sl x2 r.H) ∧ w'.cell? ⟨q, 3, none⟩ = some (sl x3 r.T)) (exact ⟨c0, c1, c2, c3, g0, g1, g2, g3⟩)
        (first
        | (go_at_call 17; refine (toRod_any a b c d r _ (R.out _ (below_drewN Bw.out _)) HL.out).mono ?_; rintro _ w6 ⟨y0, y1, y2, y3, rfl, hp, Z, hb⟩; (first | (have Bw := Lib.hid (below_step Bw.out hb)) | (have Bw := Lib.hid (below_step Bw.out (below_undrew hb)))); (first | (have A := Lib.hid (A.out.kept hb)) | (have A := Lib.hid (A.out.kept (below_undrew hb)))); (first | (have E := Lib.hid (E.out.kept hb)) | (have E := Lib.hid (E.out.kept (below_undrew hb)))); (first | (have X := Lib.hid (X.out.kept hb)) | (have X := Lib.hid (X.out.kept (below_undrew hb)))); (try (first | (have V := Lib.hid (V.out.kept hb)) | (have V := Lib.hid (V.out.kept (below_undrew hb))))); have c0 := A.out.at 0 rfl; have c1 := A.out.at 1 rfl; have c2 := A.out.at 2 rfl; have c3 := A.out.at 3 rfl; have d0 := E.out.at 0 rfl; have d1 := E.out.at 1 rfl; have d2 := E.out.at 2 rfl; have g0 := X.out.at 0 rfl; have g1 := X.out.at 1 rfl; have g2 := X.out.at 2 rfl; have g3 := X.out.at 3 rfl; have Z := Lib.hid Z; clear hp hb)
        | (go_at_call 19; refine (eqRod_any _ _ _ _ _ _ _ _ r r _ (V.out.row HL.out) (Z.out.row HL.out) (.refl r)).mono ?_; rintro _ w7 ⟨rfl, hb⟩; (first | (have Bw := Lib.hid (below_step Bw.out hb)) | (have Bw := Lib.hid (below_step Bw.out (below_undrew hb)))); (first | (have A := Lib.hid (A.out.kept hb)) | (have A := Lib.hid (A.out.kept (below_undrew hb)))); (first | (have E := Lib.hid (E.out.kept hb)) | (have E := Lib.hid (E.out.kept (below_undrew hb)))); (first | (have X := Lib.hid (X.out.kept hb)) | (have X := Lib.hid (X.out.kept (below_undrew hb)))); (try (first | (have V := Lib.hid (V.out.kept hb)) | (have V := Lib.hid (V.out.kept (below_undrew hb))))); have c0 := A.out.at 0 rfl; have c1 := A.out.at 1 rfl; have c2 := A.out.at 2 rfl; have c3 := A.out.at 3 rfl; have d0 := E.out.at 0 rfl; have d1 := E.out.at 1 rfl; have d2 := E.out.at 2 rfl; have g0 := X.out.at 0 rfl; have g1 := X.out.at 1 rfl; have g2 := X.out.at 2 rfl; have g3 := X.out.at 3 rfl; clear hb))
      all_goals
        go_wp2
        go_ret
        exact Tru.below Bw.out
  · have HL := Lib.hid (Nat.lt_of_not_le hl)
    clear hl
    go_enter Try.func12, Try.ntmps12
    go_wp2_with fail
    refine (szRod_over a b c d r 1048576 _ (R.out _ Bw.out) HL.out (Nat.le_refl _)).mono ?_
    rintro _ w1 ⟨rfl, hb⟩
    (first | (have Bw := Lib.hid (below_step Bw.out hb)) | (have Bw := Lib.hid (below_step Bw.out (below_undrew hb)))); clear hb
    go_wp2
    go_ret
    exact Tru.below Bw.out

end Go.Proofs.Ytplepddciilbdaa
