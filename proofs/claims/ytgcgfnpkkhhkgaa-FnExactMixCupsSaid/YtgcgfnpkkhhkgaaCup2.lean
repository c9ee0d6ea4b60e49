/- Cups mixed, heated, and what is molten in them: both sides. -/
import Derived.Test.YtgcgfnpkkhhkgaaCup
namespace Go.Proofs.Ytgcgfnpkkhhkgaa
open Go.RowKit
set_option linter.unusedVariables false

theorem setC2 {w w' : World} {B p : Nat} (h : Below B w w') (hp : B ≤ p) (x0 x1 : Value) : Below B w ((w'.setCell ⟨p, 0, none⟩ x0).setCell ⟨p, 1, none⟩ x1) :=
  (h.setCell (p := ⟨p, 0, none⟩) hp x0).setCell (p := ⟨p, 1, none⟩) hp x1
def mixB (m k m' k' : Int) : Bool := vCup m k && vCup m' k' && vCup (m + m') (k + k')
theorem CupB.no {m k : Int} {b : Bool} {w w' : World} (hb : b = false) (h : Below w.heap.size w w') : CupB m k b w (.returned (.tuple #[.agg #[.int .i64 0, .int .i64 0], .bool false])) w' := by
  subst hb
  exact ⟨rfl, h⟩
theorem CupB.yes {m k : Int} {b : Bool} {w w' : World} (hb : b = true) (h : Below w.heap.size w w') : CupB m k b w (.returned (.tuple #[.agg #[.int .i64 m, .int .i64 k], .bool true])) w' := by
  subst hb
  exact ⟨rfl, h⟩

theorem specMix_any (m k m' k' : Int) (w : World) : Calls Try.prog 18 #[.agg #[.int .i64 m, .int .i64 k], .agg #[.int .i64 m', .int .i64 k']] w (CupB (m + m') (k + k') (mixB m k m' k') w) := by
  have Z : Hid (∀ b, b = mixB m k m' k' → mixB m k m' k' = b) := Lib.hid (fun _ h => h.symm)
  have A := Lib.hid (((Cells.made w [.int .i64 m, .int .i64 k] 25).al (.cells [Value.int .i64 m', .int .i64 k'].toArray 25)).al (.cells [Value.int .i64 0, .int .i64 0].toArray 25))
  have Y := (Cells.made (w.alloc (.cells [Value.int .i64 m, .int .i64 k].toArray 25)) [.int .i64 m', .int .i64 k'] 25).al (.cells [Value.int .i64 0, .int .i64 0].toArray 25)
  rw [show (w.alloc (.cells [Value.int .i64 m, .int .i64 k].toArray 25)).heap.size = w.heap.size + 1 from by simp] at Y
  have Y := Lib.hid Y
  cases h1 : vCup m k
  · have H1 := Lib.hid h1
    clear h1
    go_enter Try.func18, Try.ntmps18
    go_wp2_with fail
    refine (specCup_any m k _ _ (A.out.at 0 rfl) (A.out.at 1 rfl)).mono ?_
    rw [H1.out]
    rintro e w' ⟨rfl, n1, rfl⟩
    go_wp2
    refine bodyPost_ret (v := .tuple #[.agg #[.int .i64 0, .int .i64 0], .bool false]) ?_ rfl ?_
    · rw [results_cell_tmp rfl]
      go_simp
    · exact CupB.no (by unfold mixB; rw [H1.out]; rfl) (by repeat (first | exact Below.refl _ _ | refine Below.setCell ?_ (by first | exact Nat.le_refl _ | (simp; done) | (simp; omega) | omega) _ | refine below_drewN ?_ _ | refine Below.alloc ?_ (by first | exact Nat.le_refl _ | (simp; done) | (simp; omega) | omega) _))
  · cases h2 : vCup m' k'
    · have H1 := Lib.hid h1
      have H2 := Lib.hid h2
      clear h1 h2
      go_enter Try.func18, Try.ntmps18
      go_wp2_with fail
      refine (specCup_any m k _ _ (A.out.at 0 rfl) (A.out.at 1 rfl)).mono ?_
      rw [H1.out]
      rintro e w' ⟨rfl, n1, rfl⟩
      go_wp2_with fail
      refine (specCup_any m' k' _ _ (Y.out.drewN.at 0 rfl) (Y.out.drewN.at 1 rfl)).mono ?_
      rw [H2.out]
      rintro e w' ⟨rfl, n2, rfl⟩
      go_wp2
      refine bodyPost_ret (v := .tuple #[.agg #[.int .i64 0, .int .i64 0], .bool false]) ?_ rfl ?_
      · rw [results_cell_tmp rfl]
        go_simp
      · exact CupB.no (by unfold mixB; rw [H1.out, H2.out]; rfl) (by repeat (first | exact Below.refl _ _ | refine Below.setCell ?_ (by first | exact Nat.le_refl _ | (simp; done) | (simp; omega) | omega) _ | refine below_drewN ?_ _ | refine Below.alloc ?_ (by first | exact Nat.le_refl _ | (simp; done) | (simp; omega) | omega) _))
    · obtain ⟨a1, a2, a3, a4⟩ := vCup_iff h1
      obtain ⟨b1, b2, b3, b4⟩ := vCup_iff h2
      have H1 := Lib.hid h1
      have H2 := Lib.hid h2
      clear h1 h2
      have X := Cells.made ((w.alloc (.cells [Value.int .i64 m, .int .i64 k].toArray 25)).alloc (.cells [Value.int .i64 m', .int .i64 k'].toArray 25)) [.int .i64 0, .int .i64 0] 25
      rw [show ((w.alloc (.cells [Value.int .i64 m, .int .i64 k].toArray 25)).alloc (.cells [Value.int .i64 m', .int .i64 k'].toArray 25)).heap.size = w.heap.size + 1 + 1 from by simp] at X
      have X := Lib.hid X
      have Bw := Lib.hid (below_al3 w (.cells [Value.int .i64 m, .int .i64 k].toArray 25) (.cells [Value.int .i64 m', .int .i64 k'].toArray 25) (.cells [Value.int .i64 0, .int .i64 0].toArray 25))
      cases h3 : vCup (m + m') (k + k')
      · have H3 := Lib.hid h3
        clear h3
        go_enter Try.func18, Try.ntmps18
        go_wp2_with fail
        refine (specCup_any m k _ _ (A.out.at 0 rfl) (A.out.at 1 rfl)).mono ?_
        rw [H1.out]
        rintro e w' ⟨rfl, n1, rfl⟩
        go_wp2_with fail
        refine (specCup_any m' k' _ _ (Y.out.drewN.at 0 rfl) (Y.out.drewN.at 1 rfl)).mono ?_
        rw [H2.out]
        rintro e w' ⟨rfl, n2, rfl⟩
        go_wp2_with fail
        refine (specGiveC_any _ _ _).mono ?_
        unfold CupB
        rw [H3.out]
        rintro e w3 ⟨rfl, hb⟩
        (first | (have Bw := Lib.hid (below_step Bw.out hb)) | (have Bw := Lib.hid (below_step Bw.out (below_undrew hb))) | (have Bw := Lib.hid (below_step Bw.out (below_unal hb))) | (have Bw := Lib.hid (below_step Bw.out (below_unal (below_undrew hb)))) | (have Bw := Lib.hid (below_step Bw.out (below_undrew (below_unal hb)))) | (have Bw := Lib.hid (below_step Bw.out (below_unal (below_unal hb)))))
        (first | (have X := Lib.hid (X.out.kept hb)) | (have X := Lib.hid (X.out.kept (below_undrew hb))) | (have X := Lib.hid (X.out.kept (below_unal hb))) | (have X := Lib.hid (X.out.kept (below_unal (below_undrew hb)))) | (have X := Lib.hid (X.out.kept (below_undrew (below_unal hb)))) | (have X := Lib.hid (X.out.kept (below_unal (below_unal hb)))))
        have r0 := X.out.at 0 rfl
        have r1 := X.out.at 1 rfl
        have rf := X.out.fz
        clear hb
        go_wp2
        refine bodyPost_ret (v := .tuple #[.agg #[.int .i64 0, .int .i64 0], .bool false]) ?_ rfl ?_
        · rw [results_cell_tmp rfl]
          go_simp
        · exact CupB.no (by unfold mixB; rw [H1.out, H2.out, H3.out]; rfl) (by repeat (first | exact Bw.out | exact Below.refl _ _ | refine Below.setCell ?_ (by first | exact Nat.le_refl _ | (simp; done) | (simp; omega) | omega) _ | refine below_drewN ?_ _ | refine Below.alloc ?_ (by first | exact Nat.le_refl _ | (simp; done) | (simp; omega) | omega) _))
      · have H3 := Lib.hid h3
        clear h3
        go_enter Try.func18, Try.ntmps18
        go_wp2_with fail
        refine (specCup_any m k _ _ (A.out.at 0 rfl) (A.out.at 1 rfl)).mono ?_
        rw [H1.out]
        rintro e w' ⟨rfl, n1, rfl⟩
        go_wp2_with fail
        refine (specCup_any m' k' _ _ (Y.out.drewN.at 0 rfl) (Y.out.drewN.at 1 rfl)).mono ?_
        rw [H2.out]
        rintro e w' ⟨rfl, n2, rfl⟩
        go_wp2_with fail
        refine (specGiveC_any _ _ _).mono ?_
        unfold CupB
        rw [H3.out]
        rintro e w3 ⟨rfl, hb⟩
        (first | (have Bw := Lib.hid (below_step Bw.out hb)) | (have Bw := Lib.hid (below_step Bw.out (below_undrew hb))) | (have Bw := Lib.hid (below_step Bw.out (below_unal hb))) | (have Bw := Lib.hid (below_step Bw.out (below_unal (below_undrew hb)))) | (have Bw := Lib.hid (below_step Bw.out (below_undrew (below_unal hb)))) | (have Bw := Lib.hid (below_step Bw.out (below_unal (below_unal hb)))))
        (first | (have X := Lib.hid (X.out.kept hb)) | (have X := Lib.hid (X.out.kept (below_undrew hb))) | (have X := Lib.hid (X.out.kept (below_unal hb))) | (have X := Lib.hid (X.out.kept (below_unal (below_undrew hb)))) | (have X := Lib.hid (X.out.kept (below_undrew (below_unal hb)))) | (have X := Lib.hid (X.out.kept (below_unal (below_unal hb)))))
        have r0 := X.out.at 0 rfl
        have r1 := X.out.at 1 rfl
        have rf := X.out.fz
        clear hb
        go_wp2
        refine bodyPost_ret (v := .tuple #[.agg #[.int .i64 (m + m'), .int .i64 (k + k')], .bool true]) ?_ rfl ?_
        · rw [results_cell_tmp rfl]
          go_simp
        · exact CupB.yes (by unfold mixB; rw [H1.out, H2.out, H3.out]; rfl) (by repeat (first | exact Bw.out | exact Below.refl _ _ | refine Below.setCell ?_ (by first | exact Nat.le_refl _ | (simp; done) | (simp; omega) | omega) _ | refine below_drewN ?_ _ | refine Below.alloc ?_ (by first | exact Nat.le_refl _ | (simp; done) | (simp; omega) | omega) _))
theorem implMix_any (m k m' k' : Int) (w : World) : Calls Try.prog 19 #[.agg #[.int .i64 m, .int .i64 k], .agg #[.int .i64 m', .int .i64 k']] w (CupB (m + m') (k + k') (mixB m k m' k') w) := by
  have Z : Hid (∀ b, b = mixB m k m' k' → mixB m k m' k' = b) := Lib.hid (fun _ h => h.symm)
  have A := Lib.hid (((Cells.made w [.int .i64 m, .int .i64 k] 25).al (.cells [Value.int .i64 m', .int .i64 k'].toArray 25)).al (.cells [Value.int .i64 0, .int .i64 0].toArray 25))
  have Y := (Cells.made (w.alloc (.cells [Value.int .i64 m, .int .i64 k].toArray 25)) [.int .i64 m', .int .i64 k'] 25).al (.cells [Value.int .i64 0, .int .i64 0].toArray 25)
  rw [show (w.alloc (.cells [Value.int .i64 m, .int .i64 k].toArray 25)).heap.size = w.heap.size + 1 from by simp] at Y
  have Y := Lib.hid Y
  cases h1 : vCup m k
  · have H1 := Lib.hid h1
    clear h1
    go_enter Try.func19, Try.ntmps19
    go_wp2_with fail
    refine (implVCup_any m k _).mono ?_
    rw [H1.out]
    rintro e w' ⟨rfl, rfl⟩
    go_wp2
    refine bodyPost_ret (v := .tuple #[.agg #[.int .i64 0, .int .i64 0], .bool false]) ?_ rfl ?_
    · rw [results_cell_tmp rfl]
      go_simp
    · exact CupB.no (by unfold mixB; rw [H1.out]; rfl) (by repeat (first | exact Below.refl _ _ | refine Below.setCell ?_ (by first | exact Nat.le_refl _ | (simp; done) | (simp; omega) | omega) _ | refine below_drewN ?_ _ | refine Below.alloc ?_ (by first | exact Nat.le_refl _ | (simp; done) | (simp; omega) | omega) _))
  · cases h2 : vCup m' k'
    · have H1 := Lib.hid h1
      have H2 := Lib.hid h2
      clear h1 h2
      go_enter Try.func19, Try.ntmps19
      go_wp2_with fail
      refine (implVCup_any m k _).mono ?_
      rw [H1.out]
      rintro e w' ⟨rfl, rfl⟩
      go_wp2_with fail
      refine (implVCup_any m' k' _).mono ?_
      rw [H2.out]
      rintro e w' ⟨rfl, rfl⟩
      go_wp2
      refine bodyPost_ret (v := .tuple #[.agg #[.int .i64 0, .int .i64 0], .bool false]) ?_ rfl ?_
      · rw [results_cell_tmp rfl]
        go_simp
      · exact CupB.no (by unfold mixB; rw [H1.out, H2.out]; rfl) (by repeat (first | exact Below.refl _ _ | refine Below.setCell ?_ (by first | exact Nat.le_refl _ | (simp; done) | (simp; omega) | omega) _ | refine below_drewN ?_ _ | refine Below.alloc ?_ (by first | exact Nat.le_refl _ | (simp; done) | (simp; omega) | omega) _))
    · obtain ⟨a1, a2, a3, a4⟩ := vCup_iff h1
      obtain ⟨b1, b2, b3, b4⟩ := vCup_iff h2
      have H1 := Lib.hid h1
      have H2 := Lib.hid h2
      clear h1 h2
      have X := Cells.made ((w.alloc (.cells [Value.int .i64 m, .int .i64 k].toArray 25)).alloc (.cells [Value.int .i64 m', .int .i64 k'].toArray 25)) [.int .i64 0, .int .i64 0] 25
      rw [show ((w.alloc (.cells [Value.int .i64 m, .int .i64 k].toArray 25)).alloc (.cells [Value.int .i64 m', .int .i64 k'].toArray 25)).heap.size = w.heap.size + 1 + 1 from by simp] at X
      have X := Lib.hid X
      have Bw := Lib.hid (below_al3 w (.cells [Value.int .i64 m, .int .i64 k].toArray 25) (.cells [Value.int .i64 m', .int .i64 k'].toArray 25) (.cells [Value.int .i64 0, .int .i64 0].toArray 25))
      cases h3 : vCup (m + m') (k + k')
      · have H3 := Lib.hid h3
        clear h3
        go_enter Try.func19, Try.ntmps19
        go_wp2_with fail
        refine (implVCup_any m k _).mono ?_
        rw [H1.out]
        rintro e w' ⟨rfl, rfl⟩
        go_wp2_with fail
        refine (implVCup_any m' k' _).mono ?_
        rw [H2.out]
        rintro e w' ⟨rfl, rfl⟩
        go_wp2_with fail
        refine (implGiveC_any _ _ _).mono ?_
        unfold CupB
        rw [H3.out]
        rintro e w3 ⟨rfl, hb⟩
        (first | (have Bw := Lib.hid (below_step Bw.out hb)) | (have Bw := Lib.hid (below_step Bw.out (below_undrew hb))) | (have Bw := Lib.hid (below_step Bw.out (below_unal hb))) | (have Bw := Lib.hid (below_step Bw.out (below_unal (below_undrew hb)))) | (have Bw := Lib.hid (below_step Bw.out (below_undrew (below_unal hb)))) | (have Bw := Lib.hid (below_step Bw.out (below_unal (below_unal hb)))))
        (first | (have X := Lib.hid (X.out.kept hb)) | (have X := Lib.hid (X.out.kept (below_undrew hb))) | (have X := Lib.hid (X.out.kept (below_unal hb))) | (have X := Lib.hid (X.out.kept (below_unal (below_undrew hb)))) | (have X := Lib.hid (X.out.kept (below_undrew (below_unal hb)))) | (have X := Lib.hid (X.out.kept (below_unal (below_unal hb)))))
        have r0 := X.out.at 0 rfl
        have r1 := X.out.at 1 rfl
        have rf := X.out.fz
        clear hb
        go_wp2
        refine bodyPost_ret (v := .tuple #[.agg #[.int .i64 0, .int .i64 0], .bool false]) ?_ rfl ?_
        · rw [results_cell_tmp rfl]
          go_simp
        · exact CupB.no (by unfold mixB; rw [H1.out, H2.out, H3.out]; rfl) (by repeat (first | exact Bw.out | exact Below.refl _ _ | refine Below.setCell ?_ (by first | exact Nat.le_refl _ | (simp; done) | (simp; omega) | omega) _ | refine below_drewN ?_ _ | refine Below.alloc ?_ (by first | exact Nat.le_refl _ | (simp; done) | (simp; omega) | omega) _))
      · have H3 := Lib.hid h3
        clear h3
        go_enter Try.func19, Try.ntmps19
        go_wp2_with fail
        refine (implVCup_any m k _).mono ?_
        rw [H1.out]
        rintro e w' ⟨rfl, rfl⟩
        go_wp2_with fail
        refine (implVCup_any m' k' _).mono ?_
        rw [H2.out]
        rintro e w' ⟨rfl, rfl⟩
        go_wp2_with fail
        refine (implGiveC_any _ _ _).mono ?_
        unfold CupB
        rw [H3.out]
        rintro e w3 ⟨rfl, hb⟩
        (first | (have Bw := Lib.hid (below_step Bw.out hb)) | (have Bw := Lib.hid (below_step Bw.out (below_undrew hb))) | (have Bw := Lib.hid (below_step Bw.out (below_unal hb))) | (have Bw := Lib.hid (below_step Bw.out (below_unal (below_undrew hb)))) | (have Bw := Lib.hid (below_step Bw.out (below_undrew (below_unal hb)))) | (have Bw := Lib.hid (below_step Bw.out (below_unal (below_unal hb)))))
        (first | (have X := Lib.hid (X.out.kept hb)) | (have X := Lib.hid (X.out.kept (below_undrew hb))) | (have X := Lib.hid (X.out.kept (below_unal hb))) | (have X := Lib.hid (X.out.kept (below_unal (below_undrew hb)))) | (have X := Lib.hid (X.out.kept (below_undrew (below_unal hb)))) | (have X := Lib.hid (X.out.kept (below_unal (below_unal hb)))))
        have r0 := X.out.at 0 rfl
        have r1 := X.out.at 1 rfl
        have rf := X.out.fz
        clear hb
        go_wp2
        refine bodyPost_ret (v := .tuple #[.agg #[.int .i64 (m + m'), .int .i64 (k + k')], .bool true]) ?_ rfl ?_
        · rw [results_cell_tmp rfl]
          go_simp
        · exact CupB.yes (by unfold mixB; rw [H1.out, H2.out, H3.out]; rfl) (by repeat (first | exact Bw.out | exact Below.refl _ _ | refine Below.setCell ?_ (by first | exact Nat.le_refl _ | (simp; done) | (simp; omega) | omega) _ | refine below_drewN ?_ _ | refine Below.alloc ?_ (by first | exact Nat.le_refl _ | (simp; done) | (simp; omega) | omega) _))
def byOk (d : Int) : Bool := decide (-1000000000 ≤ d) && decide (d ≤ 1000000000)
def heatB (m k d : Int) : Bool := vCup m k && byOk d && vCup m (k + d)
theorem specHeat_any (m k d : Int) (w : World) : Calls Try.prog 21 #[.agg #[.int .i64 m, .int .i64 k], .int .i64 d] w (CupB m (k + d) (heatB m k d) w) := by
  have A := Lib.hid ((Cells.made w [.int .i64 m, .int .i64 k] 25).al (.cells [Value.int .i64 0, .int .i64 0].toArray 25))
  cases h1 : vCup m k
  · have H1 := Lib.hid h1
    clear h1
    go_enter Try.func21, Try.ntmps21
    go_wp2_with fail
    refine (specCup_any m k _ _ (A.out.at 0 rfl) (A.out.at 1 rfl)).mono ?_
    rw [H1.out]
    rintro e w' ⟨rfl, n1, rfl⟩
    go_wp2
    refine bodyPost_ret (v := .tuple #[.agg #[.int .i64 0, .int .i64 0], .bool false]) ?_ rfl ?_
    · rw [results_cell_tmp rfl]
      go_simp
    · exact CupB.no (by unfold heatB; rw [H1.out]; rfl) (by repeat (first | exact Below.refl _ _ | refine Below.setCell ?_ (by first | exact Nat.le_refl _ | (simp; done) | (simp; omega) | omega) _ | refine below_drewN ?_ _ | refine Below.alloc ?_ (by first | exact Nat.le_refl _ | (simp; done) | (simp; omega) | omega) _))
  · cases h2 : byOk d
    · have H1 := Lib.hid h1
      have H2 : Hid ((decide (-1000000000 ≤ d) && decide (d ≤ 1000000000)) = false) := Lib.hid h2
      have h4 : byOk d = false := h2
      clear h1
      have H4 := Lib.hid h4
      clear h2 h4
      go_enter Try.func21, Try.ntmps21
      go_wp2_with fail
      refine (specCup_any m k _ _ (A.out.at 0 rfl) (A.out.at 1 rfl)).mono ?_
      rw [H1.out]
      rintro e w' ⟨rfl, n1, rfl⟩
      go_wp2_with fail
      refine (in_bol d (-1000000000) 1000000000 _ H2.out _).mono ?_
      rintro e w' ⟨rfl, n2, rfl⟩
      go_wp2
      refine bodyPost_ret (v := .tuple #[.agg #[.int .i64 0, .int .i64 0], .bool false]) ?_ rfl ?_
      · rw [results_cell_tmp rfl]
        go_simp
      · exact CupB.no (by unfold heatB; rw [H1.out, H4.out]; rfl) (by repeat (first | exact Below.refl _ _ | refine Below.setCell ?_ (by first | exact Nat.le_refl _ | (simp; done) | (simp; omega) | omega) _ | refine below_drewN ?_ _ | refine Below.alloc ?_ (by first | exact Nat.le_refl _ | (simp; done) | (simp; omega) | omega) _))
    · obtain ⟨a1, a2, a3, a4⟩ := vCup_iff h1
      obtain ⟨b1, b2⟩ : -1000000000 ≤ d ∧ d ≤ 1000000000 := by unfold byOk at h2; simpa using h2
      have H2 : Hid ((decide (-1000000000 ≤ d) && decide (d ≤ 1000000000)) = true) := Lib.hid h2
      have H4 := Lib.hid h2
      have H1 := Lib.hid h1
      clear h1 h2
      have X := Cells.made (w.alloc (.cells [Value.int .i64 m, .int .i64 k].toArray 25)) [.int .i64 0, .int .i64 0] 25
      rw [show (w.alloc (.cells [Value.int .i64 m, .int .i64 k].toArray 25)).heap.size = w.heap.size + 1 from by simp] at X
      have X := Lib.hid X
      have Bw := Lib.hid (below_al2 w (.cells [Value.int .i64 m, .int .i64 k].toArray 25) (.cells [Value.int .i64 0, .int .i64 0].toArray 25))
      cases h3 : vCup m (k + d)
      · have H3 := Lib.hid h3
        clear h3
        go_enter Try.func21, Try.ntmps21
        go_wp2_with fail
        refine (specCup_any m k _ _ (A.out.at 0 rfl) (A.out.at 1 rfl)).mono ?_
        rw [H1.out]
        rintro e w' ⟨rfl, n1, rfl⟩
        go_wp2_with fail
        refine (in_bol d (-1000000000) 1000000000 _ H2.out _).mono ?_
        rintro e w' ⟨rfl, n2, rfl⟩
        go_wp2_with fail
        refine (specGiveC_any _ _ _).mono ?_
        unfold CupB
        rw [H3.out]
        rintro e w3 ⟨rfl, hb⟩
        (first | (have Bw := Lib.hid (below_step Bw.out hb)) | (have Bw := Lib.hid (below_step Bw.out (below_undrew hb))) | (have Bw := Lib.hid (below_step Bw.out (below_unal hb))) | (have Bw := Lib.hid (below_step Bw.out (below_unal (below_undrew hb)))) | (have Bw := Lib.hid (below_step Bw.out (below_undrew (below_unal hb)))) | (have Bw := Lib.hid (below_step Bw.out (below_unal (below_unal hb)))))
        (first | (have X := Lib.hid (X.out.kept hb)) | (have X := Lib.hid (X.out.kept (below_undrew hb))) | (have X := Lib.hid (X.out.kept (below_unal hb))) | (have X := Lib.hid (X.out.kept (below_unal (below_undrew hb)))) | (have X := Lib.hid (X.out.kept (below_undrew (below_unal hb)))) | (have X := Lib.hid (X.out.kept (below_unal (below_unal hb)))))
        have r0 := X.out.at 0 rfl
        have r1 := X.out.at 1 rfl
        have rf := X.out.fz
        clear hb
        go_wp2
        refine bodyPost_ret (v := .tuple #[.agg #[.int .i64 0, .int .i64 0], .bool false]) ?_ rfl ?_
        · rw [results_cell_tmp rfl]
          go_simp
        · exact CupB.no (by unfold heatB; rw [H1.out, H4.out, H3.out]; rfl) (by repeat (first | exact Bw.out | exact Below.refl _ _ | refine Below.setCell ?_ (by first | exact Nat.le_refl _ | (simp; done) | (simp; omega) | omega) _ | refine below_drewN ?_ _ | refine Below.alloc ?_ (by first | exact Nat.le_refl _ | (simp; done) | (simp; omega) | omega) _))
      · have H3 := Lib.hid h3
        clear h3
        go_enter Try.func21, Try.ntmps21
        go_wp2_with fail
        refine (specCup_any m k _ _ (A.out.at 0 rfl) (A.out.at 1 rfl)).mono ?_
        rw [H1.out]
        rintro e w' ⟨rfl, n1, rfl⟩
        go_wp2_with fail
        refine (in_bol d (-1000000000) 1000000000 _ H2.out _).mono ?_
        rintro e w' ⟨rfl, n2, rfl⟩
        go_wp2_with fail
        refine (specGiveC_any _ _ _).mono ?_
        unfold CupB
        rw [H3.out]
        rintro e w3 ⟨rfl, hb⟩
        (first | (have Bw := Lib.hid (below_step Bw.out hb)) | (have Bw := Lib.hid (below_step Bw.out (below_undrew hb))) | (have Bw := Lib.hid (below_step Bw.out (below_unal hb))) | (have Bw := Lib.hid (below_step Bw.out (below_unal (below_undrew hb)))) | (have Bw := Lib.hid (below_step Bw.out (below_undrew (below_unal hb)))) | (have Bw := Lib.hid (below_step Bw.out (below_unal (below_unal hb)))))
        (first | (have X := Lib.hid (X.out.kept hb)) | (have X := Lib.hid (X.out.kept (below_undrew hb))) | (have X := Lib.hid (X.out.kept (below_unal hb))) | (have X := Lib.hid (X.out.kept (below_unal (below_undrew hb)))) | (have X := Lib.hid (X.out.kept (below_undrew (below_unal hb)))) | (have X := Lib.hid (X.out.kept (below_unal (below_unal hb)))))
        have r0 := X.out.at 0 rfl
        have r1 := X.out.at 1 rfl
        have rf := X.out.fz
        clear hb
        go_wp2
        refine bodyPost_ret (v := .tuple #[.agg #[.int .i64 m, .int .i64 (k + d)], .bool true]) ?_ rfl ?_
        · rw [results_cell_tmp rfl]
          go_simp
        · exact CupB.yes (by unfold heatB; rw [H1.out, H4.out, H3.out]; rfl) (by repeat (first | exact Bw.out | exact Below.refl _ _ | refine Below.setCell ?_ (by first | exact Nat.le_refl _ | (simp; done) | (simp; omega) | omega) _ | refine below_drewN ?_ _ | refine Below.alloc ?_ (by first | exact Nat.le_refl _ | (simp; done) | (simp; omega) | omega) _))
theorem implHeat_any (m k d : Int) (w : World) : Calls Try.prog 22 #[.agg #[.int .i64 m, .int .i64 k], .int .i64 d] w (CupB m (k + d) (heatB m k d) w) := by
  have A := Lib.hid ((Cells.made w [.int .i64 m, .int .i64 k] 25).al (.cells [Value.int .i64 0, .int .i64 0].toArray 25))
  cases h1 : vCup m k
  · have H1 := Lib.hid h1
    clear h1
    go_enter Try.func22, Try.ntmps22
    go_wp2_with fail
    refine (implVCup_any m k _).mono ?_
    rw [H1.out]
    rintro e w' ⟨rfl, rfl⟩
    go_wp2
    refine bodyPost_ret (v := .tuple #[.agg #[.int .i64 0, .int .i64 0], .bool false]) ?_ rfl ?_
    · rw [results_cell_tmp rfl]
      go_simp
    · exact CupB.no (by unfold heatB; rw [H1.out]; rfl) (by repeat (first | exact Below.refl _ _ | refine Below.setCell ?_ (by first | exact Nat.le_refl _ | (simp; done) | (simp; omega) | omega) _ | refine below_drewN ?_ _ | refine Below.alloc ?_ (by first | exact Nat.le_refl _ | (simp; done) | (simp; omega) | omega) _))
  · cases h2 : byOk d
    · have H1 := Lib.hid h1
      have H2 : Hid ((decide (-1000000000 ≤ d) && decide (d ≤ 1000000000)) = false) := Lib.hid h2
      have h4 : byOk d = false := h2
      clear h1
      by_cases c1 : d < -1000000000
      all_goals
        have H4 := Lib.hid h4
        have c2 : -1000000000 ≤ d → 1000000000 < d := by intro h; unfold byOk at h2; simp at h2; omega
        try (have c3 : 1000000000 < d := by omega)
        clear h2 h4 c2
        go_enter Try.func22, Try.ntmps22
        go_wp2_with fail
        refine (implVCup_any m k _).mono ?_
        rw [H1.out]
        rintro e w' ⟨rfl, rfl⟩
        go_wp2
        refine bodyPost_ret (v := .tuple #[.agg #[.int .i64 0, .int .i64 0], .bool false]) ?_ rfl ?_
        · rw [results_cell_tmp rfl]
          go_simp
        · exact CupB.no (by unfold heatB; rw [H1.out, H4.out]; rfl) (by repeat (first | exact Below.refl _ _ | refine Below.setCell ?_ (by first | exact Nat.le_refl _ | (simp; done) | (simp; omega) | omega) _ | refine below_drewN ?_ _ | refine Below.alloc ?_ (by first | exact Nat.le_refl _ | (simp; done) | (simp; omega) | omega) _))
    · obtain ⟨a1, a2, a3, a4⟩ := vCup_iff h1
      obtain ⟨b1, b2⟩ : -1000000000 ≤ d ∧ d ≤ 1000000000 := by unfold byOk at h2; simpa using h2
      have H2 : Hid ((decide (-1000000000 ≤ d) && decide (d ≤ 1000000000)) = true) := Lib.hid h2
      have H4 := Lib.hid h2
      have H1 := Lib.hid h1
      clear h1 h2
      have X := Cells.made (w.alloc (.cells [Value.int .i64 m, .int .i64 k].toArray 25)) [.int .i64 0, .int .i64 0] 25
      rw [show (w.alloc (.cells [Value.int .i64 m, .int .i64 k].toArray 25)).heap.size = w.heap.size + 1 from by simp] at X
      have X := Lib.hid X
      have Bw := Lib.hid (below_al2 w (.cells [Value.int .i64 m, .int .i64 k].toArray 25) (.cells [Value.int .i64 0, .int .i64 0].toArray 25))
      cases h3 : vCup m (k + d)
      · have H3 := Lib.hid h3
        clear h3
        go_enter Try.func22, Try.ntmps22
        go_wp2_with fail
        refine (implVCup_any m k _).mono ?_
        rw [H1.out]
        rintro e w' ⟨rfl, rfl⟩
        go_wp2_with fail
        refine (implGiveC_any _ _ _).mono ?_
        unfold CupB
        rw [H3.out]
        rintro e w3 ⟨rfl, hb⟩
        (first | (have Bw := Lib.hid (below_step Bw.out hb)) | (have Bw := Lib.hid (below_step Bw.out (below_undrew hb))) | (have Bw := Lib.hid (below_step Bw.out (below_unal hb))) | (have Bw := Lib.hid (below_step Bw.out (below_unal (below_undrew hb)))) | (have Bw := Lib.hid (below_step Bw.out (below_undrew (below_unal hb)))) | (have Bw := Lib.hid (below_step Bw.out (below_unal (below_unal hb)))))
        (first | (have X := Lib.hid (X.out.kept hb)) | (have X := Lib.hid (X.out.kept (below_undrew hb))) | (have X := Lib.hid (X.out.kept (below_unal hb))) | (have X := Lib.hid (X.out.kept (below_unal (below_undrew hb)))) | (have X := Lib.hid (X.out.kept (below_undrew (below_unal hb)))) | (have X := Lib.hid (X.out.kept (below_unal (below_unal hb)))))
        have r0 := X.out.at 0 rfl
        have r1 := X.out.at 1 rfl
        have rf := X.out.fz
        clear hb
        go_wp2
        refine bodyPost_ret (v := .tuple #[.agg #[.int .i64 0, .int .i64 0], .bool false]) ?_ rfl ?_
        · rw [results_cell_tmp rfl]
          go_simp
        · exact CupB.no (by unfold heatB; rw [H1.out, H4.out, H3.out]; rfl) (by repeat (first | exact Bw.out | exact Below.refl _ _ | refine Below.setCell ?_ (by first | exact Nat.le_refl _ | (simp; done) | (simp; omega) | omega) _ | refine below_drewN ?_ _ | refine Below.alloc ?_ (by first | exact Nat.le_refl _ | (simp; done) | (simp; omega) | omega) _))
      · have H3 := Lib.hid h3
        clear h3
        go_enter Try.func22, Try.ntmps22
        go_wp2_with fail
        refine (implVCup_any m k _).mono ?_
        rw [H1.out]
        rintro e w' ⟨rfl, rfl⟩
        go_wp2_with fail
        refine (implGiveC_any _ _ _).mono ?_
        unfold CupB
        rw [H3.out]
        rintro e w3 ⟨rfl, hb⟩
        (first | (have Bw := Lib.hid (below_step Bw.out hb)) | (have Bw := Lib.hid (below_step Bw.out (below_undrew hb))) | (have Bw := Lib.hid (below_step Bw.out (below_unal hb))) | (have Bw := Lib.hid (below_step Bw.out (below_unal (below_undrew hb)))) | (have Bw := Lib.hid (below_step Bw.out (below_undrew (below_unal hb)))) | (have Bw := Lib.hid (below_step Bw.out (below_unal (below_unal hb)))))
        (first | (have X := Lib.hid (X.out.kept hb)) | (have X := Lib.hid (X.out.kept (below_undrew hb))) | (have X := Lib.hid (X.out.kept (below_unal hb))) | (have X := Lib.hid (X.out.kept (below_unal (below_undrew hb)))) | (have X := Lib.hid (X.out.kept (below_undrew (below_unal hb)))) | (have X := Lib.hid (X.out.kept (below_unal (below_unal hb)))))
        have r0 := X.out.at 0 rfl
        have r1 := X.out.at 1 rfl
        have rf := X.out.fz
        clear hb
        go_wp2
        refine bodyPost_ret (v := .tuple #[.agg #[.int .i64 m, .int .i64 (k + d)], .bool true]) ?_ rfl ?_
        · rw [results_cell_tmp rfl]
          go_simp
        · exact CupB.yes (by unfold heatB; rw [H1.out, H4.out, H3.out]; rfl) (by repeat (first | exact Bw.out | exact Below.refl _ _ | refine Below.setCell ?_ (by first | exact Nat.le_refl _ | (simp; done) | (simp; omega) | omega) _ | refine below_drewN ?_ _ | refine Below.alloc ?_ (by first | exact Nat.le_refl _ | (simp; done) | (simp; omega) | omega) _))
end Go.Proofs.Ytgcgfnpkkhhkgaa
