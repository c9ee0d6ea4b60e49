/- CupQ: of Cup, Cup2, CupG, Cup3, what speaks of the program alone. -/
import Derived.Test.YtgcgfnpkkhhkgacOpen3
import Derived.Test.YtgcgfnpkkhhkgacIn
import Derived.Laws.ResultCell
import Derived.Deep.QuietTactic
import Derived.BigQuiet
import Derived.IntWalk
import Derived.Deep.RegionHeld3
import Derived.BigRegion
import Derived.OwnWalk
namespace Go.Proofs.Ytgcgfnpkkhhkgac
open Go.RowKit
set_option linter.unusedVariables false

def vCup (m k : Int) : Bool := decide (1 ≤ m) && decide (m ≤ 1000000) && (decide (-50 * m ≤ k) && decide (k ≤ 180 * m))
theorem vCup_iff {m k : Int} (h : vCup m k = true) : 1 ≤ m ∧ m ≤ 1000000 ∧ -50 * m ≤ k ∧ k ≤ 180 * m := by
  simp only [vCup, Bool.and_eq_true, decide_eq_true_eq] at h
  exact ⟨h.1.1, h.1.2, h.2.1, h.2.2⟩
/-- a bool; a box was made -/
def Boxed (b : Bool) (m k : Int) (w : World) (e : Ending) (w' : World) : Prop := e = .returned (.bool b) ∧ w' = w.alloc (.cells #[.int .i64 m, .int .i64 k] 70)
theorem implVCup_any (m k : Int) (w : World) : Calls Try.prog 64 #[.agg #[.int .i64 m, .int .i64 k]] w (Boxed (vCup m k) m k w) := by
  by_cases a1 : 1 ≤ m
  · by_cases a2 : m ≤ 1000000
    · by_cases a3 : -50 * m ≤ k
      · go_enter Try.func64, Try.ntmps64
        go_wp2
        go_ret
        exact ⟨by simp [vCup, a1, a2, a3], rfl⟩
      · go_enter Try.func64, Try.ntmps64
        go_wp2
        go_ret
        exact ⟨by simp [vCup]; omega, rfl⟩
    · go_enter Try.func64, Try.ntmps64
      go_wp2
      go_ret
      exact ⟨by simp [vCup]; omega, rfl⟩
  · go_enter Try.func64, Try.ntmps64
    go_wp2
    go_ret
    exact ⟨by simp [vCup]; omega, rfl⟩
/-- a cup and whether it is one; nothing that was there has turned -/
def CupB (m k : Int) (b : Bool) (w : World) (e : Ending) (w' : World) : Prop := e = .returned (.tuple #[bif b then .agg #[.int .i64 m, .int .i64 k] else .agg #[.int .i64 0, .int .i64 0], .bool b]) ∧ Below w.heap.size w w'
theorem implGiveC_any (m k : Int) (w : World) : Calls Try.prog 127 #[.agg #[.int .i64 m, .int .i64 k]] w (CupB m k (vCup m k) w) := by
  cases hv : vCup m k
  · go_enter Try.func127, Try.ntmps127
    go_wp2_with (go_at_call 64; refine (implVCup_any m k _).mono ?_; rw [hv]; rintro e w' ⟨rfl, rfl⟩)
    refine bodyPost_ret (v := .tuple #[.agg #[.int .i64 0, .int .i64 0], .bool false]) ?_ rfl ?_
    · rw [results_cell_tmp rfl]
      go_simp
    · exact ⟨rfl, (by repeat (first | exact Below.refl _ _ | refine Below.setCell ?_ (by first | exact Nat.le_refl _ | (simp; done) | (simp; omega) | omega) _ | refine below_drewN ?_ _ | refine Below.alloc ?_ (by first | exact Nat.le_refl _ | (simp; done) | (simp; omega) | omega) _))⟩
  · go_enter Try.func127, Try.ntmps127
    go_wp2_with (go_at_call 64; refine (implVCup_any m k _).mono ?_; rw [hv]; rintro e w' ⟨rfl, rfl⟩)
    refine bodyPost_ret (v := .tuple #[.agg #[.int .i64 m, .int .i64 k], .bool true]) ?_ rfl ?_
    · rw [results_cell_tmp rfl]
      go_simp
    · exact ⟨rfl, (by repeat (first | exact Below.refl _ _ | refine Below.setCell ?_ (by first | exact Nat.le_refl _ | (simp; done) | (simp; omega) | omega) _ | refine below_drewN ?_ _ | refine Below.alloc ?_ (by first | exact Nat.le_refl _ | (simp; done) | (simp; omega) | omega) _))⟩
theorem setC2 {w w' : World} {B p : Nat} (h : Below B w w') (hp : B ≤ p) (x0 x1 : Value) : Below B w ((w'.setCell ⟨p, 0, none⟩ x0).setCell ⟨p, 1, none⟩ x1) :=
  (h.setCell (p := ⟨p, 0, none⟩) hp x0).setCell (p := ⟨p, 1, none⟩) hp x1
def mixB (m k m' k' : Int) : Bool := vCup m k && vCup m' k' && vCup (m + m') (k + k')
theorem CupB.no {m k : Int} {b : Bool} {w w' : World} (hb : b = false) (h : Below w.heap.size w w') : CupB m k b w (.returned (.tuple #[.agg #[.int .i64 0, .int .i64 0], .bool false])) w' := by
  subst hb
  exact ⟨rfl, h⟩
theorem CupB.yes {m k : Int} {b : Bool} {w w' : World} (hb : b = true) (h : Below w.heap.size w w') : CupB m k b w (.returned (.tuple #[.agg #[.int .i64 m, .int .i64 k], .bool true])) w' := by
  subst hb
  exact ⟨rfl, h⟩
theorem implMix_any (m k m' k' : Int) (w : World) : Calls Try.prog 61 #[.agg #[.int .i64 m, .int .i64 k], .agg #[.int .i64 m', .int .i64 k']] w (CupB (m + m') (k + k') (mixB m k m' k') w) := by
  have Z : Hid (∀ b, b = mixB m k m' k' → mixB m k m' k' = b) := Lib.hid (fun _ h => h.symm)
  have A := Lib.hid (((Cells.made w [.int .i64 m, .int .i64 k] 70).al (.cells [Value.int .i64 m', .int .i64 k'].toArray 70)).al (.cells [Value.int .i64 0, .int .i64 0].toArray 70))
  have Y := (Cells.made (w.alloc (.cells [Value.int .i64 m, .int .i64 k].toArray 70)) [.int .i64 m', .int .i64 k'] 70).al (.cells [Value.int .i64 0, .int .i64 0].toArray 70)
  rw [show (w.alloc (.cells [Value.int .i64 m, .int .i64 k].toArray 70)).heap.size = w.heap.size + 1 from by simp] at Y
  have Y := Lib.hid Y
  cases h1 : vCup m k
  · have H1 := Lib.hid h1
    clear h1
    go_enter Try.func61, Try.ntmps61
    go_wp2_with fail
    refine (implVCup_any m k _).mono ?_
    rw [H1.out]
    rintro e w' ⟨rfl, rfl⟩
    go_wp2
    refine bodyPost_ret (v := .tuple #[.agg #[.int .i64 0, .int .i64 0], .bool false]) ?_ rfl ?_
    · rw [results_cell_tmp rfl]
      go_simp
    · exact CupB.no (by unfold mixB; rw [H1.out]; rfl) (by repeat (first | exact Below.refl _ _ | refine Below.setCell ?_ (by first | exact Nat.le_refl _ | (simp; done) | (simp; omega) | omega) _ | refine below_drewN ?_ _ | refine Below.alloc ?_ (by first | exact Nat.le_refl _ | (simp; done) | (simp; omega) | omega) _))
  · cases h2 : vCup m' k'
    · have H1 := Lib.hid h1
      have H2 := Lib.hid h2
      clear h1 h2
      go_enter Try.func61, Try.ntmps61
      go_wp2_with fail
      refine (implVCup_any m k _).mono ?_
      rw [H1.out]
      rintro e w' ⟨rfl, rfl⟩
      go_wp2_with fail
      refine (implVCup_any m' k' _).mono ?_
      rw [H2.out]
      rintro e w' ⟨rfl, rfl⟩
      go_wp2
      refine bodyPost_ret (v := .tuple #[.agg #[.int .i64 0, .int .i64 0], .bool false]) ?_ rfl ?_
      · rw [results_cell_tmp rfl]
        go_simp
      · exact CupB.no (by unfold mixB; rw [H1.out, H2.out]; rfl) (by repeat (first | exact Below.refl _ _ | refine Below.setCell ?_ (by first | exact Nat.le_refl _ | (simp; done) | (simp; omega) | omega) _ | refine below_drewN ?_ _ | refine Below.alloc ?_ (by first | exact Nat.le_refl _ | (simp; done) | (simp; omega) | omega) _))
    · obtain ⟨a1, a2, a3, a4⟩ := vCup_iff h1
      obtain ⟨b1, b2, b3, b4⟩ := vCup_iff h2
      have H1 := Lib.hid h1
      have H2 := Lib.hid h2
      clear h1 h2
      have X := Cells.made ((w.alloc (.cells [Value.int .i64 m, .int .i64 k].toArray 70)).alloc (.cells [Value.int .i64 m', .int .i64 k'].toArray 70)) [.int .i64 0, .int .i64 0] 70
      rw [show ((w.alloc (.cells [Value.int .i64 m, .int .i64 k].toArray 70)).alloc (.cells [Value.int .i64 m', .int .i64 k'].toArray 70)).heap.size = w.heap.size + 1 + 1 from by simp] at X
      have X := Lib.hid X
      have Bw := Lib.hid (below_al3 w (.cells [Value.int .i64 m, .int .i64 k].toArray 70) (.cells [Value.int .i64 m', .int .i64 k'].toArray 70) (.cells [Value.int .i64 0, .int .i64 0].toArray 70))
      cases h3 : vCup (m + m') (k + k')
      · have H3 := Lib.hid h3
        clear h3
        go_enter Try.func61, Try.ntmps61
        go_wp2_with fail
        refine (implVCup_any m k _).mono ?_
        rw [H1.out]
        rintro e w' ⟨rfl, rfl⟩
        go_wp2_with fail
        refine (implVCup_any m' k' _).mono ?_
        rw [H2.out]
        rintro e w' ⟨rfl, rfl⟩
        go_wp2_with fail
        refine (implGiveC_any _ _ _).mono ?_
        unfold CupB
        rw [H3.out]
        rintro e w3 ⟨rfl, hb⟩
        (first | (have Bw := Lib.hid (below_step Bw.out hb)) | (have Bw := Lib.hid (below_step Bw.out (below_undrew hb))) | (have Bw := Lib.hid (below_step Bw.out (below_unal hb))) | (have Bw := Lib.hid (below_step Bw.out (below_unal (below_undrew hb)))) | (have Bw := Lib.hid (below_step Bw.out (below_undrew (below_unal hb)))) | (have Bw := Lib.hid (below_step Bw.out (below_unal (below_unal hb)))))
        (first | (have X := Lib.hid (X.out.kept hb)) | (have X := Lib.hid (X.out.kept (below_undrew hb))) | (have X := Lib.hid (X.out.kept (below_unal hb))) | (have X := Lib.hid (X.out.kept (below_unal (below_undrew hb)))) | (have X := Lib.hid (X.out.kept (below_undrew (below_unal hb)))) | (have X := Lib.hid (X.out.kept (below_unal (below_unal hb)))))
        have r0 := X.out.at 0 rfl
        have r1 := X.out.at 1 rfl
        have rf := X.out.fz
        clear hb
        go_wp2
        refine bodyPost_ret (v := .tuple #[.agg #[.int .i64 0, .int .i64 0], .bool false]) ?_ rfl ?_
        · rw [results_cell_tmp rfl]
          go_simp
        · exact CupB.no (by unfold mixB; rw [H1.out, H2.out, H3.out]; rfl) (by repeat (first | exact Bw.out | exact Below.refl _ _ | refine Below.setCell ?_ (by first | exact Nat.le_refl _ | (simp; done) | (simp; omega) | omega) _ | refine below_drewN ?_ _ | refine Below.alloc ?_ (by first | exact Nat.le_refl _ | (simp; done) | (simp; omega) | omega) _))
      · have H3 := Lib.hid h3
        clear h3
        go_enter Try.func61, Try.ntmps61
        go_wp2_with fail
        refine (implVCup_any m k _).mono ?_
        rw [H1.out]
        rintro e w' ⟨rfl, rfl⟩
        go_wp2_with fail
        refine (implVCup_any m' k' _).mono ?_
        rw [H2.out]
        rintro e w' ⟨rfl, rfl⟩
        go_wp2_with fail
        refine (implGiveC_any _ _ _).mono ?_
        unfold CupB
        rw [H3.out]
        rintro e w3 ⟨rfl, hb⟩
        (first | (have Bw := Lib.hid (below_step Bw.out hb)) | (have Bw := Lib.hid (below_step Bw.out (below_undrew hb))) | (have Bw := Lib.hid (below_step Bw.out (below_unal hb))) | (have Bw := Lib.hid (below_step Bw.out (below_unal (below_undrew hb)))) | (have Bw := Lib.hid (below_step Bw.out (below_undrew (below_unal hb)))) | (have Bw := Lib.hid (below_step Bw.out (below_unal (below_unal hb)))))
        (first | (have X := Lib.hid (X.out.kept hb)) | (have X := Lib.hid (X.out.kept (below_undrew hb))) | (have X := Lib.hid (X.out.kept (below_unal hb))) | (have X := Lib.hid (X.out.kept (below_unal (below_undrew hb)))) | (have X := Lib.hid (X.out.kept (below_undrew (below_unal hb)))) | (have X := Lib.hid (X.out.kept (below_unal (below_unal hb)))))
        have r0 := X.out.at 0 rfl
        have r1 := X.out.at 1 rfl
        have rf := X.out.fz
        clear hb
        go_wp2
        refine bodyPost_ret (v := .tuple #[.agg #[.int .i64 (m + m'), .int .i64 (k + k')], .bool true]) ?_ rfl ?_
        · rw [results_cell_tmp rfl]
          go_simp
        · exact CupB.yes (by unfold mixB; rw [H1.out, H2.out, H3.out]; rfl) (by repeat (first | exact Bw.out | exact Below.refl _ _ | refine Below.setCell ?_ (by first | exact Nat.le_refl _ | (simp; done) | (simp; omega) | omega) _ | refine below_drewN ?_ _ | refine Below.alloc ?_ (by first | exact Nat.le_refl _ | (simp; done) | (simp; omega) | omega) _))
def byOk (d : Int) : Bool := decide (-1000000000 ≤ d) && decide (d ≤ 1000000000)
def heatB (m k d : Int) : Bool := vCup m k && byOk d && vCup m (k + d)
theorem implHeat_any (m k d : Int) (w : World) : Calls Try.prog 65 #[.agg #[.int .i64 m, .int .i64 k], .int .i64 d] w (CupB m (k + d) (heatB m k d) w) := by
  have A := Lib.hid ((Cells.made w [.int .i64 m, .int .i64 k] 70).al (.cells [Value.int .i64 0, .int .i64 0].toArray 70))
  cases h1 : vCup m k
  · have H1 := Lib.hid h1
    clear h1
    go_enter Try.func65, Try.ntmps65
    go_wp2_with fail
    refine (implVCup_any m k _).mono ?_
    rw [H1.out]
    rintro e w' ⟨rfl, rfl⟩
    go_wp2
    refine bodyPost_ret (v := .tuple #[.agg #[.int .i64 0, .int .i64 0], .bool false]) ?_ rfl ?_
    · rw [results_cell_tmp rfl]
      go_simp
    · exact CupB.no (by unfold heatB; rw [H1.out]; rfl) (by repeat (first | exact Below.refl _ _ | refine Below.setCell ?_ (by first | exact Nat.le_refl _ | (simp; done) | (simp; omega) | omega) _ | refine below_drewN ?_ _ | refine Below.alloc ?_ (by first | exact Nat.le_refl _ | (simp; done) | (simp; omega) | omega) _))
  · cases h2 : byOk d
    · have H1 := Lib.hid h1
      have H2 : Hid ((decide (-1000000000 ≤ d) && decide (d ≤ 1000000000)) = false) := Lib.hid h2
      have h4 : byOk d = false := h2
      clear h1
      by_cases c1 : d < -1000000000
      all_goals
        have H4 := Lib.hid h4
        have c2 : -1000000000 ≤ d → 1000000000 < d := by intro h; unfold byOk at h2; simp at h2; omega
        try (have c3 : 1000000000 < d := by omega)
        clear h2 h4 c2
        go_enter Try.func65, Try.ntmps65
        go_wp2_with fail
        refine (implVCup_any m k _).mono ?_
        rw [H1.out]
        rintro e w' ⟨rfl, rfl⟩
        go_wp2
        refine bodyPost_ret (v := .tuple #[.agg #[.int .i64 0, .int .i64 0], .bool false]) ?_ rfl ?_
        · rw [results_cell_tmp rfl]
          go_simp
        · exact CupB.no (by unfold heatB; rw [H1.out, H4.out]; rfl) (by repeat (first | exact Below.refl _ _ | refine Below.setCell ?_ (by first | exact Nat.le_refl _ | (simp; done) | (simp; omega) | omega) _ | refine below_drewN ?_ _ | refine Below.alloc ?_ (by first | exact Nat.le_refl _ | (simp; done) | (simp; omega) | omega) _))
    · obtain ⟨a1, a2, a3, a4⟩ := vCup_iff h1
      obtain ⟨b1, b2⟩ : -1000000000 ≤ d ∧ d ≤ 1000000000 := by unfold byOk at h2; simpa using h2
      have H2 : Hid ((decide (-1000000000 ≤ d) && decide (d ≤ 1000000000)) = true) := Lib.hid h2
      have H4 := Lib.hid h2
      have H1 := Lib.hid h1
      clear h1 h2
      have X := Cells.made (w.alloc (.cells [Value.int .i64 m, .int .i64 k].toArray 70)) [.int .i64 0, .int .i64 0] 70
      rw [show (w.alloc (.cells [Value.int .i64 m, .int .i64 k].toArray 70)).heap.size = w.heap.size + 1 from by simp] at X
      have X := Lib.hid X
      have Bw := Lib.hid (below_al2 w (.cells [Value.int .i64 m, .int .i64 k].toArray 70) (.cells [Value.int .i64 0, .int .i64 0].toArray 70))
      cases h3 : vCup m (k + d)
      · have H3 := Lib.hid h3
        clear h3
        go_enter Try.func65, Try.ntmps65
        go_wp2_with fail
        refine (implVCup_any m k _).mono ?_
        rw [H1.out]
        rintro e w' ⟨rfl, rfl⟩
        go_wp2_with fail
        refine (implGiveC_any _ _ _).mono ?_
        unfold CupB
        rw [H3.out]
        rintro e w3 ⟨rfl, hb⟩
        (first | (have Bw := Lib.hid (below_step Bw.out hb)) | (have Bw := Lib.hid (below_step Bw.out (below_undrew hb))) | (have Bw := Lib.hid (below_step Bw.out (below_unal hb))) | (have Bw := Lib.hid (below_step Bw.out (below_unal (below_undrew hb)))) | (have Bw := Lib.hid (below_step Bw.out (below_undrew (below_unal hb)))) | (have Bw := Lib.hid (below_step Bw.out (below_unal (below_unal hb)))))
        (first | (have X := Lib.hid (X.out.kept hb)) | (have X := Lib.hid (X.out.kept (below_undrew hb))) | (have X := Lib.hid (X.out.kept (below_unal hb))) | (have X := Lib.hid (X.out.kept (below_unal (below_undrew hb)))) | (have X := Lib.hid (X.out.kept (below_undrew (below_unal hb)))) | (have X := Lib.hid (X.out.kept (below_unal (below_unal hb)))))
        have r0 := X.out.at 0 rfl
        have r1 := X.out.at 1 rfl
        have rf := X.out.fz
        clear hb
        go_wp2
        refine bodyPost_ret (v := .tuple #[.agg #[.int .i64 0, .int .i64 0], .bool false]) ?_ rfl ?_
        · rw [results_cell_tmp rfl]
          go_simp
        · exact CupB.no (by unfold heatB; rw [H1.out, H4.out, H3.out]; rfl) (by repeat (first | exact Bw.out | exact Below.refl _ _ | refine Below.setCell ?_ (by first | exact Nat.le_refl _ | (simp; done) | (simp; omega) | omega) _ | refine below_drewN ?_ _ | refine Below.alloc ?_ (by first | exact Nat.le_refl _ | (simp; done) | (simp; omega) | omega) _))
      · have H3 := Lib.hid h3
        clear h3
        go_enter Try.func65, Try.ntmps65
        go_wp2_with fail
        refine (implVCup_any m k _).mono ?_
        rw [H1.out]
        rintro e w' ⟨rfl, rfl⟩
        go_wp2_with fail
        refine (implGiveC_any _ _ _).mono ?_
        unfold CupB
        rw [H3.out]
        rintro e w3 ⟨rfl, hb⟩
        (first | (have Bw := Lib.hid (below_step Bw.out hb)) | (have Bw := Lib.hid (below_step Bw.out (below_undrew hb))) | (have Bw := Lib.hid (below_step Bw.out (below_unal hb))) | (have Bw := Lib.hid (below_step Bw.out (below_unal (below_undrew hb)))) | (have Bw := Lib.hid (below_step Bw.out (below_undrew (below_unal hb)))) | (have Bw := Lib.hid (below_step Bw.out (below_unal (below_unal hb)))))
        (first | (have X := Lib.hid (X.out.kept hb)) | (have X := Lib.hid (X.out.kept (below_undrew hb))) | (have X := Lib.hid (X.out.kept (below_unal hb))) | (have X := Lib.hid (X.out.kept (below_unal (below_undrew hb)))) | (have X := Lib.hid (X.out.kept (below_undrew (below_unal hb)))) | (have X := Lib.hid (X.out.kept (below_unal (below_unal hb)))))
        have r0 := X.out.at 0 rfl
        have r1 := X.out.at 1 rfl
        have rf := X.out.fz
        clear hb
        go_wp2
        refine bodyPost_ret (v := .tuple #[.agg #[.int .i64 m, .int .i64 (k + d)], .bool true]) ?_ rfl ?_
        · rw [results_cell_tmp rfl]
          go_simp
        · exact CupB.yes (by unfold heatB; rw [H1.out, H4.out, H3.out]; rfl) (by repeat (first | exact Bw.out | exact Below.refl _ _ | refine Below.setCell ?_ (by first | exact Nat.le_refl _ | (simp; done) | (simp; omega) | omega) _ | refine below_drewN ?_ _ | refine Below.alloc ?_ (by first | exact Nat.le_refl _ | (simp; done) | (simp; omega) | omega) _))
def Low (a b : Int) (w : World) (e : Ending) (w' : World) : Prop := e = .returned (.tuple #[.int .i64 (a.tdiv (Int.gcd a b : Int)), .int .i64 (b / (Int.gcd a b : Int))]) ∧ ∃ n, w' = w.drewN n
theorem gcd_pos (a b : Int) (h : 1 ≤ b) : 1 ≤ (Int.gcd a b : Int) := by
  have : 0 < Int.gcd a b := Int.gcd_pos_of_ne_zero_right a (by omega)
  omega
theorem gcd_start {a b x : Int} (hx : x = a ∨ x = -a) (h0 : 0 ≤ x) (hb : 0 ≤ b) : ∃ p q : Nat, x = p ∧ b = q ∧ Nat.gcd p q = Int.gcd a b := by
  refine ⟨x.natAbs, b.natAbs, by omega, by omega, ?_⟩
  unfold Int.gcd
  rcases hx with rfl | rfl
  · rfl
  · rw [Int.natAbs_neg]
set_option maxHeartbeats 800000 in
theorem implLow_any (a b : Int) (w : World) (a0 : -1000000000 ≤ a) (a1 : a ≤ 1000000000) (b0 : 1 ≤ b) (b1 : b ≤ 1000000) :
    Calls Try.prog 128 #[.int .i64 a, .int .i64 b] w (Low a b w) := by
  have G := gcd_pos a b b0
  have S1 : Hid (a ≤ -a → ∃ p q : Nat, -a = p ∧ b = q ∧ Nat.gcd p q = Int.gcd a b) := Lib.hid (fun h => gcd_start (.inr rfl) (by omega) (by omega))
  have S2 : Hid (-a ≤ a → ∃ p q : Nat, a = p ∧ b = q ∧ Nat.gcd p q = Int.gcd a b) := Lib.hid (fun h => gcd_start (.inl rfl) (by omega) (by omega))
  generalize hg : Int.gcd a b = g at *
  have HG := Lib.hid hg
  clear hg
  go_enter Try.func128, Try.ntmps128
  go_wp2
  all_goals
    rename_i h
    go_loopw [6, 7] (fun x y wr => ∃ p q n : Nat, x = .int .i64 (p : Int) ∧ y = .int .i64 (q : Int) ∧ p ≤ 1000000000 ∧ q ≤ 1000000000 ∧ Hid (Nat.gcd p q = g) ∧ wr = w.drewN n) (fun _ y _ => (intOf y).toNat)
    case atStart =>
      first
      | (obtain ⟨p, q, h1, h2, h3⟩ := S1.out (by omega); refine ⟨p, q, 0, congrArg (Value.int .i64) h1, congrArg (Value.int .i64) h2, ?_, ?_, Lib.hid h3, rfl⟩; omega; omega)
      | (obtain ⟨p, q, h1, h2, h3⟩ := S2.out (by omega); refine ⟨p, q, 0, congrArg (Value.int .i64) h1, congrArg (Value.int .i64) h2, ?_, ?_, Lib.hid h3, rfl⟩; omega; omega)
    case round =>
      obtain ⟨p, q, n, rfl, rfl, hp, hq, hgg, rfl⟩ := hrel
      by_cases hz : q = 0
      · subst hz
        have hpg : p = g := by have := hgg.out; rw [Nat.gcd_zero_right] at this; exact this
        subst hpg
        have hp1 : 1 ≤ (p : Int) := G
        have hz1 : ((p : Int) == 0) = false := by simp; omega
        go_wp2
        go_region
        all_goals
          go_wp2
          go_ret2
          refine ⟨?_, n + 1, rfl⟩
          rw [HG.out]
          first | rfl | (rw [Int.tdiv_eq_ediv_of_nonneg (by omega)]; rfl)
      · have hz1 : ((q : Int) == 0) = false := by simp; omega
        have hz2 : ((q : Int) != 0) = true := by simp; omega
        have hm : p % q < q := Nat.mod_lt _ (by omega)
        have HM : Hid (Nat.gcd q (p % q) = g) := Lib.hid (by rw [Nat.gcd_comm, ← Nat.gcd_rec, Nat.gcd_comm]; exact hgg.out)
        go_wp2
        go_region
        go_wp2
        go_roundw
        case rel => exact ⟨q, p % q, n + 1, rfl, by rw [Int.natCast_emod], hq, by omega, HM, rfl⟩
        case measure => simp [intOf]; omega
def meltV (m k : Int) : Int := if k < 0 then 0 else if 80 * m < k then m else k / 80
def IntB (x : Int) (b : Bool) (w : World) (e : Ending) (w' : World) : Prop := e = .returned (.tuple #[.int .i64 (bif b then x else 0), .bool b]) ∧ Below w.heap.size w w'
theorem IntB.mk {x y : Int} {b : Bool} {w w' : World} (hx : (bif b then x else 0) = y) (h : Below w.heap.size w w') : IntB x b w (.returned (.tuple #[.int .i64 y, .bool b])) w' := by subst hx; exact ⟨rfl, h⟩
def warmU (m k : Int) : Int := if k < 0 then 2 * k else if 80 * m < k then k - 80 * m else 0
def WarmB (m k : Int) (b : Bool) (w : World) (e : Ending) (w' : World) : Prop :=
  e = .returned (.tuple #[.int .i64 (bif b then (warmU m k).tdiv (Int.gcd (warmU m k) m : Int) else 0), .int .i64 (bif b then m / (Int.gcd (warmU m k) m : Int) else 0), .bool b]) ∧ Below w.heap.size w w'
theorem WarmB.mk {m k u x y : Int} {w w' : World} (hu : warmU m k = u) (hx : u.tdiv (Int.gcd u m : Int) = x) (hy : m / (Int.gcd u m : Int) = y) (h : Below w.heap.size w w') : WarmB m k true w (.returned (.tuple #[.int .i64 x, .int .i64 y, .bool true])) w' := by
  subst hu hx hy; exact ⟨rfl, h⟩
theorem gcd0 {m : Int} (h : 1 ≤ m) : (Int.gcd 0 m : Int) = m := by rw [Int.gcd_zero_left]; omega
theorem lo_zero {m : Int} (h : 1 ≤ m) : (0 : Int).tdiv (Int.gcd 0 m : Int) = 0 ∧ m / (Int.gcd 0 m : Int) = 1 := by
  rw [gcd0 h]; exact ⟨Int.zero_tdiv _, Int.ediv_self (by omega)⟩
set_option maxHeartbeats 400000 in
theorem implMelt_any (m k : Int) (w : World) : Calls Try.prog 62 #[.agg #[.int .i64 m, .int .i64 k]] w (IntB (meltV m k) (vCup m k) w) := by
  have A := Lib.hid (Cells.made w [.int .i64 m, .int .i64 k] 70)
  cases h1 : vCup m k
  · have H1 := Lib.hid h1
    clear h1
    go_enter Try.func62, Try.ntmps62
    go_wp2_with fail
    refine (implVCup_any m k _).mono ?_
    rw [H1.out]
    rintro e w' ⟨rfl, rfl⟩
    go_wp2
    go_ret2
    exact IntB.mk rfl (by repeat (first | exact Below.refl _ _ | refine Below.setCell ?_ (by first | exact Nat.le_refl _ | (simp; done) | (simp; omega) | omega) _ | refine below_drewN ?_ _ | refine Below.alloc ?_ (by first | exact Nat.le_refl _ | (simp; done) | (simp; omega) | omega) _))
  · obtain ⟨a1, a2, a3, a4⟩ := vCup_iff h1
    have H1 := Lib.hid h1
    clear h1
    by_cases d1 : k < 0
    · have V : Hid (meltV m k = 0) := Lib.hid (by unfold meltV; rw [if_pos d1])
      go_enter Try.func62, Try.ntmps62
      go_wp2_with fail
      refine (implVCup_any m k _).mono ?_
      rw [H1.out]
      rintro e w' ⟨rfl, rfl⟩
      go_wp2
      go_ret2
      exact IntB.mk V.out (by repeat (first | exact Below.refl _ _ | refine Below.setCell ?_ (by first | exact Nat.le_refl _ | (simp; done) | (simp; omega) | omega) _ | refine below_drewN ?_ _ | refine Below.alloc ?_ (by first | exact Nat.le_refl _ | (simp; done) | (simp; omega) | omega) _))
    · by_cases d2 : 80 * m < k
      · have V : Hid (meltV m k = m) := Lib.hid (by unfold meltV; rw [if_neg d1, if_pos d2])
        go_enter Try.func62, Try.ntmps62
        go_wp2_with fail
        refine (implVCup_any m k _).mono ?_
        rw [H1.out]
        rintro e w' ⟨rfl, rfl⟩
        go_wp2
        go_ret2
        exact IntB.mk V.out (by repeat (first | exact Below.refl _ _ | refine Below.setCell ?_ (by first | exact Nat.le_refl _ | (simp; done) | (simp; omega) | omega) _ | refine below_drewN ?_ _ | refine Below.alloc ?_ (by first | exact Nat.le_refl _ | (simp; done) | (simp; omega) | omega) _))
      · have V : Hid (meltV m k = k / 80) := Lib.hid (by unfold meltV; rw [if_neg d1, if_neg d2])
        go_enter Try.func62, Try.ntmps62
        go_wp2_with fail
        refine (implVCup_any m k _).mono ?_
        rw [H1.out]
        rintro e w' ⟨rfl, rfl⟩
        go_wp2
        go_ret2
        exact IntB.mk V.out (by repeat (first | exact Below.refl _ _ | refine Below.setCell ?_ (by first | exact Nat.le_refl _ | (simp; done) | (simp; omega) | omega) _ | refine below_drewN ?_ _ | refine Below.alloc ?_ (by first | exact Nat.le_refl _ | (simp; done) | (simp; omega) | omega) _))
set_option maxHeartbeats 400000 in
theorem implWarmC_any (m k : Int) (w : World) : Calls Try.prog 63 #[.agg #[.int .i64 m, .int .i64 k]] w (WarmB m k (vCup m k) w) := by
  have A := Lib.hid (Cells.made w [.int .i64 m, .int .i64 k] 70)
  cases h1 : vCup m k
  · have H1 := Lib.hid h1
    clear h1
    go_enter Try.func63, Try.ntmps63
    go_wp2_with fail
    refine (implVCup_any m k _).mono ?_
    rw [H1.out]
    rintro e w' ⟨rfl, rfl⟩
    go_wp2
    go_ret3
    exact ⟨rfl, (by repeat (first | exact Below.refl _ _ | refine Below.setCell ?_ (by first | exact Nat.le_refl _ | (simp; done) | (simp; omega) | omega) _ | refine below_drewN ?_ _ | refine Below.alloc ?_ (by first | exact Nat.le_refl _ | (simp; done) | (simp; omega) | omega) _))⟩
  · obtain ⟨a1, a2, a3, a4⟩ := vCup_iff h1
    have H1 := Lib.hid h1
    clear h1
    have Z := Lib.hid (lo_zero a1)
    by_cases d1 : k < 0
    · have V : Hid (warmU m k = 2 * k) := Lib.hid (by unfold warmU; rw [if_pos d1])
      go_enter Try.func63, Try.ntmps63
      go_wp2_with fail
      refine (implVCup_any m k _).mono ?_
      rw [H1.out]
      rintro e w' ⟨rfl, rfl⟩
      go_wp2_with fail
      refine (implLow_any _ _ _ (by omega) (by omega) (by omega) (by omega)).mono ?_
      rintro e w' ⟨rfl, n2, rfl⟩
      go_wp2
      go_ret3
      exact WarmB.mk V.out (by first | rfl | simp) (by first | rfl | simp) (by repeat (first | exact Below.refl _ _ | refine Below.setCell ?_ (by first | exact Nat.le_refl _ | (simp; done) | (simp; omega) | omega) _ | refine below_drewN ?_ _ | refine Below.alloc ?_ (by first | exact Nat.le_refl _ | (simp; done) | (simp; omega) | omega) _))
    · by_cases d2 : 80 * m < k
      · have V : Hid (warmU m k = k - 80 * m) := Lib.hid (by unfold warmU; rw [if_neg d1, if_pos d2])
        go_enter Try.func63, Try.ntmps63
        go_wp2_with fail
        refine (implVCup_any m k _).mono ?_
        rw [H1.out]
        rintro e w' ⟨rfl, rfl⟩
        go_wp2_with fail
        refine (implLow_any _ _ _ (by omega) (by omega) (by omega) (by omega)).mono ?_
        rintro e w' ⟨rfl, n2, rfl⟩
        go_wp2
        go_ret3
        exact WarmB.mk V.out (by first | rfl | simp) (by first | rfl | simp) (by repeat (first | exact Below.refl _ _ | refine Below.setCell ?_ (by first | exact Nat.le_refl _ | (simp; done) | (simp; omega) | omega) _ | refine below_drewN ?_ _ | refine Below.alloc ?_ (by first | exact Nat.le_refl _ | (simp; done) | (simp; omega) | omega) _))
      · have V : Hid (warmU m k = 0) := Lib.hid (by unfold warmU; rw [if_neg d1, if_neg d2])
        go_enter Try.func63, Try.ntmps63
        go_wp2_with fail
        refine (implVCup_any m k _).mono ?_
        rw [H1.out]
        rintro e w' ⟨rfl, rfl⟩
        go_wp2_with fail
        refine (implLow_any _ _ _ (by omega) (by omega) (by omega) (by omega)).mono ?_
        rintro e w' ⟨rfl, n2, rfl⟩
        go_wp2
        go_ret3
        exact WarmB.mk V.out (by first | rfl | simp) (by first | rfl | simp) (by repeat (first | exact Below.refl _ _ | refine Below.setCell ?_ (by first | exact Nat.le_refl _ | (simp; done) | (simp; omega) | omega) _ | refine below_drewN ?_ _ | refine Below.alloc ?_ (by first | exact Nat.le_refl _ | (simp; done) | (simp; omega) | omega) _))
end Go.Proofs.Ytgcgfnpkkhhkgac
