/- Cups of water: whether they are valid; a cup handed on, if it is. -/
import Derived.Test.YtgcgfnpkkhhkgaaOpen3
import Derived.Test.YtgcgfnpkkhhkgaaIn
import Derived.Laws.ResultCell
import Derived.Deep.QuietTactic
import Derived.BigQuiet
import Derived.IntWalk
import Derived.Deep.RegionHeld3
namespace Go.Proofs.Ytgcgfnpkkhhkgaa
open Go.RowKit
set_option linter.unusedVariables false

def vCup (m k : Int) : Bool := decide (1 ≤ m) && decide (m ≤ 1000000) && (decide (-50 * m ≤ k) && decide (k ≤ 180 * m))
theorem vCup_iff {m k : Int} (h : vCup m k = true) : 1 ≤ m ∧ m ≤ 1000000 ∧ -50 * m ≤ k ∧ k ≤ 180 * m := by
  simp only [vCup, Bool.and_eq_true, decide_eq_true_eq] at h
  exact ⟨h.1.1, h.1.2, h.2.1, h.2.2⟩

theorem toCup_any (m k : Int) (w : World) : Calls Try.prog 16 #[.agg #[.int .i64 m, .int .i64 k]] w fun e w' => e = .returned (.agg #[.int .i64 m, .int .i64 k]) ∧ Below w.heap.size w w' := by
  go_enter Try.func16, Try.ntmps16
  go_wp2
  refine bodyPost_ret (v := .agg #[.int .i64 m, .int .i64 k]) ?_ rfl ?_
  · rw [results_cell1 rfl]
    go_simp
  · exact ⟨rfl, below_al3 _ _ _ _⟩

theorem in_bol (x lo hi : Int) (b : Bool) (h : (decide (lo ≤ x) && decide (x ≤ hi)) = b) (w : World) : Calls Try.prog 46 #[.int .i64 x, .int .i64 lo, .int .i64 hi] w (Bol b w) := by
  refine (in_any x lo hi w).mono ?_
  rintro e w' ⟨he, hw⟩
  exact ⟨by rw [he, h], 0, hw.symm⟩

set_option maxRecDepth 20000 in
theorem specCup_any (m k : Int) (b : Nat) (w : World) (h0 : w.cell? ⟨b, 0, none⟩ = some (.int .i64 m)) (h1 : w.cell? ⟨b, 1, none⟩ = some (.int .i64 k)) :
    Calls Try.prog 43 #[.pointer (some ⟨b, 0, none⟩)] w (Bol (vCup m k) w) := by
  cases hm : (decide (1 ≤ m) && decide (m ≤ 1000000))
  · have H := Lib.hid hm
    clear hm
    go_enter Try.func43, Try.ntmps43
    go_wp2
    go_quiet ((go_at_call 46; exact Calls.quiet_of (in_bol m 1 1000000 _ H.out _)))
    go_wp2
    go_ret
    exact ⟨ret_bb (by unfold vCup; rw [H.out]; rfl), _, rfl⟩
  · obtain ⟨a1, a2⟩ : 1 ≤ m ∧ m ≤ 1000000 := by simpa using hm
    have H := Lib.hid hm
    have e1 : IntKind.i64.wrap (-50 * m) = -50 * m := IntWalk.i64_in _ (by omega)
    have e2 : IntKind.i64.wrap (180 * m) = 180 * m := IntWalk.i64_in _ (by omega)
    cases hk : (decide (-50 * m ≤ k) && decide (k ≤ 180 * m))
    all_goals
      have K := Lib.hid hk
      clear hm hk a1 a2
      go_enter Try.func43, Try.ntmps43
      go_wp2
      go_quiet ((first | (go_at_call_of 46 k; exact Calls.quiet_of (in_bol k (-50 * m) (180 * m) _ K.out _)) | (go_at_call_of 46 m; exact Calls.quiet_of (in_bol m 1 1000000 _ H.out _))))
      go_wp2
      go_ret
      exact ⟨ret_bb (by unfold vCup; rw [H.out, K.out]; rfl), _, rfl⟩

theorem specVCup_any (m k : Int) (w : World) : Calls Try.prog 15 #[.agg #[.int .i64 m, .int .i64 k]] w (BolB (vCup m k) w) := by
  go_enter Try.func15, Try.ntmps15
  go_wp2_with (go_at_call 43; refine (specCup_any m k _ _ (by simp) (by simp)).mono ?_; rintro e w' ⟨rfl, n, rfl⟩)
  go_ret
  exact ⟨rfl, (by repeat (first | exact Below.refl _ _ | refine Below.setCell ?_ (by first | exact Nat.le_refl _ | (simp; done) | (simp; omega) | omega) _ | refine below_drewN ?_ _ | refine Below.alloc ?_ (by first | exact Nat.le_refl _ | (simp; done) | (simp; omega) | omega) _))⟩

/-- a bool; a box was made -/
def Boxed (b : Bool) (m k : Int) (w : World) (e : Ending) (w' : World) : Prop := e = .returned (.bool b) ∧ w' = w.alloc (.cells #[.int .i64 m, .int .i64 k] 25)
theorem implVCup_any (m k : Int) (w : World) : Calls Try.prog 17 #[.agg #[.int .i64 m, .int .i64 k]] w (Boxed (vCup m k) m k w) := by
  by_cases a1 : 1 ≤ m
  · by_cases a2 : m ≤ 1000000
    · by_cases a3 : -50 * m ≤ k
      · go_enter Try.func17, Try.ntmps17
        go_wp2
        go_ret
        exact ⟨by simp [vCup, a1, a2, a3], rfl⟩
      · go_enter Try.func17, Try.ntmps17
        go_wp2
        go_ret
        exact ⟨by simp [vCup]; omega, rfl⟩
    · go_enter Try.func17, Try.ntmps17
      go_wp2
      go_ret
      exact ⟨by simp [vCup]; omega, rfl⟩
  · go_enter Try.func17, Try.ntmps17
    go_wp2
    go_ret
    exact ⟨by simp [vCup]; omega, rfl⟩

/-- a cup and whether it is one; nothing that was there has turned -/
def CupB (m k : Int) (b : Bool) (w : World) (e : Ending) (w' : World) : Prop := e = .returned (.tuple #[bif b then .agg #[.int .i64 m, .int .i64 k] else .agg #[.int .i64 0, .int .i64 0], .bool b]) ∧ Below w.heap.size w w'

theorem specGiveC_any (m k : Int) (w : World) : Calls Try.prog 44 #[.agg #[.int .i64 m, .int .i64 k]] w (CupB m k (vCup m k) w) := by
  cases hv : vCup m k
  · go_enter Try.func44, Try.ntmps44
    go_wp2_with (go_at_call 43; refine (specCup_any m k _ _ (by simp) (by simp)).mono ?_; rw [hv]; rintro e w' ⟨rfl, n, rfl⟩)
    refine bodyPost_ret (v := .tuple #[.agg #[.int .i64 0, .int .i64 0], .bool false]) ?_ rfl ?_
    · rw [results_cell_tmp rfl]
      go_simp
    · exact ⟨rfl, (by repeat (first | exact Below.refl _ _ | refine Below.setCell ?_ (by first | exact Nat.le_refl _ | (simp; done) | (simp; omega) | omega) _ | refine below_drewN ?_ _ | refine Below.alloc ?_ (by first | exact Nat.le_refl _ | (simp; done) | (simp; omega) | omega) _))⟩
  · go_enter Try.func44, Try.ntmps44
    go_wp2_with (go_at_call 43; refine (specCup_any m k _ _ (by simp) (by simp)).mono ?_; rw [hv]; rintro e w' ⟨rfl, n, rfl⟩)
    refine bodyPost_ret (v := .tuple #[.agg #[.int .i64 m, .int .i64 k], .bool true]) ?_ rfl ?_
    · rw [results_cell_tmp rfl]
      go_simp
    · exact ⟨rfl, (by repeat (first | exact Below.refl _ _ | refine Below.setCell ?_ (by first | exact Nat.le_refl _ | (simp; done) | (simp; omega) | omega) _ | refine below_drewN ?_ _ | refine Below.alloc ?_ (by first | exact Nat.le_refl _ | (simp; done) | (simp; omega) | omega) _))⟩
theorem implGiveC_any (m k : Int) (w : World) : Calls Try.prog 45 #[.agg #[.int .i64 m, .int .i64 k]] w (CupB m k (vCup m k) w) := by
  cases hv : vCup m k
  · go_enter Try.func45, Try.ntmps45
    go_wp2_with (go_at_call 17; refine (implVCup_any m k _).mono ?_; rw [hv]; rintro e w' ⟨rfl, rfl⟩)
    refine bodyPost_ret (v := .tuple #[.agg #[.int .i64 0, .int .i64 0], .bool false]) ?_ rfl ?_
    · rw [results_cell_tmp rfl]
      go_simp
    · exact ⟨rfl, (by repeat (first | exact Below.refl _ _ | refine Below.setCell ?_ (by first | exact Nat.le_refl _ | (simp; done) | (simp; omega) | omega) _ | refine below_drewN ?_ _ | refine Below.alloc ?_ (by first | exact Nat.le_refl _ | (simp; done) | (simp; omega) | omega) _))⟩
  · go_enter Try.func45, Try.ntmps45
    go_wp2_with (go_at_call 17; refine (implVCup_any m k _).mono ?_; rw [hv]; rintro e w' ⟨rfl, rfl⟩)
    refine bodyPost_ret (v := .tuple #[.agg #[.int .i64 m, .int .i64 k], .bool true]) ?_ rfl ?_
    · rw [results_cell_tmp rfl]
      go_simp
    · exact ⟨rfl, (by repeat (first | exact Below.refl _ _ | refine Below.setCell ?_ (by first | exact Nat.le_refl _ | (simp; done) | (simp; omega) | omega) _ | refine below_drewN ?_ _ | refine Below.alloc ?_ (by first | exact Nat.le_refl _ | (simp; done) | (simp; omega) | omega) _))⟩
end Go.Proofs.Ytgcgfnpkkhhkgaa
