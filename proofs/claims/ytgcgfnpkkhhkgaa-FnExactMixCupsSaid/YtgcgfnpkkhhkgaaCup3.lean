/- What is molten in a cup, and how warm it is: both sides. -/
import Derived.Test.YtgcgfnpkkhhkgaaCup2
import Derived.Test.YtgcgfnpkkhhkgaaCupG
import Derived.OwnWalk
namespace Go.Proofs.Ytgcgfnpkkhhkgaa
open Go.RowKit
set_option linter.unusedVariables false

def meltV (m k : Int) : Int := if k < 0 then 0 else if 80 * m < k then m else k / 80
def IntB (x : Int) (b : Bool) (w : World) (e : Ending) (w' : World) : Prop := e = .returned (.tuple #[.int .i64 (bif b then x else 0), .bool b]) ∧ Below w.heap.size w w'
theorem IntB.mk {x y : Int} {b : Bool} {w w' : World} (hx : (bif b then x else 0) = y) (h : Below w.heap.size w w') : IntB x b w (.returned (.tuple #[.int .i64 y, .bool b])) w' := by subst hx; exact ⟨rfl, h⟩

theorem min_any (a b : Int) (w : World) : Calls Try.prog 47 #[.int .i64 a, .int .i64 b] w fun e w' => e = .returned (.int .i64 (if a < b then a else b)) ∧ w = w' := by
  by_cases h : a < b
  · go_enter Try.func47, Try.ntmps47
    go_wp2
    go_ret
    first | exact ⟨rfl, rfl⟩ | exact ⟨by rw [if_pos h], rfl⟩
  · go_enter Try.func47, Try.ntmps47
    go_wp2
    go_ret
    first | exact ⟨rfl, rfl⟩ | exact ⟨by rw [if_neg (by omega)], rfl⟩

def warmU (m k : Int) : Int := if k < 0 then 2 * k else if 80 * m < k then k - 80 * m else 0
def WarmB (m k : Int) (b : Bool) (w : World) (e : Ending) (w' : World) : Prop :=
  e = .returned (.tuple #[.int .i64 (bif b then (warmU m k).tdiv (Int.gcd (warmU m k) m : Int) else 0), .int .i64 (bif b then m / (Int.gcd (warmU m k) m : Int) else 0), .bool b]) ∧ Below w.heap.size w w'
theorem WarmB.mk {m k u x y : Int} {w w' : World} (hu : warmU m k = u) (hx : u.tdiv (Int.gcd u m : Int) = x) (hy : m / (Int.gcd u m : Int) = y) (h : Below w.heap.size w w') : WarmB m k true w (.returned (.tuple #[.int .i64 x, .int .i64 y, .bool true])) w' := by
  subst hu hx hy; exact ⟨rfl, h⟩
theorem gcd0 {m : Int} (h : 1 ≤ m) : (Int.gcd 0 m : Int) = m := by rw [Int.gcd_zero_left]; omega
theorem lo_zero {m : Int} (h : 1 ≤ m) : (0 : Int).tdiv (Int.gcd 0 m : Int) = 0 ∧ m / (Int.gcd 0 m : Int) = 1 := by
  rw [gcd0 h]; exact ⟨Int.zero_tdiv _, Int.ediv_self (by omega)⟩

set_option maxHeartbeats 400000 in
theorem specMelt_any (m k : Int) (w : World) : Calls Try.prog 23 #[.agg #[.int .i64 m, .int .i64 k]] w (IntB (meltV m k) (vCup m k) w) := by
  have A := Lib.hid (Cells.made w [.int .i64 m, .int .i64 k] 25)
  cases h1 : vCup m k
  · have H1 := Lib.hid h1
    clear h1
    go_enter Try.func23, Try.ntmps23
    go_wp2_with fail
    refine (specCup_any m k _ _ (A.out.at 0 rfl) (A.out.at 1 rfl)).mono ?_
    rw [H1.out]
    rintro e w' ⟨rfl, n1, rfl⟩
    skip
    go_wp2
    go_ret2
    exact IntB.mk rfl (by repeat (first | exact Below.refl _ _ | refine Below.setCell ?_ (by first | exact Nat.le_refl _ | (simp; done) | (simp; omega) | omega) _ | refine below_drewN ?_ _ | refine Below.alloc ?_ (by first | exact Nat.le_refl _ | (simp; done) | (simp; omega) | omega) _))
  · obtain ⟨a1, a2, a3, a4⟩ := vCup_iff h1
    have H1 := Lib.hid h1
    clear h1
    by_cases d1 : k < 0
    · have V : Hid (meltV m k = 0) := Lib.hid (by unfold meltV; rw [if_pos d1])
      go_enter Try.func23, Try.ntmps23
      go_wp2_with fail
      refine (specCup_any m k _ _ (A.out.at 0 rfl) (A.out.at 1 rfl)).mono ?_
      rw [H1.out]
      rintro e w' ⟨rfl, n1, rfl⟩
      skip
      go_wp2
      go_ret2
      exact IntB.mk V.out (by repeat (first | exact Below.refl _ _ | refine Below.setCell ?_ (by first | exact Nat.le_refl _ | (simp; done) | (simp; omega) | omega) _ | refine below_drewN ?_ _ | refine Below.alloc ?_ (by first | exact Nat.le_refl _ | (simp; done) | (simp; omega) | omega) _))
    · by_cases d2 : 80 * m < k
      · have V : Hid (meltV m k = m) := Lib.hid (by unfold meltV; rw [if_neg d1, if_pos d2])
        go_enter Try.func23, Try.ntmps23
        go_wp2_with fail
        refine (specCup_any m k _ _ (A.out.at 0 rfl) (A.out.at 1 rfl)).mono ?_
        rw [H1.out]
        rintro e w' ⟨rfl, n1, rfl⟩
        skip
        go_wp2_with fail
        refine (min_any _ _ _).mono ?_
        rintro e w' ⟨rfl, rfl⟩
        go_wp2
        all_goals
          go_ret2
          first
          | exact IntB.mk V.out (by repeat (first | exact Below.refl _ _ | refine Below.setCell ?_ (by first | exact Nat.le_refl _ | (simp; done) | (simp; omega) | omega) _ | refine below_drewN ?_ _ | refine Below.alloc ?_ (by first | exact Nat.le_refl _ | (simp; done) | (simp; omega) | omega) _))
          | (refine IntB.mk ?_ (by repeat (first | exact Below.refl _ _ | refine Below.setCell ?_ (by first | exact Nat.le_refl _ | (simp; done) | (simp; omega) | omega) _ | refine below_drewN ?_ _ | refine Below.alloc ?_ (by first | exact Nat.le_refl _ | (simp; done) | (simp; omega) | omega) _)); rw [V.out]; first | (show m = k / 80; omega) | (show k / 80 = m; omega))
      · have V : Hid (meltV m k = k / 80) := Lib.hid (by unfold meltV; rw [if_neg d1, if_neg d2])
        go_enter Try.func23, Try.ntmps23
        go_wp2_with fail
        refine (specCup_any m k _ _ (A.out.at 0 rfl) (A.out.at 1 rfl)).mono ?_
        rw [H1.out]
        rintro e w' ⟨rfl, n1, rfl⟩
        skip
        go_wp2_with fail
        refine (min_any _ _ _).mono ?_
        rintro e w' ⟨rfl, rfl⟩
        go_wp2
        all_goals
          go_ret2
          first
          | exact IntB.mk V.out (by repeat (first | exact Below.refl _ _ | refine Below.setCell ?_ (by first | exact Nat.le_refl _ | (simp; done) | (simp; omega) | omega) _ | refine below_drewN ?_ _ | refine Below.alloc ?_ (by first | exact Nat.le_refl _ | (simp; done) | (simp; omega) | omega) _))
          | (refine IntB.mk ?_ (by repeat (first | exact Below.refl _ _ | refine Below.setCell ?_ (by first | exact Nat.le_refl _ | (simp; done) | (simp; omega) | omega) _ | refine below_drewN ?_ _ | refine Below.alloc ?_ (by first | exact Nat.le_refl _ | (simp; done) | (simp; omega) | omega) _)); rw [V.out]; first | (show m = k / 80; omega) | (show k / 80 = m; omega))
set_option maxHeartbeats 400000 in
theorem specWarmC_any (m k : Int) (w : World) : Calls Try.prog 25 #[.agg #[.int .i64 m, .int .i64 k]] w (WarmB m k (vCup m k) w) := by
  have A := Lib.hid (Cells.made w [.int .i64 m, .int .i64 k] 25)
  cases h1 : vCup m k
  · have H1 := Lib.hid h1
    clear h1
    go_enter Try.func25, Try.ntmps25
    go_wp2_with fail
    refine (specCup_any m k _ _ (A.out.at 0 rfl) (A.out.at 1 rfl)).mono ?_
    rw [H1.out]
    rintro e w' ⟨rfl, n1, rfl⟩
    skip
    go_wp2
    go_ret3
    exact ⟨rfl, (by repeat (first | exact Below.refl _ _ | refine Below.setCell ?_ (by first | exact Nat.le_refl _ | (simp; done) | (simp; omega) | omega) _ | refine below_drewN ?_ _ | refine Below.alloc ?_ (by first | exact Nat.le_refl _ | (simp; done) | (simp; omega) | omega) _))⟩
  · obtain ⟨a1, a2, a3, a4⟩ := vCup_iff h1
    have H1 := Lib.hid h1
    clear h1
    have Z := Lib.hid (lo_zero a1)
    by_cases d1 : k < 0
    · have V : Hid (warmU m k = 2 * k) := Lib.hid (by unfold warmU; rw [if_pos d1])
      go_enter Try.func25, Try.ntmps25
      go_wp2_with fail
      refine (specCup_any m k _ _ (A.out.at 0 rfl) (A.out.at 1 rfl)).mono ?_
      rw [H1.out]
      rintro e w' ⟨rfl, n1, rfl⟩
      skip
      go_wp2_with fail
      refine (specLow_any _ _ _ (by omega) (by omega) (by omega) (by omega)).mono ?_
      rintro e w' ⟨rfl, n2, rfl⟩
      go_wp2
      go_ret3
      exact WarmB.mk V.out (by first | rfl | simp) (by first | rfl | simp) (by repeat (first | exact Below.refl _ _ | refine Below.setCell ?_ (by first | exact Nat.le_refl _ | (simp; done) | (simp; omega) | omega) _ | refine below_drewN ?_ _ | refine Below.alloc ?_ (by first | exact Nat.le_refl _ | (simp; done) | (simp; omega) | omega) _))
    · by_cases d2 : 80 * m < k
      · have V : Hid (warmU m k = k - 80 * m) := Lib.hid (by unfold warmU; rw [if_neg d1, if_pos d2])
        go_enter Try.func25, Try.ntmps25
        go_wp2_with fail
        refine (specCup_any m k _ _ (A.out.at 0 rfl) (A.out.at 1 rfl)).mono ?_
        rw [H1.out]
        rintro e w' ⟨rfl, n1, rfl⟩
        skip
        go_wp2_with fail
        refine (specLow_any _ _ _ (by omega) (by omega) (by omega) (by omega)).mono ?_
        rintro e w' ⟨rfl, n2, rfl⟩
        go_wp2
        go_ret3
        exact WarmB.mk V.out (by first | rfl | simp) (by first | rfl | simp) (by repeat (first | exact Below.refl _ _ | refine Below.setCell ?_ (by first | exact Nat.le_refl _ | (simp; done) | (simp; omega) | omega) _ | refine below_drewN ?_ _ | refine Below.alloc ?_ (by first | exact Nat.le_refl _ | (simp; done) | (simp; omega) | omega) _))
      · have V : Hid (warmU m k = 0) := Lib.hid (by unfold warmU; rw [if_neg d1, if_neg d2])
        go_enter Try.func25, Try.ntmps25
        go_wp2_with fail
        refine (specCup_any m k _ _ (A.out.at 0 rfl) (A.out.at 1 rfl)).mono ?_
        rw [H1.out]
        rintro e w' ⟨rfl, n1, rfl⟩
        skip
        go_wp2
        go_ret3
        exact WarmB.mk V.out Z.out.1 Z.out.2 (by repeat (first | exact Below.refl _ _ | refine Below.setCell ?_ (by first | exact Nat.le_refl _ | (simp; done) | (simp; omega) | omega) _ | refine below_drewN ?_ _ | refine Below.alloc ?_ (by first | exact Nat.le_refl _ | (simp; done) | (simp; omega) | omega) _))
set_option maxHeartbeats 400000 in
theorem implMelt_any (m k : Int) (w : World) : Calls Try.prog 24 #[.agg #[.int .i64 m, .int .i64 k]] w (IntB (meltV m k) (vCup m k) w) := by
  have A := Lib.hid (Cells.made w [.int .i64 m, .int .i64 k] 25)
  cases h1 : vCup m k
  · have H1 := Lib.hid h1
    clear h1
    go_enter Try.func24, Try.ntmps24
    go_wp2_with fail
    refine (implVCup_any m k _).mono ?_
    rw [H1.out]
    rintro e w' ⟨rfl, rfl⟩
    go_wp2
    go_ret2
    exact IntB.mk rfl (by repeat (first | exact Below.refl _ _ | refine Below.setCell ?_ (by first | exact Nat.le_refl _ | (simp; done) | (simp; omega) | omega) _ | refine below_drewN ?_ _ | refine Below.alloc ?_ (by first | exact Nat.le_refl _ | (simp; done) | (simp; omega) | omega) _))
  · obtain ⟨a1, a2, a3, a4⟩ := vCup_iff h1
    have H1 := Lib.hid h1
    clear h1
    by_cases d1 : k < 0
    · have V : Hid (meltV m k = 0) := Lib.hid (by unfold meltV; rw [if_pos d1])
      go_enter Try.func24, Try.ntmps24
      go_wp2_with fail
      refine (implVCup_any m k _).mono ?_
      rw [H1.out]
      rintro e w' ⟨rfl, rfl⟩
      go_wp2
      go_ret2
      exact IntB.mk V.out (by repeat (first | exact Below.refl _ _ | refine Below.setCell ?_ (by first | exact Nat.le_refl _ | (simp; done) | (simp; omega) | omega) _ | refine below_drewN ?_ _ | refine Below.alloc ?_ (by first | exact Nat.le_refl _ | (simp; done) | (simp; omega) | omega) _))
    · by_cases d2 : 80 * m < k
      · have V : Hid (meltV m k = m) := Lib.hid (by unfold meltV; rw [if_neg d1, if_pos d2])
        go_enter Try.func24, Try.ntmps24
        go_wp2_with fail
        refine (implVCup_any m k _).mono ?_
        rw [H1.out]
        rintro e w' ⟨rfl, rfl⟩
        go_wp2
        go_ret2
        exact IntB.mk V.out (by repeat (first | exact Below.refl _ _ | refine Below.setCell ?_ (by first | exact Nat.le_refl _ | (simp; done) | (simp; omega) | omega) _ | refine below_drewN ?_ _ | refine Below.alloc ?_ (by first | exact Nat.le_refl _ | (simp; done) | (simp; omega) | omega) _))
      · have V : Hid (meltV m k = k / 80) := Lib.hid (by unfold meltV; rw [if_neg d1, if_neg d2])
        go_enter Try.func24, Try.ntmps24
        go_wp2_with fail
        refine (implVCup_any m k _).mono ?_
        rw [H1.out]
        rintro e w' ⟨rfl, rfl⟩
        go_wp2
        go_ret2
        exact IntB.mk V.out (by repeat (first | exact Below.refl _ _ | refine Below.setCell ?_ (by first | exact Nat.le_refl _ | (simp; done) | (simp; omega) | omega) _ | refine below_drewN ?_ _ | refine Below.alloc ?_ (by first | exact Nat.le_refl _ | (simp; done) | (simp; omega) | omega) _))
set_option maxHeartbeats 400000 in
theorem implWarmC_any (m k : Int) (w : World) : Calls Try.prog 26 #[.agg #[.int .i64 m, .int .i64 k]] w (WarmB m k (vCup m k) w) := by
  have A := Lib.hid (Cells.made w [.int .i64 m, .int .i64 k] 25)
  cases h1 : vCup m k
  · have H1 := Lib.hid h1
    clear h1
    go_enter Try.func26, Try.ntmps26
    go_wp2_with fail
    refine (implVCup_any m k _).mono ?_
    rw [H1.out]
    rintro e w' ⟨rfl, rfl⟩
    go_wp2
    go_ret3
    exact ⟨rfl, (by repeat (first | exact Below.refl _ _ | refine Below.setCell ?_ (by first | exact Nat.le_refl _ | (simp; done) | (simp; omega) | omega) _ | refine below_drewN ?_ _ | refine Below.alloc ?_ (by first | exact Nat.le_refl _ | (simp; done) | (simp; omega) | omega) _))⟩
  · obtain ⟨a1, a2, a3, a4⟩ := vCup_iff h1
    have H1 := Lib.hid h1
    clear h1
    have Z := Lib.hid (lo_zero a1)
    by_cases d1 : k < 0
    · have V : Hid (warmU m k = 2 * k) := Lib.hid (by unfold warmU; rw [if_pos d1])
      go_enter Try.func26, Try.ntmps26
      go_wp2_with fail
      refine (implVCup_any m k _).mono ?_
      rw [H1.out]
      rintro e w' ⟨rfl, rfl⟩
      go_wp2_with fail
      refine (implLow_any _ _ _ (by omega) (by omega) (by omega) (by omega)).mono ?_
      rintro e w' ⟨rfl, n2, rfl⟩
      go_wp2
      go_ret3
      exact WarmB.mk V.out (by first | rfl | simp) (by first | rfl | simp) (by repeat (first | exact Below.refl _ _ | refine Below.setCell ?_ (by first | exact Nat.le_refl _ | (simp; done) | (simp; omega) | omega) _ | refine below_drewN ?_ _ | refine Below.alloc ?_ (by first | exact Nat.le_refl _ | (simp; done) | (simp; omega) | omega) _))
    · by_cases d2 : 80 * m < k
      · have V : Hid (warmU m k = k - 80 * m) := Lib.hid (by unfold warmU; rw [if_neg d1, if_pos d2])
        go_enter Try.func26, Try.ntmps26
        go_wp2_with fail
        refine (implVCup_any m k _).mono ?_
        rw [H1.out]
        rintro e w' ⟨rfl, rfl⟩
        go_wp2_with fail
        refine (implLow_any _ _ _ (by omega) (by omega) (by omega) (by omega)).mono ?_
        rintro e w' ⟨rfl, n2, rfl⟩
        go_wp2
        go_ret3
        exact WarmB.mk V.out (by first | rfl | simp) (by first | rfl | simp) (by repeat (first | exact Below.refl _ _ | refine Below.setCell ?_ (by first | exact Nat.le_refl _ | (simp; done) | (simp; omega) | omega) _ | refine below_drewN ?_ _ | refine Below.alloc ?_ (by first | exact Nat.le_refl _ | (simp; done) | (simp; omega) | omega) _))
      · have V : Hid (warmU m k = 0) := Lib.hid (by unfold warmU; rw [if_neg d1, if_neg d2])
        go_enter Try.func26, Try.ntmps26
        go_wp2_with fail
        refine (implVCup_any m k _).mono ?_
        rw [H1.out]
        rintro e w' ⟨rfl, rfl⟩
        go_wp2_with fail
        refine (implLow_any _ _ _ (by omega) (by omega) (by omega) (by omega)).mono ?_
        rintro e w' ⟨rfl, n2, rfl⟩
        go_wp2
        go_ret3
        exact WarmB.mk V.out (by first | rfl | simp) (by first | rfl | simp) (by repeat (first | exact Below.refl _ _ | refine Below.setCell ?_ (by first | exact Nat.le_refl _ | (simp; done) | (simp; omega) | omega) _ | refine below_drewN ?_ _ | refine Below.alloc ?_ (by first | exact Nat.le_refl _ | (simp; done) | (simp; omega) | omega) _))
end Go.Proofs.Ytgcgfnpkkhhkgaa
