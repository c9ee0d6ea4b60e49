/- Heaters: their copies, and whether they are valid: both sides, and the law. -/
import Derived.Test.YtjkokhdbkmjenaaOpenHt
import Derived.Test.YtjkokhdbkmjenaaSnA
import Derived.Test.YtjkokhdbkmjenaaIn
import Derived.Laws.ResultCell
import Derived.Deep.QuietTactic
import Derived.Deep.RegionHeld3
import Derived.BigQuiet
namespace Go.Proofs.Ytjkokhdbkmjenaa
open Go.RowKit
set_option linter.unusedVariables false

def ltN (x y : Nat) : Bool := FloatKind.f32.format.order x y == some .lt
def inR (x : Int) : Bool := decide (0 ≤ x) && decide (x ≤ 7)
def vHtr (s : HT) : Bool := inR s.rm && lst s.pw && fin .f32 s.lo && fin .f32 s.hi && ltN s.lo s.hi
theorem vHtr_impl (s : HT) : vHtr s = (decide (0 ≤ s.rm) && decide (s.rm < 8) && lst s.pw && fin .f32 s.lo && fin .f32 s.hi && ltN s.lo s.hi) := by
  have : decide (s.rm ≤ 7) = decide (s.rm < 8) := by rw [decide_eq_decide]; omega
  unfold vHtr inR; rw [this]

theorem toHeater_any (s : HT) (w : World) : Calls Try.prog 16 #[.agg #[.int .i64 s.rm, .float .f32 s.pw, .float .f32 s.lo, .float .f32 s.hi, .bool s.on]] w fun e w' => e = .returned (.agg #[.int .i64 s.rm, .float .f32 s.pw, .float .f32 s.lo, .float .f32 s.hi, .bool s.on]) ∧ Below w.heap.size w w' := by
  go_enter Try.func16, Try.ntmps16
  go_wp2
  refine bodyPost_ret (v := .agg #[.int .i64 s.rm, .float .f32 s.pw, .float .f32 s.lo, .float .f32 s.hi, .bool s.on]) ?_ rfl ?_
  · rw [results_cell1 rfl]
    go_simp
  · exact ⟨rfl, (by repeat (first | exact Below.refl _ _ | refine Below.setCell ?_ (by first | exact Nat.le_refl _ | (simp; done) | (simp; omega) | omega) _ | refine below_drewN ?_ _ | refine Below.alloc ?_ (by first | exact Nat.le_refl _ | (simp; done) | (simp; omega) | omega) _))⟩

theorem specHeater_raw (rm : Int) (pw lo hi : Nat) (on : Bool) (b : Nat) (w : World) (A : Cells w b [.int .i64 rm, .float .f32 pw, .float .f32 lo, .float .f32 hi, .bool on]) : Calls Try.prog 49 #[.pointer (some ⟨b, 0, none⟩)] w (Bol (inR rm && lst pw && fin .f32 lo && fin .f32 hi && ltN lo hi) w) := by
  have c0 := A.at 0 rfl
  have c1 := A.at 1 rfl
  have c2 := A.at 2 rfl
  have c3 := A.at 3 rfl
  clear A
  have Q0 := Lib.hid (fun w => show Calls Try.prog 68 #[.int .i64 rm, .int .i64 0, .int .i64 7] w (Bol (inR rm) w) from (in_any rm 0 7 w).mono (fun _ _ ⟨he, hw⟩ => ⟨he, 0, hw.symm⟩))
  have Q1 := Lib.hid (specLeast_any pw)
  have Q2 := Lib.hid (specFinite_any lo)
  have Q3 := Lib.hid (specFinite_any hi)
  cases B0 : inR rm
  · skip
    have H0 := Lib.hid B0
    clear B0
    go_enter Try.func49, Try.ntmps49
    go_wp2
    go_quiet (first | (go_at_call_of 68 rm; refine Calls.quiet_of (v := .bool false) ?_; have hq := Q0.out; rw [H0.out] at hq; exact hq _))
    go_wp2
    go_ret
    exact ⟨ret_bb (by simp), _, rfl⟩
  · skip
    cases B1 : lst pw
    · skip
      have H0 := Lib.hid B0
      have H1 := Lib.hid B1
      clear B0 B1
      go_enter Try.func49, Try.ntmps49
      go_wp2
      go_quiet (first | (go_at_call_of 68 rm; refine Calls.quiet_of (v := .bool true) ?_; have hq := Q0.out; rw [H0.out] at hq; exact hq _) | (go_at_call_of 57 pw; refine Calls.quiet_of (v := .bool false) ?_; have hq := Q1.out; rw [H1.out] at hq; exact hq _))
      go_wp2
      go_ret
      exact ⟨ret_bb (by simp), _, rfl⟩
    · skip
      cases B2 : fin .f32 lo
      · skip
        have H0 := Lib.hid B0
        have H1 := Lib.hid B1
        have H2 := Lib.hid B2
        clear B0 B1 B2
        go_enter Try.func49, Try.ntmps49
        go_wp2
        go_quiet (first | (go_at_call_of 68 rm; refine Calls.quiet_of (v := .bool true) ?_; have hq := Q0.out; rw [H0.out] at hq; exact hq _) | (go_at_call_of 57 pw; refine Calls.quiet_of (v := .bool true) ?_; have hq := Q1.out; rw [H1.out] at hq; exact hq _) | (go_at_call_of 52 lo; refine Calls.quiet_of (v := .bool false) ?_; have hq := Q2.out; rw [H2.out] at hq; exact hq _))
        go_wp2
        go_ret
        exact ⟨ret_bb (by simp), _, rfl⟩
      · skip
        cases B3 : fin .f32 hi
        · skip
          have H0 := Lib.hid B0
          have H1 := Lib.hid B1
          have H2 := Lib.hid B2
          have H3 := Lib.hid B3
          clear B0 B1 B2 B3
          go_enter Try.func49, Try.ntmps49
          go_wp2
          go_quiet (first | (go_at_call_of 68 rm; refine Calls.quiet_of (v := .bool true) ?_; have hq := Q0.out; rw [H0.out] at hq; exact hq _) | (go_at_call_of 57 pw; refine Calls.quiet_of (v := .bool true) ?_; have hq := Q1.out; rw [H1.out] at hq; exact hq _) | (go_at_call_of 52 lo; refine Calls.quiet_of (v := .bool true) ?_; have hq := Q2.out; rw [H2.out] at hq; exact hq _) | (go_at_call_of 52 hi; refine Calls.quiet_of (v := .bool false) ?_; have hq := Q3.out; rw [H3.out] at hq; exact hq _))
          go_wp2
          go_ret
          exact ⟨ret_bb (by simp), _, rfl⟩
        · skip
          cases B4 : ltN lo hi
          · skip
            have H0 := Lib.hid B0
            have H1 := Lib.hid B1
            have H2 := Lib.hid B2
            have H3 := Lib.hid B3
            have o4 : (FloatKind.f32.format.order lo hi == some .lt) = false := B4
            have H4 := Lib.hid B4
            clear B0 B1 B2 B3 B4
            go_enter Try.func49, Try.ntmps49
            go_wp2
            go_quiet (first | (go_at_call_of 68 rm; refine Calls.quiet_of (v := .bool true) ?_; have hq := Q0.out; rw [H0.out] at hq; exact hq _) | (go_at_call_of 57 pw; refine Calls.quiet_of (v := .bool true) ?_; have hq := Q1.out; rw [H1.out] at hq; exact hq _) | (go_at_call_of 52 lo; refine Calls.quiet_of (v := .bool true) ?_; have hq := Q2.out; rw [H2.out] at hq; exact hq _) | (go_at_call_of 52 hi; refine Calls.quiet_of (v := .bool true) ?_; have hq := Q3.out; rw [H3.out] at hq; exact hq _))
            go_wp2
            go_ret
            exact ⟨ret_bb (by simp), _, rfl⟩
          · skip
            have H0 := Lib.hid B0
            have H1 := Lib.hid B1
            have H2 := Lib.hid B2
            have H3 := Lib.hid B3
            have o4 : (FloatKind.f32.format.order lo hi == some .lt) = true := B4
            have H4 := Lib.hid B4
            clear B0 B1 B2 B3 B4
            go_enter Try.func49, Try.ntmps49
            go_wp2
            go_quiet (first | (go_at_call_of 68 rm; refine Calls.quiet_of (v := .bool true) ?_; have hq := Q0.out; rw [H0.out] at hq; exact hq _) | (go_at_call_of 57 pw; refine Calls.quiet_of (v := .bool true) ?_; have hq := Q1.out; rw [H1.out] at hq; exact hq _) | (go_at_call_of 52 lo; refine Calls.quiet_of (v := .bool true) ?_; have hq := Q2.out; rw [H2.out] at hq; exact hq _) | (go_at_call_of 52 hi; refine Calls.quiet_of (v := .bool true) ?_; have hq := Q3.out; rw [H3.out] at hq; exact hq _))
            go_wp2
            go_ret
            exact ⟨ret_bb (by simp), _, rfl⟩
theorem specHeater_any (s : HT) (b : Nat) (w : World) (A : Cells w b s.vs) : Calls Try.prog 49 #[.pointer (some ⟨b, 0, none⟩)] w (Bol (vHtr s) w) := specHeater_raw s.rm s.pw s.lo s.hi s.on b w A


theorem specValidHeater_any (s : HT) (w : World) : Calls Try.prog 15 #[.agg #[.int .i64 s.rm, .float .f32 s.pw, .float .f32 s.lo, .float .f32 s.hi, .bool s.on]] w (BolB (vHtr s) w) := by
  go_enter Try.func15, Try.ntmps15
  go_wp2_with fail
  refine (specHeater_any s _ _ (Cells.made w s.vs 26)).mono ?_
  rintro e w' ⟨rfl, n, rfl⟩
  go_wp2
  go_ret
  exact ⟨rfl, below_drewN (below_al1 _ _) _⟩

set_option maxHeartbeats 800000 in
theorem implHeater_any (s : HT) (w : World) : Calls Try.prog 17 #[.agg #[.int .i64 s.rm, .float .f32 s.pw, .float .f32 s.lo, .float .f32 s.hi, .bool s.on]] w (BolB (vHtr s) w) := by
  rw [vHtr_impl]
  cases B0 : decide (0 ≤ s.rm)
  · skip
    have o0 : decide ((0 : Int) ≤ s.rm) = false := B0
    have H0 := Lib.hid B0
    clear B0
    go_enter Try.func17, Try.ntmps17
    go_wp2
    go_ret
    exact ⟨ret_bb (by simp), (by first | exact below_drewN (below_al1 _ _) _ | exact below_al1 _ _ | exact (by repeat (first | exact Below.refl _ _ | refine Below.setCell ?_ (by first | exact Nat.le_refl _ | (simp; done) | (simp; omega) | omega) _ | refine below_drewN ?_ _ | refine Below.alloc ?_ (by first | exact Nat.le_refl _ | (simp; done) | (simp; omega) | omega) _)))⟩
  · skip
    cases B1 : decide (s.rm < 8)
    · skip
      have o0 : decide ((0 : Int) ≤ s.rm) = true := B0
      have H0 := Lib.hid B0
      have o1 : decide (s.rm < (8 : Int)) = false := B1
      have H1 := Lib.hid B1
      clear B0 B1
      go_enter Try.func17, Try.ntmps17
      go_wp2
      go_ret
      exact ⟨ret_bb (by simp), (by first | exact below_drewN (below_al1 _ _) _ | exact below_al1 _ _ | exact (by repeat (first | exact Below.refl _ _ | refine Below.setCell ?_ (by first | exact Nat.le_refl _ | (simp; done) | (simp; omega) | omega) _ | refine below_drewN ?_ _ | refine Below.alloc ?_ (by first | exact Nat.le_refl _ | (simp; done) | (simp; omega) | omega) _)))⟩
    · skip
      cases B2 : lst s.pw
      · skip
        have o0 : decide ((0 : Int) ≤ s.rm) = true := B0
        have H0 := Lib.hid B0
        have o1 : decide (s.rm < (8 : Int)) = true := B1
        have H1 := Lib.hid B1
        have H2 := Lib.hid B2
        clear B0 B1 B2
        go_enter Try.func17, Try.ntmps17
        go_wp2_with fail
        refine (implNotNeg_any s.pw _).mono ?_
        rw [H2.out]
        rintro e w' ⟨rfl, n, rfl⟩
        go_wp2
        go_ret
        exact ⟨ret_bb (by simp), (by first | exact below_drewN (below_al1 _ _) _ | exact below_al1 _ _ | exact (by repeat (first | exact Below.refl _ _ | refine Below.setCell ?_ (by first | exact Nat.le_refl _ | (simp; done) | (simp; omega) | omega) _ | refine below_drewN ?_ _ | refine Below.alloc ?_ (by first | exact Nat.le_refl _ | (simp; done) | (simp; omega) | omega) _)))⟩
      · skip
        cases B3 : fin .f32 s.lo
        · skip
          have o0 : decide ((0 : Int) ≤ s.rm) = true := B0
          have H0 := Lib.hid B0
          have o1 : decide (s.rm < (8 : Int)) = true := B1
          have H1 := Lib.hid B1
          have H2 := Lib.hid B2
          have H3 := Lib.hid B3
          clear B0 B1 B2 B3
          go_enter Try.func17, Try.ntmps17
          go_wp2_with fail
          refine (implNotNeg_any s.pw _).mono ?_
          rw [H2.out]
          rintro e w' ⟨rfl, n, rfl⟩
          go_wp2_with fail
          refine (implFinite_any s.lo _).mono ?_
          rw [H3.out]
          rintro e w' ⟨rfl, n, rfl⟩
          go_wp2
          go_ret
          exact ⟨ret_bb (by simp), (by first | exact below_drewN (below_al1 _ _) _ | exact below_al1 _ _ | exact (by repeat (first | exact Below.refl _ _ | refine Below.setCell ?_ (by first | exact Nat.le_refl _ | (simp; done) | (simp; omega) | omega) _ | refine below_drewN ?_ _ | refine Below.alloc ?_ (by first | exact Nat.le_refl _ | (simp; done) | (simp; omega) | omega) _)))⟩
        · skip
          cases B4 : fin .f32 s.hi
          · skip
            have o0 : decide ((0 : Int) ≤ s.rm) = true := B0
            have H0 := Lib.hid B0
            have o1 : decide (s.rm < (8 : Int)) = true := B1
            have H1 := Lib.hid B1
            have H2 := Lib.hid B2
            have H3 := Lib.hid B3
            have H4 := Lib.hid B4
            clear B0 B1 B2 B3 B4
            go_enter Try.func17, Try.ntmps17
            go_wp2_with fail
            refine (implNotNeg_any s.pw _).mono ?_
            rw [H2.out]
            rintro e w' ⟨rfl, n, rfl⟩
            go_wp2_with fail
            refine (implFinite_any s.lo _).mono ?_
            rw [H3.out]
            rintro e w' ⟨rfl, n, rfl⟩
            go_wp2_with fail
            refine (implFinite_any s.hi _).mono ?_
            rw [H4.out]
            rintro e w' ⟨rfl, n, rfl⟩
            go_wp2
            go_ret
            exact ⟨ret_bb (by simp), (by first | exact below_drewN (below_al1 _ _) _ | exact below_al1 _ _ | exact (by repeat (first | exact Below.refl _ _ | refine Below.setCell ?_ (by first | exact Nat.le_refl _ | (simp; done) | (simp; omega) | omega) _ | refine below_drewN ?_ _ | refine Below.alloc ?_ (by first | exact Nat.le_refl _ | (simp; done) | (simp; omega) | omega) _)))⟩
          · skip
            cases B5 : ltN s.lo s.hi
            · skip
              have o0 : decide ((0 : Int) ≤ s.rm) = true := B0
              have H0 := Lib.hid B0
              have o1 : decide (s.rm < (8 : Int)) = true := B1
              have H1 := Lib.hid B1
              have H2 := Lib.hid B2
              have H3 := Lib.hid B3
              have H4 := Lib.hid B4
              have o5 : (FloatKind.f32.format.order s.lo s.hi == some .lt) = false := B5
              have H5 := Lib.hid B5
              clear B0 B1 B2 B3 B4 B5
              go_enter Try.func17, Try.ntmps17
              go_wp2_with fail
              refine (implNotNeg_any s.pw _).mono ?_
              rw [H2.out]
              rintro e w' ⟨rfl, n, rfl⟩
              go_wp2_with fail
              refine (implFinite_any s.lo _).mono ?_
              rw [H3.out]
              rintro e w' ⟨rfl, n, rfl⟩
              go_wp2_with fail
              refine (implFinite_any s.hi _).mono ?_
              rw [H4.out]
              rintro e w' ⟨rfl, n, rfl⟩
              go_wp2
              go_ret
              exact ⟨ret_bb (by simp), (by first | exact below_drewN (below_al1 _ _) _ | exact below_al1 _ _ | exact (by repeat (first | exact Below.refl _ _ | refine Below.setCell ?_ (by first | exact Nat.le_refl _ | (simp; done) | (simp; omega) | omega) _ | refine below_drewN ?_ _ | refine Below.alloc ?_ (by first | exact Nat.le_refl _ | (simp; done) | (simp; omega) | omega) _)))⟩
            · skip
              have o0 : decide ((0 : Int) ≤ s.rm) = true := B0
              have H0 := Lib.hid B0
              have o1 : decide (s.rm < (8 : Int)) = true := B1
              have H1 := Lib.hid B1
              have H2 := Lib.hid B2
              have H3 := Lib.hid B3
              have H4 := Lib.hid B4
              have o5 : (FloatKind.f32.format.order s.lo s.hi == some .lt) = true := B5
              have H5 := Lib.hid B5
              clear B0 B1 B2 B3 B4 B5
              go_enter Try.func17, Try.ntmps17
              go_wp2_with fail
              refine (implNotNeg_any s.pw _).mono ?_
              rw [H2.out]
              rintro e w' ⟨rfl, n, rfl⟩
              go_wp2_with fail
              refine (implFinite_any s.lo _).mono ?_
              rw [H3.out]
              rintro e w' ⟨rfl, n, rfl⟩
              go_wp2_with fail
              refine (implFinite_any s.hi _).mono ?_
              rw [H4.out]
              rintro e w' ⟨rfl, n, rfl⟩
              go_wp2
              go_ret
              exact ⟨ret_bb (by simp), (by first | exact below_drewN (below_al1 _ _) _ | exact below_al1 _ _ | exact (by repeat (first | exact Below.refl _ _ | refine Below.setCell ?_ (by first | exact Nat.le_refl _ | (simp; done) | (simp; omega) | omega) _ | refine below_drewN ?_ _ | refine Below.alloc ?_ (by first | exact Nat.le_refl _ | (simp; done) | (simp; omega) | omega) _)))⟩

theorem fnExactValidHeater_walk (s : HT) (w : World) (_ : s.wf) : Calls Try.prog 3 #[.agg #[.int .i64 s.rm, .float .f32 s.pw, .float .f32 s.lo, .float .f32 s.hi, .bool s.on]] w (Tru w) := by
  have A := Lib.hid (Cells.made w s.vs 24)
  have Bw := Lib.hid (below_al1 w (.cells #[.int .i64 s.rm, .float .f32 s.pw, .float .f32 s.lo, .float .f32 s.hi, .bool s.on] 24))
  go_enter Try.func3, Try.ntmps3
  go_wp2_with fail
  refine (toHeater_any s _).mono ?_
  rintro e w1 ⟨rfl, hb⟩
  (first | (have Bw := Lib.hid (below_step Bw.out hb)) | (have Bw := Lib.hid (below_step Bw.out (below_undrew hb))) | (have Bw := Lib.hid (below_step Bw.out (below_unal hb))) | (have Bw := Lib.hid (below_step Bw.out (below_unal (below_undrew hb)))) | (have Bw := Lib.hid (below_step Bw.out (below_undrew (below_unal hb)))) | (have Bw := Lib.hid (below_step Bw.out (below_unal (below_unal hb)))))
  (first | (have A := Lib.hid (A.out.kept hb)) | (have A := Lib.hid (A.out.kept (below_undrew hb))) | (have A := Lib.hid (A.out.kept (below_unal hb))) | (have A := Lib.hid (A.out.kept (below_unal (below_undrew hb)))) | (have A := Lib.hid (A.out.kept (below_undrew (below_unal hb)))) | (have A := Lib.hid (A.out.kept (below_unal (below_unal hb)))))
  have c0 := A.out.at 0 rfl; have c1 := A.out.at 1 rfl; have c2 := A.out.at 2 rfl; have c3 := A.out.at 3 rfl; have c4 := A.out.at 4 rfl
  clear hb
  go_wp2_with fail
  refine (specValidHeater_any s _).mono ?_
  rintro _ w2 ⟨rfl, hb⟩
  (first | (have Bw := Lib.hid (below_step Bw.out hb)) | (have Bw := Lib.hid (below_step Bw.out (below_undrew hb))) | (have Bw := Lib.hid (below_step Bw.out (below_unal hb))) | (have Bw := Lib.hid (below_step Bw.out (below_unal (below_undrew hb)))) | (have Bw := Lib.hid (below_step Bw.out (below_undrew (below_unal hb)))) | (have Bw := Lib.hid (below_step Bw.out (below_unal (below_unal hb)))))
  (first | (have A := Lib.hid (A.out.kept hb)) | (have A := Lib.hid (A.out.kept (below_undrew hb))) | (have A := Lib.hid (A.out.kept (below_unal hb))) | (have A := Lib.hid (A.out.kept (below_unal (below_undrew hb)))) | (have A := Lib.hid (A.out.kept (below_undrew (below_unal hb)))) | (have A := Lib.hid (A.out.kept (below_unal (below_unal hb)))))
  clear c0 c1 c2 c3 c4
  have c0 := A.out.at 0 rfl; have c1 := A.out.at 1 rfl; have c2 := A.out.at 2 rfl; have c3 := A.out.at 3 rfl; have c4 := A.out.at 4 rfl
  clear hb
  go_wp2_with fail
  refine (toHeater_any s _).mono ?_
  rintro e w3 ⟨rfl, hb⟩
  (first | (have Bw := Lib.hid (below_step Bw.out hb)) | (have Bw := Lib.hid (below_step Bw.out (below_undrew hb))) | (have Bw := Lib.hid (below_step Bw.out (below_unal hb))) | (have Bw := Lib.hid (below_step Bw.out (below_unal (below_undrew hb)))) | (have Bw := Lib.hid (below_step Bw.out (below_undrew (below_unal hb)))) | (have Bw := Lib.hid (below_step Bw.out (below_unal (below_unal hb)))))
  (first | (have A := Lib.hid (A.out.kept hb)) | (have A := Lib.hid (A.out.kept (below_undrew hb))) | (have A := Lib.hid (A.out.kept (below_unal hb))) | (have A := Lib.hid (A.out.kept (below_unal (below_undrew hb)))) | (have A := Lib.hid (A.out.kept (below_undrew (below_unal hb)))) | (have A := Lib.hid (A.out.kept (below_unal (below_unal hb)))))
  clear c0 c1 c2 c3 c4
  have c0 := A.out.at 0 rfl; have c1 := A.out.at 1 rfl; have c2 := A.out.at 2 rfl; have c3 := A.out.at 3 rfl; have c4 := A.out.at 4 rfl
  clear hb
  go_wp2_with fail
  refine (implHeater_any s _).mono ?_
  rintro _ w4 ⟨rfl, hb⟩
  (first | (have Bw := Lib.hid (below_step Bw.out hb)) | (have Bw := Lib.hid (below_step Bw.out (below_undrew hb))) | (have Bw := Lib.hid (below_step Bw.out (below_unal hb))) | (have Bw := Lib.hid (below_step Bw.out (below_unal (below_undrew hb)))) | (have Bw := Lib.hid (below_step Bw.out (below_undrew (below_unal hb)))) | (have Bw := Lib.hid (below_step Bw.out (below_unal (below_unal hb)))))
  (first | (have A := Lib.hid (A.out.kept hb)) | (have A := Lib.hid (A.out.kept (below_undrew hb))) | (have A := Lib.hid (A.out.kept (below_unal hb))) | (have A := Lib.hid (A.out.kept (below_unal (below_undrew hb)))) | (have A := Lib.hid (A.out.kept (below_undrew (below_unal hb)))) | (have A := Lib.hid (A.out.kept (below_unal (below_unal hb)))))
  clear c0 c1 c2 c3 c4
  have c0 := A.out.at 0 rfl; have c1 := A.out.at 1 rfl; have c2 := A.out.at 2 rfl; have c3 := A.out.at 3 rfl; have c4 := A.out.at 4 rfl
  clear hb
  go_wp2
  go_ret
  exact Tru.below Bw.out
end Go.Proofs.Ytjkokhdbkmjenaa
