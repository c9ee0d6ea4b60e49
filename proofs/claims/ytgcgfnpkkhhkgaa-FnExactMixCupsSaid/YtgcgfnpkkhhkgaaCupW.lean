/- The laws on cups, walked. -/
import Derived.Test.YtgcgfnpkkhhkgaaCup3
namespace Go.Proofs.Ytgcgfnpkkhhkgaa
open Go.RowKit
set_option linter.unusedVariables false

theorem eqCup_any (m k : Int) (w : World) : Calls Try.prog 20 #[.agg #[.int .i64 m, .int .i64 k], .agg #[.int .i64 m, .int .i64 k]] w (BolB true w) := by
  go_enter Try.func20, Try.ntmps20
  go_wp2
  go_ret
  exact ⟨rfl, (by repeat (first | exact Below.refl _ _ | refine Below.setCell ?_ (by first | exact Nat.le_refl _ | (simp; done) | (simp; omega) | omega) _ | refine below_drewN ?_ _ | refine Below.alloc ?_ (by first | exact Nat.le_refl _ | (simp; done) | (simp; omega) | omega) _))⟩
theorem Boxed.bolb {b : Bool} {m k : Int} {w : World} {e : Ending} {w' : World} (h : Boxed b m k w e w') : BolB b w e w' := by
  obtain ⟨he, rfl⟩ := h
  exact ⟨he, below_al1 _ _⟩

theorem fnExactValidCup_walk (m k : Int) (w : World) (_ : (Lit.int .i64 m).wf = true) (_ : (Lit.int .i64 k).wf = true) :
    Calls Try.prog 3 #[.agg #[.int .i64 m, .int .i64 k]] w (Tru w) := by
  have A := Lib.hid (Cells.made w [.int .i64 m, .int .i64 k] 23)
  have Bw := Lib.hid (below_al1 w (.cells [Value.int .i64 m, .int .i64 k].toArray 23))
  go_enter Try.func3, Try.ntmps3
  go_wp2_with fail
  refine (toCup_any m k _).mono ?_
  rintro e w1 ⟨rfl, hb⟩
  (first | (have Bw := Lib.hid (below_step Bw.out hb)) | (have Bw := Lib.hid (below_step Bw.out (below_undrew hb))) | (have Bw := Lib.hid (below_step Bw.out (below_unal hb))) | (have Bw := Lib.hid (below_step Bw.out (below_unal (below_undrew hb)))) | (have Bw := Lib.hid (below_step Bw.out (below_undrew (below_unal hb)))) | (have Bw := Lib.hid (below_step Bw.out (below_unal (below_unal hb)))))
  (first | (have A := Lib.hid (A.out.kept hb)) | (have A := Lib.hid (A.out.kept (below_undrew hb))) | (have A := Lib.hid (A.out.kept (below_unal hb))) | (have A := Lib.hid (A.out.kept (below_unal (below_undrew hb)))) | (have A := Lib.hid (A.out.kept (below_undrew (below_unal hb)))) | (have A := Lib.hid (A.out.kept (below_unal (below_unal hb)))))
  have c0 := A.out.at 0 rfl; have c1 := A.out.at 1 rfl
  clear hb
  go_wp2_with fail
  refine (specVCup_any m k _).mono ?_
  rintro e w2 ⟨rfl, hb⟩
  (first | (have Bw := Lib.hid (below_step Bw.out hb)) | (have Bw := Lib.hid (below_step Bw.out (below_undrew hb))) | (have Bw := Lib.hid (below_step Bw.out (below_unal hb))) | (have Bw := Lib.hid (below_step Bw.out (below_unal (below_undrew hb)))) | (have Bw := Lib.hid (below_step Bw.out (below_undrew (below_unal hb)))) | (have Bw := Lib.hid (below_step Bw.out (below_unal (below_unal hb)))))
  (first | (have A := Lib.hid (A.out.kept hb)) | (have A := Lib.hid (A.out.kept (below_undrew hb))) | (have A := Lib.hid (A.out.kept (below_unal hb))) | (have A := Lib.hid (A.out.kept (below_unal (below_undrew hb)))) | (have A := Lib.hid (A.out.kept (below_undrew (below_unal hb)))) | (have A := Lib.hid (A.out.kept (below_unal (below_unal hb)))))
  have c0 := A.out.at 0 rfl; have c1 := A.out.at 1 rfl
  clear hb
  go_wp2_with fail
  refine (toCup_any m k _).mono ?_
  rintro e w1 ⟨rfl, hb⟩
  (first | (have Bw := Lib.hid (below_step Bw.out hb)) | (have Bw := Lib.hid (below_step Bw.out (below_undrew hb))) | (have Bw := Lib.hid (below_step Bw.out (below_unal hb))) | (have Bw := Lib.hid (below_step Bw.out (below_unal (below_undrew hb)))) | (have Bw := Lib.hid (below_step Bw.out (below_undrew (below_unal hb)))) | (have Bw := Lib.hid (below_step Bw.out (below_unal (below_unal hb)))))
  (first | (have A := Lib.hid (A.out.kept hb)) | (have A := Lib.hid (A.out.kept (below_undrew hb))) | (have A := Lib.hid (A.out.kept (below_unal hb))) | (have A := Lib.hid (A.out.kept (below_unal (below_undrew hb)))) | (have A := Lib.hid (A.out.kept (below_undrew (below_unal hb)))) | (have A := Lib.hid (A.out.kept (below_unal (below_unal hb)))))
  have c0 := A.out.at 0 rfl; have c1 := A.out.at 1 rfl
  clear hb
  go_wp2_with fail
  refine ((implVCup_any m k _).mono (fun _ _ h => h.bolb)).mono ?_
  rintro e w3 ⟨rfl, hb⟩
  (first | (have Bw := Lib.hid (below_step Bw.out hb)) | (have Bw := Lib.hid (below_step Bw.out (below_undrew hb))) | (have Bw := Lib.hid (below_step Bw.out (below_unal hb))) | (have Bw := Lib.hid (below_step Bw.out (below_unal (below_undrew hb)))) | (have Bw := Lib.hid (below_step Bw.out (below_undrew (below_unal hb)))) | (have Bw := Lib.hid (below_step Bw.out (below_unal (below_unal hb)))))
  clear hb
  go_wp2
  go_ret
  exact Tru.below Bw.out

theorem fnExactMeltedInCup_walk (m k : Int) (w : World) (_ : (Lit.int .i64 m).wf = true) (_ : (Lit.int .i64 k).wf = true) :
    Calls Try.prog 6 #[.agg #[.int .i64 m, .int .i64 k]] w (Tru w) := by
  have A := Lib.hid (Cells.made w [.int .i64 m, .int .i64 k] 23)
  have Bw := Lib.hid (below_al1 w (.cells [Value.int .i64 m, .int .i64 k].toArray 23))
  go_enter Try.func6, Try.ntmps6
  go_wp2_with fail
  refine (toCup_any m k _).mono ?_
  rintro e w1 ⟨rfl, hb⟩
  (first | (have Bw := Lib.hid (below_step Bw.out hb)) | (have Bw := Lib.hid (below_step Bw.out (below_undrew hb))) | (have Bw := Lib.hid (below_step Bw.out (below_unal hb))) | (have Bw := Lib.hid (below_step Bw.out (below_unal (below_undrew hb)))) | (have Bw := Lib.hid (below_step Bw.out (below_undrew (below_unal hb)))) | (have Bw := Lib.hid (below_step Bw.out (below_unal (below_unal hb)))))
  (first | (have A := Lib.hid (A.out.kept hb)) | (have A := Lib.hid (A.out.kept (below_undrew hb))) | (have A := Lib.hid (A.out.kept (below_unal hb))) | (have A := Lib.hid (A.out.kept (below_unal (below_undrew hb)))) | (have A := Lib.hid (A.out.kept (below_undrew (below_unal hb)))) | (have A := Lib.hid (A.out.kept (below_unal (below_unal hb)))))
  have c0 := A.out.at 0 rfl; have c1 := A.out.at 1 rfl
  clear hb
  go_wp2_with fail
  refine (specMelt_any m k _).mono ?_
  rintro e w2 ⟨rfl, hb⟩
  (first | (have Bw := Lib.hid (below_step Bw.out hb)) | (have Bw := Lib.hid (below_step Bw.out (below_undrew hb))) | (have Bw := Lib.hid (below_step Bw.out (below_unal hb))) | (have Bw := Lib.hid (below_step Bw.out (below_unal (below_undrew hb)))) | (have Bw := Lib.hid (below_step Bw.out (below_undrew (below_unal hb)))) | (have Bw := Lib.hid (below_step Bw.out (below_unal (below_unal hb)))))
  (first | (have A := Lib.hid (A.out.kept hb)) | (have A := Lib.hid (A.out.kept (below_undrew hb))) | (have A := Lib.hid (A.out.kept (below_unal hb))) | (have A := Lib.hid (A.out.kept (below_unal (below_undrew hb)))) | (have A := Lib.hid (A.out.kept (below_undrew (below_unal hb)))) | (have A := Lib.hid (A.out.kept (below_unal (below_unal hb)))))
  have c0 := A.out.at 0 rfl; have c1 := A.out.at 1 rfl
  clear hb
  go_wp2_with fail
  refine (toCup_any m k _).mono ?_
  rintro e w1 ⟨rfl, hb⟩
  (first | (have Bw := Lib.hid (below_step Bw.out hb)) | (have Bw := Lib.hid (below_step Bw.out (below_undrew hb))) | (have Bw := Lib.hid (below_step Bw.out (below_unal hb))) | (have Bw := Lib.hid (below_step Bw.out (below_unal (below_undrew hb)))) | (have Bw := Lib.hid (below_step Bw.out (below_undrew (below_unal hb)))) | (have Bw := Lib.hid (below_step Bw.out (below_unal (below_unal hb)))))
  (first | (have A := Lib.hid (A.out.kept hb)) | (have A := Lib.hid (A.out.kept (below_undrew hb))) | (have A := Lib.hid (A.out.kept (below_unal hb))) | (have A := Lib.hid (A.out.kept (below_unal (below_undrew hb)))) | (have A := Lib.hid (A.out.kept (below_undrew (below_unal hb)))) | (have A := Lib.hid (A.out.kept (below_unal (below_unal hb)))))
  have c0 := A.out.at 0 rfl; have c1 := A.out.at 1 rfl
  clear hb
  go_wp2_with fail
  refine (implMelt_any m k _).mono ?_
  rintro e w3 ⟨rfl, hb⟩
  (first | (have Bw := Lib.hid (below_step Bw.out hb)) | (have Bw := Lib.hid (below_step Bw.out (below_undrew hb))) | (have Bw := Lib.hid (below_step Bw.out (below_unal hb))) | (have Bw := Lib.hid (below_step Bw.out (below_unal (below_undrew hb)))) | (have Bw := Lib.hid (below_step Bw.out (below_undrew (below_unal hb)))) | (have Bw := Lib.hid (below_step Bw.out (below_unal (below_unal hb)))))
  clear hb
  go_wp2
  go_ret
  exact Tru.below Bw.out

theorem fnExactWarmOfCup_walk (m k : Int) (w : World) (_ : (Lit.int .i64 m).wf = true) (_ : (Lit.int .i64 k).wf = true) :
    Calls Try.prog 7 #[.agg #[.int .i64 m, .int .i64 k]] w (Tru w) := by
  have A := Lib.hid (Cells.made w [.int .i64 m, .int .i64 k] 23)
  have Bw := Lib.hid (below_al1 w (.cells [Value.int .i64 m, .int .i64 k].toArray 23))
  go_enter Try.func7, Try.ntmps7
  go_wp2_with fail
  refine (toCup_any m k _).mono ?_
  rintro e w1 ⟨rfl, hb⟩
  (first | (have Bw := Lib.hid (below_step Bw.out hb)) | (have Bw := Lib.hid (below_step Bw.out (below_undrew hb))) | (have Bw := Lib.hid (below_step Bw.out (below_unal hb))) | (have Bw := Lib.hid (below_step Bw.out (below_unal (below_undrew hb)))) | (have Bw := Lib.hid (below_step Bw.out (below_undrew (below_unal hb)))) | (have Bw := Lib.hid (below_step Bw.out (below_unal (below_unal hb)))))
  (first | (have A := Lib.hid (A.out.kept hb)) | (have A := Lib.hid (A.out.kept (below_undrew hb))) | (have A := Lib.hid (A.out.kept (below_unal hb))) | (have A := Lib.hid (A.out.kept (below_unal (below_undrew hb)))) | (have A := Lib.hid (A.out.kept (below_undrew (below_unal hb)))) | (have A := Lib.hid (A.out.kept (below_unal (below_unal hb)))))
  have c0 := A.out.at 0 rfl; have c1 := A.out.at 1 rfl
  clear hb
  go_wp2_with fail
  refine (specWarmC_any m k _).mono ?_
  rintro e w2 ⟨rfl, hb⟩
  (first | (have Bw := Lib.hid (below_step Bw.out hb)) | (have Bw := Lib.hid (below_step Bw.out (below_undrew hb))) | (have Bw := Lib.hid (below_step Bw.out (below_unal hb))) | (have Bw := Lib.hid (below_step Bw.out (below_unal (below_undrew hb)))) | (have Bw := Lib.hid (below_step Bw.out (below_undrew (below_unal hb)))) | (have Bw := Lib.hid (below_step Bw.out (below_unal (below_unal hb)))))
  (first | (have A := Lib.hid (A.out.kept hb)) | (have A := Lib.hid (A.out.kept (below_undrew hb))) | (have A := Lib.hid (A.out.kept (below_unal hb))) | (have A := Lib.hid (A.out.kept (below_unal (below_undrew hb)))) | (have A := Lib.hid (A.out.kept (below_undrew (below_unal hb)))) | (have A := Lib.hid (A.out.kept (below_unal (below_unal hb)))))
  have c0 := A.out.at 0 rfl; have c1 := A.out.at 1 rfl
  clear hb
  go_wp2_with fail
  refine (toCup_any m k _).mono ?_
  rintro e w1 ⟨rfl, hb⟩
  (first | (have Bw := Lib.hid (below_step Bw.out hb)) | (have Bw := Lib.hid (below_step Bw.out (below_undrew hb))) | (have Bw := Lib.hid (below_step Bw.out (below_unal hb))) | (have Bw := Lib.hid (below_step Bw.out (below_unal (below_undrew hb)))) | (have Bw := Lib.hid (below_step Bw.out (below_undrew (below_unal hb)))) | (have Bw := Lib.hid (below_step Bw.out (below_unal (below_unal hb)))))
  (first | (have A := Lib.hid (A.out.kept hb)) | (have A := Lib.hid (A.out.kept (below_undrew hb))) | (have A := Lib.hid (A.out.kept (below_unal hb))) | (have A := Lib.hid (A.out.kept (below_unal (below_undrew hb)))) | (have A := Lib.hid (A.out.kept (below_undrew (below_unal hb)))) | (have A := Lib.hid (A.out.kept (below_unal (below_unal hb)))))
  have c0 := A.out.at 0 rfl; have c1 := A.out.at 1 rfl
  clear hb
  go_wp2_with fail
  refine (implWarmC_any m k _).mono ?_
  rintro e w3 ⟨rfl, hb⟩
  (first | (have Bw := Lib.hid (below_step Bw.out hb)) | (have Bw := Lib.hid (below_step Bw.out (below_undrew hb))) | (have Bw := Lib.hid (below_step Bw.out (below_unal hb))) | (have Bw := Lib.hid (below_step Bw.out (below_unal (below_undrew hb)))) | (have Bw := Lib.hid (below_step Bw.out (below_undrew (below_unal hb)))) | (have Bw := Lib.hid (below_step Bw.out (below_unal (below_unal hb)))))
  clear hb
  go_wp2
  go_ret
  exact Tru.below Bw.out

theorem fnExactHeatCup_walk (m k d : Int) (w : World) (_ : (Lit.int .i64 m).wf = true) (_ : (Lit.int .i64 k).wf = true) (_ : (Lit.int .i64 d).wf = true) :
    Calls Try.prog 5 #[.agg #[.int .i64 m, .int .i64 k], .int .i64 d] w (Tru w) := by
  have A := Lib.hid (Cells.made w [.int .i64 m, .int .i64 k] 23)
  have Bw := Lib.hid (below_al1 w (.cells [Value.int .i64 m, .int .i64 k].toArray 23))
  cases hB : heatB m k d
  · have HB := Lib.hid hB
    clear hB
    go_enter Try.func5, Try.ntmps5
    go_wp2_with fail
    refine (toCup_any m k _).mono ?_
    rintro e w1 ⟨rfl, hb⟩
    (first | (have Bw := Lib.hid (below_step Bw.out hb)) | (have Bw := Lib.hid (below_step Bw.out (below_undrew hb))) | (have Bw := Lib.hid (below_step Bw.out (below_unal hb))) | (have Bw := Lib.hid (below_step Bw.out (below_unal (below_undrew hb)))) | (have Bw := Lib.hid (below_step Bw.out (below_undrew (below_unal hb)))) | (have Bw := Lib.hid (below_step Bw.out (below_unal (below_unal hb)))))
    (first | (have A := Lib.hid (A.out.kept hb)) | (have A := Lib.hid (A.out.kept (below_undrew hb))) | (have A := Lib.hid (A.out.kept (below_unal hb))) | (have A := Lib.hid (A.out.kept (below_unal (below_undrew hb)))) | (have A := Lib.hid (A.out.kept (below_undrew (below_unal hb)))) | (have A := Lib.hid (A.out.kept (below_unal (below_unal hb)))))
    have c0 := A.out.at 0 rfl; have c1 := A.out.at 1 rfl
    clear hb
    go_wp2_with fail
    refine (specHeat_any m k d _).mono ?_
    unfold CupB
    rw [HB.out]
    rintro e w2 ⟨rfl, hb⟩
    (first | (have Bw := Lib.hid (below_step Bw.out hb)) | (have Bw := Lib.hid (below_step Bw.out (below_undrew hb))) | (have Bw := Lib.hid (below_step Bw.out (below_unal hb))) | (have Bw := Lib.hid (below_step Bw.out (below_unal (below_undrew hb)))) | (have Bw := Lib.hid (below_step Bw.out (below_undrew (below_unal hb)))) | (have Bw := Lib.hid (below_step Bw.out (below_unal (below_unal hb)))))
    (first | (have A := Lib.hid (A.out.kept hb)) | (have A := Lib.hid (A.out.kept (below_undrew hb))) | (have A := Lib.hid (A.out.kept (below_unal hb))) | (have A := Lib.hid (A.out.kept (below_unal (below_undrew hb)))) | (have A := Lib.hid (A.out.kept (below_undrew (below_unal hb)))) | (have A := Lib.hid (A.out.kept (below_unal (below_unal hb)))))
    clear hb c0 c1
    have X := Lib.hid (Cells.made w2 [.int .i64 0, .int .i64 0] 25)
    have A := Lib.hid (A.out.al (.cells [Value.int .i64 0, .int .i64 0].toArray 25))
    have Bw := Lib.hid (below_step Bw.out (below_al1 w2 (.cells [Value.int .i64 0, .int .i64 0].toArray 25)))
    have c0 := A.out.at 0 rfl; have c1 := A.out.at 1 rfl; have x0 := X.out.at 0 rfl; have x1 := X.out.at 1 rfl
    go_wp2_with fail
    refine (toCup_any m k _).mono ?_
    rintro e w3 ⟨rfl, hb⟩
    (first | (have Bw := Lib.hid (below_step Bw.out hb)) | (have Bw := Lib.hid (below_step Bw.out (below_undrew hb))) | (have Bw := Lib.hid (below_step Bw.out (below_unal hb))) | (have Bw := Lib.hid (below_step Bw.out (below_unal (below_undrew hb)))) | (have Bw := Lib.hid (below_step Bw.out (below_undrew (below_unal hb)))) | (have Bw := Lib.hid (below_step Bw.out (below_unal (below_unal hb))))); (first | (have A := Lib.hid (A.out.kept hb)) | (have A := Lib.hid (A.out.kept (below_undrew hb))) | (have A := Lib.hid (A.out.kept (below_unal hb))) | (have A := Lib.hid (A.out.kept (below_unal (below_undrew hb)))) | (have A := Lib.hid (A.out.kept (below_undrew (below_unal hb)))) | (have A := Lib.hid (A.out.kept (below_unal (below_unal hb))))); (first | (have X := Lib.hid (X.out.kept hb)) | (have X := Lib.hid (X.out.kept (below_undrew hb))) | (have X := Lib.hid (X.out.kept (below_unal hb))) | (have X := Lib.hid (X.out.kept (below_unal (below_undrew hb)))) | (have X := Lib.hid (X.out.kept (below_undrew (below_unal hb)))) | (have X := Lib.hid (X.out.kept (below_unal (below_unal hb)))))
    clear c0 c1 x0 x1
    have c0 := A.out.at 0 rfl; have c1 := A.out.at 1 rfl; have x0 := X.out.at 0 rfl; have x1 := X.out.at 1 rfl
    clear hb
    go_wp2_with fail
    refine (implHeat_any m k d _).mono ?_
    unfold CupB
    rw [HB.out]
    rintro e w4 ⟨rfl, hb⟩
    (first | (have Bw := Lib.hid (below_step Bw.out hb)) | (have Bw := Lib.hid (below_step Bw.out (below_undrew hb))) | (have Bw := Lib.hid (below_step Bw.out (below_unal hb))) | (have Bw := Lib.hid (below_step Bw.out (below_unal (below_undrew hb)))) | (have Bw := Lib.hid (below_step Bw.out (below_undrew (below_unal hb)))) | (have Bw := Lib.hid (below_step Bw.out (below_unal (below_unal hb))))); (first | (have A := Lib.hid (A.out.kept hb)) | (have A := Lib.hid (A.out.kept (below_undrew hb))) | (have A := Lib.hid (A.out.kept (below_unal hb))) | (have A := Lib.hid (A.out.kept (below_unal (below_undrew hb)))) | (have A := Lib.hid (A.out.kept (below_undrew (below_unal hb)))) | (have A := Lib.hid (A.out.kept (below_unal (below_unal hb))))); (first | (have X := Lib.hid (X.out.kept hb)) | (have X := Lib.hid (X.out.kept (below_undrew hb))) | (have X := Lib.hid (X.out.kept (below_unal hb))) | (have X := Lib.hid (X.out.kept (below_unal (below_undrew hb)))) | (have X := Lib.hid (X.out.kept (below_undrew (below_unal hb)))) | (have X := Lib.hid (X.out.kept (below_unal (below_unal hb)))))
    clear hb c0 c1 x0 x1
    have Y := Lib.hid (Cells.made w4 [.int .i64 0, .int .i64 0] 25)
    have X := Lib.hid (X.out.al (.cells [Value.int .i64 0, .int .i64 0].toArray 25))
    have Bw := Lib.hid (below_step Bw.out (below_al1 w4 (.cells [Value.int .i64 0, .int .i64 0].toArray 25)))
    have x0 := X.out.at 0 rfl; have x1 := X.out.at 1 rfl; have y0 := Y.out.at 0 rfl; have y1 := Y.out.at 1 rfl
    go_wp2_with fail
    refine (eqCup_any _ _ _).mono ?_
    rintro e w5 ⟨rfl, hb⟩
    (first | (have Bw := Lib.hid (below_step Bw.out hb)) | (have Bw := Lib.hid (below_step Bw.out (below_undrew hb))) | (have Bw := Lib.hid (below_step Bw.out (below_unal hb))) | (have Bw := Lib.hid (below_step Bw.out (below_unal (below_undrew hb)))) | (have Bw := Lib.hid (below_step Bw.out (below_undrew (below_unal hb)))) | (have Bw := Lib.hid (below_step Bw.out (below_unal (below_unal hb)))))
    clear hb
    go_wp2
    go_ret
    exact Tru.below Bw.out

  · have HB := Lib.hid hB
    clear hB
    go_enter Try.func5, Try.ntmps5
    go_wp2_with fail
    refine (toCup_any m k _).mono ?_
    rintro e w1 ⟨rfl, hb⟩
    (first | (have Bw := Lib.hid (below_step Bw.out hb)) | (have Bw := Lib.hid (below_step Bw.out (below_undrew hb))) | (have Bw := Lib.hid (below_step Bw.out (below_unal hb))) | (have Bw := Lib.hid (below_step Bw.out (below_unal (below_undrew hb)))) | (have Bw := Lib.hid (below_step Bw.out (below_undrew (below_unal hb)))) | (have Bw := Lib.hid (below_step Bw.out (below_unal (below_unal hb)))))
    (first | (have A := Lib.hid (A.out.kept hb)) | (have A := Lib.hid (A.out.kept (below_undrew hb))) | (have A := Lib.hid (A.out.kept (below_unal hb))) | (have A := Lib.hid (A.out.kept (below_unal (below_undrew hb)))) | (have A := Lib.hid (A.out.kept (below_undrew (below_unal hb)))) | (have A := Lib.hid (A.out.kept (below_unal (below_unal hb)))))
    have c0 := A.out.at 0 rfl; have c1 := A.out.at 1 rfl
    clear hb
    go_wp2_with fail
    refine (specHeat_any m k d _).mono ?_
    unfold CupB
    rw [HB.out]
    rintro e w2 ⟨rfl, hb⟩
    (first | (have Bw := Lib.hid (below_step Bw.out hb)) | (have Bw := Lib.hid (below_step Bw.out (below_undrew hb))) | (have Bw := Lib.hid (below_step Bw.out (below_unal hb))) | (have Bw := Lib.hid (below_step Bw.out (below_unal (below_undrew hb)))) | (have Bw := Lib.hid (below_step Bw.out (below_undrew (below_unal hb)))) | (have Bw := Lib.hid (below_step Bw.out (below_unal (below_unal hb)))))
    (first | (have A := Lib.hid (A.out.kept hb)) | (have A := Lib.hid (A.out.kept (below_undrew hb))) | (have A := Lib.hid (A.out.kept (below_unal hb))) | (have A := Lib.hid (A.out.kept (below_unal (below_undrew hb)))) | (have A := Lib.hid (A.out.kept (below_undrew (below_unal hb)))) | (have A := Lib.hid (A.out.kept (below_unal (below_unal hb)))))
    clear hb c0 c1
    have X := Lib.hid (Cells.made w2 [.int .i64 m, .int .i64 (k + d)] 25)
    have A := Lib.hid (A.out.al (.cells [Value.int .i64 m, .int .i64 (k + d)].toArray 25))
    have Bw := Lib.hid (below_step Bw.out (below_al1 w2 (.cells [Value.int .i64 m, .int .i64 (k + d)].toArray 25)))
    have c0 := A.out.at 0 rfl; have c1 := A.out.at 1 rfl; have x0 := X.out.at 0 rfl; have x1 := X.out.at 1 rfl
    go_wp2_with fail
    refine (toCup_any m k _).mono ?_
    rintro e w3 ⟨rfl, hb⟩
    (first | (have Bw := Lib.hid (below_step Bw.out hb)) | (have Bw := Lib.hid (below_step Bw.out (below_undrew hb))) | (have Bw := Lib.hid (below_step Bw.out (below_unal hb))) | (have Bw := Lib.hid (below_step Bw.out (below_unal (below_undrew hb)))) | (have Bw := Lib.hid (below_step Bw.out (below_undrew (below_unal hb)))) | (have Bw := Lib.hid (below_step Bw.out (below_unal (below_unal hb))))); (first | (have A := Lib.hid (A.out.kept hb)) | (have A := Lib.hid (A.out.kept (below_undrew hb))) | (have A := Lib.hid (A.out.kept (below_unal hb))) | (have A := Lib.hid (A.out.kept (below_unal (below_undrew hb)))) | (have A := Lib.hid (A.out.kept (below_undrew (below_unal hb)))) | (have A := Lib.hid (A.out.kept (below_unal (below_unal hb))))); (first | (have X := Lib.hid (X.out.kept hb)) | (have X := Lib.hid (X.out.kept (below_undrew hb))) | (have X := Lib.hid (X.out.kept (below_unal hb))) | (have X := Lib.hid (X.out.kept (below_unal (below_undrew hb)))) | (have X := Lib.hid (X.out.kept (below_undrew (below_unal hb)))) | (have X := Lib.hid (X.out.kept (below_unal (below_unal hb)))))
    clear c0 c1 x0 x1
    have c0 := A.out.at 0 rfl; have c1 := A.out.at 1 rfl; have x0 := X.out.at 0 rfl; have x1 := X.out.at 1 rfl
    clear hb
    go_wp2_with fail
    refine (implHeat_any m k d _).mono ?_
    unfold CupB
    rw [HB.out]
    rintro e w4 ⟨rfl, hb⟩
    (first | (have Bw := Lib.hid (below_step Bw.out hb)) | (have Bw := Lib.hid (below_step Bw.out (below_undrew hb))) | (have Bw := Lib.hid (below_step Bw.out (below_unal hb))) | (have Bw := Lib.hid (below_step Bw.out (below_unal (below_undrew hb)))) | (have Bw := Lib.hid (below_step Bw.out (below_undrew (below_unal hb)))) | (have Bw := Lib.hid (below_step Bw.out (below_unal (below_unal hb))))); (first | (have A := Lib.hid (A.out.kept hb)) | (have A := Lib.hid (A.out.kept (below_undrew hb))) | (have A := Lib.hid (A.out.kept (below_unal hb))) | (have A := Lib.hid (A.out.kept (below_unal (below_undrew hb)))) | (have A := Lib.hid (A.out.kept (below_undrew (below_unal hb)))) | (have A := Lib.hid (A.out.kept (below_unal (below_unal hb))))); (first | (have X := Lib.hid (X.out.kept hb)) | (have X := Lib.hid (X.out.kept (below_undrew hb))) | (have X := Lib.hid (X.out.kept (below_unal hb))) | (have X := Lib.hid (X.out.kept (below_unal (below_undrew hb)))) | (have X := Lib.hid (X.out.kept (below_undrew (below_unal hb)))) | (have X := Lib.hid (X.out.kept (below_unal (below_unal hb)))))
    clear hb c0 c1 x0 x1
    have Y := Lib.hid (Cells.made w4 [.int .i64 m, .int .i64 (k + d)] 25)
    have X := Lib.hid (X.out.al (.cells [Value.int .i64 m, .int .i64 (k + d)].toArray 25))
    have Bw := Lib.hid (below_step Bw.out (below_al1 w4 (.cells [Value.int .i64 m, .int .i64 (k + d)].toArray 25)))
    have x0 := X.out.at 0 rfl; have x1 := X.out.at 1 rfl; have y0 := Y.out.at 0 rfl; have y1 := Y.out.at 1 rfl
    go_wp2_with fail
    refine (eqCup_any _ _ _).mono ?_
    rintro e w5 ⟨rfl, hb⟩
    (first | (have Bw := Lib.hid (below_step Bw.out hb)) | (have Bw := Lib.hid (below_step Bw.out (below_undrew hb))) | (have Bw := Lib.hid (below_step Bw.out (below_unal hb))) | (have Bw := Lib.hid (below_step Bw.out (below_unal (below_undrew hb)))) | (have Bw := Lib.hid (below_step Bw.out (below_undrew (below_unal hb)))) | (have Bw := Lib.hid (below_step Bw.out (below_unal (below_unal hb)))))
    clear hb
    go_wp2
    go_ret
    exact Tru.below Bw.out

end Go.Proofs.Ytgcgfnpkkhhkgaa
