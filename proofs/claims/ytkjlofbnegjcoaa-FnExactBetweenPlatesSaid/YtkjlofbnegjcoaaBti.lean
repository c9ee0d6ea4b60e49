/- What flows between plates: the program. -/
import Derived.Test.YtkjlofbnegjcoaaBtw
namespace Go.Proofs.Ytkjlofbnegjcoaa
open Go.RowKit
set_option linter.unusedVariables false

theorem d0' {n : Int} : decide (0 ≤ n) = !decide (n < 0) := by
  by_cases h : 0 ≤ n
  · rw [decide_eq_true h, decide_eq_false (by omega)]; rfl
  · rw [decide_eq_false h, decide_eq_true (by omega)]; rfl
set_option maxRecDepth 4000 in
set_option maxHeartbeats 3200000 in
theorem implShield_any (a b : FA) (n : Int) (x : Nat) (w : World) : Calls Try.prog 36 #[.agg #[.float .f32 a.wd, .float .f32 a.sh, .float .f32 a.wm], .agg #[.float .f32 b.wd, .float .f32 b.sh, .float .f32 b.wm], .int .i64 n, .float .f32 x] w (GivB (cS (bwB a b n x) (bwX a b n x)) (cB (bwB a b n x) (bwX a b n x)) w) := by
  have BE := show bwB a b n x = (vFace a && vFace b && decide (0 ≤ n) && decide (n ≤ 16) && shn x) by unfold bwB; simp only [Bool.and_assoc]
  have A := Lib.hid ((Cells.made w a.vs 26).kept (below_al1 _ (.cells #[.float .f32 b.wd, .float .f32 b.sh, .float .f32 b.wm] 26)))
  have X := Cells.made (w.alloc (.cells #[.float .f32 a.wd, .float .f32 a.sh, .float .f32 a.wm] 26)) b.vs 26
  rw [show (w.alloc (.cells #[.float .f32 a.wd, .float .f32 a.sh, .float .f32 a.wm] 26)).heap.size = w.heap.size + 1 from by simp] at X
  have X := Lib.hid X
  have Bw := Lib.hid (below_step (below_al1 w (.cells #[.float .f32 a.wd, .float .f32 a.sh, .float .f32 a.wm] 26)) (below_al1 _ (.cells #[.float .f32 b.wd, .float .f32 b.sh, .float .f32 b.wm] 26)))
  cases B0 : vFace a
  · skip
    have E := Lib.hid (show bwB a b n x = false by rw [BE, B0]; simp)
    have H0 := Lib.hid B0
    clear BE B0
    go_enter Try.func36, Try.ntmps36
    go_wp2_with fail
    refine (implFace_any a _).mono ?_
    rw [H0.out]
    rintro e w1 ⟨rfl, hb⟩
    (first | (have Bw := Lib.hid (below_step Bw.out hb)) | (have Bw := Lib.hid (below_step Bw.out (below_undrew hb))) | (have Bw := Lib.hid (below_step Bw.out (below_unal hb))) | (have Bw := Lib.hid (below_step Bw.out (below_unal (below_undrew hb)))) | (have Bw := Lib.hid (below_step Bw.out (below_undrew (below_unal hb)))) | (have Bw := Lib.hid (below_step Bw.out (below_unal (below_unal hb)))))
    (first | (have A := Lib.hid (A.out.kept hb)) | (have A := Lib.hid (A.out.kept (below_undrew hb))) | (have A := Lib.hid (A.out.kept (below_unal hb))) | (have A := Lib.hid (A.out.kept (below_unal (below_undrew hb)))) | (have A := Lib.hid (A.out.kept (below_undrew (below_unal hb)))) | (have A := Lib.hid (A.out.kept (below_unal (below_unal hb)))))
    (first | (have X := Lib.hid (X.out.kept hb)) | (have X := Lib.hid (X.out.kept (below_undrew hb))) | (have X := Lib.hid (X.out.kept (below_unal hb))) | (have X := Lib.hid (X.out.kept (below_unal (below_undrew hb)))) | (have X := Lib.hid (X.out.kept (below_undrew (below_unal hb)))) | (have X := Lib.hid (X.out.kept (below_unal (below_unal hb)))))
    try clear c0 c1 c2 d0 d1 d2
    have c0 := A.out.at 0 rfl; have c1 := A.out.at 1 rfl; have c2 := A.out.at 2 rfl; have d0 := X.out.at 0 rfl; have d1 := X.out.at 1 rfl; have d2 := X.out.at 2 rfl
    clear hb
    go_wp2
    go_ret2
    exact cGiv_no E.out (by first | exact below_drewN Bw.out _ | exact Bw.out)
  · skip
    cases B1 : vFace b
    · skip
      have E := Lib.hid (show bwB a b n x = false by rw [BE, B0, B1]; simp)
      have H0 := Lib.hid B0
      have H1 := Lib.hid B1
      clear BE B0 B1
      go_enter Try.func36, Try.ntmps36
      go_wp2_with fail
      refine (implFace_any a _).mono ?_
      rw [H0.out]
      rintro e w1 ⟨rfl, hb⟩
      (first | (have Bw := Lib.hid (below_step Bw.out hb)) | (have Bw := Lib.hid (below_step Bw.out (below_undrew hb))) | (have Bw := Lib.hid (below_step Bw.out (below_unal hb))) | (have Bw := Lib.hid (below_step Bw.out (below_unal (below_undrew hb)))) | (have Bw := Lib.hid (below_step Bw.out (below_undrew (below_unal hb)))) | (have Bw := Lib.hid (below_step Bw.out (below_unal (below_unal hb)))))
      (first | (have A := Lib.hid (A.out.kept hb)) | (have A := Lib.hid (A.out.kept (below_undrew hb))) | (have A := Lib.hid (A.out.kept (below_unal hb))) | (have A := Lib.hid (A.out.kept (below_unal (below_undrew hb)))) | (have A := Lib.hid (A.out.kept (below_undrew (below_unal hb)))) | (have A := Lib.hid (A.out.kept (below_unal (below_unal hb)))))
      (first | (have X := Lib.hid (X.out.kept hb)) | (have X := Lib.hid (X.out.kept (below_undrew hb))) | (have X := Lib.hid (X.out.kept (below_unal hb))) | (have X := Lib.hid (X.out.kept (below_unal (below_undrew hb)))) | (have X := Lib.hid (X.out.kept (below_undrew (below_unal hb)))) | (have X := Lib.hid (X.out.kept (below_unal (below_unal hb)))))
      try clear c0 c1 c2 d0 d1 d2
      have c0 := A.out.at 0 rfl; have c1 := A.out.at 1 rfl; have c2 := A.out.at 2 rfl; have d0 := X.out.at 0 rfl; have d1 := X.out.at 1 rfl; have d2 := X.out.at 2 rfl
      clear hb
      go_wp2_with fail
      refine (implFace_any b _).mono ?_
      rw [H1.out]
      rintro e w1 ⟨rfl, hb⟩
      (first | (have Bw := Lib.hid (below_step Bw.out hb)) | (have Bw := Lib.hid (below_step Bw.out (below_undrew hb))) | (have Bw := Lib.hid (below_step Bw.out (below_unal hb))) | (have Bw := Lib.hid (below_step Bw.out (below_unal (below_undrew hb)))) | (have Bw := Lib.hid (below_step Bw.out (below_undrew (below_unal hb)))) | (have Bw := Lib.hid (below_step Bw.out (below_unal (below_unal hb)))))
      (first | (have A := Lib.hid (A.out.kept hb)) | (have A := Lib.hid (A.out.kept (below_undrew hb))) | (have A := Lib.hid (A.out.kept (below_unal hb))) | (have A := Lib.hid (A.out.kept (below_unal (below_undrew hb)))) | (have A := Lib.hid (A.out.kept (below_undrew (below_unal hb)))) | (have A := Lib.hid (A.out.kept (below_unal (below_unal hb)))))
      (first | (have X := Lib.hid (X.out.kept hb)) | (have X := Lib.hid (X.out.kept (below_undrew hb))) | (have X := Lib.hid (X.out.kept (below_unal hb))) | (have X := Lib.hid (X.out.kept (below_unal (below_undrew hb)))) | (have X := Lib.hid (X.out.kept (below_undrew (below_unal hb)))) | (have X := Lib.hid (X.out.kept (below_unal (below_unal hb)))))
      try clear c0 c1 c2 d0 d1 d2
      have c0 := A.out.at 0 rfl; have c1 := A.out.at 1 rfl; have c2 := A.out.at 2 rfl; have d0 := X.out.at 0 rfl; have d1 := X.out.at 1 rfl; have d2 := X.out.at 2 rfl
      clear hb
      go_wp2
      go_ret2
      exact cGiv_no E.out (by first | exact below_drewN Bw.out _ | exact Bw.out)
    · skip
      cases B2 : decide (0 ≤ n)
      · skip
        have E := Lib.hid (show bwB a b n x = false by rw [BE, B0, B1, B2]; simp)
        have H0 := Lib.hid B0
        have H1 := Lib.hid B1
        have H2 := Lib.hid B2
        have n0 := of_decide_eq_false B2
        clear BE B0 B1 B2
        go_enter Try.func36, Try.ntmps36
        go_wp2_with fail
        refine (implFace_any a _).mono ?_
        rw [H0.out]
        rintro e w1 ⟨rfl, hb⟩
        (first | (have Bw := Lib.hid (below_step Bw.out hb)) | (have Bw := Lib.hid (below_step Bw.out (below_undrew hb))) | (have Bw := Lib.hid (below_step Bw.out (below_unal hb))) | (have Bw := Lib.hid (below_step Bw.out (below_unal (below_undrew hb)))) | (have Bw := Lib.hid (below_step Bw.out (below_undrew (below_unal hb)))) | (have Bw := Lib.hid (below_step Bw.out (below_unal (below_unal hb)))))
        (first | (have A := Lib.hid (A.out.kept hb)) | (have A := Lib.hid (A.out.kept (below_undrew hb))) | (have A := Lib.hid (A.out.kept (below_unal hb))) | (have A := Lib.hid (A.out.kept (below_unal (below_undrew hb)))) | (have A := Lib.hid (A.out.kept (below_undrew (below_unal hb)))) | (have A := Lib.hid (A.out.kept (below_unal (below_unal hb)))))
        (first | (have X := Lib.hid (X.out.kept hb)) | (have X := Lib.hid (X.out.kept (below_undrew hb))) | (have X := Lib.hid (X.out.kept (below_unal hb))) | (have X := Lib.hid (X.out.kept (below_unal (below_undrew hb)))) | (have X := Lib.hid (X.out.kept (below_undrew (below_unal hb)))) | (have X := Lib.hid (X.out.kept (below_unal (below_unal hb)))))
        try clear c0 c1 c2 d0 d1 d2
        have c0 := A.out.at 0 rfl; have c1 := A.out.at 1 rfl; have c2 := A.out.at 2 rfl; have d0 := X.out.at 0 rfl; have d1 := X.out.at 1 rfl; have d2 := X.out.at 2 rfl
        clear hb
        go_wp2_with fail
        refine (implFace_any b _).mono ?_
        rw [H1.out]
        rintro e w1 ⟨rfl, hb⟩
        (first | (have Bw := Lib.hid (below_step Bw.out hb)) | (have Bw := Lib.hid (below_step Bw.out (below_undrew hb))) | (have Bw := Lib.hid (below_step Bw.out (below_unal hb))) | (have Bw := Lib.hid (below_step Bw.out (below_unal (below_undrew hb)))) | (have Bw := Lib.hid (below_step Bw.out (below_undrew (below_unal hb)))) | (have Bw := Lib.hid (below_step Bw.out (below_unal (below_unal hb)))))
        (first | (have A := Lib.hid (A.out.kept hb)) | (have A := Lib.hid (A.out.kept (below_undrew hb))) | (have A := Lib.hid (A.out.kept (below_unal hb))) | (have A := Lib.hid (A.out.kept (below_unal (below_undrew hb)))) | (have A := Lib.hid (A.out.kept (below_undrew (below_unal hb)))) | (have A := Lib.hid (A.out.kept (below_unal (below_unal hb)))))
        (first | (have X := Lib.hid (X.out.kept hb)) | (have X := Lib.hid (X.out.kept (below_undrew hb))) | (have X := Lib.hid (X.out.kept (below_unal hb))) | (have X := Lib.hid (X.out.kept (below_unal (below_undrew hb)))) | (have X := Lib.hid (X.out.kept (below_undrew (below_unal hb)))) | (have X := Lib.hid (X.out.kept (below_unal (below_unal hb)))))
        try clear c0 c1 c2 d0 d1 d2
        have c0 := A.out.at 0 rfl; have c1 := A.out.at 1 rfl; have c2 := A.out.at 2 rfl; have d0 := X.out.at 0 rfl; have d1 := X.out.at 1 rfl; have d2 := X.out.at 2 rfl
        clear hb
        go_wp2
        go_ret2
        exact cGiv_no E.out (by first | exact below_drewN Bw.out _ | exact Bw.out)
      · skip
        cases B3 : decide (n ≤ 16)
        · skip
          have E := Lib.hid (show bwB a b n x = false by rw [BE, B0, B1, B2, B3]; simp)
          have H0 := Lib.hid B0
          have H1 := Lib.hid B1
          have H2 := Lib.hid B2
          have H3 := Lib.hid B3
          have n0 := of_decide_eq_true B2
          have n1 := of_decide_eq_false B3
          clear BE B0 B1 B2 B3
          go_enter Try.func36, Try.ntmps36
          go_wp2_with fail
          refine (implFace_any a _).mono ?_
          rw [H0.out]
          rintro e w1 ⟨rfl, hb⟩
          (first | (have Bw := Lib.hid (below_step Bw.out hb)) | (have Bw := Lib.hid (below_step Bw.out (below_undrew hb))) | (have Bw := Lib.hid (below_step Bw.out (below_unal hb))) | (have Bw := Lib.hid (below_step Bw.out (below_unal (below_undrew hb)))) | (have Bw := Lib.hid (below_step Bw.out (below_undrew (below_unal hb)))) | (have Bw := Lib.hid (below_step Bw.out (below_unal (below_unal hb)))))
          (first | (have A := Lib.hid (A.out.kept hb)) | (have A := Lib.hid (A.out.kept (below_undrew hb))) | (have A := Lib.hid (A.out.kept (below_unal hb))) | (have A := Lib.hid (A.out.kept (below_unal (below_undrew hb)))) | (have A := Lib.hid (A.out.kept (below_undrew (below_unal hb)))) | (have A := Lib.hid (A.out.kept (below_unal (below_unal hb)))))
          (first | (have X := Lib.hid (X.out.kept hb)) | (have X := Lib.hid (X.out.kept (below_undrew hb))) | (have X := Lib.hid (X.out.kept (below_unal hb))) | (have X := Lib.hid (X.out.kept (below_unal (below_undrew hb)))) | (have X := Lib.hid (X.out.kept (below_undrew (below_unal hb)))) | (have X := Lib.hid (X.out.kept (below_unal (below_unal hb)))))
          try clear c0 c1 c2 d0 d1 d2
          have c0 := A.out.at 0 rfl; have c1 := A.out.at 1 rfl; have c2 := A.out.at 2 rfl; have d0 := X.out.at 0 rfl; have d1 := X.out.at 1 rfl; have d2 := X.out.at 2 rfl
          clear hb
          go_wp2_with fail
          refine (implFace_any b _).mono ?_
          rw [H1.out]
          rintro e w1 ⟨rfl, hb⟩
          (first | (have Bw := Lib.hid (below_step Bw.out hb)) | (have Bw := Lib.hid (below_step Bw.out (below_undrew hb))) | (have Bw := Lib.hid (below_step Bw.out (below_unal hb))) | (have Bw := Lib.hid (below_step Bw.out (below_unal (below_undrew hb)))) | (have Bw := Lib.hid (below_step Bw.out (below_undrew (below_unal hb)))) | (have Bw := Lib.hid (below_step Bw.out (below_unal (below_unal hb)))))
          (first | (have A := Lib.hid (A.out.kept hb)) | (have A := Lib.hid (A.out.kept (below_undrew hb))) | (have A := Lib.hid (A.out.kept (below_unal hb))) | (have A := Lib.hid (A.out.kept (below_unal (below_undrew hb)))) | (have A := Lib.hid (A.out.kept (below_undrew (below_unal hb)))) | (have A := Lib.hid (A.out.kept (below_unal (below_unal hb)))))
          (first | (have X := Lib.hid (X.out.kept hb)) | (have X := Lib.hid (X.out.kept (below_undrew hb))) | (have X := Lib.hid (X.out.kept (below_unal hb))) | (have X := Lib.hid (X.out.kept (below_unal (below_undrew hb)))) | (have X := Lib.hid (X.out.kept (below_undrew (below_unal hb)))) | (have X := Lib.hid (X.out.kept (below_unal (below_unal hb)))))
          try clear c0 c1 c2 d0 d1 d2
          have c0 := A.out.at 0 rfl; have c1 := A.out.at 1 rfl; have c2 := A.out.at 2 rfl; have d0 := X.out.at 0 rfl; have d1 := X.out.at 1 rfl; have d2 := X.out.at 2 rfl
          clear hb
          go_wp2
          go_ret2
          exact cGiv_no E.out (by first | exact below_drewN Bw.out _ | exact Bw.out)
        · skip
          cases B4 : shn x
          · skip
            have E := Lib.hid (show bwB a b n x = false by rw [BE, B0, B1, B2, B3, B4]; simp)
            have H0 := Lib.hid B0
            have H1 := Lib.hid B1
            have H2 := Lib.hid B2
            have H3 := Lib.hid B3
            have H4 := Lib.hid B4
            have n0 := of_decide_eq_true B2
            have n1 := of_decide_eq_true B3
            clear BE B0 B1 B2 B3 B4
            go_enter Try.func36, Try.ntmps36
            go_wp2_with fail
            refine (implFace_any a _).mono ?_
            rw [H0.out]
            rintro e w1 ⟨rfl, hb⟩
            (first | (have Bw := Lib.hid (below_step Bw.out hb)) | (have Bw := Lib.hid (below_step Bw.out (below_undrew hb))) | (have Bw := Lib.hid (below_step Bw.out (below_unal hb))) | (have Bw := Lib.hid (below_step Bw.out (below_unal (below_undrew hb)))) | (have Bw := Lib.hid (below_step Bw.out (below_undrew (below_unal hb)))) | (have Bw := Lib.hid (below_step Bw.out (below_unal (below_unal hb)))))
            (first | (have A := Lib.hid (A.out.kept hb)) | (have A := Lib.hid (A.out.kept (below_undrew hb))) | (have A := Lib.hid (A.out.kept (below_unal hb))) | (have A := Lib.hid (A.out.kept (below_unal (below_undrew hb)))) | (have A := Lib.hid (A.out.kept (below_undrew (below_unal hb)))) | (have A := Lib.hid (A.out.kept (below_unal (below_unal hb)))))
            (first | (have X := Lib.hid (X.out.kept hb)) | (have X := Lib.hid (X.out.kept (below_undrew hb))) | (have X := Lib.hid (X.out.kept (below_unal hb))) | (have X := Lib.hid (X.out.kept (below_unal (below_undrew hb)))) | (have X := Lib.hid (X.out.kept (below_undrew (below_unal hb)))) | (have X := Lib.hid (X.out.kept (below_unal (below_unal hb)))))
            try clear c0 c1 c2 d0 d1 d2
            have c0 := A.out.at 0 rfl; have c1 := A.out.at 1 rfl; have c2 := A.out.at 2 rfl; have d0 := X.out.at 0 rfl; have d1 := X.out.at 1 rfl; have d2 := X.out.at 2 rfl
            clear hb
            go_wp2_with fail
            refine (implFace_any b _).mono ?_
            rw [H1.out]
            rintro e w1 ⟨rfl, hb⟩
            (first | (have Bw := Lib.hid (below_step Bw.out hb)) | (have Bw := Lib.hid (below_step Bw.out (below_undrew hb))) | (have Bw := Lib.hid (below_step Bw.out (below_unal hb))) | (have Bw := Lib.hid (below_step Bw.out (below_unal (below_undrew hb)))) | (have Bw := Lib.hid (below_step Bw.out (below_undrew (below_unal hb)))) | (have Bw := Lib.hid (below_step Bw.out (below_unal (below_unal hb)))))
            (first | (have A := Lib.hid (A.out.kept hb)) | (have A := Lib.hid (A.out.kept (below_undrew hb))) | (have A := Lib.hid (A.out.kept (below_unal hb))) | (have A := Lib.hid (A.out.kept (below_unal (below_undrew hb)))) | (have A := Lib.hid (A.out.kept (below_undrew (below_unal hb)))) | (have A := Lib.hid (A.out.kept (below_unal (below_unal hb)))))
            (first | (have X := Lib.hid (X.out.kept hb)) | (have X := Lib.hid (X.out.kept (below_undrew hb))) | (have X := Lib.hid (X.out.kept (below_unal hb))) | (have X := Lib.hid (X.out.kept (below_unal (below_undrew hb)))) | (have X := Lib.hid (X.out.kept (below_undrew (below_unal hb)))) | (have X := Lib.hid (X.out.kept (below_unal (below_unal hb)))))
            try clear c0 c1 c2 d0 d1 d2
            have c0 := A.out.at 0 rfl; have c1 := A.out.at 1 rfl; have c2 := A.out.at 2 rfl; have d0 := X.out.at 0 rfl; have d1 := X.out.at 1 rfl; have d2 := X.out.at 2 rfl
            clear hb
            go_wp2_with fail
            refine (implShine_any x _).mono ?_
            rw [H4.out]
            rintro e w' ⟨rfl, rfl⟩
            go_wp2
            go_ret2
            exact cGiv_no E.out (by first | exact below_drewN Bw.out _ | exact Bw.out)
          · skip
            cases C1 : cB (shXb a.wm 1065353216) (shX a.wm 1065353216)
            · skip
              have F := Lib.hid (bw_no1 (b := b) (n := n) (x := x) B0 C1)
              have D1 := Lib.hid C1
              clear C1
              have E := Lib.hid (show bwB a b n x = true by rw [BE, B0, B1, B2, B3, B4]; simp)
              have H0 := Lib.hid B0
              have H1 := Lib.hid B1
              have H2 := Lib.hid B2
              have H3 := Lib.hid B3
              have H4 := Lib.hid B4
              have n0 := of_decide_eq_true B2
              have n1 := of_decide_eq_true B3
              clear BE B0 B1 B2 B3 B4
              go_enter Try.func36, Try.ntmps36
              go_wp2_with fail
              refine (implFace_any a _).mono ?_
              rw [H0.out]
              rintro e w1 ⟨rfl, hb⟩
              (first | (have Bw := Lib.hid (below_step Bw.out hb)) | (have Bw := Lib.hid (below_step Bw.out (below_undrew hb))) | (have Bw := Lib.hid (below_step Bw.out (below_unal hb))) | (have Bw := Lib.hid (below_step Bw.out (below_unal (below_undrew hb)))) | (have Bw := Lib.hid (below_step Bw.out (below_undrew (below_unal hb)))) | (have Bw := Lib.hid (below_step Bw.out (below_unal (below_unal hb)))))
              (first | (have A := Lib.hid (A.out.kept hb)) | (have A := Lib.hid (A.out.kept (below_undrew hb))) | (have A := Lib.hid (A.out.kept (below_unal hb))) | (have A := Lib.hid (A.out.kept (below_unal (below_undrew hb)))) | (have A := Lib.hid (A.out.kept (below_undrew (below_unal hb)))) | (have A := Lib.hid (A.out.kept (below_unal (below_unal hb)))))
              (first | (have X := Lib.hid (X.out.kept hb)) | (have X := Lib.hid (X.out.kept (below_undrew hb))) | (have X := Lib.hid (X.out.kept (below_unal hb))) | (have X := Lib.hid (X.out.kept (below_unal (below_undrew hb)))) | (have X := Lib.hid (X.out.kept (below_undrew (below_unal hb)))) | (have X := Lib.hid (X.out.kept (below_unal (below_unal hb)))))
              try clear c0 c1 c2 d0 d1 d2
              have c0 := A.out.at 0 rfl; have c1 := A.out.at 1 rfl; have c2 := A.out.at 2 rfl; have d0 := X.out.at 0 rfl; have d1 := X.out.at 1 rfl; have d2 := X.out.at 2 rfl
              clear hb
              go_wp2_with fail
              refine (implFace_any b _).mono ?_
              rw [H1.out]
              rintro e w1 ⟨rfl, hb⟩
              (first | (have Bw := Lib.hid (below_step Bw.out hb)) | (have Bw := Lib.hid (below_step Bw.out (below_undrew hb))) | (have Bw := Lib.hid (below_step Bw.out (below_unal hb))) | (have Bw := Lib.hid (below_step Bw.out (below_unal (below_undrew hb)))) | (have Bw := Lib.hid (below_step Bw.out (below_undrew (below_unal hb)))) | (have Bw := Lib.hid (below_step Bw.out (below_unal (below_unal hb)))))
              (first | (have A := Lib.hid (A.out.kept hb)) | (have A := Lib.hid (A.out.kept (below_undrew hb))) | (have A := Lib.hid (A.out.kept (below_unal hb))) | (have A := Lib.hid (A.out.kept (below_unal (below_undrew hb)))) | (have A := Lib.hid (A.out.kept (below_undrew (below_unal hb)))) | (have A := Lib.hid (A.out.kept (below_unal (below_unal hb)))))
              (first | (have X := Lib.hid (X.out.kept hb)) | (have X := Lib.hid (X.out.kept (below_undrew hb))) | (have X := Lib.hid (X.out.kept (below_unal hb))) | (have X := Lib.hid (X.out.kept (below_unal (below_undrew hb)))) | (have X := Lib.hid (X.out.kept (below_undrew (below_unal hb)))) | (have X := Lib.hid (X.out.kept (below_unal (below_unal hb)))))
              try clear c0 c1 c2 d0 d1 d2
              have c0 := A.out.at 0 rfl; have c1 := A.out.at 1 rfl; have c2 := A.out.at 2 rfl; have d0 := X.out.at 0 rfl; have d1 := X.out.at 1 rfl; have d2 := X.out.at 2 rfl
              clear hb
              go_wp2_with fail
              refine (implShine_any x _).mono ?_
              rw [H4.out]
              rintro e w' ⟨rfl, rfl⟩
              go_wp2_with fail
              refine (implShineOf_any a.wm 1065353216 _).mono ?_
              rw [D1.out]
              rintro e w2 ⟨q0, hq0, rfl, hb⟩
              have Q0 := Lib.hid hq0
              (first | (have Bw := Lib.hid (below_step Bw.out hb)) | (have Bw := Lib.hid (below_step Bw.out (below_undrew hb))) | (have Bw := Lib.hid (below_step Bw.out (below_unal hb))) | (have Bw := Lib.hid (below_step Bw.out (below_unal (below_undrew hb)))) | (have Bw := Lib.hid (below_step Bw.out (below_undrew (below_unal hb)))) | (have Bw := Lib.hid (below_step Bw.out (below_unal (below_unal hb)))))
              (first | (have A := Lib.hid (A.out.kept hb)) | (have A := Lib.hid (A.out.kept (below_undrew hb))) | (have A := Lib.hid (A.out.kept (below_unal hb))) | (have A := Lib.hid (A.out.kept (below_unal (below_undrew hb)))) | (have A := Lib.hid (A.out.kept (below_undrew (below_unal hb)))) | (have A := Lib.hid (A.out.kept (below_unal (below_unal hb)))))
              (first | (have X := Lib.hid (X.out.kept hb)) | (have X := Lib.hid (X.out.kept (below_undrew hb))) | (have X := Lib.hid (X.out.kept (below_unal hb))) | (have X := Lib.hid (X.out.kept (below_unal (below_undrew hb)))) | (have X := Lib.hid (X.out.kept (below_undrew (below_unal hb)))) | (have X := Lib.hid (X.out.kept (below_unal (below_unal hb)))))
              clear c0 c1 c2 d0 d1 d2
              have c0 := A.out.at 0 rfl; have c1 := A.out.at 1 rfl; have c2 := A.out.at 2 rfl; have d0 := X.out.at 0 rfl; have d1 := X.out.at 1 rfl; have d2 := X.out.at 2 rfl
              clear hb hq0
              go_wp2_with fail
              refine (implShineOf_any b.wm 1065353216 _).mono ?_
              skip
              rintro e w3 ⟨q1, hq1, rfl, hb⟩
              have Q1 := Lib.hid hq1
              (first | (have Bw := Lib.hid (below_step Bw.out hb)) | (have Bw := Lib.hid (below_step Bw.out (below_undrew hb))) | (have Bw := Lib.hid (below_step Bw.out (below_unal hb))) | (have Bw := Lib.hid (below_step Bw.out (below_unal (below_undrew hb)))) | (have Bw := Lib.hid (below_step Bw.out (below_undrew (below_unal hb)))) | (have Bw := Lib.hid (below_step Bw.out (below_unal (below_unal hb)))))
              (first | (have A := Lib.hid (A.out.kept hb)) | (have A := Lib.hid (A.out.kept (below_undrew hb))) | (have A := Lib.hid (A.out.kept (below_unal hb))) | (have A := Lib.hid (A.out.kept (below_unal (below_undrew hb)))) | (have A := Lib.hid (A.out.kept (below_undrew (below_unal hb)))) | (have A := Lib.hid (A.out.kept (below_unal (below_unal hb)))))
              (first | (have X := Lib.hid (X.out.kept hb)) | (have X := Lib.hid (X.out.kept (below_undrew hb))) | (have X := Lib.hid (X.out.kept (below_unal hb))) | (have X := Lib.hid (X.out.kept (below_unal (below_undrew hb)))) | (have X := Lib.hid (X.out.kept (below_undrew (below_unal hb)))) | (have X := Lib.hid (X.out.kept (below_unal (below_unal hb)))))
              clear c0 c1 c2 d0 d1 d2
              have c0 := A.out.at 0 rfl; have c1 := A.out.at 1 rfl; have c2 := A.out.at 2 rfl; have d0 := X.out.at 0 rfl; have d1 := X.out.at 1 rfl; have d2 := X.out.at 2 rfl
              clear hb hq1
              go_wp2
              go_ret2
              exact cGiv_bad F.out (by first | exact below_drewN Bw.out _ | exact Bw.out)
            · skip
              cases C2 : cB (shXb b.wm 1065353216) (shX b.wm 1065353216)
              · skip
                have F := Lib.hid (bw_no2 (a := a) (n := n) (x := x) B1 C2)
                have D1 := Lib.hid C1
                have D2 := Lib.hid C2
                clear C1 C2
                have E := Lib.hid (show bwB a b n x = true by rw [BE, B0, B1, B2, B3, B4]; simp)
                have H0 := Lib.hid B0
                have H1 := Lib.hid B1
                have H2 := Lib.hid B2
                have H3 := Lib.hid B3
                have H4 := Lib.hid B4
                have n0 := of_decide_eq_true B2
                have n1 := of_decide_eq_true B3
                clear BE B0 B1 B2 B3 B4
                go_enter Try.func36, Try.ntmps36
                go_wp2_with fail
                refine (implFace_any a _).mono ?_
                rw [H0.out]
                rintro e w1 ⟨rfl, hb⟩
                (first | (have Bw := Lib.hid (below_step Bw.out hb)) | (have Bw := Lib.hid (below_step Bw.out (below_undrew hb))) | (have Bw := Lib.hid (below_step Bw.out (below_unal hb))) | (have Bw := Lib.hid (below_step Bw.out (below_unal (below_undrew hb)))) | (have Bw := Lib.hid (below_step Bw.out (below_undrew (below_unal hb)))) | (have Bw := Lib.hid (below_step Bw.out (below_unal (below_unal hb)))))
                (first | (have A := Lib.hid (A.out.kept hb)) | (have A := Lib.hid (A.out.kept (below_undrew hb))) | (have A := Lib.hid (A.out.kept (below_unal hb))) | (have A := Lib.hid (A.out.kept (below_unal (below_undrew hb)))) | (have A := Lib.hid (A.out.kept (below_undrew (below_unal hb)))) | (have A := Lib.hid (A.out.kept (below_unal (below_unal hb)))))
                (first | (have X := Lib.hid (X.out.kept hb)) | (have X := Lib.hid (X.out.kept (below_undrew hb))) | (have X := Lib.hid (X.out.kept (below_unal hb))) | (have X := Lib.hid (X.out.kept (below_unal (below_undrew hb)))) | (have X := Lib.hid (X.out.kept (below_undrew (below_unal hb)))) | (have X := Lib.hid (X.out.kept (below_unal (below_unal hb)))))
                try clear c0 c1 c2 d0 d1 d2
                have c0 := A.out.at 0 rfl; have c1 := A.out.at 1 rfl; have c2 := A.out.at 2 rfl; have d0 := X.out.at 0 rfl; have d1 := X.out.at 1 rfl; have d2 := X.out.at 2 rfl
                clear hb
                go_wp2_with fail
                refine (implFace_any b _).mono ?_
                rw [H1.out]
                rintro e w1 ⟨rfl, hb⟩
                (first | (have Bw := Lib.hid (below_step Bw.out hb)) | (have Bw := Lib.hid (below_step Bw.out (below_undrew hb))) | (have Bw := Lib.hid (below_step Bw.out (below_unal hb))) | (have Bw := Lib.hid (below_step Bw.out (below_unal (below_undrew hb)))) | (have Bw := Lib.hid (below_step Bw.out (below_undrew (below_unal hb)))) | (have Bw := Lib.hid (below_step Bw.out (below_unal (below_unal hb)))))
                (first | (have A := Lib.hid (A.out.kept hb)) | (have A := Lib.hid (A.out.kept (below_undrew hb))) | (have A := Lib.hid (A.out.kept (below_unal hb))) | (have A := Lib.hid (A.out.kept (below_unal (below_undrew hb)))) | (have A := Lib.hid (A.out.kept (below_undrew (below_unal hb)))) | (have A := Lib.hid (A.out.kept (below_unal (below_unal hb)))))
                (first | (have X := Lib.hid (X.out.kept hb)) | (have X := Lib.hid (X.out.kept (below_undrew hb))) | (have X := Lib.hid (X.out.kept (below_unal hb))) | (have X := Lib.hid (X.out.kept (below_unal (below_undrew hb)))) | (have X := Lib.hid (X.out.kept (below_undrew (below_unal hb)))) | (have X := Lib.hid (X.out.kept (below_unal (below_unal hb)))))
                try clear c0 c1 c2 d0 d1 d2
                have c0 := A.out.at 0 rfl; have c1 := A.out.at 1 rfl; have c2 := A.out.at 2 rfl; have d0 := X.out.at 0 rfl; have d1 := X.out.at 1 rfl; have d2 := X.out.at 2 rfl
                clear hb
                go_wp2_with fail
                refine (implShine_any x _).mono ?_
                rw [H4.out]
                rintro e w' ⟨rfl, rfl⟩
                go_wp2_with fail
                refine (implShineOf_any a.wm 1065353216 _).mono ?_
                rw [D1.out]
                rintro e w2 ⟨q0, hq0, rfl, hb⟩
                have Q0 := Lib.hid hq0
                (first | (have Bw := Lib.hid (below_step Bw.out hb)) | (have Bw := Lib.hid (below_step Bw.out (below_undrew hb))) | (have Bw := Lib.hid (below_step Bw.out (below_unal hb))) | (have Bw := Lib.hid (below_step Bw.out (below_unal (below_undrew hb)))) | (have Bw := Lib.hid (below_step Bw.out (below_undrew (below_unal hb)))) | (have Bw := Lib.hid (below_step Bw.out (below_unal (below_unal hb)))))
                (first | (have A := Lib.hid (A.out.kept hb)) | (have A := Lib.hid (A.out.kept (below_undrew hb))) | (have A := Lib.hid (A.out.kept (below_unal hb))) | (have A := Lib.hid (A.out.kept (below_unal (below_undrew hb)))) | (have A := Lib.hid (A.out.kept (below_undrew (below_unal hb)))) | (have A := Lib.hid (A.out.kept (below_unal (below_unal hb)))))
                (first | (have X := Lib.hid (X.out.kept hb)) | (have X := Lib.hid (X.out.kept (below_undrew hb))) | (have X := Lib.hid (X.out.kept (below_unal hb))) | (have X := Lib.hid (X.out.kept (below_unal (below_undrew hb)))) | (have X := Lib.hid (X.out.kept (below_undrew (below_unal hb)))) | (have X := Lib.hid (X.out.kept (below_unal (below_unal hb)))))
                clear c0 c1 c2 d0 d1 d2
                have c0 := A.out.at 0 rfl; have c1 := A.out.at 1 rfl; have c2 := A.out.at 2 rfl; have d0 := X.out.at 0 rfl; have d1 := X.out.at 1 rfl; have d2 := X.out.at 2 rfl
                clear hb hq0
                go_wp2_with fail
                refine (implShineOf_any b.wm 1065353216 _).mono ?_
                rw [D2.out]
                rintro e w3 ⟨q1, hq1, rfl, hb⟩
                have Q1 := Lib.hid hq1
                (first | (have Bw := Lib.hid (below_step Bw.out hb)) | (have Bw := Lib.hid (below_step Bw.out (below_undrew hb))) | (have Bw := Lib.hid (below_step Bw.out (below_unal hb))) | (have Bw := Lib.hid (below_step Bw.out (below_unal (below_undrew hb)))) | (have Bw := Lib.hid (below_step Bw.out (below_undrew (below_unal hb)))) | (have Bw := Lib.hid (below_step Bw.out (below_unal (below_unal hb)))))
                (first | (have A := Lib.hid (A.out.kept hb)) | (have A := Lib.hid (A.out.kept (below_undrew hb))) | (have A := Lib.hid (A.out.kept (below_unal hb))) | (have A := Lib.hid (A.out.kept (below_unal (below_undrew hb)))) | (have A := Lib.hid (A.out.kept (below_undrew (below_unal hb)))) | (have A := Lib.hid (A.out.kept (below_unal (below_unal hb)))))
                (first | (have X := Lib.hid (X.out.kept hb)) | (have X := Lib.hid (X.out.kept (below_undrew hb))) | (have X := Lib.hid (X.out.kept (below_unal hb))) | (have X := Lib.hid (X.out.kept (below_unal (below_undrew hb)))) | (have X := Lib.hid (X.out.kept (below_undrew (below_unal hb)))) | (have X := Lib.hid (X.out.kept (below_unal (below_unal hb)))))
                clear c0 c1 c2 d0 d1 d2
                have c0 := A.out.at 0 rfl; have c1 := A.out.at 1 rfl; have c2 := A.out.at 2 rfl; have d0 := X.out.at 0 rfl; have d1 := X.out.at 1 rfl; have d2 := X.out.at 2 rfl
                clear hb hq1
                go_wp2
                go_ret2
                exact cGiv_bad F.out (by first | exact below_drewN Bw.out _ | exact Bw.out)
              · skip
                have D1 := Lib.hid C1
                have D2 := Lib.hid C2
                clear C1 C2
                have E := Lib.hid (show bwB a b n x = true by rw [BE, B0, B1, B2, B3, B4]; simp)
                have H0 := Lib.hid B0
                have H1 := Lib.hid B1
                have H2 := Lib.hid B2
                have H3 := Lib.hid B3
                have H4 := Lib.hid B4
                have n0 := of_decide_eq_true B2
                have n1 := of_decide_eq_true B3
                clear BE B0 B1 B2 B3 B4
                go_enter Try.func36, Try.ntmps36
                go_wp2_with fail
                refine (implFace_any a _).mono ?_
                rw [H0.out]
                rintro e w1 ⟨rfl, hb⟩
                (first | (have Bw := Lib.hid (below_step Bw.out hb)) | (have Bw := Lib.hid (below_step Bw.out (below_undrew hb))) | (have Bw := Lib.hid (below_step Bw.out (below_unal hb))) | (have Bw := Lib.hid (below_step Bw.out (below_unal (below_undrew hb)))) | (have Bw := Lib.hid (below_step Bw.out (below_undrew (below_unal hb)))) | (have Bw := Lib.hid (below_step Bw.out (below_unal (below_unal hb)))))
                (first | (have A := Lib.hid (A.out.kept hb)) | (have A := Lib.hid (A.out.kept (below_undrew hb))) | (have A := Lib.hid (A.out.kept (below_unal hb))) | (have A := Lib.hid (A.out.kept (below_unal (below_undrew hb)))) | (have A := Lib.hid (A.out.kept (below_undrew (below_unal hb)))) | (have A := Lib.hid (A.out.kept (below_unal (below_unal hb)))))
                (first | (have X := Lib.hid (X.out.kept hb)) | (have X := Lib.hid (X.out.kept (below_undrew hb))) | (have X := Lib.hid (X.out.kept (below_unal hb))) | (have X := Lib.hid (X.out.kept (below_unal (below_undrew hb)))) | (have X := Lib.hid (X.out.kept (below_undrew (below_unal hb)))) | (have X := Lib.hid (X.out.kept (below_unal (below_unal hb)))))
                try clear c0 c1 c2 d0 d1 d2
                have c0 := A.out.at 0 rfl; have c1 := A.out.at 1 rfl; have c2 := A.out.at 2 rfl; have d0 := X.out.at 0 rfl; have d1 := X.out.at 1 rfl; have d2 := X.out.at 2 rfl
                clear hb
                go_wp2_with fail
                refine (implFace_any b _).mono ?_
                rw [H1.out]
                rintro e w1 ⟨rfl, hb⟩
                (first | (have Bw := Lib.hid (below_step Bw.out hb)) | (have Bw := Lib.hid (below_step Bw.out (below_undrew hb))) | (have Bw := Lib.hid (below_step Bw.out (below_unal hb))) | (have Bw := Lib.hid (below_step Bw.out (below_unal (below_undrew hb)))) | (have Bw := Lib.hid (below_step Bw.out (below_undrew (below_unal hb)))) | (have Bw := Lib.hid (below_step Bw.out (below_unal (below_unal hb)))))
                (first | (have A := Lib.hid (A.out.kept hb)) | (have A := Lib.hid (A.out.kept (below_undrew hb))) | (have A := Lib.hid (A.out.kept (below_unal hb))) | (have A := Lib.hid (A.out.kept (below_unal (below_undrew hb)))) | (have A := Lib.hid (A.out.kept (below_undrew (below_unal hb)))) | (have A := Lib.hid (A.out.kept (below_unal (below_unal hb)))))
                (first | (have X := Lib.hid (X.out.kept hb)) | (have X := Lib.hid (X.out.kept (below_undrew hb))) | (have X := Lib.hid (X.out.kept (below_unal hb))) | (have X := Lib.hid (X.out.kept (below_unal (below_undrew hb)))) | (have X := Lib.hid (X.out.kept (below_undrew (below_unal hb)))) | (have X := Lib.hid (X.out.kept (below_unal (below_unal hb)))))
                try clear c0 c1 c2 d0 d1 d2
                have c0 := A.out.at 0 rfl; have c1 := A.out.at 1 rfl; have c2 := A.out.at 2 rfl; have d0 := X.out.at 0 rfl; have d1 := X.out.at 1 rfl; have d2 := X.out.at 2 rfl
                clear hb
                go_wp2_with fail
                refine (implShine_any x _).mono ?_
                rw [H4.out]
                rintro e w' ⟨rfl, rfl⟩
                go_wp2_with fail
                refine (implShineOf_any a.wm 1065353216 _).mono ?_
                rw [D1.out]
                rintro e w2 ⟨q0, hq0, rfl, hb⟩
                have Q0 := Lib.hid hq0
                (first | (have Bw := Lib.hid (below_step Bw.out hb)) | (have Bw := Lib.hid (below_step Bw.out (below_undrew hb))) | (have Bw := Lib.hid (below_step Bw.out (below_unal hb))) | (have Bw := Lib.hid (below_step Bw.out (below_unal (below_undrew hb)))) | (have Bw := Lib.hid (below_step Bw.out (below_undrew (below_unal hb)))) | (have Bw := Lib.hid (below_step Bw.out (below_unal (below_unal hb)))))
                (first | (have A := Lib.hid (A.out.kept hb)) | (have A := Lib.hid (A.out.kept (below_undrew hb))) | (have A := Lib.hid (A.out.kept (below_unal hb))) | (have A := Lib.hid (A.out.kept (below_unal (below_undrew hb)))) | (have A := Lib.hid (A.out.kept (below_undrew (below_unal hb)))) | (have A := Lib.hid (A.out.kept (below_unal (below_unal hb)))))
                (first | (have X := Lib.hid (X.out.kept hb)) | (have X := Lib.hid (X.out.kept (below_undrew hb))) | (have X := Lib.hid (X.out.kept (below_unal hb))) | (have X := Lib.hid (X.out.kept (below_unal (below_undrew hb)))) | (have X := Lib.hid (X.out.kept (below_undrew (below_unal hb)))) | (have X := Lib.hid (X.out.kept (below_unal (below_unal hb)))))
                clear c0 c1 c2 d0 d1 d2
                have c0 := A.out.at 0 rfl; have c1 := A.out.at 1 rfl; have c2 := A.out.at 2 rfl; have d0 := X.out.at 0 rfl; have d1 := X.out.at 1 rfl; have d2 := X.out.at 2 rfl
                clear hb hq0
                go_wp2_with fail
                refine (implShineOf_any b.wm 1065353216 _).mono ?_
                rw [D2.out]
                rintro e w3 ⟨q1, hq1, rfl, hb⟩
                have Q1 := Lib.hid hq1
                (first | (have Bw := Lib.hid (below_step Bw.out hb)) | (have Bw := Lib.hid (below_step Bw.out (below_undrew hb))) | (have Bw := Lib.hid (below_step Bw.out (below_unal hb))) | (have Bw := Lib.hid (below_step Bw.out (below_unal (below_undrew hb)))) | (have Bw := Lib.hid (below_step Bw.out (below_undrew (below_unal hb)))) | (have Bw := Lib.hid (below_step Bw.out (below_unal (below_unal hb)))))
                (first | (have A := Lib.hid (A.out.kept hb)) | (have A := Lib.hid (A.out.kept (below_undrew hb))) | (have A := Lib.hid (A.out.kept (below_unal hb))) | (have A := Lib.hid (A.out.kept (below_unal (below_undrew hb)))) | (have A := Lib.hid (A.out.kept (below_undrew (below_unal hb)))) | (have A := Lib.hid (A.out.kept (below_unal (below_unal hb)))))
                (first | (have X := Lib.hid (X.out.kept hb)) | (have X := Lib.hid (X.out.kept (below_undrew hb))) | (have X := Lib.hid (X.out.kept (below_unal hb))) | (have X := Lib.hid (X.out.kept (below_unal (below_undrew hb)))) | (have X := Lib.hid (X.out.kept (below_undrew (below_unal hb)))) | (have X := Lib.hid (X.out.kept (below_unal (below_unal hb)))))
                clear c0 c1 c2 d0 d1 d2
                have c0 := A.out.at 0 rfl; have c1 := A.out.at 1 rfl; have c2 := A.out.at 2 rfl; have d0 := X.out.at 0 rfl; have d1 := X.out.at 1 rfl; have d2 := X.out.at 2 rfl
                clear hb hq1
                have P0 := Lib.hid (Q0.out.trans (cB_yes D1.out).1)
                have P1 := Lib.hid (Q1.out.trans (cB_yes D2.out).1)
                go_wp2_with (refine wpList_farith rfl _ _ _ _ _ rfl rfl _ _ _ rfl rfl ?_; intro r10 j10 g10; have f10 := Lib.hid g10; clear g10; refine Stop.go ?_)
                refine Stop.mk ?_
                go_wp2_with (refine wpList_farith rfl _ _ _ _ _ rfl rfl _ _ _ rfl rfl ?_; intro r11 j11 g11; have f11 := Lib.hid g11; clear g11; refine Stop.go ?_)
                refine Stop.mk ?_
                go_wp2_with (refine wpList_farith rfl _ _ _ _ _ rfl rfl _ _ _ rfl rfl ?_; intro r12 j12 g12; have f12 := Lib.hid g12; clear g12; refine Stop.go ?_)
                refine Stop.mk ?_
                go_wp2_with (refine wpList_farith rfl _ _ _ _ _ rfl rfl _ _ _ rfl rfl ?_; intro r13 j13 g13; have f13 := Lib.hid g13; clear g13; refine Stop.go ?_)
                refine Stop.mk ?_
                have HD := Lib.hid (hd_start (x := x) f10.out f11.out f12.out f13.out)
                go_wp2
                go_loopw [14, 63] (fun d m wr => ∃ (j dv nq : Nat), m = .int .i64 (j : Int) ∧ (j : Int) ≤ n ∧ d = .float .f32 dv ∧ Below w.heap.size w wr ∧ Cells wr w.heap.size a.vs ∧ Hid (cn .f32 dv = hdS a b x j)) (fun _ m _ => (n - intOf m).toNat)
                case atStart => exact ⟨0, r13, 0, rfl, by omega, rfl, (by first | exact below_drewN Bw.out _ | exact Bw.out), A.out, HD⟩
                case round =>
                  obtain ⟨j, dv, nq, rfl, hj, rfl, hb, hA, hc⟩ := hrel
                  have BB := Lib.hid hb
                  have A := Lib.hid hA
                  clear hb hA
                  by_cases hk : (j : Int) < n
                  · skip
                    go_wp2_with (refine wpList_farith rfl _ _ _ _ _ rfl rfl _ _ _ rfl rfl ?_; intro r20 j20 g20; have f20 := Lib.hid g20; clear g20; refine Stop.go ?_)
                    refine Stop.mk ?_
                    go_wp2_with (refine wpList_farith rfl _ _ _ _ _ rfl rfl _ _ _ rfl rfl ?_; intro r21 j21 g21; have f21 := Lib.hid g21; clear g21; refine Stop.go ?_)
                    refine Stop.mk ?_
                    go_wp2_with (refine wpList_farith rfl _ _ _ _ _ rfl rfl _ _ _ rfl rfl ?_; intro r22 j22 g22; have f22 := Lib.hid g22; clear g22; refine Stop.go ?_)
                    refine Stop.mk ?_
                    go_wp2
                    go_roundw
                    case rel => exact ⟨j + 1, r22, 0, by go_num, by omega, rfl, (by first | exact below_drewN BB.out _ | exact BB.out), A.out, Lib.hid (hd_step hc.out f20.out f21.out f22.out)⟩
                    case measure => simp [intOf]; omega
                  · have EJ := Lib.hid (show j = n.toNat by omega)
                    go_wp2_with (refine wpList_farith rfl _ _ _ _ _ rfl rfl _ _ _ rfl rfl ?_; intro r30 j30 g30; have f30 := Lib.hid g30; clear g30; refine Stop.go ?_)
                    refine Stop.mk ?_
                    go_wp2_with (refine wpList_farith rfl _ _ _ _ _ rfl rfl _ _ _ rfl rfl ?_; intro r31 j31 g31; have f31 := Lib.hid g31; clear g31; refine Stop.go ?_)
                    refine Stop.mk ?_
                    go_wp2_with fail
                    first | refine (implNum_any _ _).mono ?_ | (go_at_call 65; refine (implNum_any _ _).mono ?_)
                    rintro e w' ⟨rfl, n9, rfl⟩
                    go_wp2
                    go_ret2
                    exact cGiv_yes E.out (bw_end EJ.out hc.out P0.out P1.out f30.out f31.out) (by first | exact below_drewN BB.out _ | exact BB.out)

set_option maxRecDepth 4000 in
theorem implBet_any (a b : FA) (w : World) : Calls Try.prog 34 #[.agg #[.float .f32 a.wd, .float .f32 a.sh, .float .f32 a.wm], .agg #[.float .f32 b.wd, .float .f32 b.sh, .float .f32 b.wm]] w (GivB (cS (bvB a b) (bwX a b 0 1065353216)) (cB (bvB a b) (bwX a b 0 1065353216)) w) := by
  have A := Lib.hid ((Cells.made w a.vs 26).kept (below_al1 _ (.cells #[.float .f32 b.wd, .float .f32 b.sh, .float .f32 b.wm] 26)))
  have X := Cells.made (w.alloc (.cells #[.float .f32 a.wd, .float .f32 a.sh, .float .f32 a.wm] 26)) b.vs 26
  rw [show (w.alloc (.cells #[.float .f32 a.wd, .float .f32 a.sh, .float .f32 a.wm] 26)).heap.size = w.heap.size + 1 from by simp] at X
  have X := Lib.hid X
  have Bw := Lib.hid (below_step (below_al1 w (.cells #[.float .f32 a.wd, .float .f32 a.sh, .float .f32 a.wm] 26)) (below_al1 _ (.cells #[.float .f32 b.wd, .float .f32 b.sh, .float .f32 b.wm] 26)))
  rw [← bwB0]
  go_enter Try.func34, Try.ntmps34
  go_wp2_with fail
  refine (implShield_any a b 0 1065353216 _).mono ?_
  rintro e w1 ⟨q, hq, rfl, hb⟩
  (first | (have Bw := Lib.hid (below_step Bw.out hb)) | (have Bw := Lib.hid (below_step Bw.out (below_undrew hb))) | (have Bw := Lib.hid (below_step Bw.out (below_unal hb))) | (have Bw := Lib.hid (below_step Bw.out (below_unal (below_undrew hb)))) | (have Bw := Lib.hid (below_step Bw.out (below_undrew (below_unal hb)))) | (have Bw := Lib.hid (below_step Bw.out (below_unal (below_unal hb)))))
  go_wp2
  go_ret2
  exact ⟨_, hq, rfl, Bw.out⟩
end Go.Proofs.Ytkjlofbnegjcoaa
