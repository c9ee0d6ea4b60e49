/- Faces: their copies, and whether they are valid: both sides. -/
import Derived.Test.YtkjlofbnegjcoaaOpenF
import Derived.Test.YtkjlofbnegjcoaaSn
import Derived.Laws.ResultCell
namespace Go.Proofs.Ytkjlofbnegjcoaa
open Go.RowKit
set_option linter.unusedVariables false

def vFace (s : FA) : Bool := pos s.wd && shn s.sh && lst s.wm
theorem vFace_spec (s : FA) : vFace s = (pos s.wd && gt0 s.sh && leN s.sh 1065353216 && lst s.wm) := by unfold vFace shn; cases pos s.wd <;> cases gt0 s.sh <;> simp

theorem toFace_any (s : FA) (w : World) : Calls Try.prog 17 #[.agg #[.float .f32 s.wd, .float .f32 s.sh, .float .f32 s.wm]] w fun e w' => e = .returned (.agg #[.float .f32 s.wd, .float .f32 s.sh, .float .f32 s.wm]) ∧ Below w.heap.size w w' := by
  go_enter Try.func17, Try.ntmps17
  go_wp2
  refine bodyPost_ret (v := .agg #[.float .f32 s.wd, .float .f32 s.sh, .float .f32 s.wm]) ?_ rfl ?_
  · rw [results_cell1 rfl]
    go_simp
  · exact ⟨rfl, (by repeat (first | exact Below.refl _ _ | refine Below.setCell ?_ (by first | exact Nat.le_refl _ | (simp; done) | (simp; omega) | omega) _ | refine below_drewN ?_ _ | refine Below.alloc ?_ (by first | exact Nat.le_refl _ | (simp; done) | (simp; omega) | omega) _))⟩

theorem specFace_any (s : FA) (b : Nat) (w : World) (A : Cells w b s.vs) : Calls Try.prog 49 #[.pointer (some ⟨b, 0, none⟩)] w (Bol (vFace s) w) := by
  rw [vFace_spec]
  have c0 := A.at 0 rfl
  have c1 := A.at 1 rfl
  have c2 := A.at 2 rfl
  clear A
  cases B0 : pos s.wd
  · skip
    have H0 := Lib.hid B0
    clear B0
    go_enter Try.func49, Try.ntmps49
    go_wp2_with fail
    refine (specAbove_any s.wd _).mono ?_
    rw [H0.out]
    rintro e w' ⟨rfl, n, rfl⟩
    go_wp2
    go_ret
    exact ⟨ret_bb (by simp), _, rfl⟩
  · skip
    cases B1 : gt0 s.sh
    · skip
      have H0 := Lib.hid B0
      have o1 : (FloatKind.f32.format.order s.sh 0 == some .gt) = false := B1
      have H1 := Lib.hid B1
      clear B0 B1
      go_enter Try.func49, Try.ntmps49
      go_wp2_with fail
      refine (specAbove_any s.wd _).mono ?_
      rw [H0.out]
      rintro e w' ⟨rfl, n, rfl⟩
      go_wp2
      go_ret
      exact ⟨ret_bb (by simp), _, rfl⟩
    · skip
      cases B2 : leN s.sh 1065353216
      · skip
        have H0 := Lib.hid B0
        have o1 : (FloatKind.f32.format.order s.sh 0 == some .gt) = true := B1
        have H1 := Lib.hid B1
        have o2 : (FloatKind.f32.format.order s.sh 1065353216 == some .lt || FloatKind.f32.format.order s.sh 1065353216 == some .eq) = false := B2
        have H2 := Lib.hid B2
        clear B0 B1 B2
        go_enter Try.func49, Try.ntmps49
        go_wp2_with fail
        refine (specAbove_any s.wd _).mono ?_
        rw [H0.out]
        rintro e w' ⟨rfl, n, rfl⟩
        go_wp2
        go_ret
        exact ⟨ret_bb (by simp), _, rfl⟩
      · skip
        cases B3 : lst s.wm
        · skip
          have H0 := Lib.hid B0
          have o1 : (FloatKind.f32.format.order s.sh 0 == some .gt) = true := B1
          have H1 := Lib.hid B1
          have o2 : (FloatKind.f32.format.order s.sh 1065353216 == some .lt || FloatKind.f32.format.order s.sh 1065353216 == some .eq) = true := B2
          have H2 := Lib.hid B2
          have H3 := Lib.hid B3
          clear B0 B1 B2 B3
          go_enter Try.func49, Try.ntmps49
          go_wp2_with fail
          refine (specAbove_any s.wd _).mono ?_
          rw [H0.out]
          rintro e w' ⟨rfl, n, rfl⟩
          go_wp2_with fail
          refine (specLeast_any s.wm _).mono ?_
          rw [H3.out]
          rintro e w' ⟨rfl, n, rfl⟩
          go_wp2
          go_ret
          exact ⟨ret_bb (by simp), _, rfl⟩
        · skip
          have H0 := Lib.hid B0
          have o1 : (FloatKind.f32.format.order s.sh 0 == some .gt) = true := B1
          have H1 := Lib.hid B1
          have o2 : (FloatKind.f32.format.order s.sh 1065353216 == some .lt || FloatKind.f32.format.order s.sh 1065353216 == some .eq) = true := B2
          have H2 := Lib.hid B2
          have H3 := Lib.hid B3
          clear B0 B1 B2 B3
          go_enter Try.func49, Try.ntmps49
          go_wp2_with fail
          refine (specAbove_any s.wd _).mono ?_
          rw [H0.out]
          rintro e w' ⟨rfl, n, rfl⟩
          go_wp2_with fail
          refine (specLeast_any s.wm _).mono ?_
          rw [H3.out]
          rintro e w' ⟨rfl, n, rfl⟩
          go_wp2
          go_ret
          exact ⟨ret_bb (by simp), _, rfl⟩

theorem specValidFace_any (s : FA) (w : World) : Calls Try.prog 16 #[.agg #[.float .f32 s.wd, .float .f32 s.sh, .float .f32 s.wm]] w (BolB (vFace s) w) := by
  go_enter Try.func16, Try.ntmps16
  go_wp2_with fail
  refine (specFace_any s _ _ (Cells.made w s.vs 26)).mono ?_
  rintro e w' ⟨rfl, n, rfl⟩
  go_wp2
  go_ret
  exact ⟨rfl, below_drewN (below_al1 _ _) _⟩

theorem implFace_any (s : FA) (w : World) : Calls Try.prog 18 #[.agg #[.float .f32 s.wd, .float .f32 s.sh, .float .f32 s.wm]] w (BolB (vFace s) w) := by
  unfold vFace
  cases B0 : pos s.wd
  · skip
    have H0 := Lib.hid B0
    clear B0
    go_enter Try.func18, Try.ntmps18
    go_wp2_with fail
    refine (implPos_any s.wd _).mono ?_
    rw [H0.out]
    rintro e w' ⟨rfl, n, rfl⟩
    go_wp2
    go_ret
    exact ⟨ret_bb (by simp), (by first | exact below_drewN (below_al1 _ _) _ | exact below_al1 _ _ | exact (by repeat (first | exact Below.refl _ _ | refine Below.setCell ?_ (by first | exact Nat.le_refl _ | (simp; done) | (simp; omega) | omega) _ | refine below_drewN ?_ _ | refine Below.alloc ?_ (by first | exact Nat.le_refl _ | (simp; done) | (simp; omega) | omega) _)))⟩
  · skip
    cases B1 : shn s.sh
    · skip
      have H0 := Lib.hid B0
      have H1 := Lib.hid B1
      clear B0 B1
      go_enter Try.func18, Try.ntmps18
      go_wp2_with fail
      refine (implPos_any s.wd _).mono ?_
      rw [H0.out]
      rintro e w' ⟨rfl, n, rfl⟩
      go_wp2_with fail
      refine (implShine_any s.sh _).mono ?_
      rw [H1.out]
      rintro e w' ⟨rfl, rfl⟩
      go_wp2
      go_ret
      exact ⟨ret_bb (by simp), (by first | exact below_drewN (below_al1 _ _) _ | exact below_al1 _ _ | exact (by repeat (first | exact Below.refl _ _ | refine Below.setCell ?_ (by first | exact Nat.le_refl _ | (simp; done) | (simp; omega) | omega) _ | refine below_drewN ?_ _ | refine Below.alloc ?_ (by first | exact Nat.le_refl _ | (simp; done) | (simp; omega) | omega) _)))⟩
    · skip
      cases B2 : lst s.wm
      · skip
        have H0 := Lib.hid B0
        have H1 := Lib.hid B1
        have H2 := Lib.hid B2
        clear B0 B1 B2
        go_enter Try.func18, Try.ntmps18
        go_wp2_with fail
        refine (implPos_any s.wd _).mono ?_
        rw [H0.out]
        rintro e w' ⟨rfl, n, rfl⟩
        go_wp2_with fail
        refine (implShine_any s.sh _).mono ?_
        rw [H1.out]
        rintro e w' ⟨rfl, rfl⟩
        go_wp2_with fail
        refine (implNotNeg_any s.wm _).mono ?_
        rw [H2.out]
        rintro e w' ⟨rfl, n, rfl⟩
        go_wp2
        go_ret
        exact ⟨ret_bb (by simp), (by first | exact below_drewN (below_al1 _ _) _ | exact below_al1 _ _ | exact (by repeat (first | exact Below.refl _ _ | refine Below.setCell ?_ (by first | exact Nat.le_refl _ | (simp; done) | (simp; omega) | omega) _ | refine below_drewN ?_ _ | refine Below.alloc ?_ (by first | exact Nat.le_refl _ | (simp; done) | (simp; omega) | omega) _)))⟩
      · skip
        have H0 := Lib.hid B0
        have H1 := Lib.hid B1
        have H2 := Lib.hid B2
        clear B0 B1 B2
        go_enter Try.func18, Try.ntmps18
        go_wp2_with fail
        refine (implPos_any s.wd _).mono ?_
        rw [H0.out]
        rintro e w' ⟨rfl, n, rfl⟩
        go_wp2_with fail
        refine (implShine_any s.sh _).mono ?_
        rw [H1.out]
        rintro e w' ⟨rfl, rfl⟩
        go_wp2_with fail
        refine (implNotNeg_any s.wm _).mono ?_
        rw [H2.out]
        rintro e w' ⟨rfl, n, rfl⟩
        go_wp2
        go_ret
        exact ⟨ret_bb (by simp), (by first | exact below_drewN (below_al1 _ _) _ | exact below_al1 _ _ | exact (by repeat (first | exact Below.refl _ _ | refine Below.setCell ?_ (by first | exact Nat.le_refl _ | (simp; done) | (simp; omega) | omega) _ | refine below_drewN ?_ _ | refine Below.alloc ?_ (by first | exact Nat.le_refl _ | (simp; done) | (simp; omega) | omega) _)))⟩

theorem fnExactValidFace_walk (s : FA) (w : World) (_ : s.wf) : Calls Try.prog 3 #[.agg #[.float .f32 s.wd, .float .f32 s.sh, .float .f32 s.wm]] w (Tru w) := by
  have A := Lib.hid (Cells.made w s.vs 24)
  have Bw := Lib.hid (below_al1 w (.cells #[.float .f32 s.wd, .float .f32 s.sh, .float .f32 s.wm] 24))
  go_enter Try.func3, Try.ntmps3
  go_wp2_with fail
  refine (toFace_any s _).mono ?_
  rintro e w1 ⟨rfl, hb⟩
  (first | (have Bw := Lib.hid (below_step Bw.out hb)) | (have Bw := Lib.hid (below_step Bw.out (below_undrew hb))) | (have Bw := Lib.hid (below_step Bw.out (below_unal hb))) | (have Bw := Lib.hid (below_step Bw.out (below_unal (below_undrew hb)))) | (have Bw := Lib.hid (below_step Bw.out (below_undrew (below_unal hb)))) | (have Bw := Lib.hid (below_step Bw.out (below_unal (below_unal hb)))))
  (first | (have A := Lib.hid (A.out.kept hb)) | (have A := Lib.hid (A.out.kept (below_undrew hb))) | (have A := Lib.hid (A.out.kept (below_unal hb))) | (have A := Lib.hid (A.out.kept (below_unal (below_undrew hb)))) | (have A := Lib.hid (A.out.kept (below_undrew (below_unal hb)))) | (have A := Lib.hid (A.out.kept (below_unal (below_unal hb)))))
  have c0 := A.out.at 0 rfl; have c1 := A.out.at 1 rfl; have c2 := A.out.at 2 rfl
  clear hb
  go_wp2_with fail
  refine (specValidFace_any s _).mono ?_
  rintro _ w2 ⟨rfl, hb⟩
  (first | (have Bw := Lib.hid (below_step Bw.out hb)) | (have Bw := Lib.hid (below_step Bw.out (below_undrew hb))) | (have Bw := Lib.hid (below_step Bw.out (below_unal hb))) | (have Bw := Lib.hid (below_step Bw.out (below_unal (below_undrew hb)))) | (have Bw := Lib.hid (below_step Bw.out (below_undrew (below_unal hb)))) | (have Bw := Lib.hid (below_step Bw.out (below_unal (below_unal hb)))))
  (first | (have A := Lib.hid (A.out.kept hb)) | (have A := Lib.hid (A.out.kept (below_undrew hb))) | (have A := Lib.hid (A.out.kept (below_unal hb))) | (have A := Lib.hid (A.out.kept (below_unal (below_undrew hb)))) | (have A := Lib.hid (A.out.kept (below_undrew (below_unal hb)))) | (have A := Lib.hid (A.out.kept (below_unal (below_unal hb)))))
  clear c0 c1 c2
  have c0 := A.out.at 0 rfl; have c1 := A.out.at 1 rfl; have c2 := A.out.at 2 rfl
  clear hb
  go_wp2_with fail
  refine (toFace_any s _).mono ?_
  rintro e w1 ⟨rfl, hb⟩
  (first | (have Bw := Lib.hid (below_step Bw.out hb)) | (have Bw := Lib.hid (below_step Bw.out (below_undrew hb))) | (have Bw := Lib.hid (below_step Bw.out (below_unal hb))) | (have Bw := Lib.hid (below_step Bw.out (below_unal (below_undrew hb)))) | (have Bw := Lib.hid (below_step Bw.out (below_undrew (below_unal hb)))) | (have Bw := Lib.hid (below_step Bw.out (below_unal (below_unal hb)))))
  (first | (have A := Lib.hid (A.out.kept hb)) | (have A := Lib.hid (A.out.kept (below_undrew hb))) | (have A := Lib.hid (A.out.kept (below_unal hb))) | (have A := Lib.hid (A.out.kept (below_unal (below_undrew hb)))) | (have A := Lib.hid (A.out.kept (below_undrew (below_unal hb)))) | (have A := Lib.hid (A.out.kept (below_unal (below_unal hb)))))
  have c0 := A.out.at 0 rfl; have c1 := A.out.at 1 rfl; have c2 := A.out.at 2 rfl
  clear hb
  go_wp2_with fail
  refine (implFace_any s _).mono ?_
  rintro _ w4 ⟨rfl, hb⟩
  (first | (have Bw := Lib.hid (below_step Bw.out hb)) | (have Bw := Lib.hid (below_step Bw.out (below_undrew hb))) | (have Bw := Lib.hid (below_step Bw.out (below_unal hb))) | (have Bw := Lib.hid (below_step Bw.out (below_unal (below_undrew hb)))) | (have Bw := Lib.hid (below_step Bw.out (below_undrew (below_unal hb)))) | (have Bw := Lib.hid (below_step Bw.out (below_unal (below_unal hb)))))
  clear hb
  go_wp2
  go_ret
  exact Tru.below Bw.out
end Go.Proofs.Ytkjlofbnegjcoaa
