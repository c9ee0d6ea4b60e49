/- What a face loses: the law. -/
import Derived.Test.YtkjlofbnegjcoaaWall
namespace Go.Proofs.Ytkjlofbnegjcoaa
open Go.RowKit
set_option linter.unusedVariables false


set_option maxRecDepth 20000 in
theorem fnExactWallLoss_walk (s : FA) (x y z : Nat) (w : World) (_ : s.wf) (_ : (Lit.float .f32 x).wf = true) (_ : (Lit.float .f32 y).wf = true) (_ : (Lit.float .f32 z).wf = true) : Calls Try.prog 13 #[.agg #[.float .f32 s.wd, .float .f32 s.sh, .float .f32 s.wm], .float .f32 x, .float .f32 y, .float .f32 z] w (Tru w) := by
  have A := Lib.hid (Cells.made w s.vs 24)
  have Bw := Lib.hid (below_al1 w (.cells #[.float .f32 s.wd, .float .f32 s.sh, .float .f32 s.wm] 24))
  go_enter Try.func13, Try.ntmps13
  go_wp2_with fail
  refine (toFace_any s _).mono ?_
  rintro e w1 ⟨rfl, hb⟩
  (first | (have Bw := Lib.hid (below_step Bw.out hb)) | (have Bw := Lib.hid (below_step Bw.out (below_undrew hb))) | (have Bw := Lib.hid (below_step Bw.out (below_unal hb))) | (have Bw := Lib.hid (below_step Bw.out (below_unal (below_undrew hb)))) | (have Bw := Lib.hid (below_step Bw.out (below_undrew (below_unal hb)))) | (have Bw := Lib.hid (below_step Bw.out (below_unal (below_unal hb)))))
  (first | (have A := Lib.hid (A.out.kept hb)) | (have A := Lib.hid (A.out.kept (below_undrew hb))) | (have A := Lib.hid (A.out.kept (below_unal hb))) | (have A := Lib.hid (A.out.kept (below_unal (below_undrew hb)))) | (have A := Lib.hid (A.out.kept (below_undrew (below_unal hb)))) | (have A := Lib.hid (A.out.kept (below_unal (below_unal hb)))))
  have c0 := A.out.at 0 rfl; have c1 := A.out.at 1 rfl; have c2 := A.out.at 2 rfl
  clear hb
  go_wp2_with fail
  refine (specWall_any s x y z _).mono ?_
  rintro _ w2 ⟨s1, hr1, rfl, hb⟩
  have R1 := Lib.hid hr1
  (first | (have Bw := Lib.hid (below_step Bw.out hb)) | (have Bw := Lib.hid (below_step Bw.out (below_undrew hb))) | (have Bw := Lib.hid (below_step Bw.out (below_unal hb))) | (have Bw := Lib.hid (below_step Bw.out (below_unal (below_undrew hb)))) | (have Bw := Lib.hid (below_step Bw.out (below_undrew (below_unal hb)))) | (have Bw := Lib.hid (below_step Bw.out (below_unal (below_unal hb)))))
  (first | (have A := Lib.hid (A.out.kept hb)) | (have A := Lib.hid (A.out.kept (below_undrew hb))) | (have A := Lib.hid (A.out.kept (below_unal hb))) | (have A := Lib.hid (A.out.kept (below_unal (below_undrew hb)))) | (have A := Lib.hid (A.out.kept (below_undrew (below_unal hb)))) | (have A := Lib.hid (A.out.kept (below_unal (below_unal hb)))))
  clear c0 c1 c2
  have c0 := A.out.at 0 rfl; have c1 := A.out.at 1 rfl; have c2 := A.out.at 2 rfl
  clear hb hr1
  go_wp2_with fail
  refine (toFace_any s _).mono ?_
  rintro e w1 ⟨rfl, hb⟩
  (first | (have Bw := Lib.hid (below_step Bw.out hb)) | (have Bw := Lib.hid (below_step Bw.out (below_undrew hb))) | (have Bw := Lib.hid (below_step Bw.out (below_unal hb))) | (have Bw := Lib.hid (below_step Bw.out (below_unal (below_undrew hb)))) | (have Bw := Lib.hid (below_step Bw.out (below_undrew (below_unal hb)))) | (have Bw := Lib.hid (below_step Bw.out (below_unal (below_unal hb)))))
  (first | (have A := Lib.hid (A.out.kept hb)) | (have A := Lib.hid (A.out.kept (below_undrew hb))) | (have A := Lib.hid (A.out.kept (below_unal hb))) | (have A := Lib.hid (A.out.kept (below_unal (below_undrew hb)))) | (have A := Lib.hid (A.out.kept (below_undrew (below_unal hb)))) | (have A := Lib.hid (A.out.kept (below_unal (below_unal hb)))))
  have c0 := A.out.at 0 rfl; have c1 := A.out.at 1 rfl; have c2 := A.out.at 2 rfl
  clear hb
  go_wp2_with fail
  refine (implWall_any s x y z _).mono ?_
  rintro _ w4 ⟨s2, hr2, rfl, hb⟩
  have R2 := Lib.hid hr2
  (first | (have Bw := Lib.hid (below_step Bw.out hb)) | (have Bw := Lib.hid (below_step Bw.out (below_undrew hb))) | (have Bw := Lib.hid (below_step Bw.out (below_unal hb))) | (have Bw := Lib.hid (below_step Bw.out (below_unal (below_undrew hb)))) | (have Bw := Lib.hid (below_step Bw.out (below_undrew (below_unal hb)))) | (have Bw := Lib.hid (below_step Bw.out (below_unal (below_unal hb)))))
  clear hb hr2
  go_wp2_with (first | (refine wpList_up rfl Try.underlying22 Try.underlying40 _ rfl _ rfl ?_; intro _ _ _) | (go_at_call 28; refine (same_end (a := s2) (b := s1) _ (by assumption) (by assumption) (R2.out.trans R1.out.symm)).mono ?_; rintro e w' ⟨rfl, n, rfl⟩))
  go_ret
  exact Tru.below (below_drewN Bw.out _)

end Go.Proofs.Ytkjlofbnegjcoaa
