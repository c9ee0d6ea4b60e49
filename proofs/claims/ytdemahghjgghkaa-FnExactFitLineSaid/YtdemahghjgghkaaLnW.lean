/- Lines through points: the law. -/
import Derived.Test.YtdemahghjgghkaaLn
namespace Go.Proofs.Ytdemahghjgghkaa
open Go.RowKit
set_option linter.unusedVariables false

set_option maxRecDepth 20000 in
set_option maxHeartbeats 1600000 in
theorem fnExactFitLine_walk (v0 : Value) (xs : List Nat) (v1 : Value) (ys : List Nat) (w : World) (h0 : FRow w v0 xs) (h1 : FRow w v1 ys) : Calls Try.prog 8 #[v0, v1] w (Tru w) := by
  by_cases hl0 : xs.length ≤ 1048576
  rotate_left
  · skip
    have g0 := h0.len
    obtain ⟨a0, c0, rfl⟩ := h0.shape
    have g1 := h1.len
    obtain ⟨a1, c1, rfl⟩ := h1.shape
    clear h0 h1
    go_enter Try.func8, Try.ntmps8
    go_wp2
    go_ret
    exact Tru.same
  by_cases hl1 : ys.length ≤ 1048576
  rotate_left
  · skip
    have g0 := h0.len
    obtain ⟨a0, c0, rfl⟩ := h0.shape
    have g1 := h1.len
    obtain ⟨a1, c1, rfl⟩ := h1.shape
    clear h0 h1
    go_enter Try.func8, Try.ntmps8
    go_wp2
    go_ret
    exact Tru.same
  have HL0 := Lib.hid hl0
  have A0 := Lib.hid h0
  have HL1 := Lib.hid hl1
  have A1 := Lib.hid h1
  have Bw := Lib.hid (Below.refl w.heap.size w)
  obtain ⟨a0, c0, rfl⟩ := h0.shape
  obtain ⟨a1, c1, rfl⟩ := h1.shape
  clear h0 h1
  go_enter Try.func8, Try.ntmps8
  go_wp2_with fail
  refine (toF_any _ xs _ (by first | exact A0.out | exact A0.out.drewN) HL0.out).mono ?_
  rintro _ w1 ⟨x1, rfl, hx, hb⟩
  have A0 := Lib.hid (A0.out.below (by first | exact hb | exact below_undrew hb))
  have A1 := Lib.hid (A1.out.below (by first | exact hb | exact below_undrew hb))
  have Bw := Lib.hid (below_step Bw.out (by first | exact hb | exact below_undrew hb))
  clear hb
  have X0 := Lib.hid hx
  clear hx
  go_wp2_with fail
  refine (toF_any _ ys _ (by first | exact A1.out | exact A1.out.drewN) HL1.out).mono ?_
  rintro _ w2 ⟨x2, rfl, hx, hb⟩
  have A0 := Lib.hid (A0.out.below (by first | exact hb | exact below_undrew hb))
  have A1 := Lib.hid (A1.out.below (by first | exact hb | exact below_undrew hb))
  have X0 := Lib.hid (X0.out.below (by first | exact hb | exact below_undrew hb))
  have Bw := Lib.hid (below_step Bw.out (by first | exact hb | exact below_undrew hb))
  clear hb
  have X1 := Lib.hid hx
  clear hx
  go_wp2_with fail
  refine (specFit_any _ _ xs ys _ X0.out X1.out).mono ?_
  rintro _ w3 ⟨r1, s1, hr, hs, rfl, hb⟩
  have A0 := Lib.hid (A0.out.below (by first | exact hb | exact below_undrew hb))
  have A1 := Lib.hid (A1.out.below (by first | exact hb | exact below_undrew hb))
  have X0 := Lib.hid (X0.out.below (by first | exact hb | exact below_undrew hb))
  have X1 := Lib.hid (X1.out.below (by first | exact hb | exact below_undrew hb))
  have Bw := Lib.hid (below_step Bw.out (by first | exact hb | exact below_undrew hb))
  clear hb
  have R1 := Lib.hid hr
  have S1 := Lib.hid hs
  clear hr hs
  clear X0
  clear X1
  go_wp2_with fail
  refine (toF_any _ xs _ (by first | exact A0.out | exact A0.out.drewN) HL0.out).mono ?_
  rintro _ w4 ⟨x4, rfl, hx, hb⟩
  have A0 := Lib.hid (A0.out.below (by first | exact hb | exact below_undrew hb))
  have A1 := Lib.hid (A1.out.below (by first | exact hb | exact below_undrew hb))
  have Bw := Lib.hid (below_step Bw.out (by first | exact hb | exact below_undrew hb))
  clear hb
  have X0 := Lib.hid hx
  clear hx
  go_wp2_with fail
  refine (toF_any _ ys _ (by first | exact A1.out | exact A1.out.drewN) HL1.out).mono ?_
  rintro _ w5 ⟨x5, rfl, hx, hb⟩
  have A0 := Lib.hid (A0.out.below (by first | exact hb | exact below_undrew hb))
  have A1 := Lib.hid (A1.out.below (by first | exact hb | exact below_undrew hb))
  have X0 := Lib.hid (X0.out.below (by first | exact hb | exact below_undrew hb))
  have Bw := Lib.hid (below_step Bw.out (by first | exact hb | exact below_undrew hb))
  clear hb
  have X1 := Lib.hid hx
  clear hx
  go_wp2_with fail
  refine (implFit_any _ _ xs ys _ X0.out X1.out).mono ?_
  rintro _ w6 ⟨r2, s2, hr, hs, rfl, hb⟩
  have A0 := Lib.hid (A0.out.below (by first | exact hb | exact below_undrew hb))
  have A1 := Lib.hid (A1.out.below (by first | exact hb | exact below_undrew hb))
  have X0 := Lib.hid (X0.out.below (by first | exact hb | exact below_undrew hb))
  have X1 := Lib.hid (X1.out.below (by first | exact hb | exact below_undrew hb))
  have Bw := Lib.hid (below_step Bw.out (by first | exact hb | exact below_undrew hb))
  clear hb
  have R2 := Lib.hid hr
  have S2 := Lib.hid hs
  clear hr hs
  go_wp2_with (first | (refine wpList_up rfl Try.underlying25 Try.underlying29 _ rfl _ rfl ?_; intro _ _ _) | (refine upon_up Try.underlying25 Try.underlying29 _ ?_; intro _ _ _; simp only [Result.andThen_ok]) | (go_at_call 21; refine (same_end (a := r2) (b := r1) _ (by assumption) (by assumption) (R2.out.trans R1.out.symm)).mono ?_; rintro e w' ⟨rfl, n, rfl⟩) | (go_at_call 21; refine (same_end (a := s2) (b := s1) _ (by assumption) (by assumption) (S2.out.trans S1.out.symm)).mono ?_; rintro e w' ⟨rfl, n, rfl⟩))
  refine (toF_any _ xs _ (by first | exact A0.out | exact A0.out.drewN) HL0.out).mono ?_
  rintro _ w7 ⟨x7, rfl, hx, hb⟩
  have A0 := Lib.hid (A0.out.below (by first | exact hb | exact below_undrew hb))
  have A1 := Lib.hid (A1.out.below (by first | exact hb | exact below_undrew hb))
  have X0 := Lib.hid (X0.out.below (by first | exact hb | exact below_undrew hb))
  have X1 := Lib.hid (X1.out.below (by first | exact hb | exact below_undrew hb))
  have Bw := Lib.hid (below_step Bw.out (by first | exact hb | exact below_undrew hb))
  clear hb
  have Y0 := Lib.hid hx
  clear hx
  go_wp2_with fail
  refine (eqF_any _ _ xs xs _ X0.out Y0.out (SameList.refl xs)).mono ?_
  rintro _ _ ⟨rfl, nq0, rfl⟩
  have Bw := Lib.hid (below_drewN Bw.out nq0)
  have A0 := Lib.hid (A0.out.below (below_drewN (Below.refl _ _) nq0))
  have A1 := Lib.hid (A1.out.below (below_drewN (Below.refl _ _) nq0))
  have X1 := Lib.hid (X1.out.below (below_drewN (Below.refl _ _) nq0))
  clear X0 Y0
  go_wp2_with fail
  refine (toF_any _ ys _ (by first | exact A1.out | exact A1.out.drewN) HL1.out).mono ?_
  rintro _ w9 ⟨x9, rfl, hx, hb⟩
  have A0 := Lib.hid (A0.out.below (by first | exact hb | exact below_undrew hb))
  have A1 := Lib.hid (A1.out.below (by first | exact hb | exact below_undrew hb))
  have X1 := Lib.hid (X1.out.below (by first | exact hb | exact below_undrew hb))
  have Bw := Lib.hid (below_step Bw.out (by first | exact hb | exact below_undrew hb))
  clear hb
  have Y1 := Lib.hid hx
  clear hx
  go_wp2_with fail
  refine (eqF_any _ _ ys ys _ X1.out Y1.out (SameList.refl ys)).mono ?_
  rintro _ _ ⟨rfl, nq1, rfl⟩
  have Bw := Lib.hid (below_drewN Bw.out nq1)
  have A0 := Lib.hid (A0.out.below (below_drewN (Below.refl _ _) nq1))
  have A1 := Lib.hid (A1.out.below (below_drewN (Below.refl _ _) nq1))
  clear X1 Y1
  go_wp2
  go_ret
  exact Tru.below (by repeat (first | (with_reducible exact Bw.out) | (with_reducible refine below_drewN ?_ _) | (with_reducible exact Below.refl _ _)))


end Go.Proofs.Ytdemahghjgghkaa
