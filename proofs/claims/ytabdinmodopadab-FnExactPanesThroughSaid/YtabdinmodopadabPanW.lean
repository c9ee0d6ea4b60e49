/- The law PanesThrough, walked. -/
import Derived.Test.YtabdinmodopadabPan
namespace Go.Proofs.Ytabdinmodopadab
open Go.RowKit
set_option linter.unusedVariables false

set_option maxRecDepth 20000 in
set_option maxHeartbeats 1600000 in
theorem fnExactPanesThrough_walk (v : Value) (P : List Nat) (v' : Value) (Q : List Nat) (w : World) (h : FRow w v P) (h' : FRow w v' Q) : Calls Try.prog 8 #[v, v'] w (Tru w) := by
  have HL := Lib.hid h.len
  have HM := Lib.hid h'.len
  by_cases hl : P.length ≤ 1048576
  rotate_left
  · obtain ⟨a, cap, rfl⟩ := h.shape
    obtain ⟨a', cap', rfl⟩ := h'.shape
    clear h h'
    have gL := HL.out
    have gM := HM.out
    go_enter Try.func8, Try.ntmps8
    go_wp2
    go_ret
    exact Tru.same
  · by_cases hm : Q.length ≤ 1048576
    rotate_left
    · obtain ⟨a, cap, rfl⟩ := h.shape
      obtain ⟨a', cap', rfl⟩ := h'.shape
      clear h h'
      have gL := HL.out
      have gM := HM.out
      go_enter Try.func8, Try.ntmps8
      go_wp2
      go_ret
      exact Tru.same
    · have A := Lib.hid h
      have A' := Lib.hid h'
      have GL := Lib.hid hl
      have GM := Lib.hid hm
      have Bw := Lib.hid (Below.refl w.heap.size w)
      obtain ⟨a, cap, rfl⟩ := h.shape
      obtain ⟨a', cap', rfl⟩ := h'.shape
      clear h h' HL HM
      go_enter Try.func8, Try.ntmps8
      go_wp2_with fail
      refine (toF_any _ P _ A.out GL.out).mono ?_
      rintro _ w1 ⟨x1, rfl, hx, hb⟩
      have A := Lib.hid (A.out.below hb)
      have A' := Lib.hid (A'.out.below hb)
      have Bw := Lib.hid (below_step Bw.out hb)
      have X0 := Lib.hid hx
      clear hx
      clear hb
      go_wp2_with fail
      refine (toF_any _ Q _ A'.out GM.out).mono ?_
      rintro _ w2 ⟨x2, rfl, hx, hb⟩
      have A := Lib.hid (A.out.below hb)
      have A' := Lib.hid (A'.out.below hb)
      have X0 := Lib.hid (X0.out.below hb)
      have Bw := Lib.hid (below_step Bw.out hb)
      have X1 := Lib.hid hx
      clear hx
      clear hb
      go_wp2_with fail
      refine (specPan_any _ _ P Q _ X0.out X1.out).mono ?_
      rintro _ w3 ⟨r1, s1, u1, hr, hs, hu, rfl, hb⟩
      have A := Lib.hid (A.out.below hb)
      have A' := Lib.hid (A'.out.below hb)
      have X0 := Lib.hid (X0.out.below hb)
      have X1 := Lib.hid (X1.out.below hb)
      have Bw := Lib.hid (below_step Bw.out hb)
      have R1 := Lib.hid hr
      have S1 := Lib.hid hs
      have U1 := Lib.hid hu
      clear hr hs hu
      clear hb
      clear X0 X1
      go_wp2_with fail
      refine (toF_any _ P _ A.out GL.out).mono ?_
      rintro _ w4 ⟨x4, rfl, hx, hb⟩
      have A := Lib.hid (A.out.below hb)
      have A' := Lib.hid (A'.out.below hb)
      have Bw := Lib.hid (below_step Bw.out hb)
      have X0 := Lib.hid hx
      clear hx
      clear hb
      go_wp2_with fail
      refine (toF_any _ Q _ A'.out GM.out).mono ?_
      rintro _ w5 ⟨x5, rfl, hx, hb⟩
      have A := Lib.hid (A.out.below hb)
      have A' := Lib.hid (A'.out.below hb)
      have X0 := Lib.hid (X0.out.below hb)
      have Bw := Lib.hid (below_step Bw.out hb)
      have X1 := Lib.hid hx
      clear hx
      clear hb
      go_wp2_with fail
      refine (implPan_any _ _ P Q _ X0.out X1.out).mono ?_
      rintro _ w6 ⟨r2, s2, u2, hr, hs, hu, rfl, hb⟩
      have A := Lib.hid (A.out.below hb)
      have A' := Lib.hid (A'.out.below hb)
      have X0 := Lib.hid (X0.out.below hb)
      have X1 := Lib.hid (X1.out.below hb)
      have Bw := Lib.hid (below_step Bw.out hb)
      have R2 := Lib.hid hr
      have S2 := Lib.hid hs
      have U2 := Lib.hid hu
      clear hr hs hu
      clear hb
      go_wp2_with (first | (refine wpList_up rfl Try.underlying23 Try.underlying33 _ rfl _ rfl ?_; intro _ _ _) | (refine upon_up Try.underlying23 Try.underlying33 _ ?_; intro _ _ _; simp only [Result.andThen_ok]) | (go_at_call 23; refine (same_end (a := r2) (b := r1) _ (by assumption) (by assumption) (R2.out.trans R1.out.symm)).mono ?_; rintro e w' ⟨rfl, n, rfl⟩) | (go_at_call 23; refine (same_end (a := s2) (b := s1) _ (by assumption) (by assumption) (S2.out.trans S1.out.symm)).mono ?_; rintro e w' ⟨rfl, n, rfl⟩) | (go_at_call 23; refine (same_end (a := u2) (b := u1) _ (by assumption) (by assumption) (U2.out.trans U1.out.symm)).mono ?_; rintro e w' ⟨rfl, n, rfl⟩))
      refine (toF_any _ P _ A.out.drewN GL.out).mono ?_
      rintro _ w9 ⟨x9, rfl, hx, hb⟩
      have hb := below_undrew hb
      have Y := Lib.hid hx
      clear hx
      have A' := Lib.hid (A'.out.below hb)
      have X0 := Lib.hid (X0.out.below hb)
      have X1 := Lib.hid (X1.out.below hb)
      have Bw := Lib.hid (below_step Bw.out hb)
      clear hb
      go_wp2_with fail
      refine (eqF_any _ _ P P _ X0.out Y.out (SameList.refl P)).mono ?_
      rintro _ _ ⟨rfl, n3, rfl⟩
      go_wp2_with fail
      refine (toF_any _ Q _ A'.out.drewN GM.out).mono ?_
      rintro _ w8 ⟨x8, rfl, hx, hb⟩
      have hb := below_undrew hb
      have Y := Lib.hid hx
      clear hx
      have X1 := Lib.hid (X1.out.below hb)
      have Bw := Lib.hid (below_step Bw.out hb)
      clear hb
      go_wp2_with fail
      refine (eqF_any _ _ Q Q _ X1.out Y.out (SameList.refl Q)).mono ?_
      rintro _ _ ⟨rfl, n4, rfl⟩
      go_wp2
      go_ret
      exact Tru.below (below_drewN Bw.out _)
end Go.Proofs.Ytabdinmodopadab
