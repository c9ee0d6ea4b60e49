/- How far a front comes: the specification's side. -/
import Derived.Test.YtgcgfnpkkhhkgaaFront
namespace Go.Proofs.Ytgcgfnpkkhhkgaa
open Go Go.RowKit
set_option linter.unusedVariables false

set_option maxRecDepth 20000 in
set_option maxHeartbeats 3200000 in
theorem specFront_any (s : SF) (x t : Nat) (w : World) : Calls Try.prog 39 #[.agg #[.float .f32 s.so, .float .f32 s.fl, .float .f32 s.es, .float .f32 s.ef, .float .f32 s.pt, .float .f32 s.la], .float .f32 x, .float .f32 t] w (GivB (frontS s x t) (frontB s x t) w) := by
  have A := Lib.hid (Cells.made w s.vs 49)
  have Bw := Lib.hid (below_al1 w (.cells #[.float .f32 s.so, .float .f32 s.fl, .float .f32 s.es, .float .f32 s.ef, .float .f32 s.pt, .float .f32 s.la] 49))
  cases S0 : vStuff s
  · have HS := Lib.hid S0
    clear S0
    go_enter Try.func39, Try.ntmps39
    go_wp2_with fail
    refine (specStuff_any s _ _ A.out).mono ?_
    rw [HS.out]
    rintro e w1 ⟨rfl, n1, rfl⟩
    have c0 := A.out.at 0 rfl; have c1 := A.out.at 1 rfl; have c2 := A.out.at 2 rfl; have c3 := A.out.at 3 rfl; have c4 := A.out.at 4 rfl; have c5 := A.out.at 5 rfl
    go_wp2
    go_ret2
    exact GivR.no (fr1 HS.out) (by repeat (first | exact Bw.out | exact Below.refl _ _ | refine Below.setCell ?_ (by first | exact Nat.le_refl _ | (simp; done) | (simp; omega) | omega) _ | refine below_drewN ?_ _ | refine Below.alloc ?_ (by first | exact Nat.le_refl _ | (simp; done) | (simp; omega) | omega) _))
  · cases F0 : fin .f32 x
    · have HS := Lib.hid S0
      have HF := Lib.hid F0
      clear S0 F0
      go_enter Try.func39, Try.ntmps39
      go_wp2_with fail
      refine (specStuff_any s _ _ A.out).mono ?_
      rw [HS.out]
      rintro e w1 ⟨rfl, n1, rfl⟩
      have c0 := A.out.at 0 rfl; have c1 := A.out.at 1 rfl; have c2 := A.out.at 2 rfl; have c3 := A.out.at 3 rfl; have c4 := A.out.at 4 rfl; have c5 := A.out.at 5 rfl
      go_wp2_with fail
      refine (specFinite_any _ _).mono ?_
      rw [HF.out]
      rintro e w3 ⟨rfl, n2, rfl⟩
      go_wp2
      go_ret2
      exact GivR.no (fr2 HF.out) (by repeat (first | exact Bw.out | exact Below.refl _ _ | refine Below.setCell ?_ (by first | exact Nat.le_refl _ | (simp; done) | (simp; omega) | omega) _ | refine below_drewN ?_ _ | refine Below.alloc ?_ (by first | exact Nat.le_refl _ | (simp; done) | (simp; omega) | omega) _))
    · have HS := Lib.hid S0
      have HF := Lib.hid F0
      clear S0 F0
      rcases o32d x s.pt with o1 | o1 | o1 | o1
      case inl => exact (ord_none_fin o1 HF.out (vStuff_pt HS.out)).elim
      case inr.inl =>
        have HO := Lib.hid (show over32 x s.pt = false by unfold over32; rw [o1]; rfl)
        go_enter Try.func39, Try.ntmps39
        go_wp2_with fail
        refine (specStuff_any s _ _ A.out).mono ?_
        rw [HS.out]
        rintro e w1 ⟨rfl, n1, rfl⟩
        have c0 := A.out.at 0 rfl; have c1 := A.out.at 1 rfl; have c2 := A.out.at 2 rfl; have c3 := A.out.at 3 rfl; have c4 := A.out.at 4 rfl; have c5 := A.out.at 5 rfl
        go_wp2_with fail
        refine (specFinite_any _ _).mono ?_
        rw [HF.out]
        rintro e w3 ⟨rfl, n2, rfl⟩
        go_wp2
        go_ret2
        exact GivR.no (fr3 HO.out) (by repeat (first | exact Bw.out | exact Below.refl _ _ | refine Below.setCell ?_ (by first | exact Nat.le_refl _ | (simp; done) | (simp; omega) | omega) _ | refine below_drewN ?_ _ | refine Below.alloc ?_ (by first | exact Nat.le_refl _ | (simp; done) | (simp; omega) | omega) _))
      case inr.inr.inl =>
        have HO := Lib.hid (show over32 x s.pt = false by unfold over32; rw [o1]; rfl)
        go_enter Try.func39, Try.ntmps39
        go_wp2_with fail
        refine (specStuff_any s _ _ A.out).mono ?_
        rw [HS.out]
        rintro e w1 ⟨rfl, n1, rfl⟩
        have c0 := A.out.at 0 rfl; have c1 := A.out.at 1 rfl; have c2 := A.out.at 2 rfl; have c3 := A.out.at 3 rfl; have c4 := A.out.at 4 rfl; have c5 := A.out.at 5 rfl
        go_wp2_with fail
        refine (specFinite_any _ _).mono ?_
        rw [HF.out]
        rintro e w3 ⟨rfl, n2, rfl⟩
        go_wp2
        go_ret2
        exact GivR.no (fr3 HO.out) (by repeat (first | exact Bw.out | exact Below.refl _ _ | refine Below.setCell ?_ (by first | exact Nat.le_refl _ | (simp; done) | (simp; omega) | omega) _ | refine below_drewN ?_ _ | refine Below.alloc ?_ (by first | exact Nat.le_refl _ | (simp; done) | (simp; omega) | omega) _))
      case inr.inr.inr =>
        have HO := Lib.hid (show over32 x s.pt = true by unfold over32; rw [o1]; rfl)
        cases T0 : (fin .f32 t && ge0 t)
        · have HT := Lib.hid T0
          clear T0
          go_enter Try.func39, Try.ntmps39
          go_wp2_with fail
          refine (specStuff_any s _ _ A.out).mono ?_
          rw [HS.out]
          rintro e w1 ⟨rfl, n1, rfl⟩
          have c0 := A.out.at 0 rfl; have c1 := A.out.at 1 rfl; have c2 := A.out.at 2 rfl; have c3 := A.out.at 3 rfl; have c4 := A.out.at 4 rfl; have c5 := A.out.at 5 rfl
          go_wp2_with fail
          refine (specFinite_any _ _).mono ?_
          rw [HF.out]
          rintro e w3 ⟨rfl, n2, rfl⟩
          go_wp2_with fail
          refine (specLeast_any t _).mono ?_
          rw [HT.out]
          rintro e w4 ⟨rfl, n3, rfl⟩
          go_wp2
          go_ret2
          exact GivR.no (fr4 HT.out) (by repeat (first | exact Bw.out | exact Below.refl _ _ | refine Below.setCell ?_ (by first | exact Nat.le_refl _ | (simp; done) | (simp; omega) | omega) _ | refine below_drewN ?_ _ | refine Below.alloc ?_ (by first | exact Nat.le_refl _ | (simp; done) | (simp; omega) | omega) _))
        · have HT := Lib.hid T0
          clear T0
          cases P0 : pos (sizeF s x)
          · have HP := Lib.hid P0
            clear P0
            go_enter Try.func39, Try.ntmps39
            go_wp2_with fail
            refine (specStuff_any s _ _ A.out).mono ?_
            rw [HS.out]
            rintro e w1 ⟨rfl, n1, rfl⟩
            have c0 := A.out.at 0 rfl; have c1 := A.out.at 1 rfl; have c2 := A.out.at 2 rfl; have c3 := A.out.at 3 rfl; have c4 := A.out.at 4 rfl; have c5 := A.out.at 5 rfl
            go_wp2_with fail
            refine (specFinite_any _ _).mono ?_
            rw [HF.out]
            rintro e w3 ⟨rfl, n2, rfl⟩
            go_wp2_with fail
            refine (specLeast_any t _).mono ?_
            rw [HT.out]
            rintro e w4 ⟨rfl, n3, rfl⟩
            go_wp2_with (first | (refine wpList_farith rfl .sub _ _ _ _ rfl rfl .f32 x s.pt rfl rfl ?_; intro r1 j1 f1) | (refine wpList_farith rfl .mul _ _ _ _ rfl rfl .f32 s.fl r1 rfl rfl ?_; intro r2 j2 f2) | (refine wpList_farith rfl .quo _ _ _ _ rfl rfl .f32 r2 s.la rfl rfl ?_; intro r3 j3 f3; have HZ := Lib.hid (size_of f1 f2 f3)) | (go_at_call 37; refine (specStef_any r3 _).mono ?_; rw [pos_cn HZ.out, HP.out, cond_false]; rintro _ w8 ⟨l, hl, rfl, hb⟩; have HL := Lib.hid hl; (first | (have Bw := Lib.hid (below_step Bw.out hb)) | (have Bw := Lib.hid (below_step Bw.out (below_undrew hb))) | (have Bw := Lib.hid (below_step Bw.out (below_unal hb))) | (have Bw := Lib.hid (below_step Bw.out (below_unal (below_undrew hb)))) | (have Bw := Lib.hid (below_step Bw.out (below_undrew (below_unal hb)))) | (have Bw := Lib.hid (below_step Bw.out (below_unal (below_unal hb))))); (first | (have A := Lib.hid (A.out.kept hb)) | (have A := Lib.hid (A.out.kept (below_undrew hb))) | (have A := Lib.hid (A.out.kept (below_unal hb))) | (have A := Lib.hid (A.out.kept (below_unal (below_undrew hb)))) | (have A := Lib.hid (A.out.kept (below_undrew (below_unal hb)))) | (have A := Lib.hid (A.out.kept (below_unal (below_unal hb))))); have hz := Bw.out.size; have d0 := A.out.at 1 rfl; have d1 := A.out.at 3 rfl; clear hl hb))
            go_ret2
            exact GivR.no (fr5 HP.out) (by repeat (first | exact Bw.out | exact Below.refl _ _ | refine Below.setCell ?_ (by first | exact Nat.le_refl _ | (simp; done) | (simp; omega) | omega) _ | refine below_drewN ?_ _ | refine Below.alloc ?_ (by first | exact Nat.le_refl _ | (simp; done) | (simp; omega) | omega) _))
          · have HP := Lib.hid P0
            clear P0
            go_enter Try.func39, Try.ntmps39
            go_wp2_with fail
            refine (specStuff_any s _ _ A.out).mono ?_
            rw [HS.out]
            rintro e w1 ⟨rfl, n1, rfl⟩
            have c0 := A.out.at 0 rfl; have c1 := A.out.at 1 rfl; have c2 := A.out.at 2 rfl; have c3 := A.out.at 3 rfl; have c4 := A.out.at 4 rfl; have c5 := A.out.at 5 rfl
            go_wp2_with fail
            refine (specFinite_any _ _).mono ?_
            rw [HF.out]
            rintro e w3 ⟨rfl, n2, rfl⟩
            go_wp2_with fail
            refine (specLeast_any t _).mono ?_
            rw [HT.out]
            rintro e w4 ⟨rfl, n3, rfl⟩
            go_wp2_with (first | (refine wpList_farith rfl .sub _ _ _ _ rfl rfl .f32 x s.pt rfl rfl ?_; intro r1 j1 f1) | (refine wpList_farith rfl .mul _ _ _ _ rfl rfl .f32 s.fl r1 rfl rfl ?_; intro r2 j2 f2) | (refine wpList_farith rfl .quo _ _ _ _ rfl rfl .f32 r2 s.la rfl rfl ?_; intro r3 j3 f3; have HZ := Lib.hid (size_of f1 f2 f3)) | (go_at_call 37; refine (specStef_any r3 _).mono ?_; rw [pos_cn HZ.out, HP.out, cond_true]; rintro _ w8 ⟨l, hl, rfl, hb⟩; have HL := Lib.hid hl; (first | (have Bw := Lib.hid (below_step Bw.out hb)) | (have Bw := Lib.hid (below_step Bw.out (below_undrew hb))) | (have Bw := Lib.hid (below_step Bw.out (below_unal hb))) | (have Bw := Lib.hid (below_step Bw.out (below_unal (below_undrew hb)))) | (have Bw := Lib.hid (below_step Bw.out (below_undrew (below_unal hb)))) | (have Bw := Lib.hid (below_step Bw.out (below_unal (below_unal hb))))); (first | (have A := Lib.hid (A.out.kept hb)) | (have A := Lib.hid (A.out.kept (below_undrew hb))) | (have A := Lib.hid (A.out.kept (below_unal hb))) | (have A := Lib.hid (A.out.kept (below_unal (below_undrew hb)))) | (have A := Lib.hid (A.out.kept (below_undrew (below_unal hb)))) | (have A := Lib.hid (A.out.kept (below_unal (below_unal hb))))); have hz := Bw.out.size; have d0 := A.out.at 1 rfl; have d1 := A.out.at 3 rfl; clear hl hb) | (refine wpList_farith rfl .mul _ _ _ _ rfl rfl .f32 1073741824 l rfl rfl ?_; intro r4 j4 f4) | (refine wpList_farith rfl .mul _ _ _ _ rfl rfl .f32 s.ef t rfl rfl ?_; intro r5 j5 f5) | (refine wpList_farith rfl .quo _ _ _ _ rfl rfl .f32 r5 s.fl rfl rfl ?_; intro r6 j6 f6) | (go_at_call 68; refine (specRoot_any r6 _).mono ?_; rintro _ _ ⟨q, n8, hq, _, rfl, rfl⟩; have HQ := Lib.hid hq; clear hq) | (refine wpList_farith rfl .mul _ _ _ _ rfl rfl .f32 r4 q rfl rfl ?_; intro r7 j7 f7) | (go_at_call 52; refine (specNum_any _ _).mono ?_; rintro _ _ ⟨rfl, n9, rfl⟩))
            go_ret2
            exact GivR.num (fr6 HS.out HF.out HO.out HT.out HP.out) (front_of HZ.out HL.out f4 f5 f6 HQ.out f7) (by repeat (first | exact Bw.out | exact Below.refl _ _ | refine Below.setCell ?_ (by first | exact Nat.le_refl _ | (simp; done) | (simp; omega) | omega) _ | refine below_drewN ?_ _ | refine Below.alloc ?_ (by first | exact Nat.le_refl _ | (simp; done) | (simp; omega) | omega) _))

end Go.Proofs.Ytgcgfnpkkhhkgaa
