/- What flows between plates: the specification. -/
import Derived.Test.YtkjlofbnegjcoaaWall
import Derived.Test.YtkjlofbnegjcoaaLooseB
namespace Go.Proofs.Ytkjlofbnegjcoaa
open Go.RowKit
set_option linter.unusedVariables false

theorem in_any' (x lo hi : Int) (w : World) : Calls Try.prog 71 #[.int .i64 x, .int .i64 lo, .int .i64 hi] w (BolS (decide (lo ≤ x) && decide (x ≤ hi)) w) := by
  cases h1 : decide (lo ≤ x)
  · have E := Lib.hid h1
    have h1' := of_decide_eq_false h1
    clear h1
    go_enter Try.func71, Try.ntmps71
    go_wp2
    go_ret
    exact ⟨rfl, rfl⟩
  · cases h2 : decide (x ≤ hi)
    · have h1' := of_decide_eq_true h1
      have h2' := of_decide_eq_false h2
      clear h1 h2
      go_enter Try.func71, Try.ntmps71
      go_wp2
      go_ret
      exact ⟨rfl, rfl⟩
    · have h1' := of_decide_eq_true h1
      have h2' := of_decide_eq_true h2
      clear h1 h2
      go_enter Try.func71, Try.ntmps71
      go_wp2
      go_ret
      exact ⟨rfl, rfl⟩
theorem quo_fin {i k : Nat} (h : fin .f32 (fop .quo .f32 i k) = true) : fin .f32 i = true := by
  cases hi : fin .f32 i
  · exfalso
    cases hn : nn .f32 i
    · obtain ⟨s, hs⟩ := inf_of hi hn
      have e1 : Ieee.single.read i = .infinity s := hs
      have e : ∀ x y, floatBits .quo .f32 x y = ((Ieee.single.read x).quotient (Ieee.single.fractionBits + 2) (Ieee.single.read y)).map Ieee.single.write := fun _ _ => rfl
      unfold fop at h
      rw [e i k, e1] at h
      cases hk : Ieee.single.read k with
      | number t m q => rw [hk] at h; simp only [Ieee.Datum.quotient] at h; revert h; cases s <;> cases t <;> decide +kernel
      | infinity t => rw [hk] at h; revert h; cases s <;> cases t <;> decide +kernel
      | nan t p => rw [hk] at h; revert h; simp [Ieee.Datum.quotient]; decide +kernel
    · unfold fop at h
      rw [floatBits_nan_left hn] at h
      revert h
      decide +kernel
  · rfl
/-- what is divided by, with shields -/
def hdS (a b : FA) (x : Nat) : Nat → Nat
  | 0 => fop .sub .f32 (fop .add .f32 (fop .quo .f32 1065353216 a.sh) (fop .quo .f32 1065353216 b.sh)) 1065353216
  | k + 1 => fop .add .f32 (hdS a b x k) (fop .sub .f32 (fop .quo .f32 1073741824 x) 1065353216)
def bwX (a b : FA) (n : Int) (x : Nat) : Nat := fop .quo .f32 (fop .sub .f32 (shX a.wm 1065353216) (shX b.wm 1065353216)) (hdS a b x n.toNat)
theorem hd_start {a b : FA} {x r0 r1 r2 r3 : Nat} (f0 : FR .quo .f32 1065353216 a.sh r0) (f1 : FR .quo .f32 1065353216 b.sh r1) (f2 : FR .add .f32 r0 r1 r2) (f3 : FR .sub .f32 r2 1065353216 r3) : cn .f32 r3 = hdS a b x 0 := by
  unfold hdS; simp only [f0.1, f1.1, f2.1, f3.1, fopl', fopr']
theorem hd_step {a b : FA} {x k d r0 r1 r2 : Nat} (hd : cn .f32 d = hdS a b x k) (f0 : FR .quo .f32 1073741824 x r0) (f1 : FR .sub .f32 r0 1065353216 r1) (f2 : FR .add .f32 d r1 r2) : cn .f32 r2 = hdS a b x (k + 1) := by
  rw [hdS]; simp only [f0.1, f1.1, f2.1, hd, fopl', fopr']
theorem bw_end {a b : FA} {n : Int} {x d k r0 r1 r2 r3 : Nat} (hk : k = n.toNat) (hd : cn .f32 d = hdS a b x k) (f0 : cn .f32 r0 = shX a.wm 1065353216) (f1 : cn .f32 r1 = shX b.wm 1065353216) (f2 : FR .sub .f32 r0 r1 r2) (f3 : FR .quo .f32 r2 d r3) : cn .f32 r3 = bwX a b n x := by
  subst hk
  unfold bwX; simp only [f0, f1, f2.1, f3.1, hd]
def bwB (a b : FA) (n : Int) (x : Nat) : Bool := vFace a && vFace b && (decide (0 ≤ n) && decide (n ≤ 16)) && shn x
theorem bw_parts {a b : FA} {n : Int} {x : Nat} (h : fin .f32 (bwX a b n x) = true) : fin .f32 (shX a.wm 1065353216) = true ∧ fin .f32 (shX b.wm 1065353216) = true := sub_fin2 (quo_fin h)
theorem sh1 {s : FA} (hv : vFace s = true) : shXb s.wm 1065353216 = true := by
  unfold shXb
  rw [(vFace_of hv).2.2, show shr 1065353216 = true by decide +kernel]; rfl
theorem bw_no1 {a b : FA} {n : Int} {x : Nat} (hv : vFace a = true) (h : cB (shXb a.wm 1065353216) (shX a.wm 1065353216) = false) : cB (bwB a b n x) (bwX a b n x) = false := by
  unfold cB at h ⊢
  rw [sh1 hv, Bool.true_and] at h
  cases hf : fin .f32 (bwX a b n x)
  · simp
  · rw [(bw_parts hf).1] at h; cases h
theorem bw_no2 {a b : FA} {n : Int} {x : Nat} (hv : vFace b = true) (h : cB (shXb b.wm 1065353216) (shX b.wm 1065353216) = false) : cB (bwB a b n x) (bwX a b n x) = false := by
  unfold cB at h ⊢
  rw [sh1 hv, Bool.true_and] at h
  cases hf : fin .f32 (bwX a b n x)
  · simp
  · rw [(bw_parts hf).2] at h; cases h
def SgS (_ : FuncId) (args : Array Value) (v : Value) : Prop := ∀ x : Nat, args.getD 0 undef = .float .f32 x → ∃ s, cn .f32 s = shX x 1065353216 ∧ v = .float .f32 s

set_option maxRecDepth 4000 in
set_option maxHeartbeats 1600000 in
theorem specBetween_any (a b : FA) (n : Int) (x p q : Nat) (w : World) (A : Cells w p a.vs) (B : Cells w q b.vs) (h0 : 0 ≤ n) (h1 : n ≤ 16) : Calls Try.prog 70 #[.pointer (some ⟨p, 0, none⟩), .pointer (some ⟨q, 0, none⟩), .int .i64 n, .float .f32 x] w (Flo (fun r => cn .f32 r = bwX a b n x) w) := by
  have c1 := A.at 1 rfl
  have c2 := A.at 2 rfl
  have d1 := B.at 1 rfl
  have d2 := B.at 2 rfl
  have N0 := Lib.hid h0
  have N1 := Lib.hid h1
  clear A B h0 h1
  go_enter Try.func70, Try.ntmps70
  go_wp2
  refine wp_region_loose (fun _ _ _ => True) (by kernel_rfl) (by kernel_rfl) ?_
  repeat (first | (refine wpLoose_farith rfl _ _ _ _ _ rfl rfl _ _ _ rfl rfl ?_; intro _ _) | (refine wpLoose_valK rfl ?_ (fun w1 hw1 => ?_) (fun K hK => ?_); rotate_left; (focus (obtain ⟨nq, rfl⟩ := hw1; go_simp; first | done | rfl)); go_simp; refine hK _ ?_; clear hK K))
  (refine wpLoose_nil ?_; rintro _ ⟨nq, rfl⟩)
  rename_i r0 f0 r1 f1 r2 f2 r3 f3
  have HD := Lib.hid (hd_start (x := x) f0 f1 f2 f3)
  have W3 := f3.2
  clear f0 f1 f2 f3
  go_wp2
  go_loopw [9, 2] (fun d m wr => ∃ (j dv nq : Nat), m = .int .i64 (n - (j : Int)) ∧ (j : Int) ≤ n ∧ d = .float .f32 dv ∧ wr = w.drewN nq ∧ Hid (cn .f32 dv = hdS a b x j)) (fun _ m _ => (intOf m).toNat)
  case atStart => exact ⟨0, r3, _, by simp, N0.out, rfl, rfl, HD⟩
  case round =>
    obtain ⟨j, dv, nq, rfl, hj, rfl, rfl, hc⟩ := hrel
    have N0' := N0.out
    have N1' := N1.out
    by_cases hk : (j : Int) < n
    · go_wp2_with (refine wpList_farith rfl _ _ _ _ _ rfl rfl _ _ _ rfl rfl ?_; intro t0 j0 g0; have e0 := Lib.hid g0; clear g0; refine Stop.go ?_)
      refine Stop.mk ?_
      go_wp2_with (refine wpList_farith rfl _ _ _ _ _ rfl rfl _ _ _ rfl rfl ?_; intro t1 j1 g1; have e1 := Lib.hid g1; clear g1; refine Stop.go ?_)
      refine Stop.mk ?_
      go_wp2_with (refine wpList_farith rfl _ _ _ _ _ rfl rfl _ _ _ rfl rfl ?_; intro t2 j2 g2; have e2 := Lib.hid g2; clear g2; refine Stop.go ?_)
      refine Stop.mk ?_
      go_wp2
      go_roundw
      case rel => exact ⟨j + 1, t2, _, by go_num, by omega, rfl, rfl, Lib.hid (hd_step hc.out e0.out e1.out e2.out)⟩
      case measure => simp [intOf]; omega
    · have EJ := Lib.hid (show j = n.toNat by omega)
      go_wp2
      refine wp_region_loose SgS (by kernel_rfl) (by kernel_rfl) ?_
      repeat (first | (refine wpLoose_farith rfl _ _ _ _ _ rfl rfl _ _ _ rfl rfl ?_; intro _ _) | (refine wpLoose_valK rfl ?_ (fun w1 hw1 => ?_) (fun K hK => ?_); rotate_left; (focus (obtain ⟨nq, rfl⟩ := hw1; go_simp; first | done | rfl)); go_simp; refine hK _ ?_; clear hK K))
      refine wpLoose_call rfl 63 #[.float .f32 a.wm, .float .f32 1065353216] (fun w1 => ?_) (fun w1 hw1 => ?_) (fun v hv => ?_)
      · go_simp
      · obtain ⟨nq1, rfl⟩ := hw1
        refine (specShineX_any a.wm 1065353216 _).mono ?_
        rintro e w2 ⟨s, m, hs, _, rfl, rfl⟩
        exact ⟨_, rfl, (by intro y hy; simp at hy; subst hy; exact ⟨s, hs, rfl⟩), m, rfl⟩
      obtain ⟨s0, hs0, rfl⟩ := hv _ rfl
      have S0 := Lib.hid hs0
      clear hs0 hv
      repeat (first | (refine wpLoose_farith rfl _ _ _ _ _ rfl rfl _ _ _ rfl rfl ?_; intro _ _) | (refine wpLoose_valK rfl ?_ (fun w1 hw1 => ?_) (fun K hK => ?_); rotate_left; (focus (obtain ⟨nq, rfl⟩ := hw1; go_simp; first | done | rfl)); go_simp; refine hK _ ?_; clear hK K))
      refine wpLoose_call rfl 63 #[.float .f32 b.wm, .float .f32 1065353216] (fun w1 => ?_) (fun w1 hw1 => ?_) (fun v hv => ?_)
      · go_simp
      · obtain ⟨nq1, rfl⟩ := hw1
        refine (specShineX_any b.wm 1065353216 _).mono ?_
        rintro e w2 ⟨s, m, hs, _, rfl, rfl⟩
        exact ⟨_, rfl, (by intro y hy; simp at hy; subst hy; exact ⟨s, hs, rfl⟩), m, rfl⟩
      obtain ⟨s1, hs1, rfl⟩ := hv _ rfl
      have S1 := Lib.hid hs1
      clear hs1 hv
      repeat (first | (refine wpLoose_farith rfl _ _ _ _ _ rfl rfl _ _ _ rfl rfl ?_; intro _ _) | (refine wpLoose_valK rfl ?_ (fun w1 hw1 => ?_) (fun K hK => ?_); rotate_left; (focus (obtain ⟨nq, rfl⟩ := hw1; go_simp; first | done | rfl)); go_simp; refine hK _ ?_; clear hK K))
      (refine wpLoose_nil ?_; rintro _ ⟨nq, rfl⟩)
      rename_i r4 f4 r5 f5
      have W5 := f5.2
      go_wp2
      go_ret
      exact ⟨_, _, bw_end EJ.out hc.out S0.out S1.out f4 f5, W5, rfl, by first | rfl | (simp only [World.drewN_drewN]; rfl)⟩

set_option maxRecDepth 4000 in
set_option maxHeartbeats 1600000 in
theorem specShield_any (a b : FA) (n : Int) (x : Nat) (w : World) : Calls Try.prog 35 #[.agg #[.float .f32 a.wd, .float .f32 a.sh, .float .f32 a.wm], .agg #[.float .f32 b.wd, .float .f32 b.sh, .float .f32 b.wm], .int .i64 n, .float .f32 x] w (GivB (cS (bwB a b n x) (bwX a b n x)) (cB (bwB a b n x) (bwX a b n x)) w) := by
  have BE := show bwB a b n x = (vFace a && vFace b && (decide (0 ≤ n) && decide (n ≤ 16)) && gt0 x && leN x 1065353216) by unfold bwB shn; simp only [Bool.and_assoc]
  have A := Lib.hid ((Cells.made w a.vs 26).kept (below_al1 _ (.cells #[.float .f32 b.wd, .float .f32 b.sh, .float .f32 b.wm] 26)))
  have X := Cells.made (w.alloc (.cells #[.float .f32 a.wd, .float .f32 a.sh, .float .f32 a.wm] 26)) b.vs 26
  rw [show (w.alloc (.cells #[.float .f32 a.wd, .float .f32 a.sh, .float .f32 a.wm] 26)).heap.size = w.heap.size + 1 from by simp] at X
  have X := Lib.hid X
  have Bw := Lib.hid (below_step (below_al1 w (.cells #[.float .f32 a.wd, .float .f32 a.sh, .float .f32 a.wm] 26)) (below_al1 _ (.cells #[.float .f32 b.wd, .float .f32 b.sh, .float .f32 b.wm] 26)))
  cases B0 : vFace a
  · skip
    have E := Lib.hid (show bwB a b n x = false by rw [BE, B0]; simp)
    have H0 := Lib.hid B0
    clear BE B0
    go_enter Try.func35, Try.ntmps35
    go_wp2_with fail
    refine (specFace_any a _ _ A.out).mono ?_
    rw [H0.out]
    rintro e w' ⟨rfl, n0, rfl⟩
    go_wp2
    go_ret2
    exact cGiv_no E.out (by first | exact below_drewN Bw.out _ | exact Bw.out)
  · skip
    cases B1 : vFace b
    · skip
      have E := Lib.hid (show bwB a b n x = false by rw [BE, B0, B1]; simp)
      have H0 := Lib.hid B0
      have H1 := Lib.hid B1
      clear BE B0 B1
      go_enter Try.func35, Try.ntmps35
      go_wp2_with fail
      refine (specFace_any a _ _ A.out).mono ?_
      rw [H0.out]
      rintro e w' ⟨rfl, n0, rfl⟩
      go_wp2_with fail
      refine (specFace_any b _ _ X.out.drewN).mono ?_
      rw [H1.out]
      rintro e w' ⟨rfl, n1, rfl⟩
      go_wp2
      go_ret2
      exact cGiv_no E.out (by first | exact below_drewN Bw.out _ | exact Bw.out)
    · skip
      cases B2 : (decide (0 ≤ n) && decide (n ≤ 16))
      · skip
        have E := Lib.hid (show bwB a b n x = false by rw [BE, B0, B1, B2]; simp)
        have H0 := Lib.hid B0
        have H1 := Lib.hid B1
        have H2 := Lib.hid B2
        clear BE B0 B1 B2
        go_enter Try.func35, Try.ntmps35
        go_wp2_with fail
        refine (specFace_any a _ _ A.out).mono ?_
        rw [H0.out]
        rintro e w' ⟨rfl, n0, rfl⟩
        go_wp2_with fail
        refine (specFace_any b _ _ X.out.drewN).mono ?_
        rw [H1.out]
        rintro e w' ⟨rfl, n1, rfl⟩
        go_wp2_with fail
        refine (in_any' n 0 16 _).mono ?_
        rw [H2.out]
        rintro e w' ⟨rfl, rfl⟩
        go_wp2
        go_ret2
        exact cGiv_no E.out (by first | exact below_drewN Bw.out _ | exact Bw.out)
      · skip
        cases B3 : gt0 x
        · skip
          have E := Lib.hid (show bwB a b n x = false by rw [BE, B0, B1, B2, B3]; simp)
          have H0 := Lib.hid B0
          have H1 := Lib.hid B1
          have H2 := Lib.hid B2
          have o3 : (FloatKind.f32.format.order x 0 == some .gt) = false := B3
          have H3 := Lib.hid B3
          clear BE B0 B1 B2 B3
          go_enter Try.func35, Try.ntmps35
          go_wp2_with fail
          refine (specFace_any a _ _ A.out).mono ?_
          rw [H0.out]
          rintro e w' ⟨rfl, n0, rfl⟩
          go_wp2_with fail
          refine (specFace_any b _ _ X.out.drewN).mono ?_
          rw [H1.out]
          rintro e w' ⟨rfl, n1, rfl⟩
          go_wp2_with fail
          refine (in_any' n 0 16 _).mono ?_
          rw [H2.out]
          rintro e w' ⟨rfl, rfl⟩
          go_wp2
          go_ret2
          exact cGiv_no E.out (by first | exact below_drewN Bw.out _ | exact Bw.out)
        · skip
          cases B4 : leN x 1065353216
          · skip
            have E := Lib.hid (show bwB a b n x = false by rw [BE, B0, B1, B2, B3, B4]; simp)
            have H0 := Lib.hid B0
            have H1 := Lib.hid B1
            have H2 := Lib.hid B2
            have o3 : (FloatKind.f32.format.order x 0 == some .gt) = true := B3
            have H3 := Lib.hid B3
            have o4 : (FloatKind.f32.format.order x 1065353216 == some .lt || FloatKind.f32.format.order x 1065353216 == some .eq) = false := B4
            have H4 := Lib.hid B4
            clear BE B0 B1 B2 B3 B4
            go_enter Try.func35, Try.ntmps35
            go_wp2_with fail
            refine (specFace_any a _ _ A.out).mono ?_
            rw [H0.out]
            rintro e w' ⟨rfl, n0, rfl⟩
            go_wp2_with fail
            refine (specFace_any b _ _ X.out.drewN).mono ?_
            rw [H1.out]
            rintro e w' ⟨rfl, n1, rfl⟩
            go_wp2_with fail
            refine (in_any' n 0 16 _).mono ?_
            rw [H2.out]
            rintro e w' ⟨rfl, rfl⟩
            go_wp2
            go_ret2
            exact cGiv_no E.out (by first | exact below_drewN Bw.out _ | exact Bw.out)
          · skip
            have E := Lib.hid (show bwB a b n x = true by rw [BE, B0, B1, B2, B3, B4]; simp)
            have H0 := Lib.hid B0
            have H1 := Lib.hid B1
            have H2 := Lib.hid B2
            have o3 : (FloatKind.f32.format.order x 0 == some .gt) = true := B3
            have H3 := Lib.hid B3
            have o4 : (FloatKind.f32.format.order x 1065353216 == some .lt || FloatKind.f32.format.order x 1065353216 == some .eq) = true := B4
            have H4 := Lib.hid B4
            clear BE B0 B1 B2 B3 B4
            go_enter Try.func35, Try.ntmps35
            go_wp2_with fail
            refine (specFace_any a _ _ A.out).mono ?_
            rw [H0.out]
            rintro e w' ⟨rfl, n0, rfl⟩
            go_wp2_with fail
            refine (specFace_any b _ _ X.out.drewN).mono ?_
            rw [H1.out]
            rintro e w' ⟨rfl, n1, rfl⟩
            go_wp2_with fail
            refine (in_any' n 0 16 _).mono ?_
            rw [H2.out]
            rintro e w' ⟨rfl, rfl⟩
            have NB : 0 ≤ n ∧ n ≤ 16 := by have := H2.out; simpa using this
            go_wp2_with fail
            refine (specBetween_any a b n x _ _ _ A.out.drewN X.out.drewN NB.1 NB.2).mono ?_
            rintro e w' ⟨r5, j5, g5, _, rfl, rfl⟩
            have f5 := Lib.hid g5
            clear g5
            go_wp2_with fail
            first | refine (specNum_any _ _).mono ?_ | (go_at_call 62; refine (specNum_any _ _).mono ?_)
            rintro e w' ⟨rfl, n9, rfl⟩
            go_wp2
            go_ret2
            exact cGiv_yes E.out f5.out (by first | exact below_drewN Bw.out _ | exact Bw.out)
def bvB (a b : FA) : Bool := vFace a && vFace b
theorem bwB0 (a b : FA) : bwB a b 0 1065353216 = bvB a b := by
  unfold bwB bvB
  rw [show shn 1065353216 = true by decide +kernel]
  simp
set_option maxRecDepth 4000 in
theorem specBet_any (a b : FA) (w : World) : Calls Try.prog 33 #[.agg #[.float .f32 a.wd, .float .f32 a.sh, .float .f32 a.wm], .agg #[.float .f32 b.wd, .float .f32 b.sh, .float .f32 b.wm]] w (GivB (cS (bvB a b) (bwX a b 0 1065353216)) (cB (bvB a b) (bwX a b 0 1065353216)) w) := by
  have A := Lib.hid ((Cells.made w a.vs 26).kept (below_al1 _ (.cells #[.float .f32 b.wd, .float .f32 b.sh, .float .f32 b.wm] 26)))
  have X := Cells.made (w.alloc (.cells #[.float .f32 a.wd, .float .f32 a.sh, .float .f32 a.wm] 26)) b.vs 26
  rw [show (w.alloc (.cells #[.float .f32 a.wd, .float .f32 a.sh, .float .f32 a.wm] 26)).heap.size = w.heap.size + 1 from by simp] at X
  have X := Lib.hid X
  have Bw := Lib.hid (below_step (below_al1 w (.cells #[.float .f32 a.wd, .float .f32 a.sh, .float .f32 a.wm] 26)) (below_al1 _ (.cells #[.float .f32 b.wd, .float .f32 b.sh, .float .f32 b.wm] 26)))
  cases B0 : vFace a
  · skip
    have E := Lib.hid (show bvB a b = false by unfold bvB; simp [B0])
    have H0 := Lib.hid B0
    clear B0
    go_enter Try.func33, Try.ntmps33
    go_wp2_with fail
    refine (specFace_any a _ _ A.out).mono ?_
    rw [H0.out]
    rintro e w' ⟨rfl, n0, rfl⟩
    go_wp2
    go_ret2
    exact cGiv_no E.out (by first | exact below_drewN Bw.out _ | exact Bw.out)
  · skip
    cases B1 : vFace b
    · skip
      have E := Lib.hid (show bvB a b = false by unfold bvB; simp [B0, B1])
      have H0 := Lib.hid B0
      have H1 := Lib.hid B1
      clear B0 B1
      go_enter Try.func33, Try.ntmps33
      go_wp2_with fail
      refine (specFace_any a _ _ A.out).mono ?_
      rw [H0.out]
      rintro e w' ⟨rfl, n0, rfl⟩
      go_wp2_with fail
      refine (specFace_any b _ _ X.out.drewN).mono ?_
      rw [H1.out]
      rintro e w' ⟨rfl, n1, rfl⟩
      go_wp2
      go_ret2
      exact cGiv_no E.out (by first | exact below_drewN Bw.out _ | exact Bw.out)
    · skip
      have E := Lib.hid (show bvB a b = true by unfold bvB; simp [B0, B1])
      have H0 := Lib.hid B0
      have H1 := Lib.hid B1
      clear B0 B1
      go_enter Try.func33, Try.ntmps33
      go_wp2_with fail
      refine (specFace_any a _ _ A.out).mono ?_
      rw [H0.out]
      rintro e w' ⟨rfl, n0, rfl⟩
      go_wp2_with fail
      refine (specFace_any b _ _ X.out.drewN).mono ?_
      rw [H1.out]
      rintro e w' ⟨rfl, n1, rfl⟩
      go_wp2_with fail
      refine (specBetween_any a b 0 1065353216 _ _ _ A.out.drewN X.out.drewN (by decide) (by decide)).mono ?_
      rintro e w' ⟨r5, j5, g5, _, rfl, rfl⟩
      have f5 := Lib.hid g5
      clear g5
      go_wp2_with fail
      first | refine (specNum_any _ _).mono ?_ | (go_at_call 62; refine (specNum_any _ _).mono ?_)
      rintro e w' ⟨rfl, n9, rfl⟩
      go_wp2
      go_ret2
      exact cGiv_yes E.out f5.out (by first | exact below_drewN Bw.out _ | exact Bw.out)
end Go.Proofs.Ytkjlofbnegjcoaa
