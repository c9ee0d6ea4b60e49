/- The error function: both sides, walked. -/
import Derived.Test.YtgcgfnpkkhhkgaaErrS
import Derived.Test.YtgcgfnpkkhhkgaaSame
import Derived.Test.YtgcgfnpkkhhkgaaNeg
import Derived.Lib.Hide
namespace Go.Proofs.Ytgcgfnpkkhhkgaa
open Go Go.RowKit
set_option linter.unusedVariables false

def Flw (P : Nat → Prop) (w : World) (e : Ending) (w' : World) : Prop := ∃ r n, P r ∧ e = .returned (.float .f64 r) ∧ w' = w.drewN n

theorem ord_cases (x c : Nat) : FloatKind.f64.format.order x c = none ∨ FloatKind.f64.format.order x c = some .lt ∨ FloatKind.f64.format.order x c = some .eq ∨ FloatKind.f64.format.order x c = some .gt := by
  cases FloatKind.f64.format.order x c with
  | none => exact .inl rfl
  | some o => cases o <;> simp
theorem err_step {x j tv r2 r3 r4 r5 : Nat} {a b : Int} (ht : cn .f64 tv = tE x j) (h2 : FR .mul .f64 x x r2) (h3 : FR .mul .f64 tv (Op.negFloat .f64 r2) r3) (h4 : FR .mul .f64 r3 (floatOfInt .f64 a) r4) (h5 : FR .quo .f64 r4 (floatOfInt .f64 b) r5)
    (ha : a = 2 * ((j : Int) + 1) - 1) (hb : b = ((j : Int) + 1) * (2 * ((j : Int) + 1) + 1)) : cn .f64 r5 = tE x (j + 1) := by
  subst ha hb
  have hn := cn_neg h2.1
  rw [h5.1, h4.1, h3.1, ht, hn, tE]
  simp only [fop_cnl, fop_cnr]
  rfl
theorem err_sum {x j sv tv r1 : Nat} (hs : cn .f64 sv = uE x j) (ht : cn .f64 tv = tE x j) (h1 : FR .add .f64 sv tv r1) : cn .f64 r1 = uE x (j + 1) := by
  rw [h1.1, hs, ht, uE]
theorem err_end {x sv r : Nat} (h1 : ge4 x = false) (h2 : le4 x = false) (hs : cn .f64 sv = uE x 60) (h : FR .mul .f64 4607760587169110893 sv r) : cn .f64 r = errF x := by
  unfold errF
  rw [h1, h2, h.1, hs]
  simp only [fop_cnl, Bool.false_eq_true, if_false]
theorem err_one {x : Nat} (h1 : ge4 x = true) : cn .f64 4607182418800017408 = errF x := by
  unfold errF; rw [h1, if_pos rfl]; decide +kernel
theorem err_mone {x : Nat} (h1 : ge4 x = false) (h2 : le4 x = true) : cn .f64 13830554455654793216 = errF x := by
  unfold errF; rw [h1, h2, if_neg (by decide), if_pos rfl]; decide +kernel
theorem cn64_zero : cn .f64 0 = 0 := by decide +kernel
theorem wrap_small {x : Int} (h : 0 ≤ x ∧ x ≤ 60 * 121) : wrap64 x = x := by unfold wrap64; omega
theorem prod_bd (j : Nat) (h : j < 60) : 0 ≤ ((j : Int) + 1) * (2 * ((j : Int) + 1) + 1) ∧ ((j : Int) + 1) * (2 * ((j : Int) + 1) + 1) ≤ 60 * 121 :=
  ⟨Int.mul_nonneg (by omega) (by omega), Int.mul_le_mul (by omega) (by omega) (by omega) (by omega)⟩

set_option maxRecDepth 20000 in
set_option maxHeartbeats 1000000 in
theorem specErr_any (x : Nat) (w : World) (hn : nn .f64 x = false) : Calls Try.prog 59 #[.float .f64 x] w (Flw (fun t => cn .f64 t = errF x) w) := by
  have HX := Lib.hid (cn_of_num hn)
  clear hn
  cases h1 : ge4 x
  · have H1 := Lib.hid h1
    cases h2 : le4 x
    · have H2 := Lib.hid h2
      rcases ord_cases x 4616189618054758400 with o1 | o1 | o1 | o1
      all_goals
        unfold ge4 at h1
        rw [o1] at h1
        rcases ord_cases x 13839561654909534208 with o2 | o2 | o2 | o2
        all_goals
          unfold le4 at h2
          rw [o2] at h2
          first
          | (cases h1; done)
          | (cases h2; done)
          | skip
      all_goals
        clear h1 h2
        go_enter Try.func59, Try.ntmps59
        go_wp2
        go_loopw [3, 4, 5] (fun s t k wr => ∃ j sv tv n : Nat, k = .int .i64 ((j : Int) + 1) ∧ j ≤ 60 ∧ s = .float .f64 sv ∧ t = .float .f64 tv ∧ wr = w.drewN n ∧ Hid (cn .f64 sv = uE x j ∧ cn .f64 tv = tE x j)) (fun _ _ k _ => (61 - intOf k).toNat)
        case atStart => exact ⟨0, 0, x, 0, rfl, by omega, rfl, rfl, rfl, Lib.hid ⟨cn64_zero, HX.out⟩⟩
        case round =>
          obtain ⟨j, sv, tv, n, rfl, hj, rfl, rfl, rfl, hc⟩ := hrel
          by_cases hk : j < 60
          · have PB := Lib.hid (prod_bd j hk)
            go_wp2_with (refine wpList_farith rfl _ _ _ _ _ rfl rfl _ _ _ rfl rfl ?_; intro _ _ _)
            rename_i r1 j1 f1 r2 j2 f2 r3 j3 f3 r4 j4 f4 r5 j5 f5
            go_roundw
            case rel => exact ⟨j + 1, r1, r5, _, by go_num, by omega, rfl, rfl, rfl, Lib.hid ⟨err_sum hc.out.1 hc.out.2 f1, err_step hc.out.2 f2 f3 f4 f5 rfl (wrap_small PB.out)⟩⟩
            case measure => simp [intOf]; omega
          · have ej := Lib.hid (show j = 60 by omega)
            go_wp2_with (refine wpList_farith rfl _ _ _ _ _ rfl rfl _ _ _ rfl rfl ?_; intro _ _ _)
            go_ret
            rename_i r1 j1 f1
            have e60 := ej.out
            subst e60
            exact ⟨_, _, err_end H1.out H2.out hc.out.1 f1, rfl, rfl⟩
    · have H2 := Lib.hid h2
      rcases ord_cases x 4616189618054758400 with o1 | o1 | o1 | o1
      all_goals
        unfold ge4 at h1
        rw [o1] at h1
        rcases ord_cases x 13839561654909534208 with o2 | o2 | o2 | o2
        all_goals
          unfold le4 at h2
          rw [o2] at h2
          first
          | (cases h1; done)
          | (cases h2; done)
          | skip
      all_goals
        clear h1 h2
        go_enter Try.func59, Try.ntmps59
        go_wp2
        go_ret
        exact ⟨13830554455654793216, 0, err_mone H1.out H2.out, rfl, rfl⟩
  · have H1 := Lib.hid h1
    rcases ord_cases x 4616189618054758400 with o1 | o1 | o1 | o1
    all_goals
      unfold ge4 at h1
      rw [o1] at h1
      first
      | (cases h1; done)
      | skip
    all_goals
      clear h1
      go_enter Try.func59, Try.ntmps59
      go_wp2
      go_ret
      exact ⟨4607182418800017408, 0, err_one H1.out, rfl, rfl⟩

set_option maxRecDepth 20000 in
set_option maxHeartbeats 1000000 in
theorem implErr_any (x : Nat) (w : World) (hn : nn .f64 x = false) : Calls Try.prog 61 #[.float .f64 x] w (Flw (fun t => cn .f64 t = errF x) w) := by
  have HX := Lib.hid (cn_of_num hn)
  clear hn
  cases h1 : ge4 x
  · have H1 := Lib.hid h1
    cases h2 : le4 x
    · have H2 := Lib.hid h2
      rcases ord_cases x 4616189618054758400 with o1 | o1 | o1 | o1
      all_goals
        unfold ge4 at h1
        rw [o1] at h1
        rcases ord_cases x 13839561654909534208 with o2 | o2 | o2 | o2
        all_goals
          unfold le4 at h2
          rw [o2] at h2
          first
          | (cases h1; done)
          | (cases h2; done)
          | skip
      all_goals
        clear h1 h2
        go_enter Try.func61, Try.ntmps61
        go_wp2
        go_loopw [3, 4, 5] (fun s t k wr => ∃ j sv tv n : Nat, k = .int .i64 ((j : Int) + 1) ∧ j ≤ 60 ∧ s = .float .f64 sv ∧ t = .float .f64 tv ∧ wr = w.drewN n ∧ Hid (cn .f64 sv = uE x j ∧ cn .f64 tv = tE x j)) (fun _ _ k _ => (61 - intOf k).toNat)
        case atStart => exact ⟨0, 0, x, 0, rfl, by omega, rfl, rfl, rfl, Lib.hid ⟨cn64_zero, HX.out⟩⟩
        case round =>
          obtain ⟨j, sv, tv, n, rfl, hj, rfl, rfl, rfl, hc⟩ := hrel
          by_cases hk : j < 60
          · have PB := Lib.hid (prod_bd j hk)
            go_wp2_with (refine wpList_farith rfl _ _ _ _ _ rfl rfl _ _ _ rfl rfl ?_; intro _ _ _)
            rename_i r1 j1 f1 r2 j2 f2 r3 j3 f3 r4 j4 f4 r5 j5 f5
            go_roundw
            case rel => exact ⟨j + 1, r1, r5, _, by go_num, by omega, rfl, rfl, rfl, Lib.hid ⟨err_sum hc.out.1 hc.out.2 f1, err_step hc.out.2 f2 f3 f4 f5 rfl (wrap_small PB.out)⟩⟩
            case measure => simp [intOf]; omega
          · have ej := Lib.hid (show j = 60 by omega)
            go_wp2_with (refine wpList_farith rfl _ _ _ _ _ rfl rfl _ _ _ rfl rfl ?_; intro _ _ _)
            go_ret
            rename_i r1 j1 f1
            have e60 := ej.out
            subst e60
            exact ⟨_, _, err_end H1.out H2.out hc.out.1 f1, rfl, rfl⟩
    · have H2 := Lib.hid h2
      rcases ord_cases x 4616189618054758400 with o1 | o1 | o1 | o1
      all_goals
        unfold ge4 at h1
        rw [o1] at h1
        rcases ord_cases x 13839561654909534208 with o2 | o2 | o2 | o2
        all_goals
          unfold le4 at h2
          rw [o2] at h2
          first
          | (cases h1; done)
          | (cases h2; done)
          | skip
      all_goals
        clear h1 h2
        go_enter Try.func61, Try.ntmps61
        go_wp2
        go_ret
        exact ⟨13830554455654793216, 0, err_mone H1.out H2.out, rfl, rfl⟩
  · have H1 := Lib.hid h1
    rcases ord_cases x 4616189618054758400 with o1 | o1 | o1 | o1
    all_goals
      unfold ge4 at h1
      rw [o1] at h1
      first
      | (cases h1; done)
      | skip
    all_goals
      clear h1
      go_enter Try.func61, Try.ntmps61
      go_wp2
      go_ret
      exact ⟨4607182418800017408, 0, err_one H1.out, rfl, rfl⟩

end Go.Proofs.Ytgcgfnpkkhhkgaa
