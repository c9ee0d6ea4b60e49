/- The exponential function in 64 bits: both sides, walked. -/
import Derived.Test.YtabdinmodopadabErrP
namespace Go.Proofs.Ytabdinmodopadab
open Go Go.RowKit
set_option linter.unusedVariables false

def pTo (t : Nat) : Nat → Nat
  | 0 => 4607182418800017408
  | i + 1 => fop .add .f64 4607182418800017408 (fop .quo .f64 (fop .mul .f64 t (pTo t i)) (fi (12 - (i : Int))))
def sqTo (p : Nat) : Nat → Nat
  | 0 => p
  | i + 1 => fop .mul .f64 (sqTo p i) (sqTo p i)
def gt200 (x : Nat) : Bool := FloatKind.f64.format.order x 4641240890982006784 == some .gt
def lt200 (x : Nat) : Bool := FloatKind.f64.format.order x 13864612927836782592 == some .lt
def expF (x : Nat) : Nat := if gt200 x then 9218868437227405312 else if lt200 x then 0 else sqTo (pTo (fop .quo .f64 x 4643211215818981376) 12) 8

theorem exp_inf {x : Nat} (h : gt200 x = true) : cn .f64 9218868437227405312 = expF x := by
  unfold expF; rw [h, if_pos rfl]; decide +kernel
theorem exp_zero {x : Nat} (h : gt200 x = false) (h2 : lt200 x = true) : cn .f64 0 = expF x := by
  unfold expF; rw [h, h2, if_neg (by decide), if_pos rfl]; decide +kernel
theorem exp_step {t tv pv r1 r2 r3 i : Nat} {a : Int} (ht : cn .f64 tv = t) (hp : cn .f64 pv = pTo t i) (h1 : FR .mul .f64 tv pv r1) (h2 : FR .quo .f64 r1 (floatOfInt .f64 a) r2) (h3 : FR .add .f64 4607182418800017408 r2 r3) (ha : a = 12 - (i : Int)) : cn .f64 r3 = pTo t (i + 1) := by
  subst ha
  rw [h3.1, h2.1, h1.1, ht, hp, pTo]
  simp only [fop_cnl, fop_cnr]
  rfl
theorem exp_sq {p pv r1 i : Nat} (hp : cn .f64 pv = sqTo p i) (h1 : FR .mul .f64 pv pv r1) : cn .f64 r1 = sqTo p (i + 1) := by
  rw [h1.1, hp, sqTo]
theorem exp_start {x tv : Nat} (hx : cn .f64 x = x) (h : FR .quo .f64 x 4643211215818981376 tv) : cn .f64 tv = fop .quo .f64 x 4643211215818981376 := by
  rw [h.1]; simp only [fop_cnl, fop_cnr]
theorem exp_end {x pv : Nat} (h1 : gt200 x = false) (h2 : lt200 x = false) (h : cn .f64 pv = sqTo (pTo (fop .quo .f64 x 4643211215818981376) 12) 8) : cn .f64 pv = expF x := by
  unfold expF; rw [h1, h2, if_neg (by decide), if_neg (by decide)]; exact h
theorem cn64_one : cn .f64 4607182418800017408 = 4607182418800017408 := by decide +kernel
theorem inf_any (w : World) : Calls Try.prog 113 #[.int .i64 1] w fun e w' => e = .returned (.float .f64 9218868437227405312) ∧ w = w' := by
  go_enter Try.func113, Try.ntmps113
  go_wp2_with go_in
  go_ret
  exact ⟨rfl, rfl⟩

set_option maxRecDepth 20000 in
set_option maxHeartbeats 1000000 in
theorem specExp_any (x : Nat) (w : World) (hn : nn .f64 x = false) : Calls Try.prog 104 #[.float .f64 x] w (Flw (fun t => cn .f64 t = expF x) w) := by
  have o0 : FloatKind.f64.format.order x x = some .eq := by rw [order_self, hn]; rfl
  have HX := Lib.hid (cn_of_num hn)
  clear hn
  cases h1 : gt200 x
  · have H1 := Lib.hid h1
    cases h2 : lt200 x
    · have H2 := Lib.hid h2
      rcases ord_cases x 4641240890982006784 with o1 | o1 | o1 | o1
      all_goals
        unfold gt200 at h1
        rw [o1] at h1
        rcases ord_cases x 13864612927836782592 with o2 | o2 | o2 | o2
        all_goals
          unfold lt200 at h2
          rw [o2] at h2
          first
          | (cases h1; done)
          | (cases h2; done)
          | skip
      all_goals
        clear h1 h2
        go_enter Try.func104, Try.ntmps104
        go_wp2_with (refine wpList_farith rfl _ _ _ _ _ rfl rfl _ _ _ rfl rfl ?_; intro t0 j0 f0)
        have T := Lib.hid (exp_start HX.out f0)
        clear f0
        go_loopw [4, 5] (fun p k wr => ∃ i pv n : Nat, i ≤ 12 ∧ k = .int .i64 (12 - (i : Int)) ∧ p = .float .f64 pv ∧ wr = w.drewN n ∧ Hid (cn .f64 pv = pTo (fop .quo .f64 x 4643211215818981376) i)) (fun _ k _ => (intOf k).toNat)
        case atStart => exact ⟨0, 4607182418800017408, _, by omega, rfl, rfl, rfl, Lib.hid cn64_one⟩
        case round =>
          obtain ⟨i, pv, n, hi, rfl, rfl, rfl, hp⟩ := hrel
          by_cases hk : i < 12
          · go_wp2_with (refine wpList_farith rfl _ _ _ _ _ rfl rfl _ _ _ rfl rfl ?_; intro _ _ _)
            rename_i r1 j1 f1 r2 j2 f2 r3 j3 f3
            go_roundw
            case rel => exact ⟨i + 1, r3, _, by omega, by go_num, rfl, rfl, Lib.hid (exp_step T.out hp.out f1 f2 f3 rfl)⟩
            case measure => simp [intOf]; omega
          · have e12 := Lib.hid (show i = 12 by omega)
            go_wp2_with (refine wpList_farith rfl _ _ _ _ _ rfl rfl _ _ _ rfl rfl ?_; intro _ _ _)
            have hp2 := Lib.hid (show cn .f64 pv = sqTo (pTo (fop .quo .f64 x 4643211215818981376) 12) 0 by rw [hp.out, e12.out]; rfl)
            go_loopw [4, 6] (fun p k wr => ∃ i pv n : Nat, i ≤ 8 ∧ k = .int .i64 (i : Int) ∧ p = .float .f64 pv ∧ wr = w.drewN n ∧ Hid (cn .f64 pv = sqTo (pTo (fop .quo .f64 x 4643211215818981376) 12) i)) (fun _ k _ => (8 - intOf k).toNat)
            case atStart => exact ⟨0, pv, _, by omega, rfl, rfl, rfl, hp2⟩
            case round =>
              obtain ⟨i2, pv2, n2, hi2, rfl, rfl, rfl, hq⟩ := hrel
              by_cases hk2 : i2 < 8
              · go_wp2_with (refine wpList_farith rfl _ _ _ _ _ rfl rfl _ _ _ rfl rfl ?_; intro _ _ _)
                rename_i r1 j1 f1
                go_roundw
                case rel => exact ⟨i2 + 1, r1, _, by omega, by go_num, rfl, rfl, Lib.hid (exp_sq hq.out f1)⟩
                case measure => simp [intOf]; omega
              · have e8 := Lib.hid (show i2 = 8 by omega)
                go_wp2_with (refine wpList_farith rfl _ _ _ _ _ rfl rfl _ _ _ rfl rfl ?_; intro _ _ _)
                go_ret
                exact ⟨pv2, _, exp_end H1.out H2.out (by rw [hq.out, e8.out]), rfl, rfl⟩
    · have H2 := Lib.hid h2
      rcases ord_cases x 4641240890982006784 with o1 | o1 | o1 | o1
      all_goals
        unfold gt200 at h1
        rw [o1] at h1
        rcases ord_cases x 13864612927836782592 with o2 | o2 | o2 | o2
        all_goals
          unfold lt200 at h2
          rw [o2] at h2
          first
          | (cases h1; done)
          | (cases h2; done)
          | skip
      all_goals
        clear h1 h2
        go_enter Try.func104, Try.ntmps104
        go_wp2
        go_ret
        exact ⟨0, 0, exp_zero H1.out H2.out, rfl, rfl⟩
  · have H1 := Lib.hid h1
    rcases ord_cases x 4641240890982006784 with o1 | o1 | o1 | o1
    all_goals
      unfold gt200 at h1
      rw [o1] at h1
      first
      | (cases h1; done)
      | skip
    all_goals
      clear h1
      go_enter Try.func104, Try.ntmps104
      go_wp2_with fail
      refine (inf_any _).mono ?_
      rintro e w' ⟨rfl, rfl⟩
      go_wp2
      go_ret
      exact ⟨9218868437227405312, 0, exp_inf H1.out, rfl, rfl⟩

set_option maxRecDepth 20000 in
set_option maxHeartbeats 1000000 in
theorem implExp_any (x : Nat) (w : World) (hn : nn .f64 x = false) : Calls Try.prog 107 #[.float .f64 x] w (Flw (fun t => cn .f64 t = expF x) w) := by
  have o0 : FloatKind.f64.format.order x x = some .eq := by rw [order_self, hn]; rfl
  have HX := Lib.hid (cn_of_num hn)
  clear hn
  cases h1 : gt200 x
  · have H1 := Lib.hid h1
    cases h2 : lt200 x
    · have H2 := Lib.hid h2
      rcases ord_cases x 4641240890982006784 with o1 | o1 | o1 | o1
      all_goals
        unfold gt200 at h1
        rw [o1] at h1
        rcases ord_cases x 13864612927836782592 with o2 | o2 | o2 | o2
        all_goals
          unfold lt200 at h2
          rw [o2] at h2
          first
          | (cases h1; done)
          | (cases h2; done)
          | skip
      all_goals
        clear h1 h2
        go_enter Try.func107, Try.ntmps107
        go_wp2_with (refine wpList_farith rfl _ _ _ _ _ rfl rfl _ _ _ rfl rfl ?_; intro t0 j0 f0)
        have T := Lib.hid (exp_start HX.out f0)
        clear f0
        go_loopw [4, 5] (fun p k wr => ∃ i pv n : Nat, i ≤ 12 ∧ k = .int .i64 (12 - (i : Int)) ∧ p = .float .f64 pv ∧ wr = w.drewN n ∧ Hid (cn .f64 pv = pTo (fop .quo .f64 x 4643211215818981376) i)) (fun _ k _ => (intOf k).toNat)
        case atStart => exact ⟨0, 4607182418800017408, _, by omega, rfl, rfl, rfl, Lib.hid cn64_one⟩
        case round =>
          obtain ⟨i, pv, n, hi, rfl, rfl, rfl, hp⟩ := hrel
          by_cases hk : i < 12
          · go_wp2_with (refine wpList_farith rfl _ _ _ _ _ rfl rfl _ _ _ rfl rfl ?_; intro _ _ _)
            rename_i r1 j1 f1 r2 j2 f2 r3 j3 f3
            go_roundw
            case rel => exact ⟨i + 1, r3, _, by omega, by go_num, rfl, rfl, Lib.hid (exp_step T.out hp.out f1 f2 f3 rfl)⟩
            case measure => simp [intOf]; omega
          · have e12 := Lib.hid (show i = 12 by omega)
            go_wp2_with (refine wpList_farith rfl _ _ _ _ _ rfl rfl _ _ _ rfl rfl ?_; intro _ _ _)
            have hp2 := Lib.hid (show cn .f64 pv = sqTo (pTo (fop .quo .f64 x 4643211215818981376) 12) 0 by rw [hp.out, e12.out]; rfl)
            go_loopw [4, 24] (fun p k wr => ∃ i pv n : Nat, i ≤ 8 ∧ k = .int .i64 (i : Int) ∧ p = .float .f64 pv ∧ wr = w.drewN n ∧ Hid (cn .f64 pv = sqTo (pTo (fop .quo .f64 x 4643211215818981376) 12) i)) (fun _ k _ => (8 - intOf k).toNat)
            case atStart => exact ⟨0, pv, _, by omega, rfl, rfl, rfl, hp2⟩
            case round =>
              obtain ⟨i2, pv2, n2, hi2, rfl, rfl, rfl, hq⟩ := hrel
              by_cases hk2 : i2 < 8
              · go_wp2_with (refine wpList_farith rfl _ _ _ _ _ rfl rfl _ _ _ rfl rfl ?_; intro _ _ _)
                rename_i r1 j1 f1
                go_roundw
                case rel => exact ⟨i2 + 1, r1, _, by omega, by go_num, rfl, rfl, Lib.hid (exp_sq hq.out f1)⟩
                case measure => simp [intOf]; omega
              · have e8 := Lib.hid (show i2 = 8 by omega)
                go_wp2_with (refine wpList_farith rfl _ _ _ _ _ rfl rfl _ _ _ rfl rfl ?_; intro _ _ _)
                go_ret
                exact ⟨pv2, _, exp_end H1.out H2.out (by rw [hq.out, e8.out]), rfl, rfl⟩
    · have H2 := Lib.hid h2
      rcases ord_cases x 4641240890982006784 with o1 | o1 | o1 | o1
      all_goals
        unfold gt200 at h1
        rw [o1] at h1
        rcases ord_cases x 13864612927836782592 with o2 | o2 | o2 | o2
        all_goals
          unfold lt200 at h2
          rw [o2] at h2
          first
          | (cases h1; done)
          | (cases h2; done)
          | skip
      all_goals
        clear h1 h2
        go_enter Try.func107, Try.ntmps107
        go_wp2
        go_ret
        exact ⟨0, 0, exp_zero H1.out H2.out, rfl, rfl⟩
  · have H1 := Lib.hid h1
    rcases ord_cases x 4641240890982006784 with o1 | o1 | o1 | o1
    all_goals
      unfold gt200 at h1
      rw [o1] at h1
      first
      | (cases h1; done)
      | skip
    all_goals
      clear h1
      go_enter Try.func107, Try.ntmps107
      go_wp2_with fail
      refine (inf_any _).mono ?_
      rintro e w' ⟨rfl, rfl⟩
      go_wp2
      go_ret
      exact ⟨9218868437227405312, 0, exp_inf H1.out, rfl, rfl⟩
end Go.Proofs.Ytabdinmodopadab
