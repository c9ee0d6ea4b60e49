/- The law on cups in words, walked. -/
import Derived.Test.YtgcgfnpkkhhkgacCupsM
import Derived.Laws.StructEq
namespace Go.Proofs.Ytgcgfnpkkhhkgac
open Go.RowKit
set_option linter.unusedVariables false

set_option maxHeartbeats 20000000 in
set_option maxRecDepth 8000 in
theorem fnCups_walk (v0 : Value) (zs0 : List Int) (v1 : Value) (zs1 : List Int) (w : World) (h0 : IRow .u8 w v0 zs0 ∧ ∀ i, i < zs0.length → (Lit.int .u8 (zs0.getD i 0)).wf = true) (h1 : IRow .u8 w v1 zs1 ∧ ∀ i, i < zs1.length → (Lit.int .u8 (zs1.getD i 0)).wf = true) :
    Calls Try.prog 11 #[v0, v1] w (Tru w) := by
  obtain ⟨a, c, rfl, R⟩ := Code8.of h0
  obtain ⟨b, d, rfl, U⟩ := Code8.of h1
  clear h0 h1
  have R := Lib.hid R
  have U := Lib.hid U
  cases hl : (decide (1048576 < zs0.length) || decide (1048576 < zs1.length))
  · have HL : Hid (zs1.length ≤ 1048576) := Lib.hid (by simp only [Bool.or_eq_false_iff, decide_eq_false_iff_not] at hl; omega)
    have HB := Lib.hid hl
    clear hl
    go_enter Try.func11, Try.ntmps11
    simp only [List.append]
    go_wp2_with fail
    refine (long_any _ _ _ _ _ _ _).mono ?_
    rw [HB.out]
    rintro e w' ⟨rfl, rfl⟩
    go_wp2_with fail
    refine (cup_any a c zs0 _ R.out).mono ?_
    rintro e w1 ⟨m, k, rfl, m1, m2, k1, k2, hb⟩
    have Bw := Lib.hid hb
    have A := Lib.hid (Cells.made w1 [.int .i64 m, .int .i64 k] 70)
    have U := Lib.hid ((U.out.below hb).below (below_al1 w1 (.cells [Value.int .i64 m, .int .i64 k].toArray 70)))
    have BL := Lib.hid (below_step hb (below_al1 w1 (.cells [Value.int .i64 m, .int .i64 k].toArray 70))).size
    clear hb R HB
    go_wp2_with fail
    refine (cup_any b d zs1 _ (U.out.mono BL.out)).mono ?_
    rintro e w2 ⟨m', k', rfl, n1, n2, l1, l2, hb⟩
    (first | (have Bw := Lib.hid (below_step Bw.out hb)) | (have Bw := Lib.hid (below_step Bw.out (below_undrew hb))) | (have Bw := Lib.hid (below_step Bw.out (below_unal hb))) | (have Bw := Lib.hid (below_step Bw.out (below_unal (below_undrew hb)))) | (have Bw := Lib.hid (below_step Bw.out (below_undrew (below_unal hb)))) | (have Bw := Lib.hid (below_step Bw.out (below_unal (below_unal hb)))))
    (first | (have A := Lib.hid (A.out.kept hb)) | (have A := Lib.hid (A.out.kept (below_undrew hb))) | (have A := Lib.hid (A.out.kept (below_unal hb))) | (have A := Lib.hid (A.out.kept (below_unal (below_undrew hb)))) | (have A := Lib.hid (A.out.kept (below_undrew (below_unal hb)))) | (have A := Lib.hid (A.out.kept (below_unal (below_unal hb)))))
    (first | (have U := Lib.hid (U.out.below hb)) | (have U := Lib.hid (U.out.below (below_undrew hb))) | (have U := Lib.hid (U.out.below (below_unal hb))) | (have U := Lib.hid (U.out.below (below_unal (below_undrew hb)))) | (have U := Lib.hid (U.out.below (below_undrew (below_unal hb)))) | (have U := Lib.hid (U.out.below (below_unal (below_unal hb)))))
    have X := Lib.hid (Cells.made w2 [.int .i64 m', .int .i64 k'] 70)
    have A := Lib.hid (A.out.al (.cells [Value.int .i64 m', .int .i64 k'].toArray 70))
    have cA0 := A.out.at 0 rfl; have cA1 := A.out.at 1 rfl; have cX0 := X.out.at 0 rfl; have cX1 := X.out.at 1 rfl
    clear hb BL
    generalize w1.heap.size = p at *
    have VA : Hid (vCup m k = true) := Lib.hid (by simp [vCup]; omega)
    have VM : Hid (vCup (m + m') (k + k') = true) := Lib.hid (by simp [vCup]; omega)
    have HM : Hid (mixB m k m' k' = true) := Lib.hid (by simp [mixB, vCup]; omega)
    have HN : Hid (mixB m' k' m k = true) := Lib.hid (by simp [mixB, vCup]; omega)
    go_wp2_with fail
    refine (mix_yes m k m' k' _ HM.out).mono ?_
    rintro e w3 ⟨rfl, hb⟩
    (first | (have Bw := Lib.hid (below_step Bw.out hb)) | (have Bw := Lib.hid (below_step Bw.out (below_unal hb))) | (have Bw := Lib.hid (below_step Bw.out (below_unal (below_unal hb)))))
    (first | (have U := Lib.hid (U.out.below hb)) | (have U := Lib.hid (U.out.below (below_unal hb))) | (have U := Lib.hid (U.out.below (below_unal (below_unal hb)))))
    (first | (have A := Lib.hid (A.out.kept hb)) | (have A := Lib.hid (A.out.kept (below_unal hb))) | (have A := Lib.hid (A.out.kept (below_unal (below_unal hb)))))
    (first | (have X := Lib.hid (X.out.kept hb)) | (have X := Lib.hid (X.out.kept (below_unal hb))) | (have X := Lib.hid (X.out.kept (below_unal (below_unal hb)))))
    have cA0 := A.out.at 0 rfl; have cA1 := A.out.at 1 rfl
    have cX0 := X.out.at 0 rfl; have cX1 := X.out.at 1 rfl
    clear hb
    have A := Lib.hid (A.out.al (.cells [Value.int .i64 (m + m'), .int .i64 (k + k')].toArray 70))
    have X := Lib.hid (X.out.al (.cells [Value.int .i64 (m + m'), .int .i64 (k + k')].toArray 70))
    have M := Lib.hid (Cells.made w3 [.int .i64 (m + m'), .int .i64 (k + k')] 70)
    have cA0 := A.out.at 0 rfl; have cA1 := A.out.at 1 rfl
    have cX0 := X.out.at 0 rfl; have cX1 := X.out.at 1 rfl
    have cM0 := M.out.at 0 rfl; have cM1 := M.out.at 1 rfl
    have HC : Hid (∀ w, Calls Try.prog 61 #[.agg #[.int .i64 m', .int .i64 k'], .agg #[.int .i64 m, .int .i64 k]] w fun e w' => e = .returned (.tuple #[.agg #[.int .i64 (m + m'), .int .i64 (k + k')], .bool true]) ∧ Below w.heap.size w w') := Lib.hid (fun w => by rw [Int.add_comm m m', Int.add_comm k k']; exact mix_yes m' k' m k w HN.out)
    go_wp2_with fail
    refine (HC.out _).mono ?_
    rintro e w4 ⟨rfl, hb⟩
    (first | (have Bw := Lib.hid (below_step Bw.out hb)) | (have Bw := Lib.hid (below_step Bw.out (below_unal hb))) | (have Bw := Lib.hid (below_step Bw.out (below_unal (below_unal hb)))))
    (first | (have U := Lib.hid (U.out.below hb)) | (have U := Lib.hid (U.out.below (below_unal hb))) | (have U := Lib.hid (U.out.below (below_unal (below_unal hb)))))
    (first | (have A := Lib.hid (A.out.kept hb)) | (have A := Lib.hid (A.out.kept (below_unal hb))) | (have A := Lib.hid (A.out.kept (below_unal (below_unal hb)))))
    (first | (have X := Lib.hid (X.out.kept hb)) | (have X := Lib.hid (X.out.kept (below_unal hb))) | (have X := Lib.hid (X.out.kept (below_unal (below_unal hb)))))
    (first | (have M := Lib.hid (M.out.kept hb)) | (have M := Lib.hid (M.out.kept (below_unal hb))) | (have M := Lib.hid (M.out.kept (below_unal (below_unal hb)))))
    have cA0 := A.out.at 0 rfl; have cA1 := A.out.at 1 rfl
    have cX0 := X.out.at 0 rfl; have cX1 := X.out.at 1 rfl
    have cM0 := M.out.at 0 rfl; have cM1 := M.out.at 1 rfl
    clear hb
    have A := Lib.hid (A.out.al (.cells [Value.int .i64 (m + m'), .int .i64 (k + k')].toArray 70))
    have X := Lib.hid (X.out.al (.cells [Value.int .i64 (m + m'), .int .i64 (k + k')].toArray 70))
    have M := Lib.hid (M.out.al (.cells [Value.int .i64 (m + m'), .int .i64 (k + k')].toArray 70))
    have N := Lib.hid (Cells.made w4 [.int .i64 (m + m'), .int .i64 (k + k')] 70)
    have cA0 := A.out.at 0 rfl; have cA1 := A.out.at 1 rfl
    have cX0 := X.out.at 0 rfl; have cX1 := X.out.at 1 rfl
    have cM0 := M.out.at 0 rfl; have cM1 := M.out.at 1 rfl
    have cN0 := N.out.at 0 rfl; have cN1 := N.out.at 1 rfl
    clear HC HM HN
    obtain ⟨f1, f2, f3, f4⟩ := frac_of (warmU m k) m m1
    generalize hp : (warmU m k).tdiv (Int.gcd (warmU m k) m : Int) = p' at *
    generalize hq : m / (Int.gcd (warmU m k) m : Int) = q' at *
    have HP := Lib.hid hp
    have HQ := Lib.hid hq
    clear hp hq
    have kc : k < 0 ∨ (0 ≤ k ∧ k ≤ 80 * m) ∨ 80 * m < k := by omega
    rcases kc with kc | kc | kc
    · have ku : warmU m k = 2 * k := by unfold warmU; rw [if_pos kc]
      rw [ku] at f1 f4
      have b1 := mul_bd (x := p') (y := m) (A := 20000) (B := 200) (by omega) (by omega)
      have g1 : -4000000 ≤ p' * m ∧ p' * m ≤ 4000000 := by omega
      obtain ⟨g1, g2⟩ := g1
      have g3 : -4000000 ≤ 2 * k * q' ∧ 2 * k * q' ≤ 4000000 := by rw [← f1]; exact ⟨g1, g2⟩
      obtain ⟨g3, g4⟩ := g3
      clear b1 f4
      have HV : Hid (meltV m k = 0) := Lib.hid (by unfold meltV; rw [if_pos kc])
      clear ku
      have e1 : decide (k < 0) = true := decide_eq_true (by omega)
      have e2 : decide (p' * m = 2 * k * q') = true := decide_eq_true (by omega)
      have e3 : decide (80 * m < k) = false := decide_eq_false (by omega)
      have e4 : decide (0 ≤ k) = false := decide_eq_false (by omega)
      have e5 : decide (q' ≤ 0) = false := decide_eq_false (by omega)
      have e6 : decide (m < 0) = false := decide_eq_false (by omega)
      go_wp2_with fail
      refine (melt_yes m k (0) _ VA.out HV.out).mono ?_
      rintro e w5 ⟨rfl, hb⟩
      (first | (have Bw := Lib.hid (below_step Bw.out hb)) | (have Bw := Lib.hid (below_step Bw.out (below_unal hb))) | (have Bw := Lib.hid (below_step Bw.out (below_unal (below_unal hb)))))
      (first | (have U := Lib.hid (U.out.below hb)) | (have U := Lib.hid (U.out.below (below_unal hb))) | (have U := Lib.hid (U.out.below (below_unal (below_unal hb)))))
      (first | (have A := Lib.hid (A.out.kept hb)) | (have A := Lib.hid (A.out.kept (below_unal hb))) | (have A := Lib.hid (A.out.kept (below_unal (below_unal hb)))))
      (first | (have X := Lib.hid (X.out.kept hb)) | (have X := Lib.hid (X.out.kept (below_unal hb))) | (have X := Lib.hid (X.out.kept (below_unal (below_unal hb)))))
      (first | (have M := Lib.hid (M.out.kept hb)) | (have M := Lib.hid (M.out.kept (below_unal hb))) | (have M := Lib.hid (M.out.kept (below_unal (below_unal hb)))))
      (first | (have N := Lib.hid (N.out.kept hb)) | (have N := Lib.hid (N.out.kept (below_unal hb))) | (have N := Lib.hid (N.out.kept (below_unal (below_unal hb)))))
      have cA0 := A.out.at 0 rfl; have cA1 := A.out.at 1 rfl
      have cX0 := X.out.at 0 rfl; have cX1 := X.out.at 1 rfl
      have cM0 := M.out.at 0 rfl; have cM1 := M.out.at 1 rfl
      have cN0 := N.out.at 0 rfl; have cN1 := N.out.at 1 rfl
      clear hb
      go_wp2_with fail
      refine (warm_yes m k _ _ _ VA.out HP.out HQ.out).mono ?_
      rintro e w6 ⟨rfl, hb⟩
      (first | (have Bw := Lib.hid (below_step Bw.out hb)) | (have Bw := Lib.hid (below_step Bw.out (below_unal hb))) | (have Bw := Lib.hid (below_step Bw.out (below_unal (below_unal hb)))))
      (first | (have U := Lib.hid (U.out.below hb)) | (have U := Lib.hid (U.out.below (below_unal hb))) | (have U := Lib.hid (U.out.below (below_unal (below_unal hb)))))
      (first | (have A := Lib.hid (A.out.kept hb)) | (have A := Lib.hid (A.out.kept (below_unal hb))) | (have A := Lib.hid (A.out.kept (below_unal (below_unal hb)))))
      (first | (have X := Lib.hid (X.out.kept hb)) | (have X := Lib.hid (X.out.kept (below_unal hb))) | (have X := Lib.hid (X.out.kept (below_unal (below_unal hb)))))
      (first | (have M := Lib.hid (M.out.kept hb)) | (have M := Lib.hid (M.out.kept (below_unal hb))) | (have M := Lib.hid (M.out.kept (below_unal (below_unal hb)))))
      (first | (have N := Lib.hid (N.out.kept hb)) | (have N := Lib.hid (N.out.kept (below_unal hb))) | (have N := Lib.hid (N.out.kept (below_unal (below_unal hb)))))
      have cA0 := A.out.at 0 rfl; have cA1 := A.out.at 1 rfl
      have cX0 := X.out.at 0 rfl; have cX1 := X.out.at 1 rfl
      have cM0 := M.out.at 0 rfl; have cM1 := M.out.at 1 rfl
      have cN0 := N.out.at 0 rfl; have cN1 := N.out.at 1 rfl
      clear hb
      go_wp2_with fail
      refine (vcup_yes _ _ _ VM.out).mono ?_
      rintro e w7 ⟨rfl, hb⟩
      (first | (have Bw := Lib.hid (below_step Bw.out hb)) | (have Bw := Lib.hid (below_step Bw.out (below_unal hb))) | (have Bw := Lib.hid (below_step Bw.out (below_unal (below_unal hb)))))
      (first | (have U := Lib.hid (U.out.below hb)) | (have U := Lib.hid (U.out.below (below_unal hb))) | (have U := Lib.hid (U.out.below (below_unal (below_unal hb)))))
      (first | (have A := Lib.hid (A.out.kept hb)) | (have A := Lib.hid (A.out.kept (below_unal hb))) | (have A := Lib.hid (A.out.kept (below_unal (below_unal hb)))))
      (first | (have X := Lib.hid (X.out.kept hb)) | (have X := Lib.hid (X.out.kept (below_unal hb))) | (have X := Lib.hid (X.out.kept (below_unal (below_unal hb)))))
      (first | (have M := Lib.hid (M.out.kept hb)) | (have M := Lib.hid (M.out.kept (below_unal hb))) | (have M := Lib.hid (M.out.kept (below_unal (below_unal hb)))))
      (first | (have N := Lib.hid (N.out.kept hb)) | (have N := Lib.hid (N.out.kept (below_unal hb))) | (have N := Lib.hid (N.out.kept (below_unal (below_unal hb)))))
      have cA0 := A.out.at 0 rfl; have cA1 := A.out.at 1 rfl
      have cX0 := X.out.at 0 rfl; have cX1 := X.out.at 1 rfl
      have cM0 := M.out.at 0 rfl; have cM1 := M.out.at 1 rfl
      have cN0 := N.out.at 0 rfl; have cN1 := N.out.at 1 rfl
      clear hb
      go_wp2_with fail
      refine (at_any b d zs1 2 200 _ _ U.out HL.out (by omega) (by omega) (by omega) (by omega)).mono ?_
      rintro e w8 ⟨y, rfl, y0, y1, rfl⟩
      have yc : k + (y - 100) < -50 * m ∨ 180 * m < k + (y - 100) ∨ (-50 * m ≤ k + (y - 100) ∧ k + (y - 100) ≤ 180 * m) := by omega
      rcases yc with yc | yc | ⟨yc, yd⟩
      · skip
        have e7 : decide (-50 * m ≤ k + (y - 100)) = false := decide_eq_false (by omega)
        have HH : Hid (heatB m k (y - 100) = false) := Lib.hid (by simp [heatB, vCup, byOk]; omega)
        go_wp2_with fail
        refine (heat_no m k (y - 100) _ HH.out).mono ?_
        rintro e w9 ⟨rfl, hb⟩
        (first | (have Bw := Lib.hid (below_step Bw.out hb)) | (have Bw := Lib.hid (below_step Bw.out (below_unal hb))) | (have Bw := Lib.hid (below_step Bw.out (below_unal (below_unal hb)))))
        (first | (have U := Lib.hid (U.out.below hb)) | (have U := Lib.hid (U.out.below (below_unal hb))) | (have U := Lib.hid (U.out.below (below_unal (below_unal hb)))))
        clear hb
        go_wp2
        go_ret
        exact Tru.below (below_step Bw.out (below_al1 _ _))
      · skip
        exfalso
        omega
      · skip
        have e8 : decide (-50 * m ≤ k + (y - 100)) = true := decide_eq_true (by omega)
        have e9 : decide (k + (y - 100) ≤ 180 * m) = true := decide_eq_true (by omega)
        have HH : Hid (heatB m k (y - 100) = true) := Lib.hid (by simp [heatB, vCup, byOk]; omega)
        have HG : Hid (heatB m (k + (y - 100)) (-(y - 100)) = true) := Lib.hid (by simp [heatB, vCup, byOk]; omega)
        have HW : Hid (vCup m (k + (y - 100)) = true) := Lib.hid (by simp [vCup]; omega)
        go_wp2_with fail
        refine (heat_yes m k (y - 100) _ HH.out).mono ?_
        rintro e w9 ⟨rfl, hb⟩
        (first | (have Bw := Lib.hid (below_step Bw.out hb)) | (have Bw := Lib.hid (below_step Bw.out (below_unal hb))) | (have Bw := Lib.hid (below_step Bw.out (below_unal (below_unal hb)))))
        (first | (have U := Lib.hid (U.out.below hb)) | (have U := Lib.hid (U.out.below (below_unal hb))) | (have U := Lib.hid (U.out.below (below_unal (below_unal hb)))))
        (first | (have A := Lib.hid (A.out.kept hb)) | (have A := Lib.hid (A.out.kept (below_unal hb))) | (have A := Lib.hid (A.out.kept (below_unal (below_unal hb)))))
        have cA0 := A.out.at 0 rfl; have cA1 := A.out.at 1 rfl
        clear hb
        have A := Lib.hid (A.out.al (.cells [Value.int .i64 (m), .int .i64 (k + (y - 100))].toArray 70))
        have G := Lib.hid (Cells.made w9 [.int .i64 (m), .int .i64 (k + (y - 100))] 70)
        have cA0 := A.out.at 0 rfl; have cA1 := A.out.at 1 rfl
        have cG0 := G.out.at 0 rfl; have cG1 := G.out.at 1 rfl
        go_wp2_with fail
        refine (heat_back m k (y - 100) _ HG.out).mono ?_
        rintro e w10 ⟨rfl, hb⟩
        (first | (have Bw := Lib.hid (below_step Bw.out hb)) | (have Bw := Lib.hid (below_step Bw.out (below_unal hb))) | (have Bw := Lib.hid (below_step Bw.out (below_unal (below_unal hb)))))
        (first | (have U := Lib.hid (U.out.below hb)) | (have U := Lib.hid (U.out.below (below_unal hb))) | (have U := Lib.hid (U.out.below (below_unal (below_unal hb)))))
        (first | (have A := Lib.hid (A.out.kept hb)) | (have A := Lib.hid (A.out.kept (below_unal hb))) | (have A := Lib.hid (A.out.kept (below_unal (below_unal hb)))))
        (first | (have G := Lib.hid (G.out.kept hb)) | (have G := Lib.hid (G.out.kept (below_unal hb))) | (have G := Lib.hid (G.out.kept (below_unal (below_unal hb)))))
        have cA0 := A.out.at 0 rfl; have cA1 := A.out.at 1 rfl
        have cG0 := G.out.at 0 rfl; have cG1 := G.out.at 1 rfl
        clear hb
        have A := Lib.hid (A.out.al (.cells [Value.int .i64 (m), .int .i64 (k)].toArray 70))
        have G := Lib.hid (G.out.al (.cells [Value.int .i64 (m), .int .i64 (k)].toArray 70))
        have H := Lib.hid (Cells.made w10 [.int .i64 (m), .int .i64 (k)] 70)
        have cA0 := A.out.at 0 rfl; have cA1 := A.out.at 1 rfl
        have cG0 := G.out.at 0 rfl; have cG1 := G.out.at 1 rfl
        have cH0 := H.out.at 0 rfl; have cH1 := H.out.at 1 rfl
        have mu : 0 ≤ y - 100 → (0) ≤ meltV m (k + (y - 100)) := fun h => Int.le_trans (Int.le_of_eq HV.out.symm) (melt_up m1 h)
        have md : y - 100 ≤ 0 → meltV m (k + (y - 100)) ≤ (0) := fun h => Int.le_trans (melt_down m1 h) (Int.le_of_eq HV.out)
        generalize hg : meltV m (k + (y - 100)) = v2 at *
        have HT := Lib.hid hg
        clear hg
        go_wp2_with fail
        refine (melt_yes m (k + (y - 100)) v2 _ HW.out HT.out).mono ?_
        rintro e w11 ⟨rfl, hb⟩
        (first | (have Bw := Lib.hid (below_step Bw.out hb)) | (have Bw := Lib.hid (below_step Bw.out (below_unal hb))) | (have Bw := Lib.hid (below_step Bw.out (below_unal (below_unal hb)))))
        (first | (have U := Lib.hid (U.out.below hb)) | (have U := Lib.hid (U.out.below (below_unal hb))) | (have U := Lib.hid (U.out.below (below_unal (below_unal hb)))))
        (first | (have A := Lib.hid (A.out.kept hb)) | (have A := Lib.hid (A.out.kept (below_unal hb))) | (have A := Lib.hid (A.out.kept (below_unal (below_unal hb)))))
        (first | (have G := Lib.hid (G.out.kept hb)) | (have G := Lib.hid (G.out.kept (below_unal hb))) | (have G := Lib.hid (G.out.kept (below_unal (below_unal hb)))))
        (first | (have H := Lib.hid (H.out.kept hb)) | (have H := Lib.hid (H.out.kept (below_unal hb))) | (have H := Lib.hid (H.out.kept (below_unal (below_unal hb)))))
        have cA0 := A.out.at 0 rfl; have cA1 := A.out.at 1 rfl
        have cG0 := G.out.at 0 rfl; have cG1 := G.out.at 1 rfl
        have cH0 := H.out.at 0 rfl; have cH1 := H.out.at 1 rfl
        clear hb
        by_cases yp : 0 ≤ y - 100
        · skip
          have mv := mu yp
          have e10 : decide (0 ≤ y - 100) = true := decide_eq_true (by omega)
          have e11 : decide ((0) ≤ v2) = true := decide_eq_true (by omega)
          clear mu md
          go_wp2
          go_ret
          exact Tru.below Bw.out
        · skip
          have mv := md (by omega)
          have e12 : decide (0 ≤ y - 100) = false := decide_eq_false (by omega)
          have e13 : decide (y - 100 < 0) = true := decide_eq_true (by omega)
          have e14 : decide (v2 ≤ (0)) = true := decide_eq_true (by omega)
          clear mu md
          go_wp2
          go_ret
          exact Tru.below Bw.out
    · have ku : warmU m k = 0 := by unfold warmU; rw [if_neg (by omega), if_neg (by omega)]
      obtain ⟨z1, z2⟩ := lo_zero m1
      obtain rfl : p' = 0 := by rw [← HP.out, ku]; exact z1
      obtain rfl : q' = 1 := by rw [← HQ.out, ku]; exact z2
      clear z1 z2 f1 f2 f3 f4
      obtain ⟨kc, kd⟩ := kc
      have HV : Hid (meltV m k = k / 80) := Lib.hid (by unfold meltV; rw [if_neg (by omega), if_neg (by omega)])
      clear ku
      have e1 : decide (k < 0) = false := decide_eq_false (by omega)
      have e2 : decide (80 * m < k) = false := decide_eq_false (by omega)
      have e3 : decide (0 ≤ k) = true := decide_eq_true (by omega)
      have e4 : decide (k ≤ 80 * m) = true := decide_eq_true (by omega)
      have e5 : decide (k / 80 < 0) = false := decide_eq_false (by omega)
      have e6 : decide (m < k / 80) = false := decide_eq_false (by omega)
      go_wp2_with fail
      refine (melt_yes m k (k / 80) _ VA.out HV.out).mono ?_
      rintro e w5 ⟨rfl, hb⟩
      (first | (have Bw := Lib.hid (below_step Bw.out hb)) | (have Bw := Lib.hid (below_step Bw.out (below_unal hb))) | (have Bw := Lib.hid (below_step Bw.out (below_unal (below_unal hb)))))
      (first | (have U := Lib.hid (U.out.below hb)) | (have U := Lib.hid (U.out.below (below_unal hb))) | (have U := Lib.hid (U.out.below (below_unal (below_unal hb)))))
      (first | (have A := Lib.hid (A.out.kept hb)) | (have A := Lib.hid (A.out.kept (below_unal hb))) | (have A := Lib.hid (A.out.kept (below_unal (below_unal hb)))))
      (first | (have X := Lib.hid (X.out.kept hb)) | (have X := Lib.hid (X.out.kept (below_unal hb))) | (have X := Lib.hid (X.out.kept (below_unal (below_unal hb)))))
      (first | (have M := Lib.hid (M.out.kept hb)) | (have M := Lib.hid (M.out.kept (below_unal hb))) | (have M := Lib.hid (M.out.kept (below_unal (below_unal hb)))))
      (first | (have N := Lib.hid (N.out.kept hb)) | (have N := Lib.hid (N.out.kept (below_unal hb))) | (have N := Lib.hid (N.out.kept (below_unal (below_unal hb)))))
      have cA0 := A.out.at 0 rfl; have cA1 := A.out.at 1 rfl
      have cX0 := X.out.at 0 rfl; have cX1 := X.out.at 1 rfl
      have cM0 := M.out.at 0 rfl; have cM1 := M.out.at 1 rfl
      have cN0 := N.out.at 0 rfl; have cN1 := N.out.at 1 rfl
      clear hb
      go_wp2_with fail
      refine (warm_yes m k _ _ _ VA.out HP.out HQ.out).mono ?_
      rintro e w6 ⟨rfl, hb⟩
      (first | (have Bw := Lib.hid (below_step Bw.out hb)) | (have Bw := Lib.hid (below_step Bw.out (below_unal hb))) | (have Bw := Lib.hid (below_step Bw.out (below_unal (below_unal hb)))))
      (first | (have U := Lib.hid (U.out.below hb)) | (have U := Lib.hid (U.out.below (below_unal hb))) | (have U := Lib.hid (U.out.below (below_unal (below_unal hb)))))
      (first | (have A := Lib.hid (A.out.kept hb)) | (have A := Lib.hid (A.out.kept (below_unal hb))) | (have A := Lib.hid (A.out.kept (below_unal (below_unal hb)))))
      (first | (have X := Lib.hid (X.out.kept hb)) | (have X := Lib.hid (X.out.kept (below_unal hb))) | (have X := Lib.hid (X.out.kept (below_unal (below_unal hb)))))
      (first | (have M := Lib.hid (M.out.kept hb)) | (have M := Lib.hid (M.out.kept (below_unal hb))) | (have M := Lib.hid (M.out.kept (below_unal (below_unal hb)))))
      (first | (have N := Lib.hid (N.out.kept hb)) | (have N := Lib.hid (N.out.kept (below_unal hb))) | (have N := Lib.hid (N.out.kept (below_unal (below_unal hb)))))
      have cA0 := A.out.at 0 rfl; have cA1 := A.out.at 1 rfl
      have cX0 := X.out.at 0 rfl; have cX1 := X.out.at 1 rfl
      have cM0 := M.out.at 0 rfl; have cM1 := M.out.at 1 rfl
      have cN0 := N.out.at 0 rfl; have cN1 := N.out.at 1 rfl
      clear hb
      go_wp2_with fail
      refine (vcup_yes _ _ _ VM.out).mono ?_
      rintro e w7 ⟨rfl, hb⟩
      (first | (have Bw := Lib.hid (below_step Bw.out hb)) | (have Bw := Lib.hid (below_step Bw.out (below_unal hb))) | (have Bw := Lib.hid (below_step Bw.out (below_unal (below_unal hb)))))
      (first | (have U := Lib.hid (U.out.below hb)) | (have U := Lib.hid (U.out.below (below_unal hb))) | (have U := Lib.hid (U.out.below (below_unal (below_unal hb)))))
      (first | (have A := Lib.hid (A.out.kept hb)) | (have A := Lib.hid (A.out.kept (below_unal hb))) | (have A := Lib.hid (A.out.kept (below_unal (below_unal hb)))))
      (first | (have X := Lib.hid (X.out.kept hb)) | (have X := Lib.hid (X.out.kept (below_unal hb))) | (have X := Lib.hid (X.out.kept (below_unal (below_unal hb)))))
      (first | (have M := Lib.hid (M.out.kept hb)) | (have M := Lib.hid (M.out.kept (below_unal hb))) | (have M := Lib.hid (M.out.kept (below_unal (below_unal hb)))))
      (first | (have N := Lib.hid (N.out.kept hb)) | (have N := Lib.hid (N.out.kept (below_unal hb))) | (have N := Lib.hid (N.out.kept (below_unal (below_unal hb)))))
      have cA0 := A.out.at 0 rfl; have cA1 := A.out.at 1 rfl
      have cX0 := X.out.at 0 rfl; have cX1 := X.out.at 1 rfl
      have cM0 := M.out.at 0 rfl; have cM1 := M.out.at 1 rfl
      have cN0 := N.out.at 0 rfl; have cN1 := N.out.at 1 rfl
      clear hb
      go_wp2_with fail
      refine (at_any b d zs1 2 200 _ _ U.out HL.out (by omega) (by omega) (by omega) (by omega)).mono ?_
      rintro e w8 ⟨y, rfl, y0, y1, rfl⟩
      have yc : k + (y - 100) < -50 * m ∨ 180 * m < k + (y - 100) ∨ (-50 * m ≤ k + (y - 100) ∧ k + (y - 100) ≤ 180 * m) := by omega
      rcases yc with yc | yc | ⟨yc, yd⟩
      · skip
        have e7 : decide (-50 * m ≤ k + (y - 100)) = false := decide_eq_false (by omega)
        have HH : Hid (heatB m k (y - 100) = false) := Lib.hid (by simp [heatB, vCup, byOk]; omega)
        go_wp2_with fail
        refine (heat_no m k (y - 100) _ HH.out).mono ?_
        rintro e w9 ⟨rfl, hb⟩
        (first | (have Bw := Lib.hid (below_step Bw.out hb)) | (have Bw := Lib.hid (below_step Bw.out (below_unal hb))) | (have Bw := Lib.hid (below_step Bw.out (below_unal (below_unal hb)))))
        (first | (have U := Lib.hid (U.out.below hb)) | (have U := Lib.hid (U.out.below (below_unal hb))) | (have U := Lib.hid (U.out.below (below_unal (below_unal hb)))))
        clear hb
        go_wp2
        go_ret
        exact Tru.below (below_step Bw.out (below_al1 _ _))
      · skip
        exfalso
        omega
      · skip
        have e8 : decide (-50 * m ≤ k + (y - 100)) = true := decide_eq_true (by omega)
        have e9 : decide (k + (y - 100) ≤ 180 * m) = true := decide_eq_true (by omega)
        have HH : Hid (heatB m k (y - 100) = true) := Lib.hid (by simp [heatB, vCup, byOk]; omega)
        have HG : Hid (heatB m (k + (y - 100)) (-(y - 100)) = true) := Lib.hid (by simp [heatB, vCup, byOk]; omega)
        have HW : Hid (vCup m (k + (y - 100)) = true) := Lib.hid (by simp [vCup]; omega)
        go_wp2_with fail
        refine (heat_yes m k (y - 100) _ HH.out).mono ?_
        rintro e w9 ⟨rfl, hb⟩
        (first | (have Bw := Lib.hid (below_step Bw.out hb)) | (have Bw := Lib.hid (below_step Bw.out (below_unal hb))) | (have Bw := Lib.hid (below_step Bw.out (below_unal (below_unal hb)))))
        (first | (have U := Lib.hid (U.out.below hb)) | (have U := Lib.hid (U.out.below (below_unal hb))) | (have U := Lib.hid (U.out.below (below_unal (below_unal hb)))))
        (first | (have A := Lib.hid (A.out.kept hb)) | (have A := Lib.hid (A.out.kept (below_unal hb))) | (have A := Lib.hid (A.out.kept (below_unal (below_unal hb)))))
        have cA0 := A.out.at 0 rfl; have cA1 := A.out.at 1 rfl
        clear hb
        have A := Lib.hid (A.out.al (.cells [Value.int .i64 (m), .int .i64 (k + (y - 100))].toArray 70))
        have G := Lib.hid (Cells.made w9 [.int .i64 (m), .int .i64 (k + (y - 100))] 70)
        have cA0 := A.out.at 0 rfl; have cA1 := A.out.at 1 rfl
        have cG0 := G.out.at 0 rfl; have cG1 := G.out.at 1 rfl
        go_wp2_with fail
        refine (heat_back m k (y - 100) _ HG.out).mono ?_
        rintro e w10 ⟨rfl, hb⟩
        (first | (have Bw := Lib.hid (below_step Bw.out hb)) | (have Bw := Lib.hid (below_step Bw.out (below_unal hb))) | (have Bw := Lib.hid (below_step Bw.out (below_unal (below_unal hb)))))
        (first | (have U := Lib.hid (U.out.below hb)) | (have U := Lib.hid (U.out.below (below_unal hb))) | (have U := Lib.hid (U.out.below (below_unal (below_unal hb)))))
        (first | (have A := Lib.hid (A.out.kept hb)) | (have A := Lib.hid (A.out.kept (below_unal hb))) | (have A := Lib.hid (A.out.kept (below_unal (below_unal hb)))))
        (first | (have G := Lib.hid (G.out.kept hb)) | (have G := Lib.hid (G.out.kept (below_unal hb))) | (have G := Lib.hid (G.out.kept (below_unal (below_unal hb)))))
        have cA0 := A.out.at 0 rfl; have cA1 := A.out.at 1 rfl
        have cG0 := G.out.at 0 rfl; have cG1 := G.out.at 1 rfl
        clear hb
        have A := Lib.hid (A.out.al (.cells [Value.int .i64 (m), .int .i64 (k)].toArray 70))
        have G := Lib.hid (G.out.al (.cells [Value.int .i64 (m), .int .i64 (k)].toArray 70))
        have H := Lib.hid (Cells.made w10 [.int .i64 (m), .int .i64 (k)] 70)
        have cA0 := A.out.at 0 rfl; have cA1 := A.out.at 1 rfl
        have cG0 := G.out.at 0 rfl; have cG1 := G.out.at 1 rfl
        have cH0 := H.out.at 0 rfl; have cH1 := H.out.at 1 rfl
        have mu : 0 ≤ y - 100 → (k / 80) ≤ meltV m (k + (y - 100)) := fun h => Int.le_trans (Int.le_of_eq HV.out.symm) (melt_up m1 h)
        have md : y - 100 ≤ 0 → meltV m (k + (y - 100)) ≤ (k / 80) := fun h => Int.le_trans (melt_down m1 h) (Int.le_of_eq HV.out)
        generalize hg : meltV m (k + (y - 100)) = v2 at *
        have HT := Lib.hid hg
        clear hg
        go_wp2_with fail
        refine (melt_yes m (k + (y - 100)) v2 _ HW.out HT.out).mono ?_
        rintro e w11 ⟨rfl, hb⟩
        (first | (have Bw := Lib.hid (below_step Bw.out hb)) | (have Bw := Lib.hid (below_step Bw.out (below_unal hb))) | (have Bw := Lib.hid (below_step Bw.out (below_unal (below_unal hb)))))
        (first | (have U := Lib.hid (U.out.below hb)) | (have U := Lib.hid (U.out.below (below_unal hb))) | (have U := Lib.hid (U.out.below (below_unal (below_unal hb)))))
        (first | (have A := Lib.hid (A.out.kept hb)) | (have A := Lib.hid (A.out.kept (below_unal hb))) | (have A := Lib.hid (A.out.kept (below_unal (below_unal hb)))))
        (first | (have G := Lib.hid (G.out.kept hb)) | (have G := Lib.hid (G.out.kept (below_unal hb))) | (have G := Lib.hid (G.out.kept (below_unal (below_unal hb)))))
        (first | (have H := Lib.hid (H.out.kept hb)) | (have H := Lib.hid (H.out.kept (below_unal hb))) | (have H := Lib.hid (H.out.kept (below_unal (below_unal hb)))))
        have cA0 := A.out.at 0 rfl; have cA1 := A.out.at 1 rfl
        have cG0 := G.out.at 0 rfl; have cG1 := G.out.at 1 rfl
        have cH0 := H.out.at 0 rfl; have cH1 := H.out.at 1 rfl
        clear hb
        by_cases yp : 0 ≤ y - 100
        · skip
          have mv := mu yp
          have e10 : decide (0 ≤ y - 100) = true := decide_eq_true (by omega)
          have e11 : decide ((k / 80) ≤ v2) = true := decide_eq_true (by omega)
          clear mu md
          go_wp2
          go_ret
          exact Tru.below Bw.out
        · skip
          have mv := md (by omega)
          have e12 : decide (0 ≤ y - 100) = false := decide_eq_false (by omega)
          have e13 : decide (y - 100 < 0) = true := decide_eq_true (by omega)
          have e14 : decide (v2 ≤ (k / 80)) = true := decide_eq_true (by omega)
          clear mu md
          go_wp2
          go_ret
          exact Tru.below Bw.out
    · have ku : warmU m k = k - 80 * m := by unfold warmU; rw [if_neg (by omega), if_pos kc]
      rw [ku] at f1 f4
      have b1 := mul_bd (x := p') (y := m) (A := 20000) (B := 200) (by omega) (by omega)
      have g1 : -4000000 ≤ p' * m ∧ p' * m ≤ 4000000 := by omega
      obtain ⟨g1, g2⟩ := g1
      have g3 : -4000000 ≤ (k - 80 * m) * q' ∧ (k - 80 * m) * q' ≤ 4000000 := by rw [← f1]; exact ⟨g1, g2⟩
      obtain ⟨g3, g4⟩ := g3
      clear b1 f4
      have HV : Hid (meltV m k = m) := Lib.hid (by unfold meltV; rw [if_neg (by omega), if_pos kc])
      clear ku
      have e1 : decide (k < 0) = false := decide_eq_false (by omega)
      have e2 : decide (80 * m < k) = true := decide_eq_true (by omega)
      have e3 : decide (p' * m = (k - 80 * m) * q') = true := decide_eq_true (by omega)
      have e4 : decide (0 ≤ k) = true := decide_eq_true (by omega)
      have e5 : decide (k ≤ 80 * m) = false := decide_eq_false (by omega)
      have e6 : decide (q' ≤ 0) = false := decide_eq_false (by omega)
      have e7 : decide (m < 0) = false := decide_eq_false (by omega)
      go_wp2_with fail
      refine (melt_yes m k (m) _ VA.out HV.out).mono ?_
      rintro e w5 ⟨rfl, hb⟩
      (first | (have Bw := Lib.hid (below_step Bw.out hb)) | (have Bw := Lib.hid (below_step Bw.out (below_unal hb))) | (have Bw := Lib.hid (below_step Bw.out (below_unal (below_unal hb)))))
      (first | (have U := Lib.hid (U.out.below hb)) | (have U := Lib.hid (U.out.below (below_unal hb))) | (have U := Lib.hid (U.out.below (below_unal (below_unal hb)))))
      (first | (have A := Lib.hid (A.out.kept hb)) | (have A := Lib.hid (A.out.kept (below_unal hb))) | (have A := Lib.hid (A.out.kept (below_unal (below_unal hb)))))
      (first | (have X := Lib.hid (X.out.kept hb)) | (have X := Lib.hid (X.out.kept (below_unal hb))) | (have X := Lib.hid (X.out.kept (below_unal (below_unal hb)))))
      (first | (have M := Lib.hid (M.out.kept hb)) | (have M := Lib.hid (M.out.kept (below_unal hb))) | (have M := Lib.hid (M.out.kept (below_unal (below_unal hb)))))
      (first | (have N := Lib.hid (N.out.kept hb)) | (have N := Lib.hid (N.out.kept (below_unal hb))) | (have N := Lib.hid (N.out.kept (below_unal (below_unal hb)))))
      have cA0 := A.out.at 0 rfl; have cA1 := A.out.at 1 rfl
      have cX0 := X.out.at 0 rfl; have cX1 := X.out.at 1 rfl
      have cM0 := M.out.at 0 rfl; have cM1 := M.out.at 1 rfl
      have cN0 := N.out.at 0 rfl; have cN1 := N.out.at 1 rfl
      clear hb
      go_wp2_with fail
      refine (warm_yes m k _ _ _ VA.out HP.out HQ.out).mono ?_
      rintro e w6 ⟨rfl, hb⟩
      (first | (have Bw := Lib.hid (below_step Bw.out hb)) | (have Bw := Lib.hid (below_step Bw.out (below_unal hb))) | (have Bw := Lib.hid (below_step Bw.out (below_unal (below_unal hb)))))
      (first | (have U := Lib.hid (U.out.below hb)) | (have U := Lib.hid (U.out.below (below_unal hb))) | (have U := Lib.hid (U.out.below (below_unal (below_unal hb)))))
      (first | (have A := Lib.hid (A.out.kept hb)) | (have A := Lib.hid (A.out.kept (below_unal hb))) | (have A := Lib.hid (A.out.kept (below_unal (below_unal hb)))))
      (first | (have X := Lib.hid (X.out.kept hb)) | (have X := Lib.hid (X.out.kept (below_unal hb))) | (have X := Lib.hid (X.out.kept (below_unal (below_unal hb)))))
      (first | (have M := Lib.hid (M.out.kept hb)) | (have M := Lib.hid (M.out.kept (below_unal hb))) | (have M := Lib.hid (M.out.kept (below_unal (below_unal hb)))))
      (first | (have N := Lib.hid (N.out.kept hb)) | (have N := Lib.hid (N.out.kept (below_unal hb))) | (have N := Lib.hid (N.out.kept (below_unal (below_unal hb)))))
      have cA0 := A.out.at 0 rfl; have cA1 := A.out.at 1 rfl
      have cX0 := X.out.at 0 rfl; have cX1 := X.out.at 1 rfl
      have cM0 := M.out.at 0 rfl; have cM1 := M.out.at 1 rfl
      have cN0 := N.out.at 0 rfl; have cN1 := N.out.at 1 rfl
      clear hb
      go_wp2_with fail
      refine (vcup_yes _ _ _ VM.out).mono ?_
      rintro e w7 ⟨rfl, hb⟩
      (first | (have Bw := Lib.hid (below_step Bw.out hb)) | (have Bw := Lib.hid (below_step Bw.out (below_unal hb))) | (have Bw := Lib.hid (below_step Bw.out (below_unal (below_unal hb)))))
      (first | (have U := Lib.hid (U.out.below hb)) | (have U := Lib.hid (U.out.below (below_unal hb))) | (have U := Lib.hid (U.out.below (below_unal (below_unal hb)))))
      (first | (have A := Lib.hid (A.out.kept hb)) | (have A := Lib.hid (A.out.kept (below_unal hb))) | (have A := Lib.hid (A.out.kept (below_unal (below_unal hb)))))
      (first | (have X := Lib.hid (X.out.kept hb)) | (have X := Lib.hid (X.out.kept (below_unal hb))) | (have X := Lib.hid (X.out.kept (below_unal (below_unal hb)))))
      (first | (have M := Lib.hid (M.out.kept hb)) | (have M := Lib.hid (M.out.kept (below_unal hb))) | (have M := Lib.hid (M.out.kept (below_unal (below_unal hb)))))
      (first | (have N := Lib.hid (N.out.kept hb)) | (have N := Lib.hid (N.out.kept (below_unal hb))) | (have N := Lib.hid (N.out.kept (below_unal (below_unal hb)))))
      have cA0 := A.out.at 0 rfl; have cA1 := A.out.at 1 rfl
      have cX0 := X.out.at 0 rfl; have cX1 := X.out.at 1 rfl
      have cM0 := M.out.at 0 rfl; have cM1 := M.out.at 1 rfl
      have cN0 := N.out.at 0 rfl; have cN1 := N.out.at 1 rfl
      clear hb
      go_wp2_with fail
      refine (at_any b d zs1 2 200 _ _ U.out HL.out (by omega) (by omega) (by omega) (by omega)).mono ?_
      rintro e w8 ⟨y, rfl, y0, y1, rfl⟩
      have yc : k + (y - 100) < -50 * m ∨ 180 * m < k + (y - 100) ∨ (-50 * m ≤ k + (y - 100) ∧ k + (y - 100) ≤ 180 * m) := by omega
      rcases yc with yc | yc | ⟨yc, yd⟩
      · skip
        exfalso
        omega
      · skip
        have e8 : decide (-50 * m ≤ k + (y - 100)) = true := decide_eq_true (by omega)
        have e9 : decide (k + (y - 100) ≤ 180 * m) = false := decide_eq_false (by omega)
        have HH : Hid (heatB m k (y - 100) = false) := Lib.hid (by simp [heatB, vCup, byOk]; omega)
        go_wp2_with fail
        refine (heat_no m k (y - 100) _ HH.out).mono ?_
        rintro e w9 ⟨rfl, hb⟩
        (first | (have Bw := Lib.hid (below_step Bw.out hb)) | (have Bw := Lib.hid (below_step Bw.out (below_unal hb))) | (have Bw := Lib.hid (below_step Bw.out (below_unal (below_unal hb)))))
        (first | (have U := Lib.hid (U.out.below hb)) | (have U := Lib.hid (U.out.below (below_unal hb))) | (have U := Lib.hid (U.out.below (below_unal (below_unal hb)))))
        clear hb
        go_wp2
        go_ret
        exact Tru.below (below_step Bw.out (below_al1 _ _))
      · skip
        have e10 : decide (-50 * m ≤ k + (y - 100)) = true := decide_eq_true (by omega)
        have e11 : decide (k + (y - 100) ≤ 180 * m) = true := decide_eq_true (by omega)
        have HH : Hid (heatB m k (y - 100) = true) := Lib.hid (by simp [heatB, vCup, byOk]; omega)
        have HG : Hid (heatB m (k + (y - 100)) (-(y - 100)) = true) := Lib.hid (by simp [heatB, vCup, byOk]; omega)
        have HW : Hid (vCup m (k + (y - 100)) = true) := Lib.hid (by simp [vCup]; omega)
        go_wp2_with fail
        refine (heat_yes m k (y - 100) _ HH.out).mono ?_
        rintro e w9 ⟨rfl, hb⟩
        (first | (have Bw := Lib.hid (below_step Bw.out hb)) | (have Bw := Lib.hid (below_step Bw.out (below_unal hb))) | (have Bw := Lib.hid (below_step Bw.out (below_unal (below_unal hb)))))
        (first | (have U := Lib.hid (U.out.below hb)) | (have U := Lib.hid (U.out.below (below_unal hb))) | (have U := Lib.hid (U.out.below (below_unal (below_unal hb)))))
        (first | (have A := Lib.hid (A.out.kept hb)) | (have A := Lib.hid (A.out.kept (below_unal hb))) | (have A := Lib.hid (A.out.kept (below_unal (below_unal hb)))))
        have cA0 := A.out.at 0 rfl; have cA1 := A.out.at 1 rfl
        clear hb
        have A := Lib.hid (A.out.al (.cells [Value.int .i64 (m), .int .i64 (k + (y - 100))].toArray 70))
        have G := Lib.hid (Cells.made w9 [.int .i64 (m), .int .i64 (k + (y - 100))] 70)
        have cA0 := A.out.at 0 rfl; have cA1 := A.out.at 1 rfl
        have cG0 := G.out.at 0 rfl; have cG1 := G.out.at 1 rfl
        go_wp2_with fail
        refine (heat_back m k (y - 100) _ HG.out).mono ?_
        rintro e w10 ⟨rfl, hb⟩
        (first | (have Bw := Lib.hid (below_step Bw.out hb)) | (have Bw := Lib.hid (below_step Bw.out (below_unal hb))) | (have Bw := Lib.hid (below_step Bw.out (below_unal (below_unal hb)))))
        (first | (have U := Lib.hid (U.out.below hb)) | (have U := Lib.hid (U.out.below (below_unal hb))) | (have U := Lib.hid (U.out.below (below_unal (below_unal hb)))))
        (first | (have A := Lib.hid (A.out.kept hb)) | (have A := Lib.hid (A.out.kept (below_unal hb))) | (have A := Lib.hid (A.out.kept (below_unal (below_unal hb)))))
        (first | (have G := Lib.hid (G.out.kept hb)) | (have G := Lib.hid (G.out.kept (below_unal hb))) | (have G := Lib.hid (G.out.kept (below_unal (below_unal hb)))))
        have cA0 := A.out.at 0 rfl; have cA1 := A.out.at 1 rfl
        have cG0 := G.out.at 0 rfl; have cG1 := G.out.at 1 rfl
        clear hb
        have A := Lib.hid (A.out.al (.cells [Value.int .i64 (m), .int .i64 (k)].toArray 70))
        have G := Lib.hid (G.out.al (.cells [Value.int .i64 (m), .int .i64 (k)].toArray 70))
        have H := Lib.hid (Cells.made w10 [.int .i64 (m), .int .i64 (k)] 70)
        have cA0 := A.out.at 0 rfl; have cA1 := A.out.at 1 rfl
        have cG0 := G.out.at 0 rfl; have cG1 := G.out.at 1 rfl
        have cH0 := H.out.at 0 rfl; have cH1 := H.out.at 1 rfl
        have mu : 0 ≤ y - 100 → (m) ≤ meltV m (k + (y - 100)) := fun h => Int.le_trans (Int.le_of_eq HV.out.symm) (melt_up m1 h)
        have md : y - 100 ≤ 0 → meltV m (k + (y - 100)) ≤ (m) := fun h => Int.le_trans (melt_down m1 h) (Int.le_of_eq HV.out)
        generalize hg : meltV m (k + (y - 100)) = v2 at *
        have HT := Lib.hid hg
        clear hg
        go_wp2_with fail
        refine (melt_yes m (k + (y - 100)) v2 _ HW.out HT.out).mono ?_
        rintro e w11 ⟨rfl, hb⟩
        (first | (have Bw := Lib.hid (below_step Bw.out hb)) | (have Bw := Lib.hid (below_step Bw.out (below_unal hb))) | (have Bw := Lib.hid (below_step Bw.out (below_unal (below_unal hb)))))
        (first | (have U := Lib.hid (U.out.below hb)) | (have U := Lib.hid (U.out.below (below_unal hb))) | (have U := Lib.hid (U.out.below (below_unal (below_unal hb)))))
        (first | (have A := Lib.hid (A.out.kept hb)) | (have A := Lib.hid (A.out.kept (below_unal hb))) | (have A := Lib.hid (A.out.kept (below_unal (below_unal hb)))))
        (first | (have G := Lib.hid (G.out.kept hb)) | (have G := Lib.hid (G.out.kept (below_unal hb))) | (have G := Lib.hid (G.out.kept (below_unal (below_unal hb)))))
        (first | (have H := Lib.hid (H.out.kept hb)) | (have H := Lib.hid (H.out.kept (below_unal hb))) | (have H := Lib.hid (H.out.kept (below_unal (below_unal hb)))))
        have cA0 := A.out.at 0 rfl; have cA1 := A.out.at 1 rfl
        have cG0 := G.out.at 0 rfl; have cG1 := G.out.at 1 rfl
        have cH0 := H.out.at 0 rfl; have cH1 := H.out.at 1 rfl
        clear hb
        by_cases yp : 0 ≤ y - 100
        · skip
          have mv := mu yp
          have e12 : decide (0 ≤ y - 100) = true := decide_eq_true (by omega)
          have e13 : decide ((m) ≤ v2) = true := decide_eq_true (by omega)
          clear mu md
          go_wp2
          go_ret
          exact Tru.below Bw.out
        · skip
          have mv := md (by omega)
          have e14 : decide (0 ≤ y - 100) = false := decide_eq_false (by omega)
          have e15 : decide (y - 100 < 0) = true := decide_eq_true (by omega)
          have e16 : decide (v2 ≤ (m)) = true := decide_eq_true (by omega)
          clear mu md
          go_wp2
          go_ret
          exact Tru.below Bw.out
  · have HB := Lib.hid hl
    clear hl
    go_enter Try.func11, Try.ntmps11
    simp only [List.append]
    go_wp2_with fail
    refine (long_any _ _ _ _ _ _ _).mono ?_
    rw [HB.out]
    rintro e w' ⟨rfl, rfl⟩
    go_wp2
    go_ret
    exact Tru.below (Below.refl _ _)
end Go.Proofs.Ytgcgfnpkkhhkgac
