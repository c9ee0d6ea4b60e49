/- The mean warmth of a rod. -/
import Derived.Test.YtplepddciilbdaaTops
namespace Go.Proofs.Ytplepddciilbdaa
open Go.RowKit
set_option linter.unusedVariables false

/-- the mean of a rod whose heat is finite -/
def mV (r : RL) : Nat := fop .quo .f32 (ifF (sumT (tQ r) r.W.length)) (sumT (tS r) r.W.length)
def mS (r : RL) : Nat := if gB tQ r then ifF (mV r) else 0
def mB (r : RL) : Bool := gB tQ r && fin .f32 (mV r)
theorem mean_no {r : RL} {w w' : World} (hv : gB tQ r = false) (hb : Below w.heap.size w w') : GivB (mS r) (mB r) w (.returned (.tuple #[.float .f32 0, .bool false])) w' :=
  ⟨0, by simp [mS, hv]; rfl, by simp [mB, hv], hb⟩
theorem mean_yes {r : RL} {x : Nat} {w w' : World} (hv : gB tQ r = true) (hx : cn .f32 x = mV r) (hb : Below w.heap.size w w') : GivB (mS r) (mB r) w (.returned (.tuple #[.float .f32 (ifF x), .bool (fin .f32 x)])) w' := by
  have := GivB.num (w := w) hx hb
  simpa [mS, mB, hv] using this
theorem gB_valid {f : RL → Nat → Nat} {r : RL} (h : gB f r = true) : vRod r = true := by
  unfold gB at h
  simp only [Bool.and_eq_true] at h
  exact h.1
theorem gS_valid {f : RL → Nat → Nat} {r : RL} (h : gB f r = true) : gS f r = ifF (sumT (f r) r.W.length) := by
  simp [gS, gB_valid h]

theorem implMeanOfRod_any (a b c d : Value) (r : RL) (w : World) (h : RRow w a b c d r) : Calls Try.prog 35 #[.agg #[a, b, c, d]] w (GivB (mS r) (mB r) w) := by
  have IV := Lib.hid (implHeatOfRod_any a b c d r _ (h.below (below_al1 w (.cells [a, b, c, d].toArray 27))))
  cases hv : gB tQ r
  · rw [hv] at IV
    clear h
    go_enter Try.func35, Try.ntmps35
    go_wp2_with (go_at_call 31; refine IV.out.mono ?_; rintro e w' ⟨x, hx, rfl, hb⟩; have B1 := Lib.hid hb; clear hb hx)
    go_ret2
    exact mean_no hv (below_step (below_al1 _ _) B1.out)
  · rw [hv] at IV
    have GS := Lib.hid (gS_valid hv)
    obtain ⟨b0, o0, k0, b1, o1, k1, b2, o2, k2, b3, o3, k3, rfl, rfl, rfl, rfl, hL⟩ := h.lay (Len.ofV (gB_valid hv))
    have G := Lib.hid (Len.ofV (gB_valid hv)).q
    have E1 : Hid (∀ {x : Nat} {w' : World}, cn .f32 x = fop .quo .f32 (ifF (sumT (tQ r) r.W.length)) (sumT (tS r) r.W.length) → Below w.heap.size w w' → GivB (mS r) (mB r) w (.returned (.tuple #[.float .f32 (ifF x), .bool (fin .f32 x)])) w') := Lib.hid (fun hx hb => mean_yes hv hx hb)
    clear h
    generalize mS r = GM at *
    generalize mB r = GB at *
    generalize r.W.length = n at *
    have LY := Lib.hid (hL.below (below_al1 w (.cells [Value.slice (some ⟨b0, o0, none⟩) n k0, .slice (some ⟨b1, o1, none⟩) n k1, .slice (some ⟨b2, o2, none⟩) n k2, .slice (some ⟨b3, o3, none⟩) n k3].toArray 27)))
    clear hL
    have A := Lib.hid (Cells.made w [.slice (some ⟨b0, o0, none⟩) n k0, .slice (some ⟨b1, o1, none⟩) n k1, .slice (some ⟨b2, o2, none⟩) n k2, .slice (some ⟨b3, o3, none⟩) n k3] 27)
    have Bw := Lib.hid (below_al1 w (.cells [Value.slice (some ⟨b0, o0, none⟩) n k0, .slice (some ⟨b1, o1, none⟩) n k1, .slice (some ⟨b2, o2, none⟩) n k2, .slice (some ⟨b3, o3, none⟩) n k3].toArray 27))
    go_enter Try.func35, Try.ntmps35
    go_wp2_with (first
      | (go_at_call 31; refine IV.out.mono ?_; rintro e w' ⟨y, hy, rfl, hb⟩; have Y := Lib.hid (hy.trans GS.out); have Bw := Lib.hid (below_step Bw.out hb); have A := Lib.hid (A.out.kept hb); have LY := Lib.hid (LY.out.below hb); have c0 := A.out.at 0 rfl; have c1 := A.out.at 1 rfl; have c2 := A.out.at 2 rfl; have c3 := A.out.at 3 rfl; clear hb hy)
      | (go_at_call 59; refine (sumMeanOfRod_any r _ _ A.out LY.out G.out).mono ?_; rintro e w' ⟨x, hx, rfl, hb⟩; have X := Lib.hid hx; have Bw := Lib.hid (below_step Bw.out hb); clear hx hb)
      | (refine wpList_farith rfl _ _ _ _ _ rfl rfl _ _ _ rfl rfl ?_; intro _ _ _)
      | (go_at_call 58; refine (implNum_any _ _).mono ?_; rintro e w' ⟨rfl, n3, rfl⟩))
    go_ret2
    rename_i h1
    exact E1.out (by rw [h1.1, Y.out, X.out]) (below_drewN (by first | exact Bw.out | exact below_drewN Bw.out _) _)

theorem specMeanOfRod_any (a b c d : Value) (r : RL) (w : World) (h : RRow w a b c d r) : Calls Try.prog 34 #[.agg #[a, b, c, d]] w (GivB (mS r) (mB r) w) := by
  have IV := Lib.hid (specHeatOfRod_any a b c d r _ (h.below (below_al1 w (.cells [a, b, c, d].toArray 27))))
  cases hv : gB tQ r
  · rw [hv] at IV
    clear h
    go_enter Try.func34, Try.ntmps34
    go_wp2_with (go_at_call 30; refine IV.out.mono ?_; rintro e w' ⟨x, hx, rfl, hb⟩; have B1 := Lib.hid hb; clear hb hx)
    go_ret2
    exact mean_no hv (below_step (below_al1 _ _) B1.out)
  · rw [hv] at IV
    have GS := Lib.hid (gS_valid hv)
    obtain ⟨b0, o0, k0, b1, o1, k1, b2, o2, k2, b3, o3, k3, rfl, rfl, rfl, rfl, hL⟩ := h.lay (Len.ofV (gB_valid hv))
    have G := Lib.hid (Len.ofV (gB_valid hv)).q
    have E1 : Hid (∀ {x : Nat} {w' : World}, cn .f32 x = fop .quo .f32 (ifF (sumT (tQ r) r.W.length)) (sumT (tS r) r.W.length) → Below w.heap.size w w' → GivB (mS r) (mB r) w (.returned (.tuple #[.float .f32 (ifF x), .bool (fin .f32 x)])) w') := Lib.hid (fun hx hb => mean_yes hv hx hb)
    clear h
    generalize mS r = GM at *
    generalize mB r = GB at *
    generalize r.W.length = n at *
    have LY := Lib.hid (hL.below (below_al1 w (.cells [Value.slice (some ⟨b0, o0, none⟩) n k0, .slice (some ⟨b1, o1, none⟩) n k1, .slice (some ⟨b2, o2, none⟩) n k2, .slice (some ⟨b3, o3, none⟩) n k3].toArray 27)))
    clear hL
    have A := Lib.hid (Cells.made w [.slice (some ⟨b0, o0, none⟩) n k0, .slice (some ⟨b1, o1, none⟩) n k1, .slice (some ⟨b2, o2, none⟩) n k2, .slice (some ⟨b3, o3, none⟩) n k3] 27)
    have Bw := Lib.hid (below_al1 w (.cells [Value.slice (some ⟨b0, o0, none⟩) n k0, .slice (some ⟨b1, o1, none⟩) n k1, .slice (some ⟨b2, o2, none⟩) n k2, .slice (some ⟨b3, o3, none⟩) n k3].toArray 27))
    have Su := Lib.hid (sumT_succ (tS r))
    have S0 : Hid (cn .f32 0 = sumT (tS r) 0) := Lib.hid rfl
    have TF : Hid (∀ k, tS r k = fop .mul .f32 (cn .f32 (r.W.getD k 0)) (cn .f32 (r.H.getD k 0))) := Lib.hid (fun k => rfl)
    generalize sumT (tS r) = S at *
    generalize tS r = T at *
    go_enter Try.func34, Try.ntmps34
    go_wp2_with fail
    refine IV.out.mono ?_
    rintro _ w1 ⟨y, hy, rfl, hb⟩
    have Y := Lib.hid (hy.trans GS.out)
    have B9 := Lib.hid (below_step Bw.out hb)
    have A := Lib.hid (A.out.kept hb)
    have LY := Lib.hid (LY.out.below hb)
    have c0 := A.out.at 0 rfl; have c1 := A.out.at 1 rfl; have c2 := A.out.at 2 rfl; have c3 := A.out.at 3 rfl
    clear hb hy
    go_wp2_with fail
    go_loopw [6, 7] (fun s i wr => ∃ k x m : Nat, k ≤ n ∧ i = .int .i64 k ∧ s = .float .f32 x ∧ Hid (cn .f32 x = S k) ∧ wr = w1.drewN m) (fun _ i _ => n - (intOf i).toNat)
    case atStart => exact ⟨0, 0, 0, Nat.zero_le _, rfl, rfl, S0, rfl⟩
    case round =>
      obtain ⟨k, x, m, hk, rfl, rfl, hx, rfl⟩ := hrel
      have hG := G.out
      by_cases hlt : k < n
      · have TFk := Lib.hid (TF.out k)
        have zW := LY.out.W k hlt
        have zH := LY.out.H k hlt
        generalize r.W.getD k 0 = yW at *
        generalize r.H.getD k 0 = yH at *
        have hi : (0 : Int) ≤ (k : Int) := by omega
        have hi' : (k : Int) < (n : Int) := by omega
        go_wp2
        refine wp_region_loose (fun _ _ _ => True) (by kernel_rfl) (by kernel_rfl) ?_
        repeat (first | (refine wpLoose_farith rfl _ _ _ _ _ rfl rfl _ _ _ rfl rfl ?_; intro _ _) | (refine wpLoose_valK rfl ?_ (fun w1 hw1 => ?_) (fun K hK => ?_); rotate_left; (focus (obtain ⟨nq, rfl⟩ := hw1; go_simp; first | done | rfl)); go_simp; refine hK _ ?_; clear hK K))
        (refine wpLoose_nil ?_; rintro _ ⟨nq, rfl⟩)
        go_wp2
        rename_i r1 h1 r2 h2
        go_roundw
        case rel => exact ⟨k + 1, _, _, by omega, by go_num, rfl, Lib.hid (by rw [h2.1, hx.out, h1.1, Su.out, TFk.out]), rfl⟩
        case measure => simp [intOf]; omega
      · have e := Lib.hid (show k = n by omega)
        go_wp2_with (first | (refine wpList_farith rfl _ _ _ _ _ rfl rfl _ _ _ rfl rfl ?_; intro _ _ _) | (go_at_call 56; refine (specNum_any _ _).mono ?_; rintro e w' ⟨rfl, n3, rfl⟩))
        go_ret2
        rename_i h1
        have := e.out
        subst this
        exact E1.out (by rw [h1.1, Y.out, hx.out]) (below_drewN B9.out _)

theorem fnExactMeanOfRod_walk (a b c d : Value) (r : RL) (w : World) (h : RRow w a b c d r) :
    Calls Try.prog 10 #[.agg #[a, b, c, d]] w (Tru w) := by
  have R := Lib.hid (fun w1 (hb : Below w.heap.size w w1) => h.below hb)
  clear h
  have A := Lib.hid (Cells.made w [a, b, c, d] 24)
  have Bw := Lib.hid (below_al1 w (.cells [a, b, c, d].toArray 24))
  by_cases hl : r.size ≤ 1048576
  · have HL := Lib.hid hl
    clear hl
    go_enter Try.func10, Try.ntmps10
    go_wp2_with fail
    refine (szRod_fit a b c d r 1048576 _ (R.out _ Bw.out) HL.out (Nat.le_refl _)).mono ?_
    rintro _ w1 ⟨rfl, hb⟩
    have Bw := Lib.hid (below_step Bw.out hb); have A := Lib.hid (A.out.kept hb); have c0 := A.out.at 0 rfl; have c1 := A.out.at 1 rfl; have c2 := A.out.at 2 rfl; have c3 := A.out.at 3 rfl; clear hb
    go_wp2_with fail
    refine (toRod_any a b c d r _ (R.out _ Bw.out) HL.out).mono ?_
    rintro _ w2 ⟨p0, p1, p2, p3, rfl, hp, V, hb⟩
    have Bw := Lib.hid (below_step Bw.out hb); have A := Lib.hid (A.out.kept hb); have c0 := A.out.at 0 rfl; have c1 := A.out.at 1 rfl; have c2 := A.out.at 2 rfl; have c3 := A.out.at 3 rfl; have V := Lib.hid V; clear hb hp
    go_wp2_with fail
    refine (specMeanOfRod_any _ _ _ _ r _ (V.out.row HL.out)).mono ?_
    rintro _ w3 ⟨f1, hf1, rfl, hb⟩
    have F1 := Lib.hid hf1
    have Bw := Lib.hid (below_step Bw.out hb); have A := Lib.hid (A.out.kept hb); have c0 := A.out.at 0 rfl; have c1 := A.out.at 1 rfl; have c2 := A.out.at 2 rfl; have c3 := A.out.at 3 rfl; clear hb V hf1
    go_wp2_with fail
    refine (toRod_any a b c d r _ (R.out _ Bw.out) HL.out).mono ?_
    rintro _ w4 ⟨x0, x1, x2, x3, rfl, hp, V, hb⟩
    have Bw := Lib.hid (below_step Bw.out hb); have A := Lib.hid (A.out.kept hb); have c0 := A.out.at 0 rfl; have c1 := A.out.at 1 rfl; have c2 := A.out.at 2 rfl; have c3 := A.out.at 3 rfl; have V := Lib.hid V; clear hb hp
    have X := Lib.hid (Cells.made w4 [sl x0 r.W, sl x1 r.E, sl x2 r.H, sl x3 r.T] 27)
    have V := Lib.hid (V.out.kept (below_al1 w4 (.cells [sl x0 r.W, sl x1 r.E, sl x2 r.H, sl x3 r.T].toArray 27)))
    have A := Lib.hid (A.out.kept (below_al1 w4 (.cells [sl x0 r.W, sl x1 r.E, sl x2 r.H, sl x3 r.T].toArray 27)))
    have Bw := Lib.hid (below_step Bw.out (below_al1 w4 (.cells [sl x0 r.W, sl x1 r.E, sl x2 r.H, sl x3 r.T].toArray 27)))
    go_wp2_with fail
    refine (implMeanOfRod_any _ _ _ _ r _ (V.out.row HL.out)).mono ?_
    rintro _ w5 ⟨f2, hf2, rfl, hb⟩
    have F2 := Lib.hid (hf2.trans F1.out.symm)
    have Bw := Lib.hid (below_step Bw.out hb); have A := Lib.hid (A.out.kept hb); have X := Lib.hid (X.out.kept hb); have V := Lib.hid (V.out.kept hb); have c0 := A.out.at 0 rfl; have c1 := A.out.at 1 rfl; have c2 := A.out.at 2 rfl; have c3 := A.out.at 3 rfl; clear hb hf2
    have d0 := X.out.at 0 rfl; have d1 := X.out.at 1 rfl; have d2 := X.out.at 2 rfl; have d3 := X.out.at 3 rfl
    go_wp2_with (first | (refine wpList_up rfl Try.underlying32 Try.underlying44 _ rfl _ rfl ?_; intro _ _ _) | (go_at_call 29; refine (same_end (a := f2) (b := f1) _ (by assumption) (by assumption) F2.out).mono ?_; rintro e w' ⟨rfl, m, rfl⟩))
    generalize w4.heap.size = q at *
    go_region_held3 (fun w' => w'.cell? ⟨w.heap.size, 0, none⟩ = some a ∧ w'.cell? ⟨w.heap.size, 1, none⟩ = some b ∧ w'.cell? ⟨w.heap.size, 2, none⟩ = some c ∧ w'.cell? ⟨w.heap.size, 3, none⟩ = some d ∧ w'.cell? ⟨q, 0, none⟩ = some (sl x0 r.W) ∧ w'.cell? ⟨q, 1, none⟩ = some (sl x1 r.E) ∧ w'.cell? ⟨q, 2, none⟩ = some (sl x2 r.H) ∧ w'.cell? ⟨q, 3, none⟩ = some (sl x3 r.T)) (exact ⟨c0, c1, c2, c3, d0, d1, d2, d3⟩)
      (first
      | (go_at_call 17; refine (toRod_any a b c d r _ (R.out _ (below_drewN Bw.out _)) HL.out).mono ?_; rintro _ w6 ⟨y0, y1, y2, y3, rfl, hp, Z, hb⟩; have Bw := Lib.hid (below_step Bw.out (below_undrew hb)); have A := Lib.hid (A.out.kept (below_undrew hb)); have X := Lib.hid (X.out.kept (below_undrew hb)); have V := Lib.hid (V.out.kept (below_undrew hb)); have Z := Lib.hid Z; clear hp hb; have c0 := A.out.at 0 rfl; have c1 := A.out.at 1 rfl; have c2 := A.out.at 2 rfl; have c3 := A.out.at 3 rfl; have d0 := X.out.at 0 rfl; have d1 := X.out.at 1 rfl; have d2 := X.out.at 2 rfl; have d3 := X.out.at 3 rfl)
      | (go_at_call 19; refine (eqRod_any _ _ _ _ _ _ _ _ r r _ (V.out.row HL.out) (Z.out.row HL.out) (.refl r)).mono ?_; rintro _ w7 ⟨rfl, hb⟩; have Bw := Lib.hid (below_step Bw.out hb); have A := Lib.hid (A.out.kept hb); have X := Lib.hid (X.out.kept hb); clear hb; have c0 := A.out.at 0 rfl; have c1 := A.out.at 1 rfl; have c2 := A.out.at 2 rfl; have c3 := A.out.at 3 rfl; have d0 := X.out.at 0 rfl; have d1 := X.out.at 1 rfl; have d2 := X.out.at 2 rfl; have d3 := X.out.at 3 rfl))
    all_goals
      go_wp2
      go_ret
      exact Tru.below Bw.out
  · have HL := Lib.hid (Nat.lt_of_not_le hl)
    clear hl
    go_enter Try.func10, Try.ntmps10
    go_wp2_with fail
    refine (szRod_over a b c d r 1048576 _ (R.out _ Bw.out) HL.out (Nat.le_refl _)).mono ?_
    rintro _ w1 ⟨rfl, hb⟩
    have Bw := Lib.hid (below_step Bw.out hb); have A := Lib.hid (A.out.kept hb); have c0 := A.out.at 0 rfl; have c1 := A.out.at 1 rfl; have c2 := A.out.at 2 rfl; have c3 := A.out.at 3 rfl; clear hb
    go_wp2
    go_ret
    exact Tru.below Bw.out

end Go.Proofs.Ytplepddciilbdaa
