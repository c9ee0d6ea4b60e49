/- How warm a rod is at a place. -/
import Derived.Test.YtplepddciilbdabPlace
namespace Go.Proofs.Ytplepddciilbdab
open Go.RowKit
set_option linter.unusedVariables false

def leF (x y : Nat) : Bool := FloatKind.f32.format.order x y == some .lt || FloatKind.f32.format.order x y == some .eq
def geF (x y : Nat) : Bool := FloatKind.f32.format.order x y == some .gt || FloatKind.f32.format.order x y == some .eq
theorem fin_nn {x : Nat} (h : fin .f32 x = true) : nn .f32 x = false := by
  cases hn : nn .f32 x
  · rfl
  · rw [fin_nan hn] at h; cases h
theorem ge_lt {x y : Nat} (hx : fin .f32 x = true) (hy : fin .f32 y = true) : geF x y = !ltF x y := by
  unfold geF ltF
  rw [ord_key, fin_nn hx, fin_nn hy]
  cases compare (key FloatKind.f32.format x) (key FloatKind.f32.format y) <;> rfl
theorem le_ge {x y : Nat} (hx : fin .f32 x = true) (hy : fin .f32 y = true) : leF x y = geF y x := by
  unfold geF leF
  rw [ord_key, ord_key .f32 y x, fin_nn hx, fin_nn hy]
  simp only [Bool.or_self, Bool.false_eq_true, if_false]
  have : compare (key FloatKind.f32.format y) (key FloatKind.f32.format x) = (compare (key FloatKind.f32.format x) (key FloatKind.f32.format y)).swap := by
    generalize key FloatKind.f32.format x = a
    generalize key FloatKind.f32.format y = b
    simp only [compare, compareOfLessAndEq]
    by_cases h1 : a < b
    · rw [if_pos h1, if_neg (by omega), if_neg (by omega)]; rfl
    · by_cases h2 : a = b
      · subst h2; simp
      · rw [if_neg h1, if_neg h2, if_pos (by omega)]; rfl
  rw [this]
  cases compare (key FloatKind.f32.format x) (key FloatKind.f32.format y) <;> rfl

/-- the warmth between two cells -/
def wV (r : RL) (q m : Nat) : Nat :=
  fop .add .f32 (cn .f32 (r.T.getD m 0)) (fop .mul .f32 (fop .quo .f32 (fop .sub .f32 (cn .f32 q) (cn .f32 (mid r m))) (fop .sub .f32 (cn .f32 (mid r (m + 1))) (cn .f32 (mid r m)))) (fop .sub .f32 (cn .f32 (r.T.getD (m + 1) 0)) (cn .f32 (r.T.getD m 0))))
def waOk (r : RL) (q : Nat) : Bool := vRod r && fin .f32 q && mOk r r.W.length
def waF (r : RL) (q : Nat) : Option Nat := (List.range (r.W.length - 1)).find? (fun m => !ltF (mid r (m + 1)) q)
def waS (r : RL) (q : Nat) : Nat :=
  if waOk r q then (if leF q (mid r 0) then cn .f32 (r.T.getD 0 0) else if geF q (mid r (r.W.length - 1)) then cn .f32 (r.T.getD (r.W.length - 1) 0) else match waF r q with | none => 0 | some m => ifF (wV r q m)) else 0
def waB (r : RL) (q : Nat) : Bool :=
  if waOk r q then (if leF q (mid r 0) then true else if geF q (mid r (r.W.length - 1)) then true else match waF r q with | none => false | some m => fin .f32 (wV r q m)) else false
theorem wa_no {r : RL} {q : Nat} {w w' : World} (hv : waOk r q = false) (hb : Below w.heap.size w w') : GivB (waS r q) (waB r q) w (.returned (.tuple #[.float .f32 0, .bool false])) w' :=
  ⟨0, by simp [waS, hv]; rfl, by simp [waB, hv], hb⟩
theorem wa_first {r : RL} {q : Nat} {w w' : World} (hv : waOk r q = true) (h0 : leF q (mid r 0) = true) (hb : Below w.heap.size w w') : GivB (waS r q) (waB r q) w (.returned (.tuple #[.float .f32 (r.T.getD 0 0), .bool true])) w' :=
  ⟨r.T.getD 0 0, by simp [waS, hv, h0], ret2_b (by simp [waB, hv, h0]), hb⟩
theorem wa_last {r : RL} {q : Nat} {w w' : World} (hv : waOk r q = true) (h0 : leF q (mid r 0) = false) (h1 : geF q (mid r (r.W.length - 1)) = true) (hb : Below w.heap.size w w') : GivB (waS r q) (waB r q) w (.returned (.tuple #[.float .f32 (r.T.getD (r.W.length - 1) 0), .bool true])) w' :=
  ⟨r.T.getD (r.W.length - 1) 0, by simp [waS, hv, h0, h1], ret2_b (by simp [waB, hv, h0, h1]), hb⟩
theorem wa_mid {r : RL} {q m x : Nat} {w w' : World} (hv : waOk r q = true) (h0 : leF q (mid r 0) = false) (h1 : geF q (mid r (r.W.length - 1)) = false) (hF : waF r q = some m) (hx : cn .f32 x = wV r q m) (hb : Below w.heap.size w w') : GivB (waS r q) (waB r q) w (.returned (.tuple #[.float .f32 (ifF x), .bool (fin .f32 x)])) w' := by
  have := GivB.num (w := w) hx hb
  simpa [waS, waB, hv, h0, h1, hF] using this
/-- what is known of the places between the first and the last middle -/
theorem wa_order {r : RL} {q n : Nat} (hn : 1 ≤ n) (hf : fin .f32 q = true) (ho : mOk r n = true) (h0 : leF q (mid r 0) = false) (h1 : geF q (mid r (n - 1)) = false) : ltF (mid r 0) q = true ∧ ltF (mid r (n - 1)) q = false ∧ 2 ≤ n := by
  have hm : ∀ k, k < n → fin .f32 (mid r k) = true := fun k hk => by
    unfold mOk at ho
    rw [List.all_eq_true] at ho
    exact ho k (by simpa using hk)
  have a0 := hm 0 (by omega)
  have a1 := hm (n - 1) (by omega)
  have e0 : ltF (mid r 0) q = true := by
    rw [le_ge hf a0, ge_lt a0 hf] at h0
    simpa using h0
  have e1 : ltF (mid r (n - 1)) q = false := by
    have h2 := le_ge a1 hf
    rw [← h2] at h1
    unfold leF at h1
    unfold ltF
    simp only [Bool.or_eq_false_iff] at h1
    exact h1.1
  refine ⟨e0, e1, ?_⟩
  by_cases h : n = 1
  · subst h
    rw [e0] at e1
    cases e1
  · omega

set_option maxHeartbeats 3200000 in
set_option maxRecDepth 4000 in
theorem specWarm_any (a b c d : Value) (r : RL) (q : Nat) (w : World) (h : RRow w a b c d r) : Calls Try.prog 40 #[.agg #[a, b, c, d], .float .f32 q] w (GivB (waS r q) (waB r q) w) := by
  have IS := Lib.hid (specIs_any a b c d r _ _ (Cells.made w [a, b, c, d] 25) (h.below (below_al1 _ _)))
  cases hv : vRod r
  · rw [hv] at IS
    have hn : waOk r q = false := by simp [waOk, hv]
    have N := Lib.hid hn
    clear h hv hn
    go_enter Try.func40, Try.ntmps40
    go_wp2_with (go_at_call 56; refine IS.out.mono ?_; rintro e w' ⟨rfl, n, rfl⟩)
    go_ret2
    exact wa_no N.out (below_drewN (below_al1 _ _) _)
  · rw [hv] at IS
    cases hf : fin .f32 q
    · have hn : waOk r q = false := by simp [waOk, hf]
      have N := Lib.hid hn
      clear h hv hn
      go_enter Try.func40, Try.ntmps40
      go_wp2_with (first | (go_at_call 56; refine IS.out.mono ?_; rintro e w' ⟨rfl, n, rfl⟩) | (go_at_call 78; refine (specFinite_any _ _).mono ?_; rw [hf]; rintro e w' ⟨rfl, n1, rfl⟩))
      go_ret2
      exact wa_no N.out (below_drewN (below_al1 _ _) _)
    · have OK : Hid (waOk r q = mOk r r.W.length) := Lib.hid (by simp [waOk, hv, hf])
      have WN := Lib.hid (fun (hn : waOk r q = false) w' (hb : Below w.heap.size w w') => wa_no (r := r) (q := q) hn hb)
      have W0 := Lib.hid (fun (hn : waOk r q = true) h0 w' (hb : Below w.heap.size w w') => wa_first (r := r) (q := q) hn h0 hb)
      have W1 := Lib.hid (fun (hn : waOk r q = true) h0 h1 w' (hb : Below w.heap.size w w') => wa_last (r := r) (q := q) hn h0 h1 hb)
      have W2 := Lib.hid (fun (hn : waOk r q = true) h0 h1 m hF x w' hx (hb : Below w.heap.size w w') => wa_mid (r := r) (q := q) (m := m) (x := x) hn h0 h1 hF hx hb)
      unfold waF at W2
      obtain ⟨b0, o0, k0, b1, o1, k1, b2, o2, k2, b3, o3, k3, rfl, rfl, rfl, rfl, hL⟩ := h.lay (Len.ofV hv)
      have G := Lib.hid (Len.ofV hv).q
      have HP := Lib.hid (Len.ofV hv).p
      have hG := (Len.ofV hv).q
      have hP := (Len.ofV hv).p
      have HF := Lib.hid hf
      clear h hv hf
      generalize waS r q = GS at *
      generalize waB r q = GB at *
      generalize waOk r q = O at *
      generalize r.W.length = n at *
      have LY := Lib.hid (hL.below (below_al1 w (.cells [Value.slice (some ⟨b0, o0, none⟩) n k0, .slice (some ⟨b1, o1, none⟩) n k1, .slice (some ⟨b2, o2, none⟩) n k2, .slice (some ⟨b3, o3, none⟩) n k3].toArray 25)))
      clear hL
      have A := Lib.hid (Cells.made w [.slice (some ⟨b0, o0, none⟩) n k0, .slice (some ⟨b1, o1, none⟩) n k1, .slice (some ⟨b2, o2, none⟩) n k2, .slice (some ⟨b3, o3, none⟩) n k3] 25)
      have Bw := Lib.hid (below_al1 w (.cells [Value.slice (some ⟨b0, o0, none⟩) n k0, .slice (some ⟨b1, o1, none⟩) n k1, .slice (some ⟨b2, o2, none⟩) n k2, .slice (some ⟨b3, o3, none⟩) n k3].toArray 25))
      have SM := Lib.hid (fun m => specMid_any r _ ((w.alloc (.cells [Value.slice (some ⟨b0, o0, none⟩) n k0, .slice (some ⟨b1, o1, none⟩) n k1, .slice (some ⟨b2, o2, none⟩) n k2, .slice (some ⟨b3, o3, none⟩) n k3].toArray 25)).drewN m) (Cells.drewN (Cells.made w [.slice (some ⟨b0, o0, none⟩) n k0, .slice (some ⟨b1, o1, none⟩) n k1, .slice (some ⟨b2, o2, none⟩) n k2, .slice (some ⟨b3, o3, none⟩) n k3] 25)) (LY.out.below (below_drewN (Below.refl _ _) m)) G.out HP.out)
      go_enter Try.func40, Try.ntmps40
      go_wp2_with (first | (go_at_call 56; refine IS.out.mono ?_; rintro e w' ⟨rfl, n1, rfl⟩) | (go_at_call 78; refine (specFinite_any _ _).mono ?_; rw [HF.out]; rintro e w' ⟨rfl, n2, rfl⟩))
      refine (SM.out _).mono ?_
      rintro _ w2 ⟨hb, (⟨ho, mb, mo, mc, rfl, hM⟩ | ⟨ho, rfl⟩)⟩
      · have Bw := Lib.hid (below_step Bw.out (below_undrew hb))
        have A := Lib.hid (A.out.kept (below_undrew hb))
        have LY := Lib.hid (LY.out.below (below_undrew hb))
        have HM := Lib.hid hM
        have HO := Lib.hid ho
        have OT := Lib.hid (OK.out.trans ho)
        have c0 := A.out.at 0 rfl; have c1 := A.out.at 1 rfl; have c2 := A.out.at 2 rfl; have c3 := A.out.at 3 rfl
        clear hb ho hM SM
        obtain ⟨L, hL⟩ : ∃ L : Nat, L + 1 = n := ⟨n - 1, by omega⟩
        have e1 : ((n : Int) - 1) = (L : Int) := by omega
        have eL : n - 1 = L := by omega
        have y0 := HM.out 0 (by omega)
        have z0 := LY.out.T 0 (by omega)
        have yL := HM.out L (by omega)
        have zL := LY.out.T L (by omega)
        rw [Nat.add_zero] at y0 z0
        rw [eL] at W1 W2
        have hp0 : 0 < n := by omega
        have g0 : (0 : Int) ≤ (L : Int) := by omega
        have g1 : (L : Int) < (n : Int) := by omega
        have HLn := Lib.hid hL
        clear hL eL
        cases L0 : leF q (mid r 0)
        · cases LL : geF q (mid r L)
          · have OR : Hid (ltF (mid r 0) q = true ∧ ltF (mid r L) q = false ∧ 2 ≤ n) := Lib.hid (by
              have e9 : n - 1 = L := by have := HLn.out; omega
              have h9 := wa_order (r := r) (q := q) HP.out HF.out HO.out L0 (by rw [e9]; exact LL)
              rw [e9] at h9
              exact h9)
            have W3 := Lib.hid (W2.out OT.out L0 LL)
            unfold leF at L0
            unfold geF at LL
            have TT : Hid (∀ k, mid r k = mid r k) := Lib.hid (fun k => rfl)
            generalize hm0 : mid r 0 = m0 at *
            generalize hmL : mid r L = mL at *
            have ML := Lib.hid hmL
            clear hm0 hmL
            simp only [Bool.or_eq_false_iff] at L0 LL
            obtain ⟨L01, L02⟩ := L0
            obtain ⟨LL1, LL2⟩ := LL
            go_wp2_with fail
            go_loopw [9] (fun i wr => ∃ m j : Nat, m + 1 < n ∧ i = .int .i64 ((m : Int) + 1) ∧ Hid (∀ j, j < m → ltF (mid r (j + 1)) q = true) ∧ wr = w2.drewN j) (fun i _ => n - (intOf i).toNat)
            case atStart => exact ⟨0, 0, by have := OR.out.2.2; omega, rfl, Lib.hid (fun j hj => absurd hj (Nat.not_lt_zero _)), rfl⟩
            case round =>
              obtain ⟨m, j, hk, rfl, hall, rfl⟩ := hrel
              have z1 := LY.out.T m (by omega)
              have z2 := LY.out.T (m + 1) hk
              have y1 := HM.out m (by omega)
              have y2 := HM.out (m + 1) hk
              have ND : Hid ((FloatKind.f32.format.order (mid r (m + 1)) q == some .lt) = true → m + 1 + 1 < n) := Lib.hid (fun hlt => by
                have hlt : ltF (mid r (m + 1)) q = true := hlt
                by_cases e : m + 1 = L
                · rw [e, ML.out, OR.out.2.1] at hlt; cases hlt
                · have := HLn.out; omega)
              have NE : Hid ((FloatKind.f32.format.order (mid r (m + 1)) q == some .lt) = true → ∀ j, j < m + 1 → ltF (mid r (j + 1)) q = true) := Lib.hid (fun hlt j hj => by rcases Nat.lt_succ_iff_lt_or_eq.1 hj with h | h; exact hall.out j h; subst h; exact hlt)
              have FO : Hid ((FloatKind.f32.format.order (mid r (m + 1)) q == some .lt) = false → (List.range L).find? (fun m => !ltF (mid r (m + 1)) q) = some m) := Lib.hid (fun hlt => find_some (p := fun m => !ltF (mid r (m + 1)) q) (by simp [ltF, hlt]) (fun j hj => by simp [hall.out j hj]) L (by have := HLn.out; omega))
              have PV : Hid (wV r q m = fop .add .f32 (cn .f32 (r.T.getD m 0)) (fop .mul .f32 (fop .quo .f32 (fop .sub .f32 (cn .f32 q) (cn .f32 (mid r m))) (fop .sub .f32 (cn .f32 (mid r (m + 1))) (cn .f32 (mid r m)))) (fop .sub .f32 (cn .f32 (r.T.getD (m + 1) 0)) (cn .f32 (r.T.getD m 0))))) := Lib.hid rfl
              have W2m := Lib.hid (W3.out m)
              clear W0 W1 W2 W3 WN
              generalize r.T.getD m 0 = x1 at *
              generalize r.T.getD (m + 1) 0 = x2 at *
              generalize mid r m = u1 at *
              generalize mid r (m + 1) = u2 at *
              have hi0 : (0 : Int) ≤ (m : Int) := by omega
              have hi1 : (m : Int) < (n : Int) := by omega
              have hi2 : (0 : Int) ≤ (m : Int) + 1 := by omega
              have hi3 : (m : Int) + 1 < (n : Int) := by omega
              have ht : ((m : Int) + 1).toNat = m + 1 := by omega
              have HW : Hid (IntKind.i64.wrap ((m : Int) + 1 - 1) = (m : Int)) := Lib.hid (by rw [IntWalk.i64_in _ (by omega)]; omega)
              have HW' : Hid (IntKind.i64.wrap (m : Int) = (m : Int)) := Lib.hid (IntWalk.i64_in _ (by omega))
              cases L1 : (FloatKind.f32.format.order u2 q == some .lt)
              · have F := Lib.hid (FO.out L1)
                clear ND NE FO
                go_wp2
                have hw := HW.out
                have hw' := HW'.out
                refine wp_region_loose (fun _ _ _ => True) (by kernel_rfl) (by kernel_rfl) ?_
                repeat (first | (refine wpLoose_farith rfl _ _ _ _ _ rfl rfl _ _ _ rfl rfl ?_; intro _ _) | (refine wpLoose_valK rfl ?_ (fun w1 hw1 => ?_) (fun K hK => ?_); rotate_left; (focus (obtain ⟨nq, rfl⟩ := hw1; go_simp; first | done | rfl)); go_simp; refine hK _ ?_; clear hK K))
                (refine wpLoose_nil ?_; rintro _ ⟨nq, rfl⟩)
                clear hw hw'
                rename_i r1 h1 r2 h2 r3 h3
                go_wp2
                have hw := HW.out
                have hw' := HW'.out
                refine wp_region_loose (fun f args v => f = 84 → ∀ x, args = #[.float .f32 x] → v = .tuple #[.float .f32 (ifF x), .bool (fin .f32 x)]) (by kernel_rfl) (by kernel_rfl) ?_
                repeat (first | (refine wpLoose_farith rfl _ _ _ _ _ rfl rfl _ _ _ rfl rfl ?_; intro _ _) | (refine wpLoose_valK rfl ?_ (fun w1 hw1 => ?_) (fun K hK => ?_); rotate_left; (focus (obtain ⟨nq, rfl⟩ := hw1; go_simp; first | done | rfl)); go_simp; refine hK _ ?_; clear hK K))
                rename_i r4 h4 r5 h5 r6 h6
                refine wpLoose_call rfl 84 #[.float .f32 r6] (fun w1 => ?_) (fun w1 _ => ?_) (fun v hv => ?_)
                · go_simp
                · refine (specNum_any r6 w1).mono ?_
                  rintro e w3 ⟨rfl, m3, rfl⟩
                  exact ⟨_, rfl, fun _ x hx => by simp at hx; subst hx; rfl, m3, rfl⟩
                obtain rfl := hv rfl _ rfl
                clear hv
                repeat (first | (refine wpLoose_farith rfl _ _ _ _ _ rfl rfl _ _ _ rfl rfl ?_; intro _ _) | (refine wpLoose_valK rfl ?_ (fun w1 hw1 => ?_) (fun K hK => ?_); rotate_left; (focus (obtain ⟨nq, rfl⟩ := hw1; go_simp; first | done | rfl)); go_simp; refine hK _ ?_; clear hK K))
                (refine wpLoose_nil ?_; rintro _ ⟨nq, rfl⟩)
                go_wp2
                go_ret2
                exact W2m.out F.out _ _ (by rw [h6.1, h5.1, h4.1, h3.1, h2.1, h1.1, PV.out]) (by first | exact below_drewN Bw.out _ | exact below_drewN (below_drewN Bw.out _) _ | exact below_drewN (below_drewN (below_drewN Bw.out _) _) _)
              · have N1 := ND.out L1
                have N2 := Lib.hid (NE.out L1)
                clear ND NE FO
                go_wp2
                go_roundw
                case rel => exact ⟨m + 1, _, by omega, by go_num, N2, rfl⟩
                case measure => simp [intOf]; omega
          · have W5 := Lib.hid (W1.out OT.out L0 LL)
            clear W0 W1 W2 WN
            unfold leF at L0
            unfold geF at LL
            generalize mid r 0 = m0 at *
            generalize mid r L = mL at *
            generalize r.T.getD 0 0 = t0 at *
            generalize r.T.getD L 0 = tL at *
            simp only [Bool.or_eq_false_iff] at L0
            obtain ⟨L01, L02⟩ := L0
            rcases Bool.or_eq_true _ _ ▸ LL with LL' | LL'
            all_goals
              go_wp2
              go_ret2
              exact W5.out _ Bw.out
        · have W4 := Lib.hid (W0.out OT.out L0)
          clear W0 W1 W2 WN
          unfold leF at L0
          generalize mid r 0 = m0 at *
          generalize r.T.getD 0 0 = t0 at *
          rcases Bool.or_eq_true _ _ ▸ L0 with L0' | L0'
          all_goals
            go_wp2
            go_ret2
            exact W4.out _ Bw.out
      · have Bw := Lib.hid (below_step Bw.out (below_undrew hb))
        have W6 := Lib.hid (WN.out (OK.out.trans ho))
        clear hb ho SM W0 W1 W2
        go_wp2
        go_ret2
        exact W6.out _ Bw.out

end Go.Proofs.Ytplepddciilbdab
