/- How warm a rod is at a place: the program's side. -/
import Derived.Test.YtplepddciilbdabWarm
namespace Go.Proofs.Ytplepddciilbdab
open Go.RowKit
set_option linter.unusedVariables false

theorem first_ex {p : Nat → Bool} : ∀ n, p n = true → ∃ m, m ≤ n ∧ p m = true ∧ ∀ j, j < m → p j = false := by
  intro n
  induction n using Nat.strongRecOn with
  | _ n ih =>
    intro h
    by_cases hx : ∃ j, j < n ∧ p j = true
    · obtain ⟨j, hj, hp⟩ := hx
      obtain ⟨m, hm, h1, h2⟩ := ih j hj hp
      exact ⟨m, by omega, h1, h2⟩
    · refine ⟨n, Nat.le_refl _, h, fun j hj => ?_⟩
      cases e : p j
      · rfl
      · exact absurd ⟨j, hj, e⟩ hx

theorem endLast_any {n b0 o0 k0 b1 o1 k1 b2 o2 k2 b3 o3 k3 : Nat} (L : Nat) (w : World) (hq : n ≤ 48) (hL : L + 1 = n) :
    Calls Try.prog 87 #[.agg #[.slice (some ⟨b0, o0, none⟩) n k0, .slice (some ⟨b1, o1, none⟩) n k1, .slice (some ⟨b2, o2, none⟩) n k2, .slice (some ⟨b3, o3, none⟩) n k3], .bool true] w fun e w' => e = .returned (.int .i64 (L : Int)) ∧ Below w.heap.size w w' := by
  have e1 : ((n : Int) - 1) = (L : Int) := by omega
  clear hL
  go_enter Try.func87, Try.ntmps87
  go_wp2
  go_ret
  exact ⟨rfl, below_al1 _ _⟩

theorem warm1_any (x p q : Nat) (w : World) (hq : w.cell? ⟨p, 0, none⟩ = some (.float .f32 q)) :
    Calls Try.prog 89 #[.float .f32 x, .pointer (some ⟨p, 0, none⟩)] w (Bol (geF x q) w) := by
  go_enter Try.func89, Try.ntmps89
  go_wp2
  go_ret
  exact ⟨rfl, 0, rfl⟩

theorem idxWarm_any (r : RL) (n mb mo mc p q K : Nat) (w : World) (hM : ∀ i, i < n → w.cell? ⟨mb, mo + i, none⟩ = some (.float .f32 (mid r i))) (hq : w.cell? ⟨p, 0, none⟩ = some (.float .f32 q)) (hn : n ≤ 48)
    (hK : K < n) (h1 : geF (mid r K) q = true) (h2 : ∀ j, j < K → geF (mid r j) q = false) :
    Calls Try.prog 88 #[.slice (some ⟨mb, mo, none⟩) n mc, .func (.func 89) #[] #[.pointer (some ⟨p, 0, none⟩)]] w fun e w' => e = .returned (.int .i64 (K : Int)) ∧ ∃ n, w' = w.drewN n := by
  have HM := Lib.hid hM
  have H1 := Lib.hid h1
  have H2 := Lib.hid h2
  have HK := Lib.hid hK
  clear hM h1 h2 hK
  go_enter Try.func88, Try.ntmps88
  go_wp2
  go_loopw [5, 8] (fun _ i wr => ∃ k j : Nat, k ≤ K ∧ i = .int .i64 k ∧ wr = w.drewN j) (fun _ i _ => n - (intOf i).toNat)
  case atStart => exact ⟨0, 0, Nat.zero_le _, rfl, rfl⟩
  case round =>
    obtain ⟨k, j, hk, rfl, rfl⟩ := hrel
    have hlt : k < n := Nat.lt_of_le_of_lt hk HK.out
    have z0 := HM.out k hlt
    have hi : (0 : Int) ≤ (k : Int) := by omega
    have hi' : (k : Int) < (n : Int) := by omega
    by_cases e : k = K
    · subst e
      have C := H1.out
      generalize mid r k = x at *
      go_wp2_with (go_at_call 89; refine (warm1_any x _ _ _ (by simpa using hq)).mono ?_; rw [C]; rintro e w' ⟨rfl, m, rfl⟩)
      go_ret
      exact ⟨rfl, _, rfl⟩
    · have C := H2.out k (by omega)
      generalize mid r k = x at *
      go_wp2_with (go_at_call 89; refine (warm1_any x _ _ _ (by simpa using hq)).mono ?_; rw [C]; rintro e w' ⟨rfl, m, rfl⟩)
      go_roundw
      case rel => exact ⟨k + 1, _, by omega, by go_num, rfl⟩
      case measure => simp [intOf]; omega

set_option maxHeartbeats 6400000 in
set_option maxRecDepth 4000 in
theorem implWarm_any (a b c d : Value) (r : RL) (q : Nat) (w : World) (h : RRow w a b c d r) : Calls Try.prog 41 #[.agg #[a, b, c, d], .float .f32 q] w (GivB (waS r q) (waB r q) w) := by
  cases hv : vRod r
  · have IM := Lib.hid (implMid_no a b c d r _ (h.below (below_al2 w (.cells [a, b, c, d].toArray 25) (.cells [Value.float .f32 q].toArray 22))) hv)
    have hn : waOk r q = false := by simp [waOk, hv]
    have N := Lib.hid hn
    clear h hv hn
    go_enter Try.func41, Try.ntmps41
    go_wp2_with (go_at_call 85; refine IM.out.mono ?_; rintro e w' ⟨rfl, hb⟩; have B1 := Lib.hid hb; clear hb)
    go_ret2
    exact wa_no N.out (below_step (below_al2 _ _ _) B1.out)
  · have IM := Lib.hid (implMid_any a b c d r _ (h.below (below_al2 w (.cells [a, b, c, d].toArray 25) (.cells [Value.float .f32 q].toArray 22))) hv)
    have P := Cells.made (w.alloc (.cells [a, b, c, d].toArray 25)) [.float .f32 q] 22
    rw [show (w.alloc (.cells [a, b, c, d].toArray 25)).heap.size = w.heap.size + 1 from by simp] at P
    have P := Lib.hid P
    cases hf : fin .f32 q
    · have hn : waOk r q = false := by simp [waOk, hf]
      have N := Lib.hid hn
      clear h hv hn
      go_enter Try.func41, Try.ntmps41
      go_wp2_with fail
      refine IM.out.mono ?_
      rintro _ w1 ⟨hb, (⟨-, mb, mo, mc, rfl, -⟩ | ⟨-, rfl⟩)⟩
      all_goals
        have B1 := Lib.hid hb
        have P := Lib.hid (P.out.kept hb)
        have p0 := P.out.at 0 rfl
        clear hb
        go_wp2_with (go_at_call 86; refine (implFinite_any _ _).mono ?_; rw [hf]; rintro e w' ⟨rfl, n1, rfl⟩)
        go_ret2
        exact wa_no N.out (by first | exact below_step (below_al2 _ _ _) B1.out | exact below_drewN (below_step (below_al2 _ _ _) B1.out) _)
    · have OK : Hid (waOk r q = mOk r r.W.length) := Lib.hid (by simp [waOk, hv, hf])
      have WN := Lib.hid (fun (hn : waOk r q = false) w' (hb : Below w.heap.size w w') => wa_no (r := r) (q := q) hn hb)
      have W0 := Lib.hid (fun (hn : waOk r q = true) h0 w' (hb : Below w.heap.size w w') => wa_first (r := r) (q := q) hn h0 hb)
      have W1 := Lib.hid (fun (hn : waOk r q = true) h0 h1 w' (hb : Below w.heap.size w w') => wa_last (r := r) (q := q) hn h0 h1 hb)
      have W2 := Lib.hid (fun (hn : waOk r q = true) h0 h1 m hF x w' hx (hb : Below w.heap.size w w') => wa_mid (r := r) (q := q) (m := m) (x := x) hn h0 h1 hF hx hb)
      unfold waF at W2
      obtain ⟨b0, o0, k0, b1, o1, k1, b2, o2, k2, b3, o3, k3, rfl, rfl, rfl, rfl, hL⟩ := h.lay (Len.ofV hv)
      have G := Lib.hid (Len.ofV hv).q
      have HP := Lib.hid (Len.ofV hv).p
      have hG := (Len.ofV hv).q
      have hP := (Len.ofV hv).p
      have HF := Lib.hid hf
      clear h hv hf
      generalize waS r q = GS at *
      generalize waB r q = GB at *
      generalize waOk r q = O at *
      generalize r.W.length = n at *
      have LY := Lib.hid (hL.below (below_al2 w (.cells [Value.slice (some ⟨b0, o0, none⟩) n k0, .slice (some ⟨b1, o1, none⟩) n k1, .slice (some ⟨b2, o2, none⟩) n k2, .slice (some ⟨b3, o3, none⟩) n k3].toArray 25) (.cells [Value.float .f32 q].toArray 22)))
      clear hL
      have A := Lib.hid ((Cells.made w [.slice (some ⟨b0, o0, none⟩) n k0, .slice (some ⟨b1, o1, none⟩) n k1, .slice (some ⟨b2, o2, none⟩) n k2, .slice (some ⟨b3, o3, none⟩) n k3] 25).al (.cells [Value.float .f32 q].toArray 22))
      have Bw := Lib.hid (below_al2 w (.cells [Value.slice (some ⟨b0, o0, none⟩) n k0, .slice (some ⟨b1, o1, none⟩) n k1, .slice (some ⟨b2, o2, none⟩) n k2, .slice (some ⟨b3, o3, none⟩) n k3].toArray 25) (.cells [Value.float .f32 q].toArray 22))
      go_enter Try.func41, Try.ntmps41
      go_wp2_with fail
      refine IM.out.mono ?_
      rintro _ w2 ⟨hb, (⟨ho, mb, mo, mc, rfl, hM⟩ | ⟨ho, rfl⟩)⟩
      · have Bw := Lib.hid (below_step Bw.out hb)
        have A := Lib.hid (A.out.kept hb)
        have P := Lib.hid (P.out.kept hb)
        have LY := Lib.hid (LY.out.below hb)
        have HM := Lib.hid hM
        have HO := Lib.hid ho
        have OT := Lib.hid (OK.out.trans ho)
        have c0 := A.out.at 0 rfl; have c1 := A.out.at 1 rfl; have c2 := A.out.at 2 rfl; have c3 := A.out.at 3 rfl
        have p0 := P.out.at 0 rfl
        clear hb ho hM IM
        obtain ⟨L, hL⟩ : ∃ L : Nat, L + 1 = n := ⟨n - 1, by omega⟩
        go_wp2_with (go_at_call 86; refine (implFinite_any _ _).mono ?_; rw [HF.out]; rintro e w' ⟨rfl, n1, rfl⟩)
        refine (endLast_any L _ G.out hL).mono ?_
        rintro _ w3 ⟨rfl, hb⟩
        have hb := below_undrew hb
        have Bw := Lib.hid (below_step Bw.out hb)
        have A := Lib.hid (A.out.kept hb)
        have P := Lib.hid (P.out.kept hb)
        have LY := Lib.hid (LY.out.below hb)
        have HM := Lib.hid (fun i hi => Ext.cell hb (HM.out i hi))
        have c0 := A.out.at 0 rfl; have c1 := A.out.at 1 rfl; have c2 := A.out.at 2 rfl; have c3 := A.out.at 3 rfl
        have p0 := P.out.at 0 rfl
        clear hb
        have e1 : ((n : Int) - 1) = (L : Int) := by omega
        have eL : n - 1 = L := by omega
        have y0 := HM.out 0 (by omega)
        have z0 := LY.out.T 0 (by omega)
        have yL := HM.out L (by omega)
        have zL := LY.out.T L (by omega)
        rw [Nat.add_zero] at y0 z0
        rw [eL] at W1 W2
        have hp0 : 0 < n := by omega
        have g0 : (0 : Int) ≤ (L : Int) := by omega
        have g1 : (L : Int) < (n : Int) := by omega
        have HLn := Lib.hid hL
        clear hL eL
        cases L0 : leF q (mid r 0)
        · cases LL : geF q (mid r L)
          · have e9 : n - 1 = L := by have := HLn.out; omega
            have h9 := wa_order (r := r) (q := q) HP.out HF.out HO.out L0 (by rw [e9]; exact LL)
            rw [e9] at h9
            obtain ⟨OR1, OR2, OR3⟩ := h9
            have fm : ∀ k, k < n → fin .f32 (mid r k) = true := fun k hk => by
              have ho := HO.out
              unfold mOk at ho
              rw [List.all_eq_true] at ho
              exact ho k (by simpa using hk)
            obtain ⟨m, hmL, hm1, hm2⟩ := first_ex (p := fun m => !ltF (mid r (m + 1)) q) (L - 1) (by show (!ltF (mid r (L - 1 + 1)) q) = true; rw [show L - 1 + 1 = L by omega, OR2]; rfl)
            have F := Lib.hid (find_some (p := fun m => !ltF (mid r (m + 1)) q) hm1 hm2 L (by omega))
            have hmn : m + 1 < n := by omega
            have K1 : Hid (geF (mid r (m + 1)) q = true) := Lib.hid (by rw [ge_lt (fm _ hmn) HF.out]; exact hm1)
            have K2 : Hid (∀ j, j < m + 1 → geF (mid r j) q = false) := Lib.hid (fun j hj => by
              rw [ge_lt (fm j (by omega)) HF.out]
              cases j with
              | zero => rw [OR1]; rfl
              | succ j => have := hm2 j (by omega); simpa using this)
            have IX := Lib.hid (fun x => idxWarm_any r n mb mo mc (w.heap.size + 1) q (m + 1) (w3.drewN x) HM.out p0 G.out hmn K1.out K2.out)
            rw [show (((m + 1 : Nat)) : Int) = (m : Int) + 1 from by omega] at IX
            have z1 := LY.out.T m (by omega)
            have z2 := LY.out.T (m + 1) hmn
            have y1 := HM.out m (by omega)
            have y2 := HM.out (m + 1) hmn
            have W3 := Lib.hid (W2.out OT.out L0 LL m F.out)
            have PV : Hid (wV r q m = fop .add .f32 (cn .f32 (r.T.getD m 0)) (fop .mul .f32 (fop .quo .f32 (fop .sub .f32 (cn .f32 q) (cn .f32 (mid r m))) (fop .sub .f32 (cn .f32 (mid r (m + 1))) (cn .f32 (mid r m)))) (fop .sub .f32 (cn .f32 (r.T.getD (m + 1) 0)) (cn .f32 (r.T.getD m 0))))) := Lib.hid rfl
            clear W0 W1 W2 WN hm1 hm2 OR1 OR2 OR3 e9 fm hmL K1 K2 F
            unfold leF at L0
            unfold geF at LL
            generalize mid r 0 = m0 at *
            generalize mid r L = mL at *
            simp only [Bool.or_eq_false_iff] at L0 LL
            obtain ⟨L01, L02⟩ := L0
            obtain ⟨LL1, LL2⟩ := LL
            generalize r.T.getD 0 0 = t0 at *
            generalize r.T.getD L 0 = tL at *
            generalize r.T.getD m 0 = x1 at *
            generalize r.T.getD (m + 1) 0 = x2 at *
            generalize mid r m = u1 at *
            generalize mid r (m + 1) = u2 at *
            have hi0 : (0 : Int) ≤ (m : Int) := by omega
            have hi1 : (m : Int) < (n : Int) := by omega
            have hi2 : (0 : Int) ≤ (m : Int) + 1 := by omega
            have hi3 : (m : Int) + 1 < (n : Int) := by omega
            have ht : ((m : Int) + 1).toNat = m + 1 := by omega
            have HW : Hid (IntKind.i64.wrap ((m : Int) + 1 - 1) = (m : Int)) := Lib.hid (by rw [IntWalk.i64_in _ (by omega)]; omega)
            have HW' : Hid (IntKind.i64.wrap (m : Int) = (m : Int)) := Lib.hid (IntWalk.i64_in _ (by omega))
            go_wp2
            refine wp_region_loose (fun _ _ _ => True) (by kernel_rfl) (by kernel_rfl) ?_
            repeat (first | (refine wpLoose_farith rfl _ _ _ _ _ rfl rfl _ _ _ rfl rfl ?_; intro _ _) | (refine wpLoose_valK rfl ?_ (fun w1 hw1 => ?_) (fun K hK => ?_); rotate_left; (focus (obtain ⟨nq, rfl⟩ := hw1; go_simp; first | done | rfl)); go_simp; refine hK _ ?_; clear hK K))
            (refine wpLoose_nil ?_; rintro _ ⟨nq, rfl⟩)
            go_wp2
            refine wp_region_loose (fun _ _ _ => True) (by kernel_rfl) (by kernel_rfl) ?_
            repeat (first | (refine wpLoose_farith rfl _ _ _ _ _ rfl rfl _ _ _ rfl rfl ?_; intro _ _) | (refine wpLoose_valK rfl ?_ (fun w1 hw1 => ?_) (fun K hK => ?_); rotate_left; (focus (obtain ⟨nq, rfl⟩ := hw1; go_simp; first | done | rfl)); go_simp; refine hK _ ?_; clear hK K))
            (refine wpLoose_nil ?_; rintro _ ⟨nq, rfl⟩)
            go_wp2_with (go_at_call 88; refine (IX.out _).mono ?_; rintro e w' ⟨rfl, n5, rfl⟩)
            have hw := HW.out
            have hw' := HW'.out
            refine wp_region_loose (fun _ _ _ => True) (by kernel_rfl) (by kernel_rfl) ?_
            repeat (first | (refine wpLoose_farith rfl _ _ _ _ _ rfl rfl _ _ _ rfl rfl ?_; intro _ _) | (refine wpLoose_valK rfl ?_ (fun w1 hw1 => ?_) (fun K hK => ?_); rotate_left; (focus (obtain ⟨nq, rfl⟩ := hw1; go_simp; first | done | rfl)); go_simp; refine hK _ ?_; clear hK K))
            (refine wpLoose_nil ?_; rintro _ ⟨nq, rfl⟩)
            clear hw hw'
            rename_i r1 h1 r2 h2 r3 h3
            go_wp2
            have hw := HW.out
            have hw' := HW'.out
            refine wp_region_loose (fun f args v => f = 90 → ∀ x, args = #[.float .f32 x] → v = .tuple #[.float .f32 (ifF x), .bool (fin .f32 x)]) (by kernel_rfl) (by kernel_rfl) ?_
            repeat (first | (refine wpLoose_farith rfl _ _ _ _ _ rfl rfl _ _ _ rfl rfl ?_; intro _ _) | (refine wpLoose_valK rfl ?_ (fun w1 hw1 => ?_) (fun K hK => ?_); rotate_left; (focus (obtain ⟨nq, rfl⟩ := hw1; go_simp; first | done | rfl)); go_simp; refine hK _ ?_; clear hK K))
            rename_i r4 h4 r5 h5 r6 h6
            refine wpLoose_call rfl 90 #[.float .f32 r6] (fun w1 => ?_) (fun w1 _ => ?_) (fun v hv => ?_)
            · go_simp
            · refine (implNum_any r6 w1).mono ?_
              rintro e w3 ⟨rfl, m3, rfl⟩
              exact ⟨_, rfl, fun _ x hx => by simp at hx; subst hx; rfl, m3, rfl⟩
            obtain rfl := hv rfl _ rfl
            clear hv
            repeat (first | (refine wpLoose_farith rfl _ _ _ _ _ rfl rfl _ _ _ rfl rfl ?_; intro _ _) | (refine wpLoose_valK rfl ?_ (fun w1 hw1 => ?_) (fun K hK => ?_); rotate_left; (focus (obtain ⟨nq, rfl⟩ := hw1; go_simp; first | done | rfl)); go_simp; refine hK _ ?_; clear hK K))
            (refine wpLoose_nil ?_; rintro _ ⟨nq, rfl⟩)
            go_wp2
            go_ret2
            exact W3.out _ _ (by rw [h6.1, h5.1, h4.1, h3.1, h2.1, h1.1, PV.out]) (by repeat (first | exact Bw.out | refine below_drewN ?_ _))
          · have W5 := Lib.hid (W1.out OT.out L0 LL)
            clear W0 W1 W2 WN
            unfold leF at L0
            unfold geF at LL
            generalize mid r 0 = m0 at *
            generalize mid r L = mL at *
            generalize r.T.getD 0 0 = t0 at *
            generalize r.T.getD L 0 = tL at *
            simp only [Bool.or_eq_false_iff] at L0
            obtain ⟨L01, L02⟩ := L0
            rcases Bool.or_eq_true _ _ ▸ LL with LL' | LL'
            all_goals
              go_wp2
              refine wp_region_loose (fun _ _ _ => True) (by kernel_rfl) (by kernel_rfl) ?_
              repeat (first | (refine wpLoose_farith rfl _ _ _ _ _ rfl rfl _ _ _ rfl rfl ?_; intro _ _) | (refine wpLoose_valK rfl ?_ (fun w1 hw1 => ?_) (fun K hK => ?_); rotate_left; (focus (obtain ⟨nq, rfl⟩ := hw1; go_simp; first | done | rfl)); go_simp; refine hK _ ?_; clear hK K))
              (refine wpLoose_nil ?_; rintro _ ⟨nq, rfl⟩)
              go_wp2
              refine wp_region_loose (fun _ _ _ => True) (by kernel_rfl) (by kernel_rfl) ?_
              repeat (first | (refine wpLoose_farith rfl _ _ _ _ _ rfl rfl _ _ _ rfl rfl ?_; intro _ _) | (refine wpLoose_valK rfl ?_ (fun w1 hw1 => ?_) (fun K hK => ?_); rotate_left; (focus (obtain ⟨nq, rfl⟩ := hw1; go_simp; first | done | rfl)); go_simp; refine hK _ ?_; clear hK K))
              (refine wpLoose_nil ?_; rintro _ ⟨nq, rfl⟩)
              go_wp2
              go_ret2
              exact W5.out _ (by repeat (first | exact Bw.out | refine below_drewN ?_ _))
        · have W4 := Lib.hid (W0.out OT.out L0)
          clear W0 W1 W2 WN
          unfold leF at L0
          generalize mid r 0 = m0 at *
          generalize r.T.getD 0 0 = t0 at *
          rcases Bool.or_eq_true _ _ ▸ L0 with L0' | L0'
          all_goals
            go_wp2
            refine wp_region_loose (fun _ _ _ => True) (by kernel_rfl) (by kernel_rfl) ?_
            repeat (first | (refine wpLoose_farith rfl _ _ _ _ _ rfl rfl _ _ _ rfl rfl ?_; intro _ _) | (refine wpLoose_valK rfl ?_ (fun w1 hw1 => ?_) (fun K hK => ?_); rotate_left; (focus (obtain ⟨nq, rfl⟩ := hw1; go_simp; first | done | rfl)); go_simp; refine hK _ ?_; clear hK K))
            (refine wpLoose_nil ?_; rintro _ ⟨nq, rfl⟩)
            go_wp2
            go_ret2
            exact W4.out _ (by repeat (first | exact Bw.out | refine below_drewN ?_ _))
      · have Bw := Lib.hid (below_step Bw.out hb)
        have P := Lib.hid (P.out.kept hb)
        have p0 := P.out.at 0 rfl
        have W6 := Lib.hid (WN.out (OK.out.trans ho))
        clear hb ho IM W0 W1 W2
        go_wp2_with (go_at_call 86; refine (implFinite_any _ _).mono ?_; rw [HF.out]; rintro e w' ⟨rfl, n1, rfl⟩)
        go_ret2
        exact W6.out _ (by repeat (first | exact Bw.out | refine below_drewN ?_ _))

end Go.Proofs.Ytplepddciilbdab
