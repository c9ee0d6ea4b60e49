/- Where a rod is warm as told: the program's side, and the law. -/
import Derived.Test.YtplepddciilbdabPlace
namespace Go.Proofs.Ytplepddciilbdab
open Go.RowKit
set_option linter.unusedVariables false

set_option maxHeartbeats 3200000 in
set_option maxRecDepth 4000 in
theorem implPlace_any (a b c d : Value) (r : RL) (q : Nat) (w : World) (h : RRow w a b c d r) : Calls Try.prog 43 #[.agg #[a, b, c, d], .float .f32 q] w (GivB (plS r q) (plB r q) w) := by
  cases hv : vRod r
  · have IM := Lib.hid (implMid_no a b c d r _ (h.below (below_al1 w (.cells [a, b, c, d].toArray 25))) hv)
    have hn : plF r q = none := by simp [plF, hv]
    have N := Lib.hid hn
    clear h hv hn
    go_enter Try.func43, Try.ntmps43
    go_wp2
    go_step3
    go_wp2_with (go_at_call 85; refine IM.out.mono ?_; rintro e w' ⟨rfl, hb⟩; have B1 := Lib.hid hb; clear hb)
    (try rw [Exit.noGoto_ret])
    go_ret2
    exact pl_no N.out (below_step (below_al1 _ _) B1.out)
  · have IM := Lib.hid (implMid_any a b c d r _ (h.below (below_al1 w (.cells [a, b, c, d].toArray 25))) hv)
    cases hf : fin .f32 q
    · have hn : plF r q = none := by simp [plF, hf]
      have N := Lib.hid hn
      clear h hv hn
      go_enter Try.func43, Try.ntmps43
      go_wp2
      go_step3
      go_wp2_with fail
      refine IM.out.mono ?_
      rintro _ w1 ⟨hb, (⟨-, mb, mo, mc, rfl, -⟩ | ⟨-, rfl⟩)⟩
      all_goals
        have B1 := Lib.hid hb
        clear hb
        go_wp2_with (go_at_call 86; refine (implFinite_any _ _).mono ?_; rw [hf]; rintro e w' ⟨rfl, n1, rfl⟩)
        (try rw [Exit.noGoto_ret])
        go_ret2
        exact pl_no N.out (by first | exact below_step (below_al1 _ _) B1.out | exact below_drewN (below_step (below_al1 _ _) B1.out) _)
    · have PN := Lib.hid (fun (hn : (if mOk r r.W.length then (List.range (r.W.length - 1)).find? (crs r q) else none) = none) w' (hb : Below w.heap.size w w') => pl_no (r := r) (q := q) (by simpa [plF, hv, hf] using hn) hb)
      have PY := Lib.hid (fun m (hn : (if mOk r r.W.length then (List.range (r.W.length - 1)).find? (crs r q) else none) = some m) x w' (hx : cn .f32 x = pV r q m) (hb : Below w.heap.size w w') => pl_yes (r := r) (q := q) (m := m) (by simpa [plF, hv, hf] using hn) hx hb)
      obtain ⟨b0, o0, k0, b1, o1, k1, b2, o2, k2, b3, o3, k3, rfl, rfl, rfl, rfl, hL⟩ := h.lay (Len.ofV hv)
      have G := Lib.hid (Len.ofV hv).q
      have HP := Lib.hid (Len.ofV hv).p
      have hG := (Len.ofV hv).q
      have hP := (Len.ofV hv).p
      have HF := Lib.hid hf
      clear h hv hf
      generalize plS r q = GS at *
      generalize plB r q = GB at *
      generalize r.W.length = n at *
      have LY := Lib.hid (hL.below (below_al1 w (.cells [Value.slice (some ⟨b0, o0, none⟩) n k0, .slice (some ⟨b1, o1, none⟩) n k1, .slice (some ⟨b2, o2, none⟩) n k2, .slice (some ⟨b3, o3, none⟩) n k3].toArray 25)))
      clear hL
      have A := Lib.hid (Cells.made w [.slice (some ⟨b0, o0, none⟩) n k0, .slice (some ⟨b1, o1, none⟩) n k1, .slice (some ⟨b2, o2, none⟩) n k2, .slice (some ⟨b3, o3, none⟩) n k3] 25)
      have Bw := Lib.hid (below_al1 w (.cells [Value.slice (some ⟨b0, o0, none⟩) n k0, .slice (some ⟨b1, o1, none⟩) n k1, .slice (some ⟨b2, o2, none⟩) n k2, .slice (some ⟨b3, o3, none⟩) n k3].toArray 25))
      go_enter Try.func43, Try.ntmps43
      go_wp2
      go_step3
      go_wp2_with fail
      refine IM.out.mono ?_
      rintro _ w2 ⟨hb, (⟨ho, mb, mo, mc, rfl, hM⟩ | ⟨ho, rfl⟩)⟩
      · have Bw := Lib.hid (below_step Bw.out hb)
        have A := Lib.hid (A.out.kept hb)
        have LY := Lib.hid (LY.out.below hb)
        have HM := Lib.hid hM
        have PN := Lib.hid (fun hn w' hb => PN.out (by rw [if_pos ho]; exact hn) w' hb)
        have PY := Lib.hid (fun m hn x w' hx hb => PY.out m (by rw [if_pos ho]; exact hn) x w' hx hb)
        have c0 := A.out.at 0 rfl; have c1 := A.out.at 1 rfl; have c2 := A.out.at 2 rfl; have c3 := A.out.at 3 rfl
        clear hb ho hM IM
        go_wp2_with (go_at_call 86; refine (implFinite_any _ _).mono ?_; rw [HF.out]; rintro e w' ⟨rfl, n1, rfl⟩)
        go_step3
        go_wp2
        go_loopw [8] (fun i wr => ∃ m j : Nat, m + 1 ≤ n ∧ i = .int .i64 ((m : Int) + 1) ∧ Hid (∀ j, j < m → crs r q j = false) ∧ wr = w2.drewN j) (fun i _ => n - (intOf i).toNat)
        case atStart => exact ⟨0, _, by omega, rfl, Lib.hid (fun j hj => absurd hj (Nat.not_lt_zero _)), rfl⟩
        case round =>
          obtain ⟨m, j, hk, rfl, hall, rfl⟩ := hrel
          by_cases hlt : m + 1 < n
          · have z1 := LY.out.T m (by omega)
            have z2 := LY.out.T (m + 1) hlt
            have y1 := HM.out m (by omega)
            have y2 := HM.out (m + 1) hlt
            have PYm := Lib.hid (fun h => PY.out m (find_some (p := crs r q) h hall.out (n - 1) (by omega)))
            have CR : Hid (crs r q m = (ltF (r.T.getD m 0) q != ltF (r.T.getD (m + 1) 0) q)) := Lib.hid rfl
            have PV : Hid (pV r q m = fop .add .f32 (cn .f32 (mid r m)) (fop .mul .f32 (fop .sub .f32 (cn .f32 (mid r (m + 1))) (cn .f32 (mid r m))) (fop .quo .f32 (fop .sub .f32 (cn .f32 q) (cn .f32 (r.T.getD m 0))) (fop .sub .f32 (cn .f32 (r.T.getD (m + 1) 0)) (cn .f32 (r.T.getD m 0)))))) := Lib.hid rfl
            unfold ltF at CR
            generalize r.T.getD m 0 = x1 at *
            generalize r.T.getD (m + 1) 0 = x2 at *
            generalize mid r m = u1 at *
            generalize mid r (m + 1) = u2 at *
            have hi0 : (0 : Int) ≤ (m : Int) := by omega
            have hi1 : (m : Int) < (n : Int) := by omega
            have hi2 : (0 : Int) ≤ (m : Int) + 1 := by omega
            have hi3 : (m : Int) + 1 < (n : Int) := by omega
            have ht : ((m : Int) + 1).toNat = m + 1 := by omega
            have f1 : ((m : Int) + 1 == (n : Int)) = false := by simp; omega
            have HW : Hid (IntKind.i64.wrap ((m : Int) + 1 - 1) = (m : Int)) := Lib.hid (by rw [IntWalk.i64_in _ (by omega)]; omega)
            have HW' : Hid (IntKind.i64.wrap (m : Int) = (m : Int)) := Lib.hid (IntWalk.i64_in _ (by omega))
            clear hP
            cases L1 : (FloatKind.f32.format.order x1 q == some .lt) <;> cases L2 : (FloatKind.f32.format.order x2 q == some .lt)
            · have C := Lib.hid (show crs r q m = false by rw [CR.out, L1, L2]; rfl)
              go_wp2
              have hw := HW.out
              have hw' := HW'.out
              refine wp_region_loose (fun _ _ _ => True) (by kernel_rfl) (by kernel_rfl) ?_
              repeat (first | (refine wpLoose_farith rfl _ _ _ _ _ rfl rfl _ _ _ rfl rfl ?_; intro _ _) | (refine wpLoose_valK rfl ?_ (fun w1 hw1 => ?_) (fun K hK => ?_); rotate_left; (focus (obtain ⟨nq, rfl⟩ := hw1; go_simp; first | done | rfl)); go_simp; refine hK _ ?_; clear hK K))
              (refine wpLoose_nil ?_; rintro _ ⟨nq, rfl⟩)
              clear hw hw'
              go_wp2
              go_roundw
              case rel => exact ⟨m + 1, _, by omega, by go_num, Lib.hid (fun j hj => by rcases Nat.lt_succ_iff_lt_or_eq.1 hj with h | h; exact hall.out j h; subst h; exact C.out), by first | rfl | rw [World.drewN_drewN]⟩
              case measure => simp [intOf]; omega
            · have C := Lib.hid (PYm.out (by rw [CR.out, L1, L2]; rfl))
              go_wp2
              have hw := HW.out
              have hw' := HW'.out
              refine wp_region_loose (fun _ _ _ => True) (by kernel_rfl) (by kernel_rfl) ?_
              repeat (first | (refine wpLoose_farith rfl _ _ _ _ _ rfl rfl _ _ _ rfl rfl ?_; intro _ _) | (refine wpLoose_valK rfl ?_ (fun w1 hw1 => ?_) (fun K hK => ?_); rotate_left; (focus (obtain ⟨nq, rfl⟩ := hw1; go_simp; first | done | rfl)); go_simp; refine hK _ ?_; clear hK K))
              (refine wpLoose_nil ?_; rintro _ ⟨nq, rfl⟩)
              clear hw hw'
              go_wp2
              have hw := HW.out
              have hw' := HW'.out
              refine wp_region_loose (fun _ _ _ => True) (by kernel_rfl) (by kernel_rfl) ?_
              repeat (first | (refine wpLoose_farith rfl _ _ _ _ _ rfl rfl _ _ _ rfl rfl ?_; intro _ _) | (refine wpLoose_valK rfl ?_ (fun w1 hw1 => ?_) (fun K hK => ?_); rotate_left; (focus (obtain ⟨nq, rfl⟩ := hw1; go_simp; first | done | rfl)); go_simp; refine hK _ ?_; clear hK K))
              (refine wpLoose_nil ?_; rintro _ ⟨nq, rfl⟩)
              clear hw hw'
              rename_i r1 h1 r2 h2 r3 h3
              go_wp2
              have hw := HW.out
              have hw' := HW'.out
              refine wp_region_loose (fun f args v => f = 90 → ∀ x, args = #[.float .f32 x] → v = .tuple #[.float .f32 (ifF x), .bool (fin .f32 x)]) (by kernel_rfl) (by kernel_rfl) ?_
              repeat (first | (refine wpLoose_farith rfl _ _ _ _ _ rfl rfl _ _ _ rfl rfl ?_; intro _ _) | (refine wpLoose_valK rfl ?_ (fun w1 hw1 => ?_) (fun K hK => ?_); rotate_left; (focus (obtain ⟨nq, rfl⟩ := hw1; go_simp; first | done | rfl)); go_simp; refine hK _ ?_; clear hK K))
              rename_i r4 h4 r5 h5 r6 h6
              refine wpLoose_call rfl 90 #[.float .f32 r6] (fun w1 => ?_) (fun w1 _ => ?_) (fun v hv => ?_)
              · go_simp
              · refine (implNum_any r6 w1).mono ?_
                rintro e w3 ⟨rfl, m3, rfl⟩
                exact ⟨_, rfl, fun _ x hx => by simp at hx; subst hx; rfl, m3, rfl⟩
              obtain rfl := hv rfl _ rfl
              clear hv
              repeat (first | (refine wpLoose_farith rfl _ _ _ _ _ rfl rfl _ _ _ rfl rfl ?_; intro _ _) | (refine wpLoose_valK rfl ?_ (fun w1 hw1 => ?_) (fun K hK => ?_); rotate_left; (focus (obtain ⟨nq, rfl⟩ := hw1; go_simp; first | done | rfl)); go_simp; refine hK _ ?_; clear hK K))
              (refine wpLoose_nil ?_; rintro _ ⟨nq, rfl⟩)
              go_wp2
              (try rw [Exit.noGoto_ret])
              go_ret2
              exact C.out _ _ (by rw [h6.1, h5.1, h4.1, h3.1, h2.1, h1.1, PV.out]) (by first | exact below_drewN Bw.out _ | exact below_drewN (below_drewN Bw.out _) _ | exact below_drewN (below_drewN (below_drewN Bw.out _) _) _ | exact below_drewN (below_drewN (below_drewN (below_drewN Bw.out _) _) _) _)
            · have C := Lib.hid (PYm.out (by rw [CR.out, L1, L2]; rfl))
              go_wp2
              have hw := HW.out
              have hw' := HW'.out
              refine wp_region_loose (fun _ _ _ => True) (by kernel_rfl) (by kernel_rfl) ?_
              repeat (first | (refine wpLoose_farith rfl _ _ _ _ _ rfl rfl _ _ _ rfl rfl ?_; intro _ _) | (refine wpLoose_valK rfl ?_ (fun w1 hw1 => ?_) (fun K hK => ?_); rotate_left; (focus (obtain ⟨nq, rfl⟩ := hw1; go_simp; first | done | rfl)); go_simp; refine hK _ ?_; clear hK K))
              (refine wpLoose_nil ?_; rintro _ ⟨nq, rfl⟩)
              clear hw hw'
              go_wp2
              have hw := HW.out
              have hw' := HW'.out
              refine wp_region_loose (fun _ _ _ => True) (by kernel_rfl) (by kernel_rfl) ?_
              repeat (first | (refine wpLoose_farith rfl _ _ _ _ _ rfl rfl _ _ _ rfl rfl ?_; intro _ _) | (refine wpLoose_valK rfl ?_ (fun w1 hw1 => ?_) (fun K hK => ?_); rotate_left; (focus (obtain ⟨nq, rfl⟩ := hw1; go_simp; first | done | rfl)); go_simp; refine hK _ ?_; clear hK K))
              (refine wpLoose_nil ?_; rintro _ ⟨nq, rfl⟩)
              clear hw hw'
              rename_i r1 h1 r2 h2 r3 h3
              go_wp2
              have hw := HW.out
              have hw' := HW'.out
              refine wp_region_loose (fun f args v => f = 90 → ∀ x, args = #[.float .f32 x] → v = .tuple #[.float .f32 (ifF x), .bool (fin .f32 x)]) (by kernel_rfl) (by kernel_rfl) ?_
              repeat (first | (refine wpLoose_farith rfl _ _ _ _ _ rfl rfl _ _ _ rfl rfl ?_; intro _ _) | (refine wpLoose_valK rfl ?_ (fun w1 hw1 => ?_) (fun K hK => ?_); rotate_left; (focus (obtain ⟨nq, rfl⟩ := hw1; go_simp; first | done | rfl)); go_simp; refine hK _ ?_; clear hK K))
              rename_i r4 h4 r5 h5 r6 h6
              refine wpLoose_call rfl 90 #[.float .f32 r6] (fun w1 => ?_) (fun w1 _ => ?_) (fun v hv => ?_)
              · go_simp
              · refine (implNum_any r6 w1).mono ?_
                rintro e w3 ⟨rfl, m3, rfl⟩
                exact ⟨_, rfl, fun _ x hx => by simp at hx; subst hx; rfl, m3, rfl⟩
              obtain rfl := hv rfl _ rfl
              clear hv
              repeat (first | (refine wpLoose_farith rfl _ _ _ _ _ rfl rfl _ _ _ rfl rfl ?_; intro _ _) | (refine wpLoose_valK rfl ?_ (fun w1 hw1 => ?_) (fun K hK => ?_); rotate_left; (focus (obtain ⟨nq, rfl⟩ := hw1; go_simp; first | done | rfl)); go_simp; refine hK _ ?_; clear hK K))
              (refine wpLoose_nil ?_; rintro _ ⟨nq, rfl⟩)
              go_wp2
              (try rw [Exit.noGoto_ret])
              go_ret2
              exact C.out _ _ (by rw [h6.1, h5.1, h4.1, h3.1, h2.1, h1.1, PV.out]) (by first | exact below_drewN Bw.out _ | exact below_drewN (below_drewN Bw.out _) _ | exact below_drewN (below_drewN (below_drewN Bw.out _) _) _ | exact below_drewN (below_drewN (below_drewN (below_drewN Bw.out _) _) _) _)
            · have C := Lib.hid (show crs r q m = false by rw [CR.out, L1, L2]; rfl)
              go_wp2
              have hw := HW.out
              have hw' := HW'.out
              refine wp_region_loose (fun _ _ _ => True) (by kernel_rfl) (by kernel_rfl) ?_
              repeat (first | (refine wpLoose_farith rfl _ _ _ _ _ rfl rfl _ _ _ rfl rfl ?_; intro _ _) | (refine wpLoose_valK rfl ?_ (fun w1 hw1 => ?_) (fun K hK => ?_); rotate_left; (focus (obtain ⟨nq, rfl⟩ := hw1; go_simp; first | done | rfl)); go_simp; refine hK _ ?_; clear hK K))
              (refine wpLoose_nil ?_; rintro _ ⟨nq, rfl⟩)
              clear hw hw'
              go_wp2
              go_roundw
              case rel => exact ⟨m + 1, _, by omega, by go_num, Lib.hid (fun j hj => by rcases Nat.lt_succ_iff_lt_or_eq.1 hj with h | h; exact hall.out j h; subst h; exact C.out), by first | rfl | rw [World.drewN_drewN]⟩
              case measure => simp [intOf]; omega
          · have e := Lib.hid (show m + 1 = n by omega)
            have f1 : ((m : Int) + 1 == (n : Int)) = true := by simp; omega
            go_wp2
            (try rw [Exit.noGoto_ret])
            go_ret2
            exact PN.out (find_none (fun j hj => hall.out j (by have := e.out; omega))) _ (by first | exact below_drewN Bw.out _ | exact below_drewN (below_drewN Bw.out _) _)
      · have Bw := Lib.hid (below_step Bw.out hb)
        have PN := Lib.hid (PN.out (by rw [if_neg (by simp [ho])]))
        clear hb ho IM PY
        go_wp2_with (go_at_call 86; refine (implFinite_any _ _).mono ?_; rw [HF.out]; rintro e w' ⟨rfl, n1, rfl⟩)
        (try rw [Exit.noGoto_ret])
        go_ret2
        exact PN.out _ (by first | exact Bw.out | exact below_drewN Bw.out _)

end Go.Proofs.Ytplepddciilbdab
