/- The rim of what is over a level: the specification's side. -/
import Derived.Test.YtkmfinegmkacpabRimM
namespace Go.Proofs.Ytkmfinegmkacpab
open Go.RowKit
set_option linter.unusedVariables false

theorem nvs_atR (x z k : Nat) : ∀ j, j < 4 → (nvs x z k)[j]? = some (.int .i64 (nbr x z k j))
  | 0, _ => rfl
  | 1, _ => rfl
  | 2, _ => rfl
  | 3, _ => rfl

set_option maxRecDepth 10000 in
set_option maxHeartbeats 4000000 in
theorem specRimOfL_any (a b c d : Value) (r : PL) (l : Nat) (w : World) (h : PRow w a b c d r) : Calls Try.prog 44 #[.agg #[.int .i64 r.X, .int .i64 r.Y, a, b, c, d], .float .f32 l] w (LstJB (rimS r l) (rimB r l) w) := by
  have IV := Lib.hid (specPl_any a b c d r w.heap.size _ (Cells.made w (pvs r a b c d) 29) (h.below (below_al1 w (.cells (pvs r a b c d).toArray 29))))
  have FI := Lib.hid (fun w1 => specFinite_any l w1)
  cases hv : vPl r
  · have F : rimB r l = false := by unfold rimB; rw [hv]; rfl
    have E : rimS r l = [] := by unfold rimS; rw [F]; rfl
    rw [E, F]
    rw [hv] at IV
    clear h FI
    go_enter Try.func44, Try.ntmps44
    go_wp2_with fail
    refine IV.out.mono ?_
    rintro e w' ⟨rfl, n1, rfl⟩
    go_wp2
    go_ret2
    exact .no (below_drewN (below_al1 _ _) _)
  · cases hf : fin .f32 l
    · have F : rimB r l = false := by unfold rimB; rw [hv, hf]; rfl
      have E : rimS r l = [] := by unfold rimS; rw [F]; rfl
      rw [E, F]
      rw [hv] at IV
      rw [hf] at FI
      clear h hf
      go_enter Try.func44, Try.ntmps44
      go_wp2_with fail
      refine IV.out.mono ?_
      rintro e w' ⟨rfl, n1, rfl⟩
      go_wp2_with fail
      refine (FI.out _).mono ?_
      rintro e w' ⟨rfl, n2, rfl⟩
      go_wp2
      go_ret2
      exact .no (below_drewN (below_al1 _ _) _)
    · have F : rimB r l = true := by unfold rimB; rw [hv, hf]; rfl
      have E : rimS r l = edTo (rc r l) r.W.length := by unfold rimS; rw [F]; rfl
      rw [E, F]
      rw [hv] at IV
      rw [hf] at FI
      have NN0 := PlN.ofV hv
      obtain ⟨b0, o0, k0, b1, o1, k1, b2, o2, k2, b3, o3, k3, rfl, rfl, rfl, rfl, hL⟩ := h.lay NN0
      generalize hgn : r.W.length = n at *
      clear hgn
      have NN := Lib.hid NN0
      have LY := Lib.hid hL
      have N9 := Lib.hid NN0.q
      clear NN0 hL
      have NEAR := Lib.hid (fun k (hk : k < n) w1 A1 => specNear_any _ _ _ _ k (ps b0 o0 n k0) (ps b1 o1 n k1) (ps b2 o2 n k2) (ps b3 o3 n k3) r w.heap.size w1 A1 (Sd.std2 NN.out) rfl hk)
      have NNB := Lib.hid (fun k (hk : k < n) j h => nbr_nat (Sd.std2 NN.out) rfl hk j h)
      have AT := Lib.hid (fun k => nvs_atR r.X.toNat (r.X.toNat * (r.Y.toNat - 1)) k)
      have RN := Lib.hid (fun k j h => rmT_no (r := r) (l := l) (x := r.X.toNat) (z := r.X.toNat * (r.Y.toNat - 1)) (k := k) (j := j) h)
      have RM := Lib.hid (fun k j m h => rmT_m (r := r) (l := l) (x := r.X.toNat) (z := r.X.toNat * (r.Y.toNat - 1)) (k := k) (j := j) (m := m) h)
      have R0 : Hid (∀ k, rmT r l r.X.toNat (r.X.toNat * (r.Y.toNat - 1)) k 0 = false) := Lib.hid (fun k => rfl)
      have RC : Hid (∀ k, rc r l k = (rmT r l r.X.toNat (r.X.toNat * (r.Y.toNat - 1)) k 4 && ovr r l k)) := Lib.hid (fun k => rfl)
      have LN := Lib.hid (edTo_len (rc r l))
      have SY := Lib.hid (fun k h => edTo_yes (c := rc r l) (k := k) h)
      have SN := Lib.hid (fun k h => edTo_no (c := rc r l) (k := k) h)
      have L0 : Hid (edTo (rc r l) 0 = []) := Lib.hid rfl
      clear hv hf h E F
      generalize edTo (rc r l) = L at *
      generalize rmT r l r.X.toNat (r.X.toNat * (r.Y.toNat - 1)) = RT at *
      generalize nbr r.X.toNat (r.X.toNat * (r.Y.toNat - 1)) = NB at *
      have A := Lib.hid (Cells.made w (pvs r (ps b0 o0 n k0) (ps b1 o1 n k1) (ps b2 o2 n k2) (ps b3 o3 n k3)) 29)
      have Bw := Lib.hid (below_al1 w (.cells (pvs r (ps b0 o0 n k0) (ps b1 o1 n k1) (ps b2 o2 n k2) (ps b3 o3 n k3)).toArray 29))
      have LA := Lib.hid (LY.out.below Bw.out)
      go_enter Try.func44, Try.ntmps44
      go_wp2_with fail
      refine IV.out.mono ?_
      rintro e w' ⟨rfl, q1, rfl⟩
      go_wp2_with fail
      refine (FI.out _).mono ?_
      rintro e w' ⟨rfl, q2, rfl⟩
      have c0 := A.out.at 0 rfl; have c1 := A.out.at 1 rfl; have c2 := A.out.at 2 rfl; have c3 := A.out.at 3 rfl; have c4 := A.out.at 4 rfl; have c5 := A.out.at 5 rfl
      go_wp2_with fail
      go_loopw [6, 7] (fun v i wr => ∃ k : Nat, k ≤ n ∧ i = .int .i64 (k : Int) ∧ Hid (OwnJ wr (w.heap.size + 1) v (L k)) ∧ Hid (Below (w.heap.size + 1) (w.alloc (.cells (pvs r (ps b0 o0 n k0) (ps b1 o1 n k1) (ps b2 o2 n k2) (ps b3 o3 n k3)).toArray 29)) wr)) (fun _ i _ => n - (intOf i).toNat)
      case atStart => exact ⟨0, Nat.zero_le _, rfl, Lib.hid (by rw [L0.out]; have := OwnJ.empty ((w.alloc (.cells (pvs r (ps b0 o0 n k0) (ps b1 o1 n k1) (ps b2 o2 n k2) (ps b3 o3 n k3)).toArray 29)).drewN (q1 + q2)) (w.heap.size + 1) (by simp); simpa using this), Lib.hid ((below_drewN (Below.refl _ _) _).alloc (by simp) _)⟩
      case round =>
        obtain ⟨k, hk, rfl, hO, hB⟩ := hrel
        have hG := N9.out
        have hxy := NN.out.xy
        have hB1 : Hid (Below (w.alloc (.cells (pvs r (ps b0 o0 n k0) (ps b1 o1 n k1) (ps b2 o2 n k2) (ps b3 o3 n k3)).toArray 29)).heap.size (w.alloc (.cells (pvs r (ps b0 o0 n k0) (ps b1 o1 n k1) (ps b2 o2 n k2) (ps b3 o3 n k3)).toArray 29)) wr) := Lib.hid (by simpa using hB.out)
        have A1 := Lib.hid (A.out.kept hB1.out)
        have L1 := Lib.hid (LA.out.below hB1.out)
        have hbs : Hid (w.heap.size + 1 ≤ wr.heap.size) := Lib.hid (by have := hB1.out.size; simpa using this)
        clear c0 c1 c2 c3 c4 c5
        have c0 := A1.out.at 0 rfl; have c1 := A1.out.at 1 rfl
        by_cases hlt : k < n
        · have NR := Lib.hid (NEAR.out k hlt wr A1.out)
          have NNk := Lib.hid (NNB.out k hlt)
          have ATk := Lib.hid (AT.out k)
          have RNk := Lib.hid (RN.out k)
          have RMk := Lib.hid (RM.out k)
          have R0k := Lib.hid (R0.out k)
          have RCk := Lib.hid (RC.out k)
          have SYk := Lib.hid (SY.out k)
          have SNk := Lib.hid (SN.out k)
          have QL : Hid ((L k).length ≤ 1048576) := Lib.hid (by have := LN.out k; omega)
          generalize hrt : RT k = R at *
          generalize hnb : NB k = nb at *
          generalize rc r l k = rk at *
          generalize hzs : L k = zs at *
          clear hrt hnb NEAR NNB AT RN RM R0 RC
          have hi : (0 : Int) ≤ (k : Int) := by omega
          have hi' : (k : Int) < (n : Int) := by omega
          go_wp2_with fail
          refine NR.out.mono ?_
          rintro e w2 ⟨g, rfl, hg, Gc, hb⟩
          have GC := Lib.hid Gc
          have O2 := Lib.hid (hO.out.kept hb)
          have B2 := Lib.hid (hB.out.trans (hb.mono hbs.out))
          have hs2 : Hid (w.heap.size + 1 ≤ w2.heap.size) := Lib.hid (Nat.le_trans hbs.out hb.size)
          have A2 := Lib.hid (A1.out.kept hb)
          have L2 := Lib.hid (L1.out.below hb)
          clear Gc hb hg NR c0 c1
          have c2 := A2.out.at 2 rfl
          go_wp2
          go_loopw [9, 10] (fun v i wr => ∃ j m : Nat, j ≤ 4 ∧ i = .int .i64 (j : Int) ∧ v = .bool (R j) ∧ wr = w2.drewN m) (fun _ i _ => 4 - (intOf i).toNat)
          case atStart => exact ⟨0, 0, Nat.zero_le _, rfl, by rw [R0k.out], rfl⟩
          case round =>
            obtain ⟨j, m, hj, rfl, rfl, rfl⟩ := hrel
            have hG := N9.out
            by_cases hlt4 : j < 4
            · have z0 := GC.out.at j (ATk.out j hlt4)
              have hj0 : (0 : Int) ≤ (j : Int) := by omega
              have hj1 : (j : Int) < 4 := by omega
              have RMj := Lib.hid (RMk.out j)
              have RNj := Lib.hid (RNk.out j)
              generalize hRj : R j = rj at *
              by_cases hn0 : 0 ≤ nb j
              · obtain ⟨mm, hm, hmn⟩ := NNk.out j hn0
                have zm := L2.out.W mm hmn
                have RMm := Lib.hid (RMj.out mm hm)
                rw [hm] at z0
                clear hn0 hm hRj
                have hm0 : (0 : Int) ≤ (mm : Int) := by omega
                have hm1 : (mm : Int) < (n : Int) := by omega
                have f1 : decide ((0 : Int) ≤ (mm : Int)) = true := by simp
                cases hcw : blw r l mm
                all_goals
                  rw [hcw] at RMm
                  unfold blw at hcw
                  generalize r.W.getD mm 0 = ym at *
                  go_wp2
                  refine wp_region_loose (fun _ _ _ => True) (by kernel_rfl) (by kernel_rfl) ?_
                  try simp only [List.append]
                  repeat ((with_reducible refine wpLoose_cons ?_); (first | ((with_reducible refine wpLoose_skip ?_ ?_); (focus (go_simp; done)); intro K hK; go_simp; refine hK _ ?_; clear hK K) | (refine wpLoose_farithG ?_ _ _ _ _ _ rfl rfl _ _ _ rfl rfl ?_; (focus (go_simp; done)); intro _ _) | (refine wpLoose_valG ?_ ?_ (fun w1 hw1 => ?_) (fun K hK => ?_); (focus (go_simp; done)); rotate_left; (focus (obtain ⟨nq, rfl⟩ := hw1; go_simp; first | done | rfl)); go_simp; refine hK _ ?_; clear hK K) | fail))
                  (refine wpLoose_nil ?_; rintro _ ⟨nq, rfl⟩)
                  go_wp2
                  go_roundw
                  case rel => exact ⟨j + 1, _, by omega, by go_num, by rw [RMm.out]; simp, by first | rfl | rw [World.drewN_drewN]⟩
                  case measure => simp [intOf]; omega
              · have f1 : decide ((0 : Int) ≤ nb j) = false := by simp; omega
                have E := Lib.hid (RNj.out (by omega))
                go_wp2
                refine wp_region_loose (fun _ _ _ => True) (by kernel_rfl) (by kernel_rfl) ?_
                try simp only [List.append]
                repeat ((with_reducible refine wpLoose_cons ?_); (first | ((with_reducible refine wpLoose_skip ?_ ?_); (focus (go_simp; done)); intro K hK; go_simp; refine hK _ ?_; clear hK K) | (refine wpLoose_farithG ?_ _ _ _ _ _ rfl rfl _ _ _ rfl rfl ?_; (focus (go_simp; done)); intro _ _) | (refine wpLoose_valG ?_ ?_ (fun w1 hw1 => ?_) (fun K hK => ?_); (focus (go_simp; done)); rotate_left; (focus (obtain ⟨nq, rfl⟩ := hw1; go_simp; first | done | rfl)); go_simp; refine hK _ ?_; clear hK K) | fail))
                (refine wpLoose_nil ?_; rintro _ ⟨nq, rfl⟩)
                go_wp2
                go_roundw
                case rel => exact ⟨j + 1, _, by omega, by go_num, by rw [E.out], by first | rfl | rw [World.drewN_drewN]⟩
                case measure => simp [intOf]; omega
            · have e4 : j = 4 := by omega
              subst e4
              have O3 := Lib.hid (O2.out.drewN m)
              have B3 := Lib.hid (below_drewN B2.out m)
              have hs3 : Hid (w.heap.size + 1 ≤ (w2.drewN m).heap.size) := Lib.hid (by simpa using hs2.out)
              have c2 := (A2.out.kept (below_drewN (Below.refl _ _) m)).at 2 rfl
              have zk := (L2.out.below (below_drewN (Below.refl _ _) m)).W k hlt
              clear GC ATk RMk RNk NNk hj O2 B2 hs2 A2 L2
              generalize w2.drewN m = w3 at *
              generalize hR4 : R 4 = r4 at *
              clear hR4
              cases r4
              · have V : Hid (rk = false) := Lib.hid (by rw [RCk.out]; rfl)
                have E := Lib.hid (SNk.out V.out)
                go_wp2
                go_roundw
                case rel => exact ⟨k + 1, by omega, by go_num, Lib.hid (by rw [E.out]; exact O3.out), Lib.hid B3.out⟩
                case measure => simp [intOf]; omega
              · cases hov : ovr r l k
                · have V : Hid (rk = false) := Lib.hid (by rw [RCk.out, hov]; rfl)
                  have E := Lib.hid (SNk.out V.out)
                  unfold ovr at hov
                  generalize r.W.getD k 0 = yk at *
                  go_wp2
                  go_roundw
                  case rel => exact ⟨k + 1, by omega, by go_num, Lib.hid (by rw [E.out]; exact O3.out), Lib.hid B3.out⟩
                  case measure => simp [intOf]; omega
                · have V : Hid (rk = true) := Lib.hid (by rw [RCk.out, hov]; rfl)
                  have E := Lib.hid (SYk.out V.out)
                  unfold ovr at hov
                  generalize r.W.getD k 0 = yk at *
                  go_wp2_with (at_builtin; refine wpList_appJ rfl _ _ rfl (w.heap.size + 1) _ zs rfl (O3.out.al _) _ _ (k : Int) rfl ((World.cell?_alloc_at _ _ _ _ (by simp)).trans rfl) QL.out (by have := hs3.out; simp; omega) ?_; intro v' w5 hown' hb; have O5 := Lib.hid hown'; have B5 := Lib.hid ((B3.out.alloc (by have := hs3.out; omega) _).trans hb); clear hown' hb)
                  go_roundw
                  case rel => exact ⟨k + 1, by omega, by go_num, Lib.hid (by rw [E.out]; exact O5.out), Lib.hid B5.out⟩
                  case measure => simp [intOf]; omega
        · have e := Lib.hid (show k = n by omega)
          go_wp2
          go_ret2
          refine ⟨_, rfl, ?_, below_step Bw.out hB1.out⟩
          rw [← e.out]
          simpa using (hO.out.row (by have := LN.out k; omega))
end Go.Proofs.Ytkmfinegmkacpab
