/- The path to cooler cells: the specification's side. -/
import Derived.Test.YtcjhaeiknenajaaCoolM
import Derived.Test.YtcjhaeiknenajaaLooseG
namespace Go.Proofs.Ytcjhaeiknenajaa
open Go.RowKit
set_option linter.unusedVariables false

set_option maxRecDepth 10000 in
set_option maxHeartbeats 4000000 in
theorem specCool_ok (r : PL) (n k0' : Nat) (b0 o0 k0 b1 o1 k1 b2 o2 k2 b3 o3 k3 : Nat) (w : World) (h : PRow w (ps b0 o0 n k0) (ps b1 o1 n k1) (ps b2 o2 n k2) (ps b3 o3 n k3) r) (hL0 : PLay w n b0 o0 b1 o1 b2 o2 b3 o3 r) (hl : PlN r n) (hf : ∀ k, k < n → fin .f32 (r.W.getD k 0) = true) (hk : k0' < n) (ho : okC r (k0' : Int) = true) :
    Calls Try.prog 42 #[.agg #[.int .i64 r.X, .int .i64 r.Y, (ps b0 o0 n k0), (ps b1 o1 n k1), (ps b2 o2 n k2), (ps b3 o3 n k3)], .int .i64 (k0' : Int)] w (LstJB (pth r n k0') true w) := by
  have LY := Lib.hid (hL0.below (below_al1 w (.cells (pvs r (ps b0 o0 n k0) (ps b1 o1 n k1) (ps b2 o2 n k2) (ps b3 o3 n k3)).toArray 28)))
  have R := Lib.hid (h.below (below_al1 w (.cells (pvs r (ps b0 o0 n k0) (ps b1 o1 n k1) (ps b2 o2 n k2) (ps b3 o3 n k3)).toArray 28)))
  have A := Lib.hid (Cells.made w (pvs r (ps b0 o0 n k0) (ps b1 o1 n k1) (ps b2 o2 n k2) (ps b3 o3 n k3)) 28)
  have Bw := Lib.hid (below_al1 w (.cells (pvs r (ps b0 o0 n k0) (ps b1 o1 n k1) (ps b2 o2 n k2) (ps b3 o3 n k3)).toArray 28))
  have HA := Lib.hid (specHas_any r (k0' : Int) _ _ _ _ _ _ A.out R.out)
  rw [ho] at HA
  have NEAR := Lib.hid (fun k (hk : k < n) w1 A1 => specNear_any _ _ _ _ k (ps b0 o0 n k0) (ps b1 o1 n k1) (ps b2 o2 n k2) (ps b3 o3 n k3) r w.heap.size w1 A1 (Sd.std hl) rfl hk)
  have NN := Lib.hid (fun k (hk : k < n) j h => nbr_nat (Sd.std hl) rfl hk j h)
  have CLL := Lib.hid (fun k (hk : k < n) j => cl_lt (r := r) (Sd.std hl) rfl hk j)
  have CNO := Lib.hid (fun k j h => cl_no (r := r) (x := r.X.toNat) (z := r.X.toNat * (r.Y.toNat - 1)) (k := k) (j := j) h)
  have CM := Lib.hid (fun k j m h => cl_m (r := r) (x := r.X.toNat) (z := r.X.toNat * (r.Y.toNat - 1)) (k := k) (j := j) (m := m) h)
  have C0 : Hid (∀ k, cl r r.X.toNat (r.X.toNat * (r.Y.toNat - 1)) k 0 = k) := Lib.hid (fun k => rfl)
  have NX : Hid (∀ k, nx r k = cl r r.X.toNat (r.X.toNat * (r.Y.toNat - 1)) k 4) := Lib.hid (fun k => rfl)
  have RK := Lib.hid (fun k (hk : k < n) h => nx_rank hl hf hk h)
  have PE := Lib.hid (fun k h => pth_end (r := r) (n := n) (k := k) hl.p h)
  have PS := Lib.hid (fun k (hk : k < n) h => pth_step hl hf hk h)
  have LEN := Lib.hid (pth_len r n k0')
  have PP := Lib.hid (fun k => pth_pos r n k)
  have AT := Lib.hid (fun k => nvs_at r.X.toNat (r.X.toNat * (r.Y.toNat - 1)) k)
  have N9 := Lib.hid hl.q
  have HK := Lib.hid hk
  clear h hL0 hl hf hk ho R
  generalize hSS : pth r n k0' = SS at *
  have PK0 : Hid (SS = [] ++ pth r n k0') := Lib.hid (by rw [hSS]; rfl)
  clear hSS
  generalize cl r r.X.toNat (r.X.toNat * (r.Y.toNat - 1)) = CL at *
  generalize hnb : nbr r.X.toNat (r.X.toNat * (r.Y.toNat - 1)) = NB at *
  clear hnb
  generalize nx r = nxf at *
  generalize hpt : pth r n = PT at *
  clear hpt
  generalize hrk : rank r n = RNK at *
  clear hrk
  go_enter Try.func42, Try.ntmps42
  go_wp2_with fail
  refine HA.out.mono ?_
  rintro e w' ⟨rfl, q1, rfl⟩
  go_wp2_with fail
  go_loopw [1, 6] (fun i v wr => ∃ (k : Nat) (Q : List Int), k < n ∧ i = .int .i64 (k : Int) ∧ Hid (OwnJ wr (w.heap.size + 1) v (Q ++ [(k : Int)])) ∧ Hid (SS = Q ++ PT k) ∧ Hid (Q.length + 1 ≤ n + 1) ∧ Hid (Below (w.heap.size + 1) (w.alloc (.cells (pvs r (ps b0 o0 n k0) (ps b1 o1 n k1) (ps b2 o2 n k2) (ps b3 o3 n k3)).toArray 28)) wr)) (fun i _ _ => RNK (intOf i).toNat)
  case atStart => exact ⟨k0', [], HK.out, rfl, Lib.hid (by have := OwnJ.lit1 ((w.alloc (.cells (pvs r (ps b0 o0 n k0) (ps b1 o1 n k1) (ps b2 o2 n k2) (ps b3 o3 n k3)).toArray 28)).drewN q1) (w.heap.size + 1) (by simp) (k0' : Int); simpa using this), PK0, Lib.hid (by simp), Lib.hid ((below_drewN (Below.refl _ _) _).alloc (by simp) _)⟩
  case round =>
    obtain ⟨k, Q, hk, rfl, hO, hS, hQ, hB⟩ := hrel
    have hG := N9.out
    have hB1 : Hid (Below (w.alloc (.cells (pvs r (ps b0 o0 n k0) (ps b1 o1 n k1) (ps b2 o2 n k2) (ps b3 o3 n k3)).toArray 28)).heap.size (w.alloc (.cells (pvs r (ps b0 o0 n k0) (ps b1 o1 n k1) (ps b2 o2 n k2) (ps b3 o3 n k3)).toArray 28)) wr) := Lib.hid (by simpa using hB.out)
    have A1 := Lib.hid (A.out.kept hB1.out)
    have L1 := Lib.hid (LY.out.below hB1.out)
    have hbs : Hid (w.heap.size + 1 ≤ wr.heap.size) := Lib.hid (by have := hB1.out.size; simpa using this)
    have NR := Lib.hid (NEAR.out k hk wr A1.out)
    have NNk := Lib.hid (NN.out k hk)
    have CLk := Lib.hid (CLL.out k hk)
    have CNk := Lib.hid (CNO.out k)
    have CMk := Lib.hid (CM.out k)
    have ATk := Lib.hid (AT.out k)
    have RKk := Lib.hid (RK.out k hk)
    have PEk := Lib.hid (PE.out k)
    have PSk := Lib.hid (PS.out k hk)
    have NXk := Lib.hid (NX.out k)
    have C0k := Lib.hid (C0.out k)
    generalize hCk : CL k = Ck at *
    generalize hNBk : NB k = nb at *
    generalize hNK : nxf k = nk at *
    clear hCk hNBk hNK NEAR NN CLL CNO CM AT RK PE PS NX C0
    have zk := L1.out.W k hk
    have hk0 : (0 : Int) ≤ (k : Int) := by omega
    have hk1 : (k : Int) < (n : Int) := by omega
    go_wp2_with fail
    refine NR.out.mono ?_
    rintro e w2 ⟨g, rfl, hg, Gc, hb⟩
    have GC := Lib.hid Gc
    have O2 := Lib.hid (hO.out.kept hb)
    have B2 := Lib.hid (hB.out.trans (hb.mono hbs.out))
    have hs2 : Hid (w.heap.size + 1 ≤ w2.heap.size) := Lib.hid (Nat.le_trans hbs.out hb.size)
    have A2 := Lib.hid (A1.out.kept hb)
    have L2 := Lib.hid (L1.out.below hb)
    clear Gc hb hg NR zk
    have c2 := A2.out.at 2 rfl
    go_wp2
    go_loopw [8, 9] (fun c i wr => ∃ j m : Nat, j ≤ 4 ∧ i = .int .i64 (j : Int) ∧ c = .int .i64 ((Ck j : Nat) : Int) ∧ wr = w2.drewN m) (fun _ i _ => 4 - (intOf i).toNat)
    case atStart => exact ⟨0, 0, Nat.zero_le _, rfl, by rw [C0k.out], rfl⟩
    case round =>
      obtain ⟨j, m, hj, rfl, rfl, rfl⟩ := hrel
      have hG := N9.out
      by_cases hlt : j < 4
      · have z0 := GC.out.at j (ATk.out j hlt)
        have hi : (0 : Int) ≤ (j : Int) := by omega
        have hi' : (j : Int) < 4 := by omega
        have hcl := CLk.out j
        have CMj := Lib.hid (CMk.out j)
        have CNj := Lib.hid (CNk.out j)
        have zc := L2.out.W (Ck j) hcl
        generalize hcc : Ck j = cc at *
        have hc0 : (0 : Int) ≤ (cc : Int) := by omega
        have hc1 : (cc : Int) < (n : Int) := by omega
        by_cases hn0 : 0 ≤ nb j
        · obtain ⟨mm, hm, hmn⟩ := NNk.out j hn0
          have zm := L2.out.W mm hmn
          have CMm := Lib.hid (CMj.out mm hm)
          have hm' := hm
          rw [hm] at z0
          clear hn0 hm hm' hcc
          have hm0 : (0 : Int) ≤ (mm : Int) := by omega
          have hm1 : (mm : Int) < (n : Int) := by omega
          have f1 : decide ((0 : Int) ≤ (mm : Int)) = true := by simp
          cases hcw : cw r mm cc
          all_goals
            rw [hcw] at CMm
            unfold cw at hcw
            generalize r.W.getD mm 0 = ym at *
            generalize r.W.getD cc 0 = yc at *
            go_wp2
            refine wp_region_loose (fun _ _ _ => True) (by kernel_rfl) (by kernel_rfl) ?_
            try simp only [List.append]
            repeat ((with_reducible refine wpLoose_cons ?_); (first | ((with_reducible refine wpLoose_skip ?_ ?_); (focus (go_simp; done)); intro K hK; go_simp; refine hK _ ?_; clear hK K) | (refine wpLoose_farithG ?_ _ _ _ _ _ rfl rfl _ _ _ rfl rfl ?_; (focus (go_simp; done)); intro _ _) | (refine wpLoose_valG ?_ ?_ (fun w1 hw1 => ?_) (fun K hK => ?_); (focus (go_simp; done)); rotate_left; (focus (obtain ⟨nq, rfl⟩ := hw1; go_simp; first | done | rfl)); go_simp; refine hK _ ?_; clear hK K) | fail))
            (refine wpLoose_nil ?_; rintro _ ⟨nq, rfl⟩)
            go_wp2
            go_roundw
            case rel => exact ⟨j + 1, _, by omega, by go_num, by rw [CMm.out]; rfl, by first | rfl | rw [World.drewN_drewN]⟩
            case measure => simp [intOf]; omega
        · have f1 : decide ((0 : Int) ≤ nb j) = false := by simp; omega
          have E := Lib.hid (CNj.out (by omega))
          go_wp2
          refine wp_region_loose (fun _ _ _ => True) (by kernel_rfl) (by kernel_rfl) ?_
          try simp only [List.append]
          repeat ((with_reducible refine wpLoose_cons ?_); (first | ((with_reducible refine wpLoose_skip ?_ ?_); (focus (go_simp; done)); intro K hK; go_simp; refine hK _ ?_; clear hK K) | (refine wpLoose_farithG ?_ _ _ _ _ _ rfl rfl _ _ _ rfl rfl ?_; (focus (go_simp; done)); intro _ _) | (refine wpLoose_valG ?_ ?_ (fun w1 hw1 => ?_) (fun K hK => ?_); (focus (go_simp; done)); rotate_left; (focus (obtain ⟨nq, rfl⟩ := hw1; go_simp; first | done | rfl)); go_simp; refine hK _ ?_; clear hK K) | fail))
          (refine wpLoose_nil ?_; rintro _ ⟨nq, rfl⟩)
          go_wp2
          go_roundw
          case rel => exact ⟨j + 1, _, by omega, by go_num, by rw [E.out], by first | rfl | rw [World.drewN_drewN]⟩
          case measure => simp [intOf]; omega
      · have e4 : j = 4 := by omega
        subst e4
        rw [← NXk.out]
        clear GC ATk CMk CNk NNk c2
        by_cases hst : nk = k
        · have E := Lib.hid (PEk.out hst)
          have f1 : ((nk : Int) == (k : Int)) = true := by simp; omega
          have f2 : ((nk : Int) != (k : Int)) = false := by simp; omega
          clear hst
          go_wp2
          go_ret2
          refine ⟨_, rfl, ?_, ?_⟩
          · rw [hS.out, E.out]
            simpa using ((O2.out.drewN m).row (by have := hQ.out; simp; omega))
          · exact below_step Bw.out (below_drewN (by simpa using B2.out) _)
        · have E := Lib.hid (PSk.out hst)
          have RK2 := Lib.hid (RKk.out hst)
          have f1 : ((nk : Int) == (k : Int)) = false := by simp; omega
          have f2 : ((nk : Int) != (k : Int)) = true := by simp; omega
          have hnk : Hid (nk < n) := Lib.hid (by rw [NXk.out]; exact CLk.out 4)
          have QL : Hid ((Q ++ [(k : Int)]).length ≤ 1048576) := Lib.hid (by have := hQ.out; simp; omega)
          have Q2 : Hid ((Q ++ [(k : Int)]).length + 1 ≤ n + 1) := Lib.hid (by
            have h := LEN.out
            have p := PP.out nk
            rw [hS.out, E.out] at h
            simp only [List.length_append, List.length_cons, List.length_nil] at h ⊢
            omega)
          have S2 : Hid (SS = (Q ++ [(k : Int)]) ++ PT nk) := Lib.hid (by rw [hS.out, E.out]; simp)
          generalize hzs : Q ++ [(k : Int)] = zs at *
          clear hst hzs
          go_wp2_with (at_builtin; refine wpList_appJ rfl _ _ rfl (w.heap.size + 1) _ zs rfl ((O2.out.drewN _).al _) _ _ (nk : Int) rfl ((World.cell?_alloc_at _ _ _ _ (by simp)).trans rfl) QL.out (by have := hs2.out; simp; omega) ?_; intro v' w3 hown' hb; have O3 := Lib.hid hown'; have B3 := Lib.hid (((below_drewN B2.out _).alloc (by have := hs2.out; simp; omega) _).trans hb); clear hown' hb)
          go_roundw
          case rel => exact ⟨nk, zs, hnk.out, rfl, Lib.hid O3.out, S2, Q2, Lib.hid B3.out⟩
          case measure => have := RK2.out; simpa [intOf] using this
end Go.Proofs.Ytcjhaeiknenajaa
