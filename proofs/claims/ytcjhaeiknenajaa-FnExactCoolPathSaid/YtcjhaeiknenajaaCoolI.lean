/- The path to cooler cells: the program's side. -/
import Derived.Test.YtcjhaeiknenajaaCoolM
namespace Go.Proofs.Ytcjhaeiknenajaa
open Go.RowKit
set_option linter.unusedVariables false

theorem take_fold (r : PL) (L : List Int) (k q : Nat) (h : q < L.length) : (L.take (q + 1)).foldl (stp r) k = stp r ((L.take q).foldl (stp r) k) (L.getD q 0) := by
  rw [List.take_succ_eq_append_getElem h, List.foldl_append]
  simp [List.getD_eq_getElem?_getD, h]
theorem fold_lt {r : PL} {n : Nat} : ∀ (L : List Int) (k : Nat), k < n → (∀ m ∈ L, m.toNat < n) → L.foldl (stp r) k < n
  | [], k, hk, _ => hk
  | m :: L, k, hk, h => by
    refine fold_lt L (stp r k m) ?_ (fun x hx => h x (List.mem_cons_of_mem _ hx))
    unfold stp
    cases cw r m.toNat k
    · exact hk
    · exact h m (List.mem_cons_self ..)
set_option maxRecDepth 10000 in
set_option maxHeartbeats 4000000 in
theorem implCool_ok (r : PL) (n k0' : Nat) (b0 o0 k0 b1 o1 k1 b2 o2 k2 b3 o3 k3 : Nat) (w : World) (h : PRow w (ps b0 o0 n k0) (ps b1 o1 n k1) (ps b2 o2 n k2) (ps b3 o3 n k3) r) (hL0 : PLay w n b0 o0 b1 o1 b2 o2 b3 o3 r) (hl : PlN r n) (hf : ∀ k, k < n → fin .f32 (r.W.getD k 0) = true) (hk : k0' < n) (hv : vPl r = true) :
    Calls Try.prog 43 #[.agg #[.int .i64 r.X, .int .i64 r.Y, (ps b0 o0 n k0), (ps b1 o1 n k1), (ps b2 o2 n k2), (ps b3 o3 n k3)], .int .i64 (k0' : Int)] w (LstJO (pth r n k0') true w) := by
  have IV := Lib.hid (implPl_any _ _ _ _ r _ (h.below (below_al1 w (.cells (pvs r (ps b0 o0 n k0) (ps b1 o1 n k1) (ps b2 o2 n k2) (ps b3 o3 n k3)).toArray 28))))
  rw [hv] at IV
  have LY := Lib.hid (hL0.below (below_al1 w (.cells (pvs r (ps b0 o0 n k0) (ps b1 o1 n k1) (ps b2 o2 n k2) (ps b3 o3 n k3)).toArray 28)))
  have A := Lib.hid (Cells.made w (pvs r (ps b0 o0 n k0) (ps b1 o1 n k1) (ps b2 o2 n k2) (ps b3 o3 n k3)) 28)
  have Bw := Lib.hid (below_al1 w (.cells (pvs r (ps b0 o0 n k0) (ps b1 o1 n k1) (ps b2 o2 n k2) (ps b3 o3 n k3)).toArray 28))
  have NB := Lib.hid (fun k (hk : k < n) w1 => implNb_any _ _ _ _ k (ps b0 o0 n k0) (ps b1 o1 n k1) (ps b2 o2 n k2) (ps b3 o3 n k3) r w1 (Sd.std hl) rfl hk)
  have NLT := Lib.hid (fun k (hk : k < n) m (hm : m ∈ nbL r.X.toNat (r.X.toNat * (r.Y.toNat - 1)) k 4) => by
    obtain ⟨j, _, h0, e⟩ := (nbL_mem 4).1 hm
    obtain ⟨mm, em, hmn⟩ := nbr_nat (Sd.std hl) rfl hk j h0
    have : m = (mm : Int) := by rw [← e]; exact em
    show (0 : Int) ≤ m ∧ m.toNat < n
    omega)
  have NLL := Lib.hid (fun k => nbL_len r.X.toNat (r.X.toNat * (r.Y.toNat - 1)) k 4)
  have NX : Hid (∀ k, nx r k = (nbL r.X.toNat (r.X.toNat * (r.Y.toNat - 1)) k 4).foldl (stp r) k) := Lib.hid (fun k => cl_fold r _ _ k 4)
  have RK := Lib.hid (fun k (hk : k < n) h => nx_rank hl hf hk h)
  have PE := Lib.hid (fun k h => pth_end (r := r) (n := n) (k := k) hl.p h)
  have PS := Lib.hid (fun k (hk : k < n) h => pth_step hl hf hk h)
  have LEN := Lib.hid (pth_len r n k0')
  have PP := Lib.hid (fun k => pth_pos r n k)
  have N9 := Lib.hid hl.q
  have HK := Lib.hid hk
  have NN := Lib.hid hl
  have CK : Hid ((decide ((0 : Int) ≤ (k0' : Int)) && decide ((k0' : Int) < (n : Int))) = true) := Lib.hid (by simp; omega)
  clear h hL0 hl hf hk hv
  generalize hSS : pth r n k0' = SS at *
  have PK0 : Hid (SS = [] ++ pth r n k0') := Lib.hid (by rw [hSS]; rfl)
  clear hSS
  generalize hNL : nbL r.X.toNat (r.X.toNat * (r.Y.toNat - 1)) = NL at *
  clear hNL
  generalize nx r = nxf at *
  generalize hpt : pth r n = PT at *
  clear hpt
  generalize hrk : rank r n = RNK at *
  clear hrk
  go_enter Try.func43, Try.ntmps43
  go_wp2_with fail
  refine IV.out.mono ?_
  rintro e w1 ⟨rfl, hb⟩
  have Bw := Lib.hid (below_step Bw.out hb)
  have A := Lib.hid (A.out.kept hb)
  have LY := Lib.hid (LY.out.below hb)
  have c0 := A.out.at 0 rfl; have c1 := A.out.at 1 rfl; have c2 := A.out.at 2 rfl; have c3 := A.out.at 3 rfl; have c4 := A.out.at 4 rfl; have c5 := A.out.at 5 rfl
  clear hb
  go_wp2_with fail
  refine (isCell_any r _ _ _ _ n _ _ NN.out).mono ?_
  rw [CK.out]
  rintro e w2 ⟨rfl, hb⟩
  clear c0 c1 c2 c3 c4 c5
  have Bw := Lib.hid (below_step Bw.out hb)
  have A := Lib.hid (A.out.kept hb)
  have LY := Lib.hid (LY.out.below hb)
  have c0 := A.out.at 0 rfl; have c1 := A.out.at 1 rfl; have c2 := A.out.at 2 rfl; have c3 := A.out.at 3 rfl; have c4 := A.out.at 4 rfl; have c5 := A.out.at 5 rfl
  clear hb
  have B9 := Lib.hid Bw.out
  have hw2 : Hid (w.heap.size + 1 ≤ w2.heap.size) := Lib.hid A.out.lt
  go_wp2_with fail
  go_loopw [1, 6] (fun i v wr => ∃ (k : Nat) (Q : List Int), k < n ∧ i = .int .i64 (k : Int) ∧ Hid (OwnJ wr w2.heap.size v (Q ++ [(k : Int)])) ∧ Hid (SS = Q ++ PT k) ∧ Hid (Q.length + 1 ≤ n + 1) ∧ Hid (Below w2.heap.size w2 wr)) (fun i _ _ => RNK (intOf i).toNat)
  case atStart => exact ⟨k0', [], HK.out, rfl, Lib.hid (by have := OwnJ.lit1 w2 w2.heap.size (Nat.le_refl _) (k0' : Int); simpa using this), PK0, Lib.hid (by simp), Lib.hid (below_al1 _ _)⟩
  case round =>
    obtain ⟨k, Q, hk, rfl, hO, hS, hQ, hB⟩ := hrel
    have hG := N9.out
    have A1 := Lib.hid (A.out.kept hB.out)
    have L1 := Lib.hid (LY.out.below hB.out)
    have hbs : Hid (w2.heap.size ≤ wr.heap.size) := Lib.hid hB.out.size
    have NR := Lib.hid (NB.out k hk)
    have NLTk := Lib.hid (NLT.out k hk)
    have NLLk := Lib.hid (NLL.out k)
    have RKk := Lib.hid (RK.out k hk)
    have PEk := Lib.hid (PE.out k)
    have PSk := Lib.hid (PS.out k hk)
    have NXk := Lib.hid (NX.out k)
    generalize hNLk : NL k 4 = L at *
    generalize hNK : nxf k = nk at *
    clear hNLk hNK NB NLT NLL RK PE PS NX
    have hk0 : (0 : Int) ≤ (k : Int) := by omega
    have hk1 : (k : Int) < (n : Int) := by omega
    clear c0 c1 c2 c3 c4 c5
    have c0 := A1.out.at 0 rfl; have c1 := A1.out.at 1 rfl; have c2 := A1.out.at 2 rfl; have c3 := A1.out.at 3 rfl; have c4 := A1.out.at 4 rfl; have c5 := A1.out.at 5 rfl
    go_wp2_with fail
    refine (NR.out _).mono ?_
    rintro e w3 ⟨vL, rfl, hOL, hb⟩
    have JL := Lib.hid (hOL.row (by have := NLLk.out; omega))
    have O2 := Lib.hid (hO.out.kept hb)
    have B2 := Lib.hid (hB.out.trans (hb.mono hbs.out))
    have hs2 : Hid (w2.heap.size ≤ w3.heap.size) := Lib.hid (Nat.le_trans hbs.out hb.size)
    have A2 := Lib.hid (A1.out.kept hb)
    have L2 := Lib.hid (L1.out.below hb)
    clear hb hOL NR c0 c1 c2 c3 c4 c5
    have c2 := A2.out.at 2 rfl
    have FL := Lib.hid (fun q => fold_lt (r := r) (n := n) (L.take q) k hk (fun m hm => (NLTk.out m (List.mem_of_mem_take hm)).2))
    have TF := Lib.hid (fun q h => take_fold r L k q h)
    have TE : Hid ((L.take L.length).foldl (stp r) k = nk) := Lib.hid (by rw [List.take_length]; exact NXk.out.symm)
    have T0 : Hid ((L.take 0).foldl (stp r) k = k) := Lib.hid rfl
    have LG := Lib.hid (fun q (h : q < L.length) => NLTk.out (L.getD q 0) (by simp [List.getD_eq_getElem?_getD, h]))
    have HC := Lib.hid (fun (hn : 1 ≤ L.length) => JL.out.cells hn)
    obtain ⟨ga, gc, rfl⟩ := JL.out.shape
    generalize hTK : (fun q => (L.take q).foldl (stp r) k) = TK
    have FL2 : Hid (∀ q, TK q < n) := Lib.hid (fun q => by rw [← hTK]; exact FL.out q)
    have TF2 : Hid (∀ q, q < L.length → TK (q + 1) = stp r (TK q) (L.getD q 0)) := Lib.hid (fun q h => by rw [← hTK]; exact TF.out q h)
    have TE2 : Hid (TK L.length = nk) := Lib.hid (by rw [← hTK]; exact TE.out)
    have T02 : Hid (TK 0 = k) := Lib.hid (by rw [← hTK]; rfl)
    clear hTK FL TF TE T0 JL NXk NLTk
    have LL := Lib.hid NLLk.out
    generalize hlen : L.length = ln at *
    clear hlen NLLk
    go_wp2
    go_loopw [7, 26] (fun c i wr => ∃ j m : Nat, j ≤ ln ∧ i = .int .i64 (j : Int) ∧ c = .int .i64 ((TK j : Nat) : Int) ∧ wr = w3.drewN m) (fun _ i _ => ln - (intOf i).toNat)
    case atStart => exact ⟨0, 0, Nat.zero_le _, rfl, by rw [T02.out], rfl⟩
    case round =>
      obtain ⟨j, m, hj, rfl, rfl, rfl⟩ := hrel
      have hG := N9.out
      have hl4 := LL.out
      by_cases hlt : j < ln
      · obtain ⟨gb, go', gc', ge, hcc⟩ := HC.out (by omega)
        have ea : ga = some ⟨gb, go', none⟩ := by cases ge; rfl
        have z0 := hcc j hlt
        subst ea
        clear ge hcc
        have hi : (0 : Int) ≤ (j : Int) := by omega
        have hi' : (j : Int) < (ln : Int) := by omega
        have hcl := FL2.out j
        have TFj := Lib.hid (TF2.out j hlt)
        obtain ⟨lg0, lg1⟩ := LG.out j hlt
        generalize L.getD j 0 = mv at *
        obtain ⟨mm, rfl⟩ : ∃ mm : Nat, mv = (mm : Int) := ⟨mv.toNat, by omega⟩
        rw [Int.toNat_natCast] at lg1
        have zc := L2.out.W (TK j) hcl
        have zm := L2.out.W mm lg1
        generalize hcc : TK j = cc at *
        clear hcc
        have hc0 : (0 : Int) ≤ (cc : Int) := by omega
        have hc1 : (cc : Int) < (n : Int) := by omega
        have hm1 : (mm : Int) < (n : Int) := by omega
        have ST : Hid (stp r cc (mm : Int) = bif cw r mm cc then mm else cc) := Lib.hid rfl
        cases hcw : cw r mm cc
        all_goals
          rw [hcw] at ST
          unfold cw at hcw
          generalize r.W.getD mm 0 = ym at *
          generalize r.W.getD cc 0 = yc at *
          go_wp2
          refine wp_region_loose (fun _ _ _ => True) (by kernel_rfl) (by kernel_rfl) ?_
          repeat (first | (refine wpLoose_farith rfl _ _ _ _ _ rfl rfl _ _ _ rfl rfl ?_; intro _ _) | (refine wpLoose_valK rfl ?_ (fun w1 hw1 => ?_) (fun K hK => ?_); rotate_left; (focus (obtain ⟨nq, rfl⟩ := hw1; go_simp; first | done | rfl)); go_simp; refine hK _ ?_; clear hK K))
          (refine wpLoose_nil ?_; rintro _ ⟨nq, rfl⟩)
          go_wp2
          go_roundw
          case rel => exact ⟨j + 1, _, by omega, by go_num, by rw [TFj.out, ST.out]; rfl, by first | rfl | rw [World.drewN_drewN]⟩
          case measure => simp [intOf]; omega
      · have e4 : j = ln := by omega
        subst e4
        rw [TE2.out]
        clear HC LG c2
        by_cases hst : nk = k
        · have E := Lib.hid (PEk.out hst)
          have f1 : ((nk : Int) == (k : Int)) = true := by simp; omega
          have f2 : ((nk : Int) != (k : Int)) = false := by simp; omega
          clear hst
          go_wp2
          go_ret2
          refine ⟨_, rfl, ?_, ?_⟩
          · rw [hS.out, E.out]
            simpa using ((O2.out.drewN m).orow.mono (Nat.le_trans (Nat.le_succ _) hw2.out))
          · exact below_step B9.out (below_drewN B2.out _)
        · have E := Lib.hid (PSk.out hst)
          have RK2 := Lib.hid (RKk.out hst)
          have f1 : ((nk : Int) == (k : Int)) = false := by simp; omega
          have f2 : ((nk : Int) != (k : Int)) = true := by simp; omega
          have hnk : Hid (nk < n) := Lib.hid (by rw [← TE2.out]; exact FL2.out _)
          have QL : Hid ((Q ++ [(k : Int)]).length ≤ 1048576) := Lib.hid (by have := hQ.out; simp; omega)
          have Q2 : Hid ((Q ++ [(k : Int)]).length + 1 ≤ n + 1) := Lib.hid (by
            have h := LEN.out
            have p := PP.out nk
            rw [hS.out, E.out] at h
            simp only [List.length_append, List.length_cons, List.length_nil] at h ⊢
            omega)
          have S2 : Hid (SS = (Q ++ [(k : Int)]) ++ PT nk) := Lib.hid (by rw [hS.out, E.out]; simp)
          generalize hzs : Q ++ [(k : Int)] = zs at *
          clear hst hzs
          go_wp2_with (at_builtin; refine wpList_appJ rfl _ _ rfl w2.heap.size _ zs rfl ((O2.out.drewN _).al _) _ _ (nk : Int) rfl ((World.cell?_alloc_at _ _ _ _ (by simp)).trans rfl) QL.out (by have := hs2.out; simp; omega) ?_; intro v' w5 hown' hb; have O3 := Lib.hid hown'; have B3 := Lib.hid (((below_drewN B2.out _).alloc (by have := hs2.out; simp; omega) _).trans hb); clear hown' hb)
          go_roundw
          case rel => exact ⟨nk, zs, hnk.out, rfl, Lib.hid O3.out, S2, Q2, Lib.hid B3.out⟩
          case measure => have := RK2.out; simpa [intOf] using this
end Go.Proofs.Ytcjhaeiknenajaa
