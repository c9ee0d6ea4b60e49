/- What flows into a cell of a plate: the specification's side. -/
import Derived.Test.YtcjhaeiknenajaaFlowM
import Derived.Test.YtcjhaeiknenajaaLooseG
namespace Go.Proofs.Ytcjhaeiknenajaa
open Go.RowKit
set_option linter.unusedVariables false

theorem nvs_at (x z k : Nat) : ∀ j, j < 4 → (nvs x z k)[j]? = some (.int .i64 (nbr x z k j))
  | 0, _ => rfl
  | 1, _ => rfl
  | 2, _ => rfl
  | 3, _ => rfl
theorem giv_fin {I s : Nat} {w w' : World} (h : cn .f32 s = I) (hb : Below w.heap.size w w') : GivB (ifF I) (fin .f32 I) w (.returned (.tuple #[.float .f32 (ifF s), .bool (fin .f32 s)])) w' := GivB.num h hb
theorem giv_nf {I : Nat} {w w' : World} (h : fin .f32 I = false) (hb : Below w.heap.size w w') : GivB (ifF I) (fin .f32 I) w (.returned (.tuple #[.float .f32 0, .bool false])) w' := by
  have e : ifF I = 0 := by unfold ifF; rw [h]; rfl
  rw [e, h]; exact GivB.no hb

set_option maxRecDepth 10000 in
set_option maxHeartbeats 1600000 in
theorem specInto_any (x y z n k : Nat) (a b c d : Value) (r : PL) (p : Nat) (w : World) (A0 : Cells w p (pvs r a b c d)) (h : PRow w a b c d r) (hl : PlN r n) (S : Sd r x y n) (hz : x * (y - 1) = z) (hk : k < n) :
    Calls Try.prog 74 #[.pointer (some ⟨p, 0, none⟩), .int .i64 (k : Int)] w (GivB (ifF (inS r x z k 4)) (fin .f32 (inS r x z k 4)) w) := by
  obtain ⟨b0, o0, k0, b1, o1, k1, b2, o2, k2, b3, o3, k3, rfl, rfl, rfl, rfl, hL⟩ := h.lay hl
  have A := Lib.hid A0
  have LY := Lib.hid hL
  have N9 := Lib.hid hl.q
  have NEAR := Lib.hid (specNear_any x y z n k _ _ _ _ r p w A0 S hz hk)
  have NN := Lib.hid (fun j h => nbr_nat S hz hk j h)
  have NF := Lib.hid (fun j m hj h hf => inS_nf (r := r) (x := x) (z := z) (k := k) (j := j) (m := m) hj h hf)
  have SK := Lib.hid (fun j h => inS_skip (r := r) (x := x) (z := z) (k := k) (j := j) h)
  have TK := Lib.hid (fun j m h => inS_take (r := r) (x := x) (z := z) (k := k) (j := j) (m := m) h)
  have S0 : Hid (cn .f32 0 = inS r x z k 0) := Lib.hid (show cn .f32 0 = 0 by decide +kernel)
  have AT := Lib.hid (nvs_at x z k)
  have HK := Lib.hid hk
  clear A0 h hl S hz hL
  generalize inS r x z k = I at *
  generalize nbr x z k = nb at *

  have c0 := A.out.at 0 rfl; have c1 := A.out.at 1 rfl; have c2 := A.out.at 2 rfl; have c3 := A.out.at 3 rfl; have c4 := A.out.at 4 rfl; have c5 := A.out.at 5 rfl
  go_enter Try.func74, Try.ntmps74
  go_wp2_with fail
  refine NEAR.out.mono ?_
  rintro e w1 ⟨g, rfl, hg, Gc, hb⟩
  have GC := Lib.hid Gc
  have Bw := Lib.hid hb
  have A := Lib.hid (A.out.kept hb)
  have LY := Lib.hid (LY.out.below hb)
  clear c0 c1 c2 c3 c4 c5
  clear Gc hb hg NEAR
  have c0 := A.out.at 0 rfl; have c1 := A.out.at 1 rfl; have c2 := A.out.at 2 rfl; have c3 := A.out.at 3 rfl; have c4 := A.out.at 4 rfl; have c5 := A.out.at 5 rfl
  go_wp2
  go_loopw [7, 8] (fun s i wr => ∃ j x m : Nat, j ≤ 4 ∧ i = .int .i64 j ∧ s = .float .f32 x ∧ Hid (cn .f32 x = I j) ∧ wr = w1.drewN m) (fun _ i _ => 4 - (intOf i).toNat)
  case atStart => exact ⟨0, 0, 0, Nat.zero_le _, rfl, rfl, S0, rfl⟩
  case round =>
    obtain ⟨j, x, m, hj, rfl, rfl, hx, rfl⟩ := hrel
    have hn := N9.out
    have hk := HK.out
    by_cases hlt : j < 4
    · have z0 := GC.out.at j (AT.out j hlt)
      have hi : (0 : Int) ≤ (j : Int) := by omega
      have hi' : (j : Int) < 4 := by omega
      by_cases hn0 : 0 ≤ nb j
      · obtain ⟨mm, hm, hmn⟩ := NN.out j hn0
        have T := Lib.hid (TK.out j mm hm)
        have NFj := Lib.hid (NF.out j mm hlt hm)
        rw [hm] at z0
        have zk := LY.out.W k hk
        have zm := LY.out.W mm hmn
        have PS := Lib.hid (fun q => specPass_any r _ _ _ b1 o1 k1 n k mm p (w1.drewN q) A.out.drewN hn hk hmn (fun i hi => LY.out.E i hi))
        have F0 : Hid (flF r k mm = fop .mul .f32 (psF r k mm) (fop .sub .f32 (cn .f32 (r.W.getD mm 0)) (cn .f32 (r.W.getD k 0)))) := Lib.hid rfl
        generalize flF r k mm = FL at *
        generalize psF r k mm = PP at *
        generalize r.W.getD k 0 = yk at *
        generalize r.W.getD mm 0 = ym at *
        have f1 : decide ((mm : Int) < 0) = false := by simp
        have hm0 : (0 : Int) ≤ (mm : Int) := by omega
        have hm1 : (mm : Int) < (n : Int) := by omega
        have hk0 : (0 : Int) ≤ (k : Int) := by omega
        have hk1 : (k : Int) < (n : Int) := by omega
        clear hn0 hm
        go_wp2_with fail
        refine (PS.out _).mono ?_
        rintro e w' ⟨s, hs, rfl, q, rfl⟩
        have HS := Lib.hid hs
        have hf : fin .f32 s = fin .f32 PP := by rw [← hs, fin_cn]
        clear hs
        cases B : fin .f32 PP
        · rw [B] at hf
          have V := Lib.hid (NFj.out B)
          go_wp2_with fail
          refine (specFinite_any s _).mono ?_
          rw [hf]
          rintro e w' ⟨rfl, q2, rfl⟩
          go_wp2
          go_ret2
          exact giv_nf V.out (by first | exact below_drewN Bw.out _ | exact Bw.out)
        · rw [B] at hf
          go_wp2_with fail
          refine (specFinite_any s _).mono ?_
          rw [hf]
          rintro e w' ⟨rfl, q2, rfl⟩
          go_wp2
          refine wp_region_loose (fun _ _ _ => True) (by kernel_rfl) (by kernel_rfl) ?_
          repeat (first | (refine wpLoose_farith rfl _ _ _ _ _ rfl rfl _ _ _ rfl rfl ?_; intro _ _) | (refine wpLoose_valK rfl ?_ (fun w1 hw1 => ?_) (fun K hK => ?_); rotate_left; (focus (obtain ⟨nq, rfl⟩ := hw1; go_simp; first | done | rfl)); go_simp; refine hK _ ?_; clear hK K))
          (refine wpLoose_nil ?_; rintro _ ⟨nq, rfl⟩)
          go_wp2
          rename_i r1 g1 r2 g2 r3 g3
          go_roundw
          case rel => exact ⟨j + 1, _, _, by omega, by go_num, rfl, Lib.hid (by rw [g3.1, g2.1, g1.1, hx.out, HS.out, T.out, F0.out]), by first | rfl | rw [World.drewN_drewN]⟩
          case measure => simp [intOf]; omega
      · have T := Lib.hid (SK.out j (by omega))
        have f1 : decide (nb j < 0) = true := by simp; omega
        have f2 : nb j < 0 := by omega
        go_wp2
        go_roundw
        case rel => exact ⟨j + 1, _, _, by omega, by go_num, rfl, Lib.hid (by rw [hx.out, T.out]), rfl⟩
        case measure => simp [intOf]; omega
    · have e := Lib.hid (show j = 4 by omega)
      go_wp2_with fail
      refine (specNum_any _ _).mono ?_
      rintro e w' ⟨rfl, q2, rfl⟩
      go_wp2
      go_ret2
      exact giv_fin (by rw [hx.out, e.out]) (by first | exact below_drewN Bw.out _ | exact Bw.out)
end Go.Proofs.Ytcjhaeiknenajaa
