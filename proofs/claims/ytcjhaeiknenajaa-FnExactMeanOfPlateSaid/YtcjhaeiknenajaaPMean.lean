/- The mean warmth of a plate: both sides, and the law. -/
import Derived.Test.YtcjhaeiknenajaaPlLay
import Derived.Test.YtcjhaeiknenajaaOpenP
import Derived.Test.YtcjhaeiknenajaaSumI
import Derived.Deep.RegionHeld3
namespace Go.Proofs.Ytcjhaeiknenajaa
open Go.RowKit
set_option linter.unusedVariables false

theorem specSumL_any (v : Value) (zs : List Nat) (w : World) (h : FRow w v zs) : Calls Try.prog 106 #[v] w (FloS (sumF zs) w) := by
  rcases h with ⟨⟨a0, c0, rfl⟩, rfl⟩ | ⟨b, off, cap, rfl, hm, hc⟩
  · go_enter Try.func106, Try.ntmps106
    go_wp2
    go_loop [3, 4] (fun s i => i = .int .i64 0 ∧ s = .float .f32 0) (fun _ _ => 0)
    case atStart => exact ⟨rfl, rfl⟩
    case round =>
      obtain ⟨rfl, rfl⟩ := hrel
      go_wp2
      go_ret
      exact ⟨0, 0, rfl, rfl, rfl⟩
  · unfold maxLen at hm
    have Hsum := Lib.hid (fun k (h : k < zs.length) => sumF_succ zs k h)
    have Htake : Hid (zs.take zs.length = zs) := Lib.hid (List.take_length)
    have H0 : Hid (cn .f32 0 = sumF (zs.take 0)) := Lib.hid rfl
    generalize hn : zs.length = n at *
    clear hn
    go_enter Try.func106, Try.ntmps106
    go_wp2
    go_loopw [3, 4] (fun s i wr => ∃ k r q : Nat, k ≤ n ∧ i = .int .i64 k ∧ s = .float .f32 r ∧ Hid (cn .f32 r = sumF (zs.take k)) ∧ wr = w.drewN q) (fun _ i _ => n - (intOf i).toNat)
    case atStart => exact ⟨0, 0, 0, Nat.zero_le _, rfl, rfl, H0, rfl⟩
    case round =>
      obtain ⟨k, r, q, hk, rfl, rfl, hr, rfl⟩ := hrel
      by_cases hlt : k < n
      · have h1 := hc k hlt
        have hs := Lib.hid (Hsum.out k hlt)
        clear hc
        go_wp2_with (refine wpList_farith rfl _ _ _ _ _ rfl rfl _ _ _ rfl rfl ?_; intro _ _ _)
        rename_i r' j hfr
        go_roundw
        case rel => exact ⟨k + 1, r', _, by omega, by go_num, rfl, Lib.hid (by rw [hs.out, ← hr.out, hfr.1]; simp), rfl⟩
        case measure => simp [intOf]; omega
      · have e := Lib.hid (show k = n by omega)
        clear hc
        go_wp2
        go_ret
        have := e.out
        subst this
        exact ⟨r, _, by rw [hr.out, Htake.out], rfl, rfl⟩


def mT (r : PL) : Nat := fop .quo .f32 (sumF r.W) (cn .f32 (floatOfInt .f32 (r.W.length : Int)))
theorem specMeanP_any (a b c d : Value) (r : PL) (n : Nat) (p : Nat) (w : World) (A0 : Cells w p (pvs r a b c d)) (h : PRow w a b c d r) (hN : PlN r n) : Calls Try.prog 81 #[.pointer (some ⟨p, 0, none⟩)] w (FloS (mT r) w) := by
  have A := Lib.hid A0
  clear A0
  unfold mT
  have hq := hN.q
  have hm : maxLen = 9223372036854775807 := rfl
  have FW := Lib.hid h.W
  obtain ⟨a1, a2, rfl⟩ := h.W.shape
  clear h
  rw [hN.W] at FW A ⊢
  generalize hS : sumF r.W = S
  have HS := Lib.hid hS
  clear hS hN
  have c0 := A.out.at 0 rfl; have c1 := A.out.at 1 rfl; have c2 := A.out.at 2 rfl; have c3 := A.out.at 3 rfl; have c4 := A.out.at 4 rfl; have c5 := A.out.at 5 rfl
  go_enter Try.func81, Try.ntmps81
  go_wp2
  refine wp_region_loose (fun _ _ v => ∃ x, cn .f32 x = S ∧ v = .float .f32 x) (by kernel_rfl) (by kernel_rfl) ?_
  repeat (first | (refine wpLoose_farith rfl _ _ _ _ _ rfl rfl _ _ _ rfl rfl ?_; intro _ _) | (refine wpLoose_valK rfl ?_ (fun w1 hw1 => ?_) (fun K hK => ?_); rotate_left; (focus (obtain ⟨nq, rfl⟩ := hw1; go_simp; first | done | rfl)); go_simp; refine hK _ ?_; clear hK K))
  refine wpLoose_call rfl 106 #[.slice a1 n a2] (fun w1 => ?_) (fun w1 hw1 => ?_) ?_
  · go_simp
  · obtain ⟨nq, rfl⟩ := hw1
    refine (specSumL_any _ r.W _ (FW.out.drewN)).mono ?_
    rintro e w2 ⟨x, n, hx, rfl, rfl⟩
    exact ⟨_, rfl, ⟨x, by rw [hx, HS.out], rfl⟩, n, rfl⟩
  rintro v ⟨x, hx, rfl⟩
  have X := Lib.hid hx
  clear hx
  repeat (first | (refine wpLoose_farith rfl _ _ _ _ _ rfl rfl _ _ _ rfl rfl ?_; intro _ _) | (refine wpLoose_valK rfl ?_ (fun w1 hw1 => ?_) (fun K hK => ?_); rotate_left; (focus (obtain ⟨nq, rfl⟩ := hw1; go_simp; first | done | rfl)); go_simp; refine hK _ ?_; clear hK K))
  (refine wpLoose_nil ?_; rintro _ ⟨nq, rfl⟩)
  go_wp2
  go_ret
  rename_i y hy
  exact ⟨y, _, by rw [hy.1, X.out], rfl, rfl⟩

set_option maxHeartbeats 800000 in
theorem specMean_any (a b c d : Value) (r : PL) (w : World) (h : PRow w a b c d r) : Calls Try.prog 33 #[.agg #[.int .i64 r.X, .int .i64 r.Y, a, b, c, d]] w (GivB (cS (vPl r) (mT r)) (cB (vPl r) (mT r)) w) := by
  have IV := Lib.hid (specPl_any a b c d r w.heap.size _ (Cells.made w (pvs r a b c d) 28) (h.below (below_al1 w (.cells (pvs r a b c d).toArray 28))))
  cases hv : vPl r
  · have E0 := Lib.hid (fun w' hb => cGiv_no (V := mT r) (w := w) (w' := w') hv hb)
    rw [hv] at IV E0
    clear h
    go_enter Try.func33, Try.ntmps33
    go_wp2_with fail
    refine IV.out.mono ?_
    rintro e w' ⟨rfl, n1, rfl⟩
    go_wp2
    go_ret2
    exact E0.out _ (by first | exact below_drewN (below_al1 _ _) _ | exact below_step (below_al1 _ _) hb)
  · have E1 := Lib.hid (fun x w' hx hb => cGiv_yes (V := mT r) (x := x) (w := w) (w' := w') hv hx hb)
    rw [hv] at IV E1
    have NN0 := PlN.ofV hv
    generalize cS true (mT r) = GS at *
    generalize cB true (mT r) = GB at *
    have A := Lib.hid (Cells.made w (pvs r a b c d) 28)
    have R := Lib.hid (h.below (below_al1 w (.cells (pvs r a b c d).toArray 28)))
    have Bw := Lib.hid (below_al1 w (.cells (pvs r a b c d).toArray 28))
    have NNh := Lib.hid NN0
    clear hv h NN0
    go_enter Try.func33, Try.ntmps33
    go_wp2_with fail
    refine IV.out.mono ?_
    rintro e w' ⟨rfl, n1, rfl⟩
    go_wp2_with fail
    refine (specMeanP_any a b c d r _ _ _ A.out.drewN (R.out.below (below_drewN (Below.refl _ _) _)) NNh.out).mono ?_
    rintro e w' ⟨x, n2, hx, rfl, rfl⟩
    have X := Lib.hid hx
    clear hx
    go_wp2_with (first | (go_at_call 67; refine (specNum_any _ _).mono ?_; rintro e w' ⟨rfl, n3, rfl⟩))
    go_ret2
    exact E1.out _ _ X.out (by first | exact below_drewN (below_al1 _ _) _ | exact below_al1 _ _)

set_option maxHeartbeats 800000 in
theorem implMean_any (a b c d : Value) (r : PL) (w : World) (h : PRow w a b c d r) : Calls Try.prog 34 #[.agg #[.int .i64 r.X, .int .i64 r.Y, a, b, c, d]] w (GivB (cS (vPl r) (mT r)) (cB (vPl r) (mT r)) w) := by
  have IV := Lib.hid (implPl_any a b c d r _ (h.below (below_al1 w (.cells (pvs r a b c d).toArray 28))))
  cases hv : vPl r
  · have E0 := Lib.hid (fun w' hb => cGiv_no (V := mT r) (w := w) (w' := w') hv hb)
    rw [hv] at IV E0
    clear h
    go_enter Try.func34, Try.ntmps34
    go_wp2_with fail
    refine IV.out.mono ?_
    rintro e w' ⟨rfl, hb⟩
    go_wp2
    go_ret2
    exact E0.out _ (by first | exact below_drewN (below_al1 _ _) _ | exact below_step (below_al1 _ _) hb)
  · have E1 := Lib.hid (fun x w' hx hb => cGiv_yes (V := mT r) (x := x) (w := w) (w' := w') hv hx hb)
    rw [hv] at IV E1
    have NN0 := PlN.ofV hv
    generalize cS true (mT r) = GS at *
    generalize cB true (mT r) = GB at *
    have A := Lib.hid (Cells.made w (pvs r a b c d) 28)
    have R := Lib.hid (h.below (below_al1 w (.cells (pvs r a b c d).toArray 28)))
    have Bw := Lib.hid (below_al1 w (.cells (pvs r a b c d).toArray 28))
    have FW := Lib.hid R.out.W
    obtain ⟨a1, a2, rfl⟩ := h.W.shape
    have hq := NN0.q
    have E2 : Hid (∀ {x y : Nat} {w' : World}, FR .quo .f32 x (floatOfInt .f32 (r.W.length : Int)) y → cn .f32 x = sumF r.W → Below w.heap.size w w' → GivB GS GB w (.returned (.tuple #[.float .f32 (ifF y), .bool (fin .f32 y)])) w') := Lib.hid (fun h1 h2 hb => E1.out _ _ (by rw [h1.1, h2]; rfl) hb)
    have hW := NN0.W
    have hm : maxLen = 9223372036854775807 := rfl
    have n256 : Hid (r.W.length ≤ 256) := Lib.hid (by omega)
    clear hv h NN0 E1
    have SM := Lib.hid (fun w1 (hb : Below w.heap.size w w1) => implSum_few (.slice a1 r.W.length a2) r.W w1)
    clear SM
    generalize hn : r.W.length = n at *
    have SI := Lib.hid (fun v w1 h => implSum_few v r.W w1 h (by rw [hn]; exact n256.out))
    generalize sumF r.W = S at *
    clear hn n256 hW
    go_enter Try.func34, Try.ntmps34
    go_wp2_with fail
    refine IV.out.mono ?_
    rintro e w1 ⟨rfl, hb⟩
    have Bw := Lib.hid (below_step Bw.out hb)
    have A := Lib.hid (A.out.kept hb)
    have FW := Lib.hid (FW.out.below hb)
    have c0 := A.out.at 0 rfl; have c1 := A.out.at 1 rfl; have c2 := A.out.at 2 rfl; have c3 := A.out.at 3 rfl; have c4 := A.out.at 4 rfl; have c5 := A.out.at 5 rfl
    clear hb
    go_wp2_with fail
    refine (SI.out _ _ FW.out).mono ?_
    rintro e w2 ⟨x, n2, hx, rfl, rfl⟩
    have X := Lib.hid hx
    have B9 := Lib.hid Bw.out
    clear hx
    go_wp2_with (first | (refine wpList_farith rfl _ _ _ _ _ rfl rfl _ _ _ rfl rfl ?_; intro _ _ _) | (go_at_call 72; refine (implNum_any _ _).mono ?_; rintro e w' ⟨rfl, n3, rfl⟩))
    go_ret2
    rename_i h1
    exact E2.out h1 X.out (by first | exact below_drewN B9.out _ | exact B9.out)

set_option maxRecDepth 10000 in
set_option maxHeartbeats 1600000 in
theorem fnExactMeanOfPlate_walk (r : PL) (a b c d : Value) (w : World) (h : PRow w a b c d r) (hf : PWf r) :
    Calls Try.prog 10 #[.agg #[.int .i64 r.X, .int .i64 r.Y, a, b, c, d]] w (Tru w) := by
  have R := Lib.hid (fun w1 (hb : Below w.heap.size w w1) => h.below hb)
  have PW := Lib.hid hf
  clear h hf
  have A := Lib.hid (Cells.made w (pvs r a b c d) 25)
  have Bw := Lib.hid (below_al1 w (.cells (pvs r a b c d).toArray 25))
  by_cases hl : r.size ≤ 1048576
  · have HL := Lib.hid hl
    clear hl
    go_enter Try.func10, Try.ntmps10
    go_wp2_with fail
    refine (szPlate_fit a b c d r 1048576 _ (R.out _ Bw.out) HL.out (Nat.le_refl _)).mono ?_
    rintro _ w1 ⟨rfl, hb⟩
    have Bw := Lib.hid (below_step Bw.out hb); have A := Lib.hid (A.out.kept hb); have c0 := A.out.at 0 rfl; have c1 := A.out.at 1 rfl; have c2 := A.out.at 2 rfl; have c3 := A.out.at 3 rfl; have c4 := A.out.at 4 rfl; have c5 := A.out.at 5 rfl; clear hb
    go_wp2_with fail
    refine (toPlate_any a b c d r _ (R.out _ Bw.out) HL.out).mono ?_
    rintro _ w2 ⟨p0, p1, p2, p3, rfl, hp, V, hb⟩
    clear c0 c1 c2 c3 c4 c5
    have Bw := Lib.hid (below_step Bw.out hb); have A := Lib.hid (A.out.kept hb); have c0 := A.out.at 0 rfl; have c1 := A.out.at 1 rfl; have c2 := A.out.at 2 rfl; have c3 := A.out.at 3 rfl; have c4 := A.out.at 4 rfl; have c5 := A.out.at 5 rfl; have V := Lib.hid V; clear hb hp
    go_wp2_with fail
    refine (specMean_any _ _ _ _ r _ (V.out.row HL.out)).mono ?_
    rintro _ w3 ⟨f1, hf1, rfl, hb⟩
    have F1 := Lib.hid hf1
    clear hf1
    clear c0 c1 c2 c3 c4 c5
    have Bw := Lib.hid (below_step Bw.out hb); have A := Lib.hid (A.out.kept hb); have c0 := A.out.at 0 rfl; have c1 := A.out.at 1 rfl; have c2 := A.out.at 2 rfl; have c3 := A.out.at 3 rfl; have c4 := A.out.at 4 rfl; have c5 := A.out.at 5 rfl; clear hb V
    go_wp2_with fail
    refine (toPlate_any a b c d r _ (R.out _ Bw.out) HL.out).mono ?_
    rintro _ w4 ⟨x0, x1, x2, x3, rfl, hp, V, hb⟩
    clear c0 c1 c2 c3 c4 c5
    have Bw := Lib.hid (below_step Bw.out hb); have A := Lib.hid (A.out.kept hb); have c0 := A.out.at 0 rfl; have c1 := A.out.at 1 rfl; have c2 := A.out.at 2 rfl; have c3 := A.out.at 3 rfl; have c4 := A.out.at 4 rfl; have c5 := A.out.at 5 rfl; have V := Lib.hid V; clear hb hp
    have X := Lib.hid (Cells.made w4 (pvs r (sl x0 r.W) (sl x1 r.E) (sl x2 r.G) (slb x3 r.H)) 28)
    have V := Lib.hid (V.out.kept (below_al1 w4 (.cells (pvs r (sl x0 r.W) (sl x1 r.E) (sl x2 r.G) (slb x3 r.H)).toArray 28)))
    have A := Lib.hid (A.out.kept (below_al1 w4 (.cells (pvs r (sl x0 r.W) (sl x1 r.E) (sl x2 r.G) (slb x3 r.H)).toArray 28)))
    have Bw := Lib.hid (below_step Bw.out (below_al1 w4 (.cells (pvs r (sl x0 r.W) (sl x1 r.E) (sl x2 r.G) (slb x3 r.H)).toArray 28)))
    go_wp2_with fail
    refine (implMean_any _ _ _ _ r _ (V.out.row HL.out)).mono ?_
    rintro _ w5 ⟨f2, hf2, rfl, hb⟩
    have F2 := Lib.hid (hf2.trans F1.out.symm)
    clear hf2
    clear c0 c1 c2 c3 c4 c5
    have Bw := Lib.hid (below_step Bw.out hb); have A := Lib.hid (A.out.kept hb); have X := Lib.hid (X.out.kept hb); have V := Lib.hid (V.out.kept hb); have c0 := A.out.at 0 rfl; have c1 := A.out.at 1 rfl; have c2 := A.out.at 2 rfl; have c3 := A.out.at 3 rfl; have c4 := A.out.at 4 rfl; have c5 := A.out.at 5 rfl; clear hb
    have d0 := X.out.at 0 rfl; have d1 := X.out.at 1 rfl; have d2 := X.out.at 2 rfl; have d3 := X.out.at 3 rfl; have d4 := X.out.at 4 rfl; have d5 := X.out.at 5 rfl
    go_wp2_with (first | (refine wpList_up rfl Try.underlying33 Try.underlying37 _ rfl _ rfl ?_; intro _ _ _) | (go_at_call 24; refine (same_end (a := f2) (b := f1) _ (by assumption) (by assumption) F2.out).mono ?_; rintro e w' ⟨rfl, m, rfl⟩))
    generalize w4.heap.size = q at *
    go_region_held3 (fun w' => w'.cell? ⟨w.heap.size, 0, none⟩ = some (.int .i64 r.X) ∧ w'.cell? ⟨w.heap.size, 1, none⟩ = some (.int .i64 r.Y) ∧ w'.cell? ⟨w.heap.size, 2, none⟩ = some (a) ∧ w'.cell? ⟨w.heap.size, 3, none⟩ = some (b) ∧ w'.cell? ⟨w.heap.size, 4, none⟩ = some (c) ∧ w'.cell? ⟨w.heap.size, 5, none⟩ = some (d) ∧ w'.cell? ⟨q, 0, none⟩ = some (.int .i64 r.X) ∧ w'.cell? ⟨q, 1, none⟩ = some (.int .i64 r.Y) ∧ w'.cell? ⟨q, 2, none⟩ = some (sl x0 r.W) ∧ w'.cell? ⟨q, 3, none⟩ = some (sl x1 r.E) ∧ w'.cell? ⟨q, 4, none⟩ = some (sl x2 r.G) ∧ w'.cell? ⟨q, 5, none⟩ = some (slb x3 r.H)) (exact ⟨c0, c1, c2, c3, c4, c5, d0, d1, d2, d3, d4, d5⟩)
      (first
      | (go_at_call 17; refine (toPlate_any a b c d r _ (R.out _ (below_drewN Bw.out _)) HL.out).mono ?_; rintro _ w6 ⟨y0, y1, y2, y3, rfl, hp, Z, hb⟩; have Bw := Lib.hid (below_step Bw.out (below_undrew hb)); have A := Lib.hid (A.out.kept (below_undrew hb)); have X := Lib.hid (X.out.kept (below_undrew hb)); have V := Lib.hid (V.out.kept (below_undrew hb)); have Z := Lib.hid Z; clear hp hb; have c0 := A.out.at 0 rfl; have c1 := A.out.at 1 rfl; have c2 := A.out.at 2 rfl; have c3 := A.out.at 3 rfl; have c4 := A.out.at 4 rfl; have c5 := A.out.at 5 rfl; have d0 := X.out.at 0 rfl; have d1 := X.out.at 1 rfl; have d2 := X.out.at 2 rfl; have d3 := X.out.at 3 rfl; have d4 := X.out.at 4 rfl; have d5 := X.out.at 5 rfl)
      | (go_at_call 19; refine (eqPlate_any _ _ _ _ _ _ _ _ r _ (V.out.row HL.out) (Z.out.row HL.out)).mono ?_; rintro _ w7 ⟨rfl, hb⟩; have Bw := Lib.hid (below_step Bw.out hb); have A := Lib.hid (A.out.kept hb); have X := Lib.hid (X.out.kept hb); clear hb; have c0 := A.out.at 0 rfl; have c1 := A.out.at 1 rfl; have c2 := A.out.at 2 rfl; have c3 := A.out.at 3 rfl; have c4 := A.out.at 4 rfl; have c5 := A.out.at 5 rfl; have d0 := X.out.at 0 rfl; have d1 := X.out.at 1 rfl; have d2 := X.out.at 2 rfl; have d3 := X.out.at 3 rfl; have d4 := X.out.at 4 rfl; have d5 := X.out.at 5 rfl))
    all_goals
      go_wp2
      go_ret
      exact Tru.below Bw.out
  · have HL := Lib.hid (Nat.lt_of_not_le hl)
    clear hl
    go_enter Try.func10, Try.ntmps10
    go_wp2_with fail
    refine (szPlate_over a b c d r 1048576 _ (R.out _ Bw.out) HL.out (Nat.le_refl _)).mono ?_
    rintro _ w1 ⟨rfl, hb⟩
    have Bw := Lib.hid (below_step Bw.out hb); have A := Lib.hid (A.out.kept hb); have c0 := A.out.at 0 rfl; have c1 := A.out.at 1 rfl; have c2 := A.out.at 2 rfl; have c3 := A.out.at 3 rfl; have c4 := A.out.at 4 rfl; have c5 := A.out.at 5 rfl; clear hb
    go_wp2
    go_ret
    exact Tru.below Bw.out


end Go.Proofs.Ytcjhaeiknenajaa
