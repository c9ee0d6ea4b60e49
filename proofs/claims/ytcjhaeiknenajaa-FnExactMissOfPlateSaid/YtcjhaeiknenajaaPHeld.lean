/- What flows into held cells: both sides, and the law. -/
import Derived.Test.YtcjhaeiknenajaaFlowW
namespace Go.Proofs.Ytcjhaeiknenajaa
open Go.RowKit
set_option linter.unusedVariables false

theorem sumC_nf {c : Nat → Bool} {f : Nat → Nat} {k : Nat} (hc : c k = true) (hf : fin .f32 (f k) = false) : ∀ n, k < n → fin .f32 (sumC c f n) = false
  | 0, h => absurd h (Nat.not_lt_zero _)
  | n + 1, h => by
    by_cases e : k = n
    · subst e
      rw [sumC_yes hc]
      cases q : fin .f32 (fop .add .f32 (sumC c f k) (f k))
      · rfl
      · rw [(add_fin2 q).2] at hf; cases hf
    · have ih := sumC_nf hc hf n (by omega)
      cases cn' : c n
      · rw [sumC_no cn']; exact ih
      · rw [sumC_yes cn']
        cases q : fin .f32 (fop .add .f32 (sumC c f n) (f n))
        · rfl
        · rw [(add_fin2 q).1] at ih; cases ih
def hC (r : PL) (k : Nat) : Bool := r.H.getD k false
def hV (r : PL) : Nat := sumC (hC r) (fV r) r.W.length
theorem cGiv_nf {V : Nat} {w w' : World} (h : fin .f32 V = false) (hb : Below w.heap.size w w') : GivB (cS true V) (cB true V) w (.returned (.tuple #[.float .f32 0, .bool false])) w' := giv_nf h hb
theorem ifF_fin {V : Nat} (h : fin .f32 V = true) : ifF V = V := by unfold ifF; rw [h]; rfl

set_option maxRecDepth 10000 in
set_option maxHeartbeats 1600000 in
theorem specHeld_any (a b c d : Value) (r : PL) (w : World) (h : PRow w a b c d r) : Calls Try.prog 29 #[.agg #[.int .i64 r.X, .int .i64 r.Y, a, b, c, d]] w (GivB (cS (vPl r) (hV r)) (cB (vPl r) (hV r)) w) := by
  have IV := Lib.hid (specPl_any a b c d r w.heap.size _ (Cells.made w (pvs r a b c d) 28) (h.below (below_al1 w (.cells (pvs r a b c d).toArray 28))))
  cases hv : vPl r
  · have E0 := Lib.hid (fun w' hb => cGiv_no (V := hV r) (w := w) (w' := w') hv hb)
    rw [hv] at IV E0
    clear h
    go_enter Try.func29, Try.ntmps29
    go_wp2_with fail
    refine IV.out.mono ?_
    rintro e w' ⟨rfl, n1, rfl⟩
    go_wp2
    go_ret2
    exact E0.out _ (below_drewN (below_al1 _ _) _)
  · have E1 := Lib.hid (fun x w' hx hb => cGiv_yes (V := hV r) (x := x) (w := w) (w' := w') hv hx hb)
    rw [hv] at IV E1
    unfold hV at E1 ⊢
    have R := Lib.hid (fun w1 (hb : Below w.heap.size w w1) => h.below hb)
    have NN1 := PlN.ofV hv
    have IN := Lib.hid (fun k (hk : k < r.W.length) p w1 A hb => specFlowV_any r _ k a b c d p w1 A (R.out w1 hb) NN1 hk)
    clear NN1
    have NN0 := PlN.ofV hv
    obtain ⟨b0, o0, k0, b1, o1, k1, b2, o2, k2, b3, o3, k3, rfl, rfl, rfl, rfl, hL⟩ := h.lay NN0
    generalize hgn : r.W.length = n at *
    clear hgn
    have NN := Lib.hid NN0
    have LY := Lib.hid hL
    have N9 := Lib.hid NN0.q
    clear NN0 hL
    have SY := Lib.hid (fun k (h : hC r k = true) => sumC_yes (f := fV r) h)
    have SN := Lib.hid (fun k (h : hC r k = false) => sumC_no (f := fV r) h)
    have S0 : Hid (cn .f32 0 = sumC (hC r) (fV r) 0) := Lib.hid rfl
    have CF : Hid (∀ k, hC r k = r.H.getD k false) := Lib.hid (fun k => rfl)
    have NF := Lib.hid (fun k (hk : k < n) (hc : hC r k = true) (hf : fin .f32 (fV r k) = false) => sumC_nf hc hf n hk)
    have ENF := Lib.hid (fun k hk hc hf w' hb => cGiv_nf (w := w) (w' := w') (NF.out k hk hc hf) hb)
    clear hv h R NF
    generalize cS true (sumC (hC r) (fV r) n) = GS at *
    generalize cB true (sumC (hC r) (fV r) n) = GB at *
    generalize sumC (hC r) (fV r) = S at *
    have A := Lib.hid (Cells.made w (pvs r (ps b0 o0 n k0) (ps b1 o1 n k1) (ps b2 o2 n k2) (ps b3 o3 n k3)) 28)
    have Bw := Lib.hid (below_al1 w (.cells (pvs r (ps b0 o0 n k0) (ps b1 o1 n k1) (ps b2 o2 n k2) (ps b3 o3 n k3)).toArray 28))
    have LY := Lib.hid (LY.out.below (below_al1 w (.cells (pvs r (ps b0 o0 n k0) (ps b1 o1 n k1) (ps b2 o2 n k2) (ps b3 o3 n k3)).toArray 28)))
    go_enter Try.func29, Try.ntmps29
    go_wp2_with fail
    refine IV.out.mono ?_
    rintro e w' ⟨rfl, n1, rfl⟩
    have c0 := A.out.at 0 rfl; have c1 := A.out.at 1 rfl; have c2 := A.out.at 2 rfl; have c3 := A.out.at 3 rfl; have c4 := A.out.at 4 rfl; have c5 := A.out.at 5 rfl
    go_wp2_with fail
    go_loopw [4, 5] (fun s i wr => ∃ k x : Nat, k ≤ n ∧ i = .int .i64 k ∧ s = .float .f32 x ∧ Hid (cn .f32 x = S k) ∧ Hid (Below (w.alloc (.cells (pvs r (ps b0 o0 n k0) (ps b1 o1 n k1) (ps b2 o2 n k2) (ps b3 o3 n k3)).toArray 28)).heap.size (w.alloc (.cells (pvs r (ps b0 o0 n k0) (ps b1 o1 n k1) (ps b2 o2 n k2) (ps b3 o3 n k3)).toArray 28)) wr)) (fun _ i _ => n - (intOf i).toNat)
    case atStart => exact ⟨0, 0, Nat.zero_le _, rfl, rfl, S0, Lib.hid (below_drewN (Below.refl _ _) _)⟩
    case round =>
      obtain ⟨k, x, hk, rfl, rfl, hx, hB⟩ := hrel
      have hG := N9.out
      have hxy := NN.out.xy
      have A1 := Lib.hid (A.out.kept hB.out)
      have c0 := A1.out.at 0 rfl; have c1 := A1.out.at 1 rfl; have c2 := A1.out.at 2 rfl; have c3 := A1.out.at 3 rfl; have c4 := A1.out.at 4 rfl; have c5 := A1.out.at 5 rfl
      have Bw1 := Lib.hid (below_step Bw.out hB.out)
      by_cases hlt : k < n
      · have CFk := Lib.hid (CF.out k)
        have SYk := Lib.hid (SY.out k)
        have SNk := Lib.hid (SN.out k)
        have ENk := Lib.hid (ENF.out k hlt)
        have INk := Lib.hid (IN.out k hlt)
        have zH := (LY.out.below hB.out).H k hlt
        generalize r.H.getD k false = yH at *
        generalize fV r k = V at *
        have hi : (0 : Int) ≤ (k : Int) := by omega
        have hi' : (k : Int) < (n : Int) := by omega
        cases yH
        · have SS := Lib.hid (SNk.out CFk.out)
          go_wp2
          go_roundw
          case rel => exact ⟨k + 1, _, by omega, by go_num, rfl, Lib.hid (by rw [hx.out, SS.out]), Lib.hid hB.out⟩
          case measure => simp [intOf]; omega
        · have SS := Lib.hid (SYk.out CFk.out)
          have EN := Lib.hid (ENk.out CFk.out)
          go_wp2_with fail
          refine (INk.out _ _ A1.out Bw1.out).mono ?_
          rintro e w2 ⟨q, hq, rfl, hb⟩
          have Bw2 := Lib.hid (below_step Bw1.out hb)
          have B2 := Lib.hid (below_step hB.out hb)
          have HQ := Lib.hid hq
          clear hq hb
          cases BB : fin .f32 V
          · go_wp2
            go_ret2
            exact EN.out BB _ Bw2.out
          · have HV2 := Lib.hid (HQ.out.trans (ifF_fin BB))
            go_wp2_with (first | (refine wpList_farith rfl _ _ _ _ _ rfl rfl _ _ _ rfl rfl ?_; intro _ _ _))
            rename_i r1 j1 h1
            go_roundw
            case rel => exact ⟨k + 1, _, by omega, by go_num, rfl, Lib.hid (by rw [h1.1, hx.out, HV2.out, SS.out]), Lib.hid (below_drewN B2.out _)⟩
            case measure => simp [intOf]; omega
      · have e := Lib.hid (show k = n by omega)
        go_wp2_with (first | (go_at_call 67; refine (specNum_any _ _).mono ?_; rintro e w' ⟨rfl, n3, rfl⟩))
        go_ret2
        have := e.out
        subst this
        exact E1.out _ _ hx.out (by first | exact below_drewN Bw1.out _ | exact Bw1.out)

theorem hTold_any (r : PL) (a b c d : Value) (n q : Nat) (w : World) (A : Cells w q (pvs r a b c d)) (h : PRow w a b c d r) (hl : PlN r n) (k : Nat) (hk : k < n) :
    Calls Try.prog 79 #[.int .i64 (k : Int), .pointer (some ⟨q, 0, none⟩)] w (FlP (fV r k) w) := by
  have c0 := A.at 0 rfl
  have c1 := A.at 1 rfl
  have c2 := A.at 2 rfl
  have c3 := A.at 3 rfl
  have c4 := A.at 4 rfl
  have c5 := A.at 5 rfl
  go_enter Try.func79, Try.ntmps79
  go_wp2_with fail
  refine (implFlowV_any r n k a b c d w h hl hk).mono ?_
  rintro e w' ⟨s, hs, rfl, hb⟩
  go_wp2
  go_ret
  exact ⟨s, hs, rfl, hb⟩

set_option maxHeartbeats 1600000 in
theorem sumHeldHeld_any (r : PL) (a b c d : Value) (q : Nat) (w : World) (h : PRow w a b c d r) (Q : Cells w q (pvs r a b c d)) : Calls Try.prog 78 #[.agg #[.int .i64 r.X, .int .i64 r.Y, a, b, c, d], .bool true, .func (.func 79) #[] #[.pointer (some ⟨q, 0, none⟩)]] w (GivB (cS (vPl r) (hV r)) (cB (vPl r) (hV r)) w) := by
  have IV := Lib.hid (implPl_any a b c d r _ (h.below (below_al1 w (.cells (pvs r a b c d).toArray 28))))
  cases hv : vPl r
  · have E0 := Lib.hid (fun w' hb => cGiv_no (V := hV r) (w := w) (w' := w') hv hb)
    rw [hv] at IV E0
    clear h Q
    go_enter Try.func78, Try.ntmps78
    go_wp2_with fail
    refine IV.out.mono ?_
    rintro e w' ⟨rfl, hb⟩
    go_wp2
    go_ret2
    exact E0.out _ (below_step (below_al1 _ _) hb)
  · have E1 := Lib.hid (fun x w' hx hb => cGiv_yes (V := hV r) (x := x) (w := w) (w' := w') hv hx hb)
    rw [hv] at IV E1
    unfold hV at E1 ⊢
    have NN1 := PlN.ofV hv
    have IN := Lib.hid (fun k (hk : k < r.W.length) w1 (hb : Below w.heap.size w w1) => hTold_any r a b c d _ q w1 (Q.kept hb) (h.below hb) NN1 k hk)
    clear Q NN1
    have NN0 := PlN.ofV hv
    obtain ⟨b0, o0, k0, b1, o1, k1, b2, o2, k2, b3, o3, k3, rfl, rfl, rfl, rfl, hL⟩ := h.lay NN0
    generalize hgn : r.W.length = n at *
    clear hgn
    have NN := Lib.hid NN0
    have LY := Lib.hid hL
    have N9 := Lib.hid NN0.q
    clear NN0 hL
    have SY := Lib.hid (fun k (h : hC r k = true) => sumC_yes (f := fV r) h)
    have SN := Lib.hid (fun k (h : hC r k = false) => sumC_no (f := fV r) h)
    have S0 : Hid (cn .f32 0 = sumC (hC r) (fV r) 0) := Lib.hid rfl
    have CF : Hid (∀ k, hC r k = r.H.getD k false) := Lib.hid (fun k => rfl)
    clear hv h
    generalize cS true (sumC (hC r) (fV r) n) = GS at *
    generalize cB true (sumC (hC r) (fV r) n) = GB at *
    generalize sumC (hC r) (fV r) = S at *
    have A := Lib.hid (Cells.made w (pvs r (ps b0 o0 n k0) (ps b1 o1 n k1) (ps b2 o2 n k2) (ps b3 o3 n k3)) 28)
    have Bw := Lib.hid (below_al1 w (.cells (pvs r (ps b0 o0 n k0) (ps b1 o1 n k1) (ps b2 o2 n k2) (ps b3 o3 n k3)).toArray 28))
    have LY := Lib.hid (LY.out.below (below_al1 w (.cells (pvs r (ps b0 o0 n k0) (ps b1 o1 n k1) (ps b2 o2 n k2) (ps b3 o3 n k3)).toArray 28)))
    go_enter Try.func78, Try.ntmps78
    go_wp2_with fail
    refine IV.out.mono ?_
    rintro e w1 ⟨rfl, hb⟩
    have Bw := Lib.hid (below_step Bw.out hb)
    have A := Lib.hid (A.out.kept hb)
    have LY := Lib.hid (LY.out.below hb)
    have c0 := A.out.at 0 rfl; have c1 := A.out.at 1 rfl; have c2 := A.out.at 2 rfl; have c3 := A.out.at 3 rfl; have c4 := A.out.at 4 rfl; have c5 := A.out.at 5 rfl
    clear hb
    go_wp2_with fail
    refine (countOf_any _ _ n _ _ _ _ _ NN.out.xy N9.out).mono ?_
    rintro e w2 ⟨rfl, hb⟩
    clear c0 c1 c2 c3 c4 c5
    have Bw := Lib.hid (below_step Bw.out hb)
    have A := Lib.hid (A.out.kept hb)
    have LY := Lib.hid (LY.out.below hb)
    have c0 := A.out.at 0 rfl; have c1 := A.out.at 1 rfl; have c2 := A.out.at 2 rfl; have c3 := A.out.at 3 rfl; have c4 := A.out.at 4 rfl; have c5 := A.out.at 5 rfl
    clear hb
    have B9 := Lib.hid Bw.out
    go_wp2
    go_loopw [8, 15] (fun s i wr => ∃ k x : Nat, k ≤ n ∧ i = .int .i64 k ∧ s = .float .f32 x ∧ Hid (cn .f32 x = S k) ∧ Hid (Below w2.heap.size w2 wr)) (fun _ i _ => n - (intOf i).toNat)
    case atStart => exact ⟨0, 0, Nat.zero_le _, rfl, rfl, S0, Lib.hid (Below.refl _ _)⟩
    case round =>
      obtain ⟨k, x, hk, rfl, rfl, hx, hB⟩ := hrel
      have hG := N9.out
      have A1 := Lib.hid (A.out.kept hB.out)
      have Bw1 := Lib.hid (below_step B9.out hB.out)
      have c0 := A1.out.at 0 rfl; have c1 := A1.out.at 1 rfl; have c2 := A1.out.at 2 rfl; have c3 := A1.out.at 3 rfl; have c4 := A1.out.at 4 rfl; have c5 := A1.out.at 5 rfl
      by_cases hlt : k < n
      · have CFk := Lib.hid (CF.out k)
        have SYk := Lib.hid (SY.out k)
        have SNk := Lib.hid (SN.out k)
        have INk := Lib.hid (IN.out k hlt)
        have zH := (LY.out.below hB.out).H k hlt
        generalize r.H.getD k false = yH at *
        generalize fV r k = V at *
        have hi : (0 : Int) ≤ (k : Int) := by omega
        have hi' : (k : Int) < (n : Int) := by omega
        cases yH
        · have SS := Lib.hid (SNk.out CFk.out)
          go_wp2
          go_roundw
          case rel => exact ⟨k + 1, _, by omega, by go_num, rfl, Lib.hid (by rw [hx.out, SS.out]), Lib.hid hB.out⟩
          case measure => simp [intOf]; omega
        · have SS := Lib.hid (SYk.out CFk.out)
          go_wp2_with fail
          refine (INk.out _ Bw1.out).mono ?_
          rintro e w3 ⟨q, hq, rfl, hb⟩
          have B2 := Lib.hid (below_step hB.out hb)
          have HQ := Lib.hid hq
          clear hq hb
          go_wp2_with (first | (refine wpList_farith rfl _ _ _ _ _ rfl rfl _ _ _ rfl rfl ?_; intro _ _ _))
          rename_i r1 j1 h1
          go_roundw
          case rel => exact ⟨k + 1, _, by omega, by go_num, rfl, Lib.hid (by rw [h1.1, hx.out, HQ.out, SS.out]), Lib.hid (below_drewN B2.out _)⟩
          case measure => simp [intOf]; omega
      · have e := Lib.hid (show k = n by omega)
        go_wp2_with (first | (go_at_call 72; refine (implNum_any _ _).mono ?_; rintro e w' ⟨rfl, n3, rfl⟩))
        go_ret2
        have := e.out
        subst this
        exact E1.out _ _ hx.out (by first | exact below_drewN Bw1.out _ | exact Bw1.out)

theorem implHeld_any (a b c d : Value) (r : PL) (w : World) (h : PRow w a b c d r) : Calls Try.prog 30 #[.agg #[.int .i64 r.X, .int .i64 r.Y, a, b, c, d]] w (GivB (cS (vPl r) (hV r)) (cB (vPl r) (hV r)) w) := by
  have A := Lib.hid (Cells.made w (pvs r a b c d) 28)
  have IV := Lib.hid (sumHeldHeld_any r a b c d w.heap.size _ (h.below (below_al1 w (.cells (pvs r a b c d).toArray 28))) A.out)
  clear h
  go_enter Try.func30, Try.ntmps30
  go_wp2_with fail
  refine IV.out.mono ?_
  rintro e w' ⟨x, hx, rfl, hb⟩
  go_wp2
  go_ret2
  exact ⟨x, hx, rfl, below_step (below_al1 _ _) hb⟩

set_option maxRecDepth 10000 in
set_option maxHeartbeats 1600000 in
theorem fnExactHeldFlow_walk (r : PL) (a b c d : Value) (w : World) (h : PRow w a b c d r) (hf : PWf r) :
    Calls Try.prog 8 #[.agg #[.int .i64 r.X, .int .i64 r.Y, a, b, c, d]] w (Tru w) := by
  have R := Lib.hid (fun w1 (hb : Below w.heap.size w w1) => h.below hb)
  have PW := Lib.hid hf
  clear h hf
  have A := Lib.hid (Cells.made w (pvs r a b c d) 25)
  have Bw := Lib.hid (below_al1 w (.cells (pvs r a b c d).toArray 25))
  by_cases hl : r.size ≤ 1048576
  · have HL := Lib.hid hl
    clear hl
    go_enter Try.func8, Try.ntmps8
    go_wp2_with fail
    refine (szPlate_fit a b c d r 1048576 _ (R.out _ Bw.out) HL.out (Nat.le_refl _)).mono ?_
    rintro _ w1 ⟨rfl, hb⟩
    have Bw := Lib.hid (below_step Bw.out hb); have A := Lib.hid (A.out.kept hb); have c0 := A.out.at 0 rfl; have c1 := A.out.at 1 rfl; have c2 := A.out.at 2 rfl; have c3 := A.out.at 3 rfl; have c4 := A.out.at 4 rfl; have c5 := A.out.at 5 rfl; clear hb
    go_wp2_with fail
    refine (toPlate_any a b c d r _ (R.out _ Bw.out) HL.out).mono ?_
    rintro _ w2 ⟨p0, p1, p2, p3, rfl, hp, V, hb⟩
    clear c0 c1 c2 c3 c4 c5
    have Bw := Lib.hid (below_step Bw.out hb); have A := Lib.hid (A.out.kept hb); have c0 := A.out.at 0 rfl; have c1 := A.out.at 1 rfl; have c2 := A.out.at 2 rfl; have c3 := A.out.at 3 rfl; have c4 := A.out.at 4 rfl; have c5 := A.out.at 5 rfl; have V := Lib.hid V; clear hb hp
    go_wp2_with fail
    refine (specHeld_any _ _ _ _ r _ (V.out.row HL.out)).mono ?_
    rintro _ w3 ⟨f1, hf1, rfl, hb⟩
    have F1 := Lib.hid hf1
    clear hf1
    clear c0 c1 c2 c3 c4 c5
    have Bw := Lib.hid (below_step Bw.out hb); have A := Lib.hid (A.out.kept hb); have c0 := A.out.at 0 rfl; have c1 := A.out.at 1 rfl; have c2 := A.out.at 2 rfl; have c3 := A.out.at 3 rfl; have c4 := A.out.at 4 rfl; have c5 := A.out.at 5 rfl; clear hb V
    go_wp2_with fail
    refine (toPlate_any a b c d r _ (R.out _ Bw.out) HL.out).mono ?_
    rintro _ w4 ⟨x0, x1, x2, x3, rfl, hp, V, hb⟩
    clear c0 c1 c2 c3 c4 c5
    have Bw := Lib.hid (below_step Bw.out hb); have A := Lib.hid (A.out.kept hb); have c0 := A.out.at 0 rfl; have c1 := A.out.at 1 rfl; have c2 := A.out.at 2 rfl; have c3 := A.out.at 3 rfl; have c4 := A.out.at 4 rfl; have c5 := A.out.at 5 rfl; have V := Lib.hid V; clear hb hp
    have X := Lib.hid (Cells.made w4 (pvs r (sl x0 r.W) (sl x1 r.E) (sl x2 r.G) (slb x3 r.H)) 28)
    have V := Lib.hid (V.out.kept (below_al1 w4 (.cells (pvs r (sl x0 r.W) (sl x1 r.E) (sl x2 r.G) (slb x3 r.H)).toArray 28)))
    have A := Lib.hid (A.out.kept (below_al1 w4 (.cells (pvs r (sl x0 r.W) (sl x1 r.E) (sl x2 r.G) (slb x3 r.H)).toArray 28)))
    have Bw := Lib.hid (below_step Bw.out (below_al1 w4 (.cells (pvs r (sl x0 r.W) (sl x1 r.E) (sl x2 r.G) (slb x3 r.H)).toArray 28)))
    go_wp2_with fail
    refine (implHeld_any _ _ _ _ r _ (V.out.row HL.out)).mono ?_
    rintro _ w5 ⟨f2, hf2, rfl, hb⟩
    have F2 := Lib.hid (hf2.trans F1.out.symm)
    clear hf2
    clear c0 c1 c2 c3 c4 c5
    have Bw := Lib.hid (below_step Bw.out hb); have A := Lib.hid (A.out.kept hb); have X := Lib.hid (X.out.kept hb); have V := Lib.hid (V.out.kept hb); have c0 := A.out.at 0 rfl; have c1 := A.out.at 1 rfl; have c2 := A.out.at 2 rfl; have c3 := A.out.at 3 rfl; have c4 := A.out.at 4 rfl; have c5 := A.out.at 5 rfl; clear hb
    have d0 := X.out.at 0 rfl; have d1 := X.out.at 1 rfl; have d2 := X.out.at 2 rfl; have d3 := X.out.at 3 rfl; have d4 := X.out.at 4 rfl; have d5 := X.out.at 5 rfl
    go_wp2_with (first | (refine wpList_up rfl Try.underlying33 Try.underlying37 _ rfl _ rfl ?_; intro _ _ _) | (go_at_call 24; refine (same_end (a := f2) (b := f1) _ (by assumption) (by assumption) F2.out).mono ?_; rintro e w' ⟨rfl, m, rfl⟩))
    generalize w4.heap.size = q at *
    go_region_held3 (fun w' => w'.cell? ⟨w.heap.size, 0, none⟩ = some (.int .i64 r.X) ∧ w'.cell? ⟨w.heap.size, 1, none⟩ = some (.int .i64 r.Y) ∧ w'.cell? ⟨w.heap.size, 2, none⟩ = some (a) ∧ w'.cell? ⟨w.heap.size, 3, none⟩ = some (b) ∧ w'.cell? ⟨w.heap.size, 4, none⟩ = some (c) ∧ w'.cell? ⟨w.heap.size, 5, none⟩ = some (d) ∧ w'.cell? ⟨q, 0, none⟩ = some (.int .i64 r.X) ∧ w'.cell? ⟨q, 1, none⟩ = some (.int .i64 r.Y) ∧ w'.cell? ⟨q, 2, none⟩ = some (sl x0 r.W) ∧ w'.cell? ⟨q, 3, none⟩ = some (sl x1 r.E) ∧ w'.cell? ⟨q, 4, none⟩ = some (sl x2 r.G) ∧ w'.cell? ⟨q, 5, none⟩ = some (slb x3 r.H)) (exact ⟨c0, c1, c2, c3, c4, c5, d0, d1, d2, d3, d4, d5⟩)
      (first
      | (go_at_call 17; refine (toPlate_any a b c d r _ (R.out _ (below_drewN Bw.out _)) HL.out).mono ?_; rintro _ w6 ⟨y0, y1, y2, y3, rfl, hp, Z, hb⟩; have Bw := Lib.hid (below_step Bw.out (below_undrew hb)); have A := Lib.hid (A.out.kept (below_undrew hb)); have X := Lib.hid (X.out.kept (below_undrew hb)); have V := Lib.hid (V.out.kept (below_undrew hb)); have Z := Lib.hid Z; clear hp hb; have c0 := A.out.at 0 rfl; have c1 := A.out.at 1 rfl; have c2 := A.out.at 2 rfl; have c3 := A.out.at 3 rfl; have c4 := A.out.at 4 rfl; have c5 := A.out.at 5 rfl; have d0 := X.out.at 0 rfl; have d1 := X.out.at 1 rfl; have d2 := X.out.at 2 rfl; have d3 := X.out.at 3 rfl; have d4 := X.out.at 4 rfl; have d5 := X.out.at 5 rfl)
      | (go_at_call 19; refine (eqPlate_any _ _ _ _ _ _ _ _ r _ (V.out.row HL.out) (Z.out.row HL.out)).mono ?_; rintro _ w7 ⟨rfl, hb⟩; have Bw := Lib.hid (below_step Bw.out hb); have A := Lib.hid (A.out.kept hb); have X := Lib.hid (X.out.kept hb); clear hb; have c0 := A.out.at 0 rfl; have c1 := A.out.at 1 rfl; have c2 := A.out.at 2 rfl; have c3 := A.out.at 3 rfl; have c4 := A.out.at 4 rfl; have c5 := A.out.at 5 rfl; have d0 := X.out.at 0 rfl; have d1 := X.out.at 1 rfl; have d2 := X.out.at 2 rfl; have d3 := X.out.at 3 rfl; have d4 := X.out.at 4 rfl; have d5 := X.out.at 5 rfl))
    all_goals
      go_wp2
      go_ret
      exact Tru.below Bw.out
  · have HL := Lib.hid (Nat.lt_of_not_le hl)
    clear hl
    go_enter Try.func8, Try.ntmps8
    go_wp2_with fail
    refine (szPlate_over a b c d r 1048576 _ (R.out _ Bw.out) HL.out (Nat.le_refl _)).mono ?_
    rintro _ w1 ⟨rfl, hb⟩
    have Bw := Lib.hid (below_step Bw.out hb); have A := Lib.hid (A.out.kept hb); have c0 := A.out.at 0 rfl; have c1 := A.out.at 1 rfl; have c2 := A.out.at 2 rfl; have c3 := A.out.at 3 rfl; have c4 := A.out.at 4 rfl; have c5 := A.out.at 5 rfl; clear hb
    go_wp2
    go_ret
    exact Tru.below Bw.out


end Go.Proofs.Ytcjhaeiknenajaa
