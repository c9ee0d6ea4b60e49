/- How heat flows at a cell: both sides. -/
import Derived.Test.YtcjhaeiknenajaaFluxB
import Derived.Test.YtcjhaeiknenajaaFlowW
namespace Go.Proofs.Ytcjhaeiknenajaa
open Go.RowKit
set_option linter.unusedVariables false

def zX (r : PL) : Nat := r.X.toNat
def zZ (r : PL) : Nat := r.X.toNat * (r.Y.toNat - 1)
def fxR (r : PL) (k : Nat) : Nat := slV r k (nbr (zX r) (zZ r) k 1) (nbr (zX r) (zZ r) k 2)
def fxI (r : PL) (k : Nat) : Nat := slV r k (nbr (zX r) (zZ r) k 0) (nbr (zX r) (zZ r) k 3)
def fxB (r : PL) (i : Int) : Bool := okC r i && (fin .f32 (fxR r i.toNat) && fin .f32 (fxI r i.toNat))
/-- a complex number up to a not-a-number's bits, and whether there is one -/
def FxR (r : PL) (i : Int) (w : World) (e : Ending) (w' : World) : Prop := ∃ s t, cn .f32 s = (bif fxB r i then fxR r i.toNat else 0) ∧ cn .f32 t = (bif fxB r i then fxI r i.toNat else 0) ∧ e = .returned (.tuple #[.complex .f32 s t, .bool (fxB r i)]) ∧ Below w.heap.size w w'
theorem fx_no {r : PL} {i : Int} {w w' : World} (h : fxB r i = false) (hb : Below w.heap.size w w') : FxR r i w (.returned (.tuple #[.complex .f32 0 0, .bool false])) w' := by
  refine ⟨0, 0, ?_, ?_, by rw [h], hb⟩ <;> (rw [h, cond_false]; decide +kernel)
theorem fx_yes {r : PL} {i : Int} {w w' : World} {s t : Nat} (h : fxB r i = true) (hs : cn .f32 s = fxR r i.toNat) (ht : cn .f32 t = fxI r i.toNat) (hb : Below w.heap.size w w') : FxR r i w (.returned (.tuple #[.complex .f32 s t, .bool true])) w' := by
  refine ⟨s, t, ?_, ?_, by rw [h], hb⟩
  · rw [h]; exact hs
  · rw [h]; exact ht
theorem fx_bad {r : PL} {i : Int} {s t : Nat} (hs : cn .f32 s = fxR r i.toNat) (ht : cn .f32 t = fxI r i.toNat) (h : (fin .f32 s && fin .f32 t) = false) : fxB r i = false := by
  unfold fxB
  rw [← hs, ← ht, fin_cn, fin_cn, h]; simp
theorem fx_good {r : PL} {i : Int} {s t : Nat} (ho : okC r i = true) (hs : cn .f32 s = fxR r i.toNat) (ht : cn .f32 t = fxI r i.toNat) (h : (fin .f32 s && fin .f32 t) = true) : fxB r i = true := by
  unfold fxB
  rw [← hs, ← ht, fin_cn, fin_cn, h, ho]; rfl
theorem fx_has {r : PL} {i : Int} (h : okC r i = false) : fxB r i = false := by unfold fxB; rw [h]; rfl

theorem implCFin_any (s t : Nat) (w : World) : Calls Try.prog 89 #[.complex .f32 s t] w (Bol (fin .f32 s && fin .f32 t) w) := by
  cases h1 : fin .f32 s
  · go_enter Try.func89, Try.ntmps89
    go_wp2_with fail
    refine (implFinite_any s _).mono ?_
    rw [h1]
    rintro e w' ⟨rfl, n, rfl⟩
    go_wp2
    go_ret
    exact ⟨rfl, _, rfl⟩
  · go_enter Try.func89, Try.ntmps89
    go_wp2_with fail
    refine (implFinite_any s _).mono ?_
    rw [h1]
    rintro e w' ⟨rfl, n, rfl⟩
    go_wp2_with fail
    refine (implFinite_any t _).mono ?_
    rintro e w' ⟨rfl, n2, rfl⟩
    go_wp2
    go_ret
    exact ⟨by simp, _, rfl⟩

theorem specCFin_any (s t : Nat) (w : World) : Calls Try.prog 87 #[.complex .f32 s t] w (Bol (fin .f32 s && fin .f32 t) w) := by
  cases h1 : fin .f32 s
  · go_enter Try.func87, Try.ntmps87
    go_wp2_with fail
    refine (specFinite_any s _).mono ?_
    rw [h1]
    rintro e w' ⟨rfl, n, rfl⟩
    go_wp2
    go_ret
    exact ⟨rfl, _, rfl⟩
  · go_enter Try.func87, Try.ntmps87
    go_wp2_with fail
    refine (specFinite_any s _).mono ?_
    rw [h1]
    rintro e w' ⟨rfl, n, rfl⟩
    go_wp2_with fail
    refine (specFinite_any t _).mono ?_
    rintro e w' ⟨rfl, n2, rfl⟩
    go_wp2
    go_ret
    exact ⟨by simp, _, rfl⟩

def SgF (r : PL) (k : Nat) (_ : FuncId) (args : Array Value) (v : Value) : Prop := ∀ f t : Int, args.getD 2 undef = .int .i64 f → args.getD 3 undef = .int .i64 t → ∃ s, cn .f32 s = slV r k f t ∧ v = .float .f32 s
set_option maxRecDepth 10000 in
set_option maxHeartbeats 1600000 in
theorem specFlux_ok (r : PL) (n k : Nat) (b0 o0 k0 b1 o1 k1 b2 o2 k2 b3 o3 k3 : Nat) (w : World) (h : PRow w (ps b0 o0 n k0) (ps b1 o1 n k1) (ps b2 o2 n k2) (ps b3 o3 n k3) r) (hL0 : PLay w n b0 o0 b1 o1 b2 o2 b3 o3 r) (hl : PlN r n) (hk : k < n) (ho : okC r (k : Int) = true) :
    Calls Try.prog 37 #[.agg #[.int .i64 r.X, .int .i64 r.Y, (ps b0 o0 n k0), (ps b1 o1 n k1), (ps b2 o2 n k2), (ps b3 o3 n k3)], .int .i64 (k : Int)] w (FxR r (k : Int) w) := by
  have LY := Lib.hid (hL0.below (below_al1 w (.cells (pvs r (ps b0 o0 n k0) (ps b1 o1 n k1) (ps b2 o2 n k2) (ps b3 o3 n k3)).toArray 28)))
  have R := Lib.hid (h.below (below_al1 w (.cells (pvs r (ps b0 o0 n k0) (ps b1 o1 n k1) (ps b2 o2 n k2) (ps b3 o3 n k3)).toArray 28)))
  have A := Lib.hid (Cells.made w (pvs r (ps b0 o0 n k0) (ps b1 o1 n k1) (ps b2 o2 n k2) (ps b3 o3 n k3)) 28)
  have Bw := Lib.hid (below_al1 w (.cells (pvs r (ps b0 o0 n k0) (ps b1 o1 n k1) (ps b2 o2 n k2) (ps b3 o3 n k3)).toArray 28))
  have HA := Lib.hid (specHas_any r (k : Int) _ _ _ _ _ _ A.out R.out)
  rw [ho] at HA
  have NEAR := Lib.hid (fun q => specNear_any _ _ _ _ k _ _ _ _ r _ _ (A.out.drewN (n := q)) (Sd.std hl) rfl hk)
  have NN := Lib.hid (fun j m (h : nbr (zX r) (zZ r) k j = m) => by
    have := nbr_nat (Sd.std hl) rfl hk j
    show 0 ≤ m → m < (n : Int)
    intro h0
    rw [← h] at h0 ⊢
    obtain ⟨mm, e, hm⟩ := this h0
    show nbr (zX r) (zZ r) k j < _
    rw [show nbr (zX r) (zZ r) k j = (mm : Int) from e]
    omega)
  have BD := Lib.hid (fun s t (hs : cn .f32 s = fxR r (k : Int).toNat) (ht : cn .f32 t = fxI r (k : Int).toNat) h => fx_bad hs ht h)
  have GD := Lib.hid (fun s t (hs : cn .f32 s = fxR r (k : Int).toNat) (ht : cn .f32 t = fxI r (k : Int).toNat) h => fx_good ho hs ht h)
  have V1 : Hid (fxR r (k : Int).toNat = slV r k (nr1 (zX r) k) (nr2 (zX r) k)) := Lib.hid rfl
  have V2 : Hid (fxI r (k : Int).toNat = slV r k (nr0 (zX r) k) (nr3 (zX r) (zZ r) k)) := Lib.hid rfl
  have m0h := Lib.hid (NN.out 0 (nr0 (zX r) k) rfl)
  have m1h := Lib.hid (NN.out 1 (nr1 (zX r) k) rfl)
  have m2h := Lib.hid (NN.out 2 (nr2 (zX r) k) rfl)
  have m3h := Lib.hid (NN.out 3 (nr3 (zX r) (zZ r) k) rfl)
  have hn := hl.q
  unfold Near4 nvs at NEAR
  change Hid (∀ q, Calls _ _ _ _ fun e w' => ∃ g, e = _ ∧ _ ∧ Cells w' g [.int .i64 (nr0 (zX r) k), .int .i64 (nr1 (zX r) k), .int .i64 (nr2 (zX r) k), .int .i64 (nr3 (zX r) (zZ r) k)] ∧ _) at NEAR
  clear NN h hL0 hl ho
  generalize nr0 (zX r) k = m0 at *
  generalize nr1 (zX r) k = m1 at *
  generalize nr2 (zX r) k = m2 at *
  generalize nr3 (zX r) (zZ r) k = m3 at *
  go_enter Try.func37, Try.ntmps37
  go_wp2_with fail
  refine HA.out.mono ?_
  rintro e w' ⟨rfl, q1, rfl⟩
  go_wp2_with fail
  refine (NEAR.out _).mono ?_
  rintro e w2 ⟨g, rfl, hg, Gc, hb⟩
  have A := Lib.hid (A.out.drewN.kept hb)
  have B2 := Lib.hid (below_step (below_drewN Bw.out q1) hb)
  have LY := Lib.hid (LY.out.below (below_undrew hb))
  have z0 := Gc.at 0 rfl; have z1 := Gc.at 1 rfl; have z2 := Gc.at 2 rfl; have z3 := Gc.at 3 rfl
  have SL := Lib.hid (fun f t q (hf : 0 ≤ f → f < (n : Int)) (ht : 0 ≤ t → t < (n : Int)) => specSlope_any r n k w.heap.size b0 o0 k0 b1 o1 k1 b2 o2 k2 b3 o3 k3 f t (w2.drewN q) A.out.drewN (LY.out.below (below_drewN (Below.refl _ _) q)) hn hk hf ht)
  clear Gc hb hg
  go_wp2
  refine wp_region_loose (SgF r k) (by kernel_rfl) (by kernel_rfl) ?_
  try simp only [List.append]
  repeat ((with_reducible refine wpLoose_cons ?_); (first | ((with_reducible refine wpLoose_skip ?_ ?_); (focus (go_simp; done)); intro K hK; go_simp; refine hK _ ?_; clear hK K) | (refine wpLoose_farithG ?_ _ _ _ _ _ rfl rfl _ _ _ rfl rfl ?_; (focus (go_simp; done)); intro _ _) | (refine wpLoose_valG ?_ ?_ (fun w1 hw1 => ?_) (fun K hK => ?_); (focus (go_simp; done)); rotate_left; (focus (obtain ⟨nq, rfl⟩ := hw1; go_simp; first | done | rfl)); go_simp; refine hK _ ?_; clear hK K) | fail))
  refine wpLoose_callG ?_ 86 #[.pointer (some ⟨w.heap.size, 0, none⟩), .int .i64 (k : Int), .int .i64 m1, .int .i64 m2] (fun w1 => ?_) (fun w1 hw1 => ?_) (fun v1 hv1 => ?_)
  · go_simp
  · go_simp
  · obtain ⟨nq, rfl⟩ := hw1
    refine (SL.out m1 m2 _ m1h.out m2h.out).mono ?_
    rintro e w3 ⟨s, hs, rfl, n, rfl⟩
    exact ⟨_, rfl, (by intro f t e1 e2; simp at e1 e2; subst e1; subst e2; exact ⟨s, hs, rfl⟩), n, rfl⟩
  obtain ⟨s, hs, rfl⟩ := hv1 m1 m2 rfl rfl
  clear hv1
  repeat ((with_reducible refine wpLoose_cons ?_); (first | ((with_reducible refine wpLoose_skip ?_ ?_); (focus (go_simp; done)); intro K hK; go_simp; refine hK _ ?_; clear hK K) | (refine wpLoose_farithG ?_ _ _ _ _ _ rfl rfl _ _ _ rfl rfl ?_; (focus (go_simp; done)); intro _ _) | (refine wpLoose_valG ?_ ?_ (fun w1 hw1 => ?_) (fun K hK => ?_); (focus (go_simp; done)); rotate_left; (focus (obtain ⟨nq, rfl⟩ := hw1; go_simp; first | done | rfl)); go_simp; refine hK _ ?_; clear hK K) | fail))
  refine wpLoose_callG ?_ 86 #[.pointer (some ⟨w.heap.size, 0, none⟩), .int .i64 (k : Int), .int .i64 m0, .int .i64 m3] (fun w1 => ?_) (fun w1 hw1 => ?_) (fun v1 hv1 => ?_)
  · go_simp
  · go_simp
  · obtain ⟨nq, rfl⟩ := hw1
    refine (SL.out m0 m3 _ m0h.out m3h.out).mono ?_
    rintro e w3 ⟨s, hs, rfl, n, rfl⟩
    exact ⟨_, rfl, (by intro f t e1 e2; simp at e1 e2; subst e1; subst e2; exact ⟨s, hs, rfl⟩), n, rfl⟩
  obtain ⟨t, ht, rfl⟩ := hv1 m0 m3 rfl rfl
  clear hv1
  repeat ((with_reducible refine wpLoose_cons ?_); (first | ((with_reducible refine wpLoose_skip ?_ ?_); (focus (go_simp; done)); intro K hK; go_simp; refine hK _ ?_; clear hK K) | (refine wpLoose_farithG ?_ _ _ _ _ _ rfl rfl _ _ _ rfl rfl ?_; (focus (go_simp; done)); intro _ _) | (refine wpLoose_valG ?_ ?_ (fun w1 hw1 => ?_) (fun K hK => ?_); (focus (go_simp; done)); rotate_left; (focus (obtain ⟨nq, rfl⟩ := hw1; go_simp; first | done | rfl)); go_simp; refine hK _ ?_; clear hK K) | fail))
  (refine wpLoose_nil ?_; rintro _ ⟨nq, rfl⟩)
  have HS := Lib.hid (hs.trans V1.out.symm)
  have HT := Lib.hid (ht.trans V2.out.symm)
  clear hs ht
  cases hf : (fin .f32 s && fin .f32 t)
  · have E := Lib.hid (BD.out s t HS.out HT.out hf)
    go_wp2_with fail
    refine (specCFin_any s t _).mono ?_
    rw [hf]
    rintro e w' ⟨rfl, q3, rfl⟩
    go_wp2
    go_ret2
    exact fx_no E.out (by first | exact below_drewN B2.out _ | exact below_drewN (below_drewN B2.out _) _)
  · have E := Lib.hid (GD.out s t HS.out HT.out hf)
    go_wp2_with fail
    refine (specCFin_any s t _).mono ?_
    rw [hf]
    rintro e w' ⟨rfl, q3, rfl⟩
    go_wp2
    go_ret2
    exact fx_yes E.out HS.out HT.out (by first | exact below_drewN B2.out _ | exact below_drewN (below_drewN B2.out _) _)

theorem specFlux_any (a b c d : Value) (r : PL) (i : Int) (w : World) (h : PRow w a b c d r) : Calls Try.prog 37 #[.agg #[.int .i64 r.X, .int .i64 r.Y, a, b, c, d], .int .i64 i] w (FxR r i w) := by
  cases hv : okC r i
  · have A := Lib.hid (Cells.made w (pvs r a b c d) 28)
    have R := Lib.hid (h.below (below_al1 w (.cells (pvs r a b c d).toArray 28)))
    have HA := Lib.hid (specHas_any r i a b c d _ _ A.out R.out)
    have E0 := Lib.hid (fun w' hb => fx_no (w := w) (w' := w') (fx_has hv) hb)
    rw [hv] at HA
    clear h
    go_enter Try.func37, Try.ntmps37
    go_wp2_with fail
    refine HA.out.mono ?_
    rintro e w' ⟨rfl, n1, rfl⟩
    go_wp2
    go_ret2
    exact E0.out _ (below_drewN (below_al1 _ _) _)
  · obtain ⟨v1, v2, v3⟩ := okC_nat hv
    obtain ⟨b0, o0, k0, b1, o1, k1, b2, o2, k2, b3, o3, k3, rfl, rfl, rfl, rfl, hL⟩ := h.lay (PlN.ofV v1)
    have := specFlux_ok r _ i.toNat b0 o0 k0 b1 o1 k1 b2 o2 k2 b3 o3 k3 w h hL (PlN.ofV v1) v3 (by rw [← v2]; exact hv)
    rw [← v2] at this
    exact this

def SgB (X Y : Nat) (_ : FuncId) (args : Array Value) (v : Value) : Prop := (args.getD 2 undef = .int .i64 1 → ∃ s, cn .f32 s = X ∧ v = .float .f32 s) ∧ (args.getD 2 undef = .int .i64 0 → ∃ s, cn .f32 s = Y ∧ v = .float .f32 s)
set_option maxRecDepth 10000 in
set_option maxHeartbeats 1600000 in
theorem implFlux_any (a b c d : Value) (r : PL) (i : Int) (w : World) (h : PRow w a b c d r) : Calls Try.prog 38 #[.agg #[.int .i64 r.X, .int .i64 r.Y, a, b, c, d], .int .i64 i] w (FxR r i w) := by
  have A := Lib.hid (Cells.made w (pvs r a b c d) 28)
  have Bw := Lib.hid (below_al1 w (.cells (pvs r a b c d).toArray 28))
  have IV := Lib.hid (implPl_any a b c d r _ (h.below (below_al1 w (.cells (pvs r a b c d).toArray 28))))
  cases hp : vPl r
  · have ho : okC r i = false := by unfold okC; rw [hp]; rfl
    have E0 := Lib.hid (fun w' hb => fx_no (w := w) (w' := w') (fx_has ho) hb)
    rw [hp] at IV
    clear hp h
    go_enter Try.func38, Try.ntmps38
    go_wp2_with fail
    refine IV.out.mono ?_
    rintro e w1 ⟨rfl, hb⟩
    go_wp2
    go_ret2
    exact E0.out _ (below_step Bw.out hb)
  · have NN1 := PlN.ofV hp
    have NN := Lib.hid NN1
    rw [hp] at IV
    cases hi : (decide (0 ≤ i) && decide (i < (r.W.length : Int)))
    · have ho : okC r i = false := by unfold okC; rw [hp, hi]; rfl
      have E0 := Lib.hid (fun w' hb => fx_no (w := w) (w' := w') (fx_has ho) hb)
      clear hp h NN1
      go_enter Try.func38, Try.ntmps38
      go_wp2_with fail
      refine IV.out.mono ?_
      rintro e w1 ⟨rfl, hb⟩
      have Bw := Lib.hid (below_step Bw.out hb); have A := Lib.hid (A.out.kept hb); have c0 := A.out.at 0 rfl; have c1 := A.out.at 1 rfl; have c2 := A.out.at 2 rfl; have c3 := A.out.at 3 rfl; have c4 := A.out.at 4 rfl; have c5 := A.out.at 5 rfl; clear hb
      go_wp2_with fail
      refine (isCell_any r _ _ _ _ _ i _ NN.out).mono ?_
      rw [hi]
      rintro e w2 ⟨rfl, hb⟩
      go_wp2
      go_ret2
      exact E0.out _ (below_step Bw.out hb)
    · have ho : okC r i = true := by unfold okC; rw [hp, hi]; rfl
      obtain ⟨_, v2, v3⟩ := okC_nat ho
      have BD := Lib.hid (fun s t (hs : cn .f32 s = fxR r i.toNat) (ht : cn .f32 t = fxI r i.toNat) h => fx_bad (i := i) hs ht h)
      have GD := Lib.hid (fun s t (hs : cn .f32 s = fxR r i.toNat) (ht : cn .f32 t = fxI r i.toNat) h => fx_good (i := i) ho hs ht h)
      have FB := Lib.hid (fun jb jf (hjb : jb < 4) (hjf : jf < 4) w1 (hb : Below w.heap.size w w1) => by
        obtain ⟨b0, o0, k0, b1, o1, k1, b2, o2, k2, b3, o3, k3, e1, e2, e3, e4, hL⟩ := (h.below hb).lay NN1
        have := fluxBetween_any _ _ _ _ i.toNat jb jf hjb hjf r b0 o0 k0 b1 o1 k1 b2 o2 k2 b3 o3 k3 w1 hL NN1.q (Sd.std NN1) rfl v3
        rw [show ps b0 o0 r.W.length k0 = a from e1.symm, show ps b1 o1 r.W.length k1 = b from e2.symm, show ps b2 o2 r.W.length k2 = c from e3.symm, show ps b3 o3 r.W.length k3 = d from e4.symm] at this
        exact this)
      have vi : (i.toNat : Int) = i := v2.symm
      rw [vi] at FB
      have FB1 : Hid (∀ w1, Below w.heap.size w w1 → Calls Try.prog 88 #[.agg #[.int .i64 r.X, .int .i64 r.Y, a, b, c, d], .int .i64 i, .int .i64 1, .int .i64 2] w1 (FlP (fxR r i.toNat) w1)) := Lib.hid (fun w1 hb => FB.out 1 2 (by decide) (by decide) w1 hb)
      have FB0 : Hid (∀ w1, Below w.heap.size w w1 → Calls Try.prog 88 #[.agg #[.int .i64 r.X, .int .i64 r.Y, a, b, c, d], .int .i64 i, .int .i64 0, .int .i64 3] w1 (FlP (fxI r i.toNat) w1)) := Lib.hid (fun w1 hb => FB.out 0 3 (by decide) (by decide) w1 hb)
      clear FB hp h NN1 ho v2 v3 vi
      go_enter Try.func38, Try.ntmps38
      go_wp2_with fail
      refine IV.out.mono ?_
      rintro e w1 ⟨rfl, hb⟩
      have Bw := Lib.hid (below_step Bw.out hb); have A := Lib.hid (A.out.kept hb); have c0 := A.out.at 0 rfl; have c1 := A.out.at 1 rfl; have c2 := A.out.at 2 rfl; have c3 := A.out.at 3 rfl; have c4 := A.out.at 4 rfl; have c5 := A.out.at 5 rfl; clear hb
      go_wp2_with fail
      refine (isCell_any r _ _ _ _ _ i _ NN.out).mono ?_
      rw [hi]
      rintro e w2 ⟨rfl, hb⟩
      clear c0 c1 c2 c3 c4 c5
      have Bw := Lib.hid (below_step Bw.out hb); have A := Lib.hid (A.out.kept hb); have c0 := A.out.at 0 rfl; have c1 := A.out.at 1 rfl; have c2 := A.out.at 2 rfl; have c3 := A.out.at 3 rfl; have c4 := A.out.at 4 rfl; have c5 := A.out.at 5 rfl; clear hb
      have FACT := Lib.hid (fun w3 (hw : Ext w2 w3) => And.intro (Ext.cell hw c0) (And.intro (Ext.cell hw c1) (And.intro (Ext.cell hw c2) (And.intro (Ext.cell hw c3) (And.intro (Ext.cell hw c4) (Ext.cell hw c5))))))
      go_wp2
      refine wp_region_looseC (Ext _) (SgB (fxR r i.toNat) (fxI r i.toNat)) (Ext.start _) (by kernel_rfl) (by kernel_rfl) ?_
      repeat (first | (refine wpLoose_farithB rfl _ _ _ _ _ rfl rfl _ _ _ rfl rfl ?_; intro _ _) | (refine wpLoose_valK rfl ?_ (fun w1 hw1 => ?_) (fun K hK => ?_); rotate_left; (focus (have hF := FACT.out w1 hw1; go_simp; first | done | rfl)); go_simp; refine hK _ ?_; clear hK K))
      refine wpLoose_callS rfl 88 #[.agg #[.int .i64 r.X, .int .i64 r.Y, a, b, c, d], .int .i64 i, .int .i64 1, .int .i64 2] (fun w3 => ?_) (fun w3 hw3 => ?_) (fun v hv => ?_)
      · go_simp
      · refine (FB1.out w3 (below_step Bw.out hw3)).mono ?_
        rintro e w4 ⟨s, hs, rfl, hb⟩
        exact ⟨_, rfl, ⟨fun _ => ⟨s, hs, rfl⟩, fun h => absurd h (by simp)⟩, hb⟩
      obtain ⟨s, hs, rfl⟩ := hv.1 rfl
      clear hv
      repeat (first | (refine wpLoose_farithB rfl _ _ _ _ _ rfl rfl _ _ _ rfl rfl ?_; intro _ _) | (refine wpLoose_valK rfl ?_ (fun w1 hw1 => ?_) (fun K hK => ?_); rotate_left; (focus (have hF := FACT.out w1 hw1; go_simp; first | done | rfl)); go_simp; refine hK _ ?_; clear hK K))
      refine wpLoose_callS rfl 88 #[.agg #[.int .i64 r.X, .int .i64 r.Y, a, b, c, d], .int .i64 i, .int .i64 0, .int .i64 3] (fun w3 => ?_) (fun w3 hw3 => ?_) (fun v hv => ?_)
      · go_simp
      · refine (FB0.out w3 (below_step Bw.out hw3)).mono ?_
        rintro e w4 ⟨s, hs, rfl, hb⟩
        exact ⟨_, rfl, ⟨fun h => absurd h (by simp), fun _ => ⟨s, hs, rfl⟩⟩, hb⟩
      obtain ⟨t, ht, rfl⟩ := hv.2 rfl
      clear hv
      repeat (first | (refine wpLoose_farithB rfl _ _ _ _ _ rfl rfl _ _ _ rfl rfl ?_; intro _ _) | (refine wpLoose_valK rfl ?_ (fun w1 hw1 => ?_) (fun K hK => ?_); rotate_left; (focus (have hF := FACT.out w1 hw1; go_simp; first | done | rfl)); go_simp; refine hK _ ?_; clear hK K))
      refine wpLoose_nil ?_; intro w1 hb
      have B9 := Lib.hid (below_step Bw.out hb)
      have HS := Lib.hid hs
      have HT := Lib.hid ht
      clear hb hs ht
      cases hf : (fin .f32 s && fin .f32 t)
      · have E := Lib.hid (BD.out s t HS.out HT.out hf)
        go_wp2_with fail
        refine (implCFin_any s t _).mono ?_
        rw [hf]
        rintro e w' ⟨rfl, q3, rfl⟩
        go_wp2
        go_ret2
        exact fx_no E.out (by first | exact below_drewN B9.out _ | exact B9.out)
      · have E := Lib.hid (GD.out s t HS.out HT.out hf)
        go_wp2_with fail
        refine (implCFin_any s t _).mono ?_
        rw [hf]
        rintro e w' ⟨rfl, q3, rfl⟩
        go_wp2
        go_ret2
        exact fx_yes E.out HS.out HT.out (by first | exact below_drewN B9.out _ | exact B9.out)
end Go.Proofs.Ytcjhaeiknenajaa
