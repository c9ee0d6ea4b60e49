/- How far a plate is from rest: both sides, and the law. -/
import Derived.Test.YtcjhaeiknenajaaMissM
namespace Go.Proofs.Ytcjhaeiknenajaa
open Go.RowKit
set_option linter.unusedVariables false

/-- what a cell misses -/
def msT (r : PL) (k : Nat) : Nat := fop .add .f32 (fV r k) (cn .f32 (r.G.getD k 0))
def mxV (r : PL) : Nat → Option Nat
  | 0 => some 0
  | k + 1 => bif r.H.getD k false then mxV r k else nextV (mxV r k) (msT r k)
theorem mxV_held {r : PL} {k : Nat} (h : r.H.getD k false = true) : mxV r (k + 1) = mxV r k := by
  show (bif r.H.getD k false then mxV r k else nextV (mxV r k) (msT r k)) = _
  rw [h]; rfl
theorem mxV_free {r : PL} {k : Nat} (h : r.H.getD k false = false) : mxV r (k + 1) = nextV (mxV r k) (msT r k) := by
  show (bif r.H.getD k false then mxV r k else nextV (mxV r k) (msT r k)) = _
  rw [h]; rfl
theorem mxV_none {r : PL} {k : Nat} (h : mxV r k = none) : ∀ d, mxV r (k + d) = none
  | 0 => h
  | d + 1 => by
    have ih := mxV_none h d
    cases e : r.H.getD (k + d) false
    · show mxV r (k + d + 1) = none
      rw [mxV_free e, ih]; rfl
    · show mxV r (k + d + 1) = none
      rw [mxV_held e]; exact ih
def msR (r : PL) : Option Nat := bif vPl r then mxV r r.W.length else none
def Mss (V : Option Nat) (w : World) (e : Ending) (w' : World) : Prop := GivB (V.getD 0) V.isSome w e w'
theorem mss_none {w w' : World} (hb : Below w.heap.size w w') : Mss none w (.returned (.tuple #[.float .f32 0, .bool false])) w' := GivB.no hb
theorem mss_some {v : Nat} {w w' : World} (hv : v < 2139095040) (hb : Below w.heap.size w w') : Mss (some v) w (.returned (.tuple #[.float .f32 v, .bool true])) w' := ⟨v, cn_small (by omega), rfl, hb⟩
theorem mss_rep {m : Nat} {V : Option Nat} {w w' : World} (h : Rep m V) (hb : Below w.heap.size w w') : Mss V w (.returned (.tuple #[.float .f32 (ifF m), .bool (fin .f32 m)])) w' := by
  cases V with
  | none =>
    have hf : fin .f32 m = false := by
      rcases h with h | rfl
      · exact fin_nan h
      · decide +kernel
    have e : ifF m = 0 := by unfold ifF; rw [hf]; rfl
    rw [e, hf]; exact mss_none hb
  | some v =>
    obtain ⟨rfl, hv⟩ := h
    have hf : fin .f32 m = true := by rw [fin_iff32]; simp; omega
    rw [ifF_fin hf, hf]; exact mss_some hv hb
theorem next_bad {V : Option Nat} {q : Nat} (h : ¬ q % 2147483648 < 2139095040) : nextV V q = none := by
  cases V with
  | none => rfl
  | some v => unfold nextV; simp only []; rw [if_neg h]
theorem next_some {v q : Nat} (h : q % 2147483648 < 2139095040) : nextV (some v) q = some (max v (q % 2147483648)) := by
  unfold nextV; simp only []; rw [if_pos h]
/-- what is not finite as it flows in, is not as it misses -/
theorem ms_nf {r : PL} {k : Nat} (h : fin .f32 (fV r k) = false) : ¬ msT r k % 2147483648 < 2139095040 := fun hf => by
  have : fin .f32 (msT r k) = true := by rw [fin_iff32]; simp; exact hf
  rw [(add_fin2 this).1] at h; cases h
theorem miss_bits {r : PL} {k s q y : Nat} (hs : cn .f32 s = fV r k) (hy : r.G.getD k 0 = y) (h : FR .add .f32 s y q) (V : Option Nat) : nextV V q = nextV V (msT r k) := by
  rw [← nextV_cn V q, h.1, hs, ← hy]; rfl

set_option maxRecDepth 10000 in
set_option maxHeartbeats 1600000 in
theorem specMiss_any (a b c d : Value) (r : PL) (w : World) (h : PRow w a b c d r) : Calls Try.prog 27 #[.agg #[.int .i64 r.X, .int .i64 r.Y, a, b, c, d]] w (Mss (msR r) w) := by
  have IV := Lib.hid (specPl_any a b c d r w.heap.size _ (Cells.made w (pvs r a b c d) 28) (h.below (below_al1 w (.cells (pvs r a b c d).toArray 28))))
  unfold msR
  cases hv : vPl r
  · rw [hv] at IV
    rw [cond_false]
    clear h
    go_enter Try.func27, Try.ntmps27
    go_wp2_with fail
    refine IV.out.mono ?_
    rintro e w' ⟨rfl, n1, rfl⟩
    go_wp2
    go_ret2
    exact mss_none (below_drewN (below_al1 _ _) _)
  · rw [hv] at IV
    rw [cond_true]
    have R := Lib.hid (fun w1 (hb : Below w.heap.size w w1) => h.below hb)
    have NN1 := PlN.ofV hv
    have IN := Lib.hid (fun k (hk : k < r.W.length) p w1 A hb => specFlowV_any r _ k a b c d p w1 A (R.out w1 hb) NN1 hk)
    clear NN1
    have NN0 := PlN.ofV hv
    obtain ⟨b0, o0, k0, b1, o1, k1, b2, o2, k2, b3, o3, k3, rfl, rfl, rfl, rfl, hL⟩ := h.lay NN0
    generalize hgn : r.W.length = n at *
    clear hgn
    have NN := Lib.hid NN0
    have LY := Lib.hid hL
    have N9 := Lib.hid NN0.q
    clear NN0 hL
    have HH := Lib.hid (fun k h => mxV_held (r := r) (k := k) h)
    have HF := Lib.hid (fun k h => mxV_free (r := r) (k := k) h)
    have HN := Lib.hid (fun k h d => mxV_none (r := r) (k := k) h d)
    have MB := Lib.hid (fun k s q y hs hy h V => miss_bits (r := r) (k := k) (s := s) (q := q) (y := y) hs hy h V)
    have MN := Lib.hid (fun k h => ms_nf (r := r) (k := k) h)
    have V0 : Hid (mxV r 0 = some 0) := Lib.hid rfl
    clear hv h R
    generalize mxV r = V at *
    generalize msT r = T at *
    have A := Lib.hid (Cells.made w (pvs r (ps b0 o0 n k0) (ps b1 o1 n k1) (ps b2 o2 n k2) (ps b3 o3 n k3)) 28)
    have Bw := Lib.hid (below_al1 w (.cells (pvs r (ps b0 o0 n k0) (ps b1 o1 n k1) (ps b2 o2 n k2) (ps b3 o3 n k3)).toArray 28))
    have LY := Lib.hid (LY.out.below (below_al1 w (.cells (pvs r (ps b0 o0 n k0) (ps b1 o1 n k1) (ps b2 o2 n k2) (ps b3 o3 n k3)).toArray 28)))
    go_enter Try.func27, Try.ntmps27
    go_wp2_with fail
    refine IV.out.mono ?_
    rintro e w' ⟨rfl, n1, rfl⟩
    have c0 := A.out.at 0 rfl; have c1 := A.out.at 1 rfl; have c2 := A.out.at 2 rfl; have c3 := A.out.at 3 rfl; have c4 := A.out.at 4 rfl; have c5 := A.out.at 5 rfl
    go_wp2_with fail
    go_loopw [4, 5] (fun s i wr => ∃ k v : Nat, k ≤ n ∧ i = .int .i64 k ∧ s = .float .f32 v ∧ v < 2139095040 ∧ Hid (V k = some v) ∧ Hid (Below (w.alloc (.cells (pvs r (ps b0 o0 n k0) (ps b1 o1 n k1) (ps b2 o2 n k2) (ps b3 o3 n k3)).toArray 28)).heap.size (w.alloc (.cells (pvs r (ps b0 o0 n k0) (ps b1 o1 n k1) (ps b2 o2 n k2) (ps b3 o3 n k3)).toArray 28)) wr)) (fun _ i _ => n - (intOf i).toNat)
    case atStart => exact ⟨0, 0, Nat.zero_le _, rfl, rfl, by decide, V0, Lib.hid (below_drewN (Below.refl _ _) _)⟩
    case round =>
      obtain ⟨k, v, hk, rfl, rfl, hv, hV, hB⟩ := hrel
      have hG := N9.out
      have hxy := NN.out.xy
      have A1 := Lib.hid (A.out.kept hB.out)
      have c0 := A1.out.at 0 rfl; have c1 := A1.out.at 1 rfl; have c2 := A1.out.at 2 rfl; have c3 := A1.out.at 3 rfl; have c4 := A1.out.at 4 rfl; have c5 := A1.out.at 5 rfl
      have Bw1 := Lib.hid (below_step Bw.out hB.out)
      have HVv := Lib.hid hv
      clear hv
      by_cases hlt : k < n
      · have HHk := Lib.hid (HH.out k)
        have HFk := Lib.hid (HF.out k)
        have HNk : Hid (V (k + 1) = none → V n = none) := Lib.hid (fun h => by have := HN.out (k + 1) h (n - (k + 1)); rwa [show k + 1 + (n - (k + 1)) = n by omega] at this)
        have INk := Lib.hid (IN.out k hlt)
        have zH := (LY.out.below hB.out).H k hlt
        generalize hyH : r.H.getD k false = yH at *
        have hi : (0 : Int) ≤ (k : Int) := by omega
        have hi' : (k : Int) < (n : Int) := by omega
        cases yH
        · have E := Lib.hid (HFk.out rfl)
          clear hyH
          go_wp2_with fail
          refine (INk.out _ _ A1.out Bw1.out).mono ?_
          rintro e w2 ⟨q, hq, rfl, hb⟩
          have Bw2 := Lib.hid (below_step Bw1.out hb)
          have B2 := Lib.hid (below_step hB.out hb)
          have A2 := Lib.hid (A.out.kept B2.out)
          have zG := (LY.out.below B2.out).G k hlt
          have HQ := Lib.hid hq
          clear hq hb c0 c1 c2 c3 c4 c5 zH
          have c0 := A2.out.at 0 rfl; have c1 := A2.out.at 1 rfl; have c2 := A2.out.at 2 rfl; have c3 := A2.out.at 3 rfl; have c4 := A2.out.at 4 rfl; have c5 := A2.out.at 5 rfl
          have MBk := Lib.hid (fun s t hs h => MB.out k s t _ hs rfl h)
          generalize hyG : r.G.getD k 0 = yG at *
          cases BB : fin .f32 (fV r k)
          · have F : Hid (V n = none) := Lib.hid (HNk.out (by rw [E.out]; exact next_bad (MN.out k BB)))
            go_wp2_with (first | (refine wpList_farith rfl _ _ _ _ _ rfl rfl _ _ _ rfl rfl ?_; intro t1 j1 g1) | (go_at_call 76; refine (specSize_any _ (wf_lt g1.2) _).mono ?_; rintro e w' ⟨s9, _, rfl, m9, rfl⟩))
            go_ret2
            rw [F.out]
            exact mss_none (by first | exact below_drewN Bw2.out _ | exact Bw2.out)
          · have Q2 := Lib.hid (HQ.out.trans (ifF_fin BB))
            go_wp2_with (first | (refine wpList_farith rfl _ _ _ _ _ rfl rfl _ _ _ rfl rfl ?_; intro t1 j1 g1))
            refine (specSize_any _ (wf_lt g1.2) _).mono ?_
            rintro e w' ⟨s9, hs9, rfl, m9, rfl⟩
            have NX := Lib.hid (MBk.out _ _ Q2.out g1 (some v))
            by_cases hf : t1 % 2147483648 < 2139095040
            · have es := hs9.2.1 hf
              have fs : fin .f32 s9 = true := by rw [fin_iff32]; simp; omega
              have hv := HVv.out
              have hs : s9 < 2139095040 := by omega
              have ES := Lib.hid es
              have HFF := Lib.hid hf
              clear es hs9 hf
              go_wp2_with (first | (go_at_call 77; refine (specFinite_any _ _).mono ?_; rw [fs]; rintro e w' ⟨rfl, m8, rfl⟩) | (refine upon_maxS _ _ v s9 hv hs ?_; intro j9))
              go_roundw
              case rel => exact ⟨k + 1, _, by omega, by go_num, rfl, by omega, Lib.hid (by rw [E.out, hV.out, ← NX.out, next_some HFF.out, ES.out]), Lib.hid (by first | exact below_drewN B2.out _ | exact B2.out)⟩
              case measure => simp [intOf]; omega
            · have ns := hs9.2.2 hf
              have fs : fin .f32 s9 = false := by rw [fin_iff32]; simp; omega
              have F : Hid (V n = none) := Lib.hid (HNk.out (by rw [E.out, hV.out, ← NX.out]; exact next_bad hf))
              go_wp2_with (first | (go_at_call 77; refine (specFinite_any _ _).mono ?_; rw [fs]; rintro e w' ⟨rfl, m8, rfl⟩))
              go_ret2
              rw [F.out]
              exact mss_none (by first | exact below_drewN Bw2.out _ | exact Bw2.out)
        · have E := Lib.hid (HHk.out rfl)
          clear hyH
          go_wp2
          go_roundw
          case rel => exact ⟨k + 1, _, by omega, by go_num, rfl, HVv.out, Lib.hid (by rw [E.out, hV.out]), Lib.hid hB.out⟩
          case measure => simp [intOf]; omega
      · have e := Lib.hid (show k = n by omega)
        go_wp2
        go_ret2
        rw [← e.out, hV.out]
        exact mss_some HVv.out Bw1.out

set_option maxRecDepth 10000 in
set_option maxHeartbeats 1600000 in
theorem implMiss_any (a b c d : Value) (r : PL) (w : World) (h : PRow w a b c d r) : Calls Try.prog 28 #[.agg #[.int .i64 r.X, .int .i64 r.Y, a, b, c, d]] w (Mss (msR r) w) := by
  have IV := Lib.hid (implPl_any a b c d r _ (h.below (below_al1 w (.cells (pvs r a b c d).toArray 28))))
  unfold msR
  cases hv : vPl r
  · rw [hv] at IV
    rw [cond_false]
    clear h
    go_enter Try.func28, Try.ntmps28
    go_wp2_with fail
    refine IV.out.mono ?_
    rintro e w' ⟨rfl, hb⟩
    go_wp2
    go_ret2
    exact mss_none (below_step (below_al1 _ _) hb)
  · rw [hv] at IV
    rw [cond_true]
    have R := Lib.hid (fun w1 (hb : Below w.heap.size w w1) => h.below hb)
    have NN1 := PlN.ofV hv
    have IN := Lib.hid (fun k (hk : k < r.W.length) w1 hb => implFlowV_any r _ k a b c d w1 (R.out w1 hb) NN1 hk)
    clear NN1
    have NN0 := PlN.ofV hv
    obtain ⟨b0, o0, k0, b1, o1, k1, b2, o2, k2, b3, o3, k3, rfl, rfl, rfl, rfl, hL⟩ := h.lay NN0
    generalize hgn : r.W.length = n at *
    clear hgn
    have NN := Lib.hid NN0
    have LY := Lib.hid hL
    have N9 := Lib.hid NN0.q
    clear NN0 hL
    have HH := Lib.hid (fun k h => mxV_held (r := r) (k := k) h)
    have HF := Lib.hid (fun k h => mxV_free (r := r) (k := k) h)
    have MB := Lib.hid (fun k s q y hs hy h V => miss_bits (r := r) (k := k) (s := s) (q := q) (y := y) hs hy h V)
    have V0 : Hid (Rep 0 (mxV r 0)) := Lib.hid ⟨rfl, by decide⟩
    clear hv h R
    generalize mxV r = V at *
    generalize msT r = T at *
    have A := Lib.hid (Cells.made w (pvs r (ps b0 o0 n k0) (ps b1 o1 n k1) (ps b2 o2 n k2) (ps b3 o3 n k3)) 28)
    have Bw := Lib.hid (below_al1 w (.cells (pvs r (ps b0 o0 n k0) (ps b1 o1 n k1) (ps b2 o2 n k2) (ps b3 o3 n k3)).toArray 28))
    have LY := Lib.hid (LY.out.below (below_al1 w (.cells (pvs r (ps b0 o0 n k0) (ps b1 o1 n k1) (ps b2 o2 n k2) (ps b3 o3 n k3)).toArray 28)))
    go_enter Try.func28, Try.ntmps28
    go_wp2_with fail
    refine IV.out.mono ?_
    rintro e w1 ⟨rfl, hb⟩
    have Bw := Lib.hid (below_step Bw.out hb)
    have A := Lib.hid (A.out.kept hb)
    have LY := Lib.hid (LY.out.below hb)
    have c0 := A.out.at 0 rfl; have c1 := A.out.at 1 rfl; have c2 := A.out.at 2 rfl; have c3 := A.out.at 3 rfl; have c4 := A.out.at 4 rfl; have c5 := A.out.at 5 rfl
    clear hb
    have B9 := Lib.hid Bw.out
    go_wp2
    go_loopw [4, 14] (fun s i wr => ∃ k m : Nat, k ≤ n ∧ i = .int .i64 k ∧ s = .float .f32 m ∧ Hid (Rep m (V k)) ∧ Hid (Below w1.heap.size w1 wr)) (fun _ i _ => n - (intOf i).toNat)
    case atStart => exact ⟨0, 0, Nat.zero_le _, rfl, rfl, V0, Lib.hid (Below.refl _ _)⟩
    case round =>
      obtain ⟨k, m, hk, rfl, rfl, hV, hB⟩ := hrel
      have hG := N9.out
      have A1 := Lib.hid (A.out.kept hB.out)
      have c0 := A1.out.at 0 rfl; have c1 := A1.out.at 1 rfl; have c2 := A1.out.at 2 rfl; have c3 := A1.out.at 3 rfl; have c4 := A1.out.at 4 rfl; have c5 := A1.out.at 5 rfl
      have Bw1 := Lib.hid (below_step B9.out hB.out)
      by_cases hlt : k < n
      · have HHk := Lib.hid (HH.out k)
        have HFk := Lib.hid (HF.out k)
        have INk := Lib.hid (IN.out k hlt)
        have zH := (LY.out.below hB.out).H k hlt
        generalize hyH : r.H.getD k false = yH at *
        have hi : (0 : Int) ≤ (k : Int) := by omega
        have hi' : (k : Int) < (n : Int) := by omega
        cases yH
        · have E := Lib.hid (HFk.out rfl)
          clear hyH
          have zG := (LY.out.below hB.out).G k hlt
          have MBk := Lib.hid (fun s t hs h => MB.out k s t _ hs rfl h)
          generalize hyG : r.G.getD k 0 = yG at *
          have FACT := Lib.hid (fun w3 (hw : Ext _ w3) => And.intro (Ext.cell hw c0) (And.intro (Ext.cell hw c1) (And.intro (Ext.cell hw c2) (And.intro (Ext.cell hw c3) (And.intro (Ext.cell hw c4) (And.intro (Ext.cell hw c5) (Ext.cell hw zG)))))))
          go_wp2
          refine wp_region_looseC (Ext _) (fun _ _ v => ∃ s, cn .f32 s = fV r k ∧ v = .float .f32 s) (Ext.start _) (by kernel_rfl) (by kernel_rfl) ?_
          repeat (first | (refine wpLoose_farithB rfl _ _ _ _ _ rfl rfl _ _ _ rfl rfl ?_; intro _ _) | (refine wpLoose_valK rfl ?_ (fun w1 hw1 => ?_) (fun K hK => ?_); rotate_left; (focus (have hF := FACT.out w1 hw1; go_simp; first | done | rfl)); go_simp; refine hK _ ?_; clear hK K))
          refine wpLoose_callS rfl 75 #[.agg #[.int .i64 r.X, .int .i64 r.Y, (ps b0 o0 n k0), (ps b1 o1 n k1), (ps b2 o2 n k2), (ps b3 o3 n k3)], .int .i64 (k : Int)] (fun w3 => ?_) (fun w3 hw3 => ?_) (fun v hv => ?_)
          · go_simp
          · refine (INk.out w3 (below_step Bw1.out hw3)).mono ?_
            rintro e w4 ⟨s, hs, rfl, hb⟩
            exact ⟨_, rfl, ⟨s, hs, rfl⟩, hb⟩
          obtain ⟨s, hs, rfl⟩ := hv
          repeat (first | (refine wpLoose_farithB rfl _ _ _ _ _ rfl rfl _ _ _ rfl rfl ?_; intro _ _) | (refine wpLoose_valK rfl ?_ (fun w1 hw1 => ?_) (fun K hK => ?_); rotate_left; (focus (have hF := FACT.out w1 hw1; go_simp; first | done | rfl)); go_simp; refine hK _ ?_; clear hK K))
          rename_i q1 g1
          refine wpLoose_nil ?_; intro w1 hb
          have NX := Lib.hid (MBk.out _ _ hs g1)
          have B2 := Lib.hid (below_step hB.out hb)
          have hq := wf_lt g1.2
          clear hb hs
          go_wp2_with (first | (refine upon_max3 _ _ m q1 (V k) hV.out hq ?_; intro r9 j9 h9))
          rename_i r9 j9 h9
          go_roundw
          case rel => exact ⟨k + 1, _, by omega, by go_num, rfl, Lib.hid (by rw [E.out, ← NX.out]; exact h9), Lib.hid (by first | exact below_drewN B2.out _ | exact B2.out)⟩
          case measure => simp [intOf]; omega
        · have E := Lib.hid (HHk.out rfl)
          clear hyH
          go_wp2
          go_roundw
          case rel => exact ⟨k + 1, _, by omega, by go_num, rfl, Lib.hid (by rw [E.out]; exact hV.out), Lib.hid hB.out⟩
          case measure => simp [intOf]; omega
      · have e := Lib.hid (show k = n by omega)
        go_wp2_with (first | (go_at_call 72; refine (implNum_any _ _).mono ?_; rintro e w' ⟨rfl, n3, rfl⟩))
        go_ret2
        rw [← e.out]
        exact mss_rep hV.out (by first | exact below_drewN Bw1.out _ | exact Bw1.out)

set_option maxRecDepth 10000 in
set_option maxHeartbeats 1600000 in
theorem fnExactMissOfPlate_walk (r : PL) (a b c d : Value) (w : World) (h : PRow w a b c d r) (hf : PWf r) :
    Calls Try.prog 7 #[.agg #[.int .i64 r.X, .int .i64 r.Y, a, b, c, d]] w (Tru w) := by
  have R := Lib.hid (fun w1 (hb : Below w.heap.size w w1) => h.below hb)
  have PW := Lib.hid hf
  clear h hf
  have A := Lib.hid (Cells.made w (pvs r a b c d) 25)
  have Bw := Lib.hid (below_al1 w (.cells (pvs r a b c d).toArray 25))
  by_cases hl : r.size ≤ 1048576
  · have HL := Lib.hid hl
    clear hl
    go_enter Try.func7, Try.ntmps7
    go_wp2_with fail
    refine (szPlate_fit a b c d r 1048576 _ (R.out _ Bw.out) HL.out (Nat.le_refl _)).mono ?_
    rintro _ w1 ⟨rfl, hb⟩
    have Bw := Lib.hid (below_step Bw.out hb); have A := Lib.hid (A.out.kept hb); have c0 := A.out.at 0 rfl; have c1 := A.out.at 1 rfl; have c2 := A.out.at 2 rfl; have c3 := A.out.at 3 rfl; have c4 := A.out.at 4 rfl; have c5 := A.out.at 5 rfl; clear hb
    go_wp2_with fail
    refine (toPlate_any a b c d r _ (R.out _ Bw.out) HL.out).mono ?_
    rintro _ w2 ⟨p0, p1, p2, p3, rfl, hp, V, hb⟩
    clear c0 c1 c2 c3 c4 c5
    have Bw := Lib.hid (below_step Bw.out hb); have A := Lib.hid (A.out.kept hb); have c0 := A.out.at 0 rfl; have c1 := A.out.at 1 rfl; have c2 := A.out.at 2 rfl; have c3 := A.out.at 3 rfl; have c4 := A.out.at 4 rfl; have c5 := A.out.at 5 rfl; have V := Lib.hid V; clear hb hp
    go_wp2_with fail
    refine (specMiss_any _ _ _ _ r _ (V.out.row HL.out)).mono ?_
    rintro _ w3 ⟨f1, hf1, rfl, hb⟩
    have F1 := Lib.hid hf1
    clear hf1
    clear c0 c1 c2 c3 c4 c5
    have Bw := Lib.hid (below_step Bw.out hb); have A := Lib.hid (A.out.kept hb); have c0 := A.out.at 0 rfl; have c1 := A.out.at 1 rfl; have c2 := A.out.at 2 rfl; have c3 := A.out.at 3 rfl; have c4 := A.out.at 4 rfl; have c5 := A.out.at 5 rfl; clear hb V
    go_wp2_with fail
    refine (toPlate_any a b c d r _ (R.out _ Bw.out) HL.out).mono ?_
    rintro _ w4 ⟨x0, x1, x2, x3, rfl, hp, V, hb⟩
    clear c0 c1 c2 c3 c4 c5
    have Bw := Lib.hid (below_step Bw.out hb); have A := Lib.hid (A.out.kept hb); have c0 := A.out.at 0 rfl; have c1 := A.out.at 1 rfl; have c2 := A.out.at 2 rfl; have c3 := A.out.at 3 rfl; have c4 := A.out.at 4 rfl; have c5 := A.out.at 5 rfl; have V := Lib.hid V; clear hb hp
    have X := Lib.hid (Cells.made w4 (pvs r (sl x0 r.W) (sl x1 r.E) (sl x2 r.G) (slb x3 r.H)) 28)
    have V := Lib.hid (V.out.kept (below_al1 w4 (.cells (pvs r (sl x0 r.W) (sl x1 r.E) (sl x2 r.G) (slb x3 r.H)).toArray 28)))
    have A := Lib.hid (A.out.kept (below_al1 w4 (.cells (pvs r (sl x0 r.W) (sl x1 r.E) (sl x2 r.G) (slb x3 r.H)).toArray 28)))
    have Bw := Lib.hid (below_step Bw.out (below_al1 w4 (.cells (pvs r (sl x0 r.W) (sl x1 r.E) (sl x2 r.G) (slb x3 r.H)).toArray 28)))
    go_wp2_with fail
    refine (implMiss_any _ _ _ _ r _ (V.out.row HL.out)).mono ?_
    rintro _ w5 ⟨f2, hf2, rfl, hb⟩
    have F2 := Lib.hid (hf2.trans F1.out.symm)
    clear hf2
    clear c0 c1 c2 c3 c4 c5
    have Bw := Lib.hid (below_step Bw.out hb); have A := Lib.hid (A.out.kept hb); have X := Lib.hid (X.out.kept hb); have V := Lib.hid (V.out.kept hb); have c0 := A.out.at 0 rfl; have c1 := A.out.at 1 rfl; have c2 := A.out.at 2 rfl; have c3 := A.out.at 3 rfl; have c4 := A.out.at 4 rfl; have c5 := A.out.at 5 rfl; clear hb
    have d0 := X.out.at 0 rfl; have d1 := X.out.at 1 rfl; have d2 := X.out.at 2 rfl; have d3 := X.out.at 3 rfl; have d4 := X.out.at 4 rfl; have d5 := X.out.at 5 rfl
    go_wp2_with (first | (refine wpList_up rfl Try.underlying33 Try.underlying37 _ rfl _ rfl ?_; intro _ _ _) | (go_at_call 24; refine (same_end (a := f2) (b := f1) _ (by assumption) (by assumption) F2.out).mono ?_; rintro e w' ⟨rfl, m, rfl⟩))
    generalize w4.heap.size = q at *
    go_region_held3 (fun w' => w'.cell? ⟨w.heap.size, 0, none⟩ = some (.int .i64 r.X) ∧ w'.cell? ⟨w.heap.size, 1, none⟩ = some (.int .i64 r.Y) ∧ w'.cell? ⟨w.heap.size, 2, none⟩ = some (a) ∧ w'.cell? ⟨w.heap.size, 3, none⟩ = some (b) ∧ w'.cell? ⟨w.heap.size, 4, none⟩ = some (c) ∧ w'.cell? ⟨w.heap.size, 5, none⟩ = some (d) ∧ w'.cell? ⟨q, 0, none⟩ = some (.int .i64 r.X) ∧ w'.cell? ⟨q, 1, none⟩ = some (.int .i64 r.Y) ∧ w'.cell? ⟨q, 2, none⟩ = some (sl x0 r.W) ∧ w'.cell? ⟨q, 3, none⟩ = some (sl x1 r.E) ∧ w'.cell? ⟨q, 4, none⟩ = some (sl x2 r.G) ∧ w'.cell? ⟨q, 5, none⟩ = some (slb x3 r.H)) (exact ⟨c0, c1, c2, c3, c4, c5, d0, d1, d2, d3, d4, d5⟩)
      (first
      | (go_at_call 17; refine (toPlate_any a b c d r _ (R.out _ (below_drewN Bw.out _)) HL.out).mono ?_; rintro _ w6 ⟨y0, y1, y2, y3, rfl, hp, Z, hb⟩; have Bw := Lib.hid (below_step Bw.out (below_undrew hb)); have A := Lib.hid (A.out.kept (below_undrew hb)); have X := Lib.hid (X.out.kept (below_undrew hb)); have V := Lib.hid (V.out.kept (below_undrew hb)); have Z := Lib.hid Z; clear hp hb; have c0 := A.out.at 0 rfl; have c1 := A.out.at 1 rfl; have c2 := A.out.at 2 rfl; have c3 := A.out.at 3 rfl; have c4 := A.out.at 4 rfl; have c5 := A.out.at 5 rfl; have d0 := X.out.at 0 rfl; have d1 := X.out.at 1 rfl; have d2 := X.out.at 2 rfl; have d3 := X.out.at 3 rfl; have d4 := X.out.at 4 rfl; have d5 := X.out.at 5 rfl)
      | (go_at_call 19; refine (eqPlate_any _ _ _ _ _ _ _ _ r _ (V.out.row HL.out) (Z.out.row HL.out)).mono ?_; rintro _ w7 ⟨rfl, hb⟩; have Bw := Lib.hid (below_step Bw.out hb); have A := Lib.hid (A.out.kept hb); have X := Lib.hid (X.out.kept hb); clear hb; have c0 := A.out.at 0 rfl; have c1 := A.out.at 1 rfl; have c2 := A.out.at 2 rfl; have c3 := A.out.at 3 rfl; have c4 := A.out.at 4 rfl; have c5 := A.out.at 5 rfl; have d0 := X.out.at 0 rfl; have d1 := X.out.at 1 rfl; have d2 := X.out.at 2 rfl; have d3 := X.out.at 3 rfl; have d4 := X.out.at 4 rfl; have d5 := X.out.at 5 rfl))
    all_goals
      go_wp2
      go_ret
      exact Tru.below Bw.out
  · have HL := Lib.hid (Nat.lt_of_not_le hl)
    clear hl
    go_enter Try.func7, Try.ntmps7
    go_wp2_with fail
    refine (szPlate_over a b c d r 1048576 _ (R.out _ Bw.out) HL.out (Nat.le_refl _)).mono ?_
    rintro _ w1 ⟨rfl, hb⟩
    have Bw := Lib.hid (below_step Bw.out hb); have A := Lib.hid (A.out.kept hb); have c0 := A.out.at 0 rfl; have c1 := A.out.at 1 rfl; have c2 := A.out.at 2 rfl; have c3 := A.out.at 3 rfl; have c4 := A.out.at 4 rfl; have c5 := A.out.at 5 rfl; clear hb
    go_wp2
    go_ret
    exact Tru.below Bw.out


end Go.Proofs.Ytcjhaeiknenajaa
