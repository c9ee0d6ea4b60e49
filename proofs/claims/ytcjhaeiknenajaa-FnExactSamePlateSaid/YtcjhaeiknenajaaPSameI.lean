/- Whether two plates are the same: the program's side. -/
import Derived.Test.YtcjhaeiknenajaaPSameS
import Derived.Laws.StructEq
namespace Go.Proofs.Ytcjhaeiknenajaa
open Go.RowKit
set_option linter.unusedVariables false

theorem SgL.of2 {w : World} {f : FuncId} {args : Array Value} {a b : Value} {zs ys : List Nat} (e0 : args.getD 0 undef = a) (e1 : args.getD 1 undef = b) (h : FRow w a zs) (h' : FRow w b ys) : SgL w f args (.bool (smL zs ys)) := by
  intro zs' ys' k k' _ _
  rw [e0] at k; rw [e1] at k'
  rw [FRow_inj h k, FRow_inj h' k']
/-- what the callees hand back -/
def SgI (w : World) (hb : Bool) (f : FuncId) (args : Array Value) (v : Value) : Prop :=
  (f = 54 → ∀ x y a b c d, args = #[.agg #[.int .i64 x, .int .i64 y, a, b, c, d]] → v = .agg #[.int .i64 x, .int .i64 y]) ∧ (f = 62 → SgL w f args v) ∧ (f = 64 → v = .bool hb)

theorem eqBs_len (v v' : Value) (hs ks : List Bool) (w : World) (h : BRow w v hs) (h' : BRow w v' ks) (hl : ¬ hs.length = ks.length) : Calls Try.prog 64 #[v, v'] w (Bol (smB hs ks) w) := by
  rw [smB_len hl]
  obtain ⟨a, ca, rfl⟩ := h.shape
  obtain ⟨a', ca', rfl⟩ := h'.shape
  clear h h'
  generalize hs.length = n at *
  generalize ks.length = m at *
  have f1 : ((n : Int) == (m : Int)) = false := by simp; omega
  have f2 : ((n : Int) != (m : Int)) = true := by simp; omega
  clear hl
  go_enter Try.func64, Try.ntmps64
  go_wp2
  go_ret
  exact ⟨rfl, 0, rfl⟩
set_option maxHeartbeats 800000 in
theorem eqBs_any (v v' : Value) (hs ks : List Bool) (w : World) (h : BRow w v hs) (h' : BRow w v' ks) : Calls Try.prog 64 #[v, v'] w (Bol (smB hs ks) w) := by
  by_cases hl : hs.length = ks.length
  · have VS := Lib.hid (fun k (hk : k < hs.length) (h : ¬ hs.getD k false = ks.getD k false) => smB_no (hs := hs) (ks := ks) hk h)
    have VN := Lib.hid (fun h => smB_yes hl h)
    have HC := Lib.hid (fun (hn : 1 ≤ hs.length) => h.cells hn)
    have HC' := Lib.hid (fun (hn : 1 ≤ hs.length) => h'.cells (by rw [← hl]; exact hn))
    have HL := Lib.hid h.len
    obtain ⟨d1, d2, rfl⟩ := h.shape
    obtain ⟨e1, e2, rfl⟩ := h'.shape
    rw [← hl] at HC' ⊢
    clear h h' hl
    generalize smB hs ks = B at *
    generalize hs.length = n at *
    go_enter Try.func64, Try.ntmps64
    go_wp2
    go_loopw [5, 13] (fun _ i wr => ∃ k m : Nat, k ≤ n ∧ i = .int .i64 k ∧ Hid (∀ j, j < k → hs.getD j false = ks.getD j false) ∧ wr = w.drewN m) (fun _ i _ => n - (intOf i).toNat)
    case atStart => exact ⟨0, 0, Nat.zero_le _, rfl, Lib.hid (fun j hj => absurd hj (Nat.not_lt_zero _)), rfl⟩
    case round =>
      obtain ⟨k, m, hk, rfl, hall, rfl⟩ := hrel
      by_cases hlt : k < n
      · obtain ⟨b0, o0, k0, e, hc⟩ := HC.out (by omega)
        obtain ⟨b1, o1, k1, e', hc'⟩ := HC'.out (by omega)
        have ea : d1 = some ⟨b0, o0, none⟩ := by cases e; rfl
        have ea' : e1 = some ⟨b1, o1, none⟩ := by cases e'; rfl
        have z0 := hc k hlt
        have z1 := hc' k hlt
        have VSk := Lib.hid (VS.out k hlt)
        clear e hc e' hc' HC HC'
        subst ea
        subst ea'
        have hG := HL.out
        have hi : (0 : Int) ≤ (k : Int) := by omega
        have hi' : (k : Int) < (n : Int) := by omega
        by_cases S : hs.getD k false = ks.getD k false
        · have V := Lib.hid S
          rw [S] at z0
          generalize ks.getD k false = y at z0 z1
          clear S
          go_wp2
          refine wp_region_loose (fun _ _ _ => True) (by kernel_rfl) (by kernel_rfl) ?_
          repeat (first | (refine wpLoose_farith rfl _ _ _ _ _ rfl rfl _ _ _ rfl rfl ?_; intro _ _) | (refine wpLoose_valK rfl ?_ (fun w1 hw1 => ?_) (fun K hK => ?_); rotate_left; (focus (obtain ⟨nq, rfl⟩ := hw1; go_simp; first | done | rfl)); go_simp; refine hK _ ?_; clear hK K))
          (refine wpLoose_nil ?_; rintro _ ⟨nq, rfl⟩)
          go_wp2
          go_roundw
          case rel => exact ⟨k + 1, _, by omega, by go_num, Lib.hid (fun j hj => by rcases Nat.lt_succ_iff_lt_or_eq.1 hj with h | h; exact hall.out j h; subst h; exact V.out), rfl⟩
          case measure => simp [intOf]; omega
        · have V := Lib.hid (VSk.out S)
          generalize hs.getD k false = y at z0 S
          generalize ks.getD k false = y' at z1 S
          have f5 : (y != y') = true := by simpa using S
          have f6 : (y == y') = false := by simpa using S
          clear S
          go_wp2
          refine wp_region_loose (fun _ _ _ => True) (by kernel_rfl) (by kernel_rfl) ?_
          repeat (first | (refine wpLoose_farith rfl _ _ _ _ _ rfl rfl _ _ _ rfl rfl ?_; intro _ _) | (refine wpLoose_valK rfl ?_ (fun w1 hw1 => ?_) (fun K hK => ?_); rotate_left; (focus (obtain ⟨nq, rfl⟩ := hw1; go_simp; first | done | rfl)); go_simp; refine hK _ ?_; clear hK K))
          (refine wpLoose_nil ?_; rintro _ ⟨nq, rfl⟩)
          go_wp2
          go_ret
          exact ⟨ret_b V.out, _, by first | rfl | rw [World.drewN_drewN]⟩
      · have e := Lib.hid (show k = n by omega)
        have VB : Hid (B = true) := Lib.hid (VN.out (by rw [← e.out]; exact hall.out))
        go_wp2
        go_ret
        exact ⟨ret_b VB.out, _, rfl⟩
  · exact eqBs_len v v' hs ks w h h' hl

set_option maxRecDepth 20000 in
set_option maxHeartbeats 3200000 in
theorem implSameP_any (a b c d a' b' c' d' : Value) (r s : PL) (w : World) (h : PRow w a b c d r) (h' : PRow w a' b' c' d' s) (wr : LWf r) (ws : LWf s) : Calls Try.prog 21 #[.agg #[.int .i64 r.X, .int .i64 r.Y, a, b, c, d], .agg #[.int .i64 s.X, .int .i64 s.Y, a', b', c', d']] w (BolB (sameP r s) w) := by
  have WW := Lib.hid (And.intro wr ws)
  have HH := Lib.hid (And.intro h h')
  obtain ⟨d1, d2, rfl⟩ := h.H.shape
  obtain ⟨e1, e2, rfl⟩ := h'.H.shape
  obtain ⟨i1, i2, rfl⟩ := h.W.shape
  obtain ⟨i3, i4, rfl⟩ := h'.W.shape
  obtain ⟨j1, j2, rfl⟩ := h.E.shape
  obtain ⟨j3, j4, rfl⟩ := h'.E.shape
  obtain ⟨l1, l2, rfl⟩ := h.G.shape
  obtain ⟨l3, l4, rfl⟩ := h'.G.shape
  clear h h' wr ws
  have VB : Hid (sameP r s = (exS r s && smL r.W s.W && smL r.E s.E && smL r.G s.G && smB r.H s.H)) := Lib.hid rfl
  have EX : Hid (exS r s = (decide (r.X = s.X) && decide (r.Y = s.Y))) := Lib.hid rfl
  generalize sameP r s = B at *
  generalize r.H.length = nh at *
  generalize s.H.length = nh' at *
  generalize r.W.length = nw at *
  generalize s.W.length = nw' at *
  generalize r.E.length = ne at *
  generalize s.E.length = ne' at *
  generalize r.G.length = ng at *
  generalize s.G.length = ng' at *
  have A := Lib.hid ((Cells.made w (pvs r (.slice i1 nw i2) (.slice j1 ne j2) (.slice l1 ng l2) (.slice d1 nh d2)) 28).al (.cells (pvs s (.slice i3 nw' i4) (.slice j3 ne' j4) (.slice l3 ng' l4) (.slice e1 nh' e2)).toArray 28))
  have X := Cells.made (w.alloc (.cells (pvs r (.slice i1 nw i2) (.slice j1 ne j2) (.slice l1 ng l2) (.slice d1 nh d2)).toArray 28)) (pvs s (.slice i3 nw' i4) (.slice j3 ne' j4) (.slice l3 ng' l4) (.slice e1 nh' e2)) 28
  rw [show (w.alloc (.cells (pvs r (.slice i1 nw i2) (.slice j1 ne j2) (.slice l1 ng l2) (.slice d1 nh d2)).toArray 28)).heap.size = w.heap.size + 1 from by simp] at X
  have X := Lib.hid X
  have Bw := Lib.hid (below_al2 w (.cells (pvs r (.slice i1 nw i2) (.slice j1 ne j2) (.slice l1 ng l2) (.slice d1 nh d2)).toArray 28) (.cells (pvs s (.slice i3 nw' i4) (.slice j3 ne' j4) (.slice l3 ng' l4) (.slice e1 nh' e2)).toArray 28))
  have RR := Lib.hid (And.intro (HH.out.1.below Bw.out) (HH.out.2.below Bw.out))
  clear HH
  have FACT := Lib.hid (fun w1 (hw : Ext ((w.alloc (.cells (pvs r (.slice i1 nw i2) (.slice j1 ne j2) (.slice l1 ng l2) (.slice d1 nh d2)).toArray 28)).alloc (.cells (pvs s (.slice i3 nw' i4) (.slice j3 ne' j4) (.slice l3 ng' l4) (.slice e1 nh' e2)).toArray 28)) w1) => And.intro (Ext.cell hw (A.out.at 0 rfl)) ( And.intro (Ext.cell hw (A.out.at 1 rfl)) ( And.intro (Ext.cell hw (A.out.at 2 rfl)) ( And.intro (Ext.cell hw (A.out.at 3 rfl)) ( And.intro (Ext.cell hw (A.out.at 4 rfl)) ( And.intro (Ext.cell hw (A.out.at 5 rfl)) (And.intro (Ext.cell hw (X.out.at 0 rfl)) ( And.intro (Ext.cell hw (X.out.at 1 rfl)) ( And.intro (Ext.cell hw (X.out.at 2 rfl)) ( And.intro (Ext.cell hw (X.out.at 3 rfl)) ( And.intro (Ext.cell hw (X.out.at 4 rfl)) (Ext.cell hw (X.out.at 5 rfl)))))))))))))
  have c0 := A.out.at 0 rfl; have c1 := A.out.at 1 rfl; have c2 := A.out.at 2 rfl; have c3 := A.out.at 3 rfl; have c4 := A.out.at 4 rfl; have c5 := A.out.at 5 rfl; have x0 := X.out.at 0 rfl; have x1 := X.out.at 1 rfl; have x2 := X.out.at 2 rfl; have x3 := X.out.at 3 rfl; have x4 := X.out.at 4 rfl; have x5 := X.out.at 5 rfl
  by_cases hx : r.X = s.X
  · by_cases hy : r.Y = s.Y
    · have HE : Hid (exS r s = true) := Lib.hid (by rw [EX.out]; simp [hx, hy])
      have fx : (r.X == s.X) = true := by simp [hx]
      have fy : (r.Y == s.Y) = true := by simp [hy]
      clear hx hy
      cases B0 : smL r.W s.W
      · have H0 := Lib.hid B0
        clear B0
        go_enter Try.func21, Try.ntmps21
        go_wp2
        refine wp_region_looseC (Ext ((w.alloc (.cells (pvs r (.slice i1 nw i2) (.slice j1 ne j2) (.slice l1 ng l2) (.slice d1 nh d2)).toArray 28)).alloc (.cells (pvs s (.slice i3 nw' i4) (.slice j3 ne' j4) (.slice l3 ng' l4) (.slice e1 nh' e2)).toArray 28))) (SgI ((w.alloc (.cells (pvs r (.slice i1 nw i2) (.slice j1 ne j2) (.slice l1 ng l2) (.slice d1 nh d2)).toArray 28)).alloc (.cells (pvs s (.slice i3 nw' i4) (.slice j3 ne' j4) (.slice l3 ng' l4) (.slice e1 nh' e2)).toArray 28)) (smB r.H s.H)) (Ext.start _) (by kernel_rfl) (by kernel_rfl) ?_
        try simp only [List.append]
        repeat ((with_reducible refine wpLoose_cons ?_); (first | ((with_reducible refine wpLoose_skip ?_ ?_); (focus (go_simp; done)); intro K hK; go_simp; refine hK _ ?_; clear hK K) | (refine wpLoose_valG ?_ ?_ (fun w1 hw1 => ?_) (fun K hK => ?_); (focus (go_simp; done)); rotate_left; (focus (have hF := FACT.out w1 hw1; go_simp; first | done | rfl)); go_simp; refine hK _ ?_; clear hK K) | fail))
        refine wpLoose_callGS ?_ 54 #[.agg #[.int .i64 r.X, .int .i64 r.Y, .slice i1 nw i2, .slice j1 ne j2, .slice l1 ng l2, .slice d1 nh d2]] (fun w1 => ?_) (fun w1 hw1 => ?_) (fun v1 hv1 => ?_)
        · go_simp
        · go_simp
        · refine (extentOf_any _ _ _ _ _ _ w1).mono ?_
          rintro e w2 ⟨rfl, hb⟩
          exact ⟨_, rfl, ⟨fun _ x y a b c d e => by simp at e; obtain ⟨rfl, rfl, _⟩ := e; rfl, fun h => absurd h (by decide), fun h => absurd h (by decide)⟩, hb⟩
        obtain rfl := hv1.1 rfl _ _ _ _ _ _ rfl
        clear hv1
        repeat ((with_reducible refine wpLoose_cons ?_); (first | ((with_reducible refine wpLoose_skip ?_ ?_); (focus (go_simp; done)); intro K hK; go_simp; refine hK _ ?_; clear hK K) | (refine wpLoose_valG ?_ ?_ (fun w1 hw1 => ?_) (fun K hK => ?_); (focus (go_simp; done)); rotate_left; (focus (have hF := FACT.out w1 hw1; go_simp; first | done | rfl)); go_simp; refine hK _ ?_; clear hK K) | fail))
        refine wpLoose_callGS ?_ 54 #[.agg #[.int .i64 s.X, .int .i64 s.Y, .slice i3 nw' i4, .slice j3 ne' j4, .slice l3 ng' l4, .slice e1 nh' e2]] (fun w1 => ?_) (fun w1 hw1 => ?_) (fun v1 hv1 => ?_)
        · go_simp
        · go_simp
        · refine (extentOf_any _ _ _ _ _ _ w1).mono ?_
          rintro e w2 ⟨rfl, hb⟩
          exact ⟨_, rfl, ⟨fun _ x y a b c d e => by simp at e; obtain ⟨rfl, rfl, _⟩ := e; rfl, fun h => absurd h (by decide), fun h => absurd h (by decide)⟩, hb⟩
        obtain rfl := hv1.1 rfl _ _ _ _ _ _ rfl
        clear hv1
        repeat ((with_reducible refine wpLoose_cons ?_); (first | ((with_reducible refine wpLoose_skip ?_ ?_); (focus (go_simp; done)); intro K hK; go_simp; refine hK _ ?_; clear hK K) | (refine wpLoose_valG ?_ ?_ (fun w1 hw1 => ?_) (fun K hK => ?_); (focus (go_simp; done)); rotate_left; (focus (have hF := FACT.out w1 hw1; go_simp; first | done | rfl)); go_simp; refine hK _ ?_; clear hK K) | fail))
        refine wpLoose_callGS ?_ 62 #[.slice i1 nw i2, .slice i3 nw' i4, .func (.func 63) #[] #[]] (fun w1 => ?_) (fun w1 hw1 => ?_) (fun v1 hv1 => ?_)
        · go_simp
        · go_simp
        · refine (eqFunc_any _ _ r.W s.W w1 (RR.out.1.W.below hw1) (RR.out.2.W.below hw1) WW.out.1.W WW.out.2.W).mono ?_
          rintro e w2 ⟨rfl, n, rfl⟩
          exact ⟨_, rfl, ⟨fun h => absurd h (by decide), fun _ => SgL.of2 rfl rfl RR.out.1.W RR.out.2.W, fun h => absurd h (by decide)⟩, below_drewN (Below.refl _ _) _⟩
        have hv2 := hv1.2.1 rfl _ _ RR.out.1.W RR.out.2.W WW.out.1.W WW.out.2.W
        clear hv1
        rw [H0.out] at hv2
        subst hv2
        repeat ((with_reducible refine wpLoose_cons ?_); (first | ((with_reducible refine wpLoose_skip ?_ ?_); (focus (go_simp; done)); intro K hK; go_simp; refine hK _ ?_; clear hK K) | (refine wpLoose_valG ?_ ?_ (fun w1 hw1 => ?_) (fun K hK => ?_); (focus (go_simp; done)); rotate_left; (focus (have hF := FACT.out w1 hw1; go_simp; first | done | rfl)); go_simp; refine hK _ ?_; clear hK K) | fail))
        refine wpLoose_nil ?_
        intro w9 hb9
        go_wp2
        go_ret
        exact ⟨ret_b (by rw [VB.out, HE.out, H0.out]; simp), below_step Bw.out hb9⟩
      · cases B1 : smL r.E s.E
        · have H0 := Lib.hid B0
          have H1 := Lib.hid B1
          clear B0 B1
          go_enter Try.func21, Try.ntmps21
          go_wp2
          refine wp_region_looseC (Ext ((w.alloc (.cells (pvs r (.slice i1 nw i2) (.slice j1 ne j2) (.slice l1 ng l2) (.slice d1 nh d2)).toArray 28)).alloc (.cells (pvs s (.slice i3 nw' i4) (.slice j3 ne' j4) (.slice l3 ng' l4) (.slice e1 nh' e2)).toArray 28))) (SgI ((w.alloc (.cells (pvs r (.slice i1 nw i2) (.slice j1 ne j2) (.slice l1 ng l2) (.slice d1 nh d2)).toArray 28)).alloc (.cells (pvs s (.slice i3 nw' i4) (.slice j3 ne' j4) (.slice l3 ng' l4) (.slice e1 nh' e2)).toArray 28)) (smB r.H s.H)) (Ext.start _) (by kernel_rfl) (by kernel_rfl) ?_
          try simp only [List.append]
          repeat ((with_reducible refine wpLoose_cons ?_); (first | ((with_reducible refine wpLoose_skip ?_ ?_); (focus (go_simp; done)); intro K hK; go_simp; refine hK _ ?_; clear hK K) | (refine wpLoose_valG ?_ ?_ (fun w1 hw1 => ?_) (fun K hK => ?_); (focus (go_simp; done)); rotate_left; (focus (have hF := FACT.out w1 hw1; go_simp; first | done | rfl)); go_simp; refine hK _ ?_; clear hK K) | fail))
          refine wpLoose_callGS ?_ 54 #[.agg #[.int .i64 r.X, .int .i64 r.Y, .slice i1 nw i2, .slice j1 ne j2, .slice l1 ng l2, .slice d1 nh d2]] (fun w1 => ?_) (fun w1 hw1 => ?_) (fun v1 hv1 => ?_)
          · go_simp
          · go_simp
          · refine (extentOf_any _ _ _ _ _ _ w1).mono ?_
            rintro e w2 ⟨rfl, hb⟩
            exact ⟨_, rfl, ⟨fun _ x y a b c d e => by simp at e; obtain ⟨rfl, rfl, _⟩ := e; rfl, fun h => absurd h (by decide), fun h => absurd h (by decide)⟩, hb⟩
          obtain rfl := hv1.1 rfl _ _ _ _ _ _ rfl
          clear hv1
          repeat ((with_reducible refine wpLoose_cons ?_); (first | ((with_reducible refine wpLoose_skip ?_ ?_); (focus (go_simp; done)); intro K hK; go_simp; refine hK _ ?_; clear hK K) | (refine wpLoose_valG ?_ ?_ (fun w1 hw1 => ?_) (fun K hK => ?_); (focus (go_simp; done)); rotate_left; (focus (have hF := FACT.out w1 hw1; go_simp; first | done | rfl)); go_simp; refine hK _ ?_; clear hK K) | fail))
          refine wpLoose_callGS ?_ 54 #[.agg #[.int .i64 s.X, .int .i64 s.Y, .slice i3 nw' i4, .slice j3 ne' j4, .slice l3 ng' l4, .slice e1 nh' e2]] (fun w1 => ?_) (fun w1 hw1 => ?_) (fun v1 hv1 => ?_)
          · go_simp
          · go_simp
          · refine (extentOf_any _ _ _ _ _ _ w1).mono ?_
            rintro e w2 ⟨rfl, hb⟩
            exact ⟨_, rfl, ⟨fun _ x y a b c d e => by simp at e; obtain ⟨rfl, rfl, _⟩ := e; rfl, fun h => absurd h (by decide), fun h => absurd h (by decide)⟩, hb⟩
          obtain rfl := hv1.1 rfl _ _ _ _ _ _ rfl
          clear hv1
          repeat ((with_reducible refine wpLoose_cons ?_); (first | ((with_reducible refine wpLoose_skip ?_ ?_); (focus (go_simp; done)); intro K hK; go_simp; refine hK _ ?_; clear hK K) | (refine wpLoose_valG ?_ ?_ (fun w1 hw1 => ?_) (fun K hK => ?_); (focus (go_simp; done)); rotate_left; (focus (have hF := FACT.out w1 hw1; go_simp; first | done | rfl)); go_simp; refine hK _ ?_; clear hK K) | fail))
          refine wpLoose_callGS ?_ 62 #[.slice i1 nw i2, .slice i3 nw' i4, .func (.func 63) #[] #[]] (fun w1 => ?_) (fun w1 hw1 => ?_) (fun v1 hv1 => ?_)
          · go_simp
          · go_simp
          · refine (eqFunc_any _ _ r.W s.W w1 (RR.out.1.W.below hw1) (RR.out.2.W.below hw1) WW.out.1.W WW.out.2.W).mono ?_
            rintro e w2 ⟨rfl, n, rfl⟩
            exact ⟨_, rfl, ⟨fun h => absurd h (by decide), fun _ => SgL.of2 rfl rfl RR.out.1.W RR.out.2.W, fun h => absurd h (by decide)⟩, below_drewN (Below.refl _ _) _⟩
          have hv2 := hv1.2.1 rfl _ _ RR.out.1.W RR.out.2.W WW.out.1.W WW.out.2.W
          clear hv1
          rw [H0.out] at hv2
          subst hv2
          repeat ((with_reducible refine wpLoose_cons ?_); (first | ((with_reducible refine wpLoose_skip ?_ ?_); (focus (go_simp; done)); intro K hK; go_simp; refine hK _ ?_; clear hK K) | (refine wpLoose_valG ?_ ?_ (fun w1 hw1 => ?_) (fun K hK => ?_); (focus (go_simp; done)); rotate_left; (focus (have hF := FACT.out w1 hw1; go_simp; first | done | rfl)); go_simp; refine hK _ ?_; clear hK K) | fail))
          refine wpLoose_callGS ?_ 62 #[.slice j1 ne j2, .slice j3 ne' j4, .func (.func 63) #[] #[]] (fun w1 => ?_) (fun w1 hw1 => ?_) (fun v1 hv1 => ?_)
          · go_simp
          · go_simp
          · refine (eqFunc_any _ _ r.E s.E w1 (RR.out.1.E.below hw1) (RR.out.2.E.below hw1) WW.out.1.E WW.out.2.E).mono ?_
            rintro e w2 ⟨rfl, n, rfl⟩
            exact ⟨_, rfl, ⟨fun h => absurd h (by decide), fun _ => SgL.of2 rfl rfl RR.out.1.E RR.out.2.E, fun h => absurd h (by decide)⟩, below_drewN (Below.refl _ _) _⟩
          have hv2 := hv1.2.1 rfl _ _ RR.out.1.E RR.out.2.E WW.out.1.E WW.out.2.E
          clear hv1
          rw [H1.out] at hv2
          subst hv2
          repeat ((with_reducible refine wpLoose_cons ?_); (first | ((with_reducible refine wpLoose_skip ?_ ?_); (focus (go_simp; done)); intro K hK; go_simp; refine hK _ ?_; clear hK K) | (refine wpLoose_valG ?_ ?_ (fun w1 hw1 => ?_) (fun K hK => ?_); (focus (go_simp; done)); rotate_left; (focus (have hF := FACT.out w1 hw1; go_simp; first | done | rfl)); go_simp; refine hK _ ?_; clear hK K) | fail))
          refine wpLoose_nil ?_
          intro w9 hb9
          go_wp2
          go_ret
          exact ⟨ret_b (by rw [VB.out, HE.out, H0.out, H1.out]; simp), below_step Bw.out hb9⟩
        · cases B2 : smL r.G s.G
          · have H0 := Lib.hid B0
            have H1 := Lib.hid B1
            have H2 := Lib.hid B2
            clear B0 B1 B2
            go_enter Try.func21, Try.ntmps21
            go_wp2
            refine wp_region_looseC (Ext ((w.alloc (.cells (pvs r (.slice i1 nw i2) (.slice j1 ne j2) (.slice l1 ng l2) (.slice d1 nh d2)).toArray 28)).alloc (.cells (pvs s (.slice i3 nw' i4) (.slice j3 ne' j4) (.slice l3 ng' l4) (.slice e1 nh' e2)).toArray 28))) (SgI ((w.alloc (.cells (pvs r (.slice i1 nw i2) (.slice j1 ne j2) (.slice l1 ng l2) (.slice d1 nh d2)).toArray 28)).alloc (.cells (pvs s (.slice i3 nw' i4) (.slice j3 ne' j4) (.slice l3 ng' l4) (.slice e1 nh' e2)).toArray 28)) (smB r.H s.H)) (Ext.start _) (by kernel_rfl) (by kernel_rfl) ?_
            try simp only [List.append]
            repeat ((with_reducible refine wpLoose_cons ?_); (first | ((with_reducible refine wpLoose_skip ?_ ?_); (focus (go_simp; done)); intro K hK; go_simp; refine hK _ ?_; clear hK K) | (refine wpLoose_valG ?_ ?_ (fun w1 hw1 => ?_) (fun K hK => ?_); (focus (go_simp; done)); rotate_left; (focus (have hF := FACT.out w1 hw1; go_simp; first | done | rfl)); go_simp; refine hK _ ?_; clear hK K) | fail))
            refine wpLoose_callGS ?_ 54 #[.agg #[.int .i64 r.X, .int .i64 r.Y, .slice i1 nw i2, .slice j1 ne j2, .slice l1 ng l2, .slice d1 nh d2]] (fun w1 => ?_) (fun w1 hw1 => ?_) (fun v1 hv1 => ?_)
            · go_simp
            · go_simp
            · refine (extentOf_any _ _ _ _ _ _ w1).mono ?_
              rintro e w2 ⟨rfl, hb⟩
              exact ⟨_, rfl, ⟨fun _ x y a b c d e => by simp at e; obtain ⟨rfl, rfl, _⟩ := e; rfl, fun h => absurd h (by decide), fun h => absurd h (by decide)⟩, hb⟩
            obtain rfl := hv1.1 rfl _ _ _ _ _ _ rfl
            clear hv1
            repeat ((with_reducible refine wpLoose_cons ?_); (first | ((with_reducible refine wpLoose_skip ?_ ?_); (focus (go_simp; done)); intro K hK; go_simp; refine hK _ ?_; clear hK K) | (refine wpLoose_valG ?_ ?_ (fun w1 hw1 => ?_) (fun K hK => ?_); (focus (go_simp; done)); rotate_left; (focus (have hF := FACT.out w1 hw1; go_simp; first | done | rfl)); go_simp; refine hK _ ?_; clear hK K) | fail))
            refine wpLoose_callGS ?_ 54 #[.agg #[.int .i64 s.X, .int .i64 s.Y, .slice i3 nw' i4, .slice j3 ne' j4, .slice l3 ng' l4, .slice e1 nh' e2]] (fun w1 => ?_) (fun w1 hw1 => ?_) (fun v1 hv1 => ?_)
            · go_simp
            · go_simp
            · refine (extentOf_any _ _ _ _ _ _ w1).mono ?_
              rintro e w2 ⟨rfl, hb⟩
              exact ⟨_, rfl, ⟨fun _ x y a b c d e => by simp at e; obtain ⟨rfl, rfl, _⟩ := e; rfl, fun h => absurd h (by decide), fun h => absurd h (by decide)⟩, hb⟩
            obtain rfl := hv1.1 rfl _ _ _ _ _ _ rfl
            clear hv1
            repeat ((with_reducible refine wpLoose_cons ?_); (first | ((with_reducible refine wpLoose_skip ?_ ?_); (focus (go_simp; done)); intro K hK; go_simp; refine hK _ ?_; clear hK K) | (refine wpLoose_valG ?_ ?_ (fun w1 hw1 => ?_) (fun K hK => ?_); (focus (go_simp; done)); rotate_left; (focus (have hF := FACT.out w1 hw1; go_simp; first | done | rfl)); go_simp; refine hK _ ?_; clear hK K) | fail))
            refine wpLoose_callGS ?_ 62 #[.slice i1 nw i2, .slice i3 nw' i4, .func (.func 63) #[] #[]] (fun w1 => ?_) (fun w1 hw1 => ?_) (fun v1 hv1 => ?_)
            · go_simp
            · go_simp
            · refine (eqFunc_any _ _ r.W s.W w1 (RR.out.1.W.below hw1) (RR.out.2.W.below hw1) WW.out.1.W WW.out.2.W).mono ?_
              rintro e w2 ⟨rfl, n, rfl⟩
              exact ⟨_, rfl, ⟨fun h => absurd h (by decide), fun _ => SgL.of2 rfl rfl RR.out.1.W RR.out.2.W, fun h => absurd h (by decide)⟩, below_drewN (Below.refl _ _) _⟩
            have hv2 := hv1.2.1 rfl _ _ RR.out.1.W RR.out.2.W WW.out.1.W WW.out.2.W
            clear hv1
            rw [H0.out] at hv2
            subst hv2
            repeat ((with_reducible refine wpLoose_cons ?_); (first | ((with_reducible refine wpLoose_skip ?_ ?_); (focus (go_simp; done)); intro K hK; go_simp; refine hK _ ?_; clear hK K) | (refine wpLoose_valG ?_ ?_ (fun w1 hw1 => ?_) (fun K hK => ?_); (focus (go_simp; done)); rotate_left; (focus (have hF := FACT.out w1 hw1; go_simp; first | done | rfl)); go_simp; refine hK _ ?_; clear hK K) | fail))
            refine wpLoose_callGS ?_ 62 #[.slice j1 ne j2, .slice j3 ne' j4, .func (.func 63) #[] #[]] (fun w1 => ?_) (fun w1 hw1 => ?_) (fun v1 hv1 => ?_)
            · go_simp
            · go_simp
            · refine (eqFunc_any _ _ r.E s.E w1 (RR.out.1.E.below hw1) (RR.out.2.E.below hw1) WW.out.1.E WW.out.2.E).mono ?_
              rintro e w2 ⟨rfl, n, rfl⟩
              exact ⟨_, rfl, ⟨fun h => absurd h (by decide), fun _ => SgL.of2 rfl rfl RR.out.1.E RR.out.2.E, fun h => absurd h (by decide)⟩, below_drewN (Below.refl _ _) _⟩
            have hv2 := hv1.2.1 rfl _ _ RR.out.1.E RR.out.2.E WW.out.1.E WW.out.2.E
            clear hv1
            rw [H1.out] at hv2
            subst hv2
            repeat ((with_reducible refine wpLoose_cons ?_); (first | ((with_reducible refine wpLoose_skip ?_ ?_); (focus (go_simp; done)); intro K hK; go_simp; refine hK _ ?_; clear hK K) | (refine wpLoose_valG ?_ ?_ (fun w1 hw1 => ?_) (fun K hK => ?_); (focus (go_simp; done)); rotate_left; (focus (have hF := FACT.out w1 hw1; go_simp; first | done | rfl)); go_simp; refine hK _ ?_; clear hK K) | fail))
            refine wpLoose_callGS ?_ 62 #[.slice l1 ng l2, .slice l3 ng' l4, .func (.func 63) #[] #[]] (fun w1 => ?_) (fun w1 hw1 => ?_) (fun v1 hv1 => ?_)
            · go_simp
            · go_simp
            · refine (eqFunc_any _ _ r.G s.G w1 (RR.out.1.G.below hw1) (RR.out.2.G.below hw1) WW.out.1.G WW.out.2.G).mono ?_
              rintro e w2 ⟨rfl, n, rfl⟩
              exact ⟨_, rfl, ⟨fun h => absurd h (by decide), fun _ => SgL.of2 rfl rfl RR.out.1.G RR.out.2.G, fun h => absurd h (by decide)⟩, below_drewN (Below.refl _ _) _⟩
            have hv2 := hv1.2.1 rfl _ _ RR.out.1.G RR.out.2.G WW.out.1.G WW.out.2.G
            clear hv1
            rw [H2.out] at hv2
            subst hv2
            repeat ((with_reducible refine wpLoose_cons ?_); (first | ((with_reducible refine wpLoose_skip ?_ ?_); (focus (go_simp; done)); intro K hK; go_simp; refine hK _ ?_; clear hK K) | (refine wpLoose_valG ?_ ?_ (fun w1 hw1 => ?_) (fun K hK => ?_); (focus (go_simp; done)); rotate_left; (focus (have hF := FACT.out w1 hw1; go_simp; first | done | rfl)); go_simp; refine hK _ ?_; clear hK K) | fail))
            refine wpLoose_nil ?_
            intro w9 hb9
            go_wp2
            go_ret
            exact ⟨ret_b (by rw [VB.out, HE.out, H0.out, H1.out, H2.out]; simp), below_step Bw.out hb9⟩
          · have H0 := Lib.hid B0
            have H1 := Lib.hid B1
            have H2 := Lib.hid B2
            clear B0 B1 B2
            go_enter Try.func21, Try.ntmps21
            go_wp2
            refine wp_region_looseC (Ext ((w.alloc (.cells (pvs r (.slice i1 nw i2) (.slice j1 ne j2) (.slice l1 ng l2) (.slice d1 nh d2)).toArray 28)).alloc (.cells (pvs s (.slice i3 nw' i4) (.slice j3 ne' j4) (.slice l3 ng' l4) (.slice e1 nh' e2)).toArray 28))) (SgI ((w.alloc (.cells (pvs r (.slice i1 nw i2) (.slice j1 ne j2) (.slice l1 ng l2) (.slice d1 nh d2)).toArray 28)).alloc (.cells (pvs s (.slice i3 nw' i4) (.slice j3 ne' j4) (.slice l3 ng' l4) (.slice e1 nh' e2)).toArray 28)) (smB r.H s.H)) (Ext.start _) (by kernel_rfl) (by kernel_rfl) ?_
            try simp only [List.append]
            repeat ((with_reducible refine wpLoose_cons ?_); (first | ((with_reducible refine wpLoose_skip ?_ ?_); (focus (go_simp; done)); intro K hK; go_simp; refine hK _ ?_; clear hK K) | (refine wpLoose_valG ?_ ?_ (fun w1 hw1 => ?_) (fun K hK => ?_); (focus (go_simp; done)); rotate_left; (focus (have hF := FACT.out w1 hw1; go_simp; first | done | rfl)); go_simp; refine hK _ ?_; clear hK K) | fail))
            refine wpLoose_callGS ?_ 54 #[.agg #[.int .i64 r.X, .int .i64 r.Y, .slice i1 nw i2, .slice j1 ne j2, .slice l1 ng l2, .slice d1 nh d2]] (fun w1 => ?_) (fun w1 hw1 => ?_) (fun v1 hv1 => ?_)
            · go_simp
            · go_simp
            · refine (extentOf_any _ _ _ _ _ _ w1).mono ?_
              rintro e w2 ⟨rfl, hb⟩
              exact ⟨_, rfl, ⟨fun _ x y a b c d e => by simp at e; obtain ⟨rfl, rfl, _⟩ := e; rfl, fun h => absurd h (by decide), fun h => absurd h (by decide)⟩, hb⟩
            obtain rfl := hv1.1 rfl _ _ _ _ _ _ rfl
            clear hv1
            repeat ((with_reducible refine wpLoose_cons ?_); (first | ((with_reducible refine wpLoose_skip ?_ ?_); (focus (go_simp; done)); intro K hK; go_simp; refine hK _ ?_; clear hK K) | (refine wpLoose_valG ?_ ?_ (fun w1 hw1 => ?_) (fun K hK => ?_); (focus (go_simp; done)); rotate_left; (focus (have hF := FACT.out w1 hw1; go_simp; first | done | rfl)); go_simp; refine hK _ ?_; clear hK K) | fail))
            refine wpLoose_callGS ?_ 54 #[.agg #[.int .i64 s.X, .int .i64 s.Y, .slice i3 nw' i4, .slice j3 ne' j4, .slice l3 ng' l4, .slice e1 nh' e2]] (fun w1 => ?_) (fun w1 hw1 => ?_) (fun v1 hv1 => ?_)
            · go_simp
            · go_simp
            · refine (extentOf_any _ _ _ _ _ _ w1).mono ?_
              rintro e w2 ⟨rfl, hb⟩
              exact ⟨_, rfl, ⟨fun _ x y a b c d e => by simp at e; obtain ⟨rfl, rfl, _⟩ := e; rfl, fun h => absurd h (by decide), fun h => absurd h (by decide)⟩, hb⟩
            obtain rfl := hv1.1 rfl _ _ _ _ _ _ rfl
            clear hv1
            repeat ((with_reducible refine wpLoose_cons ?_); (first | ((with_reducible refine wpLoose_skip ?_ ?_); (focus (go_simp; done)); intro K hK; go_simp; refine hK _ ?_; clear hK K) | (refine wpLoose_valG ?_ ?_ (fun w1 hw1 => ?_) (fun K hK => ?_); (focus (go_simp; done)); rotate_left; (focus (have hF := FACT.out w1 hw1; go_simp; first | done | rfl)); go_simp; refine hK _ ?_; clear hK K) | fail))
            refine wpLoose_callGS ?_ 62 #[.slice i1 nw i2, .slice i3 nw' i4, .func (.func 63) #[] #[]] (fun w1 => ?_) (fun w1 hw1 => ?_) (fun v1 hv1 => ?_)
            · go_simp
            · go_simp
            · refine (eqFunc_any _ _ r.W s.W w1 (RR.out.1.W.below hw1) (RR.out.2.W.below hw1) WW.out.1.W WW.out.2.W).mono ?_
              rintro e w2 ⟨rfl, n, rfl⟩
              exact ⟨_, rfl, ⟨fun h => absurd h (by decide), fun _ => SgL.of2 rfl rfl RR.out.1.W RR.out.2.W, fun h => absurd h (by decide)⟩, below_drewN (Below.refl _ _) _⟩
            have hv2 := hv1.2.1 rfl _ _ RR.out.1.W RR.out.2.W WW.out.1.W WW.out.2.W
            clear hv1
            rw [H0.out] at hv2
            subst hv2
            repeat ((with_reducible refine wpLoose_cons ?_); (first | ((with_reducible refine wpLoose_skip ?_ ?_); (focus (go_simp; done)); intro K hK; go_simp; refine hK _ ?_; clear hK K) | (refine wpLoose_valG ?_ ?_ (fun w1 hw1 => ?_) (fun K hK => ?_); (focus (go_simp; done)); rotate_left; (focus (have hF := FACT.out w1 hw1; go_simp; first | done | rfl)); go_simp; refine hK _ ?_; clear hK K) | fail))
            refine wpLoose_callGS ?_ 62 #[.slice j1 ne j2, .slice j3 ne' j4, .func (.func 63) #[] #[]] (fun w1 => ?_) (fun w1 hw1 => ?_) (fun v1 hv1 => ?_)
            · go_simp
            · go_simp
            · refine (eqFunc_any _ _ r.E s.E w1 (RR.out.1.E.below hw1) (RR.out.2.E.below hw1) WW.out.1.E WW.out.2.E).mono ?_
              rintro e w2 ⟨rfl, n, rfl⟩
              exact ⟨_, rfl, ⟨fun h => absurd h (by decide), fun _ => SgL.of2 rfl rfl RR.out.1.E RR.out.2.E, fun h => absurd h (by decide)⟩, below_drewN (Below.refl _ _) _⟩
            have hv2 := hv1.2.1 rfl _ _ RR.out.1.E RR.out.2.E WW.out.1.E WW.out.2.E
            clear hv1
            rw [H1.out] at hv2
            subst hv2
            repeat ((with_reducible refine wpLoose_cons ?_); (first | ((with_reducible refine wpLoose_skip ?_ ?_); (focus (go_simp; done)); intro K hK; go_simp; refine hK _ ?_; clear hK K) | (refine wpLoose_valG ?_ ?_ (fun w1 hw1 => ?_) (fun K hK => ?_); (focus (go_simp; done)); rotate_left; (focus (have hF := FACT.out w1 hw1; go_simp; first | done | rfl)); go_simp; refine hK _ ?_; clear hK K) | fail))
            refine wpLoose_callGS ?_ 62 #[.slice l1 ng l2, .slice l3 ng' l4, .func (.func 63) #[] #[]] (fun w1 => ?_) (fun w1 hw1 => ?_) (fun v1 hv1 => ?_)
            · go_simp
            · go_simp
            · refine (eqFunc_any _ _ r.G s.G w1 (RR.out.1.G.below hw1) (RR.out.2.G.below hw1) WW.out.1.G WW.out.2.G).mono ?_
              rintro e w2 ⟨rfl, n, rfl⟩
              exact ⟨_, rfl, ⟨fun h => absurd h (by decide), fun _ => SgL.of2 rfl rfl RR.out.1.G RR.out.2.G, fun h => absurd h (by decide)⟩, below_drewN (Below.refl _ _) _⟩
            have hv2 := hv1.2.1 rfl _ _ RR.out.1.G RR.out.2.G WW.out.1.G WW.out.2.G
            clear hv1
            rw [H2.out] at hv2
            subst hv2
            repeat ((with_reducible refine wpLoose_cons ?_); (first | ((with_reducible refine wpLoose_skip ?_ ?_); (focus (go_simp; done)); intro K hK; go_simp; refine hK _ ?_; clear hK K) | (refine wpLoose_valG ?_ ?_ (fun w1 hw1 => ?_) (fun K hK => ?_); (focus (go_simp; done)); rotate_left; (focus (have hF := FACT.out w1 hw1; go_simp; first | done | rfl)); go_simp; refine hK _ ?_; clear hK K) | fail))
            refine wpLoose_callGS ?_ 64 #[.slice d1 nh d2, .slice e1 nh' e2] (fun w1 => ?_) (fun w1 hw1 => ?_) (fun v1 hv1 => ?_)
            · go_simp
            · go_simp
            · refine (eqBs_any _ _ r.H s.H w1 (RR.out.1.H.below hw1) (RR.out.2.H.below hw1)).mono ?_
              rintro e w2 ⟨rfl, n, rfl⟩
              exact ⟨_, rfl, ⟨fun h => absurd h (by decide), fun h => absurd h (by decide), fun _ => rfl⟩, below_drewN (Below.refl _ _) _⟩
            obtain rfl := hv1.2.2 rfl
            clear hv1
            repeat ((with_reducible refine wpLoose_cons ?_); (first | ((with_reducible refine wpLoose_skip ?_ ?_); (focus (go_simp; done)); intro K hK; go_simp; refine hK _ ?_; clear hK K) | (refine wpLoose_valG ?_ ?_ (fun w1 hw1 => ?_) (fun K hK => ?_); (focus (go_simp; done)); rotate_left; (focus (have hF := FACT.out w1 hw1; go_simp; first | done | rfl)); go_simp; refine hK _ ?_; clear hK K) | fail))
            refine wpLoose_nil ?_
            intro w9 hb9
            go_wp2
            go_ret
            exact ⟨ret_b (by rw [VB.out, HE.out, H0.out, H1.out, H2.out]; simp), below_step Bw.out hb9⟩
    · have HE : Hid (exS r s = false) := Lib.hid (by rw [EX.out]; simp [hy])
      have fx : (r.X == s.X) = true := by simp [hx]
      have fy : (r.Y == s.Y) = false := by simp [hy]
      clear hx hy
      go_enter Try.func21, Try.ntmps21
      go_wp2
      refine wp_region_looseC (Ext ((w.alloc (.cells (pvs r (.slice i1 nw i2) (.slice j1 ne j2) (.slice l1 ng l2) (.slice d1 nh d2)).toArray 28)).alloc (.cells (pvs s (.slice i3 nw' i4) (.slice j3 ne' j4) (.slice l3 ng' l4) (.slice e1 nh' e2)).toArray 28))) (SgI ((w.alloc (.cells (pvs r (.slice i1 nw i2) (.slice j1 ne j2) (.slice l1 ng l2) (.slice d1 nh d2)).toArray 28)).alloc (.cells (pvs s (.slice i3 nw' i4) (.slice j3 ne' j4) (.slice l3 ng' l4) (.slice e1 nh' e2)).toArray 28)) (smB r.H s.H)) (Ext.start _) (by kernel_rfl) (by kernel_rfl) ?_
      try simp only [List.append]
      repeat ((with_reducible refine wpLoose_cons ?_); (first | ((with_reducible refine wpLoose_skip ?_ ?_); (focus (go_simp; done)); intro K hK; go_simp; refine hK _ ?_; clear hK K) | (refine wpLoose_valG ?_ ?_ (fun w1 hw1 => ?_) (fun K hK => ?_); (focus (go_simp; done)); rotate_left; (focus (have hF := FACT.out w1 hw1; go_simp; first | done | rfl)); go_simp; refine hK _ ?_; clear hK K) | fail))
      refine wpLoose_callGS ?_ 54 #[.agg #[.int .i64 r.X, .int .i64 r.Y, .slice i1 nw i2, .slice j1 ne j2, .slice l1 ng l2, .slice d1 nh d2]] (fun w1 => ?_) (fun w1 hw1 => ?_) (fun v1 hv1 => ?_)
      · go_simp
      · go_simp
      · refine (extentOf_any _ _ _ _ _ _ w1).mono ?_
        rintro e w2 ⟨rfl, hb⟩
        exact ⟨_, rfl, ⟨fun _ x y a b c d e => by simp at e; obtain ⟨rfl, rfl, _⟩ := e; rfl, fun h => absurd h (by decide), fun h => absurd h (by decide)⟩, hb⟩
      obtain rfl := hv1.1 rfl _ _ _ _ _ _ rfl
      clear hv1
      repeat ((with_reducible refine wpLoose_cons ?_); (first | ((with_reducible refine wpLoose_skip ?_ ?_); (focus (go_simp; done)); intro K hK; go_simp; refine hK _ ?_; clear hK K) | (refine wpLoose_valG ?_ ?_ (fun w1 hw1 => ?_) (fun K hK => ?_); (focus (go_simp; done)); rotate_left; (focus (have hF := FACT.out w1 hw1; go_simp; first | done | rfl)); go_simp; refine hK _ ?_; clear hK K) | fail))
      refine wpLoose_callGS ?_ 54 #[.agg #[.int .i64 s.X, .int .i64 s.Y, .slice i3 nw' i4, .slice j3 ne' j4, .slice l3 ng' l4, .slice e1 nh' e2]] (fun w1 => ?_) (fun w1 hw1 => ?_) (fun v1 hv1 => ?_)
      · go_simp
      · go_simp
      · refine (extentOf_any _ _ _ _ _ _ w1).mono ?_
        rintro e w2 ⟨rfl, hb⟩
        exact ⟨_, rfl, ⟨fun _ x y a b c d e => by simp at e; obtain ⟨rfl, rfl, _⟩ := e; rfl, fun h => absurd h (by decide), fun h => absurd h (by decide)⟩, hb⟩
      obtain rfl := hv1.1 rfl _ _ _ _ _ _ rfl
      clear hv1
      repeat ((with_reducible refine wpLoose_cons ?_); (first | ((with_reducible refine wpLoose_skip ?_ ?_); (focus (go_simp; done)); intro K hK; go_simp; refine hK _ ?_; clear hK K) | (refine wpLoose_valG ?_ ?_ (fun w1 hw1 => ?_) (fun K hK => ?_); (focus (go_simp; done)); rotate_left; (focus (have hF := FACT.out w1 hw1; go_simp; first | done | rfl)); go_simp; refine hK _ ?_; clear hK K) | fail))
      refine wpLoose_nil ?_
      intro w9 hb9
      go_wp2
      go_ret
      exact ⟨ret_b (by rw [VB.out, HE.out]; simp), below_step Bw.out hb9⟩
  · have HE : Hid (exS r s = false) := Lib.hid (by rw [EX.out]; simp [hx])
    have fx : (r.X == s.X) = false := by simp [hx]
    clear hx
    go_enter Try.func21, Try.ntmps21
    go_wp2
    refine wp_region_looseC (Ext ((w.alloc (.cells (pvs r (.slice i1 nw i2) (.slice j1 ne j2) (.slice l1 ng l2) (.slice d1 nh d2)).toArray 28)).alloc (.cells (pvs s (.slice i3 nw' i4) (.slice j3 ne' j4) (.slice l3 ng' l4) (.slice e1 nh' e2)).toArray 28))) (SgI ((w.alloc (.cells (pvs r (.slice i1 nw i2) (.slice j1 ne j2) (.slice l1 ng l2) (.slice d1 nh d2)).toArray 28)).alloc (.cells (pvs s (.slice i3 nw' i4) (.slice j3 ne' j4) (.slice l3 ng' l4) (.slice e1 nh' e2)).toArray 28)) (smB r.H s.H)) (Ext.start _) (by kernel_rfl) (by kernel_rfl) ?_
    try simp only [List.append]
    repeat ((with_reducible refine wpLoose_cons ?_); (first | ((with_reducible refine wpLoose_skip ?_ ?_); (focus (go_simp; done)); intro K hK; go_simp; refine hK _ ?_; clear hK K) | (refine wpLoose_valG ?_ ?_ (fun w1 hw1 => ?_) (fun K hK => ?_); (focus (go_simp; done)); rotate_left; (focus (have hF := FACT.out w1 hw1; go_simp; first | done | rfl)); go_simp; refine hK _ ?_; clear hK K) | fail))
    refine wpLoose_callGS ?_ 54 #[.agg #[.int .i64 r.X, .int .i64 r.Y, .slice i1 nw i2, .slice j1 ne j2, .slice l1 ng l2, .slice d1 nh d2]] (fun w1 => ?_) (fun w1 hw1 => ?_) (fun v1 hv1 => ?_)
    · go_simp
    · go_simp
    · refine (extentOf_any _ _ _ _ _ _ w1).mono ?_
      rintro e w2 ⟨rfl, hb⟩
      exact ⟨_, rfl, ⟨fun _ x y a b c d e => by simp at e; obtain ⟨rfl, rfl, _⟩ := e; rfl, fun h => absurd h (by decide), fun h => absurd h (by decide)⟩, hb⟩
    obtain rfl := hv1.1 rfl _ _ _ _ _ _ rfl
    clear hv1
    repeat ((with_reducible refine wpLoose_cons ?_); (first | ((with_reducible refine wpLoose_skip ?_ ?_); (focus (go_simp; done)); intro K hK; go_simp; refine hK _ ?_; clear hK K) | (refine wpLoose_valG ?_ ?_ (fun w1 hw1 => ?_) (fun K hK => ?_); (focus (go_simp; done)); rotate_left; (focus (have hF := FACT.out w1 hw1; go_simp; first | done | rfl)); go_simp; refine hK _ ?_; clear hK K) | fail))
    refine wpLoose_callGS ?_ 54 #[.agg #[.int .i64 s.X, .int .i64 s.Y, .slice i3 nw' i4, .slice j3 ne' j4, .slice l3 ng' l4, .slice e1 nh' e2]] (fun w1 => ?_) (fun w1 hw1 => ?_) (fun v1 hv1 => ?_)
    · go_simp
    · go_simp
    · refine (extentOf_any _ _ _ _ _ _ w1).mono ?_
      rintro e w2 ⟨rfl, hb⟩
      exact ⟨_, rfl, ⟨fun _ x y a b c d e => by simp at e; obtain ⟨rfl, rfl, _⟩ := e; rfl, fun h => absurd h (by decide), fun h => absurd h (by decide)⟩, hb⟩
    obtain rfl := hv1.1 rfl _ _ _ _ _ _ rfl
    clear hv1
    repeat ((with_reducible refine wpLoose_cons ?_); (first | ((with_reducible refine wpLoose_skip ?_ ?_); (focus (go_simp; done)); intro K hK; go_simp; refine hK _ ?_; clear hK K) | (refine wpLoose_valG ?_ ?_ (fun w1 hw1 => ?_) (fun K hK => ?_); (focus (go_simp; done)); rotate_left; (focus (have hF := FACT.out w1 hw1; go_simp; first | done | rfl)); go_simp; refine hK _ ?_; clear hK K) | fail))
    refine wpLoose_nil ?_
    intro w9 hb9
    go_wp2
    go_ret
    exact ⟨ret_b (by rw [VB.out, HE.out]; simp), below_step Bw.out hb9⟩

end Go.Proofs.Ytcjhaeiknenajaa
