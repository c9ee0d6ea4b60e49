/- Whether two plates are the same: the specification's side. -/
import Derived.Test.YtcjhaeiknenajaaPlLay
import Derived.Test.YtcjhaeiknenajaaSameL
import Derived.Test.YtcjhaeiknenajaaLooseG
namespace Go.Proofs.Ytcjhaeiknenajaa
open Go.RowKit
set_option linter.unusedVariables false

theorem FRow_inj {w : World} {v : Value} {zs ys : List Nat} (h : FRow w v zs) (h' : FRow w v ys) : zs = ys := by
  obtain ⟨a, c, e⟩ := h.shape
  obtain ⟨a', c', e'⟩ := h'.shape
  have hl : zs.length = ys.length := by rw [e] at e'; simp at e'; exact e'.2.1
  by_cases h0 : zs.length = 0
  · have hz := List.length_eq_zero_iff.1 h0
    have hy := List.length_eq_zero_iff.1 (show ys.length = 0 by omega)
    rw [hz, hy]
  · obtain ⟨b, o, k, e1, hc⟩ := h.cells (by omega)
    obtain ⟨b', o', k', e2, hc'⟩ := h'.cells (by omega)
    rw [e1] at e2
    simp at e2
    obtain ⟨⟨rfl, rfl⟩, _, _⟩ := e2
    refine List.ext_getElem hl fun i h1 h2 => ?_
    have := (hc i h1).symm.trans (hc' i h2)
    simpa [List.getD_eq_getElem?_getD, h1, h2] using this
def smB (hs ks : List Bool) : Bool := (hs.length == ks.length) && (List.range hs.length).all (fun k => hs.getD k false == ks.getD k false)
theorem smB_len {hs ks : List Bool} (h : ¬ hs.length = ks.length) : smB hs ks = false := by simp [smB, h]
theorem smB_no {hs ks : List Bool} {k : Nat} (hk : k < hs.length) (h : ¬ hs.getD k false = ks.getD k false) : smB hs ks = false := by
  unfold smB
  rw [Bool.and_eq_false_iff]
  refine .inr ?_
  rw [List.all_eq_false]
  exact ⟨k, by simpa using hk, by simpa using h⟩
theorem smB_yes {hs ks : List Bool} (hl : hs.length = ks.length) (h : ∀ j, j < hs.length → hs.getD j false = ks.getD j false) : smB hs ks = true := by
  unfold smB
  rw [Bool.and_eq_true, List.all_eq_true]
  exact ⟨by simpa using hl, fun x hx => by simpa using h x (by simpa using hx)⟩
def exS (r s : PL) : Bool := decide (r.X = s.X) && decide (r.Y = s.Y)
def sameP (r s : PL) : Bool := exS r s && smL r.W s.W && smL r.E s.E && smL r.G s.G && smB r.H s.H
theorem sameP_ex {r s : PL} (h : exS r s = false) : sameP r s = false := by unfold sameP; rw [h]; rfl
theorem sameP_H {r s : PL} (h : smB r.H s.H = false) : sameP r s = false := by unfold sameP; rw [h]; simp
structure LWf (r : PL) : Prop where
  W : Wf r.W
  E : Wf r.E
  G : Wf r.G
/-- what the comparison of two lists of numbers hands back -/
def SgL (w : World) (_f : FuncId) (args : Array Value) (v : Value) : Prop := ∀ zs ys, FRow w (args.getD 0 undef) zs → FRow w (args.getD 1 undef) ys → Wf zs → Wf ys → v = .bool (smL zs ys)
theorem SgL.of {w : World} {f : FuncId} {a b : Value} {zs ys : List Nat} (h : FRow w a zs) (h' : FRow w b ys) : SgL w f #[a, b] (.bool (smL zs ys)) := by
  intro zs' ys' k k' _ _
  rw [FRow_inj h k, FRow_inj h' k']

theorem specSame_x (a b c d a' b' c' d' : Value) (r s : PL) (p q : Nat) (w : World) (A0 : Cells w p (pvs r a b c d)) (X0 : Cells w q (pvs s a' b' c' d')) (h : PRow w a b c d r) (h' : PRow w a' b' c' d' s) (hx : ¬ r.X = s.X) : Calls Try.prog 61 #[.pointer (some ⟨p, 0, none⟩), .pointer (some ⟨q, 0, none⟩)] w (Bol false w) := by
  have c0 := A0.at 0 rfl
  have c1 := A0.at 1 rfl
  have c2 := A0.at 2 rfl
  have c3 := A0.at 3 rfl
  have c4 := A0.at 4 rfl
  have c5 := A0.at 5 rfl
  have x0 := X0.at 0 rfl
  have x1 := X0.at 1 rfl
  have x2 := X0.at 2 rfl
  have x3 := X0.at 3 rfl
  have x4 := X0.at 4 rfl
  have x5 := X0.at 5 rfl
  clear A0 X0 h h'
  have f1 : (r.X == s.X) = false := by simp; omega
  have f1b : (r.X != s.X) = true := by simp; omega
  clear hx
  go_enter Try.func61, Try.ntmps61
  go_wp2
  refine wp_region_loose (fun _ _ _ => True) (by kernel_rfl) (by kernel_rfl) ?_
  try simp only [List.append]
  repeat ((with_reducible refine wpLoose_cons ?_); (first | ((with_reducible refine wpLoose_skip ?_ ?_); (focus (go_simp; done)); intro K hK; go_simp; refine hK _ ?_; clear hK K) | (refine wpLoose_farithG ?_ _ _ _ _ _ rfl rfl _ _ _ rfl rfl ?_; (focus (go_simp; done)); intro _ _) | (refine wpLoose_valG ?_ ?_ (fun w1 hw1 => ?_) (fun K hK => ?_); (focus (go_simp; done)); rotate_left; (focus (obtain ⟨nq, rfl⟩ := hw1; go_simp; first | done | rfl)); go_simp; refine hK _ ?_; clear hK K) | fail))
  (refine wpLoose_nil ?_; rintro _ ⟨nq, rfl⟩)
  go_wp2
  go_ret
  exact ⟨rfl, _, rfl⟩

theorem specSame_y (a b c d a' b' c' d' : Value) (r s : PL) (p q : Nat) (w : World) (A0 : Cells w p (pvs r a b c d)) (X0 : Cells w q (pvs s a' b' c' d')) (h : PRow w a b c d r) (h' : PRow w a' b' c' d' s) (hx : r.X = s.X) (hy : ¬ r.Y = s.Y) : Calls Try.prog 61 #[.pointer (some ⟨p, 0, none⟩), .pointer (some ⟨q, 0, none⟩)] w (Bol false w) := by
  have c0 := A0.at 0 rfl
  have c1 := A0.at 1 rfl
  have c2 := A0.at 2 rfl
  have c3 := A0.at 3 rfl
  have c4 := A0.at 4 rfl
  have c5 := A0.at 5 rfl
  have x0 := X0.at 0 rfl
  have x1 := X0.at 1 rfl
  have x2 := X0.at 2 rfl
  have x3 := X0.at 3 rfl
  have x4 := X0.at 4 rfl
  have x5 := X0.at 5 rfl
  clear A0 X0 h h'
  have f1 : (r.X == s.X) = true := by simp; omega
  have f1b : (r.X != s.X) = false := by simp; omega
  have f2 : (r.Y == s.Y) = false := by simp; omega
  have f2b : (r.Y != s.Y) = true := by simp; omega
  clear hx hy
  go_enter Try.func61, Try.ntmps61
  go_wp2
  refine wp_region_loose (fun _ _ _ => True) (by kernel_rfl) (by kernel_rfl) ?_
  try simp only [List.append]
  repeat ((with_reducible refine wpLoose_cons ?_); (first | ((with_reducible refine wpLoose_skip ?_ ?_); (focus (go_simp; done)); intro K hK; go_simp; refine hK _ ?_; clear hK K) | (refine wpLoose_farithG ?_ _ _ _ _ _ rfl rfl _ _ _ rfl rfl ?_; (focus (go_simp; done)); intro _ _) | (refine wpLoose_valG ?_ ?_ (fun w1 hw1 => ?_) (fun K hK => ?_); (focus (go_simp; done)); rotate_left; (focus (obtain ⟨nq, rfl⟩ := hw1; go_simp; first | done | rfl)); go_simp; refine hK _ ?_; clear hK K) | fail))
  (refine wpLoose_nil ?_; rintro _ ⟨nq, rfl⟩)
  go_wp2
  go_ret
  exact ⟨rfl, _, rfl⟩

theorem specSame_l (a b c d a' b' c' d' : Value) (r s : PL) (p q : Nat) (w : World) (A0 : Cells w p (pvs r a b c d)) (X0 : Cells w q (pvs s a' b' c' d')) (h : PRow w a b c d r) (h' : PRow w a' b' c' d' s) (hx : r.X = s.X) (hy : r.Y = s.Y) (hl : ¬ r.H.length = s.H.length) : Calls Try.prog 61 #[.pointer (some ⟨p, 0, none⟩), .pointer (some ⟨q, 0, none⟩)] w (Bol false w) := by
  have c0 := A0.at 0 rfl
  have c1 := A0.at 1 rfl
  have c2 := A0.at 2 rfl
  have c3 := A0.at 3 rfl
  have c4 := A0.at 4 rfl
  have c5 := A0.at 5 rfl
  have x0 := X0.at 0 rfl
  have x1 := X0.at 1 rfl
  have x2 := X0.at 2 rfl
  have x3 := X0.at 3 rfl
  have x4 := X0.at 4 rfl
  have x5 := X0.at 5 rfl
  obtain ⟨d1, d2, rfl⟩ := h.H.shape
  obtain ⟨e1, e2, rfl⟩ := h'.H.shape
  clear A0 X0 h h'
  generalize r.H.length = n at *
  generalize s.H.length = m at *
  have f1 : (r.X == s.X) = true := by simp; omega
  have f1b : (r.X != s.X) = false := by simp; omega
  have f2 : (r.Y == s.Y) = true := by simp; omega
  have f2b : (r.Y != s.Y) = false := by simp; omega
  have f3 : ((n : Int) == (m : Int)) = false := by simp; omega
  have f3b : ((n : Int) != (m : Int)) = true := by simp; omega
  clear hx hy hl
  go_enter Try.func61, Try.ntmps61
  go_wp2
  refine wp_region_loose (fun _ _ _ => True) (by kernel_rfl) (by kernel_rfl) ?_
  try simp only [List.append]
  repeat ((with_reducible refine wpLoose_cons ?_); (first | ((with_reducible refine wpLoose_skip ?_ ?_); (focus (go_simp; done)); intro K hK; go_simp; refine hK _ ?_; clear hK K) | (refine wpLoose_farithG ?_ _ _ _ _ _ rfl rfl _ _ _ rfl rfl ?_; (focus (go_simp; done)); intro _ _) | (refine wpLoose_valG ?_ ?_ (fun w1 hw1 => ?_) (fun K hK => ?_); (focus (go_simp; done)); rotate_left; (focus (obtain ⟨nq, rfl⟩ := hw1; go_simp; first | done | rfl)); go_simp; refine hK _ ?_; clear hK K) | fail))
  (refine wpLoose_nil ?_; rintro _ ⟨nq, rfl⟩)
  go_wp2
  go_ret
  exact ⟨rfl, _, rfl⟩

set_option maxRecDepth 20000 in
set_option maxHeartbeats 1600000 in
theorem specSame_ok (a b c d a' b' c' d' : Value) (r s : PL) (p q : Nat) (w : World) (A0 : Cells w p (pvs r a b c d)) (X0 : Cells w q (pvs s a' b' c' d')) (h : PRow w a b c d r) (h' : PRow w a' b' c' d' s) (wr : LWf r) (ws : LWf s) (hx : r.X = s.X) (hy : r.Y = s.Y) (hl : r.H.length = s.H.length) : Calls Try.prog 61 #[.pointer (some ⟨p, 0, none⟩), .pointer (some ⟨q, 0, none⟩)] w (Bol (sameP r s) w) := by
  have c0 := A0.at 0 rfl
  have c1 := A0.at 1 rfl
  have c2 := A0.at 2 rfl
  have c3 := A0.at 3 rfl
  have c4 := A0.at 4 rfl
  have c5 := A0.at 5 rfl
  have x0 := X0.at 0 rfl
  have x1 := X0.at 1 rfl
  have x2 := X0.at 2 rfl
  have x3 := X0.at 3 rfl
  have x4 := X0.at 4 rfl
  have x5 := X0.at 5 rfl
  have VS := Lib.hid (fun k (hk : k < r.H.length) (h : ¬ r.H.getD k false = s.H.getD k false) => sameP_H (r := r) (s := s) (smB_no hk h))
  have VN : Hid ((∀ j, j < r.H.length → r.H.getD j false = s.H.getD j false) → sameP r s = (smL r.W s.W && smL r.E s.E && smL r.G s.G)) := Lib.hid (fun h => by unfold sameP exS; rw [smB_yes hl h]; simp [hx, hy])
  have HC := Lib.hid (fun (hn : 1 ≤ r.H.length) => h.H.cells hn)
  have HC' := Lib.hid (fun (hn : 1 ≤ r.H.length) => h'.H.cells (by rw [← hl]; exact hn))
  have HL := Lib.hid h.H.len
  have WW := Lib.hid (And.intro wr ws)
  have RR := Lib.hid (And.intro h h')
  obtain ⟨d1, d2, rfl⟩ := h.H.shape
  obtain ⟨e1, e2, rfl⟩ := h'.H.shape
  obtain ⟨i1, i2, rfl⟩ := h.W.shape
  obtain ⟨i3, i4, rfl⟩ := h'.W.shape
  obtain ⟨j1, j2, rfl⟩ := h.E.shape
  obtain ⟨j3, j4, rfl⟩ := h'.E.shape
  obtain ⟨l1, l2, rfl⟩ := h.G.shape
  obtain ⟨l3, l4, rfl⟩ := h'.G.shape
  rw [← hl] at HC' x5 RR
  have f1 : (r.X == s.X) = true := by simp; omega
  have f1b : (r.X != s.X) = false := by simp; omega
  have f2 : (r.Y == s.Y) = true := by simp; omega
  have f2b : (r.Y != s.Y) = false := by simp; omega
  clear A0 X0 h h' hx hy wr ws hl
  generalize sameP r s = B at *
  generalize r.H.length = n at *
  generalize r.W.length = nw at *
  generalize s.W.length = nw' at *
  generalize r.E.length = ne at *
  generalize s.E.length = ne' at *
  generalize r.G.length = ng at *
  generalize s.G.length = ng' at *
  go_enter Try.func61, Try.ntmps61
  go_wp2
  refine wp_region_loose (fun _ _ _ => True) (by kernel_rfl) (by kernel_rfl) ?_
  try simp only [List.append]
  repeat ((with_reducible refine wpLoose_cons ?_); (first | ((with_reducible refine wpLoose_skip ?_ ?_); (focus (go_simp; done)); intro K hK; go_simp; refine hK _ ?_; clear hK K) | (refine wpLoose_farithG ?_ _ _ _ _ _ rfl rfl _ _ _ rfl rfl ?_; (focus (go_simp; done)); intro _ _) | (refine wpLoose_valG ?_ ?_ (fun w1 hw1 => ?_) (fun K hK => ?_); (focus (go_simp; done)); rotate_left; (focus (obtain ⟨nq, rfl⟩ := hw1; go_simp; first | done | rfl)); go_simp; refine hK _ ?_; clear hK K) | fail))
  (refine wpLoose_nil ?_; rintro _ ⟨nq, rfl⟩)
  go_wp2
  go_loopw [5] (fun i wr => ∃ k m : Nat, k ≤ n ∧ i = .int .i64 k ∧ Hid (∀ j, j < k → r.H.getD j false = s.H.getD j false) ∧ wr = w.drewN m) (fun i _ => n - (intOf i).toNat)
  case atStart => exact ⟨0, _, Nat.zero_le _, rfl, Lib.hid (fun j hj => absurd hj (Nat.not_lt_zero _)), rfl⟩
  case round =>
    obtain ⟨k, m, hk, rfl, hall, rfl⟩ := hrel
    by_cases hlt : k < n
    · obtain ⟨b0, o0, k0, e, hc⟩ := HC.out (by omega)
      obtain ⟨b1, o1, k1, e', hc'⟩ := HC'.out (by omega)
      have ea : d1 = some ⟨b0, o0, none⟩ := by cases e; rfl
      have ea' : e1 = some ⟨b1, o1, none⟩ := by cases e'; rfl
      have z0 := hc k hlt
      have z1 := hc' k hlt
      have VSk := Lib.hid (VS.out k hlt)
      clear e hc e' hc' HC HC'
      subst ea
      subst ea'
      have hG := HL.out
      have hi : (0 : Int) ≤ (k : Int) := by omega
      have hi' : (k : Int) < (n : Int) := by omega
      by_cases S : r.H.getD k false = s.H.getD k false
      · have V := Lib.hid S
        rw [S] at z0
        generalize s.H.getD k false = y at z0 z1
        clear S
        go_wp2
        refine wp_region_loose (fun _ _ _ => True) (by kernel_rfl) (by kernel_rfl) ?_
        repeat (first | (refine wpLoose_farith rfl _ _ _ _ _ rfl rfl _ _ _ rfl rfl ?_; intro _ _) | (refine wpLoose_valK rfl ?_ (fun w1 hw1 => ?_) (fun K hK => ?_); rotate_left; (focus (obtain ⟨nq, rfl⟩ := hw1; go_simp; first | done | rfl)); go_simp; refine hK _ ?_; clear hK K))
        (refine wpLoose_nil ?_; rintro _ ⟨nq, rfl⟩)
        go_wp2
        go_roundw
        case rel => exact ⟨k + 1, _, by omega, by go_num, Lib.hid (fun j hj => by rcases Nat.lt_succ_iff_lt_or_eq.1 hj with h | h; exact hall.out j h; subst h; exact V.out), rfl⟩
        case measure => simp [intOf]; omega
      · have V := Lib.hid (VSk.out S)
        generalize r.H.getD k false = y at z0 S
        generalize s.H.getD k false = y' at z1 S
        have f5 : (y != y') = true := by simpa using S
        have f6 : (y == y') = false := by simpa using S
        clear S
        go_wp2
        refine wp_region_loose (fun _ _ _ => True) (by kernel_rfl) (by kernel_rfl) ?_
        repeat (first | (refine wpLoose_farith rfl _ _ _ _ _ rfl rfl _ _ _ rfl rfl ?_; intro _ _) | (refine wpLoose_valK rfl ?_ (fun w1 hw1 => ?_) (fun K hK => ?_); rotate_left; (focus (obtain ⟨nq, rfl⟩ := hw1; go_simp; first | done | rfl)); go_simp; refine hK _ ?_; clear hK K))
        (refine wpLoose_nil ?_; rintro _ ⟨nq, rfl⟩)
        go_wp2
        go_ret
        exact ⟨ret_b V.out, _, by first | rfl | rw [World.drewN_drewN]⟩
    · have e := Lib.hid (show k = n by omega)
      have VB : Hid (B = (smL r.W s.W && smL r.E s.E && smL r.G s.G)) := Lib.hid (VN.out (by rw [← e.out]; exact hall.out))
      clear VS VN HC HC' HL
      cases B0 : smL r.W s.W
      · have H0 := Lib.hid B0
        clear B0
        go_wp2
        refine wp_region_loose (SgL w) (by kernel_rfl) (by kernel_rfl) ?_
        try simp only [List.append]
        repeat ((with_reducible refine wpLoose_cons ?_); (first | ((with_reducible refine wpLoose_skip ?_ ?_); (focus (go_simp; done)); intro K hK; go_simp; refine hK _ ?_; clear hK K) | (refine wpLoose_farithG ?_ _ _ _ _ _ rfl rfl _ _ _ rfl rfl ?_; (focus (go_simp; done)); intro _ _) | (refine wpLoose_valG ?_ ?_ (fun w1 hw1 => ?_) (fun K hK => ?_); (focus (go_simp; done)); rotate_left; (focus (obtain ⟨nq, rfl⟩ := hw1; go_simp; first | done | rfl)); go_simp; refine hK _ ?_; clear hK K) | fail))
        refine wpLoose_callG ?_ 101 #[.slice i1 nw i2, .slice i3 nw' i4] (fun w1 => ?_) (fun w1 hw1 => ?_) (fun v1 hv1 => ?_)
        · go_simp
        · go_simp
        · obtain ⟨nq, rfl⟩ := hw1
          refine (sameAll_any _ _ r.W s.W _ (FRow.drewN (FRow.drewN RR.out.1.W)) (FRow.drewN (FRow.drewN RR.out.2.W)) WW.out.1.W WW.out.2.W).mono ?_
          rintro e w2 ⟨rfl, n, rfl⟩
          exact ⟨_, rfl, SgL.of RR.out.1.W RR.out.2.W, n, rfl⟩
        have hv2 := hv1 _ _ RR.out.1.W RR.out.2.W WW.out.1.W WW.out.2.W
        clear hv1
        rw [H0.out] at hv2
        subst hv2
        repeat ((with_reducible refine wpLoose_cons ?_); (first | ((with_reducible refine wpLoose_skip ?_ ?_); (focus (go_simp; done)); intro K hK; go_simp; refine hK _ ?_; clear hK K) | (refine wpLoose_farithG ?_ _ _ _ _ _ rfl rfl _ _ _ rfl rfl ?_; (focus (go_simp; done)); intro _ _) | (refine wpLoose_valG ?_ ?_ (fun w1 hw1 => ?_) (fun K hK => ?_); (focus (go_simp; done)); rotate_left; (focus (obtain ⟨nq, rfl⟩ := hw1; go_simp; first | done | rfl)); go_simp; refine hK _ ?_; clear hK K) | fail))
        (refine wpLoose_nil ?_; rintro _ ⟨nq, rfl⟩)
        go_wp2
        go_ret
        exact ⟨ret_b (by rw [VB.out, H0.out]; simp), _, by first | rfl | rw [World.drewN_drewN]⟩
      · cases B1 : smL r.E s.E
        · have H0 := Lib.hid B0
          have H1 := Lib.hid B1
          clear B0 B1
          go_wp2
          refine wp_region_loose (SgL w) (by kernel_rfl) (by kernel_rfl) ?_
          try simp only [List.append]
          repeat ((with_reducible refine wpLoose_cons ?_); (first | ((with_reducible refine wpLoose_skip ?_ ?_); (focus (go_simp; done)); intro K hK; go_simp; refine hK _ ?_; clear hK K) | (refine wpLoose_farithG ?_ _ _ _ _ _ rfl rfl _ _ _ rfl rfl ?_; (focus (go_simp; done)); intro _ _) | (refine wpLoose_valG ?_ ?_ (fun w1 hw1 => ?_) (fun K hK => ?_); (focus (go_simp; done)); rotate_left; (focus (obtain ⟨nq, rfl⟩ := hw1; go_simp; first | done | rfl)); go_simp; refine hK _ ?_; clear hK K) | fail))
          refine wpLoose_callG ?_ 101 #[.slice i1 nw i2, .slice i3 nw' i4] (fun w1 => ?_) (fun w1 hw1 => ?_) (fun v1 hv1 => ?_)
          · go_simp
          · go_simp
          · obtain ⟨nq, rfl⟩ := hw1
            refine (sameAll_any _ _ r.W s.W _ (FRow.drewN (FRow.drewN RR.out.1.W)) (FRow.drewN (FRow.drewN RR.out.2.W)) WW.out.1.W WW.out.2.W).mono ?_
            rintro e w2 ⟨rfl, n, rfl⟩
            exact ⟨_, rfl, SgL.of RR.out.1.W RR.out.2.W, n, rfl⟩
          have hv2 := hv1 _ _ RR.out.1.W RR.out.2.W WW.out.1.W WW.out.2.W
          clear hv1
          rw [H0.out] at hv2
          subst hv2
          repeat ((with_reducible refine wpLoose_cons ?_); (first | ((with_reducible refine wpLoose_skip ?_ ?_); (focus (go_simp; done)); intro K hK; go_simp; refine hK _ ?_; clear hK K) | (refine wpLoose_farithG ?_ _ _ _ _ _ rfl rfl _ _ _ rfl rfl ?_; (focus (go_simp; done)); intro _ _) | (refine wpLoose_valG ?_ ?_ (fun w1 hw1 => ?_) (fun K hK => ?_); (focus (go_simp; done)); rotate_left; (focus (obtain ⟨nq, rfl⟩ := hw1; go_simp; first | done | rfl)); go_simp; refine hK _ ?_; clear hK K) | fail))
          refine wpLoose_callG ?_ 101 #[.slice j1 ne j2, .slice j3 ne' j4] (fun w1 => ?_) (fun w1 hw1 => ?_) (fun v1 hv1 => ?_)
          · go_simp
          · go_simp
          · obtain ⟨nq, rfl⟩ := hw1
            refine (sameAll_any _ _ r.E s.E _ (FRow.drewN (FRow.drewN RR.out.1.E)) (FRow.drewN (FRow.drewN RR.out.2.E)) WW.out.1.E WW.out.2.E).mono ?_
            rintro e w2 ⟨rfl, n, rfl⟩
            exact ⟨_, rfl, SgL.of RR.out.1.E RR.out.2.E, n, rfl⟩
          have hv2 := hv1 _ _ RR.out.1.E RR.out.2.E WW.out.1.E WW.out.2.E
          clear hv1
          rw [H1.out] at hv2
          subst hv2
          repeat ((with_reducible refine wpLoose_cons ?_); (first | ((with_reducible refine wpLoose_skip ?_ ?_); (focus (go_simp; done)); intro K hK; go_simp; refine hK _ ?_; clear hK K) | (refine wpLoose_farithG ?_ _ _ _ _ _ rfl rfl _ _ _ rfl rfl ?_; (focus (go_simp; done)); intro _ _) | (refine wpLoose_valG ?_ ?_ (fun w1 hw1 => ?_) (fun K hK => ?_); (focus (go_simp; done)); rotate_left; (focus (obtain ⟨nq, rfl⟩ := hw1; go_simp; first | done | rfl)); go_simp; refine hK _ ?_; clear hK K) | fail))
          (refine wpLoose_nil ?_; rintro _ ⟨nq, rfl⟩)
          go_wp2
          go_ret
          exact ⟨ret_b (by rw [VB.out, H0.out, H1.out]; simp), _, by first | rfl | rw [World.drewN_drewN]⟩
        · have H0 := Lib.hid B0
          have H1 := Lib.hid B1
          clear B0 B1
          go_wp2
          refine wp_region_loose (SgL w) (by kernel_rfl) (by kernel_rfl) ?_
          try simp only [List.append]
          repeat ((with_reducible refine wpLoose_cons ?_); (first | ((with_reducible refine wpLoose_skip ?_ ?_); (focus (go_simp; done)); intro K hK; go_simp; refine hK _ ?_; clear hK K) | (refine wpLoose_farithG ?_ _ _ _ _ _ rfl rfl _ _ _ rfl rfl ?_; (focus (go_simp; done)); intro _ _) | (refine wpLoose_valG ?_ ?_ (fun w1 hw1 => ?_) (fun K hK => ?_); (focus (go_simp; done)); rotate_left; (focus (obtain ⟨nq, rfl⟩ := hw1; go_simp; first | done | rfl)); go_simp; refine hK _ ?_; clear hK K) | fail))
          refine wpLoose_callG ?_ 101 #[.slice i1 nw i2, .slice i3 nw' i4] (fun w1 => ?_) (fun w1 hw1 => ?_) (fun v1 hv1 => ?_)
          · go_simp
          · go_simp
          · obtain ⟨nq, rfl⟩ := hw1
            refine (sameAll_any _ _ r.W s.W _ (FRow.drewN (FRow.drewN RR.out.1.W)) (FRow.drewN (FRow.drewN RR.out.2.W)) WW.out.1.W WW.out.2.W).mono ?_
            rintro e w2 ⟨rfl, n, rfl⟩
            exact ⟨_, rfl, SgL.of RR.out.1.W RR.out.2.W, n, rfl⟩
          have hv2 := hv1 _ _ RR.out.1.W RR.out.2.W WW.out.1.W WW.out.2.W
          clear hv1
          rw [H0.out] at hv2
          subst hv2
          repeat ((with_reducible refine wpLoose_cons ?_); (first | ((with_reducible refine wpLoose_skip ?_ ?_); (focus (go_simp; done)); intro K hK; go_simp; refine hK _ ?_; clear hK K) | (refine wpLoose_farithG ?_ _ _ _ _ _ rfl rfl _ _ _ rfl rfl ?_; (focus (go_simp; done)); intro _ _) | (refine wpLoose_valG ?_ ?_ (fun w1 hw1 => ?_) (fun K hK => ?_); (focus (go_simp; done)); rotate_left; (focus (obtain ⟨nq, rfl⟩ := hw1; go_simp; first | done | rfl)); go_simp; refine hK _ ?_; clear hK K) | fail))
          refine wpLoose_callG ?_ 101 #[.slice j1 ne j2, .slice j3 ne' j4] (fun w1 => ?_) (fun w1 hw1 => ?_) (fun v1 hv1 => ?_)
          · go_simp
          · go_simp
          · obtain ⟨nq, rfl⟩ := hw1
            refine (sameAll_any _ _ r.E s.E _ (FRow.drewN (FRow.drewN RR.out.1.E)) (FRow.drewN (FRow.drewN RR.out.2.E)) WW.out.1.E WW.out.2.E).mono ?_
            rintro e w2 ⟨rfl, n, rfl⟩
            exact ⟨_, rfl, SgL.of RR.out.1.E RR.out.2.E, n, rfl⟩
          have hv2 := hv1 _ _ RR.out.1.E RR.out.2.E WW.out.1.E WW.out.2.E
          clear hv1
          rw [H1.out] at hv2
          subst hv2
          repeat ((with_reducible refine wpLoose_cons ?_); (first | ((with_reducible refine wpLoose_skip ?_ ?_); (focus (go_simp; done)); intro K hK; go_simp; refine hK _ ?_; clear hK K) | (refine wpLoose_farithG ?_ _ _ _ _ _ rfl rfl _ _ _ rfl rfl ?_; (focus (go_simp; done)); intro _ _) | (refine wpLoose_valG ?_ ?_ (fun w1 hw1 => ?_) (fun K hK => ?_); (focus (go_simp; done)); rotate_left; (focus (obtain ⟨nq, rfl⟩ := hw1; go_simp; first | done | rfl)); go_simp; refine hK _ ?_; clear hK K) | fail))
          refine wpLoose_callG ?_ 101 #[.slice l1 ng l2, .slice l3 ng' l4] (fun w1 => ?_) (fun w1 hw1 => ?_) (fun v1 hv1 => ?_)
          · go_simp
          · go_simp
          · obtain ⟨nq, rfl⟩ := hw1
            refine (sameAll_any _ _ r.G s.G _ (FRow.drewN (FRow.drewN RR.out.1.G)) (FRow.drewN (FRow.drewN RR.out.2.G)) WW.out.1.G WW.out.2.G).mono ?_
            rintro e w2 ⟨rfl, n, rfl⟩
            exact ⟨_, rfl, SgL.of RR.out.1.G RR.out.2.G, n, rfl⟩
          have hv2 := hv1 _ _ RR.out.1.G RR.out.2.G WW.out.1.G WW.out.2.G
          clear hv1
          skip
          subst hv2
          repeat ((with_reducible refine wpLoose_cons ?_); (first | ((with_reducible refine wpLoose_skip ?_ ?_); (focus (go_simp; done)); intro K hK; go_simp; refine hK _ ?_; clear hK K) | (refine wpLoose_farithG ?_ _ _ _ _ _ rfl rfl _ _ _ rfl rfl ?_; (focus (go_simp; done)); intro _ _) | (refine wpLoose_valG ?_ ?_ (fun w1 hw1 => ?_) (fun K hK => ?_); (focus (go_simp; done)); rotate_left; (focus (obtain ⟨nq, rfl⟩ := hw1; go_simp; first | done | rfl)); go_simp; refine hK _ ?_; clear hK K) | fail))
          (refine wpLoose_nil ?_; rintro _ ⟨nq, rfl⟩)
          go_wp2
          go_ret
          exact ⟨ret_b (by rw [VB.out, H0.out, H1.out]; simp), _, by first | rfl | rw [World.drewN_drewN]⟩

theorem specSameP_any (a b c d a' b' c' d' : Value) (r s : PL) (p q : Nat) (w : World) (A0 : Cells w p (pvs r a b c d)) (X0 : Cells w q (pvs s a' b' c' d')) (h : PRow w a b c d r) (h' : PRow w a' b' c' d' s) (wr : LWf r) (ws : LWf s) : Calls Try.prog 61 #[.pointer (some ⟨p, 0, none⟩), .pointer (some ⟨q, 0, none⟩)] w (Bol (sameP r s) w) := by
  by_cases hx : r.X = s.X
  · by_cases hy : r.Y = s.Y
    · by_cases hl : r.H.length = s.H.length
      · exact specSame_ok a b c d a' b' c' d' r s p q w A0 X0 h h' wr ws hx hy hl
      · rw [sameP_H (smB_len hl)]; exact specSame_l a b c d a' b' c' d' r s p q w A0 X0 h h' hx hy hl
    · rw [sameP_ex (by simp [exS, hy])]; exact specSame_y a b c d a' b' c' d' r s p q w A0 X0 h h' hx hy
  · rw [sameP_ex (by simp [exS, hx])]; exact specSame_x a b c d a' b' c' d' r s p q w A0 X0 h h' hx
end Go.Proofs.Ytcjhaeiknenajaa
