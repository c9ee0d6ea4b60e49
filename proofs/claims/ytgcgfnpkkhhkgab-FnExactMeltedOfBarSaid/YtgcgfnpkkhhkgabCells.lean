/- What is told of each cell of a bar: impl.cellsOf. -/
import Derived.Test.YtgcgfnpkkhhkgabCut
import Derived.Test.YtgcgfnpkkhhkgabFactsB
import Derived.Test.YtgcgfnpkkhhkgabHeatE
import Derived.Deep.QuietTactic
import Derived.BigQuiet
import Derived.BigRegion
import Derived.Deep.RegionHeld3
namespace Go.Proofs.Ytgcgfnpkkhhkgab
open Go.RowKit
set_option linter.unusedVariables false

/-- a list that reads as S up to not-a-numbers' bits -/
def FMap (w : World) (v : Value) (S : List Nat) : Prop := ∃ zs, FRow w v zs ∧ zs.map (cn .f32) = S
/-- three lists of n, each told by a function of the heats -/
def CellsP (s : SF) (zs : List Nat) (w : World) (e : Ending) (w' : World) : Prop :=
  ∃ a b c : Value, e = .returned (.agg #[a, b, c]) ∧ FMap w' a (zs.map (warmF s)) ∧ FMap w' b (zs.map (partF s)) ∧ FMap w' c (zs.map (easeF s)) ∧ Below w.heap.size w w'

/-- it is a closure over a stuff in a block of its own -/
def fLit (F : FuncId) (h0 : Nat) (s : SF) : Fct := ⟨fun v w => ∃ q, v = .func (.func F) #[] #[.pointer (some ⟨q, 0, none⟩)] ∧ h0 ≤ q ∧ Cells w q s.vs, fun _ => Pers.ex fun _ => Pers.and (Pers.const _) (Pers.and (Pers.const _) (Pers.cells _ _))⟩
def fEase (h0 : Nat) (s : SF) : Fct := ⟨fun v w => ∃ q q2 q3, v = .func (.func 91) #[] #[.pointer (some ⟨q, 0, none⟩), .pointer (some ⟨q2, 0, none⟩)] ∧ (h0 ≤ q ∧ h0 ≤ q2 ∧ h0 ≤ q3) ∧ Cells w q s.vs ∧ Cells w q2 [.func (.func 89) #[] #[.pointer (some ⟨q3, 0, none⟩)]] ∧ Cells w q3 s.vs,
  fun _ => Pers.ex fun _ => Pers.ex fun _ => Pers.ex fun _ => Pers.and (Pers.const _) (Pers.and (Pers.const _) (Pers.and (Pers.cells _ _) (Pers.and (Pers.cells _ _) (Pers.cells _ _))))⟩

theorem easeIn_lo (s : SF) (w : World) : Calls Try.prog 65 #[.agg #[.float .f32 s.so, .float .f32 s.fl, .float .f32 s.es, .float .f32 s.ef, .float .f32 s.pt, .float .f32 s.la]] w fun e w1 => (fEase w.heap.size s).1 (match e with | .returned v => v | _ => .bool false) w1 ∧ (∃ v, e = .returned v) ∧ Below w.heap.size w w1 := by
  have A := Lib.hid (((Cells.made w s.vs 26).al (.cells #[.float .f32 s.so, .float .f32 s.fl, .float .f32 s.es, .float .f32 s.ef, .float .f32 s.pt, .float .f32 s.la] 26)).al (.cells #[.func (.func 89) #[] #[.pointer (some ⟨w.heap.size + 1, 0, none⟩)]] 71))
  have Y := (Cells.made (w.alloc (.cells #[.float .f32 s.so, .float .f32 s.fl, .float .f32 s.es, .float .f32 s.ef, .float .f32 s.pt, .float .f32 s.la] 26)) s.vs 26).al (.cells #[.func (.func 89) #[] #[.pointer (some ⟨w.heap.size + 1, 0, none⟩)]] 71)
  rw [show (w.alloc (.cells #[.float .f32 s.so, .float .f32 s.fl, .float .f32 s.es, .float .f32 s.ef, .float .f32 s.pt, .float .f32 s.la] 26)).heap.size = w.heap.size + 1 from by simp] at Y
  have Y := Lib.hid Y
  have X := Cells.made ((w.alloc (.cells #[.float .f32 s.so, .float .f32 s.fl, .float .f32 s.es, .float .f32 s.ef, .float .f32 s.pt, .float .f32 s.la] 26)).alloc (.cells #[.float .f32 s.so, .float .f32 s.fl, .float .f32 s.es, .float .f32 s.ef, .float .f32 s.pt, .float .f32 s.la] 26)) [.func (.func 89) #[] #[.pointer (some ⟨w.heap.size + 1, 0, none⟩)]] 71
  rw [show ((w.alloc (.cells #[.float .f32 s.so, .float .f32 s.fl, .float .f32 s.es, .float .f32 s.ef, .float .f32 s.pt, .float .f32 s.la] 26)).alloc (.cells #[.float .f32 s.so, .float .f32 s.fl, .float .f32 s.es, .float .f32 s.ef, .float .f32 s.pt, .float .f32 s.la] 26)).heap.size = w.heap.size + 1 + 1 from by simp] at X
  have X := Lib.hid X
  go_enter Try.func65, Try.ntmps65
  go_wp2_with fail
  refine (partIn_any s _).mono ?_
  rintro e w1 ⟨rfl, rfl⟩
  go_wp2
  go_ret
  exact ⟨⟨_, _, _, rfl, ⟨by omega, by omega, by omega⟩, A.out, X.out, Y.out⟩, ⟨_, rfl⟩, (by repeat (first | exact Below.refl _ _ | refine Below.setCell ?_ (by first | exact Nat.le_refl _ | (simp; done) | (simp; omega) | omega) _ | refine below_drewN ?_ _ | refine Below.alloc ?_ (by first | exact Nat.le_refl _ | (simp; done) | (simp; omega) | omega) _))⟩


/-- the first k of each of three lists of n are told -/
def Told (s : SF) (zs : List Nat) (n n2 k : Nat) (f : Nat → Nat) : Prop := ∀ j, j < k → cn .f32 (f j) = warmF s (zs.getD j 0) ∧ cn .f32 (f (n + j)) = partF s (zs.getD j 0) ∧ cn .f32 (f (n2 + j)) = easeF s (zs.getD j 0)
def upd3 (f : Nat → Nat) (i1 i2 i3 a b c : Nat) (i : Nat) : Nat := if i = i3 then c else if i = i2 then b else if i = i1 then a else f i
theorem Told.step {s : SF} {zs : List Nat} {n n2 k a b c : Nat} {f : Nat → Nat} (h : Told s zs n n2 k f) (hk : k < n) (h2 : n2 = 2 * n) (ha : cn .f32 a = warmF s (zs.getD k 0)) (hb : cn .f32 b = partF s (zs.getD k 0)) (hc : cn .f32 c = easeF s (zs.getD k 0)) :
    Told s zs n n2 (k + 1) (upd3 f k (n + k) (n2 + k) a b c) := by
  intro j hj
  unfold upd3
  by_cases e : j = k
  · subst e
    rw [if_neg (by omega), if_neg (by omega), if_pos rfl, if_neg (by omega), if_pos rfl, if_pos rfl]
    exact ⟨ha, hb, hc⟩
  · rw [if_neg (by omega), if_neg (by omega), if_neg (by omega), if_neg (by omega), if_neg (by omega), if_neg (by omega), if_neg (by omega), if_neg (by omega), if_neg (by omega)]
    exact h j (by omega)
theorem upd3_row {w : World} {g N : Nat} {t : TypeId} {f : Nat → Nat} (h : w.rowIs g t N (fun i => .float .f32 (f i))) (i1 i2 i3 a b c : Nat) :
    (((w.setCell ⟨g, i1, none⟩ (.float .f32 a)).setCell ⟨g, i2, none⟩ (.float .f32 b)).setCell ⟨g, i3, none⟩ (.float .f32 c)).rowIs g t N (fun i => .float .f32 (upd3 f i1 i2 i3 a b c i)) :=
  (((h.set i1 _).set i2 _).set i3 _).congr (fun i _ => by unfold upd3; split <;> (try split) <;> (try split) <;> rfl)
theorem Told.list {s : SF} {zs : List Nat} {n n2 : Nat} {f : Nat → Nat} {w : World} {g N : Nat} (h : Told s zs n n2 n f) (hn : zs.length = n) (hm : n ≤ maxLen) (hr : w.rowIs g 22 N (fun i => .float .f32 (f i))) (G : Nat → Nat) (o : Nat) (ho : o + n ≤ N) (hG : ∀ j, j < n → cn .f32 (f (o + j)) = G (zs.getD j 0)) :
    FMap w (.slice (some ⟨g, o, none⟩) n n) (zs.map G) := by
  refine ⟨(List.range n).map fun j => f (o + j), .inr ⟨g, o, n, by simp, by simpa using hm, fun i hi => ?_⟩, ?_⟩
  · have hi' : i < n := by simpa using hi
    rw [hr.cell (by omega)]
    simp [hi', List.getD_eq_getElem?_getD]
  · refine List.ext_getElem (by simp [hn]) fun i h1 h2 => ?_
    have hi : i < n := by simpa using h1
    simp only [List.getElem_map, List.getElem_range]
    rw [hG i hi]
    simp [List.getD_eq_getElem?_getD, hn ▸ hi]

theorem far_cell {w : World} {p g i j : Nat} {v u : Value} (h : w.cell? ⟨p, i, none⟩ = some v) (hne : g ≠ p) : (w.setCell ⟨g, j, none⟩ u).cell? ⟨p, i, none⟩ = some v :=
  (World.cell?_setCell_other _ _ _ _ (by intro e; cases e; exact hne rfl)).trans h

set_option maxHeartbeats 3200000 in
set_option maxRecDepth 8000 in
theorem cellsOf_any (s : SF) (st : Nat) (v : Value) (zs : List Nat) (w : World) (h : FRow w v zs) (hn : 1 ≤ zs.length) (hq : zs.length ≤ 48) :
    Calls Try.prog 78 #[.agg #[.float .f32 s.so, .float .f32 s.fl, .float .f32 s.es, .float .f32 s.ef, .float .f32 s.pt, .float .f32 s.la, .float .f32 st, v]] w (CellsP s zs w) := by
  have A := Lib.hid ((Cells.made w (bvs s st v) 42).al (.cells [Value.slice none 0 0, .slice none 0 0, .slice none 0 0].toArray 79))
  have Z := Cells.made (w.alloc (.cells (bvs s st v).toArray 42)) [.slice none 0 0, .slice none 0 0, .slice none 0 0] 79
  rw [show (w.alloc (.cells (bvs s st v).toArray 42)).heap.size = w.heap.size + 1 from by simp] at Z
  have Z := Lib.hid Z
  have Bw := Lib.hid (below_al2 w (.cells (bvs s st v).toArray 42) (.cells [Value.slice none 0 0, .slice none 0 0, .slice none 0 0].toArray 79))
  have R := Lib.hid (fun w1 (hb : Below w.heap.size w w1) => h.below hb)
  have SH := h.cells hn
  obtain ⟨b0, o0, cap, rfl, _⟩ := SH
  clear h
  generalize hN : zs.length = n at *
  have HN := Lib.hid hN
  clear hN
  have C0 := fun (q1 q2 g : Nat) (w : World) c1 c2 => cut_any 0 0 n (3 * n) q1 q2 g w c1 c2 (by omega) (by omega) (by omega) (by omega) (by omega) (by omega) hn
  have C1 := fun (q1 q2 g : Nat) (w : World) c1 c2 => cut_any 1 n n (3 * n) q1 q2 g w c1 c2 (by omega) (by omega) (by omega) (by omega) (by omega) (by omega) hn
  have C2 := fun (q1 q2 g : Nat) (w : World) c1 c2 => cut_any 2 (2 * n) n (3 * n) q1 q2 g w c1 c2 (by omega) (by omega) (by omega) (by omega) (by omega) (by omega) hn
  obtain ⟨n2, h2⟩ : ∃ m : Nat, m = 2 * n := ⟨_, rfl⟩
  obtain ⟨n3, h3⟩ : ∃ m : Nat, m = 3 * n := ⟨_, rfl⟩
  have CB := cutBlock3_any n
  rw [← h2] at C2
  rw [← h3] at C0 C1 C2 CB
  have C0 := Lib.hid C0
  have C1 := Lib.hid C1
  have C2 := Lib.hid C2
  have CB := Lib.hid CB
  have H2 := Lib.hid h2
  have H3 := Lib.hid h3
  clear h2 h3
  go_enter Try.func78, Try.ntmps78
  go_wp2_with fail
  refine (CB.out _ hn hq).mono ?_
  rintro e w1 ⟨q1, q2, g, rfl, X1, X2, hg, Ro, hb⟩
  have hg : w.heap.size + 2 ≤ g := by simpa using hg
  have Bw := Lib.hid (below_step Bw.out hb)
  have A := Lib.hid (A.out.kept hb)
  have Z := Lib.hid (Z.out.kept hb)
  clear hb
  go_wp2_with fail
  refine (C0.out _ _ _ _ (X1.at 0 rfl) (X2.at 0 rfl)).mono ?_
  rintro e w1' ⟨rfl, rfl⟩
  go_wp2_with fail
  refine (C1.out _ _ _ _ (X1.at 0 rfl) (X2.at 0 rfl)).mono ?_
  rintro e w1' ⟨rfl, rfl⟩
  go_wp2_with fail
  refine (C2.out _ _ _ _ (X1.at 0 rfl) (X2.at 0 rfl)).mono ?_
  rintro e w1' ⟨rfl, rfl⟩
  clear X1 X2 C0 C1 C2 CB
  have hgq : g < w1.heap.size := Ro.lt
  have D := Lib.hid (Cells.made w1 [.slice (some ⟨g, 0, none⟩) n n, .slice (some ⟨g, n, none⟩) n n, .slice (some ⟨g, n2, none⟩) n n] 79)
  have ha := below_al1 w1 (.cells [Value.slice (some ⟨g, 0, none⟩) n n, .slice (some ⟨g, n, none⟩) n n, .slice (some ⟨g, n2, none⟩) n n].toArray 79)
  have A := Lib.hid (A.out.kept ha)
  have Z := Lib.hid (Z.out.kept ha)
  have Ro := Lib.hid (rowIs_below Ro ha)
  have Bw := Lib.hid (below_step Bw.out ha)
  clear ha
  go_wp2
  generalize hw2 : w1.alloc (.cells #[Value.slice (some ⟨g, 0, none⟩) n n, .slice (some ⟨g, n, none⟩) n n, .slice (some ⟨g, n2, none⟩) n n] 79) = w2 at *
  clear hw2
  generalize w1.heap.size = q4 at *
  have FACT := Lib.hid (fun w1 (hw : Ext w2 w1) => And.intro (hw.cell (A.out.at 0 rfl)) (And.intro (hw.cell (A.out.at 1 rfl)) (And.intro (hw.cell (A.out.at 2 rfl)) (And.intro (hw.cell (A.out.at 3 rfl)) (And.intro (hw.cell (A.out.at 4 rfl)) (hw.cell (A.out.at 5 rfl)))))))
  refine wp_region_facts (Ext w2) (TS [(23, fLit 88 w2.heap.size s), (26, fLit 89 w2.heap.size s), (29, fEase w2.heap.size s)]) (Pers.ext _) (TS.pers _) (Ext.start _) (by kernel_rfl) (by kernel_rfl) (by intro d v c a w h; cases d <;> exact h) ?_
  repeat (refine wpF_val rfl monoQ_end (by rintro _ ⟨⟩; rfl) ?_ (fun w1 hw1 => ?_) (fun K hK => ?_); rotate_left; (focus (have hF := FACT.out w1 hw1; go_simp; first | done | rfl)); go_simp; refine hK _ ?_; clear hK K)
  refine wpF_callF rfl 23 rfl 56 #[.agg #[.float .f32 s.so, .float .f32 s.fl, .float .f32 s.es, .float .f32 s.ef, .float .f32 s.pt, .float .f32 s.la]] (fLit 88 w2.heap.size s) rfl (fun w1 => ?_) (fun w1 hC hN => ?_) (fun v1 hv1 => ?_)
  · go_simp
  · refine (warmIn_any s w1).mono ?_
    rintro _ w3 ⟨rfl, rfl⟩
    exact ⟨_, rfl, below_al1 _ _, _, rfl, hC.size, Cells.made w1 s.vs _⟩
  obtain ⟨_, q5, rfl, _⟩ := hv1
  repeat (refine wpF_val rfl monoQ_end (by rintro _ ⟨⟩; rfl) ?_ (fun w1 hw1 => ?_) (fun K hK => ?_); rotate_left; (focus (have hF := FACT.out w1 hw1; go_simp; first | done | rfl)); go_simp; refine hK _ ?_; clear hK K)
  refine wpF_callF rfl 26 rfl 58 #[.agg #[.float .f32 s.so, .float .f32 s.fl, .float .f32 s.es, .float .f32 s.ef, .float .f32 s.pt, .float .f32 s.la]] (fLit 89 w2.heap.size s) rfl (fun w1 => ?_) (fun w1 hC hN => ?_) (fun v1 hv1 => ?_)
  · go_simp
  · refine (partIn_any s w1).mono ?_
    rintro _ w3 ⟨rfl, rfl⟩
    exact ⟨_, rfl, below_al1 _ _, _, rfl, hC.size, Cells.made w1 s.vs _⟩
  obtain ⟨_, q6, rfl, _⟩ := hv1
  repeat (refine wpF_val rfl monoQ_end (by rintro _ ⟨⟩; rfl) ?_ (fun w1 hw1 => ?_) (fun K hK => ?_); rotate_left; (focus (have hF := FACT.out w1 hw1; go_simp; first | done | rfl)); go_simp; refine hK _ ?_; clear hK K)
  refine wpF_callF rfl 29 rfl 65 #[.agg #[.float .f32 s.so, .float .f32 s.fl, .float .f32 s.es, .float .f32 s.ef, .float .f32 s.pt, .float .f32 s.la]] (fEase w2.heap.size s) rfl (fun w1 => ?_) (fun w1 hC hN => ?_) (fun v1 hv1 => ?_)
  · go_simp
  · refine (easeIn_lo s w1).mono ?_
    rintro _ w3 ⟨⟨a1, a2, a3, ha, ⟨l1, l2, l3⟩, X1, X2, X3⟩, ⟨v1, rfl⟩, hb⟩
    have hs := hC.size
    exact ⟨_, rfl, hb, a1, a2, a3, ha, ⟨Nat.le_trans hs l1, Nat.le_trans hs l2, Nat.le_trans hs l3⟩, X1, X2, X3⟩
  obtain ⟨_, q7, q8, q9, rfl, _⟩ := hv1
  repeat (refine wpF_val rfl monoQ_end (by rintro _ ⟨⟩; rfl) ?_ (fun w1 hw1 => ?_) (fun K hK => ?_); rotate_left; (focus (have hF := FACT.out w1 hw1; go_simp; first | done | rfl)); go_simp; refine hK _ ?_; clear hK K)
  refine wpFacts_nil ?_
  intro w3 hC hF
  obtain ⟨q5', e5, l5, Q5⟩ := fact_of (d := 23) rfl hF (by repeat (first | exact Or.inr ⟨rfl, rfl⟩ | refine Or.inl ?_))
  obtain ⟨q6', e6, l6, Q6⟩ := fact_of (d := 26) rfl hF (by repeat (first | exact Or.inr ⟨rfl, rfl⟩ | refine Or.inl ?_))
  obtain ⟨q7', q8', q9', e7, ⟨l7, l8, l9⟩, Q7, Q8, Q9⟩ := fact_of (d := 29) rfl hF (by repeat (first | exact Or.inr ⟨rfl, rfl⟩ | refine Or.inl ?_))
  clear hF FACT
  obtain rfl : q5 = q5' := by simpa using e5
  obtain rfl : q6 = q6' := by simpa using e6
  obtain ⟨rfl, rfl⟩ : q7 = q7' ∧ q8 = q8' := by simpa using e7
  clear e5 e6 e7
  have hd := D.out.lt
  have n5 : g ≠ q5 := by omega
  have n6 : g ≠ q6 := by omega
  have n7 : g ≠ q7 := by omega
  have n8 : g ≠ q8 := by omega
  have n9 : g ≠ q9' := by omega
  have n4 : g ≠ q4 := by omega
  have nz : g ≠ w.heap.size + 1 := by omega
  have Q5 := Lib.hid Q5
  have Q6 := Lib.hid Q6
  have Q7 := Lib.hid Q7
  have Q8 := Lib.hid Q8
  have Q9 := Lib.hid Q9
  have A := Lib.hid (A.out.kept hC)
  have D := Lib.hid (D.out.kept hC)
  have Z := Lib.hid (Z.out.kept hC)
  have Ro := Lib.hid (rowIs_below Ro.out hC)
  have Bw := Lib.hid (below_step Bw.out hC)
  have a7 := A.out.at 7 rfl
  clear hC l5 l6 l7 l8 l9 hd
  go_wp2
  go_loopw [8, 9, 33] (fun _ _ idx wr => ∃ k : Nat, k ≤ n ∧ idx = .int .i64 k ∧ Hid (∃ f : Nat → Nat, wr.rowIs g 22 n3 (fun i => .float .f32 (f i)) ∧ Told s zs n n2 k f) ∧ Hid (Tur (· = g) w3 wr)) (fun _ _ idx _ => n - (intOf idx).toNat)
  case atStart => exact ⟨0, Nat.zero_le _, rfl, Lib.hid ⟨fun _ => 0, Ro.out, fun j hj => absurd hj (Nat.not_lt_zero _)⟩, Lib.hid (Tur.of_below (Below.refl _ _))⟩
  case round =>
    obtain ⟨k, hk, rfl, hf, hT⟩ := hrel
    have D1 := Lib.hid (hT.out.cells D.out n4.symm)
    have B1 := Lib.hid (Bw.out.trans (hT.out.below (B := w.heap.size) (fun j hj => by omega) Bw.out.size))
    have d0 := D1.out.at 0 rfl; have d1 := D1.out.at 1 rfl; have d2 := D1.out.at 2 rfl
    by_cases hlt : k < n
    · obtain ⟨b1, o1, cap1, e, hc⟩ := (R.out _ B1.out).cells (by rw [HN.out]; omega)
      have z0 := hc k (by rw [HN.out]; exact hlt)
      obtain ⟨rfl, rfl⟩ : b0 = b1 ∧ o0 = o1 := by simp at e; exact ⟨e.1.1, e.1.2⟩
      clear e hc
      obtain ⟨f, hrow, htold⟩ := hf.out
      have HS := Lib.hid (fun a b c => htold.step (a := a) (b := b) (c := c) hlt H2.out)
      have r0 := hrow.cell (i := k) (by have := H3.out; omega)
      have r1 := hrow.cell (i := n + k) (by have := H3.out; omega)
      have r2 := hrow.cell (i := n2 + k) (by have := H3.out; have := H2.out; omega)
      have rf := hrow.frozen
      have hrow := Lib.hid hrow
      have m1 : ¬ k = n + k := by omega
      have m2 : ¬ k = n2 + k := by have := H2.out; omega
      have m3 : ¬ n + k = n2 + k := by have := H2.out; omega
      have hi : (0 : Int) ≤ (k : Int) := by omega
      have hi' : (k : Int) < (n : Int) := by omega
      have P5 := Lib.hid (hT.out.cells Q5.out n5.symm)
      have P6 := Lib.hid (hT.out.cells Q6.out n6.symm)
      have P7 := Lib.hid (hT.out.cells Q7.out n7.symm)
      have P8 := Lib.hid (hT.out.cells Q8.out n8.symm)
      have P9 := Lib.hid (hT.out.cells Q9.out n9.symm)
      generalize hy : zs.getD k 0 = y at *
      generalize f k = v0 at r0
      generalize f (n + k) = v1 at r1
      generalize f (n2 + k) = v2 at r2
      clear htold hf hy a7
      go_wp2
      go_region_held3 (fun w' => w'.cell? ⟨q4, 0, none⟩ = some (.slice (some ⟨g, 0, none⟩) n n) ∧ w'.cell? ⟨q4, 1, none⟩ = some (.slice (some ⟨g, n, none⟩) n n) ∧ w'.cell? ⟨q4, 2, none⟩ = some (.slice (some ⟨g, n2, none⟩) n n))
        (exact ⟨by repeat (first | exact d0 | refine far_cell ?_ n4), by repeat (first | exact d1 | refine far_cell ?_ n4), by repeat (first | exact d2 | refine far_cell ?_ n4)⟩)
        (first
          | (go_at_call 88; refine (litWarm_any s y q5 _ ?_).mono ?_; (focus exact P5.out); rintro e w4 ⟨x1, hx1, rfl, j1, rfl⟩; have G1 := Lib.hid hx1; clear hx1)
          | (go_at_call 89; refine (litPart_any s y q6 _ ?_).mono ?_; (focus exact P6.out); rintro e w4 ⟨x2, hx2, rfl, j2, rfl⟩; have G2 := Lib.hid hx2; clear hx2)
          | (go_at_call 91; refine (litEase_any s y q7 q8 q9' _ ?_ ?_ ?_).mono ?_; (focus exact P7.out); (focus exact P8.out); (focus exact P9.out); rintro e w4 ⟨x3, hx3, rfl, j3, rfl⟩; have G3 := Lib.hid hx3; clear hx3))
      go_wp2
      go_roundw
      case rel => exact ⟨k + 1, by omega, by go_num, Lib.hid ⟨upd3 f k (n + k) (n2 + k) x1 x2 x3, upd3_row (w := wr.drewN (1 + j1 + j2 + j3)) hrow.out k (n + k) (n2 + k) x1 x2 x3, HS.out x1 x2 x3 G1.out G2.out G3.out⟩, Lib.hid (hT.out.trans (Tur.of_onl (((((Onl.refl g wr).drewN (n := 1 + j1 + j2 + j3)).setCell k _).setCell (n + k) _).setCell (n2 + k) _) rfl))⟩
      case measure => simp [intOf]; omega
    · have e := Lib.hid (show k = n by omega)
      have Z1 := Lib.hid (hT.out.cells Z.out nz.symm)
      have e0 := Z1.out.at 0 rfl; have e1 := Z1.out.at 1 rfl; have e2 := Z1.out.at 2 rfl; have ef := Z1.out.fz
      clear a7
      go_wp2
      refine bodyPost_ret (v := .agg #[.slice (some ⟨g, 0, none⟩) n n, .slice (some ⟨g, n, none⟩) n n, .slice (some ⟨g, n2, none⟩) n n]) ?_ rfl ?_
      · rw [results_cell1 rfl]
        go_simp
      · obtain ⟨f, hrow, htold⟩ := hf.out
        have e' := e.out
        subst e'
        have hrow := ((hrow.setOther (a := ⟨w.heap.size + 1, 0, none⟩) nz (.slice (some ⟨g, 0, none⟩) k k)).setOther (a := ⟨w.heap.size + 1, 1, none⟩) nz (.slice (some ⟨g, k, none⟩) k k)).setOther (a := ⟨w.heap.size + 1, 2, none⟩) nz (.slice (some ⟨g, n2, none⟩) k k)
        have hm : k ≤ maxLen := Nat.le_trans hq (by decide)
        have hh3 := H3.out
        have hh2 := H2.out
        exact ⟨_, _, _, rfl, htold.list HN.out hm hrow (warmF s) 0 (by omega) (fun j hj => by rw [Nat.zero_add]; exact (htold j hj).1), htold.list HN.out hm hrow (partF s) k (by omega) (fun j hj => (htold j hj).2.1), htold.list HN.out hm hrow (easeF s) n2 (by omega) (fun j hj => (htold j hj).2.2),
          ((B1.out.setCell (p := ⟨w.heap.size + 1, 0, none⟩) (by show w.heap.size ≤ w.heap.size + 1; omega) _).setCell (p := ⟨w.heap.size + 1, 1, none⟩) (by show w.heap.size ≤ w.heap.size + 1; omega) _).setCell (p := ⟨w.heap.size + 1, 2, none⟩) (by show w.heap.size ≤ w.heap.size + 1; omega) _⟩
end Go.Proofs.Ytgcgfnpkkhhkgab
