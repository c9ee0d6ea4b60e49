/- Plates: their copies, their sizes, and the comparison of two plates. -/
import Derived.Test.YtkmfinegmkacpabBo
import Derived.Test.YtkmfinegmkacpabPos
import Derived.Test.YtkmfinegmkacpabLooseB
namespace Go.Proofs.Ytkmfinegmkacpab
open Go.RowKit
set_option linter.unusedVariables false

/-- a plate: its width and height, warmths, eases, gains, and which cells are held -/
structure PL where
  X : Int
  Y : Int
  W : List Nat
  E : List Nat
  G : List Nat
  H : List Bool
def PL.size (r : PL) : Nat := r.W.length + r.E.length + r.G.length + r.H.length
/-- four slices read as the lists of a plate -/
structure PRow (w : World) (a b c d : Value) (r : PL) : Prop where
  W : FRow w a r.W
  E : FRow w b r.E
  G : FRow w c r.G
  H : BRow w d r.H
theorem PRow.below {w w' : World} {a b c d : Value} {r : PL} (h : PRow w a b c d r) (hb : Below w.heap.size w w') : PRow w' a b c d r :=
  ⟨h.W.below hb, h.E.below hb, h.G.below hb, h.H.below hb⟩
/-- the four blocks of a plate -/
structure PlateAt (w : World) (p0 p1 p2 p3 : Nat) (r : PL) : Prop where
  W : Cells w p0 (fl r.W)
  E : Cells w p1 (fl r.E)
  G : Cells w p2 (fl r.G)
  H : Cells w p3 (flb r.H)
  o01 : p0 < p1
  o12 : p1 < p2
  o23 : p2 < p3
theorem PlateAt.kept {w w' : World} {p0 p1 p2 p3 : Nat} {r : PL} (h : PlateAt w p0 p1 p2 p3 r) (hb : Below w.heap.size w w') : PlateAt w' p0 p1 p2 p3 r :=
  ⟨h.W.kept hb, h.E.kept hb, h.G.kept hb, h.H.kept hb, h.o01, h.o12, h.o23⟩
theorem PlateAt.row {w : World} {p0 p1 p2 p3 : Nat} {r : PL} (h : PlateAt w p0 p1 p2 p3 r) (hl : r.size ≤ 1048576) : PRow w (sl p0 r.W) (sl p1 r.E) (sl p2 r.G) (slb p3 r.H) r := by
  unfold PL.size at hl
  have hm : maxLen = 9223372036854775807 := rfl
  exact ⟨.of_cells h.W (by omega), .of_cells h.E (by omega), .of_cells h.G (by omega), .of_cells h.H (by omega)⟩
/-- a plate, by value, that reads so, in blocks of its own -/
def NewPlate (r : PL) (w : World) (e : Ending) (w' : World) : Prop :=
  ∃ p0 p1 p2 p3, e = .returned (.agg #[.int .i64 r.X, .int .i64 r.Y, sl p0 r.W, sl p1 r.E, sl p2 r.G, slb p3 r.H]) ∧ w.heap.size ≤ p0 ∧ PlateAt w' p0 p1 p2 p3 r ∧ Below w.heap.size w w'
/-- the cells of a plate -/
abbrev pvs (r : PL) (a b c d : Value) : List Value := [.int .i64 r.X, .int .i64 r.Y, a, b, c, d]
abbrev zpx (r : PL) : List Value := [.int .i64 r.X, .int .i64 r.Y, .slice none 0 0, .slice none 0 0, .slice none 0 0, .slice none 0 0]
abbrev zpl : List Value := [.int .i64 0, .int .i64 0, .slice none 0 0, .slice none 0 0, .slice none 0 0, .slice none 0 0]

set_option maxHeartbeats 1600000 in
set_option maxRecDepth 10000 in
theorem toPlate_any (a b c d : Value) (r : PL) (w : World) (h : PRow w a b c d r) (hl : r.size ≤ 1048576) : Calls Try.prog 15 #[.agg #[.int .i64 r.X, .int .i64 r.Y, a, b, c, d]] w (NewPlate r w) := by
  obtain ⟨hW, hE, hG, hH⟩ := h
  have HW := Lib.hid hW
  have HE := Lib.hid hE
  have HG := Lib.hid hG
  have HH := Lib.hid hH
  clear hW hE hG hH
  have lW : Hid (r.W.length ≤ 1048576) := Lib.hid (by unfold PL.size at hl; omega)
  have lE : Hid (r.E.length ≤ 1048576) := Lib.hid (by unfold PL.size at hl; omega)
  have lG : Hid (r.G.length ≤ 1048576) := Lib.hid (by unfold PL.size at hl; omega)
  have lH : Hid (r.H.length ≤ 1048576) := Lib.hid (by unfold PL.size at hl; omega)
  clear hl
  have A := Lib.hid (((Cells.made w (pvs r a b c d) 25).al (.cells zpl.toArray 29)).al (.cells (zpx r).toArray 29))
  have Y := (Cells.made (w.alloc (.cells (pvs r a b c d).toArray 25)) zpl 29).al (.cells (zpx r).toArray 29)
  rw [show (w.alloc (.cells (pvs r a b c d).toArray 25)).heap.size = w.heap.size + 1 from by simp] at Y
  have X := Cells.made ((w.alloc (.cells (pvs r a b c d).toArray 25)).alloc (.cells zpl.toArray 29)) (zpx r) 29
  rw [show ((w.alloc (.cells (pvs r a b c d).toArray 25)).alloc (.cells zpl.toArray 29)).heap.size = w.heap.size + 1 + 1 from by simp] at X
  have Y := Lib.hid Y
  have X := Lib.hid X
  have Bw := Lib.hid (below_al3 w (.cells (pvs r a b c d).toArray 25) (.cells zpl.toArray 29) (.cells (zpx r).toArray 29))
  go_enter Try.func15, Try.ntmps15
  go_wp2_with fail
  refine (toF_sl _ r.W _ (HW.out.below Bw.out) lW.out).mono ?_
  rintro _ w1 ⟨p0, rfl, hp, C0, hb⟩
  have q0 : Hid (w.heap.size + 2 < p0) := Lib.hid (Nat.lt_of_lt_of_le X.out.lt hp)
  have A := Lib.hid (A.out.kept hb)
  have X := Lib.hid (X.out.kept hb)
  have Y := Lib.hid (Y.out.kept hb)
  have Bw := Lib.hid (below_step Bw.out hb)
  have C0 := Lib.hid C0
  clear hb hp
  have c0 := A.out.at 0 rfl
  have c1 := A.out.at 1 rfl
  have c2 := A.out.at 2 rfl
  have c3 := A.out.at 3 rfl
  have c4 := A.out.at 4 rfl
  have c5 := A.out.at 5 rfl
  have e0 := X.out.at 0 rfl
  have e1 := X.out.at 1 rfl
  have e2 := X.out.at 2 rfl
  have e3 := X.out.at 3 rfl
  have e4 := X.out.at 4 rfl
  have e5 := X.out.at 5 rfl
  have ef := X.out.fz
  go_wp2_with fail
  have C0 := Lib.hid (C0.out.far (q := w.heap.size + 1 + 1) (by have := q0.out; omega) 2 (sl p0 r.W))
  have Bw := Lib.hid (Bw.out.setCell (p := ⟨w.heap.size + 1 + 1, 2, none⟩) (by simp; omega) (sl p0 r.W))
  have A := Lib.hid (A.out.far (q := w.heap.size + 1 + 1) (by omega) 2 (sl p0 r.W))
  have Y := Lib.hid (Y.out.far (q := w.heap.size + 1 + 1) (by omega) 2 (sl p0 r.W))
  have X := Lib.hid (X.out.set 2 (by simp) (sl p0 r.W))
  refine (toF_sl _ r.E _ (HE.out.below Bw.out) lE.out).mono ?_
  rintro _ w2 ⟨p1, rfl, hp, C1, hb⟩
  have q1 : Hid (p0 < p1) := Lib.hid (Nat.lt_of_lt_of_le C0.out.lt hp)
  have A := Lib.hid (A.out.kept hb)
  have X := Lib.hid (X.out.kept hb)
  have Y := Lib.hid (Y.out.kept hb)
  have C0 := Lib.hid (C0.out.kept hb)
  have Bw := Lib.hid (below_step Bw.out hb)
  have C1 := Lib.hid C1
  clear hb hp
  clear c0 c1 c2 c3 c4 c5 e0 e1 e2 e3 e4 e5 ef
  have c0 := A.out.at 0 rfl
  have c1 := A.out.at 1 rfl
  have c2 := A.out.at 2 rfl
  have c3 := A.out.at 3 rfl
  have c4 := A.out.at 4 rfl
  have c5 := A.out.at 5 rfl
  have e0 := X.out.at 0 rfl
  have e1 := X.out.at 1 rfl
  have e2 := X.out.at 2 rfl
  have e3 := X.out.at 3 rfl
  have e4 := X.out.at 4 rfl
  have e5 := X.out.at 5 rfl
  have ef := X.out.fz
  go_wp2_with fail
  have C0 := Lib.hid (C0.out.far (q := w.heap.size + 1 + 1) (by have := q0.out; have := q1.out; omega) 3 (sl p1 r.E))
  have C1 := Lib.hid (C1.out.far (q := w.heap.size + 1 + 1) (by have := q0.out; have := q1.out; omega) 3 (sl p1 r.E))
  have Bw := Lib.hid (Bw.out.setCell (p := ⟨w.heap.size + 1 + 1, 3, none⟩) (by simp; omega) (sl p1 r.E))
  have A := Lib.hid (A.out.far (q := w.heap.size + 1 + 1) (by omega) 3 (sl p1 r.E))
  have Y := Lib.hid (Y.out.far (q := w.heap.size + 1 + 1) (by omega) 3 (sl p1 r.E))
  have X := Lib.hid (X.out.set 3 (by simp) (sl p1 r.E))
  refine (toF_sl _ r.G _ (HG.out.below Bw.out) lG.out).mono ?_
  rintro _ w3 ⟨p2, rfl, hp, C2, hb⟩
  have q2 : Hid (p1 < p2) := Lib.hid (Nat.lt_of_lt_of_le C1.out.lt hp)
  have A := Lib.hid (A.out.kept hb)
  have X := Lib.hid (X.out.kept hb)
  have Y := Lib.hid (Y.out.kept hb)
  have C0 := Lib.hid (C0.out.kept hb)
  have C1 := Lib.hid (C1.out.kept hb)
  have Bw := Lib.hid (below_step Bw.out hb)
  have C2 := Lib.hid C2
  clear hb hp
  clear c0 c1 c2 c3 c4 c5 e0 e1 e2 e3 e4 e5 ef
  have c0 := A.out.at 0 rfl
  have c1 := A.out.at 1 rfl
  have c2 := A.out.at 2 rfl
  have c3 := A.out.at 3 rfl
  have c4 := A.out.at 4 rfl
  have c5 := A.out.at 5 rfl
  have e0 := X.out.at 0 rfl
  have e1 := X.out.at 1 rfl
  have e2 := X.out.at 2 rfl
  have e3 := X.out.at 3 rfl
  have e4 := X.out.at 4 rfl
  have e5 := X.out.at 5 rfl
  have ef := X.out.fz
  go_wp2_with fail
  have C0 := Lib.hid (C0.out.far (q := w.heap.size + 1 + 1) (by have := q0.out; have := q1.out; have := q2.out; omega) 4 (sl p2 r.G))
  have C1 := Lib.hid (C1.out.far (q := w.heap.size + 1 + 1) (by have := q0.out; have := q1.out; have := q2.out; omega) 4 (sl p2 r.G))
  have C2 := Lib.hid (C2.out.far (q := w.heap.size + 1 + 1) (by have := q0.out; have := q1.out; have := q2.out; omega) 4 (sl p2 r.G))
  have Bw := Lib.hid (Bw.out.setCell (p := ⟨w.heap.size + 1 + 1, 4, none⟩) (by simp; omega) (sl p2 r.G))
  have A := Lib.hid (A.out.far (q := w.heap.size + 1 + 1) (by omega) 4 (sl p2 r.G))
  have Y := Lib.hid (Y.out.far (q := w.heap.size + 1 + 1) (by omega) 4 (sl p2 r.G))
  have X := Lib.hid (X.out.set 4 (by simp) (sl p2 r.G))
  refine (toB_sl _ r.H _ (HH.out.below Bw.out) lH.out).mono ?_
  rintro _ w4 ⟨p3, rfl, hp, C3, hb⟩
  have q3 : Hid (p2 < p3) := Lib.hid (Nat.lt_of_lt_of_le C2.out.lt hp)
  have A := Lib.hid (A.out.kept hb)
  have X := Lib.hid (X.out.kept hb)
  have Y := Lib.hid (Y.out.kept hb)
  have C0 := Lib.hid (C0.out.kept hb)
  have C1 := Lib.hid (C1.out.kept hb)
  have C2 := Lib.hid (C2.out.kept hb)
  have Bw := Lib.hid (below_step Bw.out hb)
  have C3 := Lib.hid C3
  clear hb hp
  clear c0 c1 c2 c3 c4 c5 e0 e1 e2 e3 e4 e5 ef
  have c0 := A.out.at 0 rfl
  have c1 := A.out.at 1 rfl
  have c2 := A.out.at 2 rfl
  have c3 := A.out.at 3 rfl
  have c4 := A.out.at 4 rfl
  have c5 := A.out.at 5 rfl
  have e0 := X.out.at 0 rfl
  have e1 := X.out.at 1 rfl
  have e2 := X.out.at 2 rfl
  have e3 := X.out.at 3 rfl
  have e4 := X.out.at 4 rfl
  have e5 := X.out.at 5 rfl
  have ef := X.out.fz
  have g0 := Y.out.at 0 rfl
  have g1 := Y.out.at 1 rfl
  have g2 := Y.out.at 2 rfl
  have g3 := Y.out.at 3 rfl
  have g4 := Y.out.at 4 rfl
  have g5 := Y.out.at 5 rfl
  have gf := Y.out.fz
  go_wp2
  have q0 := q0.out
  have q1 := q1.out
  have q2 := q2.out
  have q3 := q3.out
  refine bodyPost_ret (v := .agg #[.int .i64 r.X, .int .i64 r.Y, sl p0 r.W, sl p1 r.E, sl p2 r.G, slb p3 r.H]) ?_ rfl ?_
  · rw [results_cell1 rfl]
    go_simp
  · refine ⟨p0, p1, p2, p3, rfl, by omega, ⟨?_, ?_, ?_, ?_, by omega, by omega, by omega⟩, ?_⟩
    · iterate 7 (refine Cells.far ?_ (by omega) _ _)
      exact C0.out
    · iterate 7 (refine Cells.far ?_ (by omega) _ _)
      exact C1.out
    · iterate 7 (refine Cells.far ?_ (by omega) _ _)
      exact C2.out
    · iterate 7 (refine Cells.far ?_ (by omega) _ _)
      exact C3.out
    · iterate 7 (refine Below.setCell ?_ (by first | (simp; done) | (simp; omega)) _)
      exact Bw.out

/-- two slices of bools that are the same -/
theorem eqB_empty (a a' : Option Addr) (c c' : Nat) (w : World) : Calls Try.prog 56 #[.slice a 0 c, .slice a' 0 c'] w (Yes w) := by
  go_enter Try.func56, Try.ntmps56
  go_wp2
  go_loop [5] (fun i => i = .int .i64 0) (fun _ => 0)
  case atStart => rfl
  case round =>
    obtain rfl := hrel
    go_wp2
    go_ret
    exact Yes.same
set_option maxHeartbeats 800000 in
theorem eqB_rows (zs : List Bool) (b off cap b' off' cap' : Nat) (w : World) (n : Nat) (hm : n ≤ maxLen) (hc : ∀ i, i < n → w.cell? ⟨b, off + i, none⟩ = some (.bool (zs.getD i false))) (hc' : ∀ i, i < n → w.cell? ⟨b', off' + i, none⟩ = some (.bool (zs.getD i false))) :
    Calls Try.prog 56 #[.slice (some ⟨b, off, none⟩) n cap, .slice (some ⟨b', off', none⟩) n cap'] w (Yes w) := by
  have HM : Hid (n ≤ 9223372036854775807) := Lib.hid hm
  clear hm
  go_enter Try.func56, Try.ntmps56
  go_wp2
  go_loopw [5] (fun i wr => ∃ k q : Nat, k ≤ n ∧ i = .int .i64 k ∧ wr = w.drewN q) (fun i _ => n - (intOf i).toNat)
  case atStart => exact ⟨0, 0, Nat.zero_le _, rfl, rfl⟩
  case round =>
    obtain ⟨k, q, hk, rfl, rfl⟩ := hrel
    by_cases hlt : k < n
    · have h1 := hc k hlt
      have h2 := hc' k hlt
      have hM := HM.out
      have hi : (0 : Int) ≤ (k : Int) := by omega
      have hi' : (k : Int) < (n : Int) := by omega
      generalize zs.getD k false = y at *
      clear hc hc'
      go_wp2
      refine wp_region_loose (fun _ _ _ => True) (by kernel_rfl) (by kernel_rfl) ?_
      repeat (first | (refine wpLoose_farith rfl _ _ _ _ _ rfl rfl _ _ _ rfl rfl ?_; intro _ _) | (refine wpLoose_valK rfl ?_ (fun w1 hw1 => ?_) (fun K hK => ?_); rotate_left; (focus (obtain ⟨nq, rfl⟩ := hw1; go_simp; first | done | rfl)); go_simp; refine hK _ ?_; clear hK K))
      (refine wpLoose_nil ?_; rintro _ ⟨nq, rfl⟩)
      go_wp2
      go_roundw
      case rel => exact ⟨k + 1, _, by omega, by go_num, rfl⟩
      case measure => simp [intOf]; omega
    · clear hc hc'
      go_wp2
      go_ret
      exact Yes.drewN
theorem BRow.empty {w : World} {v : Value} (h : BRow w v []) : ∃ a c, v = .slice a 0 c := by
  rcases h with ⟨h, _⟩ | ⟨b, off, cap, rfl, _⟩
  · exact h
  · exact ⟨_, _, rfl⟩
theorem eqB_any (v v' : Value) (zs : List Bool) (w : World) (h : BRow w v zs) (h' : BRow w v' zs) :
    Calls Try.prog 56 #[v, v'] w (Yes w) := by
  by_cases h0 : zs.length = 0
  · obtain rfl : zs = [] := List.length_eq_zero_iff.1 h0
    obtain ⟨a, c, rfl⟩ := h.empty
    obtain ⟨a', c', rfl⟩ := h'.empty
    exact eqB_empty a a' c c' w
  · rcases h with ⟨_, rfl⟩ | ⟨b, off, cap, rfl, hm, hc⟩
    · exact absurd rfl h0
    · rcases h' with ⟨_, rfl⟩ | ⟨b', off', cap', rfl, hm', hc'⟩
      · exact absurd rfl h0
      · exact eqB_rows zs b off cap b' off' cap' w zs.length hm hc hc'

theorem eqPlate_any (a b c d a' b' c' d' : Value) (r : PL) (w : World) (h : PRow w a b c d r) (h' : PRow w a' b' c' d' r) :
    Calls Try.prog 18 #[.agg #[.int .i64 r.X, .int .i64 r.Y, a, b, c, d], .agg #[.int .i64 r.X, .int .i64 r.Y, a', b', c', d']] w (YesB w) := by
  have R := Lib.hid (fun w1 (hb : Below w.heap.size w w1) => h.below hb)
  have R' := Lib.hid (fun w1 (hb : Below w.heap.size w w1) => h'.below hb)
  clear h h'
  go_enter Try.func18, Try.ntmps18
  go_wp2_with fail
  refine (eqF_any a a' _ _ _ (R.out _ (by first | exact below_al2 _ _ _ | exact below_drewN (below_al2 _ _ _) _)).W (R'.out _ (by first | exact below_al2 _ _ _ | exact below_drewN (below_al2 _ _ _) _)).W (.refl _)).mono ?_
  rintro _ _ ⟨rfl, n0, rfl⟩
  go_wp2_with fail
  refine (eqF_any b b' _ _ _ (R.out _ (by first | exact below_al2 _ _ _ | exact below_drewN (below_al2 _ _ _) _)).E (R'.out _ (by first | exact below_al2 _ _ _ | exact below_drewN (below_al2 _ _ _) _)).E (.refl _)).mono ?_
  rintro _ _ ⟨rfl, n1, rfl⟩
  go_wp2_with fail
  refine (eqF_any c c' _ _ _ (R.out _ (by first | exact below_al2 _ _ _ | exact below_drewN (below_al2 _ _ _) _)).G (R'.out _ (by first | exact below_al2 _ _ _ | exact below_drewN (below_al2 _ _ _) _)).G (.refl _)).mono ?_
  rintro _ _ ⟨rfl, n2, rfl⟩
  go_wp2_with fail
  refine (eqB_any d d' _ _ (R.out _ (by first | exact below_al2 _ _ _ | exact below_drewN (below_al2 _ _ _) _)).H (R'.out _ (by first | exact below_al2 _ _ _ | exact below_drewN (below_al2 _ _ _) _)).H).mono ?_
  rintro _ _ ⟨rfl, n3, rfl⟩
  go_wp2
  go_ret
  exact ⟨rfl, (by first | exact below_al2 _ _ _ | exact below_drewN (below_al2 _ _ _) _)⟩

theorem szPlate_fit (a b c d : Value) (r : PL) (left : Nat) (w : World) (h : PRow w a b c d r) (hl : r.size ≤ left) (hm : left ≤ 1048576) :
    Calls Try.prog 13 #[.agg #[.int .i64 r.X, .int .i64 r.Y, a, b, c, d], .int .i64 left] w fun e w' => e = .returned (.int .i64 ((left - r.size : Nat) : Int)) ∧ Below w.heap.size w w' := by
  obtain ⟨a1, a2, rfl⟩ := h.W.shape
  obtain ⟨b1, b2, rfl⟩ := h.E.shape
  obtain ⟨c1, c2, rfl⟩ := h.G.shape
  obtain ⟨d1, d2, rfl⟩ := h.H.shape
  clear h
  have e : Hid (left - r.W.length - r.E.length - r.G.length - r.H.length = left - r.size) := Lib.hid (by unfold PL.size; omega)
  unfold PL.size at hl
  have L0 : Hid (r.W.length ≤ left) := Lib.hid (by omega)
  have L1 : Hid (r.E.length ≤ left - r.W.length) := Lib.hid (by omega)
  have L2 : Hid (r.G.length ≤ left - r.W.length - r.E.length) := Lib.hid (by omega)
  have L3 : Hid (r.H.length ≤ left - r.W.length - r.E.length - r.G.length) := Lib.hid (by omega)
  have M := Lib.hid hm
  clear hl hm
  go_enter Try.func13, Try.ntmps13
  go_wp2_with fail
  refine (sz32_fit _ _ _ (left) _ L0.out (by have := M.out; omega)).mono ?_
  rintro _ _ ⟨rfl, rfl⟩
  go_wp2_with fail
  refine (sz32_fit _ _ _ (left - r.W.length) _ L1.out (by have := M.out; omega)).mono ?_
  rintro _ _ ⟨rfl, rfl⟩
  go_wp2_with fail
  refine (sz32_fit _ _ _ (left - r.W.length - r.E.length) _ L2.out (by have := M.out; omega)).mono ?_
  rintro _ _ ⟨rfl, rfl⟩
  go_wp2_with fail
  refine (szB_fit _ _ _ (left - r.W.length - r.E.length - r.G.length) _ L3.out (by have := M.out; omega)).mono ?_
  rintro _ _ ⟨rfl, rfl⟩
  go_wp2
  go_ret
  exact ⟨by rw [← e.out]; rfl, below_al1 _ _⟩

theorem szPlate_over (a b c d : Value) (r : PL) (left : Nat) (w : World) (h : PRow w a b c d r) (hl : left < r.size) (hm : left ≤ 1048576) :
    Calls Try.prog 13 #[.agg #[.int .i64 r.X, .int .i64 r.Y, a, b, c, d], .int .i64 left] w fun e w' => e = .returned (.int .i64 (-1)) ∧ Below w.heap.size w w' := by
  have N0 := Lib.hid h.W.len
  have N1 := Lib.hid h.E.len
  have N2 := Lib.hid h.G.len
  have N3 := Lib.hid h.H.len
  obtain ⟨a1, a2, rfl⟩ := h.W.shape
  obtain ⟨b1, b2, rfl⟩ := h.E.shape
  obtain ⟨c1, c2, rfl⟩ := h.G.shape
  obtain ⟨d1, d2, rfl⟩ := h.H.shape
  clear h
  unfold PL.size at hl
  have M := Lib.hid hm
  by_cases g0 : r.W.length ≤ left
  · by_cases g1 : r.E.length ≤ left - r.W.length
    · by_cases g2 : r.G.length ≤ left - r.W.length - r.E.length
      · skip
        have L0 : Hid (r.W.length ≤ left) := Lib.hid g0
        have L1 : Hid (r.E.length ≤ left - r.W.length) := Lib.hid g1
        have L2 : Hid (r.G.length ≤ left - r.W.length - r.E.length) := Lib.hid g2
        have L3 : Hid (left - r.W.length - r.E.length - r.G.length < r.H.length) := Lib.hid (by omega)
        clear hl hm g0 g1 g2
        go_enter Try.func13, Try.ntmps13
        go_wp2_with fail
        refine (sz32_fit _ _ _ (left) _ L0.out (by have := M.out; omega)).mono ?_
        rintro _ _ ⟨rfl, rfl⟩
        go_wp2_with fail
        refine (sz32_fit _ _ _ (left - r.W.length) _ L1.out (by have := M.out; omega)).mono ?_
        rintro _ _ ⟨rfl, rfl⟩
        go_wp2_with fail
        refine (sz32_fit _ _ _ (left - r.W.length - r.E.length) _ L2.out (by have := M.out; omega)).mono ?_
        rintro _ _ ⟨rfl, rfl⟩
        go_wp2_with fail
        refine (szB_over _ _ _ (left - r.W.length - r.E.length - r.G.length) _ L3.out N3.out (by have := M.out; omega)).mono ?_
        rintro _ _ ⟨rfl, rfl⟩
        go_wp2
        go_ret
        exact ⟨rfl, below_al1 _ _⟩
      · skip
        have L0 : Hid (r.W.length ≤ left) := Lib.hid g0
        have L1 : Hid (r.E.length ≤ left - r.W.length) := Lib.hid g1
        have L2 : Hid (left - r.W.length - r.E.length < r.G.length) := Lib.hid (by omega)
        clear hl hm g0 g1 g2
        go_enter Try.func13, Try.ntmps13
        go_wp2_with fail
        refine (sz32_fit _ _ _ (left) _ L0.out (by have := M.out; omega)).mono ?_
        rintro _ _ ⟨rfl, rfl⟩
        go_wp2_with fail
        refine (sz32_fit _ _ _ (left - r.W.length) _ L1.out (by have := M.out; omega)).mono ?_
        rintro _ _ ⟨rfl, rfl⟩
        go_wp2_with fail
        refine (sz32_over _ _ _ (left - r.W.length - r.E.length) _ L2.out N2.out (by have := M.out; omega)).mono ?_
        rintro _ _ ⟨rfl, rfl⟩
        go_wp2
        go_ret
        exact ⟨rfl, below_al1 _ _⟩
    · skip
      have L0 : Hid (r.W.length ≤ left) := Lib.hid g0
      have L1 : Hid (left - r.W.length < r.E.length) := Lib.hid (by omega)
      clear hl hm g0 g1
      go_enter Try.func13, Try.ntmps13
      go_wp2_with fail
      refine (sz32_fit _ _ _ (left) _ L0.out (by have := M.out; omega)).mono ?_
      rintro _ _ ⟨rfl, rfl⟩
      go_wp2_with fail
      refine (sz32_over _ _ _ (left - r.W.length) _ L1.out N1.out (by have := M.out; omega)).mono ?_
      rintro _ _ ⟨rfl, rfl⟩
      go_wp2
      go_ret
      exact ⟨rfl, below_al1 _ _⟩
  · skip
    have L0 : Hid (left < r.W.length) := Lib.hid (by omega)
    clear hl hm g0
    go_enter Try.func13, Try.ntmps13
    go_wp2_with fail
    refine (sz32_over _ _ _ (left) _ L0.out N0.out (by have := M.out; omega)).mono ?_
    rintro _ _ ⟨rfl, rfl⟩
    go_wp2
    go_ret
    exact ⟨rfl, below_al1 _ _⟩

end Go.Proofs.Ytkmfinegmkacpab
