/- Houses: their copies, their sizes, and the comparison of two houses. -/
import Derived.Test.YtlhjmkdfemejmaaLk
import Derived.Test.YtlhjmkdfemejmaaPos
namespace Go.Proofs.Ytlhjmkdfemejmaa
open Go.RowKit
set_option linter.unusedVariables false

/-- a house: warmths, holds, leaks and links -/
structure HS where
  W : List Nat
  H : List Nat
  L : List Nat
  K : List LK
def HS.size (r : HS) : Nat := r.W.length + r.H.length + r.L.length + r.K.length
/-- four slices read as the lists of a house -/
structure HRow (w : World) (a b c d : Value) (r : HS) : Prop where
  W : FRow w a r.W
  H : FRow w b r.H
  L : FRow w c r.L
  K : LRow w d r.K
theorem HRow.below {w w' : World} {a b c d : Value} {r : HS} (h : HRow w a b c d r) (hb : Below w.heap.size w w') : HRow w' a b c d r :=
  ⟨h.W.below hb, h.H.below hb, h.L.below hb, h.K.below hb⟩
abbrev slk (p : Nat) (zs : List LK) : Value := .slice (some ⟨p, 0, none⟩) zs.length zs.length
/-- the four blocks of a house -/
structure HouseAt (w : World) (p0 p1 p2 p3 : Nat) (r : HS) : Prop where
  W : Cells w p0 (fl r.W)
  H : Cells w p1 (fl r.H)
  L : Cells w p2 (fl r.L)
  K : Cells w p3 (flS LK.vs r.K)
  o01 : p0 < p1
  o12 : p1 < p2
  o23 : p2 < p3
theorem HouseAt.kept {w w' : World} {p0 p1 p2 p3 : Nat} {r : HS} (h : HouseAt w p0 p1 p2 p3 r) (hb : Below w.heap.size w w') : HouseAt w' p0 p1 p2 p3 r :=
  ⟨h.W.kept hb, h.H.kept hb, h.L.kept hb, h.K.kept hb, h.o01, h.o12, h.o23⟩
theorem HouseAt.row {w : World} {p0 p1 p2 p3 : Nat} {r : HS} (h : HouseAt w p0 p1 p2 p3 r) (hl : r.size ≤ 1048576) : HRow w (sl p0 r.W) (sl p1 r.H) (sl p2 r.L) (slk p3 r.K) r := by
  unfold HS.size at hl
  have hm : maxLen = 9223372036854775807 := rfl
  exact ⟨.of_cells h.W (by omega), .of_cells h.H (by omega), .of_cells h.L (by omega), .of_cells h.K (by omega)⟩
/-- a house, by value, that reads so, in blocks of its own -/
def NewHouse (r : HS) (w : World) (e : Ending) (w' : World) : Prop :=
  ∃ p0 p1 p2 p3, e = .returned (.agg #[sl p0 r.W, sl p1 r.H, sl p2 r.L, slk p3 r.K]) ∧ w.heap.size ≤ p0 ∧ HouseAt w' p0 p1 p2 p3 r ∧ Below w.heap.size w w'
abbrev hvs (a b c d : Value) : List Value := [a, b, c, d]
abbrev zhs : List Value := [.slice none 0 0, .slice none 0 0, .slice none 0 0, .slice none 0 0]
def NewSk (zs : List LK) (w : World) (e : Ending) (w' : World) : Prop := ∃ p, e = .returned (slk p zs) ∧ w.heap.size ≤ p ∧ Cells w' p (flS LK.vs zs) ∧ Below w.heap.size w w'
theorem toK_sl (v : Value) (zs : List LK) (w : World) (h : LRow w v zs) (hl : zs.length ≤ 1048576) : Calls Try.prog 108 #[v] w (NewSk zs w) :=
  (LK.toS_new v zs w h hl).mono fun _ _ ⟨he, hb, hc⟩ => ⟨_, he, Nat.le_refl _, hc, hb⟩

set_option maxHeartbeats 1600000 in
set_option maxRecDepth 10000 in
theorem toHouse_any (a b c d : Value) (r : HS) (w : World) (h : HRow w a b c d r) (hl : r.size ≤ 1048576) : Calls Try.prog 50 #[.agg #[a, b, c, d]] w (NewHouse r w) := by
  obtain ⟨hW, hH, hL, hK⟩ := h
  have HW := Lib.hid hW
  have HH := Lib.hid hH
  have HL := Lib.hid hL
  have HK := Lib.hid hK
  clear hW hH hL hK
  have lW : Hid (r.W.length ≤ 1048576) := Lib.hid (by unfold HS.size at hl; omega)
  have lH : Hid (r.H.length ≤ 1048576) := Lib.hid (by unfold HS.size at hl; omega)
  have lL : Hid (r.L.length ≤ 1048576) := Lib.hid (by unfold HS.size at hl; omega)
  have lK : Hid (r.K.length ≤ 1048576) := Lib.hid (by unfold HS.size at hl; omega)
  clear hl
  have A := Lib.hid (((Cells.made w (hvs a b c d) 65).al (.cells zhs.toArray 70)).al (.cells zhs.toArray 70))
  have Y := (Cells.made (w.alloc (.cells (hvs a b c d).toArray 65)) zhs 70).al (.cells zhs.toArray 70)
  rw [show (w.alloc (.cells (hvs a b c d).toArray 65)).heap.size = w.heap.size + 1 from by simp] at Y
  have X := Cells.made ((w.alloc (.cells (hvs a b c d).toArray 65)).alloc (.cells zhs.toArray 70)) zhs 70
  rw [show ((w.alloc (.cells (hvs a b c d).toArray 65)).alloc (.cells zhs.toArray 70)).heap.size = w.heap.size + 1 + 1 from by simp] at X
  have Y := Lib.hid Y
  have X := Lib.hid X
  have Bw := Lib.hid (below_al3 w (.cells (hvs a b c d).toArray 65) (.cells zhs.toArray 70) (.cells zhs.toArray 70))
  go_enter Try.func50, Try.ntmps50
  go_wp2_with fail
  refine (toF_sl _ r.W _ (HW.out.below Bw.out) lW.out).mono ?_
  rintro _ w1 ⟨p0, rfl, hp, C0, hb⟩
  have q0 : Hid (w.heap.size + 2 < p0) := Lib.hid (Nat.lt_of_lt_of_le X.out.lt hp)
  have A := Lib.hid (A.out.kept hb)
  have X := Lib.hid (X.out.kept hb)
  have Y := Lib.hid (Y.out.kept hb)
  have Bw := Lib.hid (below_step Bw.out hb)
  have C0 := Lib.hid C0
  clear hb hp
  have c0 := A.out.at 0 rfl
  have c1 := A.out.at 1 rfl
  have c2 := A.out.at 2 rfl
  have c3 := A.out.at 3 rfl
  have e0 := X.out.at 0 rfl
  have e1 := X.out.at 1 rfl
  have e2 := X.out.at 2 rfl
  have e3 := X.out.at 3 rfl
  have ef := X.out.fz
  go_wp2_with fail
  have C0 := Lib.hid (C0.out.far (q := w.heap.size + 1 + 1) (by have := q0.out; omega) 0 (sl p0 r.W))
  have Bw := Lib.hid (Bw.out.setCell (p := ⟨w.heap.size + 1 + 1, 0, none⟩) (by simp; omega) (sl p0 r.W))
  have A := Lib.hid (A.out.far (q := w.heap.size + 1 + 1) (by omega) 0 (sl p0 r.W))
  have Y := Lib.hid (Y.out.far (q := w.heap.size + 1 + 1) (by omega) 0 (sl p0 r.W))
  have X := Lib.hid (X.out.set 0 (by simp) (sl p0 r.W))
  refine (toF_sl _ r.H _ (HH.out.below Bw.out) lH.out).mono ?_
  rintro _ w2 ⟨p1, rfl, hp, C1, hb⟩
  have q1 : Hid (p0 < p1) := Lib.hid (Nat.lt_of_lt_of_le C0.out.lt hp)
  have A := Lib.hid (A.out.kept hb)
  have X := Lib.hid (X.out.kept hb)
  have Y := Lib.hid (Y.out.kept hb)
  have C0 := Lib.hid (C0.out.kept hb)
  have Bw := Lib.hid (below_step Bw.out hb)
  have C1 := Lib.hid C1
  clear hb hp
  clear c0 c1 c2 c3 e0 e1 e2 e3 ef
  have c0 := A.out.at 0 rfl
  have c1 := A.out.at 1 rfl
  have c2 := A.out.at 2 rfl
  have c3 := A.out.at 3 rfl
  have e0 := X.out.at 0 rfl
  have e1 := X.out.at 1 rfl
  have e2 := X.out.at 2 rfl
  have e3 := X.out.at 3 rfl
  have ef := X.out.fz
  go_wp2_with fail
  have C0 := Lib.hid (C0.out.far (q := w.heap.size + 1 + 1) (by have := q0.out; have := q1.out; omega) 1 (sl p1 r.H))
  have C1 := Lib.hid (C1.out.far (q := w.heap.size + 1 + 1) (by have := q0.out; have := q1.out; omega) 1 (sl p1 r.H))
  have Bw := Lib.hid (Bw.out.setCell (p := ⟨w.heap.size + 1 + 1, 1, none⟩) (by simp; omega) (sl p1 r.H))
  have A := Lib.hid (A.out.far (q := w.heap.size + 1 + 1) (by omega) 1 (sl p1 r.H))
  have Y := Lib.hid (Y.out.far (q := w.heap.size + 1 + 1) (by omega) 1 (sl p1 r.H))
  have X := Lib.hid (X.out.set 1 (by simp) (sl p1 r.H))
  refine (toF_sl _ r.L _ (HL.out.below Bw.out) lL.out).mono ?_
  rintro _ w3 ⟨p2, rfl, hp, C2, hb⟩
  have q2 : Hid (p1 < p2) := Lib.hid (Nat.lt_of_lt_of_le C1.out.lt hp)
  have A := Lib.hid (A.out.kept hb)
  have X := Lib.hid (X.out.kept hb)
  have Y := Lib.hid (Y.out.kept hb)
  have C0 := Lib.hid (C0.out.kept hb)
  have C1 := Lib.hid (C1.out.kept hb)
  have Bw := Lib.hid (below_step Bw.out hb)
  have C2 := Lib.hid C2
  clear hb hp
  clear c0 c1 c2 c3 e0 e1 e2 e3 ef
  have c0 := A.out.at 0 rfl
  have c1 := A.out.at 1 rfl
  have c2 := A.out.at 2 rfl
  have c3 := A.out.at 3 rfl
  have e0 := X.out.at 0 rfl
  have e1 := X.out.at 1 rfl
  have e2 := X.out.at 2 rfl
  have e3 := X.out.at 3 rfl
  have ef := X.out.fz
  go_wp2_with fail
  have C0 := Lib.hid (C0.out.far (q := w.heap.size + 1 + 1) (by have := q0.out; have := q1.out; have := q2.out; omega) 2 (sl p2 r.L))
  have C1 := Lib.hid (C1.out.far (q := w.heap.size + 1 + 1) (by have := q0.out; have := q1.out; have := q2.out; omega) 2 (sl p2 r.L))
  have C2 := Lib.hid (C2.out.far (q := w.heap.size + 1 + 1) (by have := q0.out; have := q1.out; have := q2.out; omega) 2 (sl p2 r.L))
  have Bw := Lib.hid (Bw.out.setCell (p := ⟨w.heap.size + 1 + 1, 2, none⟩) (by simp; omega) (sl p2 r.L))
  have A := Lib.hid (A.out.far (q := w.heap.size + 1 + 1) (by omega) 2 (sl p2 r.L))
  have Y := Lib.hid (Y.out.far (q := w.heap.size + 1 + 1) (by omega) 2 (sl p2 r.L))
  have X := Lib.hid (X.out.set 2 (by simp) (sl p2 r.L))
  refine (toK_sl _ r.K _ (HK.out.below Bw.out) lK.out).mono ?_
  rintro _ w4 ⟨p3, rfl, hp, C3, hb⟩
  have q3 : Hid (p2 < p3) := Lib.hid (Nat.lt_of_lt_of_le C2.out.lt hp)
  have A := Lib.hid (A.out.kept hb)
  have X := Lib.hid (X.out.kept hb)
  have Y := Lib.hid (Y.out.kept hb)
  have C0 := Lib.hid (C0.out.kept hb)
  have C1 := Lib.hid (C1.out.kept hb)
  have C2 := Lib.hid (C2.out.kept hb)
  have Bw := Lib.hid (below_step Bw.out hb)
  have C3 := Lib.hid C3
  clear hb hp
  clear c0 c1 c2 c3 e0 e1 e2 e3 ef
  have c0 := A.out.at 0 rfl
  have c1 := A.out.at 1 rfl
  have c2 := A.out.at 2 rfl
  have c3 := A.out.at 3 rfl
  have e0 := X.out.at 0 rfl
  have e1 := X.out.at 1 rfl
  have e2 := X.out.at 2 rfl
  have e3 := X.out.at 3 rfl
  have ef := X.out.fz
  have g0 := Y.out.at 0 rfl
  have g1 := Y.out.at 1 rfl
  have g2 := Y.out.at 2 rfl
  have g3 := Y.out.at 3 rfl
  have gf := Y.out.fz
  go_wp2
  have q0 := q0.out
  have q1 := q1.out
  have q2 := q2.out
  have q3 := q3.out
  refine bodyPost_ret (v := .agg #[sl p0 r.W, sl p1 r.H, sl p2 r.L, slk p3 r.K]) ?_ rfl ?_
  · rw [results_cell1 rfl]
    go_simp
  · refine ⟨p0, p1, p2, p3, rfl, by omega, ⟨?_, ?_, ?_, ?_, by omega, by omega, by omega⟩, ?_⟩
    · iterate 5 (refine Cells.far ?_ (by omega) _ _)
      exact C0.out
    · iterate 5 (refine Cells.far ?_ (by omega) _ _)
      exact C1.out
    · iterate 5 (refine Cells.far ?_ (by omega) _ _)
      exact C2.out
    · iterate 5 (refine Cells.far ?_ (by omega) _ _)
      exact C3.out
    · iterate 5 (refine Below.setCell ?_ (by first | (simp; done) | (simp; omega)) _)
      exact Bw.out

theorem eqHouse_any (a b c d a' b' c' d' : Value) (r : HS) (w : World) (h : HRow w a b c d r) (h' : HRow w a' b' c' d' r) :
    Calls Try.prog 52 #[.agg #[a, b, c, d], .agg #[a', b', c', d']] w (YesB w) := by
  have R := Lib.hid (fun w1 (hb : Below w.heap.size w w1) => h.below hb)
  have R' := Lib.hid (fun w1 (hb : Below w.heap.size w w1) => h'.below hb)
  clear h h'
  go_enter Try.func52, Try.ntmps52
  go_wp2_with fail
  refine (eqF_any a a' _ _ _ (R.out _ (by first | exact below_al2 _ _ _ | exact below_drewN (below_al2 _ _ _) _ | exact below_drewN (below_drewN (below_al2 _ _ _) _) _)).W (R'.out _ (by first | exact below_al2 _ _ _ | exact below_drewN (below_al2 _ _ _) _ | exact below_drewN (below_drewN (below_al2 _ _ _) _) _)).W (.refl _)).mono ?_
  rintro _ _ ⟨rfl, n0, rfl⟩
  go_wp2_with fail
  refine (eqF_any b b' _ _ _ (R.out _ (by first | exact below_al2 _ _ _ | exact below_drewN (below_al2 _ _ _) _ | exact below_drewN (below_drewN (below_al2 _ _ _) _) _)).H (R'.out _ (by first | exact below_al2 _ _ _ | exact below_drewN (below_al2 _ _ _) _ | exact below_drewN (below_drewN (below_al2 _ _ _) _) _)).H (.refl _)).mono ?_
  rintro _ _ ⟨rfl, n1, rfl⟩
  go_wp2_with fail
  refine (eqF_any c c' _ _ _ (R.out _ (by first | exact below_al2 _ _ _ | exact below_drewN (below_al2 _ _ _) _ | exact below_drewN (below_drewN (below_al2 _ _ _) _) _)).L (R'.out _ (by first | exact below_al2 _ _ _ | exact below_drewN (below_al2 _ _ _) _ | exact below_drewN (below_drewN (below_al2 _ _ _) _) _)).L (.refl _)).mono ?_
  rintro _ _ ⟨rfl, n2, rfl⟩
  have BK := Lib.hid (fun (w1 : World) (hb : Below w.heap.size w w1) => hb)
  go_wp2_with fail
  refine (LK.eqS_any d d' _ _ (R.out _ (by first | exact below_al2 _ _ _ | exact below_drewN (below_al2 _ _ _) _ | exact below_drewN (below_drewN (below_al2 _ _ _) _) _)).K (R'.out _ (by first | exact below_al2 _ _ _ | exact below_drewN (below_al2 _ _ _) _ | exact below_drewN (below_drewN (below_al2 _ _ _) _) _)).K).mono ?_
  rintro _ w9 ⟨rfl, hb⟩
  have Bw := Lib.hid (below_step (w := w) (by first | exact below_al2 _ _ _ | exact below_drewN (below_al2 _ _ _) _ | exact below_drewN (below_drewN (below_al2 _ _ _) _) _) hb)
  clear hb
  go_wp2
  go_ret
  exact ⟨rfl, Bw.out⟩

theorem szHouse_fit (a b c d : Value) (r : HS) (left : Nat) (w : World) (h : HRow w a b c d r) (hl : r.size ≤ left) (hm : left ≤ 1048576) :
    Calls Try.prog 48 #[.agg #[a, b, c, d], .int .i64 left] w fun e w' => e = .returned (.int .i64 ((left - r.size : Nat) : Int)) ∧ Below w.heap.size w w' := by
  obtain ⟨a1, a2, rfl⟩ := h.W.shape
  obtain ⟨b1, b2, rfl⟩ := h.H.shape
  obtain ⟨c1, c2, rfl⟩ := h.L.shape
  obtain ⟨d1, d2, rfl⟩ := h.K.shape
  clear h
  have e : Hid (left - r.W.length - r.H.length - r.L.length - r.K.length = left - r.size) := Lib.hid (by unfold HS.size; omega)
  unfold HS.size at hl
  have L0 : Hid (r.W.length ≤ left) := Lib.hid (by omega)
  have L1 : Hid (r.H.length ≤ left - r.W.length) := Lib.hid (by omega)
  have L2 : Hid (r.L.length ≤ left - r.W.length - r.H.length) := Lib.hid (by omega)
  have L3 : Hid (r.K.length ≤ left - r.W.length - r.H.length - r.L.length) := Lib.hid (by omega)
  have M := Lib.hid hm
  clear hl hm
  go_enter Try.func48, Try.ntmps48
  go_wp2_with fail
  refine (sz32_fit _ _ _ (left) _ L0.out (by have := M.out; omega)).mono ?_
  rintro _ _ ⟨rfl, rfl⟩
  go_wp2_with fail
  refine (sz32_fit _ _ _ (left - r.W.length) _ L1.out (by have := M.out; omega)).mono ?_
  rintro _ _ ⟨rfl, rfl⟩
  go_wp2_with fail
  refine (sz32_fit _ _ _ (left - r.W.length - r.H.length) _ L2.out (by have := M.out; omega)).mono ?_
  rintro _ _ ⟨rfl, rfl⟩
  go_wp2_with fail
  refine (LK.sz_fit _ _ _ (left - r.W.length - r.H.length - r.L.length) _ L3.out (by have := M.out; omega)).mono ?_
  rintro _ _ ⟨rfl, rfl⟩
  go_wp2
  go_ret
  exact ⟨by rw [← e.out]; rfl, below_al1 _ _⟩

theorem szHouse_over (a b c d : Value) (r : HS) (left : Nat) (w : World) (h : HRow w a b c d r) (hl : left < r.size) (hm : left ≤ 1048576) :
    Calls Try.prog 48 #[.agg #[a, b, c, d], .int .i64 left] w fun e w' => e = .returned (.int .i64 (-1)) ∧ Below w.heap.size w w' := by
  have N0 := Lib.hid h.W.len
  have N1 := Lib.hid h.H.len
  have N2 := Lib.hid h.L.len
  have N3 := Lib.hid h.K.len
  obtain ⟨a1, a2, rfl⟩ := h.W.shape
  obtain ⟨b1, b2, rfl⟩ := h.H.shape
  obtain ⟨c1, c2, rfl⟩ := h.L.shape
  obtain ⟨d1, d2, rfl⟩ := h.K.shape
  clear h
  unfold HS.size at hl
  have M := Lib.hid hm
  by_cases g0 : r.W.length ≤ left
  · by_cases g1 : r.H.length ≤ left - r.W.length
    · by_cases g2 : r.L.length ≤ left - r.W.length - r.H.length
      · skip
        have L0 : Hid (r.W.length ≤ left) := Lib.hid g0
        have L1 : Hid (r.H.length ≤ left - r.W.length) := Lib.hid g1
        have L2 : Hid (r.L.length ≤ left - r.W.length - r.H.length) := Lib.hid g2
        have L3 : Hid (left - r.W.length - r.H.length - r.L.length < r.K.length) := Lib.hid (by omega)
        clear hl hm g0 g1 g2
        go_enter Try.func48, Try.ntmps48
        go_wp2_with fail
        refine (sz32_fit _ _ _ (left) _ L0.out (by have := M.out; omega)).mono ?_
        rintro _ _ ⟨rfl, rfl⟩
        go_wp2_with fail
        refine (sz32_fit _ _ _ (left - r.W.length) _ L1.out (by have := M.out; omega)).mono ?_
        rintro _ _ ⟨rfl, rfl⟩
        go_wp2_with fail
        refine (sz32_fit _ _ _ (left - r.W.length - r.H.length) _ L2.out (by have := M.out; omega)).mono ?_
        rintro _ _ ⟨rfl, rfl⟩
        go_wp2_with fail
        refine (LK.sz_over _ _ _ (left - r.W.length - r.H.length - r.L.length) _ L3.out N3.out (by have := M.out; omega)).mono ?_
        rintro _ _ ⟨rfl, rfl⟩
        go_wp2
        go_ret
        exact ⟨rfl, below_al1 _ _⟩
      · skip
        have L0 : Hid (r.W.length ≤ left) := Lib.hid g0
        have L1 : Hid (r.H.length ≤ left - r.W.length) := Lib.hid g1
        have L2 : Hid (left - r.W.length - r.H.length < r.L.length) := Lib.hid (by omega)
        clear hl hm g0 g1 g2
        go_enter Try.func48, Try.ntmps48
        go_wp2_with fail
        refine (sz32_fit _ _ _ (left) _ L0.out (by have := M.out; omega)).mono ?_
        rintro _ _ ⟨rfl, rfl⟩
        go_wp2_with fail
        refine (sz32_fit _ _ _ (left - r.W.length) _ L1.out (by have := M.out; omega)).mono ?_
        rintro _ _ ⟨rfl, rfl⟩
        go_wp2_with fail
        refine (sz32_over _ _ _ (left - r.W.length - r.H.length) _ L2.out N2.out (by have := M.out; omega)).mono ?_
        rintro _ _ ⟨rfl, rfl⟩
        go_wp2
        go_ret
        exact ⟨rfl, below_al1 _ _⟩
    · skip
      have L0 : Hid (r.W.length ≤ left) := Lib.hid g0
      have L1 : Hid (left - r.W.length < r.H.length) := Lib.hid (by omega)
      clear hl hm g0 g1
      go_enter Try.func48, Try.ntmps48
      go_wp2_with fail
      refine (sz32_fit _ _ _ (left) _ L0.out (by have := M.out; omega)).mono ?_
      rintro _ _ ⟨rfl, rfl⟩
      go_wp2_with fail
      refine (sz32_over _ _ _ (left - r.W.length) _ L1.out N1.out (by have := M.out; omega)).mono ?_
      rintro _ _ ⟨rfl, rfl⟩
      go_wp2
      go_ret
      exact ⟨rfl, below_al1 _ _⟩
  · skip
    have L0 : Hid (left < r.W.length) := Lib.hid (by omega)
    clear hl hm g0
    go_enter Try.func48, Try.ntmps48
    go_wp2_with fail
    refine (sz32_over _ _ _ (left) _ L0.out N0.out (by have := M.out; omega)).mono ?_
    rintro _ _ ⟨rfl, rfl⟩
    go_wp2
    go_ret
    exact ⟨rfl, below_al1 _ _⟩

end Go.Proofs.Ytlhjmkdfemejmaa
