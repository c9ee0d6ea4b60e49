/- Rods of a call's own: four lists that lie apart; the laws' marks on them. -/
import Derived.Test.YtkbdidpodcclfaaOin
import Derived.Test.YtkbdidpodcclfaaRodC
namespace Go.Proofs.Ytkbdidpodcclfaa
open Go.RowKit
set_option linter.unusedVariables false

/-- four lists of a call's own, made since h, that lie apart -/
def RodO (h : Nat) (w : World) (a b c d : Value) (r : RL) : Prop :=
  ∃ i0 i1 i2 i3 i4, h ≤ i0 ∧ i0 ≤ i1 ∧ i1 ≤ i2 ∧ i2 ≤ i3 ∧ i3 ≤ i4 ∧ i4 ≤ w.heap.size ∧ OIn i0 i1 w a r.W ∧ OIn i1 i2 w b r.E ∧ OIn i2 i3 w c r.H ∧ OIn i3 i4 w d r.T
theorem RodO.kept {h : Nat} {w w' : World} {a b c d : Value} {r : RL} (H : RodO h w a b c d r) (hb : Below w.heap.size w w') : RodO h w' a b c d r := by
  obtain ⟨i0, i1, i2, i3, i4, g0, g1, g2, g3, g4, g5, A, B, C, D⟩ := H
  exact ⟨i0, i1, i2, i3, i4, g0, g1, g2, g3, g4, Nat.le_trans g5 hb.size, A.kept hb, B.kept hb, C.kept hb, D.kept hb⟩
theorem RodO.mono {h h' : Nat} {w : World} {a b c d : Value} {r : RL} (H : RodO h w a b c d r) (hh : h' ≤ h) : RodO h' w a b c d r := by
  obtain ⟨i0, i1, i2, i3, i4, g0, g⟩ := H
  exact ⟨i0, i1, i2, i3, i4, Nat.le_trans hh g0, g⟩
theorem RodO.far {h p : Nat} {w w' : World} {a b c d : Value} {r : RL} (H : RodO h w a b c d r) (t : Tur (· = p) w w') (hp : p < h) : RodO h w' a b c d r := by
  obtain ⟨i0, i1, i2, i3, i4, g0, g1, g2, g3, g4, g5, A, B, C, D⟩ := H
  exact ⟨i0, i1, i2, i3, i4, g0, g1, g2, g3, g4, Nat.le_trans g5 t.size, A.tur t (fun j _ _ e => by omega), B.tur t (fun j _ _ e => by omega), C.tur t (fun j _ _ e => by omega), D.tur t (fun j _ _ e => by omega)⟩
theorem RodO.rrow {h : Nat} {w : World} {a b c d : Value} {r : RL} (H : RodO h w a b c d r) (hl : r.size ≤ 1048576) : RRow w a b c d r := by
  obtain ⟨i0, i1, i2, i3, i4, _, _, _, _, _, _, A, B, C, D⟩ := H
  have hx : maxLen = 9223372036854775807 := rfl
  unfold RL.size at hl
  exact ⟨A.frow (by omega), B.frow (by omega), C.frow (by omega), D.frow (by omega)⟩
theorem RodO.shapes {h : Nat} {w : World} {a b c d : Value} {r : RL} (H : RodO h w a b c d r) : (∃ x k, a = .slice x r.W.length k) ∧ (∃ x k, b = .slice x r.E.length k) ∧ (∃ x k, c = .slice x r.H.length k) ∧ ∃ x k, d = .slice x r.T.length k := by
  obtain ⟨i0, i1, i2, i3, i4, _, _, _, _, _, _, A, B, C, D⟩ := H
  exact ⟨A.shape, B.shape, C.shape, D.shape⟩
theorem RodO.nil {h : Nat} {w : World} (hh : h ≤ w.heap.size) : RodO h w (.slice none 0 0) (.slice none 0 0) (.slice none 0 0) (.slice none 0 0) ⟨[], [], [], []⟩ :=
  ⟨w.heap.size, w.heap.size, w.heap.size, w.heap.size, w.heap.size, hh, Nat.le_refl _, Nat.le_refl _, Nat.le_refl _, Nat.le_refl _, Nat.le_refl _, .inl ⟨⟨_, _, rfl⟩, rfl⟩, .inl ⟨⟨_, _, rfl⟩, rfl⟩, .inl ⟨⟨_, _, rfl⟩, rfl⟩, .inl ⟨⟨_, _, rfl⟩, rfl⟩⟩
/-- .. in blocks below u -/
def RodU (h u : Nat) (w : World) (a b c d : Value) (r : RL) : Prop :=
  ∃ i0 i1 i2 i3 i4, h ≤ i0 ∧ i0 ≤ i1 ∧ i1 ≤ i2 ∧ i2 ≤ i3 ∧ i3 ≤ i4 ∧ i4 ≤ u ∧ OIn i0 i1 w a r.W ∧ OIn i1 i2 w b r.E ∧ OIn i2 i3 w c r.H ∧ OIn i3 i4 w d r.T
theorem RodO.toU {h : Nat} {w : World} {a b c d : Value} {r : RL} (H : RodO h w a b c d r) : RodU h w.heap.size w a b c d r := H
theorem RodU.kept {h u : Nat} {w w' : World} {a b c d : Value} {r : RL} (H : RodU h u w a b c d r) (hb : Below w.heap.size w w') : RodU h u w' a b c d r := by
  obtain ⟨i0, i1, i2, i3, i4, g0, g1, g2, g3, g4, g5, A, B, C, D⟩ := H
  exact ⟨i0, i1, i2, i3, i4, g0, g1, g2, g3, g4, g5, A.kept hb, B.kept hb, C.kept hb, D.kept hb⟩
theorem RodU.rrow {h u : Nat} {w : World} {a b c d : Value} {r : RL} (H : RodU h u w a b c d r) (hl : r.size ≤ 1048576) : RRow w a b c d r := by
  obtain ⟨i0, i1, i2, i3, i4, _, _, _, _, _, _, A, B, C, D⟩ := H
  have hx : maxLen = 9223372036854775807 := rfl
  unfold RL.size at hl
  exact ⟨A.frow (by omega), B.frow (by omega), C.frow (by omega), D.frow (by omega)⟩
theorem RodU.shapes {h u : Nat} {w : World} {a b c d : Value} {r : RL} (H : RodU h u w a b c d r) : (∃ x k, a = .slice x r.W.length k) ∧ (∃ x k, b = .slice x r.E.length k) ∧ (∃ x k, c = .slice x r.H.length k) ∧ ∃ x k, d = .slice x r.T.length k := by
  obtain ⟨i0, i1, i2, i3, i4, _, _, _, _, _, _, A, B, C, D⟩ := H
  exact ⟨A.shape, B.shape, C.shape, D.shape⟩
def mksR (r : RL) : RL := ⟨mksK 1 r.W.length, mksK (1 + r.W.length) r.E.length, mksK (1 + r.W.length + r.E.length) r.H.length, mksK (1 + r.W.length + r.E.length + r.H.length) r.T.length⟩

set_option maxHeartbeats 3200000 in
set_option maxRecDepth 8000 in
theorem markRodU {h u : Nat} {a b c d : Value} {r : RL} {w : World} (H : RodU h u w a b c d r) (hu : u ≤ w.heap.size) (hl : r.size ≤ 300) :
    Calls Try.prog 14 #[.agg #[a, b, c, d], .int .i64 1] w fun e w' => e = .returned (.int .i64 ((1 + r.size : Nat) : Int)) ∧ RodU h u w' a b c d (mksR r) ∧ Tur (Rg h u) w w' := by
  obtain ⟨⟨xa, ka, ea⟩, ⟨xb, kb, eb⟩, ⟨xc, kc, ec⟩, ⟨xd, kd, ed⟩⟩ := H.shapes
  obtain ⟨i0, i1, i2, i3, i4, g0, g1, g2, g3, g4, g5, A, B, C, D⟩ := H
  have SZ : Hid (1 + r.W.length + r.E.length + r.H.length + r.T.length = 1 + r.size) := Lib.hid (by unfold RL.size; omega)
  unfold RL.size at hl
  have GG := Lib.hid (And.intro g0 (And.intro g1 (And.intro g2 (And.intro g3 (And.intro g4 (And.intro g5 hu))))))
  have B0 := below_al1 w (.cells [a, b, c, d].toArray 25)
  have A0 := Lib.hid (A.kept B0)
  have A1 := Lib.hid (B.kept B0)
  have A2 := Lib.hid (C.kept B0)
  have A3 := Lib.hid (D.kept B0)
  have X := Lib.hid (Cells.made w [a, b, c, d] 25)
  have BB := Lib.hid B0
  have T0 := Lib.hid (Tur.of_below (S := Rg h u) B0)
  clear A B C D g0 g1 g2 g3 g4 g5 hu B0
  have LW : Hid (r.W.length ≤ 300) := Lib.hid (by omega)
  have LE : Hid (r.W.length + r.E.length ≤ 300) := Lib.hid (by omega)
  have LH : Hid (r.W.length + r.E.length + r.H.length ≤ 300) := Lib.hid (by omega)
  have LT : Hid (r.W.length + r.E.length + r.H.length + r.T.length ≤ 300) := Lib.hid hl
  subst ea eb ec ed
  have x0 := X.out.at 0 rfl; have x1 := X.out.at 1 rfl; have x2 := X.out.at 2 rfl; have x3 := X.out.at 3 rfl
  clear hl
  go_enter Try.func14, Try.ntmps14
  go_wp2_with fail
  refine (markIn (k := 1) A0.out (by have := LW.out; omega) (by omega)).mono ?_
  rintro e w1 ⟨rfl, hO, ht⟩
  have M0 := Lib.hid hO
  obtain ⟨g0, g1, g2, g3, g4, g5, g6⟩ := GG.out
  have A1 := Lib.hid (A1.out.tur ht (fun j h1 h2 h3 => by have e : i0 ≤ j ∧ j < i1 := h3; omega))
  have A2 := Lib.hid (A2.out.tur ht (fun j h1 h2 h3 => by have e : i0 ≤ j ∧ j < i1 := h3; omega))
  have A3 := Lib.hid (A3.out.tur ht (fun j h1 h2 h3 => by have e : i0 ≤ j ∧ j < i1 := h3; omega))
  have X := Lib.hid (ht.cells X.out (by intro h3; have e : i0 ≤ w.heap.size ∧ w.heap.size < i1 := h3; omega))
  have T0 := Lib.hid (T0.out.trans ⟨ht.os, ht.tape, ht.output, ht.size, fun k hk hs => ht.block k hk (fun h3 => hs (by have e : i0 ≤ k ∧ k < i1 := h3; exact ⟨by omega, by omega⟩))⟩)
  clear hO ht g0 g1 g2 g3 g4 g5 g6 x0 x1 x2 x3
  have x0 := X.out.at 0 rfl; have x1 := X.out.at 1 rfl; have x2 := X.out.at 2 rfl; have x3 := X.out.at 3 rfl
  go_wp2_with fail
  refine (markIn (k := (1 + r.W.length)) A1.out (by have := LE.out; omega) (by have := LW.out; omega)).mono ?_
  rintro e w2 ⟨rfl, hO, ht⟩
  have M1 := Lib.hid hO
  obtain ⟨g0, g1, g2, g3, g4, g5, g6⟩ := GG.out
  have M0 := Lib.hid (M0.out.tur ht (fun j h1 h2 h3 => by have e : i1 ≤ j ∧ j < i2 := h3; omega))
  have A2 := Lib.hid (A2.out.tur ht (fun j h1 h2 h3 => by have e : i1 ≤ j ∧ j < i2 := h3; omega))
  have A3 := Lib.hid (A3.out.tur ht (fun j h1 h2 h3 => by have e : i1 ≤ j ∧ j < i2 := h3; omega))
  have X := Lib.hid (ht.cells X.out (by intro h3; have e : i1 ≤ w.heap.size ∧ w.heap.size < i2 := h3; omega))
  have T0 := Lib.hid (T0.out.trans ⟨ht.os, ht.tape, ht.output, ht.size, fun k hk hs => ht.block k hk (fun h3 => hs (by have e : i1 ≤ k ∧ k < i2 := h3; exact ⟨by omega, by omega⟩))⟩)
  clear hO ht g0 g1 g2 g3 g4 g5 g6 x0 x1 x2 x3
  have x0 := X.out.at 0 rfl; have x1 := X.out.at 1 rfl; have x2 := X.out.at 2 rfl; have x3 := X.out.at 3 rfl
  go_wp2_with fail
  refine (markIn (k := (1 + r.W.length + r.E.length)) A2.out (by have := LH.out; omega) (by have := LE.out; omega)).mono ?_
  rintro e w3 ⟨rfl, hO, ht⟩
  have M2 := Lib.hid hO
  obtain ⟨g0, g1, g2, g3, g4, g5, g6⟩ := GG.out
  have M0 := Lib.hid (M0.out.tur ht (fun j h1 h2 h3 => by have e : i2 ≤ j ∧ j < i3 := h3; omega))
  have M1 := Lib.hid (M1.out.tur ht (fun j h1 h2 h3 => by have e : i2 ≤ j ∧ j < i3 := h3; omega))
  have A3 := Lib.hid (A3.out.tur ht (fun j h1 h2 h3 => by have e : i2 ≤ j ∧ j < i3 := h3; omega))
  have X := Lib.hid (ht.cells X.out (by intro h3; have e : i2 ≤ w.heap.size ∧ w.heap.size < i3 := h3; omega))
  have T0 := Lib.hid (T0.out.trans ⟨ht.os, ht.tape, ht.output, ht.size, fun k hk hs => ht.block k hk (fun h3 => hs (by have e : i2 ≤ k ∧ k < i3 := h3; exact ⟨by omega, by omega⟩))⟩)
  clear hO ht g0 g1 g2 g3 g4 g5 g6 x0 x1 x2 x3
  have x0 := X.out.at 0 rfl; have x1 := X.out.at 1 rfl; have x2 := X.out.at 2 rfl; have x3 := X.out.at 3 rfl
  go_wp2_with fail
  refine (markIn (k := (1 + r.W.length + r.E.length + r.H.length)) A3.out (by have := LT.out; omega) (by have := LH.out; omega)).mono ?_
  rintro e w4 ⟨rfl, hO, ht⟩
  have M3 := Lib.hid hO
  obtain ⟨g0, g1, g2, g3, g4, g5, g6⟩ := GG.out
  have M0 := Lib.hid (M0.out.tur ht (fun j h1 h2 h3 => by have e : i3 ≤ j ∧ j < i4 := h3; omega))
  have M1 := Lib.hid (M1.out.tur ht (fun j h1 h2 h3 => by have e : i3 ≤ j ∧ j < i4 := h3; omega))
  have M2 := Lib.hid (M2.out.tur ht (fun j h1 h2 h3 => by have e : i3 ≤ j ∧ j < i4 := h3; omega))
  have X := Lib.hid (ht.cells X.out (by intro h3; have e : i3 ≤ w.heap.size ∧ w.heap.size < i4 := h3; omega))
  have T0 := Lib.hid (T0.out.trans ⟨ht.os, ht.tape, ht.output, ht.size, fun k hk hs => ht.block k hk (fun h3 => hs (by have e : i3 ≤ k ∧ k < i4 := h3; exact ⟨by omega, by omega⟩))⟩)
  clear hO ht g0 g1 g2 g3 g4 g5 g6 x0 x1 x2 x3
  have x0 := X.out.at 0 rfl; have x1 := X.out.at 1 rfl; have x2 := X.out.at 2 rfl; have x3 := X.out.at 3 rfl
  go_wp2
  go_ret
  obtain ⟨g0, g1, g2, g3, g4, g5, g6⟩ := GG.out
  refine ⟨by rw [← SZ.out]; rfl, ⟨i0, i1, i2, i3, i4, g0, g1, g2, g3, g4, g5, ?_, ?_, ?_, ?_⟩, T0.out⟩
  · simpa [mksR, mksK_length] using M0.out
  · simpa [mksR, mksK_length] using M1.out
  · simpa [mksR, mksK_length] using M2.out
  · simpa [mksR, mksK_length] using M3.out
set_option maxHeartbeats 3200000 in
set_option maxRecDepth 8000 in
theorem heldRodU {h u : Nat} {a b c d : Value} {r : RL} {w : World} (H : RodU h u w a b c d (mksR r)) (hu : u ≤ w.heap.size) (hl : r.size ≤ 300) :
    Calls Try.prog 15 #[.agg #[a, b, c, d], .int .i64 1] w fun e w' => e = .returned (.int .i64 ((1 + r.size : Nat) : Int)) ∧ Below w.heap.size w w' := by
  obtain ⟨⟨xa, ka, ea⟩, ⟨xb, kb, eb⟩, ⟨xc, kc, ec⟩, ⟨xd, kd, ed⟩⟩ := H.shapes
  obtain ⟨i0, i1, i2, i3, i4, g0, g1, g2, g3, g4, g5, A, B, C, D⟩ := H
  have SZ : Hid (1 + r.W.length + r.E.length + r.H.length + r.T.length = 1 + r.size) := Lib.hid (by unfold RL.size; omega)
  unfold RL.size at hl
  have GG := Lib.hid (And.intro g0 (And.intro g1 (And.intro g2 (And.intro g3 (And.intro g4 (And.intro g5 hu))))))
  have B0 := below_al1 w (.cells [a, b, c, d].toArray 25)
  have A0 := Lib.hid (A.kept B0)
  have A1 := Lib.hid (B.kept B0)
  have A2 := Lib.hid (C.kept B0)
  have A3 := Lib.hid (D.kept B0)
  have X := Lib.hid (Cells.made w [a, b, c, d] 25)
  have BB := Lib.hid B0
  clear A B C D g0 g1 g2 g3 g4 g5 hu B0
  have LW : Hid (r.W.length ≤ 300) := Lib.hid (by omega)
  have LE : Hid (r.W.length + r.E.length ≤ 300) := Lib.hid (by omega)
  have LH : Hid (r.W.length + r.E.length + r.H.length ≤ 300) := Lib.hid (by omega)
  have LT : Hid (r.W.length + r.E.length + r.H.length + r.T.length ≤ 300) := Lib.hid hl
  subst ea eb ec ed
  have x0 := X.out.at 0 rfl; have x1 := X.out.at 1 rfl; have x2 := X.out.at 2 rfl; have x3 := X.out.at 3 rfl
  clear hl
  go_enter Try.func15, Try.ntmps15
  go_wp2_with fail
  refine (heldIn (k := 1) A0.out (by have := LW.out; omega)).mono ?_
  rintro e w1 ⟨rfl, rfl⟩
  go_wp2_with fail
  refine (heldIn (k := (1 + r.W.length)) A1.out (by have := LE.out; omega)).mono ?_
  rintro e w2 ⟨rfl, rfl⟩
  go_wp2_with fail
  refine (heldIn (k := (1 + r.W.length + r.E.length)) A2.out (by have := LH.out; omega)).mono ?_
  rintro e w3 ⟨rfl, rfl⟩
  go_wp2_with fail
  refine (heldIn (k := (1 + r.W.length + r.E.length + r.H.length)) A3.out (by have := LT.out; omega)).mono ?_
  rintro e w4 ⟨rfl, rfl⟩
  go_wp2
  go_ret
  exact ⟨by rw [← SZ.out]; rfl, BB.out⟩
end Go.Proofs.Ytkbdidpodcclfaa
