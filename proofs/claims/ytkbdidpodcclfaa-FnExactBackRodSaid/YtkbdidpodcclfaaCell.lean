/- Blocks of a call's own: what lies in them, and what is kept behind a call. -/
import Derived.Test.YtkbdidpodcclfaaRun
import Derived.Lib.Hide
namespace Go.Proofs.Ytkbdidpodcclfaa
open Go.RowKit

theorem below_al1 (w : World) (a : Obj) : Below w.heap.size w (w.alloc a) := (Below.refl _ _).alloc (Nat.le_refl _) a
theorem below_al2 (w : World) (a b : Obj) : Below w.heap.size w ((w.alloc a).alloc b) := (below_al1 w a).alloc (by simp) b
theorem below_al3 (w : World) (a b c : Obj) : Below w.heap.size w (((w.alloc a).alloc b).alloc c) := (below_al2 w a b).alloc (by simp; omega) c
theorem below_al4 (w : World) (a b c d : Obj) : Below w.heap.size w ((((w.alloc a).alloc b).alloc c).alloc d) := (below_al3 w a b c).alloc (by simp; omega) d

theorem below_unal {a w : World} {o : Obj} (h : Below (a.alloc o).heap.size (a.alloc o) w) : Below a.heap.size a w := below_step (below_al1 a o) h

/-- a block holds these cells, and may be written -/
def Cells (w : World) (p : Nat) (vs : List Value) : Prop := (∀ i v, vs[i]? = some v → w.cell? ⟨p, i, none⟩ = some v) ∧ (∀ i, w.frozen? ⟨p, i, none⟩ = false) ∧ p < w.heap.size
theorem Cells.at {w : World} {p : Nat} {vs : List Value} (h : Cells w p vs) (i : Nat) {v : Value} (hv : vs[i]? = some v) : w.cell? ⟨p, i, none⟩ = some v := h.1 i v hv
theorem Cells.fz {w : World} {p : Nat} {vs : List Value} (h : Cells w p vs) (i : Nat) : w.frozen? ⟨p, i, none⟩ = false := h.2.1 i
theorem Cells.lt {w : World} {p : Nat} {vs : List Value} (h : Cells w p vs) : p < w.heap.size := h.2.2
theorem Cells.kept {w w' : World} {p : Nat} {vs : List Value} (h : Cells w p vs) (hb : Below w.heap.size w w') : Cells w' p vs :=
  ⟨fun i v hv => (hb.cell (p := ⟨p, i, none⟩) h.lt).trans (h.1 i v hv), fun i => (hb.frozen (p := ⟨p, i, none⟩) h.lt).trans (h.2.1 i), Nat.lt_of_lt_of_le h.lt hb.size⟩
theorem Cells.made (w : World) (vs : List Value) (t : TypeId) : Cells (w.alloc (.cells vs.toArray t)) w.heap.size vs :=
  ⟨fun i v hv => by simpa using hv, fun i => by simp, by simp⟩
theorem Cells.drewN {w : World} {p n : Nat} {vs : List Value} (h : Cells w p vs) : Cells (w.drewN n) p vs := h
theorem Cells.al {w : World} {p : Nat} {vs : List Value} (h : Cells w p vs) (o : Obj) : Cells (w.alloc o) p vs := h.kept (below_al1 w o)

theorem Cells.set {w : World} {p : Nat} {vs : List Value} (h : Cells w p vs) (i : Nat) (hi : i < vs.length) (v : Value) : Cells (w.setCell ⟨p, i, none⟩ v) p (vs.set i v) := by
  refine ⟨fun j u hj => ?_, fun j => by rw [World.frozen?_setCell]; exact h.2.1 j, by simpa using h.2.2⟩
  have hi' : vs[i]? = some vs[i] := List.getElem?_eq_getElem hi
  by_cases e : i = j
  · subst e
    rw [World.cell?_setCell_same _ _ _ (h.1 i _ hi')]
    simp [hi] at hj
    simp [hj]
  · rw [World.cell?_setCell_other _ _ _ _ (by intro e'; cases e'; exact e rfl)]
    rw [List.getElem?_set_ne e] at hj
    exact h.1 j u hj
theorem Cells.far {w : World} {p q : Nat} {vs : List Value} (h : Cells w p vs) (hq : q ≠ p) (i : Nat) (v : Value) : Cells (w.setCell ⟨q, i, none⟩ v) p vs :=
  ⟨fun j u hj => by rw [World.cell?_setCell_other _ _ _ _ (by intro e; cases e; exact hq rfl)]; exact h.1 j u hj, fun j => by rw [World.frozen?_setCell]; exact h.2.1 j, by simpa using h.2.2⟩

end Go.Proofs.Ytkbdidpodcclfaa
