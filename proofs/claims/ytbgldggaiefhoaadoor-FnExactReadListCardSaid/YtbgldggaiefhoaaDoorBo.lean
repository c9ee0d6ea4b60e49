/- A slice of bools, as a list: what it is, its copy, its size. -/
import Derived.Test.YtbgldggaiefhoaaDoorSl
import Derived.Test.YtbgldggaiefhoaaDoorSlC
namespace Go.Proofs.YtbgldggaiefhoaaDoor
open Go.RowKit
set_option linter.unusedVariables false

/-- the value v reads as the list zs of numbers: empty, or a row of cells -/
def BRow (w : World) (v : Value) (zs : List Bool) : Prop :=
  ((∃ a c, v = .slice a 0 c) ∧ zs = []) ∨
  ∃ b off cap, v = .slice (some ⟨b, off, none⟩) zs.length cap ∧ zs.length ≤ maxLen ∧ ∀ i, i < zs.length → w.cell? ⟨b, off + i, none⟩ = some (.bool (zs.getD i false))

theorem BRow.below {w w' : World} {v : Value} {zs : List Bool} (h : BRow w v zs) (hb : Below w.heap.size w w') : BRow w' v zs := by
  rcases h with h | ⟨b, off, cap, e, hm, hc⟩
  · exact .inl h
  · refine .inr ⟨b, off, cap, e, hm, fun i hi => ?_⟩
    have := hc i hi
    rw [hb.cell (p := ⟨b, off + i, none⟩) (cell_lt this)]
    exact this

theorem BRow.drewN {w : World} {v : Value} {zs : List Bool} {n : Nat} (h : BRow w v zs) : BRow (w.drewN n) v zs := h


/-- how long a slice is -/
theorem BRow.shape {w : World} {v : Value} {zs : List Bool} (h : BRow w v zs) : ∃ a cap, v = .slice a zs.length cap := by
  rcases h with ⟨h, rfl⟩ | ⟨b, off, cap, rfl, _⟩
  · exact h
  · exact ⟨_, _, rfl⟩

abbrev slb (p : Nat) (zs : List Bool) : Value := .slice (some ⟨p, 0, none⟩) zs.length zs.length
def flb (zs : List Bool) : List Value := zs.map .bool
theorem BRow.of_cells {w : World} {p : Nat} {zs : List Bool} (h : Cells w p (flb zs)) (hm : zs.length ≤ maxLen) : BRow w (slb p zs) zs :=
  .inr ⟨p, 0, _, rfl, hm, fun i hi => by rw [Nat.zero_add]; exact h.1 i _ (by simp [flb, hi, List.getD_eq_getElem?_getD])⟩

theorem BRow.cells {w : World} {v : Value} {zs : List Bool} (h : BRow w v zs) (hn : 1 ≤ zs.length) : ∃ b off cap, v = .slice (some ⟨b, off, none⟩) zs.length cap ∧ ∀ i, i < zs.length → w.cell? ⟨b, off + i, none⟩ = some (.bool (zs.getD i false)) := by
  rcases h with ⟨_, rfl⟩ | ⟨b, off, cap, e, hm, hc⟩
  · simp at hn
  · exact ⟨b, off, cap, e, hc⟩

theorem BRow.len {w : World} {v : Value} {zs : List Bool} (h : BRow w v zs) : zs.length ≤ 9223372036854775807 := by
  rcases h with ⟨_, rfl⟩ | ⟨_, _, _, _, hm, _⟩
  · simp
  · exact hm

/-- a new row: the call hands back a slice that reads as zs, and nothing that was there has turned -/
def NewBRow (zs : List Bool) (w : World) (e : Ending) (w' : World) : Prop := ∃ v, e = .returned v ∧ BRow w' v zs ∧ Below w.heap.size w w'

theorem Tryd.rowOfB : (Tryd.prog.info? 4).map (fun i => (i.zero, i.size, i.bytes)) = some (some (.bool false), 1, 1) := by kernel_rfl

def partB (zs : List Bool) (k i : Nat) : Value := .bool (if i < k then zs.getD i false else false)

theorem row_of_partB {wr : World} {b : Nat} {zs : List Bool} (h : wr.rowIs b 4 zs.length (partB zs zs.length)) (hm : zs.length ≤ maxLen) : BRow wr (.slice (some ⟨b, 0, none⟩) zs.length zs.length) zs := by
  refine .inr ⟨b, 0, _, rfl, hm, fun i hi => ?_⟩
  have := h.cell hi
  rw [Nat.zero_add, this]
  simp [partB, hi]

/-- .. in a block of its own, the first behind those that were there -/
def NewBAt (zs : List Bool) (w : World) (e : Ending) (w' : World) : Prop :=
  e = .returned (.slice (some ⟨w.heap.size, 0, none⟩) zs.length zs.length) ∧ BRow w' (.slice (some ⟨w.heap.size, 0, none⟩) zs.length zs.length) zs ∧ Below w.heap.size w w' ∧ Cells w' w.heap.size (zs.map .bool)

theorem cells_of_partB {wr : World} {b : Nat} {zs : List Bool} (h : wr.rowIs b 4 zs.length (partB zs zs.length)) (hb : b < wr.heap.size) : Cells wr b (zs.map .bool) := by
  refine ⟨fun i v hv => ?_, fun i => h.frozen i, hb⟩
  have hi : i < zs.length := by
    have := (List.getElem?_eq_some_iff.1 hv).1
    simpa using this
  rw [h.cell hi]
  simp [hi] at hv
  simp [partB, hi, hv, List.getD_eq_getElem?_getD]

def NewBSl (zs : List Bool) (w : World) (e : Ending) (w' : World) : Prop := ∃ p, e = .returned (slb p zs) ∧ w.heap.size ≤ p ∧ Cells w' p (flb zs) ∧ Below w.heap.size w w'
end Go.Proofs.YtbgldggaiefhoaaDoor
