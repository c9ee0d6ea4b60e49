/- Only one block has turned; the laws' marks as numbers. -/
import Derived.Test.YtkbdidpodcclfaaSl
namespace Go.Proofs.Ytkbdidpodcclfaa
open Go.RowKit
set_option linter.unusedVariables false

/-- only block g has turned -/
structure Onl (g : Nat) (w w' : World) : Prop where
  os : w'.os = w.os
  tape : w'.tape = w.tape
  output : w'.output = w.output
  size : w'.heap.size = w.heap.size
  block : ∀ k, k ≠ g → w'.heap[k]? = w.heap[k]?
theorem Onl.refl (g : Nat) (w : World) : Onl g w w := ⟨rfl, rfl, rfl, rfl, fun _ _ => rfl⟩
theorem Onl.trans {g : Nat} {a b c : World} (h : Onl g a b) (k : Onl g b c) : Onl g a c :=
  ⟨k.os.trans h.os, k.tape.trans h.tape, k.output.trans h.output, k.size.trans h.size, fun j hj => (k.block j hj).trans (h.block j hj)⟩
theorem Onl.setCell {g : Nat} {a w : World} (h : Onl g a w) (i : Nat) (u : Value) : Onl g a (w.setCell ⟨g, i, none⟩ u) := by
  have hb := (Below.refl 0 w).setCell (p := ⟨g, i, none⟩) (Nat.zero_le _) u
  exact ⟨hb.os.trans h.os, hb.tape.trans h.tape, hb.output.trans h.output, (World.size_setCell ..).trans h.size, fun k hk => (Below.heap_setCell w ⟨g, i, none⟩ u k hk).trans (h.block k hk)⟩
theorem Onl.drewN {g n : Nat} {a w : World} (h : Onl g a w) : Onl g a (w.drewN n) := ⟨h.os, h.tape, h.output, h.size, h.block⟩
theorem Onl.below {g B : Nat} {a w : World} (h : Onl g a w) (hB : B ≤ g) : Below B a w :=
  ⟨h.os, h.tape, h.output, Nat.le_of_eq h.size.symm, fun k hk => h.block k (by omega)⟩

/-- the number k, as a 32-bit number -/
def fb (k : Nat) : Nat := floatOfInt .f32 (k : Int)
theorem fb_self (k : Nat) (h : k < 500) : (FloatKind.f32.format.order (fb k) (fb k) == some .eq) = true := by
  have : ∀ k, k < 500 → (FloatKind.f32.format.order (fb k) (fb k) == some .eq) = true := by decide +kernel
  exact this k h
theorem rowIs_below {w w' : World} {b n : Nat} {t : TypeId} {f : Nat → Value} (h : w.rowIs b t n f) (hb : Below w.heap.size w w') : w'.rowIs b t n f := by
  have hl := h.lt
  unfold World.rowIs at *
  rw [hb.block b hl]
  exact h
theorem rowIs_far {w : World} {b n q i : Nat} {t : TypeId} {f : Nat → Value} {u : Value} (h : w.rowIs b t n f) (hq : b ≠ q) : (w.setCell ⟨q, i, none⟩ u).rowIs b t n f := by
  unfold World.rowIs at *
  rw [Below.heap_setCell w ⟨q, i, none⟩ u b hq]
  exact h

/-- of what was there, only blocks in S have turned -/
structure Tur (S : Nat → Prop) (w w' : World) : Prop where
  os : w'.os = w.os
  tape : w'.tape = w.tape
  output : w'.output = w.output
  size : w.heap.size ≤ w'.heap.size
  block : ∀ k, k < w.heap.size → ¬ S k → w'.heap[k]? = w.heap[k]?
theorem Tur.trans {S : Nat → Prop} {a b c : World} (h : Tur S a b) (k : Tur S b c) : Tur S a c :=
  ⟨k.os.trans h.os, k.tape.trans h.tape, k.output.trans h.output, Nat.le_trans h.size k.size, fun j hj hs => (k.block j (Nat.lt_of_lt_of_le hj h.size) hs).trans (h.block j hj hs)⟩
theorem Tur.of_below {S : Nat → Prop} {w w' : World} (h : Below w.heap.size w w') : Tur S w w' := ⟨h.os, h.tape, h.output, h.size, fun k hk _ => h.block k hk⟩
theorem Tur.of_onl {S : Nat → Prop} {g : Nat} {w w' : World} (h : Onl g w w') (hg : S g) : Tur S w w' :=
  ⟨h.os, h.tape, h.output, Nat.le_of_eq h.size.symm, fun k _ hs => h.block k (fun e => hs (by rw [e]; exact hg))⟩
theorem Tur.below {S : Nat → Prop} {B : Nat} {w w' : World} (h : Tur S w w') (hB : ∀ k, S k → B ≤ k) (hs : B ≤ w.heap.size) : Below B w w' :=
  ⟨h.os, h.tape, h.output, h.size, fun k hk => h.block k (by omega) (fun hS => by have := hB k hS; omega)⟩
theorem Tur.cells {S : Nat → Prop} {w w' : World} {p : Nat} {vs : List Value} (h : Tur S w w') (hc : Cells w p vs) (hp : ¬ S p) : Cells w' p vs :=
  ⟨fun i v hv => (World.cell?_of_block (w := w) (h.block p hc.lt hp)).trans (hc.1 i v hv), fun i => (World.frozen?_of_block (w := w) (h.block p hc.lt hp)).trans (hc.2.1 i), Nat.lt_of_lt_of_le hc.lt h.size⟩
theorem Tur.row {S : Nat → Prop} {w w' : World} {b n : Nat} {t : TypeId} {f : Nat → Value} (h : Tur S w w') (hr : w.rowIs b t n f) (hb : ¬ S b) : w'.rowIs b t n f := by
  have hl := hr.lt
  unfold World.rowIs at *
  rw [h.block b hl hb]
  exact hr

end Go.Proofs.Ytkbdidpodcclfaa
