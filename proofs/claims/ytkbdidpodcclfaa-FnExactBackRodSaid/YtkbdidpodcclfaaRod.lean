/- Rods: a struct of four slices of 32-bit numbers, in four cells. -/
import Derived.Test.YtkbdidpodcclfaaSlC
namespace Go.Proofs.Ytkbdidpodcclfaa
open Go.RowKit

/-- the four lists of a rod -/
structure RL where
  W : List Nat
  E : List Nat
  H : List Nat
  T : List Nat

def RL.size (r : RL) : Nat := r.W.length + r.E.length + r.H.length + r.T.length

/-- four slices read as the lists of a rod -/
structure RRow (w : World) (a b c d : Value) (r : RL) : Prop where
  W : FRow w a r.W
  E : FRow w b r.E
  H : FRow w c r.H
  T : FRow w d r.T

theorem RRow.below {w w' : World} {a b c d : Value} {r : RL} (h : RRow w a b c d r) (hb : Below w.heap.size w w') : RRow w' a b c d r :=
  ⟨h.W.below hb, h.E.below hb, h.H.below hb, h.T.below hb⟩
theorem RRow.drewN {w : World} {a b c d : Value} {r : RL} {n : Nat} (h : RRow w a b c d r) : RRow (w.drewN n) a b c d r := ⟨h.W, h.E, h.H, h.T⟩

/-- four cells of a block that may be written -/
structure At4 (w : World) (p : Nat) (a b c d : Value) : Prop where
  c0 : w.cell? ⟨p, 0, none⟩ = some a
  c1 : w.cell? ⟨p, 1, none⟩ = some b
  c2 : w.cell? ⟨p, 2, none⟩ = some c
  c3 : w.cell? ⟨p, 3, none⟩ = some d
  f : ∀ i, w.frozen? ⟨p, i, none⟩ = false

theorem At4.lt {w : World} {p : Nat} {a b c d : Value} (h : At4 w p a b c d) : p < w.heap.size := cell_lt h.c0
theorem At4.below {w w' : World} {p B : Nat} {a b c d : Value} (h : At4 w p a b c d) (hb : Below B w w') (hp : p < B) : At4 w' p a b c d :=
  ⟨(hb.cell (p := ⟨p, 0, none⟩) hp).trans h.c0, (hb.cell (p := ⟨p, 1, none⟩) hp).trans h.c1, (hb.cell (p := ⟨p, 2, none⟩) hp).trans h.c2, (hb.cell (p := ⟨p, 3, none⟩) hp).trans h.c3,
    fun i => (hb.frozen (p := ⟨p, i, none⟩) hp).trans (h.f i)⟩
theorem At4.kept {w w' : World} {p : Nat} {a b c d : Value} (h : At4 w p a b c d) (hb : Below w.heap.size w w') : At4 w' p a b c d := h.below hb h.lt
theorem At4.drewN {w : World} {p n : Nat} {a b c d : Value} (h : At4 w p a b c d) : At4 (w.drewN n) p a b c d := ⟨h.c0, h.c1, h.c2, h.c3, h.f⟩
theorem At4.made (w : World) (a b c d : Value) (t : TypeId) : At4 (w.alloc (.cells #[a, b, c, d] t)) w.heap.size a b c d :=
  ⟨by simp, by simp, by simp, by simp, fun i => by simp⟩
theorem At4.alloc {w : World} {p : Nat} {a b c d : Value} (h : At4 w p a b c d) (o : Obj) : At4 (w.alloc o) p a b c d := h.kept ((Below.refl _ _).alloc (Nat.le_refl _) o)

end Go.Proofs.Ytkbdidpodcclfaa
