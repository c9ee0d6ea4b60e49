/- The four lists of a rod by their cells; what is told of each cell. -/
import Derived.Test.YtkbdidpodcclfaaAll
import Derived.Test.YtkbdidpodcclfaaGiv
import Derived.Test.YtkbdidpodcclfaaLooseB
namespace Go.Proofs.Ytkbdidpodcclfaa
open Go.RowKit
set_option linter.unusedVariables false

/-- a 32-bit number up to a not-a-number's bits; nothing that was there has turned -/
def FlB (S : Nat) (w : World) (e : Ending) (w' : World) : Prop := ∃ x, cn .f32 x = S ∧ e = .returned (.float .f32 x) ∧ Below w.heap.size w w'
/-- .. and nothing is made -/
def FlD (S : Nat) (w : World) (e : Ending) (w' : World) : Prop := ∃ x, cn .f32 x = S ∧ e = .returned (.float .f32 x) ∧ ∃ n, w' = w.drewN n

/-- all lists of a rod are n long -/
structure Len (r : RL) (n : Nat) : Prop where
  W : r.W.length = n
  E : r.E.length = n
  H : r.H.length = n
  T : r.T.length = n
  p : 1 ≤ n
  q : n ≤ 48
theorem Len.of {r : RL} (hl : lensOk r = true) : Len r r.W.length := by
  obtain ⟨⟨⟨⟨g1, g2⟩, g3⟩, g4⟩, g5⟩ : (((1 ≤ r.W.length ∧ r.W.length ≤ 48) ∧ r.E.length = r.W.length) ∧ r.H.length = r.W.length) ∧ r.T.length = r.W.length := by simpa [lensOk] using hl
  exact ⟨rfl, g3, g4, g5, g1, g2⟩
theorem Len.ofV {r : RL} (hv : vRod r = true) : Len r r.W.length := Len.of (by unfold vRod at hv; simp only [Bool.and_eq_true] at hv; exact hv.1)

/-- four slices of n numbers each, by their cells -/
structure Lay (w : World) (n b0 o0 k0 b1 o1 k1 b2 o2 k2 b3 o3 k3 : Nat) (r : RL) : Prop where
  W : ∀ i, i < n → w.cell? ⟨b0, o0 + i, none⟩ = some (.float .f32 (r.W.getD i 0))
  E : ∀ i, i < n → w.cell? ⟨b1, o1 + i, none⟩ = some (.float .f32 (r.E.getD i 0))
  H : ∀ i, i < n → w.cell? ⟨b2, o2 + i, none⟩ = some (.float .f32 (r.H.getD i 0))
  T : ∀ i, i < n → w.cell? ⟨b3, o3 + i, none⟩ = some (.float .f32 (r.T.getD i 0))
theorem Lay.below {w w' : World} {n b0 o0 k0 b1 o1 k1 b2 o2 k2 b3 o3 k3 : Nat} {r : RL} (h : Lay w n b0 o0 k0 b1 o1 k1 b2 o2 k2 b3 o3 k3 r) (hb : Below w.heap.size w w') : Lay w' n b0 o0 k0 b1 o1 k1 b2 o2 k2 b3 o3 k3 r :=
  ⟨fun i hi => Ext.cell hb (h.W i hi), fun i hi => Ext.cell hb (h.E i hi), fun i hi => Ext.cell hb (h.H i hi), fun i hi => Ext.cell hb (h.T i hi)⟩
theorem RRow.lay {w : World} {a b c d : Value} {r : RL} {n : Nat} (h : RRow w a b c d r) (hl : Len r n) : ∃ b0 o0 k0 b1 o1 k1 b2 o2 k2 b3 o3 k3,
    a = .slice (some ⟨b0, o0, none⟩) n k0 ∧ b = .slice (some ⟨b1, o1, none⟩) n k1 ∧ c = .slice (some ⟨b2, o2, none⟩) n k2 ∧ d = .slice (some ⟨b3, o3, none⟩) n k3 ∧ Lay w n b0 o0 k0 b1 o1 k1 b2 o2 k2 b3 o3 k3 r := by
  obtain ⟨b0, o0, k0, rfl, h0⟩ := h.W.cells (by rw [hl.W]; exact hl.p)
  obtain ⟨b1, o1, k1, rfl, h1⟩ := h.E.cells (by rw [hl.E]; exact hl.p)
  obtain ⟨b2, o2, k2, rfl, h2⟩ := h.H.cells (by rw [hl.H]; exact hl.p)
  obtain ⟨b3, o3, k3, rfl, h3⟩ := h.T.cells (by rw [hl.T]; exact hl.p)
  rw [hl.W] at h0; rw [hl.E] at h1; rw [hl.H] at h2; rw [hl.T] at h3
  rw [hl.W, hl.E, hl.H, hl.T]
  exact ⟨_, _, _, _, _, _, _, _, _, _, _, _, rfl, rfl, rfl, rfl, h0, h1, h2, h3⟩

/-- what is told of a cell -/
def tW (r : RL) (k : Nat) : Nat := cn .f32 (r.W.getD k 0)
def tS (r : RL) (k : Nat) : Nat := fop .mul .f32 (cn .f32 (r.W.getD k 0)) (cn .f32 (r.H.getD k 0))
def tQ (r : RL) (k : Nat) : Nat := fop .mul .f32 (tS r k) (cn .f32 (r.T.getD k 0))
def tN (r : RL) (k : Nat) : Nat := fop .quo .f32 (cn .f32 (r.W.getD k 0)) (cn .f32 (r.E.getD k 0))
def sumT (f : Nat → Nat) (n : Nat) : Nat := (List.range n).foldl (fun s k => fop .add .f32 s (f k)) (cn .f32 0)
theorem sumT_succ (f : Nat → Nat) (k : Nat) : sumT f (k + 1) = fop .add .f32 (sumT f k) (f k) := by
  unfold sumT
  rw [List.range_succ, List.foldl_append]
  rfl
theorem cn_fop (op : BinOp) (k : FloatKind) (x y : Nat) : cn k (fop op k x y) = fop op k x y := by
  unfold fop
  cases h : floatBits op k x y with
  | none => exact cn_of_nan (nn_qn k)
  | some r => exact cn_of_num (floatBits_num h)

end Go.Proofs.Ytkbdidpodcclfaa
