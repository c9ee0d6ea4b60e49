/- The four lists of a plate by their cells. -/
import Derived.Test.YtkmfinegmkacpabPlV
import Derived.Test.YtkmfinegmkacpabGiv3
namespace Go.Proofs.Ytkmfinegmkacpab
open Go.RowKit
set_option linter.unusedVariables false

/-- a 32-bit number up to a not-a-number's bits; nothing that was there has turned -/
def FlP (S : Nat) (w : World) (e : Ending) (w' : World) : Prop := ∃ x, cn .f32 x = S ∧ e = .returned (.float .f32 x) ∧ Below w.heap.size w w'
theorem pcn_fop (op : BinOp) (k : FloatKind) (x y : Nat) : cn k (fop op k x y) = fop op k x y := by
  unfold fop
  cases h : floatBits op k x y with
  | none => exact cn_of_nan (nn_qn k)
  | some r => exact cn_of_num (floatBits_num h)

theorem finP_nn {x : Nat} (h : fin .f32 x = true) : nn .f32 x = false := by cases hn : nn .f32 x with | false => rfl | true => rw [fin_nan hn] at h; cases h

structure PLay (w : World) (n b0 o0 b1 o1 b2 o2 b3 o3 : Nat) (r : PL) : Prop where
  W : ∀ i, i < n → w.cell? ⟨b0, o0 + i, none⟩ = some (.float .f32 (r.W.getD i 0))
  E : ∀ i, i < n → w.cell? ⟨b1, o1 + i, none⟩ = some (.float .f32 (r.E.getD i 0))
  G : ∀ i, i < n → w.cell? ⟨b2, o2 + i, none⟩ = some (.float .f32 (r.G.getD i 0))
  H : ∀ i, i < n → w.cell? ⟨b3, o3 + i, none⟩ = some (.bool (r.H.getD i false))
theorem PLay.below {w w' : World} {n b0 o0 b1 o1 b2 o2 b3 o3 : Nat} {r : PL} (h : PLay w n b0 o0 b1 o1 b2 o2 b3 o3 r) (hb : Below w.heap.size w w') : PLay w' n b0 o0 b1 o1 b2 o2 b3 o3 r :=
  ⟨fun i hi => Ext.cell hb (h.W i hi), fun i hi => Ext.cell hb (h.E i hi), fun i hi => Ext.cell hb (h.G i hi), fun i hi => Ext.cell hb (h.H i hi)⟩
/-- the four slices, n long -/
abbrev ps (b o n k : Nat) : Value := .slice (some ⟨b, o, none⟩) n k
theorem PRow.lay {w : World} {a b c d : Value} {r : PL} {n : Nat} (h : PRow w a b c d r) (hl : PlN r n) : ∃ b0 o0 k0 b1 o1 k1 b2 o2 k2 b3 o3 k3,
    a = .slice (some ⟨b0, o0, none⟩) n k0 ∧ b = .slice (some ⟨b1, o1, none⟩) n k1 ∧ c = .slice (some ⟨b2, o2, none⟩) n k2 ∧ d = .slice (some ⟨b3, o3, none⟩) n k3 ∧ PLay w n b0 o0 b1 o1 b2 o2 b3 o3 r := by
  obtain ⟨b0, o0, k0, rfl, h0⟩ := h.W.cells (by rw [hl.W]; exact hl.p)
  obtain ⟨b1, o1, k1, rfl, h1⟩ := h.E.cells (by rw [hl.E]; exact hl.p)
  obtain ⟨b2, o2, k2, rfl, h2⟩ := h.G.cells (by rw [hl.G]; exact hl.p)
  obtain ⟨b3, o3, k3, rfl, h3⟩ := h.H.cells (by rw [hl.H]; exact hl.p)
  rw [hl.W] at h0; rw [hl.E] at h1; rw [hl.G] at h2; rw [hl.H] at h3
  rw [hl.W, hl.E, hl.G, hl.H]
  exact ⟨_, _, _, _, _, _, _, _, _, _, _, _, rfl, rfl, rfl, rfl, h0, h1, h2, h3⟩
/-- .. with the row of a valid plate in any later world -/
theorem PLay.row {w : World} {n b0 o0 b1 o1 b2 o2 b3 o3 : Nat} {r : PL} (h : PLay w n b0 o0 b1 o1 b2 o2 b3 o3 r) (hl : PlN r n) (k0 k1 k2 k3 : Nat) :
    PRow w (ps b0 o0 n k0) (ps b1 o1 n k1) (ps b2 o2 n k2) (ps b3 o3 n k3) r := by
  have hm : maxLen = 9223372036854775807 := rfl
  have := hl.q
  refine ⟨.inr ⟨b0, o0, k0, by rw [hl.W], by rw [hl.W]; omega, by rw [hl.W]; exact h.W⟩, .inr ⟨b1, o1, k1, by rw [hl.E], by rw [hl.E]; omega, by rw [hl.E]; exact h.E⟩, .inr ⟨b2, o2, k2, by rw [hl.G], by rw [hl.G]; omega, by rw [hl.G]; exact h.G⟩, .inr ⟨b3, o3, k3, by rw [hl.H], by rw [hl.H]; omega, by rw [hl.H]; exact h.H⟩⟩
/-- the sum, from left to right, of what is told of those cells that are as told -/
def sumC (c : Nat → Bool) (f : Nat → Nat) (n : Nat) : Nat := (List.range n).foldl (fun s k => bif c k then fop .add .f32 s (f k) else s) (cn .f32 0)
theorem sumC_yes {c : Nat → Bool} {f : Nat → Nat} {k : Nat} (h : c k = true) : sumC c f (k + 1) = fop .add .f32 (sumC c f k) (f k) := by
  unfold sumC; rw [List.range_succ, List.foldl_append]; simp [h]
theorem sumC_no {c : Nat → Bool} {f : Nat → Nat} {k : Nat} (h : c k = false) : sumC c f (k + 1) = sumC c f k := by
  unfold sumC; rw [List.range_succ, List.foldl_append]; simp [h]
end Go.Proofs.Ytkmfinegmkacpab
