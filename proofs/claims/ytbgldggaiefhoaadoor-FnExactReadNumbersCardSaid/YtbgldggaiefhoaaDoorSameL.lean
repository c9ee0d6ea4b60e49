/- Whether two lists of numbers are the same: both sides. -/
import Derived.Test.YtbgldggaiefhoaaDoorSameN
import Derived.Test.YtbgldggaiefhoaaDoorFr
import Derived.Test.YtbgldggaiefhoaaDoorLooseB
import Derived.Deep.QuietTactic
import Derived.BigQuiet
namespace Go.Proofs.YtbgldggaiefhoaaDoor
open Go.RowKit
set_option linter.unusedVariables false

def Wf (zs : List Nat) : Prop := ∀ i, i < zs.length → (Lit.float .f32 (zs.getD i 0)).wf = true
/-- are two lists the same -/
def smL (zs ys : List Nat) : Bool := (zs.length == ys.length) && (List.range zs.length).all (fun k => sm (zs.getD k 0) (ys.getD k 0))
theorem smL_len {zs ys : List Nat} (h : ¬ zs.length = ys.length) : smL zs ys = false := by simp [smL, h]
theorem smL_no {zs ys : List Nat} {k : Nat} (hk : k < zs.length) (h : sm (zs.getD k 0) (ys.getD k 0) = false) : smL zs ys = false := by
  unfold smL
  rw [Bool.and_eq_false_iff]
  refine .inr ?_
  rw [List.all_eq_false]
  exact ⟨k, by simpa using hk, by rw [h]; simp⟩
theorem smL_yes {zs ys : List Nat} (hl : zs.length = ys.length) (h : ∀ j, j < zs.length → sm (zs.getD j 0) (ys.getD j 0) = true) : smL zs ys = true := by
  unfold smL
  rw [Bool.and_eq_true, List.all_eq_true]
  exact ⟨by simpa using hl, fun x hx => h x (by simpa using hx)⟩

end Go.Proofs.YtbgldggaiefhoaaDoor
