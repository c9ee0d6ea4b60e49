/- A list of numbers, and whether there is one: what functions hand back that make a list. -/
import Derived.Test.YtabdinmodopadaaMarkO
namespace Go.Proofs.Ytabdinmodopadaa
open Go.RowKit
set_option linter.unusedVariables false

/-- a list that reads as S up to not-a-numbers' bits, and a bool; nothing that was there has turned -/
def LstB (S : List Nat) (b : Bool) (w : World) (e : Ending) (w' : World) : Prop := ∃ v zs, e = .returned (.tuple #[v, .bool b]) ∧ FRow w' v zs ∧ zs.map (cn .f32) = S ∧ Below w.heap.size w w'
/-- .. the list lies in memory of its own -/
def LstO (S : List Nat) (b : Bool) (w : World) (e : Ending) (w' : World) : Prop := ∃ v zs, e = .returned (.tuple #[v, .bool b]) ∧ ORow w.heap.size w' v zs ∧ zs.map (cn .f32) = S ∧ Below w.heap.size w w'

theorem same_of_map {zs ys S : List Nat} (h : zs.map (cn .f32) = S) (h' : ys.map (cn .f32) = S) : SameList zs ys := by
  subst h'
  have hl : zs.length = ys.length := by simpa using congrArg List.length h
  refine ⟨hl, fun i hi => ?_⟩
  have h1 : (zs.map (cn .f32))[i]? = (ys.map (cn .f32))[i]? := by rw [h]
  have hi' : i < ys.length := by omega
  simpa [hi, hi', List.getD_eq_getElem?_getD] using h1
theorem len_of_map {zs S : List Nat} (h : zs.map (cn .f32) = S) : zs.length = S.length := by simpa using congrArg List.length h
theorem LstB.no {w w' : World} (hb : Below w.heap.size w w') : LstB [] false w (.returned (.tuple #[.slice none 0 0, .bool false])) w' := ⟨_, [], rfl, .inl ⟨⟨_, _, rfl⟩, rfl⟩, rfl, hb⟩
theorem LstO.no {w w' : World} (hb : Below w.heap.size w w') : LstO [] false w (.returned (.tuple #[.slice none 0 0, .bool false])) w' := ⟨_, [], rfl, .nil, rfl, hb⟩
/-- a list if it is such -/
def lstS (b : Bool) (S : List Nat) : List Nat := bif b && S.all (fin .f32) then S else []
def lstG (b : Bool) (S : List Nat) : Bool := b && S.all (fin .f32)
theorem lstS_le {b : Bool} {S : List Nat} {n : Nat} (h : S.length ≤ n) : (lstS b S).length ≤ n := by
  unfold lstS; cases b && S.all (fin .f32) <;> simp [h]
theorem all_fin_cn (zs : List Nat) : (zs.map (cn .f32)).all (fin .f32) = zs.all (fin .f32) := by
  induction zs with
  | nil => rfl
  | cons z zs ih => simp only [List.map_cons, List.all_cons, fin_cn, ih]
end Go.Proofs.Ytabdinmodopadaa
