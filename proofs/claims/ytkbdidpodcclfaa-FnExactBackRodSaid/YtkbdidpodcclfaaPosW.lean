/- Numbers that are finite and greater than 0; whether two numbers are the same. -/
import Derived.Test.YtkbdidpodcclfaaFin
import Derived.Test.YtkbdidpodcclfaaCell
import Derived.Lib.Hide
namespace Go.Proofs.Ytkbdidpodcclfaa
open Go.RowKit

/-- greater than 0 -/
def gt0 (a : Nat) : Bool := FloatKind.f32.format.order a 0 == some .gt
/-- finite and greater than 0 -/
def pos (a : Nat) : Bool := fin .f32 a && gt0 a

/-- a bool, and nothing that was there has turned -/
def BolB (b : Bool) (w : World) (e : Ending) (w' : World) : Prop := e = .returned (.bool b) ∧ Below w.heap.size w w'
theorem Bol.below {b : Bool} {w : World} {e : Ending} {w' : World} (h : Bol b w e w') : BolB b w e w' := by
  obtain ⟨he, n, rfl⟩ := h
  exact ⟨he, below_drewN (Below.refl _ _) n⟩

theorem results_cell1 {fn : Func} {p : Tmp} {ty : TypeId} (h : fn.results = #[.cell p ty]) (tmps : Array Value) (P : Program) (w : World) :
    (results fn tmps).run P w = ((asAddr (tmps.getD p undef)).run P w).andThen fun a w₁ => (loadVar ty a).run P w₁ := by
  simp only [results, h]
  simp [Sem.run_bind, Result.andThen]


theorem ret_bb {x b : Bool} (h : x = b) : Ending.returned (.bool b) = Ending.returned (.bool x) := by rw [h]
end Go.Proofs.Ytkbdidpodcclfaa
