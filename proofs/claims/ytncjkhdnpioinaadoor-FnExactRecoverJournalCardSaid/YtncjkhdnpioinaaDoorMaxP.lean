/- The cell that strings.Split and its like read. -/
import Derived.Test.YtncjkhdnpioinaaDoorCell
import Derived.Test.YtncjkhdnpioinaaDoorFr
namespace Go.Proofs.YtncjkhdnpioinaaDoor
open Go.RowKit
set_option linter.unusedVariables false
/-- the cell that strings.Split reads -/
def MaxP (w : World) : Prop := ∃ m, w.cell? ⟨2, 0, none⟩ = some (.int .i64 m)
theorem MaxP.below {w w' : World} (h : MaxP w) (hb : Below w.heap.size w w') : MaxP w' := by
  obtain ⟨m, hm⟩ := h
  exact ⟨m, by rw [hb.cell (cell_lt hm)]; exact hm⟩
end Go.Proofs.YtncjkhdnpioinaaDoor
