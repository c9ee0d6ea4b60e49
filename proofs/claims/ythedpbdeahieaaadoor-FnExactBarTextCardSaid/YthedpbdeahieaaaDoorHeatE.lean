/- How easily heat flows through a stuff; the closures over a stuff: both sides. -/
import Derived.Test.YthedpbdeahieaaaDoorHeatV
namespace Go.Proofs.YthedpbdeahieaaaDoor
open Go.RowKit
set_option linter.unusedVariables false

@[go_sem] theorem run_store_func {P : Program} {w : World} {a : Addr} {m : Mode} (f : Fn) (ts cs : Array Value) : (store a (.func f ts cs) m).run P w = stored P w a (.func f ts cs) m := run_store P w a _ m rfl

theorem warmIn_any (s : SF) (w : World) : Calls Tryd.prog 105 #[.agg #[.float .f32 s.so, .float .f32 s.fl, .float .f32 s.es, .float .f32 s.ef, .float .f32 s.pt, .float .f32 s.la]] w fun e w1 => e = .returned (.func (.func 125) #[] #[.pointer (some ⟨w.heap.size, 0, none⟩)]) ∧ w1 = w.alloc (.cells #[.float .f32 s.so, .float .f32 s.fl, .float .f32 s.es, .float .f32 s.ef, .float .f32 s.pt, .float .f32 s.la] 67) := by
  go_enter Tryd.func105, Tryd.ntmps105
  go_wp2
  go_ret
  exact ⟨rfl, rfl⟩

end Go.Proofs.YthedpbdeahieaaaDoor
