/- The entries of package math that have no body: what each hands back. -/
import Derived.Test.YthedpbdeahieaaaDoorRun
import Derived.Test.YthedpbdeahieaaaDoorNum
namespace Go.Proofs.YthedpbdeahieaaaDoor
open Go.RowKit

@[go_sem] theorem ext_f32bits (b : Nat) (w : World) : (callFunc 119 #[.float .f32 b]).run Tryd.prog w = .ok (.value (.int .u32 b)) w := by rw [run_callFunc_extern (e := Extern.MathFloatBits.float32bits) Tryd.func119 (by kernel_rfl) (by kernel_rfl) (by kernel_rfl) (by kernel_rfl)]; rfl
@[go_sem] theorem ext_f64bits (b : Nat) (w : World) : (callFunc 154 #[.float .f64 b]).run Tryd.prog w = .ok (.value (.int .u64 b)) w := by rw [run_callFunc_extern (e := Extern.MathFloatBits.float64bits) Tryd.func154 (by kernel_rfl) (by kernel_rfl) (by kernel_rfl) (by kernel_rfl)]; rfl
@[go_sem] theorem ext_f64from (n : Int) (w : World) : (callFunc 153 #[.int .u64 n]).run Tryd.prog w = .ok (.value (.float .f64 n.toNat)) w := by rw [run_callFunc_extern (e := Extern.MathFloatBits.float64frombits) Tryd.func153 (by kernel_rfl) (by kernel_rfl) (by kernel_rfl) (by kernel_rfl)]; rfl
end Go.Proofs.YthedpbdeahieaaaDoor
