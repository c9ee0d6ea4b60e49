/- The entries of package math that have no body: what each hands back. -/
import Derived.Test.YtabdinmodopadaaRun
import Derived.Test.YtabdinmodopadaaNum
namespace Go.Proofs.Ytabdinmodopadaa
open Go.RowKit

@[go_sem] theorem ext_f64bits (b : Nat) (w : World) : (callFunc 99 #[.float .f64 b]).run Try.prog w = .ok (.value (.int .u64 b)) w := by rw [run_callFunc_extern (e := Extern.MathFloatBits.float64bits) Try.func99 (by kernel_rfl) (by kernel_rfl) (by kernel_rfl) (by kernel_rfl)]; rfl
@[go_sem] theorem ext_f64from (n : Int) (w : World) : (callFunc 98 #[.int .u64 n]).run Try.prog w = .ok (.value (.float .f64 n.toNat)) w := by rw [run_callFunc_extern (e := Extern.MathFloatBits.float64frombits) Try.func98 (by kernel_rfl) (by kernel_rfl) (by kernel_rfl) (by kernel_rfl)]; rfl
end Go.Proofs.Ytabdinmodopadaa
