/- The opposite of a float, as the walk runs it. -/
import Derived.Test.YtabdinmodopadabFl
namespace Go.Proofs.Ytabdinmodopadab
open Go

@[go_sem] theorem run_neg_float {P : Program} {w : World} (k : FloatKind) (b : Nat) : (Op.unary .neg (.float k b)).run P w = .ok (.float k (Op.negFloat k b)) w := rfl
end Go.Proofs.Ytabdinmodopadab
