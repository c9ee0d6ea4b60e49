/- A string written to a strings.Builder of the call's own. -/
import Derived.Test.YtncjkhdnpioinaaDoorShelf
import Derived.Test.YtncjkhdnpioinaaDoorRun
import Derived.Lib.Builder
import Derived.Shelf.Strings.Builder1
namespace Go.Proofs.YtncjkhdnpioinaaDoor
open Go.RowKit
set_option linter.unusedVariables false

theorem infoBy : (Tryd.prog.info? 5).map (fun i => (i.zero, i.size, i.bytes)) = some (some (.int .u8 0), 1, 1) := by kernel_rfl
end Go.Proofs.YtncjkhdnpioinaaDoor
