/- Decimal: the law's walk. -/
import Derived.Test.YthedpbdeahieaaaDoorDecI
import Derived.Test.YthedpbdeahieaaaDoorRun
namespace Go.Proofs.YthedpbdeahieaaaDoor
open Go.RowKit
set_option linter.unusedVariables false
theorem specDecimal_any (n : Int) (w : World) (h0 : -9223372036854775808 ≤ n) (h1 : n ≤ 9223372036854775807) : Calls Tryd.prog 23 #[.int .i64 n] w fun e w' => e = .returned (.string (decZ n)) ∧ Below w.heap.size w w' := by
  have HC := Lib.hid (specDec_any n w h0 h1)
  clear h0 h1
  go_enter Tryd.func23, Tryd.ntmps23
  go_wp2_with fail
  refine HC.out.mono ?_
  rintro e w1 ⟨rfl, hb⟩
  have B := Lib.hid hb
  clear hb
  go_wp2
  go_ret
  exact ⟨rfl, B.out⟩
theorem fnExactDecimal_walk (n : Int) (w : World) (hw : (Lit.int .i64 n).wf = true) (ht : Tabs w) : Calls Tryd.prog 6 #[.int .i64 n] w (Tru w) := by
  have hb : -9223372036854775808 ≤ n ∧ n ≤ 9223372036854775807 := by simpa [Lit.wf, IntKind.signed, IntKind.bits, IntKind.min] using hw
  have HS := Lib.hid (fun w1 => specDecimal_any n w1 hb.1 hb.2)
  have HI := Lib.hid (fun w1 h => implDec_any n w1 hb.1 hb.2 h)
  have HT := Lib.hid ht
  clear hw hb ht
  go_enter Tryd.func6, Tryd.ntmps6
  go_wp2_with fail
  refine (HS.out _).mono ?_
  rintro e w1 ⟨rfl, hb⟩
  have Bw := Lib.hid hb
  have HT := Lib.hid (HT.out.below hb)
  clear hb
  go_wp2_with fail
  refine (HI.out _ HT.out).mono ?_
  rintro e w2 ⟨rfl, hb⟩
  have Bw := Lib.hid (below_step Bw.out hb)
  clear hb
  go_wp2
  go_ret
  exact Tru.below Bw.out
end Go.Proofs.YthedpbdeahieaaaDoor
