/-
  No cell of these rows narrows 'for every input' (looked for: loops, veiled, ifaces, maps, wideKeys, modest, calm, conditions, laid).
  DERIVED. THE GIVEN ROWS OF THIS SEAT. 8 by the template 'for every input the law returns true; each argument reads behind the call as it read before'; 0 by the template 'total and deterministic' (their statements: YtkbdidpodcclfaaTotals.lean).
  GIVEN WITH THE SEED: the statements are not yours to turn. If you find one false, say at which input.
  Laid BY PROGRAM, IN A SANDBOX (cutbox-rows.mjs): the forced cells as the released guide's own fill.sh prints them over the translation 6c512aa726bfdbd1… (all of the seat's roots in one cut). By AI agents, Wed Nov 11 2026. No macro, syntax, notation, axiom, sorry.
-/
import Derived.Test.YtkbdidpodcclfaaChecked
import GoSem.Claim
import GoSem.ClaimJoined
import GoSem.ClaimMapViews
import Derived.JoinedTies
import Derived.KernelRfl
namespace Go.Proofs.Ytkbdidpodcclfaa
/- THE CELL 'sum', in the pinned program and in every row, IS THE sha256 OF THE DUMP (.gsa) THAT YtkbdidpodcclfaaProg.lean LOADS. Nothing in Lean hashes anything: it is a label: what it is worth is what the hold of that sum in a sandbox is worth. -/
noncomputable def Try.pinned : Pinned := { name := "ytkbdidpodcclfaa", sum := "6c512aa726bfdbd14bd7e8ef0db34f0175592721bf6967c68279e5b97994532d", checked := Try.checked }
namespace Rows
def none {H : Type} : Left H := { results := [], args := [] }

/-- 'laws.FnExactPlainRod': WHATEVER THE INPUT: true; the input reads as it did. -/
def fnExactPlainRodSpec : ChangeSpec := { name := "fnExactPlainRod", fn := fun _ => fun
  | [d1, d2, d3, d4, d5] => { results := [.lit (.bool true)], args := [d1, d2, d3, d4, d5] }
  | _ => none }
def fnExactPlainRodRow : OpenClaim := { program := "ytkbdidpodcclfaa", sum := "6c512aa726bfdbd14bd7e8ef0db34f0175592721bf6967c68279e5b97994532d", func := "loop.example/g01309/laws.FnExactPlainRod", spec := "fnExactPlainRod", inPlace := ["math.Float64bits", "math.Float64frombits"], unfollowed := true, recurses := true, apart := false }
def FnExactPlainRodSaid : Prop := fnExactPlainRodRow.holds Try.pinned (OpenSpec.ofChange fnExactPlainRodSpec)

/-- ITS FALSE NEIGHBOUR: 'it returns false'. Refute it at one input. -/
def fnExactPlainRodWrong : ChangeSpec := { name := "fnExactPlainRod", fn := fun _ => fun
  | [d1, d2, d3, d4, d5] => { results := [.lit (.bool false)], args := [d1, d2, d3, d4, d5] }
  | _ => none }
def FnExactPlainRodWrongFalsely : Prop := fnExactPlainRodRow.holds Try.pinned (OpenSpec.ofChange fnExactPlainRodWrong)

/-- 'laws.FnExactJoinRods': WHATEVER THE INPUT: true; the input reads as it did. -/
def fnExactJoinRodsSpec : ChangeSpec := { name := "fnExactJoinRods", fn := fun _ => fun
  | [d1, d2] => { results := [.lit (.bool true)], args := [d1, d2] }
  | _ => none }
def fnExactJoinRodsRow : OpenClaim := { program := "ytkbdidpodcclfaa", sum := "6c512aa726bfdbd14bd7e8ef0db34f0175592721bf6967c68279e5b97994532d", func := "loop.example/g01309/laws.FnExactJoinRods", spec := "fnExactJoinRods", inPlace := ["math.Float64bits", "math.Float64frombits"], unfollowed := true, recurses := true, apart := false }
def FnExactJoinRodsSaid : Prop := fnExactJoinRodsRow.holds Try.pinned (OpenSpec.ofChange fnExactJoinRodsSpec)

/-- ITS FALSE NEIGHBOUR: 'it returns false'. Refute it at one input. -/
def fnExactJoinRodsWrong : ChangeSpec := { name := "fnExactJoinRods", fn := fun _ => fun
  | [d1, d2] => { results := [.lit (.bool false)], args := [d1, d2] }
  | _ => none }
def FnExactJoinRodsWrongFalsely : Prop := fnExactJoinRodsRow.holds Try.pinned (OpenSpec.ofChange fnExactJoinRodsWrong)

/-- 'laws.FnExactBackRod': WHATEVER THE INPUT: true; the input reads as it did. -/
def fnExactBackRodSpec : ChangeSpec := { name := "fnExactBackRod", fn := fun _ => fun
  | [d] => { results := [.lit (.bool true)], args := [d] }
  | _ => none }
def fnExactBackRodRow : OpenClaim := { program := "ytkbdidpodcclfaa", sum := "6c512aa726bfdbd14bd7e8ef0db34f0175592721bf6967c68279e5b97994532d", func := "loop.example/g01309/laws.FnExactBackRod", spec := "fnExactBackRod", inPlace := ["math.Float64bits", "math.Float64frombits"], unfollowed := true, recurses := true, apart := false }
def FnExactBackRodSaid : Prop := fnExactBackRodRow.holds Try.pinned (OpenSpec.ofChange fnExactBackRodSpec)

/-- ITS FALSE NEIGHBOUR: 'it returns false'. Refute it at one input. -/
def fnExactBackRodWrong : ChangeSpec := { name := "fnExactBackRod", fn := fun _ => fun
  | [d] => { results := [.lit (.bool false)], args := [d] }
  | _ => none }
def FnExactBackRodWrongFalsely : Prop := fnExactBackRodRow.holds Try.pinned (OpenSpec.ofChange fnExactBackRodWrong)

/-- 'laws.FnExactSetWarms': WHATEVER THE INPUT: true; the input reads as it did. -/
def fnExactSetWarmsSpec : ChangeSpec := { name := "fnExactSetWarms", fn := fun _ => fun
  | [d1, d2] => { results := [.lit (.bool true)], args := [d1, d2] }
  | _ => none }
def fnExactSetWarmsRow : OpenClaim := { program := "ytkbdidpodcclfaa", sum := "6c512aa726bfdbd14bd7e8ef0db34f0175592721bf6967c68279e5b97994532d", func := "loop.example/g01309/laws.FnExactSetWarms", spec := "fnExactSetWarms", inPlace := ["math.Float64bits", "math.Float64frombits"], unfollowed := true, recurses := true, apart := false }
def FnExactSetWarmsSaid : Prop := fnExactSetWarmsRow.holds Try.pinned (OpenSpec.ofChange fnExactSetWarmsSpec)

/-- ITS FALSE NEIGHBOUR: 'it returns false'. Refute it at one input. -/
def fnExactSetWarmsWrong : ChangeSpec := { name := "fnExactSetWarms", fn := fun _ => fun
  | [d1, d2] => { results := [.lit (.bool false)], args := [d1, d2] }
  | _ => none }
def FnExactSetWarmsWrongFalsely : Prop := fnExactSetWarmsRow.holds Try.pinned (OpenSpec.ofChange fnExactSetWarmsWrong)

/-- 'laws.FnExactFlowsInRod': WHATEVER THE INPUT: true; the input reads as it did. -/
def fnExactFlowsInRodSpec : ChangeSpec := { name := "fnExactFlowsInRod", fn := fun _ => fun
  | [d1, d2, d3] => { results := [.lit (.bool true)], args := [d1, d2, d3] }
  | _ => none }
def fnExactFlowsInRodRow : OpenClaim := { program := "ytkbdidpodcclfaa", sum := "6c512aa726bfdbd14bd7e8ef0db34f0175592721bf6967c68279e5b97994532d", func := "loop.example/g01309/laws.FnExactFlowsInRod", spec := "fnExactFlowsInRod", inPlace := ["math.Float64bits", "math.Float64frombits"], unfollowed := true, recurses := true, apart := false }
def FnExactFlowsInRodSaid : Prop := fnExactFlowsInRodRow.holds Try.pinned (OpenSpec.ofChange fnExactFlowsInRodSpec)

/-- ITS FALSE NEIGHBOUR: 'it returns false'. Refute it at one input. -/
def fnExactFlowsInRodWrong : ChangeSpec := { name := "fnExactFlowsInRod", fn := fun _ => fun
  | [d1, d2, d3] => { results := [.lit (.bool false)], args := [d1, d2, d3] }
  | _ => none }
def FnExactFlowsInRodWrongFalsely : Prop := fnExactFlowsInRodRow.holds Try.pinned (OpenSpec.ofChange fnExactFlowsInRodWrong)

/-- 'laws.FnExactStepRod': WHATEVER THE INPUT: true; the input reads as it did. -/
def fnExactStepRodSpec : ChangeSpec := { name := "fnExactStepRod", fn := fun _ => fun
  | [d1, d2, d3, d4] => { results := [.lit (.bool true)], args := [d1, d2, d3, d4] }
  | _ => none }
def fnExactStepRodRow : OpenClaim := { program := "ytkbdidpodcclfaa", sum := "6c512aa726bfdbd14bd7e8ef0db34f0175592721bf6967c68279e5b97994532d", func := "loop.example/g01309/laws.FnExactStepRod", spec := "fnExactStepRod", inPlace := ["math.Float64bits", "math.Float64frombits"], unfollowed := true, recurses := true, apart := false }
def FnExactStepRodSaid : Prop := fnExactStepRodRow.holds Try.pinned (OpenSpec.ofChange fnExactStepRodSpec)

/-- ITS FALSE NEIGHBOUR: 'it returns false'. Refute it at one input. -/
def fnExactStepRodWrong : ChangeSpec := { name := "fnExactStepRod", fn := fun _ => fun
  | [d1, d2, d3, d4] => { results := [.lit (.bool false)], args := [d1, d2, d3, d4] }
  | _ => none }
def FnExactStepRodWrongFalsely : Prop := fnExactStepRodRow.holds Try.pinned (OpenSpec.ofChange fnExactStepRodWrong)

/-- 'laws.FnExactRowsRod': WHATEVER THE INPUT: true; the input reads as it did. -/
def fnExactRowsRodSpec : ChangeSpec := { name := "fnExactRowsRod", fn := fun _ => fun
  | [d1, d2, d3, d4] => { results := [.lit (.bool true)], args := [d1, d2, d3, d4] }
  | _ => none }
def fnExactRowsRodRow : OpenClaim := { program := "ytkbdidpodcclfaa", sum := "6c512aa726bfdbd14bd7e8ef0db34f0175592721bf6967c68279e5b97994532d", func := "loop.example/g01309/laws.FnExactRowsRod", spec := "fnExactRowsRod", inPlace := ["math.Float64bits", "math.Float64frombits"], unfollowed := true, recurses := true, apart := false }
def FnExactRowsRodSaid : Prop := fnExactRowsRodRow.holds Try.pinned (OpenSpec.ofChange fnExactRowsRodSpec)

/-- ITS FALSE NEIGHBOUR: 'it returns false'. Refute it at one input. -/
def fnExactRowsRodWrong : ChangeSpec := { name := "fnExactRowsRod", fn := fun _ => fun
  | [d1, d2, d3, d4] => { results := [.lit (.bool false)], args := [d1, d2, d3, d4] }
  | _ => none }
def FnExactRowsRodWrongFalsely : Prop := fnExactRowsRodRow.holds Try.pinned (OpenSpec.ofChange fnExactRowsRodWrong)

/-- 'laws.FnExactSteadyRod': WHATEVER THE INPUT: true; the input reads as it did. -/
def fnExactSteadyRodSpec : ChangeSpec := { name := "fnExactSteadyRod", fn := fun _ => fun
  | [d1, d2, d3] => { results := [.lit (.bool true)], args := [d1, d2, d3] }
  | _ => none }
def fnExactSteadyRodRow : OpenClaim := { program := "ytkbdidpodcclfaa", sum := "6c512aa726bfdbd14bd7e8ef0db34f0175592721bf6967c68279e5b97994532d", func := "loop.example/g01309/laws.FnExactSteadyRod", spec := "fnExactSteadyRod", inPlace := ["math.Float64bits", "math.Float64frombits"], unfollowed := true, recurses := true, apart := false }
def FnExactSteadyRodSaid : Prop := fnExactSteadyRodRow.holds Try.pinned (OpenSpec.ofChange fnExactSteadyRodSpec)

/-- ITS FALSE NEIGHBOUR: 'it returns false'. Refute it at one input. -/
def fnExactSteadyRodWrong : ChangeSpec := { name := "fnExactSteadyRod", fn := fun _ => fun
  | [d1, d2, d3] => { results := [.lit (.bool false)], args := [d1, d2, d3] }
  | _ => none }
def FnExactSteadyRodWrongFalsely : Prop := fnExactSteadyRodRow.holds Try.pinned (OpenSpec.ofChange fnExactSteadyRodWrong)

/- THE SECOND FORM. 'bulk': how many values and letters a reading holds, each counted each time it is reached (what is shared counts as often as it is met; a slice's spare places count too). A statement '..UptoSaid' is the law's where the arguments, and the package variables that the reading takes, are together of bulk at most 1048576: NARROWER than '..Said'. Prove '..Said' where nothing that the law and all that it calls make is longer than what came in: it says more and counts as full. Else prove '..UptoSaid'. A law counts once. -/
mutual
def uptoBulk {H : Type} : DataW H → Nat
  | .lit (.string bytes) => bytes.length + 1
  | .lit _ => 1
  | .nil => 1
  | .ptr d => uptoBulk d + 1
  | .slice elems spare => uptoBulkAll elems + uptoBulkAll spare + 1
  | .agg parts => uptoBulkAll parts + 1
  | .iface _ d => uptoBulk d + 1
  | .map entries => uptoBulkEntries entries + 1
  | .held _ => 1
def uptoBulkAll {H : Type} : List (DataW H) → Nat
  | [] => 0
  | d :: r => uptoBulk d + uptoBulkAll r
def uptoBulkEntries {H : Type} : List (Lit × DataW H) → Nat
  | [] => 0
  | x :: r => uptoBulkEntry x + uptoBulkEntries r
def uptoBulkEntry {H : Type} : Lit × DataW H → Nat
  | (.string bytes, d) => bytes.length + uptoBulk d + 1
  | (_, d) => uptoBulk d + 1
 end
def uptoSmall : (H : Type) → List (DataW H) → Bool := fun _ ds => decide (uptoBulkAll ds ≤ 1048576)
def OpenSpec.upto (s : _root_.Go.ChangeSpec) : _root_.Go.OpenSpec := { _root_.Go.OpenSpec.ofChange s with cond := some uptoSmall }

/-- 'laws.FnExactPlainRod', WHERE WHAT IT READS IS OF BULK AT MOST 1048576: true; the input reads as it did. -/
def fnExactPlainRodUptoRow : OpenClaim := { program := "ytkbdidpodcclfaa", sum := "6c512aa726bfdbd14bd7e8ef0db34f0175592721bf6967c68279e5b97994532d", func := "loop.example/g01309/laws.FnExactPlainRod", spec := "fnExactPlainRod", inPlace := ["math.Float64bits", "math.Float64frombits"], unfollowed := true, recurses := true, apart := false, narrowed := true }
def FnExactPlainRodUptoSaid : Prop := fnExactPlainRodUptoRow.holds Try.pinned (OpenSpec.upto fnExactPlainRodSpec)

/-- 'laws.FnExactJoinRods', WHERE WHAT IT READS IS OF BULK AT MOST 1048576: true; the input reads as it did. -/
def fnExactJoinRodsUptoRow : OpenClaim := { program := "ytkbdidpodcclfaa", sum := "6c512aa726bfdbd14bd7e8ef0db34f0175592721bf6967c68279e5b97994532d", func := "loop.example/g01309/laws.FnExactJoinRods", spec := "fnExactJoinRods", inPlace := ["math.Float64bits", "math.Float64frombits"], unfollowed := true, recurses := true, apart := false, narrowed := true }
def FnExactJoinRodsUptoSaid : Prop := fnExactJoinRodsUptoRow.holds Try.pinned (OpenSpec.upto fnExactJoinRodsSpec)

/-- 'laws.FnExactBackRod', WHERE WHAT IT READS IS OF BULK AT MOST 1048576: true; the input reads as it did. -/
def fnExactBackRodUptoRow : OpenClaim := { program := "ytkbdidpodcclfaa", sum := "6c512aa726bfdbd14bd7e8ef0db34f0175592721bf6967c68279e5b97994532d", func := "loop.example/g01309/laws.FnExactBackRod", spec := "fnExactBackRod", inPlace := ["math.Float64bits", "math.Float64frombits"], unfollowed := true, recurses := true, apart := false, narrowed := true }
def FnExactBackRodUptoSaid : Prop := fnExactBackRodUptoRow.holds Try.pinned (OpenSpec.upto fnExactBackRodSpec)

/-- 'laws.FnExactSetWarms', WHERE WHAT IT READS IS OF BULK AT MOST 1048576: true; the input reads as it did. -/
def fnExactSetWarmsUptoRow : OpenClaim := { program := "ytkbdidpodcclfaa", sum := "6c512aa726bfdbd14bd7e8ef0db34f0175592721bf6967c68279e5b97994532d", func := "loop.example/g01309/laws.FnExactSetWarms", spec := "fnExactSetWarms", inPlace := ["math.Float64bits", "math.Float64frombits"], unfollowed := true, recurses := true, apart := false, narrowed := true }
def FnExactSetWarmsUptoSaid : Prop := fnExactSetWarmsUptoRow.holds Try.pinned (OpenSpec.upto fnExactSetWarmsSpec)

/-- 'laws.FnExactFlowsInRod', WHERE WHAT IT READS IS OF BULK AT MOST 1048576: true; the input reads as it did. -/
def fnExactFlowsInRodUptoRow : OpenClaim := { program := "ytkbdidpodcclfaa", sum := "6c512aa726bfdbd14bd7e8ef0db34f0175592721bf6967c68279e5b97994532d", func := "loop.example/g01309/laws.FnExactFlowsInRod", spec := "fnExactFlowsInRod", inPlace := ["math.Float64bits", "math.Float64frombits"], unfollowed := true, recurses := true, apart := false, narrowed := true }
def FnExactFlowsInRodUptoSaid : Prop := fnExactFlowsInRodUptoRow.holds Try.pinned (OpenSpec.upto fnExactFlowsInRodSpec)

/-- 'laws.FnExactStepRod', WHERE WHAT IT READS IS OF BULK AT MOST 1048576: true; the input reads as it did. -/
def fnExactStepRodUptoRow : OpenClaim := { program := "ytkbdidpodcclfaa", sum := "6c512aa726bfdbd14bd7e8ef0db34f0175592721bf6967c68279e5b97994532d", func := "loop.example/g01309/laws.FnExactStepRod", spec := "fnExactStepRod", inPlace := ["math.Float64bits", "math.Float64frombits"], unfollowed := true, recurses := true, apart := false, narrowed := true }
def FnExactStepRodUptoSaid : Prop := fnExactStepRodUptoRow.holds Try.pinned (OpenSpec.upto fnExactStepRodSpec)

/-- 'laws.FnExactRowsRod', WHERE WHAT IT READS IS OF BULK AT MOST 1048576: true; the input reads as it did. -/
def fnExactRowsRodUptoRow : OpenClaim := { program := "ytkbdidpodcclfaa", sum := "6c512aa726bfdbd14bd7e8ef0db34f0175592721bf6967c68279e5b97994532d", func := "loop.example/g01309/laws.FnExactRowsRod", spec := "fnExactRowsRod", inPlace := ["math.Float64bits", "math.Float64frombits"], unfollowed := true, recurses := true, apart := false, narrowed := true }
def FnExactRowsRodUptoSaid : Prop := fnExactRowsRodUptoRow.holds Try.pinned (OpenSpec.upto fnExactRowsRodSpec)

/-- 'laws.FnExactSteadyRod', WHERE WHAT IT READS IS OF BULK AT MOST 1048576: true; the input reads as it did. -/
def fnExactSteadyRodUptoRow : OpenClaim := { program := "ytkbdidpodcclfaa", sum := "6c512aa726bfdbd14bd7e8ef0db34f0175592721bf6967c68279e5b97994532d", func := "loop.example/g01309/laws.FnExactSteadyRod", spec := "fnExactSteadyRod", inPlace := ["math.Float64bits", "math.Float64frombits"], unfollowed := true, recurses := true, apart := false, narrowed := true }
def FnExactSteadyRodUptoSaid : Prop := fnExactSteadyRodUptoRow.holds Try.pinned (OpenSpec.upto fnExactSteadyRodSpec)

end Rows
end Go.Proofs.Ytkbdidpodcclfaa
