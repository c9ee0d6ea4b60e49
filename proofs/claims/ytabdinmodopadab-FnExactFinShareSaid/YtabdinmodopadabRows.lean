/-
  No cell of these rows narrows 'for every input' (looked for: loops, veiled, ifaces, maps, wideKeys, modest, calm, conditions, laid).
  DERIVED. THE GIVEN ROWS OF THIS SEAT. 10 by the template 'for every input the law returns true; each argument reads behind the call as it read before'; 0 by the template 'total and deterministic' (their statements: YtabdinmodopadabTotals.lean).
  GIVEN WITH THE SEED: the statements are not yours to turn. If you find one false, say at which input.
  Laid BY PROGRAM, IN A SANDBOX (cutbox-rows.mjs): the forced cells as the released guide's own fill.sh prints them over the translation 56e1488ed72dcb44… (all of the seat's roots in one cut). By AI agents, Wed Nov 11 2026. No macro, syntax, notation, axiom, sorry.
-/
import Derived.Test.YtabdinmodopadabChecked
import GoSem.Claim
import GoSem.ClaimJoined
import GoSem.ClaimMapViews
import Derived.JoinedTies
import Derived.KernelRfl
namespace Go.Proofs.Ytabdinmodopadab
/- THE CELL 'sum', in the pinned program and in every row, IS THE sha256 OF THE DUMP (.gsa) THAT YtabdinmodopadabProg.lean LOADS. Nothing in Lean hashes anything: it is a label: what it is worth is what the hold of that sum in a sandbox is worth. -/
noncomputable def Try.pinned : Pinned := { name := "ytabdinmodopadab", sum := "56e1488ed72dcb44e79a5b1eb3f465b053c7d2ccefada9a26b8e974d0abeabe4", checked := Try.checked }
namespace Rows
def none {H : Type} : Left H := { results := [], args := [] }

/-- 'laws.FnExactSlowReads': WHATEVER THE INPUT: true; the input reads as it did. -/
def fnExactSlowReadsSpec : ChangeSpec := { name := "fnExactSlowReads", fn := fun _ => fun
  | [d1, d2, d3, d4] => { results := [.lit (.bool true)], args := [d1, d2, d3, d4] }
  | _ => none }
def fnExactSlowReadsRow : OpenClaim := { program := "ytabdinmodopadab", sum := "56e1488ed72dcb44e79a5b1eb3f465b053c7d2ccefada9a26b8e974d0abeabe4", func := "loop.example/g01309/laws.FnExactSlowReads", spec := "fnExactSlowReads", inPlace := ["math.Float64frombits", "math.Float64bits"], unfollowed := true, recurses := true, apart := false }
def FnExactSlowReadsSaid : Prop := fnExactSlowReadsRow.holds Try.pinned (OpenSpec.ofChange fnExactSlowReadsSpec)

/-- ITS FALSE NEIGHBOUR: 'it returns false'. Refute it at one input. -/
def fnExactSlowReadsWrong : ChangeSpec := { name := "fnExactSlowReads", fn := fun _ => fun
  | [d1, d2, d3, d4] => { results := [.lit (.bool false)], args := [d1, d2, d3, d4] }
  | _ => none }
def FnExactSlowReadsWrongFalsely : Prop := fnExactSlowReadsRow.holds Try.pinned (OpenSpec.ofChange fnExactSlowReadsWrong)

/-- 'laws.FnExactQuickReads': WHATEVER THE INPUT: true; the input reads as it did. -/
def fnExactQuickReadsSpec : ChangeSpec := { name := "fnExactQuickReads", fn := fun _ => fun
  | [d1, d2, d3, d4] => { results := [.lit (.bool true)], args := [d1, d2, d3, d4] }
  | _ => none }
def fnExactQuickReadsRow : OpenClaim := { program := "ytabdinmodopadab", sum := "56e1488ed72dcb44e79a5b1eb3f465b053c7d2ccefada9a26b8e974d0abeabe4", func := "loop.example/g01309/laws.FnExactQuickReads", spec := "fnExactQuickReads", inPlace := ["math.Float64frombits", "math.Float64bits"], unfollowed := true, recurses := true, apart := false }
def FnExactQuickReadsSaid : Prop := fnExactQuickReadsRow.holds Try.pinned (OpenSpec.ofChange fnExactQuickReadsSpec)

/-- ITS FALSE NEIGHBOUR: 'it returns false'. Refute it at one input. -/
def fnExactQuickReadsWrong : ChangeSpec := { name := "fnExactQuickReads", fn := fun _ => fun
  | [d1, d2, d3, d4] => { results := [.lit (.bool false)], args := [d1, d2, d3, d4] }
  | _ => none }
def FnExactQuickReadsWrongFalsely : Prop := fnExactQuickReadsRow.holds Try.pinned (OpenSpec.ofChange fnExactQuickReadsWrong)

/-- 'laws.FnExactFinShare': WHATEVER THE INPUT: true; the input reads as it did. -/
def fnExactFinShareSpec : ChangeSpec := { name := "fnExactFinShare", fn := fun _ => fun
  | [d1, d2, d3, d4] => { results := [.lit (.bool true)], args := [d1, d2, d3, d4] }
  | _ => none }
def fnExactFinShareRow : OpenClaim := { program := "ytabdinmodopadab", sum := "56e1488ed72dcb44e79a5b1eb3f465b053c7d2ccefada9a26b8e974d0abeabe4", func := "loop.example/g01309/laws.FnExactFinShare", spec := "fnExactFinShare", inPlace := ["math.sqrt", "math.Float64frombits", "math.Float64bits"], unfollowed := true, recurses := true, apart := false }
def FnExactFinShareSaid : Prop := fnExactFinShareRow.holds Try.pinned (OpenSpec.ofChange fnExactFinShareSpec)

/-- ITS FALSE NEIGHBOUR: 'it returns false'. Refute it at one input. -/
def fnExactFinShareWrong : ChangeSpec := { name := "fnExactFinShare", fn := fun _ => fun
  | [d1, d2, d3, d4] => { results := [.lit (.bool false)], args := [d1, d2, d3, d4] }
  | _ => none }
def FnExactFinShareWrongFalsely : Prop := fnExactFinShareRow.holds Try.pinned (OpenSpec.ofChange fnExactFinShareWrong)

/-- 'laws.FnExactRunGuess': WHATEVER THE INPUT: true; the input reads as it did. -/
def fnExactRunGuessSpec : ChangeSpec := { name := "fnExactRunGuess", fn := fun _ => fun
  | [d1, d2, d3, d4] => { results := [.lit (.bool true)], args := [d1, d2, d3, d4] }
  | _ => none }
def fnExactRunGuessRow : OpenClaim := { program := "ytabdinmodopadab", sum := "56e1488ed72dcb44e79a5b1eb3f465b053c7d2ccefada9a26b8e974d0abeabe4", func := "loop.example/g01309/laws.FnExactRunGuess", spec := "fnExactRunGuess", inPlace := ["math.Float64bits", "math.Float64frombits"], unfollowed := true, recurses := true, apart := false }
def FnExactRunGuessSaid : Prop := fnExactRunGuessRow.holds Try.pinned (OpenSpec.ofChange fnExactRunGuessSpec)

/-- ITS FALSE NEIGHBOUR: 'it returns false'. Refute it at one input. -/
def fnExactRunGuessWrong : ChangeSpec := { name := "fnExactRunGuess", fn := fun _ => fun
  | [d1, d2, d3, d4] => { results := [.lit (.bool false)], args := [d1, d2, d3, d4] }
  | _ => none }
def FnExactRunGuessWrongFalsely : Prop := fnExactRunGuessRow.holds Try.pinned (OpenSpec.ofChange fnExactRunGuessWrong)

/-- 'laws.FnExactFitCooling': WHATEVER THE INPUT: true; the input reads as it did. -/
def fnExactFitCoolingSpec : ChangeSpec := { name := "fnExactFitCooling", fn := fun _ => fun
  | [d1, d2, d3] => { results := [.lit (.bool true)], args := [d1, d2, d3] }
  | _ => none }
def fnExactFitCoolingRow : OpenClaim := { program := "ytabdinmodopadab", sum := "56e1488ed72dcb44e79a5b1eb3f465b053c7d2ccefada9a26b8e974d0abeabe4", func := "loop.example/g01309/laws.FnExactFitCooling", spec := "fnExactFitCooling", inPlace := ["math.Float64frombits", "math.Float64bits", "math.Float32frombits"], unfollowed := true, recurses := true, apart := false }
def FnExactFitCoolingSaid : Prop := fnExactFitCoolingRow.holds Try.pinned (OpenSpec.ofChange fnExactFitCoolingSpec)

/-- ITS FALSE NEIGHBOUR: 'it returns false'. Refute it at one input. -/
def fnExactFitCoolingWrong : ChangeSpec := { name := "fnExactFitCooling", fn := fun _ => fun
  | [d1, d2, d3] => { results := [.lit (.bool false)], args := [d1, d2, d3] }
  | _ => none }
def FnExactFitCoolingWrongFalsely : Prop := fnExactFitCoolingRow.holds Try.pinned (OpenSpec.ofChange fnExactFitCoolingWrong)

/-- 'laws.FnExactPanesThrough': WHATEVER THE INPUT: true; the input reads as it did. -/
def fnExactPanesThroughSpec : ChangeSpec := { name := "fnExactPanesThrough", fn := fun _ => fun
  | [d1, d2] => { results := [.lit (.bool true)], args := [d1, d2] }
  | _ => none }
def fnExactPanesThroughRow : OpenClaim := { program := "ytabdinmodopadab", sum := "56e1488ed72dcb44e79a5b1eb3f465b053c7d2ccefada9a26b8e974d0abeabe4", func := "loop.example/g01309/laws.FnExactPanesThrough", spec := "fnExactPanesThrough", inPlace := ["math.Float64bits", "math.Float64frombits"], apart := false }
def FnExactPanesThroughSaid : Prop := fnExactPanesThroughRow.holds Try.pinned (OpenSpec.ofChange fnExactPanesThroughSpec)

/-- ITS FALSE NEIGHBOUR: 'it returns false'. Refute it at one input. -/
def fnExactPanesThroughWrong : ChangeSpec := { name := "fnExactPanesThrough", fn := fun _ => fun
  | [d1, d2] => { results := [.lit (.bool false)], args := [d1, d2] }
  | _ => none }
def FnExactPanesThroughWrongFalsely : Prop := fnExactPanesThroughRow.holds Try.pinned (OpenSpec.ofChange fnExactPanesThroughWrong)

/-- 'laws.FnExactSwingIn': WHATEVER THE INPUT: true; the input reads as it did. -/
def fnExactSwingInSpec : ChangeSpec := { name := "fnExactSwingIn", fn := fun _ => fun
  | [d1, d2] => { results := [.lit (.bool true)], args := [d1, d2] }
  | _ => none }
def fnExactSwingInRow : OpenClaim := { program := "ytabdinmodopadab", sum := "56e1488ed72dcb44e79a5b1eb3f465b053c7d2ccefada9a26b8e974d0abeabe4", func := "loop.example/g01309/laws.FnExactSwingIn", spec := "fnExactSwingIn", inPlace := ["math.Float32frombits", "math.Float64frombits", "math.Float64bits", "math.archTrunc"], unfollowed := true, recurses := true, apart := false }
def FnExactSwingInSaid : Prop := fnExactSwingInRow.holds Try.pinned (OpenSpec.ofChange fnExactSwingInSpec)

/-- ITS FALSE NEIGHBOUR: 'it returns false'. Refute it at one input. -/
def fnExactSwingInWrong : ChangeSpec := { name := "fnExactSwingIn", fn := fun _ => fun
  | [d1, d2] => { results := [.lit (.bool false)], args := [d1, d2] }
  | _ => none }
def FnExactSwingInWrongFalsely : Prop := fnExactSwingInRow.holds Try.pinned (OpenSpec.ofChange fnExactSwingInWrong)

/-- 'laws.FnReads': WHATEVER THE INPUT: true; the input reads as it did. -/
def fnReadsSpec : ChangeSpec := { name := "fnReads", fn := fun _ => fun
  | [d1, d2] => { results := [.lit (.bool true)], args := [d1, d2] }
  | _ => none }
def fnReadsRow : OpenClaim := { program := "ytabdinmodopadab", sum := "56e1488ed72dcb44e79a5b1eb3f465b053c7d2ccefada9a26b8e974d0abeabe4", func := "loop.example/g01309/laws.FnReads", spec := "fnReads", inPlace := ["math.Float64bits", "math.Float64frombits"], unfollowed := true, recurses := true, apart := false }
def FnReadsSaid : Prop := fnReadsRow.holds Try.pinned (OpenSpec.ofChange fnReadsSpec)

/-- ITS FALSE NEIGHBOUR: 'it returns false'. Refute it at one input. -/
def fnReadsWrong : ChangeSpec := { name := "fnReads", fn := fun _ => fun
  | [d1, d2] => { results := [.lit (.bool false)], args := [d1, d2] }
  | _ => none }
def FnReadsWrongFalsely : Prop := fnReadsRow.holds Try.pinned (OpenSpec.ofChange fnReadsWrong)

/-- 'laws.FnCooling': WHATEVER THE INPUT: true; the input reads as it did. -/
def fnCoolingSpec : ChangeSpec := { name := "fnCooling", fn := fun _ => fun
  | [d1, d2] => { results := [.lit (.bool true)], args := [d1, d2] }
  | _ => none }
def fnCoolingRow : OpenClaim := { program := "ytabdinmodopadab", sum := "56e1488ed72dcb44e79a5b1eb3f465b053c7d2ccefada9a26b8e974d0abeabe4", func := "loop.example/g01309/laws.FnCooling", spec := "fnCooling", inPlace := ["math.Float64bits", "math.Float64frombits", "math.Float32frombits"], unfollowed := true, recurses := true, apart := false }
def FnCoolingSaid : Prop := fnCoolingRow.holds Try.pinned (OpenSpec.ofChange fnCoolingSpec)

/-- ITS FALSE NEIGHBOUR: 'it returns false'. Refute it at one input. -/
def fnCoolingWrong : ChangeSpec := { name := "fnCooling", fn := fun _ => fun
  | [d1, d2] => { results := [.lit (.bool false)], args := [d1, d2] }
  | _ => none }
def FnCoolingWrongFalsely : Prop := fnCoolingRow.holds Try.pinned (OpenSpec.ofChange fnCoolingWrong)

/-- 'laws.FnGuesses': WHATEVER THE INPUT: true; the input reads as it did. -/
def fnGuessesSpec : ChangeSpec := { name := "fnGuesses", fn := fun _ => fun
  | [d1, d2] => { results := [.lit (.bool true)], args := [d1, d2] }
  | _ => none }
def fnGuessesRow : OpenClaim := { program := "ytabdinmodopadab", sum := "56e1488ed72dcb44e79a5b1eb3f465b053c7d2ccefada9a26b8e974d0abeabe4", func := "loop.example/g01309/laws.FnGuesses", spec := "fnGuesses", inPlace := ["math.Float64bits", "math.Float64frombits", "math.Float32bits"], unfollowed := true, recurses := true, apart := false }
def FnGuessesSaid : Prop := fnGuessesRow.holds Try.pinned (OpenSpec.ofChange fnGuessesSpec)

/-- ITS FALSE NEIGHBOUR: 'it returns false'. Refute it at one input. -/
def fnGuessesWrong : ChangeSpec := { name := "fnGuesses", fn := fun _ => fun
  | [d1, d2] => { results := [.lit (.bool false)], args := [d1, d2] }
  | _ => none }
def FnGuessesWrongFalsely : Prop := fnGuessesRow.holds Try.pinned (OpenSpec.ofChange fnGuessesWrong)

/- THE SECOND FORM. 'bulk': how many values and letters a reading holds, each counted each time it is reached (what is shared counts as often as it is met; a slice's spare places count too). A statement '..UptoSaid' is the law's where the arguments, and the package variables that the reading takes, are together of bulk at most 1048576: NARROWER than '..Said'. Prove '..Said' where nothing that the law and all that it calls make is longer than what came in: it says more and counts as full. Else prove '..UptoSaid'. A law counts once. -/
mutual
def uptoBulk {H : Type} : DataW H → Nat
  | .lit (.string bytes) => bytes.length + 1
  | .lit _ => 1
  | .nil => 1
  | .ptr d => uptoBulk d + 1
  | .slice elems spare => uptoBulkAll elems + uptoBulkAll spare + 1
  | .agg parts => uptoBulkAll parts + 1
  | .iface _ d => uptoBulk d + 1
  | .map entries => uptoBulkEntries entries + 1
  | .held _ => 1
def uptoBulkAll {H : Type} : List (DataW H) → Nat
  | [] => 0
  | d :: r => uptoBulk d + uptoBulkAll r
def uptoBulkEntries {H : Type} : List (Lit × DataW H) → Nat
  | [] => 0
  | x :: r => uptoBulkEntry x + uptoBulkEntries r
def uptoBulkEntry {H : Type} : Lit × DataW H → Nat
  | (.string bytes, d) => bytes.length + uptoBulk d + 1
  | (_, d) => uptoBulk d + 1
 end
def uptoSmall : (H : Type) → List (DataW H) → Bool := fun _ ds => decide (uptoBulkAll ds ≤ 1048576)
def OpenSpec.upto (s : _root_.Go.ChangeSpec) : _root_.Go.OpenSpec := { _root_.Go.OpenSpec.ofChange s with cond := some uptoSmall }

/-- 'laws.FnExactSlowReads', WHERE WHAT IT READS IS OF BULK AT MOST 1048576: true; the input reads as it did. -/
def fnExactSlowReadsUptoRow : OpenClaim := { program := "ytabdinmodopadab", sum := "56e1488ed72dcb44e79a5b1eb3f465b053c7d2ccefada9a26b8e974d0abeabe4", func := "loop.example/g01309/laws.FnExactSlowReads", spec := "fnExactSlowReads", inPlace := ["math.Float64frombits", "math.Float64bits"], unfollowed := true, recurses := true, apart := false, narrowed := true }
def FnExactSlowReadsUptoSaid : Prop := fnExactSlowReadsUptoRow.holds Try.pinned (OpenSpec.upto fnExactSlowReadsSpec)

/-- 'laws.FnExactQuickReads', WHERE WHAT IT READS IS OF BULK AT MOST 1048576: true; the input reads as it did. -/
def fnExactQuickReadsUptoRow : OpenClaim := { program := "ytabdinmodopadab", sum := "56e1488ed72dcb44e79a5b1eb3f465b053c7d2ccefada9a26b8e974d0abeabe4", func := "loop.example/g01309/laws.FnExactQuickReads", spec := "fnExactQuickReads", inPlace := ["math.Float64frombits", "math.Float64bits"], unfollowed := true, recurses := true, apart := false, narrowed := true }
def FnExactQuickReadsUptoSaid : Prop := fnExactQuickReadsUptoRow.holds Try.pinned (OpenSpec.upto fnExactQuickReadsSpec)

/-- 'laws.FnExactFinShare', WHERE WHAT IT READS IS OF BULK AT MOST 1048576: true; the input reads as it did. -/
def fnExactFinShareUptoRow : OpenClaim := { program := "ytabdinmodopadab", sum := "56e1488ed72dcb44e79a5b1eb3f465b053c7d2ccefada9a26b8e974d0abeabe4", func := "loop.example/g01309/laws.FnExactFinShare", spec := "fnExactFinShare", inPlace := ["math.sqrt", "math.Float64frombits", "math.Float64bits"], unfollowed := true, recurses := true, apart := false, narrowed := true }
def FnExactFinShareUptoSaid : Prop := fnExactFinShareUptoRow.holds Try.pinned (OpenSpec.upto fnExactFinShareSpec)

/-- 'laws.FnExactRunGuess', WHERE WHAT IT READS IS OF BULK AT MOST 1048576: true; the input reads as it did. -/
def fnExactRunGuessUptoRow : OpenClaim := { program := "ytabdinmodopadab", sum := "56e1488ed72dcb44e79a5b1eb3f465b053c7d2ccefada9a26b8e974d0abeabe4", func := "loop.example/g01309/laws.FnExactRunGuess", spec := "fnExactRunGuess", inPlace := ["math.Float64bits", "math.Float64frombits"], unfollowed := true, recurses := true, apart := false, narrowed := true }
def FnExactRunGuessUptoSaid : Prop := fnExactRunGuessUptoRow.holds Try.pinned (OpenSpec.upto fnExactRunGuessSpec)

/-- 'laws.FnExactFitCooling', WHERE WHAT IT READS IS OF BULK AT MOST 1048576: true; the input reads as it did. -/
def fnExactFitCoolingUptoRow : OpenClaim := { program := "ytabdinmodopadab", sum := "56e1488ed72dcb44e79a5b1eb3f465b053c7d2ccefada9a26b8e974d0abeabe4", func := "loop.example/g01309/laws.FnExactFitCooling", spec := "fnExactFitCooling", inPlace := ["math.Float64frombits", "math.Float64bits", "math.Float32frombits"], unfollowed := true, recurses := true, apart := false, narrowed := true }
def FnExactFitCoolingUptoSaid : Prop := fnExactFitCoolingUptoRow.holds Try.pinned (OpenSpec.upto fnExactFitCoolingSpec)

/-- 'laws.FnExactPanesThrough', WHERE WHAT IT READS IS OF BULK AT MOST 1048576: true; the input reads as it did. -/
def fnExactPanesThroughUptoRow : OpenClaim := { program := "ytabdinmodopadab", sum := "56e1488ed72dcb44e79a5b1eb3f465b053c7d2ccefada9a26b8e974d0abeabe4", func := "loop.example/g01309/laws.FnExactPanesThrough", spec := "fnExactPanesThrough", inPlace := ["math.Float64bits", "math.Float64frombits"], apart := false, narrowed := true }
def FnExactPanesThroughUptoSaid : Prop := fnExactPanesThroughUptoRow.holds Try.pinned (OpenSpec.upto fnExactPanesThroughSpec)

/-- 'laws.FnExactSwingIn', WHERE WHAT IT READS IS OF BULK AT MOST 1048576: true; the input reads as it did. -/
def fnExactSwingInUptoRow : OpenClaim := { program := "ytabdinmodopadab", sum := "56e1488ed72dcb44e79a5b1eb3f465b053c7d2ccefada9a26b8e974d0abeabe4", func := "loop.example/g01309/laws.FnExactSwingIn", spec := "fnExactSwingIn", inPlace := ["math.Float32frombits", "math.Float64frombits", "math.Float64bits", "math.archTrunc"], unfollowed := true, recurses := true, apart := false, narrowed := true }
def FnExactSwingInUptoSaid : Prop := fnExactSwingInUptoRow.holds Try.pinned (OpenSpec.upto fnExactSwingInSpec)

/-- 'laws.FnReads', WHERE WHAT IT READS IS OF BULK AT MOST 1048576: true; the input reads as it did. -/
def fnReadsUptoRow : OpenClaim := { program := "ytabdinmodopadab", sum := "56e1488ed72dcb44e79a5b1eb3f465b053c7d2ccefada9a26b8e974d0abeabe4", func := "loop.example/g01309/laws.FnReads", spec := "fnReads", inPlace := ["math.Float64bits", "math.Float64frombits"], unfollowed := true, recurses := true, apart := false, narrowed := true }
def FnReadsUptoSaid : Prop := fnReadsUptoRow.holds Try.pinned (OpenSpec.upto fnReadsSpec)

/-- 'laws.FnCooling', WHERE WHAT IT READS IS OF BULK AT MOST 1048576: true; the input reads as it did. -/
def fnCoolingUptoRow : OpenClaim := { program := "ytabdinmodopadab", sum := "56e1488ed72dcb44e79a5b1eb3f465b053c7d2ccefada9a26b8e974d0abeabe4", func := "loop.example/g01309/laws.FnCooling", spec := "fnCooling", inPlace := ["math.Float64bits", "math.Float64frombits", "math.Float32frombits"], unfollowed := true, recurses := true, apart := false, narrowed := true }
def FnCoolingUptoSaid : Prop := fnCoolingUptoRow.holds Try.pinned (OpenSpec.upto fnCoolingSpec)

/-- 'laws.FnGuesses', WHERE WHAT IT READS IS OF BULK AT MOST 1048576: true; the input reads as it did. -/
def fnGuessesUptoRow : OpenClaim := { program := "ytabdinmodopadab", sum := "56e1488ed72dcb44e79a5b1eb3f465b053c7d2ccefada9a26b8e974d0abeabe4", func := "loop.example/g01309/laws.FnGuesses", spec := "fnGuesses", inPlace := ["math.Float64bits", "math.Float64frombits", "math.Float32bits"], unfollowed := true, recurses := true, apart := false, narrowed := true }
def FnGuessesUptoSaid : Prop := fnGuessesUptoRow.holds Try.pinned (OpenSpec.upto fnGuessesSpec)

end Rows
end Go.Proofs.Ytabdinmodopadab
