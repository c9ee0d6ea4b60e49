/-
  No cell of these rows narrows 'for every input' (looked for: loops, veiled, ifaces, maps, wideKeys, modest, calm, conditions, laid).
  DERIVED. THE GIVEN ROWS OF THIS SEAT. 12 by the template 'for every input the law returns true; each argument reads behind the call as it read before'; 0 by the template 'total and deterministic' (their statements: YtplepddciilbdaaTotals.lean).
  GIVEN WITH THE SEED: the statements are not yours to turn. If you find one false, say at which input.
  Laid BY PROGRAM, IN A SANDBOX (cutbox-rows.mjs): the forced cells as the released guide's own fill.sh prints them over the translation 1439fbf05ebae95e… (all of the seat's roots in one cut). By AI agents, Wed Nov 11 2026. No macro, syntax, notation, axiom, sorry.
-/
import Derived.Test.YtplepddciilbdaaChecked
import GoSem.Claim
import GoSem.ClaimJoined
import GoSem.ClaimMapViews
import Derived.JoinedTies
import Derived.KernelRfl
namespace Go.Proofs.Ytplepddciilbdaa
/- THE CELL 'sum', in the pinned program and in every row, IS THE sha256 OF THE DUMP (.gsa) THAT YtplepddciilbdaaProg.lean LOADS. Nothing in Lean hashes anything: it is a label: what it is worth is what the hold of that sum in a sandbox is worth. -/
noncomputable def Try.pinned : Pinned := { name := "ytplepddciilbdaa", sum := "1439fbf05ebae95eb58d321cde6dcb23eaf75930c1d84dcccd4d2150888bf4e5", checked := Try.checked }
namespace Rows
def none {H : Type} : Left H := { results := [], args := [] }

/-- 'laws.FnExactValidRod': WHATEVER THE INPUT: true; the input reads as it did. -/
def fnExactValidRodSpec : ChangeSpec := { name := "fnExactValidRod", fn := fun _ => fun
  | [d] => { results := [.lit (.bool true)], args := [d] }
  | _ => none }
def fnExactValidRodRow : OpenClaim := { program := "ytplepddciilbdaa", sum := "1439fbf05ebae95eb58d321cde6dcb23eaf75930c1d84dcccd4d2150888bf4e5", func := "loop.example/g01309/laws.FnExactValidRod", spec := "fnExactValidRod", inPlace := ["math.Float64bits", "math.Float64frombits"], unfollowed := true, recurses := true, apart := false }
def FnExactValidRodSaid : Prop := fnExactValidRodRow.holds Try.pinned (OpenSpec.ofChange fnExactValidRodSpec)

/-- ITS FALSE NEIGHBOUR: 'it returns false'. Refute it at one input. -/
def fnExactValidRodWrong : ChangeSpec := { name := "fnExactValidRod", fn := fun _ => fun
  | [d] => { results := [.lit (.bool false)], args := [d] }
  | _ => none }
def FnExactValidRodWrongFalsely : Prop := fnExactValidRodRow.holds Try.pinned (OpenSpec.ofChange fnExactValidRodWrong)

/-- 'laws.FnExactSameRod': WHATEVER THE INPUT: true; the input reads as it did. -/
def fnExactSameRodSpec : ChangeSpec := { name := "fnExactSameRod", fn := fun _ => fun
  | [d1, d2] => { results := [.lit (.bool true)], args := [d1, d2] }
  | _ => none }
def fnExactSameRodRow : OpenClaim := { program := "ytplepddciilbdaa", sum := "1439fbf05ebae95eb58d321cde6dcb23eaf75930c1d84dcccd4d2150888bf4e5", func := "loop.example/g01309/laws.FnExactSameRod", spec := "fnExactSameRod", inPlace := ["math.Float32bits"], unfollowed := true, recurses := true, apart := false }
def FnExactSameRodSaid : Prop := fnExactSameRodRow.holds Try.pinned (OpenSpec.ofChange fnExactSameRodSpec)

/-- ITS FALSE NEIGHBOUR: 'it returns false'. Refute it at one input. -/
def fnExactSameRodWrong : ChangeSpec := { name := "fnExactSameRod", fn := fun _ => fun
  | [d1, d2] => { results := [.lit (.bool false)], args := [d1, d2] }
  | _ => none }
def FnExactSameRodWrongFalsely : Prop := fnExactSameRodRow.holds Try.pinned (OpenSpec.ofChange fnExactSameRodWrong)

/-- 'laws.FnExactValidEnd': WHATEVER THE INPUT: true; the input reads as it did. -/
def fnExactValidEndSpec : ChangeSpec := { name := "fnExactValidEnd", fn := fun _ => fun
  | [d] => { results := [.lit (.bool true)], args := [d] }
  | _ => none }
def fnExactValidEndRow : OpenClaim := { program := "ytplepddciilbdaa", sum := "1439fbf05ebae95eb58d321cde6dcb23eaf75930c1d84dcccd4d2150888bf4e5", func := "loop.example/g01309/laws.FnExactValidEnd", spec := "fnExactValidEnd", inPlace := ["math.Float64bits", "math.Float64frombits"], apart := false }
def FnExactValidEndSaid : Prop := fnExactValidEndRow.holds Try.pinned (OpenSpec.ofChange fnExactValidEndSpec)

/-- ITS FALSE NEIGHBOUR: 'it returns false'. Refute it at one input. -/
def fnExactValidEndWrong : ChangeSpec := { name := "fnExactValidEnd", fn := fun _ => fun
  | [d] => { results := [.lit (.bool false)], args := [d] }
  | _ => none }
def FnExactValidEndWrongFalsely : Prop := fnExactValidEndRow.holds Try.pinned (OpenSpec.ofChange fnExactValidEndWrong)

/-- 'laws.FnExactSameEnd': WHATEVER THE INPUT: true; the input reads as it did. -/
def fnExactSameEndSpec : ChangeSpec := { name := "fnExactSameEnd", fn := fun _ => fun
  | [d1, d2] => { results := [.lit (.bool true)], args := [d1, d2] }
  | _ => none }
def fnExactSameEndRow : OpenClaim := { program := "ytplepddciilbdaa", sum := "1439fbf05ebae95eb58d321cde6dcb23eaf75930c1d84dcccd4d2150888bf4e5", func := "loop.example/g01309/laws.FnExactSameEnd", spec := "fnExactSameEnd", inPlace := ["math.Float32bits"], apart := false }
def FnExactSameEndSaid : Prop := fnExactSameEndRow.holds Try.pinned (OpenSpec.ofChange fnExactSameEndSpec)

/-- ITS FALSE NEIGHBOUR: 'it returns false'. Refute it at one input. -/
def fnExactSameEndWrong : ChangeSpec := { name := "fnExactSameEnd", fn := fun _ => fun
  | [d1, d2] => { results := [.lit (.bool false)], args := [d1, d2] }
  | _ => none }
def FnExactSameEndWrongFalsely : Prop := fnExactSameEndRow.holds Try.pinned (OpenSpec.ofChange fnExactSameEndWrong)

/-- 'laws.FnExactLongOfRod': WHATEVER THE INPUT: true; the input reads as it did. -/
def fnExactLongOfRodSpec : ChangeSpec := { name := "fnExactLongOfRod", fn := fun _ => fun
  | [d] => { results := [.lit (.bool true)], args := [d] }
  | _ => none }
def fnExactLongOfRodRow : OpenClaim := { program := "ytplepddciilbdaa", sum := "1439fbf05ebae95eb58d321cde6dcb23eaf75930c1d84dcccd4d2150888bf4e5", func := "loop.example/g01309/laws.FnExactLongOfRod", spec := "fnExactLongOfRod", inPlace := ["math.Float64bits", "math.Float64frombits"], unfollowed := true, recurses := true, apart := false }
def FnExactLongOfRodSaid : Prop := fnExactLongOfRodRow.holds Try.pinned (OpenSpec.ofChange fnExactLongOfRodSpec)

/-- ITS FALSE NEIGHBOUR: 'it returns false'. Refute it at one input. -/
def fnExactLongOfRodWrong : ChangeSpec := { name := "fnExactLongOfRod", fn := fun _ => fun
  | [d] => { results := [.lit (.bool false)], args := [d] }
  | _ => none }
def FnExactLongOfRodWrongFalsely : Prop := fnExactLongOfRodRow.holds Try.pinned (OpenSpec.ofChange fnExactLongOfRodWrong)

/-- 'laws.FnExactHeatOfRod': WHATEVER THE INPUT: true; the input reads as it did. -/
def fnExactHeatOfRodSpec : ChangeSpec := { name := "fnExactHeatOfRod", fn := fun _ => fun
  | [d] => { results := [.lit (.bool true)], args := [d] }
  | _ => none }
def fnExactHeatOfRodRow : OpenClaim := { program := "ytplepddciilbdaa", sum := "1439fbf05ebae95eb58d321cde6dcb23eaf75930c1d84dcccd4d2150888bf4e5", func := "loop.example/g01309/laws.FnExactHeatOfRod", spec := "fnExactHeatOfRod", inPlace := ["math.Float64bits", "math.Float64frombits"], unfollowed := true, recurses := true, apart := false }
def FnExactHeatOfRodSaid : Prop := fnExactHeatOfRodRow.holds Try.pinned (OpenSpec.ofChange fnExactHeatOfRodSpec)

/-- ITS FALSE NEIGHBOUR: 'it returns false'. Refute it at one input. -/
def fnExactHeatOfRodWrong : ChangeSpec := { name := "fnExactHeatOfRod", fn := fun _ => fun
  | [d] => { results := [.lit (.bool false)], args := [d] }
  | _ => none }
def FnExactHeatOfRodWrongFalsely : Prop := fnExactHeatOfRodRow.holds Try.pinned (OpenSpec.ofChange fnExactHeatOfRodWrong)

/-- 'laws.FnExactHinderOf': WHATEVER THE INPUT: true; the input reads as it did. -/
def fnExactHinderOfSpec : ChangeSpec := { name := "fnExactHinderOf", fn := fun _ => fun
  | [d] => { results := [.lit (.bool true)], args := [d] }
  | _ => none }
def fnExactHinderOfRow : OpenClaim := { program := "ytplepddciilbdaa", sum := "1439fbf05ebae95eb58d321cde6dcb23eaf75930c1d84dcccd4d2150888bf4e5", func := "loop.example/g01309/laws.FnExactHinderOf", spec := "fnExactHinderOf", inPlace := ["math.Float64bits", "math.Float64frombits"], unfollowed := true, recurses := true, apart := false }
def FnExactHinderOfSaid : Prop := fnExactHinderOfRow.holds Try.pinned (OpenSpec.ofChange fnExactHinderOfSpec)

/-- ITS FALSE NEIGHBOUR: 'it returns false'. Refute it at one input. -/
def fnExactHinderOfWrong : ChangeSpec := { name := "fnExactHinderOf", fn := fun _ => fun
  | [d] => { results := [.lit (.bool false)], args := [d] }
  | _ => none }
def FnExactHinderOfWrongFalsely : Prop := fnExactHinderOfRow.holds Try.pinned (OpenSpec.ofChange fnExactHinderOfWrong)

/-- 'laws.FnExactMeanOfRod': WHATEVER THE INPUT: true; the input reads as it did. -/
def fnExactMeanOfRodSpec : ChangeSpec := { name := "fnExactMeanOfRod", fn := fun _ => fun
  | [d] => { results := [.lit (.bool true)], args := [d] }
  | _ => none }
def fnExactMeanOfRodRow : OpenClaim := { program := "ytplepddciilbdaa", sum := "1439fbf05ebae95eb58d321cde6dcb23eaf75930c1d84dcccd4d2150888bf4e5", func := "loop.example/g01309/laws.FnExactMeanOfRod", spec := "fnExactMeanOfRod", inPlace := ["math.Float64bits", "math.Float64frombits"], unfollowed := true, recurses := true, apart := false }
def FnExactMeanOfRodSaid : Prop := fnExactMeanOfRodRow.holds Try.pinned (OpenSpec.ofChange fnExactMeanOfRodSpec)

/-- ITS FALSE NEIGHBOUR: 'it returns false'. Refute it at one input. -/
def fnExactMeanOfRodWrong : ChangeSpec := { name := "fnExactMeanOfRod", fn := fun _ => fun
  | [d] => { results := [.lit (.bool false)], args := [d] }
  | _ => none }
def FnExactMeanOfRodWrongFalsely : Prop := fnExactMeanOfRodRow.holds Try.pinned (OpenSpec.ofChange fnExactMeanOfRodWrong)

/-- 'laws.FnExactPassBetween': WHATEVER THE INPUT: true; the input reads as it did. -/
def fnExactPassBetweenSpec : ChangeSpec := { name := "fnExactPassBetween", fn := fun _ => fun
  | [d1, d2] => { results := [.lit (.bool true)], args := [d1, d2] }
  | _ => none }
def fnExactPassBetweenRow : OpenClaim := { program := "ytplepddciilbdaa", sum := "1439fbf05ebae95eb58d321cde6dcb23eaf75930c1d84dcccd4d2150888bf4e5", func := "loop.example/g01309/laws.FnExactPassBetween", spec := "fnExactPassBetween", inPlace := ["math.Float64bits", "math.Float64frombits"], unfollowed := true, recurses := true, apart := false }
def FnExactPassBetweenSaid : Prop := fnExactPassBetweenRow.holds Try.pinned (OpenSpec.ofChange fnExactPassBetweenSpec)

/-- ITS FALSE NEIGHBOUR: 'it returns false'. Refute it at one input. -/
def fnExactPassBetweenWrong : ChangeSpec := { name := "fnExactPassBetween", fn := fun _ => fun
  | [d1, d2] => { results := [.lit (.bool false)], args := [d1, d2] }
  | _ => none }
def FnExactPassBetweenWrongFalsely : Prop := fnExactPassBetweenRow.holds Try.pinned (OpenSpec.ofChange fnExactPassBetweenWrong)

/-- 'laws.FnExactPassAtEnd': WHATEVER THE INPUT: true; the input reads as it did. -/
def fnExactPassAtEndSpec : ChangeSpec := { name := "fnExactPassAtEnd", fn := fun _ => fun
  | [d1, d2, d3] => { results := [.lit (.bool true)], args := [d1, d2, d3] }
  | _ => none }
def fnExactPassAtEndRow : OpenClaim := { program := "ytplepddciilbdaa", sum := "1439fbf05ebae95eb58d321cde6dcb23eaf75930c1d84dcccd4d2150888bf4e5", func := "loop.example/g01309/laws.FnExactPassAtEnd", spec := "fnExactPassAtEnd", inPlace := ["math.Float64bits", "math.Float64frombits"], unfollowed := true, recurses := true, apart := false }
def FnExactPassAtEndSaid : Prop := fnExactPassAtEndRow.holds Try.pinned (OpenSpec.ofChange fnExactPassAtEndSpec)

/-- ITS FALSE NEIGHBOUR: 'it returns false'. Refute it at one input. -/
def fnExactPassAtEndWrong : ChangeSpec := { name := "fnExactPassAtEnd", fn := fun _ => fun
  | [d1, d2, d3] => { results := [.lit (.bool false)], args := [d1, d2, d3] }
  | _ => none }
def FnExactPassAtEndWrongFalsely : Prop := fnExactPassAtEndRow.holds Try.pinned (OpenSpec.ofChange fnExactPassAtEndWrong)

/-- 'laws.FnExactWaveDepth': WHATEVER THE INPUT: true; the input reads as it did. -/
def fnExactWaveDepthSpec : ChangeSpec := { name := "fnExactWaveDepth", fn := fun _ => fun
  | [d1, d2, d3] => { results := [.lit (.bool true)], args := [d1, d2, d3] }
  | _ => none }
def fnExactWaveDepthRow : OpenClaim := { program := "ytplepddciilbdaa", sum := "1439fbf05ebae95eb58d321cde6dcb23eaf75930c1d84dcccd4d2150888bf4e5", func := "loop.example/g01309/laws.FnExactWaveDepth", spec := "fnExactWaveDepth", inPlace := ["math.sqrt", "math.Float64bits", "math.Float64frombits"], apart := false }
def FnExactWaveDepthSaid : Prop := fnExactWaveDepthRow.holds Try.pinned (OpenSpec.ofChange fnExactWaveDepthSpec)

/-- ITS FALSE NEIGHBOUR: 'it returns false'. Refute it at one input. -/
def fnExactWaveDepthWrong : ChangeSpec := { name := "fnExactWaveDepth", fn := fun _ => fun
  | [d1, d2, d3] => { results := [.lit (.bool false)], args := [d1, d2, d3] }
  | _ => none }
def FnExactWaveDepthWrongFalsely : Prop := fnExactWaveDepthRow.holds Try.pinned (OpenSpec.ofChange fnExactWaveDepthWrong)

/-- 'laws.FnExactFinShare': WHATEVER THE INPUT: true; the input reads as it did. -/
def fnExactFinShareSpec : ChangeSpec := { name := "fnExactFinShare", fn := fun _ => fun
  | [d1, d2, d3, d4] => { results := [.lit (.bool true)], args := [d1, d2, d3, d4] }
  | _ => none }
def fnExactFinShareRow : OpenClaim := { program := "ytplepddciilbdaa", sum := "1439fbf05ebae95eb58d321cde6dcb23eaf75930c1d84dcccd4d2150888bf4e5", func := "loop.example/g01309/laws.FnExactFinShare", spec := "fnExactFinShare", inPlace := ["math.sqrt", "math.Float64frombits", "math.Float64bits"], unfollowed := true, recurses := true, apart := false }
def FnExactFinShareSaid : Prop := fnExactFinShareRow.holds Try.pinned (OpenSpec.ofChange fnExactFinShareSpec)

/-- ITS FALSE NEIGHBOUR: 'it returns false'. Refute it at one input. -/
def fnExactFinShareWrong : ChangeSpec := { name := "fnExactFinShare", fn := fun _ => fun
  | [d1, d2, d3, d4] => { results := [.lit (.bool false)], args := [d1, d2, d3, d4] }
  | _ => none }
def FnExactFinShareWrongFalsely : Prop := fnExactFinShareRow.holds Try.pinned (OpenSpec.ofChange fnExactFinShareWrong)

/- THE SECOND FORM. 'bulk': how many values and letters a reading holds, each counted each time it is reached (what is shared counts as often as it is met; a slice's spare places count too). A statement '..UptoSaid' is the law's where the arguments, and the package variables that the reading takes, are together of bulk at most 1048576: NARROWER than '..Said'. Prove '..Said' where nothing that the law and all that it calls make is longer than what came in: it says more and counts as full. Else prove '..UptoSaid'. A law counts once. -/
mutual
def uptoBulk {H : Type} : DataW H → Nat
  | .lit (.string bytes) => bytes.length + 1
  | .lit _ => 1
  | .nil => 1
  | .ptr d => uptoBulk d + 1
  | .slice elems spare => uptoBulkAll elems + uptoBulkAll spare + 1
  | .agg parts => uptoBulkAll parts + 1
  | .iface _ d => uptoBulk d + 1
  | .map entries => uptoBulkEntries entries + 1
  | .held _ => 1
def uptoBulkAll {H : Type} : List (DataW H) → Nat
  | [] => 0
  | d :: r => uptoBulk d + uptoBulkAll r
def uptoBulkEntries {H : Type} : List (Lit × DataW H) → Nat
  | [] => 0
  | x :: r => uptoBulkEntry x + uptoBulkEntries r
def uptoBulkEntry {H : Type} : Lit × DataW H → Nat
  | (.string bytes, d) => bytes.length + uptoBulk d + 1
  | (_, d) => uptoBulk d + 1
 end
def uptoSmall : (H : Type) → List (DataW H) → Bool := fun _ ds => decide (uptoBulkAll ds ≤ 1048576)
def OpenSpec.upto (s : _root_.Go.ChangeSpec) : _root_.Go.OpenSpec := { _root_.Go.OpenSpec.ofChange s with cond := some uptoSmall }

/-- 'laws.FnExactValidRod', WHERE WHAT IT READS IS OF BULK AT MOST 1048576: true; the input reads as it did. -/
def fnExactValidRodUptoRow : OpenClaim := { program := "ytplepddciilbdaa", sum := "1439fbf05ebae95eb58d321cde6dcb23eaf75930c1d84dcccd4d2150888bf4e5", func := "loop.example/g01309/laws.FnExactValidRod", spec := "fnExactValidRod", inPlace := ["math.Float64bits", "math.Float64frombits"], unfollowed := true, recurses := true, apart := false, narrowed := true }
def FnExactValidRodUptoSaid : Prop := fnExactValidRodUptoRow.holds Try.pinned (OpenSpec.upto fnExactValidRodSpec)

/-- 'laws.FnExactSameRod', WHERE WHAT IT READS IS OF BULK AT MOST 1048576: true; the input reads as it did. -/
def fnExactSameRodUptoRow : OpenClaim := { program := "ytplepddciilbdaa", sum := "1439fbf05ebae95eb58d321cde6dcb23eaf75930c1d84dcccd4d2150888bf4e5", func := "loop.example/g01309/laws.FnExactSameRod", spec := "fnExactSameRod", inPlace := ["math.Float32bits"], unfollowed := true, recurses := true, apart := false, narrowed := true }
def FnExactSameRodUptoSaid : Prop := fnExactSameRodUptoRow.holds Try.pinned (OpenSpec.upto fnExactSameRodSpec)

/-- 'laws.FnExactValidEnd', WHERE WHAT IT READS IS OF BULK AT MOST 1048576: true; the input reads as it did. -/
def fnExactValidEndUptoRow : OpenClaim := { program := "ytplepddciilbdaa", sum := "1439fbf05ebae95eb58d321cde6dcb23eaf75930c1d84dcccd4d2150888bf4e5", func := "loop.example/g01309/laws.FnExactValidEnd", spec := "fnExactValidEnd", inPlace := ["math.Float64bits", "math.Float64frombits"], apart := false, narrowed := true }
def FnExactValidEndUptoSaid : Prop := fnExactValidEndUptoRow.holds Try.pinned (OpenSpec.upto fnExactValidEndSpec)

/-- 'laws.FnExactSameEnd', WHERE WHAT IT READS IS OF BULK AT MOST 1048576: true; the input reads as it did. -/
def fnExactSameEndUptoRow : OpenClaim := { program := "ytplepddciilbdaa", sum := "1439fbf05ebae95eb58d321cde6dcb23eaf75930c1d84dcccd4d2150888bf4e5", func := "loop.example/g01309/laws.FnExactSameEnd", spec := "fnExactSameEnd", inPlace := ["math.Float32bits"], apart := false, narrowed := true }
def FnExactSameEndUptoSaid : Prop := fnExactSameEndUptoRow.holds Try.pinned (OpenSpec.upto fnExactSameEndSpec)

/-- 'laws.FnExactLongOfRod', WHERE WHAT IT READS IS OF BULK AT MOST 1048576: true; the input reads as it did. -/
def fnExactLongOfRodUptoRow : OpenClaim := { program := "ytplepddciilbdaa", sum := "1439fbf05ebae95eb58d321cde6dcb23eaf75930c1d84dcccd4d2150888bf4e5", func := "loop.example/g01309/laws.FnExactLongOfRod", spec := "fnExactLongOfRod", inPlace := ["math.Float64bits", "math.Float64frombits"], unfollowed := true, recurses := true, apart := false, narrowed := true }
def FnExactLongOfRodUptoSaid : Prop := fnExactLongOfRodUptoRow.holds Try.pinned (OpenSpec.upto fnExactLongOfRodSpec)

/-- 'laws.FnExactHeatOfRod', WHERE WHAT IT READS IS OF BULK AT MOST 1048576: true; the input reads as it did. -/
def fnExactHeatOfRodUptoRow : OpenClaim := { program := "ytplepddciilbdaa", sum := "1439fbf05ebae95eb58d321cde6dcb23eaf75930c1d84dcccd4d2150888bf4e5", func := "loop.example/g01309/laws.FnExactHeatOfRod", spec := "fnExactHeatOfRod", inPlace := ["math.Float64bits", "math.Float64frombits"], unfollowed := true, recurses := true, apart := false, narrowed := true }
def FnExactHeatOfRodUptoSaid : Prop := fnExactHeatOfRodUptoRow.holds Try.pinned (OpenSpec.upto fnExactHeatOfRodSpec)

/-- 'laws.FnExactHinderOf', WHERE WHAT IT READS IS OF BULK AT MOST 1048576: true; the input reads as it did. -/
def fnExactHinderOfUptoRow : OpenClaim := { program := "ytplepddciilbdaa", sum := "1439fbf05ebae95eb58d321cde6dcb23eaf75930c1d84dcccd4d2150888bf4e5", func := "loop.example/g01309/laws.FnExactHinderOf", spec := "fnExactHinderOf", inPlace := ["math.Float64bits", "math.Float64frombits"], unfollowed := true, recurses := true, apart := false, narrowed := true }
def FnExactHinderOfUptoSaid : Prop := fnExactHinderOfUptoRow.holds Try.pinned (OpenSpec.upto fnExactHinderOfSpec)

/-- 'laws.FnExactMeanOfRod', WHERE WHAT IT READS IS OF BULK AT MOST 1048576: true; the input reads as it did. -/
def fnExactMeanOfRodUptoRow : OpenClaim := { program := "ytplepddciilbdaa", sum := "1439fbf05ebae95eb58d321cde6dcb23eaf75930c1d84dcccd4d2150888bf4e5", func := "loop.example/g01309/laws.FnExactMeanOfRod", spec := "fnExactMeanOfRod", inPlace := ["math.Float64bits", "math.Float64frombits"], unfollowed := true, recurses := true, apart := false, narrowed := true }
def FnExactMeanOfRodUptoSaid : Prop := fnExactMeanOfRodUptoRow.holds Try.pinned (OpenSpec.upto fnExactMeanOfRodSpec)

/-- 'laws.FnExactPassBetween', WHERE WHAT IT READS IS OF BULK AT MOST 1048576: true; the input reads as it did. -/
def fnExactPassBetweenUptoRow : OpenClaim := { program := "ytplepddciilbdaa", sum := "1439fbf05ebae95eb58d321cde6dcb23eaf75930c1d84dcccd4d2150888bf4e5", func := "loop.example/g01309/laws.FnExactPassBetween", spec := "fnExactPassBetween", inPlace := ["math.Float64bits", "math.Float64frombits"], unfollowed := true, recurses := true, apart := false, narrowed := true }
def FnExactPassBetweenUptoSaid : Prop := fnExactPassBetweenUptoRow.holds Try.pinned (OpenSpec.upto fnExactPassBetweenSpec)

/-- 'laws.FnExactPassAtEnd', WHERE WHAT IT READS IS OF BULK AT MOST 1048576: true; the input reads as it did. -/
def fnExactPassAtEndUptoRow : OpenClaim := { program := "ytplepddciilbdaa", sum := "1439fbf05ebae95eb58d321cde6dcb23eaf75930c1d84dcccd4d2150888bf4e5", func := "loop.example/g01309/laws.FnExactPassAtEnd", spec := "fnExactPassAtEnd", inPlace := ["math.Float64bits", "math.Float64frombits"], unfollowed := true, recurses := true, apart := false, narrowed := true }
def FnExactPassAtEndUptoSaid : Prop := fnExactPassAtEndUptoRow.holds Try.pinned (OpenSpec.upto fnExactPassAtEndSpec)

/-- 'laws.FnExactWaveDepth', WHERE WHAT IT READS IS OF BULK AT MOST 1048576: true; the input reads as it did. -/
def fnExactWaveDepthUptoRow : OpenClaim := { program := "ytplepddciilbdaa", sum := "1439fbf05ebae95eb58d321cde6dcb23eaf75930c1d84dcccd4d2150888bf4e5", func := "loop.example/g01309/laws.FnExactWaveDepth", spec := "fnExactWaveDepth", inPlace := ["math.sqrt", "math.Float64bits", "math.Float64frombits"], apart := false, narrowed := true }
def FnExactWaveDepthUptoSaid : Prop := fnExactWaveDepthUptoRow.holds Try.pinned (OpenSpec.upto fnExactWaveDepthSpec)

/-- 'laws.FnExactFinShare', WHERE WHAT IT READS IS OF BULK AT MOST 1048576: true; the input reads as it did. -/
def fnExactFinShareUptoRow : OpenClaim := { program := "ytplepddciilbdaa", sum := "1439fbf05ebae95eb58d321cde6dcb23eaf75930c1d84dcccd4d2150888bf4e5", func := "loop.example/g01309/laws.FnExactFinShare", spec := "fnExactFinShare", inPlace := ["math.sqrt", "math.Float64frombits", "math.Float64bits"], unfollowed := true, recurses := true, apart := false, narrowed := true }
def FnExactFinShareUptoSaid : Prop := fnExactFinShareUptoRow.holds Try.pinned (OpenSpec.upto fnExactFinShareSpec)

end Rows
end Go.Proofs.Ytplepddciilbdaa
