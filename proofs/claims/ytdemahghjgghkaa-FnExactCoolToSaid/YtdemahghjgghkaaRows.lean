/-
  No cell of these rows narrows 'for every input' (looked for: loops, veiled, ifaces, maps, wideKeys, modest, calm, conditions, laid).
  DERIVED. THE GIVEN ROWS OF THIS SEAT. 12 by the template 'for every input the law returns true; each argument reads behind the call as it read before'; 0 by the template 'total and deterministic' (their statements: YtdemahghjgghkaaTotals.lean).
  GIVEN WITH THE SEED: the statements are not yours to turn. If you find one false, say at which input.
  Laid BY PROGRAM, IN A SANDBOX (cutbox-rows.mjs): the forced cells as the released guide's own fill.sh prints them over the translation 3b9cb5763d14ec68… (all of the seat's roots in one cut). By AI agents, Wed Nov 11 2026. No macro, syntax, notation, axiom, sorry.
-/
import Derived.Test.YtdemahghjgghkaaChecked
import GoSem.Claim
import GoSem.ClaimJoined
import GoSem.ClaimMapViews
import Derived.JoinedTies
import Derived.KernelRfl
namespace Go.Proofs.Ytdemahghjgghkaa
/- THE CELL 'sum', in the pinned program and in every row, IS THE sha256 OF THE DUMP (.gsa) THAT YtdemahghjgghkaaProg.lean LOADS. Nothing in Lean hashes anything: it is a label: what it is worth is what the hold of that sum in a sandbox is worth. -/
noncomputable def Try.pinned : Pinned := { name := "ytdemahghjgghkaa", sum := "3b9cb5763d14ec6848f5553eb22e34902d8fc6356a43062806a3f4377eaa9393", checked := Try.checked }
namespace Rows
def none {H : Type} : Left H := { results := [], args := [] }

/-- 'laws.FnExactIsTable': WHATEVER THE INPUT: true; the input reads as it did. -/
def fnExactIsTableSpec : ChangeSpec := { name := "fnExactIsTable", fn := fun _ => fun
  | [d1, d2] => { results := [.lit (.bool true)], args := [d1, d2] }
  | _ => none }
def fnExactIsTableRow : OpenClaim := { program := "ytdemahghjgghkaa", sum := "3b9cb5763d14ec6848f5553eb22e34902d8fc6356a43062806a3f4377eaa9393", func := "loop.example/g01309/laws.FnExactIsTable", spec := "fnExactIsTable", inPlace := ["math.Float64bits", "math.Float64frombits"], unfollowed := true, recurses := true, apart := false }
def FnExactIsTableSaid : Prop := fnExactIsTableRow.holds Try.pinned (OpenSpec.ofChange fnExactIsTableSpec)

/-- ITS FALSE NEIGHBOUR: 'it returns false'. Refute it at one input. -/
def fnExactIsTableWrong : ChangeSpec := { name := "fnExactIsTable", fn := fun _ => fun
  | [d1, d2] => { results := [.lit (.bool false)], args := [d1, d2] }
  | _ => none }
def FnExactIsTableWrongFalsely : Prop := fnExactIsTableRow.holds Try.pinned (OpenSpec.ofChange fnExactIsTableWrong)

/-- 'laws.FnExactReadTable': WHATEVER THE INPUT: true; the input reads as it did. -/
def fnExactReadTableSpec : ChangeSpec := { name := "fnExactReadTable", fn := fun _ => fun
  | [d1, d2, d3] => { results := [.lit (.bool true)], args := [d1, d2, d3] }
  | _ => none }
def fnExactReadTableRow : OpenClaim := { program := "ytdemahghjgghkaa", sum := "3b9cb5763d14ec6848f5553eb22e34902d8fc6356a43062806a3f4377eaa9393", func := "loop.example/g01309/laws.FnExactReadTable", spec := "fnExactReadTable", inPlace := ["math.Float64bits", "math.Float64frombits"], unfollowed := true, recurses := true, apart := false }
def FnExactReadTableSaid : Prop := fnExactReadTableRow.holds Try.pinned (OpenSpec.ofChange fnExactReadTableSpec)

/-- ITS FALSE NEIGHBOUR: 'it returns false'. Refute it at one input. -/
def fnExactReadTableWrong : ChangeSpec := { name := "fnExactReadTable", fn := fun _ => fun
  | [d1, d2, d3] => { results := [.lit (.bool false)], args := [d1, d2, d3] }
  | _ => none }
def FnExactReadTableWrongFalsely : Prop := fnExactReadTableRow.holds Try.pinned (OpenSpec.ofChange fnExactReadTableWrong)

/-- 'laws.FnExactBackTable': WHATEVER THE INPUT: true; the input reads as it did. -/
def fnExactBackTableSpec : ChangeSpec := { name := "fnExactBackTable", fn := fun _ => fun
  | [d1, d2, d3] => { results := [.lit (.bool true)], args := [d1, d2, d3] }
  | _ => none }
def fnExactBackTableRow : OpenClaim := { program := "ytdemahghjgghkaa", sum := "3b9cb5763d14ec6848f5553eb22e34902d8fc6356a43062806a3f4377eaa9393", func := "loop.example/g01309/laws.FnExactBackTable", spec := "fnExactBackTable", inPlace := ["math.Float64bits", "math.Float64frombits"], unfollowed := true, recurses := true, apart := false }
def FnExactBackTableSaid : Prop := fnExactBackTableRow.holds Try.pinned (OpenSpec.ofChange fnExactBackTableSpec)

/-- ITS FALSE NEIGHBOUR: 'it returns false'. Refute it at one input. -/
def fnExactBackTableWrong : ChangeSpec := { name := "fnExactBackTable", fn := fun _ => fun
  | [d1, d2, d3] => { results := [.lit (.bool false)], args := [d1, d2, d3] }
  | _ => none }
def FnExactBackTableWrongFalsely : Prop := fnExactBackTableRow.holds Try.pinned (OpenSpec.ofChange fnExactBackTableWrong)

/-- 'laws.FnExactDegreeDays': WHATEVER THE INPUT: true; the input reads as it did. -/
def fnExactDegreeDaysSpec : ChangeSpec := { name := "fnExactDegreeDays", fn := fun _ => fun
  | [d1, d2] => { results := [.lit (.bool true)], args := [d1, d2] }
  | _ => none }
def fnExactDegreeDaysRow : OpenClaim := { program := "ytdemahghjgghkaa", sum := "3b9cb5763d14ec6848f5553eb22e34902d8fc6356a43062806a3f4377eaa9393", func := "loop.example/g01309/laws.FnExactDegreeDays", spec := "fnExactDegreeDays", inPlace := ["math.Float64bits", "math.Float64frombits"], unfollowed := true, recurses := true, apart := false }
def FnExactDegreeDaysSaid : Prop := fnExactDegreeDaysRow.holds Try.pinned (OpenSpec.ofChange fnExactDegreeDaysSpec)

/-- ITS FALSE NEIGHBOUR: 'it returns false'. Refute it at one input. -/
def fnExactDegreeDaysWrong : ChangeSpec := { name := "fnExactDegreeDays", fn := fun _ => fun
  | [d1, d2] => { results := [.lit (.bool false)], args := [d1, d2] }
  | _ => none }
def FnExactDegreeDaysWrongFalsely : Prop := fnExactDegreeDaysRow.holds Try.pinned (OpenSpec.ofChange fnExactDegreeDaysWrong)

/-- 'laws.FnExactFrostIn': WHATEVER THE INPUT: true; the input reads as it did. -/
def fnExactFrostInSpec : ChangeSpec := { name := "fnExactFrostIn", fn := fun _ => fun
  | [d] => { results := [.lit (.bool true)], args := [d] }
  | _ => none }
def fnExactFrostInRow : OpenClaim := { program := "ytdemahghjgghkaa", sum := "3b9cb5763d14ec6848f5553eb22e34902d8fc6356a43062806a3f4377eaa9393", func := "loop.example/g01309/laws.FnExactFrostIn", spec := "fnExactFrostIn", inPlace := ["math.Float64bits", "math.Float64frombits"], unfollowed := true, recurses := true, apart := false }
def FnExactFrostInSaid : Prop := fnExactFrostInRow.holds Try.pinned (OpenSpec.ofChange fnExactFrostInSpec)

/-- ITS FALSE NEIGHBOUR: 'it returns false'. Refute it at one input. -/
def fnExactFrostInWrong : ChangeSpec := { name := "fnExactFrostIn", fn := fun _ => fun
  | [d] => { results := [.lit (.bool false)], args := [d] }
  | _ => none }
def FnExactFrostInWrongFalsely : Prop := fnExactFrostInRow.holds Try.pinned (OpenSpec.ofChange fnExactFrostInWrong)

/-- 'laws.FnExactFitLine': WHATEVER THE INPUT: true; the input reads as it did. -/
def fnExactFitLineSpec : ChangeSpec := { name := "fnExactFitLine", fn := fun _ => fun
  | [d1, d2] => { results := [.lit (.bool true)], args := [d1, d2] }
  | _ => none }
def fnExactFitLineRow : OpenClaim := { program := "ytdemahghjgghkaa", sum := "3b9cb5763d14ec6848f5553eb22e34902d8fc6356a43062806a3f4377eaa9393", func := "loop.example/g01309/laws.FnExactFitLine", spec := "fnExactFitLine", inPlace := ["math.Float64bits", "math.Float64frombits"], unfollowed := true, recurses := true, apart := false }
def FnExactFitLineSaid : Prop := fnExactFitLineRow.holds Try.pinned (OpenSpec.ofChange fnExactFitLineSpec)

/-- ITS FALSE NEIGHBOUR: 'it returns false'. Refute it at one input. -/
def fnExactFitLineWrong : ChangeSpec := { name := "fnExactFitLine", fn := fun _ => fun
  | [d1, d2] => { results := [.lit (.bool false)], args := [d1, d2] }
  | _ => none }
def FnExactFitLineWrongFalsely : Prop := fnExactFitLineRow.holds Try.pinned (OpenSpec.ofChange fnExactFitLineWrong)

/-- 'laws.FnExactLineMiss': WHATEVER THE INPUT: true; the input reads as it did. -/
def fnExactLineMissSpec : ChangeSpec := { name := "fnExactLineMiss", fn := fun _ => fun
  | [d1, d2, d3, d4] => { results := [.lit (.bool true)], args := [d1, d2, d3, d4] }
  | _ => none }
def fnExactLineMissRow : OpenClaim := { program := "ytdemahghjgghkaa", sum := "3b9cb5763d14ec6848f5553eb22e34902d8fc6356a43062806a3f4377eaa9393", func := "loop.example/g01309/laws.FnExactLineMiss", spec := "fnExactLineMiss", inPlace := ["math.Float64bits", "math.Float64frombits"], unfollowed := true, recurses := true, apart := false }
def FnExactLineMissSaid : Prop := fnExactLineMissRow.holds Try.pinned (OpenSpec.ofChange fnExactLineMissSpec)

/-- ITS FALSE NEIGHBOUR: 'it returns false'. Refute it at one input. -/
def fnExactLineMissWrong : ChangeSpec := { name := "fnExactLineMiss", fn := fun _ => fun
  | [d1, d2, d3, d4] => { results := [.lit (.bool false)], args := [d1, d2, d3, d4] }
  | _ => none }
def FnExactLineMissWrongFalsely : Prop := fnExactLineMissRow.holds Try.pinned (OpenSpec.ofChange fnExactLineMissWrong)

/-- 'laws.FnExactDriftGuess': WHATEVER THE INPUT: true; the input reads as it did. -/
def fnExactDriftGuessSpec : ChangeSpec := { name := "fnExactDriftGuess", fn := fun _ => fun
  | [d1, d2, d3] => { results := [.lit (.bool true)], args := [d1, d2, d3] }
  | _ => none }
def fnExactDriftGuessRow : OpenClaim := { program := "ytdemahghjgghkaa", sum := "3b9cb5763d14ec6848f5553eb22e34902d8fc6356a43062806a3f4377eaa9393", func := "loop.example/g01309/laws.FnExactDriftGuess", spec := "fnExactDriftGuess", inPlace := ["math.Float64bits", "math.Float64frombits"], apart := false }
def FnExactDriftGuessSaid : Prop := fnExactDriftGuessRow.holds Try.pinned (OpenSpec.ofChange fnExactDriftGuessSpec)

/-- ITS FALSE NEIGHBOUR: 'it returns false'. Refute it at one input. -/
def fnExactDriftGuessWrong : ChangeSpec := { name := "fnExactDriftGuess", fn := fun _ => fun
  | [d1, d2, d3] => { results := [.lit (.bool false)], args := [d1, d2, d3] }
  | _ => none }
def FnExactDriftGuessWrongFalsely : Prop := fnExactDriftGuessRow.holds Try.pinned (OpenSpec.ofChange fnExactDriftGuessWrong)

/-- 'laws.FnExactMeetGuess': WHATEVER THE INPUT: true; the input reads as it did. -/
def fnExactMeetGuessSpec : ChangeSpec := { name := "fnExactMeetGuess", fn := fun _ => fun
  | [d1, d2, d3] => { results := [.lit (.bool true)], args := [d1, d2, d3] }
  | _ => none }
def fnExactMeetGuessRow : OpenClaim := { program := "ytdemahghjgghkaa", sum := "3b9cb5763d14ec6848f5553eb22e34902d8fc6356a43062806a3f4377eaa9393", func := "loop.example/g01309/laws.FnExactMeetGuess", spec := "fnExactMeetGuess", inPlace := ["math.Float64bits", "math.Float64frombits"], apart := false }
def FnExactMeetGuessSaid : Prop := fnExactMeetGuessRow.holds Try.pinned (OpenSpec.ofChange fnExactMeetGuessSpec)

/-- ITS FALSE NEIGHBOUR: 'it returns false'. Refute it at one input. -/
def fnExactMeetGuessWrong : ChangeSpec := { name := "fnExactMeetGuess", fn := fun _ => fun
  | [d1, d2, d3] => { results := [.lit (.bool false)], args := [d1, d2, d3] }
  | _ => none }
def FnExactMeetGuessWrongFalsely : Prop := fnExactMeetGuessRow.holds Try.pinned (OpenSpec.ofChange fnExactMeetGuessWrong)

/-- 'laws.FnExactTimeTo': WHATEVER THE INPUT: true; the input reads as it did. -/
def fnExactTimeToSpec : ChangeSpec := { name := "fnExactTimeTo", fn := fun _ => fun
  | [d1, d2, d3, d4] => { results := [.lit (.bool true)], args := [d1, d2, d3, d4] }
  | _ => none }
def fnExactTimeToRow : OpenClaim := { program := "ytdemahghjgghkaa", sum := "3b9cb5763d14ec6848f5553eb22e34902d8fc6356a43062806a3f4377eaa9393", func := "loop.example/g01309/laws.FnExactTimeTo", spec := "fnExactTimeTo", inPlace := ["math.Float64frombits", "math.Float64bits", "math.Float32frombits"], unfollowed := true, recurses := true, apart := false }
def FnExactTimeToSaid : Prop := fnExactTimeToRow.holds Try.pinned (OpenSpec.ofChange fnExactTimeToSpec)

/-- ITS FALSE NEIGHBOUR: 'it returns false'. Refute it at one input. -/
def fnExactTimeToWrong : ChangeSpec := { name := "fnExactTimeTo", fn := fun _ => fun
  | [d1, d2, d3, d4] => { results := [.lit (.bool false)], args := [d1, d2, d3, d4] }
  | _ => none }
def FnExactTimeToWrongFalsely : Prop := fnExactTimeToRow.holds Try.pinned (OpenSpec.ofChange fnExactTimeToWrong)

/-- 'laws.FnExactCoolTo': WHATEVER THE INPUT: true; the input reads as it did. -/
def fnExactCoolToSpec : ChangeSpec := { name := "fnExactCoolTo", fn := fun _ => fun
  | [d1, d2, d3, d4] => { results := [.lit (.bool true)], args := [d1, d2, d3, d4] }
  | _ => none }
def fnExactCoolToRow : OpenClaim := { program := "ytdemahghjgghkaa", sum := "3b9cb5763d14ec6848f5553eb22e34902d8fc6356a43062806a3f4377eaa9393", func := "loop.example/g01309/laws.FnExactCoolTo", spec := "fnExactCoolTo", inPlace := ["math.Float64frombits", "math.Float64bits"], apart := false }
def FnExactCoolToSaid : Prop := fnExactCoolToRow.holds Try.pinned (OpenSpec.ofChange fnExactCoolToSpec)

/-- ITS FALSE NEIGHBOUR: 'it returns false'. Refute it at one input. -/
def fnExactCoolToWrong : ChangeSpec := { name := "fnExactCoolTo", fn := fun _ => fun
  | [d1, d2, d3, d4] => { results := [.lit (.bool false)], args := [d1, d2, d3, d4] }
  | _ => none }
def FnExactCoolToWrongFalsely : Prop := fnExactCoolToRow.holds Try.pinned (OpenSpec.ofChange fnExactCoolToWrong)

/-- 'laws.FnExactDegreeSum': WHATEVER THE INPUT: true; the input reads as it did. -/
def fnExactDegreeSumSpec : ChangeSpec := { name := "fnExactDegreeSum", fn := fun _ => fun
  | [d1, d2] => { results := [.lit (.bool true)], args := [d1, d2] }
  | _ => none }
def fnExactDegreeSumRow : OpenClaim := { program := "ytdemahghjgghkaa", sum := "3b9cb5763d14ec6848f5553eb22e34902d8fc6356a43062806a3f4377eaa9393", func := "loop.example/g01309/laws.FnExactDegreeSum", spec := "fnExactDegreeSum", inPlace := ["math.Float64bits", "math.Float64frombits"], unfollowed := true, recurses := true, apart := false }
def FnExactDegreeSumSaid : Prop := fnExactDegreeSumRow.holds Try.pinned (OpenSpec.ofChange fnExactDegreeSumSpec)

/-- ITS FALSE NEIGHBOUR: 'it returns false'. Refute it at one input. -/
def fnExactDegreeSumWrong : ChangeSpec := { name := "fnExactDegreeSum", fn := fun _ => fun
  | [d1, d2] => { results := [.lit (.bool false)], args := [d1, d2] }
  | _ => none }
def FnExactDegreeSumWrongFalsely : Prop := fnExactDegreeSumRow.holds Try.pinned (OpenSpec.ofChange fnExactDegreeSumWrong)

/- THE SECOND FORM. 'bulk': how many values and letters a reading holds, each counted each time it is reached (what is shared counts as often as it is met; a slice's spare places count too). A statement '..UptoSaid' is the law's where the arguments, and the package variables that the reading takes, are together of bulk at most 1048576: NARROWER than '..Said'. Prove '..Said' where nothing that the law and all that it calls make is longer than what came in: it says more and counts as full. Else prove '..UptoSaid'. A law counts once. -/
mutual
def uptoBulk {H : Type} : DataW H → Nat
  | .lit (.string bytes) => bytes.length + 1
  | .lit _ => 1
  | .nil => 1
  | .ptr d => uptoBulk d + 1
  | .slice elems spare => uptoBulkAll elems + uptoBulkAll spare + 1
  | .agg parts => uptoBulkAll parts + 1
  | .iface _ d => uptoBulk d + 1
  | .map entries => uptoBulkEntries entries + 1
  | .held _ => 1
def uptoBulkAll {H : Type} : List (DataW H) → Nat
  | [] => 0
  | d :: r => uptoBulk d + uptoBulkAll r
def uptoBulkEntries {H : Type} : List (Lit × DataW H) → Nat
  | [] => 0
  | x :: r => uptoBulkEntry x + uptoBulkEntries r
def uptoBulkEntry {H : Type} : Lit × DataW H → Nat
  | (.string bytes, d) => bytes.length + uptoBulk d + 1
  | (_, d) => uptoBulk d + 1
 end
def uptoSmall : (H : Type) → List (DataW H) → Bool := fun _ ds => decide (uptoBulkAll ds ≤ 1048576)
def OpenSpec.upto (s : _root_.Go.ChangeSpec) : _root_.Go.OpenSpec := { _root_.Go.OpenSpec.ofChange s with cond := some uptoSmall }

/-- 'laws.FnExactIsTable', WHERE WHAT IT READS IS OF BULK AT MOST 1048576: true; the input reads as it did. -/
def fnExactIsTableUptoRow : OpenClaim := { program := "ytdemahghjgghkaa", sum := "3b9cb5763d14ec6848f5553eb22e34902d8fc6356a43062806a3f4377eaa9393", func := "loop.example/g01309/laws.FnExactIsTable", spec := "fnExactIsTable", inPlace := ["math.Float64bits", "math.Float64frombits"], unfollowed := true, recurses := true, apart := false, narrowed := true }
def FnExactIsTableUptoSaid : Prop := fnExactIsTableUptoRow.holds Try.pinned (OpenSpec.upto fnExactIsTableSpec)

/-- 'laws.FnExactReadTable', WHERE WHAT IT READS IS OF BULK AT MOST 1048576: true; the input reads as it did. -/
def fnExactReadTableUptoRow : OpenClaim := { program := "ytdemahghjgghkaa", sum := "3b9cb5763d14ec6848f5553eb22e34902d8fc6356a43062806a3f4377eaa9393", func := "loop.example/g01309/laws.FnExactReadTable", spec := "fnExactReadTable", inPlace := ["math.Float64bits", "math.Float64frombits"], unfollowed := true, recurses := true, apart := false, narrowed := true }
def FnExactReadTableUptoSaid : Prop := fnExactReadTableUptoRow.holds Try.pinned (OpenSpec.upto fnExactReadTableSpec)

/-- 'laws.FnExactBackTable', WHERE WHAT IT READS IS OF BULK AT MOST 1048576: true; the input reads as it did. -/
def fnExactBackTableUptoRow : OpenClaim := { program := "ytdemahghjgghkaa", sum := "3b9cb5763d14ec6848f5553eb22e34902d8fc6356a43062806a3f4377eaa9393", func := "loop.example/g01309/laws.FnExactBackTable", spec := "fnExactBackTable", inPlace := ["math.Float64bits", "math.Float64frombits"], unfollowed := true, recurses := true, apart := false, narrowed := true }
def FnExactBackTableUptoSaid : Prop := fnExactBackTableUptoRow.holds Try.pinned (OpenSpec.upto fnExactBackTableSpec)

/-- 'laws.FnExactDegreeDays', WHERE WHAT IT READS IS OF BULK AT MOST 1048576: true; the input reads as it did. -/
def fnExactDegreeDaysUptoRow : OpenClaim := { program := "ytdemahghjgghkaa", sum := "3b9cb5763d14ec6848f5553eb22e34902d8fc6356a43062806a3f4377eaa9393", func := "loop.example/g01309/laws.FnExactDegreeDays", spec := "fnExactDegreeDays", inPlace := ["math.Float64bits", "math.Float64frombits"], unfollowed := true, recurses := true, apart := false, narrowed := true }
def FnExactDegreeDaysUptoSaid : Prop := fnExactDegreeDaysUptoRow.holds Try.pinned (OpenSpec.upto fnExactDegreeDaysSpec)

/-- 'laws.FnExactFrostIn', WHERE WHAT IT READS IS OF BULK AT MOST 1048576: true; the input reads as it did. -/
def fnExactFrostInUptoRow : OpenClaim := { program := "ytdemahghjgghkaa", sum := "3b9cb5763d14ec6848f5553eb22e34902d8fc6356a43062806a3f4377eaa9393", func := "loop.example/g01309/laws.FnExactFrostIn", spec := "fnExactFrostIn", inPlace := ["math.Float64bits", "math.Float64frombits"], unfollowed := true, recurses := true, apart := false, narrowed := true }
def FnExactFrostInUptoSaid : Prop := fnExactFrostInUptoRow.holds Try.pinned (OpenSpec.upto fnExactFrostInSpec)

/-- 'laws.FnExactFitLine', WHERE WHAT IT READS IS OF BULK AT MOST 1048576: true; the input reads as it did. -/
def fnExactFitLineUptoRow : OpenClaim := { program := "ytdemahghjgghkaa", sum := "3b9cb5763d14ec6848f5553eb22e34902d8fc6356a43062806a3f4377eaa9393", func := "loop.example/g01309/laws.FnExactFitLine", spec := "fnExactFitLine", inPlace := ["math.Float64bits", "math.Float64frombits"], unfollowed := true, recurses := true, apart := false, narrowed := true }
def FnExactFitLineUptoSaid : Prop := fnExactFitLineUptoRow.holds Try.pinned (OpenSpec.upto fnExactFitLineSpec)

/-- 'laws.FnExactLineMiss', WHERE WHAT IT READS IS OF BULK AT MOST 1048576: true; the input reads as it did. -/
def fnExactLineMissUptoRow : OpenClaim := { program := "ytdemahghjgghkaa", sum := "3b9cb5763d14ec6848f5553eb22e34902d8fc6356a43062806a3f4377eaa9393", func := "loop.example/g01309/laws.FnExactLineMiss", spec := "fnExactLineMiss", inPlace := ["math.Float64bits", "math.Float64frombits"], unfollowed := true, recurses := true, apart := false, narrowed := true }
def FnExactLineMissUptoSaid : Prop := fnExactLineMissUptoRow.holds Try.pinned (OpenSpec.upto fnExactLineMissSpec)

/-- 'laws.FnExactDriftGuess', WHERE WHAT IT READS IS OF BULK AT MOST 1048576: true; the input reads as it did. -/
def fnExactDriftGuessUptoRow : OpenClaim := { program := "ytdemahghjgghkaa", sum := "3b9cb5763d14ec6848f5553eb22e34902d8fc6356a43062806a3f4377eaa9393", func := "loop.example/g01309/laws.FnExactDriftGuess", spec := "fnExactDriftGuess", inPlace := ["math.Float64bits", "math.Float64frombits"], apart := false, narrowed := true }
def FnExactDriftGuessUptoSaid : Prop := fnExactDriftGuessUptoRow.holds Try.pinned (OpenSpec.upto fnExactDriftGuessSpec)

/-- 'laws.FnExactMeetGuess', WHERE WHAT IT READS IS OF BULK AT MOST 1048576: true; the input reads as it did. -/
def fnExactMeetGuessUptoRow : OpenClaim := { program := "ytdemahghjgghkaa", sum := "3b9cb5763d14ec6848f5553eb22e34902d8fc6356a43062806a3f4377eaa9393", func := "loop.example/g01309/laws.FnExactMeetGuess", spec := "fnExactMeetGuess", inPlace := ["math.Float64bits", "math.Float64frombits"], apart := false, narrowed := true }
def FnExactMeetGuessUptoSaid : Prop := fnExactMeetGuessUptoRow.holds Try.pinned (OpenSpec.upto fnExactMeetGuessSpec)

/-- 'laws.FnExactTimeTo', WHERE WHAT IT READS IS OF BULK AT MOST 1048576: true; the input reads as it did. -/
def fnExactTimeToUptoRow : OpenClaim := { program := "ytdemahghjgghkaa", sum := "3b9cb5763d14ec6848f5553eb22e34902d8fc6356a43062806a3f4377eaa9393", func := "loop.example/g01309/laws.FnExactTimeTo", spec := "fnExactTimeTo", inPlace := ["math.Float64frombits", "math.Float64bits", "math.Float32frombits"], unfollowed := true, recurses := true, apart := false, narrowed := true }
def FnExactTimeToUptoSaid : Prop := fnExactTimeToUptoRow.holds Try.pinned (OpenSpec.upto fnExactTimeToSpec)

/-- 'laws.FnExactCoolTo', WHERE WHAT IT READS IS OF BULK AT MOST 1048576: true; the input reads as it did. -/
def fnExactCoolToUptoRow : OpenClaim := { program := "ytdemahghjgghkaa", sum := "3b9cb5763d14ec6848f5553eb22e34902d8fc6356a43062806a3f4377eaa9393", func := "loop.example/g01309/laws.FnExactCoolTo", spec := "fnExactCoolTo", inPlace := ["math.Float64frombits", "math.Float64bits"], apart := false, narrowed := true }
def FnExactCoolToUptoSaid : Prop := fnExactCoolToUptoRow.holds Try.pinned (OpenSpec.upto fnExactCoolToSpec)

/-- 'laws.FnExactDegreeSum', WHERE WHAT IT READS IS OF BULK AT MOST 1048576: true; the input reads as it did. -/
def fnExactDegreeSumUptoRow : OpenClaim := { program := "ytdemahghjgghkaa", sum := "3b9cb5763d14ec6848f5553eb22e34902d8fc6356a43062806a3f4377eaa9393", func := "loop.example/g01309/laws.FnExactDegreeSum", spec := "fnExactDegreeSum", inPlace := ["math.Float64bits", "math.Float64frombits"], unfollowed := true, recurses := true, apart := false, narrowed := true }
def FnExactDegreeSumUptoSaid : Prop := fnExactDegreeSumUptoRow.holds Try.pinned (OpenSpec.upto fnExactDegreeSumSpec)

end Rows
end Go.Proofs.Ytdemahghjgghkaa
