/-
  No cell of these rows narrows 'for every input' (looked for: loops, veiled, ifaces, maps, wideKeys, modest, calm, conditions, laid).
  DERIVED. THE GIVEN ROWS OF THIS SEAT. 12 by the template 'for every input the law returns true; each argument reads behind the call as it read before'; 0 by the template 'total and deterministic' (their statements: YtcjhaeiknenajaaTotals.lean).
  GIVEN WITH THE SEED: the statements are not yours to turn. If you find one false, say at which input.
  Laid BY PROGRAM, IN A SANDBOX (cutbox-rows.mjs): the forced cells as the released guide's own fill.sh prints them over the translation ff37a2915aadcdbd… (all of the seat's roots in one cut). By AI agents, Wed Nov 11 2026. No macro, syntax, notation, axiom, sorry.
-/
import Derived.Test.YtcjhaeiknenajaaChecked
import GoSem.Claim
import GoSem.ClaimJoined
import GoSem.ClaimMapViews
import Derived.JoinedTies
import Derived.KernelRfl
namespace Go.Proofs.Ytcjhaeiknenajaa
/- THE CELL 'sum', in the pinned program and in every row, IS THE sha256 OF THE DUMP (.gsa) THAT YtcjhaeiknenajaaProg.lean LOADS. Nothing in Lean hashes anything: it is a label: what it is worth is what the hold of that sum in a sandbox is worth. -/
noncomputable def Try.pinned : Pinned := { name := "ytcjhaeiknenajaa", sum := "ff37a2915aadcdbd3a4d7c41a8d3f812d7c67f008cc8346f85fc941d366e0263", checked := Try.checked }
namespace Rows
def none {H : Type} : Left H := { results := [], args := [] }

/-- 'laws.FnExactValidPlate': WHATEVER THE INPUT: true; the input reads as it did. -/
def fnExactValidPlateSpec : ChangeSpec := { name := "fnExactValidPlate", fn := fun _ => fun
  | [d] => { results := [.lit (.bool true)], args := [d] }
  | _ => none }
def fnExactValidPlateRow : OpenClaim := { program := "ytcjhaeiknenajaa", sum := "ff37a2915aadcdbd3a4d7c41a8d3f812d7c67f008cc8346f85fc941d366e0263", func := "loop.example/g01309/laws.FnExactValidPlate", spec := "fnExactValidPlate", inPlace := ["math.Float64bits", "math.Float64frombits"], unfollowed := true, recurses := true, apart := false }
def FnExactValidPlateSaid : Prop := fnExactValidPlateRow.holds Try.pinned (OpenSpec.ofChange fnExactValidPlateSpec)

/-- ITS FALSE NEIGHBOUR: 'it returns false'. Refute it at one input. -/
def fnExactValidPlateWrong : ChangeSpec := { name := "fnExactValidPlate", fn := fun _ => fun
  | [d] => { results := [.lit (.bool false)], args := [d] }
  | _ => none }
def FnExactValidPlateWrongFalsely : Prop := fnExactValidPlateRow.holds Try.pinned (OpenSpec.ofChange fnExactValidPlateWrong)

/-- 'laws.FnExactSamePlate': WHATEVER THE INPUT: true; the input reads as it did. -/
def fnExactSamePlateSpec : ChangeSpec := { name := "fnExactSamePlate", fn := fun _ => fun
  | [d1, d2] => { results := [.lit (.bool true)], args := [d1, d2] }
  | _ => none }
def fnExactSamePlateRow : OpenClaim := { program := "ytcjhaeiknenajaa", sum := "ff37a2915aadcdbd3a4d7c41a8d3f812d7c67f008cc8346f85fc941d366e0263", func := "loop.example/g01309/laws.FnExactSamePlate", spec := "fnExactSamePlate", inPlace := ["math.Float32bits"], unfollowed := true, recurses := true, apart := false }
def FnExactSamePlateSaid : Prop := fnExactSamePlateRow.holds Try.pinned (OpenSpec.ofChange fnExactSamePlateSpec)

/-- ITS FALSE NEIGHBOUR: 'it returns false'. Refute it at one input. -/
def fnExactSamePlateWrong : ChangeSpec := { name := "fnExactSamePlate", fn := fun _ => fun
  | [d1, d2] => { results := [.lit (.bool false)], args := [d1, d2] }
  | _ => none }
def FnExactSamePlateWrongFalsely : Prop := fnExactSamePlateRow.holds Try.pinned (OpenSpec.ofChange fnExactSamePlateWrong)

/-- 'laws.FnExactPassOfCells': WHATEVER THE INPUT: true; the input reads as it did. -/
def fnExactPassOfCellsSpec : ChangeSpec := { name := "fnExactPassOfCells", fn := fun _ => fun
  | [d1, d2, d3] => { results := [.lit (.bool true)], args := [d1, d2, d3] }
  | _ => none }
def fnExactPassOfCellsRow : OpenClaim := { program := "ytcjhaeiknenajaa", sum := "ff37a2915aadcdbd3a4d7c41a8d3f812d7c67f008cc8346f85fc941d366e0263", func := "loop.example/g01309/laws.FnExactPassOfCells", spec := "fnExactPassOfCells", inPlace := ["math.Float64bits", "math.Float64frombits"], unfollowed := true, recurses := true, apart := false }
def FnExactPassOfCellsSaid : Prop := fnExactPassOfCellsRow.holds Try.pinned (OpenSpec.ofChange fnExactPassOfCellsSpec)

/-- ITS FALSE NEIGHBOUR: 'it returns false'. Refute it at one input. -/
def fnExactPassOfCellsWrong : ChangeSpec := { name := "fnExactPassOfCells", fn := fun _ => fun
  | [d1, d2, d3] => { results := [.lit (.bool false)], args := [d1, d2, d3] }
  | _ => none }
def FnExactPassOfCellsWrongFalsely : Prop := fnExactPassOfCellsRow.holds Try.pinned (OpenSpec.ofChange fnExactPassOfCellsWrong)

/-- 'laws.FnExactFlowInto': WHATEVER THE INPUT: true; the input reads as it did. -/
def fnExactFlowIntoSpec : ChangeSpec := { name := "fnExactFlowInto", fn := fun _ => fun
  | [d1, d2] => { results := [.lit (.bool true)], args := [d1, d2] }
  | _ => none }
def fnExactFlowIntoRow : OpenClaim := { program := "ytcjhaeiknenajaa", sum := "ff37a2915aadcdbd3a4d7c41a8d3f812d7c67f008cc8346f85fc941d366e0263", func := "loop.example/g01309/laws.FnExactFlowInto", spec := "fnExactFlowInto", inPlace := ["math.Float64bits", "math.Float64frombits"], unfollowed := true, recurses := true, apart := false }
def FnExactFlowIntoSaid : Prop := fnExactFlowIntoRow.holds Try.pinned (OpenSpec.ofChange fnExactFlowIntoSpec)

/-- ITS FALSE NEIGHBOUR: 'it returns false'. Refute it at one input. -/
def fnExactFlowIntoWrong : ChangeSpec := { name := "fnExactFlowInto", fn := fun _ => fun
  | [d1, d2] => { results := [.lit (.bool false)], args := [d1, d2] }
  | _ => none }
def FnExactFlowIntoWrongFalsely : Prop := fnExactFlowIntoRow.holds Try.pinned (OpenSpec.ofChange fnExactFlowIntoWrong)

/-- 'laws.FnExactMissOfPlate': WHATEVER THE INPUT: true; the input reads as it did. -/
def fnExactMissOfPlateSpec : ChangeSpec := { name := "fnExactMissOfPlate", fn := fun _ => fun
  | [d] => { results := [.lit (.bool true)], args := [d] }
  | _ => none }
def fnExactMissOfPlateRow : OpenClaim := { program := "ytcjhaeiknenajaa", sum := "ff37a2915aadcdbd3a4d7c41a8d3f812d7c67f008cc8346f85fc941d366e0263", func := "loop.example/g01309/laws.FnExactMissOfPlate", spec := "fnExactMissOfPlate", inPlace := ["math.Float64bits", "math.Float64frombits"], unfollowed := true, recurses := true, apart := false }
def FnExactMissOfPlateSaid : Prop := fnExactMissOfPlateRow.holds Try.pinned (OpenSpec.ofChange fnExactMissOfPlateSpec)

/-- ITS FALSE NEIGHBOUR: 'it returns false'. Refute it at one input. -/
def fnExactMissOfPlateWrong : ChangeSpec := { name := "fnExactMissOfPlate", fn := fun _ => fun
  | [d] => { results := [.lit (.bool false)], args := [d] }
  | _ => none }
def FnExactMissOfPlateWrongFalsely : Prop := fnExactMissOfPlateRow.holds Try.pinned (OpenSpec.ofChange fnExactMissOfPlateWrong)

/-- 'laws.FnExactHeldFlow': WHATEVER THE INPUT: true; the input reads as it did. -/
def fnExactHeldFlowSpec : ChangeSpec := { name := "fnExactHeldFlow", fn := fun _ => fun
  | [d] => { results := [.lit (.bool true)], args := [d] }
  | _ => none }
def fnExactHeldFlowRow : OpenClaim := { program := "ytcjhaeiknenajaa", sum := "ff37a2915aadcdbd3a4d7c41a8d3f812d7c67f008cc8346f85fc941d366e0263", func := "loop.example/g01309/laws.FnExactHeldFlow", spec := "fnExactHeldFlow", inPlace := ["math.Float64bits", "math.Float64frombits"], unfollowed := true, recurses := true, apart := false }
def FnExactHeldFlowSaid : Prop := fnExactHeldFlowRow.holds Try.pinned (OpenSpec.ofChange fnExactHeldFlowSpec)

/-- ITS FALSE NEIGHBOUR: 'it returns false'. Refute it at one input. -/
def fnExactHeldFlowWrong : ChangeSpec := { name := "fnExactHeldFlow", fn := fun _ => fun
  | [d] => { results := [.lit (.bool false)], args := [d] }
  | _ => none }
def FnExactHeldFlowWrongFalsely : Prop := fnExactHeldFlowRow.holds Try.pinned (OpenSpec.ofChange fnExactHeldFlowWrong)

/-- 'laws.FnExactGainOfPlate': WHATEVER THE INPUT: true; the input reads as it did. -/
def fnExactGainOfPlateSpec : ChangeSpec := { name := "fnExactGainOfPlate", fn := fun _ => fun
  | [d] => { results := [.lit (.bool true)], args := [d] }
  | _ => none }
def fnExactGainOfPlateRow : OpenClaim := { program := "ytcjhaeiknenajaa", sum := "ff37a2915aadcdbd3a4d7c41a8d3f812d7c67f008cc8346f85fc941d366e0263", func := "loop.example/g01309/laws.FnExactGainOfPlate", spec := "fnExactGainOfPlate", inPlace := ["math.Float64bits", "math.Float64frombits"], unfollowed := true, recurses := true, apart := false }
def FnExactGainOfPlateSaid : Prop := fnExactGainOfPlateRow.holds Try.pinned (OpenSpec.ofChange fnExactGainOfPlateSpec)

/-- ITS FALSE NEIGHBOUR: 'it returns false'. Refute it at one input. -/
def fnExactGainOfPlateWrong : ChangeSpec := { name := "fnExactGainOfPlate", fn := fun _ => fun
  | [d] => { results := [.lit (.bool false)], args := [d] }
  | _ => none }
def FnExactGainOfPlateWrongFalsely : Prop := fnExactGainOfPlateRow.holds Try.pinned (OpenSpec.ofChange fnExactGainOfPlateWrong)

/-- 'laws.FnExactMeanOfPlate': WHATEVER THE INPUT: true; the input reads as it did. -/
def fnExactMeanOfPlateSpec : ChangeSpec := { name := "fnExactMeanOfPlate", fn := fun _ => fun
  | [d] => { results := [.lit (.bool true)], args := [d] }
  | _ => none }
def fnExactMeanOfPlateRow : OpenClaim := { program := "ytcjhaeiknenajaa", sum := "ff37a2915aadcdbd3a4d7c41a8d3f812d7c67f008cc8346f85fc941d366e0263", func := "loop.example/g01309/laws.FnExactMeanOfPlate", spec := "fnExactMeanOfPlate", inPlace := ["math.Float64bits", "math.Float64frombits"], unfollowed := true, recurses := true, apart := false }
def FnExactMeanOfPlateSaid : Prop := fnExactMeanOfPlateRow.holds Try.pinned (OpenSpec.ofChange fnExactMeanOfPlateSpec)

/-- ITS FALSE NEIGHBOUR: 'it returns false'. Refute it at one input. -/
def fnExactMeanOfPlateWrong : ChangeSpec := { name := "fnExactMeanOfPlate", fn := fun _ => fun
  | [d] => { results := [.lit (.bool false)], args := [d] }
  | _ => none }
def FnExactMeanOfPlateWrongFalsely : Prop := fnExactMeanOfPlateRow.holds Try.pinned (OpenSpec.ofChange fnExactMeanOfPlateWrong)

/-- 'laws.FnExactRangeOfPlate': WHATEVER THE INPUT: true; the input reads as it did. -/
def fnExactRangeOfPlateSpec : ChangeSpec := { name := "fnExactRangeOfPlate", fn := fun _ => fun
  | [d] => { results := [.lit (.bool true)], args := [d] }
  | _ => none }
def fnExactRangeOfPlateRow : OpenClaim := { program := "ytcjhaeiknenajaa", sum := "ff37a2915aadcdbd3a4d7c41a8d3f812d7c67f008cc8346f85fc941d366e0263", func := "loop.example/g01309/laws.FnExactRangeOfPlate", spec := "fnExactRangeOfPlate", inPlace := ["math.Float64bits", "math.Float64frombits"], unfollowed := true, recurses := true, apart := false }
def FnExactRangeOfPlateSaid : Prop := fnExactRangeOfPlateRow.holds Try.pinned (OpenSpec.ofChange fnExactRangeOfPlateSpec)

/-- ITS FALSE NEIGHBOUR: 'it returns false'. Refute it at one input. -/
def fnExactRangeOfPlateWrong : ChangeSpec := { name := "fnExactRangeOfPlate", fn := fun _ => fun
  | [d] => { results := [.lit (.bool false)], args := [d] }
  | _ => none }
def FnExactRangeOfPlateWrongFalsely : Prop := fnExactRangeOfPlateRow.holds Try.pinned (OpenSpec.ofChange fnExactRangeOfPlateWrong)

/-- 'laws.FnExactFluxAt': WHATEVER THE INPUT: true; the input reads as it did. -/
def fnExactFluxAtSpec : ChangeSpec := { name := "fnExactFluxAt", fn := fun _ => fun
  | [d1, d2] => { results := [.lit (.bool true)], args := [d1, d2] }
  | _ => none }
def fnExactFluxAtRow : OpenClaim := { program := "ytcjhaeiknenajaa", sum := "ff37a2915aadcdbd3a4d7c41a8d3f812d7c67f008cc8346f85fc941d366e0263", func := "loop.example/g01309/laws.FnExactFluxAt", spec := "fnExactFluxAt", inPlace := ["math.Float64bits", "math.Float64frombits"], unfollowed := true, recurses := true, apart := false }
def FnExactFluxAtSaid : Prop := fnExactFluxAtRow.holds Try.pinned (OpenSpec.ofChange fnExactFluxAtSpec)

/-- ITS FALSE NEIGHBOUR: 'it returns false'. Refute it at one input. -/
def fnExactFluxAtWrong : ChangeSpec := { name := "fnExactFluxAt", fn := fun _ => fun
  | [d1, d2] => { results := [.lit (.bool false)], args := [d1, d2] }
  | _ => none }
def FnExactFluxAtWrongFalsely : Prop := fnExactFluxAtRow.holds Try.pinned (OpenSpec.ofChange fnExactFluxAtWrong)

/-- 'laws.FnExactIslandsOver': WHATEVER THE INPUT: true; the input reads as it did. -/
def fnExactIslandsOverSpec : ChangeSpec := { name := "fnExactIslandsOver", fn := fun _ => fun
  | [d1, d2] => { results := [.lit (.bool true)], args := [d1, d2] }
  | _ => none }
def fnExactIslandsOverRow : OpenClaim := { program := "ytcjhaeiknenajaa", sum := "ff37a2915aadcdbd3a4d7c41a8d3f812d7c67f008cc8346f85fc941d366e0263", func := "loop.example/g01309/laws.FnExactIslandsOver", spec := "fnExactIslandsOver", inPlace := ["math.Float64bits", "math.Float64frombits"], unfollowed := true, recurses := true, apart := false }
def FnExactIslandsOverSaid : Prop := fnExactIslandsOverRow.holds Try.pinned (OpenSpec.ofChange fnExactIslandsOverSpec)

/-- ITS FALSE NEIGHBOUR: 'it returns false'. Refute it at one input. -/
def fnExactIslandsOverWrong : ChangeSpec := { name := "fnExactIslandsOver", fn := fun _ => fun
  | [d1, d2] => { results := [.lit (.bool false)], args := [d1, d2] }
  | _ => none }
def FnExactIslandsOverWrongFalsely : Prop := fnExactIslandsOverRow.holds Try.pinned (OpenSpec.ofChange fnExactIslandsOverWrong)

/-- 'laws.FnExactCoolPath': WHATEVER THE INPUT: true; the input reads as it did. -/
def fnExactCoolPathSpec : ChangeSpec := { name := "fnExactCoolPath", fn := fun _ => fun
  | [d1, d2] => { results := [.lit (.bool true)], args := [d1, d2] }
  | _ => none }
def fnExactCoolPathRow : OpenClaim := { program := "ytcjhaeiknenajaa", sum := "ff37a2915aadcdbd3a4d7c41a8d3f812d7c67f008cc8346f85fc941d366e0263", func := "loop.example/g01309/laws.FnExactCoolPath", spec := "fnExactCoolPath", inPlace := ["math.Float64bits", "math.Float64frombits"], unfollowed := true, recurses := true, apart := false }
def FnExactCoolPathSaid : Prop := fnExactCoolPathRow.holds Try.pinned (OpenSpec.ofChange fnExactCoolPathSpec)

/-- ITS FALSE NEIGHBOUR: 'it returns false'. Refute it at one input. -/
def fnExactCoolPathWrong : ChangeSpec := { name := "fnExactCoolPath", fn := fun _ => fun
  | [d1, d2] => { results := [.lit (.bool false)], args := [d1, d2] }
  | _ => none }
def FnExactCoolPathWrongFalsely : Prop := fnExactCoolPathRow.holds Try.pinned (OpenSpec.ofChange fnExactCoolPathWrong)

/- THE SECOND FORM. 'bulk': how many values and letters a reading holds, each counted each time it is reached (what is shared counts as often as it is met; a slice's spare places count too). A statement '..UptoSaid' is the law's where the arguments, and the package variables that the reading takes, are together of bulk at most 1048576: NARROWER than '..Said'. Prove '..Said' where nothing that the law and all that it calls make is longer than what came in: it says more and counts as full. Else prove '..UptoSaid'. A law counts once. -/
mutual
def uptoBulk {H : Type} : DataW H → Nat
  | .lit (.string bytes) => bytes.length + 1
  | .lit _ => 1
  | .nil => 1
  | .ptr d => uptoBulk d + 1
  | .slice elems spare => uptoBulkAll elems + uptoBulkAll spare + 1
  | .agg parts => uptoBulkAll parts + 1
  | .iface _ d => uptoBulk d + 1
  | .map entries => uptoBulkEntries entries + 1
  | .held _ => 1
def uptoBulkAll {H : Type} : List (DataW H) → Nat
  | [] => 0
  | d :: r => uptoBulk d + uptoBulkAll r
def uptoBulkEntries {H : Type} : List (Lit × DataW H) → Nat
  | [] => 0
  | x :: r => uptoBulkEntry x + uptoBulkEntries r
def uptoBulkEntry {H : Type} : Lit × DataW H → Nat
  | (.string bytes, d) => bytes.length + uptoBulk d + 1
  | (_, d) => uptoBulk d + 1
 end
def uptoSmall : (H : Type) → List (DataW H) → Bool := fun _ ds => decide (uptoBulkAll ds ≤ 1048576)
def OpenSpec.upto (s : _root_.Go.ChangeSpec) : _root_.Go.OpenSpec := { _root_.Go.OpenSpec.ofChange s with cond := some uptoSmall }

/-- 'laws.FnExactValidPlate', WHERE WHAT IT READS IS OF BULK AT MOST 1048576: true; the input reads as it did. -/
def fnExactValidPlateUptoRow : OpenClaim := { program := "ytcjhaeiknenajaa", sum := "ff37a2915aadcdbd3a4d7c41a8d3f812d7c67f008cc8346f85fc941d366e0263", func := "loop.example/g01309/laws.FnExactValidPlate", spec := "fnExactValidPlate", inPlace := ["math.Float64bits", "math.Float64frombits"], unfollowed := true, recurses := true, apart := false, narrowed := true }
def FnExactValidPlateUptoSaid : Prop := fnExactValidPlateUptoRow.holds Try.pinned (OpenSpec.upto fnExactValidPlateSpec)

/-- 'laws.FnExactSamePlate', WHERE WHAT IT READS IS OF BULK AT MOST 1048576: true; the input reads as it did. -/
def fnExactSamePlateUptoRow : OpenClaim := { program := "ytcjhaeiknenajaa", sum := "ff37a2915aadcdbd3a4d7c41a8d3f812d7c67f008cc8346f85fc941d366e0263", func := "loop.example/g01309/laws.FnExactSamePlate", spec := "fnExactSamePlate", inPlace := ["math.Float32bits"], unfollowed := true, recurses := true, apart := false, narrowed := true }
def FnExactSamePlateUptoSaid : Prop := fnExactSamePlateUptoRow.holds Try.pinned (OpenSpec.upto fnExactSamePlateSpec)

/-- 'laws.FnExactPassOfCells', WHERE WHAT IT READS IS OF BULK AT MOST 1048576: true; the input reads as it did. -/
def fnExactPassOfCellsUptoRow : OpenClaim := { program := "ytcjhaeiknenajaa", sum := "ff37a2915aadcdbd3a4d7c41a8d3f812d7c67f008cc8346f85fc941d366e0263", func := "loop.example/g01309/laws.FnExactPassOfCells", spec := "fnExactPassOfCells", inPlace := ["math.Float64bits", "math.Float64frombits"], unfollowed := true, recurses := true, apart := false, narrowed := true }
def FnExactPassOfCellsUptoSaid : Prop := fnExactPassOfCellsUptoRow.holds Try.pinned (OpenSpec.upto fnExactPassOfCellsSpec)

/-- 'laws.FnExactFlowInto', WHERE WHAT IT READS IS OF BULK AT MOST 1048576: true; the input reads as it did. -/
def fnExactFlowIntoUptoRow : OpenClaim := { program := "ytcjhaeiknenajaa", sum := "ff37a2915aadcdbd3a4d7c41a8d3f812d7c67f008cc8346f85fc941d366e0263", func := "loop.example/g01309/laws.FnExactFlowInto", spec := "fnExactFlowInto", inPlace := ["math.Float64bits", "math.Float64frombits"], unfollowed := true, recurses := true, apart := false, narrowed := true }
def FnExactFlowIntoUptoSaid : Prop := fnExactFlowIntoUptoRow.holds Try.pinned (OpenSpec.upto fnExactFlowIntoSpec)

/-- 'laws.FnExactMissOfPlate', WHERE WHAT IT READS IS OF BULK AT MOST 1048576: true; the input reads as it did. -/
def fnExactMissOfPlateUptoRow : OpenClaim := { program := "ytcjhaeiknenajaa", sum := "ff37a2915aadcdbd3a4d7c41a8d3f812d7c67f008cc8346f85fc941d366e0263", func := "loop.example/g01309/laws.FnExactMissOfPlate", spec := "fnExactMissOfPlate", inPlace := ["math.Float64bits", "math.Float64frombits"], unfollowed := true, recurses := true, apart := false, narrowed := true }
def FnExactMissOfPlateUptoSaid : Prop := fnExactMissOfPlateUptoRow.holds Try.pinned (OpenSpec.upto fnExactMissOfPlateSpec)

/-- 'laws.FnExactHeldFlow', WHERE WHAT IT READS IS OF BULK AT MOST 1048576: true; the input reads as it did. -/
def fnExactHeldFlowUptoRow : OpenClaim := { program := "ytcjhaeiknenajaa", sum := "ff37a2915aadcdbd3a4d7c41a8d3f812d7c67f008cc8346f85fc941d366e0263", func := "loop.example/g01309/laws.FnExactHeldFlow", spec := "fnExactHeldFlow", inPlace := ["math.Float64bits", "math.Float64frombits"], unfollowed := true, recurses := true, apart := false, narrowed := true }
def FnExactHeldFlowUptoSaid : Prop := fnExactHeldFlowUptoRow.holds Try.pinned (OpenSpec.upto fnExactHeldFlowSpec)

/-- 'laws.FnExactGainOfPlate', WHERE WHAT IT READS IS OF BULK AT MOST 1048576: true; the input reads as it did. -/
def fnExactGainOfPlateUptoRow : OpenClaim := { program := "ytcjhaeiknenajaa", sum := "ff37a2915aadcdbd3a4d7c41a8d3f812d7c67f008cc8346f85fc941d366e0263", func := "loop.example/g01309/laws.FnExactGainOfPlate", spec := "fnExactGainOfPlate", inPlace := ["math.Float64bits", "math.Float64frombits"], unfollowed := true, recurses := true, apart := false, narrowed := true }
def FnExactGainOfPlateUptoSaid : Prop := fnExactGainOfPlateUptoRow.holds Try.pinned (OpenSpec.upto fnExactGainOfPlateSpec)

/-- 'laws.FnExactMeanOfPlate', WHERE WHAT IT READS IS OF BULK AT MOST 1048576: true; the input reads as it did. -/
def fnExactMeanOfPlateUptoRow : OpenClaim := { program := "ytcjhaeiknenajaa", sum := "ff37a2915aadcdbd3a4d7c41a8d3f812d7c67f008cc8346f85fc941d366e0263", func := "loop.example/g01309/laws.FnExactMeanOfPlate", spec := "fnExactMeanOfPlate", inPlace := ["math.Float64bits", "math.Float64frombits"], unfollowed := true, recurses := true, apart := false, narrowed := true }
def FnExactMeanOfPlateUptoSaid : Prop := fnExactMeanOfPlateUptoRow.holds Try.pinned (OpenSpec.upto fnExactMeanOfPlateSpec)

/-- 'laws.FnExactRangeOfPlate', WHERE WHAT IT READS IS OF BULK AT MOST 1048576: true; the input reads as it did. -/
def fnExactRangeOfPlateUptoRow : OpenClaim := { program := "ytcjhaeiknenajaa", sum := "ff37a2915aadcdbd3a4d7c41a8d3f812d7c67f008cc8346f85fc941d366e0263", func := "loop.example/g01309/laws.FnExactRangeOfPlate", spec := "fnExactRangeOfPlate", inPlace := ["math.Float64bits", "math.Float64frombits"], unfollowed := true, recurses := true, apart := false, narrowed := true }
def FnExactRangeOfPlateUptoSaid : Prop := fnExactRangeOfPlateUptoRow.holds Try.pinned (OpenSpec.upto fnExactRangeOfPlateSpec)

/-- 'laws.FnExactFluxAt', WHERE WHAT IT READS IS OF BULK AT MOST 1048576: true; the input reads as it did. -/
def fnExactFluxAtUptoRow : OpenClaim := { program := "ytcjhaeiknenajaa", sum := "ff37a2915aadcdbd3a4d7c41a8d3f812d7c67f008cc8346f85fc941d366e0263", func := "loop.example/g01309/laws.FnExactFluxAt", spec := "fnExactFluxAt", inPlace := ["math.Float64bits", "math.Float64frombits"], unfollowed := true, recurses := true, apart := false, narrowed := true }
def FnExactFluxAtUptoSaid : Prop := fnExactFluxAtUptoRow.holds Try.pinned (OpenSpec.upto fnExactFluxAtSpec)

/-- 'laws.FnExactIslandsOver', WHERE WHAT IT READS IS OF BULK AT MOST 1048576: true; the input reads as it did. -/
def fnExactIslandsOverUptoRow : OpenClaim := { program := "ytcjhaeiknenajaa", sum := "ff37a2915aadcdbd3a4d7c41a8d3f812d7c67f008cc8346f85fc941d366e0263", func := "loop.example/g01309/laws.FnExactIslandsOver", spec := "fnExactIslandsOver", inPlace := ["math.Float64bits", "math.Float64frombits"], unfollowed := true, recurses := true, apart := false, narrowed := true }
def FnExactIslandsOverUptoSaid : Prop := fnExactIslandsOverUptoRow.holds Try.pinned (OpenSpec.upto fnExactIslandsOverSpec)

/-- 'laws.FnExactCoolPath', WHERE WHAT IT READS IS OF BULK AT MOST 1048576: true; the input reads as it did. -/
def fnExactCoolPathUptoRow : OpenClaim := { program := "ytcjhaeiknenajaa", sum := "ff37a2915aadcdbd3a4d7c41a8d3f812d7c67f008cc8346f85fc941d366e0263", func := "loop.example/g01309/laws.FnExactCoolPath", spec := "fnExactCoolPath", inPlace := ["math.Float64bits", "math.Float64frombits"], unfollowed := true, recurses := true, apart := false, narrowed := true }
def FnExactCoolPathUptoSaid : Prop := fnExactCoolPathUptoRow.holds Try.pinned (OpenSpec.upto fnExactCoolPathSpec)

end Rows
end Go.Proofs.Ytcjhaeiknenajaa
