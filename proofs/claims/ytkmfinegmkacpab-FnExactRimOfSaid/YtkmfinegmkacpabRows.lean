/-
  No cell of these rows narrows 'for every input' (looked for: loops, veiled, ifaces, maps, wideKeys, modest, calm, conditions, laid).
  DERIVED. THE GIVEN ROWS OF THIS SEAT. 10 by the template 'for every input the law returns true; each argument reads behind the call as it read before'; 0 by the template 'total and deterministic' (their statements: YtkmfinegmkacpabTotals.lean).
  GIVEN WITH THE SEED: the statements are not yours to turn. If you find one false, say at which input.
  Laid BY PROGRAM, IN A SANDBOX (cutbox-rows.mjs): the forced cells as the released guide's own fill.sh prints them over the translation a6226407d1a3003e… (all of the seat's roots in one cut). By AI agents, Wed Nov 11 2026. No macro, syntax, notation, axiom, sorry.
-/
import Derived.Test.YtkmfinegmkacpabChecked
import GoSem.Claim
import GoSem.ClaimJoined
import GoSem.ClaimMapViews
import Derived.JoinedTies
import Derived.KernelRfl
namespace Go.Proofs.Ytkmfinegmkacpab
/- THE CELL 'sum', in the pinned program and in every row, IS THE sha256 OF THE DUMP (.gsa) THAT YtkmfinegmkacpabProg.lean LOADS. Nothing in Lean hashes anything: it is a label: what it is worth is what the hold of that sum in a sandbox is worth. -/
noncomputable def Try.pinned : Pinned := { name := "ytkmfinegmkacpab", sum := "a6226407d1a3003e572c243921fe1f44c05548b0c691092fe54e77c0b4bea7f1", checked := Try.checked }
namespace Rows
def none {H : Type} : Left H := { results := [], args := [] }

/-- 'laws.FnExactGainCells': WHATEVER THE INPUT: true; the input reads as it did. -/
def fnExactGainCellsSpec : ChangeSpec := { name := "fnExactGainCells", fn := fun _ => fun
  | [d1, d2, d3] => { results := [.lit (.bool true)], args := [d1, d2, d3] }
  | _ => none }
def fnExactGainCellsRow : OpenClaim := { program := "ytkmfinegmkacpab", sum := "a6226407d1a3003e572c243921fe1f44c05548b0c691092fe54e77c0b4bea7f1", func := "loop.example/g01309/laws.FnExactGainCells", spec := "fnExactGainCells", inPlace := ["math.Float64bits", "math.Float64frombits"], unfollowed := true, recurses := true, leaving := true, apart := false }
def FnExactGainCellsSaid : Prop := fnExactGainCellsRow.holds Try.pinned (OpenSpec.ofChange fnExactGainCellsSpec)

/-- ITS FALSE NEIGHBOUR: 'it returns false'. Refute it at one input. -/
def fnExactGainCellsWrong : ChangeSpec := { name := "fnExactGainCells", fn := fun _ => fun
  | [d1, d2, d3] => { results := [.lit (.bool false)], args := [d1, d2, d3] }
  | _ => none }
def FnExactGainCellsWrongFalsely : Prop := fnExactGainCellsRow.holds Try.pinned (OpenSpec.ofChange fnExactGainCellsWrong)

/-- 'laws.FnExactEdgeCells': WHATEVER THE INPUT: true; the input reads as it did. -/
def fnExactEdgeCellsSpec : ChangeSpec := { name := "fnExactEdgeCells", fn := fun _ => fun
  | [d] => { results := [.lit (.bool true)], args := [d] }
  | _ => none }
def fnExactEdgeCellsRow : OpenClaim := { program := "ytkmfinegmkacpab", sum := "a6226407d1a3003e572c243921fe1f44c05548b0c691092fe54e77c0b4bea7f1", func := "loop.example/g01309/laws.FnExactEdgeCells", spec := "fnExactEdgeCells", inPlace := ["math.Float64bits", "math.Float64frombits"], unfollowed := true, recurses := true, leaving := true, apart := false }
def FnExactEdgeCellsSaid : Prop := fnExactEdgeCellsRow.holds Try.pinned (OpenSpec.ofChange fnExactEdgeCellsSpec)

/-- ITS FALSE NEIGHBOUR: 'it returns false'. Refute it at one input. -/
def fnExactEdgeCellsWrong : ChangeSpec := { name := "fnExactEdgeCells", fn := fun _ => fun
  | [d] => { results := [.lit (.bool false)], args := [d] }
  | _ => none }
def FnExactEdgeCellsWrongFalsely : Prop := fnExactEdgeCellsRow.holds Try.pinned (OpenSpec.ofChange fnExactEdgeCellsWrong)

/-- 'laws.FnExactTurnPlate': WHATEVER THE INPUT: true; the input reads as it did. -/
def fnExactTurnPlateSpec : ChangeSpec := { name := "fnExactTurnPlate", fn := fun _ => fun
  | [d] => { results := [.lit (.bool true)], args := [d] }
  | _ => none }
def fnExactTurnPlateRow : OpenClaim := { program := "ytkmfinegmkacpab", sum := "a6226407d1a3003e572c243921fe1f44c05548b0c691092fe54e77c0b4bea7f1", func := "loop.example/g01309/laws.FnExactTurnPlate", spec := "fnExactTurnPlate", inPlace := ["math.Float64bits", "math.Float64frombits"], unfollowed := true, recurses := true, leaving := true, apart := false }
def FnExactTurnPlateSaid : Prop := fnExactTurnPlateRow.holds Try.pinned (OpenSpec.ofChange fnExactTurnPlateSpec)

/-- ITS FALSE NEIGHBOUR: 'it returns false'. Refute it at one input. -/
def fnExactTurnPlateWrong : ChangeSpec := { name := "fnExactTurnPlate", fn := fun _ => fun
  | [d] => { results := [.lit (.bool false)], args := [d] }
  | _ => none }
def FnExactTurnPlateWrongFalsely : Prop := fnExactTurnPlateRow.holds Try.pinned (OpenSpec.ofChange fnExactTurnPlateWrong)

/-- 'laws.FnExactSweepPlate': WHATEVER THE INPUT: true; the input reads as it did. -/
def fnExactSweepPlateSpec : ChangeSpec := { name := "fnExactSweepPlate", fn := fun _ => fun
  | [d1, d2] => { results := [.lit (.bool true)], args := [d1, d2] }
  | _ => none }
def fnExactSweepPlateRow : OpenClaim := { program := "ytkmfinegmkacpab", sum := "a6226407d1a3003e572c243921fe1f44c05548b0c691092fe54e77c0b4bea7f1", func := "loop.example/g01309/laws.FnExactSweepPlate", spec := "fnExactSweepPlate", inPlace := ["math.Float64bits", "math.Float64frombits"], unfollowed := true, recurses := true, leaving := true, apart := false }
def FnExactSweepPlateSaid : Prop := fnExactSweepPlateRow.holds Try.pinned (OpenSpec.ofChange fnExactSweepPlateSpec)

/-- ITS FALSE NEIGHBOUR: 'it returns false'. Refute it at one input. -/
def fnExactSweepPlateWrong : ChangeSpec := { name := "fnExactSweepPlate", fn := fun _ => fun
  | [d1, d2] => { results := [.lit (.bool false)], args := [d1, d2] }
  | _ => none }
def FnExactSweepPlateWrongFalsely : Prop := fnExactSweepPlateRow.holds Try.pinned (OpenSpec.ofChange fnExactSweepPlateWrong)

/-- 'laws.FnExactSweepShared': WHATEVER THE INPUT: true; the input reads as it did. -/
def fnExactSweepSharedSpec : ChangeSpec := { name := "fnExactSweepShared", fn := fun _ => fun
  | [d1, d2, d3] => { results := [.lit (.bool true)], args := [d1, d2, d3] }
  | _ => none }
def fnExactSweepSharedRow : OpenClaim := { program := "ytkmfinegmkacpab", sum := "a6226407d1a3003e572c243921fe1f44c05548b0c691092fe54e77c0b4bea7f1", func := "loop.example/g01309/laws.FnExactSweepShared", spec := "fnExactSweepShared", inPlace := ["(*sync.WaitGroup).Add", "internal/race.ReleaseMerge", "internal/race.Disable", "internal/race.Enable", "internal/synctest.IsInBubble", "internal/synctest.Associate[sync.WaitGroup]", "sync.fatal", "sync/atomic.OrUint64", "sync/atomic.AddUint64", "internal/race.Read", "sync/atomic.LoadUint64", "sync/atomic.StoreUint64", "internal/synctest.Disassociate[sync.WaitGroup]", "sync.runtime_Semrelease", "(*sync.WaitGroup).Done", "(*sync.WaitGroup).Wait", "internal/race.Acquire", "internal/synctest.IsAssociated[sync.WaitGroup]", "sync/atomic.CompareAndSwapUint64", "internal/race.Write", "sync.runtime_SemacquireWaitGroup", "math.Float64bits", "math.Float64frombits"], unfollowed := true, recurses := true, leaving := true, apart := false }
def FnExactSweepSharedSaid : Prop := fnExactSweepSharedRow.holds Try.pinned (OpenSpec.ofChange fnExactSweepSharedSpec)

/-- ITS FALSE NEIGHBOUR: 'it returns false'. Refute it at one input. -/
def fnExactSweepSharedWrong : ChangeSpec := { name := "fnExactSweepShared", fn := fun _ => fun
  | [d1, d2, d3] => { results := [.lit (.bool false)], args := [d1, d2, d3] }
  | _ => none }
def FnExactSweepSharedWrongFalsely : Prop := fnExactSweepSharedRow.holds Try.pinned (OpenSpec.ofChange fnExactSweepSharedWrong)

/-- 'laws.FnExactSolvePlate': WHATEVER THE INPUT: true; the input reads as it did. -/
def fnExactSolvePlateSpec : ChangeSpec := { name := "fnExactSolvePlate", fn := fun _ => fun
  | [d1, d2, d3] => { results := [.lit (.bool true)], args := [d1, d2, d3] }
  | _ => none }
def fnExactSolvePlateRow : OpenClaim := { program := "ytkmfinegmkacpab", sum := "a6226407d1a3003e572c243921fe1f44c05548b0c691092fe54e77c0b4bea7f1", func := "loop.example/g01309/laws.FnExactSolvePlate", spec := "fnExactSolvePlate", inPlace := ["math.Float64bits", "math.Float64frombits"], unfollowed := true, recurses := true, leaving := true, apart := false }
def FnExactSolvePlateSaid : Prop := fnExactSolvePlateRow.holds Try.pinned (OpenSpec.ofChange fnExactSolvePlateSpec)

/-- ITS FALSE NEIGHBOUR: 'it returns false'. Refute it at one input. -/
def fnExactSolvePlateWrong : ChangeSpec := { name := "fnExactSolvePlate", fn := fun _ => fun
  | [d1, d2, d3] => { results := [.lit (.bool false)], args := [d1, d2, d3] }
  | _ => none }
def FnExactSolvePlateWrongFalsely : Prop := fnExactSolvePlateRow.holds Try.pinned (OpenSpec.ofChange fnExactSolvePlateWrong)

/-- 'laws.FnExactStepPlate': WHATEVER THE INPUT: true; the input reads as it did. -/
def fnExactStepPlateSpec : ChangeSpec := { name := "fnExactStepPlate", fn := fun _ => fun
  | [d1, d2] => { results := [.lit (.bool true)], args := [d1, d2] }
  | _ => none }
def fnExactStepPlateRow : OpenClaim := { program := "ytkmfinegmkacpab", sum := "a6226407d1a3003e572c243921fe1f44c05548b0c691092fe54e77c0b4bea7f1", func := "loop.example/g01309/laws.FnExactStepPlate", spec := "fnExactStepPlate", inPlace := ["math.Float64bits", "math.Float64frombits"], unfollowed := true, recurses := true, leaving := true, apart := false }
def FnExactStepPlateSaid : Prop := fnExactStepPlateRow.holds Try.pinned (OpenSpec.ofChange fnExactStepPlateSpec)

/-- ITS FALSE NEIGHBOUR: 'it returns false'. Refute it at one input. -/
def fnExactStepPlateWrong : ChangeSpec := { name := "fnExactStepPlate", fn := fun _ => fun
  | [d1, d2] => { results := [.lit (.bool false)], args := [d1, d2] }
  | _ => none }
def FnExactStepPlateWrongFalsely : Prop := fnExactStepPlateRow.holds Try.pinned (OpenSpec.ofChange fnExactStepPlateWrong)

/-- 'laws.FnExactCrossPlate': WHATEVER THE INPUT: true; the input reads as it did. -/
def fnExactCrossPlateSpec : ChangeSpec := { name := "fnExactCrossPlate", fn := fun _ => fun
  | [d1, d2] => { results := [.lit (.bool true)], args := [d1, d2] }
  | _ => none }
def fnExactCrossPlateRow : OpenClaim := { program := "ytkmfinegmkacpab", sum := "a6226407d1a3003e572c243921fe1f44c05548b0c691092fe54e77c0b4bea7f1", func := "loop.example/g01309/laws.FnExactCrossPlate", spec := "fnExactCrossPlate", inPlace := ["math.Float64bits", "math.Float64frombits"], unfollowed := true, recurses := true, leaving := true, apart := false }
def FnExactCrossPlateSaid : Prop := fnExactCrossPlateRow.holds Try.pinned (OpenSpec.ofChange fnExactCrossPlateSpec)

/-- ITS FALSE NEIGHBOUR: 'it returns false'. Refute it at one input. -/
def fnExactCrossPlateWrong : ChangeSpec := { name := "fnExactCrossPlate", fn := fun _ => fun
  | [d1, d2] => { results := [.lit (.bool false)], args := [d1, d2] }
  | _ => none }
def FnExactCrossPlateWrongFalsely : Prop := fnExactCrossPlateRow.holds Try.pinned (OpenSpec.ofChange fnExactCrossPlateWrong)

/-- 'laws.FnExactRunPlate': WHATEVER THE INPUT: true; the input reads as it did. -/
def fnExactRunPlateSpec : ChangeSpec := { name := "fnExactRunPlate", fn := fun _ => fun
  | [d1, d2, d3, d4] => { results := [.lit (.bool true)], args := [d1, d2, d3, d4] }
  | _ => none }
def fnExactRunPlateRow : OpenClaim := { program := "ytkmfinegmkacpab", sum := "a6226407d1a3003e572c243921fe1f44c05548b0c691092fe54e77c0b4bea7f1", func := "loop.example/g01309/laws.FnExactRunPlate", spec := "fnExactRunPlate", inPlace := ["math.Float64bits", "math.Float64frombits"], unfollowed := true, recurses := true, leaving := true, apart := false }
def FnExactRunPlateSaid : Prop := fnExactRunPlateRow.holds Try.pinned (OpenSpec.ofChange fnExactRunPlateSpec)

/-- ITS FALSE NEIGHBOUR: 'it returns false'. Refute it at one input. -/
def fnExactRunPlateWrong : ChangeSpec := { name := "fnExactRunPlate", fn := fun _ => fun
  | [d1, d2, d3, d4] => { results := [.lit (.bool false)], args := [d1, d2, d3, d4] }
  | _ => none }
def FnExactRunPlateWrongFalsely : Prop := fnExactRunPlateRow.holds Try.pinned (OpenSpec.ofChange fnExactRunPlateWrong)

/-- 'laws.FnExactRimOf': WHATEVER THE INPUT: true; the input reads as it did. -/
def fnExactRimOfSpec : ChangeSpec := { name := "fnExactRimOf", fn := fun _ => fun
  | [d1, d2] => { results := [.lit (.bool true)], args := [d1, d2] }
  | _ => none }
def fnExactRimOfRow : OpenClaim := { program := "ytkmfinegmkacpab", sum := "a6226407d1a3003e572c243921fe1f44c05548b0c691092fe54e77c0b4bea7f1", func := "loop.example/g01309/laws.FnExactRimOf", spec := "fnExactRimOf", inPlace := ["math.Float64bits", "math.Float64frombits"], unfollowed := true, recurses := true, leaving := true, apart := false }
def FnExactRimOfSaid : Prop := fnExactRimOfRow.holds Try.pinned (OpenSpec.ofChange fnExactRimOfSpec)

/-- ITS FALSE NEIGHBOUR: 'it returns false'. Refute it at one input. -/
def fnExactRimOfWrong : ChangeSpec := { name := "fnExactRimOf", fn := fun _ => fun
  | [d1, d2] => { results := [.lit (.bool false)], args := [d1, d2] }
  | _ => none }
def FnExactRimOfWrongFalsely : Prop := fnExactRimOfRow.holds Try.pinned (OpenSpec.ofChange fnExactRimOfWrong)

/- THE SECOND FORM. 'bulk': how many values and letters a reading holds, each counted each time it is reached (what is shared counts as often as it is met; a slice's spare places count too). A statement '..UptoSaid' is the law's where the arguments, and the package variables that the reading takes, are together of bulk at most 1048576: NARROWER than '..Said'. Prove '..Said' where nothing that the law and all that it calls make is longer than what came in: it says more and counts as full. Else prove '..UptoSaid'. A law counts once. -/
mutual
def uptoBulk {H : Type} : DataW H → Nat
  | .lit (.string bytes) => bytes.length + 1
  | .lit _ => 1
  | .nil => 1
  | .ptr d => uptoBulk d + 1
  | .slice elems spare => uptoBulkAll elems + uptoBulkAll spare + 1
  | .agg parts => uptoBulkAll parts + 1
  | .iface _ d => uptoBulk d + 1
  | .map entries => uptoBulkEntries entries + 1
  | .held _ => 1
def uptoBulkAll {H : Type} : List (DataW H) → Nat
  | [] => 0
  | d :: r => uptoBulk d + uptoBulkAll r
def uptoBulkEntries {H : Type} : List (Lit × DataW H) → Nat
  | [] => 0
  | x :: r => uptoBulkEntry x + uptoBulkEntries r
def uptoBulkEntry {H : Type} : Lit × DataW H → Nat
  | (.string bytes, d) => bytes.length + uptoBulk d + 1
  | (_, d) => uptoBulk d + 1
 end
def uptoSmall : (H : Type) → List (DataW H) → Bool := fun _ ds => decide (uptoBulkAll ds ≤ 1048576)
def OpenSpec.upto (s : _root_.Go.ChangeSpec) : _root_.Go.OpenSpec := { _root_.Go.OpenSpec.ofChange s with cond := some uptoSmall }

/-- 'laws.FnExactGainCells', WHERE WHAT IT READS IS OF BULK AT MOST 1048576: true; the input reads as it did. -/
def fnExactGainCellsUptoRow : OpenClaim := { program := "ytkmfinegmkacpab", sum := "a6226407d1a3003e572c243921fe1f44c05548b0c691092fe54e77c0b4bea7f1", func := "loop.example/g01309/laws.FnExactGainCells", spec := "fnExactGainCells", inPlace := ["math.Float64bits", "math.Float64frombits"], unfollowed := true, recurses := true, leaving := true, apart := false, narrowed := true }
def FnExactGainCellsUptoSaid : Prop := fnExactGainCellsUptoRow.holds Try.pinned (OpenSpec.upto fnExactGainCellsSpec)

/-- 'laws.FnExactEdgeCells', WHERE WHAT IT READS IS OF BULK AT MOST 1048576: true; the input reads as it did. -/
def fnExactEdgeCellsUptoRow : OpenClaim := { program := "ytkmfinegmkacpab", sum := "a6226407d1a3003e572c243921fe1f44c05548b0c691092fe54e77c0b4bea7f1", func := "loop.example/g01309/laws.FnExactEdgeCells", spec := "fnExactEdgeCells", inPlace := ["math.Float64bits", "math.Float64frombits"], unfollowed := true, recurses := true, leaving := true, apart := false, narrowed := true }
def FnExactEdgeCellsUptoSaid : Prop := fnExactEdgeCellsUptoRow.holds Try.pinned (OpenSpec.upto fnExactEdgeCellsSpec)

/-- 'laws.FnExactTurnPlate', WHERE WHAT IT READS IS OF BULK AT MOST 1048576: true; the input reads as it did. -/
def fnExactTurnPlateUptoRow : OpenClaim := { program := "ytkmfinegmkacpab", sum := "a6226407d1a3003e572c243921fe1f44c05548b0c691092fe54e77c0b4bea7f1", func := "loop.example/g01309/laws.FnExactTurnPlate", spec := "fnExactTurnPlate", inPlace := ["math.Float64bits", "math.Float64frombits"], unfollowed := true, recurses := true, leaving := true, apart := false, narrowed := true }
def FnExactTurnPlateUptoSaid : Prop := fnExactTurnPlateUptoRow.holds Try.pinned (OpenSpec.upto fnExactTurnPlateSpec)

/-- 'laws.FnExactSweepPlate', WHERE WHAT IT READS IS OF BULK AT MOST 1048576: true; the input reads as it did. -/
def fnExactSweepPlateUptoRow : OpenClaim := { program := "ytkmfinegmkacpab", sum := "a6226407d1a3003e572c243921fe1f44c05548b0c691092fe54e77c0b4bea7f1", func := "loop.example/g01309/laws.FnExactSweepPlate", spec := "fnExactSweepPlate", inPlace := ["math.Float64bits", "math.Float64frombits"], unfollowed := true, recurses := true, leaving := true, apart := false, narrowed := true }
def FnExactSweepPlateUptoSaid : Prop := fnExactSweepPlateUptoRow.holds Try.pinned (OpenSpec.upto fnExactSweepPlateSpec)

/-- 'laws.FnExactSweepShared', WHERE WHAT IT READS IS OF BULK AT MOST 1048576: true; the input reads as it did. -/
def fnExactSweepSharedUptoRow : OpenClaim := { program := "ytkmfinegmkacpab", sum := "a6226407d1a3003e572c243921fe1f44c05548b0c691092fe54e77c0b4bea7f1", func := "loop.example/g01309/laws.FnExactSweepShared", spec := "fnExactSweepShared", inPlace := ["(*sync.WaitGroup).Add", "internal/race.ReleaseMerge", "internal/race.Disable", "internal/race.Enable", "internal/synctest.IsInBubble", "internal/synctest.Associate[sync.WaitGroup]", "sync.fatal", "sync/atomic.OrUint64", "sync/atomic.AddUint64", "internal/race.Read", "sync/atomic.LoadUint64", "sync/atomic.StoreUint64", "internal/synctest.Disassociate[sync.WaitGroup]", "sync.runtime_Semrelease", "(*sync.WaitGroup).Done", "(*sync.WaitGroup).Wait", "internal/race.Acquire", "internal/synctest.IsAssociated[sync.WaitGroup]", "sync/atomic.CompareAndSwapUint64", "internal/race.Write", "sync.runtime_SemacquireWaitGroup", "math.Float64bits", "math.Float64frombits"], unfollowed := true, recurses := true, leaving := true, apart := false, narrowed := true }
def FnExactSweepSharedUptoSaid : Prop := fnExactSweepSharedUptoRow.holds Try.pinned (OpenSpec.upto fnExactSweepSharedSpec)

/-- 'laws.FnExactSolvePlate', WHERE WHAT IT READS IS OF BULK AT MOST 1048576: true; the input reads as it did. -/
def fnExactSolvePlateUptoRow : OpenClaim := { program := "ytkmfinegmkacpab", sum := "a6226407d1a3003e572c243921fe1f44c05548b0c691092fe54e77c0b4bea7f1", func := "loop.example/g01309/laws.FnExactSolvePlate", spec := "fnExactSolvePlate", inPlace := ["math.Float64bits", "math.Float64frombits"], unfollowed := true, recurses := true, leaving := true, apart := false, narrowed := true }
def FnExactSolvePlateUptoSaid : Prop := fnExactSolvePlateUptoRow.holds Try.pinned (OpenSpec.upto fnExactSolvePlateSpec)

/-- 'laws.FnExactStepPlate', WHERE WHAT IT READS IS OF BULK AT MOST 1048576: true; the input reads as it did. -/
def fnExactStepPlateUptoRow : OpenClaim := { program := "ytkmfinegmkacpab", sum := "a6226407d1a3003e572c243921fe1f44c05548b0c691092fe54e77c0b4bea7f1", func := "loop.example/g01309/laws.FnExactStepPlate", spec := "fnExactStepPlate", inPlace := ["math.Float64bits", "math.Float64frombits"], unfollowed := true, recurses := true, leaving := true, apart := false, narrowed := true }
def FnExactStepPlateUptoSaid : Prop := fnExactStepPlateUptoRow.holds Try.pinned (OpenSpec.upto fnExactStepPlateSpec)

/-- 'laws.FnExactCrossPlate', WHERE WHAT IT READS IS OF BULK AT MOST 1048576: true; the input reads as it did. -/
def fnExactCrossPlateUptoRow : OpenClaim := { program := "ytkmfinegmkacpab", sum := "a6226407d1a3003e572c243921fe1f44c05548b0c691092fe54e77c0b4bea7f1", func := "loop.example/g01309/laws.FnExactCrossPlate", spec := "fnExactCrossPlate", inPlace := ["math.Float64bits", "math.Float64frombits"], unfollowed := true, recurses := true, leaving := true, apart := false, narrowed := true }
def FnExactCrossPlateUptoSaid : Prop := fnExactCrossPlateUptoRow.holds Try.pinned (OpenSpec.upto fnExactCrossPlateSpec)

/-- 'laws.FnExactRunPlate', WHERE WHAT IT READS IS OF BULK AT MOST 1048576: true; the input reads as it did. -/
def fnExactRunPlateUptoRow : OpenClaim := { program := "ytkmfinegmkacpab", sum := "a6226407d1a3003e572c243921fe1f44c05548b0c691092fe54e77c0b4bea7f1", func := "loop.example/g01309/laws.FnExactRunPlate", spec := "fnExactRunPlate", inPlace := ["math.Float64bits", "math.Float64frombits"], unfollowed := true, recurses := true, leaving := true, apart := false, narrowed := true }
def FnExactRunPlateUptoSaid : Prop := fnExactRunPlateUptoRow.holds Try.pinned (OpenSpec.upto fnExactRunPlateSpec)

/-- 'laws.FnExactRimOf', WHERE WHAT IT READS IS OF BULK AT MOST 1048576: true; the input reads as it did. -/
def fnExactRimOfUptoRow : OpenClaim := { program := "ytkmfinegmkacpab", sum := "a6226407d1a3003e572c243921fe1f44c05548b0c691092fe54e77c0b4bea7f1", func := "loop.example/g01309/laws.FnExactRimOf", spec := "fnExactRimOf", inPlace := ["math.Float64bits", "math.Float64frombits"], unfollowed := true, recurses := true, leaving := true, apart := false, narrowed := true }
def FnExactRimOfUptoSaid : Prop := fnExactRimOfUptoRow.holds Try.pinned (OpenSpec.upto fnExactRimOfSpec)

end Rows
end Go.Proofs.Ytkmfinegmkacpab
