/-
  No cell of these rows narrows 'for every input' (looked for: loops, veiled, ifaces, maps, wideKeys, modest, calm, conditions, laid).
  DERIVED. THE GIVEN ROWS OF THIS SEAT. 7 by the template 'for every input the law returns true; each argument reads behind the call as it read before'; 0 by the template 'total and deterministic' (their statements: YthfkmcpajookaaaTotals.lean).
  GIVEN WITH THE SEED: the statements are not yours to turn. If you find one false, say at which input.
  Laid BY PROGRAM, IN A SANDBOX (cutbox-rows.mjs): the forced cells as the released guide's own fill.sh prints them over the translation e1a464cc874205c9… (all of the seat's roots in one cut). By AI agents, Wed Nov 11 2026. No macro, syntax, notation, axiom, sorry.
-/
import Derived.Test.YthfkmcpajookaaaChecked
import GoSem.Claim
import GoSem.ClaimJoined
import GoSem.ClaimMapViews
import Derived.JoinedTies
import Derived.KernelRfl
namespace Go.Proofs.Ythfkmcpajookaaa
/- THE CELL 'sum', in the pinned program and in every row, IS THE sha256 OF THE DUMP (.gsa) THAT YthfkmcpajookaaaProg.lean LOADS. Nothing in Lean hashes anything: it is a label: what it is worth is what the hold of that sum in a sandbox is worth. -/
noncomputable def Try.pinned : Pinned := { name := "ythfkmcpajookaaa", sum := "e1a464cc874205c9351be71155342fa1acac88725942332af3356697123d6df4", checked := Try.checked }
namespace Rows
def none {H : Type} : Left H := { results := [], args := [] }

/-- 'laws.FnExactPlainPlate': WHATEVER THE INPUT: true; the input reads as it did. -/
def fnExactPlainPlateSpec : ChangeSpec := { name := "fnExactPlainPlate", fn := fun _ => fun
  | [d1, d2, d3, d4] => { results := [.lit (.bool true)], args := [d1, d2, d3, d4] }
  | _ => none }
def fnExactPlainPlateRow : OpenClaim := { program := "ythfkmcpajookaaa", sum := "e1a464cc874205c9351be71155342fa1acac88725942332af3356697123d6df4", func := "loop.example/g01309/laws.FnExactPlainPlate", spec := "fnExactPlainPlate", inPlace := ["math.Float64bits", "math.Float64frombits"], unfollowed := true, recurses := true, apart := false }
def FnExactPlainPlateSaid : Prop := fnExactPlainPlateRow.holds Try.pinned (OpenSpec.ofChange fnExactPlainPlateSpec)

/-- ITS FALSE NEIGHBOUR: 'it returns false'. Refute it at one input. -/
def fnExactPlainPlateWrong : ChangeSpec := { name := "fnExactPlainPlate", fn := fun _ => fun
  | [d1, d2, d3, d4] => { results := [.lit (.bool false)], args := [d1, d2, d3, d4] }
  | _ => none }
def FnExactPlainPlateWrongFalsely : Prop := fnExactPlainPlateRow.holds Try.pinned (OpenSpec.ofChange fnExactPlainPlateWrong)

/-- 'laws.FnExactHoldCells': WHATEVER THE INPUT: true; the input reads as it did. -/
def fnExactHoldCellsSpec : ChangeSpec := { name := "fnExactHoldCells", fn := fun _ => fun
  | [d1, d2, d3] => { results := [.lit (.bool true)], args := [d1, d2, d3] }
  | _ => none }
def fnExactHoldCellsRow : OpenClaim := { program := "ythfkmcpajookaaa", sum := "e1a464cc874205c9351be71155342fa1acac88725942332af3356697123d6df4", func := "loop.example/g01309/laws.FnExactHoldCells", spec := "fnExactHoldCells", inPlace := ["math.Float64bits", "math.Float64frombits"], unfollowed := true, recurses := true, apart := false }
def FnExactHoldCellsSaid : Prop := fnExactHoldCellsRow.holds Try.pinned (OpenSpec.ofChange fnExactHoldCellsSpec)

/-- ITS FALSE NEIGHBOUR: 'it returns false'. Refute it at one input. -/
def fnExactHoldCellsWrong : ChangeSpec := { name := "fnExactHoldCells", fn := fun _ => fun
  | [d1, d2, d3] => { results := [.lit (.bool false)], args := [d1, d2, d3] }
  | _ => none }
def FnExactHoldCellsWrongFalsely : Prop := fnExactHoldCellsRow.holds Try.pinned (OpenSpec.ofChange fnExactHoldCellsWrong)

/-- 'laws.FnExactFreeCells': WHATEVER THE INPUT: true; the input reads as it did. -/
def fnExactFreeCellsSpec : ChangeSpec := { name := "fnExactFreeCells", fn := fun _ => fun
  | [d1, d2] => { results := [.lit (.bool true)], args := [d1, d2] }
  | _ => none }
def fnExactFreeCellsRow : OpenClaim := { program := "ythfkmcpajookaaa", sum := "e1a464cc874205c9351be71155342fa1acac88725942332af3356697123d6df4", func := "loop.example/g01309/laws.FnExactFreeCells", spec := "fnExactFreeCells", inPlace := ["math.Float64bits", "math.Float64frombits"], unfollowed := true, recurses := true, apart := false }
def FnExactFreeCellsSaid : Prop := fnExactFreeCellsRow.holds Try.pinned (OpenSpec.ofChange fnExactFreeCellsSpec)

/-- ITS FALSE NEIGHBOUR: 'it returns false'. Refute it at one input. -/
def fnExactFreeCellsWrong : ChangeSpec := { name := "fnExactFreeCells", fn := fun _ => fun
  | [d1, d2] => { results := [.lit (.bool false)], args := [d1, d2] }
  | _ => none }
def FnExactFreeCellsWrongFalsely : Prop := fnExactFreeCellsRow.holds Try.pinned (OpenSpec.ofChange fnExactFreeCellsWrong)

/-- 'laws.FnExactEaseCells': WHATEVER THE INPUT: true; the input reads as it did. -/
def fnExactEaseCellsSpec : ChangeSpec := { name := "fnExactEaseCells", fn := fun _ => fun
  | [d1, d2, d3] => { results := [.lit (.bool true)], args := [d1, d2, d3] }
  | _ => none }
def fnExactEaseCellsRow : OpenClaim := { program := "ythfkmcpajookaaa", sum := "e1a464cc874205c9351be71155342fa1acac88725942332af3356697123d6df4", func := "loop.example/g01309/laws.FnExactEaseCells", spec := "fnExactEaseCells", inPlace := ["math.Float64bits", "math.Float64frombits"], unfollowed := true, recurses := true, apart := false }
def FnExactEaseCellsSaid : Prop := fnExactEaseCellsRow.holds Try.pinned (OpenSpec.ofChange fnExactEaseCellsSpec)

/-- ITS FALSE NEIGHBOUR: 'it returns false'. Refute it at one input. -/
def fnExactEaseCellsWrong : ChangeSpec := { name := "fnExactEaseCells", fn := fun _ => fun
  | [d1, d2, d3] => { results := [.lit (.bool false)], args := [d1, d2, d3] }
  | _ => none }
def FnExactEaseCellsWrongFalsely : Prop := fnExactEaseCellsRow.holds Try.pinned (OpenSpec.ofChange fnExactEaseCellsWrong)

/-- 'laws.FnExactGainCells': WHATEVER THE INPUT: true; the input reads as it did. -/
def fnExactGainCellsSpec : ChangeSpec := { name := "fnExactGainCells", fn := fun _ => fun
  | [d1, d2, d3] => { results := [.lit (.bool true)], args := [d1, d2, d3] }
  | _ => none }
def fnExactGainCellsRow : OpenClaim := { program := "ythfkmcpajookaaa", sum := "e1a464cc874205c9351be71155342fa1acac88725942332af3356697123d6df4", func := "loop.example/g01309/laws.FnExactGainCells", spec := "fnExactGainCells", inPlace := ["math.Float64bits", "math.Float64frombits"], unfollowed := true, recurses := true, apart := false }
def FnExactGainCellsSaid : Prop := fnExactGainCellsRow.holds Try.pinned (OpenSpec.ofChange fnExactGainCellsSpec)

/-- ITS FALSE NEIGHBOUR: 'it returns false'. Refute it at one input. -/
def fnExactGainCellsWrong : ChangeSpec := { name := "fnExactGainCells", fn := fun _ => fun
  | [d1, d2, d3] => { results := [.lit (.bool false)], args := [d1, d2, d3] }
  | _ => none }
def FnExactGainCellsWrongFalsely : Prop := fnExactGainCellsRow.holds Try.pinned (OpenSpec.ofChange fnExactGainCellsWrong)

/-- 'laws.FnExactTurnPlate': WHATEVER THE INPUT: true; the input reads as it did. -/
def fnExactTurnPlateSpec : ChangeSpec := { name := "fnExactTurnPlate", fn := fun _ => fun
  | [d] => { results := [.lit (.bool true)], args := [d] }
  | _ => none }
def fnExactTurnPlateRow : OpenClaim := { program := "ythfkmcpajookaaa", sum := "e1a464cc874205c9351be71155342fa1acac88725942332af3356697123d6df4", func := "loop.example/g01309/laws.FnExactTurnPlate", spec := "fnExactTurnPlate", inPlace := ["math.Float64bits", "math.Float64frombits"], unfollowed := true, recurses := true, apart := false }
def FnExactTurnPlateSaid : Prop := fnExactTurnPlateRow.holds Try.pinned (OpenSpec.ofChange fnExactTurnPlateSpec)

/-- ITS FALSE NEIGHBOUR: 'it returns false'. Refute it at one input. -/
def fnExactTurnPlateWrong : ChangeSpec := { name := "fnExactTurnPlate", fn := fun _ => fun
  | [d] => { results := [.lit (.bool false)], args := [d] }
  | _ => none }
def FnExactTurnPlateWrongFalsely : Prop := fnExactTurnPlateRow.holds Try.pinned (OpenSpec.ofChange fnExactTurnPlateWrong)

/-- 'laws.FnExactStepPlate': WHATEVER THE INPUT: true; the input reads as it did. -/
def fnExactStepPlateSpec : ChangeSpec := { name := "fnExactStepPlate", fn := fun _ => fun
  | [d1, d2] => { results := [.lit (.bool true)], args := [d1, d2] }
  | _ => none }
def fnExactStepPlateRow : OpenClaim := { program := "ythfkmcpajookaaa", sum := "e1a464cc874205c9351be71155342fa1acac88725942332af3356697123d6df4", func := "loop.example/g01309/laws.FnExactStepPlate", spec := "fnExactStepPlate", inPlace := ["math.Float64bits", "math.Float64frombits"], unfollowed := true, recurses := true, apart := false }
def FnExactStepPlateSaid : Prop := fnExactStepPlateRow.holds Try.pinned (OpenSpec.ofChange fnExactStepPlateSpec)

/-- ITS FALSE NEIGHBOUR: 'it returns false'. Refute it at one input. -/
def fnExactStepPlateWrong : ChangeSpec := { name := "fnExactStepPlate", fn := fun _ => fun
  | [d1, d2] => { results := [.lit (.bool false)], args := [d1, d2] }
  | _ => none }
def FnExactStepPlateWrongFalsely : Prop := fnExactStepPlateRow.holds Try.pinned (OpenSpec.ofChange fnExactStepPlateWrong)

/- THE SECOND FORM. 'bulk': how many values and letters a reading holds, each counted each time it is reached (what is shared counts as often as it is met; a slice's spare places count too). A statement '..UptoSaid' is the law's where the arguments, and the package variables that the reading takes, are together of bulk at most 1048576: NARROWER than '..Said'. Prove '..Said' where nothing that the law and all that it calls make is longer than what came in: it says more and counts as full. Else prove '..UptoSaid'. A law counts once. -/
mutual
def uptoBulk {H : Type} : DataW H → Nat
  | .lit (.string bytes) => bytes.length + 1
  | .lit _ => 1
  | .nil => 1
  | .ptr d => uptoBulk d + 1
  | .slice elems spare => uptoBulkAll elems + uptoBulkAll spare + 1
  | .agg parts => uptoBulkAll parts + 1
  | .iface _ d => uptoBulk d + 1
  | .map entries => uptoBulkEntries entries + 1
  | .held _ => 1
def uptoBulkAll {H : Type} : List (DataW H) → Nat
  | [] => 0
  | d :: r => uptoBulk d + uptoBulkAll r
def uptoBulkEntries {H : Type} : List (Lit × DataW H) → Nat
  | [] => 0
  | x :: r => uptoBulkEntry x + uptoBulkEntries r
def uptoBulkEntry {H : Type} : Lit × DataW H → Nat
  | (.string bytes, d) => bytes.length + uptoBulk d + 1
  | (_, d) => uptoBulk d + 1
 end
def uptoSmall : (H : Type) → List (DataW H) → Bool := fun _ ds => decide (uptoBulkAll ds ≤ 1048576)
def OpenSpec.upto (s : _root_.Go.ChangeSpec) : _root_.Go.OpenSpec := { _root_.Go.OpenSpec.ofChange s with cond := some uptoSmall }

/-- 'laws.FnExactPlainPlate', WHERE WHAT IT READS IS OF BULK AT MOST 1048576: true; the input reads as it did. -/
def fnExactPlainPlateUptoRow : OpenClaim := { program := "ythfkmcpajookaaa", sum := "e1a464cc874205c9351be71155342fa1acac88725942332af3356697123d6df4", func := "loop.example/g01309/laws.FnExactPlainPlate", spec := "fnExactPlainPlate", inPlace := ["math.Float64bits", "math.Float64frombits"], unfollowed := true, recurses := true, apart := false, narrowed := true }
def FnExactPlainPlateUptoSaid : Prop := fnExactPlainPlateUptoRow.holds Try.pinned (OpenSpec.upto fnExactPlainPlateSpec)

/-- 'laws.FnExactHoldCells', WHERE WHAT IT READS IS OF BULK AT MOST 1048576: true; the input reads as it did. -/
def fnExactHoldCellsUptoRow : OpenClaim := { program := "ythfkmcpajookaaa", sum := "e1a464cc874205c9351be71155342fa1acac88725942332af3356697123d6df4", func := "loop.example/g01309/laws.FnExactHoldCells", spec := "fnExactHoldCells", inPlace := ["math.Float64bits", "math.Float64frombits"], unfollowed := true, recurses := true, apart := false, narrowed := true }
def FnExactHoldCellsUptoSaid : Prop := fnExactHoldCellsUptoRow.holds Try.pinned (OpenSpec.upto fnExactHoldCellsSpec)

/-- 'laws.FnExactFreeCells', WHERE WHAT IT READS IS OF BULK AT MOST 1048576: true; the input reads as it did. -/
def fnExactFreeCellsUptoRow : OpenClaim := { program := "ythfkmcpajookaaa", sum := "e1a464cc874205c9351be71155342fa1acac88725942332af3356697123d6df4", func := "loop.example/g01309/laws.FnExactFreeCells", spec := "fnExactFreeCells", inPlace := ["math.Float64bits", "math.Float64frombits"], unfollowed := true, recurses := true, apart := false, narrowed := true }
def FnExactFreeCellsUptoSaid : Prop := fnExactFreeCellsUptoRow.holds Try.pinned (OpenSpec.upto fnExactFreeCellsSpec)

/-- 'laws.FnExactEaseCells', WHERE WHAT IT READS IS OF BULK AT MOST 1048576: true; the input reads as it did. -/
def fnExactEaseCellsUptoRow : OpenClaim := { program := "ythfkmcpajookaaa", sum := "e1a464cc874205c9351be71155342fa1acac88725942332af3356697123d6df4", func := "loop.example/g01309/laws.FnExactEaseCells", spec := "fnExactEaseCells", inPlace := ["math.Float64bits", "math.Float64frombits"], unfollowed := true, recurses := true, apart := false, narrowed := true }
def FnExactEaseCellsUptoSaid : Prop := fnExactEaseCellsUptoRow.holds Try.pinned (OpenSpec.upto fnExactEaseCellsSpec)

/-- 'laws.FnExactGainCells', WHERE WHAT IT READS IS OF BULK AT MOST 1048576: true; the input reads as it did. -/
def fnExactGainCellsUptoRow : OpenClaim := { program := "ythfkmcpajookaaa", sum := "e1a464cc874205c9351be71155342fa1acac88725942332af3356697123d6df4", func := "loop.example/g01309/laws.FnExactGainCells", spec := "fnExactGainCells", inPlace := ["math.Float64bits", "math.Float64frombits"], unfollowed := true, recurses := true, apart := false, narrowed := true }
def FnExactGainCellsUptoSaid : Prop := fnExactGainCellsUptoRow.holds Try.pinned (OpenSpec.upto fnExactGainCellsSpec)

/-- 'laws.FnExactTurnPlate', WHERE WHAT IT READS IS OF BULK AT MOST 1048576: true; the input reads as it did. -/
def fnExactTurnPlateUptoRow : OpenClaim := { program := "ythfkmcpajookaaa", sum := "e1a464cc874205c9351be71155342fa1acac88725942332af3356697123d6df4", func := "loop.example/g01309/laws.FnExactTurnPlate", spec := "fnExactTurnPlate", inPlace := ["math.Float64bits", "math.Float64frombits"], unfollowed := true, recurses := true, apart := false, narrowed := true }
def FnExactTurnPlateUptoSaid : Prop := fnExactTurnPlateUptoRow.holds Try.pinned (OpenSpec.upto fnExactTurnPlateSpec)

/-- 'laws.FnExactStepPlate', WHERE WHAT IT READS IS OF BULK AT MOST 1048576: true; the input reads as it did. -/
def fnExactStepPlateUptoRow : OpenClaim := { program := "ythfkmcpajookaaa", sum := "e1a464cc874205c9351be71155342fa1acac88725942332af3356697123d6df4", func := "loop.example/g01309/laws.FnExactStepPlate", spec := "fnExactStepPlate", inPlace := ["math.Float64bits", "math.Float64frombits"], unfollowed := true, recurses := true, apart := false, narrowed := true }
def FnExactStepPlateUptoSaid : Prop := fnExactStepPlateUptoRow.holds Try.pinned (OpenSpec.upto fnExactStepPlateSpec)

end Rows
end Go.Proofs.Ythfkmcpajookaaa
