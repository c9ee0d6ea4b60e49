/-
  No cell of these rows narrows 'for every input' (looked for: loops, veiled, ifaces, maps, wideKeys, modest, calm, conditions, laid).
  DERIVED. THE GIVEN ROWS OF THIS SEAT. 12 by the template 'for every input the law returns true; each argument reads behind the call as it read before'; 0 by the template 'total and deterministic' (their statements: YtjkokhdbkmjenaaTotals.lean).
  GIVEN WITH THE SEED: the statements are not yours to turn. If you find one false, say at which input.
  Laid BY PROGRAM, IN A SANDBOX (cutbox-rows.mjs): the forced cells as the released guide's own fill.sh prints them over the translation eb1c5344c3b775d4… (all of the seat's roots in one cut). By AI agents, Wed Nov 11 2026. No macro, syntax, notation, axiom, sorry.
-/
import Derived.Test.YtjkokhdbkmjenaaChecked
import GoSem.Claim
import GoSem.ClaimJoined
import GoSem.ClaimMapViews
import Derived.JoinedTies
import Derived.KernelRfl
namespace Go.Proofs.Ytjkokhdbkmjenaa
/- THE CELL 'sum', in the pinned program and in every row, IS THE sha256 OF THE DUMP (.gsa) THAT YtjkokhdbkmjenaaProg.lean LOADS. Nothing in Lean hashes anything: it is a label: what it is worth is what the hold of that sum in a sandbox is worth. -/
noncomputable def Try.pinned : Pinned := { name := "ytjkokhdbkmjenaa", sum := "eb1c5344c3b775d492358c3b950202494782ce53f4a6ecf5ac1dd90386fc0b23", checked := Try.checked }
namespace Rows
def none {H : Type} : Left H := { results := [], args := [] }

/-- 'laws.FnExactValidHeater': WHATEVER THE INPUT: true; the input reads as it did. -/
def fnExactValidHeaterSpec : ChangeSpec := { name := "fnExactValidHeater", fn := fun _ => fun
  | [d] => { results := [.lit (.bool true)], args := [d] }
  | _ => none }
def fnExactValidHeaterRow : OpenClaim := { program := "ytjkokhdbkmjenaa", sum := "eb1c5344c3b775d492358c3b950202494782ce53f4a6ecf5ac1dd90386fc0b23", func := "loop.example/g01309/laws.FnExactValidHeater", spec := "fnExactValidHeater", inPlace := ["math.Float64bits", "math.Float64frombits"], apart := false }
def FnExactValidHeaterSaid : Prop := fnExactValidHeaterRow.holds Try.pinned (OpenSpec.ofChange fnExactValidHeaterSpec)

/-- ITS FALSE NEIGHBOUR: 'it returns false'. Refute it at one input. -/
def fnExactValidHeaterWrong : ChangeSpec := { name := "fnExactValidHeater", fn := fun _ => fun
  | [d] => { results := [.lit (.bool false)], args := [d] }
  | _ => none }
def FnExactValidHeaterWrongFalsely : Prop := fnExactValidHeaterRow.holds Try.pinned (OpenSpec.ofChange fnExactValidHeaterWrong)

/-- 'laws.FnExactTurnHeater': WHATEVER THE INPUT: true; the input reads as it did. -/
def fnExactTurnHeaterSpec : ChangeSpec := { name := "fnExactTurnHeater", fn := fun _ => fun
  | [d1, d2] => { results := [.lit (.bool true)], args := [d1, d2] }
  | _ => none }
def fnExactTurnHeaterRow : OpenClaim := { program := "ytjkokhdbkmjenaa", sum := "eb1c5344c3b775d492358c3b950202494782ce53f4a6ecf5ac1dd90386fc0b23", func := "loop.example/g01309/laws.FnExactTurnHeater", spec := "fnExactTurnHeater", inPlace := ["math.Float64bits", "math.Float64frombits"], apart := false }
def FnExactTurnHeaterSaid : Prop := fnExactTurnHeaterRow.holds Try.pinned (OpenSpec.ofChange fnExactTurnHeaterSpec)

/-- ITS FALSE NEIGHBOUR: 'it returns false'. Refute it at one input. -/
def fnExactTurnHeaterWrong : ChangeSpec := { name := "fnExactTurnHeater", fn := fun _ => fun
  | [d1, d2] => { results := [.lit (.bool false)], args := [d1, d2] }
  | _ => none }
def FnExactTurnHeaterWrongFalsely : Prop := fnExactTurnHeaterRow.holds Try.pinned (OpenSpec.ofChange fnExactTurnHeaterWrong)

/-- 'laws.FnExactPumpFactor': WHATEVER THE INPUT: true; the input reads as it did. -/
def fnExactPumpFactorSpec : ChangeSpec := { name := "fnExactPumpFactor", fn := fun _ => fun
  | [d1, d2, d3] => { results := [.lit (.bool true)], args := [d1, d2, d3] }
  | _ => none }
def fnExactPumpFactorRow : OpenClaim := { program := "ytjkokhdbkmjenaa", sum := "eb1c5344c3b775d492358c3b950202494782ce53f4a6ecf5ac1dd90386fc0b23", func := "loop.example/g01309/laws.FnExactPumpFactor", spec := "fnExactPumpFactor", inPlace := ["math.Float64bits", "math.Float64frombits"], apart := false }
def FnExactPumpFactorSaid : Prop := fnExactPumpFactorRow.holds Try.pinned (OpenSpec.ofChange fnExactPumpFactorSpec)

/-- ITS FALSE NEIGHBOUR: 'it returns false'. Refute it at one input. -/
def fnExactPumpFactorWrong : ChangeSpec := { name := "fnExactPumpFactor", fn := fun _ => fun
  | [d1, d2, d3] => { results := [.lit (.bool false)], args := [d1, d2, d3] }
  | _ => none }
def FnExactPumpFactorWrongFalsely : Prop := fnExactPumpFactorRow.holds Try.pinned (OpenSpec.ofChange fnExactPumpFactorWrong)

/-- 'laws.FnExactPumpPower': WHATEVER THE INPUT: true; the input reads as it did. -/
def fnExactPumpPowerSpec : ChangeSpec := { name := "fnExactPumpPower", fn := fun _ => fun
  | [d1, d2, d3, d4, d5] => { results := [.lit (.bool true)], args := [d1, d2, d3, d4, d5] }
  | _ => none }
def fnExactPumpPowerRow : OpenClaim := { program := "ytjkokhdbkmjenaa", sum := "eb1c5344c3b775d492358c3b950202494782ce53f4a6ecf5ac1dd90386fc0b23", func := "loop.example/g01309/laws.FnExactPumpPower", spec := "fnExactPumpPower", inPlace := ["math.Float64bits", "math.Float64frombits"], apart := false }
def FnExactPumpPowerSaid : Prop := fnExactPumpPowerRow.holds Try.pinned (OpenSpec.ofChange fnExactPumpPowerSpec)

/-- ITS FALSE NEIGHBOUR: 'it returns false'. Refute it at one input. -/
def fnExactPumpPowerWrong : ChangeSpec := { name := "fnExactPumpPower", fn := fun _ => fun
  | [d1, d2, d3, d4, d5] => { results := [.lit (.bool false)], args := [d1, d2, d3, d4, d5] }
  | _ => none }
def FnExactPumpPowerWrongFalsely : Prop := fnExactPumpPowerRow.holds Try.pinned (OpenSpec.ofChange fnExactPumpPowerWrong)

/-- 'laws.FnExactArePrices': WHATEVER THE INPUT: true; the input reads as it did. -/
def fnExactArePricesSpec : ChangeSpec := { name := "fnExactArePrices", fn := fun _ => fun
  | [d] => { results := [.lit (.bool true)], args := [d] }
  | _ => none }
def fnExactArePricesRow : OpenClaim := { program := "ytjkokhdbkmjenaa", sum := "eb1c5344c3b775d492358c3b950202494782ce53f4a6ecf5ac1dd90386fc0b23", func := "loop.example/g01309/laws.FnExactArePrices", spec := "fnExactArePrices", unfollowed := true, recurses := true, apart := false }
def FnExactArePricesSaid : Prop := fnExactArePricesRow.holds Try.pinned (OpenSpec.ofChange fnExactArePricesSpec)

/-- ITS FALSE NEIGHBOUR: 'it returns false'. Refute it at one input. -/
def fnExactArePricesWrong : ChangeSpec := { name := "fnExactArePrices", fn := fun _ => fun
  | [d] => { results := [.lit (.bool false)], args := [d] }
  | _ => none }
def FnExactArePricesWrongFalsely : Prop := fnExactArePricesRow.holds Try.pinned (OpenSpec.ofChange fnExactArePricesWrong)

/-- 'laws.FnExactDegreeSum': WHATEVER THE INPUT: true; the input reads as it did. -/
def fnExactDegreeSumSpec : ChangeSpec := { name := "fnExactDegreeSum", fn := fun _ => fun
  | [d1, d2] => { results := [.lit (.bool true)], args := [d1, d2] }
  | _ => none }
def fnExactDegreeSumRow : OpenClaim := { program := "ytjkokhdbkmjenaa", sum := "eb1c5344c3b775d492358c3b950202494782ce53f4a6ecf5ac1dd90386fc0b23", func := "loop.example/g01309/laws.FnExactDegreeSum", spec := "fnExactDegreeSum", inPlace := ["math.Float64bits", "math.Float64frombits"], unfollowed := true, recurses := true, apart := false }
def FnExactDegreeSumSaid : Prop := fnExactDegreeSumRow.holds Try.pinned (OpenSpec.ofChange fnExactDegreeSumSpec)

/-- ITS FALSE NEIGHBOUR: 'it returns false'. Refute it at one input. -/
def fnExactDegreeSumWrong : ChangeSpec := { name := "fnExactDegreeSum", fn := fun _ => fun
  | [d1, d2] => { results := [.lit (.bool false)], args := [d1, d2] }
  | _ => none }
def FnExactDegreeSumWrongFalsely : Prop := fnExactDegreeSumRow.holds Try.pinned (OpenSpec.ofChange fnExactDegreeSumWrong)

/-- 'laws.FnExactCostOf': WHATEVER THE INPUT: true; the input reads as it did. -/
def fnExactCostOfSpec : ChangeSpec := { name := "fnExactCostOf", fn := fun _ => fun
  | [d1, d2] => { results := [.lit (.bool true)], args := [d1, d2] }
  | _ => none }
def fnExactCostOfRow : OpenClaim := { program := "ytjkokhdbkmjenaa", sum := "eb1c5344c3b775d492358c3b950202494782ce53f4a6ecf5ac1dd90386fc0b23", func := "loop.example/g01309/laws.FnExactCostOf", spec := "fnExactCostOf", unfollowed := true, recurses := true, apart := false }
def FnExactCostOfSaid : Prop := fnExactCostOfRow.holds Try.pinned (OpenSpec.ofChange fnExactCostOfSpec)

/-- ITS FALSE NEIGHBOUR: 'it returns false'. Refute it at one input. -/
def fnExactCostOfWrong : ChangeSpec := { name := "fnExactCostOf", fn := fun _ => fun
  | [d1, d2] => { results := [.lit (.bool false)], args := [d1, d2] }
  | _ => none }
def FnExactCostOfWrongFalsely : Prop := fnExactCostOfRow.holds Try.pinned (OpenSpec.ofChange fnExactCostOfWrong)

/-- 'laws.FnExactBlockBill': WHATEVER THE INPUT: true; the input reads as it did. -/
def fnExactBlockBillSpec : ChangeSpec := { name := "fnExactBlockBill", fn := fun _ => fun
  | [d1, d2, d3] => { results := [.lit (.bool true)], args := [d1, d2, d3] }
  | _ => none }
def fnExactBlockBillRow : OpenClaim := { program := "ytjkokhdbkmjenaa", sum := "eb1c5344c3b775d492358c3b950202494782ce53f4a6ecf5ac1dd90386fc0b23", func := "loop.example/g01309/laws.FnExactBlockBill", spec := "fnExactBlockBill", unfollowed := true, recurses := true, apart := false }
def FnExactBlockBillSaid : Prop := fnExactBlockBillRow.holds Try.pinned (OpenSpec.ofChange fnExactBlockBillSpec)

/-- ITS FALSE NEIGHBOUR: 'it returns false'. Refute it at one input. -/
def fnExactBlockBillWrong : ChangeSpec := { name := "fnExactBlockBill", fn := fun _ => fun
  | [d1, d2, d3] => { results := [.lit (.bool false)], args := [d1, d2, d3] }
  | _ => none }
def FnExactBlockBillWrongFalsely : Prop := fnExactBlockBillRow.holds Try.pinned (OpenSpec.ofChange fnExactBlockBillWrong)

/-- 'laws.FnExactValidHouse': WHATEVER THE INPUT: true; the input reads as it did. -/
def fnExactValidHouseSpec : ChangeSpec := { name := "fnExactValidHouse", fn := fun _ => fun
  | [d] => { results := [.lit (.bool true)], args := [d] }
  | _ => none }
def fnExactValidHouseRow : OpenClaim := { program := "ytjkokhdbkmjenaa", sum := "eb1c5344c3b775d492358c3b950202494782ce53f4a6ecf5ac1dd90386fc0b23", func := "loop.example/g01309/laws.FnExactValidHouse", spec := "fnExactValidHouse", inPlace := ["math.Float64bits", "math.Float64frombits"], unfollowed := true, recurses := true, apart := false }
def FnExactValidHouseSaid : Prop := fnExactValidHouseRow.holds Try.pinned (OpenSpec.ofChange fnExactValidHouseSpec)

/-- ITS FALSE NEIGHBOUR: 'it returns false'. Refute it at one input. -/
def fnExactValidHouseWrong : ChangeSpec := { name := "fnExactValidHouse", fn := fun _ => fun
  | [d] => { results := [.lit (.bool false)], args := [d] }
  | _ => none }
def FnExactValidHouseWrongFalsely : Prop := fnExactValidHouseRow.holds Try.pinned (OpenSpec.ofChange fnExactValidHouseWrong)

/-- 'laws.FnExactHeatOfHouse': WHATEVER THE INPUT: true; the input reads as it did. -/
def fnExactHeatOfHouseSpec : ChangeSpec := { name := "fnExactHeatOfHouse", fn := fun _ => fun
  | [d] => { results := [.lit (.bool true)], args := [d] }
  | _ => none }
def fnExactHeatOfHouseRow : OpenClaim := { program := "ytjkokhdbkmjenaa", sum := "eb1c5344c3b775d492358c3b950202494782ce53f4a6ecf5ac1dd90386fc0b23", func := "loop.example/g01309/laws.FnExactHeatOfHouse", spec := "fnExactHeatOfHouse", inPlace := ["math.Float64bits", "math.Float64frombits"], unfollowed := true, recurses := true, apart := false }
def FnExactHeatOfHouseSaid : Prop := fnExactHeatOfHouseRow.holds Try.pinned (OpenSpec.ofChange fnExactHeatOfHouseSpec)

/-- ITS FALSE NEIGHBOUR: 'it returns false'. Refute it at one input. -/
def fnExactHeatOfHouseWrong : ChangeSpec := { name := "fnExactHeatOfHouse", fn := fun _ => fun
  | [d] => { results := [.lit (.bool false)], args := [d] }
  | _ => none }
def FnExactHeatOfHouseWrongFalsely : Prop := fnExactHeatOfHouseRow.holds Try.pinned (OpenSpec.ofChange fnExactHeatOfHouseWrong)

/-- 'laws.FnExactLossOfHouse': WHATEVER THE INPUT: true; the input reads as it did. -/
def fnExactLossOfHouseSpec : ChangeSpec := { name := "fnExactLossOfHouse", fn := fun _ => fun
  | [d1, d2] => { results := [.lit (.bool true)], args := [d1, d2] }
  | _ => none }
def fnExactLossOfHouseRow : OpenClaim := { program := "ytjkokhdbkmjenaa", sum := "eb1c5344c3b775d492358c3b950202494782ce53f4a6ecf5ac1dd90386fc0b23", func := "loop.example/g01309/laws.FnExactLossOfHouse", spec := "fnExactLossOfHouse", inPlace := ["math.Float64bits", "math.Float64frombits"], unfollowed := true, recurses := true, apart := false }
def FnExactLossOfHouseSaid : Prop := fnExactLossOfHouseRow.holds Try.pinned (OpenSpec.ofChange fnExactLossOfHouseSpec)

/-- ITS FALSE NEIGHBOUR: 'it returns false'. Refute it at one input. -/
def fnExactLossOfHouseWrong : ChangeSpec := { name := "fnExactLossOfHouse", fn := fun _ => fun
  | [d1, d2] => { results := [.lit (.bool false)], args := [d1, d2] }
  | _ => none }
def FnExactLossOfHouseWrongFalsely : Prop := fnExactLossOfHouseRow.holds Try.pinned (OpenSpec.ofChange fnExactLossOfHouseWrong)

/-- 'laws.FnExactFlowToRoom': WHATEVER THE INPUT: true; the input reads as it did. -/
def fnExactFlowToRoomSpec : ChangeSpec := { name := "fnExactFlowToRoom", fn := fun _ => fun
  | [d1, d2, d3] => { results := [.lit (.bool true)], args := [d1, d2, d3] }
  | _ => none }
def fnExactFlowToRoomRow : OpenClaim := { program := "ytjkokhdbkmjenaa", sum := "eb1c5344c3b775d492358c3b950202494782ce53f4a6ecf5ac1dd90386fc0b23", func := "loop.example/g01309/laws.FnExactFlowToRoom", spec := "fnExactFlowToRoom", inPlace := ["math.Float64bits", "math.Float64frombits"], unfollowed := true, recurses := true, apart := false }
def FnExactFlowToRoomSaid : Prop := fnExactFlowToRoomRow.holds Try.pinned (OpenSpec.ofChange fnExactFlowToRoomSpec)

/-- ITS FALSE NEIGHBOUR: 'it returns false'. Refute it at one input. -/
def fnExactFlowToRoomWrong : ChangeSpec := { name := "fnExactFlowToRoom", fn := fun _ => fun
  | [d1, d2, d3] => { results := [.lit (.bool false)], args := [d1, d2, d3] }
  | _ => none }
def FnExactFlowToRoomWrongFalsely : Prop := fnExactFlowToRoomRow.holds Try.pinned (OpenSpec.ofChange fnExactFlowToRoomWrong)

/- THE SECOND FORM. 'bulk': how many values and letters a reading holds, each counted each time it is reached (what is shared counts as often as it is met; a slice's spare places count too). A statement '..UptoSaid' is the law's where the arguments, and the package variables that the reading takes, are together of bulk at most 1048576: NARROWER than '..Said'. Prove '..Said' where nothing that the law and all that it calls make is longer than what came in: it says more and counts as full. Else prove '..UptoSaid'. A law counts once. -/
mutual
def uptoBulk {H : Type} : DataW H → Nat
  | .lit (.string bytes) => bytes.length + 1
  | .lit _ => 1
  | .nil => 1
  | .ptr d => uptoBulk d + 1
  | .slice elems spare => uptoBulkAll elems + uptoBulkAll spare + 1
  | .agg parts => uptoBulkAll parts + 1
  | .iface _ d => uptoBulk d + 1
  | .map entries => uptoBulkEntries entries + 1
  | .held _ => 1
def uptoBulkAll {H : Type} : List (DataW H) → Nat
  | [] => 0
  | d :: r => uptoBulk d + uptoBulkAll r
def uptoBulkEntries {H : Type} : List (Lit × DataW H) → Nat
  | [] => 0
  | x :: r => uptoBulkEntry x + uptoBulkEntries r
def uptoBulkEntry {H : Type} : Lit × DataW H → Nat
  | (.string bytes, d) => bytes.length + uptoBulk d + 1
  | (_, d) => uptoBulk d + 1
 end
def uptoSmall : (H : Type) → List (DataW H) → Bool := fun _ ds => decide (uptoBulkAll ds ≤ 1048576)
def OpenSpec.upto (s : _root_.Go.ChangeSpec) : _root_.Go.OpenSpec := { _root_.Go.OpenSpec.ofChange s with cond := some uptoSmall }

/-- 'laws.FnExactValidHeater', WHERE WHAT IT READS IS OF BULK AT MOST 1048576: true; the input reads as it did. -/
def fnExactValidHeaterUptoRow : OpenClaim := { program := "ytjkokhdbkmjenaa", sum := "eb1c5344c3b775d492358c3b950202494782ce53f4a6ecf5ac1dd90386fc0b23", func := "loop.example/g01309/laws.FnExactValidHeater", spec := "fnExactValidHeater", inPlace := ["math.Float64bits", "math.Float64frombits"], apart := false, narrowed := true }
def FnExactValidHeaterUptoSaid : Prop := fnExactValidHeaterUptoRow.holds Try.pinned (OpenSpec.upto fnExactValidHeaterSpec)

/-- 'laws.FnExactTurnHeater', WHERE WHAT IT READS IS OF BULK AT MOST 1048576: true; the input reads as it did. -/
def fnExactTurnHeaterUptoRow : OpenClaim := { program := "ytjkokhdbkmjenaa", sum := "eb1c5344c3b775d492358c3b950202494782ce53f4a6ecf5ac1dd90386fc0b23", func := "loop.example/g01309/laws.FnExactTurnHeater", spec := "fnExactTurnHeater", inPlace := ["math.Float64bits", "math.Float64frombits"], apart := false, narrowed := true }
def FnExactTurnHeaterUptoSaid : Prop := fnExactTurnHeaterUptoRow.holds Try.pinned (OpenSpec.upto fnExactTurnHeaterSpec)

/-- 'laws.FnExactPumpFactor', WHERE WHAT IT READS IS OF BULK AT MOST 1048576: true; the input reads as it did. -/
def fnExactPumpFactorUptoRow : OpenClaim := { program := "ytjkokhdbkmjenaa", sum := "eb1c5344c3b775d492358c3b950202494782ce53f4a6ecf5ac1dd90386fc0b23", func := "loop.example/g01309/laws.FnExactPumpFactor", spec := "fnExactPumpFactor", inPlace := ["math.Float64bits", "math.Float64frombits"], apart := false, narrowed := true }
def FnExactPumpFactorUptoSaid : Prop := fnExactPumpFactorUptoRow.holds Try.pinned (OpenSpec.upto fnExactPumpFactorSpec)

/-- 'laws.FnExactPumpPower', WHERE WHAT IT READS IS OF BULK AT MOST 1048576: true; the input reads as it did. -/
def fnExactPumpPowerUptoRow : OpenClaim := { program := "ytjkokhdbkmjenaa", sum := "eb1c5344c3b775d492358c3b950202494782ce53f4a6ecf5ac1dd90386fc0b23", func := "loop.example/g01309/laws.FnExactPumpPower", spec := "fnExactPumpPower", inPlace := ["math.Float64bits", "math.Float64frombits"], apart := false, narrowed := true }
def FnExactPumpPowerUptoSaid : Prop := fnExactPumpPowerUptoRow.holds Try.pinned (OpenSpec.upto fnExactPumpPowerSpec)

/-- 'laws.FnExactArePrices', WHERE WHAT IT READS IS OF BULK AT MOST 1048576: true; the input reads as it did. -/
def fnExactArePricesUptoRow : OpenClaim := { program := "ytjkokhdbkmjenaa", sum := "eb1c5344c3b775d492358c3b950202494782ce53f4a6ecf5ac1dd90386fc0b23", func := "loop.example/g01309/laws.FnExactArePrices", spec := "fnExactArePrices", unfollowed := true, recurses := true, apart := false, narrowed := true }
def FnExactArePricesUptoSaid : Prop := fnExactArePricesUptoRow.holds Try.pinned (OpenSpec.upto fnExactArePricesSpec)

/-- 'laws.FnExactDegreeSum', WHERE WHAT IT READS IS OF BULK AT MOST 1048576: true; the input reads as it did. -/
def fnExactDegreeSumUptoRow : OpenClaim := { program := "ytjkokhdbkmjenaa", sum := "eb1c5344c3b775d492358c3b950202494782ce53f4a6ecf5ac1dd90386fc0b23", func := "loop.example/g01309/laws.FnExactDegreeSum", spec := "fnExactDegreeSum", inPlace := ["math.Float64bits", "math.Float64frombits"], unfollowed := true, recurses := true, apart := false, narrowed := true }
def FnExactDegreeSumUptoSaid : Prop := fnExactDegreeSumUptoRow.holds Try.pinned (OpenSpec.upto fnExactDegreeSumSpec)

/-- 'laws.FnExactCostOf', WHERE WHAT IT READS IS OF BULK AT MOST 1048576: true; the input reads as it did. -/
def fnExactCostOfUptoRow : OpenClaim := { program := "ytjkokhdbkmjenaa", sum := "eb1c5344c3b775d492358c3b950202494782ce53f4a6ecf5ac1dd90386fc0b23", func := "loop.example/g01309/laws.FnExactCostOf", spec := "fnExactCostOf", unfollowed := true, recurses := true, apart := false, narrowed := true }
def FnExactCostOfUptoSaid : Prop := fnExactCostOfUptoRow.holds Try.pinned (OpenSpec.upto fnExactCostOfSpec)

/-- 'laws.FnExactBlockBill', WHERE WHAT IT READS IS OF BULK AT MOST 1048576: true; the input reads as it did. -/
def fnExactBlockBillUptoRow : OpenClaim := { program := "ytjkokhdbkmjenaa", sum := "eb1c5344c3b775d492358c3b950202494782ce53f4a6ecf5ac1dd90386fc0b23", func := "loop.example/g01309/laws.FnExactBlockBill", spec := "fnExactBlockBill", unfollowed := true, recurses := true, apart := false, narrowed := true }
def FnExactBlockBillUptoSaid : Prop := fnExactBlockBillUptoRow.holds Try.pinned (OpenSpec.upto fnExactBlockBillSpec)

/-- 'laws.FnExactValidHouse', WHERE WHAT IT READS IS OF BULK AT MOST 1048576: true; the input reads as it did. -/
def fnExactValidHouseUptoRow : OpenClaim := { program := "ytjkokhdbkmjenaa", sum := "eb1c5344c3b775d492358c3b950202494782ce53f4a6ecf5ac1dd90386fc0b23", func := "loop.example/g01309/laws.FnExactValidHouse", spec := "fnExactValidHouse", inPlace := ["math.Float64bits", "math.Float64frombits"], unfollowed := true, recurses := true, apart := false, narrowed := true }
def FnExactValidHouseUptoSaid : Prop := fnExactValidHouseUptoRow.holds Try.pinned (OpenSpec.upto fnExactValidHouseSpec)

/-- 'laws.FnExactHeatOfHouse', WHERE WHAT IT READS IS OF BULK AT MOST 1048576: true; the input reads as it did. -/
def fnExactHeatOfHouseUptoRow : OpenClaim := { program := "ytjkokhdbkmjenaa", sum := "eb1c5344c3b775d492358c3b950202494782ce53f4a6ecf5ac1dd90386fc0b23", func := "loop.example/g01309/laws.FnExactHeatOfHouse", spec := "fnExactHeatOfHouse", inPlace := ["math.Float64bits", "math.Float64frombits"], unfollowed := true, recurses := true, apart := false, narrowed := true }
def FnExactHeatOfHouseUptoSaid : Prop := fnExactHeatOfHouseUptoRow.holds Try.pinned (OpenSpec.upto fnExactHeatOfHouseSpec)

/-- 'laws.FnExactLossOfHouse', WHERE WHAT IT READS IS OF BULK AT MOST 1048576: true; the input reads as it did. -/
def fnExactLossOfHouseUptoRow : OpenClaim := { program := "ytjkokhdbkmjenaa", sum := "eb1c5344c3b775d492358c3b950202494782ce53f4a6ecf5ac1dd90386fc0b23", func := "loop.example/g01309/laws.FnExactLossOfHouse", spec := "fnExactLossOfHouse", inPlace := ["math.Float64bits", "math.Float64frombits"], unfollowed := true, recurses := true, apart := false, narrowed := true }
def FnExactLossOfHouseUptoSaid : Prop := fnExactLossOfHouseUptoRow.holds Try.pinned (OpenSpec.upto fnExactLossOfHouseSpec)

/-- 'laws.FnExactFlowToRoom', WHERE WHAT IT READS IS OF BULK AT MOST 1048576: true; the input reads as it did. -/
def fnExactFlowToRoomUptoRow : OpenClaim := { program := "ytjkokhdbkmjenaa", sum := "eb1c5344c3b775d492358c3b950202494782ce53f4a6ecf5ac1dd90386fc0b23", func := "loop.example/g01309/laws.FnExactFlowToRoom", spec := "fnExactFlowToRoom", inPlace := ["math.Float64bits", "math.Float64frombits"], unfollowed := true, recurses := true, apart := false, narrowed := true }
def FnExactFlowToRoomUptoSaid : Prop := fnExactFlowToRoomUptoRow.holds Try.pinned (OpenSpec.upto fnExactFlowToRoomSpec)

end Rows
end Go.Proofs.Ytjkokhdbkmjenaa
