/-
  No cell of these rows narrows 'for every input' (looked for: loops, veiled, ifaces, maps, wideKeys, modest, calm, conditions, laid).
  DERIVED. THE GIVEN ROWS OF THIS SEAT. 12 by the template 'for every input the law returns true; each argument reads behind the call as it read before'; 0 by the template 'total and deterministic' (their statements: YtlhjmkdfemejmaaTotals.lean).
  GIVEN WITH THE SEED: the statements are not yours to turn. If you find one false, say at which input.
  Laid BY PROGRAM, IN A SANDBOX (cutbox-rows.mjs): the forced cells as the released guide's own fill.sh prints them over the translation bcd09cab0f15b67b… (all of the seat's roots in one cut). By AI agents, Wed Nov 11 2026. No macro, syntax, notation, axiom, sorry.
-/
import Derived.Test.YtlhjmkdfemejmaaChecked
import GoSem.Claim
import GoSem.ClaimJoined
import GoSem.ClaimMapViews
import Derived.JoinedTies
import Derived.KernelRfl
namespace Go.Proofs.Ytlhjmkdfemejmaa
/- THE CELL 'sum', in the pinned program and in every row, IS THE sha256 OF THE DUMP (.gsa) THAT YtlhjmkdfemejmaaProg.lean LOADS. Nothing in Lean hashes anything: it is a label: what it is worth is what the hold of that sum in a sandbox is worth. -/
noncomputable def Try.pinned : Pinned := { name := "ytlhjmkdfemejmaa", sum := "bcd09cab0f15b67bc0425c6e0ae3eedd71414d1366370c6e997159e107db6259", checked := Try.checked }
namespace Rows
def none {H : Type} : Left H := { results := [], args := [] }

/-- 'laws.FnExactSunOnFace': WHATEVER THE INPUT: true; the input reads as it did. -/
def fnExactSunOnFaceSpec : ChangeSpec := { name := "fnExactSunOnFace", fn := fun _ => fun
  | [d1, d2, d3, d4, d5, d6] => { results := [.lit (.bool true)], args := [d1, d2, d3, d4, d5, d6] }
  | _ => none }
def fnExactSunOnFaceRow : OpenClaim := { program := "ytlhjmkdfemejmaa", sum := "bcd09cab0f15b67bc0425c6e0ae3eedd71414d1366370c6e997159e107db6259", func := "loop.example/g01309/laws.FnExactSunOnFace", spec := "fnExactSunOnFace", inPlace := ["math.Float64frombits", "math.Float64bits", "math.Float32frombits", "math.archTrunc"], apart := false }
def FnExactSunOnFaceSaid : Prop := fnExactSunOnFaceRow.holds Try.pinned (OpenSpec.ofChange fnExactSunOnFaceSpec)

/-- ITS FALSE NEIGHBOUR: 'it returns false'. Refute it at one input. -/
def fnExactSunOnFaceWrong : ChangeSpec := { name := "fnExactSunOnFace", fn := fun _ => fun
  | [d1, d2, d3, d4, d5, d6] => { results := [.lit (.bool false)], args := [d1, d2, d3, d4, d5, d6] }
  | _ => none }
def FnExactSunOnFaceWrongFalsely : Prop := fnExactSunOnFaceRow.holds Try.pinned (OpenSpec.ofChange fnExactSunOnFaceWrong)

/-- 'laws.FnExactSunHeight': WHATEVER THE INPUT: true; the input reads as it did. -/
def fnExactSunHeightSpec : ChangeSpec := { name := "fnExactSunHeight", fn := fun _ => fun
  | [d1, d2, d3] => { results := [.lit (.bool true)], args := [d1, d2, d3] }
  | _ => none }
def fnExactSunHeightRow : OpenClaim := { program := "ytlhjmkdfemejmaa", sum := "bcd09cab0f15b67bc0425c6e0ae3eedd71414d1366370c6e997159e107db6259", func := "loop.example/g01309/laws.FnExactSunHeight", spec := "fnExactSunHeight", inPlace := ["math.Float64frombits", "math.sqrt", "math.Float64bits", "math.Float32frombits", "math.archTrunc"], apart := false }
def FnExactSunHeightSaid : Prop := fnExactSunHeightRow.holds Try.pinned (OpenSpec.ofChange fnExactSunHeightSpec)

/-- ITS FALSE NEIGHBOUR: 'it returns false'. Refute it at one input. -/
def fnExactSunHeightWrong : ChangeSpec := { name := "fnExactSunHeight", fn := fun _ => fun
  | [d1, d2, d3] => { results := [.lit (.bool false)], args := [d1, d2, d3] }
  | _ => none }
def FnExactSunHeightWrongFalsely : Prop := fnExactSunHeightRow.holds Try.pinned (OpenSpec.ofChange fnExactSunHeightWrong)

/-- 'laws.FnExactAngleTurns': WHATEVER THE INPUT: true; the input reads as it did. -/
def fnExactAngleTurnsSpec : ChangeSpec := { name := "fnExactAngleTurns", fn := fun _ => fun
  | [d1, d2] => { results := [.lit (.bool true)], args := [d1, d2] }
  | _ => none }
def fnExactAngleTurnsRow : OpenClaim := { program := "ytlhjmkdfemejmaa", sum := "bcd09cab0f15b67bc0425c6e0ae3eedd71414d1366370c6e997159e107db6259", func := "loop.example/g01309/laws.FnExactAngleTurns", spec := "fnExactAngleTurns", inPlace := ["math.Float64frombits", "math.Float64bits", "math.sqrt", "math.Float32frombits"], apart := false }
def FnExactAngleTurnsSaid : Prop := fnExactAngleTurnsRow.holds Try.pinned (OpenSpec.ofChange fnExactAngleTurnsSpec)

/-- ITS FALSE NEIGHBOUR: 'it returns false'. Refute it at one input. -/
def fnExactAngleTurnsWrong : ChangeSpec := { name := "fnExactAngleTurns", fn := fun _ => fun
  | [d1, d2] => { results := [.lit (.bool false)], args := [d1, d2] }
  | _ => none }
def FnExactAngleTurnsWrongFalsely : Prop := fnExactAngleTurnsRow.holds Try.pinned (OpenSpec.ofChange fnExactAngleTurnsWrong)

/-- 'laws.FnExactPanesThrough': WHATEVER THE INPUT: true; the input reads as it did. -/
def fnExactPanesThroughSpec : ChangeSpec := { name := "fnExactPanesThrough", fn := fun _ => fun
  | [d1, d2] => { results := [.lit (.bool true)], args := [d1, d2] }
  | _ => none }
def fnExactPanesThroughRow : OpenClaim := { program := "ytlhjmkdfemejmaa", sum := "bcd09cab0f15b67bc0425c6e0ae3eedd71414d1366370c6e997159e107db6259", func := "loop.example/g01309/laws.FnExactPanesThrough", spec := "fnExactPanesThrough", inPlace := ["math.Float64bits", "math.Float64frombits"], apart := false }
def FnExactPanesThroughSaid : Prop := fnExactPanesThroughRow.holds Try.pinned (OpenSpec.ofChange fnExactPanesThroughSpec)

/-- ITS FALSE NEIGHBOUR: 'it returns false'. Refute it at one input. -/
def fnExactPanesThroughWrong : ChangeSpec := { name := "fnExactPanesThrough", fn := fun _ => fun
  | [d1, d2] => { results := [.lit (.bool false)], args := [d1, d2] }
  | _ => none }
def FnExactPanesThroughWrongFalsely : Prop := fnExactPanesThroughRow.holds Try.pinned (OpenSpec.ofChange fnExactPanesThroughWrong)

/-- 'laws.FnExactAreFaces': WHATEVER THE INPUT: true; the input reads as it did. -/
def fnExactAreFacesSpec : ChangeSpec := { name := "fnExactAreFaces", fn := fun _ => fun
  | [d] => { results := [.lit (.bool true)], args := [d] }
  | _ => none }
def fnExactAreFacesRow : OpenClaim := { program := "ytlhjmkdfemejmaa", sum := "bcd09cab0f15b67bc0425c6e0ae3eedd71414d1366370c6e997159e107db6259", func := "loop.example/g01309/laws.FnExactAreFaces", spec := "fnExactAreFaces", inPlace := ["math.Float64bits", "math.Float64frombits"], unfollowed := true, recurses := true, apart := false }
def FnExactAreFacesSaid : Prop := fnExactAreFacesRow.holds Try.pinned (OpenSpec.ofChange fnExactAreFacesSpec)

/-- ITS FALSE NEIGHBOUR: 'it returns false'. Refute it at one input. -/
def fnExactAreFacesWrong : ChangeSpec := { name := "fnExactAreFaces", fn := fun _ => fun
  | [d] => { results := [.lit (.bool false)], args := [d] }
  | _ => none }
def FnExactAreFacesWrongFalsely : Prop := fnExactAreFacesRow.holds Try.pinned (OpenSpec.ofChange fnExactAreFacesWrong)

/-- 'laws.FnExactSameFaces': WHATEVER THE INPUT: true; the input reads as it did. -/
def fnExactSameFacesSpec : ChangeSpec := { name := "fnExactSameFaces", fn := fun _ => fun
  | [d1, d2] => { results := [.lit (.bool true)], args := [d1, d2] }
  | _ => none }
def fnExactSameFacesRow : OpenClaim := { program := "ytlhjmkdfemejmaa", sum := "bcd09cab0f15b67bc0425c6e0ae3eedd71414d1366370c6e997159e107db6259", func := "loop.example/g01309/laws.FnExactSameFaces", spec := "fnExactSameFaces", inPlace := ["math.Float32bits"], unfollowed := true, recurses := true, apart := false }
def FnExactSameFacesSaid : Prop := fnExactSameFacesRow.holds Try.pinned (OpenSpec.ofChange fnExactSameFacesSpec)

/-- ITS FALSE NEIGHBOUR: 'it returns false'. Refute it at one input. -/
def fnExactSameFacesWrong : ChangeSpec := { name := "fnExactSameFaces", fn := fun _ => fun
  | [d1, d2] => { results := [.lit (.bool false)], args := [d1, d2] }
  | _ => none }
def FnExactSameFacesWrongFalsely : Prop := fnExactSameFacesRow.holds Try.pinned (OpenSpec.ofChange fnExactSameFacesWrong)

/-- 'laws.FnExactSameHeaters': WHATEVER THE INPUT: true; the input reads as it did. -/
def fnExactSameHeatersSpec : ChangeSpec := { name := "fnExactSameHeaters", fn := fun _ => fun
  | [d1, d2] => { results := [.lit (.bool true)], args := [d1, d2] }
  | _ => none }
def fnExactSameHeatersRow : OpenClaim := { program := "ytlhjmkdfemejmaa", sum := "bcd09cab0f15b67bc0425c6e0ae3eedd71414d1366370c6e997159e107db6259", func := "loop.example/g01309/laws.FnExactSameHeaters", spec := "fnExactSameHeaters", inPlace := ["math.Float32bits"], unfollowed := true, recurses := true, apart := false }
def FnExactSameHeatersSaid : Prop := fnExactSameHeatersRow.holds Try.pinned (OpenSpec.ofChange fnExactSameHeatersSpec)

/-- ITS FALSE NEIGHBOUR: 'it returns false'. Refute it at one input. -/
def fnExactSameHeatersWrong : ChangeSpec := { name := "fnExactSameHeaters", fn := fun _ => fun
  | [d1, d2] => { results := [.lit (.bool false)], args := [d1, d2] }
  | _ => none }
def FnExactSameHeatersWrongFalsely : Prop := fnExactSameHeatersRow.holds Try.pinned (OpenSpec.ofChange fnExactSameHeatersWrong)

/-- 'laws.FnExactShareBill': WHATEVER THE INPUT: true; the input reads as it did. -/
def fnExactShareBillSpec : ChangeSpec := { name := "fnExactShareBill", fn := fun _ => fun
  | [d1, d2] => { results := [.lit (.bool true)], args := [d1, d2] }
  | _ => none }
def fnExactShareBillRow : OpenClaim := { program := "ytlhjmkdfemejmaa", sum := "bcd09cab0f15b67bc0425c6e0ae3eedd71414d1366370c6e997159e107db6259", func := "loop.example/g01309/laws.FnExactShareBill", spec := "fnExactShareBill", unfollowed := true, recurses := true, apart := false }
def FnExactShareBillSaid : Prop := fnExactShareBillRow.holds Try.pinned (OpenSpec.ofChange fnExactShareBillSpec)

/-- ITS FALSE NEIGHBOUR: 'it returns false'. Refute it at one input. -/
def fnExactShareBillWrong : ChangeSpec := { name := "fnExactShareBill", fn := fun _ => fun
  | [d1, d2] => { results := [.lit (.bool false)], args := [d1, d2] }
  | _ => none }
def FnExactShareBillWrongFalsely : Prop := fnExactShareBillRow.holds Try.pinned (OpenSpec.ofChange fnExactShareBillWrong)

/-- 'laws.FnExactCheapHours': WHATEVER THE INPUT: true; the input reads as it did. -/
def fnExactCheapHoursSpec : ChangeSpec := { name := "fnExactCheapHours", fn := fun _ => fun
  | [d1, d2] => { results := [.lit (.bool true)], args := [d1, d2] }
  | _ => none }
def fnExactCheapHoursRow : OpenClaim := { program := "ytlhjmkdfemejmaa", sum := "bcd09cab0f15b67bc0425c6e0ae3eedd71414d1366370c6e997159e107db6259", func := "loop.example/g01309/laws.FnExactCheapHours", spec := "fnExactCheapHours", unfollowed := true, recurses := true, apart := false }
def FnExactCheapHoursSaid : Prop := fnExactCheapHoursRow.holds Try.pinned (OpenSpec.ofChange fnExactCheapHoursSpec)

/-- ITS FALSE NEIGHBOUR: 'it returns false'. Refute it at one input. -/
def fnExactCheapHoursWrong : ChangeSpec := { name := "fnExactCheapHours", fn := fun _ => fun
  | [d1, d2] => { results := [.lit (.bool false)], args := [d1, d2] }
  | _ => none }
def FnExactCheapHoursWrongFalsely : Prop := fnExactCheapHoursRow.holds Try.pinned (OpenSpec.ofChange fnExactCheapHoursWrong)

/-- 'laws.FnExactPlanUnits': WHATEVER THE INPUT: true; the input reads as it did. -/
def fnExactPlanUnitsSpec : ChangeSpec := { name := "fnExactPlanUnits", fn := fun _ => fun
  | [d1, d2, d3] => { results := [.lit (.bool true)], args := [d1, d2, d3] }
  | _ => none }
def fnExactPlanUnitsRow : OpenClaim := { program := "ytlhjmkdfemejmaa", sum := "bcd09cab0f15b67bc0425c6e0ae3eedd71414d1366370c6e997159e107db6259", func := "loop.example/g01309/laws.FnExactPlanUnits", spec := "fnExactPlanUnits", unfollowed := true, recurses := true, apart := false }
def FnExactPlanUnitsSaid : Prop := fnExactPlanUnitsRow.holds Try.pinned (OpenSpec.ofChange fnExactPlanUnitsSpec)

/-- ITS FALSE NEIGHBOUR: 'it returns false'. Refute it at one input. -/
def fnExactPlanUnitsWrong : ChangeSpec := { name := "fnExactPlanUnits", fn := fun _ => fun
  | [d1, d2, d3] => { results := [.lit (.bool false)], args := [d1, d2, d3] }
  | _ => none }
def FnExactPlanUnitsWrongFalsely : Prop := fnExactPlanUnitsRow.holds Try.pinned (OpenSpec.ofChange fnExactPlanUnitsWrong)

/-- 'laws.FnExactSameHouse': WHATEVER THE INPUT: true; the input reads as it did. -/
def fnExactSameHouseSpec : ChangeSpec := { name := "fnExactSameHouse", fn := fun _ => fun
  | [d1, d2] => { results := [.lit (.bool true)], args := [d1, d2] }
  | _ => none }
def fnExactSameHouseRow : OpenClaim := { program := "ytlhjmkdfemejmaa", sum := "bcd09cab0f15b67bc0425c6e0ae3eedd71414d1366370c6e997159e107db6259", func := "loop.example/g01309/laws.FnExactSameHouse", spec := "fnExactSameHouse", inPlace := ["math.Float32bits"], unfollowed := true, recurses := true, apart := false }
def FnExactSameHouseSaid : Prop := fnExactSameHouseRow.holds Try.pinned (OpenSpec.ofChange fnExactSameHouseSpec)

/-- ITS FALSE NEIGHBOUR: 'it returns false'. Refute it at one input. -/
def fnExactSameHouseWrong : ChangeSpec := { name := "fnExactSameHouse", fn := fun _ => fun
  | [d1, d2] => { results := [.lit (.bool false)], args := [d1, d2] }
  | _ => none }
def FnExactSameHouseWrongFalsely : Prop := fnExactSameHouseRow.holds Try.pinned (OpenSpec.ofChange fnExactSameHouseWrong)

/-- 'laws.FnExactSetLeak': WHATEVER THE INPUT: true; the input reads as it did. -/
def fnExactSetLeakSpec : ChangeSpec := { name := "fnExactSetLeak", fn := fun _ => fun
  | [d1, d2, d3] => { results := [.lit (.bool true)], args := [d1, d2, d3] }
  | _ => none }
def fnExactSetLeakRow : OpenClaim := { program := "ytlhjmkdfemejmaa", sum := "bcd09cab0f15b67bc0425c6e0ae3eedd71414d1366370c6e997159e107db6259", func := "loop.example/g01309/laws.FnExactSetLeak", spec := "fnExactSetLeak", inPlace := ["math.Float64bits", "math.Float64frombits"], unfollowed := true, recurses := true, apart := false }
def FnExactSetLeakSaid : Prop := fnExactSetLeakRow.holds Try.pinned (OpenSpec.ofChange fnExactSetLeakSpec)

/-- ITS FALSE NEIGHBOUR: 'it returns false'. Refute it at one input. -/
def fnExactSetLeakWrong : ChangeSpec := { name := "fnExactSetLeak", fn := fun _ => fun
  | [d1, d2, d3] => { results := [.lit (.bool false)], args := [d1, d2, d3] }
  | _ => none }
def FnExactSetLeakWrongFalsely : Prop := fnExactSetLeakRow.holds Try.pinned (OpenSpec.ofChange fnExactSetLeakWrong)

/- THE SECOND FORM. 'bulk': how many values and letters a reading holds, each counted each time it is reached (what is shared counts as often as it is met; a slice's spare places count too). A statement '..UptoSaid' is the law's where the arguments, and the package variables that the reading takes, are together of bulk at most 1048576: NARROWER than '..Said'. Prove '..Said' where nothing that the law and all that it calls make is longer than what came in: it says more and counts as full. Else prove '..UptoSaid'. A law counts once. -/
mutual
def uptoBulk {H : Type} : DataW H → Nat
  | .lit (.string bytes) => bytes.length + 1
  | .lit _ => 1
  | .nil => 1
  | .ptr d => uptoBulk d + 1
  | .slice elems spare => uptoBulkAll elems + uptoBulkAll spare + 1
  | .agg parts => uptoBulkAll parts + 1
  | .iface _ d => uptoBulk d + 1
  | .map entries => uptoBulkEntries entries + 1
  | .held _ => 1
def uptoBulkAll {H : Type} : List (DataW H) → Nat
  | [] => 0
  | d :: r => uptoBulk d + uptoBulkAll r
def uptoBulkEntries {H : Type} : List (Lit × DataW H) → Nat
  | [] => 0
  | x :: r => uptoBulkEntry x + uptoBulkEntries r
def uptoBulkEntry {H : Type} : Lit × DataW H → Nat
  | (.string bytes, d) => bytes.length + uptoBulk d + 1
  | (_, d) => uptoBulk d + 1
 end
def uptoSmall : (H : Type) → List (DataW H) → Bool := fun _ ds => decide (uptoBulkAll ds ≤ 1048576)
def OpenSpec.upto (s : _root_.Go.ChangeSpec) : _root_.Go.OpenSpec := { _root_.Go.OpenSpec.ofChange s with cond := some uptoSmall }

/-- 'laws.FnExactSunOnFace', WHERE WHAT IT READS IS OF BULK AT MOST 1048576: true; the input reads as it did. -/
def fnExactSunOnFaceUptoRow : OpenClaim := { program := "ytlhjmkdfemejmaa", sum := "bcd09cab0f15b67bc0425c6e0ae3eedd71414d1366370c6e997159e107db6259", func := "loop.example/g01309/laws.FnExactSunOnFace", spec := "fnExactSunOnFace", inPlace := ["math.Float64frombits", "math.Float64bits", "math.Float32frombits", "math.archTrunc"], apart := false, narrowed := true }
def FnExactSunOnFaceUptoSaid : Prop := fnExactSunOnFaceUptoRow.holds Try.pinned (OpenSpec.upto fnExactSunOnFaceSpec)

/-- 'laws.FnExactSunHeight', WHERE WHAT IT READS IS OF BULK AT MOST 1048576: true; the input reads as it did. -/
def fnExactSunHeightUptoRow : OpenClaim := { program := "ytlhjmkdfemejmaa", sum := "bcd09cab0f15b67bc0425c6e0ae3eedd71414d1366370c6e997159e107db6259", func := "loop.example/g01309/laws.FnExactSunHeight", spec := "fnExactSunHeight", inPlace := ["math.Float64frombits", "math.sqrt", "math.Float64bits", "math.Float32frombits", "math.archTrunc"], apart := false, narrowed := true }
def FnExactSunHeightUptoSaid : Prop := fnExactSunHeightUptoRow.holds Try.pinned (OpenSpec.upto fnExactSunHeightSpec)

/-- 'laws.FnExactAngleTurns', WHERE WHAT IT READS IS OF BULK AT MOST 1048576: true; the input reads as it did. -/
def fnExactAngleTurnsUptoRow : OpenClaim := { program := "ytlhjmkdfemejmaa", sum := "bcd09cab0f15b67bc0425c6e0ae3eedd71414d1366370c6e997159e107db6259", func := "loop.example/g01309/laws.FnExactAngleTurns", spec := "fnExactAngleTurns", inPlace := ["math.Float64frombits", "math.Float64bits", "math.sqrt", "math.Float32frombits"], apart := false, narrowed := true }
def FnExactAngleTurnsUptoSaid : Prop := fnExactAngleTurnsUptoRow.holds Try.pinned (OpenSpec.upto fnExactAngleTurnsSpec)

/-- 'laws.FnExactPanesThrough', WHERE WHAT IT READS IS OF BULK AT MOST 1048576: true; the input reads as it did. -/
def fnExactPanesThroughUptoRow : OpenClaim := { program := "ytlhjmkdfemejmaa", sum := "bcd09cab0f15b67bc0425c6e0ae3eedd71414d1366370c6e997159e107db6259", func := "loop.example/g01309/laws.FnExactPanesThrough", spec := "fnExactPanesThrough", inPlace := ["math.Float64bits", "math.Float64frombits"], apart := false, narrowed := true }
def FnExactPanesThroughUptoSaid : Prop := fnExactPanesThroughUptoRow.holds Try.pinned (OpenSpec.upto fnExactPanesThroughSpec)

/-- 'laws.FnExactAreFaces', WHERE WHAT IT READS IS OF BULK AT MOST 1048576: true; the input reads as it did. -/
def fnExactAreFacesUptoRow : OpenClaim := { program := "ytlhjmkdfemejmaa", sum := "bcd09cab0f15b67bc0425c6e0ae3eedd71414d1366370c6e997159e107db6259", func := "loop.example/g01309/laws.FnExactAreFaces", spec := "fnExactAreFaces", inPlace := ["math.Float64bits", "math.Float64frombits"], unfollowed := true, recurses := true, apart := false, narrowed := true }
def FnExactAreFacesUptoSaid : Prop := fnExactAreFacesUptoRow.holds Try.pinned (OpenSpec.upto fnExactAreFacesSpec)

/-- 'laws.FnExactSameFaces', WHERE WHAT IT READS IS OF BULK AT MOST 1048576: true; the input reads as it did. -/
def fnExactSameFacesUptoRow : OpenClaim := { program := "ytlhjmkdfemejmaa", sum := "bcd09cab0f15b67bc0425c6e0ae3eedd71414d1366370c6e997159e107db6259", func := "loop.example/g01309/laws.FnExactSameFaces", spec := "fnExactSameFaces", inPlace := ["math.Float32bits"], unfollowed := true, recurses := true, apart := false, narrowed := true }
def FnExactSameFacesUptoSaid : Prop := fnExactSameFacesUptoRow.holds Try.pinned (OpenSpec.upto fnExactSameFacesSpec)

/-- 'laws.FnExactSameHeaters', WHERE WHAT IT READS IS OF BULK AT MOST 1048576: true; the input reads as it did. -/
def fnExactSameHeatersUptoRow : OpenClaim := { program := "ytlhjmkdfemejmaa", sum := "bcd09cab0f15b67bc0425c6e0ae3eedd71414d1366370c6e997159e107db6259", func := "loop.example/g01309/laws.FnExactSameHeaters", spec := "fnExactSameHeaters", inPlace := ["math.Float32bits"], unfollowed := true, recurses := true, apart := false, narrowed := true }
def FnExactSameHeatersUptoSaid : Prop := fnExactSameHeatersUptoRow.holds Try.pinned (OpenSpec.upto fnExactSameHeatersSpec)

/-- 'laws.FnExactShareBill', WHERE WHAT IT READS IS OF BULK AT MOST 1048576: true; the input reads as it did. -/
def fnExactShareBillUptoRow : OpenClaim := { program := "ytlhjmkdfemejmaa", sum := "bcd09cab0f15b67bc0425c6e0ae3eedd71414d1366370c6e997159e107db6259", func := "loop.example/g01309/laws.FnExactShareBill", spec := "fnExactShareBill", unfollowed := true, recurses := true, apart := false, narrowed := true }
def FnExactShareBillUptoSaid : Prop := fnExactShareBillUptoRow.holds Try.pinned (OpenSpec.upto fnExactShareBillSpec)

/-- 'laws.FnExactCheapHours', WHERE WHAT IT READS IS OF BULK AT MOST 1048576: true; the input reads as it did. -/
def fnExactCheapHoursUptoRow : OpenClaim := { program := "ytlhjmkdfemejmaa", sum := "bcd09cab0f15b67bc0425c6e0ae3eedd71414d1366370c6e997159e107db6259", func := "loop.example/g01309/laws.FnExactCheapHours", spec := "fnExactCheapHours", unfollowed := true, recurses := true, apart := false, narrowed := true }
def FnExactCheapHoursUptoSaid : Prop := fnExactCheapHoursUptoRow.holds Try.pinned (OpenSpec.upto fnExactCheapHoursSpec)

/-- 'laws.FnExactPlanUnits', WHERE WHAT IT READS IS OF BULK AT MOST 1048576: true; the input reads as it did. -/
def fnExactPlanUnitsUptoRow : OpenClaim := { program := "ytlhjmkdfemejmaa", sum := "bcd09cab0f15b67bc0425c6e0ae3eedd71414d1366370c6e997159e107db6259", func := "loop.example/g01309/laws.FnExactPlanUnits", spec := "fnExactPlanUnits", unfollowed := true, recurses := true, apart := false, narrowed := true }
def FnExactPlanUnitsUptoSaid : Prop := fnExactPlanUnitsUptoRow.holds Try.pinned (OpenSpec.upto fnExactPlanUnitsSpec)

/-- 'laws.FnExactSameHouse', WHERE WHAT IT READS IS OF BULK AT MOST 1048576: true; the input reads as it did. -/
def fnExactSameHouseUptoRow : OpenClaim := { program := "ytlhjmkdfemejmaa", sum := "bcd09cab0f15b67bc0425c6e0ae3eedd71414d1366370c6e997159e107db6259", func := "loop.example/g01309/laws.FnExactSameHouse", spec := "fnExactSameHouse", inPlace := ["math.Float32bits"], unfollowed := true, recurses := true, apart := false, narrowed := true }
def FnExactSameHouseUptoSaid : Prop := fnExactSameHouseUptoRow.holds Try.pinned (OpenSpec.upto fnExactSameHouseSpec)

/-- 'laws.FnExactSetLeak', WHERE WHAT IT READS IS OF BULK AT MOST 1048576: true; the input reads as it did. -/
def fnExactSetLeakUptoRow : OpenClaim := { program := "ytlhjmkdfemejmaa", sum := "bcd09cab0f15b67bc0425c6e0ae3eedd71414d1366370c6e997159e107db6259", func := "loop.example/g01309/laws.FnExactSetLeak", spec := "fnExactSetLeak", inPlace := ["math.Float64bits", "math.Float64frombits"], unfollowed := true, recurses := true, apart := false, narrowed := true }
def FnExactSetLeakUptoSaid : Prop := fnExactSetLeakUptoRow.holds Try.pinned (OpenSpec.upto fnExactSetLeakSpec)

end Rows
end Go.Proofs.Ytlhjmkdfemejmaa
