/-
  No cell of these rows narrows 'for every input' (looked for: loops, veiled, ifaces, maps, wideKeys, modest, calm, conditions, laid).
  DERIVED. THE GIVEN ROWS OF THIS SEAT. 12 by the template 'for every input the law returns true; each argument reads behind the call as it read before'; 0 by the template 'total and deterministic' (their statements: YtgcgfnpkkhhkgacTotals.lean).
  GIVEN WITH THE SEED: the statements are not yours to turn. If you find one false, say at which input.
  Laid BY PROGRAM, IN A SANDBOX (cutbox-rows.mjs): the forced cells as the released guide's own fill.sh prints them over the translation cd9754297da36f5b… (all of the seat's roots in one cut). By AI agents, Wed Nov 11 2026. No macro, syntax, notation, axiom, sorry.
-/
import Derived.Test.YtgcgfnpkkhhkgacChecked
import GoSem.Claim
import GoSem.ClaimJoined
import GoSem.ClaimMapViews
import Derived.JoinedTies
import Derived.KernelRfl
namespace Go.Proofs.Ytgcgfnpkkhhkgac
/- THE CELL 'sum', in the pinned program and in every row, IS THE sha256 OF THE DUMP (.gsa) THAT YtgcgfnpkkhhkgacProg.lean LOADS. Nothing in Lean hashes anything: it is a label: what it is worth is what the hold of that sum in a sandbox is worth. -/
noncomputable def Try.pinned : Pinned := { name := "ytgcgfnpkkhhkgac", sum := "cd9754297da36f5b96351d7de4635e635a208f01e3817732a8ac4642b7e144db", checked := Try.checked }
namespace Rows
def none {H : Type} : Left H := { results := [], args := [] }

/-- 'laws.FnExactEvenBar': WHATEVER THE INPUT: true; the input reads as it did. -/
def fnExactEvenBarSpec : ChangeSpec := { name := "fnExactEvenBar", fn := fun _ => fun
  | [d1, d2, d3, d4, d5] => { results := [.lit (.bool true)], args := [d1, d2, d3, d4, d5] }
  | _ => none }
def fnExactEvenBarRow : OpenClaim := { program := "ytgcgfnpkkhhkgac", sum := "cd9754297da36f5b96351d7de4635e635a208f01e3817732a8ac4642b7e144db", func := "loop.example/g01309/laws.FnExactEvenBar", spec := "fnExactEvenBar", inPlace := ["math.Float64bits", "math.Float64frombits"], unfollowed := true, recurses := true, apart := false }
def FnExactEvenBarSaid : Prop := fnExactEvenBarRow.holds Try.pinned (OpenSpec.ofChange fnExactEvenBarSpec)

/-- ITS FALSE NEIGHBOUR: 'it returns false'. Refute it at one input. -/
def fnExactEvenBarWrong : ChangeSpec := { name := "fnExactEvenBar", fn := fun _ => fun
  | [d1, d2, d3, d4, d5] => { results := [.lit (.bool false)], args := [d1, d2, d3, d4, d5] }
  | _ => none }
def FnExactEvenBarWrongFalsely : Prop := fnExactEvenBarRow.holds Try.pinned (OpenSpec.ofChange fnExactEvenBarWrong)

/-- 'laws.FnExactFlowsInBar': WHATEVER THE INPUT: true; the input reads as it did. -/
def fnExactFlowsInBarSpec : ChangeSpec := { name := "fnExactFlowsInBar", fn := fun _ => fun
  | [d] => { results := [.lit (.bool true)], args := [d] }
  | _ => none }
def fnExactFlowsInBarRow : OpenClaim := { program := "ytgcgfnpkkhhkgac", sum := "cd9754297da36f5b96351d7de4635e635a208f01e3817732a8ac4642b7e144db", func := "loop.example/g01309/laws.FnExactFlowsInBar", spec := "fnExactFlowsInBar", inPlace := ["math.Float64bits", "math.Float64frombits"], unfollowed := true, recurses := true, apart := false }
def FnExactFlowsInBarSaid : Prop := fnExactFlowsInBarRow.holds Try.pinned (OpenSpec.ofChange fnExactFlowsInBarSpec)

/-- ITS FALSE NEIGHBOUR: 'it returns false'. Refute it at one input. -/
def fnExactFlowsInBarWrong : ChangeSpec := { name := "fnExactFlowsInBar", fn := fun _ => fun
  | [d] => { results := [.lit (.bool false)], args := [d] }
  | _ => none }
def FnExactFlowsInBarWrongFalsely : Prop := fnExactFlowsInBarRow.holds Try.pinned (OpenSpec.ofChange fnExactFlowsInBarWrong)

/-- 'laws.FnExactStepBar': WHATEVER THE INPUT: true; the input reads as it did. -/
def fnExactStepBarSpec : ChangeSpec := { name := "fnExactStepBar", fn := fun _ => fun
  | [d1, d2, d3, d4, d5, d6] => { results := [.lit (.bool true)], args := [d1, d2, d3, d4, d5, d6] }
  | _ => none }
def fnExactStepBarRow : OpenClaim := { program := "ytgcgfnpkkhhkgac", sum := "cd9754297da36f5b96351d7de4635e635a208f01e3817732a8ac4642b7e144db", func := "loop.example/g01309/laws.FnExactStepBar", spec := "fnExactStepBar", inPlace := ["math.Float64bits", "math.Float64frombits"], unfollowed := true, recurses := true, apart := false }
def FnExactStepBarSaid : Prop := fnExactStepBarRow.holds Try.pinned (OpenSpec.ofChange fnExactStepBarSpec)

/-- ITS FALSE NEIGHBOUR: 'it returns false'. Refute it at one input. -/
def fnExactStepBarWrong : ChangeSpec := { name := "fnExactStepBar", fn := fun _ => fun
  | [d1, d2, d3, d4, d5, d6] => { results := [.lit (.bool false)], args := [d1, d2, d3, d4, d5, d6] }
  | _ => none }
def FnExactStepBarWrongFalsely : Prop := fnExactStepBarRow.holds Try.pinned (OpenSpec.ofChange fnExactStepBarWrong)

/-- 'laws.FnExactRunBar': WHATEVER THE INPUT: true; the input reads as it did. -/
def fnExactRunBarSpec : ChangeSpec := { name := "fnExactRunBar", fn := fun _ => fun
  | [d1, d2, d3, d4, d5, d6, d7] => { results := [.lit (.bool true)], args := [d1, d2, d3, d4, d5, d6, d7] }
  | _ => none }
def fnExactRunBarRow : OpenClaim := { program := "ytgcgfnpkkhhkgac", sum := "cd9754297da36f5b96351d7de4635e635a208f01e3817732a8ac4642b7e144db", func := "loop.example/g01309/laws.FnExactRunBar", spec := "fnExactRunBar", inPlace := ["math.Float64bits", "math.Float64frombits"], unfollowed := true, recurses := true, apart := false }
def FnExactRunBarSaid : Prop := fnExactRunBarRow.holds Try.pinned (OpenSpec.ofChange fnExactRunBarSpec)

/-- ITS FALSE NEIGHBOUR: 'it returns false'. Refute it at one input. -/
def fnExactRunBarWrong : ChangeSpec := { name := "fnExactRunBar", fn := fun _ => fun
  | [d1, d2, d3, d4, d5, d6, d7] => { results := [.lit (.bool false)], args := [d1, d2, d3, d4, d5, d6, d7] }
  | _ => none }
def FnExactRunBarWrongFalsely : Prop := fnExactRunBarRow.holds Try.pinned (OpenSpec.ofChange fnExactRunBarWrong)

/-- 'laws.FnStuffs': WHATEVER THE INPUT: true; the input reads as it did. -/
def fnStuffsSpec : ChangeSpec := { name := "fnStuffs", fn := fun _ => fun
  | [d1, d2] => { results := [.lit (.bool true)], args := [d1, d2] }
  | _ => none }
def fnStuffsRow : OpenClaim := { program := "ytgcgfnpkkhhkgac", sum := "cd9754297da36f5b96351d7de4635e635a208f01e3817732a8ac4642b7e144db", func := "loop.example/g01309/laws.FnStuffs", spec := "fnStuffs", inPlace := ["math.Float64bits", "math.Float64frombits", "math.Float32bits"], unfollowed := true, recurses := true, apart := false }
def FnStuffsSaid : Prop := fnStuffsRow.holds Try.pinned (OpenSpec.ofChange fnStuffsSpec)

/-- ITS FALSE NEIGHBOUR: 'it returns false'. Refute it at one input. -/
def fnStuffsWrong : ChangeSpec := { name := "fnStuffs", fn := fun _ => fun
  | [d1, d2] => { results := [.lit (.bool false)], args := [d1, d2] }
  | _ => none }
def FnStuffsWrongFalsely : Prop := fnStuffsRow.holds Try.pinned (OpenSpec.ofChange fnStuffsWrong)

/-- 'laws.FnBars': WHATEVER THE INPUT: true; the input reads as it did. -/
def fnBarsSpec : ChangeSpec := { name := "fnBars", fn := fun _ => fun
  | [d1, d2] => { results := [.lit (.bool true)], args := [d1, d2] }
  | _ => none }
def fnBarsRow : OpenClaim := { program := "ytgcgfnpkkhhkgac", sum := "cd9754297da36f5b96351d7de4635e635a208f01e3817732a8ac4642b7e144db", func := "loop.example/g01309/laws.FnBars", spec := "fnBars", inPlace := ["math.Float64bits", "math.Float64frombits", "math.Float32bits"], unfollowed := true, recurses := true, apart := false }
def FnBarsSaid : Prop := fnBarsRow.holds Try.pinned (OpenSpec.ofChange fnBarsSpec)

/-- ITS FALSE NEIGHBOUR: 'it returns false'. Refute it at one input. -/
def fnBarsWrong : ChangeSpec := { name := "fnBars", fn := fun _ => fun
  | [d1, d2] => { results := [.lit (.bool false)], args := [d1, d2] }
  | _ => none }
def FnBarsWrongFalsely : Prop := fnBarsRow.holds Try.pinned (OpenSpec.ofChange fnBarsWrong)

/-- 'laws.FnFronts': WHATEVER THE INPUT: true; the input reads as it did. -/
def fnFrontsSpec : ChangeSpec := { name := "fnFronts", fn := fun _ => fun
  | [d1, d2] => { results := [.lit (.bool true)], args := [d1, d2] }
  | _ => none }
def fnFrontsRow : OpenClaim := { program := "ytgcgfnpkkhhkgac", sum := "cd9754297da36f5b96351d7de4635e635a208f01e3817732a8ac4642b7e144db", func := "loop.example/g01309/laws.FnFronts", spec := "fnFronts", inPlace := ["math.Float64bits", "math.Float64frombits", "math.sqrt"], unfollowed := true, recurses := true, apart := false }
def FnFrontsSaid : Prop := fnFrontsRow.holds Try.pinned (OpenSpec.ofChange fnFrontsSpec)

/-- ITS FALSE NEIGHBOUR: 'it returns false'. Refute it at one input. -/
def fnFrontsWrong : ChangeSpec := { name := "fnFronts", fn := fun _ => fun
  | [d1, d2] => { results := [.lit (.bool false)], args := [d1, d2] }
  | _ => none }
def FnFrontsWrongFalsely : Prop := fnFrontsRow.holds Try.pinned (OpenSpec.ofChange fnFrontsWrong)

/-- 'laws.FnIces': WHATEVER THE INPUT: true; the input reads as it did. -/
def fnIcesSpec : ChangeSpec := { name := "fnIces", fn := fun _ => fun
  | [d1, d2] => { results := [.lit (.bool true)], args := [d1, d2] }
  | _ => none }
def fnIcesRow : OpenClaim := { program := "ytgcgfnpkkhhkgac", sum := "cd9754297da36f5b96351d7de4635e635a208f01e3817732a8ac4642b7e144db", func := "loop.example/g01309/laws.FnIces", spec := "fnIces", inPlace := ["math.Float64bits", "math.Float64frombits", "math.Float32bits"], unfollowed := true, recurses := true, apart := false }
def FnIcesSaid : Prop := fnIcesRow.holds Try.pinned (OpenSpec.ofChange fnIcesSpec)

/-- ITS FALSE NEIGHBOUR: 'it returns false'. Refute it at one input. -/
def fnIcesWrong : ChangeSpec := { name := "fnIces", fn := fun _ => fun
  | [d1, d2] => { results := [.lit (.bool false)], args := [d1, d2] }
  | _ => none }
def FnIcesWrongFalsely : Prop := fnIcesRow.holds Try.pinned (OpenSpec.ofChange fnIcesWrong)

/-- 'laws.FnCups': WHATEVER THE INPUT: true; the input reads as it did. -/
def fnCupsSpec : ChangeSpec := { name := "fnCups", fn := fun _ => fun
  | [d1, d2] => { results := [.lit (.bool true)], args := [d1, d2] }
  | _ => none }
def fnCupsRow : OpenClaim := { program := "ytgcgfnpkkhhkgac", sum := "cd9754297da36f5b96351d7de4635e635a208f01e3817732a8ac4642b7e144db", func := "loop.example/g01309/laws.FnCups", spec := "fnCups", apart := false }
def FnCupsSaid : Prop := fnCupsRow.holds Try.pinned (OpenSpec.ofChange fnCupsSpec)

/-- ITS FALSE NEIGHBOUR: 'it returns false'. Refute it at one input. -/
def fnCupsWrong : ChangeSpec := { name := "fnCups", fn := fun _ => fun
  | [d1, d2] => { results := [.lit (.bool false)], args := [d1, d2] }
  | _ => none }
def FnCupsWrongFalsely : Prop := fnCupsRow.holds Try.pinned (OpenSpec.ofChange fnCupsWrong)

/-- 'laws.FnExactPlainRod': WHATEVER THE INPUT: true; the input reads as it did. -/
def fnExactPlainRodSpec : ChangeSpec := { name := "fnExactPlainRod", fn := fun _ => fun
  | [d1, d2, d3, d4, d5] => { results := [.lit (.bool true)], args := [d1, d2, d3, d4, d5] }
  | _ => none }
def fnExactPlainRodRow : OpenClaim := { program := "ytgcgfnpkkhhkgac", sum := "cd9754297da36f5b96351d7de4635e635a208f01e3817732a8ac4642b7e144db", func := "loop.example/g01309/laws.FnExactPlainRod", spec := "fnExactPlainRod", inPlace := ["math.Float64bits", "math.Float64frombits"], unfollowed := true, recurses := true, apart := false }
def FnExactPlainRodSaid : Prop := fnExactPlainRodRow.holds Try.pinned (OpenSpec.ofChange fnExactPlainRodSpec)

/-- ITS FALSE NEIGHBOUR: 'it returns false'. Refute it at one input. -/
def fnExactPlainRodWrong : ChangeSpec := { name := "fnExactPlainRod", fn := fun _ => fun
  | [d1, d2, d3, d4, d5] => { results := [.lit (.bool false)], args := [d1, d2, d3, d4, d5] }
  | _ => none }
def FnExactPlainRodWrongFalsely : Prop := fnExactPlainRodRow.holds Try.pinned (OpenSpec.ofChange fnExactPlainRodWrong)

/-- 'laws.FnExactSetWarms': WHATEVER THE INPUT: true; the input reads as it did. -/
def fnExactSetWarmsSpec : ChangeSpec := { name := "fnExactSetWarms", fn := fun _ => fun
  | [d1, d2] => { results := [.lit (.bool true)], args := [d1, d2] }
  | _ => none }
def fnExactSetWarmsRow : OpenClaim := { program := "ytgcgfnpkkhhkgac", sum := "cd9754297da36f5b96351d7de4635e635a208f01e3817732a8ac4642b7e144db", func := "loop.example/g01309/laws.FnExactSetWarms", spec := "fnExactSetWarms", inPlace := ["math.Float64bits", "math.Float64frombits"], unfollowed := true, recurses := true, apart := false }
def FnExactSetWarmsSaid : Prop := fnExactSetWarmsRow.holds Try.pinned (OpenSpec.ofChange fnExactSetWarmsSpec)

/-- ITS FALSE NEIGHBOUR: 'it returns false'. Refute it at one input. -/
def fnExactSetWarmsWrong : ChangeSpec := { name := "fnExactSetWarms", fn := fun _ => fun
  | [d1, d2] => { results := [.lit (.bool false)], args := [d1, d2] }
  | _ => none }
def FnExactSetWarmsWrongFalsely : Prop := fnExactSetWarmsRow.holds Try.pinned (OpenSpec.ofChange fnExactSetWarmsWrong)

/-- 'laws.FnExactBackRod': WHATEVER THE INPUT: true; the input reads as it did. -/
def fnExactBackRodSpec : ChangeSpec := { name := "fnExactBackRod", fn := fun _ => fun
  | [d] => { results := [.lit (.bool true)], args := [d] }
  | _ => none }
def fnExactBackRodRow : OpenClaim := { program := "ytgcgfnpkkhhkgac", sum := "cd9754297da36f5b96351d7de4635e635a208f01e3817732a8ac4642b7e144db", func := "loop.example/g01309/laws.FnExactBackRod", spec := "fnExactBackRod", inPlace := ["math.Float64bits", "math.Float64frombits"], unfollowed := true, recurses := true, apart := false }
def FnExactBackRodSaid : Prop := fnExactBackRodRow.holds Try.pinned (OpenSpec.ofChange fnExactBackRodSpec)

/-- ITS FALSE NEIGHBOUR: 'it returns false'. Refute it at one input. -/
def fnExactBackRodWrong : ChangeSpec := { name := "fnExactBackRod", fn := fun _ => fun
  | [d] => { results := [.lit (.bool false)], args := [d] }
  | _ => none }
def FnExactBackRodWrongFalsely : Prop := fnExactBackRodRow.holds Try.pinned (OpenSpec.ofChange fnExactBackRodWrong)

/- THE SECOND FORM. 'bulk': how many values and letters a reading holds, each counted each time it is reached (what is shared counts as often as it is met; a slice's spare places count too). A statement '..UptoSaid' is the law's where the arguments, and the package variables that the reading takes, are together of bulk at most 1048576: NARROWER than '..Said'. Prove '..Said' where nothing that the law and all that it calls make is longer than what came in: it says more and counts as full. Else prove '..UptoSaid'. A law counts once. -/
mutual
def uptoBulk {H : Type} : DataW H → Nat
  | .lit (.string bytes) => bytes.length + 1
  | .lit _ => 1
  | .nil => 1
  | .ptr d => uptoBulk d + 1
  | .slice elems spare => uptoBulkAll elems + uptoBulkAll spare + 1
  | .agg parts => uptoBulkAll parts + 1
  | .iface _ d => uptoBulk d + 1
  | .map entries => uptoBulkEntries entries + 1
  | .held _ => 1
def uptoBulkAll {H : Type} : List (DataW H) → Nat
  | [] => 0
  | d :: r => uptoBulk d + uptoBulkAll r
def uptoBulkEntries {H : Type} : List (Lit × DataW H) → Nat
  | [] => 0
  | x :: r => uptoBulkEntry x + uptoBulkEntries r
def uptoBulkEntry {H : Type} : Lit × DataW H → Nat
  | (.string bytes, d) => bytes.length + uptoBulk d + 1
  | (_, d) => uptoBulk d + 1
 end
def uptoSmall : (H : Type) → List (DataW H) → Bool := fun _ ds => decide (uptoBulkAll ds ≤ 1048576)
def OpenSpec.upto (s : _root_.Go.ChangeSpec) : _root_.Go.OpenSpec := { _root_.Go.OpenSpec.ofChange s with cond := some uptoSmall }

/-- 'laws.FnExactEvenBar', WHERE WHAT IT READS IS OF BULK AT MOST 1048576: true; the input reads as it did. -/
def fnExactEvenBarUptoRow : OpenClaim := { program := "ytgcgfnpkkhhkgac", sum := "cd9754297da36f5b96351d7de4635e635a208f01e3817732a8ac4642b7e144db", func := "loop.example/g01309/laws.FnExactEvenBar", spec := "fnExactEvenBar", inPlace := ["math.Float64bits", "math.Float64frombits"], unfollowed := true, recurses := true, apart := false, narrowed := true }
def FnExactEvenBarUptoSaid : Prop := fnExactEvenBarUptoRow.holds Try.pinned (OpenSpec.upto fnExactEvenBarSpec)

/-- 'laws.FnExactFlowsInBar', WHERE WHAT IT READS IS OF BULK AT MOST 1048576: true; the input reads as it did. -/
def fnExactFlowsInBarUptoRow : OpenClaim := { program := "ytgcgfnpkkhhkgac", sum := "cd9754297da36f5b96351d7de4635e635a208f01e3817732a8ac4642b7e144db", func := "loop.example/g01309/laws.FnExactFlowsInBar", spec := "fnExactFlowsInBar", inPlace := ["math.Float64bits", "math.Float64frombits"], unfollowed := true, recurses := true, apart := false, narrowed := true }
def FnExactFlowsInBarUptoSaid : Prop := fnExactFlowsInBarUptoRow.holds Try.pinned (OpenSpec.upto fnExactFlowsInBarSpec)

/-- 'laws.FnExactStepBar', WHERE WHAT IT READS IS OF BULK AT MOST 1048576: true; the input reads as it did. -/
def fnExactStepBarUptoRow : OpenClaim := { program := "ytgcgfnpkkhhkgac", sum := "cd9754297da36f5b96351d7de4635e635a208f01e3817732a8ac4642b7e144db", func := "loop.example/g01309/laws.FnExactStepBar", spec := "fnExactStepBar", inPlace := ["math.Float64bits", "math.Float64frombits"], unfollowed := true, recurses := true, apart := false, narrowed := true }
def FnExactStepBarUptoSaid : Prop := fnExactStepBarUptoRow.holds Try.pinned (OpenSpec.upto fnExactStepBarSpec)

/-- 'laws.FnExactRunBar', WHERE WHAT IT READS IS OF BULK AT MOST 1048576: true; the input reads as it did. -/
def fnExactRunBarUptoRow : OpenClaim := { program := "ytgcgfnpkkhhkgac", sum := "cd9754297da36f5b96351d7de4635e635a208f01e3817732a8ac4642b7e144db", func := "loop.example/g01309/laws.FnExactRunBar", spec := "fnExactRunBar", inPlace := ["math.Float64bits", "math.Float64frombits"], unfollowed := true, recurses := true, apart := false, narrowed := true }
def FnExactRunBarUptoSaid : Prop := fnExactRunBarUptoRow.holds Try.pinned (OpenSpec.upto fnExactRunBarSpec)

/-- 'laws.FnStuffs', WHERE WHAT IT READS IS OF BULK AT MOST 1048576: true; the input reads as it did. -/
def fnStuffsUptoRow : OpenClaim := { program := "ytgcgfnpkkhhkgac", sum := "cd9754297da36f5b96351d7de4635e635a208f01e3817732a8ac4642b7e144db", func := "loop.example/g01309/laws.FnStuffs", spec := "fnStuffs", inPlace := ["math.Float64bits", "math.Float64frombits", "math.Float32bits"], unfollowed := true, recurses := true, apart := false, narrowed := true }
def FnStuffsUptoSaid : Prop := fnStuffsUptoRow.holds Try.pinned (OpenSpec.upto fnStuffsSpec)

/-- 'laws.FnBars', WHERE WHAT IT READS IS OF BULK AT MOST 1048576: true; the input reads as it did. -/
def fnBarsUptoRow : OpenClaim := { program := "ytgcgfnpkkhhkgac", sum := "cd9754297da36f5b96351d7de4635e635a208f01e3817732a8ac4642b7e144db", func := "loop.example/g01309/laws.FnBars", spec := "fnBars", inPlace := ["math.Float64bits", "math.Float64frombits", "math.Float32bits"], unfollowed := true, recurses := true, apart := false, narrowed := true }
def FnBarsUptoSaid : Prop := fnBarsUptoRow.holds Try.pinned (OpenSpec.upto fnBarsSpec)

/-- 'laws.FnFronts', WHERE WHAT IT READS IS OF BULK AT MOST 1048576: true; the input reads as it did. -/
def fnFrontsUptoRow : OpenClaim := { program := "ytgcgfnpkkhhkgac", sum := "cd9754297da36f5b96351d7de4635e635a208f01e3817732a8ac4642b7e144db", func := "loop.example/g01309/laws.FnFronts", spec := "fnFronts", inPlace := ["math.Float64bits", "math.Float64frombits", "math.sqrt"], unfollowed := true, recurses := true, apart := false, narrowed := true }
def FnFrontsUptoSaid : Prop := fnFrontsUptoRow.holds Try.pinned (OpenSpec.upto fnFrontsSpec)

/-- 'laws.FnIces', WHERE WHAT IT READS IS OF BULK AT MOST 1048576: true; the input reads as it did. -/
def fnIcesUptoRow : OpenClaim := { program := "ytgcgfnpkkhhkgac", sum := "cd9754297da36f5b96351d7de4635e635a208f01e3817732a8ac4642b7e144db", func := "loop.example/g01309/laws.FnIces", spec := "fnIces", inPlace := ["math.Float64bits", "math.Float64frombits", "math.Float32bits"], unfollowed := true, recurses := true, apart := false, narrowed := true }
def FnIcesUptoSaid : Prop := fnIcesUptoRow.holds Try.pinned (OpenSpec.upto fnIcesSpec)

/-- 'laws.FnCups', WHERE WHAT IT READS IS OF BULK AT MOST 1048576: true; the input reads as it did. -/
def fnCupsUptoRow : OpenClaim := { program := "ytgcgfnpkkhhkgac", sum := "cd9754297da36f5b96351d7de4635e635a208f01e3817732a8ac4642b7e144db", func := "loop.example/g01309/laws.FnCups", spec := "fnCups", apart := false, narrowed := true }
def FnCupsUptoSaid : Prop := fnCupsUptoRow.holds Try.pinned (OpenSpec.upto fnCupsSpec)

/-- 'laws.FnExactPlainRod', WHERE WHAT IT READS IS OF BULK AT MOST 1048576: true; the input reads as it did. -/
def fnExactPlainRodUptoRow : OpenClaim := { program := "ytgcgfnpkkhhkgac", sum := "cd9754297da36f5b96351d7de4635e635a208f01e3817732a8ac4642b7e144db", func := "loop.example/g01309/laws.FnExactPlainRod", spec := "fnExactPlainRod", inPlace := ["math.Float64bits", "math.Float64frombits"], unfollowed := true, recurses := true, apart := false, narrowed := true }
def FnExactPlainRodUptoSaid : Prop := fnExactPlainRodUptoRow.holds Try.pinned (OpenSpec.upto fnExactPlainRodSpec)

/-- 'laws.FnExactSetWarms', WHERE WHAT IT READS IS OF BULK AT MOST 1048576: true; the input reads as it did. -/
def fnExactSetWarmsUptoRow : OpenClaim := { program := "ytgcgfnpkkhhkgac", sum := "cd9754297da36f5b96351d7de4635e635a208f01e3817732a8ac4642b7e144db", func := "loop.example/g01309/laws.FnExactSetWarms", spec := "fnExactSetWarms", inPlace := ["math.Float64bits", "math.Float64frombits"], unfollowed := true, recurses := true, apart := false, narrowed := true }
def FnExactSetWarmsUptoSaid : Prop := fnExactSetWarmsUptoRow.holds Try.pinned (OpenSpec.upto fnExactSetWarmsSpec)

/-- 'laws.FnExactBackRod', WHERE WHAT IT READS IS OF BULK AT MOST 1048576: true; the input reads as it did. -/
def fnExactBackRodUptoRow : OpenClaim := { program := "ytgcgfnpkkhhkgac", sum := "cd9754297da36f5b96351d7de4635e635a208f01e3817732a8ac4642b7e144db", func := "loop.example/g01309/laws.FnExactBackRod", spec := "fnExactBackRod", inPlace := ["math.Float64bits", "math.Float64frombits"], unfollowed := true, recurses := true, apart := false, narrowed := true }
def FnExactBackRodUptoSaid : Prop := fnExactBackRodUptoRow.holds Try.pinned (OpenSpec.upto fnExactBackRodSpec)

end Rows
end Go.Proofs.Ytgcgfnpkkhhkgac
