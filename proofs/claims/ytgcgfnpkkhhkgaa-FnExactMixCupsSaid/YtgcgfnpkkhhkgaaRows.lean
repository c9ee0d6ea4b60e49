/-
  No cell of these rows narrows 'for every input' (looked for: loops, veiled, ifaces, maps, wideKeys, modest, calm, conditions, laid).
  DERIVED. THE GIVEN ROWS OF THIS SEAT. 12 by the template 'for every input the law returns true; each argument reads behind the call as it read before'; 0 by the template 'total and deterministic' (their statements: YtgcgfnpkkhhkgaaTotals.lean).
  GIVEN WITH THE SEED: the statements are not yours to turn. If you find one false, say at which input.
  Laid BY PROGRAM, IN A SANDBOX (cutbox-rows.mjs): the forced cells as the released guide's own fill.sh prints them over the translation 8c6614c476c32c0a… (all of the seat's roots in one cut). By AI agents, Wed Nov 11 2026. No macro, syntax, notation, axiom, sorry.
-/
import Derived.Test.YtgcgfnpkkhhkgaaChecked
import GoSem.Claim
import GoSem.ClaimJoined
import GoSem.ClaimMapViews
import Derived.JoinedTies
import Derived.KernelRfl
namespace Go.Proofs.Ytgcgfnpkkhhkgaa
/- THE CELL 'sum', in the pinned program and in every row, IS THE sha256 OF THE DUMP (.gsa) THAT YtgcgfnpkkhhkgaaProg.lean LOADS. Nothing in Lean hashes anything: it is a label: what it is worth is what the hold of that sum in a sandbox is worth. -/
noncomputable def Try.pinned : Pinned := { name := "ytgcgfnpkkhhkgaa", sum := "8c6614c476c32c0a1f5744e7eecdfc444a014d36971e882966795e2f254df37b", checked := Try.checked }
namespace Rows
def none {H : Type} : Left H := { results := [], args := [] }

/-- 'laws.FnExactValidCup': WHATEVER THE INPUT: true; the input reads as it did. -/
def fnExactValidCupSpec : ChangeSpec := { name := "fnExactValidCup", fn := fun _ => fun
  | [d] => { results := [.lit (.bool true)], args := [d] }
  | _ => none }
def fnExactValidCupRow : OpenClaim := { program := "ytgcgfnpkkhhkgaa", sum := "8c6614c476c32c0a1f5744e7eecdfc444a014d36971e882966795e2f254df37b", func := "loop.example/g01309/laws.FnExactValidCup", spec := "fnExactValidCup", apart := false }
def FnExactValidCupSaid : Prop := fnExactValidCupRow.holds Try.pinned (OpenSpec.ofChange fnExactValidCupSpec)

/-- ITS FALSE NEIGHBOUR: 'it returns false'. Refute it at one input. -/
def fnExactValidCupWrong : ChangeSpec := { name := "fnExactValidCup", fn := fun _ => fun
  | [d] => { results := [.lit (.bool false)], args := [d] }
  | _ => none }
def FnExactValidCupWrongFalsely : Prop := fnExactValidCupRow.holds Try.pinned (OpenSpec.ofChange fnExactValidCupWrong)

/-- 'laws.FnExactMixCups': WHATEVER THE INPUT: true; the input reads as it did. -/
def fnExactMixCupsSpec : ChangeSpec := { name := "fnExactMixCups", fn := fun _ => fun
  | [d1, d2] => { results := [.lit (.bool true)], args := [d1, d2] }
  | _ => none }
def fnExactMixCupsRow : OpenClaim := { program := "ytgcgfnpkkhhkgaa", sum := "8c6614c476c32c0a1f5744e7eecdfc444a014d36971e882966795e2f254df37b", func := "loop.example/g01309/laws.FnExactMixCups", spec := "fnExactMixCups", apart := false }
def FnExactMixCupsSaid : Prop := fnExactMixCupsRow.holds Try.pinned (OpenSpec.ofChange fnExactMixCupsSpec)

/-- ITS FALSE NEIGHBOUR: 'it returns false'. Refute it at one input. -/
def fnExactMixCupsWrong : ChangeSpec := { name := "fnExactMixCups", fn := fun _ => fun
  | [d1, d2] => { results := [.lit (.bool false)], args := [d1, d2] }
  | _ => none }
def FnExactMixCupsWrongFalsely : Prop := fnExactMixCupsRow.holds Try.pinned (OpenSpec.ofChange fnExactMixCupsWrong)

/-- 'laws.FnExactHeatCup': WHATEVER THE INPUT: true; the input reads as it did. -/
def fnExactHeatCupSpec : ChangeSpec := { name := "fnExactHeatCup", fn := fun _ => fun
  | [d1, d2] => { results := [.lit (.bool true)], args := [d1, d2] }
  | _ => none }
def fnExactHeatCupRow : OpenClaim := { program := "ytgcgfnpkkhhkgaa", sum := "8c6614c476c32c0a1f5744e7eecdfc444a014d36971e882966795e2f254df37b", func := "loop.example/g01309/laws.FnExactHeatCup", spec := "fnExactHeatCup", apart := false }
def FnExactHeatCupSaid : Prop := fnExactHeatCupRow.holds Try.pinned (OpenSpec.ofChange fnExactHeatCupSpec)

/-- ITS FALSE NEIGHBOUR: 'it returns false'. Refute it at one input. -/
def fnExactHeatCupWrong : ChangeSpec := { name := "fnExactHeatCup", fn := fun _ => fun
  | [d1, d2] => { results := [.lit (.bool false)], args := [d1, d2] }
  | _ => none }
def FnExactHeatCupWrongFalsely : Prop := fnExactHeatCupRow.holds Try.pinned (OpenSpec.ofChange fnExactHeatCupWrong)

/-- 'laws.FnExactMeltedInCup': WHATEVER THE INPUT: true; the input reads as it did. -/
def fnExactMeltedInCupSpec : ChangeSpec := { name := "fnExactMeltedInCup", fn := fun _ => fun
  | [d] => { results := [.lit (.bool true)], args := [d] }
  | _ => none }
def fnExactMeltedInCupRow : OpenClaim := { program := "ytgcgfnpkkhhkgaa", sum := "8c6614c476c32c0a1f5744e7eecdfc444a014d36971e882966795e2f254df37b", func := "loop.example/g01309/laws.FnExactMeltedInCup", spec := "fnExactMeltedInCup", apart := false }
def FnExactMeltedInCupSaid : Prop := fnExactMeltedInCupRow.holds Try.pinned (OpenSpec.ofChange fnExactMeltedInCupSpec)

/-- ITS FALSE NEIGHBOUR: 'it returns false'. Refute it at one input. -/
def fnExactMeltedInCupWrong : ChangeSpec := { name := "fnExactMeltedInCup", fn := fun _ => fun
  | [d] => { results := [.lit (.bool false)], args := [d] }
  | _ => none }
def FnExactMeltedInCupWrongFalsely : Prop := fnExactMeltedInCupRow.holds Try.pinned (OpenSpec.ofChange fnExactMeltedInCupWrong)

/-- 'laws.FnExactWarmOfCup': WHATEVER THE INPUT: true; the input reads as it did. -/
def fnExactWarmOfCupSpec : ChangeSpec := { name := "fnExactWarmOfCup", fn := fun _ => fun
  | [d] => { results := [.lit (.bool true)], args := [d] }
  | _ => none }
def fnExactWarmOfCupRow : OpenClaim := { program := "ytgcgfnpkkhhkgaa", sum := "8c6614c476c32c0a1f5744e7eecdfc444a014d36971e882966795e2f254df37b", func := "loop.example/g01309/laws.FnExactWarmOfCup", spec := "fnExactWarmOfCup", apart := false }
def FnExactWarmOfCupSaid : Prop := fnExactWarmOfCupRow.holds Try.pinned (OpenSpec.ofChange fnExactWarmOfCupSpec)

/-- ITS FALSE NEIGHBOUR: 'it returns false'. Refute it at one input. -/
def fnExactWarmOfCupWrong : ChangeSpec := { name := "fnExactWarmOfCup", fn := fun _ => fun
  | [d] => { results := [.lit (.bool false)], args := [d] }
  | _ => none }
def FnExactWarmOfCupWrongFalsely : Prop := fnExactWarmOfCupRow.holds Try.pinned (OpenSpec.ofChange fnExactWarmOfCupWrong)

/-- 'laws.FnExactFreezePoint': WHATEVER THE INPUT: true; the input reads as it did. -/
def fnExactFreezePointSpec : ChangeSpec := { name := "fnExactFreezePoint", fn := fun _ => fun
  | [d] => { results := [.lit (.bool true)], args := [d] }
  | _ => none }
def fnExactFreezePointRow : OpenClaim := { program := "ytgcgfnpkkhhkgaa", sum := "8c6614c476c32c0a1f5744e7eecdfc444a014d36971e882966795e2f254df37b", func := "loop.example/g01309/laws.FnExactFreezePoint", spec := "fnExactFreezePoint", apart := false }
def FnExactFreezePointSaid : Prop := fnExactFreezePointRow.holds Try.pinned (OpenSpec.ofChange fnExactFreezePointSpec)

/-- ITS FALSE NEIGHBOUR: 'it returns false'. Refute it at one input. -/
def fnExactFreezePointWrong : ChangeSpec := { name := "fnExactFreezePoint", fn := fun _ => fun
  | [d] => { results := [.lit (.bool false)], args := [d] }
  | _ => none }
def FnExactFreezePointWrongFalsely : Prop := fnExactFreezePointRow.holds Try.pinned (OpenSpec.ofChange fnExactFreezePointWrong)

/-- 'laws.FnExactBrineShare': WHATEVER THE INPUT: true; the input reads as it did. -/
def fnExactBrineShareSpec : ChangeSpec := { name := "fnExactBrineShare", fn := fun _ => fun
  | [d1, d2] => { results := [.lit (.bool true)], args := [d1, d2] }
  | _ => none }
def fnExactBrineShareRow : OpenClaim := { program := "ytgcgfnpkkhhkgaa", sum := "8c6614c476c32c0a1f5744e7eecdfc444a014d36971e882966795e2f254df37b", func := "loop.example/g01309/laws.FnExactBrineShare", spec := "fnExactBrineShare", inPlace := ["math.Float64bits", "math.Float64frombits"], apart := false }
def FnExactBrineShareSaid : Prop := fnExactBrineShareRow.holds Try.pinned (OpenSpec.ofChange fnExactBrineShareSpec)

/-- ITS FALSE NEIGHBOUR: 'it returns false'. Refute it at one input. -/
def fnExactBrineShareWrong : ChangeSpec := { name := "fnExactBrineShare", fn := fun _ => fun
  | [d1, d2] => { results := [.lit (.bool false)], args := [d1, d2] }
  | _ => none }
def FnExactBrineShareWrongFalsely : Prop := fnExactBrineShareRow.holds Try.pinned (OpenSpec.ofChange fnExactBrineShareWrong)

/-- 'laws.FnExactGrowIce': WHATEVER THE INPUT: true; the input reads as it did. -/
def fnExactGrowIceSpec : ChangeSpec := { name := "fnExactGrowIce", fn := fun _ => fun
  | [d1, d2, d3, d4, d5] => { results := [.lit (.bool true)], args := [d1, d2, d3, d4, d5] }
  | _ => none }
def fnExactGrowIceRow : OpenClaim := { program := "ytgcgfnpkkhhkgaa", sum := "8c6614c476c32c0a1f5744e7eecdfc444a014d36971e882966795e2f254df37b", func := "loop.example/g01309/laws.FnExactGrowIce", spec := "fnExactGrowIce", inPlace := ["math.Float64bits", "math.Float64frombits"], unfollowed := true, recurses := true, apart := false }
def FnExactGrowIceSaid : Prop := fnExactGrowIceRow.holds Try.pinned (OpenSpec.ofChange fnExactGrowIceSpec)

/-- ITS FALSE NEIGHBOUR: 'it returns false'. Refute it at one input. -/
def fnExactGrowIceWrong : ChangeSpec := { name := "fnExactGrowIce", fn := fun _ => fun
  | [d1, d2, d3, d4, d5] => { results := [.lit (.bool false)], args := [d1, d2, d3, d4, d5] }
  | _ => none }
def FnExactGrowIceWrongFalsely : Prop := fnExactGrowIceRow.holds Try.pinned (OpenSpec.ofChange fnExactGrowIceWrong)

/-- 'laws.FnExactErrorOf': WHATEVER THE INPUT: true; the input reads as it did. -/
def fnExactErrorOfSpec : ChangeSpec := { name := "fnExactErrorOf", fn := fun _ => fun
  | [d] => { results := [.lit (.bool true)], args := [d] }
  | _ => none }
def fnExactErrorOfRow : OpenClaim := { program := "ytgcgfnpkkhhkgaa", sum := "8c6614c476c32c0a1f5744e7eecdfc444a014d36971e882966795e2f254df37b", func := "loop.example/g01309/laws.FnExactErrorOf", spec := "fnExactErrorOf", inPlace := ["math.Float64bits", "math.Float64frombits"], apart := false }
def FnExactErrorOfSaid : Prop := fnExactErrorOfRow.holds Try.pinned (OpenSpec.ofChange fnExactErrorOfSpec)

/-- ITS FALSE NEIGHBOUR: 'it returns false'. Refute it at one input. -/
def fnExactErrorOfWrong : ChangeSpec := { name := "fnExactErrorOf", fn := fun _ => fun
  | [d] => { results := [.lit (.bool false)], args := [d] }
  | _ => none }
def FnExactErrorOfWrongFalsely : Prop := fnExactErrorOfRow.holds Try.pinned (OpenSpec.ofChange fnExactErrorOfWrong)

/-- 'laws.FnExactStefanRoot': WHATEVER THE INPUT: true; the input reads as it did. -/
def fnExactStefanRootSpec : ChangeSpec := { name := "fnExactStefanRoot", fn := fun _ => fun
  | [d] => { results := [.lit (.bool true)], args := [d] }
  | _ => none }
def fnExactStefanRootRow : OpenClaim := { program := "ytgcgfnpkkhhkgaa", sum := "8c6614c476c32c0a1f5744e7eecdfc444a014d36971e882966795e2f254df37b", func := "loop.example/g01309/laws.FnExactStefanRoot", spec := "fnExactStefanRoot", inPlace := ["math.Float64frombits", "math.Float64bits"], apart := false }
def FnExactStefanRootSaid : Prop := fnExactStefanRootRow.holds Try.pinned (OpenSpec.ofChange fnExactStefanRootSpec)

/-- ITS FALSE NEIGHBOUR: 'it returns false'. Refute it at one input. -/
def fnExactStefanRootWrong : ChangeSpec := { name := "fnExactStefanRoot", fn := fun _ => fun
  | [d] => { results := [.lit (.bool false)], args := [d] }
  | _ => none }
def FnExactStefanRootWrongFalsely : Prop := fnExactStefanRootRow.holds Try.pinned (OpenSpec.ofChange fnExactStefanRootWrong)

/-- 'laws.FnExactFrontAt': WHATEVER THE INPUT: true; the input reads as it did. -/
def fnExactFrontAtSpec : ChangeSpec := { name := "fnExactFrontAt", fn := fun _ => fun
  | [d1, d2, d3] => { results := [.lit (.bool true)], args := [d1, d2, d3] }
  | _ => none }
def fnExactFrontAtRow : OpenClaim := { program := "ytgcgfnpkkhhkgaa", sum := "8c6614c476c32c0a1f5744e7eecdfc444a014d36971e882966795e2f254df37b", func := "loop.example/g01309/laws.FnExactFrontAt", spec := "fnExactFrontAt", inPlace := ["math.Float64frombits", "math.sqrt", "math.Float64bits"], unfollowed := true, recurses := true, apart := false }
def FnExactFrontAtSaid : Prop := fnExactFrontAtRow.holds Try.pinned (OpenSpec.ofChange fnExactFrontAtSpec)

/-- ITS FALSE NEIGHBOUR: 'it returns false'. Refute it at one input. -/
def fnExactFrontAtWrong : ChangeSpec := { name := "fnExactFrontAt", fn := fun _ => fun
  | [d1, d2, d3] => { results := [.lit (.bool false)], args := [d1, d2, d3] }
  | _ => none }
def FnExactFrontAtWrongFalsely : Prop := fnExactFrontAtRow.holds Try.pinned (OpenSpec.ofChange fnExactFrontAtWrong)

/-- 'laws.FnExactValidStuff': WHATEVER THE INPUT: true; the input reads as it did. -/
def fnExactValidStuffSpec : ChangeSpec := { name := "fnExactValidStuff", fn := fun _ => fun
  | [d] => { results := [.lit (.bool true)], args := [d] }
  | _ => none }
def fnExactValidStuffRow : OpenClaim := { program := "ytgcgfnpkkhhkgaa", sum := "8c6614c476c32c0a1f5744e7eecdfc444a014d36971e882966795e2f254df37b", func := "loop.example/g01309/laws.FnExactValidStuff", spec := "fnExactValidStuff", inPlace := ["math.Float64bits", "math.Float64frombits"], unfollowed := true, recurses := true, apart := false }
def FnExactValidStuffSaid : Prop := fnExactValidStuffRow.holds Try.pinned (OpenSpec.ofChange fnExactValidStuffSpec)

/-- ITS FALSE NEIGHBOUR: 'it returns false'. Refute it at one input. -/
def fnExactValidStuffWrong : ChangeSpec := { name := "fnExactValidStuff", fn := fun _ => fun
  | [d] => { results := [.lit (.bool false)], args := [d] }
  | _ => none }
def FnExactValidStuffWrongFalsely : Prop := fnExactValidStuffRow.holds Try.pinned (OpenSpec.ofChange fnExactValidStuffWrong)

/- THE SECOND FORM. 'bulk': how many values and letters a reading holds, each counted each time it is reached (what is shared counts as often as it is met; a slice's spare places count too). A statement '..UptoSaid' is the law's where the arguments, and the package variables that the reading takes, are together of bulk at most 1048576: NARROWER than '..Said'. Prove '..Said' where nothing that the law and all that it calls make is longer than what came in: it says more and counts as full. Else prove '..UptoSaid'. A law counts once. -/
mutual
def uptoBulk {H : Type} : DataW H → Nat
  | .lit (.string bytes) => bytes.length + 1
  | .lit _ => 1
  | .nil => 1
  | .ptr d => uptoBulk d + 1
  | .slice elems spare => uptoBulkAll elems + uptoBulkAll spare + 1
  | .agg parts => uptoBulkAll parts + 1
  | .iface _ d => uptoBulk d + 1
  | .map entries => uptoBulkEntries entries + 1
  | .held _ => 1
def uptoBulkAll {H : Type} : List (DataW H) → Nat
  | [] => 0
  | d :: r => uptoBulk d + uptoBulkAll r
def uptoBulkEntries {H : Type} : List (Lit × DataW H) → Nat
  | [] => 0
  | x :: r => uptoBulkEntry x + uptoBulkEntries r
def uptoBulkEntry {H : Type} : Lit × DataW H → Nat
  | (.string bytes, d) => bytes.length + uptoBulk d + 1
  | (_, d) => uptoBulk d + 1
 end
def uptoSmall : (H : Type) → List (DataW H) → Bool := fun _ ds => decide (uptoBulkAll ds ≤ 1048576)
def OpenSpec.upto (s : _root_.Go.ChangeSpec) : _root_.Go.OpenSpec := { _root_.Go.OpenSpec.ofChange s with cond := some uptoSmall }

/-- 'laws.FnExactValidCup', WHERE WHAT IT READS IS OF BULK AT MOST 1048576: true; the input reads as it did. -/
def fnExactValidCupUptoRow : OpenClaim := { program := "ytgcgfnpkkhhkgaa", sum := "8c6614c476c32c0a1f5744e7eecdfc444a014d36971e882966795e2f254df37b", func := "loop.example/g01309/laws.FnExactValidCup", spec := "fnExactValidCup", apart := false, narrowed := true }
def FnExactValidCupUptoSaid : Prop := fnExactValidCupUptoRow.holds Try.pinned (OpenSpec.upto fnExactValidCupSpec)

/-- 'laws.FnExactMixCups', WHERE WHAT IT READS IS OF BULK AT MOST 1048576: true; the input reads as it did. -/
def fnExactMixCupsUptoRow : OpenClaim := { program := "ytgcgfnpkkhhkgaa", sum := "8c6614c476c32c0a1f5744e7eecdfc444a014d36971e882966795e2f254df37b", func := "loop.example/g01309/laws.FnExactMixCups", spec := "fnExactMixCups", apart := false, narrowed := true }
def FnExactMixCupsUptoSaid : Prop := fnExactMixCupsUptoRow.holds Try.pinned (OpenSpec.upto fnExactMixCupsSpec)

/-- 'laws.FnExactHeatCup', WHERE WHAT IT READS IS OF BULK AT MOST 1048576: true; the input reads as it did. -/
def fnExactHeatCupUptoRow : OpenClaim := { program := "ytgcgfnpkkhhkgaa", sum := "8c6614c476c32c0a1f5744e7eecdfc444a014d36971e882966795e2f254df37b", func := "loop.example/g01309/laws.FnExactHeatCup", spec := "fnExactHeatCup", apart := false, narrowed := true }
def FnExactHeatCupUptoSaid : Prop := fnExactHeatCupUptoRow.holds Try.pinned (OpenSpec.upto fnExactHeatCupSpec)

/-- 'laws.FnExactMeltedInCup', WHERE WHAT IT READS IS OF BULK AT MOST 1048576: true; the input reads as it did. -/
def fnExactMeltedInCupUptoRow : OpenClaim := { program := "ytgcgfnpkkhhkgaa", sum := "8c6614c476c32c0a1f5744e7eecdfc444a014d36971e882966795e2f254df37b", func := "loop.example/g01309/laws.FnExactMeltedInCup", spec := "fnExactMeltedInCup", apart := false, narrowed := true }
def FnExactMeltedInCupUptoSaid : Prop := fnExactMeltedInCupUptoRow.holds Try.pinned (OpenSpec.upto fnExactMeltedInCupSpec)

/-- 'laws.FnExactWarmOfCup', WHERE WHAT IT READS IS OF BULK AT MOST 1048576: true; the input reads as it did. -/
def fnExactWarmOfCupUptoRow : OpenClaim := { program := "ytgcgfnpkkhhkgaa", sum := "8c6614c476c32c0a1f5744e7eecdfc444a014d36971e882966795e2f254df37b", func := "loop.example/g01309/laws.FnExactWarmOfCup", spec := "fnExactWarmOfCup", apart := false, narrowed := true }
def FnExactWarmOfCupUptoSaid : Prop := fnExactWarmOfCupUptoRow.holds Try.pinned (OpenSpec.upto fnExactWarmOfCupSpec)

/-- 'laws.FnExactFreezePoint', WHERE WHAT IT READS IS OF BULK AT MOST 1048576: true; the input reads as it did. -/
def fnExactFreezePointUptoRow : OpenClaim := { program := "ytgcgfnpkkhhkgaa", sum := "8c6614c476c32c0a1f5744e7eecdfc444a014d36971e882966795e2f254df37b", func := "loop.example/g01309/laws.FnExactFreezePoint", spec := "fnExactFreezePoint", apart := false, narrowed := true }
def FnExactFreezePointUptoSaid : Prop := fnExactFreezePointUptoRow.holds Try.pinned (OpenSpec.upto fnExactFreezePointSpec)

/-- 'laws.FnExactBrineShare', WHERE WHAT IT READS IS OF BULK AT MOST 1048576: true; the input reads as it did. -/
def fnExactBrineShareUptoRow : OpenClaim := { program := "ytgcgfnpkkhhkgaa", sum := "8c6614c476c32c0a1f5744e7eecdfc444a014d36971e882966795e2f254df37b", func := "loop.example/g01309/laws.FnExactBrineShare", spec := "fnExactBrineShare", inPlace := ["math.Float64bits", "math.Float64frombits"], apart := false, narrowed := true }
def FnExactBrineShareUptoSaid : Prop := fnExactBrineShareUptoRow.holds Try.pinned (OpenSpec.upto fnExactBrineShareSpec)

/-- 'laws.FnExactGrowIce', WHERE WHAT IT READS IS OF BULK AT MOST 1048576: true; the input reads as it did. -/
def fnExactGrowIceUptoRow : OpenClaim := { program := "ytgcgfnpkkhhkgaa", sum := "8c6614c476c32c0a1f5744e7eecdfc444a014d36971e882966795e2f254df37b", func := "loop.example/g01309/laws.FnExactGrowIce", spec := "fnExactGrowIce", inPlace := ["math.Float64bits", "math.Float64frombits"], unfollowed := true, recurses := true, apart := false, narrowed := true }
def FnExactGrowIceUptoSaid : Prop := fnExactGrowIceUptoRow.holds Try.pinned (OpenSpec.upto fnExactGrowIceSpec)

/-- 'laws.FnExactErrorOf', WHERE WHAT IT READS IS OF BULK AT MOST 1048576: true; the input reads as it did. -/
def fnExactErrorOfUptoRow : OpenClaim := { program := "ytgcgfnpkkhhkgaa", sum := "8c6614c476c32c0a1f5744e7eecdfc444a014d36971e882966795e2f254df37b", func := "loop.example/g01309/laws.FnExactErrorOf", spec := "fnExactErrorOf", inPlace := ["math.Float64bits", "math.Float64frombits"], apart := false, narrowed := true }
def FnExactErrorOfUptoSaid : Prop := fnExactErrorOfUptoRow.holds Try.pinned (OpenSpec.upto fnExactErrorOfSpec)

/-- 'laws.FnExactStefanRoot', WHERE WHAT IT READS IS OF BULK AT MOST 1048576: true; the input reads as it did. -/
def fnExactStefanRootUptoRow : OpenClaim := { program := "ytgcgfnpkkhhkgaa", sum := "8c6614c476c32c0a1f5744e7eecdfc444a014d36971e882966795e2f254df37b", func := "loop.example/g01309/laws.FnExactStefanRoot", spec := "fnExactStefanRoot", inPlace := ["math.Float64frombits", "math.Float64bits"], apart := false, narrowed := true }
def FnExactStefanRootUptoSaid : Prop := fnExactStefanRootUptoRow.holds Try.pinned (OpenSpec.upto fnExactStefanRootSpec)

/-- 'laws.FnExactFrontAt', WHERE WHAT IT READS IS OF BULK AT MOST 1048576: true; the input reads as it did. -/
def fnExactFrontAtUptoRow : OpenClaim := { program := "ytgcgfnpkkhhkgaa", sum := "8c6614c476c32c0a1f5744e7eecdfc444a014d36971e882966795e2f254df37b", func := "loop.example/g01309/laws.FnExactFrontAt", spec := "fnExactFrontAt", inPlace := ["math.Float64frombits", "math.sqrt", "math.Float64bits"], unfollowed := true, recurses := true, apart := false, narrowed := true }
def FnExactFrontAtUptoSaid : Prop := fnExactFrontAtUptoRow.holds Try.pinned (OpenSpec.upto fnExactFrontAtSpec)

/-- 'laws.FnExactValidStuff', WHERE WHAT IT READS IS OF BULK AT MOST 1048576: true; the input reads as it did. -/
def fnExactValidStuffUptoRow : OpenClaim := { program := "ytgcgfnpkkhhkgaa", sum := "8c6614c476c32c0a1f5744e7eecdfc444a014d36971e882966795e2f254df37b", func := "loop.example/g01309/laws.FnExactValidStuff", spec := "fnExactValidStuff", inPlace := ["math.Float64bits", "math.Float64frombits"], unfollowed := true, recurses := true, apart := false, narrowed := true }
def FnExactValidStuffUptoSaid : Prop := fnExactValidStuffUptoRow.holds Try.pinned (OpenSpec.upto fnExactValidStuffSpec)

end Rows
end Go.Proofs.Ytgcgfnpkkhhkgaa
