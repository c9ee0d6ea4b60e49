/-
  No cell of these rows narrows 'for every input' (looked for: loops, veiled, ifaces, maps, wideKeys, modest, calm, conditions, laid).
  DERIVED. THE GIVEN ROWS OF THIS SEAT. 12 by the template 'for every input the law returns true; each argument reads behind the call as it read before'; 0 by the template 'total and deterministic' (their statements: YtgcgfnpkkhhkgabTotals.lean).
  GIVEN WITH THE SEED: the statements are not yours to turn. If you find one false, say at which input.
  Laid BY PROGRAM, IN A SANDBOX (cutbox-rows.mjs): the forced cells as the released guide's own fill.sh prints them over the translation 513525b5a1d0a756… (all of the seat's roots in one cut). By AI agents, Wed Nov 11 2026. No macro, syntax, notation, axiom, sorry.
-/
import Derived.Test.YtgcgfnpkkhhkgabChecked
import GoSem.Claim
import GoSem.ClaimJoined
import GoSem.ClaimMapViews
import Derived.JoinedTies
import Derived.KernelRfl
namespace Go.Proofs.Ytgcgfnpkkhhkgab
/- THE CELL 'sum', in the pinned program and in every row, IS THE sha256 OF THE DUMP (.gsa) THAT YtgcgfnpkkhhkgabProg.lean LOADS. Nothing in Lean hashes anything: it is a label: what it is worth is what the hold of that sum in a sandbox is worth. -/
noncomputable def Try.pinned : Pinned := { name := "ytgcgfnpkkhhkgab", sum := "513525b5a1d0a7564e83986c8d6f44ae3575bb3ca304e5675b8855f9c24ccd40", checked := Try.checked }
namespace Rows
def none {H : Type} : Left H := { results := [], args := [] }

/-- 'laws.FnExactSameStuff': WHATEVER THE INPUT: true; the input reads as it did. -/
def fnExactSameStuffSpec : ChangeSpec := { name := "fnExactSameStuff", fn := fun _ => fun
  | [d1, d2] => { results := [.lit (.bool true)], args := [d1, d2] }
  | _ => none }
def fnExactSameStuffRow : OpenClaim := { program := "ytgcgfnpkkhhkgab", sum := "513525b5a1d0a7564e83986c8d6f44ae3575bb3ca304e5675b8855f9c24ccd40", func := "loop.example/g01309/laws.FnExactSameStuff", spec := "fnExactSameStuff", inPlace := ["math.Float32bits"], apart := false }
def FnExactSameStuffSaid : Prop := fnExactSameStuffRow.holds Try.pinned (OpenSpec.ofChange fnExactSameStuffSpec)

/-- ITS FALSE NEIGHBOUR: 'it returns false'. Refute it at one input. -/
def fnExactSameStuffWrong : ChangeSpec := { name := "fnExactSameStuff", fn := fun _ => fun
  | [d1, d2] => { results := [.lit (.bool false)], args := [d1, d2] }
  | _ => none }
def FnExactSameStuffWrongFalsely : Prop := fnExactSameStuffRow.holds Try.pinned (OpenSpec.ofChange fnExactSameStuffWrong)

/-- 'laws.FnExactWarmOf': WHATEVER THE INPUT: true; the input reads as it did. -/
def fnExactWarmOfSpec : ChangeSpec := { name := "fnExactWarmOf", fn := fun _ => fun
  | [d1, d2] => { results := [.lit (.bool true)], args := [d1, d2] }
  | _ => none }
def fnExactWarmOfRow : OpenClaim := { program := "ytgcgfnpkkhhkgab", sum := "513525b5a1d0a7564e83986c8d6f44ae3575bb3ca304e5675b8855f9c24ccd40", func := "loop.example/g01309/laws.FnExactWarmOf", spec := "fnExactWarmOf", inPlace := ["math.Float64bits", "math.Float64frombits"], unfollowed := true, recurses := true, apart := false }
def FnExactWarmOfSaid : Prop := fnExactWarmOfRow.holds Try.pinned (OpenSpec.ofChange fnExactWarmOfSpec)

/-- ITS FALSE NEIGHBOUR: 'it returns false'. Refute it at one input. -/
def fnExactWarmOfWrong : ChangeSpec := { name := "fnExactWarmOf", fn := fun _ => fun
  | [d1, d2] => { results := [.lit (.bool false)], args := [d1, d2] }
  | _ => none }
def FnExactWarmOfWrongFalsely : Prop := fnExactWarmOfRow.holds Try.pinned (OpenSpec.ofChange fnExactWarmOfWrong)

/-- 'laws.FnExactPartOf': WHATEVER THE INPUT: true; the input reads as it did. -/
def fnExactPartOfSpec : ChangeSpec := { name := "fnExactPartOf", fn := fun _ => fun
  | [d1, d2] => { results := [.lit (.bool true)], args := [d1, d2] }
  | _ => none }
def fnExactPartOfRow : OpenClaim := { program := "ytgcgfnpkkhhkgab", sum := "513525b5a1d0a7564e83986c8d6f44ae3575bb3ca304e5675b8855f9c24ccd40", func := "loop.example/g01309/laws.FnExactPartOf", spec := "fnExactPartOf", inPlace := ["math.Float64bits", "math.Float64frombits"], unfollowed := true, recurses := true, apart := false }
def FnExactPartOfSaid : Prop := fnExactPartOfRow.holds Try.pinned (OpenSpec.ofChange fnExactPartOfSpec)

/-- ITS FALSE NEIGHBOUR: 'it returns false'. Refute it at one input. -/
def fnExactPartOfWrong : ChangeSpec := { name := "fnExactPartOf", fn := fun _ => fun
  | [d1, d2] => { results := [.lit (.bool false)], args := [d1, d2] }
  | _ => none }
def FnExactPartOfWrongFalsely : Prop := fnExactPartOfRow.holds Try.pinned (OpenSpec.ofChange fnExactPartOfWrong)

/-- 'laws.FnExactHeatFor': WHATEVER THE INPUT: true; the input reads as it did. -/
def fnExactHeatForSpec : ChangeSpec := { name := "fnExactHeatFor", fn := fun _ => fun
  | [d1, d2, d3] => { results := [.lit (.bool true)], args := [d1, d2, d3] }
  | _ => none }
def fnExactHeatForRow : OpenClaim := { program := "ytgcgfnpkkhhkgab", sum := "513525b5a1d0a7564e83986c8d6f44ae3575bb3ca304e5675b8855f9c24ccd40", func := "loop.example/g01309/laws.FnExactHeatFor", spec := "fnExactHeatFor", inPlace := ["math.Float64bits", "math.Float64frombits"], unfollowed := true, recurses := true, apart := false }
def FnExactHeatForSaid : Prop := fnExactHeatForRow.holds Try.pinned (OpenSpec.ofChange fnExactHeatForSpec)

/-- ITS FALSE NEIGHBOUR: 'it returns false'. Refute it at one input. -/
def fnExactHeatForWrong : ChangeSpec := { name := "fnExactHeatFor", fn := fun _ => fun
  | [d1, d2, d3] => { results := [.lit (.bool false)], args := [d1, d2, d3] }
  | _ => none }
def FnExactHeatForWrongFalsely : Prop := fnExactHeatForRow.holds Try.pinned (OpenSpec.ofChange fnExactHeatForWrong)

/-- 'laws.FnExactEaseOf': WHATEVER THE INPUT: true; the input reads as it did. -/
def fnExactEaseOfSpec : ChangeSpec := { name := "fnExactEaseOf", fn := fun _ => fun
  | [d1, d2] => { results := [.lit (.bool true)], args := [d1, d2] }
  | _ => none }
def fnExactEaseOfRow : OpenClaim := { program := "ytgcgfnpkkhhkgab", sum := "513525b5a1d0a7564e83986c8d6f44ae3575bb3ca304e5675b8855f9c24ccd40", func := "loop.example/g01309/laws.FnExactEaseOf", spec := "fnExactEaseOf", inPlace := ["math.Float64bits", "math.Float64frombits"], unfollowed := true, recurses := true, apart := false }
def FnExactEaseOfSaid : Prop := fnExactEaseOfRow.holds Try.pinned (OpenSpec.ofChange fnExactEaseOfSpec)

/-- ITS FALSE NEIGHBOUR: 'it returns false'. Refute it at one input. -/
def fnExactEaseOfWrong : ChangeSpec := { name := "fnExactEaseOf", fn := fun _ => fun
  | [d1, d2] => { results := [.lit (.bool false)], args := [d1, d2] }
  | _ => none }
def FnExactEaseOfWrongFalsely : Prop := fnExactEaseOfRow.holds Try.pinned (OpenSpec.ofChange fnExactEaseOfWrong)

/-- 'laws.FnExactValidBar': WHATEVER THE INPUT: true; the input reads as it did. -/
def fnExactValidBarSpec : ChangeSpec := { name := "fnExactValidBar", fn := fun _ => fun
  | [d] => { results := [.lit (.bool true)], args := [d] }
  | _ => none }
def fnExactValidBarRow : OpenClaim := { program := "ytgcgfnpkkhhkgab", sum := "513525b5a1d0a7564e83986c8d6f44ae3575bb3ca304e5675b8855f9c24ccd40", func := "loop.example/g01309/laws.FnExactValidBar", spec := "fnExactValidBar", inPlace := ["math.Float64bits", "math.Float64frombits"], unfollowed := true, recurses := true, apart := false }
def FnExactValidBarSaid : Prop := fnExactValidBarRow.holds Try.pinned (OpenSpec.ofChange fnExactValidBarSpec)

/-- ITS FALSE NEIGHBOUR: 'it returns false'. Refute it at one input. -/
def fnExactValidBarWrong : ChangeSpec := { name := "fnExactValidBar", fn := fun _ => fun
  | [d] => { results := [.lit (.bool false)], args := [d] }
  | _ => none }
def FnExactValidBarWrongFalsely : Prop := fnExactValidBarRow.holds Try.pinned (OpenSpec.ofChange fnExactValidBarWrong)

/-- 'laws.FnExactSameBar': WHATEVER THE INPUT: true; the input reads as it did. -/
def fnExactSameBarSpec : ChangeSpec := { name := "fnExactSameBar", fn := fun _ => fun
  | [d1, d2] => { results := [.lit (.bool true)], args := [d1, d2] }
  | _ => none }
def fnExactSameBarRow : OpenClaim := { program := "ytgcgfnpkkhhkgab", sum := "513525b5a1d0a7564e83986c8d6f44ae3575bb3ca304e5675b8855f9c24ccd40", func := "loop.example/g01309/laws.FnExactSameBar", spec := "fnExactSameBar", inPlace := ["math.Float32bits"], unfollowed := true, recurses := true, apart := false }
def FnExactSameBarSaid : Prop := fnExactSameBarRow.holds Try.pinned (OpenSpec.ofChange fnExactSameBarSpec)

/-- ITS FALSE NEIGHBOUR: 'it returns false'. Refute it at one input. -/
def fnExactSameBarWrong : ChangeSpec := { name := "fnExactSameBar", fn := fun _ => fun
  | [d1, d2] => { results := [.lit (.bool false)], args := [d1, d2] }
  | _ => none }
def FnExactSameBarWrongFalsely : Prop := fnExactSameBarRow.holds Try.pinned (OpenSpec.ofChange fnExactSameBarWrong)

/-- 'laws.FnExactMostTick': WHATEVER THE INPUT: true; the input reads as it did. -/
def fnExactMostTickSpec : ChangeSpec := { name := "fnExactMostTick", fn := fun _ => fun
  | [d] => { results := [.lit (.bool true)], args := [d] }
  | _ => none }
def fnExactMostTickRow : OpenClaim := { program := "ytgcgfnpkkhhkgab", sum := "513525b5a1d0a7564e83986c8d6f44ae3575bb3ca304e5675b8855f9c24ccd40", func := "loop.example/g01309/laws.FnExactMostTick", spec := "fnExactMostTick", inPlace := ["math.Float64bits", "math.Float64frombits"], unfollowed := true, recurses := true, apart := false }
def FnExactMostTickSaid : Prop := fnExactMostTickRow.holds Try.pinned (OpenSpec.ofChange fnExactMostTickSpec)

/-- ITS FALSE NEIGHBOUR: 'it returns false'. Refute it at one input. -/
def fnExactMostTickWrong : ChangeSpec := { name := "fnExactMostTick", fn := fun _ => fun
  | [d] => { results := [.lit (.bool false)], args := [d] }
  | _ => none }
def FnExactMostTickWrongFalsely : Prop := fnExactMostTickRow.holds Try.pinned (OpenSpec.ofChange fnExactMostTickWrong)

/-- 'laws.FnExactHeatInBar': WHATEVER THE INPUT: true; the input reads as it did. -/
def fnExactHeatInBarSpec : ChangeSpec := { name := "fnExactHeatInBar", fn := fun _ => fun
  | [d] => { results := [.lit (.bool true)], args := [d] }
  | _ => none }
def fnExactHeatInBarRow : OpenClaim := { program := "ytgcgfnpkkhhkgab", sum := "513525b5a1d0a7564e83986c8d6f44ae3575bb3ca304e5675b8855f9c24ccd40", func := "loop.example/g01309/laws.FnExactHeatInBar", spec := "fnExactHeatInBar", inPlace := ["math.Float64bits", "math.Float64frombits"], unfollowed := true, recurses := true, apart := false }
def FnExactHeatInBarSaid : Prop := fnExactHeatInBarRow.holds Try.pinned (OpenSpec.ofChange fnExactHeatInBarSpec)

/-- ITS FALSE NEIGHBOUR: 'it returns false'. Refute it at one input. -/
def fnExactHeatInBarWrong : ChangeSpec := { name := "fnExactHeatInBar", fn := fun _ => fun
  | [d] => { results := [.lit (.bool false)], args := [d] }
  | _ => none }
def FnExactHeatInBarWrongFalsely : Prop := fnExactHeatInBarRow.holds Try.pinned (OpenSpec.ofChange fnExactHeatInBarWrong)

/-- 'laws.FnExactMeltedOfBar': WHATEVER THE INPUT: true; the input reads as it did. -/
def fnExactMeltedOfBarSpec : ChangeSpec := { name := "fnExactMeltedOfBar", fn := fun _ => fun
  | [d] => { results := [.lit (.bool true)], args := [d] }
  | _ => none }
def fnExactMeltedOfBarRow : OpenClaim := { program := "ytgcgfnpkkhhkgab", sum := "513525b5a1d0a7564e83986c8d6f44ae3575bb3ca304e5675b8855f9c24ccd40", func := "loop.example/g01309/laws.FnExactMeltedOfBar", spec := "fnExactMeltedOfBar", inPlace := ["math.Float64bits", "math.Float64frombits"], unfollowed := true, recurses := true, apart := false }
def FnExactMeltedOfBarSaid : Prop := fnExactMeltedOfBarRow.holds Try.pinned (OpenSpec.ofChange fnExactMeltedOfBarSpec)

/-- ITS FALSE NEIGHBOUR: 'it returns false'. Refute it at one input. -/
def fnExactMeltedOfBarWrong : ChangeSpec := { name := "fnExactMeltedOfBar", fn := fun _ => fun
  | [d] => { results := [.lit (.bool false)], args := [d] }
  | _ => none }
def FnExactMeltedOfBarWrongFalsely : Prop := fnExactMeltedOfBarRow.holds Try.pinned (OpenSpec.ofChange fnExactMeltedOfBarWrong)

/-- 'laws.FnExactFrontsOf': WHATEVER THE INPUT: true; the input reads as it did. -/
def fnExactFrontsOfSpec : ChangeSpec := { name := "fnExactFrontsOf", fn := fun _ => fun
  | [d] => { results := [.lit (.bool true)], args := [d] }
  | _ => none }
def fnExactFrontsOfRow : OpenClaim := { program := "ytgcgfnpkkhhkgab", sum := "513525b5a1d0a7564e83986c8d6f44ae3575bb3ca304e5675b8855f9c24ccd40", func := "loop.example/g01309/laws.FnExactFrontsOf", spec := "fnExactFrontsOf", inPlace := ["math.Float64bits", "math.Float64frombits"], unfollowed := true, recurses := true, apart := false }
def FnExactFrontsOfSaid : Prop := fnExactFrontsOfRow.holds Try.pinned (OpenSpec.ofChange fnExactFrontsOfSpec)

/-- ITS FALSE NEIGHBOUR: 'it returns false'. Refute it at one input. -/
def fnExactFrontsOfWrong : ChangeSpec := { name := "fnExactFrontsOf", fn := fun _ => fun
  | [d] => { results := [.lit (.bool false)], args := [d] }
  | _ => none }
def FnExactFrontsOfWrongFalsely : Prop := fnExactFrontsOfRow.holds Try.pinned (OpenSpec.ofChange fnExactFrontsOfWrong)

/-- 'laws.FnExactRunIce': WHATEVER THE INPUT: true; the input reads as it did. -/
def fnExactRunIceSpec : ChangeSpec := { name := "fnExactRunIce", fn := fun _ => fun
  | [d1, d2, d3, d4, d5] => { results := [.lit (.bool true)], args := [d1, d2, d3, d4, d5] }
  | _ => none }
def fnExactRunIceRow : OpenClaim := { program := "ytgcgfnpkkhhkgab", sum := "513525b5a1d0a7564e83986c8d6f44ae3575bb3ca304e5675b8855f9c24ccd40", func := "loop.example/g01309/laws.FnExactRunIce", spec := "fnExactRunIce", inPlace := ["math.Float64bits", "math.Float64frombits"], unfollowed := true, recurses := true, apart := false }
def FnExactRunIceSaid : Prop := fnExactRunIceRow.holds Try.pinned (OpenSpec.ofChange fnExactRunIceSpec)

/-- ITS FALSE NEIGHBOUR: 'it returns false'. Refute it at one input. -/
def fnExactRunIceWrong : ChangeSpec := { name := "fnExactRunIce", fn := fun _ => fun
  | [d1, d2, d3, d4, d5] => { results := [.lit (.bool false)], args := [d1, d2, d3, d4, d5] }
  | _ => none }
def FnExactRunIceWrongFalsely : Prop := fnExactRunIceRow.holds Try.pinned (OpenSpec.ofChange fnExactRunIceWrong)

/- THE SECOND FORM. 'bulk': how many values and letters a reading holds, each counted each time it is reached (what is shared counts as often as it is met; a slice's spare places count too). A statement '..UptoSaid' is the law's where the arguments, and the package variables that the reading takes, are together of bulk at most 1048576: NARROWER than '..Said'. Prove '..Said' where nothing that the law and all that it calls make is longer than what came in: it says more and counts as full. Else prove '..UptoSaid'. A law counts once. -/
mutual
def uptoBulk {H : Type} : DataW H → Nat
  | .lit (.string bytes) => bytes.length + 1
  | .lit _ => 1
  | .nil => 1
  | .ptr d => uptoBulk d + 1
  | .slice elems spare => uptoBulkAll elems + uptoBulkAll spare + 1
  | .agg parts => uptoBulkAll parts + 1
  | .iface _ d => uptoBulk d + 1
  | .map entries => uptoBulkEntries entries + 1
  | .held _ => 1
def uptoBulkAll {H : Type} : List (DataW H) → Nat
  | [] => 0
  | d :: r => uptoBulk d + uptoBulkAll r
def uptoBulkEntries {H : Type} : List (Lit × DataW H) → Nat
  | [] => 0
  | x :: r => uptoBulkEntry x + uptoBulkEntries r
def uptoBulkEntry {H : Type} : Lit × DataW H → Nat
  | (.string bytes, d) => bytes.length + uptoBulk d + 1
  | (_, d) => uptoBulk d + 1
 end
def uptoSmall : (H : Type) → List (DataW H) → Bool := fun _ ds => decide (uptoBulkAll ds ≤ 1048576)
def OpenSpec.upto (s : _root_.Go.ChangeSpec) : _root_.Go.OpenSpec := { _root_.Go.OpenSpec.ofChange s with cond := some uptoSmall }

/-- 'laws.FnExactSameStuff', WHERE WHAT IT READS IS OF BULK AT MOST 1048576: true; the input reads as it did. -/
def fnExactSameStuffUptoRow : OpenClaim := { program := "ytgcgfnpkkhhkgab", sum := "513525b5a1d0a7564e83986c8d6f44ae3575bb3ca304e5675b8855f9c24ccd40", func := "loop.example/g01309/laws.FnExactSameStuff", spec := "fnExactSameStuff", inPlace := ["math.Float32bits"], apart := false, narrowed := true }
def FnExactSameStuffUptoSaid : Prop := fnExactSameStuffUptoRow.holds Try.pinned (OpenSpec.upto fnExactSameStuffSpec)

/-- 'laws.FnExactWarmOf', WHERE WHAT IT READS IS OF BULK AT MOST 1048576: true; the input reads as it did. -/
def fnExactWarmOfUptoRow : OpenClaim := { program := "ytgcgfnpkkhhkgab", sum := "513525b5a1d0a7564e83986c8d6f44ae3575bb3ca304e5675b8855f9c24ccd40", func := "loop.example/g01309/laws.FnExactWarmOf", spec := "fnExactWarmOf", inPlace := ["math.Float64bits", "math.Float64frombits"], unfollowed := true, recurses := true, apart := false, narrowed := true }
def FnExactWarmOfUptoSaid : Prop := fnExactWarmOfUptoRow.holds Try.pinned (OpenSpec.upto fnExactWarmOfSpec)

/-- 'laws.FnExactPartOf', WHERE WHAT IT READS IS OF BULK AT MOST 1048576: true; the input reads as it did. -/
def fnExactPartOfUptoRow : OpenClaim := { program := "ytgcgfnpkkhhkgab", sum := "513525b5a1d0a7564e83986c8d6f44ae3575bb3ca304e5675b8855f9c24ccd40", func := "loop.example/g01309/laws.FnExactPartOf", spec := "fnExactPartOf", inPlace := ["math.Float64bits", "math.Float64frombits"], unfollowed := true, recurses := true, apart := false, narrowed := true }
def FnExactPartOfUptoSaid : Prop := fnExactPartOfUptoRow.holds Try.pinned (OpenSpec.upto fnExactPartOfSpec)

/-- 'laws.FnExactHeatFor', WHERE WHAT IT READS IS OF BULK AT MOST 1048576: true; the input reads as it did. -/
def fnExactHeatForUptoRow : OpenClaim := { program := "ytgcgfnpkkhhkgab", sum := "513525b5a1d0a7564e83986c8d6f44ae3575bb3ca304e5675b8855f9c24ccd40", func := "loop.example/g01309/laws.FnExactHeatFor", spec := "fnExactHeatFor", inPlace := ["math.Float64bits", "math.Float64frombits"], unfollowed := true, recurses := true, apart := false, narrowed := true }
def FnExactHeatForUptoSaid : Prop := fnExactHeatForUptoRow.holds Try.pinned (OpenSpec.upto fnExactHeatForSpec)

/-- 'laws.FnExactEaseOf', WHERE WHAT IT READS IS OF BULK AT MOST 1048576: true; the input reads as it did. -/
def fnExactEaseOfUptoRow : OpenClaim := { program := "ytgcgfnpkkhhkgab", sum := "513525b5a1d0a7564e83986c8d6f44ae3575bb3ca304e5675b8855f9c24ccd40", func := "loop.example/g01309/laws.FnExactEaseOf", spec := "fnExactEaseOf", inPlace := ["math.Float64bits", "math.Float64frombits"], unfollowed := true, recurses := true, apart := false, narrowed := true }
def FnExactEaseOfUptoSaid : Prop := fnExactEaseOfUptoRow.holds Try.pinned (OpenSpec.upto fnExactEaseOfSpec)

/-- 'laws.FnExactValidBar', WHERE WHAT IT READS IS OF BULK AT MOST 1048576: true; the input reads as it did. -/
def fnExactValidBarUptoRow : OpenClaim := { program := "ytgcgfnpkkhhkgab", sum := "513525b5a1d0a7564e83986c8d6f44ae3575bb3ca304e5675b8855f9c24ccd40", func := "loop.example/g01309/laws.FnExactValidBar", spec := "fnExactValidBar", inPlace := ["math.Float64bits", "math.Float64frombits"], unfollowed := true, recurses := true, apart := false, narrowed := true }
def FnExactValidBarUptoSaid : Prop := fnExactValidBarUptoRow.holds Try.pinned (OpenSpec.upto fnExactValidBarSpec)

/-- 'laws.FnExactSameBar', WHERE WHAT IT READS IS OF BULK AT MOST 1048576: true; the input reads as it did. -/
def fnExactSameBarUptoRow : OpenClaim := { program := "ytgcgfnpkkhhkgab", sum := "513525b5a1d0a7564e83986c8d6f44ae3575bb3ca304e5675b8855f9c24ccd40", func := "loop.example/g01309/laws.FnExactSameBar", spec := "fnExactSameBar", inPlace := ["math.Float32bits"], unfollowed := true, recurses := true, apart := false, narrowed := true }
def FnExactSameBarUptoSaid : Prop := fnExactSameBarUptoRow.holds Try.pinned (OpenSpec.upto fnExactSameBarSpec)

/-- 'laws.FnExactMostTick', WHERE WHAT IT READS IS OF BULK AT MOST 1048576: true; the input reads as it did. -/
def fnExactMostTickUptoRow : OpenClaim := { program := "ytgcgfnpkkhhkgab", sum := "513525b5a1d0a7564e83986c8d6f44ae3575bb3ca304e5675b8855f9c24ccd40", func := "loop.example/g01309/laws.FnExactMostTick", spec := "fnExactMostTick", inPlace := ["math.Float64bits", "math.Float64frombits"], unfollowed := true, recurses := true, apart := false, narrowed := true }
def FnExactMostTickUptoSaid : Prop := fnExactMostTickUptoRow.holds Try.pinned (OpenSpec.upto fnExactMostTickSpec)

/-- 'laws.FnExactHeatInBar', WHERE WHAT IT READS IS OF BULK AT MOST 1048576: true; the input reads as it did. -/
def fnExactHeatInBarUptoRow : OpenClaim := { program := "ytgcgfnpkkhhkgab", sum := "513525b5a1d0a7564e83986c8d6f44ae3575bb3ca304e5675b8855f9c24ccd40", func := "loop.example/g01309/laws.FnExactHeatInBar", spec := "fnExactHeatInBar", inPlace := ["math.Float64bits", "math.Float64frombits"], unfollowed := true, recurses := true, apart := false, narrowed := true }
def FnExactHeatInBarUptoSaid : Prop := fnExactHeatInBarUptoRow.holds Try.pinned (OpenSpec.upto fnExactHeatInBarSpec)

/-- 'laws.FnExactMeltedOfBar', WHERE WHAT IT READS IS OF BULK AT MOST 1048576: true; the input reads as it did. -/
def fnExactMeltedOfBarUptoRow : OpenClaim := { program := "ytgcgfnpkkhhkgab", sum := "513525b5a1d0a7564e83986c8d6f44ae3575bb3ca304e5675b8855f9c24ccd40", func := "loop.example/g01309/laws.FnExactMeltedOfBar", spec := "fnExactMeltedOfBar", inPlace := ["math.Float64bits", "math.Float64frombits"], unfollowed := true, recurses := true, apart := false, narrowed := true }
def FnExactMeltedOfBarUptoSaid : Prop := fnExactMeltedOfBarUptoRow.holds Try.pinned (OpenSpec.upto fnExactMeltedOfBarSpec)

/-- 'laws.FnExactFrontsOf', WHERE WHAT IT READS IS OF BULK AT MOST 1048576: true; the input reads as it did. -/
def fnExactFrontsOfUptoRow : OpenClaim := { program := "ytgcgfnpkkhhkgab", sum := "513525b5a1d0a7564e83986c8d6f44ae3575bb3ca304e5675b8855f9c24ccd40", func := "loop.example/g01309/laws.FnExactFrontsOf", spec := "fnExactFrontsOf", inPlace := ["math.Float64bits", "math.Float64frombits"], unfollowed := true, recurses := true, apart := false, narrowed := true }
def FnExactFrontsOfUptoSaid : Prop := fnExactFrontsOfUptoRow.holds Try.pinned (OpenSpec.upto fnExactFrontsOfSpec)

/-- 'laws.FnExactRunIce', WHERE WHAT IT READS IS OF BULK AT MOST 1048576: true; the input reads as it did. -/
def fnExactRunIceUptoRow : OpenClaim := { program := "ytgcgfnpkkhhkgab", sum := "513525b5a1d0a7564e83986c8d6f44ae3575bb3ca304e5675b8855f9c24ccd40", func := "loop.example/g01309/laws.FnExactRunIce", spec := "fnExactRunIce", inPlace := ["math.Float64bits", "math.Float64frombits"], unfollowed := true, recurses := true, apart := false, narrowed := true }
def FnExactRunIceUptoSaid : Prop := fnExactRunIceUptoRow.holds Try.pinned (OpenSpec.upto fnExactRunIceSpec)

end Rows
end Go.Proofs.Ytgcgfnpkkhhkgab
