/-
  No cell of these rows narrows 'for every input' (looked for: loops, veiled, ifaces, maps, wideKeys, modest, calm, conditions, laid).
  DERIVED. THE GIVEN ROWS OF THIS SEAT. 13 by the template 'for every input the law returns true; each argument reads behind the call as it read before'; 0 by the template 'total and deterministic' (their statements: YtkjlofbnegjcoaaTotals.lean).
  GIVEN WITH THE SEED: the statements are not yours to turn. If you find one false, say at which input.
  Laid BY PROGRAM, IN A SANDBOX (cutbox-rows.mjs): the forced cells as the released guide's own fill.sh prints them over the translation e4566de35916b1b6… (all of the seat's roots in one cut). By AI agents, Wed Nov 11 2026. No macro, syntax, notation, axiom, sorry.
-/
import Derived.Test.YtkjlofbnegjcoaaChecked
import GoSem.Claim
import GoSem.ClaimJoined
import GoSem.ClaimMapViews
import Derived.JoinedTies
import Derived.KernelRfl
namespace Go.Proofs.Ytkjlofbnegjcoaa
/- THE CELL 'sum', in the pinned program and in every row, IS THE sha256 OF THE DUMP (.gsa) THAT YtkjlofbnegjcoaaProg.lean LOADS. Nothing in Lean hashes anything: it is a label: what it is worth is what the hold of that sum in a sandbox is worth. -/
noncomputable def Try.pinned : Pinned := { name := "ytkjlofbnegjcoaa", sum := "e4566de35916b1b6097da255dfbb4b3b93988c6fdef5ffa6a641fd1ffda8c224", checked := Try.checked }
namespace Rows
def none {H : Type} : Left H := { results := [], args := [] }

/-- 'laws.FnExactValidFace': WHATEVER THE INPUT: true; the input reads as it did. -/
def fnExactValidFaceSpec : ChangeSpec := { name := "fnExactValidFace", fn := fun _ => fun
  | [d] => { results := [.lit (.bool true)], args := [d] }
  | _ => none }
def fnExactValidFaceRow : OpenClaim := { program := "ytkjlofbnegjcoaa", sum := "e4566de35916b1b6097da255dfbb4b3b93988c6fdef5ffa6a641fd1ffda8c224", func := "loop.example/g01309/laws.FnExactValidFace", spec := "fnExactValidFace", inPlace := ["math.Float64bits", "math.Float64frombits"], apart := false }
def FnExactValidFaceSaid : Prop := fnExactValidFaceRow.holds Try.pinned (OpenSpec.ofChange fnExactValidFaceSpec)

/-- ITS FALSE NEIGHBOUR: 'it returns false'. Refute it at one input. -/
def fnExactValidFaceWrong : ChangeSpec := { name := "fnExactValidFace", fn := fun _ => fun
  | [d] => { results := [.lit (.bool false)], args := [d] }
  | _ => none }
def FnExactValidFaceWrongFalsely : Prop := fnExactValidFaceRow.holds Try.pinned (OpenSpec.ofChange fnExactValidFaceWrong)

/-- 'laws.FnExactSameFaces': WHATEVER THE INPUT: true; the input reads as it did. -/
def fnExactSameFacesSpec : ChangeSpec := { name := "fnExactSameFaces", fn := fun _ => fun
  | [d1, d2] => { results := [.lit (.bool true)], args := [d1, d2] }
  | _ => none }
def fnExactSameFacesRow : OpenClaim := { program := "ytkjlofbnegjcoaa", sum := "e4566de35916b1b6097da255dfbb4b3b93988c6fdef5ffa6a641fd1ffda8c224", func := "loop.example/g01309/laws.FnExactSameFaces", spec := "fnExactSameFaces", inPlace := ["math.Float32bits"], unfollowed := true, recurses := true, apart := false }
def FnExactSameFacesSaid : Prop := fnExactSameFacesRow.holds Try.pinned (OpenSpec.ofChange fnExactSameFacesSpec)

/-- ITS FALSE NEIGHBOUR: 'it returns false'. Refute it at one input. -/
def fnExactSameFacesWrong : ChangeSpec := { name := "fnExactSameFaces", fn := fun _ => fun
  | [d1, d2] => { results := [.lit (.bool false)], args := [d1, d2] }
  | _ => none }
def FnExactSameFacesWrongFalsely : Prop := fnExactSameFacesRow.holds Try.pinned (OpenSpec.ofChange fnExactSameFacesWrong)

/-- 'laws.FnExactAreFaces': WHATEVER THE INPUT: true; the input reads as it did. -/
def fnExactAreFacesSpec : ChangeSpec := { name := "fnExactAreFaces", fn := fun _ => fun
  | [d] => { results := [.lit (.bool true)], args := [d] }
  | _ => none }
def fnExactAreFacesRow : OpenClaim := { program := "ytkjlofbnegjcoaa", sum := "e4566de35916b1b6097da255dfbb4b3b93988c6fdef5ffa6a641fd1ffda8c224", func := "loop.example/g01309/laws.FnExactAreFaces", spec := "fnExactAreFaces", inPlace := ["math.Float64bits", "math.Float64frombits"], unfollowed := true, recurses := true, apart := false }
def FnExactAreFacesSaid : Prop := fnExactAreFacesRow.holds Try.pinned (OpenSpec.ofChange fnExactAreFacesSpec)

/-- ITS FALSE NEIGHBOUR: 'it returns false'. Refute it at one input. -/
def fnExactAreFacesWrong : ChangeSpec := { name := "fnExactAreFaces", fn := fun _ => fun
  | [d] => { results := [.lit (.bool false)], args := [d] }
  | _ => none }
def FnExactAreFacesWrongFalsely : Prop := fnExactAreFacesRow.holds Try.pinned (OpenSpec.ofChange fnExactAreFacesWrong)

/-- 'laws.FnExactShineOf': WHATEVER THE INPUT: true; the input reads as it did. -/
def fnExactShineOfSpec : ChangeSpec := { name := "fnExactShineOf", fn := fun _ => fun
  | [d1, d2] => { results := [.lit (.bool true)], args := [d1, d2] }
  | _ => none }
def fnExactShineOfRow : OpenClaim := { program := "ytkjlofbnegjcoaa", sum := "e4566de35916b1b6097da255dfbb4b3b93988c6fdef5ffa6a641fd1ffda8c224", func := "loop.example/g01309/laws.FnExactShineOf", spec := "fnExactShineOf", inPlace := ["math.Float64bits", "math.Float64frombits"], apart := false }
def FnExactShineOfSaid : Prop := fnExactShineOfRow.holds Try.pinned (OpenSpec.ofChange fnExactShineOfSpec)

/-- ITS FALSE NEIGHBOUR: 'it returns false'. Refute it at one input. -/
def fnExactShineOfWrong : ChangeSpec := { name := "fnExactShineOf", fn := fun _ => fun
  | [d1, d2] => { results := [.lit (.bool false)], args := [d1, d2] }
  | _ => none }
def FnExactShineOfWrongFalsely : Prop := fnExactShineOfRow.holds Try.pinned (OpenSpec.ofChange fnExactShineOfWrong)

/-- 'laws.FnExactWarmForShine': WHATEVER THE INPUT: true; the input reads as it did. -/
def fnExactWarmForShineSpec : ChangeSpec := { name := "fnExactWarmForShine", fn := fun _ => fun
  | [d] => { results := [.lit (.bool true)], args := [d] }
  | _ => none }
def fnExactWarmForShineRow : OpenClaim := { program := "ytkjlofbnegjcoaa", sum := "e4566de35916b1b6097da255dfbb4b3b93988c6fdef5ffa6a641fd1ffda8c224", func := "loop.example/g01309/laws.FnExactWarmForShine", spec := "fnExactWarmForShine", inPlace := ["math.sqrt", "math.Float64bits", "math.Float64frombits"], apart := false }
def FnExactWarmForShineSaid : Prop := fnExactWarmForShineRow.holds Try.pinned (OpenSpec.ofChange fnExactWarmForShineSpec)

/-- ITS FALSE NEIGHBOUR: 'it returns false'. Refute it at one input. -/
def fnExactWarmForShineWrong : ChangeSpec := { name := "fnExactWarmForShine", fn := fun _ => fun
  | [d] => { results := [.lit (.bool false)], args := [d] }
  | _ => none }
def FnExactWarmForShineWrongFalsely : Prop := fnExactWarmForShineRow.holds Try.pinned (OpenSpec.ofChange fnExactWarmForShineWrong)

/-- 'laws.FnExactPlatesView': WHATEVER THE INPUT: true; the input reads as it did. -/
def fnExactPlatesViewSpec : ChangeSpec := { name := "fnExactPlatesView", fn := fun _ => fun
  | [d1, d2, d3] => { results := [.lit (.bool true)], args := [d1, d2, d3] }
  | _ => none }
def fnExactPlatesViewRow : OpenClaim := { program := "ytkjlofbnegjcoaa", sum := "e4566de35916b1b6097da255dfbb4b3b93988c6fdef5ffa6a641fd1ffda8c224", func := "loop.example/g01309/laws.FnExactPlatesView", spec := "fnExactPlatesView", inPlace := ["math.sqrt", "math.Float64bits", "math.Float64frombits"], unfollowed := true, recurses := true, apart := false }
def FnExactPlatesViewSaid : Prop := fnExactPlatesViewRow.holds Try.pinned (OpenSpec.ofChange fnExactPlatesViewSpec)

/-- ITS FALSE NEIGHBOUR: 'it returns false'. Refute it at one input. -/
def fnExactPlatesViewWrong : ChangeSpec := { name := "fnExactPlatesView", fn := fun _ => fun
  | [d1, d2, d3] => { results := [.lit (.bool false)], args := [d1, d2, d3] }
  | _ => none }
def FnExactPlatesViewWrongFalsely : Prop := fnExactPlatesViewRow.holds Try.pinned (OpenSpec.ofChange fnExactPlatesViewWrong)

/-- 'laws.FnExactBetweenPlates': WHATEVER THE INPUT: true; the input reads as it did. -/
def fnExactBetweenPlatesSpec : ChangeSpec := { name := "fnExactBetweenPlates", fn := fun _ => fun
  | [d1, d2] => { results := [.lit (.bool true)], args := [d1, d2] }
  | _ => none }
def fnExactBetweenPlatesRow : OpenClaim := { program := "ytkjlofbnegjcoaa", sum := "e4566de35916b1b6097da255dfbb4b3b93988c6fdef5ffa6a641fd1ffda8c224", func := "loop.example/g01309/laws.FnExactBetweenPlates", spec := "fnExactBetweenPlates", inPlace := ["math.Float64bits", "math.Float64frombits"], apart := false }
def FnExactBetweenPlatesSaid : Prop := fnExactBetweenPlatesRow.holds Try.pinned (OpenSpec.ofChange fnExactBetweenPlatesSpec)

/-- ITS FALSE NEIGHBOUR: 'it returns false'. Refute it at one input. -/
def fnExactBetweenPlatesWrong : ChangeSpec := { name := "fnExactBetweenPlates", fn := fun _ => fun
  | [d1, d2] => { results := [.lit (.bool false)], args := [d1, d2] }
  | _ => none }
def FnExactBetweenPlatesWrongFalsely : Prop := fnExactBetweenPlatesRow.holds Try.pinned (OpenSpec.ofChange fnExactBetweenPlatesWrong)

/-- 'laws.FnExactShieldedPlates': WHATEVER THE INPUT: true; the input reads as it did. -/
def fnExactShieldedPlatesSpec : ChangeSpec := { name := "fnExactShieldedPlates", fn := fun _ => fun
  | [d1, d2, d3, d4] => { results := [.lit (.bool true)], args := [d1, d2, d3, d4] }
  | _ => none }
def fnExactShieldedPlatesRow : OpenClaim := { program := "ytkjlofbnegjcoaa", sum := "e4566de35916b1b6097da255dfbb4b3b93988c6fdef5ffa6a641fd1ffda8c224", func := "loop.example/g01309/laws.FnExactShieldedPlates", spec := "fnExactShieldedPlates", inPlace := ["math.Float64bits", "math.Float64frombits"], apart := false }
def FnExactShieldedPlatesSaid : Prop := fnExactShieldedPlatesRow.holds Try.pinned (OpenSpec.ofChange fnExactShieldedPlatesSpec)

/-- ITS FALSE NEIGHBOUR: 'it returns false'. Refute it at one input. -/
def fnExactShieldedPlatesWrong : ChangeSpec := { name := "fnExactShieldedPlates", fn := fun _ => fun
  | [d1, d2, d3, d4] => { results := [.lit (.bool false)], args := [d1, d2, d3, d4] }
  | _ => none }
def FnExactShieldedPlatesWrongFalsely : Prop := fnExactShieldedPlatesRow.holds Try.pinned (OpenSpec.ofChange fnExactShieldedPlatesWrong)

/-- 'laws.FnExactPanesThrough': WHATEVER THE INPUT: true; the input reads as it did. -/
def fnExactPanesThroughSpec : ChangeSpec := { name := "fnExactPanesThrough", fn := fun _ => fun
  | [d1, d2] => { results := [.lit (.bool true)], args := [d1, d2] }
  | _ => none }
def fnExactPanesThroughRow : OpenClaim := { program := "ytkjlofbnegjcoaa", sum := "e4566de35916b1b6097da255dfbb4b3b93988c6fdef5ffa6a641fd1ffda8c224", func := "loop.example/g01309/laws.FnExactPanesThrough", spec := "fnExactPanesThrough", inPlace := ["math.Float64bits", "math.Float64frombits"], apart := false }
def FnExactPanesThroughSaid : Prop := fnExactPanesThroughRow.holds Try.pinned (OpenSpec.ofChange fnExactPanesThroughSpec)

/-- ITS FALSE NEIGHBOUR: 'it returns false'. Refute it at one input. -/
def fnExactPanesThroughWrong : ChangeSpec := { name := "fnExactPanesThrough", fn := fun _ => fun
  | [d1, d2] => { results := [.lit (.bool false)], args := [d1, d2] }
  | _ => none }
def FnExactPanesThroughWrongFalsely : Prop := fnExactPanesThroughRow.holds Try.pinned (OpenSpec.ofChange fnExactPanesThroughWrong)

/-- 'laws.FnExactAirAlong': WHATEVER THE INPUT: true; the input reads as it did. -/
def fnExactAirAlongSpec : ChangeSpec := { name := "fnExactAirAlong", fn := fun _ => fun
  | [d1, d2, d3] => { results := [.lit (.bool true)], args := [d1, d2, d3] }
  | _ => none }
def fnExactAirAlongRow : OpenClaim := { program := "ytkjlofbnegjcoaa", sum := "e4566de35916b1b6097da255dfbb4b3b93988c6fdef5ffa6a641fd1ffda8c224", func := "loop.example/g01309/laws.FnExactAirAlong", spec := "fnExactAirAlong", inPlace := ["math.sqrt", "math.Float64bits", "math.Float64frombits"], apart := false }
def FnExactAirAlongSaid : Prop := fnExactAirAlongRow.holds Try.pinned (OpenSpec.ofChange fnExactAirAlongSpec)

/-- ITS FALSE NEIGHBOUR: 'it returns false'. Refute it at one input. -/
def fnExactAirAlongWrong : ChangeSpec := { name := "fnExactAirAlong", fn := fun _ => fun
  | [d1, d2, d3] => { results := [.lit (.bool false)], args := [d1, d2, d3] }
  | _ => none }
def FnExactAirAlongWrongFalsely : Prop := fnExactAirAlongRow.holds Try.pinned (OpenSpec.ofChange fnExactAirAlongWrong)

/-- 'laws.FnExactWallLoss': WHATEVER THE INPUT: true; the input reads as it did. -/
def fnExactWallLossSpec : ChangeSpec := { name := "fnExactWallLoss", fn := fun _ => fun
  | [d1, d2, d3, d4] => { results := [.lit (.bool true)], args := [d1, d2, d3, d4] }
  | _ => none }
def fnExactWallLossRow : OpenClaim := { program := "ytkjlofbnegjcoaa", sum := "e4566de35916b1b6097da255dfbb4b3b93988c6fdef5ffa6a641fd1ffda8c224", func := "loop.example/g01309/laws.FnExactWallLoss", spec := "fnExactWallLoss", inPlace := ["math.sqrt", "math.Float64bits", "math.Float64frombits"], apart := false }
def FnExactWallLossSaid : Prop := fnExactWallLossRow.holds Try.pinned (OpenSpec.ofChange fnExactWallLossSpec)

/-- ITS FALSE NEIGHBOUR: 'it returns false'. Refute it at one input. -/
def fnExactWallLossWrong : ChangeSpec := { name := "fnExactWallLoss", fn := fun _ => fun
  | [d1, d2, d3, d4] => { results := [.lit (.bool false)], args := [d1, d2, d3, d4] }
  | _ => none }
def FnExactWallLossWrongFalsely : Prop := fnExactWallLossRow.holds Try.pinned (OpenSpec.ofChange fnExactWallLossWrong)

/-- 'laws.FnExactRestWarm': WHATEVER THE INPUT: true; the input reads as it did. -/
def fnExactRestWarmSpec : ChangeSpec := { name := "fnExactRestWarm", fn := fun _ => fun
  | [d1, d2, d3, d4, d5] => { results := [.lit (.bool true)], args := [d1, d2, d3, d4, d5] }
  | _ => none }
def fnExactRestWarmRow : OpenClaim := { program := "ytkjlofbnegjcoaa", sum := "e4566de35916b1b6097da255dfbb4b3b93988c6fdef5ffa6a641fd1ffda8c224", func := "loop.example/g01309/laws.FnExactRestWarm", spec := "fnExactRestWarm", inPlace := ["math.sqrt", "math.Float64bits", "math.Float64frombits"], apart := false }
def FnExactRestWarmSaid : Prop := fnExactRestWarmRow.holds Try.pinned (OpenSpec.ofChange fnExactRestWarmSpec)

/-- ITS FALSE NEIGHBOUR: 'it returns false'. Refute it at one input. -/
def fnExactRestWarmWrong : ChangeSpec := { name := "fnExactRestWarm", fn := fun _ => fun
  | [d1, d2, d3, d4, d5] => { results := [.lit (.bool false)], args := [d1, d2, d3, d4, d5] }
  | _ => none }
def FnExactRestWarmWrongFalsely : Prop := fnExactRestWarmRow.holds Try.pinned (OpenSpec.ofChange fnExactRestWarmWrong)

/-- 'laws.FnExactComfortOf': WHATEVER THE INPUT: true; the input reads as it did. -/
def fnExactComfortOfSpec : ChangeSpec := { name := "fnExactComfortOf", fn := fun _ => fun
  | [d1, d2, d3] => { results := [.lit (.bool true)], args := [d1, d2, d3] }
  | _ => none }
def fnExactComfortOfRow : OpenClaim := { program := "ytkjlofbnegjcoaa", sum := "e4566de35916b1b6097da255dfbb4b3b93988c6fdef5ffa6a641fd1ffda8c224", func := "loop.example/g01309/laws.FnExactComfortOf", spec := "fnExactComfortOf", inPlace := ["math.sqrt", "math.Float64bits", "math.Float64frombits"], apart := false }
def FnExactComfortOfSaid : Prop := fnExactComfortOfRow.holds Try.pinned (OpenSpec.ofChange fnExactComfortOfSpec)

/-- ITS FALSE NEIGHBOUR: 'it returns false'. Refute it at one input. -/
def fnExactComfortOfWrong : ChangeSpec := { name := "fnExactComfortOf", fn := fun _ => fun
  | [d1, d2, d3] => { results := [.lit (.bool false)], args := [d1, d2, d3] }
  | _ => none }
def FnExactComfortOfWrongFalsely : Prop := fnExactComfortOfRow.holds Try.pinned (OpenSpec.ofChange fnExactComfortOfWrong)

/- THE SECOND FORM. 'bulk': how many values and letters a reading holds, each counted each time it is reached (what is shared counts as often as it is met; a slice's spare places count too). A statement '..UptoSaid' is the law's where the arguments, and the package variables that the reading takes, are together of bulk at most 1048576: NARROWER than '..Said'. Prove '..Said' where nothing that the law and all that it calls make is longer than what came in: it says more and counts as full. Else prove '..UptoSaid'. A law counts once. -/
mutual
def uptoBulk {H : Type} : DataW H → Nat
  | .lit (.string bytes) => bytes.length + 1
  | .lit _ => 1
  | .nil => 1
  | .ptr d => uptoBulk d + 1
  | .slice elems spare => uptoBulkAll elems + uptoBulkAll spare + 1
  | .agg parts => uptoBulkAll parts + 1
  | .iface _ d => uptoBulk d + 1
  | .map entries => uptoBulkEntries entries + 1
  | .held _ => 1
def uptoBulkAll {H : Type} : List (DataW H) → Nat
  | [] => 0
  | d :: r => uptoBulk d + uptoBulkAll r
def uptoBulkEntries {H : Type} : List (Lit × DataW H) → Nat
  | [] => 0
  | x :: r => uptoBulkEntry x + uptoBulkEntries r
def uptoBulkEntry {H : Type} : Lit × DataW H → Nat
  | (.string bytes, d) => bytes.length + uptoBulk d + 1
  | (_, d) => uptoBulk d + 1
 end
def uptoSmall : (H : Type) → List (DataW H) → Bool := fun _ ds => decide (uptoBulkAll ds ≤ 1048576)
def OpenSpec.upto (s : _root_.Go.ChangeSpec) : _root_.Go.OpenSpec := { _root_.Go.OpenSpec.ofChange s with cond := some uptoSmall }

/-- 'laws.FnExactValidFace', WHERE WHAT IT READS IS OF BULK AT MOST 1048576: true; the input reads as it did. -/
def fnExactValidFaceUptoRow : OpenClaim := { program := "ytkjlofbnegjcoaa", sum := "e4566de35916b1b6097da255dfbb4b3b93988c6fdef5ffa6a641fd1ffda8c224", func := "loop.example/g01309/laws.FnExactValidFace", spec := "fnExactValidFace", inPlace := ["math.Float64bits", "math.Float64frombits"], apart := false, narrowed := true }
def FnExactValidFaceUptoSaid : Prop := fnExactValidFaceUptoRow.holds Try.pinned (OpenSpec.upto fnExactValidFaceSpec)

/-- 'laws.FnExactSameFaces', WHERE WHAT IT READS IS OF BULK AT MOST 1048576: true; the input reads as it did. -/
def fnExactSameFacesUptoRow : OpenClaim := { program := "ytkjlofbnegjcoaa", sum := "e4566de35916b1b6097da255dfbb4b3b93988c6fdef5ffa6a641fd1ffda8c224", func := "loop.example/g01309/laws.FnExactSameFaces", spec := "fnExactSameFaces", inPlace := ["math.Float32bits"], unfollowed := true, recurses := true, apart := false, narrowed := true }
def FnExactSameFacesUptoSaid : Prop := fnExactSameFacesUptoRow.holds Try.pinned (OpenSpec.upto fnExactSameFacesSpec)

/-- 'laws.FnExactAreFaces', WHERE WHAT IT READS IS OF BULK AT MOST 1048576: true; the input reads as it did. -/
def fnExactAreFacesUptoRow : OpenClaim := { program := "ytkjlofbnegjcoaa", sum := "e4566de35916b1b6097da255dfbb4b3b93988c6fdef5ffa6a641fd1ffda8c224", func := "loop.example/g01309/laws.FnExactAreFaces", spec := "fnExactAreFaces", inPlace := ["math.Float64bits", "math.Float64frombits"], unfollowed := true, recurses := true, apart := false, narrowed := true }
def FnExactAreFacesUptoSaid : Prop := fnExactAreFacesUptoRow.holds Try.pinned (OpenSpec.upto fnExactAreFacesSpec)

/-- 'laws.FnExactShineOf', WHERE WHAT IT READS IS OF BULK AT MOST 1048576: true; the input reads as it did. -/
def fnExactShineOfUptoRow : OpenClaim := { program := "ytkjlofbnegjcoaa", sum := "e4566de35916b1b6097da255dfbb4b3b93988c6fdef5ffa6a641fd1ffda8c224", func := "loop.example/g01309/laws.FnExactShineOf", spec := "fnExactShineOf", inPlace := ["math.Float64bits", "math.Float64frombits"], apart := false, narrowed := true }
def FnExactShineOfUptoSaid : Prop := fnExactShineOfUptoRow.holds Try.pinned (OpenSpec.upto fnExactShineOfSpec)

/-- 'laws.FnExactWarmForShine', WHERE WHAT IT READS IS OF BULK AT MOST 1048576: true; the input reads as it did. -/
def fnExactWarmForShineUptoRow : OpenClaim := { program := "ytkjlofbnegjcoaa", sum := "e4566de35916b1b6097da255dfbb4b3b93988c6fdef5ffa6a641fd1ffda8c224", func := "loop.example/g01309/laws.FnExactWarmForShine", spec := "fnExactWarmForShine", inPlace := ["math.sqrt", "math.Float64bits", "math.Float64frombits"], apart := false, narrowed := true }
def FnExactWarmForShineUptoSaid : Prop := fnExactWarmForShineUptoRow.holds Try.pinned (OpenSpec.upto fnExactWarmForShineSpec)

/-- 'laws.FnExactPlatesView', WHERE WHAT IT READS IS OF BULK AT MOST 1048576: true; the input reads as it did. -/
def fnExactPlatesViewUptoRow : OpenClaim := { program := "ytkjlofbnegjcoaa", sum := "e4566de35916b1b6097da255dfbb4b3b93988c6fdef5ffa6a641fd1ffda8c224", func := "loop.example/g01309/laws.FnExactPlatesView", spec := "fnExactPlatesView", inPlace := ["math.sqrt", "math.Float64bits", "math.Float64frombits"], unfollowed := true, recurses := true, apart := false, narrowed := true }
def FnExactPlatesViewUptoSaid : Prop := fnExactPlatesViewUptoRow.holds Try.pinned (OpenSpec.upto fnExactPlatesViewSpec)

/-- 'laws.FnExactBetweenPlates', WHERE WHAT IT READS IS OF BULK AT MOST 1048576: true; the input reads as it did. -/
def fnExactBetweenPlatesUptoRow : OpenClaim := { program := "ytkjlofbnegjcoaa", sum := "e4566de35916b1b6097da255dfbb4b3b93988c6fdef5ffa6a641fd1ffda8c224", func := "loop.example/g01309/laws.FnExactBetweenPlates", spec := "fnExactBetweenPlates", inPlace := ["math.Float64bits", "math.Float64frombits"], apart := false, narrowed := true }
def FnExactBetweenPlatesUptoSaid : Prop := fnExactBetweenPlatesUptoRow.holds Try.pinned (OpenSpec.upto fnExactBetweenPlatesSpec)

/-- 'laws.FnExactShieldedPlates', WHERE WHAT IT READS IS OF BULK AT MOST 1048576: true; the input reads as it did. -/
def fnExactShieldedPlatesUptoRow : OpenClaim := { program := "ytkjlofbnegjcoaa", sum := "e4566de35916b1b6097da255dfbb4b3b93988c6fdef5ffa6a641fd1ffda8c224", func := "loop.example/g01309/laws.FnExactShieldedPlates", spec := "fnExactShieldedPlates", inPlace := ["math.Float64bits", "math.Float64frombits"], apart := false, narrowed := true }
def FnExactShieldedPlatesUptoSaid : Prop := fnExactShieldedPlatesUptoRow.holds Try.pinned (OpenSpec.upto fnExactShieldedPlatesSpec)

/-- 'laws.FnExactPanesThrough', WHERE WHAT IT READS IS OF BULK AT MOST 1048576: true; the input reads as it did. -/
def fnExactPanesThroughUptoRow : OpenClaim := { program := "ytkjlofbnegjcoaa", sum := "e4566de35916b1b6097da255dfbb4b3b93988c6fdef5ffa6a641fd1ffda8c224", func := "loop.example/g01309/laws.FnExactPanesThrough", spec := "fnExactPanesThrough", inPlace := ["math.Float64bits", "math.Float64frombits"], apart := false, narrowed := true }
def FnExactPanesThroughUptoSaid : Prop := fnExactPanesThroughUptoRow.holds Try.pinned (OpenSpec.upto fnExactPanesThroughSpec)

/-- 'laws.FnExactAirAlong', WHERE WHAT IT READS IS OF BULK AT MOST 1048576: true; the input reads as it did. -/
def fnExactAirAlongUptoRow : OpenClaim := { program := "ytkjlofbnegjcoaa", sum := "e4566de35916b1b6097da255dfbb4b3b93988c6fdef5ffa6a641fd1ffda8c224", func := "loop.example/g01309/laws.FnExactAirAlong", spec := "fnExactAirAlong", inPlace := ["math.sqrt", "math.Float64bits", "math.Float64frombits"], apart := false, narrowed := true }
def FnExactAirAlongUptoSaid : Prop := fnExactAirAlongUptoRow.holds Try.pinned (OpenSpec.upto fnExactAirAlongSpec)

/-- 'laws.FnExactWallLoss', WHERE WHAT IT READS IS OF BULK AT MOST 1048576: true; the input reads as it did. -/
def fnExactWallLossUptoRow : OpenClaim := { program := "ytkjlofbnegjcoaa", sum := "e4566de35916b1b6097da255dfbb4b3b93988c6fdef5ffa6a641fd1ffda8c224", func := "loop.example/g01309/laws.FnExactWallLoss", spec := "fnExactWallLoss", inPlace := ["math.sqrt", "math.Float64bits", "math.Float64frombits"], apart := false, narrowed := true }
def FnExactWallLossUptoSaid : Prop := fnExactWallLossUptoRow.holds Try.pinned (OpenSpec.upto fnExactWallLossSpec)

/-- 'laws.FnExactRestWarm', WHERE WHAT IT READS IS OF BULK AT MOST 1048576: true; the input reads as it did. -/
def fnExactRestWarmUptoRow : OpenClaim := { program := "ytkjlofbnegjcoaa", sum := "e4566de35916b1b6097da255dfbb4b3b93988c6fdef5ffa6a641fd1ffda8c224", func := "loop.example/g01309/laws.FnExactRestWarm", spec := "fnExactRestWarm", inPlace := ["math.sqrt", "math.Float64bits", "math.Float64frombits"], apart := false, narrowed := true }
def FnExactRestWarmUptoSaid : Prop := fnExactRestWarmUptoRow.holds Try.pinned (OpenSpec.upto fnExactRestWarmSpec)

/-- 'laws.FnExactComfortOf', WHERE WHAT IT READS IS OF BULK AT MOST 1048576: true; the input reads as it did. -/
def fnExactComfortOfUptoRow : OpenClaim := { program := "ytkjlofbnegjcoaa", sum := "e4566de35916b1b6097da255dfbb4b3b93988c6fdef5ffa6a641fd1ffda8c224", func := "loop.example/g01309/laws.FnExactComfortOf", spec := "fnExactComfortOf", inPlace := ["math.sqrt", "math.Float64bits", "math.Float64frombits"], apart := false, narrowed := true }
def FnExactComfortOfUptoSaid : Prop := fnExactComfortOfUptoRow.holds Try.pinned (OpenSpec.upto fnExactComfortOfSpec)

end Rows
end Go.Proofs.Ytkjlofbnegjcoaa
