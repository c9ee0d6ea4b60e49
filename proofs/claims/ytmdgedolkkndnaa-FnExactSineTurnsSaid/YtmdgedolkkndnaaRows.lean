/-
  No cell of these rows narrows 'for every input' (looked for: loops, veiled, ifaces, maps, wideKeys, modest, calm, conditions, laid).
  DERIVED. THE GIVEN ROWS OF THIS SEAT. 11 by the template 'for every input the law returns true; each argument reads behind the call as it read before'; 0 by the template 'total and deterministic' (their statements: YtmdgedolkkndnaaTotals.lean).
  GIVEN WITH THE SEED: the statements are not yours to turn. If you find one false, say at which input.
  Laid BY PROGRAM, IN A SANDBOX (cutbox-rows.mjs): the forced cells as the released guide's own fill.sh prints them over the translation 1096424e17baeed4… (all of the seat's roots in one cut). By AI agents, Wed Nov 11 2026. No macro, syntax, notation, axiom, sorry.
-/
import Derived.Test.YtmdgedolkkndnaaChecked
import GoSem.Claim
import GoSem.ClaimJoined
import GoSem.ClaimMapViews
import Derived.JoinedTies
import Derived.KernelRfl
namespace Go.Proofs.Ytmdgedolkkndnaa
/- THE CELL 'sum', in the pinned program and in every row, IS THE sha256 OF THE DUMP (.gsa) THAT YtmdgedolkkndnaaProg.lean LOADS. Nothing in Lean hashes anything: it is a label: what it is worth is what the hold of that sum in a sandbox is worth. -/
noncomputable def Try.pinned : Pinned := { name := "ytmdgedolkkndnaa", sum := "1096424e17baeed48fb4cb3fedc8c9a2be2dabce66a2ea8dbbcfa8e2dbad8788", checked := Try.checked }
namespace Rows
def none {H : Type} : Left H := { results := [], args := [] }

/-- 'laws.FnExactSineTurns': WHATEVER THE INPUT: true; the input reads as it did. -/
def fnExactSineTurnsSpec : ChangeSpec := { name := "fnExactSineTurns", fn := fun _ => fun
  | [d] => { results := [.lit (.bool true)], args := [d] }
  | _ => none }
def fnExactSineTurnsRow : OpenClaim := { program := "ytmdgedolkkndnaa", sum := "1096424e17baeed48fb4cb3fedc8c9a2be2dabce66a2ea8dbbcfa8e2dbad8788", func := "loop.example/g01309/laws.FnExactSineTurns", spec := "fnExactSineTurns", inPlace := ["math.Float64frombits", "math.Float64bits", "math.Float32frombits", "math.archTrunc"], apart := false }
def FnExactSineTurnsSaid : Prop := fnExactSineTurnsRow.holds Try.pinned (OpenSpec.ofChange fnExactSineTurnsSpec)

/-- ITS FALSE NEIGHBOUR: 'it returns false'. Refute it at one input. -/
def fnExactSineTurnsWrong : ChangeSpec := { name := "fnExactSineTurns", fn := fun _ => fun
  | [d] => { results := [.lit (.bool false)], args := [d] }
  | _ => none }
def FnExactSineTurnsWrongFalsely : Prop := fnExactSineTurnsRow.holds Try.pinned (OpenSpec.ofChange fnExactSineTurnsWrong)

/-- 'laws.FnExactAngleTurns': WHATEVER THE INPUT: true; the input reads as it did. -/
def fnExactAngleTurnsSpec : ChangeSpec := { name := "fnExactAngleTurns", fn := fun _ => fun
  | [d1, d2] => { results := [.lit (.bool true)], args := [d1, d2] }
  | _ => none }
def fnExactAngleTurnsRow : OpenClaim := { program := "ytmdgedolkkndnaa", sum := "1096424e17baeed48fb4cb3fedc8c9a2be2dabce66a2ea8dbbcfa8e2dbad8788", func := "loop.example/g01309/laws.FnExactAngleTurns", spec := "fnExactAngleTurns", inPlace := ["math.Float64frombits", "math.Float64bits", "math.sqrt", "math.Float32frombits"], apart := false }
def FnExactAngleTurnsSaid : Prop := fnExactAngleTurnsRow.holds Try.pinned (OpenSpec.ofChange fnExactAngleTurnsSpec)

/-- ITS FALSE NEIGHBOUR: 'it returns false'. Refute it at one input. -/
def fnExactAngleTurnsWrong : ChangeSpec := { name := "fnExactAngleTurns", fn := fun _ => fun
  | [d1, d2] => { results := [.lit (.bool false)], args := [d1, d2] }
  | _ => none }
def FnExactAngleTurnsWrongFalsely : Prop := fnExactAngleTurnsRow.holds Try.pinned (OpenSpec.ofChange fnExactAngleTurnsWrong)

/-- 'laws.FnExactBoxViews': WHATEVER THE INPUT: true; the input reads as it did. -/
def fnExactBoxViewsSpec : ChangeSpec := { name := "fnExactBoxViews", fn := fun _ => fun
  | [d1, d2] => { results := [.lit (.bool true)], args := [d1, d2] }
  | _ => none }
def fnExactBoxViewsRow : OpenClaim := { program := "ytmdgedolkkndnaa", sum := "1096424e17baeed48fb4cb3fedc8c9a2be2dabce66a2ea8dbbcfa8e2dbad8788", func := "loop.example/g01309/laws.FnExactBoxViews", spec := "fnExactBoxViews", inPlace := ["math.sqrt", "math.Float64bits", "math.Float64frombits"], unfollowed := true, recurses := true, apart := false }
def FnExactBoxViewsSaid : Prop := fnExactBoxViewsRow.holds Try.pinned (OpenSpec.ofChange fnExactBoxViewsSpec)

/-- ITS FALSE NEIGHBOUR: 'it returns false'. Refute it at one input. -/
def fnExactBoxViewsWrong : ChangeSpec := { name := "fnExactBoxViews", fn := fun _ => fun
  | [d1, d2] => { results := [.lit (.bool false)], args := [d1, d2] }
  | _ => none }
def FnExactBoxViewsWrongFalsely : Prop := fnExactBoxViewsRow.holds Try.pinned (OpenSpec.ofChange fnExactBoxViewsWrong)

/-- 'laws.FnExactAreViews': WHATEVER THE INPUT: true; the input reads as it did. -/
def fnExactAreViewsSpec : ChangeSpec := { name := "fnExactAreViews", fn := fun _ => fun
  | [d1, d2] => { results := [.lit (.bool true)], args := [d1, d2] }
  | _ => none }
def fnExactAreViewsRow : OpenClaim := { program := "ytmdgedolkkndnaa", sum := "1096424e17baeed48fb4cb3fedc8c9a2be2dabce66a2ea8dbbcfa8e2dbad8788", func := "loop.example/g01309/laws.FnExactAreViews", spec := "fnExactAreViews", inPlace := ["math.Float64bits", "math.Float64frombits"], unfollowed := true, recurses := true, apart := false }
def FnExactAreViewsSaid : Prop := fnExactAreViewsRow.holds Try.pinned (OpenSpec.ofChange fnExactAreViewsSpec)

/-- ITS FALSE NEIGHBOUR: 'it returns false'. Refute it at one input. -/
def fnExactAreViewsWrong : ChangeSpec := { name := "fnExactAreViews", fn := fun _ => fun
  | [d1, d2] => { results := [.lit (.bool false)], args := [d1, d2] }
  | _ => none }
def FnExactAreViewsWrongFalsely : Prop := fnExactAreViewsRow.holds Try.pinned (OpenSpec.ofChange fnExactAreViewsWrong)

/-- 'laws.FnExactEvenViews': WHATEVER THE INPUT: true; the input reads as it did. -/
def fnExactEvenViewsSpec : ChangeSpec := { name := "fnExactEvenViews", fn := fun _ => fun
  | [d] => { results := [.lit (.bool true)], args := [d] }
  | _ => none }
def fnExactEvenViewsRow : OpenClaim := { program := "ytmdgedolkkndnaa", sum := "1096424e17baeed48fb4cb3fedc8c9a2be2dabce66a2ea8dbbcfa8e2dbad8788", func := "loop.example/g01309/laws.FnExactEvenViews", spec := "fnExactEvenViews", inPlace := ["math.Float64bits", "math.Float64frombits"], unfollowed := true, recurses := true, apart := false }
def FnExactEvenViewsSaid : Prop := fnExactEvenViewsRow.holds Try.pinned (OpenSpec.ofChange fnExactEvenViewsSpec)

/-- ITS FALSE NEIGHBOUR: 'it returns false'. Refute it at one input. -/
def fnExactEvenViewsWrong : ChangeSpec := { name := "fnExactEvenViews", fn := fun _ => fun
  | [d] => { results := [.lit (.bool false)], args := [d] }
  | _ => none }
def FnExactEvenViewsWrongFalsely : Prop := fnExactEvenViewsRow.holds Try.pinned (OpenSpec.ofChange fnExactEvenViewsWrong)

/-- 'laws.FnExactSolveSquare': WHATEVER THE INPUT: true; the input reads as it did. -/
def fnExactSolveSquareSpec : ChangeSpec := { name := "fnExactSolveSquare", fn := fun _ => fun
  | [d1, d2] => { results := [.lit (.bool true)], args := [d1, d2] }
  | _ => none }
def fnExactSolveSquareRow : OpenClaim := { program := "ytmdgedolkkndnaa", sum := "1096424e17baeed48fb4cb3fedc8c9a2be2dabce66a2ea8dbbcfa8e2dbad8788", func := "loop.example/g01309/laws.FnExactSolveSquare", spec := "fnExactSolveSquare", inPlace := ["math.Float64bits", "math.Float64frombits"], unfollowed := true, recurses := true, apart := false }
def FnExactSolveSquareSaid : Prop := fnExactSolveSquareRow.holds Try.pinned (OpenSpec.ofChange fnExactSolveSquareSpec)

/-- ITS FALSE NEIGHBOUR: 'it returns false'. Refute it at one input. -/
def fnExactSolveSquareWrong : ChangeSpec := { name := "fnExactSolveSquare", fn := fun _ => fun
  | [d1, d2] => { results := [.lit (.bool false)], args := [d1, d2] }
  | _ => none }
def FnExactSolveSquareWrongFalsely : Prop := fnExactSolveSquareRow.holds Try.pinned (OpenSpec.ofChange fnExactSolveSquareWrong)

/-- 'laws.FnExactShinesOf': WHATEVER THE INPUT: true; the input reads as it did. -/
def fnExactShinesOfSpec : ChangeSpec := { name := "fnExactShinesOf", fn := fun _ => fun
  | [d1, d2] => { results := [.lit (.bool true)], args := [d1, d2] }
  | _ => none }
def fnExactShinesOfRow : OpenClaim := { program := "ytmdgedolkkndnaa", sum := "1096424e17baeed48fb4cb3fedc8c9a2be2dabce66a2ea8dbbcfa8e2dbad8788", func := "loop.example/g01309/laws.FnExactShinesOf", spec := "fnExactShinesOf", inPlace := ["math.Float64bits", "math.Float64frombits"], unfollowed := true, recurses := true, apart := false }
def FnExactShinesOfSaid : Prop := fnExactShinesOfRow.holds Try.pinned (OpenSpec.ofChange fnExactShinesOfSpec)

/-- ITS FALSE NEIGHBOUR: 'it returns false'. Refute it at one input. -/
def fnExactShinesOfWrong : ChangeSpec := { name := "fnExactShinesOf", fn := fun _ => fun
  | [d1, d2] => { results := [.lit (.bool false)], args := [d1, d2] }
  | _ => none }
def FnExactShinesOfWrongFalsely : Prop := fnExactShinesOfRow.holds Try.pinned (OpenSpec.ofChange fnExactShinesOfWrong)

/-- 'laws.FnExactNetShines': WHATEVER THE INPUT: true; the input reads as it did. -/
def fnExactNetShinesSpec : ChangeSpec := { name := "fnExactNetShines", fn := fun _ => fun
  | [d1, d2] => { results := [.lit (.bool true)], args := [d1, d2] }
  | _ => none }
def fnExactNetShinesRow : OpenClaim := { program := "ytmdgedolkkndnaa", sum := "1096424e17baeed48fb4cb3fedc8c9a2be2dabce66a2ea8dbbcfa8e2dbad8788", func := "loop.example/g01309/laws.FnExactNetShines", spec := "fnExactNetShines", inPlace := ["math.Float64bits", "math.Float64frombits"], unfollowed := true, recurses := true, apart := false }
def FnExactNetShinesSaid : Prop := fnExactNetShinesRow.holds Try.pinned (OpenSpec.ofChange fnExactNetShinesSpec)

/-- ITS FALSE NEIGHBOUR: 'it returns false'. Refute it at one input. -/
def fnExactNetShinesWrong : ChangeSpec := { name := "fnExactNetShines", fn := fun _ => fun
  | [d1, d2] => { results := [.lit (.bool false)], args := [d1, d2] }
  | _ => none }
def FnExactNetShinesWrongFalsely : Prop := fnExactNetShinesRow.holds Try.pinned (OpenSpec.ofChange fnExactNetShinesWrong)

/-- 'laws.FnExactSunHeight': WHATEVER THE INPUT: true; the input reads as it did. -/
def fnExactSunHeightSpec : ChangeSpec := { name := "fnExactSunHeight", fn := fun _ => fun
  | [d1, d2, d3] => { results := [.lit (.bool true)], args := [d1, d2, d3] }
  | _ => none }
def fnExactSunHeightRow : OpenClaim := { program := "ytmdgedolkkndnaa", sum := "1096424e17baeed48fb4cb3fedc8c9a2be2dabce66a2ea8dbbcfa8e2dbad8788", func := "loop.example/g01309/laws.FnExactSunHeight", spec := "fnExactSunHeight", inPlace := ["math.Float64frombits", "math.sqrt", "math.Float64bits", "math.Float32frombits", "math.archTrunc"], apart := false }
def FnExactSunHeightSaid : Prop := fnExactSunHeightRow.holds Try.pinned (OpenSpec.ofChange fnExactSunHeightSpec)

/-- ITS FALSE NEIGHBOUR: 'it returns false'. Refute it at one input. -/
def fnExactSunHeightWrong : ChangeSpec := { name := "fnExactSunHeight", fn := fun _ => fun
  | [d1, d2, d3] => { results := [.lit (.bool false)], args := [d1, d2, d3] }
  | _ => none }
def FnExactSunHeightWrongFalsely : Prop := fnExactSunHeightRow.holds Try.pinned (OpenSpec.ofChange fnExactSunHeightWrong)

/-- 'laws.FnExactSunOnFace': WHATEVER THE INPUT: true; the input reads as it did. -/
def fnExactSunOnFaceSpec : ChangeSpec := { name := "fnExactSunOnFace", fn := fun _ => fun
  | [d1, d2, d3, d4, d5, d6] => { results := [.lit (.bool true)], args := [d1, d2, d3, d4, d5, d6] }
  | _ => none }
def fnExactSunOnFaceRow : OpenClaim := { program := "ytmdgedolkkndnaa", sum := "1096424e17baeed48fb4cb3fedc8c9a2be2dabce66a2ea8dbbcfa8e2dbad8788", func := "loop.example/g01309/laws.FnExactSunOnFace", spec := "fnExactSunOnFace", inPlace := ["math.Float64frombits", "math.Float64bits", "math.Float32frombits", "math.archTrunc"], apart := false }
def FnExactSunOnFaceSaid : Prop := fnExactSunOnFaceRow.holds Try.pinned (OpenSpec.ofChange fnExactSunOnFaceSpec)

/-- ITS FALSE NEIGHBOUR: 'it returns false'. Refute it at one input. -/
def fnExactSunOnFaceWrong : ChangeSpec := { name := "fnExactSunOnFace", fn := fun _ => fun
  | [d1, d2, d3, d4, d5, d6] => { results := [.lit (.bool false)], args := [d1, d2, d3, d4, d5, d6] }
  | _ => none }
def FnExactSunOnFaceWrongFalsely : Prop := fnExactSunOnFaceRow.holds Try.pinned (OpenSpec.ofChange fnExactSunOnFaceWrong)

/-- 'laws.FnExactSunDay': WHATEVER THE INPUT: true; the input reads as it did. -/
def fnExactSunDaySpec : ChangeSpec := { name := "fnExactSunDay", fn := fun _ => fun
  | [d1, d2, d3, d4] => { results := [.lit (.bool true)], args := [d1, d2, d3, d4] }
  | _ => none }
def fnExactSunDayRow : OpenClaim := { program := "ytmdgedolkkndnaa", sum := "1096424e17baeed48fb4cb3fedc8c9a2be2dabce66a2ea8dbbcfa8e2dbad8788", func := "loop.example/g01309/laws.FnExactSunDay", spec := "fnExactSunDay", inPlace := ["math.Float64frombits", "math.sqrt", "math.Float64bits", "math.Float32frombits", "math.archTrunc"], unfollowed := true, recurses := true, apart := false }
def FnExactSunDaySaid : Prop := fnExactSunDayRow.holds Try.pinned (OpenSpec.ofChange fnExactSunDaySpec)

/-- ITS FALSE NEIGHBOUR: 'it returns false'. Refute it at one input. -/
def fnExactSunDayWrong : ChangeSpec := { name := "fnExactSunDay", fn := fun _ => fun
  | [d1, d2, d3, d4] => { results := [.lit (.bool false)], args := [d1, d2, d3, d4] }
  | _ => none }
def FnExactSunDayWrongFalsely : Prop := fnExactSunDayRow.holds Try.pinned (OpenSpec.ofChange fnExactSunDayWrong)

/- THE SECOND FORM. 'bulk': how many values and letters a reading holds, each counted each time it is reached (what is shared counts as often as it is met; a slice's spare places count too). A statement '..UptoSaid' is the law's where the arguments, and the package variables that the reading takes, are together of bulk at most 1048576: NARROWER than '..Said'. Prove '..Said' where nothing that the law and all that it calls make is longer than what came in: it says more and counts as full. Else prove '..UptoSaid'. A law counts once. -/
mutual
def uptoBulk {H : Type} : DataW H → Nat
  | .lit (.string bytes) => bytes.length + 1
  | .lit _ => 1
  | .nil => 1
  | .ptr d => uptoBulk d + 1
  | .slice elems spare => uptoBulkAll elems + uptoBulkAll spare + 1
  | .agg parts => uptoBulkAll parts + 1
  | .iface _ d => uptoBulk d + 1
  | .map entries => uptoBulkEntries entries + 1
  | .held _ => 1
def uptoBulkAll {H : Type} : List (DataW H) → Nat
  | [] => 0
  | d :: r => uptoBulk d + uptoBulkAll r
def uptoBulkEntries {H : Type} : List (Lit × DataW H) → Nat
  | [] => 0
  | x :: r => uptoBulkEntry x + uptoBulkEntries r
def uptoBulkEntry {H : Type} : Lit × DataW H → Nat
  | (.string bytes, d) => bytes.length + uptoBulk d + 1
  | (_, d) => uptoBulk d + 1
 end
def uptoSmall : (H : Type) → List (DataW H) → Bool := fun _ ds => decide (uptoBulkAll ds ≤ 1048576)
def OpenSpec.upto (s : _root_.Go.ChangeSpec) : _root_.Go.OpenSpec := { _root_.Go.OpenSpec.ofChange s with cond := some uptoSmall }

/-- 'laws.FnExactSineTurns', WHERE WHAT IT READS IS OF BULK AT MOST 1048576: true; the input reads as it did. -/
def fnExactSineTurnsUptoRow : OpenClaim := { program := "ytmdgedolkkndnaa", sum := "1096424e17baeed48fb4cb3fedc8c9a2be2dabce66a2ea8dbbcfa8e2dbad8788", func := "loop.example/g01309/laws.FnExactSineTurns", spec := "fnExactSineTurns", inPlace := ["math.Float64frombits", "math.Float64bits", "math.Float32frombits", "math.archTrunc"], apart := false, narrowed := true }
def FnExactSineTurnsUptoSaid : Prop := fnExactSineTurnsUptoRow.holds Try.pinned (OpenSpec.upto fnExactSineTurnsSpec)

/-- 'laws.FnExactAngleTurns', WHERE WHAT IT READS IS OF BULK AT MOST 1048576: true; the input reads as it did. -/
def fnExactAngleTurnsUptoRow : OpenClaim := { program := "ytmdgedolkkndnaa", sum := "1096424e17baeed48fb4cb3fedc8c9a2be2dabce66a2ea8dbbcfa8e2dbad8788", func := "loop.example/g01309/laws.FnExactAngleTurns", spec := "fnExactAngleTurns", inPlace := ["math.Float64frombits", "math.Float64bits", "math.sqrt", "math.Float32frombits"], apart := false, narrowed := true }
def FnExactAngleTurnsUptoSaid : Prop := fnExactAngleTurnsUptoRow.holds Try.pinned (OpenSpec.upto fnExactAngleTurnsSpec)

/-- 'laws.FnExactBoxViews', WHERE WHAT IT READS IS OF BULK AT MOST 1048576: true; the input reads as it did. -/
def fnExactBoxViewsUptoRow : OpenClaim := { program := "ytmdgedolkkndnaa", sum := "1096424e17baeed48fb4cb3fedc8c9a2be2dabce66a2ea8dbbcfa8e2dbad8788", func := "loop.example/g01309/laws.FnExactBoxViews", spec := "fnExactBoxViews", inPlace := ["math.sqrt", "math.Float64bits", "math.Float64frombits"], unfollowed := true, recurses := true, apart := false, narrowed := true }
def FnExactBoxViewsUptoSaid : Prop := fnExactBoxViewsUptoRow.holds Try.pinned (OpenSpec.upto fnExactBoxViewsSpec)

/-- 'laws.FnExactAreViews', WHERE WHAT IT READS IS OF BULK AT MOST 1048576: true; the input reads as it did. -/
def fnExactAreViewsUptoRow : OpenClaim := { program := "ytmdgedolkkndnaa", sum := "1096424e17baeed48fb4cb3fedc8c9a2be2dabce66a2ea8dbbcfa8e2dbad8788", func := "loop.example/g01309/laws.FnExactAreViews", spec := "fnExactAreViews", inPlace := ["math.Float64bits", "math.Float64frombits"], unfollowed := true, recurses := true, apart := false, narrowed := true }
def FnExactAreViewsUptoSaid : Prop := fnExactAreViewsUptoRow.holds Try.pinned (OpenSpec.upto fnExactAreViewsSpec)

/-- 'laws.FnExactEvenViews', WHERE WHAT IT READS IS OF BULK AT MOST 1048576: true; the input reads as it did. -/
def fnExactEvenViewsUptoRow : OpenClaim := { program := "ytmdgedolkkndnaa", sum := "1096424e17baeed48fb4cb3fedc8c9a2be2dabce66a2ea8dbbcfa8e2dbad8788", func := "loop.example/g01309/laws.FnExactEvenViews", spec := "fnExactEvenViews", inPlace := ["math.Float64bits", "math.Float64frombits"], unfollowed := true, recurses := true, apart := false, narrowed := true }
def FnExactEvenViewsUptoSaid : Prop := fnExactEvenViewsUptoRow.holds Try.pinned (OpenSpec.upto fnExactEvenViewsSpec)

/-- 'laws.FnExactSolveSquare', WHERE WHAT IT READS IS OF BULK AT MOST 1048576: true; the input reads as it did. -/
def fnExactSolveSquareUptoRow : OpenClaim := { program := "ytmdgedolkkndnaa", sum := "1096424e17baeed48fb4cb3fedc8c9a2be2dabce66a2ea8dbbcfa8e2dbad8788", func := "loop.example/g01309/laws.FnExactSolveSquare", spec := "fnExactSolveSquare", inPlace := ["math.Float64bits", "math.Float64frombits"], unfollowed := true, recurses := true, apart := false, narrowed := true }
def FnExactSolveSquareUptoSaid : Prop := fnExactSolveSquareUptoRow.holds Try.pinned (OpenSpec.upto fnExactSolveSquareSpec)

/-- 'laws.FnExactShinesOf', WHERE WHAT IT READS IS OF BULK AT MOST 1048576: true; the input reads as it did. -/
def fnExactShinesOfUptoRow : OpenClaim := { program := "ytmdgedolkkndnaa", sum := "1096424e17baeed48fb4cb3fedc8c9a2be2dabce66a2ea8dbbcfa8e2dbad8788", func := "loop.example/g01309/laws.FnExactShinesOf", spec := "fnExactShinesOf", inPlace := ["math.Float64bits", "math.Float64frombits"], unfollowed := true, recurses := true, apart := false, narrowed := true }
def FnExactShinesOfUptoSaid : Prop := fnExactShinesOfUptoRow.holds Try.pinned (OpenSpec.upto fnExactShinesOfSpec)

/-- 'laws.FnExactNetShines', WHERE WHAT IT READS IS OF BULK AT MOST 1048576: true; the input reads as it did. -/
def fnExactNetShinesUptoRow : OpenClaim := { program := "ytmdgedolkkndnaa", sum := "1096424e17baeed48fb4cb3fedc8c9a2be2dabce66a2ea8dbbcfa8e2dbad8788", func := "loop.example/g01309/laws.FnExactNetShines", spec := "fnExactNetShines", inPlace := ["math.Float64bits", "math.Float64frombits"], unfollowed := true, recurses := true, apart := false, narrowed := true }
def FnExactNetShinesUptoSaid : Prop := fnExactNetShinesUptoRow.holds Try.pinned (OpenSpec.upto fnExactNetShinesSpec)

/-- 'laws.FnExactSunHeight', WHERE WHAT IT READS IS OF BULK AT MOST 1048576: true; the input reads as it did. -/
def fnExactSunHeightUptoRow : OpenClaim := { program := "ytmdgedolkkndnaa", sum := "1096424e17baeed48fb4cb3fedc8c9a2be2dabce66a2ea8dbbcfa8e2dbad8788", func := "loop.example/g01309/laws.FnExactSunHeight", spec := "fnExactSunHeight", inPlace := ["math.Float64frombits", "math.sqrt", "math.Float64bits", "math.Float32frombits", "math.archTrunc"], apart := false, narrowed := true }
def FnExactSunHeightUptoSaid : Prop := fnExactSunHeightUptoRow.holds Try.pinned (OpenSpec.upto fnExactSunHeightSpec)

/-- 'laws.FnExactSunOnFace', WHERE WHAT IT READS IS OF BULK AT MOST 1048576: true; the input reads as it did. -/
def fnExactSunOnFaceUptoRow : OpenClaim := { program := "ytmdgedolkkndnaa", sum := "1096424e17baeed48fb4cb3fedc8c9a2be2dabce66a2ea8dbbcfa8e2dbad8788", func := "loop.example/g01309/laws.FnExactSunOnFace", spec := "fnExactSunOnFace", inPlace := ["math.Float64frombits", "math.Float64bits", "math.Float32frombits", "math.archTrunc"], apart := false, narrowed := true }
def FnExactSunOnFaceUptoSaid : Prop := fnExactSunOnFaceUptoRow.holds Try.pinned (OpenSpec.upto fnExactSunOnFaceSpec)

/-- 'laws.FnExactSunDay', WHERE WHAT IT READS IS OF BULK AT MOST 1048576: true; the input reads as it did. -/
def fnExactSunDayUptoRow : OpenClaim := { program := "ytmdgedolkkndnaa", sum := "1096424e17baeed48fb4cb3fedc8c9a2be2dabce66a2ea8dbbcfa8e2dbad8788", func := "loop.example/g01309/laws.FnExactSunDay", spec := "fnExactSunDay", inPlace := ["math.Float64frombits", "math.sqrt", "math.Float64bits", "math.Float32frombits", "math.archTrunc"], unfollowed := true, recurses := true, apart := false, narrowed := true }
def FnExactSunDayUptoSaid : Prop := fnExactSunDayUptoRow.holds Try.pinned (OpenSpec.upto fnExactSunDaySpec)

end Rows
end Go.Proofs.Ytmdgedolkkndnaa
