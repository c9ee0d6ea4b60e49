/-
  No cell of these rows narrows 'for every input' (looked for: loops, veiled, ifaces, maps, wideKeys, modest, calm, conditions, laid).
  DERIVED. THE GIVEN ROWS OF THIS SEAT. 9 by the template 'for every input the law returns true; each argument reads behind the call as it read before'; 0 by the template 'total and deterministic' (their statements: YtabdinmodopadaaTotals.lean).
  GIVEN WITH THE SEED: the statements are not yours to turn. If you find one false, say at which input.
  Laid BY PROGRAM, IN A SANDBOX (cutbox-rows.mjs): the forced cells as the released guide's own fill.sh prints them over the translation fadb034272057b28… (all of the seat's roots in one cut). By AI agents, Wed Nov 11 2026. No macro, syntax, notation, axiom, sorry.
-/
import Derived.Test.YtabdinmodopadaaChecked
import GoSem.Claim
import GoSem.ClaimJoined
import GoSem.ClaimMapViews
import Derived.JoinedTies
import Derived.KernelRfl
namespace Go.Proofs.Ytabdinmodopadaa
/- THE CELL 'sum', in the pinned program and in every row, IS THE sha256 OF THE DUMP (.gsa) THAT YtabdinmodopadaaProg.lean LOADS. Nothing in Lean hashes anything: it is a label: what it is worth is what the hold of that sum in a sandbox is worth. -/
noncomputable def Try.pinned : Pinned := { name := "ytabdinmodopadaa", sum := "fadb034272057b289dd6debfe5e65815705f99960a470fe36ee3ff4ef5d4b166", checked := Try.checked }
namespace Rows
def none {H : Type} : Left H := { results := [], args := [] }

/-- 'laws.FnExactMedianReads': WHATEVER THE INPUT: true; the input reads as it did. -/
def fnExactMedianReadsSpec : ChangeSpec := { name := "fnExactMedianReads", fn := fun _ => fun
  | [d] => { results := [.lit (.bool true)], args := [d] }
  | _ => none }
def fnExactMedianReadsRow : OpenClaim := { program := "ytabdinmodopadaa", sum := "fadb034272057b289dd6debfe5e65815705f99960a470fe36ee3ff4ef5d4b166", func := "loop.example/g01309/laws.FnExactMedianReads", spec := "fnExactMedianReads", inPlace := ["math.Float64bits", "math.Float64frombits"], unfollowed := true, recurses := true, apart := false }
def FnExactMedianReadsSaid : Prop := fnExactMedianReadsRow.holds Try.pinned (OpenSpec.ofChange fnExactMedianReadsSpec)

/-- ITS FALSE NEIGHBOUR: 'it returns false'. Refute it at one input. -/
def fnExactMedianReadsWrong : ChangeSpec := { name := "fnExactMedianReads", fn := fun _ => fun
  | [d] => { results := [.lit (.bool false)], args := [d] }
  | _ => none }
def FnExactMedianReadsWrongFalsely : Prop := fnExactMedianReadsRow.holds Try.pinned (OpenSpec.ofChange fnExactMedianReadsWrong)

/-- 'laws.FnExactSpikesIn': WHATEVER THE INPUT: true; the input reads as it did. -/
def fnExactSpikesInSpec : ChangeSpec := { name := "fnExactSpikesIn", fn := fun _ => fun
  | [d1, d2] => { results := [.lit (.bool true)], args := [d1, d2] }
  | _ => none }
def fnExactSpikesInRow : OpenClaim := { program := "ytabdinmodopadaa", sum := "fadb034272057b289dd6debfe5e65815705f99960a470fe36ee3ff4ef5d4b166", func := "loop.example/g01309/laws.FnExactSpikesIn", spec := "fnExactSpikesIn", inPlace := ["math.Float64bits", "math.Float64frombits"], unfollowed := true, recurses := true, apart := false }
def FnExactSpikesInSaid : Prop := fnExactSpikesInRow.holds Try.pinned (OpenSpec.ofChange fnExactSpikesInSpec)

/-- ITS FALSE NEIGHBOUR: 'it returns false'. Refute it at one input. -/
def fnExactSpikesInWrong : ChangeSpec := { name := "fnExactSpikesIn", fn := fun _ => fun
  | [d1, d2] => { results := [.lit (.bool false)], args := [d1, d2] }
  | _ => none }
def FnExactSpikesInWrongFalsely : Prop := fnExactSpikesInRow.holds Try.pinned (OpenSpec.ofChange fnExactSpikesInWrong)

/-- 'laws.FnExactValidTrack': WHATEVER THE INPUT: true; the input reads as it did. -/
def fnExactValidTrackSpec : ChangeSpec := { name := "fnExactValidTrack", fn := fun _ => fun
  | [d] => { results := [.lit (.bool true)], args := [d] }
  | _ => none }
def fnExactValidTrackRow : OpenClaim := { program := "ytabdinmodopadaa", sum := "fadb034272057b289dd6debfe5e65815705f99960a470fe36ee3ff4ef5d4b166", func := "loop.example/g01309/laws.FnExactValidTrack", spec := "fnExactValidTrack", unfollowed := true, recurses := true, apart := false }
def FnExactValidTrackSaid : Prop := fnExactValidTrackRow.holds Try.pinned (OpenSpec.ofChange fnExactValidTrackSpec)

/-- ITS FALSE NEIGHBOUR: 'it returns false'. Refute it at one input. -/
def fnExactValidTrackWrong : ChangeSpec := { name := "fnExactValidTrack", fn := fun _ => fun
  | [d] => { results := [.lit (.bool false)], args := [d] }
  | _ => none }
def FnExactValidTrackWrongFalsely : Prop := fnExactValidTrackRow.holds Try.pinned (OpenSpec.ofChange fnExactValidTrackWrong)

/-- 'laws.FnExactPackTrack': WHATEVER THE INPUT: true; the input reads as it did. -/
def fnExactPackTrackSpec : ChangeSpec := { name := "fnExactPackTrack", fn := fun _ => fun
  | [d] => { results := [.lit (.bool true)], args := [d] }
  | _ => none }
def fnExactPackTrackRow : OpenClaim := { program := "ytabdinmodopadaa", sum := "fadb034272057b289dd6debfe5e65815705f99960a470fe36ee3ff4ef5d4b166", func := "loop.example/g01309/laws.FnExactPackTrack", spec := "fnExactPackTrack", unfollowed := true, recurses := true, apart := false }
def FnExactPackTrackSaid : Prop := fnExactPackTrackRow.holds Try.pinned (OpenSpec.ofChange fnExactPackTrackSpec)

/-- ITS FALSE NEIGHBOUR: 'it returns false'. Refute it at one input. -/
def fnExactPackTrackWrong : ChangeSpec := { name := "fnExactPackTrack", fn := fun _ => fun
  | [d] => { results := [.lit (.bool false)], args := [d] }
  | _ => none }
def FnExactPackTrackWrongFalsely : Prop := fnExactPackTrackRow.holds Try.pinned (OpenSpec.ofChange fnExactPackTrackWrong)

/-- 'laws.FnExactReadsOf': WHATEVER THE INPUT: true; the input reads as it did. -/
def fnExactReadsOfSpec : ChangeSpec := { name := "fnExactReadsOf", fn := fun _ => fun
  | [d] => { results := [.lit (.bool true)], args := [d] }
  | _ => none }
def fnExactReadsOfRow : OpenClaim := { program := "ytabdinmodopadaa", sum := "fadb034272057b289dd6debfe5e65815705f99960a470fe36ee3ff4ef5d4b166", func := "loop.example/g01309/laws.FnExactReadsOf", spec := "fnExactReadsOf", unfollowed := true, recurses := true, apart := false }
def FnExactReadsOfSaid : Prop := fnExactReadsOfRow.holds Try.pinned (OpenSpec.ofChange fnExactReadsOfSpec)

/-- ITS FALSE NEIGHBOUR: 'it returns false'. Refute it at one input. -/
def fnExactReadsOfWrong : ChangeSpec := { name := "fnExactReadsOf", fn := fun _ => fun
  | [d] => { results := [.lit (.bool false)], args := [d] }
  | _ => none }
def FnExactReadsOfWrongFalsely : Prop := fnExactReadsOfRow.holds Try.pinned (OpenSpec.ofChange fnExactReadsOfWrong)

/-- 'laws.FnExactSameTracks': WHATEVER THE INPUT: true; the input reads as it did. -/
def fnExactSameTracksSpec : ChangeSpec := { name := "fnExactSameTracks", fn := fun _ => fun
  | [d1, d2] => { results := [.lit (.bool true)], args := [d1, d2] }
  | _ => none }
def fnExactSameTracksRow : OpenClaim := { program := "ytabdinmodopadaa", sum := "fadb034272057b289dd6debfe5e65815705f99960a470fe36ee3ff4ef5d4b166", func := "loop.example/g01309/laws.FnExactSameTracks", spec := "fnExactSameTracks", unfollowed := true, recurses := true, apart := false }
def FnExactSameTracksSaid : Prop := fnExactSameTracksRow.holds Try.pinned (OpenSpec.ofChange fnExactSameTracksSpec)

/-- ITS FALSE NEIGHBOUR: 'it returns false'. Refute it at one input. -/
def fnExactSameTracksWrong : ChangeSpec := { name := "fnExactSameTracks", fn := fun _ => fun
  | [d1, d2] => { results := [.lit (.bool false)], args := [d1, d2] }
  | _ => none }
def FnExactSameTracksWrongFalsely : Prop := fnExactSameTracksRow.holds Try.pinned (OpenSpec.ofChange fnExactSameTracksWrong)

/-- 'laws.FnExactStoreTrack': WHATEVER THE INPUT: true; the input reads as it did. -/
def fnExactStoreTrackSpec : ChangeSpec := { name := "fnExactStoreTrack", fn := fun _ => fun
  | [d] => { results := [.lit (.bool true)], args := [d] }
  | _ => none }
def fnExactStoreTrackRow : OpenClaim := { program := "ytabdinmodopadaa", sum := "fadb034272057b289dd6debfe5e65815705f99960a470fe36ee3ff4ef5d4b166", func := "loop.example/g01309/laws.FnExactStoreTrack", spec := "fnExactStoreTrack", unfollowed := true, recurses := true, apart := false }
def FnExactStoreTrackSaid : Prop := fnExactStoreTrackRow.holds Try.pinned (OpenSpec.ofChange fnExactStoreTrackSpec)

/-- ITS FALSE NEIGHBOUR: 'it returns false'. Refute it at one input. -/
def fnExactStoreTrackWrong : ChangeSpec := { name := "fnExactStoreTrack", fn := fun _ => fun
  | [d] => { results := [.lit (.bool false)], args := [d] }
  | _ => none }
def FnExactStoreTrackWrongFalsely : Prop := fnExactStoreTrackRow.holds Try.pinned (OpenSpec.ofChange fnExactStoreTrackWrong)

/-- 'laws.FnExactStoreTracks': WHATEVER THE INPUT: true; the input reads as it did. -/
def fnExactStoreTracksSpec : ChangeSpec := { name := "fnExactStoreTracks", fn := fun _ => fun
  | [d] => { results := [.lit (.bool true)], args := [d] }
  | _ => none }
def fnExactStoreTracksRow : OpenClaim := { program := "ytabdinmodopadaa", sum := "fadb034272057b289dd6debfe5e65815705f99960a470fe36ee3ff4ef5d4b166", func := "loop.example/g01309/laws.FnExactStoreTracks", spec := "fnExactStoreTracks", unfollowed := true, recurses := true, apart := false }
def FnExactStoreTracksSaid : Prop := fnExactStoreTracksRow.holds Try.pinned (OpenSpec.ofChange fnExactStoreTracksSpec)

/-- ITS FALSE NEIGHBOUR: 'it returns false'. Refute it at one input. -/
def fnExactStoreTracksWrong : ChangeSpec := { name := "fnExactStoreTracks", fn := fun _ => fun
  | [d] => { results := [.lit (.bool false)], args := [d] }
  | _ => none }
def FnExactStoreTracksWrongFalsely : Prop := fnExactStoreTracksRow.holds Try.pinned (OpenSpec.ofChange fnExactStoreTracksWrong)

/-- 'laws.FnExactTrackOf': WHATEVER THE INPUT: true; the input reads as it did. -/
def fnExactTrackOfSpec : ChangeSpec := { name := "fnExactTrackOf", fn := fun _ => fun
  | [d1, d2] => { results := [.lit (.bool true)], args := [d1, d2] }
  | _ => none }
def fnExactTrackOfRow : OpenClaim := { program := "ytabdinmodopadaa", sum := "fadb034272057b289dd6debfe5e65815705f99960a470fe36ee3ff4ef5d4b166", func := "loop.example/g01309/laws.FnExactTrackOf", spec := "fnExactTrackOf", inPlace := ["math.archFloor", "math.Float64bits", "math.Float64frombits", "math.archTrunc"], unfollowed := true, recurses := true, apart := false }
def FnExactTrackOfSaid : Prop := fnExactTrackOfRow.holds Try.pinned (OpenSpec.ofChange fnExactTrackOfSpec)

/-- ITS FALSE NEIGHBOUR: 'it returns false'. Refute it at one input. -/
def fnExactTrackOfWrong : ChangeSpec := { name := "fnExactTrackOf", fn := fun _ => fun
  | [d1, d2] => { results := [.lit (.bool false)], args := [d1, d2] }
  | _ => none }
def FnExactTrackOfWrongFalsely : Prop := fnExactTrackOfRow.holds Try.pinned (OpenSpec.ofChange fnExactTrackOfWrong)

/- THE SECOND FORM. 'bulk': how many values and letters a reading holds, each counted each time it is reached (what is shared counts as often as it is met; a slice's spare places count too). A statement '..UptoSaid' is the law's where the arguments, and the package variables that the reading takes, are together of bulk at most 1048576: NARROWER than '..Said'. Prove '..Said' where nothing that the law and all that it calls make is longer than what came in: it says more and counts as full. Else prove '..UptoSaid'. A law counts once. -/
mutual
def uptoBulk {H : Type} : DataW H → Nat
  | .lit (.string bytes) => bytes.length + 1
  | .lit _ => 1
  | .nil => 1
  | .ptr d => uptoBulk d + 1
  | .slice elems spare => uptoBulkAll elems + uptoBulkAll spare + 1
  | .agg parts => uptoBulkAll parts + 1
  | .iface _ d => uptoBulk d + 1
  | .map entries => uptoBulkEntries entries + 1
  | .held _ => 1
def uptoBulkAll {H : Type} : List (DataW H) → Nat
  | [] => 0
  | d :: r => uptoBulk d + uptoBulkAll r
def uptoBulkEntries {H : Type} : List (Lit × DataW H) → Nat
  | [] => 0
  | x :: r => uptoBulkEntry x + uptoBulkEntries r
def uptoBulkEntry {H : Type} : Lit × DataW H → Nat
  | (.string bytes, d) => bytes.length + uptoBulk d + 1
  | (_, d) => uptoBulk d + 1
 end
def uptoSmall : (H : Type) → List (DataW H) → Bool := fun _ ds => decide (uptoBulkAll ds ≤ 1048576)
def OpenSpec.upto (s : _root_.Go.ChangeSpec) : _root_.Go.OpenSpec := { _root_.Go.OpenSpec.ofChange s with cond := some uptoSmall }

/-- 'laws.FnExactMedianReads', WHERE WHAT IT READS IS OF BULK AT MOST 1048576: true; the input reads as it did. -/
def fnExactMedianReadsUptoRow : OpenClaim := { program := "ytabdinmodopadaa", sum := "fadb034272057b289dd6debfe5e65815705f99960a470fe36ee3ff4ef5d4b166", func := "loop.example/g01309/laws.FnExactMedianReads", spec := "fnExactMedianReads", inPlace := ["math.Float64bits", "math.Float64frombits"], unfollowed := true, recurses := true, apart := false, narrowed := true }
def FnExactMedianReadsUptoSaid : Prop := fnExactMedianReadsUptoRow.holds Try.pinned (OpenSpec.upto fnExactMedianReadsSpec)

/-- 'laws.FnExactSpikesIn', WHERE WHAT IT READS IS OF BULK AT MOST 1048576: true; the input reads as it did. -/
def fnExactSpikesInUptoRow : OpenClaim := { program := "ytabdinmodopadaa", sum := "fadb034272057b289dd6debfe5e65815705f99960a470fe36ee3ff4ef5d4b166", func := "loop.example/g01309/laws.FnExactSpikesIn", spec := "fnExactSpikesIn", inPlace := ["math.Float64bits", "math.Float64frombits"], unfollowed := true, recurses := true, apart := false, narrowed := true }
def FnExactSpikesInUptoSaid : Prop := fnExactSpikesInUptoRow.holds Try.pinned (OpenSpec.upto fnExactSpikesInSpec)

/-- 'laws.FnExactValidTrack', WHERE WHAT IT READS IS OF BULK AT MOST 1048576: true; the input reads as it did. -/
def fnExactValidTrackUptoRow : OpenClaim := { program := "ytabdinmodopadaa", sum := "fadb034272057b289dd6debfe5e65815705f99960a470fe36ee3ff4ef5d4b166", func := "loop.example/g01309/laws.FnExactValidTrack", spec := "fnExactValidTrack", unfollowed := true, recurses := true, apart := false, narrowed := true }
def FnExactValidTrackUptoSaid : Prop := fnExactValidTrackUptoRow.holds Try.pinned (OpenSpec.upto fnExactValidTrackSpec)

/-- 'laws.FnExactPackTrack', WHERE WHAT IT READS IS OF BULK AT MOST 1048576: true; the input reads as it did. -/
def fnExactPackTrackUptoRow : OpenClaim := { program := "ytabdinmodopadaa", sum := "fadb034272057b289dd6debfe5e65815705f99960a470fe36ee3ff4ef5d4b166", func := "loop.example/g01309/laws.FnExactPackTrack", spec := "fnExactPackTrack", unfollowed := true, recurses := true, apart := false, narrowed := true }
def FnExactPackTrackUptoSaid : Prop := fnExactPackTrackUptoRow.holds Try.pinned (OpenSpec.upto fnExactPackTrackSpec)

/-- 'laws.FnExactReadsOf', WHERE WHAT IT READS IS OF BULK AT MOST 1048576: true; the input reads as it did. -/
def fnExactReadsOfUptoRow : OpenClaim := { program := "ytabdinmodopadaa", sum := "fadb034272057b289dd6debfe5e65815705f99960a470fe36ee3ff4ef5d4b166", func := "loop.example/g01309/laws.FnExactReadsOf", spec := "fnExactReadsOf", unfollowed := true, recurses := true, apart := false, narrowed := true }
def FnExactReadsOfUptoSaid : Prop := fnExactReadsOfUptoRow.holds Try.pinned (OpenSpec.upto fnExactReadsOfSpec)

/-- 'laws.FnExactSameTracks', WHERE WHAT IT READS IS OF BULK AT MOST 1048576: true; the input reads as it did. -/
def fnExactSameTracksUptoRow : OpenClaim := { program := "ytabdinmodopadaa", sum := "fadb034272057b289dd6debfe5e65815705f99960a470fe36ee3ff4ef5d4b166", func := "loop.example/g01309/laws.FnExactSameTracks", spec := "fnExactSameTracks", unfollowed := true, recurses := true, apart := false, narrowed := true }
def FnExactSameTracksUptoSaid : Prop := fnExactSameTracksUptoRow.holds Try.pinned (OpenSpec.upto fnExactSameTracksSpec)

/-- 'laws.FnExactStoreTrack', WHERE WHAT IT READS IS OF BULK AT MOST 1048576: true; the input reads as it did. -/
def fnExactStoreTrackUptoRow : OpenClaim := { program := "ytabdinmodopadaa", sum := "fadb034272057b289dd6debfe5e65815705f99960a470fe36ee3ff4ef5d4b166", func := "loop.example/g01309/laws.FnExactStoreTrack", spec := "fnExactStoreTrack", unfollowed := true, recurses := true, apart := false, narrowed := true }
def FnExactStoreTrackUptoSaid : Prop := fnExactStoreTrackUptoRow.holds Try.pinned (OpenSpec.upto fnExactStoreTrackSpec)

/-- 'laws.FnExactStoreTracks', WHERE WHAT IT READS IS OF BULK AT MOST 1048576: true; the input reads as it did. -/
def fnExactStoreTracksUptoRow : OpenClaim := { program := "ytabdinmodopadaa", sum := "fadb034272057b289dd6debfe5e65815705f99960a470fe36ee3ff4ef5d4b166", func := "loop.example/g01309/laws.FnExactStoreTracks", spec := "fnExactStoreTracks", unfollowed := true, recurses := true, apart := false, narrowed := true }
def FnExactStoreTracksUptoSaid : Prop := fnExactStoreTracksUptoRow.holds Try.pinned (OpenSpec.upto fnExactStoreTracksSpec)

/-- 'laws.FnExactTrackOf', WHERE WHAT IT READS IS OF BULK AT MOST 1048576: true; the input reads as it did. -/
def fnExactTrackOfUptoRow : OpenClaim := { program := "ytabdinmodopadaa", sum := "fadb034272057b289dd6debfe5e65815705f99960a470fe36ee3ff4ef5d4b166", func := "loop.example/g01309/laws.FnExactTrackOf", spec := "fnExactTrackOf", inPlace := ["math.archFloor", "math.Float64bits", "math.Float64frombits", "math.archTrunc"], unfollowed := true, recurses := true, apart := false, narrowed := true }
def FnExactTrackOfUptoSaid : Prop := fnExactTrackOfUptoRow.holds Try.pinned (OpenSpec.upto fnExactTrackOfSpec)

end Rows
end Go.Proofs.Ytabdinmodopadaa
