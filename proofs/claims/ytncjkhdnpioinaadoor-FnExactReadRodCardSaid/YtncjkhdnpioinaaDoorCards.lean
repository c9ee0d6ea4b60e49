/-
  DERIVED. GIVEN WITH THE SEED: THE CARDS: each row of YtncjkhdnpioinaaDoorRows.lean that lists a variable, with what it lists TIED to the program's text (the seventh form; the later family's looks); each row that meets fmt, with fmt's text TOLD by the authors' own Lean function (tested against real Go, not proved from fmt's source: count such statements apart). THE CARD IS WHAT COUNTS. Prove the row's statement (the work); the ties are given (YtncjkhdnpioinaaDoorTie.lean); close each card by the builder's one call (the guide's Derived/Test/ToyasCard.lean, 'card_holds'). Laid BY PROGRAM, IN A SANDBOX (cutbox-door.mjs). By AI agents, Wed Nov 11 2026. No macro, syntax, notation, axiom, sorry.
-/
import Derived.Test.YtncjkhdnpioinaaDoorRows
import GoSem.ClaimSeven
namespace Go.Proofs.YtncjkhdnpioinaaDoor
namespace Rows

/-- THE TIED CARD OF 'laws.FnExactUnpackTrack'. -/
def fnExactUnpackTrackCard : Claim7 := { stood := { row := fnExactUnpackTrackRow, standIns := [], harness := (true, "d8b1563062324b7de0bf1c4802363f7b754ec758cc76bdd9416f57d63429f8c2"), looks := true }, kinds := [], alts := [], laidByText := true, laidKinds := [.sentinel, .sentinel], laidTests := true, laidLooks := .later }
def FnExactUnpackTrackCardSaid : Prop := Claim7.holds Tryd.pinned (.plain (OpenSpec.ofChange fnExactUnpackTrackSpec)) fnExactUnpackTrackCard

/-- THE TIED CARD OF 'laws.FnExactLoadTrack'. -/
def fnExactLoadTrackCard : Claim7 := { stood := { row := fnExactLoadTrackRow, standIns := [], harness := (true, "d8b1563062324b7de0bf1c4802363f7b754ec758cc76bdd9416f57d63429f8c2"), looks := true }, kinds := [], alts := [], laidByText := true, laidKinds := [.sentinel, .sentinel], laidTests := true, laidLooks := .later }
def FnExactLoadTrackCardSaid : Prop := Claim7.holds Tryd.pinned (.plain (OpenSpec.ofChange fnExactLoadTrackSpec)) fnExactLoadTrackCard

/-- THE TIED CARD OF 'laws.FnExactRecoverTracks'. -/
def fnExactRecoverTracksCard : Claim7 := { stood := { row := fnExactRecoverTracksRow, standIns := [], harness := (true, "d8b1563062324b7de0bf1c4802363f7b754ec758cc76bdd9416f57d63429f8c2"), looks := true }, kinds := [], alts := [], laidByText := true, laidKinds := [.sentinel, .sentinel], laidTests := true, laidLooks := .later }
def FnExactRecoverTracksCardSaid : Prop := Claim7.holds Tryd.pinned (.plain (OpenSpec.ofChange fnExactRecoverTracksSpec)) fnExactRecoverTracksCard

/-- THE TIED CARD OF 'laws.FnExactReadRod'. -/
def fnExactReadRodCard : Claim7 := { stood := { row := fnExactReadRodRow, standIns := [], harness := (true, "d8b1563062324b7de0bf1c4802363f7b754ec758cc76bdd9416f57d63429f8c2"), looks := true }, kinds := [], alts := [], laidByText := true, laidKinds := [.data, .pinned], laidTests := true, laidLooks := .later }
def FnExactReadRodCardSaid : Prop := Claim7.holds Tryd.pinned (.plain (OpenSpec.ofChange fnExactReadRodSpec)) fnExactReadRodCard

/-- THE TIED CARD OF 'laws.FnExactReadEnd'. -/
def fnExactReadEndCard : Claim7 := { stood := { row := fnExactReadEndRow, standIns := [], harness := (true, "d8b1563062324b7de0bf1c4802363f7b754ec758cc76bdd9416f57d63429f8c2"), looks := true }, kinds := [], alts := [], laidByText := true, laidKinds := [.data, .data, .data, .data, .sentinel, .sentinel, .pinned], laidTests := true, laidLooks := .later }
def FnExactReadEndCardSaid : Prop := Claim7.holds Tryd.pinned (.plain (OpenSpec.ofChange fnExactReadEndSpec)) fnExactReadEndCard

/-- THE TIED CARD OF 'laws.FnExactReadBar'. -/
def fnExactReadBarCard : Claim7 := { stood := { row := fnExactReadBarRow, standIns := [], harness := (true, "d8b1563062324b7de0bf1c4802363f7b754ec758cc76bdd9416f57d63429f8c2"), looks := true }, kinds := [], alts := [], laidByText := true, laidKinds := [.data, .pinned], laidTests := true, laidLooks := .later }
def FnExactReadBarCardSaid : Prop := Claim7.holds Tryd.pinned (.plain (OpenSpec.ofChange fnExactReadBarSpec)) fnExactReadBarCard

/-- THE TIED CARD OF 'laws.FnExactReadFaces'. -/
def fnExactReadFacesCard : Claim7 := { stood := { row := fnExactReadFacesRow, standIns := [], harness := (true, "d8b1563062324b7de0bf1c4802363f7b754ec758cc76bdd9416f57d63429f8c2"), looks := true }, kinds := [], alts := [], laidByText := true, laidKinds := [.data, .pinned], laidTests := true, laidLooks := .later }
def FnExactReadFacesCardSaid : Prop := Claim7.holds Tryd.pinned (.plain (OpenSpec.ofChange fnExactReadFacesSpec)) fnExactReadFacesCard

/-- THE TIED CARD OF 'laws.FnExactRecoverJournal'. -/
def fnExactRecoverJournalCard : Claim7 := { stood := { row := fnExactRecoverJournalRow, standIns := [], harness := (true, "d8b1563062324b7de0bf1c4802363f7b754ec758cc76bdd9416f57d63429f8c2"), looks := true }, kinds := [], alts := [], laidByText := true, laidKinds := [.data, .data, .data], laidTests := true, laidLooks := .later }
def FnExactRecoverJournalCardSaid : Prop := Claim7.holds Tryd.pinned (.plain (OpenSpec.ofChange fnExactRecoverJournalSpec)) fnExactRecoverJournalCard

/-- THE SECOND FORM's CARD OF 'laws.FnExactUnpackTrack'. -/
def fnExactUnpackTrackUptoCard : Claim7 := { stood := { row := fnExactUnpackTrackUptoRow, standIns := [], harness := (true, "d8b1563062324b7de0bf1c4802363f7b754ec758cc76bdd9416f57d63429f8c2"), looks := true }, kinds := [], alts := [], laidByText := true, laidKinds := [.sentinel, .sentinel], laidTests := true, laidLooks := .later }
def FnExactUnpackTrackUptoCardSaid : Prop := Claim7.holds Tryd.pinned (.plain (OpenSpec.upto fnExactUnpackTrackSpec)) fnExactUnpackTrackUptoCard

/-- THE SECOND FORM's CARD OF 'laws.FnExactLoadTrack'. -/
def fnExactLoadTrackUptoCard : Claim7 := { stood := { row := fnExactLoadTrackUptoRow, standIns := [], harness := (true, "d8b1563062324b7de0bf1c4802363f7b754ec758cc76bdd9416f57d63429f8c2"), looks := true }, kinds := [], alts := [], laidByText := true, laidKinds := [.sentinel, .sentinel], laidTests := true, laidLooks := .later }
def FnExactLoadTrackUptoCardSaid : Prop := Claim7.holds Tryd.pinned (.plain (OpenSpec.upto fnExactLoadTrackSpec)) fnExactLoadTrackUptoCard

/-- THE SECOND FORM's CARD OF 'laws.FnExactRecoverTracks'. -/
def fnExactRecoverTracksUptoCard : Claim7 := { stood := { row := fnExactRecoverTracksUptoRow, standIns := [], harness := (true, "d8b1563062324b7de0bf1c4802363f7b754ec758cc76bdd9416f57d63429f8c2"), looks := true }, kinds := [], alts := [], laidByText := true, laidKinds := [.sentinel, .sentinel], laidTests := true, laidLooks := .later }
def FnExactRecoverTracksUptoCardSaid : Prop := Claim7.holds Tryd.pinned (.plain (OpenSpec.upto fnExactRecoverTracksSpec)) fnExactRecoverTracksUptoCard

/-- THE SECOND FORM's CARD OF 'laws.FnExactReadRod'. -/
def fnExactReadRodUptoCard : Claim7 := { stood := { row := fnExactReadRodUptoRow, standIns := [], harness := (true, "d8b1563062324b7de0bf1c4802363f7b754ec758cc76bdd9416f57d63429f8c2"), looks := true }, kinds := [], alts := [], laidByText := true, laidKinds := [.data, .pinned], laidTests := true, laidLooks := .later }
def FnExactReadRodUptoCardSaid : Prop := Claim7.holds Tryd.pinned (.plain (OpenSpec.upto fnExactReadRodSpec)) fnExactReadRodUptoCard

/-- THE SECOND FORM's CARD OF 'laws.FnExactReadEnd'. -/
def fnExactReadEndUptoCard : Claim7 := { stood := { row := fnExactReadEndUptoRow, standIns := [], harness := (true, "d8b1563062324b7de0bf1c4802363f7b754ec758cc76bdd9416f57d63429f8c2"), looks := true }, kinds := [], alts := [], laidByText := true, laidKinds := [.data, .data, .data, .data, .sentinel, .sentinel, .pinned], laidTests := true, laidLooks := .later }
def FnExactReadEndUptoCardSaid : Prop := Claim7.holds Tryd.pinned (.plain (OpenSpec.upto fnExactReadEndSpec)) fnExactReadEndUptoCard

/-- THE SECOND FORM's CARD OF 'laws.FnExactReadBar'. -/
def fnExactReadBarUptoCard : Claim7 := { stood := { row := fnExactReadBarUptoRow, standIns := [], harness := (true, "d8b1563062324b7de0bf1c4802363f7b754ec758cc76bdd9416f57d63429f8c2"), looks := true }, kinds := [], alts := [], laidByText := true, laidKinds := [.data, .pinned], laidTests := true, laidLooks := .later }
def FnExactReadBarUptoCardSaid : Prop := Claim7.holds Tryd.pinned (.plain (OpenSpec.upto fnExactReadBarSpec)) fnExactReadBarUptoCard

/-- THE SECOND FORM's CARD OF 'laws.FnExactReadFaces'. -/
def fnExactReadFacesUptoCard : Claim7 := { stood := { row := fnExactReadFacesUptoRow, standIns := [], harness := (true, "d8b1563062324b7de0bf1c4802363f7b754ec758cc76bdd9416f57d63429f8c2"), looks := true }, kinds := [], alts := [], laidByText := true, laidKinds := [.data, .pinned], laidTests := true, laidLooks := .later }
def FnExactReadFacesUptoCardSaid : Prop := Claim7.holds Tryd.pinned (.plain (OpenSpec.upto fnExactReadFacesSpec)) fnExactReadFacesUptoCard

/-- THE SECOND FORM's CARD OF 'laws.FnExactRecoverJournal'. -/
def fnExactRecoverJournalUptoCard : Claim7 := { stood := { row := fnExactRecoverJournalUptoRow, standIns := [], harness := (true, "d8b1563062324b7de0bf1c4802363f7b754ec758cc76bdd9416f57d63429f8c2"), looks := true }, kinds := [], alts := [], laidByText := true, laidKinds := [.data, .data, .data], laidTests := true, laidLooks := .later }
def FnExactRecoverJournalUptoCardSaid : Prop := Claim7.holds Tryd.pinned (.plain (OpenSpec.upto fnExactRecoverJournalSpec)) fnExactRecoverJournalUptoCard
end Rows
end Go.Proofs.YtncjkhdnpioinaaDoor
