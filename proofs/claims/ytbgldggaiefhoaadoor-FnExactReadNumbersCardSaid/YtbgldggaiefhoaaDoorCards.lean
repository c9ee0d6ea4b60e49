/-
  DERIVED. GIVEN WITH THE SEED: THE CARDS: each row of YtbgldggaiefhoaaDoorRows.lean that lists a variable, with what it lists TIED to the program's text (the seventh form; the later family's looks); each row that meets fmt, with fmt's text TOLD by the authors' own Lean function (tested against real Go, not proved from fmt's source: count such statements apart). THE CARD IS WHAT COUNTS. Prove the row's statement (the work); the ties are given (YtbgldggaiefhoaaDoorTie.lean); close each card by the builder's one call (the guide's Derived/Test/ToyasCard.lean, 'card_holds'). Laid BY PROGRAM, IN A SANDBOX (cutbox-door.mjs). By AI agents, Wed Nov 11 2026. No macro, syntax, notation, axiom, sorry.
-/
import Derived.Test.YtbgldggaiefhoaaDoorRows
import GoSem.ClaimSeven
namespace Go.Proofs.YtbgldggaiefhoaaDoor
namespace Rows

/-- THE TIED CARD OF 'laws.FnExactFacesText'. -/
def fnExactFacesTextCard : Claim7 := { stood := { row := fnExactFacesTextRow, standIns := [], harness := (true, "26f1066eba7f658f88b154abbd0f2f47612c1b0287d4a675f4f95ff15ae36f11"), looks := true }, kinds := [], alts := [], laidByText := true, laidKinds := [.data, .data, .data], laidTests := true, laidLooks := .later }
def FnExactFacesTextCardSaid : Prop := Claim7.holds Tryd.pinned (.plain (OpenSpec.ofChange fnExactFacesTextSpec)) fnExactFacesTextCard

/-- THE TIED CARD OF 'laws.FnExactHouseText'. -/
def fnExactHouseTextCard : Claim7 := { stood := { row := fnExactHouseTextRow, standIns := [], harness := (true, "26f1066eba7f658f88b154abbd0f2f47612c1b0287d4a675f4f95ff15ae36f11"), looks := true }, kinds := [], alts := [], laidByText := true, laidKinds := [.data, .data, .data], laidTests := true, laidLooks := .later }
def FnExactHouseTextCardSaid : Prop := Claim7.holds Tryd.pinned (.plain (OpenSpec.ofChange fnExactHouseTextSpec)) fnExactHouseTextCard

/-- THE TIED CARD OF 'laws.FnExactReadNumbers'. -/
def fnExactReadNumbersCard : Claim7 := { stood := { row := fnExactReadNumbersRow, standIns := [], harness := (true, "26f1066eba7f658f88b154abbd0f2f47612c1b0287d4a675f4f95ff15ae36f11"), looks := true }, kinds := [], alts := [], laidByText := true, laidKinds := [.data, .pinned], laidTests := true, laidLooks := .later }
def FnExactReadNumbersCardSaid : Prop := Claim7.holds Tryd.pinned (.plain (OpenSpec.ofChange fnExactReadNumbersSpec)) fnExactReadNumbersCard

/-- THE TIED CARD OF 'laws.FnExactReadDecimal'. -/
def fnExactReadDecimalCard : Claim7 := { stood := { row := fnExactReadDecimalRow, standIns := [], harness := (true, "26f1066eba7f658f88b154abbd0f2f47612c1b0287d4a675f4f95ff15ae36f11"), looks := true }, kinds := [], alts := [], laidByText := true, laidKinds := [.data, .data, .data, .sentinel, .sentinel], laidTests := true, laidLooks := .later }
def FnExactReadDecimalCardSaid : Prop := Claim7.holds Tryd.pinned (.plain (OpenSpec.ofChange fnExactReadDecimalSpec)) fnExactReadDecimalCard

/-- THE TIED CARD OF 'laws.FnExactReadList'. -/
def fnExactReadListCard : Claim7 := { stood := { row := fnExactReadListRow, standIns := [], harness := (true, "26f1066eba7f658f88b154abbd0f2f47612c1b0287d4a675f4f95ff15ae36f11"), looks := true }, kinds := [], alts := [], laidByText := true, laidKinds := [.data, .data, .data, .data, .sentinel, .sentinel, .pinned], laidTests := true, laidLooks := .later }
def FnExactReadListCardSaid : Prop := Claim7.holds Tryd.pinned (.plain (OpenSpec.ofChange fnExactReadListSpec)) fnExactReadListCard

/-- THE TIED CARD OF 'laws.FnExactReadEnd'. -/
def fnExactReadEndCard : Claim7 := { stood := { row := fnExactReadEndRow, standIns := [], harness := (true, "26f1066eba7f658f88b154abbd0f2f47612c1b0287d4a675f4f95ff15ae36f11"), looks := true }, kinds := [], alts := [], laidByText := true, laidKinds := [.data, .data, .data, .data, .sentinel, .sentinel, .pinned], laidTests := true, laidLooks := .later }
def FnExactReadEndCardSaid : Prop := Claim7.holds Tryd.pinned (.plain (OpenSpec.ofChange fnExactReadEndSpec)) fnExactReadEndCard

/-- THE TIED CARD OF 'laws.FnExactReadFaces'. -/
def fnExactReadFacesCard : Claim7 := { stood := { row := fnExactReadFacesRow, standIns := [], harness := (true, "26f1066eba7f658f88b154abbd0f2f47612c1b0287d4a675f4f95ff15ae36f11"), looks := true }, kinds := [], alts := [], laidByText := true, laidKinds := [.data, .pinned], laidTests := true, laidLooks := .later }
def FnExactReadFacesCardSaid : Prop := Claim7.holds Tryd.pinned (.plain (OpenSpec.ofChange fnExactReadFacesSpec)) fnExactReadFacesCard

/-- THE SECOND FORM's CARD OF 'laws.FnExactFacesText'. -/
def fnExactFacesTextUptoCard : Claim7 := { stood := { row := fnExactFacesTextUptoRow, standIns := [], harness := (true, "26f1066eba7f658f88b154abbd0f2f47612c1b0287d4a675f4f95ff15ae36f11"), looks := true }, kinds := [], alts := [], laidByText := true, laidKinds := [.data, .data, .data], laidTests := true, laidLooks := .later }
def FnExactFacesTextUptoCardSaid : Prop := Claim7.holds Tryd.pinned (.plain (OpenSpec.upto fnExactFacesTextSpec)) fnExactFacesTextUptoCard

/-- THE SECOND FORM's CARD OF 'laws.FnExactHouseText'. -/
def fnExactHouseTextUptoCard : Claim7 := { stood := { row := fnExactHouseTextUptoRow, standIns := [], harness := (true, "26f1066eba7f658f88b154abbd0f2f47612c1b0287d4a675f4f95ff15ae36f11"), looks := true }, kinds := [], alts := [], laidByText := true, laidKinds := [.data, .data, .data], laidTests := true, laidLooks := .later }
def FnExactHouseTextUptoCardSaid : Prop := Claim7.holds Tryd.pinned (.plain (OpenSpec.upto fnExactHouseTextSpec)) fnExactHouseTextUptoCard

/-- THE SECOND FORM's CARD OF 'laws.FnExactReadNumbers'. -/
def fnExactReadNumbersUptoCard : Claim7 := { stood := { row := fnExactReadNumbersUptoRow, standIns := [], harness := (true, "26f1066eba7f658f88b154abbd0f2f47612c1b0287d4a675f4f95ff15ae36f11"), looks := true }, kinds := [], alts := [], laidByText := true, laidKinds := [.data, .pinned], laidTests := true, laidLooks := .later }
def FnExactReadNumbersUptoCardSaid : Prop := Claim7.holds Tryd.pinned (.plain (OpenSpec.upto fnExactReadNumbersSpec)) fnExactReadNumbersUptoCard

/-- THE SECOND FORM's CARD OF 'laws.FnExactReadDecimal'. -/
def fnExactReadDecimalUptoCard : Claim7 := { stood := { row := fnExactReadDecimalUptoRow, standIns := [], harness := (true, "26f1066eba7f658f88b154abbd0f2f47612c1b0287d4a675f4f95ff15ae36f11"), looks := true }, kinds := [], alts := [], laidByText := true, laidKinds := [.data, .data, .data, .sentinel, .sentinel], laidTests := true, laidLooks := .later }
def FnExactReadDecimalUptoCardSaid : Prop := Claim7.holds Tryd.pinned (.plain (OpenSpec.upto fnExactReadDecimalSpec)) fnExactReadDecimalUptoCard

/-- THE SECOND FORM's CARD OF 'laws.FnExactReadList'. -/
def fnExactReadListUptoCard : Claim7 := { stood := { row := fnExactReadListUptoRow, standIns := [], harness := (true, "26f1066eba7f658f88b154abbd0f2f47612c1b0287d4a675f4f95ff15ae36f11"), looks := true }, kinds := [], alts := [], laidByText := true, laidKinds := [.data, .data, .data, .data, .sentinel, .sentinel, .pinned], laidTests := true, laidLooks := .later }
def FnExactReadListUptoCardSaid : Prop := Claim7.holds Tryd.pinned (.plain (OpenSpec.upto fnExactReadListSpec)) fnExactReadListUptoCard

/-- THE SECOND FORM's CARD OF 'laws.FnExactReadEnd'. -/
def fnExactReadEndUptoCard : Claim7 := { stood := { row := fnExactReadEndUptoRow, standIns := [], harness := (true, "26f1066eba7f658f88b154abbd0f2f47612c1b0287d4a675f4f95ff15ae36f11"), looks := true }, kinds := [], alts := [], laidByText := true, laidKinds := [.data, .data, .data, .data, .sentinel, .sentinel, .pinned], laidTests := true, laidLooks := .later }
def FnExactReadEndUptoCardSaid : Prop := Claim7.holds Tryd.pinned (.plain (OpenSpec.upto fnExactReadEndSpec)) fnExactReadEndUptoCard

/-- THE SECOND FORM's CARD OF 'laws.FnExactReadFaces'. -/
def fnExactReadFacesUptoCard : Claim7 := { stood := { row := fnExactReadFacesUptoRow, standIns := [], harness := (true, "26f1066eba7f658f88b154abbd0f2f47612c1b0287d4a675f4f95ff15ae36f11"), looks := true }, kinds := [], alts := [], laidByText := true, laidKinds := [.data, .pinned], laidTests := true, laidLooks := .later }
def FnExactReadFacesUptoCardSaid : Prop := Claim7.holds Tryd.pinned (.plain (OpenSpec.upto fnExactReadFacesSpec)) fnExactReadFacesUptoCard
end Rows
end Go.Proofs.YtbgldggaiefhoaaDoor
