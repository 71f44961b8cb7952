/-
  DERIVED. GIVEN WITH THE SEED: THE CARDS: each row of YtnpmfailpgbggaaGreatDoorRows.lean that lists a variable, with what it lists TIED to the program's text (the seventh form; the later family's looks); each row that meets fmt, with fmt's text TOLD by the authors' own Lean function (tested against real Go, not proved from fmt's source: count such statements apart). THE CARD IS WHAT COUNTS. Prove the row's statement (the work); the ties are given (YtnpmfailpgbggaaGreatDoorTie.lean); close each card by the builder's one call (the guide's Derived/Test/ToyasCard.lean, 'card_holds'). Laid BY PROGRAM, IN A SANDBOX (cutbox-door.mjs). By AI agents, Wed Nov 11 2026. No macro, syntax, notation, axiom, sorry.
-/
import Derived.Test.YtnpmfailpgbggaaGreatDoorRows
import GoSem.ClaimSeven
namespace Go.Proofs.YtnpmfailpgbggaaGreatDoor
namespace Rows

/-- THE TIED CARD OF 'distafflaw05.DatumTells'. -/
def datumTellsCard : Claim7 := { stood := { row := datumTellsRow, standIns := [], harness := (true, "e698d493ca4607dd70169b23a8728c79ebe652ae7bd9540eed62bd7d02f395a4"), looks := true }, kinds := [], alts := [], laidByText := true, laidKinds := [.data, .data, .widerDeep, .widerDeep, .data, .data, .data, .data, .data, .data, .sentinel, .sentinel, .pinned, .pinned, .pinned], laidTests := true, laidLooks := .later }
def DatumTellsCardSaid : Prop := Claim7.holds Tryz.pinned (.plain (OpenSpec.ofChange datumTellsSpec)) datumTellsCard

/-- THE TIED CARD OF 'distafflaw05.DatumMakes'. -/
def datumMakesCard : Claim7 := { stood := { row := datumMakesRow, standIns := [], harness := (true, "e698d493ca4607dd70169b23a8728c79ebe652ae7bd9540eed62bd7d02f395a4"), looks := true }, kinds := [], alts := [], laidByText := true, laidKinds := [.data, .data, .widerDeep, .widerDeep, .data, .data, .data, .data, .data, .data, .sentinel, .sentinel, .pinned, .pinned, .pinned], laidTests := true, laidLooks := .later }
def DatumMakesCardSaid : Prop := Claim7.holds Tryz.pinned (.plain (OpenSpec.ofChange datumMakesSpec)) datumMakesCard

/-- THE TIED CARD OF 'distafflaw05.DatumCopies'. -/
def datumCopiesCard : Claim7 := { stood := { row := datumCopiesRow, standIns := [], harness := (true, "e698d493ca4607dd70169b23a8728c79ebe652ae7bd9540eed62bd7d02f395a4"), looks := true }, kinds := [], alts := [], laidByText := true, laidKinds := [.data, .data, .widerDeep, .widerDeep, .data, .data, .data, .data, .data, .data, .sentinel, .sentinel, .pinned, .pinned, .pinned], laidTests := true, laidLooks := .later }
def DatumCopiesCardSaid : Prop := Claim7.holds Tryz.pinned (.plain (OpenSpec.ofChange datumCopiesSpec)) datumCopiesCard

/-- THE SECOND FORM's CARD OF 'distafflaw05.DatumTells'. -/
def datumTellsUptoCard : Claim7 := { stood := { row := datumTellsUptoRow, standIns := [], harness := (true, "e698d493ca4607dd70169b23a8728c79ebe652ae7bd9540eed62bd7d02f395a4"), looks := true }, kinds := [], alts := [], laidByText := true, laidKinds := [.data, .data, .widerDeep, .widerDeep, .data, .data, .data, .data, .data, .data, .sentinel, .sentinel, .pinned, .pinned, .pinned], laidTests := true, laidLooks := .later }
def DatumTellsUptoCardSaid : Prop := Claim7.holds Tryz.pinned (.plain (OpenSpec.upto datumTellsSpec)) datumTellsUptoCard

/-- THE SECOND FORM's CARD OF 'distafflaw05.DatumMakes'. -/
def datumMakesUptoCard : Claim7 := { stood := { row := datumMakesUptoRow, standIns := [], harness := (true, "e698d493ca4607dd70169b23a8728c79ebe652ae7bd9540eed62bd7d02f395a4"), looks := true }, kinds := [], alts := [], laidByText := true, laidKinds := [.data, .data, .widerDeep, .widerDeep, .data, .data, .data, .data, .data, .data, .sentinel, .sentinel, .pinned, .pinned, .pinned], laidTests := true, laidLooks := .later }
def DatumMakesUptoCardSaid : Prop := Claim7.holds Tryz.pinned (.plain (OpenSpec.upto datumMakesSpec)) datumMakesUptoCard

/-- THE SECOND FORM's CARD OF 'distafflaw05.DatumCopies'. -/
def datumCopiesUptoCard : Claim7 := { stood := { row := datumCopiesUptoRow, standIns := [], harness := (true, "e698d493ca4607dd70169b23a8728c79ebe652ae7bd9540eed62bd7d02f395a4"), looks := true }, kinds := [], alts := [], laidByText := true, laidKinds := [.data, .data, .widerDeep, .widerDeep, .data, .data, .data, .data, .data, .data, .sentinel, .sentinel, .pinned, .pinned, .pinned], laidTests := true, laidLooks := .later }
def DatumCopiesUptoCardSaid : Prop := Claim7.holds Tryz.pinned (.plain (OpenSpec.upto datumCopiesSpec)) datumCopiesUptoCard
end Rows
end Go.Proofs.YtnpmfailpgbggaaGreatDoor
