/-
  DERIVED. GIVEN WITH THE SEED: THE CARDS: each row of YtpoojlnndgoeoaaGreatDoorRows.lean that lists a variable, with what it lists TIED to the program's text (the seventh form; the later family's looks); each row that meets fmt, with fmt's text TOLD by the authors' own Lean function (tested against real Go, not proved from fmt's source: count such statements apart). THE CARD IS WHAT COUNTS. Prove the row's statement (the work); the ties are given (YtpoojlnndgoeoaaGreatDoorTie.lean); close each card by the builder's one call (the guide's Derived/Test/ToyasCard.lean, 'card_holds'). Laid BY PROGRAM, IN A SANDBOX (cutbox-door.mjs). By AI agents, Wed Nov 11 2026. No macro, syntax, notation, axiom, sorry.
-/
import Derived.Test.YtpoojlnndgoeoaaGreatDoorRows
import GoSem.ClaimSeven
namespace Go.Proofs.YtpoojlnndgoeoaaGreatDoor
namespace Rows

/-- THE TIED CARD OF 'distafflaw03.FloNames'. -/
def floNamesCard : Claim7 := { stood := { row := floNamesRow, standIns := [], harness := (true, "a56f8fc8af561c9b9006135576c242877b5c12e20e639ec9c6742c38333973c2"), looks := true }, kinds := [], alts := [], laidByText := true, laidKinds := [.data, .data, .widerDeep, .widerDeep, .data, .data, .data, .data, .data, .sentinel, .sentinel, .pinned, .pinned], laidTests := true, laidLooks := .later }
def FloNamesCardSaid : Prop := Claim7.holds Tryz.pinned (.plain (OpenSpec.ofChange floNamesSpec)) floNamesCard

/-- THE TIED CARD OF 'distafflaw03.FloBits'. -/
def floBitsCard : Claim7 := { stood := { row := floBitsRow, standIns := [], harness := (true, "a56f8fc8af561c9b9006135576c242877b5c12e20e639ec9c6742c38333973c2"), looks := true }, kinds := [], alts := [], laidByText := true, laidKinds := [.data, .data, .widerDeep, .widerDeep, .data, .data, .data, .data, .data, .sentinel, .sentinel, .pinned, .pinned], laidTests := true, laidLooks := .later }
def FloBitsCardSaid : Prop := Claim7.holds Tryz.pinned (.plain (OpenSpec.ofChange floBitsSpec)) floBitsCard

/-- THE TIED CARD OF 'distafflaw03.FloTexts'. -/
def floTextsCard : Claim7 := { stood := { row := floTextsRow, standIns := [], harness := (true, "a56f8fc8af561c9b9006135576c242877b5c12e20e639ec9c6742c38333973c2"), looks := true }, kinds := [], alts := [], laidByText := true, laidKinds := [.data, .data, .widerDeep, .widerDeep, .data, .data, .data, .data, .data, .sentinel, .sentinel, .pinned, .pinned], laidTests := true, laidLooks := .later }
def FloTextsCardSaid : Prop := Claim7.holds Tryz.pinned (.plain (OpenSpec.ofChange floTextsSpec)) floTextsCard

/-- THE TIED CARD OF 'distafflaw03.FloExacts'. -/
def floExactsCard : Claim7 := { stood := { row := floExactsRow, standIns := [], harness := (true, "a56f8fc8af561c9b9006135576c242877b5c12e20e639ec9c6742c38333973c2"), looks := true }, kinds := [], alts := [], laidByText := true, laidKinds := [.data, .data, .widerDeep, .widerDeep, .data, .data, .data, .data, .data, .sentinel, .sentinel, .pinned, .pinned], laidTests := true, laidLooks := .later }
def FloExactsCardSaid : Prop := Claim7.holds Tryz.pinned (.plain (OpenSpec.ofChange floExactsSpec)) floExactsCard

/-- THE TIED CARD OF 'distafflaw03.FloRounds'. -/
def floRoundsCard : Claim7 := { stood := { row := floRoundsRow, standIns := [], harness := (true, "a56f8fc8af561c9b9006135576c242877b5c12e20e639ec9c6742c38333973c2"), looks := true }, kinds := [], alts := [], laidByText := true, laidKinds := [.data, .data, .widerDeep, .widerDeep, .data, .data, .data, .data, .data, .sentinel, .sentinel, .pinned, .pinned], laidTests := true, laidLooks := .later }
def FloRoundsCardSaid : Prop := Claim7.holds Tryz.pinned (.plain (OpenSpec.ofChange floRoundsSpec)) floRoundsCard

/-- THE TIED CARD OF 'distafflaw03.FloBack'. -/
def floBackCard : Claim7 := { stood := { row := floBackRow, standIns := [], harness := (true, "a56f8fc8af561c9b9006135576c242877b5c12e20e639ec9c6742c38333973c2"), looks := true }, kinds := [], alts := [], laidByText := true, laidKinds := [.data, .data, .widerDeep, .widerDeep, .data, .data, .data, .data, .data, .sentinel, .sentinel, .pinned, .pinned], laidTests := true, laidLooks := .later }
def FloBackCardSaid : Prop := Claim7.holds Tryz.pinned (.plain (OpenSpec.ofChange floBackSpec)) floBackCard

/-- THE TIED CARD OF 'distafflaw03.FloNear'. -/
def floNearCard : Claim7 := { stood := { row := floNearRow, standIns := [], harness := (true, "a56f8fc8af561c9b9006135576c242877b5c12e20e639ec9c6742c38333973c2"), looks := true }, kinds := [], alts := [], laidByText := true, laidKinds := [.data, .data, .widerDeep, .widerDeep, .data, .data, .data, .data, .data, .sentinel, .sentinel, .pinned, .pinned], laidTests := true, laidLooks := .later }
def FloNearCardSaid : Prop := Claim7.holds Tryz.pinned (.plain (OpenSpec.ofChange floNearSpec)) floNearCard

/-- THE SECOND FORM's CARD OF 'distafflaw03.FloNames'. -/
def floNamesUptoCard : Claim7 := { stood := { row := floNamesUptoRow, standIns := [], harness := (true, "a56f8fc8af561c9b9006135576c242877b5c12e20e639ec9c6742c38333973c2"), looks := true }, kinds := [], alts := [], laidByText := true, laidKinds := [.data, .data, .widerDeep, .widerDeep, .data, .data, .data, .data, .data, .sentinel, .sentinel, .pinned, .pinned], laidTests := true, laidLooks := .later }
def FloNamesUptoCardSaid : Prop := Claim7.holds Tryz.pinned (.plain (OpenSpec.upto floNamesSpec)) floNamesUptoCard

/-- THE SECOND FORM's CARD OF 'distafflaw03.FloBits'. -/
def floBitsUptoCard : Claim7 := { stood := { row := floBitsUptoRow, standIns := [], harness := (true, "a56f8fc8af561c9b9006135576c242877b5c12e20e639ec9c6742c38333973c2"), looks := true }, kinds := [], alts := [], laidByText := true, laidKinds := [.data, .data, .widerDeep, .widerDeep, .data, .data, .data, .data, .data, .sentinel, .sentinel, .pinned, .pinned], laidTests := true, laidLooks := .later }
def FloBitsUptoCardSaid : Prop := Claim7.holds Tryz.pinned (.plain (OpenSpec.upto floBitsSpec)) floBitsUptoCard

/-- THE SECOND FORM's CARD OF 'distafflaw03.FloTexts'. -/
def floTextsUptoCard : Claim7 := { stood := { row := floTextsUptoRow, standIns := [], harness := (true, "a56f8fc8af561c9b9006135576c242877b5c12e20e639ec9c6742c38333973c2"), looks := true }, kinds := [], alts := [], laidByText := true, laidKinds := [.data, .data, .widerDeep, .widerDeep, .data, .data, .data, .data, .data, .sentinel, .sentinel, .pinned, .pinned], laidTests := true, laidLooks := .later }
def FloTextsUptoCardSaid : Prop := Claim7.holds Tryz.pinned (.plain (OpenSpec.upto floTextsSpec)) floTextsUptoCard

/-- THE SECOND FORM's CARD OF 'distafflaw03.FloExacts'. -/
def floExactsUptoCard : Claim7 := { stood := { row := floExactsUptoRow, standIns := [], harness := (true, "a56f8fc8af561c9b9006135576c242877b5c12e20e639ec9c6742c38333973c2"), looks := true }, kinds := [], alts := [], laidByText := true, laidKinds := [.data, .data, .widerDeep, .widerDeep, .data, .data, .data, .data, .data, .sentinel, .sentinel, .pinned, .pinned], laidTests := true, laidLooks := .later }
def FloExactsUptoCardSaid : Prop := Claim7.holds Tryz.pinned (.plain (OpenSpec.upto floExactsSpec)) floExactsUptoCard

/-- THE SECOND FORM's CARD OF 'distafflaw03.FloRounds'. -/
def floRoundsUptoCard : Claim7 := { stood := { row := floRoundsUptoRow, standIns := [], harness := (true, "a56f8fc8af561c9b9006135576c242877b5c12e20e639ec9c6742c38333973c2"), looks := true }, kinds := [], alts := [], laidByText := true, laidKinds := [.data, .data, .widerDeep, .widerDeep, .data, .data, .data, .data, .data, .sentinel, .sentinel, .pinned, .pinned], laidTests := true, laidLooks := .later }
def FloRoundsUptoCardSaid : Prop := Claim7.holds Tryz.pinned (.plain (OpenSpec.upto floRoundsSpec)) floRoundsUptoCard

/-- THE SECOND FORM's CARD OF 'distafflaw03.FloBack'. -/
def floBackUptoCard : Claim7 := { stood := { row := floBackUptoRow, standIns := [], harness := (true, "a56f8fc8af561c9b9006135576c242877b5c12e20e639ec9c6742c38333973c2"), looks := true }, kinds := [], alts := [], laidByText := true, laidKinds := [.data, .data, .widerDeep, .widerDeep, .data, .data, .data, .data, .data, .sentinel, .sentinel, .pinned, .pinned], laidTests := true, laidLooks := .later }
def FloBackUptoCardSaid : Prop := Claim7.holds Tryz.pinned (.plain (OpenSpec.upto floBackSpec)) floBackUptoCard

/-- THE SECOND FORM's CARD OF 'distafflaw03.FloNear'. -/
def floNearUptoCard : Claim7 := { stood := { row := floNearUptoRow, standIns := [], harness := (true, "a56f8fc8af561c9b9006135576c242877b5c12e20e639ec9c6742c38333973c2"), looks := true }, kinds := [], alts := [], laidByText := true, laidKinds := [.data, .data, .widerDeep, .widerDeep, .data, .data, .data, .data, .data, .sentinel, .sentinel, .pinned, .pinned], laidTests := true, laidLooks := .later }
def FloNearUptoCardSaid : Prop := Claim7.holds Tryz.pinned (.plain (OpenSpec.upto floNearSpec)) floNearUptoCard
end Rows
end Go.Proofs.YtpoojlnndgoeoaaGreatDoor
