/-
  DERIVED. GIVEN WITH THE SEED: THE CARDS: each row of YtmocnoiieiakhaaGreatDoorRows.lean that lists a variable, with what it lists TIED to the program's text (the seventh form; the later family's looks); each row that meets fmt, with fmt's text TOLD by the authors' own Lean function (tested against real Go, not proved from fmt's source: count such statements apart). THE CARD IS WHAT COUNTS. Prove the row's statement (the work); the ties are given (YtmocnoiieiakhaaGreatDoorTie.lean); close each card by the builder's one call (the guide's Derived/Test/ToyasCard.lean, 'card_holds'). Laid BY PROGRAM, IN A SANDBOX (cutbox-door.mjs). By AI agents, Wed Nov 11 2026. No macro, syntax, notation, axiom, sorry.
-/
import Derived.Test.YtmocnoiieiakhaaGreatDoorRows
import GoSem.ClaimSeven
namespace Go.Proofs.YtmocnoiieiakhaaGreatDoor
namespace Rows

/-- THE TIED CARD OF 'distafflaw11.VerifyNames'. -/
def verifyNamesCard : Claim7 := { stood := { row := verifyNamesRow, standIns := [], harness := (true, "2bd61136d233a9408bd6b63b1d4ad9e57ba83e9e5f311d560ef4b17f9fd6aad9"), looks := true }, kinds := [], alts := [], laidByText := true, laidKinds := [.data, .data, .widerDeep, .widerDeep, .data, .data, .data, .data, .data, .data, .sentinel, .sentinel, .listed, .data, .pinned, .pinned, .pinned], laidTests := true, laidLooks := .later }
def VerifyNamesCardSaid : Prop := Claim7.holds Tryz.pinned (.plain (OpenSpec.ofChange verifyNamesSpec)) verifyNamesCard

/-- THE TIED CARD OF 'distafflaw11.VerifyWays'. -/
def verifyWaysCard : Claim7 := { stood := { row := verifyWaysRow, standIns := [], harness := (true, "2bd61136d233a9408bd6b63b1d4ad9e57ba83e9e5f311d560ef4b17f9fd6aad9"), looks := true }, kinds := [], alts := [], laidByText := true, laidKinds := [.data, .data, .widerDeep, .widerDeep, .data, .data, .data, .data, .data, .data, .sentinel, .sentinel, .listed, .data, .pinned, .pinned, .pinned], laidTests := true, laidLooks := .later }
def VerifyWaysCardSaid : Prop := Claim7.holds Tryz.pinned (.plain (OpenSpec.ofChange verifyWaysSpec)) verifyWaysCard

/-- THE TIED CARD OF 'distafflaw11.VerifyRoom'. -/
def verifyRoomCard : Claim7 := { stood := { row := verifyRoomRow, standIns := [], harness := (true, "2bd61136d233a9408bd6b63b1d4ad9e57ba83e9e5f311d560ef4b17f9fd6aad9"), looks := true }, kinds := [], alts := [], laidByText := true, laidKinds := [.data, .data, .widerDeep, .widerDeep, .data, .data, .data, .data, .data, .data, .sentinel, .sentinel, .listed, .data, .pinned, .pinned, .pinned], laidTests := true, laidLooks := .later }
def VerifyRoomCardSaid : Prop := Claim7.holds Tryz.pinned (.plain (OpenSpec.ofChange verifyRoomSpec)) verifyRoomCard

/-- THE SECOND FORM's CARD OF 'distafflaw11.VerifyNames'. -/
def verifyNamesUptoCard : Claim7 := { stood := { row := verifyNamesUptoRow, standIns := [], harness := (true, "2bd61136d233a9408bd6b63b1d4ad9e57ba83e9e5f311d560ef4b17f9fd6aad9"), looks := true }, kinds := [], alts := [], laidByText := true, laidKinds := [.data, .data, .widerDeep, .widerDeep, .data, .data, .data, .data, .data, .data, .sentinel, .sentinel, .listed, .data, .pinned, .pinned, .pinned], laidTests := true, laidLooks := .later }
def VerifyNamesUptoCardSaid : Prop := Claim7.holds Tryz.pinned (.plain (OpenSpec.upto verifyNamesSpec)) verifyNamesUptoCard

/-- THE SECOND FORM's CARD OF 'distafflaw11.VerifyWays'. -/
def verifyWaysUptoCard : Claim7 := { stood := { row := verifyWaysUptoRow, standIns := [], harness := (true, "2bd61136d233a9408bd6b63b1d4ad9e57ba83e9e5f311d560ef4b17f9fd6aad9"), looks := true }, kinds := [], alts := [], laidByText := true, laidKinds := [.data, .data, .widerDeep, .widerDeep, .data, .data, .data, .data, .data, .data, .sentinel, .sentinel, .listed, .data, .pinned, .pinned, .pinned], laidTests := true, laidLooks := .later }
def VerifyWaysUptoCardSaid : Prop := Claim7.holds Tryz.pinned (.plain (OpenSpec.upto verifyWaysSpec)) verifyWaysUptoCard

/-- THE SECOND FORM's CARD OF 'distafflaw11.VerifyRoom'. -/
def verifyRoomUptoCard : Claim7 := { stood := { row := verifyRoomUptoRow, standIns := [], harness := (true, "2bd61136d233a9408bd6b63b1d4ad9e57ba83e9e5f311d560ef4b17f9fd6aad9"), looks := true }, kinds := [], alts := [], laidByText := true, laidKinds := [.data, .data, .widerDeep, .widerDeep, .data, .data, .data, .data, .data, .data, .sentinel, .sentinel, .listed, .data, .pinned, .pinned, .pinned], laidTests := true, laidLooks := .later }
def VerifyRoomUptoCardSaid : Prop := Claim7.holds Tryz.pinned (.plain (OpenSpec.upto verifyRoomSpec)) verifyRoomUptoCard
end Rows
end Go.Proofs.YtmocnoiieiakhaaGreatDoor
