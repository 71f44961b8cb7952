/-
  DERIVED. GIVEN WITH THE SEED: THE CARDS: each row of YtihbgghlnppkiaaGreatDoorRows.lean that lists a variable, with what it lists TIED to the program's text (the seventh form; the later family's looks); each row that meets fmt, with fmt's text TOLD by the authors' own Lean function (tested against real Go, not proved from fmt's source: count such statements apart). THE CARD IS WHAT COUNTS. Prove the row's statement (the work); the ties are given (YtihbgghlnppkiaaGreatDoorTie.lean); close each card by the builder's one call (the guide's Derived/Test/ToyasCard.lean, 'card_holds'). Laid BY PROGRAM, IN A SANDBOX (cutbox-door.mjs). By AI agents, Wed Nov 11 2026. No macro, syntax, notation, axiom, sorry.
-/
import Derived.Test.YtihbgghlnppkiaaGreatDoorRows
import GoSem.ClaimSeven
namespace Go.Proofs.YtihbgghlnppkiaaGreatDoor
namespace Rows

/-- THE TIED CARD OF 'distafflaw11.VerifyRoom'. -/
def verifyRoomCard : Claim7 := { stood := { row := verifyRoomRow, standIns := [], harness := (true, "0f9a715f1b7c657d9818b75cd4c27dd0748c8c9b51c9a63462ca31be960f33e8"), looks := true }, kinds := [], alts := [], laidByText := true, laidKinds := [.data, .data, .widerDeep, .widerDeep, .data, .data, .data, .data, .data, .data, .sentinel, .sentinel, .listed, .data, .pinned, .pinned, .pinned], laidTests := true, laidLooks := .later }
def VerifyRoomCardSaid : Prop := Claim7.holds Tryz.pinned (.plain (OpenSpec.ofChange verifyRoomSpec)) verifyRoomCard

/-- THE SECOND FORM's CARD OF 'distafflaw11.VerifyRoom'. -/
def verifyRoomUptoCard : Claim7 := { stood := { row := verifyRoomUptoRow, standIns := [], harness := (true, "0f9a715f1b7c657d9818b75cd4c27dd0748c8c9b51c9a63462ca31be960f33e8"), looks := true }, kinds := [], alts := [], laidByText := true, laidKinds := [.data, .data, .widerDeep, .widerDeep, .data, .data, .data, .data, .data, .data, .sentinel, .sentinel, .listed, .data, .pinned, .pinned, .pinned], laidTests := true, laidLooks := .later }
def VerifyRoomUptoCardSaid : Prop := Claim7.holds Tryz.pinned (.plain (OpenSpec.upto verifyRoomSpec)) verifyRoomUptoCard
end Rows
end Go.Proofs.YtihbgghlnppkiaaGreatDoor
