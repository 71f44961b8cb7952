/-
  DERIVED. GIVEN WITH THE SEED: THE CARDS: each row of YtpnjddfnlaonoaaGreatDoorRows.lean that lists a variable, with what it lists TIED to the program's text (the seventh form; the later family's looks); each row that meets fmt, with fmt's text TOLD by the authors' own Lean function (tested against real Go, not proved from fmt's source: count such statements apart). THE CARD IS WHAT COUNTS. Prove the row's statement (the work); the ties are given (YtpnjddfnlaonoaaGreatDoorTie.lean); close each card by the builder's one call (the guide's Derived/Test/ToyasCard.lean, 'card_holds'). Laid BY PROGRAM, IN A SANDBOX (cutbox-door.mjs). By AI agents, Wed Nov 11 2026. No macro, syntax, notation, axiom, sorry.
-/
import Derived.Test.YtpnjddfnlaonoaaGreatDoorRows
import GoSem.ClaimSeven
namespace Go.Proofs.YtpnjddfnlaonoaaGreatDoor
namespace Rows

/-- THE TIED CARD OF 'distafflaw03.FloTexts'. -/
def floTextsCard : Claim7 := { stood := { row := floTextsRow, standIns := [], harness := (true, "c5f3f64850e3a6c825c7f8014cdeec3ebfb7d228373cbbe5cee2b3be864a7f17"), looks := true }, kinds := [], alts := [], laidByText := true, laidKinds := [.data, .data, .widerDeep, .widerDeep, .data, .data, .data, .data, .data, .sentinel, .sentinel, .pinned, .pinned], laidTests := true, laidLooks := .later }
def FloTextsCardSaid : Prop := Claim7.holds Tryz.pinned (.plain (OpenSpec.ofChange floTextsSpec)) floTextsCard

/-- THE TIED CARD OF 'distafflaw04.TowerTexts'. -/
def towerTextsCard : Claim7 := { stood := { row := towerTextsRow, standIns := [], harness := (true, "c5f3f64850e3a6c825c7f8014cdeec3ebfb7d228373cbbe5cee2b3be864a7f17"), looks := true }, kinds := [], alts := [], laidByText := true, laidKinds := [.data, .data, .widerDeep, .widerDeep, .data, .data, .data, .data, .data, .sentinel, .sentinel, .pinned, .pinned], laidTests := true, laidLooks := .later }
def TowerTextsCardSaid : Prop := Claim7.holds Tryz.pinned (.plain (OpenSpec.ofChange towerTextsSpec)) towerTextsCard

/-- THE TIED CARD OF 'distafflaw05.DatumWords'. -/
def datumWordsCard : Claim7 := { stood := { row := datumWordsRow, standIns := [], harness := (true, "c5f3f64850e3a6c825c7f8014cdeec3ebfb7d228373cbbe5cee2b3be864a7f17"), looks := true }, kinds := [], alts := [], laidByText := true, laidKinds := [.data, .data, .widerDeep, .widerDeep, .data, .data, .data, .data, .data, .data, .sentinel, .sentinel, .pinned, .pinned, .pinned], laidTests := true, laidLooks := .later }
def DatumWordsCardSaid : Prop := Claim7.holds Tryz.pinned (.plain (OpenSpec.ofChange datumWordsSpec)) datumWordsCard

/-- THE TIED CARD OF 'distafflaw05.DatumMakes'. -/
def datumMakesCard : Claim7 := { stood := { row := datumMakesRow, standIns := [], harness := (true, "c5f3f64850e3a6c825c7f8014cdeec3ebfb7d228373cbbe5cee2b3be864a7f17"), looks := true }, kinds := [], alts := [], laidByText := true, laidKinds := [.data, .data, .widerDeep, .widerDeep, .data, .data, .data, .data, .data, .data, .sentinel, .sentinel, .pinned, .pinned, .pinned], laidTests := true, laidLooks := .later }
def DatumMakesCardSaid : Prop := Claim7.holds Tryz.pinned (.plain (OpenSpec.ofChange datumMakesSpec)) datumMakesCard

/-- THE TIED CARD OF 'distafflaw05.DatumCopies'. -/
def datumCopiesCard : Claim7 := { stood := { row := datumCopiesRow, standIns := [], harness := (true, "c5f3f64850e3a6c825c7f8014cdeec3ebfb7d228373cbbe5cee2b3be864a7f17"), looks := true }, kinds := [], alts := [], laidByText := true, laidKinds := [.data, .data, .widerDeep, .widerDeep, .data, .data, .data, .data, .data, .data, .sentinel, .sentinel, .pinned, .pinned, .pinned], laidTests := true, laidLooks := .later }
def DatumCopiesCardSaid : Prop := Claim7.holds Tryz.pinned (.plain (OpenSpec.ofChange datumCopiesSpec)) datumCopiesCard

/-- THE SECOND FORM's CARD OF 'distafflaw03.FloTexts'. -/
def floTextsUptoCard : Claim7 := { stood := { row := floTextsUptoRow, standIns := [], harness := (true, "c5f3f64850e3a6c825c7f8014cdeec3ebfb7d228373cbbe5cee2b3be864a7f17"), looks := true }, kinds := [], alts := [], laidByText := true, laidKinds := [.data, .data, .widerDeep, .widerDeep, .data, .data, .data, .data, .data, .sentinel, .sentinel, .pinned, .pinned], laidTests := true, laidLooks := .later }
def FloTextsUptoCardSaid : Prop := Claim7.holds Tryz.pinned (.plain (OpenSpec.upto floTextsSpec)) floTextsUptoCard

/-- THE SECOND FORM's CARD OF 'distafflaw04.TowerTexts'. -/
def towerTextsUptoCard : Claim7 := { stood := { row := towerTextsUptoRow, standIns := [], harness := (true, "c5f3f64850e3a6c825c7f8014cdeec3ebfb7d228373cbbe5cee2b3be864a7f17"), looks := true }, kinds := [], alts := [], laidByText := true, laidKinds := [.data, .data, .widerDeep, .widerDeep, .data, .data, .data, .data, .data, .sentinel, .sentinel, .pinned, .pinned], laidTests := true, laidLooks := .later }
def TowerTextsUptoCardSaid : Prop := Claim7.holds Tryz.pinned (.plain (OpenSpec.upto towerTextsSpec)) towerTextsUptoCard

/-- THE SECOND FORM's CARD OF 'distafflaw05.DatumWords'. -/
def datumWordsUptoCard : Claim7 := { stood := { row := datumWordsUptoRow, standIns := [], harness := (true, "c5f3f64850e3a6c825c7f8014cdeec3ebfb7d228373cbbe5cee2b3be864a7f17"), looks := true }, kinds := [], alts := [], laidByText := true, laidKinds := [.data, .data, .widerDeep, .widerDeep, .data, .data, .data, .data, .data, .data, .sentinel, .sentinel, .pinned, .pinned, .pinned], laidTests := true, laidLooks := .later }
def DatumWordsUptoCardSaid : Prop := Claim7.holds Tryz.pinned (.plain (OpenSpec.upto datumWordsSpec)) datumWordsUptoCard

/-- THE SECOND FORM's CARD OF 'distafflaw05.DatumMakes'. -/
def datumMakesUptoCard : Claim7 := { stood := { row := datumMakesUptoRow, standIns := [], harness := (true, "c5f3f64850e3a6c825c7f8014cdeec3ebfb7d228373cbbe5cee2b3be864a7f17"), looks := true }, kinds := [], alts := [], laidByText := true, laidKinds := [.data, .data, .widerDeep, .widerDeep, .data, .data, .data, .data, .data, .data, .sentinel, .sentinel, .pinned, .pinned, .pinned], laidTests := true, laidLooks := .later }
def DatumMakesUptoCardSaid : Prop := Claim7.holds Tryz.pinned (.plain (OpenSpec.upto datumMakesSpec)) datumMakesUptoCard

/-- THE SECOND FORM's CARD OF 'distafflaw05.DatumCopies'. -/
def datumCopiesUptoCard : Claim7 := { stood := { row := datumCopiesUptoRow, standIns := [], harness := (true, "c5f3f64850e3a6c825c7f8014cdeec3ebfb7d228373cbbe5cee2b3be864a7f17"), looks := true }, kinds := [], alts := [], laidByText := true, laidKinds := [.data, .data, .widerDeep, .widerDeep, .data, .data, .data, .data, .data, .data, .sentinel, .sentinel, .pinned, .pinned, .pinned], laidTests := true, laidLooks := .later }
def DatumCopiesUptoCardSaid : Prop := Claim7.holds Tryz.pinned (.plain (OpenSpec.upto datumCopiesSpec)) datumCopiesUptoCard
end Rows
end Go.Proofs.YtpnjddfnlaonoaaGreatDoor
