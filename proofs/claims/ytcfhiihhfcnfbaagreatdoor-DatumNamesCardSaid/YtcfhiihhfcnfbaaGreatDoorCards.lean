/-
  DERIVED. GIVEN WITH THE SEED: THE CARDS: each row of YtcfhiihhfcnfbaaGreatDoorRows.lean that lists a variable, with what it lists TIED to the program's text (the seventh form; the later family's looks); each row that meets fmt, with fmt's text TOLD by the authors' own Lean function (tested against real Go, not proved from fmt's source: count such statements apart). THE CARD IS WHAT COUNTS. Prove the row's statement (the work); the ties are given (YtcfhiihhfcnfbaaGreatDoorTie.lean); close each card by the builder's one call (the guide's Derived/Test/ToyasCard.lean, 'card_holds'). Laid BY PROGRAM, IN A SANDBOX (cutbox-door.mjs). By AI agents, Wed Nov 11 2026. No macro, syntax, notation, axiom, sorry.
-/
import Derived.Test.YtcfhiihhfcnfbaaGreatDoorRows
import GoSem.ClaimSeven
namespace Go.Proofs.YtcfhiihhfcnfbaaGreatDoor
namespace Rows

/-- THE TIED CARD OF 'distafflaw03.FloTexts'. -/
def floTextsCard : Claim7 := { stood := { row := floTextsRow, standIns := [], harness := (true, "140bc186cd43c27f97d05b3f5e5b1a6c431de2ef3059d97db7746bea3ec3adc5"), looks := true }, kinds := [], alts := [], laidByText := true, laidKinds := [.data, .data, .widerDeep, .widerDeep, .data, .data, .data, .data, .data, .sentinel, .sentinel, .pinned, .pinned], laidTests := true, laidLooks := .later }
def FloTextsCardSaid : Prop := Claim7.holds Tryz.pinned (.plain (OpenSpec.ofChange floTextsSpec)) floTextsCard

/-- THE TIED CARD OF 'distafflaw04.TowerChain'. -/
def towerChainCard : Claim7 := { stood := { row := towerChainRow, standIns := [], harness := (true, "140bc186cd43c27f97d05b3f5e5b1a6c431de2ef3059d97db7746bea3ec3adc5"), looks := true }, kinds := [], alts := [], laidByText := true, laidKinds := [.data, .data, .data, .data, .sentinel, .sentinel, .pinned, .pinned], laidTests := true, laidLooks := .later }
def TowerChainCardSaid : Prop := Claim7.holds Tryz.pinned (.plain (OpenSpec.ofChange towerChainSpec)) towerChainCard

/-- THE TIED CARD OF 'distafflaw05.DatumNames'. -/
def datumNamesCard : Claim7 := { stood := { row := datumNamesRow, standIns := [], harness := (true, "140bc186cd43c27f97d05b3f5e5b1a6c431de2ef3059d97db7746bea3ec3adc5"), looks := true }, kinds := [], alts := [], laidByText := true, laidKinds := [.data, .data, .widerDeep, .widerDeep, .data, .data, .data, .data, .data, .data, .sentinel, .sentinel, .pinned, .pinned, .pinned], laidTests := true, laidLooks := .later }
def DatumNamesCardSaid : Prop := Claim7.holds Tryz.pinned (.plain (OpenSpec.ofChange datumNamesSpec)) datumNamesCard

/-- THE TIED CARD OF 'distafflaw05.DatumWords'. -/
def datumWordsCard : Claim7 := { stood := { row := datumWordsRow, standIns := [], harness := (true, "140bc186cd43c27f97d05b3f5e5b1a6c431de2ef3059d97db7746bea3ec3adc5"), looks := true }, kinds := [], alts := [], laidByText := true, laidKinds := [.data, .data, .widerDeep, .widerDeep, .data, .data, .data, .data, .data, .data, .sentinel, .sentinel, .pinned, .pinned, .pinned], laidTests := true, laidLooks := .later }
def DatumWordsCardSaid : Prop := Claim7.holds Tryz.pinned (.plain (OpenSpec.ofChange datumWordsSpec)) datumWordsCard

/-- THE TIED CARD OF 'distafflaw05.DatumMakes'. -/
def datumMakesCard : Claim7 := { stood := { row := datumMakesRow, standIns := [], harness := (true, "140bc186cd43c27f97d05b3f5e5b1a6c431de2ef3059d97db7746bea3ec3adc5"), looks := true }, kinds := [], alts := [], laidByText := true, laidKinds := [.data, .data, .widerDeep, .widerDeep, .data, .data, .data, .data, .data, .data, .sentinel, .sentinel, .pinned, .pinned, .pinned], laidTests := true, laidLooks := .later }
def DatumMakesCardSaid : Prop := Claim7.holds Tryz.pinned (.plain (OpenSpec.ofChange datumMakesSpec)) datumMakesCard

/-- THE TIED CARD OF 'distafflaw05.DatumCopies'. -/
def datumCopiesCard : Claim7 := { stood := { row := datumCopiesRow, standIns := [], harness := (true, "140bc186cd43c27f97d05b3f5e5b1a6c431de2ef3059d97db7746bea3ec3adc5"), looks := true }, kinds := [], alts := [], laidByText := true, laidKinds := [.data, .data, .widerDeep, .widerDeep, .data, .data, .data, .data, .data, .data, .sentinel, .sentinel, .pinned, .pinned, .pinned], laidTests := true, laidLooks := .later }
def DatumCopiesCardSaid : Prop := Claim7.holds Tryz.pinned (.plain (OpenSpec.ofChange datumCopiesSpec)) datumCopiesCard

/-- THE TIED CARD OF 'distafflaw06.ReaderNames'. -/
def readerNamesCard : Claim7 := { stood := { row := readerNamesRow, standIns := [], harness := (true, "140bc186cd43c27f97d05b3f5e5b1a6c431de2ef3059d97db7746bea3ec3adc5"), looks := true }, kinds := [], alts := [], laidByText := true, laidKinds := [.data, .data, .widerDeep, .widerDeep, .data, .data, .data, .data, .data, .data, .sentinel, .sentinel, .data, .pinned, .pinned, .pinned], laidTests := true, laidLooks := .later }
def ReaderNamesCardSaid : Prop := Claim7.holds Tryz.pinned (.plain (OpenSpec.ofChange readerNamesSpec)) readerNamesCard

/-- THE TIED CARD OF 'distafflaw06.ReaderDeep'. -/
def readerDeepCard : Claim7 := { stood := { row := readerDeepRow, standIns := [], harness := (true, "140bc186cd43c27f97d05b3f5e5b1a6c431de2ef3059d97db7746bea3ec3adc5"), looks := true }, kinds := [], alts := [], laidByText := true, laidKinds := [.data, .data, .widerDeep, .widerDeep, .data, .data, .data, .data, .data, .data, .sentinel, .sentinel, .data, .pinned, .pinned, .pinned], laidTests := true, laidLooks := .later }
def ReaderDeepCardSaid : Prop := Claim7.holds Tryz.pinned (.plain (OpenSpec.ofChange readerDeepSpec)) readerDeepCard

/-- THE SECOND FORM's CARD OF 'distafflaw03.FloTexts'. -/
def floTextsUptoCard : Claim7 := { stood := { row := floTextsUptoRow, standIns := [], harness := (true, "140bc186cd43c27f97d05b3f5e5b1a6c431de2ef3059d97db7746bea3ec3adc5"), looks := true }, kinds := [], alts := [], laidByText := true, laidKinds := [.data, .data, .widerDeep, .widerDeep, .data, .data, .data, .data, .data, .sentinel, .sentinel, .pinned, .pinned], laidTests := true, laidLooks := .later }
def FloTextsUptoCardSaid : Prop := Claim7.holds Tryz.pinned (.plain (OpenSpec.upto floTextsSpec)) floTextsUptoCard

/-- THE SECOND FORM's CARD OF 'distafflaw04.TowerChain'. -/
def towerChainUptoCard : Claim7 := { stood := { row := towerChainUptoRow, standIns := [], harness := (true, "140bc186cd43c27f97d05b3f5e5b1a6c431de2ef3059d97db7746bea3ec3adc5"), looks := true }, kinds := [], alts := [], laidByText := true, laidKinds := [.data, .data, .data, .data, .sentinel, .sentinel, .pinned, .pinned], laidTests := true, laidLooks := .later }
def TowerChainUptoCardSaid : Prop := Claim7.holds Tryz.pinned (.plain (OpenSpec.upto towerChainSpec)) towerChainUptoCard

/-- THE SECOND FORM's CARD OF 'distafflaw05.DatumNames'. -/
def datumNamesUptoCard : Claim7 := { stood := { row := datumNamesUptoRow, standIns := [], harness := (true, "140bc186cd43c27f97d05b3f5e5b1a6c431de2ef3059d97db7746bea3ec3adc5"), looks := true }, kinds := [], alts := [], laidByText := true, laidKinds := [.data, .data, .widerDeep, .widerDeep, .data, .data, .data, .data, .data, .data, .sentinel, .sentinel, .pinned, .pinned, .pinned], laidTests := true, laidLooks := .later }
def DatumNamesUptoCardSaid : Prop := Claim7.holds Tryz.pinned (.plain (OpenSpec.upto datumNamesSpec)) datumNamesUptoCard

/-- THE SECOND FORM's CARD OF 'distafflaw05.DatumWords'. -/
def datumWordsUptoCard : Claim7 := { stood := { row := datumWordsUptoRow, standIns := [], harness := (true, "140bc186cd43c27f97d05b3f5e5b1a6c431de2ef3059d97db7746bea3ec3adc5"), looks := true }, kinds := [], alts := [], laidByText := true, laidKinds := [.data, .data, .widerDeep, .widerDeep, .data, .data, .data, .data, .data, .data, .sentinel, .sentinel, .pinned, .pinned, .pinned], laidTests := true, laidLooks := .later }
def DatumWordsUptoCardSaid : Prop := Claim7.holds Tryz.pinned (.plain (OpenSpec.upto datumWordsSpec)) datumWordsUptoCard

/-- THE SECOND FORM's CARD OF 'distafflaw05.DatumMakes'. -/
def datumMakesUptoCard : Claim7 := { stood := { row := datumMakesUptoRow, standIns := [], harness := (true, "140bc186cd43c27f97d05b3f5e5b1a6c431de2ef3059d97db7746bea3ec3adc5"), looks := true }, kinds := [], alts := [], laidByText := true, laidKinds := [.data, .data, .widerDeep, .widerDeep, .data, .data, .data, .data, .data, .data, .sentinel, .sentinel, .pinned, .pinned, .pinned], laidTests := true, laidLooks := .later }
def DatumMakesUptoCardSaid : Prop := Claim7.holds Tryz.pinned (.plain (OpenSpec.upto datumMakesSpec)) datumMakesUptoCard

/-- THE SECOND FORM's CARD OF 'distafflaw05.DatumCopies'. -/
def datumCopiesUptoCard : Claim7 := { stood := { row := datumCopiesUptoRow, standIns := [], harness := (true, "140bc186cd43c27f97d05b3f5e5b1a6c431de2ef3059d97db7746bea3ec3adc5"), looks := true }, kinds := [], alts := [], laidByText := true, laidKinds := [.data, .data, .widerDeep, .widerDeep, .data, .data, .data, .data, .data, .data, .sentinel, .sentinel, .pinned, .pinned, .pinned], laidTests := true, laidLooks := .later }
def DatumCopiesUptoCardSaid : Prop := Claim7.holds Tryz.pinned (.plain (OpenSpec.upto datumCopiesSpec)) datumCopiesUptoCard

/-- THE SECOND FORM's CARD OF 'distafflaw06.ReaderNames'. -/
def readerNamesUptoCard : Claim7 := { stood := { row := readerNamesUptoRow, standIns := [], harness := (true, "140bc186cd43c27f97d05b3f5e5b1a6c431de2ef3059d97db7746bea3ec3adc5"), looks := true }, kinds := [], alts := [], laidByText := true, laidKinds := [.data, .data, .widerDeep, .widerDeep, .data, .data, .data, .data, .data, .data, .sentinel, .sentinel, .data, .pinned, .pinned, .pinned], laidTests := true, laidLooks := .later }
def ReaderNamesUptoCardSaid : Prop := Claim7.holds Tryz.pinned (.plain (OpenSpec.upto readerNamesSpec)) readerNamesUptoCard

/-- THE SECOND FORM's CARD OF 'distafflaw06.ReaderDeep'. -/
def readerDeepUptoCard : Claim7 := { stood := { row := readerDeepUptoRow, standIns := [], harness := (true, "140bc186cd43c27f97d05b3f5e5b1a6c431de2ef3059d97db7746bea3ec3adc5"), looks := true }, kinds := [], alts := [], laidByText := true, laidKinds := [.data, .data, .widerDeep, .widerDeep, .data, .data, .data, .data, .data, .data, .sentinel, .sentinel, .data, .pinned, .pinned, .pinned], laidTests := true, laidLooks := .later }
def ReaderDeepUptoCardSaid : Prop := Claim7.holds Tryz.pinned (.plain (OpenSpec.upto readerDeepSpec)) readerDeepUptoCard
end Rows
end Go.Proofs.YtcfhiihhfcnfbaaGreatDoor
