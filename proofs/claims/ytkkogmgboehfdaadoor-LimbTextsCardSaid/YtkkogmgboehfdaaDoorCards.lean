/-
  DERIVED. GIVEN WITH THE SEED: THE CARDS: each row of YtkkogmgboehfdaaDoorRows.lean that lists a variable, with what it lists TIED to the program's text (the seventh form; the later family's looks); each row that meets fmt, with fmt's text TOLD by the authors' own Lean function (tested against real Go, not proved from fmt's source: count such statements apart). THE CARD IS WHAT COUNTS. Prove the row's statement (the work); the ties are given (YtkkogmgboehfdaaDoorTie.lean); close each card by the builder's one call (the guide's Derived/Test/ToyasCard.lean, 'card_holds'). Laid BY PROGRAM, IN A SANDBOX (cutbox-door.mjs). By AI agents, Wed Nov 11 2026. No macro, syntax, notation, axiom, sorry.
-/
import Derived.Test.YtkkogmgboehfdaaDoorRows
import GoSem.ClaimSeven
namespace Go.Proofs.YtkkogmgboehfdaaDoor
namespace Rows

/-- THE TIED CARD OF 'distafflaw01.LimbNames'. -/
def limbNamesCard : Claim7 := { stood := { row := limbNamesRow, standIns := [], harness := (true, "be39245db3e1ff01e371a31424b3a5fa0ed72af54ce04eb40940566918ec8b4c"), looks := true }, kinds := [], alts := [], laidByText := true, laidKinds := [.data, .data, .data, .sentinel, .sentinel], laidTests := true, laidLooks := .later }
def LimbNamesCardSaid : Prop := Claim7.holds Tryd.pinned (.plain (OpenSpec.ofChange limbNamesSpec)) limbNamesCard

/-- THE TIED CARD OF 'distafflaw01.LimbOrders'. -/
def limbOrdersCard : Claim7 := { stood := { row := limbOrdersRow, standIns := [], harness := (true, "be39245db3e1ff01e371a31424b3a5fa0ed72af54ce04eb40940566918ec8b4c"), looks := true }, kinds := [], alts := [], laidByText := true, laidKinds := [.data, .data, .data], laidTests := true, laidLooks := .later }
def LimbOrdersCardSaid : Prop := Claim7.holds Tryd.pinned (.plain (OpenSpec.ofChange limbOrdersSpec)) limbOrdersCard

/-- THE TIED CARD OF 'distafflaw01.LimbAdds'. -/
def limbAddsCard : Claim7 := { stood := { row := limbAddsRow, standIns := [], harness := (true, "be39245db3e1ff01e371a31424b3a5fa0ed72af54ce04eb40940566918ec8b4c"), looks := true }, kinds := [], alts := [], laidByText := true, laidKinds := [.data, .data, .data], laidTests := true, laidLooks := .later }
def LimbAddsCardSaid : Prop := Claim7.holds Tryd.pinned (.plain (OpenSpec.ofChange limbAddsSpec)) limbAddsCard

/-- THE TIED CARD OF 'distafflaw01.LimbMuls'. -/
def limbMulsCard : Claim7 := { stood := { row := limbMulsRow, standIns := [], harness := (true, "be39245db3e1ff01e371a31424b3a5fa0ed72af54ce04eb40940566918ec8b4c"), looks := true }, kinds := [], alts := [], laidByText := true, laidKinds := [.data, .data, .data], laidTests := true, laidLooks := .later }
def LimbMulsCardSaid : Prop := Claim7.holds Tryd.pinned (.plain (OpenSpec.ofChange limbMulsSpec)) limbMulsCard

/-- THE TIED CARD OF 'distafflaw01.LimbDivs'. -/
def limbDivsCard : Claim7 := { stood := { row := limbDivsRow, standIns := [], harness := (true, "be39245db3e1ff01e371a31424b3a5fa0ed72af54ce04eb40940566918ec8b4c"), looks := true }, kinds := [], alts := [], laidByText := true, laidKinds := [.data, .data, .data], laidTests := true, laidLooks := .later }
def LimbDivsCardSaid : Prop := Claim7.holds Tryd.pinned (.plain (OpenSpec.ofChange limbDivsSpec)) limbDivsCard

/-- THE TIED CARD OF 'distafflaw01.LimbTexts'. -/
def limbTextsCard : Claim7 := { stood := { row := limbTextsRow, standIns := [], harness := (true, "be39245db3e1ff01e371a31424b3a5fa0ed72af54ce04eb40940566918ec8b4c"), looks := true }, kinds := [], alts := [], laidByText := true, laidKinds := [.data, .data, .data, .sentinel, .sentinel], laidTests := true, laidLooks := .later }
def LimbTextsCardSaid : Prop := Claim7.holds Tryd.pinned (.plain (OpenSpec.ofChange limbTextsSpec)) limbTextsCard

/-- THE TIED CARD OF 'distafflaw01.LimbBack'. -/
def limbBackCard : Claim7 := { stood := { row := limbBackRow, standIns := [], harness := (true, "be39245db3e1ff01e371a31424b3a5fa0ed72af54ce04eb40940566918ec8b4c"), looks := true }, kinds := [], alts := [], laidByText := true, laidKinds := [.data, .data, .data], laidTests := true, laidLooks := .later }
def LimbBackCardSaid : Prop := Claim7.holds Tryd.pinned (.plain (OpenSpec.ofChange limbBackSpec)) limbBackCard

/-- THE TIED CARD OF 'distafflaw01.LimbRing'. -/
def limbRingCard : Claim7 := { stood := { row := limbRingRow, standIns := [], harness := (true, "be39245db3e1ff01e371a31424b3a5fa0ed72af54ce04eb40940566918ec8b4c"), looks := true }, kinds := [], alts := [], laidByText := true, laidKinds := [.data, .data, .data], laidTests := true, laidLooks := .later }
def LimbRingCardSaid : Prop := Claim7.holds Tryd.pinned (.plain (OpenSpec.ofChange limbRingSpec)) limbRingCard

/-- THE TIED CARD OF 'distafflaw01.LimbDigits'. -/
def limbDigitsCard : Claim7 := { stood := { row := limbDigitsRow, standIns := [], harness := (true, "be39245db3e1ff01e371a31424b3a5fa0ed72af54ce04eb40940566918ec8b4c"), looks := true }, kinds := [], alts := [], laidByText := true, laidKinds := [.data, .data, .data, .sentinel, .sentinel], laidTests := true, laidLooks := .later }
def LimbDigitsCardSaid : Prop := Claim7.holds Tryd.pinned (.plain (OpenSpec.ofChange limbDigitsSpec)) limbDigitsCard

/-- THE SECOND FORM's CARD OF 'distafflaw01.LimbNames'. -/
def limbNamesUptoCard : Claim7 := { stood := { row := limbNamesUptoRow, standIns := [], harness := (true, "be39245db3e1ff01e371a31424b3a5fa0ed72af54ce04eb40940566918ec8b4c"), looks := true }, kinds := [], alts := [], laidByText := true, laidKinds := [.data, .data, .data, .sentinel, .sentinel], laidTests := true, laidLooks := .later }
def LimbNamesUptoCardSaid : Prop := Claim7.holds Tryd.pinned (.plain (OpenSpec.upto limbNamesSpec)) limbNamesUptoCard

/-- THE SECOND FORM's CARD OF 'distafflaw01.LimbOrders'. -/
def limbOrdersUptoCard : Claim7 := { stood := { row := limbOrdersUptoRow, standIns := [], harness := (true, "be39245db3e1ff01e371a31424b3a5fa0ed72af54ce04eb40940566918ec8b4c"), looks := true }, kinds := [], alts := [], laidByText := true, laidKinds := [.data, .data, .data], laidTests := true, laidLooks := .later }
def LimbOrdersUptoCardSaid : Prop := Claim7.holds Tryd.pinned (.plain (OpenSpec.upto limbOrdersSpec)) limbOrdersUptoCard

/-- THE SECOND FORM's CARD OF 'distafflaw01.LimbAdds'. -/
def limbAddsUptoCard : Claim7 := { stood := { row := limbAddsUptoRow, standIns := [], harness := (true, "be39245db3e1ff01e371a31424b3a5fa0ed72af54ce04eb40940566918ec8b4c"), looks := true }, kinds := [], alts := [], laidByText := true, laidKinds := [.data, .data, .data], laidTests := true, laidLooks := .later }
def LimbAddsUptoCardSaid : Prop := Claim7.holds Tryd.pinned (.plain (OpenSpec.upto limbAddsSpec)) limbAddsUptoCard

/-- THE SECOND FORM's CARD OF 'distafflaw01.LimbMuls'. -/
def limbMulsUptoCard : Claim7 := { stood := { row := limbMulsUptoRow, standIns := [], harness := (true, "be39245db3e1ff01e371a31424b3a5fa0ed72af54ce04eb40940566918ec8b4c"), looks := true }, kinds := [], alts := [], laidByText := true, laidKinds := [.data, .data, .data], laidTests := true, laidLooks := .later }
def LimbMulsUptoCardSaid : Prop := Claim7.holds Tryd.pinned (.plain (OpenSpec.upto limbMulsSpec)) limbMulsUptoCard

/-- THE SECOND FORM's CARD OF 'distafflaw01.LimbDivs'. -/
def limbDivsUptoCard : Claim7 := { stood := { row := limbDivsUptoRow, standIns := [], harness := (true, "be39245db3e1ff01e371a31424b3a5fa0ed72af54ce04eb40940566918ec8b4c"), looks := true }, kinds := [], alts := [], laidByText := true, laidKinds := [.data, .data, .data], laidTests := true, laidLooks := .later }
def LimbDivsUptoCardSaid : Prop := Claim7.holds Tryd.pinned (.plain (OpenSpec.upto limbDivsSpec)) limbDivsUptoCard

/-- THE SECOND FORM's CARD OF 'distafflaw01.LimbTexts'. -/
def limbTextsUptoCard : Claim7 := { stood := { row := limbTextsUptoRow, standIns := [], harness := (true, "be39245db3e1ff01e371a31424b3a5fa0ed72af54ce04eb40940566918ec8b4c"), looks := true }, kinds := [], alts := [], laidByText := true, laidKinds := [.data, .data, .data, .sentinel, .sentinel], laidTests := true, laidLooks := .later }
def LimbTextsUptoCardSaid : Prop := Claim7.holds Tryd.pinned (.plain (OpenSpec.upto limbTextsSpec)) limbTextsUptoCard

/-- THE SECOND FORM's CARD OF 'distafflaw01.LimbBack'. -/
def limbBackUptoCard : Claim7 := { stood := { row := limbBackUptoRow, standIns := [], harness := (true, "be39245db3e1ff01e371a31424b3a5fa0ed72af54ce04eb40940566918ec8b4c"), looks := true }, kinds := [], alts := [], laidByText := true, laidKinds := [.data, .data, .data], laidTests := true, laidLooks := .later }
def LimbBackUptoCardSaid : Prop := Claim7.holds Tryd.pinned (.plain (OpenSpec.upto limbBackSpec)) limbBackUptoCard

/-- THE SECOND FORM's CARD OF 'distafflaw01.LimbRing'. -/
def limbRingUptoCard : Claim7 := { stood := { row := limbRingUptoRow, standIns := [], harness := (true, "be39245db3e1ff01e371a31424b3a5fa0ed72af54ce04eb40940566918ec8b4c"), looks := true }, kinds := [], alts := [], laidByText := true, laidKinds := [.data, .data, .data], laidTests := true, laidLooks := .later }
def LimbRingUptoCardSaid : Prop := Claim7.holds Tryd.pinned (.plain (OpenSpec.upto limbRingSpec)) limbRingUptoCard

/-- THE SECOND FORM's CARD OF 'distafflaw01.LimbDigits'. -/
def limbDigitsUptoCard : Claim7 := { stood := { row := limbDigitsUptoRow, standIns := [], harness := (true, "be39245db3e1ff01e371a31424b3a5fa0ed72af54ce04eb40940566918ec8b4c"), looks := true }, kinds := [], alts := [], laidByText := true, laidKinds := [.data, .data, .data, .sentinel, .sentinel], laidTests := true, laidLooks := .later }
def LimbDigitsUptoCardSaid : Prop := Claim7.holds Tryd.pinned (.plain (OpenSpec.upto limbDigitsSpec)) limbDigitsUptoCard
end Rows
end Go.Proofs.YtkkogmgboehfdaaDoor
