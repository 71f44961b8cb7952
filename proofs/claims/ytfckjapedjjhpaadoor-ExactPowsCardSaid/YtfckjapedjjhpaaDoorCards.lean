/-
  DERIVED. GIVEN WITH THE SEED: THE CARDS: each row of YtfckjapedjjhpaaDoorRows.lean that lists a variable, with what it lists TIED to the program's text (the seventh form; the later family's looks); each row that meets fmt, with fmt's text TOLD by the authors' own Lean function (tested against real Go, not proved from fmt's source: count such statements apart). THE CARD IS WHAT COUNTS. Prove the row's statement (the work); the ties are given (YtfckjapedjjhpaaDoorTie.lean); close each card by the builder's one call (the guide's Derived/Test/ToyasCard.lean, 'card_holds'). Laid BY PROGRAM, IN A SANDBOX (cutbox-door.mjs). By AI agents, Wed Nov 11 2026. No macro, syntax, notation, axiom, sorry.
-/
import Derived.Test.YtfckjapedjjhpaaDoorRows
import GoSem.ClaimSeven
namespace Go.Proofs.YtfckjapedjjhpaaDoor
namespace Rows

/-- THE TIED CARD OF 'distafflaw02.ExactNames'. -/
def exactNamesCard : Claim7 := { stood := { row := exactNamesRow, standIns := [], harness := (true, "fc5aedd6e14f089d7b328b563c3ad24a1f53d1db4dbc5a5ffcb90b4d7f95c474"), looks := true }, kinds := [], alts := [], laidByText := true, laidKinds := [.data, .data, .data], laidTests := true, laidLooks := .later }
def ExactNamesCardSaid : Prop := Claim7.holds Tryd.pinned (.plain (OpenSpec.ofChange exactNamesSpec)) exactNamesCard

/-- THE TIED CARD OF 'distafflaw02.ExactSmall'. -/
def exactSmallCard : Claim7 := { stood := { row := exactSmallRow, standIns := [], harness := (true, "fc5aedd6e14f089d7b328b563c3ad24a1f53d1db4dbc5a5ffcb90b4d7f95c474"), looks := true }, kinds := [], alts := [], laidByText := true, laidKinds := [.data, .data, .data], laidTests := true, laidLooks := .later }
def ExactSmallCardSaid : Prop := Claim7.holds Tryd.pinned (.plain (OpenSpec.ofChange exactSmallSpec)) exactSmallCard

/-- THE TIED CARD OF 'distafflaw02.ExactSums'. -/
def exactSumsCard : Claim7 := { stood := { row := exactSumsRow, standIns := [], harness := (true, "fc5aedd6e14f089d7b328b563c3ad24a1f53d1db4dbc5a5ffcb90b4d7f95c474"), looks := true }, kinds := [], alts := [], laidByText := true, laidKinds := [.data, .data, .data], laidTests := true, laidLooks := .later }
def ExactSumsCardSaid : Prop := Claim7.holds Tryd.pinned (.plain (OpenSpec.ofChange exactSumsSpec)) exactSumsCard

/-- THE TIED CARD OF 'distafflaw02.ExactQuos'. -/
def exactQuosCard : Claim7 := { stood := { row := exactQuosRow, standIns := [], harness := (true, "fc5aedd6e14f089d7b328b563c3ad24a1f53d1db4dbc5a5ffcb90b4d7f95c474"), looks := true }, kinds := [], alts := [], laidByText := true, laidKinds := [.data, .data, .data], laidTests := true, laidLooks := .later }
def ExactQuosCardSaid : Prop := Claim7.holds Tryd.pinned (.plain (OpenSpec.ofChange exactQuosSpec)) exactQuosCard

/-- THE TIED CARD OF 'distafflaw02.ExactGcds'. -/
def exactGcdsCard : Claim7 := { stood := { row := exactGcdsRow, standIns := [], harness := (true, "fc5aedd6e14f089d7b328b563c3ad24a1f53d1db4dbc5a5ffcb90b4d7f95c474"), looks := true }, kinds := [], alts := [], laidByText := true, laidKinds := [.data, .data, .data], laidTests := true, laidLooks := .later }
def ExactGcdsCardSaid : Prop := Claim7.holds Tryd.pinned (.plain (OpenSpec.ofChange exactGcdsSpec)) exactGcdsCard

/-- THE TIED CARD OF 'distafflaw02.ExactPows'. -/
def exactPowsCard : Claim7 := { stood := { row := exactPowsRow, standIns := [], harness := (true, "fc5aedd6e14f089d7b328b563c3ad24a1f53d1db4dbc5a5ffcb90b4d7f95c474"), looks := true }, kinds := [], alts := [], laidByText := true, laidKinds := [.data, .data, .data], laidTests := true, laidLooks := .later }
def ExactPowsCardSaid : Prop := Claim7.holds Tryd.pinned (.plain (OpenSpec.ofChange exactPowsSpec)) exactPowsCard

/-- THE TIED CARD OF 'distafflaw02.ExactBack'. -/
def exactBackCard : Claim7 := { stood := { row := exactBackRow, standIns := [], harness := (true, "fc5aedd6e14f089d7b328b563c3ad24a1f53d1db4dbc5a5ffcb90b4d7f95c474"), looks := true }, kinds := [], alts := [], laidByText := true, laidKinds := [.data, .data, .data, .sentinel, .sentinel], laidTests := true, laidLooks := .later }
def ExactBackCardSaid : Prop := Claim7.holds Tryd.pinned (.plain (OpenSpec.ofChange exactBackSpec)) exactBackCard

/-- THE TIED CARD OF 'distafflaw02.ExactOrder'. -/
def exactOrderCard : Claim7 := { stood := { row := exactOrderRow, standIns := [], harness := (true, "fc5aedd6e14f089d7b328b563c3ad24a1f53d1db4dbc5a5ffcb90b4d7f95c474"), looks := true }, kinds := [], alts := [], laidByText := true, laidKinds := [.data, .data, .data], laidTests := true, laidLooks := .later }
def ExactOrderCardSaid : Prop := Claim7.holds Tryd.pinned (.plain (OpenSpec.ofChange exactOrderSpec)) exactOrderCard

/-- THE SECOND FORM's CARD OF 'distafflaw02.ExactNames'. -/
def exactNamesUptoCard : Claim7 := { stood := { row := exactNamesUptoRow, standIns := [], harness := (true, "fc5aedd6e14f089d7b328b563c3ad24a1f53d1db4dbc5a5ffcb90b4d7f95c474"), looks := true }, kinds := [], alts := [], laidByText := true, laidKinds := [.data, .data, .data], laidTests := true, laidLooks := .later }
def ExactNamesUptoCardSaid : Prop := Claim7.holds Tryd.pinned (.plain (OpenSpec.upto exactNamesSpec)) exactNamesUptoCard

/-- THE SECOND FORM's CARD OF 'distafflaw02.ExactSmall'. -/
def exactSmallUptoCard : Claim7 := { stood := { row := exactSmallUptoRow, standIns := [], harness := (true, "fc5aedd6e14f089d7b328b563c3ad24a1f53d1db4dbc5a5ffcb90b4d7f95c474"), looks := true }, kinds := [], alts := [], laidByText := true, laidKinds := [.data, .data, .data], laidTests := true, laidLooks := .later }
def ExactSmallUptoCardSaid : Prop := Claim7.holds Tryd.pinned (.plain (OpenSpec.upto exactSmallSpec)) exactSmallUptoCard

/-- THE SECOND FORM's CARD OF 'distafflaw02.ExactSums'. -/
def exactSumsUptoCard : Claim7 := { stood := { row := exactSumsUptoRow, standIns := [], harness := (true, "fc5aedd6e14f089d7b328b563c3ad24a1f53d1db4dbc5a5ffcb90b4d7f95c474"), looks := true }, kinds := [], alts := [], laidByText := true, laidKinds := [.data, .data, .data], laidTests := true, laidLooks := .later }
def ExactSumsUptoCardSaid : Prop := Claim7.holds Tryd.pinned (.plain (OpenSpec.upto exactSumsSpec)) exactSumsUptoCard

/-- THE SECOND FORM's CARD OF 'distafflaw02.ExactQuos'. -/
def exactQuosUptoCard : Claim7 := { stood := { row := exactQuosUptoRow, standIns := [], harness := (true, "fc5aedd6e14f089d7b328b563c3ad24a1f53d1db4dbc5a5ffcb90b4d7f95c474"), looks := true }, kinds := [], alts := [], laidByText := true, laidKinds := [.data, .data, .data], laidTests := true, laidLooks := .later }
def ExactQuosUptoCardSaid : Prop := Claim7.holds Tryd.pinned (.plain (OpenSpec.upto exactQuosSpec)) exactQuosUptoCard

/-- THE SECOND FORM's CARD OF 'distafflaw02.ExactGcds'. -/
def exactGcdsUptoCard : Claim7 := { stood := { row := exactGcdsUptoRow, standIns := [], harness := (true, "fc5aedd6e14f089d7b328b563c3ad24a1f53d1db4dbc5a5ffcb90b4d7f95c474"), looks := true }, kinds := [], alts := [], laidByText := true, laidKinds := [.data, .data, .data], laidTests := true, laidLooks := .later }
def ExactGcdsUptoCardSaid : Prop := Claim7.holds Tryd.pinned (.plain (OpenSpec.upto exactGcdsSpec)) exactGcdsUptoCard

/-- THE SECOND FORM's CARD OF 'distafflaw02.ExactPows'. -/
def exactPowsUptoCard : Claim7 := { stood := { row := exactPowsUptoRow, standIns := [], harness := (true, "fc5aedd6e14f089d7b328b563c3ad24a1f53d1db4dbc5a5ffcb90b4d7f95c474"), looks := true }, kinds := [], alts := [], laidByText := true, laidKinds := [.data, .data, .data], laidTests := true, laidLooks := .later }
def ExactPowsUptoCardSaid : Prop := Claim7.holds Tryd.pinned (.plain (OpenSpec.upto exactPowsSpec)) exactPowsUptoCard

/-- THE SECOND FORM's CARD OF 'distafflaw02.ExactBack'. -/
def exactBackUptoCard : Claim7 := { stood := { row := exactBackUptoRow, standIns := [], harness := (true, "fc5aedd6e14f089d7b328b563c3ad24a1f53d1db4dbc5a5ffcb90b4d7f95c474"), looks := true }, kinds := [], alts := [], laidByText := true, laidKinds := [.data, .data, .data, .sentinel, .sentinel], laidTests := true, laidLooks := .later }
def ExactBackUptoCardSaid : Prop := Claim7.holds Tryd.pinned (.plain (OpenSpec.upto exactBackSpec)) exactBackUptoCard

/-- THE SECOND FORM's CARD OF 'distafflaw02.ExactOrder'. -/
def exactOrderUptoCard : Claim7 := { stood := { row := exactOrderUptoRow, standIns := [], harness := (true, "fc5aedd6e14f089d7b328b563c3ad24a1f53d1db4dbc5a5ffcb90b4d7f95c474"), looks := true }, kinds := [], alts := [], laidByText := true, laidKinds := [.data, .data, .data], laidTests := true, laidLooks := .later }
def ExactOrderUptoCardSaid : Prop := Claim7.holds Tryd.pinned (.plain (OpenSpec.upto exactOrderSpec)) exactOrderUptoCard
end Rows
end Go.Proofs.YtfckjapedjjhpaaDoor
