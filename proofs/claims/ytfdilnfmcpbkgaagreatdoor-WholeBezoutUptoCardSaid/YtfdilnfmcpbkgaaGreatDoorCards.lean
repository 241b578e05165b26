/-
  DERIVED. GIVEN WITH THE SEED: THE CARDS: each row of YtfdilnfmcpbkgaaGreatDoorRows.lean that lists a variable, with what it lists TIED to the program's text (the seventh form; the later family's looks); each row that meets fmt, with fmt's text TOLD by the authors' own Lean function (tested against real Go, not proved from fmt's source: count such statements apart). THE CARD IS WHAT COUNTS. Prove the row's statement (the work); the ties are given (YtfdilnfmcpbkgaaGreatDoorTie.lean); close each card by the builder's one call (the guide's Derived/Test/ToyasCard.lean, 'card_holds'). Laid BY PROGRAM, IN A SANDBOX (cutbox-door.mjs). By AI agents, Wed Nov 11 2026. No macro, syntax, notation, axiom, sorry.
-/
import Derived.Test.YtfdilnfmcpbkgaaGreatDoorRows
import GoSem.ClaimSeven
namespace Go.Proofs.YtfdilnfmcpbkgaaGreatDoor
namespace Rows

/-- THE TIED CARD OF 'tribunallaw02.WholeExtends'. -/
def wholeExtendsCard : Claim7 := { stood := { row := wholeExtendsRow, standIns := [], harness := (true, "82442456b503aba90e75bd7b5f0f6dd1a49b97e1b5985f4b65738e1a1fa7c891"), looks := false }, kinds := [], alts := [], laidByText := true, laidKinds := [.data, .data, .data], laidTests := true, laidLooks := .later }
def WholeExtendsCardSaid : Prop := Claim7.holds Tryz.pinned (.plain (OpenSpec.ofChange wholeExtendsSpec)) wholeExtendsCard

/-- THE TIED CARD OF 'tribunallaw02.WholeBezout'. -/
def wholeBezoutCard : Claim7 := { stood := { row := wholeBezoutRow, standIns := [], harness := (true, "82442456b503aba90e75bd7b5f0f6dd1a49b97e1b5985f4b65738e1a1fa7c891"), looks := false }, kinds := [], alts := [], laidByText := true, laidKinds := [.data, .data, .data], laidTests := true, laidLooks := .later }
def WholeBezoutCardSaid : Prop := Claim7.holds Tryz.pinned (.plain (OpenSpec.ofChange wholeBezoutSpec)) wholeBezoutCard

/-- THE TIED CARD OF 'tribunallaw02.WholeOwn'. -/
def wholeOwnCard : Claim7 := { stood := { row := wholeOwnRow, standIns := [], harness := (true, "82442456b503aba90e75bd7b5f0f6dd1a49b97e1b5985f4b65738e1a1fa7c891"), looks := false }, kinds := [], alts := [], laidByText := true, laidKinds := [.data, .data, .data], laidTests := true, laidLooks := .later }
def WholeOwnCardSaid : Prop := Claim7.holds Tryz.pinned (.plain (OpenSpec.ofChange wholeOwnSpec)) wholeOwnCard

/-- THE SECOND FORM's CARD OF 'tribunallaw02.WholeExtends'. -/
def wholeExtendsUptoCard : Claim7 := { stood := { row := wholeExtendsUptoRow, standIns := [], harness := (true, "82442456b503aba90e75bd7b5f0f6dd1a49b97e1b5985f4b65738e1a1fa7c891"), looks := false }, kinds := [], alts := [], laidByText := true, laidKinds := [.data, .data, .data], laidTests := true, laidLooks := .later }
def WholeExtendsUptoCardSaid : Prop := Claim7.holds Tryz.pinned (.plain (OpenSpec.upto wholeExtendsSpec)) wholeExtendsUptoCard

/-- THE SECOND FORM's CARD OF 'tribunallaw02.WholeBezout'. -/
def wholeBezoutUptoCard : Claim7 := { stood := { row := wholeBezoutUptoRow, standIns := [], harness := (true, "82442456b503aba90e75bd7b5f0f6dd1a49b97e1b5985f4b65738e1a1fa7c891"), looks := false }, kinds := [], alts := [], laidByText := true, laidKinds := [.data, .data, .data], laidTests := true, laidLooks := .later }
def WholeBezoutUptoCardSaid : Prop := Claim7.holds Tryz.pinned (.plain (OpenSpec.upto wholeBezoutSpec)) wholeBezoutUptoCard

/-- THE SECOND FORM's CARD OF 'tribunallaw02.WholeOwn'. -/
def wholeOwnUptoCard : Claim7 := { stood := { row := wholeOwnUptoRow, standIns := [], harness := (true, "82442456b503aba90e75bd7b5f0f6dd1a49b97e1b5985f4b65738e1a1fa7c891"), looks := false }, kinds := [], alts := [], laidByText := true, laidKinds := [.data, .data, .data], laidTests := true, laidLooks := .later }
def WholeOwnUptoCardSaid : Prop := Claim7.holds Tryz.pinned (.plain (OpenSpec.upto wholeOwnSpec)) wholeOwnUptoCard
end Rows
end Go.Proofs.YtfdilnfmcpbkgaaGreatDoor
