/-
  DERIVED. GIVEN WITH THE SEED: THE CARDS: each row of YtkccjddmmjdceaaGreatDoorRows.lean that lists a variable, with what it lists TIED to the program's text (the seventh form; the later family's looks); each row that meets fmt, with fmt's text TOLD by the authors' own Lean function (tested against real Go, not proved from fmt's source: count such statements apart). THE CARD IS WHAT COUNTS. Prove the row's statement (the work); the ties are given (YtkccjddmmjdceaaGreatDoorTie.lean); close each card by the builder's one call (the guide's Derived/Test/ToyasCard.lean, 'card_holds'). Laid BY PROGRAM, IN A SANDBOX (cutbox-door.mjs). By AI agents, Wed Nov 11 2026. No macro, syntax, notation, axiom, sorry.
-/
import Derived.Test.YtkccjddmmjdceaaGreatDoorRows
import GoSem.ClaimSeven
namespace Go.Proofs.YtkccjddmmjdceaaGreatDoor
namespace Rows

/-- THE TIED CARD OF 'tribunallaw02.WholeDivMods'. -/
def wholeDivModsCard : Claim7 := { stood := { row := wholeDivModsRow, standIns := [], harness := (true, "39b0b6c42c293eff582b4a6c36004fc93a0bba1b1cd75f0908238d96d320d06a"), looks := false }, kinds := [], alts := [], laidByText := true, laidKinds := [.data, .data, .data], laidTests := true, laidLooks := .later }
def WholeDivModsCardSaid : Prop := Claim7.holds Tryz.pinned (.plain (OpenSpec.ofChange wholeDivModsSpec)) wholeDivModsCard

/-- THE TIED CARD OF 'tribunallaw02.WholeRounds'. -/
def wholeRoundsCard : Claim7 := { stood := { row := wholeRoundsRow, standIns := [], harness := (true, "39b0b6c42c293eff582b4a6c36004fc93a0bba1b1cd75f0908238d96d320d06a"), looks := false }, kinds := [], alts := [], laidByText := true, laidKinds := [.data, .data, .data], laidTests := true, laidLooks := .later }
def WholeRoundsCardSaid : Prop := Claim7.holds Tryz.pinned (.plain (OpenSpec.ofChange wholeRoundsSpec)) wholeRoundsCard

/-- THE TIED CARD OF 'tribunallaw02.WholeGcds'. -/
def wholeGcdsCard : Claim7 := { stood := { row := wholeGcdsRow, standIns := [], harness := (true, "39b0b6c42c293eff582b4a6c36004fc93a0bba1b1cd75f0908238d96d320d06a"), looks := false }, kinds := [], alts := [], laidByText := true, laidKinds := [.data, .data, .data], laidTests := true, laidLooks := .later }
def WholeGcdsCardSaid : Prop := Claim7.holds Tryz.pinned (.plain (OpenSpec.ofChange wholeGcdsSpec)) wholeGcdsCard

/-- THE TIED CARD OF 'tribunallaw02.WholeExtends'. -/
def wholeExtendsCard : Claim7 := { stood := { row := wholeExtendsRow, standIns := [], harness := (true, "39b0b6c42c293eff582b4a6c36004fc93a0bba1b1cd75f0908238d96d320d06a"), looks := false }, kinds := [], alts := [], laidByText := true, laidKinds := [.data, .data, .data], laidTests := true, laidLooks := .later }
def WholeExtendsCardSaid : Prop := Claim7.holds Tryz.pinned (.plain (OpenSpec.ofChange wholeExtendsSpec)) wholeExtendsCard

/-- THE TIED CARD OF 'tribunallaw02.WholeBezout'. -/
def wholeBezoutCard : Claim7 := { stood := { row := wholeBezoutRow, standIns := [], harness := (true, "39b0b6c42c293eff582b4a6c36004fc93a0bba1b1cd75f0908238d96d320d06a"), looks := false }, kinds := [], alts := [], laidByText := true, laidKinds := [.data, .data, .data], laidTests := true, laidLooks := .later }
def WholeBezoutCardSaid : Prop := Claim7.holds Tryz.pinned (.plain (OpenSpec.ofChange wholeBezoutSpec)) wholeBezoutCard

/-- THE TIED CARD OF 'tribunallaw02.WholeOwn'. -/
def wholeOwnCard : Claim7 := { stood := { row := wholeOwnRow, standIns := [], harness := (true, "39b0b6c42c293eff582b4a6c36004fc93a0bba1b1cd75f0908238d96d320d06a"), looks := false }, kinds := [], alts := [], laidByText := true, laidKinds := [.data, .data, .data], laidTests := true, laidLooks := .later }
def WholeOwnCardSaid : Prop := Claim7.holds Tryz.pinned (.plain (OpenSpec.ofChange wholeOwnSpec)) wholeOwnCard

/-- THE SECOND FORM's CARD OF 'tribunallaw02.WholeDivMods'. -/
def wholeDivModsUptoCard : Claim7 := { stood := { row := wholeDivModsUptoRow, standIns := [], harness := (true, "39b0b6c42c293eff582b4a6c36004fc93a0bba1b1cd75f0908238d96d320d06a"), looks := false }, kinds := [], alts := [], laidByText := true, laidKinds := [.data, .data, .data], laidTests := true, laidLooks := .later }
def WholeDivModsUptoCardSaid : Prop := Claim7.holds Tryz.pinned (.plain (OpenSpec.upto wholeDivModsSpec)) wholeDivModsUptoCard

/-- THE SECOND FORM's CARD OF 'tribunallaw02.WholeRounds'. -/
def wholeRoundsUptoCard : Claim7 := { stood := { row := wholeRoundsUptoRow, standIns := [], harness := (true, "39b0b6c42c293eff582b4a6c36004fc93a0bba1b1cd75f0908238d96d320d06a"), looks := false }, kinds := [], alts := [], laidByText := true, laidKinds := [.data, .data, .data], laidTests := true, laidLooks := .later }
def WholeRoundsUptoCardSaid : Prop := Claim7.holds Tryz.pinned (.plain (OpenSpec.upto wholeRoundsSpec)) wholeRoundsUptoCard

/-- THE SECOND FORM's CARD OF 'tribunallaw02.WholeGcds'. -/
def wholeGcdsUptoCard : Claim7 := { stood := { row := wholeGcdsUptoRow, standIns := [], harness := (true, "39b0b6c42c293eff582b4a6c36004fc93a0bba1b1cd75f0908238d96d320d06a"), looks := false }, kinds := [], alts := [], laidByText := true, laidKinds := [.data, .data, .data], laidTests := true, laidLooks := .later }
def WholeGcdsUptoCardSaid : Prop := Claim7.holds Tryz.pinned (.plain (OpenSpec.upto wholeGcdsSpec)) wholeGcdsUptoCard

/-- THE SECOND FORM's CARD OF 'tribunallaw02.WholeExtends'. -/
def wholeExtendsUptoCard : Claim7 := { stood := { row := wholeExtendsUptoRow, standIns := [], harness := (true, "39b0b6c42c293eff582b4a6c36004fc93a0bba1b1cd75f0908238d96d320d06a"), looks := false }, kinds := [], alts := [], laidByText := true, laidKinds := [.data, .data, .data], laidTests := true, laidLooks := .later }
def WholeExtendsUptoCardSaid : Prop := Claim7.holds Tryz.pinned (.plain (OpenSpec.upto wholeExtendsSpec)) wholeExtendsUptoCard

/-- THE SECOND FORM's CARD OF 'tribunallaw02.WholeBezout'. -/
def wholeBezoutUptoCard : Claim7 := { stood := { row := wholeBezoutUptoRow, standIns := [], harness := (true, "39b0b6c42c293eff582b4a6c36004fc93a0bba1b1cd75f0908238d96d320d06a"), looks := false }, kinds := [], alts := [], laidByText := true, laidKinds := [.data, .data, .data], laidTests := true, laidLooks := .later }
def WholeBezoutUptoCardSaid : Prop := Claim7.holds Tryz.pinned (.plain (OpenSpec.upto wholeBezoutSpec)) wholeBezoutUptoCard

/-- THE SECOND FORM's CARD OF 'tribunallaw02.WholeOwn'. -/
def wholeOwnUptoCard : Claim7 := { stood := { row := wholeOwnUptoRow, standIns := [], harness := (true, "39b0b6c42c293eff582b4a6c36004fc93a0bba1b1cd75f0908238d96d320d06a"), looks := false }, kinds := [], alts := [], laidByText := true, laidKinds := [.data, .data, .data], laidTests := true, laidLooks := .later }
def WholeOwnUptoCardSaid : Prop := Claim7.holds Tryz.pinned (.plain (OpenSpec.upto wholeOwnSpec)) wholeOwnUptoCard
end Rows
end Go.Proofs.YtkccjddmmjdceaaGreatDoor
