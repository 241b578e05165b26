/-
  DERIVED. GIVEN WITH THE SEED: THE CARDS: each row of YtkccjddmmjdceaaDoorRows.lean that lists a variable, with what it lists TIED to the program's text (the seventh form; the later family's looks); each row that meets fmt, with fmt's text TOLD by the authors' own Lean function (tested against real Go, not proved from fmt's source: count such statements apart). THE CARD IS WHAT COUNTS. Prove the row's statement (the work); the ties are given (YtkccjddmmjdceaaDoorTie.lean); close each card by the builder's one call (the guide's Derived/Test/ToyasCard.lean, 'card_holds'). Laid BY PROGRAM, IN A SANDBOX (cutbox-door.mjs). By AI agents, Wed Nov 11 2026. No macro, syntax, notation, axiom, sorry.
-/
import Derived.Test.YtkccjddmmjdceaaDoorRows
import GoSem.ClaimSeven
namespace Go.Proofs.YtkccjddmmjdceaaDoor
namespace Rows

/-- THE TIED CARD OF 'tribunallaw02.WholeQuos'. -/
def wholeQuosCard : Claim7 := { stood := { row := wholeQuosRow, standIns := [], harness := (true, "8ba44a9d94b3ac0745c3a6e3950d54d813478c33c5363d1da3a18fa65823ac0d"), looks := false }, kinds := [], alts := [], laidByText := true, laidKinds := [.data, .data, .data], laidTests := true, laidLooks := .later }
def WholeQuosCardSaid : Prop := Claim7.holds Tryd.pinned (.plain (OpenSpec.ofChange wholeQuosSpec)) wholeQuosCard

/-- THE TIED CARD OF 'tribunallaw02.WholeDivides'. -/
def wholeDividesCard : Claim7 := { stood := { row := wholeDividesRow, standIns := [], harness := (true, "8ba44a9d94b3ac0745c3a6e3950d54d813478c33c5363d1da3a18fa65823ac0d"), looks := false }, kinds := [], alts := [], laidByText := true, laidKinds := [.data, .data, .data], laidTests := true, laidLooks := .later }
def WholeDividesCardSaid : Prop := Claim7.holds Tryd.pinned (.plain (OpenSpec.ofChange wholeDividesSpec)) wholeDividesCard

/-- THE SECOND FORM's CARD OF 'tribunallaw02.WholeQuos'. -/
def wholeQuosUptoCard : Claim7 := { stood := { row := wholeQuosUptoRow, standIns := [], harness := (true, "8ba44a9d94b3ac0745c3a6e3950d54d813478c33c5363d1da3a18fa65823ac0d"), looks := false }, kinds := [], alts := [], laidByText := true, laidKinds := [.data, .data, .data], laidTests := true, laidLooks := .later }
def WholeQuosUptoCardSaid : Prop := Claim7.holds Tryd.pinned (.plain (OpenSpec.upto wholeQuosSpec)) wholeQuosUptoCard

/-- THE SECOND FORM's CARD OF 'tribunallaw02.WholeDivides'. -/
def wholeDividesUptoCard : Claim7 := { stood := { row := wholeDividesUptoRow, standIns := [], harness := (true, "8ba44a9d94b3ac0745c3a6e3950d54d813478c33c5363d1da3a18fa65823ac0d"), looks := false }, kinds := [], alts := [], laidByText := true, laidKinds := [.data, .data, .data], laidTests := true, laidLooks := .later }
def WholeDividesUptoCardSaid : Prop := Claim7.holds Tryd.pinned (.plain (OpenSpec.upto wholeDividesSpec)) wholeDividesUptoCard
end Rows
end Go.Proofs.YtkccjddmmjdceaaDoor
