/-
  DERIVED. GIVEN WITH THE SEED: THE CARDS: each row of YtlgcmpiobglbbaaDoorRows.lean that lists a variable, with what it lists TIED to the program's text (the seventh form; the later family's looks); each row that meets fmt, with fmt's text TOLD by the authors' own Lean function (tested against real Go, not proved from fmt's source: count such statements apart). THE CARD IS WHAT COUNTS. Prove the row's statement (the work); the ties are given (YtlgcmpiobglbbaaDoorTie.lean); close each card by the builder's one call (the guide's Derived/Test/ToyasCard.lean, 'card_holds'). Laid BY PROGRAM, IN A SANDBOX (cutbox-door.mjs). By AI agents, Wed Nov 11 2026. No macro, syntax, notation, axiom, sorry.
-/
import Derived.Test.YtlgcmpiobglbbaaDoorRows
import GoSem.ClaimSeven
namespace Go.Proofs.YtlgcmpiobglbbaaDoor
namespace Rows

/-- THE TIED CARD OF 'tribunallaw06.LexisScans'. -/
def lexisScansCard : Claim7 := { stood := { row := lexisScansRow, standIns := [], harness := (true, "0b58d892f99192269eb19b0ebf71a5bfb1eceb69cc4c72a4880d20eb6d838573"), looks := false }, kinds := [], alts := [], laidByText := true, laidKinds := [.data, .data, .pinned, .pinned], laidTests := true, laidLooks := .later }
def LexisScansCardSaid : Prop := Claim7.holds Tryd.pinned (.plain (OpenSpec.ofChange lexisScansSpec)) lexisScansCard

/-- THE TIED CARD OF 'tribunallaw06.LexisWrites'. -/
def lexisWritesCard : Claim7 := { stood := { row := lexisWritesRow, standIns := [], harness := (true, "0b58d892f99192269eb19b0ebf71a5bfb1eceb69cc4c72a4880d20eb6d838573"), looks := false }, kinds := [], alts := [], laidByText := true, laidKinds := [.data, .data, .pinned, .pinned], laidTests := true, laidLooks := .later }
def LexisWritesCardSaid : Prop := Claim7.holds Tryd.pinned (.plain (OpenSpec.ofChange lexisWritesSpec)) lexisWritesCard

/-- THE TIED CARD OF 'tribunallaw06.LexisJoins'. -/
def lexisJoinsCard : Claim7 := { stood := { row := lexisJoinsRow, standIns := [], harness := (true, "0b58d892f99192269eb19b0ebf71a5bfb1eceb69cc4c72a4880d20eb6d838573"), looks := false }, kinds := [], alts := [], laidByText := true, laidKinds := [.data, .data, .pinned, .pinned], laidTests := true, laidLooks := .later }
def LexisJoinsCardSaid : Prop := Claim7.holds Tryd.pinned (.plain (OpenSpec.ofChange lexisJoinsSpec)) lexisJoinsCard

/-- THE TIED CARD OF 'tribunallaw06.LexisBack'. -/
def lexisBackCard : Claim7 := { stood := { row := lexisBackRow, standIns := [], harness := (true, "0b58d892f99192269eb19b0ebf71a5bfb1eceb69cc4c72a4880d20eb6d838573"), looks := false }, kinds := [], alts := [], laidByText := true, laidKinds := [.data, .data, .pinned, .pinned], laidTests := true, laidLooks := .later }
def LexisBackCardSaid : Prop := Claim7.holds Tryd.pinned (.plain (OpenSpec.ofChange lexisBackSpec)) lexisBackCard

/-- THE TIED CARD OF 'tribunallaw06.LexisAgain'. -/
def lexisAgainCard : Claim7 := { stood := { row := lexisAgainRow, standIns := [], harness := (true, "0b58d892f99192269eb19b0ebf71a5bfb1eceb69cc4c72a4880d20eb6d838573"), looks := false }, kinds := [], alts := [], laidByText := true, laidKinds := [.data, .data, .pinned, .pinned], laidTests := true, laidLooks := .later }
def LexisAgainCardSaid : Prop := Claim7.holds Tryd.pinned (.plain (OpenSpec.ofChange lexisAgainSpec)) lexisAgainCard

/-- THE TIED CARD OF 'tribunallaw06.LexisPlaces'. -/
def lexisPlacesCard : Claim7 := { stood := { row := lexisPlacesRow, standIns := [], harness := (true, "0b58d892f99192269eb19b0ebf71a5bfb1eceb69cc4c72a4880d20eb6d838573"), looks := false }, kinds := [], alts := [], laidByText := true, laidKinds := [.data, .data, .pinned, .pinned], laidTests := true, laidLooks := .later }
def LexisPlacesCardSaid : Prop := Claim7.holds Tryd.pinned (.plain (OpenSpec.ofChange lexisPlacesSpec)) lexisPlacesCard

/-- THE TIED CARD OF 'tribunallaw06.LexisBlanks'. -/
def lexisBlanksCard : Claim7 := { stood := { row := lexisBlanksRow, standIns := [], harness := (true, "0b58d892f99192269eb19b0ebf71a5bfb1eceb69cc4c72a4880d20eb6d838573"), looks := false }, kinds := [], alts := [], laidByText := true, laidKinds := [.data, .data, .pinned, .pinned], laidTests := true, laidLooks := .later }
def LexisBlanksCardSaid : Prop := Claim7.holds Tryd.pinned (.plain (OpenSpec.ofChange lexisBlanksSpec)) lexisBlanksCard

/-- THE TIED CARD OF 'tribunallaw06.LexisFirst'. -/
def lexisFirstCard : Claim7 := { stood := { row := lexisFirstRow, standIns := [], harness := (true, "0b58d892f99192269eb19b0ebf71a5bfb1eceb69cc4c72a4880d20eb6d838573"), looks := false }, kinds := [], alts := [], laidByText := true, laidKinds := [.data, .data, .pinned, .pinned], laidTests := true, laidLooks := .later }
def LexisFirstCardSaid : Prop := Claim7.holds Tryd.pinned (.plain (OpenSpec.ofChange lexisFirstSpec)) lexisFirstCard

/-- THE SECOND FORM's CARD OF 'tribunallaw06.LexisScans'. -/
def lexisScansUptoCard : Claim7 := { stood := { row := lexisScansUptoRow, standIns := [], harness := (true, "0b58d892f99192269eb19b0ebf71a5bfb1eceb69cc4c72a4880d20eb6d838573"), looks := false }, kinds := [], alts := [], laidByText := true, laidKinds := [.data, .data, .pinned, .pinned], laidTests := true, laidLooks := .later }
def LexisScansUptoCardSaid : Prop := Claim7.holds Tryd.pinned (.plain (OpenSpec.upto lexisScansSpec)) lexisScansUptoCard

/-- THE SECOND FORM's CARD OF 'tribunallaw06.LexisWrites'. -/
def lexisWritesUptoCard : Claim7 := { stood := { row := lexisWritesUptoRow, standIns := [], harness := (true, "0b58d892f99192269eb19b0ebf71a5bfb1eceb69cc4c72a4880d20eb6d838573"), looks := false }, kinds := [], alts := [], laidByText := true, laidKinds := [.data, .data, .pinned, .pinned], laidTests := true, laidLooks := .later }
def LexisWritesUptoCardSaid : Prop := Claim7.holds Tryd.pinned (.plain (OpenSpec.upto lexisWritesSpec)) lexisWritesUptoCard

/-- THE SECOND FORM's CARD OF 'tribunallaw06.LexisJoins'. -/
def lexisJoinsUptoCard : Claim7 := { stood := { row := lexisJoinsUptoRow, standIns := [], harness := (true, "0b58d892f99192269eb19b0ebf71a5bfb1eceb69cc4c72a4880d20eb6d838573"), looks := false }, kinds := [], alts := [], laidByText := true, laidKinds := [.data, .data, .pinned, .pinned], laidTests := true, laidLooks := .later }
def LexisJoinsUptoCardSaid : Prop := Claim7.holds Tryd.pinned (.plain (OpenSpec.upto lexisJoinsSpec)) lexisJoinsUptoCard

/-- THE SECOND FORM's CARD OF 'tribunallaw06.LexisBack'. -/
def lexisBackUptoCard : Claim7 := { stood := { row := lexisBackUptoRow, standIns := [], harness := (true, "0b58d892f99192269eb19b0ebf71a5bfb1eceb69cc4c72a4880d20eb6d838573"), looks := false }, kinds := [], alts := [], laidByText := true, laidKinds := [.data, .data, .pinned, .pinned], laidTests := true, laidLooks := .later }
def LexisBackUptoCardSaid : Prop := Claim7.holds Tryd.pinned (.plain (OpenSpec.upto lexisBackSpec)) lexisBackUptoCard

/-- THE SECOND FORM's CARD OF 'tribunallaw06.LexisAgain'. -/
def lexisAgainUptoCard : Claim7 := { stood := { row := lexisAgainUptoRow, standIns := [], harness := (true, "0b58d892f99192269eb19b0ebf71a5bfb1eceb69cc4c72a4880d20eb6d838573"), looks := false }, kinds := [], alts := [], laidByText := true, laidKinds := [.data, .data, .pinned, .pinned], laidTests := true, laidLooks := .later }
def LexisAgainUptoCardSaid : Prop := Claim7.holds Tryd.pinned (.plain (OpenSpec.upto lexisAgainSpec)) lexisAgainUptoCard

/-- THE SECOND FORM's CARD OF 'tribunallaw06.LexisPlaces'. -/
def lexisPlacesUptoCard : Claim7 := { stood := { row := lexisPlacesUptoRow, standIns := [], harness := (true, "0b58d892f99192269eb19b0ebf71a5bfb1eceb69cc4c72a4880d20eb6d838573"), looks := false }, kinds := [], alts := [], laidByText := true, laidKinds := [.data, .data, .pinned, .pinned], laidTests := true, laidLooks := .later }
def LexisPlacesUptoCardSaid : Prop := Claim7.holds Tryd.pinned (.plain (OpenSpec.upto lexisPlacesSpec)) lexisPlacesUptoCard

/-- THE SECOND FORM's CARD OF 'tribunallaw06.LexisBlanks'. -/
def lexisBlanksUptoCard : Claim7 := { stood := { row := lexisBlanksUptoRow, standIns := [], harness := (true, "0b58d892f99192269eb19b0ebf71a5bfb1eceb69cc4c72a4880d20eb6d838573"), looks := false }, kinds := [], alts := [], laidByText := true, laidKinds := [.data, .data, .pinned, .pinned], laidTests := true, laidLooks := .later }
def LexisBlanksUptoCardSaid : Prop := Claim7.holds Tryd.pinned (.plain (OpenSpec.upto lexisBlanksSpec)) lexisBlanksUptoCard

/-- THE SECOND FORM's CARD OF 'tribunallaw06.LexisFirst'. -/
def lexisFirstUptoCard : Claim7 := { stood := { row := lexisFirstUptoRow, standIns := [], harness := (true, "0b58d892f99192269eb19b0ebf71a5bfb1eceb69cc4c72a4880d20eb6d838573"), looks := false }, kinds := [], alts := [], laidByText := true, laidKinds := [.data, .data, .pinned, .pinned], laidTests := true, laidLooks := .later }
def LexisFirstUptoCardSaid : Prop := Claim7.holds Tryd.pinned (.plain (OpenSpec.upto lexisFirstSpec)) lexisFirstUptoCard
end Rows
end Go.Proofs.YtlgcmpiobglbbaaDoor
