/-
  DERIVED. GIVEN WITH THE SEED: THE CARDS: each row of YtnbnnkdepceciaaGreatDoorRows.lean that lists a variable, with what it lists TIED to the program's text (the seventh form; the later family's looks); each row that meets fmt, with fmt's text TOLD by the authors' own Lean function (tested against real Go, not proved from fmt's source: count such statements apart). THE CARD IS WHAT COUNTS. Prove the row's statement (the work); the ties are given (YtnbnnkdepceciaaGreatDoorTie.lean); close each card by the builder's one call (the guide's Derived/Test/ToyasCard.lean, 'card_holds'). Laid BY PROGRAM, IN A SANDBOX (cutbox-door.mjs). By AI agents, Wed Nov 11 2026. No macro, syntax, notation, axiom, sorry.
-/
import Derived.Test.YtnbnnkdepceciaaGreatDoorRows
import GoSem.ClaimSeven
namespace Go.Proofs.YtnbnnkdepceciaaGreatDoor
namespace Rows

/-- THE TIED CARD OF 'tribunallaw07.SexpParses'. -/
def sexpParsesCard : Claim7 := { stood := { row := sexpParsesRow, standIns := [], harness := (true, "e4a2449cc64a96f90b4968f21aac874b10e9d69dca95bca9b8551247e3a06792"), looks := false }, kinds := [], alts := [], laidByText := true, laidKinds := [.data, .data, .pinned, .pinned], laidTests := true, laidLooks := .later }
def SexpParsesCardSaid : Prop := Claim7.holds Tryz.pinned (.plain (OpenSpec.ofChange sexpParsesSpec)) sexpParsesCard

/-- THE TIED CARD OF 'tribunallaw07.SexpTexts'. -/
def sexpTextsCard : Claim7 := { stood := { row := sexpTextsRow, standIns := [], harness := (true, "e4a2449cc64a96f90b4968f21aac874b10e9d69dca95bca9b8551247e3a06792"), looks := false }, kinds := [], alts := [], laidByText := true, laidKinds := [.data, .data, .pinned, .pinned], laidTests := true, laidLooks := .later }
def SexpTextsCardSaid : Prop := Claim7.holds Tryz.pinned (.plain (OpenSpec.ofChange sexpTextsSpec)) sexpTextsCard

/-- THE TIED CARD OF 'tribunallaw07.SexpLooks'. -/
def sexpLooksCard : Claim7 := { stood := { row := sexpLooksRow, standIns := [], harness := (true, "e4a2449cc64a96f90b4968f21aac874b10e9d69dca95bca9b8551247e3a06792"), looks := false }, kinds := [], alts := [], laidByText := true, laidKinds := [.data, .data, .pinned, .pinned], laidTests := true, laidLooks := .later }
def SexpLooksCardSaid : Prop := Claim7.holds Tryz.pinned (.plain (OpenSpec.ofChange sexpLooksSpec)) sexpLooksCard

/-- THE TIED CARD OF 'tribunallaw07.SexpDeep'. -/
def sexpDeepCard : Claim7 := { stood := { row := sexpDeepRow, standIns := [], harness := (true, "e4a2449cc64a96f90b4968f21aac874b10e9d69dca95bca9b8551247e3a06792"), looks := false }, kinds := [], alts := [], laidByText := true, laidKinds := [.data, .data, .pinned, .pinned], laidTests := true, laidLooks := .later }
def SexpDeepCardSaid : Prop := Claim7.holds Tryz.pinned (.plain (OpenSpec.ofChange sexpDeepSpec)) sexpDeepCard

/-- THE TIED CARD OF 'tribunallaw07.SexpOwn'. -/
def sexpOwnCard : Claim7 := { stood := { row := sexpOwnRow, standIns := [], harness := (true, "e4a2449cc64a96f90b4968f21aac874b10e9d69dca95bca9b8551247e3a06792"), looks := false }, kinds := [], alts := [], laidByText := true, laidKinds := [.data, .data, .pinned, .pinned], laidTests := true, laidLooks := .later }
def SexpOwnCardSaid : Prop := Claim7.holds Tryz.pinned (.plain (OpenSpec.ofChange sexpOwnSpec)) sexpOwnCard

/-- THE SECOND FORM's CARD OF 'tribunallaw07.SexpParses'. -/
def sexpParsesUptoCard : Claim7 := { stood := { row := sexpParsesUptoRow, standIns := [], harness := (true, "e4a2449cc64a96f90b4968f21aac874b10e9d69dca95bca9b8551247e3a06792"), looks := false }, kinds := [], alts := [], laidByText := true, laidKinds := [.data, .data, .pinned, .pinned], laidTests := true, laidLooks := .later }
def SexpParsesUptoCardSaid : Prop := Claim7.holds Tryz.pinned (.plain (OpenSpec.upto sexpParsesSpec)) sexpParsesUptoCard

/-- THE SECOND FORM's CARD OF 'tribunallaw07.SexpTexts'. -/
def sexpTextsUptoCard : Claim7 := { stood := { row := sexpTextsUptoRow, standIns := [], harness := (true, "e4a2449cc64a96f90b4968f21aac874b10e9d69dca95bca9b8551247e3a06792"), looks := false }, kinds := [], alts := [], laidByText := true, laidKinds := [.data, .data, .pinned, .pinned], laidTests := true, laidLooks := .later }
def SexpTextsUptoCardSaid : Prop := Claim7.holds Tryz.pinned (.plain (OpenSpec.upto sexpTextsSpec)) sexpTextsUptoCard

/-- THE SECOND FORM's CARD OF 'tribunallaw07.SexpLooks'. -/
def sexpLooksUptoCard : Claim7 := { stood := { row := sexpLooksUptoRow, standIns := [], harness := (true, "e4a2449cc64a96f90b4968f21aac874b10e9d69dca95bca9b8551247e3a06792"), looks := false }, kinds := [], alts := [], laidByText := true, laidKinds := [.data, .data, .pinned, .pinned], laidTests := true, laidLooks := .later }
def SexpLooksUptoCardSaid : Prop := Claim7.holds Tryz.pinned (.plain (OpenSpec.upto sexpLooksSpec)) sexpLooksUptoCard

/-- THE SECOND FORM's CARD OF 'tribunallaw07.SexpDeep'. -/
def sexpDeepUptoCard : Claim7 := { stood := { row := sexpDeepUptoRow, standIns := [], harness := (true, "e4a2449cc64a96f90b4968f21aac874b10e9d69dca95bca9b8551247e3a06792"), looks := false }, kinds := [], alts := [], laidByText := true, laidKinds := [.data, .data, .pinned, .pinned], laidTests := true, laidLooks := .later }
def SexpDeepUptoCardSaid : Prop := Claim7.holds Tryz.pinned (.plain (OpenSpec.upto sexpDeepSpec)) sexpDeepUptoCard

/-- THE SECOND FORM's CARD OF 'tribunallaw07.SexpOwn'. -/
def sexpOwnUptoCard : Claim7 := { stood := { row := sexpOwnUptoRow, standIns := [], harness := (true, "e4a2449cc64a96f90b4968f21aac874b10e9d69dca95bca9b8551247e3a06792"), looks := false }, kinds := [], alts := [], laidByText := true, laidKinds := [.data, .data, .pinned, .pinned], laidTests := true, laidLooks := .later }
def SexpOwnUptoCardSaid : Prop := Claim7.holds Tryz.pinned (.plain (OpenSpec.upto sexpOwnSpec)) sexpOwnUptoCard
end Rows
end Go.Proofs.YtnbnnkdepceciaaGreatDoor
