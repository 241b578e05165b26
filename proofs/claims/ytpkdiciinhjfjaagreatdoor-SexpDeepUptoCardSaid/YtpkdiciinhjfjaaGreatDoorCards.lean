/-
  DERIVED. GIVEN WITH THE SEED: THE CARDS: each row of YtpkdiciinhjfjaaGreatDoorRows.lean that lists a variable, with what it lists TIED to the program's text (the seventh form; the later family's looks); each row that meets fmt, with fmt's text TOLD by the authors' own Lean function (tested against real Go, not proved from fmt's source: count such statements apart). THE CARD IS WHAT COUNTS. Prove the row's statement (the work); the ties are given (YtpkdiciinhjfjaaGreatDoorTie.lean); close each card by the builder's one call (the guide's Derived/Test/ToyasCard.lean, 'card_holds'). Laid BY PROGRAM, IN A SANDBOX (cutbox-door.mjs). By AI agents, Wed Nov 11 2026. No macro, syntax, notation, axiom, sorry.
-/
import Derived.Test.YtpkdiciinhjfjaaGreatDoorRows
import GoSem.ClaimSeven
namespace Go.Proofs.YtpkdiciinhjfjaaGreatDoor
namespace Rows

/-- THE TIED CARD OF 'tribunallaw07.SexpParses'. -/
def sexpParsesCard : Claim7 := { stood := { row := sexpParsesRow, standIns := [], harness := (true, "62e723123391b79e9ae31792ce5e995fe0eb9c7b746144e0d2eef1e744bf86db"), looks := false }, kinds := [], alts := [], laidByText := true, laidKinds := [.data, .data, .pinned, .pinned], laidTests := true, laidLooks := .later }
def SexpParsesCardSaid : Prop := Claim7.holds Tryz.pinned (.plain (OpenSpec.ofChange sexpParsesSpec)) sexpParsesCard

/-- THE TIED CARD OF 'tribunallaw07.SexpDeep'. -/
def sexpDeepCard : Claim7 := { stood := { row := sexpDeepRow, standIns := [], harness := (true, "62e723123391b79e9ae31792ce5e995fe0eb9c7b746144e0d2eef1e744bf86db"), looks := false }, kinds := [], alts := [], laidByText := true, laidKinds := [.data, .data, .pinned, .pinned], laidTests := true, laidLooks := .later }
def SexpDeepCardSaid : Prop := Claim7.holds Tryz.pinned (.plain (OpenSpec.ofChange sexpDeepSpec)) sexpDeepCard

/-- THE TIED CARD OF 'tribunallaw07.SexpOwn'. -/
def sexpOwnCard : Claim7 := { stood := { row := sexpOwnRow, standIns := [], harness := (true, "62e723123391b79e9ae31792ce5e995fe0eb9c7b746144e0d2eef1e744bf86db"), looks := false }, kinds := [], alts := [], laidByText := true, laidKinds := [.data, .data, .pinned, .pinned], laidTests := true, laidLooks := .later }
def SexpOwnCardSaid : Prop := Claim7.holds Tryz.pinned (.plain (OpenSpec.ofChange sexpOwnSpec)) sexpOwnCard

/-- THE SECOND FORM's CARD OF 'tribunallaw07.SexpParses'. -/
def sexpParsesUptoCard : Claim7 := { stood := { row := sexpParsesUptoRow, standIns := [], harness := (true, "62e723123391b79e9ae31792ce5e995fe0eb9c7b746144e0d2eef1e744bf86db"), looks := false }, kinds := [], alts := [], laidByText := true, laidKinds := [.data, .data, .pinned, .pinned], laidTests := true, laidLooks := .later }
def SexpParsesUptoCardSaid : Prop := Claim7.holds Tryz.pinned (.plain (OpenSpec.upto sexpParsesSpec)) sexpParsesUptoCard

/-- THE SECOND FORM's CARD OF 'tribunallaw07.SexpDeep'. -/
def sexpDeepUptoCard : Claim7 := { stood := { row := sexpDeepUptoRow, standIns := [], harness := (true, "62e723123391b79e9ae31792ce5e995fe0eb9c7b746144e0d2eef1e744bf86db"), looks := false }, kinds := [], alts := [], laidByText := true, laidKinds := [.data, .data, .pinned, .pinned], laidTests := true, laidLooks := .later }
def SexpDeepUptoCardSaid : Prop := Claim7.holds Tryz.pinned (.plain (OpenSpec.upto sexpDeepSpec)) sexpDeepUptoCard

/-- THE SECOND FORM's CARD OF 'tribunallaw07.SexpOwn'. -/
def sexpOwnUptoCard : Claim7 := { stood := { row := sexpOwnUptoRow, standIns := [], harness := (true, "62e723123391b79e9ae31792ce5e995fe0eb9c7b746144e0d2eef1e744bf86db"), looks := false }, kinds := [], alts := [], laidByText := true, laidKinds := [.data, .data, .pinned, .pinned], laidTests := true, laidLooks := .later }
def SexpOwnUptoCardSaid : Prop := Claim7.holds Tryz.pinned (.plain (OpenSpec.upto sexpOwnSpec)) sexpOwnUptoCard
end Rows
end Go.Proofs.YtpkdiciinhjfjaaGreatDoor
