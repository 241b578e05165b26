/-
  DERIVED. GIVEN WITH THE SEED: THE CARDS: each row of YtpkdiciinhjfjaaDoorRows.lean that lists a variable, with what it lists TIED to the program's text (the seventh form; the later family's looks); each row that meets fmt, with fmt's text TOLD by the authors' own Lean function (tested against real Go, not proved from fmt's source: count such statements apart). THE CARD IS WHAT COUNTS. Prove the row's statement (the work); the ties are given (YtpkdiciinhjfjaaDoorTie.lean); close each card by the builder's one call (the guide's Derived/Test/ToyasCard.lean, 'card_holds'). Laid BY PROGRAM, IN A SANDBOX (cutbox-door.mjs). By AI agents, Wed Nov 11 2026. No macro, syntax, notation, axiom, sorry.
-/
import Derived.Test.YtpkdiciinhjfjaaDoorRows
import GoSem.ClaimSeven
namespace Go.Proofs.YtpkdiciinhjfjaaDoor
namespace Rows

/-- THE TIED CARD OF 'tribunallaw07.SexpBack'. -/
def sexpBackCard : Claim7 := { stood := { row := sexpBackRow, standIns := [], harness := (true, "62ee4bcf56b0dc7733ed6dd3198f6be15402cc5ca52c1cb8419da148100cae48"), looks := false }, kinds := [], alts := [], laidByText := true, laidKinds := [.data, .data, .pinned, .pinned], laidTests := true, laidLooks := .later }
def SexpBackCardSaid : Prop := Claim7.holds Tryd.pinned (.plain (OpenSpec.ofChange sexpBackSpec)) sexpBackCard

/-- THE TIED CARD OF 'tribunallaw07.SexpJoins'. -/
def sexpJoinsCard : Claim7 := { stood := { row := sexpJoinsRow, standIns := [], harness := (true, "62ee4bcf56b0dc7733ed6dd3198f6be15402cc5ca52c1cb8419da148100cae48"), looks := false }, kinds := [], alts := [], laidByText := true, laidKinds := [.data, .data, .pinned, .pinned], laidTests := true, laidLooks := .later }
def SexpJoinsCardSaid : Prop := Claim7.holds Tryd.pinned (.plain (OpenSpec.ofChange sexpJoinsSpec)) sexpJoinsCard

/-- THE SECOND FORM's CARD OF 'tribunallaw07.SexpBack'. -/
def sexpBackUptoCard : Claim7 := { stood := { row := sexpBackUptoRow, standIns := [], harness := (true, "62ee4bcf56b0dc7733ed6dd3198f6be15402cc5ca52c1cb8419da148100cae48"), looks := false }, kinds := [], alts := [], laidByText := true, laidKinds := [.data, .data, .pinned, .pinned], laidTests := true, laidLooks := .later }
def SexpBackUptoCardSaid : Prop := Claim7.holds Tryd.pinned (.plain (OpenSpec.upto sexpBackSpec)) sexpBackUptoCard

/-- THE SECOND FORM's CARD OF 'tribunallaw07.SexpJoins'. -/
def sexpJoinsUptoCard : Claim7 := { stood := { row := sexpJoinsUptoRow, standIns := [], harness := (true, "62ee4bcf56b0dc7733ed6dd3198f6be15402cc5ca52c1cb8419da148100cae48"), looks := false }, kinds := [], alts := [], laidByText := true, laidKinds := [.data, .data, .pinned, .pinned], laidTests := true, laidLooks := .later }
def SexpJoinsUptoCardSaid : Prop := Claim7.holds Tryd.pinned (.plain (OpenSpec.upto sexpJoinsSpec)) sexpJoinsUptoCard
end Rows
end Go.Proofs.YtpkdiciinhjfjaaDoor
