/-
  DERIVED. GIVEN WITH THE SEED: THE CARDS: each row of YtogbomihnhfaiaaDoorRows.lean that lists a variable, with what it lists TIED to the program's text (the seventh form; the later family's looks); each row that meets fmt, with fmt's text TOLD by the authors' own Lean function (tested against real Go, not proved from fmt's source: count such statements apart). THE CARD IS WHAT COUNTS. Prove the row's statement (the work); the ties are given (YtogbomihnhfaiaaDoorTie.lean); close each card by the builder's one call (the guide's Derived/Test/ToyasCard.lean, 'card_holds'). Laid BY PROGRAM, IN A SANDBOX (cutbox-door.mjs). By AI agents, Wed Nov 11 2026. No macro, syntax, notation, axiom, sorry.
-/
import Derived.Test.YtogbomihnhfaiaaDoorRows
import GoSem.ClaimSeven
namespace Go.Proofs.YtogbomihnhfaiaaDoor
namespace Rows

/-- THE TIED CARD OF 'linkerlaw.Files'. -/
def filesCard : Claim7 := { stood := { row := filesRow, standIns := [], harness := (true, "222eec1430e360ffc98e3e812c9e2f630577356166f67f4ba3118ac67baf23c2"), looks := false }, kinds := [], alts := [], laidByText := true, laidKinds := [.data, .data], laidTests := true, laidLooks := .later }
def FilesCardSaid : Prop := Claim7.holds Tryd.pinned (.plain (OpenSpec.ofChange filesSpec)) filesCard

/-- THE SECOND FORM's CARD OF 'linkerlaw.Files'. -/
def filesUptoCard : Claim7 := { stood := { row := filesUptoRow, standIns := [], harness := (true, "222eec1430e360ffc98e3e812c9e2f630577356166f67f4ba3118ac67baf23c2"), looks := false }, kinds := [], alts := [], laidByText := true, laidKinds := [.data, .data], laidTests := true, laidLooks := .later }
def FilesUptoCardSaid : Prop := Claim7.holds Tryd.pinned (.plain (OpenSpec.upto filesSpec)) filesUptoCard
end Rows
end Go.Proofs.YtogbomihnhfaiaaDoor
