/-
  DERIVED. GIVEN WITH THE SEED: THE CARDS: each row of YtelehpmjhjljgaaGreatDoorRows.lean that lists a variable, with what it lists TIED to the program's text (the seventh form; the later family's looks); each row that meets fmt, with fmt's text TOLD by the authors' own Lean function (tested against real Go, not proved from fmt's source: count such statements apart). THE CARD IS WHAT COUNTS. Prove the row's statement (the work); the ties are given (YtelehpmjhjljgaaGreatDoorTie.lean); close each card by the builder's one call (the guide's Derived/Test/ToyasCard.lean, 'card_holds'). Laid BY PROGRAM, IN A SANDBOX (cutbox-door.mjs). By AI agents, Wed Nov 11 2026. No macro, syntax, notation, axiom, sorry.
-/
import Derived.Test.YtelehpmjhjljgaaGreatDoorRows
import GoSem.ClaimSeven
namespace Go.Proofs.YtelehpmjhjljgaaGreatDoor
namespace Rows

/-- THE TIED CARD OF 'linkerlaw.Linked'. -/
def linkedCard : Claim7 := { stood := { row := linkedRow, standIns := [], harness := (true, "3b08e87534d2bab954ad2124a29ed06feb3e0274986ed26dd4bbf0d8da2ba02c"), looks := false }, kinds := [], alts := [], laidByText := true, laidKinds := [.data, .data], laidTests := true, laidLooks := .later }
def LinkedCardSaid : Prop := Claim7.holds Tryz.pinned (.plain (OpenSpec.ofChange linkedSpec)) linkedCard

/-- THE SECOND FORM's CARD OF 'linkerlaw.Linked'. -/
def linkedUptoCard : Claim7 := { stood := { row := linkedUptoRow, standIns := [], harness := (true, "3b08e87534d2bab954ad2124a29ed06feb3e0274986ed26dd4bbf0d8da2ba02c"), looks := false }, kinds := [], alts := [], laidByText := true, laidKinds := [.data, .data], laidTests := true, laidLooks := .later }
def LinkedUptoCardSaid : Prop := Claim7.holds Tryz.pinned (.plain (OpenSpec.upto linkedSpec)) linkedUptoCard
end Rows
end Go.Proofs.YtelehpmjhjljgaaGreatDoor
