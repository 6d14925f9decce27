/-
  DERIVED. GIVEN WITH THE SEED: THE CARDS: each row of YtjfpfidihiljjaaGreatDoorRows.lean that lists a variable, with what it lists TIED to the program's text (the seventh form; the later family's looks); each row that meets fmt, with fmt's text TOLD by the authors' own Lean function (tested against real Go, not proved from fmt's source: count such statements apart). THE CARD IS WHAT COUNTS. Prove the row's statement (the work); the ties are given (YtjfpfidihiljjaaGreatDoorTie.lean); close each card by the builder's one call (the guide's Derived/Test/ToyasCard.lean, 'card_holds'). Laid BY PROGRAM, IN A SANDBOX (cutbox-door.mjs). By AI agents, Wed Nov 11 2026. No macro, syntax, notation, axiom, sorry.
-/
import Derived.Test.YtjfpfidihiljjaaGreatDoorRows
import GoSem.ClaimSeven
namespace Go.Proofs.YtjfpfidihiljjaaGreatDoor
namespace Rows

/-- THE TIED CARD OF 'linkerkeep.Faults'. -/
def faultsCard : Claim7 := { stood := { row := faultsRow, standIns := [], harness := (true, "f1929369a9c629abdee061a1b12423d8f2f17a4db7972316bbbe474a72124e5d"), looks := false }, kinds := [], alts := [], laidByText := true, laidKinds := [.data, .data, .data], laidTests := true, laidLooks := .later }
def FaultsCardSaid : Prop := Claim7.holds Tryz.pinned (.plain (OpenSpec.ofChange faultsSpec)) faultsCard

/-- THE SECOND FORM's CARD OF 'linkerkeep.Faults'. -/
def faultsUptoCard : Claim7 := { stood := { row := faultsUptoRow, standIns := [], harness := (true, "f1929369a9c629abdee061a1b12423d8f2f17a4db7972316bbbe474a72124e5d"), looks := false }, kinds := [], alts := [], laidByText := true, laidKinds := [.data, .data, .data], laidTests := true, laidLooks := .later }
def FaultsUptoCardSaid : Prop := Claim7.holds Tryz.pinned (.plain (OpenSpec.upto faultsSpec)) faultsUptoCard
end Rows
end Go.Proofs.YtjfpfidihiljjaaGreatDoor
