/-
  DERIVED. GIVEN WITH THE SEED: THE CARDS: each row of YtnkkepfcpjllmaaGreatDoorRows.lean that lists a variable, with what it lists TIED to the program's text (the seventh form; the later family's looks); each row that meets fmt, with fmt's text TOLD by the authors' own Lean function (tested against real Go, not proved from fmt's source: count such statements apart). THE CARD IS WHAT COUNTS. Prove the row's statement (the work); the ties are given (YtnkkepfcpjllmaaGreatDoorTie.lean); close each card by the builder's one call (the guide's Derived/Test/ToyasCard.lean, 'card_holds'). Laid BY PROGRAM, IN A SANDBOX (cutbox-door.mjs). By AI agents, Wed Nov 11 2026. No macro, syntax, notation, axiom, sorry.
-/
import Derived.Test.YtnkkepfcpjllmaaGreatDoorRows
import GoSem.ClaimSeven
namespace Go.Proofs.YtnkkepfcpjllmaaGreatDoor
namespace Rows

/-- THE TIED CARD OF 'linkerlaw.Assembled'. -/
def assembledCard : Claim7 := { stood := { row := assembledRow, standIns := [], harness := (true, "6d9443d75ace504185d8fd4b00539c284c31b122c9203779abfa756f4d2ab78b"), looks := false }, kinds := [], alts := [], laidByText := true, laidKinds := [.data, .data, .data], laidTests := true, laidLooks := .later }
def AssembledCardSaid : Prop := Claim7.holds Tryz.pinned (.plain (OpenSpec.ofChange assembledSpec)) assembledCard

/-- THE SECOND FORM's CARD OF 'linkerlaw.Assembled'. -/
def assembledUptoCard : Claim7 := { stood := { row := assembledUptoRow, standIns := [], harness := (true, "6d9443d75ace504185d8fd4b00539c284c31b122c9203779abfa756f4d2ab78b"), looks := false }, kinds := [], alts := [], laidByText := true, laidKinds := [.data, .data, .data], laidTests := true, laidLooks := .later }
def AssembledUptoCardSaid : Prop := Claim7.holds Tryz.pinned (.plain (OpenSpec.upto assembledSpec)) assembledUptoCard
end Rows
end Go.Proofs.YtnkkepfcpjllmaaGreatDoor
