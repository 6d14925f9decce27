/-
  DERIVED. GIVEN WITH THE SEED: THE CARDS: each row of YtnfgdlkiialnnaaGreatDoorRows.lean that lists a variable, with what it lists TIED to the program's text (the seventh form; the later family's looks); each row that meets fmt, with fmt's text TOLD by the authors' own Lean function (tested against real Go, not proved from fmt's source: count such statements apart). THE CARD IS WHAT COUNTS. Prove the row's statement (the work); the ties are given (YtnfgdlkiialnnaaGreatDoorTie.lean); close each card by the builder's one call (the guide's Derived/Test/ToyasCard.lean, 'card_holds'). Laid BY PROGRAM, IN A SANDBOX (cutbox-door.mjs). By AI agents, Wed Nov 11 2026. No macro, syntax, notation, axiom, sorry.
-/
import Derived.Test.YtnfgdlkiialnnaaGreatDoorRows
import GoSem.ClaimSeven
namespace Go.Proofs.YtnfgdlkiialnnaaGreatDoor
namespace Rows

/-- THE TIED CARD OF 'linkerkeep.Archived'. -/
def archivedCard : Claim7 := { stood := { row := archivedRow, standIns := [], harness := (true, "440973c786f31d0aad47449881b0b25d38b064709c898bfcfafc7d618a596550"), looks := false }, kinds := [], alts := [], laidByText := true, laidKinds := [.data, .data, .data], laidTests := true, laidLooks := .later }
def ArchivedCardSaid : Prop := Claim7.holds Tryz.pinned (.plain (OpenSpec.ofChange archivedSpec)) archivedCard

/-- THE TIED CARD OF 'linkerkeep.Weakly'. -/
def weaklyCard : Claim7 := { stood := { row := weaklyRow, standIns := [], harness := (true, "440973c786f31d0aad47449881b0b25d38b064709c898bfcfafc7d618a596550"), looks := false }, kinds := [], alts := [], laidByText := true, laidKinds := [.data, .data, .data], laidTests := true, laidLooks := .later }
def WeaklyCardSaid : Prop := Claim7.holds Tryz.pinned (.plain (OpenSpec.ofChange weaklySpec)) weaklyCard

/-- THE TIED CARD OF 'linkerkeep.Bordered'. -/
def borderedCard : Claim7 := { stood := { row := borderedRow, standIns := [], harness := (true, "440973c786f31d0aad47449881b0b25d38b064709c898bfcfafc7d618a596550"), looks := false }, kinds := [], alts := [], laidByText := true, laidKinds := [.data, .data, .data], laidTests := true, laidLooks := .later }
def BorderedCardSaid : Prop := Claim7.holds Tryz.pinned (.plain (OpenSpec.ofChange borderedSpec)) borderedCard

/-- THE TIED CARD OF 'linkerkeep.Broken'. -/
def brokenCard : Claim7 := { stood := { row := brokenRow, standIns := [], harness := (true, "440973c786f31d0aad47449881b0b25d38b064709c898bfcfafc7d618a596550"), looks := false }, kinds := [], alts := [], laidByText := true, laidKinds := [.data, .data, .data], laidTests := true, laidLooks := .later }
def BrokenCardSaid : Prop := Claim7.holds Tryz.pinned (.plain (OpenSpec.ofChange brokenSpec)) brokenCard

/-- THE SECOND FORM's CARD OF 'linkerkeep.Archived'. -/
def archivedUptoCard : Claim7 := { stood := { row := archivedUptoRow, standIns := [], harness := (true, "440973c786f31d0aad47449881b0b25d38b064709c898bfcfafc7d618a596550"), looks := false }, kinds := [], alts := [], laidByText := true, laidKinds := [.data, .data, .data], laidTests := true, laidLooks := .later }
def ArchivedUptoCardSaid : Prop := Claim7.holds Tryz.pinned (.plain (OpenSpec.upto archivedSpec)) archivedUptoCard

/-- THE SECOND FORM's CARD OF 'linkerkeep.Weakly'. -/
def weaklyUptoCard : Claim7 := { stood := { row := weaklyUptoRow, standIns := [], harness := (true, "440973c786f31d0aad47449881b0b25d38b064709c898bfcfafc7d618a596550"), looks := false }, kinds := [], alts := [], laidByText := true, laidKinds := [.data, .data, .data], laidTests := true, laidLooks := .later }
def WeaklyUptoCardSaid : Prop := Claim7.holds Tryz.pinned (.plain (OpenSpec.upto weaklySpec)) weaklyUptoCard

/-- THE SECOND FORM's CARD OF 'linkerkeep.Bordered'. -/
def borderedUptoCard : Claim7 := { stood := { row := borderedUptoRow, standIns := [], harness := (true, "440973c786f31d0aad47449881b0b25d38b064709c898bfcfafc7d618a596550"), looks := false }, kinds := [], alts := [], laidByText := true, laidKinds := [.data, .data, .data], laidTests := true, laidLooks := .later }
def BorderedUptoCardSaid : Prop := Claim7.holds Tryz.pinned (.plain (OpenSpec.upto borderedSpec)) borderedUptoCard

/-- THE SECOND FORM's CARD OF 'linkerkeep.Broken'. -/
def brokenUptoCard : Claim7 := { stood := { row := brokenUptoRow, standIns := [], harness := (true, "440973c786f31d0aad47449881b0b25d38b064709c898bfcfafc7d618a596550"), looks := false }, kinds := [], alts := [], laidByText := true, laidKinds := [.data, .data, .data], laidTests := true, laidLooks := .later }
def BrokenUptoCardSaid : Prop := Claim7.holds Tryz.pinned (.plain (OpenSpec.upto brokenSpec)) brokenUptoCard
end Rows
end Go.Proofs.YtnfgdlkiialnnaaGreatDoor
