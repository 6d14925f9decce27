/-
  DERIVED. GIVEN WITH THE SEED: THE CARDS: each row of YtpgklkhgfcjceaaGreatDoorRows.lean that lists a variable, with what it lists TIED to the program's text (the seventh form; the later family's looks); each row that meets fmt, with fmt's text TOLD by the authors' own Lean function (tested against real Go, not proved from fmt's source: count such statements apart). THE CARD IS WHAT COUNTS. Prove the row's statement (the work); the ties are given (YtpgklkhgfcjceaaGreatDoorTie.lean); close each card by the builder's one call (the guide's Derived/Test/ToyasCard.lean, 'card_holds'). Laid BY PROGRAM, IN A SANDBOX (cutbox-door.mjs). By AI agents, Wed Nov 11 2026. No macro, syntax, notation, axiom, sorry.
-/
import Derived.Test.YtpgklkhgfcjceaaGreatDoorRows
import GoSem.ClaimSeven
namespace Go.Proofs.YtpgklkhgfcjceaaGreatDoor
namespace Rows

/-- THE TIED CARD OF 'linkerkeep.Operated'. -/
def operatedCard : Claim7 := { stood := { row := operatedRow, standIns := [], harness := (true, "d8820916b6c4764cb9c9f0fb878d3c089c363b8140bb2ad9c6bb89601e3a218a"), looks := false }, kinds := [], alts := [], laidByText := true, laidKinds := [.data, .data, .data], laidTests := true, laidLooks := .later }
def OperatedCardSaid : Prop := Claim7.holds Tryz.pinned (.plain (OpenSpec.ofChange operatedSpec)) operatedCard

/-- THE TIED CARD OF 'linkerkeep.Sums'. -/
def sumsCard : Claim7 := { stood := { row := sumsRow, standIns := [], harness := (true, "d8820916b6c4764cb9c9f0fb878d3c089c363b8140bb2ad9c6bb89601e3a218a"), looks := false }, kinds := [], alts := [], laidByText := true, laidKinds := [.data, .data, .data], laidTests := true, laidLooks := .later }
def SumsCardSaid : Prop := Claim7.holds Tryz.pinned (.plain (OpenSpec.ofChange sumsSpec)) sumsCard

/-- THE TIED CARD OF 'linkerkeep.Calls'. -/
def callsCard : Claim7 := { stood := { row := callsRow, standIns := [], harness := (true, "d8820916b6c4764cb9c9f0fb878d3c089c363b8140bb2ad9c6bb89601e3a218a"), looks := false }, kinds := [], alts := [], laidByText := true, laidKinds := [.data, .data, .data], laidTests := true, laidLooks := .later }
def CallsCardSaid : Prop := Claim7.holds Tryz.pinned (.plain (OpenSpec.ofChange callsSpec)) callsCard

/-- THE TIED CARD OF 'linkerkeep.Stored'. -/
def storedCard : Claim7 := { stood := { row := storedRow, standIns := [], harness := (true, "d8820916b6c4764cb9c9f0fb878d3c089c363b8140bb2ad9c6bb89601e3a218a"), looks := false }, kinds := [], alts := [], laidByText := true, laidKinds := [.data, .data, .data], laidTests := true, laidLooks := .later }
def StoredCardSaid : Prop := Claim7.holds Tryz.pinned (.plain (OpenSpec.ofChange storedSpec)) storedCard

/-- THE SECOND FORM's CARD OF 'linkerkeep.Operated'. -/
def operatedUptoCard : Claim7 := { stood := { row := operatedUptoRow, standIns := [], harness := (true, "d8820916b6c4764cb9c9f0fb878d3c089c363b8140bb2ad9c6bb89601e3a218a"), looks := false }, kinds := [], alts := [], laidByText := true, laidKinds := [.data, .data, .data], laidTests := true, laidLooks := .later }
def OperatedUptoCardSaid : Prop := Claim7.holds Tryz.pinned (.plain (OpenSpec.upto operatedSpec)) operatedUptoCard

/-- THE SECOND FORM's CARD OF 'linkerkeep.Sums'. -/
def sumsUptoCard : Claim7 := { stood := { row := sumsUptoRow, standIns := [], harness := (true, "d8820916b6c4764cb9c9f0fb878d3c089c363b8140bb2ad9c6bb89601e3a218a"), looks := false }, kinds := [], alts := [], laidByText := true, laidKinds := [.data, .data, .data], laidTests := true, laidLooks := .later }
def SumsUptoCardSaid : Prop := Claim7.holds Tryz.pinned (.plain (OpenSpec.upto sumsSpec)) sumsUptoCard

/-- THE SECOND FORM's CARD OF 'linkerkeep.Calls'. -/
def callsUptoCard : Claim7 := { stood := { row := callsUptoRow, standIns := [], harness := (true, "d8820916b6c4764cb9c9f0fb878d3c089c363b8140bb2ad9c6bb89601e3a218a"), looks := false }, kinds := [], alts := [], laidByText := true, laidKinds := [.data, .data, .data], laidTests := true, laidLooks := .later }
def CallsUptoCardSaid : Prop := Claim7.holds Tryz.pinned (.plain (OpenSpec.upto callsSpec)) callsUptoCard

/-- THE SECOND FORM's CARD OF 'linkerkeep.Stored'. -/
def storedUptoCard : Claim7 := { stood := { row := storedUptoRow, standIns := [], harness := (true, "d8820916b6c4764cb9c9f0fb878d3c089c363b8140bb2ad9c6bb89601e3a218a"), looks := false }, kinds := [], alts := [], laidByText := true, laidKinds := [.data, .data, .data], laidTests := true, laidLooks := .later }
def StoredUptoCardSaid : Prop := Claim7.holds Tryz.pinned (.plain (OpenSpec.upto storedSpec)) storedUptoCard
end Rows
end Go.Proofs.YtpgklkhgfcjceaaGreatDoor
