/-
  DERIVED. GIVEN WITH THE SEED: THE CARDS: each row of YtaldcojpkflgpaaGreatDoorRows.lean that lists a variable, with what it lists TIED to the program's text (the seventh form; the later family's looks); each row that meets fmt, with fmt's text TOLD by the authors' own Lean function (tested against real Go, not proved from fmt's source: count such statements apart). THE CARD IS WHAT COUNTS. Prove the row's statement (the work); the ties are given (YtaldcojpkflgpaaGreatDoorTie.lean); close each card by the builder's one call (the guide's Derived/Test/ToyasCard.lean, 'card_holds'). Laid BY PROGRAM, IN A SANDBOX (cutbox-door.mjs). By AI agents, Wed Nov 11 2026. No macro, syntax, notation, axiom, sorry.
-/
import Derived.Test.YtaldcojpkflgpaaGreatDoorRows
import GoSem.ClaimSeven
namespace Go.Proofs.YtaldcojpkflgpaaGreatDoor
namespace Rows

/-- THE TIED CARD OF 'linkerkeep.Means'. -/
def meansCard : Claim7 := { stood := { row := meansRow, standIns := [], harness := (true, "ff32838650b3d3732542fdbaabf3ff37b93c102f0231f25870873b124ceca6bb"), looks := false }, kinds := [], alts := [], laidByText := true, laidKinds := [.data, .data, .data], laidTests := true, laidLooks := .later }
def MeansCardSaid : Prop := Claim7.holds Tryz.pinned (.plain (OpenSpec.ofChange meansSpec)) meansCard

/-- THE SECOND FORM's CARD OF 'linkerkeep.Means'. -/
def meansUptoCard : Claim7 := { stood := { row := meansUptoRow, standIns := [], harness := (true, "ff32838650b3d3732542fdbaabf3ff37b93c102f0231f25870873b124ceca6bb"), looks := false }, kinds := [], alts := [], laidByText := true, laidKinds := [.data, .data, .data], laidTests := true, laidLooks := .later }
def MeansUptoCardSaid : Prop := Claim7.holds Tryz.pinned (.plain (OpenSpec.upto meansSpec)) meansUptoCard
end Rows
end Go.Proofs.YtaldcojpkflgpaaGreatDoor
