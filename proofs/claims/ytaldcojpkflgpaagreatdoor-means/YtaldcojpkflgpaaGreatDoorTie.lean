/-
  DERIVED. GIVEN WITH THE SEED: THE PROGRAM's TIES (one call each: nine closed facts by the kernel) AND EACH ROW's TIE, after the 31st guide's Derived/Test/Toyas{Tie, Card}.lean. No idea stands in it: it is a product of the set-up. Laid BY PROGRAM, IN A SANDBOX (cutbox-door.mjs). By AI agents, Wed Nov 11 2026. No macro, syntax, notation, axiom, sorry.
-/
import Derived.Test.YtaldcojpkflgpaaGreatDoorRows
import Derived.LaidByTextLater
import Derived.SevenTiedAt
import Derived.LaidSub
import Derived.LaidOnce
namespace Go.Proofs.YtaldcojpkflgpaaGreatDoor
open Go
set_option maxRecDepth 100000
theorem seatTie1 : Tryz.prog.laidByTextLater [("linker/instr.forms", Rows.laid_linker_instr_forms), ("linker/instr.fixed", Rows.laid_linker_instr_fixed), ("linker/instr.names", Rows.laid_linker_instr_names)] [.data, .data, .data] true :=
  Program.laidByTextLater_by_one 24 8 27 (by kernel_rfl) (by kernel_rfl) (by kernel_rfl) (by kernel_rfl) (by kernel_rfl) (by kernel_rfl) (fun _ _ => by kernel_rfl)
theorem noOwnUnsafe : Tryz.pinned.checked.prog.headLifts.contains "ownunsafe" = false := by kernel_rfl
theorem tie : Tryz.prog.laidByTextLater [("linker/instr.forms", Rows.laid_linker_instr_forms), ("linker/instr.fixed", Rows.laid_linker_instr_fixed), ("linker/instr.names", Rows.laid_linker_instr_names)] [.data, .data, .data] true :=
  Program.laidByTextLater.sub seatTie1 ["linker/instr.forms", "linker/instr.fixed", "linker/instr.names"] (by kernel_rfl) (by kernel_rfl)
theorem means_row_tie : Rows.meansRow.laidByTextAt .later Tryz.pinned [.data, .data, .data] true :=
  OpenClaim.laidByTextAt_later rfl rfl tie noOwnUnsafe
theorem meansUpto_row_tie : Rows.meansUptoRow.laidByTextAt .later Tryz.pinned [.data, .data, .data] true :=
  OpenClaim.laidByTextAt_later rfl rfl tie noOwnUnsafe
end Go.Proofs.YtaldcojpkflgpaaGreatDoor
