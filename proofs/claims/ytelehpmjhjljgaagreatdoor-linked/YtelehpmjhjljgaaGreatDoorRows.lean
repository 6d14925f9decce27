/-
  NARROWER THAN 'FOR EVERY INPUT', by the rows' own cells (each row's printed sentence says how): Linked: laid.
  DERIVED. THE GIVEN ROWS OF THIS SEAT. 1 by the template 'for every input the law returns true; each argument reads behind the call as it read before'; 0 by the template 'total and deterministic' (their statements: YtelehpmjhjljgaaGreatDoorTotals.lean).
  GIVEN WITH THE SEED: the statements are not yours to turn. If you find one false, say at which input.
  Laid BY PROGRAM, IN A SANDBOX (cutbox-rows.mjs): the forced cells as the released guide's own fill.sh prints them over the translation fb7e5a380c15fc93… (all of the seat's roots in one cut). By AI agents, Wed Nov 11 2026. No macro, syntax, notation, axiom, sorry.
-/
import Derived.Test.YtelehpmjhjljgaaGreatDoorChecked
import GoSem.Claim
import GoSem.ClaimJoined
import GoSem.ClaimMapViews
import Derived.JoinedTies
import Derived.KernelRfl
namespace Go.Proofs.YtelehpmjhjljgaaGreatDoor
/- THE CELL 'sum', in the pinned program and in every row, IS THE sha256 OF THE DUMP (.gsa) THAT YtelehpmjhjljgaaGreatDoorProg.lean LOADS. Nothing in Lean hashes anything: it is a label: what it is worth is what the hold of that sum in a sandbox is worth. -/
noncomputable def Tryz.pinned : Pinned := { name := "ytelehpmjhjljgaagreatdoor", sum := "fb7e5a380c15fc93069f0f2a5f9afa0ce3e0231accf7d85f7d2571d2a0a6dec2", checked := Tryz.checked }
namespace Rows
def none {H : Type} : Left H := { results := [], args := [] }

/- WHAT THE LISTED PACKAGE-LEVEL VARIABLES READ AS WHEN THE CALL BEGINS. Each datum BY PROGRAM (the guide's laid-datum.mjs) off the statement by which the dump's own 'gosem.cut.vars' lays the variable. In a bare row this is a premise. The card (YtelehpmjhjljgaaGreatDoorCards.lean) ties it to the program's text. -/
def laid_linker_instr_forms {H : Type} : DataW H := .agg [.lit (.int .i64 0), .lit (.int .i64 1), .lit (.int .i64 1), .lit (.int .i64 2), .lit (.int .i64 3), .lit (.int .i64 4), .lit (.int .i64 4), .lit (.int .i64 4), .lit (.int .i64 4), .lit (.int .i64 4), .lit (.int .i64 4), .lit (.int .i64 3), .lit (.int .i64 5), .lit (.int .i64 3), .lit (.int .i64 3), .lit (.int .i64 3), .lit (.int .i64 3), .lit (.int .i64 3), .lit (.int .i64 6), .lit (.int .i64 6), .lit (.int .i64 6), .lit (.int .i64 6), .lit (.int .i64 6), .lit (.int .i64 6), .lit (.int .i64 6), .lit (.int .i64 7)]
def laid_linker_instr_fixed {H : Type} : DataW H := .agg [.lit (.int .i64 0), .lit (.int .i64 55), .lit (.int .i64 23), .lit (.int .i64 111), .lit (.int .i64 103), .lit (.int .i64 99), .lit (.int .i64 4195), .lit (.int .i64 16483), .lit (.int .i64 20579), .lit (.int .i64 24675), .lit (.int .i64 28771), .lit (.int .i64 8195), .lit (.int .i64 8227), .lit (.int .i64 19), .lit (.int .i64 8211), .lit (.int .i64 16403), .lit (.int .i64 24595), .lit (.int .i64 28691), .lit (.int .i64 51), .lit (.int .i64 1073741875), .lit (.int .i64 8243), .lit (.int .i64 12339), .lit (.int .i64 16435), .lit (.int .i64 24627), .lit (.int .i64 28723), .lit (.int .i64 115)]

/-- 'linkerlaw.Linked': WHATEVER THE INPUT: true; the input reads as it did. -/
def linkedSpec : ChangeSpec := { name := "linked", fn := fun _ => fun
  | [d1, d2, d3, d4] => { results := [.lit (.bool true)], args := [d1, d2, d3, d4] }
  | _ => none }
def linkedRow : OpenClaim := { program := "ytelehpmjhjljgaagreatdoor", sum := "fb7e5a380c15fc93069f0f2a5f9afa0ce3e0231accf7d85f7d2571d2a0a6dec2", func := "linker/linkerlaw.Linked", spec := "linked", named := ["linker/instr.forms", "linker/instr.fixed"], apart := false, laid := [("linker/instr.forms", laid_linker_instr_forms), ("linker/instr.fixed", laid_linker_instr_fixed)] }
def LinkedSaid : Prop := linkedRow.holds Tryz.pinned (OpenSpec.ofChange linkedSpec)

/-- ITS FALSE NEIGHBOUR: 'it returns false'. Refute it at one input. -/
def linkedWrong : ChangeSpec := { name := "linked", fn := fun _ => fun
  | [d1, d2, d3, d4] => { results := [.lit (.bool false)], args := [d1, d2, d3, d4] }
  | _ => none }
def LinkedWrongFalsely : Prop := linkedRow.holds Tryz.pinned (OpenSpec.ofChange linkedWrong)

/- THE SECOND FORM. 'bulk': how many values and letters a reading holds, each counted each time it is reached (what is shared counts as often as it is met; a slice's spare places count too). A statement '..UptoSaid' is the law's where the arguments, and the package variables that the reading takes, are together of bulk at most 1048576: NARROWER than '..Said'. Prove '..Said' where nothing that the law and all that it calls make is longer than what came in: it says more and counts as full. Else prove '..UptoSaid'. A law counts once. -/
mutual
def uptoBulk {H : Type} : DataW H → Nat
  | .lit (.string bytes) => bytes.length + 1
  | .lit _ => 1
  | .nil => 1
  | .ptr d => uptoBulk d + 1
  | .slice elems spare => uptoBulkAll elems + uptoBulkAll spare + 1
  | .agg parts => uptoBulkAll parts + 1
  | .iface _ d => uptoBulk d + 1
  | .map entries => uptoBulkEntries entries + 1
  | .held _ => 1
def uptoBulkAll {H : Type} : List (DataW H) → Nat
  | [] => 0
  | d :: r => uptoBulk d + uptoBulkAll r
def uptoBulkEntries {H : Type} : List (Lit × DataW H) → Nat
  | [] => 0
  | x :: r => uptoBulkEntry x + uptoBulkEntries r
def uptoBulkEntry {H : Type} : Lit × DataW H → Nat
  | (.string bytes, d) => bytes.length + uptoBulk d + 1
  | (_, d) => uptoBulk d + 1
 end
def uptoSmall : (H : Type) → List (DataW H) → Bool := fun _ ds => decide (uptoBulkAll ds ≤ 1048576)
def OpenSpec.upto (s : _root_.Go.ChangeSpec) : _root_.Go.OpenSpec := { _root_.Go.OpenSpec.ofChange s with cond := some uptoSmall }

/-- 'linkerlaw.Linked', WHERE WHAT IT READS IS OF BULK AT MOST 1048576: true; the input reads as it did. -/
def linkedUptoRow : OpenClaim := { program := "ytelehpmjhjljgaagreatdoor", sum := "fb7e5a380c15fc93069f0f2a5f9afa0ce3e0231accf7d85f7d2571d2a0a6dec2", func := "linker/linkerlaw.Linked", spec := "linked", named := ["linker/instr.forms", "linker/instr.fixed"], apart := false, laid := [("linker/instr.forms", laid_linker_instr_forms), ("linker/instr.fixed", laid_linker_instr_fixed)], narrowed := true }
def LinkedUptoSaid : Prop := linkedUptoRow.holds Tryz.pinned (OpenSpec.upto linkedSpec)

end Rows
end Go.Proofs.YtelehpmjhjljgaaGreatDoor
