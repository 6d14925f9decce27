/- The row and the card of Files. -/
import Derived.Test.YtafjgogdeinpcaaDoorCards
import Derived.Test.YtafjgogdeinpcaaDoorTie
import Derived.Test.YtafjgogdeinpcaaDoorGN
import Derived.ProofKit
import Derived.OpenShut
import Derived.ChangeMaps5
import Derived.Deep.DeepHandedRow
import Derived.Lib.LaidTab
namespace Go.Proofs.YtafjgogdeinpcaaDoor
open Go.ChangeShapes Go.WideShapes Go.ChangeAt Go.RowKit

theorem ownKnobNone : ownKnob Tryd.prog.godebug = none := by kernel_rfl
theorem gForm : Tryd.prog.globalNamed "linker/instr.forms" = some 0 := by kernel_rfl
theorem gFix : Tryd.prog.globalNamed "linker/instr.fixed" = some 1 := by kernel_rfl
theorem gFormType : (Tryd.prog.globals[0]?).map (·.type) = some 114 := by kernel_rfl
theorem gFixType : (Tryd.prog.globals[1]?).map (·.type) = some 114 := by kernel_rfl
theorem cellsArr : Tryd.prog.cellsOf 114 = 26 := by kernel_rfl
theorem cellsInt : Tryd.prog.cellsOf 3 = 1 := by kernel_rfl

/-- what the row's list gives: the tables -/
theorem tabs_of_laid {W : World} (h : laidMetH Tryd.prog Rows.filesRow.laid W) : Tabs W := by
  have h' : laidMet Tryd.prog [("linker/instr.forms", Lib.tabData .i64 formL), ("linker/instr.fixed", Lib.tabData .i64 fixedL)] W := h
  have t1 : Lib.TabIs Tryd.prog W "linker/instr.forms" .i64 formL := Lib.tabIs_of_head gForm gFormType Tryd.underlying114 Tryd.underlying3 cellsInt cellsArr h'
  have t2 : Lib.TabIs Tryd.prog W "linker/instr.fixed" .i64 fixedL := by
    obtain ⟨ps, ⟨g', t', cs, fuel, p, q, hg', ht', hvar, hd, ⟨g2, t2, cs2, fuel2, p2, q2, hg2, ht2, hvar2, hd2, _, _⟩, _⟩, _⟩ := h'
    obtain rfl := Option.some.inj (gFix.symm.trans hg2)
    obtain rfl := Option.some.inj (gFixType.symm.trans ht2)
    unfold Lib.TabIs
    rw [hvar2, ← Lib.cells_of_tab Tryd.underlying114 Tryd.underlying3 cellsInt cellsArr hd2]
  exact ⟨fun i hi => t1.cell gForm i hi, fun i hi => t2.cell gFix i hi⟩

theorem kept_of_grown {W W' : World} (h : W.grownBy W' none) (may : MemPlace → Prop) : W.keptBut W' may := by
  refine World.keptBut_mono (fun _ f => f.elim) (?_ : W.keptBut W' (fun _ => False))
  refine ⟨h.os, h.output, fun i hi => ?_⟩
  rw [h.block i hi (by simp)]
  cases hb : W.heap[i]? with
  | none => trivial
  | some o => cases o <;> simp

set_option maxRecDepth 100000 in
theorem files_contract (H : Type) (enc : TypeId × Value → H) (W : World) (base : Nat) (args : Array Value) (ds gs : List (DataW H)) (before : List MemPlace)
    (hval : ∀ (j : Nat) t v, Tryd.f3.params[j]? = some t → args[j]? = some v → Value.okWide Tryd.prog W .any base t v)
    (hW : DataW.Whole enc Tryd.prog Tryd.f3.params.toList Rows.filesSpec.vars false W args.toList ds gs before) (hL : laidMetH Tryd.prog Rows.filesRow.laid W) :
    Calls Tryd.prog 3 args W fun e W' => ∃ v, e = .returned v ∧ Rows.filesSpec.post enc Tryd.prog Tryd.f3 false true false false W args v W' := by
  have hW' := hW
  obtain ⟨p, q, hA0, hV, rfl, hfz, hnd⟩ := hW
  have hA : DataW.TrodAll enc Tryd.prog W 0 (fun _ => true) true Tryd.f3.params.toList args.toList ds p := hA0
  rw [Tryd.params3] at hA hval
  obtain ⟨v0, vs0, d0, ds0, p0, q0, hargs, rfl, rfl, h0, r0⟩ := trodAll_cons hA
  obtain ⟨rfl, rfl, rfl⟩ := trodAll_nil r0
  obtain rfl : args = #[v0] := by cases args; simp_all
  obtain ⟨rfl, rfl⟩ := trodVars_none hV
  have hv : Value.okWide Tryd.prog W .any base 9 v0 := hval 0 9 v0 rfl rfl
  obtain ⟨s, rfl, rfl, rfl, hs⟩ := ChangeMaps.open_string (t := 9) Tryd.underlying9 hv h0
  clear hA0
  simp only [List.append_nil] at hW'
  refine (files_any s W (tabs_of_laid hL)).mono fun e W' ⟨he, hg⟩ => ?_
  subst he
  exact ⟨_, rfl, _, _, _, [], [], [], hW', trodAll_cons_mk (shut_bool Tryd.underlying4 _) trodAll_mk0, trodAll_cons_mk (ChangeMaps.shut_string Tryd.underlying9 hs) trodAll_mk0, rfl, kept_of_grown hg _, fun h => by cases h⟩

/-- a world for the witness: the settled one, the tables holding what is laid -/
def tabObj (zs : List Int) : Obj → Obj
  | .cells _ t frozen => .cells (zs.map (Value.int .i64)).toArray t frozen
  | o => o
noncomputable def laidWorld (os : Os) : World :=
  { World.holding Tryd.prog os ⟨#[], #[], []⟩ with heap := ((World.holding Tryd.prog os ⟨#[], #[], []⟩).heap.modify 0 (tabObj formL)).modify 1 (tabObj fixedL) }
theorem laid_met (os : Os) : laidMet Tryd.prog Rows.filesRow.laid ((laidWorld os).forCall (fun _ _ => 0) ⟨#[], #[.string ⟨#[]⟩], []⟩).memory :=
  laidMet_of_run' 8 (by kernel_rfl) (by kernel_rfl)
theorem witness_reads (os : Os) {H : Type} (enc : TypeId × Value → H) : ∃ places, DataW.whole enc Tryd.prog ((laidWorld os).forCall (fun _ _ => 0) ⟨#[], #[.string ⟨#[]⟩], []⟩).memory Tryd.f3.params.toList Rows.filesSpec.vars false #[Value.string ⟨#[]⟩].toList 8 = some ([.lit (.string [])], [], places) :=
  ⟨[], by kernel_rfl⟩

set_option maxRecDepth 100000 in
theorem files_lifted (os : Os) (started : os.Started) (H : Type) (enc : TypeId × Value → H) (F : Stop.Interp) :
    ReturnsInHanded {} Tryd.checked os 3 .any ((OpenSpec.ofChange Rows.filesSpec).preRow enc Tryd.prog Tryd.f3 Rows.filesRow.domain false Rows.filesRow.laid) (((OpenSpec.ofChange Rows.filesSpec).at F).post enc Tryd.prog Tryd.f3 false true false false) := by
  obtain ⟨places, hx⟩ := witness_reads os enc
  refine returnsInHanded_of_row (C := Tryd.checked) (s := OpenSpec.ofChange Rows.filesSpec) ownKnobNone started (by kernel_rfl) Tryd.func3
    (witness_row_at (enc := enc) (C := Tryd.checked) false (laidWorld os) #[.string ⟨#[]⟩] rfl (by kernel_rfl) (by kernel_rfl) (by kernel_rfl)
      (OpenSpec.preRow_of_cond 8 hx (by kernel_rfl) (fun k hk => by cases hk) (by kernel_rfl) (laid_met os))) ?_
  intro W base args ds gs before hval hW _ _ _ hL _ _
  exact files_contract H enc W base args ds gs before hval hW hL

theorem files_said : Rows.FilesSaid :=
  OpenClaim.holds_of_cond 3 Tryd.f3 rfl rfl rfl rfl rfl rfl rfl ⟨rfl, rfl, rfl, rfl, rfl⟩ rfl rfl rfl rfl rfl (by kernel_rfl) Tryd.func3 (by kernel_rfl)
    (of_decide_eq_true (by kernel_rfl)) (by unfold Func.isWrapper; first | (rw [if_pos (by decide +kernel)]; kernel_rfl) | (rw [if_neg (by decide +kernel)]; exact ⟨rfl, rfl⟩))
    (fun os started H enc _ F => by rw [OpenClaim.pre_eq_preRow]; exact files_lifted os started H enc F)

theorem files_plain (f : FuncId) (fn : Func) (hf : Tryd.pinned.checked.prog.funcNamed "linker/linkerlaw.Files" = some f) (hfn : Tryd.pinned.checked.prog.funcs[f]? = some fn) :
    false = Tryd.pinned.checked.prog.looks [] ∧ ∀ (j : Nat) t, fn.params[j]? = some t → Tryd.pinned.checked.prog.wantsStandIn t = false := by
  obtain rfl : f = 3 := Option.some.inj ((show Tryd.prog.funcNamed "linker/linkerlaw.Files" = some 3 by kernel_rfl).symm.trans hf) |>.symm
  obtain rfl : fn = Tryd.f3 := (Option.some.inj (Tryd.func3.symm.trans hfn)).symm
  refine ⟨by kernel_rfl, fun j t ht => ?_⟩
  rw [Tryd.params3] at ht
  obtain rfl : t = 9 := by simpa using Array.mem_of_getElem? ht
  exact (show Tryd.prog.wantsStandIn 9 = false by kernel_rfl)

/-- the card -/
theorem files_card : Rows.FilesCardSaid :=
  Claim7.holds_tied_plain_at .later [] _ _ _ _ files_said (fun _ h => by cases h) (by kernel_rfl) (fun _ h => by cases h) files_row_tie rfl ⟨rfl, rfl⟩ (by kernel_rfl) rfl files_plain (by kernel_rfl)

end Go.Proofs.YtafjgogdeinpcaaDoor
