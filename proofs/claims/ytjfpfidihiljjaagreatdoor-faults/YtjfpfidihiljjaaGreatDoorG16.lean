/- Walks: Faults. -/
/- What the rows lay: the three tables. -/
/- The row and the card of Faults. -/
import Derived.Test.YtjfpfidihiljjaaGreatDoorG15
import Derived.ProofKit
import Derived.OpenShut
import Derived.ChangeMaps5
import Derived.Deep.DeepHandedRow
import Derived.Lib.LaidTab
import Derived.Test.YtjfpfidihiljjaaGreatDoorCards
import Derived.Test.YtjfpfidihiljjaaGreatDoorTie
namespace Go.Proofs.YtjfpfidihiljjaaGreatDoor
open Go.RowKit

theorem pick_any (c : Int) (w : World) (h0 : -9223372036854775808 ≤ c) (h1 : c ≤ 9223372036854775807) :
    Calls Tryz.prog 6 #[.int .i64 c, .int .i64 39] w fun e w' => (∃ i : Nat, i < 39 ∧ e = .returned (.int .i64 i)) ∧ w' = w := by
  by_cases hc : c < 0
  · have d : decide (c < 0) = true := by simpa using hc
    go_enter Tryz.func6, Tryz.ntmps6
    go_wp2
    go_ret
    have e : -((c + 1).tmod 39) = (((-(c + 1)) % 39).toNat : Int) := by
      rw [← Int.neg_tmod, Int.tmod_eq_emod_of_nonneg (by omega)]
      omega
    exact ⟨⟨((-(c + 1)) % 39).toNat, by omega, ret_int e⟩, rfl⟩
  · have d : decide (c < 0) = false := by simpa using hc
    go_enter Tryz.func6, Tryz.ntmps6
    go_wp2
    go_ret
    exact ⟨⟨(c % 39).toNat, by omega, ret_int (by omega)⟩, rfl⟩

theorem linkAssemble_any (s : ByteArray) (w : World) (ht : Tabs w) (hN : NTab w) (hB : 3 ≤ w.heap.size) :
    Calls Tryz.prog 7 #[.string s] w fun e w' => (∃ t fe fa, e = .returned (.tuple #[.string (bs t), faultA fe fa]) ∧ Told (sl s) t fe fa) ∧ w.grownBy w' none := by
  have cA := hid (assemble_any s (w.alloc (.cells (faultC 0 0) 30)) (ht.grown (World.grownBy_alloc _ _ none)) (hN.below (grown_below (World.grownBy_alloc _ _ none) (Nat.le_refl _) (by simp)) hB) (by rw [size_alloc]; omega))
  have b0 := hid (BlkAt.new w (faultC 0 0) 30)
  go_enter Tryz.func7, Tryz.ntmps7
  go_wp2_with fail
  refine cA.out.mono ?_
  rintro e V1 ⟨⟨t, fe, fa, rfl, ht⟩, hg⟩
  have HT := hid ht
  have FB := hid (b0.out.grown hg (by simp))
  have FG := hid (grown_trans (World.grownBy_alloc w (.cells (faultC 0 0) 30) none) hg)
  clear ht hg cA b0
  unfold faultA
  have v0 := FB.out.free 0
  have v1 := FB.out.free 1
  have v2 := FB.out.free 2
  have x0 := FB.out.cell 0
  have x1 := FB.out.cell 1
  have x2 := FB.out.cell 2
  simp only [faultC, List.getElem?_toArray, List.getElem?_cons_succ, List.getElem?_cons_zero] at x0 x1 x2
  go_wp2
  have F := sets_blk [(0, .int .i64 fe), (1, .int .i64 fa), (2, .string ⟨#[]⟩)] FB.out
  have h0 := F.cell 0
  have h1 := F.cell 1
  have h2 := F.cell 2
  simp only [faultC, setsA, List.foldl_cons, List.foldl_nil, List.setIfInBounds_toArray, List.set_cons_succ, List.set_cons_zero, List.getElem?_toArray, List.getElem?_cons_succ, List.getElem?_cons_zero] at h0 h1 h2
  refine bodyPost_ret (v := .tuple #[.string (bs t), faultA fe fa]) ?_ rfl ⟨⟨t, fe, fa, rfl, HT.out⟩, fin_sets FG.out _ (Nat.le_refl _) [(0, .int .i64 fe), (1, .int .i64 fa), (2, .string ⟨#[]⟩)]⟩
  clear F x0 x1 x2 v0 v1 v2
  simp only [sets, List.foldl_cons, List.foldl_nil] at h0 h1 h2 ⊢
  generalize World.setCell _ _ _ = WF at *
  simp [results, Tryz.results7, go_sem, faultA, h0, h1, h2]

set_option maxRecDepth 100000 in
set_option maxHeartbeats 4000000 in
theorem faulty_any (c : Int) (w : World) (ht : Tabs w) (hN : NTab w) (hB : 3 ≤ w.heap.size) (h0 : -9223372036854775808 ≤ c) (h1 : c ≤ 9223372036854775807) :
    Calls Tryz.prog 4 #[.int .i64 c] w fun e w' => e = .returned (.bool true) ∧ w.grownBy w' none := by
  have HT := hid ht
  have HN := hid hN
  have cF := hid (faults_any w)
  have cP := hid (fun W => pick_any c W h0 h1)
  clear ht hN
  go_enter Tryz.func4, Tryz.ntmps4
  go_wp2_with fail
  refine cF.out.mono ?_
  rintro e V1 ⟨rfl, hv⟩
  have B1 : Hid (BlkAt V1 w.heap.size (ftRows.flatMap ftV).toArray 27) := by rw [hv]; exact BlkAt.new _ _ _
  have G1 : Hid (w.grownBy V1 none) := by rw [hv]; exact World.grownBy_alloc _ _ _
  clear hv cF
  go_wp2_with fail
  refine (cP.out V1).mono ?_
  rintro e V2 ⟨⟨i, hi, rfl⟩, rfl⟩
  have hl : i < ftRows.length := by rw [ft_length]; exact hi
  have RM := hid (List.getElem_mem hl)
  have k0 := B1.out.cell (i * 3)
  have k1 := B1.out.cell (i * 3 + 1)
  have k2 := B1.out.cell (i * 3 + 2)
  rw [List.getElem?_toArray] at k0 k1 k2
  have f0 := flat_get ftV 3 (fun _ => rfl) ftRows i 0 hl (by omega)
  rw [Nat.add_zero] at f0
  rw [f0] at k0
  rw [flat_get ftV 3 (fun _ => rfl) ftRows i 1 hl (by omega)] at k1
  rw [flat_get ftV 3 (fun _ => rfl) ftRows i 2 hl (by omega)] at k2
  simp only [ftV, List.getElem?_cons_succ, List.getElem?_cons_zero] at k0 k1 k2
  generalize ftRows[i] = r at *
  obtain ⟨tx, fe0, fa0⟩ := r
  simp only at k0 k1 k2
  have g1 : (i : Int) < 39 := by omega
  clear f0 hl cP
  go_wp2_with fail
  have GA := hid (grown_trans G1.out (World.grownBy_alloc V2 (.cells #[.string (bs tx), .int .i64 fe0, .int .i64 fa0] 27) none))
  refine (linkAssemble_any (bs tx) _ (HT.out.grown GA.out) (HN.out.below (grown_below GA.out (Nat.le_refl _) (by simp)) hB) (by have := GA.out.size; omega)).mono ?_
  rintro e V3 ⟨⟨t, fe, fa, rfl, htold⟩, hg⟩
  rw [sl_bs] at htold
  obtain ⟨rfl, rfl, TE⟩ := ft_told RM.out htold
  have B3 := hid ((BlkAt.new V2 #[.string (bs tx), .int .i64 fe, .int .i64 fa] 27).grown hg (by simp))
  have GB := hid (grown_trans GA.out hg)
  have x0 := B3.out.cell 0
  have x1 := B3.out.cell 1
  have x2 := B3.out.cell 2
  simp only [List.getElem?_toArray, List.getElem?_cons_succ, List.getElem?_cons_zero] at x0 x1 x2 TE
  have hlt := B3.out.lt
  have hne : V2.heap.size ≠ V3.heap.size := by omega
  have TE2 := hid TE
  clear htold hg k0 k1 k2 G1 B1 GA TE
  unfold faultA
  by_cases hz : fe = 0
  · subst hz
    have ht : t ≠ [] := fun e => (TE2.out.1 e) rfl
    have b1 : (bs t).toList.isEmpty = false := by rw [toList_bs]; simpa using ht
    go_wp2
    go_ret
    exact ⟨rfl, grown_trans GB.out (World.grownBy_alloc _ _ _)⟩
  · have ht : t = [] := TE2.out.2 hz
    subst ht
    have b1 : ((fe : Int) == 0) = false := by simp; omega
    have b2 : (bs []).toList.isEmpty = true := by rw [toList_bs]; rfl
    go_wp2
    go_ret
    exact ⟨rfl, grown_trans GB.out (World.grownBy_alloc _ _ _)⟩

theorem faultsLaw_any (c : Int) (w : World) (ht : Tabs w) (hN : NTab w) (hB : 3 ≤ w.heap.size) (h0 : -9223372036854775808 ≤ c) (h1 : c ≤ 9223372036854775807) :
    Calls Tryz.prog 3 #[.int .i64 c] w fun e w' => e = .returned (.bool true) ∧ w.grownBy w' none := by
  have cF := hid (faulty_any c w ht hN hB h0 h1)
  clear ht hN
  go_enter Tryz.func3, Tryz.ntmps3
  go_wp2_with fail
  refine cF.out.mono ?_
  rintro e V1 ⟨rfl, hg⟩
  have G := hid hg
  clear hg
  go_wp2
  go_ret
  exact ⟨rfl, G.out⟩

end Go.Proofs.YtjfpfidihiljjaaGreatDoor

namespace Go.Proofs.YtjfpfidihiljjaaGreatDoor
open Go.ChangeShapes Go.WideShapes Go.ChangeAt Go.RowKit

theorem ownKnobNone : ownKnob Tryz.prog.godebug = none := by kernel_rfl
theorem gForm : Tryz.prog.globalNamed "linker/instr.forms" = some 1 := by kernel_rfl
theorem gFix : Tryz.prog.globalNamed "linker/instr.fixed" = some 2 := by kernel_rfl
theorem gNam : Tryz.prog.globalNamed "linker/instr.names" = some 0 := by kernel_rfl
theorem gFormType : (Tryz.prog.globals[1]?).map (·.type) = some 102 := by kernel_rfl
theorem gFixType : (Tryz.prog.globals[2]?).map (·.type) = some 102 := by kernel_rfl
theorem gNamType : (Tryz.prog.globals[0]?).map (·.type) = some 81 := by kernel_rfl
theorem cellsArr : Tryz.prog.cellsOf 102 = 26 := by kernel_rfl
theorem cellsInt : Tryz.prog.cellsOf 3 = 1 := by kernel_rfl
theorem cellsStrs : Tryz.prog.cellsOf 81 = 26 := by kernel_rfl
theorem cellsStr : Tryz.prog.cellsOf 9 = 1 := by kernel_rfl
theorem undArr : Tryz.prog.underlying 102 = some (.array 26 3) := by kernel_rfl
theorem undStrs : Tryz.prog.underlying 81 = some (.array 26 9) := by kernel_rfl
theorem undStr : Tryz.prog.underlying 9 = some .string := by kernel_rfl
theorem undInt : Tryz.prog.underlying 3 = some (.int .i64) := by kernel_rfl

/-- a table of texts as a row lists it -/
def strData {H : Type} (zs : List (List UInt8)) : DataW H := .agg (zs.map fun z => .lit (.string z))

theorem cells_of_strs {H : Type} {enc : TypeId × Value → H} {P : Program} {w : World} {base : Nat} {sp : Nat → Bool} {held : Bool} {fuel : Nat} {t e : TypeId} {n : Nat} {cs : List Value} {zs : List (List UInt8)} {p : List MemPlace}
    (ht : P.underlying t = some (.array n e)) (he : P.underlying e = some .string) (hce : P.cellsOf e = 1) (hct : P.cellsOf t = n)
    (h : DataW.trod enc P w base sp held fuel t cs = some (strData zs, p)) : cs = zs.map fun z => Value.string (bs z) := by
  cases fuel with
  | zero => simp [DataW.trod] at h
  | succ fuel =>
    simp only [DataW.trod, ht, hce, hct, Nat.mul_one] at h
    split at h
    · rename_i hl
      obtain ⟨xs, hm, hx⟩ := Option.map_eq_some_iff.1 h
      have hxs : xs.map (·.1) = zs.map fun z => (DataW.lit (.string z) : DataW H) := by
        have := congrArg Prod.fst hx
        simpa [strData] using this
      have hxl : xs.length = n := by simpa using Lib.mapM_length hm
      have hzl : zs.length = n := by
        have := congrArg List.length hxs
        simp at this
        omega
      apply List.ext_getElem?
      intro i
      by_cases hi : i < n
      · obtain ⟨b, hb, hf⟩ := Lib.mapM_at hm i i (by simp [hi])
        obtain ⟨z, hc, rfl, _⟩ := DataW.trod_string he hf
        have h1 : cs[i]? = some (.string z) := by
          have := congrArg (·[0]?) hc
          simpa [List.getElem?_take, List.getElem?_drop] using this
        have h2 : (xs.map (·.1))[i]? = some (DataW.lit (.string z.data.toList) : DataW H) := by simp [hb]
        rw [hxs] at h2
        simp only [List.getElem?_map, Option.map_eq_some_iff, DataW.lit.injEq, Lit.string.injEq] at h2
        obtain ⟨z', hz', rfl⟩ := h2
        have hbz : bs z.data.toList = z := bs_sl z
        simp [h1, hz', hbz]
      · rw [List.getElem?_eq_none (by omega), List.getElem?_eq_none (by simp; omega)]
    · cases h

theorem cell_lt {W : World} {b o : Nat} {v : Value} (h : W.cell? ⟨b, o, none⟩ = some v) : b < W.heap.size := by
  by_cases hb : b < W.heap.size
  · exact hb
  · exfalso
    simp only [World.cell?] at h
    rw [Array.getElem?_eq_none (by omega)] at h
    cases h

/-- what the rows' list gives: the tables -/
theorem tabs3_of_laid {W : World} (h : laidMet Tryz.prog [("linker/instr.forms", Lib.tabData .i64 formL), ("linker/instr.fixed", Lib.tabData .i64 fixedL), ("linker/instr.names", strData As.names)] W) : Tabs W ∧ NTab W ∧ 3 ≤ W.heap.size := by
  have t1 : Lib.TabIs Tryz.prog W "linker/instr.forms" .i64 formL := Lib.tabIs_of_head gForm gFormType undArr undInt cellsInt cellsArr h
  obtain ⟨ps, ⟨g', t', cs, fuel, p, q, hg', ht', hvar, hd, ⟨g2, t2, cs2, fuel2, p2, q2, hg2, ht2, hvar2, hd2, ⟨g3, t3, cs3, fuel3, p3, q3, hg3, ht3, hvar3, hd3, _, _⟩, _⟩, _⟩, _⟩ := h
  obtain rfl := Option.some.inj (gFix.symm.trans hg2)
  obtain rfl := Option.some.inj (gFixType.symm.trans ht2)
  obtain rfl := Option.some.inj (gNam.symm.trans hg3)
  obtain rfl := Option.some.inj (gNamType.symm.trans ht3)
  have e2 : Lib.TabIs Tryz.prog W "linker/instr.fixed" .i64 fixedL := by
    unfold Lib.TabIs
    rw [hvar2, ← Lib.cells_of_tab undArr undInt cellsInt cellsArr hd2]
  have e3 : W.var? Tryz.prog "linker/instr.names" = some (As.names.map fun z => Value.string (bs z)).toArray := by
    rw [hvar3, ← cells_of_strs undStrs undStr cellsStr cellsStrs hd3]
  have T : Tabs W := ⟨fun i hi => t1.cell gForm i hi, fun i hi => e2.cell gFix i hi⟩
  have N : NTab W := by
    intro i hi
    have hl : As.names.length = 26 := by decide
    have := World.var?_cell gNam e3 i
    rw [this]
    simp [List.getD, hl, hi]
  refine ⟨T, N, ?_⟩
  have a := cell_lt (T.1 0 (by decide))
  have b := cell_lt (T.2 0 (by decide))
  have c := cell_lt (N 0 (by decide))
  omega

theorem kept_of_grown {W W' : World} (h : W.grownBy W' none) (may : MemPlace → Prop) : W.keptBut W' may := by
  refine World.keptBut_mono (fun _ f => f.elim) (?_ : W.keptBut W' (fun _ => False))
  refine ⟨h.os, h.output, fun i hi => ?_⟩
  rw [h.block i hi (by simp)]
  cases hb : W.heap[i]? with
  | none => trivial
  | some o => cases o <;> simp

/-- a world for the witness: the settled one, the tables holding what is laid -/
def tabObj (zs : List Int) : Obj → Obj
  | .cells _ t frozen => .cells (zs.map (Value.int .i64)).toArray t frozen
  | o => o
def strObj (zs : List (List UInt8)) : Obj → Obj
  | .cells _ t frozen => .cells (zs.map fun z => Value.string (bs z)).toArray t frozen
  | o => o
noncomputable def laidWorld (os : Os) : World :=
  { World.holding Tryz.prog os ⟨#[], #[], []⟩ with heap := (((World.holding Tryz.prog os ⟨#[], #[], []⟩).heap.modify 1 (tabObj formL)).modify 2 (tabObj fixedL)).modify 0 (strObj As.names) }

end Go.Proofs.YtjfpfidihiljjaaGreatDoor

namespace Go.Proofs.YtjfpfidihiljjaaGreatDoor
open Go.ChangeShapes Go.WideShapes Go.ChangeAt Go.RowKit

theorem lit_range {c : Int} (h : (Lit.int .i64 c).wf = true) : -9223372036854775808 ≤ c ∧ c ≤ 9223372036854775807 := by
  simp [Lit.wf] at h
  have e : IntKind.i64.min = -9223372036854775808 := by decide
  omega

set_option maxRecDepth 100000 in
theorem faults_contract (H : Type) (enc : TypeId × Value → H) (W : World) (base : Nat) (args : Array Value) (ds gs : List (DataW H)) (before : List MemPlace)
    (hval : ∀ (j : Nat) t v, Tryz.f3.params[j]? = some t → args[j]? = some v → Value.okWide Tryz.prog W .any base t v)
    (hW : DataW.Whole enc Tryz.prog Tryz.f3.params.toList Rows.faultsSpec.vars false W args.toList ds gs before) (hL : laidMetH Tryz.prog Rows.faultsRow.laid W) :
    Calls Tryz.prog 3 args W fun e W' => ∃ v, e = .returned v ∧ Rows.faultsSpec.post enc Tryz.prog Tryz.f3 false true false false W args v W' := by
  have hW' := hW
  obtain ⟨p, q, hA0, hV, rfl, hfz, hnd⟩ := hW
  have hA : DataW.TrodAll enc Tryz.prog W 0 (fun _ => true) true Tryz.f3.params.toList args.toList ds p := hA0
  rw [Tryz.params3] at hA hval
  obtain ⟨v0, vs0, d0, ds0, p0, q0, hargs, rfl, rfl, h0, r0⟩ := trodAll_cons hA
  obtain ⟨rfl, rfl, rfl⟩ := trodAll_nil r0
  obtain rfl : args = #[v0] := by cases args; simp_all
  obtain ⟨rfl, rfl⟩ := trodVars_none hV
  have hv : Value.okWide Tryz.prog W .any base 3 v0 := hval 0 3 v0 rfl rfl
  obtain ⟨c, rfl, rfl, rfl, hw⟩ := open_int (t := 3) undInt hv h0
  clear hA0
  simp only [List.append_nil] at hW'
  obtain ⟨hT, hN, hB⟩ := tabs3_of_laid hL
  refine (faultsLaw_any c W hT hN hB (lit_range hw).1 (lit_range hw).2).mono fun e W' ⟨he, hg⟩ => ?_
  subst he
  exact ⟨_, rfl, _, _, _, [], [], [], hW', trodAll_cons_mk (shut_bool Tryz.underlying4 _) trodAll_mk0, trodAll_cons_mk (shut_int undInt hw) trodAll_mk0, rfl, kept_of_grown hg _, fun h => by cases h⟩

theorem laid_met (os : Os) : laidMet Tryz.prog Rows.faultsRow.laid ((laidWorld os).forCall (fun _ _ => 0) ⟨#[], #[.int .i64 0], []⟩).memory :=
  laidMet_of_run' 8 (by kernel_rfl) (by kernel_rfl)
theorem witness_reads (os : Os) {H : Type} (enc : TypeId × Value → H) : ∃ places, DataW.whole enc Tryz.prog ((laidWorld os).forCall (fun _ _ => 0) ⟨#[], #[.int .i64 0], []⟩).memory Tryz.f3.params.toList Rows.faultsSpec.vars false #[Value.int .i64 0].toList 8 = some ([.lit (.int .i64 0)], [], places) :=
  ⟨[], by kernel_rfl⟩

set_option maxRecDepth 100000 in
theorem faults_lifted (os : Os) (started : os.Started) (H : Type) (enc : TypeId × Value → H) (F : Stop.Interp) :
    ReturnsInHanded {} Tryz.checked os 3 .any ((OpenSpec.ofChange Rows.faultsSpec).preRow enc Tryz.prog Tryz.f3 Rows.faultsRow.domain false Rows.faultsRow.laid) (((OpenSpec.ofChange Rows.faultsSpec).at F).post enc Tryz.prog Tryz.f3 false true false false) := by
  obtain ⟨places, hx⟩ := witness_reads os enc
  refine returnsInHanded_of_row (C := Tryz.checked) (s := OpenSpec.ofChange Rows.faultsSpec) ownKnobNone started (by kernel_rfl) Tryz.func3
    (witness_row_at (enc := enc) (C := Tryz.checked) false (laidWorld os) #[.int .i64 0] rfl (by kernel_rfl) (by kernel_rfl) (by kernel_rfl)
      (OpenSpec.preRow_of_cond 8 hx (by kernel_rfl) (fun k hk => by cases hk) (by kernel_rfl) (laid_met os))) ?_
  intro W base args ds gs before hval hW _ _ _ hL _ _
  exact faults_contract H enc W base args ds gs before hval hW hL

theorem faults_said : Rows.FaultsSaid :=
  OpenClaim.holds_of_cond 3 Tryz.f3 rfl rfl rfl rfl rfl rfl rfl ⟨rfl, rfl, rfl, rfl, rfl⟩ rfl rfl rfl rfl rfl (by kernel_rfl) Tryz.func3 (by kernel_rfl)
    (of_decide_eq_true (by kernel_rfl)) (by unfold Func.isWrapper; first | (rw [if_pos (by decide +kernel)]; kernel_rfl) | (rw [if_neg (by decide +kernel)]; exact ⟨rfl, rfl⟩))
    (fun os started H enc _ F => by rw [OpenClaim.pre_eq_preRow]; exact faults_lifted os started H enc F)

theorem faults_plain (f : FuncId) (fn : Func) (hf : Tryz.pinned.checked.prog.funcNamed "linker/linkerkeep.Faults" = some f) (hfn : Tryz.pinned.checked.prog.funcs[f]? = some fn) :
    false = Tryz.pinned.checked.prog.looks [] ∧ ∀ (j : Nat) t, fn.params[j]? = some t → Tryz.pinned.checked.prog.wantsStandIn t = false := by
  obtain rfl : f = 3 := Option.some.inj ((show Tryz.prog.funcNamed "linker/linkerkeep.Faults" = some 3 by kernel_rfl).symm.trans hf) |>.symm
  obtain rfl : fn = Tryz.f3 := (Option.some.inj (Tryz.func3.symm.trans hfn)).symm
  refine ⟨by kernel_rfl, fun j t ht => ?_⟩
  rw [Tryz.params3] at ht
  obtain rfl : t = 3 := by simpa using Array.mem_of_getElem? ht
  exact (show Tryz.prog.wantsStandIn 3 = false by kernel_rfl)

/-- the card -/
theorem faults_card : Rows.FaultsCardSaid :=
  Claim7.holds_tied_plain_at .later [] _ _ _ _ faults_said (fun _ h => by cases h) (by kernel_rfl) (fun _ h => by cases h) faults_row_tie rfl ⟨rfl, rfl⟩ (by kernel_rfl) rfl faults_plain (by kernel_rfl)

end Go.Proofs.YtjfpfidihiljjaaGreatDoor
