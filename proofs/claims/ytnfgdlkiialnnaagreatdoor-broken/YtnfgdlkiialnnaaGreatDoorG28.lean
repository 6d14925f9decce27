/- What the rows lay: the three tables. -/
/- The row and the card of Broken. -/
import Derived.Test.YtnfgdlkiialnnaaGreatDoorG25
import Derived.ProofKit
import Derived.OpenShut
import Derived.ChangeMaps5
import Derived.Deep.DeepHandedRow
import Derived.Lib.LaidTab
import Derived.Test.YtnfgdlkiialnnaaGreatDoorCards
import Derived.Test.YtnfgdlkiialnnaaGreatDoorTie
import Derived.Test.YtnfgdlkiialnnaaGreatDoorG27
namespace Go.Proofs.YtnfgdlkiialnnaaGreatDoor
open Go.ChangeShapes Go.WideShapes Go.ChangeAt Go.RowKit

theorem ownKnobNone:ownKnob Tryz.prog.godebug=none:=by kernel_rfl
theorem gForm : Tryz.prog.globalNamed "linker/instr.forms" = some 0 := by kernel_rfl
theorem gFix : Tryz.prog.globalNamed "linker/instr.fixed" = some 1 := by kernel_rfl
theorem gNam : Tryz.prog.globalNamed "linker/instr.names" = some 2 := by kernel_rfl
theorem gFormType:(Tryz.prog.globals[0]?).map (·.type)=some 176:=by kernel_rfl
theorem gFixType:(Tryz.prog.globals[1]?).map (·.type)=some 176:=by kernel_rfl
theorem gNamType:(Tryz.prog.globals[2]?).map (·.type)=some 186:=by kernel_rfl
theorem cellsArr:Tryz.prog.cellsOf 176=26:=by kernel_rfl
theorem cellsInt:Tryz.prog.cellsOf 3=1:=by kernel_rfl
theorem cellsStrs:Tryz.prog.cellsOf 186=26:=by kernel_rfl
theorem cellsStr:Tryz.prog.cellsOf 9=1:=by kernel_rfl
theorem undArr:Tryz.prog.underlying 176=some (.array 26 3):=by kernel_rfl
theorem undStrs:Tryz.prog.underlying 186=some (.array 26 9):=by kernel_rfl
theorem undStr:Tryz.prog.underlying 9=some .string:=by kernel_rfl
theorem undInt:Tryz.prog.underlying 3=some (.int .i64):=by kernel_rfl

/-- a table of texts as a row lists it -/
def strData {H:Type} (zs:List (List UInt8)):DataW H:=.agg (zs.map fun z=>.lit (.string z))

theorem cells_of_strs {H:Type} {enc:TypeId×Value→H} {P:Program} {w:World} {base:Nat} {sp:Nat→Bool} {held:Bool} {fuel:Nat} {t e:TypeId} {n:Nat} {cs:List Value} {zs:List (List UInt8)} {p:List MemPlace}
  (ht:P.underlying t=some (.array n e)) (he:P.underlying e=some .string) (hce:P.cellsOf e=1) (hct:P.cellsOf t=n)
  (h:DataW.trod enc P w base sp held fuel t cs=some (strData zs,p)):cs=zs.map fun z=>Value.string (bs z):=by
 cases fuel with
 | zero=>simp [DataW.trod] at h
 | succ fuel =>
  simp only [DataW.trod,ht,hce,hct,Nat.mul_one] at h
  split at h
  ·rename_i hl
   obtain ⟨xs,hm,hx⟩:=Option.map_eq_some_iff.1 h
   have hxs:xs.map (·.1)=zs.map fun z=>(DataW.lit (.string z):DataW H):=by
    have:=congrArg Prod.fst hx
    simpa [strData] using this
   have hxl:xs.length=n:=by simpa using Lib.mapM_length hm
   have hzl:zs.length=n:=by
    have:=congrArg List.length hxs
    simp at this
    omega
   apply List.ext_getElem?
   intro i
   by_cases hi:i < n
   ·obtain ⟨b,hb,hf⟩:=Lib.mapM_at hm i i (by simp [hi])
    obtain ⟨z,hc,rfl,_⟩:=DataW.trod_string he hf
    have h1:cs[i]?=some (.string z):=by
     have:=congrArg (·[0]?) hc
     simpa [List.getElem?_take,List.getElem?_drop] using this
    have h2:(xs.map (·.1))[i]?=some (DataW.lit (.string z.data.toList):DataW H):=by simp [hb]
    rw [hxs] at h2
    simp only [List.getElem?_map,Option.map_eq_some_iff,DataW.lit.injEq,Lit.string.injEq] at h2
    obtain ⟨z',hz',rfl⟩:=h2
    have hbz:bs z.data.toList=z:=bs_sl z
    simp [h1,hz',hbz]
   ·rw [List.getElem?_eq_none (by omega),List.getElem?_eq_none (by simp; omega)]
  ·cases h

theorem cell_lt {W:World} {b o:Nat} {v:Value} (h:W.cell? ⟨b,o,none⟩=some v):b < W.heap.size:=by
 by_cases hb:b < W.heap.size
 ·exact hb
 ·exfalso
  simp only [World.cell?] at h
  rw [Array.getElem?_eq_none (by omega)] at h
  cases h

/-- what the rows' list gives: the tables -/
theorem tabs3_of_laid {W : World} (h : laidMet Tryz.prog [("linker/instr.forms", Lib.tabData .i64 formL), ("linker/instr.fixed", Lib.tabData .i64 fixedL), ("linker/instr.names", strData As.names)] W) : Tabs W ∧ NTab W ∧ 3 ≤ W.heap.size := by
 have t1 : Lib.TabIs Tryz.prog W "linker/instr.forms" .i64 formL := Lib.tabIs_of_head gForm gFormType undArr undInt cellsInt cellsArr h
 obtain ⟨ps,⟨g',t',cs,fuel,p,q,hg',ht',hvar,hd,⟨g2,t2,cs2,fuel2,p2,q2,hg2,ht2,hvar2,hd2,⟨g3,t3,cs3,fuel3,p3,q3,hg3,ht3,hvar3,hd3,_,_⟩,_⟩,_⟩,_⟩:=h
 obtain rfl:=Option.some.inj (gFix.symm.trans hg2)
 obtain rfl:=Option.some.inj (gFixType.symm.trans ht2)
 obtain rfl:=Option.some.inj (gNam.symm.trans hg3)
 obtain rfl:=Option.some.inj (gNamType.symm.trans ht3)
 have e2 : Lib.TabIs Tryz.prog W "linker/instr.fixed" .i64 fixedL := by
  unfold Lib.TabIs
  rw [hvar2,← Lib.cells_of_tab undArr undInt cellsInt cellsArr hd2]
 have e3 : W.var? Tryz.prog "linker/instr.names" = some (As.names.map fun z => Value.string (bs z)).toArray := by
  rw [hvar3,← cells_of_strs undStrs undStr cellsStr cellsStrs hd3]
 have T:Tabs W:=⟨fun i hi=>t1.cell gForm i hi,fun i hi=>e2.cell gFix i hi⟩
 have N:NTab W:=by
  intro i hi
  have hl:As.names.length=26:=by decide
  have:=World.var?_cell gNam e3 i
  rw [this]
  simp [List.getD,hl,hi]
 refine ⟨T,N,?_⟩
 have a:=cell_lt (T.1 0 (by decide))
 have b:=cell_lt (T.2 0 (by decide))
 have c:=cell_lt (N 0 (by decide))
 omega

theorem kept_of_grown {W W':World} (h:W.grownBy W' none) (may:MemPlace→Prop):W.keptBut W' may:=by
 refine World.keptBut_mono (fun _ f=>f.elim) (?_:W.keptBut W' (fun _=>False))
 refine ⟨h.os,h.output,fun i hi=>?_⟩
 rw [h.block i hi (by simp)]
 cases hb:W.heap[i]? with
 | none=>trivial
 | some o=>cases o <;> simp

/-- a world for the witness: the settled one, the tables holding what is laid -/
def tabObj (zs:List Int):Obj→Obj
 | .cells _ t frozen=>.cells (zs.map (Value.int .i64)).toArray t frozen
 | o=>o
def strObj (zs:List (List UInt8)):Obj→Obj
 | .cells _ t frozen=>.cells (zs.map fun z=>Value.string (bs z)).toArray t frozen
 | o=>o
noncomputable def laidWorld (os:Os):World :=
 { World.holding Tryz.prog os ⟨#[],#[],[]⟩ with heap:=(((World.holding Tryz.prog os ⟨#[],#[],[]⟩).heap.modify 0 (tabObj formL)).modify 1 (tabObj fixedL)).modify 2 (strObj As.names) }

end Go.Proofs.YtnfgdlkiialnnaaGreatDoor

namespace Go.Proofs.YtnfgdlkiialnnaaGreatDoor
open Go.ChangeShapes Go.WideShapes Go.ChangeAt Go.RowKit

theorem lit_range {c:Int} (h:(Lit.int .i64 c).wf=true):-9223372036854775808≤c∧c≤9223372036854775807:=by
 simp [Lit.wf] at h
 have e:IntKind.i64.min = -9223372036854775808:=by decide
 omega

theorem brokenLaw_any (c:Int) (w:World) (ht:Tabs w) (hN:NTab w) (hB:3≤w.heap.size) (h0:-9223372036854775808≤c) (h1:c≤9223372036854775807) :
  Calls Tryz.prog 6 #[.int .i64 c] w fun e w'=>e = .returned (.bool true)∧w.grownBy w' none:=by
 have cF:=hid (broken_any c w ht hN hB h0 h1)
 clear ht hN
 go_enter Tryz.func6,Tryz.ntmps6
 go_wp2_with fail
 refine cF.out.mono ?_
 rintro e V1 ⟨rfl,hg⟩
 have G:=hid hg
 clear hg
 go_wp2
 go_ret
 exact ⟨rfl,G.out⟩

set_option maxRecDepth 100000 in
theorem broken_contract (H:Type) (enc:TypeId×Value→H) (W:World) (base:Nat) (args:Array Value) (ds gs:List (DataW H)) (before:List MemPlace)
  (hval:∀ (j:Nat) t v,Tryz.f6.params[j]?=some t→args[j]?=some v→Value.okWide Tryz.prog W .any base t v)
  (hW:DataW.Whole enc Tryz.prog Tryz.f6.params.toList Rows.brokenSpec.vars false W args.toList ds gs before) (hL:laidMetH Tryz.prog Rows.brokenRow.laid W) :
  Calls Tryz.prog 6 args W fun e W'=>∃ v,e = .returned v∧Rows.brokenSpec.post enc Tryz.prog Tryz.f6 false true false false W args v W':=by
 have hW':=hW
 obtain ⟨p,q,hA0,hV,rfl,hfz,hnd⟩:=hW
 have hA:DataW.TrodAll enc Tryz.prog W 0 (fun _=>true) true Tryz.f6.params.toList args.toList ds p:=hA0
 rw [Tryz.params6] at hA hval
 obtain ⟨v0,vs0,d0,ds0,p0,q0,hargs,rfl,rfl,h0,r0⟩:=trodAll_cons hA
 obtain ⟨rfl,rfl,rfl⟩:=trodAll_nil r0
 obtain rfl:args = #[v0]:=by cases args; simp_all
 obtain ⟨rfl,rfl⟩:=trodVars_none hV
 have hv:Value.okWide Tryz.prog W .any base 3 v0:=hval 0 3 v0 rfl rfl
 obtain ⟨c,rfl,rfl,rfl,hw⟩:=open_int (t:=3) undInt hv h0
 clear hA0
 simp only [List.append_nil] at hW'
 obtain ⟨hT,hN,hB⟩:=tabs3_of_laid hL
 refine (brokenLaw_any c W hT hN hB (lit_range hw).1 (lit_range hw).2).mono fun e W' ⟨he,hg⟩=>?_
 subst he
 exact ⟨_,rfl,_,_,_,[],[],[],hW',trodAll_cons_mk (shut_bool Tryz.underlying4 _) trodAll_mk0,trodAll_cons_mk (shut_int undInt hw) trodAll_mk0,rfl,kept_of_grown hg _,fun h=>by cases h⟩

theorem laid_met (os:Os):laidMet Tryz.prog Rows.brokenRow.laid ((laidWorld os).forCall (fun _ _=>0) ⟨#[],#[.int .i64 0],[]⟩).memory :=
 laidMet_of_run' 8 (by kernel_rfl) (by kernel_rfl)
theorem witness_reads (os:Os) {H:Type} (enc:TypeId×Value→H):∃ places,DataW.whole enc Tryz.prog ((laidWorld os).forCall (fun _ _=>0) ⟨#[],#[.int .i64 0],[]⟩).memory Tryz.f6.params.toList Rows.brokenSpec.vars false #[Value.int .i64 0].toList 8=some ([.lit (.int .i64 0)],[],places) :=
 ⟨[],by kernel_rfl⟩

set_option maxRecDepth 100000 in
theorem broken_lifted (os:Os) (started:os.Started) (H:Type) (enc:TypeId×Value→H) (F:Stop.Interp) :
  ReturnsInHanded {} Tryz.checked os 6 .any ((OpenSpec.ofChange Rows.brokenSpec).preRow enc Tryz.prog Tryz.f6 Rows.brokenRow.domain false Rows.brokenRow.laid) (((OpenSpec.ofChange Rows.brokenSpec).at F).post enc Tryz.prog Tryz.f6 false true false false):=by
 obtain ⟨places,hx⟩:=witness_reads os enc
 refine returnsInHanded_of_row (C:=Tryz.checked) (s:=OpenSpec.ofChange Rows.brokenSpec) ownKnobNone started (by kernel_rfl) Tryz.func6
  (witness_row_at (enc:=enc) (C:=Tryz.checked) false (laidWorld os) #[.int .i64 0] rfl (by kernel_rfl) (by kernel_rfl) (by kernel_rfl)
   (OpenSpec.preRow_of_cond 8 hx (by kernel_rfl) (fun k hk=>by cases hk) (by kernel_rfl) (laid_met os))) ?_
 intro W base args ds gs before hval hW _ _ _ hL _ _
 exact broken_contract H enc W base args ds gs before hval hW hL

theorem broken_said:Rows.BrokenSaid :=
 OpenClaim.holds_of_cond 6 Tryz.f6 rfl rfl rfl rfl rfl rfl rfl ⟨rfl,rfl,rfl,rfl,rfl⟩ rfl rfl rfl rfl rfl (by kernel_rfl) Tryz.func6 (by kernel_rfl)
  (of_decide_eq_true (by kernel_rfl)) (by unfold Func.isWrapper; first | (rw [if_pos (by decide +kernel)]; kernel_rfl) | (rw [if_neg (by decide +kernel)]; exact ⟨rfl,rfl⟩))
  (fun os started H enc _ F=>by rw [OpenClaim.pre_eq_preRow]; exact broken_lifted os started H enc F)

theorem broken_plain (f : FuncId) (fn : Func) (hf : Tryz.pinned.checked.prog.funcNamed "linker/linkerkeep.Broken" = some f) (hfn : Tryz.pinned.checked.prog.funcs[f]? = some fn) :
  false=Tryz.pinned.checked.prog.looks []∧∀ (j:Nat) t,fn.params[j]?=some t→Tryz.pinned.checked.prog.wantsStandIn t=false:=by
 obtain rfl : f = 6 := Option.some.inj ((show Tryz.prog.funcNamed "linker/linkerkeep.Broken" = some 6 by kernel_rfl).symm.trans hf) |>.symm
 obtain rfl:fn=Tryz.f6:=(Option.some.inj (Tryz.func6.symm.trans hfn)).symm
 refine ⟨by kernel_rfl,fun j t ht=>?_⟩
 rw [Tryz.params6] at ht
 obtain rfl:t=3:=by simpa using Array.mem_of_getElem? ht
 exact (show Tryz.prog.wantsStandIn 3=false by kernel_rfl)

/-- the card -/
theorem broken_card:Rows.BrokenCardSaid :=
 Claim7.holds_tied_plain_at .later [] _ _ _ _ broken_said (fun _ h=>by cases h) (by kernel_rfl) (fun _ h=>by cases h) broken_row_tie rfl ⟨rfl,rfl⟩ (by kernel_rfl) rfl broken_plain (by kernel_rfl)

end Go.Proofs.YtnfgdlkiialnnaaGreatDoor
