
import Derived.Test.YtelehpmjhjljgaaGreatDoorCards
import Derived.Test.YtelehpmjhjljgaaGreatDoorTie
import Derived.Test.YtelehpmjhjljgaaGreatDoorV29
import Derived.ProofKit
import Derived.OpenShut
import Derived.ChangeMaps5
import Derived.Deep.DeepHandedRow
import Derived.Lib.LaidTab
import Derived.Deep.Strs
import Derived.SizedLaws
set_option maxHeartbeats 16000000
set_option maxRecDepth 100000
namespace Go.Proofs.YtelehpmjhjljgaaGreatDoor
open Go.ChangeShapes Go.WideShapes Go.ChangeAt Go.RowKit
theorem ykk:ownKnob Tryz.prog.godebug=none:=by kernel_rfl
theorem ZA : Tryz.prog.globalNamed "linker/instr.forms" = some 0 := by kernel_rfl
theorem Js : Tryz.prog.globalNamed "linker/instr.fixed" = some 1 := by kernel_rfl
theorem ymg:(Tryz.prog.globals[0]?).map (·.type)=some 205:=by kernel_rfl
theorem yne:(Tryz.prog.globals[1]?).map (·.type)=some 205:=by kernel_rfl
theorem Ym:Tryz.prog.cellsOf 205=26:=by kernel_rfl
theorem Xi:Tryz.prog.cellsOf 9=1:=by kernel_rfl
theorem Yn:Tryz.prog.cellsOf 3=1:=by kernel_rfl
theorem QH {W:World} (h:laidMetH Tryz.prog Rows.linkedRow.laid W):fZ W:=by
 have h' : laidMet Tryz.prog [("linker/instr.forms", Lib.tabData .i64 mR), ("linker/instr.fixed", Lib.tabData .i64 xu)] W := h
 have t1 : Lib.TabIs Tryz.prog W "linker/instr.forms" .i64 mR := Lib.tabIs_of_head ZA ymg Tryz.underlying205 Tryz.underlying3 Yn Ym h'
 have t2 : Lib.TabIs Tryz.prog W "linker/instr.fixed" .i64 xu := by
  obtain ⟨ps,⟨g',t',cs,fuel,p,q,hg',ht',hvar,hd,⟨g2,t2,cs2,fuel2,p2,q2,hg2,ht2,JI,hd2,_,_⟩,_⟩,_⟩:=h';obtain rfl:=Option.some.inj (Js.symm.trans hg2);obtain rfl:=Option.some.inj (yne.symm.trans ht2);unfold Lib.TabIs;rw [JI,<- Lib.cells_of_tab Tryz.underlying205 Tryz.underlying3 Yn Ym hd2]
 exact ⟨fun i hi=>t1.cell ZA i hi,fun i hi=>t2.cell Js i hi⟩
theorem QV {W W':World} (h:W.grownBy W' none) (may:MemPlace->Prop):W.keptBut W' may:=by
 refine World.keptBut_mono (fun _ f=>f.elim) (?_:W.keptBut W' (fun _=>False));refine ⟨h.os,h.output,fun i hi=>?_⟩;rw [h.block i hi (by simp)]
 cases hb:W.heap[i]? with
 | none=>trivial
 | some o=>cases o <;> simp
theorem Xa {H:Type} {P:Program} {e:TypeId}:∀ {l:List (DataW H)} {d:DataW H},d∈l->∀ n∈d.weights P e,n∈DataW.weightsAll P e l
 | x :: l,d,h,n,hn=>by
  simp only [DataW.weightsAll,List.mem_append];rcases List.mem_cons.1 h with rfl | h
  ·exact Or.inl hn
  ·exact Or.inr (Xa h n hn)
 | [],_,h,_,_=>by cases h
def BZ (Sx:Nat->ByteArray) (n:Nat):List (List UInt8):=(List.range n).map fun i=>sl (Sx i)
theorem Rq (Sx:Nat->ByteArray) (n:Nat):(BZ Sx n).length=n:=by simp [BZ]
theorem ymb (Sx:Nat->ByteArray) (n i:Nat) (h:i < (BZ Sx n).length):bs ((BZ Sx n)[i])=Sx i:=by simp [BZ,Zz]
theorem ylG {H:Type} {enc:TypeId×Value->H} {W:World} {held:Bool} (sp:Nat->Bool) (a:Addr):∃ ps,DataW.Trod enc Tryz.prog W 0 sp held 22 (.slice (some a) 0 0) (.slice [] []) ps:=by
 cases h:sp a.block with
 | false=>exact ⟨_,Deep.shut_slice Tryz.underlying22 (Nat.zero_le _) (Nat.le_refl _) (Nat.zero_le _) h (fun _=>.nil) (fun _=>[]) (fun i hi=>absurd hi (Nat.not_lt_zero _))⟩
 | true=>exact ⟨_,Deep.shut_slice_whole Tryz.underlying22 (Nat.zero_le _) (Nat.le_refl _) (Nat.zero_le _) h (fun _=>.nil) (fun _=>[]) (fun i hi=>absurd hi (Nat.not_lt_zero _))⟩
theorem ygX (H:Type) (enc:TypeId×Value->H) (W:World) (base:Nat) (args:Array Value) (ds gs:List (DataW H)) (before:List MemPlace)
  (hval:∀ (j:Nat) t v,Tryz.f3.params[j]?=some t->args[j]?=some v->Value.okWide Tryz.prog W .any base t v)
  (hW:DataW.Whole enc Tryz.prog Tryz.f3.params.toList Rows.linkedSpec.vars false W args.toList ds gs before) (hL:laidMetH Tryz.prog Rows.linkedRow.laid W)
  (hz:(DataW.weightsEach Tryz.prog (Tryz.f3.params.toList ++ (OpenSpec.ofChange Rows.linkedSpec).bare.plain.varTypes Tryz.prog) (ds ++ gs)).all (·<=reachBytes)=true) :
  Calls Tryz.prog 3 args W fun e W'=>∃ v,e = .returned v/\Rows.linkedSpec.post enc Tryz.prog Tryz.f3 false true false false W args v W':=by
 have hW':=hW;obtain ⟨p,q,VE,hV,rfl,hfz,hnd⟩:=hW;have hA:DataW.TrodAll enc Tryz.prog W 0 (fun _=>true) true Tryz.f3.params.toList args.toList ds p:=VE;rw [Tryz.params3] at hA hval hz;obtain ⟨v0,vs0,d0,ds0,p0,q0,hargs,rfl,rfl,h0,r0⟩:=trodAll_cons hA;obtain ⟨v1,vs1,d1,ds1,p1,q1,Ej,rfl,rfl,h1,r1⟩:=trodAll_cons r0;obtain ⟨v2,vs2,d2,ds2,p2,q2,El,rfl,rfl,h2,r2⟩:=trodAll_cons r1;obtain ⟨v3,vs3,d3,ds3,p3,q3,Em,rfl,rfl,h3,r3⟩:=trodAll_cons r2;obtain ⟨rfl,rfl,rfl⟩:=trodAll_nil r3;subst Em;subst El;subst Ej;obtain rfl:args = #[v0,v1,v2,v3]:=by cases args; simp_all
 obtain ⟨rfl,rfl⟩:=trodVars_none hV;have hv0:Value.okWide Tryz.prog W .any base 22 v0:=hval 0 22 v0 rfl rfl;have hv1:Value.okWide Tryz.prog W .any base 3 v1:=hval 1 3 v1 rfl rfl;have hv2:Value.okWide Tryz.prog W .any base 3 v2:=hval 2 3 v2 rfl rfl;have hv3:Value.okWide Tryz.prog W .any base 3 v3:=hval 3 3 v3 rfl rfl;obtain ⟨f1,rfl,rfl,rfl,hw1⟩:=open_int (t:=3) Tryz.underlying3 hv1 h1;obtain ⟨f2,rfl,rfl,rfl,hw2⟩:=open_int (t:=3) Tryz.underlying3 hv2 h2;obtain ⟨f3,rfl,rfl,rfl,hw3⟩:=open_int (t:=3) Tryz.underlying3 hv3 h3;obtain ⟨a0,len,cap,rfl⟩:=okWide_slice Tryz.underlying22 hv0;obtain ⟨fuel,hf⟩:=h0
 clear VE;rcases Deep.open_strs Tryz.underlying22 Tryz.underlying9 Xi hf with ⟨hcs,hx⟩ | ⟨a,len',cap',m,Sx,hcs,_,hle,hmax,hall,hx,hcell⟩
 ·simp [Value.cells] at hcs;obtain ⟨rfl,rfl,rfl⟩:=hcs;simp only [Prod.mk.injEq] at hx;obtain ⟨rfl,rfl⟩:=hx;refine (QW f1 f2 f3 none 0 [] W (fun h=>absurd h (by simp)) (by simp) (by simp) (QH hL)).mono fun e W' ⟨he,hg⟩=>?_
  subst he;exact ⟨_,rfl,_,_,_,[],_,[],hW',trodAll_cons_mk (shut_bool Tryz.underlying4 _) trodAll_mk0,trodAll_cons_mk (shut_slice_nil Tryz.underlying22) (trodAll_cons_mk (shut_int Tryz.underlying3 hw1) (trodAll_cons_mk (shut_int Tryz.underlying3 hw2) (trodAll_cons_mk (shut_int Tryz.underlying3 hw3) trodAll_mk0))),rfl,QV hg _,fun h=>by cases h⟩
 ·simp [Value.cells] at hcs;obtain ⟨rfl,rfl,rfl⟩:=hcs;simp only [Prod.mk.injEq] at hx;obtain ⟨rfl,rfl⟩:=hx;simp only [if_true] at hall;subst hall;have zs:=sized_slice (j:=0) hz rfl rfl Tryz.underlying22;rw [jc,jc,List.length_range,List.length_range,show Tryz.prog.bytesOf 9=16 by kernel_rfl] at zs;have zr:=reachBytes_lt;have ze:∀ i,i < len->(Sx i).data.toList.length<=reachBytes:=fun i hi=>by
   have:=List.all_eq_true.1 hz _ (DataW.weights_mem_each (j:=0) rfl rfl (Sx i).data.toList.length (by
    simp only [DataW.weights,Tryz.underlying22];refine List.mem_cons_of_mem _ (List.mem_append_left _ (Xa (d:=.lit (.string (Sx i).data.toList)) (List.mem_map.2 ⟨i,List.mem_range.2 hi,rfl⟩) _ ?_));simp [DataW.weights]))
   simpa using this
  by_cases hz0:0 < m
  ·obtain ⟨b,off,spot⟩:=a;have hspot:spot=none:=by simpa [Addr.add] using World.cell?_spot (hcell 0 hz0).1
   subst hspot;have hc:∀ i,i < m->W.cell? ⟨b,off+i,none⟩=some (.string (Sx i)):=fun i hi=>by rw [<- Go.WideShapes.add_plain]; exact (hcell i hi).1
   have hin:vQ W (some ⟨b,off,none⟩) (BZ Sx len):=fun _=>⟨b,off,rfl,fun i hi=>by
    rw [ymb];rw [Rq] at hi;exact hc i (by omega)⟩
   have hbl:b < W.heap.size:=World.block_lt_of_cell? W _ (hc 0 hz0);have key:=QW f1 f2 f3 (some ⟨b,off,none⟩) m (BZ Sx len) W hin (fun f hf=>by
    simp only [BZ,List.mem_map,List.mem_range] at hf;obtain ⟨i,hi,rfl⟩:=hf
    have:=ze i hi
    unfold sl;omega) (by rw [Rq]; omega) (QH hL)
   rw [Rq] at key;refine key.mono fun e W' ⟨he,hg⟩=>?_
   subst he;exact ⟨_,rfl,_,_,_,[],_,[],hW',trodAll_cons_mk (shut_bool Tryz.underlying4 _) trodAll_mk0,trodAll_cons_mk (Deep.shut_strs_whole Tryz.underlying22 Tryz.underlying9 Xi (Nat.zero_le _) hle hmax (by simpa using hbl) Sx (fun i hi=>yc (hc i hi) hg) (fun i hi=>(hcell i hi).2)) (trodAll_cons_mk (shut_int Tryz.underlying3 hw1) (trodAll_cons_mk (shut_int Tryz.underlying3 hw2) (trodAll_cons_mk (shut_int Tryz.underlying3 hw3) trodAll_mk0))),rfl,QV hg _,fun h=>by cases h⟩
  ·obtain rfl:m=0:=by omega
   obtain rfl:len=0:=by omega
   have key:=QW f1 f2 f3 (some a) 0 [] W (fun h=>absurd h (by simp)) (by simp) (by simp) (QH hL);refine key.mono fun e W' ⟨he,hg⟩=>?_
   subst he;obtain ⟨ps,hps⟩:=ylG (enc:=enc) (W:=W') (held:=true) (fun b=>decide (b < W.heap.size)) a;exact ⟨_,rfl,_,_,_,[],_,[],hW',trodAll_cons_mk (shut_bool Tryz.underlying4 _) trodAll_mk0,trodAll_cons_mk hps (trodAll_cons_mk (shut_int Tryz.underlying3 hw1) (trodAll_cons_mk (shut_int Tryz.underlying3 hw2) (trodAll_cons_mk (shut_int Tryz.underlying3 hw3) trodAll_mk0))),rfl,QV hg _,fun h=>by cases h⟩
def Zo (zs:List Int):Obj->Obj
 | .cells _ t frozen=>.cells (zs.map (Value.int .i64)).toArray t frozen
 | o=>o
noncomputable def Rs (os:Os):World :=
 { World.holding Tryz.prog os ⟨#[],#[],[]⟩ with heap:=((World.holding Tryz.prog os ⟨#[],#[],[]⟩).heap.modify 0 (Zo mR)).modify 1 (Zo xu) }
theorem ynj (os:Os):laidMet Tryz.prog Rows.linkedRow.laid ((Rs os).forCall (fun _ _=>0) ⟨#[],#[.slice none 0 0,.int .i64 0,.int .i64 0,.int .i64 0],[]⟩).memory :=
 laidMet_of_run' 8 (by kernel_rfl) (by kernel_rfl)
theorem yiz (os:Os) {H:Type} (enc:TypeId×Value->H):∃ places,DataW.whole enc Tryz.prog ((Rs os).forCall (fun _ _=>0) ⟨#[],#[.slice none 0 0,.int .i64 0,.int .i64 0,.int .i64 0],[]⟩).memory Tryz.f3.params.toList Rows.linkedSpec.vars false #[Value.slice none 0 0,.int .i64 0,.int .i64 0,.int .i64 0].toList 8=some ([.nil,.lit (.int .i64 0),.lit (.int .i64 0),.lit (.int .i64 0)],[],places) :=
 ⟨[],by kernel_rfl⟩
theorem yio (os:Os) (started:os.Started) (H:Type) (enc:TypeId×Value->H) (F:Stop.Interp) :
  ReturnsInHanded {} Tryz.checked os 3 .any ((OpenSpec.ofChange Rows.linkedSpec).preRow enc Tryz.prog Tryz.f3 Rows.linkedRow.domain false Rows.linkedRow.laid) (((OpenSpec.ofChange Rows.linkedSpec).at F).post enc Tryz.prog Tryz.f3 false true false false):=by
 obtain ⟨places,hx⟩:=yiz os enc;refine returnsInHanded_of_row (C:=Tryz.checked) (s:=OpenSpec.ofChange Rows.linkedSpec) ykk started (by kernel_rfl) Tryz.func3
  (witness_row_at (enc:=enc) (C:=Tryz.checked) false (Rs os) #[.slice none 0 0,.int .i64 0,.int .i64 0,.int .i64 0] rfl (by kernel_rfl) (by kernel_rfl) (by kernel_rfl)
   (OpenSpec.preRow_of_cond 8 hx (by kernel_rfl) (fun k hk=>by cases hk) (by kernel_rfl) (ynj os))) ?_
 intro W base args ds gs before hval hW _ _ hz hL _ _;exact ygX H enc W base args ds gs before hval hW hL hz
theorem ykd:Rows.LinkedSaid :=
 OpenClaim.holds_of_cond 3 Tryz.f3 rfl rfl rfl rfl rfl rfl rfl ⟨rfl,rfl,rfl,rfl,rfl⟩ rfl rfl rfl rfl rfl (by kernel_rfl) Tryz.func3 (by kernel_rfl)
  (of_decide_eq_true (by kernel_rfl)) (by unfold Func.isWrapper; first | (rw [if_pos (by decide +kernel)]; kernel_rfl) | (rw [if_neg (by decide +kernel)]; exact ⟨rfl,rfl⟩))
  (fun os started H enc _ F=>by rw [OpenClaim.pre_eq_preRow]; exact yio os started H enc F)
theorem yjc (f : FuncId) (fn : Func) (hf : Tryz.pinned.checked.prog.funcNamed "linker/linkerlaw.Linked" = some f) (hfn : Tryz.pinned.checked.prog.funcs[f]? = some fn) :
  false=Tryz.pinned.checked.prog.looks []/\∀ (j:Nat) t,fn.params[j]?=some t->Tryz.pinned.checked.prog.wantsStandIn t=false:=by
 obtain rfl : f = 3 := Option.some.inj ((show Tryz.prog.funcNamed "linker/linkerlaw.Linked" = some 3 by kernel_rfl).symm.trans hf) |>.symm
 obtain rfl:fn=Tryz.f3:=(Option.some.inj (Tryz.func3.symm.trans hfn)).symm;refine ⟨by kernel_rfl,fun j t ht=>?_⟩;rw [Tryz.params3] at ht;have hm:=Array.mem_of_getElem? ht;simp only [List.mem_toArray,List.mem_cons,List.not_mem_nil,or_false] at hm;rcases hm with rfl | rfl | rfl | rfl
 ·exact (show Tryz.prog.wantsStandIn 22=false by kernel_rfl)
 ·exact (show Tryz.prog.wantsStandIn 3=false by kernel_rfl)
 ·exact (show Tryz.prog.wantsStandIn 3=false by kernel_rfl)
 ·exact (show Tryz.prog.wantsStandIn 3=false by kernel_rfl)
theorem linked_card:Rows.LinkedCardSaid :=
 Claim7.holds_tied_plain_at .later [] _ _ _ _ ykd (fun _ h=>by cases h) (by kernel_rfl) (fun _ h=>by cases h) linked_row_tie rfl ⟨rfl,rfl⟩ (by kernel_rfl) rfl yjc (by kernel_rfl)
end Go.Proofs.YtelehpmjhjljgaaGreatDoor
