/- What a text's object keeps to, whatever the text says. -/
/- Writing what is no object. -/
/- Walks: a text assembled. -/
/- Texts that are none, and what is told of them: the plain side. -/
/- Walks: Faults. -/
/- Walks: Faults. -/
/- Walks: Back. -/
/- Walks: Back, the whole. -/
/- The keeps: objects of texts, files linked. -/
/- The keeps: files that are known. -/
/- Walks over package image: valid, Read; Load. -/
/- A law: noughts appended. -/
/- Walks over the document's answer: parts of images. -/
/- Walks over the document's answer: ParseImage. -/
/- Walks over the document's answer: ParseImage, the whole. -/
/- Walks: Read of images, Load, the statement Images. -/
/- Walks over package machine: data as loaded. -/
/- A law: a whole struct stored. -/
import Derived.Test.YtpgklkhgfcjceaaGreatDoorG24
import Derived.Test.YtpgklkhgfcjceaaGreatDoorG22
import Derived.Test.YtpgklkhgfcjceaaGreatDoorG09
import Derived.Test.YtpgklkhgfcjceaaGreatDoorG06
import Derived.Test.YtpgklkhgfcjceaaGreatDoorG04
import Derived.Test.YtpgklkhgfcjceaaGreatDoorG23
import Derived.Test.YtpgklkhgfcjceaaGreatDoorG21
import Derived.Test.YtpgklkhgfcjceaaGreatDoorG01
import Derived.Laws.AppendOwn
import Derived.Test.YtpgklkhgfcjceaaGreatDoorG05
import Derived.Test.YtpgklkhgfcjceaaGreatDoorG03
import Derived.Test.YtpgklkhgfcjceaaGreatDoorG19
import Derived.Deep.RegionHeld3
import Derived.Laws.CopyRow
namespace Go.Proofs.YtpgklkhgfcjceaaGreatDoor
namespace As
structure Tm (o:Lk.Obj):Prop where
 text:o.text.length<=1200
 far:o.far.length<=1200
 data:o.data.length<=64
 bss:0<=o.bss/\o.bss<=64
 names:∀ y∈o.syms,y.name.length<=6
 offs:∀ r∈o.rels,r.off<=4800
theorem secLen_le {o:Lk.Obj} (h:Tm o) (sect:Nat):secLen o sect<=1200:=by
 have h1:=h.text
 have h2:=h.far
 have h3:=h.data
 have h4:=h.bss
 unfold secLen
 repeat' split
 all_goals omega
theorem refuse_obj (e pos:Nat) (st:St):(refuse e pos st).obj=st.obj:=by unfold refuse; split <;> rfl
theorem refuseIf_obj (c:Bool) (e pos:Nat) (st:St):(refuseIf c e pos st).obj=st.obj:=by unfold refuseIf; split; exact refuse_obj _ _ _; rfl
theorem advance_obj (s:List UInt8) (st:St):(advance s st).obj=st.obj:=by
 unfold advance
 split
 ·rfl
 split
 ·rfl
 ·rw [refuse_obj]
theorem takeWord_obj (s:List UInt8) (st:St):(takeWord s st).2.obj=st.obj:=by
 unfold takeWord
 split
 ·exact advance_obj s st
 ·rfl
theorem checkName_obj (t:Tok) (st:St):(checkName t st).obj=st.obj:=by unfold checkName; rw [refuseIf_obj,refuseIf_obj,refuseIf_obj]
theorem name_obj (s:List UInt8) (st:St):(name s st).2.obj=st.obj:=by
 unfold name
 split
 ·show (advance s _).obj=_; rw [advance_obj,checkName_obj]
 ·exact refuse_obj _ _ _
theorem sign_obj (s c:List UInt8) (st:St):(sign s c st).obj=st.obj:=by
 unfold sign
 split
 ·exact advance_obj s st
 ·exact refuse_obj _ _ _
theorem register_obj (s:List UInt8) (st:St):(register s st).2.obj=st.obj:=by
 unfold register
 split
 ·split
  ·exact refuse_obj _ _ _
  ·exact advance_obj _ _
 ·exact refuse_obj _ _ _
theorem numberFrom_obj (s:List UInt8) (neg:Bool) (pos:Nat) (lo hi:Int) (st:St):(numberFrom s neg pos lo hi st).2.obj=st.obj:=by
 unfold numberFrom
 generalize (if neg=true then -(st.tok.n:Int) else (st.tok.n:Int))=v
 split
 ·split
  ·exact refuse_obj _ _ _
  ·exact advance_obj _ _
 ·exact refuse_obj _ _ _
theorem number_obj (s:List UInt8) (lo hi:Int) (st:St):(number s lo hi st).2.obj=st.obj:=by
 unfold number
 split
 ·rw [numberFrom_obj,advance_obj]
 ·rw [numberFrom_obj]
theorem place_obj (s:List UInt8) (st:St):(place s st).2.obj=st.obj:=by
 unfold place; dsimp only
 rw [sign_obj,register_obj,sign_obj,number_obj]
theorem failed_refuse (e pos:Nat) (he:e≠0) (st:St):failed (refuse e pos st)=true:=by
 unfold refuse
 split
 ·assumption
 ·simp [failed,he]
theorem failed_refuseIf (c:Bool) (e pos:Nat) (st:St) (h:failed (refuseIf c e pos st)=false):failed st=false:=by
 unfold refuseIf at h
 split at h
 ·unfold refuse at h
  split at h
  ·exact h
  ·rename_i hf; simpa using hf
 ·exact h
theorem refuseIf_no (c:Bool) (e pos:Nat) (he:e≠0) (st:St) (h:failed (refuseIf c e pos st)=false):c=false:=by
 unfold refuseIf at h
 split at h
 ·rw [failed_refuse e pos he] at h; cases h
 ·rename_i hc; simpa using hc
theorem failed_advance (s:List UInt8) (st:St) (h:failed (advance s st)=false):failed st=false:=by
 unfold advance at h
 split at h
 ·exact h
 ·rename_i hf; simpa using hf
theorem checkName_ok (t:Tok) (st:St) (h:failed (checkName t st)=false):t.text.length<=6:=by
 unfold checkName at h
 have:=refuseIf_no _ _ _ (by decide) _ (failed_refuseIf _ _ _ _ h)
 simpa using this
theorem name_ok (s:List UInt8) (st:St) (h:failed (name s st).2=false):(name s st).1.text.length<=6:=by
 unfold name at h ⊢
 split at h
 ·rename_i hk
  rw [if_pos hk]
  exact checkName_ok _ _ (failed_advance s _ h)
 ·rename_i hk
  rw [if_neg hk]
  exact Nat.zero_le _
theorem symbolNamed_tm (t:Tok) (st:St) (h:Tm st.obj) (ht:failed st=false->t.text.length<=6):Tm (symbolNamed t st).2.obj:=by
 unfold symbolNamed
 split
 ·exact h
 rename_i hf
 have hf':failed st=false:=by simpa using hf
 split
 ·exact h
 split
 ·show Tm (refuse _ _ _).obj; rw [refuse_obj]; exact h
 ·refine ⟨h.text,h.far,h.data,h.bss,fun y hy=>?_,h.offs⟩
  rcases List.mem_append.1 hy with hy | hy
  ·exact h.names y hy
  ·simp at hy; subst hy; exact ht hf'
theorem mem_modify {α:Type} (l:List α) (i:Nat) (f:α->α) (y:α) (h:y∈l.modify i f):∃ x∈l,y=x\/y=f x:=by
 obtain ⟨j,hj,rfl⟩:=List.getElem_of_mem h
 rw [List.getElem_modify]
 refine ⟨l[j]'(by simpa using hj),List.getElem_mem _,?_⟩
 split
 ·exact .inr rfl
 ·exact .inl rfl
theorem setSym_tm (st:St) (i:Nat) (f:Lk.Sym->Lk.Sym) (h:Tm st.obj) (hf:∀ y,(f y).name=y.name):Tm (setSym st i f).obj:=by
 refine ⟨h.text,h.far,h.data,h.bss,fun y hy=>?_,h.offs⟩
 obtain ⟨x,hx,rfl | rfl⟩:=mem_modify _ _ _ _ hy
 ·exact h.names _ hx
 ·rw [hf]; exact h.names _ hx
theorem label_tm (t:Tok) (st:St) (h:Tm st.obj):Tm (label t st).obj:=by
 unfold label; dsimp only
 have k:=symbolNamed_tm t (checkName t st) (by rw [checkName_obj]; exact h) (checkName_ok t st)
 split
 ·exact k
 split
 ·rw [refuse_obj]; exact k
 ·exact setSym_tm _ _ _ k fun _=>rfl
theorem bind_tm (s:List UInt8) (binding:Int) (st:St) (h:Tm st.obj):Tm (bind s binding st).obj:=by
 unfold bind; dsimp only
 have k:=symbolNamed_tm (name s st).1 (name s st).2 (by rw [name_obj]; exact h) (name_ok s st)
 split
 ·exact k
 split
 ·rw [refuse_obj]; exact k
 ·exact setSym_tm _ _ _ k fun _=>rfl
theorem symbol_tm (s:List UInt8) (st:St) (h:Tm st.obj):Tm (symbol s st).2.obj:=symbolNamed_tm (name s st).1 (name s st).2 (by rw [name_obj]; exact h) (name_ok s st)
theorem target_tm (s:List UInt8) (st:St) (h:Tm st.obj):Tm (target s st).2.obj:=by
 unfold target; dsimp only
 have k:=symbol_tm s st h
 split
 ·rw [number_obj,advance_obj]; exact k
 split
 ·rw [number_obj,advance_obj]; exact k
 ·exact k
theorem addWords_tm (o:Lk.Obj) (sect:Nat) (ws:List Int) (h:Tm o) (hl:¬ 4 * limit sect < 4 * secLen o sect+4 * (ws.length:Int)):Tm (addWords o sect ws):=by
 unfold limit secLen at hl
 have h4:=h.bss
 unfold addWords
 split
 ·rename_i e; subst e
  simp at hl
  exact ⟨by simp; omega,h.far,h.data,h.bss,h.names,h.offs⟩
 split
 ·rename_i e; subst e
  simp at hl
  exact ⟨h.text,by simp; omega,h.data,h.bss,h.names,h.offs⟩
 split
 ·rename_i e; subst e
  simp at hl
  exact ⟨h.text,h.far,by simp; omega,h.bss,h.names,h.offs⟩
 split
 ·rename_i e; subst e
  simp at hl
  exact ⟨h.text,h.far,h.data,by simp; omega,h.names,h.offs⟩
 ·exact h
theorem lay_tm (ws:List Int) (st:St) (h:Tm st.obj):Tm (lay ws st).obj:=by
 unfold lay
 split
 ·rw [refuse_obj]; exact h
 split
 ·exact h
 ·rename_i hl _
  exact addWords_tm _ _ _ h hl
theorem layWith_tm (kind:Int) (sym:Nat) (addend:Int) (ws:List Int) (st:St) (h:Tm st.obj):Tm (layWith kind sym addend ws st).obj:=by
 unfold layWith; dsimp only
 have k:Tm (refuseIf (decide (32<=st.obj.rels.length)) 12 st.op.pos st).obj:=by rw [refuseIf_obj]; exact h
 split
 ·exact k
 ·refine lay_tm _ _ ⟨k.text,k.far,k.data,k.bss,k.names,fun r hr=>?_⟩
  rcases List.mem_append.1 hr with hr | hr
  ·exact k.offs r hr
  ·simp at hr; subst hr
   have:=secLen_le k (refuseIf (decide (32<=st.obj.rels.length)) 12 st.op.pos st).sect
   show 4 * _<=(4800:Int)
   omega
theorem layOne_tm (op rd rs1 rs2:Nat) (n:Int) (st:St) (h:Tm st.obj):Tm (layOne op rd rs1 rs2 n st).obj:=lay_tm _ _ h
theorem layAddress_tm (reg op rd rs1 rs2:Nat) (n:Int) (sym:Nat) (addend:Int) (st:St) (h:Tm st.obj):Tm (layAddress reg op rd rs1 rs2 n sym addend st).obj:=by
 unfold layAddress
 exact layWith_tm _ _ _ _ _ (by rw [refuseIf_obj]; exact h)
theorem ite_tm {c:Prop} [Decidable c] {a b:St} (ha:Tm a.obj) (hb:Tm b.obj):Tm (if c then a else b).obj:=by
 by_cases h:c
 ·rw [if_pos h]; exact ha
 ·rw [if_neg h]; exact hb
section
variable (s:List UInt8) (op:Nat) (st:St) (h:Tm st.obj)
include h
theorem threeRegs_tm:Tm (threeRegs s op st).obj:=by unfold threeRegs; dsimp only; refine layOne_tm _ _ _ _ _ _ ?_; rw [register_obj,sign_obj,register_obj,sign_obj,register_obj]; exact h
theorem twoRegsNum_tm:Tm (twoRegsNum s op st).obj:=by unfold twoRegsNum; dsimp only; refine layOne_tm _ _ _ _ _ _ ?_; rw [number_obj,sign_obj,register_obj,sign_obj,register_obj]; exact h
theorem upper_tm:Tm (upper s st).obj:=by unfold upper; dsimp only; refine layOne_tm _ _ _ _ _ _ ?_; rw [number_obj,sign_obj,register_obj]; exact h
theorem load_tm:Tm (load s st).obj:=by
 unfold load; dsimp only
 refine ite_tm ?_ ?_
 ·refine layAddress_tm _ _ _ _ _ _ _ _ _ (target_tm s _ ?_); rw [sign_obj,register_obj]; exact h
 ·refine layOne_tm _ _ _ _ _ _ ?_; rw [place_obj,sign_obj,register_obj]; exact h
theorem store_tm:Tm (store s st).obj:=by
 unfold store; dsimp only
 refine ite_tm ?_ ?_
 ·refine layAddress_tm _ _ _ _ _ _ _ _ _ ?_; rw [register_obj,sign_obj]; refine target_tm s _ ?_; rw [sign_obj,register_obj]; exact h
 ·refine layOne_tm _ _ _ _ _ _ ?_; rw [place_obj,sign_obj,register_obj]; exact h
theorem jumpRegister_tm:Tm (jumpRegister s st).obj:=by unfold jumpRegister; dsimp only; refine layOne_tm _ _ _ _ _ _ ?_; rw [place_obj,sign_obj,register_obj]; exact h
theorem bare_tm:Tm (bare st).obj:=by
 unfold bare
 exact ite_tm (layOne_tm _ _ _ _ _ _ h) (ite_tm (layOne_tm _ _ _ _ _ _ h) (ite_tm (layOne_tm _ _ _ _ _ _ h) h))
theorem branch_tm:Tm (branch s op st).obj:=by unfold branch; dsimp only; refine layWith_tm _ _ _ _ _ (symbol_tm s _ ?_); rw [sign_obj,register_obj,sign_obj,register_obj]; exact h
theorem layJump_tm (rd:Nat):Tm (layJump s rd st).obj:=by unfold layJump; dsimp only; exact layWith_tm _ _ _ _ _ (symbol_tm s _ h)
theorem move_tm:Tm (move s st).obj:=by unfold move; dsimp only; refine layOne_tm _ _ _ _ _ _ ?_; rw [register_obj,sign_obj,register_obj]; exact h
theorem loadNumber_tm:Tm (loadNumber s st).obj:=by
 unfold loadNumber; dsimp only
 refine ite_tm ?_ ?_
 ·refine layOne_tm _ _ _ _ _ _ ?_; rw [number_obj,sign_obj,register_obj]; exact h
 ·refine lay_tm _ _ ?_; rw [number_obj,sign_obj,register_obj]; exact h
theorem call_tm:Tm (call s st).obj:=by unfold call; dsimp only; exact layWith_tm _ _ _ _ _ (symbol_tm s _ h)
theorem loadAddress_tm:Tm (loadAddress s st).obj:=by unfold loadAddress; dsimp only; refine layAddress_tm _ _ _ _ _ _ _ _ _ (target_tm s _ ?_); rw [sign_obj,register_obj]; exact h
end
theorem jumpLink_tm (s:List UInt8) (st:St) (h:Tm st.obj):Tm (jumpLink s st).obj:=by unfold jumpLink; dsimp only; refine layJump_tm s _ ?_ _; rw [sign_obj,register_obj]; exact h
theorem instruction_tm (s:List UInt8) (shape op:Nat) (st:St) (h:Tm st.obj):Tm (instruction s shape op st).obj:=by
 unfold instruction
 exact ite_tm (threeRegs_tm s op st h) (ite_tm (twoRegsNum_tm s op st h) (ite_tm (upper_tm s st h) (ite_tm (load_tm s st h) (ite_tm (store_tm s st h) (ite_tm (jumpRegister_tm s st h) (ite_tm (bare_tm st h) (ite_tm (branch_tm s op st h) (ite_tm (jumpLink_tm s st h) (ite_tm (layJump_tm s st h 0) (ite_tm (move_tm s st h) (ite_tm (loadNumber_tm s st h) (ite_tm (call_tm s st h) (ite_tm (loadAddress_tm s st h) h)))))))))))))
theorem section_obj (st:St):(section' st).obj=st.obj:=by unfold section'; (repeat' split) <;> rfl
theorem directive_tm (s:List UInt8) (shape:Nat) (st:St) (h:Tm st.obj):Tm (directive s shape st).obj:=by
 unfold directive
 split
 ·rw [section_obj]; exact h
 split
 ·unfold word; dsimp only
  split
  ·exact layWith_tm _ _ _ _ _ (target_tm s _ h)
  ·refine lay_tm _ _ ?_; rw [number_obj]; exact h
 split
 ·unfold space; dsimp only
  split
  ·refine lay_tm _ _ ?_; rw [number_obj]; exact h
  ·rw [refuse_obj,number_obj]; exact h
 split
 ·unfold align; dsimp only
  have k:Tm (number s 2 4 st).2.obj:=by rw [number_obj]; exact h
  split
  ·exact k
  ·have k2:Tm (alignTo (2 ^ (number s 2 4 st).1.toNat) (number s 2 4 st).2).obj:=by
    unfold alignTo
    split
    ·split
     ·exact layWith_tm _ _ _ _ _ k
     ·exact k
    ·exact lay_tm _ _ k
   unfold raiseBorder
   split
   ·exact ⟨k2.text,k2.far,k2.data,k2.bss,k2.names,k2.offs⟩
   ·exact k2
 split
 ·unfold binding; exact bind_tm s _ _ h
 ·exact h
theorem operation_tm (s:List UInt8) (t:Tok) (st:St) (h:Tm st.obj):Tm (operation s t st).obj:=by
 unfold operation
 split
 ·rw [refuse_obj]; exact h
 split
 ·rw [refuse_obj]; exact h
 split
 ·exact instruction_tm s _ _ _ h
 ·exact directive_tm s _ _ h
theorem lineOp_tm (s:List UInt8) (t:Tok) (st:St) (h:Tm st.obj):Tm (lineOp s t st).obj:=by
 unfold lineOp; dsimp only
 have k:Tm (if t.kind == 1 then operation s t st else st).obj:=ite_tm (operation_tm s t st h) h
 exact ite_tm k (by rw [refuse_obj]; exact k)
theorem line_tm (s:List UInt8) (st:St) (h:Tm st.obj):Tm (line s st).obj:=by
 unfold line; dsimp only
 split
 ·refine lineOp_tm s _ _ ?_
  rw [takeWord_obj,advance_obj]
  refine label_tm _ _ ?_
  rw [takeWord_obj,advance_obj]; exact h
 ·refine lineOp_tm s _ _ ?_
  rw [takeWord_obj,advance_obj]; exact h
theorem nextLine_obj (s:List UInt8) (st:St):(nextLine s st).2.obj=st.obj:=by unfold nextLine; split <;> rfl
theorem lines_tm (s:List UInt8) (n:Nat) (st:St) (h:Tm st.obj):Tm (lines s n st).obj:=by
 induction n generalizing st with
 | zero=>exact h
 | succ n ih =>
  unfold lines; dsimp only
  have k:Tm (nextLine s (line s st)).2.obj:=by rw [nextLine_obj]; exact line_tm s st h
  split
  ·exact ih _ k
  ·exact k
theorem start_tm:Tm start.obj:=⟨by decide,by decide,by decide,by decide,by simp [start],by simp [start]⟩
end As
end Go.Proofs.YtpgklkhgfcjceaaGreatDoor

namespace Go.Proofs.YtpgklkhgfcjceaaGreatDoor
open Go.RowKit
set_option maxHeartbeats 1000000 in
theorem ypN (g:Nat) (o:Lk.Obj) (w:World) (ht:Tabs w) (h:yr w g o) (hn:Tame o) (hv:¬ yv o) :
  Calls Tryz.prog 36 #[.pointer (some ⟨g,0,none⟩)] w fun e w'=>e = .returned (.tuple #[.string ⟨#[]⟩,.int .i64 20])/\w.grownBy w' none:=by
 have cV:=hid (yfJ g o w ht h hn)
 have HV:=hid hv
 clear ht h hv hn
 go_enter Tryz.func36,Tryz.ntmps36
 go_wp2_with fail
 refine cV.out.mono ?_
 rintro e W1 ⟨tv,q1⟩
 rcases tv.split with ⟨rfl,_⟩ | ⟨_,p⟩
 ·have Q:=hid q1
  clear q1
  go_wp2
  go_ret2
  exact ⟨rfl,Q.out⟩
 ·exact absurd p.out HV.out
theorem ynb (g:Nat) (o:Lk.Obj) (w:World) (ht:Tabs w) (h:yr w g o) (hn:Tame o) :
  Calls Tryz.prog 36 #[.pointer (some ⟨g,0,none⟩)] w fun e w'=>((e = .returned (.tuple #[.string (bs (Lk.objB o)),.int .i64 0])/\yv o)\/(e = .returned (.tuple #[.string (bs []),.int .i64 20])/\¬ yv o))/\w.grownBy w' none:=by
 by_cases hv:yv o
 ·exact (you g o w ht h (yct hv) hv).mono fun e w' k=>⟨.inl ⟨k.1,hv⟩,k.2⟩
 ·exact (ypN g o w ht h hn hv).mono fun e w' k=>⟨.inr ⟨k.1,hv⟩,k.2⟩
def Told (s t:List UInt8) (fe fa:Nat):Prop :=
 ((As.assemble s).1.1≠0/\t=[]/\fe=(As.assemble s).1.1/\fa=(As.assemble s).1.2) \/
 ((As.assemble s).1.1=0/\yv (As.assemble s).2/\t=Lk.objB (As.assemble s).2/\fe=0/\fa=0) \/
 ((As.assemble s).1.1=0/\¬ yv (As.assemble s).2/\t=[]/\fe=20/\fa=0)
def ybz (fe fa:Nat):Value:=.agg #[.int .i64 fe,.int .i64 fa,.string ⟨#[]⟩]
def ybi (fe fa:Nat):Array Value:=#[.int .i64 fe,.int .i64 fa,.string ⟨#[]⟩]
def asmW (s:ByteArray) (w:World):World :=
 (((w.alloc (.cells (ybi 0 0) 45)).alloc (.cells (yE s (w.heap.size+1+1+1) As.start) 67)).alloc (.cells #[.int .i64 2,.int .i64 2,.int .i64 2,.int .i64 2] 3)).alloc
  (.cells #[.slice none 0 0,.slice none 0 0,.slice none 0 0,.int .i64 0,.slice (some ⟨w.heap.size+1+1,0,none⟩) 4 4,.slice none 0 0,.slice none 0 0] 71)
theorem ygJ (s:ByteArray) (w:World):w.grownBy (asmW s w) none :=
 ya (ya (ya (ysp _ _ _) (ysp _ _ _)) (ysp _ _ _)) (ysp _ _ _)
theorem yme (s:ByteArray) (w:World):yc (asmW s w) w.heap.size (ybi 0 0) 45 :=
 (yc.new w (ybi 0 0) 45).grown (ya (ya (ysp _ _ none) (ysp _ _ none)) (ysp _ _ none)) (by simp)
theorem yba (w:World) (o:Obj):(w.alloc o).heap.size=w.heap.size+1:=Array.size_push _
theorem ypA (s:ByteArray) (hs:s.size<=1000):StOk s As.start :=
 ⟨hs,Nat.zero_le _,ycO,by decide,by decide,ycO,by decide,by decide,by decide,by decide,by decide,by decide,by decide,by decide⟩
theorem ypZ (s:ByteArray) (w:World) (ht:Tabs w) (hB:3<=w.heap.size) (hs:s.size<=1000) :
  yl w.heap.size s (w.heap.size+1) (w.heap.size+1+1+1) As.start (asmW s w):=by
 have b1:=yc.new (w.alloc (.cells (ybi 0 0) 45)) (yE s (w.heap.size+1+1+1) As.start) 67
 have b2:=yc.new ((w.alloc (.cells (ybi 0 0) 45)).alloc (.cells (yE s (w.heap.size+1+1+1) As.start) 67)) #[.int .i64 2,.int .i64 2,.int .i64 2,.int .i64 2] 3
 have b3:=yc.new (((w.alloc (.cells (ybi 0 0) 45)).alloc (.cells (yE s (w.heap.size+1+1+1) As.start) 67)).alloc (.cells #[.int .i64 2,.int .i64 2,.int .i64 2,.int .i64 2] 3)) #[.slice none 0 0,.slice none 0 0,.slice none 0 0,.int .i64 0,.slice (some ⟨w.heap.size+1+1,0,none⟩) 4 4,.slice none 0 0,.slice none 0 0] 71
 rw [yba] at b1
 rw [yba,yba] at b2
 rw [yba,yba,yba] at b3
 refine ⟨b1.grown (ya (ysp _ _ none) (ysp _ _ none)) (by simp),⟨.slice none 0 0,.slice none 0 0,.slice none 0 0,.slice (some ⟨w.heap.size+1+1,0,none⟩) 4 4,.slice none 0 0,.slice none 0 0,?_⟩,⟨hB,by omega,by omega,by omega⟩,ypA s hs,ht.grown (ygJ s w)⟩
 refine ⟨b3,World.ownsRow_nil _ _ _ _,World.ownsRow_nil _ _ _ _,World.ownsRow_nil _ _ _ _,⟨rfl,.inr ⟨w.heap.size+1+1,4,#[.int .i64 2,.int .i64 2,.int .i64 2,.int .i64 2],rfl,by omega,b2.grown (ysp _ _ none) (by simp),Nat.le_refl 4,by decide,rfl,rfl⟩⟩,World.ownsRow_nil _ _ _ _,World.ownsRow_nil _ _ _ _,?_⟩
 unfold ycP blkV Value.ownBlock
 simp
 omega
theorem yft {w W V:World} (h:w.grownBy W none) (hb:Below w.heap.size W V):w.grownBy V none :=
 ⟨hb.os.trans h.os,hb.tape.trans h.tape,hb.output.trans h.output,Nat.le_trans h.size hb.size,fun i hi _=>(hb.block i hi).trans (h.block i hi (by simp))⟩
theorem yeO {w V:World} (h:w.grownBy V none) (r:Nat) (hr:w.heap.size<=r) (l:List (Nat×Value)):w.grownBy (sets V r l) none:=by
 have g:=yaZ V r l
 exact ⟨g.os.trans h.os,g.tape.trans h.tape,g.output.trans h.output,Nat.le_trans h.size g.size,fun i hi _=>(g.block i (Nat.lt_of_lt_of_le hi h.size) (by simp; omega)).trans (h.block i hi (by simp))⟩
theorem ynV {rs:List Lk.Rel} {r:Lk.Rel} (h:r∈As.orderRels rs):r∈rs:=by
 unfold As.orderRels at h
 simp only [List.mem_append,List.mem_filter] at h
 rcases h with (h | h) | h <;> exact h.1
theorem ykM {s:ByteArray} {st:As.St} (hok:StOk s st) (h:As.Tm st.obj):Tame (As.finish st.obj):=by
 have h1:=hok.syms
 have h2:=hok.rels
 have h3:=hok.align
 have h4:=yjP st.obj.rels
 refine ⟨⟨?_,?_,?_,?_,?_,?_⟩,fun y hy=>?_,fun r hr=>?_⟩
 ·have:=h.text; show st.obj.text.length<=_; omega
 ·have:=h.far; show st.obj.far.length<=_; omega
 ·have:=h.data; show st.obj.data.length<=_; omega
 ·show st.obj.align.length<=_; omega
 ·show (As.bindRest st.obj.syms).length<=_; simp [As.bindRest]; omega
 ·show (As.orderRels st.obj.rels).length<=_; omega
 ·obtain ⟨x,hx,rfl⟩:=List.mem_map.1 hy
  have:=h.names x hx
  split <;> simp <;> omega
 ·have:=h.offs r (ynV hr); omega
def yqM (s:ByteArray) (w:World) (m:Value) (wr:World):Prop :=
 ∃ st:As.St,Does w.heap.size s (w.heap.size+1) (w.heap.size+1+1+1) (asmW s w) st wr /\
  ((m = .bool true/\∃ n,As.lines (sl s) (s.size+1) As.start=As.lines (sl s) n st/\s.size - st.p+1<=n)\/(m = .bool false/\As.lines (sl s) (s.size+1) As.start=st))
def ymD (s:ByteArray) (w:World) (m:Value) (wr:World):Nat:=match m with
 | .bool true=>s.size - ycX (w.heap.size+1) wr+1
 | _=>0
theorem yl.pos {B:Nat} {s:ByteArray} {b g:Nat} {st:As.St} {W:World} (h:yl B s b g st W):ycX b W=st.p:=by
 have:=yL h 1
 simp only [yE,ysk,ysl,ysj] at this
 unfold ycX
 rw [this]
 simp
set_option maxRecDepth 100000 in
set_option maxHeartbeats 8000000 in
theorem yjf (s:ByteArray) (w:World) (ht:Tabs w) (hN:NTab w) (hB:3<=w.heap.size) :
  Calls Tryz.prog 27 #[.string s] w fun e w'=>(∃ t fe fa,e = .returned (.tuple #[.string (bs t),ybz fe fa])/\Told (sl s) t fe fa)/\w.grownBy w' none:=by
 have HT:=hid ht
 have HN:=hid hN
 clear ht hN
 by_cases hl:1000 < s.size
 ·have d:decide (1000 < (s.size:Int))=true:=by simp; omega
  have RA:=hid (show As.assemble (sl s)=((1,0),As.start.obj) by unfold As.assemble; rw [yq,if_pos hl])
  go_enter Tryz.func27,Tryz.ntmps27
  go_wp2
  refine bodyPost_ret (v:=.tuple #[.string (bs []),ybz 1 0]) ?_ rfl ⟨⟨[],1,0,rfl,.inl ⟨by rw [RA.out]; decide,rfl,by rw [RA.out],by rw [RA.out]⟩⟩,ysp _ _ _⟩
  simp [results,Tryz.results27,go_sem,ybz,bs]
 ·have d:decide (1000 < (s.size:Int))=false:=by simp; omega
  have RA:=hid (show As.assemble (sl s)=(((As.lines (sl s) (s.size+1) As.start).fe,(As.lines (sl s) (s.size+1) As.start).fa),As.finish (As.lines (sl s) (s.size+1) As.start).obj) by unfold As.assemble; rw [yq,if_neg hl])
  have AT:=hid (ypZ s w HT.out hB (by omega))
  have AG:=hid (ygJ s w)
  have AF:=hid (yme s w)
  have TM:=hid (As.lines_tm (sl s) (s.size+1) As.start As.start_tm)
  go_enter Tryz.func27,Tryz.ntmps27
  go_wp2
  go_loopw [5] (fun m wr=>yqM s w m wr) (fun m wr=>ymD s w m wr)
  case atStart=>exact ⟨As.start,AT.out.does,.inl ⟨rfl,s.size+1,rfl,by omega⟩⟩
  case round =>
   obtain ⟨st,hd,⟨rfl,n,hn,hle⟩ | ⟨rfl,hn⟩⟩:=hrel
   ·have D:=hid hd
    have EN:=hid hn
    have HL:=hid hle
    have N2:=hid (HN.out.below (ydo (yft AG.out D.out.2.1) (Nat.le_refl _) (by simp)) hB)
    clear hd hn hle
    go_wp2_with fail
    refine (yoW _ s _ _ st wr D.out.1 N2.out).mono ?_
    rintro e V1 ⟨rfl,h1⟩
    have D1:=hid (D.out.after h1)
    clear h1
    go_wp2_with fail
    refine (yiu _ s _ _ _ V1 D1.out.1).mono ?_
    rintro e V2 ⟨rfl,h2⟩
    have D2:=hid (D1.out.afterB h2)
    clear h2
    cases hr:(As.nextLine (sl s) (As.line (sl s) st)).1
    ·have R:=hid hr
     clear hr
     go_wp2
     go_roundw
     case rel =>
      refine ⟨_,D2.out,.inr ⟨rfl,?_⟩⟩
      rw [EN.out]
      obtain ⟨k,rfl⟩:∃ k,n=k+1:=⟨n - 1,by have:=HL.out; omega⟩
      simp only [As.lines]
      rw [R.out]
      simp
     case measure=>simp [ymD]
    ·have R:=hid hr
     clear hr
     go_wp2
     go_roundw
     case rel =>
      have u1:=As.line_up (sl s) st
      have u2:=As.nextLine_up (sl s) (As.line (sl s) st) R.out
      rw [yq] at u2
      have hl2:=HL.out
      obtain ⟨k,rfl⟩:∃ k,n=k+1:=⟨n - 1,by omega⟩
      refine ⟨_,D2.out,.inl ⟨rfl,k,?_,by omega⟩⟩
      rw [EN.out]
      simp only [As.lines]
      rw [R.out]
      simp
     case measure =>
      have u1:=As.line_up (sl s) st
      have u2:=As.nextLine_up (sl s) (As.line (sl s) st) R.out
      rw [yq] at u2
      have p1:=D.out.1.pos
      have p2:=D2.out.1.pos
      simp only [ymD,p1,p2]
      omega
   ·have D:=hid hd
    rw [hn] at TM RA
    clear hd hn HN AT
    have FB:=hid (D.out.2.2 _ _ _ (by decide) (by decide) (by decide) (by decide) (by decide) AF.out)
    go_wp2_with fail
    refine (yaY _ s _ _ st wr D.out.1).mono ?_
    rintro e w1 ⟨rfl,rfl⟩
    cases hf:As.failed st
    ·have F0:=hid (show st.fe=0 by simpa [As.failed] using hf)
     clear hf
     go_wp2_with fail
     refine (yjg _ s _ _ st _ D.out.1).mono ?_
     rintro e V1 ⟨rfl,h1⟩
     have D1:=hid (D.out.after h1)
     clear h1
     go_wp2_with fail
     refine (yhb _ s _ _ _ V1 D1.out.1).mono ?_
     rintro e V2 ⟨rfl,h2⟩
     have D2:=hid (D1.out.after h2)
     clear h2 D1
     have FB2:=hid (D2.out.2.2 _ _ _ (by decide) (by decide) (by decide) (by decide) (by decide) AF.out)
     have c14:=yam D2.out.1
     go_wp2_with fail
     refine (ynb _ (As.finish st.obj) V2 D2.out.1.tabs D2.out.1.objAt (ykM D.out.1.ok TM.out)).mono ?_
     rintro e V3 ⟨hw,hg⟩
     have FG:=hid (yft AG.out (D2.out.grown hg).2.1)
     have FB3:=hid (FB2.out.grown hg (by simp))
     have v0:=FB3.out.free 0
     have v1:=FB3.out.free 1
     have v2:=FB3.out.free 2
     have x0:=FB3.out.cell 0
     have x1:=FB3.out.cell 1
     have x2:=FB3.out.cell 2
     simp only [ybi,ysk,ysl,ysj] at x0 x1 x2
     clear hg c14 D2 D FB FB2
     rcases hw with ⟨rfl,hv⟩ | ⟨rfl,hv⟩
     ·have HV:=hid hv
      clear hv
      go_wp2
      have F:=ybD [(0,.int .i64 0),(1,.int .i64 0),(2,.string ⟨#[]⟩)] FB3.out
      have h0:=F.cell 0
      have h1:=F.cell 1
      have h2:=F.cell 2
      simp only [ybi,ybl,ysz,ysA,yso,ysm,ysn,ysk,ysl,ysj] at h0 h1 h2
      refine bodyPost_ret (v:=.tuple #[.string (bs (Lk.objB (As.finish st.obj))),ybz 0 0]) ?_ rfl ⟨⟨_,0,0,rfl,.inr (.inl ⟨by rw [RA.out]; exact F0.out,by rw [RA.out]; exact HV.out,by rw [RA.out],rfl,rfl⟩)⟩,yeO FG.out _ (Nat.le_refl _) [(0,.int .i64 0),(1,.int .i64 0),(2,.string ⟨#[]⟩)]⟩
      clear F x0 x1 x2 v0 v1 v2
      simp only [sets,ysz,ysA] at h0 h1 h2 ⊢
      generalize World.setCell _ _ _=WF at *
      simp [results,Tryz.results27,go_sem,ybz,h0,h1,h2]
     ·have HV:=hid hv
      clear hv
      go_wp2
      have F:=ybD [(0,.int .i64 20),(1,.int .i64 0),(2,.string ⟨#[]⟩)] FB3.out
      have h0:=F.cell 0
      have h1:=F.cell 1
      have h2:=F.cell 2
      simp only [ybi,ybl,ysz,ysA,yso,ysm,ysn,ysk,ysl,ysj] at h0 h1 h2
      refine bodyPost_ret (v:=.tuple #[.string (bs []),ybz 20 0]) ?_ rfl ⟨⟨_,20,0,rfl,.inr (.inr ⟨by rw [RA.out]; exact F0.out,by rw [RA.out]; exact HV.out,rfl,rfl,rfl⟩)⟩,yeO FG.out _ (Nat.le_refl _) [(0,.int .i64 20),(1,.int .i64 0),(2,.string ⟨#[]⟩)]⟩
      clear F x0 x1 x2 v0 v1 v2
      simp only [sets,ysz,ysA] at h0 h1 h2 ⊢
      generalize World.setCell _ _ _=WF at *
      simp [results,Tryz.results27,go_sem,ybz,h0,h1,h2]
    ·have F0:=hid (show st.fe≠0 by simpa [As.failed] using hf)
     clear hf
     have FG:=hid (yft AG.out D.out.2.1)
     have c6:=yL D.out.1 6
     have c7:=yL D.out.1 7
     have c8:=yL D.out.1 8
     simp only [yE,ysk,ysl,ysj] at c6 c7 c8
     have v0:=FB.out.free 0
     have v1:=FB.out.free 1
     have v2:=FB.out.free 2
     have x0:=FB.out.cell 0
     have x1:=FB.out.cell 1
     have x2:=FB.out.cell 2
     simp only [ybi,ysk,ysl,ysj] at x0 x1 x2
     clear D
     go_wp2
     go_region
     go_wp2
     have F:=ybD [(0,.int .i64 st.fe),(1,.int .i64 st.fa),(2,.string ⟨#[]⟩)] FB.out
     have h0:=F.drew.cell 0
     have h1:=F.drew.cell 1
     have h2:=F.drew.cell 2
     simp only [ybi,ybl,ysz,ysA,yso,ysm,ysn,ysk,ysl,ysj] at h0 h1 h2
     refine bodyPost_ret (v:=.tuple #[.string (bs []),ybz st.fe st.fa]) ?_ rfl ⟨⟨_,st.fe,st.fa,rfl,.inl ⟨by rw [RA.out]; exact F0.out,rfl,by rw [RA.out],by rw [RA.out]⟩⟩,yi (yeO FG.out _ (Nat.le_refl _) [(0,.int .i64 st.fe),(1,.int .i64 st.fa),(2,.string ⟨#[]⟩)])⟩
     clear F x0 x1 x2 v0 v1 v2 c6 c7 c8
     simp only [sets,ysz,ysA] at h0 h1 h2 ⊢
     generalize World.drew _=WF at *
     simp [results,Tryz.results27,go_sem,ybz,bs,h0,h1,h2]
section
instance (c:Int):Decidable (Chr c):=by unfold Chr; infer_instance
instance (s:ByteArray):Decidable (ycx s):=by unfold ycx; infer_instance
instance (xs:List Int):Decidable (ybk xs):=by unfold ybk; infer_instance
instance (xs:List Int):Decidable (ybu xs):=by unfold ybu; infer_instance
instance (o:Lk.Obj):Decidable (yeJ o):=by unfold yeJ; infer_instance
instance (o:Lk.Obj):Decidable (ych o):=by unfold ych; infer_instance
instance (o:Lk.Obj) (y:Lk.Sym):Decidable (ydk o y):=by unfold ydk; infer_instance
instance (o:Lk.Obj):Decidable (yfp o):=by unfold yfp; infer_instance
instance (r:Lk.Rel):Decidable (ycv r):=by unfold ycv; infer_instance
instance (r:Lk.Rel):Decidable (yae r):=by unfold yae; infer_instance
instance (o:Lk.Obj) (r:Lk.Rel):Decidable (yeK o r):=by unfold yeK; infer_instance
instance (o:Lk.Obj) (r:Lk.Rel):Decidable (yeu o r):=by unfold yeu; infer_instance
instance (o:Lk.Obj) (r:Lk.Rel):Decidable (yca o r):=by unfold yca; infer_instance
instance (o:Lk.Obj) (r:Lk.Rel):Decidable (ydO o r):=by unfold ydO; infer_instance
instance (k:Int) (xs:List Int):Decidable (yaA k xs):=by unfold yaA yQ Jal0 yfN yX yV yad Nops; infer_instance
instance (o:Lk.Obj) (r:Lk.Rel):Decidable (ydE o r):=by unfold ydE; infer_instance
instance (a r:Lk.Rel):Decidable (ybS a r):=by unfold ybS; infer_instance
instance (o:Lk.Obj):Decidable (yfo o):=by unfold yfo; infer_instance
instance valid_dec (o:Lk.Obj):Decidable (yv o):=by unfold yv; infer_instance
end
theorem ygw (s:ByteArray) (w:World) (ht:Tabs w) (hN:NTab w) (hB:3<=w.heap.size) :
  Calls Tryz.prog 22 #[.string s] w fun e w'=>(∃ t fe fa,e = .returned (.tuple #[.string (bs t),ybz fe fa])/\Told (sl s) t fe fa)/\w.grownBy w' none:=by
 have cA:=hid (yjf s (w.alloc (.cells (ybi 0 0) 45)) (ht.grown (ysp _ _ none)) (hN.below (ydo (ysp _ _ none) (Nat.le_refl _) (by simp)) hB) (by rw [yba]; omega))
 have b0:=hid (yc.new w (ybi 0 0) 45)
 go_enter Tryz.func22,Tryz.ntmps22
 go_wp2_with fail
 refine cA.out.mono ?_
 rintro e V1 ⟨⟨t,fe,fa,rfl,ht⟩,hg⟩
 have HT:=hid ht
 have FB:=hid (b0.out.grown hg (by simp))
 have FG:=hid (ya (ysp w (.cells (ybi 0 0) 45) none) hg)
 clear ht hg cA b0
 unfold ybz
 have v0:=FB.out.free 0
 have v1:=FB.out.free 1
 have v2:=FB.out.free 2
 have x0:=FB.out.cell 0
 have x1:=FB.out.cell 1
 have x2:=FB.out.cell 2
 simp only [ybi,ysk,ysl,ysj] at x0 x1 x2
 go_wp2
 have F:=ybD [(0,.int .i64 fe),(1,.int .i64 fa),(2,.string ⟨#[]⟩)] FB.out
 have h0:=F.cell 0
 have h1:=F.cell 1
 have h2:=F.cell 2
 simp only [ybi,ybl,ysz,ysA,yso,ysm,ysn,ysk,ysl,ysj] at h0 h1 h2
 refine bodyPost_ret (v:=.tuple #[.string (bs t),ybz fe fa]) ?_ rfl ⟨⟨t,fe,fa,rfl,HT.out⟩,yeO FG.out _ (Nat.le_refl _) [(0,.int .i64 fe),(1,.int .i64 fa),(2,.string ⟨#[]⟩)]⟩
 clear F x0 x1 x2 v0 v1 v2
 simp only [sets,ysz,ysA] at h0 h1 h2 ⊢
 generalize World.setCell _ _ _=WF at *
 simp [results,Tryz.results22,go_sem,ybz,h0,h1,h2]
def asmB (t:List UInt8):List UInt8:=Lk.objB (As.assemble t).2
def ygE (t:List UInt8):Prop:=(As.assemble t).1.1=0/\yv (As.assemble t).2
theorem ymd {s t:List UInt8} {fe fa:Nat} (h:ygE s) (k:Told s t fe fa):fe=0/\t=asmB s:=by
 rcases k with ⟨h1,-⟩ | ⟨h1,h2,h3,h4,-⟩ | ⟨h1,h2,-⟩
 ·exact absurd h.1 h1
 ·exact ⟨h4,h3⟩
 ·exact absurd h.2 h2
theorem yls {w:World} {B:Nat} {ao:Option Addr} {cap:Nat} {fs:List (List UInt8)} (h:w.ownsRow B 9 1 (.slice ao fs.length cap) fs.length (fs.map fun l=>.string (bs l))):ycR w ao fs:=by
 intro hp
 obtain ⟨sg,hs,-,-,-,hc⟩:=ycG h hp
 refine ⟨sg,0,hs,fun i hi=>?_⟩
 rw [Nat.zero_add,hc i hi,List.getElem?_map,yst hi]
 rfl
set_option maxRecDepth 100000 in
set_option maxHeartbeats 4000000 in
theorem ypc (ts:List (List UInt8)) (am:Option Addr) (cm:Nat) (w:World) (hin:ycR w am ts) (hl:ts.length<=64) (hok:∀ t∈ts,ygE t) (ht:Tabs w) (hN:NTab w) (hB:3<=w.heap.size) :
  Calls Tryz.prog 15 #[.slice am ts.length cm] w fun e w'=>(∃ ao cap,e = .returned (.tuple #[.slice ao ts.length cap,.bool true])/\ycR w' ao (ts.map asmB))/\w.grownBy w' none:=by
 obtain ⟨i0,hi,hz0,hz1,hz2⟩:=info_parts Tryz.infoStr
 have HI:=hid hin
 have HT:=hid ht
 have HN:=hid hN
 have HK:=hid hok
 clear hin ht hN hok
 go_enter Tryz.func15,Tryz.ntmps15
 go_wp2
 go_loopw [4,5] (fun v i wr=>∃ (k:Nat),k<=ts.length/\i = .int .i64 k/\wr.ownsRow w.heap.size 9 1 v k (((ts.take k).map asmB).map fun l=>.string (bs l))/\w.grownBy wr none) (fun _ i _=>ts.length - (intOf i).toNat)
 case atStart=>exact ⟨0,Nat.zero_le _,rfl,World.ownsRow_nil _ _ _ _,World.grownBy.refl _ _⟩
 case round =>
  obtain ⟨k,hk,rfl,hown,hgr⟩:=hrel
  obtain ⟨av,cv,rfl⟩:=yh hown
  have HO:=hid hown
  have G:=hid hgr
  clear hown hgr
  by_cases hlt:k < ts.length
  ·obtain ⟨g0,off,rfl,hc⟩:=HI.out.kept G.out (by omega)
   have cc:=hc k hlt
   have hz:=G.out.size
   have g1:(k:Int) < (ts.length:Int):=by omega
   have OKK:=HK.out _ (ysr hlt)
   have TK:=hid (show (((ts.take (k+1)).map asmB).map fun l=>Value.string (bs l))=(((ts.take k).map asmB).map fun l=>.string (bs l)) ++ [.string (bs (asmB ts[k]))] by
    rw [List.take_succ_eq_append_getElem hlt,List.map_append,List.map_append]
    rfl)
   generalize ts[k]=tx at *
   clear hc
   go_wp2_with fail
   refine (ygw (bs tx) wr (HT.out.grown G.out) (HN.out.below (ydo G.out (Nat.le_refl _) (by simp)) hB) (by omega)).mono ?_
   rintro e V ⟨⟨t,fe,fa,rfl,htold⟩,hg⟩
   rw [ydM] at htold
   obtain ⟨rfl,rfl⟩:=ymd OKK htold
   have G2:=hid (ya (ya G.out hg) (ysp V (.cells #[.int .i64 0,.int .i64 fa,.string ⟨#[]⟩] 45) none))
   have HO2:=hid ((HO.out.kept hg (Decidable.em _)).alloc (.cells #[.int .i64 0,.int .i64 fa,.string ⟨#[]⟩] 45))
   have hzz:=hg.size
   have CN:=cell_one_new (V.alloc (.cells #[.int .i64 0,.int .i64 fa,.string ⟨#[]⟩] 45)) (.string (bs (asmB tx))) 9
   rw [yba] at CN
   have CNH:=hid CN
   clear htold hg cc HO G CN OKK
   generalize asmB tx=t at *
   unfold ybz
   go_wp2_with (at_builtin; refine wpList_append_own _ rfl _ _ 29 rfl w.heap.size 9 i0 (.string ⟨#[]⟩) 1 16 Tryz.underlying29 hi hz0 hz1 hz2 rfl (by decide) _ _ _ rfl (HO2.out.alloc _) ⟨V.heap.size+1,0,none⟩ 1 1 [.string (bs t)] rfl rfl CNH.out (by intro u hu; simp at hu; subst hu; rfl) (by unfold maxLen; omega) (by omega) (by simp; omega) ?_; intro v' w3 hown' hgrow _; obtain ⟨av',cv',rfl⟩:=yh hown'; have K:=hid hown'; have GK:=hid (ybV (ya G2.out (ysp _ _ _)) hgrow (fun b hb=>(HO2.out.lt b hb).1)); clear hgrow hown')
   go_wp2
   go_roundw
   case rel=>exact ⟨k+1,by omega,by go_num,by rw [TK.out]; exact K.out,GK.out⟩
   case measure=>simp [intOf]; omega
  ·obtain rfl:k=ts.length:=by omega
   have g3:decide ((ts.length:Int) < (ts.length:Int))=false:=by simp
   rw [List.take_length] at HO
   go_wp2
   go_ret2
   refine ⟨⟨av,cv,rfl,yls (B:=w.heap.size) (cap:=cv) ?_⟩,G.out⟩
   rw [ysv]
   exact HO.out
theorem yjH {bt bf bd:Int} {fs:List (List UInt8)} {e:Ending} (h:ydc bt bf bd fs e):∃ (b:List UInt8) (f:Ln.Flt),e = .returned (.tuple #[.string (bs b),lfA f]):=by
 rcases h with ⟨f,-,he,-⟩ | ⟨-,-,-,xs,hx,-,he⟩
 ·exact ⟨_,_,he⟩
 ·exact ⟨_,_,he⟩
set_option maxRecDepth 100000 in
set_option maxHeartbeats 4000000 in
theorem ynF (bt bf bd:Int) (af:Option Addr) (cf:Nat) (fs:List (List UInt8)) (w:World) (hin:ycR w af fs) (hsz:∀ f∈fs,f.length<=1048576) (ht:Tabs w) (hn:fs.length<=1048576) :
  Calls Tryz.prog 23 #[.slice af fs.length cf,.agg #[.int .i64 bt,.int .i64 bf,.int .i64 bd]] w fun e w'=>ydc bt bf bd fs e/\w.grownBy w' none:=by
 have HI:=hid hin
 have HT:=hid ht
 have cL:=hid (fun W (hg:w.grownBy W none)=>yoX bt bf bd af cf fs W (HI.out.kept hg) hsz (HT.out.grown hg) hn)
 have hs1:(w.alloc (.cells #[.int .i64 bt,.int .i64 bf,.int .i64 bd] 33)).heap.size=w.heap.size+1:=Array.size_push _
 have A1:=ysp (w.alloc (.cells #[.int .i64 bt,.int .i64 bf,.int .i64 bd] 33)) (.cells #[.int .i64 0,.int .i64 0,.string ⟨#[]⟩] 45) none
 have G1:=hid (ya (ysp w (.cells #[.int .i64 bt,.int .i64 bf,.int .i64 bd] 33) none) A1)
 have BR:=hid (yc.new (w.alloc (.cells #[.int .i64 bt,.int .i64 bf,.int .i64 bd] 33)) #[.int .i64 0,.int .i64 0,.string ⟨#[]⟩] 45)
 rw [hs1] at BR
 clear hin ht A1 hs1
 go_enter Tryz.func23,Tryz.ntmps23
 go_wp2_with fail
 generalize (w.alloc (.cells #[.int .i64 bt,.int .i64 bf,.int .i64 bd] 33)).alloc (.cells #[.int .i64 0,.int .i64 0,.string ⟨#[]⟩] 45)=W1 at *
 have hRw:w.heap.size<=w.heap.size+1:=by omega
 generalize w.heap.size+1=R at *
 refine (cL.out _ G1.out).mono ?_
 rintro e V1 ⟨hret,hg⟩
 obtain ⟨b,f,rfl⟩:=yjH hret
 have RET:=hid hret
 have FB:=hid (BR.out.grown hg (by simp))
 have FG:=hid (ya G1.out hg)
 clear hret hg cL BR
 obtain ⟨fe,fa,fn⟩:=f
 unfold lfA
 dsimp only
 have v0:=FB.out.free 0
 have v1:=FB.out.free 1
 have v2:=FB.out.free 2
 have x0:=FB.out.cell 0
 have x1:=FB.out.cell 1
 have x2:=FB.out.cell 2
 simp only [ysk,ysl,ysj] at x0 x1 x2
 go_wp2
 have F:=((FB.out.set 0 (.int .i64 fe)).set 1 (.int .i64 fa)).set 2 (.string (bs fn))
 have h0:=F.cell 0
 have h1:=F.cell 1
 have h2:=F.cell 2
 simp only [yso,ysm,ysn,ysk,ysl,ysj] at h0 h1 h2
 refine bodyPost_ret (v:=.tuple #[.string (bs b),lfA ⟨fe,fa,fn⟩]) ?_ rfl ⟨RET.out,yx FG.out _ hRw _ _ _⟩
 clear F x0 x1 x2 v0 v1 v2
 generalize World.setCell _ _ _=WF at *
 simp [results,Tryz.results23,go_sem,lfA,h0,h1,h2]
def yht (xs:List Int):Bool:=xs.all fun x=>decide (0<=x) && decide (x<=4294967295)
theorem yfb {xs:List Int} (h:yht xs=true):ybk xs:=by
 intro i hi
 have:=List.all_eq_true.1 h _ (ysr hi)
 simp at this
 exact this
def yku (o:Lk.Obj):Bool:=decide (yeJ o) && (decide (ybu o.align) && (yht o.text && (yht o.far && (yht o.data && (decide (yfp o) && decide (yfo o))))))
theorem ymZ {o:Lk.Obj} (h:yku o=true):yv o:=by
 unfold yku at h
 simp only [Bool.and_eq_true,decide_eq_true_eq] at h
 obtain ⟨h1,h2,h3,h4,h5,h6,h7⟩:=h
 exact ⟨h1,h2,⟨yfb h3,yfb h4,yfb h5⟩,h6,h7⟩
def ygF (f:Ln.Flt) (e at_:Int) (n:List UInt8):Prop:=f.e=e/\f.at_=at_/\f.name=n
instance (f:Ln.Flt) (e at_:Int) (n:List UInt8):Decidable (ygF f e at_ n):=by unfold ygF; infer_instance
def yiX (os:List Lk.Obj) (bt bf bd:Int) (e at_:Int) (n:List UInt8):Prop:=(Ln.linkO os bt bf bd).1=[]/\ygF (Ln.linkO os bt bf bd).2 e at_ n
instance (os:List Lk.Obj) (bt bf bd:Int) (e at_:Int) (n:List UInt8):Decidable (yiX os bt bf bd e at_ n):=by unfold yiX; infer_instance
theorem ykI {l:List UInt8} {a b:Bool} {os ps:List Lk.Obj} (h:yaU l a os) (k:yaU l b ps):a=b/\os=ps:=by
 rcases h with ⟨rfl,h1,rfl⟩ | ⟨rfl,h1,ms,h2,rfl⟩
 ·rcases k with ⟨rfl,-,rfl⟩ | ⟨-,k1,-⟩
  ·exact ⟨rfl,rfl⟩
  ·exact absurd h1 k1
 ·rcases k with ⟨-,k1,-⟩ | ⟨rfl,-,ns,k2,rfl⟩
  ·exact absurd k1 h1
  ·exact ⟨rfl,by rw [<- yje h2,<- yje k2]⟩
theorem yml {o:Lk.Obj} (hv:yv o):yaU (Lk.objB o) false [o]:=by
 have hg:=yct hv
 have q:=ycB ((Lk.readObj_iff (Lk.objB o) o).2 ⟨hg,rfl⟩) hv
 exact .inl ⟨rfl,q.1,by rw [q.2]⟩
theorem ymk {t:List UInt8} (h:ygE t):yaU (asmB t) false [(As.assemble t).2]:=yml h.2
theorem ymL {l:List UInt8} {a:Bool} {os:List Lk.Obj} (h:yaU l a os) (k:yfn l):False:=by
 rcases h with ⟨-,h1,-⟩ | ⟨-,-,ms,h2,-⟩
 ·exact k.1 h1
 ·exact k.2 ms h2
def yfM:List (List UInt8)->List (Bool×List Lk.Obj)->Prop
 | [],[]=>True
 | l :: ls,x :: xs=>yaU l x.1 x.2/\yfM ls xs
 | _,_=>False
theorem yig:∀ {fs:List (List UInt8)} {xs:List (Bool×List Lk.Obj)},yfM fs xs->xs.length=fs.length:=by
 intro fs
 induction fs with
 | nil =>
  intro xs h
  cases xs with
  | nil=>rfl
  | cons x xs=>exact h.elim
 | cons l ls ih =>
  intro xs h
  cases xs with
  | nil=>exact h.elim
  | cons x xs=>rw [yss,yss,ih h.2]
theorem yjt:∀ {fs:List (List UInt8)} {xs:List (Bool×List Lk.Obj)},yfM fs xs->∀ i (h:i < fs.length) (h':i < xs.length),yaU fs[i] xs[i].1 xs[i].2:=by
 intro fs
 induction fs with
 | nil=>intro xs _ i h; simp at h
 | cons l ls ih =>
  intro xs h i hi hx
  cases xs with
  | nil=>exact h.elim
  | cons x xs =>
   cases i with
   | zero=>exact h.1
   | succ i=>exact ih h.2 i (by simpa using hi) (by simpa using hx)
theorem ymm {fs:List (List UInt8)} {xs ys:List (Bool×List Lk.Obj)} (h:yfM fs xs) (hy:ys.length=fs.length) (k:∀ i (h:i < fs.length),yaU fs[i] (ys[i]'(by omega)).1 (ys[i]'(by omega)).2):ys=xs:=by
 have hl:=yig h
 apply List.ext_getElem
 ·omega
 ·intro i h1 h2
  have a:=yjt h i (by omega) h2
  have b:=k i (by omega)
  have u:=ykI b a
  exact Prod.ext u.1 u.2
theorem ymA {bt bf bd:Int} {fs:List (List UInt8)} {xs:List (Bool×List Lk.Obj)} {e:Ending} (h:ydc bt bf bd fs e) (hb:Im.Base bt/\Im.Base bf/\Im.Base bd) (h1:1<=fs.length) (h8:fs.length<=8) (hf:yfM fs xs):e = .returned (.tuple #[.string (bs (Ln.linkO (Ln.takeAll xs) bt bf bd).1),lfA (Ln.linkO (Ln.takeAll xs) bt bf bd).2]):=by
 have hok:yab bt bf bd=Ln.ok:=by
  unfold yab
  rw [if_neg (not_not_intro hb.1),if_neg (not_not_intro hb.2.1),if_neg (not_not_intro hb.2.2)]
 rcases h with ⟨f,hfe,-,c⟩ | ⟨-,-,-,ys,hy,k,rfl⟩
 ·rcases c with rfl | ⟨-,c,-⟩ | ⟨-,-,-,i,hi,-,hn,-⟩
  ·exact absurd (by rw [hok]; rfl) hfe
  ·omega
  ·exact (ymL (yjt hf i hi (by rw [yig hf]; exact hi)) hn).elim
 ·rw [ymm hf hy k]
set_option maxRecDepth 100000 in
set_option maxHeartbeats 400000 in
theorem ypj (w:World):Calls Tryz.prog 17 #[] w fun e w'=>e = .returned (.agg #[.int .i64 4096,.int .i64 65536,.int .i64 131072])/\w.grownBy w' none:=by
 have A0:=hid (ysp w (.cells #[.int .i64 4096,.int .i64 65536,.int .i64 131072] 33) none)
 go_enter Tryz.func17,Tryz.ntmps17
 go_wp2
 refine bodyPost_ret (v:=.agg #[.int .i64 4096,.int .i64 65536,.int .i64 131072]) ?_ rfl ⟨rfl,A0.out⟩
 simp [results,Tryz.results17,go_sem]
set_option maxRecDepth 100000 in
set_option maxHeartbeats 400000 in
theorem yow (w:World):Calls Tryz.prog 20 #[] w fun e w'=>e = .returned (.agg #[.int .i64 16777216,.int .i64 67108864,.int .i64 1048576])/\w.grownBy w' none:=by
 have A0:=hid (ysp w (.cells #[.int .i64 16777216,.int .i64 67108864,.int .i64 1048576] 33) none)
 go_enter Tryz.func20,Tryz.ntmps20
 go_wp2
 refine bodyPost_ret (v:=.agg #[.int .i64 16777216,.int .i64 67108864,.int .i64 1048576]) ?_ rfl ⟨rfl,A0.out⟩
 simp [results,Tryz.results20,go_sem]
theorem ypC {W:World} {X:Nat} {t:TypeId} (fs:List (List UInt8)) (h:yc W X (fs.map fun l=>Value.string (bs l)).toArray t):ycR W (some ⟨X,0,none⟩) fs:=fun _=>⟨X,0,rfl,fun i hi=>by
 rw [Nat.zero_add,h.cell i,ysk,List.getElem?_map,yst hi]
 rfl⟩
def yrE (s:List UInt8) (o:Lk.Obj):Prop:=yaU s false [o]/\s.length<=1048576
theorem ynm {t:List UInt8} (h:ygE t):yrE (asmB t) (As.assemble t).2:=⟨ymk h,by have:=ygm h.2; unfold asmB; omega⟩
theorem yno:Im.Base 4096/\Im.Base 65536/\Im.Base 131072:=by unfold Im.Base; omega
theorem ynn:Im.Base 16777216/\Im.Base 67108864/\Im.Base 1048576:=by unfold Im.Base; omega
theorem ynD (m:Im.Img):Im.ImgOk m↔(Im.Base m.text/\Im.Base m.far/\Im.Base m.data)/\Im.Fits m/\(Im.code m m.start).isSome=true:=by
 rw [Im.code_iff]
 unfold Im.ImgOk Im.Fits Im.endT Im.endF Im.endD
 constructor
 ·rintro ⟨a,b,c,d⟩; exact ⟨a,⟨b,c⟩,d⟩
 ·rintro ⟨a,⟨b,c⟩,d⟩; exact ⟨a,b,c,d⟩
set_option maxHeartbeats 4000000 in
theorem yjz (g:Nat) (m:Im.Img) (w:World) (h:yah w g m) (ht:Im.Tame m) :
  Calls Tryz.prog 46 #[.pointer (some ⟨g,0,none⟩)] w fun e w'=>yg e (Im.ImgOk m)/\w.grownBy w' none:=by
 have H:=hid h
 have HT:=hid ht
 obtain ⟨at_,ct,af,cf,ad,cd,hb,-,-,-⟩:=h.open
 have k0:=hb.cell 0
 have k1:=hb.cell 1
 have k2:=hb.cell 2
 have k3:=hb.cell 3
 simp only [ysk,ysl,ysj] at k0 k1 k2 k3
 have c1:=hid (fun W=>ydI m.text W ht.text.1 ht.text.2)
 have c2:=hid (fun W=>ydI m.far W ht.far.1 ht.far.2)
 have c3:=hid (fun W=>ydI m.data W ht.data.1 ht.data.2)
 have Q0:=hid (ynD m)
 generalize Im.ImgOk m=Q at *
 clear h ht hb
 go_enter Tryz.func46,Tryz.ntmps46
 go_wp2_with fail
 refine (c1.out w).mono ?_
 rintro e V ⟨t,rfl⟩
 rcases t.split with ⟨rfl,p1⟩ | ⟨rfl,p1⟩ <;> clear t c1
 ·go_wp2
  go_ret
  exact ⟨yg.no fun q=>p1.out (Q0.out.1 q).1.1,World.grownBy.refl _ _⟩
 go_wp2_with fail
 refine (c2.out _).mono ?_
 rintro e V ⟨t,rfl⟩
 rcases t.split with ⟨rfl,p2⟩ | ⟨rfl,p2⟩ <;> clear t c2
 ·go_wp2
  go_ret
  exact ⟨yg.no fun q=>p2.out (Q0.out.1 q).1.2.1,World.grownBy.refl _ _⟩
 go_wp2_with fail
 refine (c3.out _).mono ?_
 rintro e V ⟨t,rfl⟩
 rcases t.split with ⟨rfl,p3⟩ | ⟨rfl,p3⟩ <;> clear t c3
 ·go_wp2
  go_ret
  exact ⟨yg.no fun q=>p3.out (Q0.out.1 q).1.2.2,World.grownBy.refl _ _⟩
 go_wp2_with fail
 refine (yex g m V H.out HT.out).mono ?_
 rintro e V1 ⟨t,hg⟩
 have G1:=hid hg
 rcases t.split with ⟨rfl,p4⟩ | ⟨rfl,p4⟩ <;> clear t
 ·go_wp2
  go_ret
  exact ⟨yg.no fun q=>p4.out (Q0.out.1 q).2.1,G1.out⟩
 replace k0:=yd k0 hg
 clear hg k1 k2 k3
 go_wp2_with fail
 refine (yeM g m m.start V1 (H.out.kept G1.out) HT.out HT.out.start.1 HT.out.start.2).mono ?_
 rintro e V2 ⟨rfl,n,rfl⟩
 have GF:=hid (ye G1.out n)
 cases hc:(Im.code m m.start).isSome
 ·have N:=hid (show ¬ Q from fun q=>by have:=(Q0.out.1 q).2.2; rw [hc] at this; cases this)
  go_wp2
  go_ret
  exact ⟨yg.no N.out,GF.out⟩
 ·have N:=hid (show Q from Q0.out.2 ⟨⟨p1.out,p2.out,p3.out⟩,p4.out,hc⟩)
  go_wp2
  go_ret
  exact ⟨yg.yes N.out,GF.out⟩
section
variable {P:Program} (w:World)
end
namespace Im
def Clear (a:Int) (n:Int):Prop:=(4096<=a/\a < 1073741824)/\a+4 * n<=1073741824/\a % 16=0
instance (a n:Int):Decidable (Clear a n):=by unfold Clear; infer_instance
instance (a b c d:Int):Decidable (Meet a b c d):=by unfold Meet; infer_instance
end Im
theorem ygO {w a c:World} {row:Option Nat} (h:w.grownBy a none) (k:a.grownBy c row) (hb:∀ b,row=some b->w.heap.size<=b):w.grownBy c none :=
 ⟨k.os.trans h.os,k.tape.trans h.tape,k.output.trans h.output,Nat.le_trans h.size k.size,fun i hi _ =>
  (k.block i (Nat.lt_of_lt_of_le hi h.size) (fun e=>by have:=hb i e.symm; omega)).trans (h.block i hi (by simp))⟩
section
variable {w wr w3:World} {l:List UInt8} {g nt nf k:Nat} {a0 a1 a2 a3:Int} {vT vF vD v':Value} {B1 B2:Nat} {ob:Obj}
end
theorem ydH (l:List UInt8) (p:Nat):0<=atL l p 4/\atL l p 4 < 4294967296:=by have:=yfq l p 4; simpa using this
theorem ymq (l:List UInt8):Im.Tame (Im.imgOf l):=by
 have h:=Im.n_le l
 have h2:=Im.two_range l 24
 refine ⟨ydH l 2,ydH l 6,ydH l 10,ydH l 14,⟨?_,?_,?_⟩,?_⟩
 ·simp only [Im.imgOf,Im.words_length]; omega
 ·simp only [Im.imgOf,Im.words_length]; omega
 ·simp only [Im.imgOf,Im.words_length]; omega
 ·simp only [Im.imgOf]; omega
theorem yld (l:List UInt8) (a b:UInt8) (h:(Lk.rdText l 2 (0,false)).1=[a,b]):(Lk.rdText l 2 (0,false)).2=(2,false)/\2<=l.length/\l.take 2=[a,b]:=by
 unfold Lk.rdText at h ⊢
 simp only [Nat.sub_zero,List.drop_zero,Nat.zero_add] at h ⊢
 split at h
 ·rename_i hl
  rw [if_pos hl]
  exact ⟨rfl,hl,h⟩
 ·cases h
theorem ykW (l:List UInt8) (a b:UInt8) (h:l.take 2=[a,b]):(Lk.rdText l 2 (0,false)).1=[a,b]:=by
 unfold Lk.rdText
 simp only [Nat.sub_zero,List.drop_zero]
 have:2<=l.length:=by have:=congrArg List.length h; simp at this; omega
 rw [if_pos this]
 exact h
def ypV (s:ByteArray) (e:Ending) (w':World):Prop :=
 (Im.IsImg (sl s)/\∃ g,e = .returned (.tuple #[.pointer (some ⟨g,0,none⟩),.int .i64 0])/\yah w' g (Im.imgOf (sl s))) \/
 (¬ Im.IsImg (sl s)/\e = .returned (.tuple #[.pointer none,.int .i64 23]))
set_option maxHeartbeats 4000000 in
theorem ykP (s:ByteArray) (w:World) (hs:s.size<=1048576) :
  Calls Tryz.prog 29 #[.string s] w fun e w'=>ypV s e w'/\w.grownBy w' none:=by
 have hsz:=yq s
 have TM:=hid (ymq (sl s))
 go_enter Tryz.func29,Tryz.ntmps29
 go_wp2_with fail
 refine (ydA s w).mono ?_
 rintro e W1 ⟨rfl,g1⟩
 have R:RdAt (W1.alloc (.cells #[.string s,.int .i64 0,.bool false] 83)) W1.heap.size s 0 false:=heap_alloc_new W1 _
 have HR:=hid R
 have G1:=hid g1
 have GA:=hid (ysp W1 (.cells #[.string s,.int .i64 0,.bool false] 83) none)
 have hz:=hid g1.size
 clear R g1
 by_cases hm:(Lk.rdText (sl s) 2 (0,false)).1=[73,77]
 ·have cR:=hid (yiH W1.heap.size s 0 false _ HR.out hs (Nat.zero_le _) hm)
  obtain ⟨m1,m2,m3⟩:=yld _ _ _ hm
  rw [m1] at cR
  have FU:=hid (fun h:Im.Full (sl s)=>Im.rdImg_full (sl s) h)
  have ON:=hid (Im.rdImg_only (sl s) m2)
  have IS:=hid (show Im.IsImg (sl s)↔Im.Full (sl s)/\Im.ImgOk (Im.imgOf (sl s)) from ⟨fun q=>q.2,fun q=>⟨m3,q⟩⟩)
  generalize Im.rdImg (sl s) (2,false)=X at *
  obtain ⟨m,p',s'⟩:=X
  simp only at cR ON FU
  clear hm m1 m2 m3
  go_wp2_with fail
  refine cR.out.mono ?_
  rintro e W2 ⟨g,rfl,hg,himg,hrd,hgr⟩
  have HIM:=hid himg
  have HRD:=hid hrd
  have GR:=hid hgr
  clear himg hrd hgr hg cR
  have cD:=hid (ygt W1.heap.size s p' s' W2 HRD.out)
  go_wp2_with fail
  refine cD.out.mono ?_
  rintro e W3 ⟨rfl,kd,rfl⟩
  have GF:=hid (ye (ygO (ya G1.out GA.out) GR.out (by intro b e; simp at e; have:=hz.out; omega)) kd)
  clear cD
  by_cases hd:s'=false/\p'=s.size
  ·obtain ⟨rfl,rfl⟩:=hd
   have hfu:=ON.out (by rw [hsz])
   have HF:=hid hfu
   have hmm:m=Im.imgOf (sl s):=congrArg Prod.fst (FU.out hfu)
   subst hmm
   have cV:=hid (yjz g (Im.imgOf (sl s)) (W2.drewN kd) (HIM.out.kept (ye (World.grownBy.refl _ _) kd)) TM.out)
   have dd:(!false && decide (s.size=s.size))=true:=by simp
   clear hfu hsz
   go_wp2_with fail
   refine cV.out.mono ?_
   rintro e W4 ⟨t,q⟩
   have GQ:=hid (ya GF.out q)
   have HO4:=hid (HIM.out.kept (ya (ye (World.grownBy.refl _ _) kd) q))
   rcases t.split with ⟨rfl,pv⟩ | ⟨rfl,pv⟩ <;> clear t q cV
   ·go_wp2
    go_ret2
    exact ⟨.inr ⟨fun q=>pv.out (IS.out.1 q).2,rfl⟩,GQ.out⟩
   ·go_wp2
    go_ret2
    exact ⟨.inl ⟨IS.out.2 ⟨HF.out,pv.out⟩,g,rfl,HO4.out⟩,GQ.out⟩
  ·have N:=hid (show ¬ Im.IsImg (sl s) from fun q=>by
    have:=congrArg Prod.snd (FU.out (IS.out.1 q).1)
    simp only [Prod.mk.injEq] at this
    exact hd ⟨this.2,by rw [<- hsz]; exact this.1⟩)
   have dd:(!s' && decide (p'=s.size))=false:=by
    cases s'
    ·simp at hd ⊢; exact hd
    ·rfl
   clear hsz hd
   go_wp2
   go_ret2
   exact ⟨.inr ⟨N.out,rfl⟩,GF.out⟩
 ·have cR:=hid (yjY W1.heap.size s 0 false _ HR.out hs (Nat.zero_le _) hm)
  have N:=hid (show ¬ Im.IsImg (sl s) from fun q=>hm (ykW _ _ _ q.1))
  clear hm
  go_wp2_with fail
  refine cR.out.mono ?_
  rintro e W2 ⟨rfl,hgr⟩
  have GR:=hid hgr
  clear hgr cR
  go_wp2
  go_ret2
  exact ⟨.inr ⟨N.out,rfl⟩,ygO (ya G1.out GA.out) GR.out (by intro b e; simp at e; have:=hz.out; omega)⟩
def yqN (W:World) (x:Nat) (m:Im.Img):Prop:=∃ g,yc W x #[.pointer (some ⟨g,0,none⟩)] 59/\yah W g m
def yng (s:ByteArray) (e:Ending) (w':World):Prop :=
 (Im.IsImg (sl s)/\∃ x,e = .returned (.tuple #[.pointer (some ⟨x,0,none⟩),.int .i64 0])/\yqN w' x (Im.imgOf (sl s))) \/
 (¬ Im.IsImg (sl s)/\e = .returned (.tuple #[.pointer none,.int .i64 23]))
set_option maxHeartbeats 2000000 in
theorem ynB (s:ByteArray) (w:World) (hs:s.size<=1048576) :
  Calls Tryz.prog 24 #[.string s] w fun e w'=>yng s e w'/\w.grownBy w' none:=by
 have cR:=hid (ykP s w hs)
 go_enter Tryz.func24,Tryz.ntmps24
 go_wp2_with fail
 refine cR.out.mono ?_
 rintro e W1 ⟨hr,hg⟩
 have G:=hid hg
 clear hg cR
 rcases hr with ⟨q,g,rfl,hi⟩ | ⟨q,rfl⟩
 ·have Q:=hid q
  have HI:=hid hi
  clear q hi
  go_wp2
  go_ret2
  have GA:=ysp W1 (.cells #[.pointer (some ⟨g,0,none⟩)] 59) none
  exact ⟨.inl ⟨Q.out,W1.heap.size,rfl,g,yc.new _ _ _,HI.out.kept GA⟩,ya G.out GA⟩
 ·have Q:=hid q
  clear q
  go_wp2
  go_ret2
  exact ⟨.inr ⟨Q.out,rfl⟩,G.out⟩
set_option maxRecDepth 100000 in
set_option maxHeartbeats 4000000 in
theorem yiA (g:Nat) (m:Im.Img) (w:World) (hI:yah w g m) (hT:Im.Tame m) :
  Calls Tryz.prog 47 #[.pointer (some ⟨g,0,none⟩)] w fun e w'=>∃ v,e = .returned v/\w'.ownsRow w.heap.size 3 1 v (m.D.length+m.noughts.toNat) ((m.D ++ List.replicate m.noughts.toNat 0).map (Value.int .i64))/\w.grownBy w' none:=by
 obtain ⟨i0,hi,hz0,hz1,hz2⟩:=info_parts Tryz.infoInt
 obtain ⟨a1,t1,a2,t2,ad,cd,hb,-,-,q3⟩:=hI.open
 have HB:=hid hb
 have DI:=hid (yz.of_own q3)
 have hcap:=yak q3
 have hl:=hT.lens.2.2
 have hn:=hT.noughts
 have k6:=hb.cell 6
 simp only [ysk,ysl,ysj] at k6
 clear hI hT hb q3
 obtain ⟨nb,hnb⟩:=Int.eq_ofNat_of_zero_le hn.1
 have HNB:=hid hnb
 rw [hnb]
 simp only [Int.toNat_natCast]
 go_enter Tryz.func47,Tryz.ntmps47
 go_wp2
 clear k6
 go_loopw [3,12] (fun v i wr=>∃ k:Nat,k<=m.D.length/\i = .int .i64 k/\wr.ownsRow w.heap.size 3 1 v k ((m.D.take k).map (Value.int .i64))/\w.grownBy wr none) (fun _ i _=>m.D.length - (intOf i).toNat)
 case atStart=>exact ⟨0,Nat.zero_le _,rfl,World.ownsRow_nil _ _ _ _,World.grownBy.refl _ _⟩
 case round =>
  obtain ⟨k,hk,rfl,hown,hgr⟩:=hrel
  obtain ⟨av,cv,rfl⟩:=yh hown
  have HG:=hid hgr
  have hsz:=hgr.size
  by_cases hlt:k < m.D.length
  ·obtain ⟨sg,off,rfl,hcells⟩:=DI.out.kept (fun a v e=>yd e hgr) (by omega)
   have ck:=hcells k hlt
   clear hcells hgr
   have E:=hid (show (m.D.take (k+1)).map (Value.int .i64)=(m.D.take k).map (Value.int .i64) ++ [.int .i64 m.D[k]] by rw [List.take_succ_eq_append_getElem hlt,List.map_append]; rfl)
   have g1:(k:Int) < (m.D.length:Int):=by omega
   generalize m.D[k]=x at *
   go_wp2_with (at_builtin; refine wpList_append_own _ rfl _ _ 35 rfl w.heap.size 3 i0 (.int .i64 0) 1 8 Tryz.underlying35 hi hz0 hz1 hz2 rfl (by decide) _ _ _ rfl (hown.alloc _) ⟨wr.heap.size,0,none⟩ 1 1 [.int .i64 x] rfl rfl (cell_one_new _ _ _) (by intro u hu; simp at hu; subst hu; rfl) (by unfold maxLen; omega) (by omega) (by simp; omega) ?_; intro v' w3 hown' hgrow _; obtain ⟨av',cv',rfl⟩:=yh hown'; have K:=hid hown'; have GK:=hid (yN (ya HG.out (ysp _ _ _)) hgrow (fun b hb=>(hown.lt b hb).1)); clear hgrow hown')
   go_wp2
   go_roundw
   case rel=>exact ⟨k+1,by omega,by go_num,by rw [E.out]; exact K.out,GK.out⟩
   case measure=>simp [intOf]; omega
  ·obtain rfl:k=m.D.length:=by omega
   have g0:decide ((m.D.length:Int) < (m.D.length:Int))=false:=by simp
   rw [List.take_length] at hown
   have HO:=hid hown
   clear hown hgr
   obtain ⟨U,hU⟩:∃ U:World,U=wr:=⟨_,rfl⟩
   subst hU
   go_wp2
   go_loopw [3,6] (fun v i wr=>∃ k:Nat,k<=nb/\i = .int .i64 k/\wr.ownsRow w.heap.size 3 1 v (m.D.length+k) ((m.D ++ List.replicate k 0).map (Value.int .i64))/\w.grownBy wr none) (fun _ i _=>nb - (intOf i).toNat)
   case atStart=>exact ⟨0,Nat.zero_le _,rfl,by simpa using HO.out,HG.out⟩
   case round =>
    obtain ⟨k,hk2,rfl,hown,hgr⟩:=hrel
    obtain ⟨av2,cv2,rfl⟩:=yh hown
    have HG2:=hid hgr
    have hsz2:=hgr.size
    have k7:=(HB.out.grown hgr (by simp)).cell 7
    simp only [ysk,ysl,ysj] at k7
    rw [HNB.out] at k7
    clear hgr
    have hnb2:nb<=65535:=by have:=HNB.out; omega
    by_cases hlt2:k < nb
    ·have g1:(k:Int) < (nb:Int):=by omega
     have E:=hid (show (m.D ++ List.replicate (k+1) 0).map (Value.int .i64)=(m.D ++ List.replicate k 0).map (Value.int .i64) ++ [.int .i64 0] by simp [List.replicate_succ'])
     go_wp2_with (at_builtin; refine wpList_append_own _ rfl _ _ 35 rfl w.heap.size 3 i0 (.int .i64 0) 1 8 Tryz.underlying35 hi hz0 hz1 hz2 rfl (by decide) _ _ _ rfl (hown.alloc _) ⟨wr.heap.size,0,none⟩ 1 1 [.int .i64 0] rfl rfl (cell_one_new _ _ _) (by intro u hu; simp at hu; subst hu; rfl) (by unfold maxLen; omega) (by omega) (by simp; omega) ?_; intro v' w3 hown' hgrow _; obtain ⟨av',cv',rfl⟩:=yh hown'; have K:=hid hown'; have GK:=hid (yN (ya HG2.out (ysp _ _ _)) hgrow (fun b hb=>(hown.lt b hb).1)); clear hgrow hown')
     go_wp2
     go_roundw
     case rel=>exact ⟨k+1,by omega,by go_num,by rw [E.out]; exact K.out,GK.out⟩
     case measure=>simp [intOf]; omega
    ·obtain rfl:k=nb:=by omega
     have HO2:=hid hown
     clear hown
     have g2:decide ((k:Int) < (k:Int))=false:=by simp
     go_wp2
     go_ret
     exact ⟨_,rfl,HO2.out,HG2.out⟩
section
variable {P:Program} (w:World)
theorem ylk (t:TypeId) (b:Nat) (e:TypeId) (cur:Array Value) (V:Value) (i:TypeInfo) (hi:P.info? t=some i) (hsz:V.cells.size=i.size) (hb:w.heap[b]?=some (.cells cur e (0,0))) (hcur:cur.size=V.cells.size) (h1:∀ u∈V.cells.toList,u.oneCell'=true) :
  (Instr.storeAt t (.pointer (some ⟨b,0,none⟩)) V).run P w = .ok () (w.setRow b V.cells):=by
 have hst:=run_storeCells_at P b 0 e V.cells.toList 0 cur w hb (by simp; omega) h1
 have e1:(cur.toList.take (0+0) ++ V.cells.toList ++ cur.toList.drop (0+0+V.cells.toList.length)).toArray=V.cells:=by
  have:cur.toList.drop V.cells.size=[]:=List.drop_eq_nil_of_le (by simp; omega)
  simp [this]
 rw [e1] at hst
 simp [Instr.storeAt,storeVar,Instr.sureAddr,sizeOf,typeInfo,hi,hsz,hst]
theorem yeG {o:Oper} {a:Act} {K:Act->World->Prop} {Q:Exit->Act->World->Prop} (t:TypeId) (p x:Operand) (ho:o.op = .store t p x) (b:Nat) (e:TypeId) (cur:Array Value) (hp:a.eval p = .pointer (some ⟨b,0,none⟩)) (V:Value) (hv:a.eval x=V)
  (i:TypeInfo) (hi:P.info? t=some i) (hsz:V.cells.size=i.size) (hb:w.heap[b]?=some (.cells cur e (0,0))) (hcur:cur.size=V.cells.size) (h1:∀ u∈V.cells.toList,u.oneCell'=true) (h:K (a.put o.dst undef) (w.setRow b V.cells)):o.wp P a w K Q:=by
 have hr:=ylk (P:=P) w t b e cur V i hi hsz hb hcur h1
 unfold Oper.wp execOp
 simp only [ho,hp,hv,Sem.run_bind,Sem.run_pure,Result.andThen_ok,hr]
 unfold Oper.upon
 exact h
end
end Go.Proofs.YtpgklkhgfcjceaaGreatDoor
