/- Linking: what takes part. -/
/- Linking: members of an archive. -/
/- Walks over package wire's Writer. -/
/- Walks over package wire's Writer: Text, Bytes. -/
/- Walks over package object: the writers. -/
/- Walks over the document's answer: numbers and parts of a file. -/
/- The plain side: what is valid fits its bytes. -/
import Derived.Test.YtnfgdlkiialnnaaGreatDoorG07
import Derived.Deep.LoopGhost
import Derived.Test.YtnfgdlkiialnnaaGreatDoorG03
import Derived.Deep.RegionLaw
import Derived.Deep.AppendLies
import Derived.Test.YtnfgdlkiialnnaaGreatDoorG06
import Derived.Test.YtnfgdlkiialnnaaGreatDoorG04
namespace Go.Proofs.YtnfgdlkiialnnaaGreatDoor
open Go.RowKit

def ptrV (b:Nat):Value:=.pointer (some ⟨b,0,none⟩)
def modZ (g:Nat):Array Value:=#[ptrV g,.slice none 0 0,.slice none 0 0,.slice none 0 0,.slice none 0 0,.int .i64 0,.int .i64 0]

structure GatAt (W0:World) (P:Nat) (bt bf bd:Int) (vm:Value) (bl gl:List Nat) (os:List Lk.Obj) (W:World):Prop where
 blk:BlkAt W P #[.int .i64 bt,.int .i64 bf,.int .i64 bd,vm,.pointer none,.int .i64 0,.int .i64 0,.int .i64 0] 117
 row:W.ownsRow W0.heap.size 113 1 vm bl.length (bl.map ptrV)
 lenG:gl.length=bl.length
 lenO:os.length=bl.length
 mods:∀ i (h:i < bl.length),BlkAt W bl[i] (modZ (gl[i]'(by rw [lenG]; exact h))) 122
 objs:∀ i (h:i < bl.length),ObjAt W (gl[i]'(by rw [lenG]; exact h)) (os[i]'(by rw [lenO]; exact h))
 few:bl.length≤4096
 syms:∀ o∈os,o.syms.length≤65535
 lo:W0.heap.size≤P
 los:∀ b∈bl,W0.heap.size≤b
 gr:W0.grownBy W none
 nd:bl.Nodup

/-- the block that is written is of this type -/
def RowT (W:World) (row:Option Nat) (e:TypeId):Prop:=∀ k,row=some k→∃ cur,BlkAt W k cur e
theorem RowT.own {W:World} {B size n:Nat} {e:TypeId} {v:Value} {xs:List Value} (h:W.ownsRow B e size v n xs):RowT W v.ownBlock e:=by
 intro k hk
 rcases h.2 with ⟨h1,_⟩ | ⟨g,cap,cur,hv,_,hg,_⟩
 ·rw [h1] at hk; simp [Value.ownBlock] at hk
 ·rw [hv] at hk
  simp only [Value.ownBlock,Option.some.injEq] at hk
  subst hk
  exact ⟨cur,hg⟩
theorem RowT.blk {W:World} {b:Nat} {cs:Array Value} {e:TypeId} (h:BlkAt W b cs e):RowT W (some b) e:=fun k hk=>by
 simp only [Option.some.injEq] at hk
 subst hk
 exact ⟨cs,h⟩
theorem blk_ty {W W':World} {row:Option Nat} {e t:TypeId} {b:Nat} {cs:Array Value} (h:BlkAt W b cs t) (hg:W.grownBy W' row) (hr:RowT W row e) (hne:t≠e):BlkAt W' b cs t :=
 h.grown hg (fun c=>by
  obtain ⟨cur,hc⟩:=hr b c.symm
  have:=hc.symm.trans h
  simp at this
  exact hne this.2.symm)
theorem own_ty {W W':World} {row:Option Nat} {e t:TypeId} {B size n:Nat} {v:Value} {xs:List Value} (h:W.ownsRow B t size v n xs) (hg:W.grownBy W' row) (hr:RowT W row e) (hne:t≠e):W'.ownsRow B t size v n xs :=
 h.kept hg (by
  cases hv:v.ownBlock with
  | none=>exact .inl rfl
  | some k =>
   right
   intro c
   obtain ⟨cur,hc⟩:=RowT.own h k hv
   obtain ⟨cur2,hc2⟩:=hr k c.symm
   have:=hc.symm.trans hc2
   simp at this
   exact hne this.2)
theorem obj_ty {W W':World} {row:Option Nat} {e:TypeId} {g:Nat} {o:Lk.Obj} (h:ObjAt W g o) (hg:W.grownBy W' row) (hr:RowT W row e) (h1:90≠e) (h2:3≠e) (h3:124≠e) (h4:139≠e):ObjAt W' g o:=by
 obtain ⟨vt,vf,vd,va,vs,vr,hb,q1,q2,q3,q4,q5,q6⟩:=h
 exact ⟨vt,vf,vd,va,vs,vr,blk_ty hb hg hr h1,own_ty q1 hg hr h2,own_ty q2 hg hr h2,own_ty q3 hg hr h2,own_ty q4 hg hr h2,own_ty q5 hg hr h3,own_ty q6 hg hr h4⟩

/-- blocks of all types but these are kept -/
def Frame (ts:List TypeId) (W W':World):Prop:=∀ k cs t,BlkAt W k cs t→t ∉ ts→BlkAt W' k cs t
theorem Frame.grown {ts:List TypeId} {W W':World} (h:W.grownBy W' none):Frame ts W W':=fun _ _ _ hb _=>hb.grown h (by simp)
theorem Frame.trans {ts:List TypeId} {A B C:World} (h:Frame ts A B) (k:Frame ts B C):Frame ts A C:=fun b cs t hb ht=>k b cs t (h b cs t hb ht) ht
theorem Frame.row {ts:List TypeId} {W W':World} {row:Option Nat} {e:TypeId} (h:W.grownBy W' row) (hr:RowT W row e) (he:e∈ts):Frame ts W W':=fun _ _ _ hb ht=>blk_ty hb h hr (fun c=>ht (c ▸ he))
theorem Frame.own {ts:List TypeId} {W W':World} (h:Frame ts W W') {B size n:Nat} {t:TypeId} {v:Value} {xs:List Value} (ho:W.ownsRow B t size v n xs) (ht:t ∉ ts):W'.ownsRow B t size v n xs:=by
 refine ⟨ho.1,?_⟩
 rcases ho.2 with q | ⟨g,cap,cur,hv,hb,hg,r⟩
 ·exact .inl q
 ·exact .inr ⟨g,cap,cur,hv,hb,h g cur t hg ht,r⟩
theorem Frame.obj {ts:List TypeId} {W W':World} (h:Frame ts W W') {g:Nat} {o:Lk.Obj} (ho:ObjAt W g o) (h1:90 ∉ ts) (h2:3 ∉ ts) (h3:124 ∉ ts) (h4:139 ∉ ts):ObjAt W' g o:=by
 obtain ⟨vt,vf,vd,va,vs,vr,hb,q1,q2,q3,q4,q5,q6⟩:=ho
 exact ⟨vt,vf,vd,va,vs,vr,h _ _ _ hb h1,h.own q1 h2,h.own q2 h2,h.own q3 h2,h.own q4 h2,h.own q5 h3,h.own q6 h4⟩

theorem Tryz.infoPtrMod:(Tryz.prog.info? 113).map (fun i=>(i.zero,i.size,i.bytes))=some (some (.pointer none),1,8):=by kernel_rfl

section
variable {W0 W W':World} {P:Nat} {bt bf bd:Int} {vm:Value} {bl gl:List Nat} {os:List Lk.Obj}
theorem GatAt.kept (h:GatAt W0 P bt bf bd vm bl gl os W) (hg:W.grownBy W' none):GatAt W0 P bt bf bd vm bl gl os W' :=
 ⟨h.blk.grown hg (by simp),h.row.kept hg (by cases vm.ownBlock <;> simp),h.lenG,h.lenO,fun i hi=>(h.mods i hi).grown hg (by simp),fun i hi=>(h.objs i hi).kept hg,h.few,h.syms,h.lo,h.los,grown_trans h.gr hg,h.nd⟩
theorem GatAt.ty {row:Option Nat} {e:TypeId} (h:GatAt W0 P bt bf bd vm bl gl os W) (hg:W.grownBy W' row) (hr:RowT W row e) (hlo:∀ k,row=some k→W0.heap.size≤k) (h1:117≠e) (h2:113≠e) (h3:122≠e) (h4:90≠e) (h5:3≠e) (h6:124≠e) (h7:139≠e):GatAt W0 P bt bf bd vm bl gl os W' :=
 ⟨blk_ty h.blk hg hr h1,own_ty h.row hg hr h2,h.lenG,h.lenO,fun i hi=>blk_ty (h.mods i hi) hg hr h3,fun i hi=>obj_ty (h.objs i hi) hg hr h4 h5 h6 h7,h.few,h.syms,h.lo,h.los,grown_hi h.gr hg hlo,h.nd⟩
theorem GatAt.modsIn {am:Option Addr} {cm:Nat} (h:GatAt W0 P bt bf bd (.slice am bl.length cm) bl gl os W):ModsIn W am bl os:=by
 refine ⟨fun hp=>?_,h.lenO.symm,fun i h1 h2=>⟨_,(h.mods i h1).cell 0,h.objs i h1⟩,by rw [h.lenO]; exact h.few,h.syms⟩
 obtain ⟨sg,hs,-,-,-,hc⟩:=own_some h.row hp
 refine ⟨sg,0,hs,fun i hi=>?_⟩
 rw [Nat.zero_add,hc i hi,List.getElem?_map,List.getElem?_eq_getElem hi]
 rfl
/-- a module more -/
theorem GatAt.more {og:Nat} {o:Lk.Obj} {w3:World} {v':Value} (h:GatAt W0 P bt bf bd vm bl gl os W) (ho:ObjAt W og o) (hf:bl.length < 4096) (hs:o.syms.length≤65535)
  (hown:w3.ownsRow W0.heap.size 113 1 v' (bl.length+1) (bl.map ptrV ++ [ptrV W.heap.size])) (hg:((W.alloc (.cells (modZ og) 122)).alloc (.cells #[ptrV W.heap.size] 113)).grownBy w3 vm.ownBlock) :
  GatAt W0 P bt bf bd v' (bl ++ [W.heap.size]) (gl ++ [og]) (os ++ [o]) (w3.setCell ⟨P,3,none⟩ v'):=by
 have A1:=World.grownBy_alloc W (.cells (modZ og) 122) none
 have A2:=World.grownBy_alloc (W.alloc (.cells (modZ og) 122)) (.cells #[ptrV W.heap.size] 113) none
 have A:=grown_trans A1 A2
 have hA:=h.kept A
 have RT:=RowT.own hA.row
 have BM:=(BlkAt.new W (modZ og) 122).grown A2 (by simp)
 have b3:=blk_ty hA.blk hg RT (by decide)
 have RP:=RowT.blk b3
 have gs:=grown_set w3 P 3 v'
 have hlt:=h.gr.size
 have hrow:∀ k,vm.ownBlock=some k→W0.heap.size≤k:=fun k e=>(h.row.lt k e).1
 refine ⟨?_,?_,by simp [h.lenG],by simp [h.lenO],?_,?_,by simp; omega,?_,h.lo,?_,?_,?_⟩
 ·have:=b3.set 3 v'
  rw [List.setIfInBounds_toArray] at this
  exact this
 ·have:=own_ty hown gs RP (by decide)
  simpa using this
 ·intro i hi
  have hg1:(gl ++ [og])[i]?=some ((gl ++ [og])[i]'(by simp [h.lenG]; simpa using hi)):=List.getElem?_eq_getElem _
  by_cases hlt2:i < bl.length
  ·have e1:(bl ++ [W.heap.size])[i]=bl[i]:=List.getElem_append_left hlt2
   have e2:(gl ++ [og])[i]'(by simp [h.lenG]; omega)=gl[i]'(by rw [h.lenG]; exact hlt2):=List.getElem_append_left _
   rw [e1,e2]
   exact blk_ty (blk_ty (hA.mods i hlt2) hg RT (by decide)) gs RP (by decide)
  ·have hi2:i=bl.length:=by simp at hi; omega
   subst hi2
   have e1:(bl ++ [W.heap.size])[bl.length]=W.heap.size:=by simp
   have e2:(gl ++ [og])[bl.length]'(by simp [h.lenG])=og:=by simp [← h.lenG]
   rw [e1,e2]
   exact blk_ty (blk_ty BM hg RT (by decide)) gs RP (by decide)
 ·intro i hi
  by_cases hlt2:i < bl.length
  ·have e1:(os ++ [o])[i]'(by simp [h.lenO]; omega)=os[i]'(by rw [h.lenO]; exact hlt2):=List.getElem_append_left _
   have e2:(gl ++ [og])[i]'(by simp [h.lenG]; omega)=gl[i]'(by rw [h.lenG]; exact hlt2):=List.getElem_append_left _
   rw [e1,e2]
   exact obj_ty (obj_ty (hA.objs i hlt2) hg RT (by decide) (by decide) (by decide) (by decide)) gs RP (by decide) (by decide) (by decide) (by decide)
  ·have hi2:i=bl.length:=by simp at hi; omega
   subst hi2
   have e1:(os ++ [o])[bl.length]'(by simp [h.lenO])=o:=by simp [← h.lenO]
   have e2:(gl ++ [og])[bl.length]'(by simp [h.lenG])=og:=by simp [← h.lenG]
   rw [e1,e2]
   exact obj_ty (obj_ty (ho.kept A) hg RT (by decide) (by decide) (by decide) (by decide)) gs RP (by decide) (by decide) (by decide) (by decide)
 ·intro x hx
  rcases List.mem_append.1 hx with hx | hx
  ·exact h.syms x hx
  ·simp at hx; subst hx; exact hs
 ·intro x hx
  rcases List.mem_append.1 hx with hx | hx
  ·exact h.los x hx
  ·simp at hx; subst hx; exact hlt
 ·exact grown_hi (grown_hi (grown_trans h.gr A) hg hrow) gs (by intro k e; simp at e; have:=h.lo; omega)
 ·rw [List.nodup_append]
  refine ⟨h.nd,by simp,fun a ha b hb=>?_⟩
  simp at hb
  subst hb
  obtain ⟨i,hi,rfl⟩:=List.getElem_of_mem ha
  exact Nat.ne_of_lt (h.mods i hi).lt
end

set_option maxRecDepth 100000 in
set_option maxHeartbeats 8000000 in
theorem take_any (W0:World) (P:Nat) (bt bf bd:Int) (vm:Value) (bl gl:List Nat) (os:List Lk.Obj) (og:Nat) (o:Lk.Obj) (W:World) (h:GatAt W0 P bt bf bd vm bl gl os W) (ho:ObjAt W og o) (hf:bl.length < 4096) (hs:o.syms.length≤65535) :
  Calls Tryz.prog 90 #[ptrV P,ptrV og] W fun e W'=>e = .returned (.tuple #[])∧(∃ vm' b,GatAt W0 P bt bf bd vm' (bl ++ [b]) (gl ++ [og]) (os ++ [o]) W')∧Frame [113,117] W W':=by
 obtain ⟨i0,hi,hz0,hz1,hz2⟩:=info_parts Tryz.infoPtrMod
 obtain ⟨am,cm,rfl⟩:=own_form h.row
 have H:=hid h
 have HO:=hid ho
 have c3:W.cell? ⟨P,3,none⟩=some (.slice am bl.length cm):=h.blk.cell 3
 have hP:=h.blk.lt
 have hcap:=own_cap h.row
 have hsz:=h.gr.size
 have SZ:(W.alloc (.cells (modZ og) 122)).heap.size=W.heap.size+1:=Array.size_push _
 have CN:=hid (show ∀ j u,[ptrV W.heap.size][j]?=some u→((W.alloc (.cells (modZ og) 122)).alloc (.cells #[ptrV W.heap.size] 113)).cell? ((⟨W.heap.size+1,0,none⟩:Addr).add j)=some u by
  have:=cell_one_new (W.alloc (.cells (modZ og) 122)) (ptrV W.heap.size) 113
  rw [SZ] at this
  exact this)
 have HR:=hid ((h.kept (grown_trans (World.grownBy_alloc W (.cells (modZ og) 122) none) (World.grownBy_alloc _ (.cells #[ptrV W.heap.size] 113) none))).row)
 have HB:=hid ((h.kept (grown_trans (World.grownBy_alloc W (.cells (modZ og) 122) none) (World.grownBy_alloc _ (.cells #[ptrV W.heap.size] 113) none))).blk)
 have HS:=hid (show W0.heap.size≤((W.alloc (.cells (modZ og) 122)).alloc (.cells #[ptrV W.heap.size] 113)).heap.size from (h.kept (grown_trans (World.grownBy_alloc W (.cells (modZ og) 122) none) (World.grownBy_alloc _ (.cells #[ptrV W.heap.size] 113) none))).gr.size)
 clear h ho SZ
 unfold ptrV
 go_enter Tryz.func90,Tryz.ntmps90
 go_wp2_with (at_builtin; refine wpList_append_at _ rfl _ _ 112 rfl W0.heap.size 113 i0 (.pointer none) 1 8 Tryz.underlying112 hi hz0 hz1 hz2 rfl (by decide) _ _ _ rfl HR.out ⟨W.heap.size+1,0,none⟩ 1 1 [ptrV W.heap.size] rfl rfl CN.out (by intro u hu; simp at hu; subst hu; rfl) (by unfold maxLen; omega) (by omega) HS.out ?_; intro v' w3 hown' hgrow hblk; obtain ⟨av',cv',rfl⟩:=own_form hown'; have RT:=RowT.own HR.out; have b3:=blk_ty HB.out hgrow RT (by decide); have f3:=b3.free 3; have k3:=b3.cell 3; have K:=hid (H.out.more HO.out hf hs hown' hgrow); have FR:=hid (((Frame.grown (ts:=[113,117]) (grown_trans (World.grownBy_alloc W (.cells (modZ og) 122) none) (World.grownBy_alloc _ (.cells #[ptrV W.heap.size] 113) none))).trans (Frame.row hgrow RT (by decide))).trans (Frame.row (grown_set w3 P 3 (.slice av' (bl.length+1) cv')) (RowT.blk b3) (by decide))); clear hgrow hown' RT b3 hblk)
 go_end0
 exact ⟨rfl,⟨_,_,K.out⟩,FR.out⟩

end Go.Proofs.YtnfgdlkiialnnaaGreatDoor

namespace Go.Proofs.YtnfgdlkiialnnaaGreatDoor
open Go.RowKit

/-- the members of a file -/
structure MemsAt (W:World) (mg:Nat) (gs:List Nat) (ms:List (Lk.Obj×Bool)):Prop where
 len:gs.length=ms.length
 row:∃ cur,BlkAt W mg cur 152∧∀ i (h:i < ms.length),cur[i * 2]?=some (ptrV (gs[i]'(by rw [len]; exact h)))∧cur[i * 2+1]?=some (.bool ms[i].2)
 objs:∀ i (h:i < ms.length),ObjAt W (gs[i]'(by rw [len]; exact h)) ms[i].1
 syms:∀ m∈ms,m.1.syms.length≤65535

/-- blocks but of these types, and but one, are kept -/
def FrameX (ts:List TypeId) (mg:Nat) (W W':World):Prop:=∀ k cs t,BlkAt W k cs t→t ∉ ts→k≠mg→BlkAt W' k cs t
theorem FrameX.refl (ts:List TypeId) (mg:Nat) (W:World):FrameX ts mg W W:=fun _ _ _ h _ _=>h
theorem Frame.x {ts:List TypeId} {A B:World} (h:Frame ts A B) (mg:Nat):FrameX ts mg A B:=fun k cs t hb ht _=>h k cs t hb ht
theorem FrameX.trans {ts:List TypeId} {mg:Nat} {A B C:World} (h:FrameX ts mg A B) (k:FrameX ts mg B C):FrameX ts mg A C:=fun b cs t hb ht hn=>k b cs t (h b cs t hb ht hn) ht hn
theorem FrameX.set (ts:List TypeId) (W:World) (mg o:Nat) (v:Value):FrameX ts mg W (W.setCell ⟨mg,o,none⟩ v):=fun _ _ _ hb _ hn=>hb.grown (grown_set W mg o v) (by simp; omega)

def untaken (ms:List (Lk.Obj×Bool)):Nat:=(ms.filter fun m=>!m.2).length

section
variable {W W':World} {mg:Nat} {gs:List Nat} {ms:List (Lk.Obj×Bool)}
theorem MemsAt.frame {ts:List TypeId} (h:MemsAt W mg gs ms) (hf:Frame ts W W') (h0:152 ∉ ts) (h1:90 ∉ ts) (h2:3 ∉ ts) (h3:124 ∉ ts) (h4:139 ∉ ts):MemsAt W' mg gs ms:=by
 obtain ⟨cur,hb,hc⟩:=h.row
 exact ⟨h.len,⟨cur,hf _ _ _ hb h0,hc⟩,fun i hi=>hf.obj (h.objs i hi) h1 h2 h3 h4,h.syms⟩
theorem MemsAt.kept (h:MemsAt W mg gs ms) (hg:W.grownBy W' none):MemsAt W' mg gs ms:=h.frame (ts:=[]) (Frame.grown hg) (by simp) (by simp) (by simp) (by simp) (by simp)
theorem MemsAt.cells (h:MemsAt W mg gs ms) (i:Nat) (hi:i < ms.length):W.cell? ⟨mg,i * 2,none⟩=some (ptrV (gs[i]'(by rw [h.len]; exact hi)))∧W.cell? ⟨mg,i * 2+1,none⟩=some (.bool ms[i].2)∧W.frozen? ⟨mg,i * 2+1,none⟩=false:=by
 obtain ⟨cur,hb,hc⟩:=h.row
 exact ⟨(hb.cell _).trans (hc i hi).1,(hb.cell _).trans (hc i hi).2,hb.free _⟩
/-- one is taken -/
theorem MemsAt.put (h:MemsAt W mg gs ms) (i:Nat) (hi:i < ms.length):MemsAt (W.setCell ⟨mg,i * 2+1,none⟩ (.bool true)) mg gs (ms.set i (ms[i].1,true)):=by
 obtain ⟨cur,hb,hc⟩:=h.row
 have RT:=RowT.blk hb
 have gs':=grown_set W mg (i * 2+1) (.bool true)
 have hsz:i * 2+1 < cur.size:=by
  have:=(hc i hi).2
  exact (Array.getElem?_eq_some_iff.1 this).1
 refine ⟨by rw [List.length_set]; exact h.len,⟨_,hb.set (i * 2+1) (.bool true),fun j hj=>?_⟩,fun j hj=>?_,fun m hm=>?_⟩
 ·rw [List.length_set] at hj
  rw [Array.getElem?_setIfInBounds,Array.getElem?_setIfInBounds,if_neg (by omega)]
  refine ⟨(hc j hj).1,?_⟩
  by_cases e:i=j
  ·subst e
   rw [if_pos rfl,if_pos hsz,List.getElem_set_self]
  ·rw [if_neg (by omega),List.getElem_set_ne e]
   exact (hc j hj).2
 ·rw [List.length_set] at hj
  have e:(ms.set i (ms[i].1,true))[j].1=ms[j].1:=by
   by_cases e:i=j
   ·subst e; rw [List.getElem_set_self]
   ·rw [List.getElem_set_ne e]
  rw [e]
  exact obj_ty (h.objs j hj) gs' RT (by decide) (by decide) (by decide) (by decide)
 ·obtain ⟨j,hj,rfl⟩:=List.getElem_of_mem hm
  rw [List.length_set] at hj
  by_cases e:i=j
  ·subst e; rw [List.getElem_set_self]; exact h.syms ms[i] (List.getElem_mem hi)
  ·rw [List.getElem_set_ne e]; exact h.syms _ (List.getElem_mem hj)
end

theorem pass_drop (ms:List (Lk.Obj×Bool)) (k:Nat) (os:List Lk.Obj) (h:k < ms.length):Ln.pass (ms.drop k) os=if ms[k].2=false∧Ln.needs os ms[k].1=true then ((ms[k].1,true) :: (Ln.pass (ms.drop (k+1)) (os ++ [ms[k].1])).1,(Ln.pass (ms.drop (k+1)) (os ++ [ms[k].1])).2.1,true) else (ms[k] :: (Ln.pass (ms.drop (k+1)) os).1,(Ln.pass (ms.drop (k+1)) os).2.1,(Ln.pass (ms.drop (k+1)) os).2.2):=by
 rw [List.drop_eq_getElem_cons h]
 generalize ms[k]=m
 obtain ⟨o,t⟩:=m
 rw [Ln.pass]

theorem untaken_set:∀ (ms:List (Lk.Obj×Bool)) (i:Nat) (h:i < ms.length) (o:Lk.Obj),ms[i].2=false→untaken (ms.set i (o,true))+1=untaken ms:=by
 intro ms
 induction ms with
 | nil=>intro i h; simp at h
 | cons m ms ih =>
  intro i h o hf
  obtain ⟨mo,mt⟩:=m
  cases i with
  | zero =>
   simp only [List.getElem_cons_zero] at hf
   subst hf
   simp [untaken]
  | succ i =>
   have:=ih i (by simpa using h) o (by simpa using hf)
   unfold untaken at this ⊢
   simp only [List.set_cons_succ,List.filter_cons]
   split <;> (try simp only [List.length_cons]) <;> omega
theorem untaken_le (ms:List (Lk.Obj×Bool)):untaken ms≤ms.length:=List.length_filter_le _ _

structure PassInv (ms1:List (Lk.Obj×Bool)) (os1:List Lk.Obj) (j:Nat) (ms2:List (Lk.Obj×Bool)) (os2:List Lk.Obj) (more:Bool):Prop where
 len:ms2.length=ms1.length
 rest:ms2.drop j=ms1.drop j
 eq:Ln.pass ms1 os1=(ms2.take j ++ (Ln.pass (ms1.drop j) os2).1,(Ln.pass (ms1.drop j) os2).2.1,more || (Ln.pass (ms1.drop j) os2).2.2)
 un:untaken ms2+(if more then 1 else 0)≤untaken ms1
theorem PassInv.start (ms:List (Lk.Obj×Bool)) (os:List Lk.Obj):PassInv ms os 0 ms os false:=⟨rfl,rfl,by simp,by simp⟩
theorem PassInv.at {ms1 ms2:List (Lk.Obj×Bool)} {os1 os2:List Lk.Obj} {j:Nat} {more:Bool} (h:PassInv ms1 os1 j ms2 os2 more) (hj:j < ms1.length):ms2[j]'(by rw [h.len]; exact hj)=ms1[j]:=by
 have e:=h.rest
 rw [List.drop_eq_getElem_cons (by rw [h.len]; exact hj),List.drop_eq_getElem_cons hj] at e
 exact (List.cons.inj e).1
theorem PassInv.yes {ms1 ms2:List (Lk.Obj×Bool)} {os1 os2:List Lk.Obj} {j:Nat} {more:Bool} (h:PassInv ms1 os1 j ms2 os2 more) (hj:j < ms1.length) (hj2:j < ms2.length) (h1:ms2[j].2=false) (h2:Ln.needs os2 ms2[j].1=true):PassInv ms1 os1 (j+1) (ms2.set j (ms2[j].1,true)) (os2 ++ [ms2[j].1]) true:=by
 have ea:=h.at hj
 have e:=h.eq
 rw [pass_drop ms1 j os2 hj,← ea,if_pos ⟨h1,h2⟩] at e
 refine ⟨by rw [List.length_set]; exact h.len,?_,?_,?_⟩
 ·have r:=h.rest
  rw [List.drop_set_of_lt (by omega),← List.drop_drop (i:=1) (j:=j),← List.drop_drop (i:=1) (j:=j) (l:=ms1),r]
 ·rw [e]
  have t:(ms2.set j (ms2[j].1,true)).take (j+1)=ms2.take j ++ [(ms2[j].1,true)]:=by
   rw [List.take_succ_eq_append_getElem (by rw [List.length_set]; exact hj2),List.getElem_set_self,List.take_set_of_le (by omega)]
  rw [t]
  simp
 ·have:=untaken_set ms2 j hj2 ms2[j].1 h1
  have u:=h.un
  simp only [if_true]
  omega
theorem PassInv.no {ms1 ms2:List (Lk.Obj×Bool)} {os1 os2:List Lk.Obj} {j:Nat} {more:Bool} (h:PassInv ms1 os1 j ms2 os2 more) (hj:j < ms1.length) (hj2:j < ms2.length) (h1:¬ (ms2[j].2=false∧Ln.needs os2 ms2[j].1=true)):PassInv ms1 os1 (j+1) ms2 os2 more:=by
 have ea:=h.at hj
 have e:=h.eq
 rw [pass_drop ms1 j os2 hj,← ea,if_neg h1] at e
 refine ⟨h.len,?_,?_,h.un⟩
 ·have r:=h.rest
  rw [← List.drop_drop (i:=1) (j:=j),← List.drop_drop (i:=1) (j:=j) (l:=ms1),r]
 ·rw [e,List.take_succ_eq_append_getElem hj2,List.append_assoc]
  rfl
theorem PassInv.fin {ms1 ms2:List (Lk.Obj×Bool)} {os1 os2:List Lk.Obj} {j:Nat} {more:Bool} (h:PassInv ms1 os1 j ms2 os2 more) (hj:j=ms1.length):Ln.pass ms1 os1=(ms2,os2,more):=by
 have e:=h.eq
 subst hj
 rw [List.drop_length,Ln.pass,List.take_of_length_le (by rw [h.len]; exact Nat.le_refl _)] at e
 rw [e]
 simp

set_option maxRecDepth 100000 in
set_option maxHeartbeats 8000000 in
theorem takeArchive_any (W0:World) (P:Nat) (bt bf bd:Int) (vm:Value) (bl gl:List Nat) (os:List Lk.Obj) (mg cm:Nat) (gs:List Nat) (ms:List (Lk.Obj×Bool)) (W:World) (h:GatAt W0 P bt bf bd vm bl gl os W) (hm:MemsAt W mg gs ms) (hc:bl.length+untaken ms≤4096) (hml:W0.heap.size≤mg) (hn:ms.length≤4096) (hcm:ms.length≤cm∧cm≤maxLen) :
  Calls Tryz.prog 89 #[ptrV P,.slice (some ⟨mg,0,none⟩) ms.length cm] W fun e W'=>e = .returned (.tuple #[])∧(∃ vm' bl' gl',GatAt W0 P bt bf bd vm' bl' gl' (Ln.takeArch (ms.length+1) ms os) W'∧bl'.length≤bl.length+untaken ms)∧FrameX [113,117] mg W W':=by
 have H:=hid h
 have HM:=hid hm
 have hcm1:=hcm.2
 unfold maxLen at hcm1
 clear h hm
 unfold ptrV
 go_enter Tryz.func89,Tryz.ntmps89
 obtain ⟨T,hT⟩:∃ T,T=Ln.takeArch (ms.length+1) ms os:=⟨_,rfl⟩
 rw [← hT]
 have HT:=hid hT
 clear hT
 have hu:=untaken_le ms
 go_wp2
 go_loopg [4] (ms.length+1) (fun g mo wr=>∃ (more:Bool) (ms1:List (Lk.Obj×Bool)) (os1:List Lk.Obj) (bl1 gl1:List Nat) (vm1:Value),mo = .bool more∧GatAt W0 P bt bf bd vm1 bl1 gl1 os1 wr∧MemsAt wr mg gs ms1∧ms1.length=ms.length∧bl1.length+untaken ms1≤bl.length+untaken ms∧FrameX [113,117] mg W wr∧(more=true→untaken ms1+1≤g∧T=Ln.takeArch g ms1 os1)∧(more=false→T=os1))
 case atStart=>exact ⟨true,ms,os,bl,gl,vm,rfl,H.out,HM.out,rfl,Nat.le_refl _,FrameX.refl _ _ _,fun _=>⟨by omega,HT.out⟩,fun c=>by cases c⟩
 case round =>
  obtain ⟨more,ms1,os1,bl1,gl1,vm1,rfl,hg,hm,hl,hb,hfr,hy,hno⟩:=hrel
  cases more with
  | false =>
   have E:=hid (hno rfl)
   have HG:=hid hg
   have HFR:=hid hfr
   clear hg hm hfr hy hno
   go_wp2
   go_end0
   rw [E.out]
   exact ⟨rfl,⟨vm1,bl1,gl1,HG.out,by omega⟩,HFR.out⟩
  | true =>
   obtain ⟨hk,hE⟩:=hy rfl
   obtain ⟨gk',rfl⟩:∃ k,gk=k+1:=⟨gk - 1,by omega⟩
   have E:=hid hE
   have HG:=hid hg
   have HM1:=hid hm
   have HFR:=hid hfr
   clear hg hm hfr hy hno hE
   obtain ⟨U,hU⟩:∃ U:World,U=wr:=⟨_,rfl⟩
   subst hU
   go_wp2
   go_loopw [4,9] (fun mo i wr=>∃ (j:Nat) (more2:Bool) (ms2:List (Lk.Obj×Bool)) (os2:List Lk.Obj) (bl2 gl2:List Nat) (vm2:Value),j≤ms.length∧i = .int .i64 j∧mo = .bool more2∧GatAt W0 P bt bf bd vm2 bl2 gl2 os2 wr∧MemsAt wr mg gs ms2∧PassInv ms1 os1 j ms2 os2 more2∧bl2.length+untaken ms2≤bl.length+untaken ms∧FrameX [113,117] mg W wr) (fun _ i _=>ms.length - (intOf i).toNat)
   case atStart=>exact ⟨0,false,ms1,os1,bl1,gl1,vm1,Nat.zero_le _,rfl,rfl,HG.out,HM1.out,PassInv.start _ _,hb,HFR.out⟩
   case round =>
    obtain ⟨j,more2,ms2,os2,bl2,gl2,vm2,hj,rfl,rfl,hg2,hm2,hp2,hb2,hf2⟩:=hrel
    have HG2:=hid hg2
    have HM2:=hid hm2
    have HP2:=hid hp2
    have HF2:=hid hf2
    clear hg2 hm2 hp2 hf2
    by_cases hlt:j < ms.length
    ·have hj1:j < ms1.length:=by omega
     have hj2:j < ms2.length:=by rw [HP2.out.len]; exact hj1
     obtain ⟨m0,m1,m1f⟩:=HM2.out.cells j hj2
     have g1:(j:Int) < (ms.length:Int):=by omega
     have YES:=hid (HP2.out.yes hj1 hj2)
     have NO:=hid (HP2.out.no hj1 hj2)
     have OB:=hid (HM2.out.objs j hj2)
     have SY:=HM2.out.syms ms2[j] (List.getElem_mem hj2)
     have PT:=hid (fun V (hV:MemsAt V mg gs ms2)=>hV.put j hj2)
     have US:=hid (untaken_set ms2 j hj2 ms2[j].1)
     generalize ms2[j]=mj at *
     obtain ⟨oj,tj⟩:=mj
     dsimp only at *
     unfold ptrV at m0
     generalize hgj:gs[j]'_=gj at *
     have Q0:=hid hgj
     clear hgj
     cases tj with
     | true =>
      have E2:=hid (NO.out (fun c=>by cases c.1))
      go_wp2
      go_roundw
      case rel=>exact ⟨j+1,more2,ms2,os2,bl2,gl2,vm2,by omega,by go_num,rfl,HG2.out,HM2.out,E2.out,hb2,HF2.out⟩
      case measure=>simp [intOf]; omega
     | false =>
      obtain ⟨am,cm2,hvm⟩:=own_form HG2.out.row
      subst hvm
      have c3:wr.cell? ⟨P,3,none⟩=some (.slice am bl2.length cm2):=HG2.out.blk.cell 3
      have cN:=hid (needs_any P am cm2 bl2 os2 gj oj wr c3 HG2.out.modsIn OB.out SY)
      clear c3
      go_wp2_with fail
      refine cN.out.mono ?_
      rintro e W5 ⟨rfl,h5⟩
      have HG5:=hid (HG2.out.kept h5)
      have HM5:=hid (HM2.out.kept h5)
      have HF5:=hid (HF2.out.trans ((Frame.grown h5).x mg))
      have OB5:=hid (OB.out.kept h5)
      have m0':=gcell m0 h5
      have m1':=gcell m1 h5
      clear h5 cN m0 m1 m1f
      obtain ⟨-,-,m1f⟩:=HM5.out.cells j hj2
      cases hn2:Ln.needs os2 oj with
      | false =>
       have E2:=hid (NO.out (fun c=>by rw [hn2] at c; cases c.2))
       clear hn2
       go_wp2
       go_roundw
       case rel=>exact ⟨j+1,more2,ms2,os2,bl2,gl2,_,by omega,by go_num,rfl,HG5.out,HM5.out,E2.out,hb2,HF5.out⟩
       case measure=>simp [intOf]; omega
      | true =>
       have E2:=hid (YES.out trivial hn2)
       have hus:=US.out trivial
       clear hn2
       obtain ⟨cur,hcb,-⟩:=HM5.out.row
       have RM:=RowT.blk hcb
       have GS:=grown_set W5 mg (j * 2+1) (.bool true)
       have HG6:=hid (HG5.out.ty GS RM (by intro k e; simp at e; omega) (by decide) (by decide) (by decide) (by decide) (by decide) (by decide) (by decide))
       have HM6:=hid (PT.out W5 HM5.out)
       have OB6:=hid (obj_ty OB5.out GS RM (by decide) (by decide) (by decide) (by decide))
       have HF6:=hid (HF5.out.trans (FrameX.set _ W5 mg (j * 2+1) (.bool true)))
       have n0:(W5.setCell ⟨mg,j * 2+1,none⟩ (.bool true)).cell? ⟨mg,j * 2,none⟩=some (.pointer (some ⟨gj,0,none⟩)):=by
        obtain ⟨q0,-,-⟩:=HM6.out.cells j (by rw [List.length_set]; exact hj2)
        exact q0.trans (by rw [← Q0.out]; rfl)
       clear hcb RM GS PT
       have cT:=hid (take_any W0 P bt bf bd _ bl2 gl2 os2 gj oj _ HG6.out OB6.out (by omega) SY)
       unfold ptrV at cT
       go_wp2_with fail
       refine cT.out.mono ?_
       rintro e W7 ⟨rfl,⟨vm7,b7,h7⟩,f7⟩
       have HG7:=hid h7
       have HM7:=hid (HM6.out.frame f7 (by decide) (by decide) (by decide) (by decide) (by decide))
       have HF7:=hid (HF6.out.trans (f7.x mg))
       clear h7 f7 cT n0 m0' m1' m1f
       go_wp2
       go_roundw
       case rel=>exact ⟨j+1,true,_,_,_,_,_,by omega,by go_num,rfl,HG7.out,HM7.out,E2.out,by simp; omega,HF7.out⟩
       case measure=>simp [intOf]; omega
    ·obtain rfl:j=ms.length:=by omega
     have E2:=hid (HP2.out.fin (by omega))
     have g3:decide ((ms.length:Int) < (ms.length:Int))=false:=by simp
     have TE:=hid (show T=if (Ln.pass ms1 os1).2.2=true then Ln.takeArch gk' (Ln.pass ms1 os1).1 (Ln.pass ms1 os1).2.1 else (Ln.pass ms1 os1).2.1 from E.out)
     rw [E2.out] at TE
     dsimp only at TE
     have hun:=HP2.out.un
     have hl2:=HP2.out.len
     go_wp2
     go_roundg gk'
     case measure=>omega
     case rel =>
      refine ⟨more2,ms2,os2,bl2,gl2,vm2,rfl,HG2.out,HM2.out,by omega,hb2,HF2.out,fun c=>?_,fun c=>?_⟩
      ·subst c
       simp only [if_true] at hun
       exact ⟨by omega,by rw [TE.out,if_pos rfl]⟩
      ·subst c
       rw [TE.out,if_neg (by decide)]

end Go.Proofs.YtnfgdlkiialnnaaGreatDoor

namespace Go.Proofs.YtnfgdlkiialnnaaGreatDoor
open Go.RowKit

theorem Tryz.infoU8:(Tryz.prog.info? 5).map (fun i=>(i.zero,i.size,i.bytes))=some (some (.int .u8 0),1,1):=by kernel_rfl

def byV (l:List UInt8):List Value:=l.map fun c=>.int .u8 c.toNat

/-- a Writer lies in block b and has gathered l -/
def WrAt (W:World) (b:Nat) (l:List UInt8):Prop :=
 ∃ ao cap,BlkAt W b #[.slice ao l.length cap] 57∧W.ownsRow (b+1) 5 1 (.slice ao l.length cap) l.length (byV l)

theorem wrAt_new (W:World):WrAt (W.alloc (.cells #[.slice none 0 0] 57)) W.heap.size [] :=
 ⟨none,0,BlkAt.new W _ _,World.ownsRow_nil _ _ _ _⟩

theorem i64_and255 (n:Int):bits .and .i64 n 255=n % 256:=by
 have h255:(BitVec.ofInt 64 255).toNat=2 ^ 8 - 1:=by decide
 have key:(BitVec.ofInt 64 n &&& BitVec.ofInt 64 255).toNat=(n % ((2 ^ 64:Nat):Int)).toNat % 2 ^ 8:=by
  rw [BitVec.toNat_and,BitVec.toNat_ofInt,h255,Nat.and_two_pow_sub_one_eq_mod]
 show IntKind.i64.wrap ((BitVec.ofInt 64 n &&& BitVec.ofInt 64 255).toNat:Nat)=n % 256
 rw [key,IntKind.wrap_i64]
 omega

def lowB (x:Int):UInt8:=UInt8.ofNat (x % 256).toNat
theorem lowB_int (x:Int):((lowB x).toNat:Int)=bits .and .i64 x 255 % 256:=by
 rw [i64_and255]
 unfold lowB
 rw [UInt8.toNat_ofNat']
 omega

theorem lowB_own {w:World} {base:Nat} {v:Value} {n:Nat} {xs:List Value} {x:Int} (h:w.ownsRow base 5 1 v n (xs ++ [.int .u8 (bits .and .i64 x 255 % 256)])):w.ownsRow base 5 1 v n (xs ++ [.int .u8 (lowB x).toNat]):=by
 rw [lowB_int]; exact h

/-- but for block b, what holds no bytes is as it was -/
def KeepT (b:Nat) (w w':World):Prop:=∀ k cs t,k≠b→t≠5→BlkAt w k cs t→BlkAt w' k cs t
theorem KeepT.refl (b:Nat) (w:World):KeepT b w w:=fun _ _ _ _ _ h=>h
theorem KeepT.trans {b:Nat} {x y z:World} (h:KeepT b x y) (k:KeepT b y z):KeepT b x z:=fun i cs t hi ht hb=>k i cs t hi ht (h i cs t hi ht hb)

/-- below b all is as it was; and of the rest what holds no bytes -/
def Wk (b:Nat) (w w':World):Prop:=Below b w w'∧KeepT b w w'
theorem Wk.refl (b:Nat) (w:World):Wk b w w:=⟨Below.refl _ _,KeepT.refl _ _⟩
theorem Wk.trans {b:Nat} {x y z:World} (h:Wk b x y) (k:Wk b y z):Wk b x z:=⟨h.1.trans k.1,h.2.trans k.2⟩
theorem Wk.alloc {b:Nat} {x y:World} (h:Wk b x y) (hb:b≤y.heap.size) (o:Obj):Wk b x (y.alloc o) :=
 ⟨h.1.alloc hb o,h.2.trans fun _ _ _ _ _ hk=>hk.grown (World.grownBy_alloc y o none) (by simp)⟩

theorem keep_put {wr w1:World} {b:Nat} {o:Obj} {base:Nat} {v0:Value} {n:Nat} {xs:List Value} (hown:wr.ownsRow base 5 1 v0 n xs) (hg:(wr.alloc o).grownBy w1 v0.ownBlock) (v:Value):KeepT b wr (w1.setCell ⟨b,0,none⟩ v):=by
 intro k cs t hk ht hb
 have h1:=hb.grown (World.grownBy_alloc wr o none) (by simp)
 have h2:BlkAt w1 k cs t:=h1.grown hg (by
  rcases hown.2 with ⟨rfl,_⟩ | ⟨g,cap,cur,rfl,_,hh,_⟩
  ·simp [Value.ownBlock]
  ·intro e
   simp only [Value.ownBlock,Option.some.injEq] at e
   subst e
   unfold BlkAt at hb
   rw [hb] at hh
   simp only [Option.some.injEq,Obj.cells.injEq] at hh
   exact ht hh.2.1)
 exact h2.grown (grown_set w1 b 0 v) (by simpa using hk)

/-- behind an append into the Writer's list, and the store of the list -/
theorem wr_put {w wr w1:World} {b:Nat} {l:List UInt8} {ao:Option Addr} {cap:Nat} {o:Obj} {v:Value} {c:UInt8} (hb:BlkAt wr b #[.slice ao l.length cap] 57) (hwk:Wk b w wr) (hown0:wr.ownsRow (b+1) 5 1 (.slice ao l.length cap) l.length (byV l))
  (hg:(wr.alloc o).grownBy w1 (Value.ownBlock (.slice ao l.length cap))) (hrow:∀ g,Value.ownBlock (.slice ao l.length cap)=some g→b+1≤g) (hown:w1.ownsRow (b+1) 5 1 v (l.length+1) (byV l ++ [.int .u8 c.toNat])) :
  WrAt (w1.setCell ⟨b,0,none⟩ v) b (l ++ [c])∧Wk b w (w1.setCell ⟨b,0,none⟩ v):=by
 have hkt:=keep_put (b:=b) hown0 hg v
 have hB1:BlkAt w1 b #[.slice ao l.length cap] 57:=(hb.grown (World.grownBy_alloc wr o none) (by simp)).grown hg (fun e=>by have:=hrow b e.symm; omega)
 obtain ⟨ao',cap',rfl⟩:=own_form hown
 have hlen:(l ++ [c]).length=l.length+1:=by simp
 refine ⟨⟨ao',cap',?_,?_⟩,?_⟩
 ·rw [hlen]
  exact hB1.set 0 _
 ·have e:byV (l ++ [c])=byV l ++ [.int .u8 c.toNat]:=by simp [byV]
  rw [hlen,e]
  exact ownsRow_setCell_below hown (Nat.lt_succ_self b) _
 ·refine ⟨?_,hwk.2.trans hkt⟩
  exact ((hwk.1.alloc (Nat.le_of_lt hb.lt) o).grown hg (by have:=hb.lt; simp; omega) (fun g hg=>by have:=hrow g hg; omega)).setCell (Nat.le_refl b) _

theorem wr_cell {wr w1:World} {b:Nat} {cs:Array Value} {t:TypeId} {o:Obj} {row:Option Nat} (hb:BlkAt wr b cs t) (hg:(wr.alloc o).grownBy w1 row) (hrow:∀ g,row=some g→b+1≤g):BlkAt w1 b cs t :=
 (hb.grown (World.grownBy_alloc wr o none) (by simp)).grown hg (fun e=>by have:=hrow b e.symm; omega)

set_option maxHeartbeats 1000000 in
theorem wNumber_any (b:Nat) (n:Int) (size:Nat) (l:List UInt8) (w:World) (h:WrAt w b l) (hl:l.length≤16777216) (hs:size≤4) (hn0:-1099511627776≤n) (hn1:n≤1099511627776) :
  Calls Tryz.prog 32 #[.pointer (some ⟨b,0,none⟩),.int .i64 n,.int .i64 size] w fun e w'=>e = .returned (.tuple #[])∧WrAt w' b (l ++ Lk.le n size)∧Wk b w w':=by
 obtain ⟨i0,hi,hz0,hz1,hz2⟩:=info_parts Tryz.infoU8
 have H:=hid h
 clear h
 go_enter Tryz.func32,Tryz.ntmps32
 go_wp2
 go_loopw [1,6] (fun m i wr=>∃ (k:Nat) (x:Int),k≤size∧i = .int .i64 k∧m = .int .i64 x∧-1099511627776≤x∧x≤1099511627776∧(∃ acc:List UInt8,acc.length=l.length+k∧WrAt wr b acc∧l ++ Lk.le n size=acc ++ Lk.le x (size - k))∧Wk b w wr) (fun _ i _=>size - (intOf i).toNat)
 case atStart=>exact ⟨0,n,Nat.zero_le _,rfl,rfl,hn0,hn1,⟨l,rfl,H.out,by simp⟩,Wk.refl _ _⟩
 case round =>
  obtain ⟨k,x,hk,rfl,rfl,hx0,hx1,hdone,hbel⟩:=hrel
  have HD:=hid hdone
  have HB:=hid hbel
  clear hdone hbel
  by_cases hlt:k < size
  ·obtain ⟨acc,hdl,hw,hle⟩:=HD.out
   obtain ⟨ao,cap,hblk,hown⟩:=hw
   have c0:=hblk.cell 0
   have f0:=hblk.free 0
   have hbl:=hblk.lt
   have HBK:=hid hblk
   have HLE:=hid hle
   have HDL:=hid hdl
   have hdl2:acc.length≤16777220:=by omega
   have hrow:=hid (show ∀ g,Value.ownBlock (.slice ao acc.length cap)=some g→b+1≤g from fun g hg=>(hown.lt g hg).1)
   clear hblk hle hdl HD
   go_wp2_with (at_builtin; refine wpList_append_own _ rfl _ _ 48 rfl (b+1) 5 i0 (.int .u8 0) 1 1 Tryz.underlying48 hi hz0 hz1 hz2 rfl (by decide) (.slice ao acc.length cap) acc.length (byV acc) rfl (hown.alloc _) ⟨wr.heap.size,0,none⟩ 1 1 [.int .u8 (bits .and .i64 x 255 % 256)] rfl rfl (cell_one_new _ _ _) (by intro u hu; simp at hu; subst hu; rfl) (by unfold maxLen; omega) (by omega) (by simp; omega) ?_; intro v' w3 hown' hgrow _; obtain ⟨ao',cap',rfl⟩:=own_form hown'; have m0:=(wr_cell HBK.out hgrow hrow.out).cell 0; have n0:=(wr_cell HBK.out hgrow hrow.out).free 0; have P:=hid (wr_put HBK.out HB.out hown hgrow hrow.out (lowB_own hown')); clear hown' hgrow hown c0 f0)
   go_roundw
   case rel =>
    refine ⟨k+1,x / 256,by omega,by go_num,rfl,by omega,by omega,⟨acc ++ [lowB x],?_,P.out.1,?_⟩,P.out.2⟩
    ·have:=HDL.out; simp; omega
    ·have e:size - k=(size - (k+1))+1:=by omega
     rw [HLE.out,e]
     simp [Lk.le,lowB]
   case measure=>simp [intOf]; omega
  ·go_wp2
   go_end0
   obtain ⟨acc,hdl,hw,hle⟩:=HD.out
   have e:size - k=0:=by omega
   rw [e] at hle
   simp only [Lk.le,List.append_nil] at hle
   rw [hle]
   exact ⟨rfl,hw,HB.out⟩

end Go.Proofs.YtnfgdlkiialnnaaGreatDoor

namespace Go.Proofs.YtnfgdlkiialnnaaGreatDoor
open Go.RowKit

theorem sl_snoc (s:ByteArray) (k:Nat) (h:k < s.size):(sl s).take (k+1)=(sl s).take k ++ [s[k]]:=by
 have h':k < s.data.toList.length:=by rw [Array.length_toList]; exact h
 unfold sl
 rw [List.take_succ_eq_append_getElem h']
 rfl

set_option maxHeartbeats 2000000 in
theorem wText_any (b:Nat) (s:ByteArray) (l:List UInt8) (w:World) (h:WrAt w b l) (hl:l.length≤16777216) (hs:s.size≤1048576) :
  Calls Tryz.prog 31 #[.pointer (some ⟨b,0,none⟩),.string s] w fun e w'=>e = .returned (.tuple #[])∧WrAt w' b (l ++ sl s)∧Wk b w w':=by
 obtain ⟨i0,hi,hz0,hz1,hz2⟩:=info_parts Tryz.infoU8
 have H:=hid h
 clear h
 go_enter Tryz.func31,Tryz.ntmps31
 go_wp2
 go_loopw [4] (fun i wr=>∃ (k:Nat),k≤s.size∧i = .int .i64 k∧(∃ acc:List UInt8,acc.length=l.length+k∧WrAt wr b acc∧l ++ (sl s).take k=acc)∧Wk b w wr) (fun i _=>s.size - (intOf i).toNat)
 case atStart=>exact ⟨0,Nat.zero_le _,rfl,⟨l,rfl,H.out,by simp⟩,Wk.refl _ _⟩
 case round =>
  obtain ⟨k,hk,rfl,hdone,hbel⟩:=hrel
  have HD:=hid hdone
  have HB:=hid hbel
  clear hdone hbel
  by_cases hlt:k < s.size
  ·obtain ⟨acc,hdl,hw,hle⟩:=HD.out
   obtain ⟨ao,cap,hblk,hown⟩:=hw
   have c0:=hblk.cell 0
   have f0:=hblk.free 0
   have hbl:=hblk.lt
   have HBK:=hid hblk
   have HLE:=hid hle
   have HDL:=hid hdl
   have hdl2:acc.length≤33554432:=by omega
   have hrow:=hid (show ∀ g,Value.ownBlock (.slice ao acc.length cap)=some g→b+1≤g from fun g hg=>(hown.lt g hg).1)
   have HOW:=hid hown
   have hne:=World.new_ne wr ⟨b,0,none⟩ (by simpa using c0)
   have g1:(0:Int)≤(k:Int):=by omega
   have g2:(k:Int) < (s.size:Int):=by omega
   have hA:Hid ((wr.alloc (.cells #[.int .u8 s[k].toNat] 5)).drew.ownsRow (b+1) 5 1 (.slice ao acc.length cap) acc.length (byV acc)):=(hown.alloc _).drew
   have hN:Hid (∀ j u,[Value.int .u8 s[k].toNat][j]?=some u→(wr.alloc (.cells #[.int .u8 s[k].toNat] 5)).drew.cell? ((⟨wr.heap.size,0,none⟩:Addr).add j)=some u):=World.news_of_block (heap_alloc_new wr (.cells #[.int .u8 s[k].toNat] 5))
   have hOne:Hid (∀ u∈[Value.int .u8 (s[k].toNat:Int)],u.oneCell'=true):=by intro u hu; simp at hu; subst hu; rfl
   have h63:Hid (acc.length+1≤maxLen):=by show _≤_; unfold maxLen; omega
   have hby:Hid ((acc.length+1) * 1≤140737488355328):=by show _≤_; omega
   have hbs:Hid (b+1≤(wr.alloc (.cells #[.int .u8 s[k].toNat] 5)).drew.heap.size):=by show _≤_; simp; omega
   have hHH:Hid ((wr.alloc (.cells #[.int .u8 s[k].toNat] 5)).drew.heap.size=wr.heap.size+1):=by show _=_; simp
   clear hblk hle hdl HD hown
   go_wp2
   refine wp_region_any (by kernel_rfl) ?_
   change wpAny _ Region.Mode.any _ _ _ _ _ wr.drew
   refine wpAny_take (i:=0) (v:=?_) rfl (by kernel_rfl) (by kernel_rfl) (by kernel_rfl) (fun _ _ _ h=>h) (Or.inl ⟨by kernel_rfl,?_⟩) ?_
   rotate_left
   ·intro w; go_simp; with_reducible rfl
   refine wpAny_take (i:=1) (v:=?_) rfl (by kernel_rfl) (by kernel_rfl) (by kernel_rfl) (fun _ _ _ h=>h) (Or.inl ⟨by kernel_rfl,?_⟩) ?_
   rotate_left
   ·intro w; go_simp; with_reducible rfl
   refine wpAny_take (i:=2) (v:=?_) rfl (by kernel_rfl) (by kernel_rfl) (by kernel_rfl) (fun _ _ _ h=>h) (Or.inl ⟨by kernel_rfl,?_⟩) ?_
   rotate_left
   ·intro w; go_simp; with_reducible rfl
   refine wpAny_take (i:=3) (v:=?_) rfl (by kernel_rfl) (by kernel_rfl) (by kernel_rfl) (fun _ _ _ h=>h) (Or.inl ⟨by kernel_rfl,?_⟩) ?_
   rotate_left
   ·intro w; go_simp; with_reducible rfl
   refine wpAny_take (i:=5) (v:=?_) rfl (by kernel_rfl) (by kernel_rfl) (by kernel_rfl) (fun _ _ _ h=>h) (Or.inl ⟨by kernel_rfl,?_⟩) ?_
   rotate_left
   ·intro w; go_simp; with_reducible rfl
   refine wpAny_take (i:=6) (v:=?_) rfl (by kernel_rfl) (by kernel_rfl) (by kernel_rfl) (fun _ _ _ h=>h) (Or.inl ⟨by kernel_rfl,?_⟩) ?_
   rotate_left
   ·intro w; go_simp; with_reducible rfl
   refine wpAny_take (i:=7) (v:=?_) rfl (by kernel_rfl) (by kernel_rfl) (by kernel_rfl) (fun _ _ _ h=>h) (Or.inl ⟨by kernel_rfl,?_⟩) ?_
   rotate_left
   ·intro w; go_simp; with_reducible rfl
   refine wpAny_ready (rs:=[4,8]) (by kernel_rfl) (by simp) ?_
   refine AllReady.cons rfl (fun K hK=>?_) (AllReady.cons rfl (fun K hK=>?_) AllReady.nil)
   ·go_simp
    refine hK _ _ ?_
    clear hK K
    refine wpAny_ready (rs:=[8]) (by kernel_rfl) (by simp) ?_
    refine AllReady.cons rfl (fun K hK=>?_) AllReady.nil
    go_simp
    refine hK _ _ ?_
    clear hK K
    refine wpAny_ready (rs:=[9]) (by kernel_rfl) (by simp) ?_
    refine AllReady.cons rfl (fun K hK=>?_) AllReady.nil
    rw [if_pos (by kernel_rfl)]
    refine wp_append_own _ (.tmp 15) (.tmp 19) 48 rfl (b+1) 5 i0 (.int .u8 0) 1 1 Tryz.underlying48 hi hz0 hz1 hz2 rfl (by decide) (.slice ao acc.length cap) acc.length (byV acc) (by kernel_rfl) hA.out ⟨wr.heap.size,0,none⟩ 1 1 [.int .u8 s[k].toNat] (by kernel_rfl) rfl hN.out hOne.out h63.out hby.out hbs.out ?_
    intro v' w3 hown' hgrow _
    obtain ⟨ao',cap',rfl⟩:=own_form hown'
    have gd:(wr.alloc (.cells #[.int .u8 s[k].toNat] 5)).grownBy w3 (Value.ownBlock (.slice ao acc.length cap)):=⟨hgrow.os,hgrow.tape,hgrow.output,hgrow.size,hgrow.block⟩
    have m0:=(wr_cell HBK.out gd hrow.out).cell 0
    have n0:=(wr_cell HBK.out gd hrow.out).free 0
    have P:=hid (wr_put HBK.out HB.out HOW.out gd hrow.out hown')
    clear hown' hgrow gd
    refine hK _ _ ?_
    clear hK K
    refine wpAny_take (i:=10) (v:=?_) rfl (by kernel_rfl) (by kernel_rfl) (by kernel_rfl) (fun _ _ _ h=>h) (Or.inl ⟨by kernel_rfl,?_⟩) ?_
    rotate_left
    ·intro w; go_simp; with_reducible rfl
    refine wpAny_take (i:=11) (v:=?_) rfl (by kernel_rfl) (by kernel_rfl) (by kernel_rfl) (fun _ _ _ h=>h) (Or.inl ⟨by kernel_rfl,?_⟩) ?_
    rotate_left
    ·intro w; go_simp; with_reducible rfl
    refine wpAny_ready (rs:=[12]) (by kernel_rfl) (by simp) ?_
    refine AllReady.cons rfl (fun K hK=>?_) AllReady.nil
    go_simp
    refine hK _ _ ?_
    clear hK K
    refine wpAny_done (by kernel_rfl) ?_ _
    clear hA hN hOne h63 hby hbs hHH c0 f0 hne
    go_wp2
    go_roundw
    case rel =>
     refine ⟨k+1,by omega,by go_num,⟨acc ++ [s[k]],?_,P.out.1,?_⟩,P.out.2⟩
     ·have:=HDL.out; simp; omega
     ·rw [← HLE.out,List.append_assoc,sl_snoc s k hlt]
    case measure=>simp [intOf]; omega
   ·go_simp
    refine hK _ _ ?_
    clear hK K
    refine wpAny_ready (rs:=[4]) (by kernel_rfl) (by simp) ?_
    refine AllReady.cons rfl (fun K hK=>?_) AllReady.nil
    go_simp
    refine hK _ _ ?_
    clear hK K
    refine wpAny_ready (rs:=[9]) (by kernel_rfl) (by simp) ?_
    refine AllReady.cons rfl (fun K hK=>?_) AllReady.nil
    rw [if_pos (by kernel_rfl)]
    refine wp_append_own _ (.tmp 15) (.tmp 19) 48 rfl (b+1) 5 i0 (.int .u8 0) 1 1 Tryz.underlying48 hi hz0 hz1 hz2 rfl (by decide) (.slice ao acc.length cap) acc.length (byV acc) (by kernel_rfl) hA.out ⟨wr.heap.size,0,none⟩ 1 1 [.int .u8 s[k].toNat] (by kernel_rfl) rfl hN.out hOne.out h63.out hby.out hbs.out ?_
    intro v' w3 hown' hgrow _
    obtain ⟨ao',cap',rfl⟩:=own_form hown'
    have gd:(wr.alloc (.cells #[.int .u8 s[k].toNat] 5)).grownBy w3 (Value.ownBlock (.slice ao acc.length cap)):=⟨hgrow.os,hgrow.tape,hgrow.output,hgrow.size,hgrow.block⟩
    have m0:=(wr_cell HBK.out gd hrow.out).cell 0
    have n0:=(wr_cell HBK.out gd hrow.out).free 0
    have P:=hid (wr_put HBK.out HB.out HOW.out gd hrow.out hown')
    clear hown' hgrow gd
    refine hK _ _ ?_
    clear hK K
    refine wpAny_take (i:=10) (v:=?_) rfl (by kernel_rfl) (by kernel_rfl) (by kernel_rfl) (fun _ _ _ h=>h) (Or.inl ⟨by kernel_rfl,?_⟩) ?_
    rotate_left
    ·intro w; go_simp; with_reducible rfl
    refine wpAny_take (i:=11) (v:=?_) rfl (by kernel_rfl) (by kernel_rfl) (by kernel_rfl) (fun _ _ _ h=>h) (Or.inl ⟨by kernel_rfl,?_⟩) ?_
    rotate_left
    ·intro w; go_simp; with_reducible rfl
    refine wpAny_ready (rs:=[12]) (by kernel_rfl) (by simp) ?_
    refine AllReady.cons rfl (fun K hK=>?_) AllReady.nil
    go_simp
    refine hK _ _ ?_
    clear hK K
    refine wpAny_done (by kernel_rfl) ?_ _
    clear hA hN hOne h63 hby hbs hHH c0 f0 hne
    go_wp2
    go_roundw
    case rel =>
     refine ⟨k+1,by omega,by go_num,⟨acc ++ [s[k]],?_,P.out.1,?_⟩,P.out.2⟩
     ·have:=HDL.out; simp; omega
     ·rw [← HLE.out,List.append_assoc,sl_snoc s k hlt]
    case measure=>simp [intOf]; omega
  ·go_wp2
   go_end0
   obtain ⟨acc,hdl,hw,hle⟩:=HD.out
   rw [List.take_of_length_le (by rw [sl_length]; omega)] at hle
   rw [hle]
   exact ⟨rfl,hw,HB.out⟩

theorem str_nums (l:List UInt8):strOfNums (l.map fun c=>(c.toNat:Int))=bs l:=by
 unfold strOfNums bs
 rw [List.map_map,List.map_congr_left (g:=id) (fun c _=>by simp),List.map_id]

theorem own_convert {w:World} {base:Nat} {ao:Option Addr} {cap:Nat} {l:List UInt8} (h:w.ownsRow base 5 1 (.slice ao l.length cap) l.length (byV l)) :
  (convert 48 9 (.slice ao l.length cap)).run Tryz.prog w = .ok (.string (bs l)) w:=by
 rcases h.2 with ⟨h1,h2⟩ | ⟨g,cap',cur,hv,_⟩
 ·simp only [Value.slice.injEq] at h1
  obtain ⟨rfl,h3,rfl⟩:=h1
  have:l=[]:=List.length_eq_zero_iff.1 h3
  subst this
  exact run_convert_bytes_nil w 48 5 Tryz.underlying48 Tryz.underlying5 _ _ 9 Tryz.underlying9
 ·simp only [Value.slice.injEq] at hv
  obtain ⟨rfl,_,rfl⟩:=hv
  have:=run_convert_bytes_arg (P:=Tryz.prog) w 48 5 Tryz.underlying48 Tryz.underlying5 g 0 l.length cap (l.map fun c=>(c.toNat:Int)) (by simp) (fun i hi=>by
   have q:=h.cellAt i (by omega)
   rw [Nat.zero_add,q]
   simp [byV,hi]) 9 Tryz.underlying9
  rw [str_nums] at this
  exact this

set_option maxHeartbeats 1000000 in
theorem wBytes_any (b:Nat) (l:List UInt8) (w:World) (h:WrAt w b l) :
  Calls Tryz.prog 34 #[.pointer (some ⟨b,0,none⟩)] w fun e w'=>e = .returned (.string (bs l))∧w'=w:=by
 obtain ⟨ao,cap,hblk,hown⟩:=h
 have c0:=hblk.cell 0
 have hr:=own_convert hown
 clear hblk hown
 go_enter Tryz.func34,Tryz.ntmps34
 go_wp2
 go_ret
 exact ⟨rfl,rfl⟩

end Go.Proofs.YtnfgdlkiialnnaaGreatDoor

namespace Go.Proofs.YtnfgdlkiialnnaaGreatDoor
open Go.RowKit

/-- a list of numbers whose array is no Writer's -/
def IntsB (w:World) (b:Nat) (ao:Option Addr) (xs:List Int):Prop :=
 0 < xs.length→∃ g cs,ao=some ⟨g,0,none⟩∧g≠b∧BlkAt w g cs 3∧∀ i (h:i < xs.length),cs[i]?=some (.int .i64 xs[i])
theorem IntsB.kept {w w':World} {b:Nat} {ao:Option Addr} {xs:List Int} (h:IntsB w b ao xs) (hk:Wk b w w'):IntsB w' b ao xs:=by
 intro h0
 obtain ⟨g,cs,h1,h2,h3,h4⟩:=h h0
 exact ⟨g,cs,h1,h2,hk.2 g cs _ h2 (by decide) h3,h4⟩
theorem IntsB.of_own {w:World} {base b:Nat} {ao:Option Addr} {n cap:Nat} {xs:List Int} (h:w.ownsRow base 3 1 (.slice ao n cap) n (xs.map (Value.int .i64))) (hb:∀ g,Value.ownBlock (.slice ao n cap)=some g→g≠b):IntsB w b ao xs:=by
 intro h0
 have hn:xs.length=n:=by have:=h.1; simpa using this
 rcases h.2 with ⟨h1,h2⟩ | ⟨g,cap',cur,hv,_,hh,_,_,hcs,htk⟩
 ·simp at h1; omega
 ·simp only [Value.slice.injEq] at hv
  obtain ⟨rfl,_,rfl⟩:=hv
  refine ⟨g,cur,rfl,hb g rfl,hh,fun i hi=>?_⟩
  have e:(cur.toList.take (n * 1))[i]?=(xs.map (Value.int .i64))[i]?:=by rw [htk]
  rw [List.getElem?_take,if_pos (by omega)] at e
  rw [← Array.getElem?_toList,e]
  simp [hi]

theorem wNumber_lit (b:Nat) (n:Int) (size:Nat) (ms:Int) (hms:ms=(size:Int)) (l:List UInt8) (w:World) (h:WrAt w b l) (hl:l.length≤16777216) (hs:size≤4) (hn0:-1099511627776≤n) (hn1:n≤1099511627776) :
  Calls Tryz.prog 32 #[.pointer (some ⟨b,0,none⟩),.int .i64 n,.int .i64 ms] w fun e w'=>e = .returned (.tuple #[])∧WrAt w' b (l ++ Lk.le n size)∧Wk b w w':=by
 subst hms; exact wNumber_any b n size l w h hl hs hn0 hn1

theorem nums_snoc (xs:List Int) (k size:Nat) (h:k < xs.length):Lk.nums (xs.take (k+1)) size=Lk.nums (xs.take k) size ++ Lk.le xs[k] size:=by
 unfold Lk.nums
 rw [List.take_succ_eq_append_getElem h,List.flatMap_append]
 simp
theorem nums_length (xs:List Int) (size:Nat):(Lk.nums xs size).length=xs.length * size:=by
 unfold Lk.nums
 induction xs with
 | nil=>simp
 | cons x t ih=>simp only [List.flatMap_cons,List.length_append,ih,Lk.le_length,List.length_cons,Nat.succ_mul]; omega

set_option maxHeartbeats 2000000 in
theorem writeNumbers_any (b:Nat) (ao:Option Addr) (cap size:Nat) (ms:Int) (hms:ms=(size:Int)) (xs:List Int) (l:List UInt8) (w:World) (h:WrAt w b l) (hI:IntsB w b ao xs)
  (hl:l.length≤1048576) (hs:size≤4) (hn:xs.length≤65535) (hx:∀ i (h:i < xs.length),-1099511627776≤xs[i]∧xs[i]≤1099511627776) :
  Calls Tryz.prog 72 #[.pointer (some ⟨b,0,none⟩),.slice ao xs.length cap,.int .i64 ms] w fun e w'=>e = .returned (.tuple #[])∧WrAt w' b (l ++ Lk.nums xs size)∧Wk b w w':=by
 subst hms
 have H:=hid h
 have HI:=hid hI
 have HX:=hid hx
 clear h hI hx
 go_enter Tryz.func72,Tryz.ntmps72
 go_wp2
 go_loopw [10] (fun i wr=>∃ k:Nat,k≤xs.length∧i = .int .i64 k∧WrAt wr b (l ++ Lk.nums (xs.take k) size)∧Wk b w wr) (fun i _=>xs.length - (intOf i).toNat)
 case atStart=>exact ⟨0,Nat.zero_le _,rfl,by simpa [Lk.nums] using H.out,Wk.refl _ _⟩
 case round =>
  obtain ⟨k,hk,rfl,hw,hbel⟩:=hrel
  have HW:=hid hw
  have HB:=hid hbel
  clear hw hbel
  by_cases hlt2:k < xs.length
  ·obtain ⟨g,cs,hao,-,hbk,hc⟩:=HI.out.kept HB.out (by omega)
   subst hao
   have hck:=(hbk.cell k).trans (hc k hlt2)
   clear hbk
   have hxk:=HX.out k hlt2
   have hlen:(l ++ Lk.nums (xs.take k) size).length≤16777216:=by
    rw [List.length_append,nums_length,List.length_take_of_le (by omega)]
    have:k * size≤k * 4:=Nat.mul_le_mul_left k hs
    omega
   have cN:=hid (fun W h=>wNumber_any b xs[k] size (l ++ Lk.nums (xs.take k) size) W h hlen hs hxk.1 hxk.2)
   clear hc hlen
   go_wp2_with fail
   refine (cN.out _ HW.out).mono ?_
   rintro e w2 ⟨rfl,hw2,hb2⟩
   have HW2:=hid hw2
   have HB2:=hid (HB.out.trans hb2)
   clear hw2 hb2
   go_wp2
   go_roundw
   case rel=>exact ⟨k+1,by omega,by go_num,by rw [nums_snoc xs k size hlt2,← List.append_assoc]; exact HW2.out,HB2.out⟩
   case measure=>simp [intOf]; omega
  ·go_wp2
   go_end0
   have e:xs.take k=xs:=List.take_of_length_le (by omega)
   have hw:=HW.out
   rw [e] at hw
   exact ⟨rfl,hw,HB.out⟩

/-- while a Writer in b gathers: what was gathered, a variable of the call's own in block v -/
structure St3 (w:World) (b v:Nat) (t:TypeId) (cs:Array Value) (l:List UInt8) (W:World):Prop where
 wr:WrAt W b l
 own:BlkAt W v cs t
 wk:Wk b w W

theorem St3.begin {w:World} {b:Nat} {l:List UInt8} (h:WrAt w b l) (cs:Array Value) (t:TypeId):St3 w b w.heap.size t cs l (w.alloc (.cells cs t)):=by
 obtain ⟨ao,cap,h1,h2⟩:=h
 exact ⟨⟨ao,cap,h1.grown (World.grownBy_alloc _ _ none) (by simp),h2.alloc _⟩,BlkAt.new _ _ _,(Wk.refl b w).alloc (Nat.le_of_lt h1.lt) _⟩
theorem St3.step {w W W':World} {b v:Nat} {t:TypeId} {cs:Array Value} {l l':List UInt8} (h:St3 w b v t cs l W) (hv:v≠b) (ht:t≠5) (hw:WrAt W' b l') (hk:Wk b W W'):St3 w b v t cs l' W' :=
 ⟨hw,hk.2 v cs t hv ht h.own,h.wk.trans hk⟩

set_option maxHeartbeats 2000000 in
theorem writeSymbol_any (b:Nat) (y:Lk.Sym) (l:List UInt8) (w:World) (h:WrAt w b l) (hl:l.length≤1048576) (hg:Lk.goodSym y) :
  Calls Tryz.prog 81 #[.pointer (some ⟨b,0,none⟩),.agg #[.string (bs y.name),.int .i64 y.bind,.int .i64 y.sect,.int .i64 y.off]] w fun e w'=>e = .returned (.tuple #[])∧WrAt w' b (l ++ Lk.symB y)∧Wk b w w':=by
 obtain ⟨hn,⟨hb0,hb1⟩,⟨hs0,hs1⟩,ho0,ho1⟩:=hg
 have hvb:w.heap.size≠b:=by obtain ⟨_,_,h1,_⟩:=h; have:=h1.lt; omega
 have S0:=hid (St3.begin h #[.string (bs y.name),.int .i64 y.bind,.int .i64 y.sect,.int .i64 y.off] 124)
 have hsz:((bs y.name).size:Int)=(y.name.length:Int):=by rw [bs_size]
 have hsz2:(bs y.name).size=y.name.length:=bs_size _
 have c1:=hid (fun W (h:WrAt W b l)=>wNumber_lit b ((bs y.name).size:Int) 1 1 rfl l W h (by omega) (by omega) (by omega) (by omega))
 have c2:=hid (fun W (h:WrAt W b (l ++ Lk.le y.name.length 1))=>wText_any b (bs y.name) (l ++ Lk.le y.name.length 1) W h (by rw [List.length_append,Lk.le_length]; omega) (by omega))
 have c3:=hid (fun W (h:WrAt W b (l ++ Lk.le y.name.length 1 ++ y.name))=>wNumber_lit b y.bind 1 1 rfl (l ++ Lk.le y.name.length 1 ++ y.name) W h (by rw [List.length_append,List.length_append,Lk.le_length]; omega) (by omega) (by omega) (by omega))
 have c4:=hid (fun W (h:WrAt W b (l ++ Lk.le y.name.length 1 ++ y.name ++ Lk.le y.bind 1))=>wNumber_lit b y.sect 1 1 rfl (l ++ Lk.le y.name.length 1 ++ y.name ++ Lk.le y.bind 1) W h (by rw [List.length_append,List.length_append,List.length_append,Lk.le_length,Lk.le_length]; omega) (by omega) (by omega) (by omega))
 have c5:=hid (fun W (h:WrAt W b (l ++ Lk.le y.name.length 1 ++ y.name ++ Lk.le y.bind 1 ++ Lk.le y.sect 1))=>wNumber_lit b y.off 2 2 rfl (l ++ Lk.le y.name.length 1 ++ y.name ++ Lk.le y.bind 1 ++ Lk.le y.sect 1) W h (by rw [List.length_append,List.length_append,List.length_append,List.length_append,Lk.le_length,Lk.le_length,Lk.le_length]; omega) (by omega) (by omega) (by omega))
 have HS:=hid hsz
 have HSL:=hid (sl_bs y.name)
 clear h hsz hsz2
 go_enter Tryz.func81,Tryz.ntmps81
 go_wp2_with fail
 refine Calls.at_world (St3 w b w.heap.size 124 #[.string (bs y.name),.int .i64 y.bind,.int .i64 y.sect,.int .i64 y.off] l) S0.out ?_
 intro W1 s1
 refine (c1.out W1 s1.wr).mono ?_
 rintro e W2 ⟨rfl,hw,hk⟩
 rw [HS.out] at hw
 have S2:=hid (s1.step hvb (by decide) hw hk)
 have k0:=S2.out.own.cell 0
 clear hw hk s1
 go_wp2_with fail
 refine (c2.out W2 S2.out.wr).mono ?_
 rintro e W3 ⟨rfl,hw,hk⟩
 rw [HSL.out] at hw
 have S3:=hid (S2.out.step hvb (by decide) hw hk)
 have k1:=S3.out.own.cell 1
 clear hw hk k0
 go_wp2_with fail
 refine (c3.out W3 S3.out.wr).mono ?_
 rintro e W4 ⟨rfl,hw,hk⟩
 have S4:=hid (S3.out.step hvb (by decide) hw hk)
 have k2:=S4.out.own.cell 2
 clear hw hk k1
 go_wp2_with fail
 refine (c4.out W4 S4.out.wr).mono ?_
 rintro e W5 ⟨rfl,hw,hk⟩
 have S5:=hid (S4.out.step hvb (by decide) hw hk)
 have k3:=S5.out.own.cell 3
 clear hw hk k2
 go_wp2_with fail
 refine (c5.out W5 S5.out.wr).mono ?_
 rintro e W6 ⟨rfl,hw,hk⟩
 have S6:=hid (S5.out.step hvb (by decide) hw hk)
 clear hw hk k3
 go_wp2
 go_end0
 refine ⟨rfl,?_,S6.out.wk⟩
 have:=S6.out.wr
 simpa [Lk.symB] using this

end Go.Proofs.YtnfgdlkiialnnaaGreatDoor

namespace Go.Proofs.YtnfgdlkiialnnaaGreatDoor
open Go.RowKit

/-- the bytes from p on, n of them, as many as there are -/
def cutL (l:List UInt8) (p n:Nat):List UInt8:=(l.drop p).take n

/-- n words from p on -/
def numsAt (l:List UInt8) (p:Nat):Nat→List Int
 | 0=>[]
 | n+1=>numsAt l p n ++ [atL l (p+4 * n) 4]
end Go.Proofs.YtnfgdlkiialnnaaGreatDoor

namespace Go.Proofs.YtnfgdlkiialnnaaGreatDoor
open Go.RowKit

theorem symB_length (y:Lk.Sym):(Lk.symB y).length=5+y.name.length:=by
 simp only [Lk.symB,List.length_append,Lk.le_length]
 omega
theorem relB_length (r:Lk.Rel):(Lk.relB r).length=7:=by
 simp only [Lk.relB,List.length_append,Lk.le_length]

theorem numsB_length (ys:List Int) (n:Nat):(Lk.nums ys n).length=n * ys.length:=by
 induction ys with
 | nil=>rfl
 | cons y t ih=>simp only [Lk.nums,List.flatMap_cons,List.length_append,Lk.le_length,List.length_cons,Nat.mul_add] at *; omega

theorem wordsOf_le {o:Lk.Obj} (h:Sizes o) (sect:Int):(wordsOf o sect).length≤1200:=by
 obtain ⟨⟨n1,n2,n3⟩,-⟩:=h
 unfold wordsOf
 split
 ·exact n1
 split
 ·exact n2
 split
 ·omega
 ·simp

theorem words_good {xs:List Int} (h:Words xs):Lk.goodWords 4 xs:=fun x hx=>by
 obtain ⟨i,hi,rfl⟩:=List.getElem_of_mem hx
 have:=h i hi
 simp only [Int.reducePow]
 omega

theorem valid_good {o:Lk.Obj} (h:Valid o):Lk.goodObj o:=by
 obtain ⟨hz,hb,hw,hs,hr⟩:=h
 have hz':=hz
 obtain ⟨⟨n1,n2,n3⟩,n4,n5,n6⟩:=hz
 refine ⟨by omega,by omega,by omega,by omega,hb.1,?_,by omega,by omega,?_,?_,words_good hw.1,words_good hw.2.1,words_good hw.2.2⟩
 ·intro x hx
  obtain ⟨i,hi,rfl⟩:=List.getElem_of_mem hx
  have:=hb.2 i hi
  simp only [Int.reducePow]
  omega
 ·intro y hy
  obtain ⟨i,hi,rfl⟩:=List.getElem_of_mem hy
  obtain ⟨⟨k1,k2,k3,-,k4,-,k5⟩,-⟩:=hs i hi
  have hl:(bs (o.syms[i]).name).size=(o.syms[i]).name.length:=rfl
  have k6:=k1.2.1
  have hw:=wordsOf_le hz' (o.syms[i]).sect
  refine ⟨by omega,by omega,by omega,by omega,?_⟩
  unfold seclen at k5
  split at k5 <;> omega
 ·intro r hr'
  obtain ⟨i,hi,rfl⟩:=List.getElem_of_mem hr'
  obtain ⟨⟨k1,k2,k3,-,k5,-,-⟩,-⟩:=hr i hi
  have hsp:=span_range k2
  have hw:=wordsOf_le hz' (o.rels[i]).sect
  unfold AboutOk at k5
  unfold KindOk at k1
  unfold SymIx at k3
  unfold AddendOk at k2
  refine ⟨by omega,by omega,by omega,?_,?_⟩
  ·split at k3 <;> omega
  ·split at k2
   ·omega
   ·split at k2 <;> omega

theorem flatB_le {α:Type} (f:α→List UInt8) (m:Nat) (xs:List α) (h:∀ x∈xs,(f x).length≤m):(xs.flatMap f).length≤m * xs.length:=by
 induction xs with
 | nil=>simp
 | cons x t ih =>
  have h1:=h x (by simp)
  have h2:=ih (fun y hy=>h y (by simp [hy]))
  simp only [List.flatMap_cons,List.length_append,List.length_cons,Nat.mul_add]
  omega

theorem valid_short {o:Lk.Obj} (h:Valid o):(Lk.objB o).length≤65535:=by
 obtain ⟨hz,hb,hw,hs,hr⟩:=h
 obtain ⟨⟨n1,n2,n3⟩,n4,n5,n6⟩:=hz
 have e1:(o.syms.flatMap Lk.symB).length≤11 * o.syms.length:=flatB_le _ _ _ fun y hy=>by
  obtain ⟨i,hi,rfl⟩:=List.getElem_of_mem hy
  have k6:=(hs i hi).1.1.2.1
  have hl:(bs (o.syms[i]).name).size=(o.syms[i]).name.length:=rfl
  rw [symB_length]
  omega
 have e2:(o.rels.flatMap Lk.relB).length≤7 * o.rels.length:=flatB_le _ _ _ fun y _=>by rw [relB_length]; omega
 have e3:=numsB_length o.align 1
 have e4:=numsB_length o.text 4
 have e5:=numsB_length o.far 4
 have e6:=numsB_length o.data 4
 have:=hb.1
 simp only [Lk.objB,List.length_append,Lk.le_length,List.length_cons,List.length_nil]
 omega

end Go.Proofs.YtnfgdlkiialnnaaGreatDoor
