
import Derived.Test.YtpgklkhgfcjceaaGreatDoorV08
import Derived.Deep.LoopGhost
import Derived.Deep.RegionLaw
import Derived.Deep.AppendLies
set_option maxHeartbeats 16000000
set_option maxRecDepth 100000
namespace Go.Proofs.YtpgklkhgfcjceaaGreatDoor
open Go.RowKit
def aW (b:Nat):Value:=.pointer (some ⟨b,0,none⟩)
def oG (g:Nat):Array Value:=#[aW g,.slice none 0 0,.slice none 0 0,.slice none 0 0,.slice none 0 0,.int .i64 0,.int .i64 0]
structure pJ (W0:World) (P:Nat) (bt bf bd:Int) (vm:Value) (bl gl:List Nat) (os:List Lk.Obj) (W:World):Prop where
 blk:yc W P #[.int .i64 bt,.int .i64 bf,.int .i64 bd,vm,.pointer none,.int .i64 0,.int .i64 0,.int .i64 0] 125
 row:W.ownsRow W0.heap.size 121 1 vm bl.length (bl.map aW)
 iQ:gl.length=bl.length
 gK:os.length=bl.length
 mods:∀ i (h:i < bl.length),yc W bl[i] (oG (gl[i]'(by rw [iQ]; exact h))) 130
 objs:∀ i (h:i < bl.length),yu W (gl[i]'(by rw [iQ]; exact h)) (os[i]'(by rw [gK]; exact h))
 few:bl.length<=4096
 syms:∀ o∈os,o.syms.length<=65535
 lo:W0.heap.size<=P
 los:∀ b∈bl,W0.heap.size<=b
 gr:W0.grownBy W none
 nd:bl.Nodup
def bR (W:World) (row:Option Nat) (e:TypeId):Prop:=∀ k,row=some k->∃ cur,yc W k cur e
theorem bR.own {W:World} {B size n:Nat} {e:TypeId} {v:Value} {xs:List Value} (h:W.ownsRow B e size v n xs):bR W v.ownBlock e:=by
 intro k hk;rcases h.2 with ⟨h1,_⟩ | ⟨g,cap,cur,hv,_,hg,_⟩
 ·rw [h1] at hk; simp [Value.ownBlock] at hk
 ·rw [hv] at hk;simp only [Value.ownBlock,Option.some.injEq] at hk;subst hk;exact ⟨cur,hg⟩
theorem bR.blk {W:World} {b:Nat} {cs:Array Value} {e:TypeId} (h:yc W b cs e):bR W (some b) e:=fun k hk=>by
 simp only [Option.some.injEq] at hk;subst hk;exact ⟨cs,h⟩
theorem yF {W W':World} {row:Option Nat} {e t:TypeId} {b:Nat} {cs:Array Value} (h:yc W b cs t) (hg:W.grownBy W' row) (hr:bR W row e) (hne:t≠e):yc W' b cs t :=
 h.grown hg (fun c=>by
  obtain ⟨cur,hc⟩:=hr b c.symm
  have:=hc.symm.trans h
  simp at this;exact hne this.2.symm)
theorem yA {W W':World} {row:Option Nat} {e t:TypeId} {B size n:Nat} {v:Value} {xs:List Value} (h:W.ownsRow B t size v n xs) (hg:W.grownBy W' row) (hr:bR W row e) (hne:t≠e):W'.ownsRow B t size v n xs :=
 h.kept hg (by
  cases hv:v.ownBlock with
  | none=>exact .inl rfl
  | some k =>
   right
   intro c;obtain ⟨cur,hc⟩:=bR.own h k hv;obtain ⟨aac,hc2⟩:=hr k c.symm
   have:=hc.symm.trans hc2
   simp at this;exact hne this.2)
theorem um {W W':World} {row:Option Nat} {e:TypeId} {g:Nat} {o:Lk.Obj} (h:yu W g o) (hg:W.grownBy W' row) (hr:bR W row e) (h1:71≠e) (h2:3≠e) (h3:100≠e) (h4:102≠e):yu W' g o:=by
 obtain ⟨vt,vf,vd,va,vs,vr,hb,q1,q2,q3,q4,q5,q6⟩:=h;exact ⟨vt,vf,vd,va,vs,vr,yF hb hg hr h1,yA q1 hg hr h2,yA q2 hg hr h2,yA q3 hg hr h2,yA q4 hg hr h2,yA q5 hg hr h3,yA q6 hg hr h4⟩
def nC (ts:List TypeId) (W W':World):Prop:=∀ k cs t,yc W k cs t->t ∉ ts->yc W' k cs t
theorem nC.grown {ts:List TypeId} {W W':World} (h:W.grownBy W' none):nC ts W W':=fun _ _ _ hb _=>hb.grown h (by simp)
theorem nC.trans {ts:List TypeId} {A B C:World} (h:nC ts A B) (k:nC ts B C):nC ts A C:=fun b cs t hb ht=>k b cs t (h b cs t hb ht) ht
theorem nC.row {ts:List TypeId} {W W':World} {row:Option Nat} {e:TypeId} (h:W.grownBy W' row) (hr:bR W row e) (he:e∈ts):nC ts W W':=fun _ _ _ hb ht=>yF hb h hr (fun c=>ht (c ▸ he))
theorem nC.own {ts:List TypeId} {W W':World} (h:nC ts W W') {B size n:Nat} {t:TypeId} {v:Value} {xs:List Value} (ho:W.ownsRow B t size v n xs) (ht:t ∉ ts):W'.ownsRow B t size v n xs:=by
 refine ⟨ho.1,?_⟩;rcases ho.2 with q | ⟨g,cap,cur,hv,hb,hg,r⟩
 ·exact .inl q
 ·exact .inr ⟨g,cap,cur,hv,hb,h g cur t hg ht,r⟩
theorem nC.obj {ts:List TypeId} {W W':World} (h:nC ts W W') {g:Nat} {o:Lk.Obj} (ho:yu W g o) (h1:71 ∉ ts) (h2:3 ∉ ts) (h3:100 ∉ ts) (h4:102 ∉ ts):yu W' g o:=by
 obtain ⟨vt,vf,vd,va,vs,vr,hb,q1,q2,q3,q4,q5,q6⟩:=ho;exact ⟨vt,vf,vd,va,vs,vr,h _ _ _ hb h1,h.own q1 h2,h.own q2 h2,h.own q3 h2,h.own q4 h2,h.own q5 h3,h.own q6 h4⟩
theorem Tryz.wT:(Tryz.prog.info? 121).map (fun i=>(i.zero,i.size,i.bytes))=some (some (.pointer none),1,8):=by kernel_rfl
section
variable {W0 W W':World} {P:Nat} {bt bf bd:Int} {vm:Value} {bl gl:List Nat} {os:List Lk.Obj}
theorem pJ.kept (h:pJ W0 P bt bf bd vm bl gl os W) (hg:W.grownBy W' none):pJ W0 P bt bf bd vm bl gl os W' :=
 ⟨h.blk.grown hg (by simp),h.row.kept hg (by cases vm.ownBlock <;> simp),h.iQ,h.gK,fun i hi=>(h.mods i hi).grown hg (by simp),fun i hi=>(h.objs i hi).kept hg,h.few,h.syms,h.lo,h.los,ya h.gr hg,h.nd⟩
theorem pJ.ty {row:Option Nat} {e:TypeId} (h:pJ W0 P bt bf bd vm bl gl os W) (hg:W.grownBy W' row) (hr:bR W row e) (hlo:∀ k,row=some k->W0.heap.size<=k) (h1:125≠e) (h2:121≠e) (h3:130≠e) (h4:71≠e) (h5:3≠e) (h6:100≠e) (h7:102≠e):pJ W0 P bt bf bd vm bl gl os W' :=
 ⟨yF h.blk hg hr h1,yA h.row hg hr h2,h.iQ,h.gK,fun i hi=>yF (h.mods i hi) hg hr h3,fun i hi=>um (h.objs i hi) hg hr h4 h5 h6 h7,h.few,h.syms,h.lo,h.los,yO h.gr hg hlo,h.nd⟩
theorem pJ.jk {am:Option Addr} {cm:Nat} (h:pJ W0 P bt bf bd (.slice am bl.length cm) bl gl os W):uH W am bl os:=by
 refine ⟨fun hp=>?_,h.gK.symm,fun i h1 h2=>⟨_,(h.mods i h1).cell 0,h.objs i h1⟩,by rw [h.gK]; exact h.few,h.syms⟩;obtain ⟨sg,hs,-,-,-,hc⟩:=JV h.row hp;refine ⟨sg,0,hs,fun i hi=>?_⟩;rw [Nat.zero_add,hc i hi,List.getElem?_map,j3 hi];rfl
theorem pJ.more {og:Nat} {o:Lk.Obj} {w3:World} {v':Value} (h:pJ W0 P bt bf bd vm bl gl os W) (ho:yu W og o) (hf:bl.length < 4096) (hs:o.syms.length<=65535)
  (hown:w3.ownsRow W0.heap.size 121 1 v' (bl.length+1) (bl.map aW ++ [aW W.heap.size])) (hg:((W.alloc (.cells (oG og) 130)).alloc (.cells #[aW W.heap.size] 121)).grownBy w3 vm.ownBlock) :
  pJ W0 P bt bf bd v' (bl ++ [W.heap.size]) (gl ++ [og]) (os ++ [o]) (w3.setCell ⟨P,3,none⟩ v'):=by
 have A1:=aJ W (.cells (oG og) 130) none;have A2:=aJ (W.alloc (.cells (oG og) 130)) (.cells #[aW W.heap.size] 121) none;have A:=ya A1 A2;have hA:=h.kept A;have RT:=bR.own hA.row;have BM:=(yc.new W (oG og) 130).grown A2 (by simp);have b3:=yF hA.blk hg RT (by decide);have RP:=bR.blk b3;have gs:=ye w3 P 3 v';have hlt:=h.gr.size;have hrow:∀ k,vm.ownBlock=some k->W0.heap.size<=k:=fun k e=>(h.row.lt k e).1
 refine ⟨?_,?_,by simp [h.iQ],by simp [h.gK],?_,?_,by simp; omega,?_,h.lo,?_,?_,?_⟩
 ·have:=b3.set 3 v'
  rw [gu] at this;exact this
 ·have:=yA hown gs RP (by decide)
  simpa using this
 ·intro i hi;have hg1:(gl ++ [og])[i]?=some ((gl ++ [og])[i]'(by simp [h.iQ]; simpa using hi)):=j3 _;by_cases hlt2:i < bl.length
  ·have e1:(bl ++ [W.heap.size])[i]=bl[i]:=List.getElem_append_left hlt2;have e2:(gl ++ [og])[i]'(by simp [h.iQ]; omega)=gl[i]'(by rw [h.iQ]; exact hlt2):=List.getElem_append_left _;rw [e1,e2];exact yF (yF (hA.mods i hlt2) hg RT (by decide)) gs RP (by decide)
  ·have hi2:i=bl.length:=by simp at hi; omega
   subst hi2;have e1:(bl ++ [W.heap.size])[bl.length]=W.heap.size:=by simp
   have e2:(gl ++ [og])[bl.length]'(by simp [h.iQ])=og:=by simp [<- h.iQ]
   rw [e1,e2];exact yF (yF BM hg RT (by decide)) gs RP (by decide)
 ·intro i hi;by_cases hlt2:i < bl.length
  ·have e1:(os ++ [o])[i]'(by simp [h.gK]; omega)=os[i]'(by rw [h.gK]; exact hlt2):=List.getElem_append_left _;have e2:(gl ++ [og])[i]'(by simp [h.iQ]; omega)=gl[i]'(by rw [h.iQ]; exact hlt2):=List.getElem_append_left _;rw [e1,e2];exact um (um (hA.objs i hlt2) hg RT (by decide) (by decide) (by decide) (by decide)) gs RP (by decide) (by decide) (by decide) (by decide)
  ·have hi2:i=bl.length:=by simp at hi; omega
   subst hi2;have e1:(os ++ [o])[bl.length]'(by simp [h.gK])=o:=by simp [<- h.gK]
   have e2:(gl ++ [og])[bl.length]'(by simp [h.iQ])=og:=by simp [<- h.iQ]
   rw [e1,e2];exact um (um (ho.kept A) hg RT (by decide) (by decide) (by decide) (by decide)) gs RP (by decide) (by decide) (by decide) (by decide)
 ·intro x hx;rcases List.mem_append.1 hx with hx | hx
  ·exact h.syms x hx
  ·simp at hx; subst hx; exact hs
 ·intro x hx;rcases List.mem_append.1 hx with hx | hx
  ·exact h.los x hx
  ·simp at hx; subst hx; exact hlt
 ·exact yO (yO (ya h.gr A) hg hrow) gs (by intro k e; simp at e; have:=h.lo; omega)
 ·rw [List.nodup_append];refine ⟨h.nd,by simp,fun a ha b hb=>?_⟩;simp at hb;subst hb;obtain ⟨i,hi,rfl⟩:=List.getElem_of_mem ha;exact Nat.ne_of_lt (h.mods i hi).lt
end
theorem YU (W0:World) (P:Nat) (bt bf bd:Int) (vm:Value) (bl gl:List Nat) (os:List Lk.Obj) (og:Nat) (o:Lk.Obj) (W:World) (h:pJ W0 P bt bf bd vm bl gl os W) (ho:yu W og o) (hf:bl.length < 4096) (hs:o.syms.length<=65535) :
  Calls Tryz.prog 101 #[aW P,aW og] W fun e W'=>e = .returned (.tuple #[])/\(∃ Nb b,pJ W0 P bt bf bd Nb (bl ++ [b]) (gl ++ [og]) (os ++ [o]) W')/\nC [121,125] W W':=by
 obtain ⟨i0,hi,hz0,hz1,hz2⟩:=info_parts Tryz.wT;obtain ⟨am,cm,rfl⟩:=yi h.row;have H:=hid h;have HO:=hid ho;have c3:W.cell? ⟨P,3,none⟩=some (.slice am bl.length cm):=h.blk.cell 3;have hP:=h.blk.lt;have hcap:=qU h.row;have hsz:=h.gr.size;have SZ:(W.alloc (.cells (oG og) 130)).heap.size=W.heap.size+1:=Array.size_push _;have CN:=hid (show ∀ j u,[aW W.heap.size][j]?=some u->((W.alloc (.cells (oG og) 130)).alloc (.cells #[aW W.heap.size] 121)).cell? ((⟨W.heap.size+1,0,none⟩:Addr).add j)=some u by
  have:=cell_one_new (W.alloc (.cells (oG og) 130)) (aW W.heap.size) 121
  rw [SZ] at this;exact this)
 have HR:=hid ((h.kept (ya (aJ W (.cells (oG og) 130) none) (aJ _ (.cells #[aW W.heap.size] 121) none))).row);have HB:=hid ((h.kept (ya (aJ W (.cells (oG og) 130) none) (aJ _ (.cells #[aW W.heap.size] 121) none))).blk);have HS:=hid (show W0.heap.size<=((W.alloc (.cells (oG og) 130)).alloc (.cells #[aW W.heap.size] 121)).heap.size from (h.kept (ya (aJ W (.cells (oG og) 130) none) (aJ _ (.cells #[aW W.heap.size] 121) none))).gr.size);clear h ho SZ;unfold aW;go_enter Tryz.func101,Tryz.ntmps101;go_wp2_with (at_builtin; refine OT _ rfl _ _ 120 rfl W0.heap.size 121 i0 (.pointer none) 1 8 Tryz.underlying120 hi hz0 hz1 hz2 rfl (by decide) _ _ _ rfl HR.o ⟨W.heap.size+1,0,none⟩ 1 1 [aW W.heap.size] rfl rfl CN.o (by intro u hu; simp at hu; subst hu; rfl) (by unfold maxLen; omega) (by omega) HS.o ?_; intro v' w3 hown' hgrow hblk; obtain ⟨oh,cv',rfl⟩:=yi hown'; have RT:=bR.own HR.o; have b3:=yF HB.o hgrow RT (by decide); have f3:=b3.free 3; have k3:=b3.cell 3; have K:=hid (H.o.more HO.o hf hs hown' hgrow); have FR:=hid (((nC.grown (ts:=[121,125]) (ya (aJ W (.cells (oG og) 130) none) (aJ _ (.cells #[aW W.heap.size] 121) none))).trans (nC.row hgrow RT (by decide))).trans (nC.row (ye w3 P 3 (.slice oh (bl.length+1) cv')) (bR.blk b3) (by decide))); clear hgrow hown' RT b3 hblk)
 go_end0
 exact ⟨rfl,⟨_,_,K.o⟩,FR.o⟩
structure rR (W:World) (mg:Nat) (gs:List Nat) (ms:List (Lk.Obj×Bool)):Prop where
 len:gs.length=ms.length
 row:∃ cur,yc W mg cur 159/\∀ i (h:i < ms.length),cur[i * 2]?=some (aW (gs[i]'(by rw [len]; exact h)))/\cur[i * 2+1]?=some (.bool ms[i].2)
 objs:∀ i (h:i < ms.length),yu W (gs[i]'(by rw [len]; exact h)) ms[i].1
 syms:∀ m∈ms,m.1.syms.length<=65535
def uj (ts:List TypeId) (mg:Nat) (W W':World):Prop:=∀ k cs t,yc W k cs t->t ∉ ts->k≠mg->yc W' k cs t
theorem uj.refl (ts:List TypeId) (mg:Nat) (W:World):uj ts mg W W:=fun _ _ _ h _ _=>h
theorem nC.x {ts:List TypeId} {A B:World} (h:nC ts A B) (mg:Nat):uj ts mg A B:=fun k cs t hb ht _=>h k cs t hb ht
theorem uj.trans {ts:List TypeId} {mg:Nat} {A B C:World} (h:uj ts mg A B) (k:uj ts mg B C):uj ts mg A C:=fun b cs t hb ht hn=>k b cs t (h b cs t hb ht hn) ht hn
theorem uj.set (ts:List TypeId) (W:World) (mg o:Nat) (v:Value):uj ts mg W (W.setCell ⟨mg,o,none⟩ v):=fun _ _ _ hb _ hn=>hb.grown (ye W mg o v) (by simp; omega)
def rV (ms:List (Lk.Obj×Bool)):Nat:=(ms.filter fun m=>!m.2).length
section
variable {W W':World} {mg:Nat} {gs:List Nat} {ms:List (Lk.Obj×Bool)}
theorem rR.frame {ts:List TypeId} (h:rR W mg gs ms) (hf:nC ts W W') (h0:159 ∉ ts) (h1:71 ∉ ts) (h2:3 ∉ ts) (h3:100 ∉ ts) (h4:102 ∉ ts):rR W' mg gs ms:=by
 obtain ⟨cur,hb,hc⟩:=h.row;exact ⟨h.len,⟨cur,hf _ _ _ hb h0,hc⟩,fun i hi=>hf.obj (h.objs i hi) h1 h2 h3 h4,h.syms⟩
theorem rR.kept (h:rR W mg gs ms) (hg:W.grownBy W' none):rR W' mg gs ms:=h.frame (ts:=[]) (nC.grown hg) (by simp) (by simp) (by simp) (by simp) (by simp)
theorem rR.cells (h:rR W mg gs ms) (i:Nat) (hi:i < ms.length):W.cell? ⟨mg,i * 2,none⟩=some (aW (gs[i]'(by rw [h.len]; exact hi)))/\W.cell? ⟨mg,i * 2+1,none⟩=some (.bool ms[i].2)/\W.frozen? ⟨mg,i * 2+1,none⟩=false:=by
 obtain ⟨cur,hb,hc⟩:=h.row;exact ⟨(hb.cell _).trans (hc i hi).1,(hb.cell _).trans (hc i hi).2,hb.free _⟩
theorem rR.put (h:rR W mg gs ms) (i:Nat) (hi:i < ms.length):rR (W.setCell ⟨mg,i * 2+1,none⟩ (.bool true)) mg gs (ms.set i (ms[i].1,true)):=by
 obtain ⟨cur,hb,hc⟩:=h.row;have RT:=bR.blk hb;have gs':=ye W mg (i * 2+1) (.bool true);have hsz:i * 2+1 < cur.size:=by
  have:=(hc i hi).2
  exact (Array.getElem?_eq_some_iff.1 this).1
 refine ⟨by rw [List.length_set]; exact h.len,⟨_,hb.set (i * 2+1) (.bool true),fun j hj=>?_⟩,fun j hj=>?_,fun m hm=>?_⟩
 ·rw [List.length_set] at hj;rw [Array.getElem?_setIfInBounds,Array.getElem?_setIfInBounds,if_neg (by omega)];refine ⟨(hc j hj).1,?_⟩;by_cases e:i=j
  ·subst e;rw [if_pos rfl,if_pos hsz,List.getElem_set_self]
  ·rw [if_neg (by omega),List.getElem_set_ne e];exact (hc j hj).2
 ·rw [List.length_set] at hj;have e:(ms.set i (ms[i].1,true))[j].1=ms[j].1:=by
   by_cases e:i=j
   ·subst e; rw [List.getElem_set_self]
   ·rw [List.getElem_set_ne e]
  rw [e];exact um (h.objs j hj) gs' RT (by decide) (by decide) (by decide) (by decide)
 ·obtain ⟨j,hj,rfl⟩:=List.getElem_of_mem hm;rw [List.length_set] at hj;by_cases e:i=j
  ·subst e; rw [List.getElem_set_self]; exact h.syms ms[i] (iq hi)
  ·rw [List.getElem_set_ne e]; exact h.syms _ (iq hj)
end
theorem YB (ms:List (Lk.Obj×Bool)) (k:Nat) (os:List Lk.Obj) (h:k < ms.length):Ln.pass (ms.drop k) os=if ms[k].2=false/\Ln.needs os ms[k].1=true then ((ms[k].1,true) :: (Ln.pass (ms.drop (k+1)) (os ++ [ms[k].1])).1,(Ln.pass (ms.drop (k+1)) (os ++ [ms[k].1])).2.1,true) else (ms[k] :: (Ln.pass (ms.drop (k+1)) os).1,(Ln.pass (ms.drop (k+1)) os).2.1,(Ln.pass (ms.drop (k+1)) os).2.2):=by
 rw [lV h];generalize ms[k]=m;obtain ⟨o,t⟩:=m;rw [Ln.pass]
theorem X5:∀ (ms:List (Lk.Obj×Bool)) (i:Nat) (h:i < ms.length) (o:Lk.Obj),ms[i].2=false->rV (ms.set i (o,true))+1=rV ms:=by
 intro ms
 induction ms with
 | nil=>intro i h; simp at h
 | cons m ms ih =>
  intro i h o hf;obtain ⟨mo,mt⟩:=m
  cases i with
  | zero =>
   simp only [pU] at hf;subst hf;simp [rV]
  | succ i =>
   have:=ih i (by simpa using h) o (by simpa using hf)
   unfold rV at this ⊢;simp only [fZ,List.filter_cons];split <;> (try simp only [jm]) <;> omega
theorem ynp (ms:List (Lk.Obj×Bool)):rV ms<=ms.length:=List.length_filter_le _ _
structure zf (ms1:List (Lk.Obj×Bool)) (os1:List Lk.Obj) (j:Nat) (ms2:List (Lk.Obj×Bool)) (os2:List Lk.Obj) (more:Bool):Prop where
 len:ms2.length=ms1.length
 rest:ms2.drop j=ms1.drop j
 eq:Ln.pass ms1 os1=(ms2.take j ++ (Ln.pass (ms1.drop j) os2).1,(Ln.pass (ms1.drop j) os2).2.1,more || (Ln.pass (ms1.drop j) os2).2.2)
 un:rV ms2+(if more then 1 else 0)<=rV ms1
theorem zf.start (ms:List (Lk.Obj×Bool)) (os:List Lk.Obj):zf ms os 0 ms os false:=⟨rfl,rfl,by simp,by simp⟩
theorem zf.at {ms1 ms2:List (Lk.Obj×Bool)} {os1 os2:List Lk.Obj} {j:Nat} {more:Bool} (h:zf ms1 os1 j ms2 os2 more) (hj:j < ms1.length):ms2[j]'(by rw [h.len]; exact hj)=ms1[j]:=by
 have e:=h.rest;rw [lV (by rw [h.len]; exact hj),lV hj] at e;exact (List.cons.inj e).1
theorem zf.yes {ms1 ms2:List (Lk.Obj×Bool)} {os1 os2:List Lk.Obj} {j:Nat} {more:Bool} (h:zf ms1 os1 j ms2 os2 more) (hj:j < ms1.length) (hj2:j < ms2.length) (h1:ms2[j].2=false) (h2:Ln.needs os2 ms2[j].1=true):zf ms1 os1 (j+1) (ms2.set j (ms2[j].1,true)) (os2 ++ [ms2[j].1]) true:=by
 have ea:=h.at hj;have e:=h.eq;rw [YB ms1 j os2 hj,<- ea,if_pos ⟨h1,h2⟩] at e;refine ⟨by rw [List.length_set]; exact h.len,?_,?_,?_⟩
 ·have r:=h.rest;rw [List.drop_set_of_lt (by omega),<- List.drop_drop (i:=1) (j:=j),<- List.drop_drop (i:=1) (j:=j) (l:=ms1),r]
 ·rw [e];have t:(ms2.set j (ms2[j].1,true)).take (j+1)=ms2.take j ++ [(ms2[j].1,true)]:=by
   rw [List.take_succ_eq_append_getElem (by rw [List.length_set]; exact hj2),List.getElem_set_self,List.take_set_of_le (by omega)]
  rw [t];simp
 ·have:=X5 ms2 j hj2 ms2[j].1 h1
  have u:=h.un;simp only [if_true];omega
theorem zf.no {ms1 ms2:List (Lk.Obj×Bool)} {os1 os2:List Lk.Obj} {j:Nat} {more:Bool} (h:zf ms1 os1 j ms2 os2 more) (hj:j < ms1.length) (hj2:j < ms2.length) (h1:¬ (ms2[j].2=false/\Ln.needs os2 ms2[j].1=true)):zf ms1 os1 (j+1) ms2 os2 more:=by
 have ea:=h.at hj;have e:=h.eq;rw [YB ms1 j os2 hj,<- ea,if_neg h1] at e;refine ⟨h.len,?_,?_,h.un⟩
 ·have r:=h.rest;rw [<- List.drop_drop (i:=1) (j:=j),<- List.drop_drop (i:=1) (j:=j) (l:=ms1),r]
 ·rw [e,List.take_succ_eq_append_getElem hj2,List.append_assoc];rfl
theorem zf.fin {ms1 ms2:List (Lk.Obj×Bool)} {os1 os2:List Lk.Obj} {j:Nat} {more:Bool} (h:zf ms1 os1 j ms2 os2 more) (hj:j=ms1.length):Ln.pass ms1 os1=(ms2,os2,more):=by
 have e:=h.eq;subst hj;rw [List.drop_length,Ln.pass,List.take_of_length_le (by rw [h.len]; exact Nat.le_refl _)] at e;rw [e];simp
theorem yht (W0:World) (P:Nat) (bt bf bd:Int) (vm:Value) (bl gl:List Nat) (os:List Lk.Obj) (mg cm:Nat) (gs:List Nat) (ms:List (Lk.Obj×Bool)) (W:World) (h:pJ W0 P bt bf bd vm bl gl os W) (hm:rR W mg gs ms) (hc:bl.length+rV ms<=4096) (hml:W0.heap.size<=mg) (hn:ms.length<=4096) (hcm:ms.length<=cm/\cm<=maxLen) :
  Calls Tryz.prog 100 #[aW P,.slice (some ⟨mg,0,none⟩) ms.length cm] W fun e W'=>e = .returned (.tuple #[])/\(∃ Nb Md Rn,pJ W0 P bt bf bd Nb Md Rn (Ln.gF (ms.length+1) ms os) W'/\Md.length<=bl.length+rV ms)/\uj [121,125] mg W W':=by
 have H:=hid h;have HM:=hid hm;have hcm1:=hcm.2;unfold maxLen at hcm1;clear h hm;unfold aW;go_enter Tryz.func100,Tryz.ntmps100;obtain ⟨T,hT⟩:∃ T,T=Ln.gF (ms.length+1) ms os:=⟨_,rfl⟩
 rw [<- hT];have HT:=hid hT;clear hT;have hu:=ynp ms;go_wp2
 go_loopg [4] (ms.length+1) (fun g mo wr=>∃ (more:Bool) (ms1:List (Lk.Obj×Bool)) (os1:List Lk.Obj) (Me OC:List Nat) (OM:Value),mo = .bool more/\pJ W0 P bt bf bd OM Me OC os1 wr/\rR wr mg gs ms1/\ms1.length=ms.length/\Me.length+rV ms1<=bl.length+rV ms/\uj [121,125] mg W wr/\(more=true->rV ms1+1<=g/\T=Ln.gF g ms1 os1)/\(more=false->T=os1))
 case atStart=>exact ⟨true,ms,os,bl,gl,vm,rfl,H.o,HM.o,rfl,Nat.le_refl _,uj.refl _ _ _,fun _=>⟨by omega,HT.o⟩,fun c=>by cases c⟩
 case round =>
  obtain ⟨more,ms1,os1,Me,OC,OM,rfl,hg,hm,hl,hb,hfr,hy,hno⟩:=hrel
  cases more with
  | false =>
   have E:=hid (hno rfl);have HG:=hid hg;have Km:=hid hfr;clear hg hm hfr hy hno;go_wp2
   go_end0
   rw [E.o];exact ⟨rfl,⟨OM,Me,OC,HG.o,by omega⟩,Km.o⟩
  | true =>
   obtain ⟨hk,hE⟩:=hy rfl;obtain ⟨gk',rfl⟩:∃ k,gk=k+1:=⟨gk - 1,by omega⟩
   have E:=hid hE;have HG:=hid hg;have Ko:=hid hm;have Km:=hid hfr;clear hg hm hfr hy hno hE;obtain ⟨U,hU⟩:∃ U:World,U=wr:=⟨_,rfl⟩
   subst hU;go_wp2
   go_loopw [4,9] (fun mo i wr=>∃ (j:Nat) (sD:Bool) (ms2:List (Lk.Obj×Bool)) (os2:List Lk.Obj) (wK BG:List Nat) (Gl:Value),j<=ms.length/\i = .int .i64 j/\mo = .bool sD/\pJ W0 P bt bf bd Gl wK BG os2 wr/\rR wr mg gs ms2/\zf ms1 os1 j ms2 os2 sD/\wK.length+rV ms2<=bl.length+rV ms/\uj [121,125] mg W wr) (fun _ i _=>ms.length - (intOf i).toNat)
   case atStart=>exact ⟨0,false,ms1,os1,Me,OC,OM,Nat.zero_le _,rfl,rfl,HG.o,Ko.o,zf.start _ _,hb,Km.o⟩
   case round =>
    obtain ⟨j,sD,ms2,os2,wK,BG,Gl,hj,rfl,rfl,hg2,hm2,hp2,hb2,hf2⟩:=hrel;have HG2:=hid hg2;have GL:=hid hm2;have AZ:=hid hp2;have mW:=hid hf2;clear hg2 hm2 hp2 hf2;by_cases hlt:j < ms.length
    ·have hj1:j < ms1.length:=by omega
     have hj2:j < ms2.length:=by rw [AZ.o.len]; exact hj1
     obtain ⟨m0,m1,Sb⟩:=GL.o.cells j hj2;have g1:(j:Int) < (ms.length:Int):=by omega
     have YES:=hid (AZ.o.yes hj1 hj2);have NO:=hid (AZ.o.no hj1 hj2);have OB:=hid (GL.o.objs j hj2);have SY:=GL.o.syms ms2[j] (iq hj2);have PT:=hid (fun V (hV:rR V mg gs ms2)=>hV.put j hj2);have US:=hid (X5 ms2 j hj2 ms2[j].1);generalize ms2[j]=mj at *;obtain ⟨oj,tj⟩:=mj;dsimp only at *;unfold aW at m0;generalize hgj:gs[j]'_=gj at *;have Q0:=hid hgj;clear hgj
     cases tj with
     | true =>
      have E2:=hid (NO.o (fun c=>by cases c.1));go_wp2
      go_roundw
      case rel=>exact ⟨j+1,sD,ms2,os2,wK,BG,Gl,by omega,by go_num,rfl,HG2.o,GL.o,E2.o,hb2,mW.o⟩
      case measure=>simp [intOf]; omega
     | false =>
      obtain ⟨am,Ws,hvm⟩:=yi HG2.o.row;subst hvm;have c3:wr.cell? ⟨P,3,none⟩=some (.slice am wK.length Ws):=HG2.o.blk.cell 3;have cN:=hid (yos P am Ws wK os2 gj oj wr c3 HG2.o.jk OB.o SY);clear c3;go_wp2_with fail;refine cN.o.mono ?_;rintro e W5 ⟨rfl,h5⟩;have Oa:=hid (HG2.o.kept h5);have GN:=hid (GL.o.kept h5);have Ve:=hid (mW.o.trans ((nC.grown h5).x mg));have Oj:=hid (OB.o.kept h5);have m0':=yd m0 h5;have m1':=yd m1 h5;clear h5 cN m0 m1 Sb;obtain ⟨-,-,Sb⟩:=GN.o.cells j hj2
      cases hn2:Ln.needs os2 oj with
      | false =>
       have E2:=hid (NO.o (fun c=>by rw [hn2] at c; cases c.2));clear hn2;go_wp2
       go_roundw
       case rel=>exact ⟨j+1,sD,ms2,os2,wK,BG,_,by omega,by go_num,rfl,Oa.o,GN.o,E2.o,hb2,Ve.o⟩
       case measure=>simp [intOf]; omega
      | true =>
       have E2:=hid (YES.o trivial hn2);have hus:=US.o trivial;clear hn2;obtain ⟨cur,hcb,-⟩:=GN.o.row;have RM:=bR.blk hcb;have GS:=ye W5 mg (j * 2+1) (.bool true);have Lu:=hid (Oa.o.ty GS RM (by intro k e; simp at e; omega) (by decide) (by decide) (by decide) (by decide) (by decide) (by decide) (by decide));have vX:=hid (PT.o W5 GN.o);have OB6:=hid (um Oj.o GS RM (by decide) (by decide) (by decide) (by decide));have HF6:=hid (Ve.o.trans (uj.set _ W5 mg (j * 2+1) (.bool true)));have n0:(W5.setCell ⟨mg,j * 2+1,none⟩ (.bool true)).cell? ⟨mg,j * 2,none⟩=some (.pointer (some ⟨gj,0,none⟩)):=by
        obtain ⟨q0,-,-⟩:=vX.o.cells j (by rw [List.length_set]; exact hj2);exact q0.trans (by rw [<- Q0.o]; rfl)
       clear hcb RM GS PT;have cT:=hid (YU W0 P bt bf bd _ wK BG os2 gj oj _ Lu.o OB6.o (by omega) SY);unfold aW at cT;go_wp2_with fail;refine cT.o.mono ?_;rintro e W7 ⟨rfl,⟨WU,b7,h7⟩,f7⟩;have Lv:=hid h7;have jN:=hid (vX.o.frame f7 (by decide) (by decide) (by decide) (by decide) (by decide));have Lp:=hid (HF6.o.trans (f7.x mg));clear h7 f7 cT n0 m0' m1' Sb;go_wp2
       go_roundw
       case rel=>exact ⟨j+1,true,_,_,_,_,_,by omega,by go_num,rfl,Lv.o,jN.o,E2.o,by simp; omega,Lp.o⟩
       case measure=>simp [intOf]; omega
    ·obtain rfl:j=ms.length:=by omega
     have E2:=hid (AZ.o.fin (by omega));have g3:decide ((ms.length:Int) < (ms.length:Int))=false:=by simp
     have TE:=hid (show T=if (Ln.pass ms1 os1).2.2=true then Ln.gF gk' (Ln.pass ms1 os1).1 (Ln.pass ms1 os1).2.1 else (Ln.pass ms1 os1).2.1 from E.o);rw [E2.o] at TE;dsimp only at TE;have hun:=AZ.o.un;have hl2:=AZ.o.len;go_wp2
     go_roundg gk'
     case measure=>omega
     case rel =>
      refine ⟨sD,ms2,os2,wK,BG,Gl,rfl,HG2.o,GL.o,by omega,hb2,mW.o,fun c=>?_,fun c=>?_⟩
      ·subst c;simp only [if_true] at hun;exact ⟨by omega,by rw [TE.o,if_pos rfl]⟩
      ·subst c;rw [TE.o,if_neg (by decide)]
theorem Tryz.Ce:(Tryz.prog.info? 5).map (fun i=>(i.zero,i.size,i.bytes))=some (some (.int .u8 0),1,1):=by kernel_rfl
def Ao (l:List UInt8):List Value:=l.map fun c=>.int .u8 c.toNat
def gN (W:World) (b:Nat) (l:List UInt8):Prop :=
 ∃ ao cap,yc W b #[.slice ao l.length cap] 105/\W.ownsRow (b+1) 5 1 (.slice ao l.length cap) l.length (Ao l)
theorem YX (W:World):gN (W.alloc (.cells #[.slice none 0 0] 105)) W.heap.size [] :=
 ⟨none,0,yc.new W _ _,World.ownsRow_nil _ _ _ _⟩
theorem ymB (n:Int):bits .and .i64 n 255=n % 256:=by
 have Rs:(BitVec.ofInt 64 255).toNat=2 ^ 8 - 1:=by decide
 have key:(BitVec.ofInt 64 n &&& BitVec.ofInt 64 255).toNat=(n % ((2 ^ 64:Nat):Int)).toNat % 2 ^ 8:=by
  rw [BitVec.toNat_and,BitVec.toNat_ofInt,Rs,Nat.and_two_pow_sub_one_eq_mod]
 show IntKind.i64.wrap ((BitVec.ofInt 64 n &&& BitVec.ofInt 64 255).toNat:Nat)=n % 256;rw [key,IntKind.wrap_i64];omega
def Cv (x:Int):UInt8:=UInt8.ofNat (x % 256).toNat
theorem ypp (x:Int):((Cv x).toNat:Int)=bits .and .i64 x 255 % 256:=by
 rw [ymB];unfold Cv;rw [UInt8.toNat_ofNat'];omega
theorem ypq {w:World} {base:Nat} {v:Value} {n:Nat} {xs:List Value} {x:Int} (h:w.ownsRow base 5 1 v n (xs ++ [.int .u8 (bits .and .i64 x 255 % 256)])):w.ownsRow base 5 1 v n (xs ++ [.int .u8 (Cv x).toNat]):=by
 rw [ypp]; exact h
def Gu (b:Nat) (w w':World):Prop:=∀ k cs t,k≠b->t≠5->yc w k cs t->yc w' k cs t
theorem Gu.refl (b:Nat) (w:World):Gu b w w:=fun _ _ _ _ _ h=>h
theorem Gu.trans {b:Nat} {x y z:World} (h:Gu b x y) (k:Gu b y z):Gu b x z:=fun i cs t hi ht hb=>k i cs t hi ht (h i cs t hi ht hb)
def Wk (b:Nat) (w w':World):Prop:=Below b w w'/\Gu b w w'
theorem Wk.refl (b:Nat) (w:World):Wk b w w:=⟨Below.refl _ _,Gu.refl _ _⟩
theorem Wk.trans {b:Nat} {x y z:World} (h:Wk b x y) (k:Wk b y z):Wk b x z:=⟨h.1.trans k.1,h.2.trans k.2⟩
theorem Wk.alloc {b:Nat} {x y:World} (h:Wk b x y) (hb:b<=y.heap.size) (o:Obj):Wk b x (y.alloc o) :=
 ⟨h.1.alloc hb o,h.2.trans fun _ _ _ _ _ hk=>hk.grown (aJ y o none) (by simp)⟩
theorem ypk {wr w1:World} {b:Nat} {o:Obj} {base:Nat} {v0:Value} {n:Nat} {xs:List Value} (hown:wr.ownsRow base 5 1 v0 n xs) (hg:(wr.alloc o).grownBy w1 v0.ownBlock) (v:Value):Gu b wr (w1.setCell ⟨b,0,none⟩ v):=by
 intro k cs t hk ht hb;have h1:=hb.grown (aJ wr o none) (by simp);have h2:yc w1 k cs t:=h1.grown hg (by
  rcases hown.2 with ⟨rfl,_⟩ | ⟨g,cap,cur,rfl,_,hh,_⟩
  ·simp [Value.ownBlock]
  ·intro e;simp only [Value.ownBlock,Option.some.injEq] at e;subst e;unfold yc at hb;rw [hb] at hh;simp only [Option.some.injEq,Obj.cells.injEq] at hh;exact ht hh.2.1)
 exact h2.grown (ye w1 b 0 v) (by simpa using hk)
theorem Ut {w wr w1:World} {b:Nat} {l:List UInt8} {ao:Option Addr} {cap:Nat} {o:Obj} {v:Value} {c:UInt8} (hb:yc wr b #[.slice ao l.length cap] 105) (hwk:Wk b w wr) (hown0:wr.ownsRow (b+1) 5 1 (.slice ao l.length cap) l.length (Ao l))
  (hg:(wr.alloc o).grownBy w1 (Value.ownBlock (.slice ao l.length cap))) (hrow:∀ g,Value.ownBlock (.slice ao l.length cap)=some g->b+1<=g) (hown:w1.ownsRow (b+1) 5 1 v (l.length+1) (Ao l ++ [.int .u8 c.toNat])) :
  gN (w1.setCell ⟨b,0,none⟩ v) b (l ++ [c])/\Wk b w (w1.setCell ⟨b,0,none⟩ v):=by
 have hkt:=ypk (b:=b) hown0 hg v;have hB1:yc w1 b #[.slice ao l.length cap] 105:=(hb.grown (aJ wr o none) (by simp)).grown hg (fun e=>by have:=hrow b e.symm; omega);obtain ⟨fJ,cap',rfl⟩:=yi hown;have hlen:(l ++ [c]).length=l.length+1:=by simp
 refine ⟨⟨fJ,cap',?_,?_⟩,?_⟩
 ·rw [hlen];exact hB1.set 0 _
 ·have e:Ao (l ++ [c])=Ao l ++ [.int .u8 c.toNat]:=by simp [Ao]
  rw [hlen,e];exact ownsRow_setCell_below hown (Nat.lt_succ_self b) _
 ·refine ⟨?_,hwk.2.trans hkt⟩;exact ((hwk.1.alloc (Nat.le_of_lt hb.lt) o).grown hg (by have:=hb.lt; simp; omega) (fun g hg=>by have:=hrow g hg; omega)).setCell (Nat.le_refl b) _
theorem KV {wr w1:World} {b:Nat} {cs:Array Value} {t:TypeId} {o:Obj} {row:Option Nat} (hb:yc wr b cs t) (hg:(wr.alloc o).grownBy w1 row) (hrow:∀ g,row=some g->b+1<=g):yc w1 b cs t :=
 (hb.grown (aJ wr o none) (by simp)).grown hg (fun e=>by have:=hrow b e.symm; omega)
theorem X7 (b:Nat) (n:Int) (size:Nat) (l:List UInt8) (w:World) (h:gN w b l) (hl:l.length<=16777216) (hs:size<=4) (hn0:-1099511627776<=n) (hn1:n<=1099511627776) :
  Calls Tryz.prog 58 #[.pointer (some ⟨b,0,none⟩),.int .i64 n,.int .i64 size] w fun e w'=>e = .returned (.tuple #[])/\gN w' b (l ++ Lk.le n size)/\Wk b w w':=by
 obtain ⟨i0,hi,hz0,hz1,hz2⟩:=info_parts Tryz.Ce;have H:=hid h;clear h;go_enter Tryz.func58,Tryz.ntmps58;go_wp2
 go_loopw [1,6] (fun m i wr=>∃ (k:Nat) (x:Int),k<=size/\i = .int .i64 k/\m = .int .i64 x/\-1099511627776<=x/\x<=1099511627776/\(∃ acc:List UInt8,acc.length=l.length+k/\gN wr b acc/\l ++ Lk.le n size=acc ++ Lk.le x (size - k))/\Wk b w wr) (fun _ i _=>size - (intOf i).toNat)
 case atStart=>exact ⟨0,n,Nat.zero_le _,rfl,rfl,hn0,hn1,⟨l,rfl,H.o,by simp⟩,Wk.refl _ _⟩
 case round =>
  obtain ⟨k,x,hk,rfl,rfl,hx0,hx1,hdone,hbel⟩:=hrel;have HD:=hid hdone;have HB:=hid hbel;clear hdone hbel;by_cases hlt:k < size
  ·obtain ⟨acc,hdl,hw,hle⟩:=HD.o;obtain ⟨ao,cap,hblk,hown⟩:=hw;have c0:=hblk.cell 0;have f0:=hblk.free 0;have hbl:=hblk.lt;have Aj:=hid hblk;have Ob:=hid hle;have NZ:=hid hdl;have Ry:acc.length<=16777220:=by omega
   have hrow:=hid (show ∀ g,Value.ownBlock (.slice ao acc.length cap)=some g->b+1<=g from fun g hg=>(hown.lt g hg).1);clear hblk hle hdl HD;go_wp2_with (at_builtin; refine wpList_append_own _ rfl _ _ 42 rfl (b+1) 5 i0 (.int .u8 0) 1 1 Tryz.underlying42 hi hz0 hz1 hz2 rfl (by decide) (.slice ao acc.length cap) acc.length (Ao acc) rfl (hown.alloc _) ⟨wr.heap.size,0,none⟩ 1 1 [.int .u8 (bits .and .i64 x 255 % 256)] rfl rfl (cell_one_new _ _ _) (by intro u hu; simp at hu; subst hu; rfl) (by unfold maxLen; omega) (by omega) (by simp; omega) ?_; intro v' w3 hown' hgrow _; obtain ⟨fJ,cap',rfl⟩:=yi hown'; have m0:=(KV Aj.o hgrow hrow.o).cell 0; have n0:=(KV Aj.o hgrow hrow.o).free 0; have P:=hid (Ut Aj.o HB.o hown hgrow hrow.o (ypq hown')); clear hown' hgrow hown c0 f0)
   go_roundw
   case rel =>
    refine ⟨k+1,x / 256,by omega,by go_num,rfl,by omega,by omega,⟨acc ++ [Cv x],?_,P.o.1,?_⟩,P.o.2⟩
    ·have:=NZ.o; simp; omega
    ·have e:size - k=(size - (k+1))+1:=by omega
     rw [Ob.o,e];simp [Lk.le,Cv]
   case measure=>simp [intOf]; omega
  ·go_wp2
   go_end0
   obtain ⟨acc,hdl,hw,hle⟩:=HD.o;have e:size - k=0:=by omega
   rw [e] at hle;simp only [Lk.le,List.append_nil] at hle;rw [hle];exact ⟨rfl,hw,HB.o⟩
theorem Zv (s:ByteArray) (k:Nat) (h:k < s.size):(sl s).take (k+1)=(sl s).take k ++ [s[k]]:=by
 have h':k < s.data.toList.length:=by rw [Array.length_toList]; exact h
 unfold sl;rw [List.take_succ_eq_append_getElem h'];rfl
theorem TF (b:Nat) (s:ByteArray) (l:List UInt8) (w:World) (h:gN w b l) (hl:l.length<=16777216) (hs:s.size<=1048576) :
  Calls Tryz.prog 57 #[.pointer (some ⟨b,0,none⟩),.string s] w fun e w'=>e = .returned (.tuple #[])/\gN w' b (l ++ sl s)/\Wk b w w':=by
 obtain ⟨i0,hi,hz0,hz1,hz2⟩:=info_parts Tryz.Ce;have H:=hid h;clear h;go_enter Tryz.func57,Tryz.ntmps57;go_wp2
 go_loopw [4] (fun i wr=>∃ (k:Nat),k<=s.size/\i = .int .i64 k/\(∃ acc:List UInt8,acc.length=l.length+k/\gN wr b acc/\l ++ (sl s).take k=acc)/\Wk b w wr) (fun i _=>s.size - (intOf i).toNat)
 case atStart=>exact ⟨0,Nat.zero_le _,rfl,⟨l,rfl,H.o,by simp⟩,Wk.refl _ _⟩
 case round =>
  obtain ⟨k,hk,rfl,hdone,hbel⟩:=hrel;have HD:=hid hdone;have HB:=hid hbel;clear hdone hbel;by_cases hlt:k < s.size
  ·obtain ⟨acc,hdl,hw,hle⟩:=HD.o;obtain ⟨ao,cap,hblk,hown⟩:=hw;have c0:=hblk.cell 0;have f0:=hblk.free 0;have hbl:=hblk.lt;have Aj:=hid hblk;have Ob:=hid hle;have NZ:=hid hdl;have Ry:acc.length<=33554432:=by omega
   have hrow:=hid (show ∀ g,Value.ownBlock (.slice ao acc.length cap)=some g->b+1<=g from fun g hg=>(hown.lt g hg).1);have HOW:=hid hown;have hne:=World.new_ne wr ⟨b,0,none⟩ (by simpa using c0);have g1:(0:Int)<=(k:Int):=by omega
   have g2:(k:Int) < (s.size:Int):=by omega
   have hA:Hd ((wr.alloc (.cells #[.int .u8 s[k].toNat] 5)).drew.ownsRow (b+1) 5 1 (.slice ao acc.length cap) acc.length (Ao acc)):=(hown.alloc _).drew;have hN:Hd (∀ j u,[Value.int .u8 s[k].toNat][j]?=some u->(wr.alloc (.cells #[.int .u8 s[k].toNat] 5)).drew.cell? ((⟨wr.heap.size,0,none⟩:Addr).add j)=some u):=World.news_of_block (heap_alloc_new wr (.cells #[.int .u8 s[k].toNat] 5));have iC:Hd (∀ u∈[Value.int .u8 (s[k].toNat:Int)],u.oneCell'=true):=by intro u hu; simp at hu; subst hu; rfl
   have h63:Hd (acc.length+1<=maxLen):=by show _<=_; unfold maxLen; omega
   have hby:Hd ((acc.length+1) * 1<=140737488355328):=by show _<=_; omega
   have hbs:Hd (b+1<=(wr.alloc (.cells #[.int .u8 s[k].toNat] 5)).drew.heap.size):=by show _<=_; simp; omega
   have Wx:Hd ((wr.alloc (.cells #[.int .u8 s[k].toNat] 5)).drew.heap.size=wr.heap.size+1):=by show _=_; simp
   clear hblk hle hdl HD hown;go_wp2;refine wp_region_any (by kernel_rfl) ?_
   change wpAny _ Region.Mode.any _ _ _ _ _ wr.drew
   refine wpAny_take (i:=0) (v:=?_) rfl (by kernel_rfl) (by kernel_rfl) (by kernel_rfl) (fun _ _ _ h=>h) (Or.inl ⟨by kernel_rfl,?_⟩) ?_
   rotate_left
   ·intro w; go_simp; with_reducible rfl
   refine wpAny_take (i:=1) (v:=?_) rfl (by kernel_rfl) (by kernel_rfl) (by kernel_rfl) (fun _ _ _ h=>h) (Or.inl ⟨by kernel_rfl,?_⟩) ?_
   rotate_left
   ·intro w; go_simp; with_reducible rfl
   refine wpAny_take (i:=2) (v:=?_) rfl (by kernel_rfl) (by kernel_rfl) (by kernel_rfl) (fun _ _ _ h=>h) (Or.inl ⟨by kernel_rfl,?_⟩) ?_
   rotate_left
   ·intro w; go_simp; with_reducible rfl
   refine wpAny_take (i:=3) (v:=?_) rfl (by kernel_rfl) (by kernel_rfl) (by kernel_rfl) (fun _ _ _ h=>h) (Or.inl ⟨by kernel_rfl,?_⟩) ?_
   rotate_left
   ·intro w; go_simp; with_reducible rfl
   refine wpAny_take (i:=5) (v:=?_) rfl (by kernel_rfl) (by kernel_rfl) (by kernel_rfl) (fun _ _ _ h=>h) (Or.inl ⟨by kernel_rfl,?_⟩) ?_
   rotate_left
   ·intro w; go_simp; with_reducible rfl
   refine wpAny_take (i:=6) (v:=?_) rfl (by kernel_rfl) (by kernel_rfl) (by kernel_rfl) (fun _ _ _ h=>h) (Or.inl ⟨by kernel_rfl,?_⟩) ?_
   rotate_left
   ·intro w; go_simp; with_reducible rfl
   refine wpAny_take (i:=7) (v:=?_) rfl (by kernel_rfl) (by kernel_rfl) (by kernel_rfl) (fun _ _ _ h=>h) (Or.inl ⟨by kernel_rfl,?_⟩) ?_
   rotate_left
   ·intro w; go_simp; with_reducible rfl
   refine wpAny_ready (rs:=[4,8]) (by kernel_rfl) (by simp) ?_;refine AllReady.cons rfl (fun K hK=>?_) (AllReady.cons rfl (fun K hK=>?_) AllReady.nil)
   ·go_simp;refine hK _ _ ?_;clear hK K;refine wpAny_ready (rs:=[8]) (by kernel_rfl) (by simp) ?_;refine AllReady.cons rfl (fun K hK=>?_) AllReady.nil;go_simp;refine hK _ _ ?_;clear hK K;refine wpAny_ready (rs:=[9]) (by kernel_rfl) (by simp) ?_;refine AllReady.cons rfl (fun K hK=>?_) AllReady.nil;rw [if_pos (by kernel_rfl)];refine wp_append_own _ (.tmp 15) (.tmp 19) 42 rfl (b+1) 5 i0 (.int .u8 0) 1 1 Tryz.underlying42 hi hz0 hz1 hz2 rfl (by decide) (.slice ao acc.length cap) acc.length (Ao acc) (by kernel_rfl) hA.o ⟨wr.heap.size,0,none⟩ 1 1 [.int .u8 s[k].toNat] (by kernel_rfl) rfl hN.o iC.o h63.o hby.o hbs.o ?_
    intro v' w3 hown' hgrow _;obtain ⟨fJ,cap',rfl⟩:=yi hown';have gd:(wr.alloc (.cells #[.int .u8 s[k].toNat] 5)).grownBy w3 (Value.ownBlock (.slice ao acc.length cap)):=⟨hgrow.os,hgrow.tape,hgrow.output,hgrow.size,hgrow.block⟩
    have m0:=(KV Aj.o gd hrow.o).cell 0;have n0:=(KV Aj.o gd hrow.o).free 0;have P:=hid (Ut Aj.o HB.o HOW.o gd hrow.o hown');clear hown' hgrow gd;refine hK _ _ ?_;clear hK K;refine wpAny_take (i:=10) (v:=?_) rfl (by kernel_rfl) (by kernel_rfl) (by kernel_rfl) (fun _ _ _ h=>h) (Or.inl ⟨by kernel_rfl,?_⟩) ?_
    rotate_left
    ·intro w; go_simp; with_reducible rfl
    refine wpAny_take (i:=11) (v:=?_) rfl (by kernel_rfl) (by kernel_rfl) (by kernel_rfl) (fun _ _ _ h=>h) (Or.inl ⟨by kernel_rfl,?_⟩) ?_
    rotate_left
    ·intro w; go_simp; with_reducible rfl
    refine wpAny_ready (rs:=[12]) (by kernel_rfl) (by simp) ?_;refine AllReady.cons rfl (fun K hK=>?_) AllReady.nil;go_simp;refine hK _ _ ?_;clear hK K;refine wpAny_done (by kernel_rfl) ?_ _;clear hA hN iC h63 hby hbs Wx c0 f0 hne;go_wp2
    go_roundw
    case rel =>
     refine ⟨k+1,by omega,by go_num,⟨acc ++ [s[k]],?_,P.o.1,?_⟩,P.o.2⟩
     ·have:=NZ.o; simp; omega
     ·rw [<- Ob.o,List.append_assoc,Zv s k hlt]
    case measure=>simp [intOf]; omega
   ·go_simp;refine hK _ _ ?_;clear hK K;refine wpAny_ready (rs:=[4]) (by kernel_rfl) (by simp) ?_;refine AllReady.cons rfl (fun K hK=>?_) AllReady.nil;go_simp;refine hK _ _ ?_;clear hK K;refine wpAny_ready (rs:=[9]) (by kernel_rfl) (by simp) ?_;refine AllReady.cons rfl (fun K hK=>?_) AllReady.nil;rw [if_pos (by kernel_rfl)];refine wp_append_own _ (.tmp 15) (.tmp 19) 42 rfl (b+1) 5 i0 (.int .u8 0) 1 1 Tryz.underlying42 hi hz0 hz1 hz2 rfl (by decide) (.slice ao acc.length cap) acc.length (Ao acc) (by kernel_rfl) hA.o ⟨wr.heap.size,0,none⟩ 1 1 [.int .u8 s[k].toNat] (by kernel_rfl) rfl hN.o iC.o h63.o hby.o hbs.o ?_
    intro v' w3 hown' hgrow _;obtain ⟨fJ,cap',rfl⟩:=yi hown';have gd:(wr.alloc (.cells #[.int .u8 s[k].toNat] 5)).grownBy w3 (Value.ownBlock (.slice ao acc.length cap)):=⟨hgrow.os,hgrow.tape,hgrow.output,hgrow.size,hgrow.block⟩
    have m0:=(KV Aj.o gd hrow.o).cell 0;have n0:=(KV Aj.o gd hrow.o).free 0;have P:=hid (Ut Aj.o HB.o HOW.o gd hrow.o hown');clear hown' hgrow gd;refine hK _ _ ?_;clear hK K;refine wpAny_take (i:=10) (v:=?_) rfl (by kernel_rfl) (by kernel_rfl) (by kernel_rfl) (fun _ _ _ h=>h) (Or.inl ⟨by kernel_rfl,?_⟩) ?_
    rotate_left
    ·intro w; go_simp; with_reducible rfl
    refine wpAny_take (i:=11) (v:=?_) rfl (by kernel_rfl) (by kernel_rfl) (by kernel_rfl) (fun _ _ _ h=>h) (Or.inl ⟨by kernel_rfl,?_⟩) ?_
    rotate_left
    ·intro w; go_simp; with_reducible rfl
    refine wpAny_ready (rs:=[12]) (by kernel_rfl) (by simp) ?_;refine AllReady.cons rfl (fun K hK=>?_) AllReady.nil;go_simp;refine hK _ _ ?_;clear hK K;refine wpAny_done (by kernel_rfl) ?_ _;clear hA hN iC h63 hby hbs Wx c0 f0 hne;go_wp2
    go_roundw
    case rel =>
     refine ⟨k+1,by omega,by go_num,⟨acc ++ [s[k]],?_,P.o.1,?_⟩,P.o.2⟩
     ·have:=NZ.o; simp; omega
     ·rw [<- Ob.o,List.append_assoc,Zv s k hlt]
    case measure=>simp [intOf]; omega
  ·go_wp2
   go_end0
   obtain ⟨acc,hdl,hw,hle⟩:=HD.o;rw [List.take_of_length_le (by rw [yq]; omega)] at hle;rw [hle];exact ⟨rfl,hw,HB.o⟩
theorem ypQ (l:List UInt8):strOfNums (l.map fun c=>(c.toNat:Int))=bs l:=by
 unfold strOfNums bs;rw [List.map_map,List.map_congr_left (g:=id) (fun c _=>by simp),List.map_id]
theorem ylq {w:World} {base:Nat} {ao:Option Addr} {cap:Nat} {l:List UInt8} (h:w.ownsRow base 5 1 (.slice ao l.length cap) l.length (Ao l)) :
  (convert 42 9 (.slice ao l.length cap)).run Tryz.prog w = .ok (.string (bs l)) w:=by
 rcases h.2 with ⟨h1,h2⟩ | ⟨g,cap',cur,hv,_⟩
 ·simp only [Value.slice.injEq] at h1;obtain ⟨rfl,h3,rfl⟩:=h1
  have:l=[]:=List.length_eq_zero_iff.1 h3
  subst this;exact run_convert_bytes_nil w 42 5 Tryz.underlying42 Tryz.underlying5 _ _ 9 Tryz.underlying9
 ·simp only [Value.slice.injEq] at hv;obtain ⟨rfl,_,rfl⟩:=hv
  have:=run_convert_bytes_arg (P:=Tryz.prog) w 42 5 Tryz.underlying42 Tryz.underlying5 g 0 l.length cap (l.map fun c=>(c.toNat:Int)) (by simp) (fun i hi=>by
   have q:=h.cellAt i (by omega);rw [Nat.zero_add,q];simp [Ao,hi]) 9 Tryz.underlying9
  rw [ypQ] at this;exact this
theorem Ym (b:Nat) (l:List UInt8) (w:World) (h:gN w b l) :
  Calls Tryz.prog 62 #[.pointer (some ⟨b,0,none⟩)] w fun e w'=>e = .returned (.string (bs l))/\w'=w:=by
 obtain ⟨ao,cap,hblk,hown⟩:=h;have c0:=hblk.cell 0;have hr:=ylq hown;clear hblk hown;go_enter Tryz.func62,Tryz.ntmps62;go_wp2;go_ret;exact ⟨rfl,rfl⟩
def sO (w:World) (b:Nat) (ao:Option Addr) (xs:List Int):Prop :=
 0 < xs.length->∃ g cs,ao=some ⟨g,0,none⟩/\g≠b/\yc w g cs 3/\∀ i (h:i < xs.length),cs[i]?=some (.int .i64 xs[i])
theorem sO.kept {w w':World} {b:Nat} {ao:Option Addr} {xs:List Int} (h:sO w b ao xs) (hk:Wk b w w'):sO w' b ao xs:=by
 intro h0;obtain ⟨g,cs,h1,h2,h3,h4⟩:=h h0;exact ⟨g,cs,h1,h2,hk.2 g cs _ h2 (by decide) h3,h4⟩
theorem sO.aO {w:World} {base b:Nat} {ao:Option Addr} {n cap:Nat} {xs:List Int} (h:w.ownsRow base 3 1 (.slice ao n cap) n (xs.map (Value.int .i64))) (hb:∀ g,Value.ownBlock (.slice ao n cap)=some g->g≠b):sO w b ao xs:=by
 intro h0;have hn:xs.length=n:=by have:=h.1; simpa using this
 rcases h.2 with ⟨h1,h2⟩ | ⟨g,cap',cur,hv,_,hh,_,_,hcs,htk⟩
 ·simp at h1; omega
 ·simp only [Value.slice.injEq] at hv;obtain ⟨rfl,_,rfl⟩:=hv;refine ⟨g,cur,rfl,hb g rfl,hh,fun i hi=>?_⟩;have e:(cur.toList.take (n * 1))[i]?=(xs.map (Value.int .i64))[i]?:=by rw [htk]
  rw [List.getElem?_take,if_pos (by omega)] at e;rw [<- Array.getElem?_toList,e];simp [hi]
theorem yG (b:Nat) (n:Int) (size:Nat) (ms:Int) (hms:ms=(size:Int)) (l:List UInt8) (w:World) (h:gN w b l) (hl:l.length<=16777216) (hs:size<=4) (hn0:-1099511627776<=n) (hn1:n<=1099511627776) :
  Calls Tryz.prog 58 #[.pointer (some ⟨b,0,none⟩),.int .i64 n,.int .i64 ms] w fun e w'=>e = .returned (.tuple #[])/\gN w' b (l ++ Lk.le n size)/\Wk b w w':=by
 subst hms; exact X7 b n size l w h hl hs hn0 hn1
theorem yow (xs:List Int) (k size:Nat) (h:k < xs.length):Lk.nums (xs.take (k+1)) size=Lk.nums (xs.take k) size ++ Lk.le xs[k] size:=by
 unfold Lk.nums;rw [List.take_succ_eq_append_getElem h,List.flatMap_append];simp
theorem Hy (xs:List Int) (size:Nat):(Lk.nums xs size).length=xs.length * size:=by
 unfold Lk.nums
 induction xs with
 | nil=>simp
 | cons x t ih=>simp only [List.flatMap_cons,eZ,ih,Lk.aC,jm,Nat.succ_mul]; omega
theorem JK (b:Nat) (ao:Option Addr) (cap size:Nat) (ms:Int) (hms:ms=(size:Int)) (xs:List Int) (l:List UInt8) (w:World) (h:gN w b l) (hI:sO w b ao xs)
  (hl:l.length<=1048576) (hs:size<=4) (hn:xs.length<=65535) (hx:∀ i (h:i < xs.length),-1099511627776<=xs[i]/\xs[i]<=1099511627776) :
  Calls Tryz.prog 59 #[.pointer (some ⟨b,0,none⟩),.slice ao xs.length cap,.int .i64 ms] w fun e w'=>e = .returned (.tuple #[])/\gN w' b (l ++ Lk.nums xs size)/\Wk b w w':=by
 subst hms;have H:=hid h;have HI:=hid hI;have HX:=hid hx;clear h hI hx;go_enter Tryz.func59,Tryz.ntmps59;go_wp2
 go_loopw [10] (fun i wr=>∃ k:Nat,k<=xs.length/\i = .int .i64 k/\gN wr b (l ++ Lk.nums (xs.take k) size)/\Wk b w wr) (fun i _=>xs.length - (intOf i).toNat)
 case atStart=>exact ⟨0,Nat.zero_le _,rfl,by simpa [Lk.nums] using H.o,Wk.refl _ _⟩
 case round =>
  obtain ⟨k,hk,rfl,hw,hbel⟩:=hrel;have HW:=hid hw;have HB:=hid hbel;clear hw hbel;by_cases hlt2:k < xs.length
  ·obtain ⟨g,cs,hao,-,hbk,hc⟩:=HI.o.kept HB.o (by omega);subst hao;have hck:=(hbk.cell k).trans (hc k hlt2);clear hbk;have hxk:=HX.o k hlt2;have hlen:(l ++ Lk.nums (xs.take k) size).length<=16777216:=by
    rw [eZ,Hy,List.length_take_of_le (by omega)]
    have:k * size<=k * 4:=Nat.mul_le_mul_left k hs
    omega
   have cN:=hid (fun W h=>X7 b xs[k] size (l ++ Lk.nums (xs.take k) size) W h hlen hs hxk.1 hxk.2);clear hc hlen;go_wp2_with fail;refine (cN.o _ HW.o).mono ?_;rintro e w2 ⟨rfl,hw2,hb2⟩;have HW2:=hid hw2;have HB2:=hid (HB.o.trans hb2);clear hw2 hb2;go_wp2
   go_roundw
   case rel=>exact ⟨k+1,by omega,by go_num,by rw [yow xs k size hlt2,<- List.append_assoc]; exact HW2.o,HB2.o⟩
   case measure=>simp [intOf]; omega
  ·go_wp2
   go_end0
   have e:xs.take k=xs:=List.take_of_length_le (by omega);have hw:=HW.o;rw [e] at hw;exact ⟨rfl,hw,HB.o⟩
structure Bg (w:World) (b v:Nat) (t:TypeId) (cs:Array Value) (l:List UInt8) (W:World):Prop where
 wr:gN W b l
 own:yc W v cs t
 wk:Wk b w W
theorem Bg.begin {w:World} {b:Nat} {l:List UInt8} (h:gN w b l) (cs:Array Value) (t:TypeId):Bg w b w.heap.size t cs l (w.alloc (.cells cs t)):=by
 obtain ⟨ao,cap,h1,h2⟩:=h;exact ⟨⟨ao,cap,h1.grown (aJ _ _ none) (by simp),h2.alloc _⟩,yc.new _ _ _,(Wk.refl b w).alloc (Nat.le_of_lt h1.lt) _⟩
theorem Bg.step {w W W':World} {b v:Nat} {t:TypeId} {cs:Array Value} {l l':List UInt8} (h:Bg w b v t cs l W) (hv:v≠b) (ht:t≠5) (hw:gN W' b l') (hk:Wk b W W'):Bg w b v t cs l' W' :=
 ⟨hw,hk.2 v cs t hv ht h.own,h.wk.trans hk⟩
theorem yhD (b:Nat) (y:Lk.Sym) (l:List UInt8) (w:World) (h:gN w b l) (hl:l.length<=1048576) (hg:Lk.lY y) :
  Calls Tryz.prog 60 #[.pointer (some ⟨b,0,none⟩),.agg #[.string (bs y.name),.int .i64 y.bind,.int .i64 y.ah,.int .i64 y.off]] w fun e w'=>e = .returned (.tuple #[])/\gN w' b (l ++ Lk.jd y)/\Wk b w w':=by
 obtain ⟨hn,⟨hb0,hb1⟩,⟨hs0,hs1⟩,ho0,ho1⟩:=hg;have hvb:w.heap.size≠b:=by obtain ⟨_,_,h1,_⟩:=h; have:=h1.lt; omega
 have S0:=hid (Bg.begin h #[.string (bs y.name),.int .i64 y.bind,.int .i64 y.ah,.int .i64 y.off] 100);have hsz:((bs y.name).size:Int)=(y.name.length:Int):=by rw [zh]
 have hsz2:(bs y.name).size=y.name.length:=zh _;have c1:=hid (fun W (h:gN W b l)=>yG b ((bs y.name).size:Int) 1 1 rfl l W h (by omega) (by omega) (by omega) (by omega));have c2:=hid (fun W (h:gN W b (l ++ Lk.le y.name.length 1))=>TF b (bs y.name) (l ++ Lk.le y.name.length 1) W h (by rw [eZ,Lk.aC]; omega) (by omega));have c3:=hid (fun W (h:gN W b (l ++ Lk.le y.name.length 1 ++ y.name))=>yG b y.bind 1 1 rfl (l ++ Lk.le y.name.length 1 ++ y.name) W h (by rw [eZ,eZ,Lk.aC]; omega) (by omega) (by omega) (by omega));have c4:=hid (fun W (h:gN W b (l ++ Lk.le y.name.length 1 ++ y.name ++ Lk.le y.bind 1))=>yG b y.ah 1 1 rfl (l ++ Lk.le y.name.length 1 ++ y.name ++ Lk.le y.bind 1) W h (by rw [eZ,eZ,eZ,Lk.aC,Lk.aC]; omega) (by omega) (by omega) (by omega))
 have c5:=hid (fun W (h:gN W b (l ++ Lk.le y.name.length 1 ++ y.name ++ Lk.le y.bind 1 ++ Lk.le y.ah 1))=>yG b y.off 2 2 rfl (l ++ Lk.le y.name.length 1 ++ y.name ++ Lk.le y.bind 1 ++ Lk.le y.ah 1) W h (by rw [eZ,eZ,eZ,eZ,Lk.aC,Lk.aC,Lk.aC]; omega) (by omega) (by omega) (by omega));have HS:=hid hsz;have HSL:=hid (Gx y.name);clear h hsz hsz2;go_enter Tryz.func60,Tryz.ntmps60;go_wp2_with fail;refine Calls.aL (Bg w b w.heap.size 100 #[.string (bs y.name),.int .i64 y.bind,.int .i64 y.ah,.int .i64 y.off] l) S0.o ?_;intro W1 s1;refine (c1.o W1 s1.wr).mono ?_;rintro e W2 ⟨rfl,hw,hk⟩;rw [HS.o] at hw;have S2:=hid (s1.step hvb (by decide) hw hk)
 have k0:=S2.o.own.cell 0;clear hw hk s1;go_wp2_with fail;refine (c2.o W2 S2.o.wr).mono ?_;rintro e W3 ⟨rfl,hw,hk⟩;rw [HSL.o] at hw;have S3:=hid (S2.o.step hvb (by decide) hw hk);have k1:=S3.o.own.cell 1;clear hw hk k0;go_wp2_with fail;refine (c3.o W3 S3.o.wr).mono ?_;rintro e W4 ⟨rfl,hw,hk⟩;have S4:=hid (S3.o.step hvb (by decide) hw hk);have k2:=S4.o.own.cell 2;clear hw hk k1;go_wp2_with fail;refine (c4.o W4 S4.o.wr).mono ?_;rintro e W5 ⟨rfl,hw,hk⟩;have S5:=hid (S4.o.step hvb (by decide) hw hk);have k3:=S5.o.own.cell 3;clear hw hk k2;go_wp2_with fail;refine (c5.o W5 S5.o.wr).mono ?_;rintro e W6 ⟨rfl,hw,hk⟩
 have S6:=hid (S5.o.step hvb (by decide) hw hk);clear hw hk k3;go_wp2
 go_end0
 refine ⟨rfl,?_,S6.o.wk⟩
 have:=S6.o.wr
 simpa [Lk.jd] using this
def EZ (l:List UInt8) (p n:Nat):List UInt8:=(l.drop p).take n
def KZ (l:List UInt8) (p:Nat):Nat->List Int
 | 0=>[]
 | n+1=>KZ l p n ++ [dR l (p+4 * n) 4]
theorem X3 (y:Lk.Sym):(Lk.jd y).length=5+y.name.length:=by
 simp only [Lk.jd,eZ,Lk.aC];omega
theorem SQ (r:Lk.Rel):(Lk.iT r).length=7:=by
 simp only [Lk.iT,eZ,Lk.aC]
theorem Kz (ys:List Int) (n:Nat):(Lk.nums ys n).length=n * ys.length:=by
 induction ys with
 | nil=>rfl
 | cons y t ih=>simp only [Lk.nums,List.flatMap_cons,eZ,Lk.aC,jm,Nat.mul_add] at *; omega
theorem Yc {o:Lk.Obj} (h:J9 o) (ah:Int):(yx o ah).length<=1200:=by
 obtain ⟨⟨n1,n2,n3⟩,-⟩:=h;unfold yx;split
 ·exact n1
 split
 ·exact n2
 split
 ·omega
 ·simp
theorem TN {xs:List Int} (h:qL xs):Lk.jg 4 xs:=fun x hx=>by
 obtain ⟨i,hi,rfl⟩:=List.getElem_of_mem hx
 have:=h i hi
 simp only [Int.reducePow];omega
theorem KS {o:Lk.Obj} (h:yv o):Lk.lX o:=by
 obtain ⟨hz,hb,hw,hs,hr⟩:=h;have hz':=hz;obtain ⟨⟨n1,n2,n3⟩,n4,n5,n6⟩:=hz;refine ⟨by omega,by omega,by omega,by omega,hb.1,?_,by omega,by omega,?_,?_,TN hw.1,TN hw.2.1,TN hw.2.2⟩
 ·intro x hx;obtain ⟨i,hi,rfl⟩:=List.getElem_of_mem hx
  have:=hb.2 i hi
  simp only [Int.reducePow];omega
 ·intro y hy;obtain ⟨i,hi,rfl⟩:=List.getElem_of_mem hy;obtain ⟨⟨k1,k2,k3,-,k4,-,k5⟩,-⟩:=hs i hi;have hl:(bs (o.syms[i]).name).size=(o.syms[i]).name.length:=rfl;have k6:=k1.2.1;have hw:=Yc hz' (o.syms[i]).ah;refine ⟨by omega,by omega,by omega,by omega,?_⟩;unfold xM at k5;split at k5 <;> omega
 ·intro r hr';obtain ⟨i,hi,rfl⟩:=List.getElem_of_mem hr';obtain ⟨⟨k1,k2,k3,-,k5,-,-⟩,-⟩:=hr i hi;have hsp:=Dt k2;have hw:=Yc hz' (o.aj[i]).ah;unfold Ee at k5;unfold Eh at k1;unfold Ka at k3;unfold rU at k2;refine ⟨by omega,by omega,by omega,?_,?_⟩
  ·split at k3 <;> omega
  ·split at k2
   ·omega
   ·split at k2 <;> omega
theorem YJ {α:Type} (f:α->List UInt8) (m:Nat) (xs:List α) (h:∀ x∈xs,(f x).length<=m):(xs.flatMap f).length<=m * xs.length:=by
 induction xs with
 | nil=>simp
 | cons x t ih =>
  have h1:=h x (by simp);have h2:=ih (fun y hy=>h y (by simp [hy]));simp only [List.flatMap_cons,eZ,jm,Nat.mul_add];omega
theorem X6 {o:Lk.Obj} (h:yv o):(Lk.lN o).length<=65535:=by
 obtain ⟨hz,hb,hw,hs,hr⟩:=h;obtain ⟨⟨n1,n2,n3⟩,n4,n5,n6⟩:=hz;have e1:(o.syms.flatMap Lk.jd).length<=11 * o.syms.length:=YJ _ _ _ fun y hy=>by
  obtain ⟨i,hi,rfl⟩:=List.getElem_of_mem hy;have k6:=(hs i hi).1.1.2.1;have hl:(bs (o.syms[i]).name).size=(o.syms[i]).name.length:=rfl;rw [X3];omega
 have e2:(o.aj.flatMap Lk.iT).length<=7 * o.aj.length:=YJ _ _ _ fun y _=>by rw [SQ]; omega
 have e3:=Kz o.align 1;have e4:=Kz o.text 4;have e5:=Kz o.far 4;have e6:=Kz o.data 4
 have:=hb.1
 simp only [Lk.lN,eZ,Lk.aC,jm,List.length_nil];omega
theorem yN {l a rest:List UInt8} {p:Nat} (h:l.drop p=a ++ rest):l.drop (p+a.length)=rest:=by
 rw [<- List.drop_drop,h,List.drop_left]
theorem qQ {l rest:List UInt8} {v:Int} {p n:Nat} (h:l.drop p=Lk.le v n ++ rest) (h0:0<=v) (h1:v < (256:Int) ^ n):dR l p n=v:=by
 induction n generalizing p v with
 | zero=>simp [dR]; simp at h1; omega
 | succ n ih =>
  simp only [Lk.le,List.cons_append] at h;have hlt:p < l.length:=by
   have:=congrArg List.length h
   simp at this;omega
  have hg:l.getD p 0=UInt8.ofNat (v % 256).toNat:=by
   have h2:(l.drop p)[0]?=some (UInt8.ofNat (v % 256).toNat):=by rw [h]; rfl
   rw [List.getElem?_drop] at h2;rw [lC];simp only [Nat.add_zero] at h2;rw [h2];rfl
  have hd:l.drop (p+1)=Lk.le (v / 256) n ++ rest:=by
   rw [<- List.drop_drop,h];rfl
  rw [Int.pow_succ] at h1;have hi:=ih hd (by omega) (by omega);simp only [dR,hi,hg];have hm:(UInt8.ofNat (v % 256).toNat).toNat=(v % 256).toNat:=by
   rw [UInt8.toNat_ofNat'];omega
  rw [hm];omega
theorem Ze {l x rest:List UInt8} {p:Nat} (h:l.drop p=x ++ rest):EZ l p x.length=x:=by
 unfold EZ;rw [h,List.take_left]
theorem Tt {l rest:List UInt8} {xs:List Int} {p:Nat} (h:l.drop p=Lk.nums xs 4 ++ rest) (hg:Lk.jg 4 xs) (k:Nat) (hk:k<=xs.length):KZ l p k=xs.take k:=by
 induction k with
 | zero=>rfl
 | succ k ih =>
  have hk':k < xs.length:=by omega
  rw [KZ,ih (by omega),List.take_succ_eq_append_getElem hk']
  congr 2
  have hlen:∀ ys:List Int,(Lk.nums ys 4).length=4 * ys.length:=by
   intro ys
   induction ys with
   | nil=>rfl
   | cons y t ih=>simp only [Lk.nums,List.flatMap_cons,eZ,Lk.aC,jm] at *; omega
  have e:l.drop p=Lk.nums (xs.take k) 4 ++ (Lk.le xs[k] 4 ++ (Lk.nums (xs.drop (k+1)) 4 ++ rest)):=by
   have e0:xs=xs.take k ++ xs[k] :: xs.drop (k+1):=by rw [<- lV hk',List.take_append_drop]
   rw [h];refine (congrArg (fun z=>Lk.nums z 4 ++ rest) e0).trans ?_;simp only [Lk.nums,List.flatMap_append,List.flatMap_cons,List.append_assoc]
  have e2:=yN e;rw [hlen,List.length_take,Nat.min_eq_left (by omega)] at e2;exact qQ e2 (hg _ (iq hk')).1 (hg _ (iq hk')).2
def UG (l:List UInt8) (p:Nat):Lk.Sym :=
 ⟨EZ l (p+1) (dR l p 1).toNat,dR l (p+1+(dR l p 1).toNat) 1,dR l (p+2+(dR l p 1).toNat) 1,dR l (p+3+(dR l p 1).toNat) 2⟩
def Dx (l:List UInt8):Nat->List Lk.Sym×Nat
 | 0=>([],16)
 | k+1=>((Dx l k).1 ++ [UG l (Dx l k).2],(Dx l k).2+5+(dR l (Dx l k).2 1).toNat)
def Uv (l:List UInt8) (p:Nat):Lk.Rel:=⟨dR l p 1,dR l (p+2) 2,dR l (p+1) 1,dR l (p+4) 1,Lk.Aq (dR l (p+5) 2)⟩
def Qj (l:List UInt8) (p:Nat):Nat->List Lk.Rel
 | 0=>[]
 | k+1=>Qj l p k ++ [Uv l (p+7 * k)]
def AV (l:List UInt8):Lk.Obj :=
 ⟨KZ l ((Dx l (dR l 14 1).toNat).2+7 * (dR l 15 1).toNat) (min (dR l 2 2).toNat 1201),
 KZ l ((Dx l (dR l 14 1).toNat).2+7 * (dR l 15 1).toNat+4 * (dR l 2 2).toNat) (min (dR l 4 2).toNat 1201),
 KZ l ((Dx l (dR l 14 1).toNat).2+7 * (dR l 15 1).toNat+4 * (dR l 2 2).toNat+4 * (dR l 4 2).toNat) (min (dR l 6 2).toNat 1201),
 dR l 8 2,[dR l 10 1,dR l 11 1,dR l 12 1,dR l 13 1],(Dx l (dR l 14 1).toNat).1,Qj l (Dx l (dR l 14 1).toNat).2 (dR l 15 1).toNat⟩
theorem ypR {l rest:List UInt8} {y:Lk.Sym} {p:Nat} (h:l.drop p=Lk.jd y ++ rest) (hy:Lk.lY y):UG l p=y/\(dR l p 1).toNat=y.name.length:=by
 obtain ⟨nm,b,s,f⟩:=y;obtain ⟨h1,h2,h3,h4⟩:=hy;simp only at h1 h2 h3 h4;simp only [Lk.jd,List.append_assoc] at h;have a0:dR l p 1=(nm.length:Int):=qQ h (by omega) (by simp; omega);have d1:=yN h;rw [Lk.aC] at d1;have d2:=yN d1;have d3:=yN d2;rw [Lk.aC] at d3;have d4:=yN d3;rw [Lk.aC] at d4;have e0:(dR l p 1).toNat=nm.length:=by rw [a0]; omega
 refine ⟨?_,e0⟩;unfold UG;rw [e0];have a1:=Ze d1;have a2:dR l (p+1+nm.length) 1=b:=qQ d2 h2.1 (by simpa using h2.2);have a3:dR l (p+2+nm.length) 1=s:=by
  rw [show p+2+nm.length=p+1+nm.length+1 from by omega];exact qQ d3 h3.1 (by simpa using h3.2)
 have a4:dR l (p+3+nm.length) 2=f:=by
  rw [show p+3+nm.length=p+1+nm.length+1+1 from by omega];exact qQ d4 h4.1 (by simpa using h4.2)
 rw [a1,a2,a3,a4]
theorem ynl {l rest:List UInt8} {ys:List Lk.Sym} (h:l.drop 16=ys.flatMap Lk.jd ++ rest) (hg:∀ y∈ys,Lk.lY y) (k:Nat) (hk:k<=ys.length) :
  Dx l k=(ys.take k,16+((ys.take k).flatMap Lk.jd).length):=by
 induction k with
 | zero=>rfl
 | succ k ih =>
  have hk':k < ys.length:=by omega
  have e:l.drop 16=(ys.take k).flatMap Lk.jd ++ (Lk.jd ys[k] ++ ((ys.drop (k+1)).flatMap Lk.jd ++ rest)):=by
   have e0:ys=ys.take k ++ ys[k] :: ys.drop (k+1):=by rw [<- lV hk',List.take_append_drop]
   rw [h];refine (congrArg (fun z=>List.flatMap Lk.jd z ++ rest) e0).trans ?_;simp only [List.flatMap_append,List.flatMap_cons,List.append_assoc]
  have e2:=yN e;obtain ⟨s1,s2⟩:=ypR e2 (hg _ (iq hk'));simp only [Dx,ih (by omega)];rw [s1,s2,List.take_succ_eq_append_getElem hk',List.flatMap_append,eZ];simp only [List.flatMap_cons,List.flatMap_nil,List.append_nil,X3];rw [Nat.add_assoc,Nat.add_assoc]
theorem yoA {l rest:List UInt8} {r:Lk.Rel} {p:Nat} (h:l.drop p=Lk.iT r ++ rest) (hr:Lk.nK r):Uv l p=r:=by
 obtain ⟨s,f,d,y,a⟩:=r;obtain ⟨h1,h2,h3,h4,h5,h6⟩:=hr;simp only at h1 h2 h3 h4 h5 h6;simp only [Lk.iT,List.append_assoc] at h;rw [<- Lk.Cj a] at h;have d1:=yN h;rw [Lk.aC] at d1;have d2:=yN d1;rw [Lk.aC] at d2;have d3:=yN d2;rw [Lk.aC] at d3;have d4:=yN d3;rw [Lk.aC] at d4;have a0:dR l p 1=s:=qQ h h1.1 (by simpa using h1.2);have a1:dR l (p+1) 1=d:=qQ d1 h2.1 (by simpa using h2.2);have a2:dR l (p+2) 2=f:=qQ d2 h3.1 (by simpa using h3.2);have a3:dR l (p+4) 1=y:=qQ d3 h4.1 (by simpa using h4.2);have a4:dR l (p+5) 2=Lk.Dl a:=qQ d4 (by unfold Lk.Dl; split <;> omega) (by unfold Lk.Dl; simp only [Int.reducePow]; split <;> omega)
 unfold Uv;rw [a0,a1,a2,a3,a4]
 congr 1
 unfold Lk.Aq Lk.Dl;split <;> split <;> omega
theorem ynf {l rest:List UInt8} {rs:List Lk.Rel} {p:Nat} (h:l.drop p=rs.flatMap Lk.iT ++ rest) (hg:∀ r∈rs,Lk.nK r) (k:Nat) (hk:k<=rs.length) :
  Qj l p k=rs.take k:=by
 induction k with
 | zero=>rfl
 | succ k ih =>
  have hk':k < rs.length:=by omega
  have hlen:∀ ys:List Lk.Rel,(ys.flatMap Lk.iT).length=7 * ys.length:=by
   intro ys
   induction ys with
   | nil=>rfl
   | cons y t ih=>simp only [List.flatMap_cons,eZ,SQ,jm] at *; omega
  have e:l.drop p=(rs.take k).flatMap Lk.iT ++ (Lk.iT rs[k] ++ ((rs.drop (k+1)).flatMap Lk.iT ++ rest)):=by
   have e0:rs=rs.take k ++ rs[k] :: rs.drop (k+1):=by rw [<- lV hk',List.take_append_drop]
   rw [h];refine (congrArg (fun z=>List.flatMap Lk.iT z ++ rest) e0).trans ?_;simp only [List.flatMap_append,List.flatMap_cons,List.append_assoc]
  have e2:=yN e;rw [hlen,List.length_take,Nat.min_eq_left (by omega)] at e2;simp only [Qj,ih (by omega),List.take_succ_eq_append_getElem hk'];rw [yoA e2 (hg _ (iq hk'))]
theorem ylw (rs:List Lk.Rel):(rs.flatMap Lk.iT).length=7 * rs.length:=by
 induction rs with
 | nil=>rfl
 | cons y t ih=>simp only [List.flatMap_cons,eZ,SQ,jm] at *; omega
theorem ypK {o:Lk.Obj} (hg:Lk.lX o) (hz:o.text.length<=1200/\o.far.length<=1200/\o.data.length<=1200):AV (Lk.lN o)=o:=by
 obtain ⟨g1,g2,g3,g4,g5,g6,g7,g8,g9,g10,g11,g12,g13⟩:=hg;obtain ⟨tx,fx,dx,bss,al,ys,rs⟩:=o;simp only at *;obtain ⟨a,b,c,d,rfl⟩:∃ a b c d,al=[a,b,c,d]:=by
  match al,g5 with
  | [a,b,c,d],_=>exact ⟨a,b,c,d,rfl⟩
 generalize hl:Lk.lN ⟨tx,fx,dx,bss,[a,b,c,d],ys,rs⟩=l;have h0:l.drop 0=[76,75] ++ Lk.mV ⟨tx,fx,dx,bss,[a,b,c,d],ys,rs⟩:=by rw [<- hl]; rfl
 simp only [Lk.mV] at h0;have h2:=yN h0;have h4:=yN h2;rw [Lk.aC] at h4;have h6:=yN h4;rw [Lk.aC] at h6;have h8:=yN h6;rw [Lk.aC] at h8;have h10:=yN h8;rw [Lk.aC] at h10;have hal:Lk.nums [a,b,c,d] 1=Lk.le a 1 ++ (Lk.le b 1 ++ (Lk.le c 1 ++ Lk.le d 1)):=by simp only [Lk.nums,List.flatMap_cons,List.flatMap_nil,List.append_nil]
 rw [hal] at h10;simp only [List.append_assoc] at h10;have h11:=yN h10;rw [Lk.aC] at h11;have h12:=yN h11;rw [Lk.aC] at h12;have Mv:=yN h12;rw [Lk.aC] at Mv;have vY:=yN Mv;rw [Lk.aC] at vY;have OD:=yN vY;rw [Lk.aC] at OD;have h16:=yN OD;rw [Lk.aC] at h16;have hs:=yN h16;have hr:=yN hs;have ht:=yN hr;have hf:=yN ht;simp only [jm,List.length_nil,Nat.zero_add,Nat.reduceAdd] at h2 h4 h6 h8 h10 h11 h12 Mv vY OD h16 hs hr ht hf;have v2:dR l 2 2=(tx.length:Int):=qQ h2 (by omega) (by simp; omega);have v4:dR l 4 2=(fx.length:Int):=qQ h4 (by omega) (by simp; omega);have v6:dR l 6 2=(dx.length:Int):=qQ h6 (by omega) (by simp; omega)
 have v8:dR l 8 2=bss:=qQ h8 g4.1 (by simpa using g4.2);have w1:=g6 a (by simp);have w2:=g6 b (by simp);have w3:=g6 c (by simp);have w4:=g6 d (by simp);have v10:dR l 10 1=a:=qQ h10 w1.1 w1.2;have v11:dR l 11 1=b:=qQ h11 w2.1 w2.2;have v12:dR l 12 1=c:=qQ h12 w3.1 w3.2;have v13:dR l 13 1=d:=qQ Mv w4.1 w4.2;have v14:dR l 14 1=(ys.length:Int):=qQ vY (by omega) (by simp; omega);have v15:dR l 15 1=(rs.length:Int):=qQ OD (by omega) (by simp; omega);have MF:=ylw rs;have eS:=ynl h16 g9 ys.length (Nat.le_refl _);rw [List.take_length] at eS;unfold AV;rw [v2,v4,v6,v8,v10,v11,v12,v13,v14,v15];simp only [Int.toNat_natCast,eS]
 rw [ynf hs g10 rs.length (Nat.le_refl _),List.take_length];rw [MF] at hr ht hf;rw [Kz] at ht hf;rw [Kz] at hf;rw [Nat.min_eq_left (by omega),Nat.min_eq_left (by omega),Nat.min_eq_left (by omega)];rw [Tt hr g11 tx.length (Nat.le_refl _),List.take_length,Tt ht g12 fx.length (Nat.le_refl _),List.take_length];rw [Tt (rest:=[]) (by rw [List.append_nil]; exact hf) g13 dx.length (Nat.le_refl _),List.take_length]
end Go.Proofs.YtpgklkhgfcjceaaGreatDoor
