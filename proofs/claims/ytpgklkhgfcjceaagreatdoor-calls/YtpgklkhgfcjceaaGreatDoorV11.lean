
import Derived.Test.YtpgklkhgfcjceaaGreatDoorV04
import Derived.Maps.AppendAt
import Derived.BigQuiet
import Derived.BigRegion
set_option maxHeartbeats 16000000
namespace Go.Proofs.YtpgklkhgfcjceaaGreatDoor
open Go.RowKit
def Av (vs:List Value):Prop:=vs.Pairwise fun u v=>∀ k,u.ownBlock=some k->v.ownBlock≠some k
def jf (b:Nat):Value:=.slice (some ⟨b,0,none⟩) 0 0
structure qy (B:Nat) (W:World) (b g:Nat) (o:Lk.Obj) (vt vf vd va vs vr:Value):Prop where
 blk:yc W g #[vt,vf,vd,.int .i64 o.bss,va,vs,vr] 71
 text:W.ownsRow B 3 1 vt o.text.length (o.text.map (Value.int .i64))
 far:W.ownsRow B 3 1 vf o.far.length (o.far.map (Value.int .i64))
 data:W.ownsRow B 3 1 vd o.data.length (o.data.map (Value.int .i64))
 align:W.ownsRow B 3 1 va o.align.length (o.align.map (Value.int .i64))
 syms:W.ownsRow B 100 4 vs o.syms.length (o.syms.flatMap gP)
 aj:W.ownsRow B 102 5 vr o.aj.length (o.aj.flatMap gZ)
 apart:Av [jf b,jf g,vt,vf,vd,va,vs,vr]
structure uU (t:As.Tok):Prop where
 kind:t.kind<=4
 pos:t.pos<=1000
 text:t.text.length<=1000
 n:t.n<=9999999999
structure jm (s:ByteArray) (st:As.St):Prop where
 size:s.size<=1000
 p:st.p<=s.size
 tok:uU st.tok
 fe:st.fe<=99
 fa:st.fa<=1000
 op:uU st.op
 ah:1<=st.ah/\st.ah<=4
 text:st.obj.text.length<=1200
 far:st.obj.far.length<=1200
 data:st.obj.data.length<=64
 bss:0<=st.obj.bss/\st.obj.bss<=64
 align:st.obj.align.length=4
 syms:st.obj.syms.length<=16
 aj:st.obj.aj.length<=32
def fM (t:As.Tok):Value:=.agg #[.int .i64 t.kind,.int .i64 t.pos,.string (bs t.text),.int .i64 t.n]
def yE (s:ByteArray) (g:Nat) (st:As.St):Array Value :=
 #[.string s,.int .i64 st.p,.int .i64 st.tok.kind,.int .i64 st.tok.pos,.string (bs st.tok.text),.int .i64 st.tok.n,.int .i64 st.fe,.int .i64 st.fa,.string ⟨#[]⟩,
  .int .i64 st.op.kind,.int .i64 st.op.pos,.string (bs st.op.text),.int .i64 st.op.n,.int .i64 st.ah,.pointer (some ⟨g,0,none⟩)]
structure yl (B:Nat) (s:ByteArray) (b g:Nat) (st:As.St) (W:World):Prop where
 blk:yc W b (yE s g st) 67
 own:∃ vt vf vd va vs vr,qy B W b g st.obj vt vf vd va vs vr
 lo:3<=B/\B<=b/\B<=g/\b≠g
 ok:jm s st
 tabs:dz W
section
variable {B:Nat} {s:ByteArray} {b g:Nat} {st:As.St} {W W':World} {o:Lk.Obj} {vt vf vd va vs vr:Value}
theorem JZ {e:TypeId} {size n:Nat} {v:Value} {xs:List Value} (h:W.ownsRow B e size v n xs) (hk:∀ k,v.ownBlock=some k->W'.heap[k]?=W.heap[k]?):W'.ownsRow B e size v n xs:=by
 refine ⟨h.1,?_⟩
 rcases h.2 with hn | ⟨g,cap,cur,rfl,hb,hgg,rest⟩
 ·exact .inl hn
 ·exact .inr ⟨g,cap,cur,rfl,hb,(hk g rfl).trans hgg,rest⟩
theorem qy.keep (h:qy B W b g o vt vf vd va vs vr) (hk:∀ k,k≠b->k < W.heap.size->W'.heap[k]?=W.heap[k]?):qy B W' b g o vt vf vd va vs vr:=by
 have ap:=h.apart
 unfold Av at ap
 simp only [List.pairwise_cons,List.mem_cons,List.mem_nil_iff,or_false,forall_eq_or_imp,forall_eq] at ap
 have ne:∀ v:Value,(∀ k,Value.ownBlock (jf b)=some k->v.ownBlock≠some k)->∀ k,v.ownBlock=some k->k≠b:=fun v hv k hk' hb=>hv b rfl (by rw [hk',hb])
 obtain ⟨⟨ag,at_,af,ad,aa,fU,ar⟩,-⟩:=ap
 have row:∀ {e:TypeId} {size n:Nat} {v:Value} {xs:List Value},W.ownsRow B e size v n xs->(∀ k,Value.ownBlock (jf b)=some k->v.ownBlock≠some k)->W'.ownsRow B e size v n xs :=
  fun h hv=>JZ h fun k hk'=>hk k (ne _ hv k hk') (h.lt k hk').2
 have hg:g≠b:=ne (jf g) ag g rfl
 exact ⟨(hk g hg h.blk.lt).trans h.blk,row h.text at_,row h.far af,row h.data ad,row h.align aa,row h.syms fU,row h.aj ar,h.apart⟩
theorem yl.grown (h:yl B s b g st W) (hg:W.grownBy W' none):yl B s b g st W':=by
 obtain ⟨vt,vf,vd,va,vs,vr,ho⟩:=h.own
 exact ⟨h.blk.grown hg (by simp),⟨vt,vf,vd,va,vs,vr,ho.keep fun k _ hk=>hg.block k hk (by simp)⟩,h.lo,h.ok,h.tabs.grown hg⟩
theorem yl.put (h:yl B s b g st W) (st':As.St) (hb:yc W' b (yE s g st') 67) (hg:W.grownBy W' (some b)) (qW:st'.obj=st.obj) (hok:jm s st'):yl B s b g st' W':=by
 obtain ⟨vt,vf,vd,va,vs,vr,ho⟩:=h.own
 refine ⟨hb,⟨vt,vf,vd,va,vs,vr,?_⟩,h.lo,hok,h.tabs.qV hg (by have:=h.lo; omega)⟩
 rw [qW]
 exact ho.keep fun k hk hlt=>hg.block k hlt (by simpa using hk)
theorem yl.size (h:yl B s b g st W):B<=W.heap.size:=by have:=h.blk.lt; have:=h.lo; omega
theorem yl.below (h:yl B s b g st W) {row:Option Nat} (hg:W.grownBy W' row) (hr:∀ k,row=some k->B<=k):Below B W W':=(Below.refl B W).grown hg h.size hr
theorem yl.Er (h:yl B s b g st W) (hg:W.grownBy W' none):Below B W W':=h.below hg (by simp)
theorem yl.Ep (h:yl B s b g st W) (hg:W.grownBy W' (some b)):Below B W W':=h.below hg (by intro k hk; simp at hk; have:=h.lo; omega)
end
def sets (W:World) (b:Nat) (l:List (Nat×Value)):World:=l.foldl (fun w q=>w.setCell ⟨b,q.1,none⟩ q.2) W
def rT (cs:Array Value) (l:List (Nat×Value)):Array Value:=l.foldl (fun a q=>a.setIfInBounds q.1 q.2) cs
theorem Ba {W:World} {b:Nat} {cs:Array Value} {t:TypeId} (l:List (Nat×Value)) (h:yc W b cs t):yc (sets W b l) b (rT cs l) t:=by
 induction l generalizing W cs with
 | nil=>exact h
 | cons q l ih=>exact ih (h.set q.1 q.2)
theorem A9 (W:World) (b:Nat) (l:List (Nat×Value)):W.grownBy (sets W b l) (some b):=by
 induction l generalizing W with
 | nil=>exact World.grownBy.refl _ _
 | cons q l ih=>exact ya (yf W b q.1 q.2) (ih _)
def yR (B:Nat) (s:ByteArray) (b g:Nat) (W:World) (st':As.St) (W':World):Prop:=yl B s b g st' W'/\W.grownBy W' (some b)
def vU (W W':World):Prop:=∀ k cs t,t≠67->t≠71->t≠3->t≠100->t≠102->yc W k cs t->yc W' k cs t
theorem vU.refl (W:World):vU W W:=fun _ _ _ _ _ _ _ _ h=>h
theorem vU.trans {a b c:World} (h:vU a b) (k:vU b c):vU a c:=fun i cs t h1 h2 h3 h4 h5 hb=>k i cs t h1 h2 h3 h4 h5 (h i cs t h1 h2 h3 h4 h5 hb)
theorem vU.none {W W':World} (h:W.grownBy W' none):vU W W':=fun _ _ _ _ _ _ _ _ hb=>hb.grown h (by simp)
def Does (B:Nat) (s:ByteArray) (b g:Nat) (W:World) (st':As.St) (W':World):Prop:=yl B s b g st' W'/\Below B W W'/\vU W W'
section
variable {B:Nat} {s:ByteArray} {b g:Nat} {st st':As.St} {W V V':World}
theorem vU.row (h:yl B s b g st W) (hg:W.grownBy V (some b)):vU W V:=by
 intro k cs t h1 _ _ _ _ hb
 refine hb.grown hg ?_
 intro e
 obtain rfl:k=b:=by simpa using e
 have:=hb.symm.trans h.blk
 simp at this
 exact h1 this.2
theorem yR.does (k:yR B s b g W st' V) (h:yl B s b g st W):Does B s b g W st' V:=⟨k.1,h.Ep k.2,vU.row h k.2⟩
theorem yR.grown (h:yR B s b g W st V) (hg:V.grownBy V' none):yR B s b g W st V':=⟨h.1.grown hg,ya h.2 (ynK hg)⟩
theorem yR.alloc (h:yR B s b g W st V) (o:Obj):yR B s b g W st (V.alloc o):=h.grown (aH V o none)
theorem yR.drewN (h:yR B s b g W st V) (n:Nat):yR B s b g W st (V.drewN n):=h.grown (ye (World.grownBy.refl _ _) n)
theorem yR.after (h:yR B s b g W st V) (k:yR B s b g V st' V'):yR B s b g W st' V':=⟨k.1,ya h.2 k.2⟩
theorem yR.sets (h:yR B s b g W st V) (l:List (Nat×Value)) (st':As.St) (hc:rT (yE s g st) l=yE s g st') (qW:st'.obj=st.obj) (hok:jm s st'):yR B s b g W st' (sets V b l) :=
 ⟨h.1.put st' (by rw [<- hc]; exact Ba l h.1.blk) (A9 V b l) qW hok,ya h.2 (A9 V b l)⟩
theorem yl.jI (h:yl B s b g st W):yR B s b g W st W:=⟨h,World.grownBy.refl _ _⟩
theorem yl.does (h:yl B s b g st W):Does B s b g W st W:=⟨h,Below.refl _ _,vU.refl _⟩
theorem Does.grown (h:Does B s b g W st V) (hg:V.grownBy V' none):Does B s b g W st V':=⟨h.1.grown hg,h.2.1.trans (h.1.Er hg),h.2.2.trans (vU.none hg)⟩
theorem Does.alloc (h:Does B s b g W st V) (o:Obj):Does B s b g W st (V.alloc o):=h.grown (aH V o none)
theorem Does.drewN (h:Does B s b g W st V) (n:Nat):Does B s b g W st (V.drewN n):=h.grown (ye (World.grownBy.refl _ _) n)
theorem Does.after (h:Does B s b g W st V) (k:Does B s b g V st' V'):Does B s b g W st' V':=⟨k.1,h.2.1.trans k.2.1,h.2.2.trans k.2.2⟩
theorem Does.aO (h:Does B s b g W st V) (k:yR B s b g V st' V'):Does B s b g W st' V':=h.after (k.does h.1)
end
def sF (t:TypeId):Prop:=t≠67/\t≠71/\t≠3/\t≠100/\t≠102
section
variable {B:Nat} {s:ByteArray} {b g r:Nat} {st st':As.St} {W V V':World} {cs:Array Value} {t:TypeId} {o:Lk.Obj} {vt vf vd va vs vr:Value}
theorem GN {e:TypeId} {size n:Nat} {v:Value} {xs:List Value} (h:W.ownsRow B e size v n xs) (hr:yc W r cs t) (ht:t≠e) (l:List (Nat×Value)):(sets W r l).ownsRow B e size v n xs:=by
 refine JZ h fun k hk=>?_
 refine (A9 W r l).block k (h.lt k hk).2 ?_
 intro e'
 obtain rfl:k=r:=by simpa using e'
 rcases h.2 with ⟨rfl,_⟩ | ⟨g',cap,cur,rfl,_,hg,_⟩
 ·simp [Value.ownBlock] at hk
 ·obtain rfl:g'=k:=by simpa [Value.ownBlock] using hk
  have:=hg.symm.trans hr
  simp at this
  exact ht this.2.symm
theorem yl.local (h:yl B s b g st V) (hr:yc V r cs t) (ht:sF t) (hB:B<=r) (l:List (Nat×Value)):yl B s b g st (Proofs.YtpgklkhgfcjceaaGreatDoor.sets V r l):=by
 obtain ⟨t1,t2,t3,t4,t5⟩:=ht
 obtain ⟨vt,vf,vd,va,vs,vr,ho⟩:=h.own
 have other:∀ {k:Nat} {cs':Array Value} {t':TypeId},yc V k cs' t'->t≠t'->yc (Proofs.YtpgklkhgfcjceaaGreatDoor.sets V r l) k cs' t':=fun hb hne=>hb.grown (A9 V r l) (by
  intro e
  have e':=Option.some.inj e
  subst e'
  have:=hb.symm.trans hr
  simp at this
  exact hne this.2.symm)
 refine ⟨other h.blk t1,⟨vt,vf,vd,va,vs,vr,other ho.blk t2,GN ho.text hr t3 l,GN ho.far hr t3 l,GN ho.data hr t3 l,GN ho.align hr t3 l,GN ho.syms hr t4 l,GN ho.aj hr t5 l,ho.apart⟩,h.lo,h.ok,h.tabs.qV (A9 V r l) (by have:=h.lo; omega)⟩
theorem yR.local (h:yR B s b g W st V) (hr:yc V r cs t) (ht:sF t) (hB:B<=W.heap.size) (hw:W.heap.size<=r) (l:List (Nat×Value)):yR B s b g W st (Proofs.YtpgklkhgfcjceaaGreatDoor.sets V r l):=by
 refine ⟨h.1.local hr ht (by omega) l,?_⟩
 have g:=A9 V r l
 exact ⟨g.os.trans h.2.os,g.tape.trans h.2.tape,g.output.trans h.2.output,Nat.le_trans h.2.size g.size,fun i hi hne=>(g.block i (Nat.lt_of_lt_of_le hi h.2.size) (by simp; omega)).trans (h.2.block i hi hne)⟩
theorem Does.local (h:Does B s b g W st V) (hr:yc V r cs t) (ht:sF t) (hB:B<=W.heap.size) (hw:W.heap.size<=r) (l:List (Nat×Value)):Does B s b g W st (Proofs.YtpgklkhgfcjceaaGreatDoor.sets V r l):=by
 have g:=A9 V r l
 have hV:B<=V.heap.size:=Nat.le_trans hB h.2.1.size
 refine ⟨h.1.local hr ht (by omega) l,h.2.1.trans ((Below.refl B V).grown g hV (by intro k hk; simp at hk; omega)),fun k cs t' h1 h2 h3 h4 h5 hb=>(h.2.2 k cs t' h1 h2 h3 h4 h5 hb).grown g ?_⟩
 intro e
 have:=hb.lt
 have e':=Option.some.inj e
 omega
end
theorem jm.tok' {s:ByteArray} {st:As.St} (h:jm s st) (t:As.Tok) (ht:uU t) (fe fa:Nat) (h1:fe<=99) (h2:fa<=1000):jm s { st with tok:=t,fe:=fe,fa:=fa } :=
 ⟨h.size,h.p,ht,h1,h2,h.op,h.ah,h.text,h.far,h.data,h.bss,h.align,h.syms,h.aj⟩
theorem G8:uU As.Tok.nil:=⟨by decide,by decide,by decide,by decide⟩
theorem AZ (B:Nat) (s:ByteArray) (b g:Nat) (st:As.St) (W:World) (h:yl B s b g st W) :
  Calls Tryz.prog 33 #[.pointer (some ⟨b,0,none⟩)] W fun e W'=>e = .returned (.bool (As.failed st))/\W'=W:=by
 have k:=h.blk.cell 6
 simp only [yE,bC,bG,bE] at k
 clear h
 have e:(!((st.fe:Int) == 0))=As.failed st:=by unfold As.failed; congr 1; rw [Bool.eq_iff_iff]; simp
 go_enter Tryz.func33,Tryz.ntmps33
 go_wp2
 go_ret
 exact ⟨by rw [<- e]; rfl,rfl⟩
theorem yL {B:Nat} {s:ByteArray} {b g:Nat} {st:As.St} {W:World} (h:yl B s b g st W) (i:Nat):W.cell? ⟨b,i,none⟩=(yE s g st)[i]?:=h.blk.cell i
theorem yJ (B:Nat) (s:ByteArray) (b g:Nat) (st:As.St) (e pos:Nat) (W:World) (h:yl B s b g st W) (he:e<=99) (hp:pos<=1000) :
  Calls Tryz.prog 54 #[.pointer (some ⟨b,0,none⟩),.int .i64 e,.int .i64 pos] W fun en W'=>en = .returned (.tuple #[])/\yR B s b g W (As.refuse e pos st) W':=by
 have cF:=hid (AZ B s b g st W h)
 have H:=hid h
 clear h
 cases hf:As.failed st
 ·have R:=hid (show As.refuse e pos st={ st with fe:=e,fa:=pos,tok:=As.Tok.nil } by unfold As.refuse; rw [hf]; rfl)
  rw [hf] at cF
  clear hf
  have k2:=H.o.blk.free 2
  have k3:=H.o.blk.free 3
  have k4:=H.o.blk.free 4
  have k5:=H.o.blk.free 5
  have k6:=H.o.blk.free 6
  have k7:=H.o.blk.free 7
  have k8:=H.o.blk.free 8
  have c2:=yL H.o 2
  have c3:=yL H.o 3
  have c4:=yL H.o 4
  have c5:=yL H.o 5
  have c6:=yL H.o 6
  have c7:=yL H.o 7
  have c8:=yL H.o 8
  simp only [yE,bC,bG,bE] at c2 c3 c4 c5 c6 c7 c8
  go_enter Tryz.func54,Tryz.ntmps54
  go_wp2_with fail
  refine cF.o.mono ?_
  rintro e w1 ⟨rfl,rfl⟩
  go_wp2
  go_end0
  rw [R.o]
  exact ⟨rfl,H.o.jI.sets [(6,.int .i64 e),(7,.int .i64 pos),(8,.string ⟨#[]⟩),(2,.int .i64 0),(3,.int .i64 0),(4,.string ⟨#[]⟩),(5,.int .i64 0)] _ (by simp only [rT,yE,kH,kQ,fQ,fT,fP]; rfl) rfl (H.o.ok.tok' _ G8 _ _ he hp)⟩
 ·have R:=hid (show As.refuse e pos st=st by unfold As.refuse; rw [hf]; rfl)
  rw [hf] at cF
  clear hf
  go_enter Tryz.func54,Tryz.ntmps54
  go_wp2_with fail
  refine cF.o.mono ?_
  rintro e w1 ⟨rfl,rfl⟩
  go_wp2
  (try simp only [Exit.inBlock,Exit.then]); refine bodyPost_ret (results_none rfl _ _ _) rfl ?_
  rw [R.o]
  exact ⟨rfl,H.o.jI⟩
theorem yng {e:Ending} {P:Prop} {x:Bool} (h:yg e P) (k:x=true↔P):e = .returned (.bool x):=by
 obtain ⟨y,rfl,h2⟩:=h
 have:y=x:=by rw [Bool.eq_iff_iff,h2,k]
 rw [this]
theorem yqo (c:UInt8):pK (c.toNat:Int)↔((97<=c.toNat/\c.toNat<=122)\/c.toNat=95\/(48<=c.toNat/\c.toNat<=57)):=by unfold pK; omega
theorem Pt (c:UInt8) (w:World) :
  Calls Tryz.prog 132 #[.int .u8 c.toNat] w fun e w'=>e = .returned (.bool (As.bM c))/\w'=w:=by
 have cM:=hid (Uy (c.toNat:Int) w (by omega))
 have hI:=hid (yqo c)
 by_cases c1:c.toNat=46
 ·have N:=hid (show As.bM c=true from by unfold As.bM As.bL; simp [c1])
  have hN:¬ pK (c.toNat:Int):=by unfold pK; omega
  have d:((c.toNat:Int) == 46)=true:=by simp; omega
  clear c1
  go_enter Tryz.func132,Tryz.ntmps132
  go_wp2_with fail
  refine cM.o.mono ?_
  rintro e w1 ⟨t1,rfl⟩
  obtain rfl:=yng (x:=false) t1 (by simp [hN])
  go_wp2
  go_ret
  exact ⟨by rw [N.o]; rfl,rfl⟩
 ·have N:=hid (show As.bM c=true↔pK (c.toNat:Int) from by
   rw [hI.o]
   unfold As.bM As.bL
   simp only [Bool.or_eq_true,Bool.and_eq_true,decide_eq_true_eq,beq_iff_eq]
   omega)
  have d:((c.toNat:Int) == 46)=false:=by simp; omega
  clear c1
  go_enter Tryz.func132,Tryz.ntmps132
  go_wp2_with fail
  refine cM.o.mono ?_
  rintro e w1 ⟨t1,rfl⟩
  rcases t1.split with ⟨rfl,p1⟩ | ⟨rfl,p1⟩ <;> clear t1 cM
  ·have P:=hid (show As.bM c=false from by rw [<- Bool.not_eq_true,N.o]; exact p1.o)
   go_wp2
   go_ret
   exact ⟨by rw [P.o]; rfl,rfl⟩
  ·have P:=hid (show As.bM c=true from N.o.2 p1.o)
   go_wp2
   go_ret
   exact ⟨by rw [P.o]; rfl,rfl⟩
theorem ymz (c:UInt8) (w:World) :
  Calls Tryz.prog 134 #[.int .u8 c.toNat] w fun e w'=>e = .returned (.bool (As.nk c))/\w'=w:=by
 have N:=hid (show As.nk c=(c.toNat == 44 || c.toNat == 58 || c.toNat == 40 || c.toNat == 41 || c.toNat == 43 || c.toNat == 45) from rfl)
 generalize As.nk c=x at *
 generalize hc:c.toNat=n at *
 clear hc
 have dec:∀ m:Nat,((n:Int) == (m:Int))=(n == m):=fun m=>by rw [Bool.eq_iff_iff,beq_iff_eq,beq_iff_eq]; omega
 have d1:=dec 44
 have d2:=dec 58
 have d3:=dec 40
 have d4:=dec 41
 have d5:=dec 43
 have d6:=dec 45
 clear dec
 simp only [Int.cast_ofNat_Int] at d1 d2 d3 d4 d5 d6
 generalize (n == 44)=b1 at *
 generalize (n == 58)=b2 at *
 generalize (n == 40)=b3 at *
 generalize (n == 41)=b4 at *
 generalize (n == 43)=b5 at *
 generalize (n == 45)=b6 at *
 cases b1
 ·cases b2
  ·cases b3
   ·cases b4
    ·cases b5
     ·go_enter Tryz.func134,Tryz.ntmps134
      go_wp2
      go_ret
      exact ⟨by rw [N.o]; rfl,rfl⟩
     ·go_enter Tryz.func134,Tryz.ntmps134
      go_wp2
      go_ret
      exact ⟨by rw [N.o]; rfl,rfl⟩
    ·go_enter Tryz.func134,Tryz.ntmps134
     go_wp2
     go_ret
     exact ⟨by rw [N.o]; rfl,rfl⟩
   ·go_enter Tryz.func134,Tryz.ntmps134
    go_wp2
    go_ret
    exact ⟨by rw [N.o]; rfl,rfl⟩
  ·go_enter Tryz.func134,Tryz.ntmps134
   go_wp2
   go_ret
   exact ⟨by rw [N.o]; rfl,rfl⟩
 ·go_enter Tryz.func134,Tryz.ntmps134
  go_wp2
  go_ret
  exact ⟨by rw [N.o]; rfl,rfl⟩
theorem Mf (c:UInt8) (w:World) :
  Calls Tryz.prog 130 #[.int .u8 c.toNat] w fun e w'=>e = .returned (.bool (As.bL c))/\w'=w:=by
 by_cases h:48<=c.toNat/\c.toNat<=57
 ·have e:As.bL c=true:=by unfold As.bL; simp [h]
  rw [e]
  exact O6 _ w (by omega) (by omega)
 ·have e:As.bL c=false:=by unfold As.bL; simp; omega
  rw [e]
  exact Hg _ w (by omega)
def eY (s:ByteArray) (b:Nat) (tail:List Value) (p:Nat) (W:World):Prop:=yc W b (.string s :: .int .i64 p :: tail).toArray 67
section
variable {s:ByteArray} {b:Nat} {tail:List Value} {p:Nat} {W W':World}
theorem eY.c0 (h:eY s b tail p W):W.cell? ⟨b,0,none⟩=some (.string s):=by rw [yc.cell h]; simp
theorem eY.c1 (h:eY s b tail p W):W.cell? ⟨b,1,none⟩=some (.int .i64 p):=by rw [yc.cell h]; simp
theorem eY.f1 (h:eY s b tail p W):W.frozen? ⟨b,1,none⟩=false:=yc.free h 1
theorem eY.drewN (h:eY s b tail p W) (n:Nat):eY s b tail p (W.drewN n):=yc.drewN h n
theorem eY.set (h:eY s b tail p W) (q:Nat):eY s b tail q (W.setCell ⟨b,1,none⟩ (.int .i64 q)):=by
 have:=yc.set h 1 (.int .i64 q)
 simpa [eY] using this
theorem eY.grown (h:eY s b tail p W) (hg:W.grownBy W' none):eY s b tail p W':=yc.grown h hg (by simp)
theorem eY.step (h:eY s b tail p W) (n:Nat) (q:Nat):eY s b tail q ((W.drewN n).setCell ⟨b,1,none⟩ (.int .i64 q)):=(h.drewN n).set q
end
theorem JY {w W:World} {b:Nat} (h:w.grownBy W (some b)) (n:Nat) (v:Value):w.grownBy ((W.drewN n).setCell ⟨b,1,none⟩ v) (some b) :=
 ya (ye h n) (yf _ _ _ _)
def AA (b:Nat) (W:World):Nat:=match W.cell? ⟨b,1,none⟩ with
 | some (.int _ i)=>i.toNat
 | _=>0
theorem eY.pos {s:ByteArray} {b:Nat} {tail:List Value} {p:Nat} {W:World} (h:eY s b tail p W):AA b W=p:=by unfold AA; rw [h.c1]; simp
theorem J5 {s:ByteArray} {b:Nat} {tail:List Value} {k:Nat} {W:World} (h:eY s b tail k W) (n:Nat) (hlt:k < s.size):s.size - AA b ((W.drewN n).setCell ⟨b,1,none⟩ (.int .i64 ((k:Int)+1))) < s.size - AA b W:=by
 rw [h.pos,show ((k:Int)+1)=((k+1:Nat):Int) from by omega,(h.step n (k+1)).pos]; omega
theorem Kg {f:UInt8->Bool} {s:List UInt8} {k:Nat} (h:k < s.length) (hf:f s[k]=true):As.skip f s k=As.skip f s (k+1):=by
 unfold As.skip
 rw [kP h,List.takeWhile_cons_of_pos hf]
 simp; omega
theorem Mk {f:UInt8->Bool} {s:List UInt8} {k:Nat} (h:k < s.length) (hf:f s[k]=false):As.skip f s k=k:=by
 unfold As.skip
 rw [kP h,List.takeWhile_cons_of_neg (by simp [hf])]
 simp
theorem Mv {f:UInt8->Bool} {s:List UInt8} {k:Nat} (h:s.length<=k):As.skip f s k=k:=by
 unfold As.skip
 rw [List.drop_eq_nil_of_le h]
 simp
theorem Kh {f:UInt8->Bool} {s:List UInt8} {k:Nat} (h:k<=s.length):As.skip f s k<=s.length:=by
 unfold As.skip
 have h1:=(List.takeWhile_prefix f (l:=s.drop k)).length_le
 rw [List.length_drop] at h1
 omega
theorem Ke (f:UInt8->Bool) (s:List UInt8) (k:Nat):k<=As.skip f s k:=by unfold As.skip; omega
theorem yqU {f:UInt8->Bool} {s:List UInt8} {k:Nat} (h:As.skip f s k < s.length):f (s[As.skip f s k])=false:=by
 generalize hn:s.length - k=n
 induction n generalizing k with
 | zero =>
  have:As.skip f s k=k:=Mv (by omega)
  omega
 | succ n ih =>
  by_cases hk:k < s.length
  ·cases hf:f s[k]
   ·have e:=Mk hk hf
    simp only [e]; exact hf
   ·have e:=Kg hk hf
    simp only [e] at h ⊢
    exact ih h (by omega)
  ·omega
theorem MG (s:ByteArray) (k:Nat) (h:k < s.size):(sl s)[k]'(by rw [yr]; exact h)=s[k]:=rfl
theorem Zj (s:ByteArray) (b:Nat) (tail:List Value) (p:Nat) (w:World) (h:eY s b tail p w) (hs:s.size<=1000) (hp:p<=s.size) :
  Calls Tryz.prog 128 #[.pointer (some ⟨b,0,none⟩)] w fun e w'=>e = .returned (.tuple #[])/\eY s b tail (As.skip As.blank (sl s) p) w'/\w.grownBy w' (some b):=by
 have H:=hid h
 clear h
 have SL:=hid (yr s)
 go_enter Tryz.func128,Tryz.ntmps128
 go_wp2
 go_loopw [] (fun wr=>∃ k:Nat,k<=s.size/\eY s b tail k wr/\As.skip As.blank (sl s) k=As.skip As.blank (sl s) p/\w.grownBy wr (some b)) (fun wr=>s.size - AA b wr)
 case atStart=>exact ⟨p,hp,H.o,rfl,World.grownBy.refl _ _⟩
 case round =>
  obtain ⟨k,hk,hsc,hsk,hgr⟩:=hrel
  have c0:=hsc.c0
  have c1:=hsc.c1
  have f1:=hsc.f1
  have HS:=hid hsc
  have HK:=hid hsk
  have HG:=hid hgr
  have HP:=hid hsc.pos
  clear hsc hsk hgr
  by_cases hlt:k < s.size
  ·have d:decide ((k:Int) < (s.size:Int))=true:=by simp; omega
   have g1:(0:Int)<=(k:Int):=by omega
   have g2:(k:Int) < (s.size:Int):=by omega
   have HL:=hid (show k < (sl s).length by rw [SL.o]; exact hlt)
   have GET:=hid (MG s k hlt)
   by_cases e1:(s[k]'hlt).toNat=32
   ·have d1:(((s[k]'hlt).toNat:Int) == 32)=true:=by simp; omega
    have E:=hid (Kg (f:=As.blank) HL.o (by rw [GET.o]; unfold As.blank; rw [e1]; rfl))
    clear e1
    go_wp2
    go_quiet (fail)
    go_wp2
    go_roundw
    case rel=>exact ⟨k+1,by omega,HS.o.step _ (k+1),by rw [<- E.o,HK.o],JY HG.o _ _⟩
    case measure=>exact J5 HS.o _ hlt
   ·by_cases e2:(s[k]'hlt).toNat=9
    ·have d1:(((s[k]'hlt).toNat:Int) == 32)=false:=by simp; omega
     have d2:(((s[k]'hlt).toNat:Int) == 9)=true:=by simp; omega
     have E:=hid (Kg (f:=As.blank) HL.o (by rw [GET.o]; unfold As.blank; rw [e2]; rfl))
     clear e1 e2
     go_wp2
     go_quiet (fail)
     go_wp2
     go_roundw
     case rel=>exact ⟨k+1,by omega,HS.o.step _ (k+1),by rw [<- E.o,HK.o],JY HG.o _ _⟩
     case measure=>exact J5 HS.o _ hlt
    ·have d1:(((s[k]'hlt).toNat:Int) == 32)=false:=by simp; omega
     have d2:(((s[k]'hlt).toNat:Int) == 9)=false:=by simp; omega
     have E:=hid (Mk (f:=As.blank) HL.o (by rw [GET.o]; unfold As.blank; rw [Bool.or_eq_false_iff,beq_eq_false_iff_ne,beq_eq_false_iff_ne]; exact ⟨e1,e2⟩))
     clear e1 e2
     go_wp2
     go_quiet (fail)
     go_wp2
     go_end0
     exact ⟨rfl,by rw [<- HK.o,E.o]; exact HS.o.drewN _,ye HG.o _⟩
  ·have d:decide ((k:Int) < (s.size:Int))=false:=by simp; omega
   have E:=hid (Mv (f:=As.blank) (s:=sl s) (k:=k) (by rw [SL.o]; omega))
   go_wp2
   go_quiet (fail)
   go_wp2
   go_end0
   exact ⟨rfl,by rw [<- HK.o,E.o]; exact HS.o.drewN _,ye HG.o _⟩
theorem ykb (s:ByteArray) (b:Nat) (tail:List Value) (p:Nat) (w:World) (h:eY s b tail p w) (hs:s.size<=1000) (hp:p<=s.size) :
  Calls Tryz.prog 133 #[.pointer (some ⟨b,0,none⟩)] w fun e w'=>e = .returned (.tuple #[])/\eY s b tail (As.skip As.bM (sl s) p) w'/\w.grownBy w' (some b):=by
 have H:=hid h
 clear h
 have SL:=hid (yr s)
 go_enter Tryz.func133,Tryz.ntmps133
 go_wp2
 go_loopw [] (fun wr=>∃ k:Nat,k<=s.size/\eY s b tail k wr/\As.skip As.bM (sl s) k=As.skip As.bM (sl s) p/\w.grownBy wr (some b)) (fun wr=>s.size - AA b wr)
 case atStart=>exact ⟨p,hp,H.o,rfl,World.grownBy.refl _ _⟩
 case round =>
  obtain ⟨k,hk,hsc,hsk,hgr⟩:=hrel
  have c0:=hsc.c0
  have c1:=hsc.c1
  have f1:=hsc.f1
  have HS:=hid hsc
  have HK:=hid hsk
  have HG:=hid hgr
  clear hsc hsk hgr
  by_cases hlt:k < s.size
  ·have d:decide ((k:Int) < (s.size:Int))=true:=by simp; omega
   have g1:(0:Int)<=(k:Int):=by omega
   have g2:(k:Int) < (s.size:Int):=by omega
   have HL:=hid (show k < (sl s).length by rw [SL.o]; exact hlt)
   have GET:=hid (MG s k hlt)
   have cW:=hid (fun W=>Pt (s[k]'hlt) W)
   cases e1:As.bM (s[k]'hlt)
   ·have E:=hid (Mk (f:=As.bM) HL.o (by rw [GET.o]; exact e1))
    rw [e1] at cW
    clear e1
    go_wp2
    go_quiet ((go_at_call 132; exact Calls.quiet_of_same (cW.o _)))
    go_wp2
    go_end0
    exact ⟨rfl,by rw [<- HK.o,E.o]; exact HS.o.drewN _,ye HG.o _⟩
   ·have E:=hid (Kg (f:=As.bM) HL.o (by rw [GET.o]; exact e1))
    rw [e1] at cW
    clear e1
    go_wp2
    go_quiet ((go_at_call 132; exact Calls.quiet_of_same (cW.o _)))
    go_wp2
    go_roundw
    case rel=>exact ⟨k+1,by omega,HS.o.step _ (k+1),by rw [<- E.o,HK.o],JY HG.o _ _⟩
    case measure=>exact J5 HS.o _ hlt
  ·have d:decide ((k:Int) < (s.size:Int))=false:=by simp; omega
   have E:=hid (Mv (f:=As.bM) (s:=sl s) (k:=k) (by rw [SL.o]; omega))
   go_wp2
   go_quiet (fail)
   go_wp2
   go_end0
   exact ⟨rfl,by rw [<- HK.o,E.o]; exact HS.o.drewN _,ye HG.o _⟩
theorem ynD (s:ByteArray) (b:Nat) (tail:List Value) (p:Nat) (w:World) (h:eY s b tail p w) (_hs:s.size<=1000) (_hp:p<=s.size) :
  Calls Tryz.prog 129 #[.pointer (some ⟨b,0,none⟩)] w fun e w'=>e = .returned (.bool (((sl s)[p]?.map As.ends).getD true))/\∃ n,w'=w.drewN n:=by
 have c0:=h.c0
 have c1:=h.c1
 clear h
 have SL:=hid (yr s)
 generalize hx:(((sl s)[p]?.map As.ends).getD true)=x
 have HX:=hid hx.symm
 clear hx
 by_cases hlt:p < s.size
 ·have d:decide (s.size<=p)=false:=by simp; omega
  have g1:(0:Int)<=(p:Int):=by omega
  have g2:(p:Int) < (s.size:Int):=by omega
  have E:=hid (show x=As.ends (s[p]'hlt) by rw [HX.o,jF (by rw [SL.o]; exact hlt)]; rfl)
  clear HX
  by_cases e1:(s[p]'hlt).toNat=10
  ·have d1:(((s[p]'hlt).toNat:Int) == 10)=true:=by simp; omega
   have E1:=hid (show As.ends (s[p]'hlt)=true by unfold As.ends; rw [e1]; rfl)
   clear e1
   go_enter Tryz.func129,Tryz.ntmps129
   go_wp2
   go_quiet (fail)
   go_wp2
   go_ret
   exact ⟨by rw [E.o,E1.o]; rfl,_,rfl⟩
  ·by_cases e2:(s[p]'hlt).toNat=35
   ·have d1:(((s[p]'hlt).toNat:Int) == 10)=false:=by simp; omega
    have d2:(((s[p]'hlt).toNat:Int) == 35)=true:=by simp; omega
    have E1:=hid (show As.ends (s[p]'hlt)=true by unfold As.ends; rw [e2]; rfl)
    clear e1 e2
    go_enter Tryz.func129,Tryz.ntmps129
    go_wp2
    go_quiet (fail)
    go_wp2
    go_ret
    exact ⟨by rw [E.o,E1.o]; rfl,_,rfl⟩
   ·have d1:(((s[p]'hlt).toNat:Int) == 10)=false:=by simp; omega
    have d2:(((s[p]'hlt).toNat:Int) == 35)=false:=by simp; omega
    have E1:=hid (show As.ends (s[p]'hlt)=false by unfold As.ends; rw [Bool.or_eq_false_iff,beq_eq_false_iff_ne,beq_eq_false_iff_ne]; exact ⟨e1,e2⟩)
    clear e1 e2
    go_enter Tryz.func129,Tryz.ntmps129
    go_wp2
    go_quiet (fail)
    go_wp2
    go_ret
    exact ⟨by rw [E.o,E1.o]; rfl,_,rfl⟩
 ·have d:decide (s.size<=p)=true:=by simp; omega
  have E:=hid (show x=true by rw [HX.o,List.getElem?_eq_none (by rw [SL.o]; omega)]; rfl)
  go_enter Tryz.func129,Tryz.ntmps129
  go_wp2
  go_quiet (fail)
  go_wp2
  go_ret
  exact ⟨by rw [E.o]; rfl,_,rfl⟩
def mZ (e pos:Nat):Value:=.agg #[.int .i64 e,.int .i64 pos,.string ⟨#[]⟩]
def oC (r:As.Tok×(Nat×Nat)×Nat):Value:=.tuple #[fM r.1,mZ r.2.1.1 r.2.1.2]
theorem Un {w W:World} {row:Option Nat} {r:Nat} (h:w.grownBy W row) (hb:w.heap.size<=r) (l:List (Nat×Value)):w.grownBy (sets W r l) row:=by
 have g:=A9 W r l
 exact ⟨g.os.trans h.os,g.tape.trans h.tape,g.output.trans h.output,Nat.le_trans h.size g.size,fun i hi hr=>(g.block i (Nat.lt_of_lt_of_le hi h.size) (by simp; omega)).trans (h.block i hi hr)⟩
theorem yc.kD {W:World} {g r:Nat} {cs:Array Value} {t:TypeId} (h:yc W g cs t) (hne:g≠r) (l:List (Nat×Value)):yc (sets W r l) g cs t :=
 h.grown (A9 W r l) (by simpa using hne)
theorem yoP (l:List UInt8) (c:UInt8):As.dec (l ++ [c])=10 * As.dec l+(c.toNat - 48):=by unfold As.dec; rw [List.foldl_append]; rfl
theorem yoO (l:List UInt8) (n:Nat) (h:∀ c∈l,As.bL c=true):l.foldl (fun n c=>10 * n+(c.toNat - 48)) n+1<=(n+1) * 10 ^ l.length:=by
 induction l generalizing n with
 | nil=>simp
 | cons c l ih =>
  have h1:=ih (10 * n+(c.toNat - 48)) fun c hc=>h c (by simp [hc])
  have h2:=h c (by simp)
  unfold As.bL at h2
  simp at h2
  rw [kH,iE,Nat.pow_succ]
  have h3:(10 * n+(c.toNat - 48)+1) * 10 ^ l.length<=(10 * (n+1)) * 10 ^ l.length:=Nat.mul_le_mul_right _ (by omega)
  have h4:(n+1) * (10 ^ l.length * 10)=(10 * (n+1)) * 10 ^ l.length:=by rw [Nat.mul_comm 10,Nat.mul_assoc,Nat.mul_comm 10]
  omega
theorem Qs (l:List UInt8) (h:∀ c∈l,As.bL c=true):As.dec l < 10 ^ l.length:=by
 have:=yoO l 0 h
 unfold As.dec
 omega
theorem yof (f:UInt8->Bool) (l:List UInt8):∀ c∈l.takeWhile f,f c=true:=by
 induction l with
 | nil=>simp
 | cons a l ih =>
  intro c hc
  cases hf:f a
  ·rw [List.takeWhile_cons_of_neg (by simp [hf])] at hc
   simp at hc
  ·rw [List.takeWhile_cons_of_pos hf] at hc
   rcases List.mem_cons.1 hc with rfl | hc
   ·exact hf
   ·exact ih c hc
theorem PX (l:List UInt8) (j:Nat) (hj:j < l.length):As.dec (l.take (j+1))=10 * As.dec (l.take j)+(l[j].toNat - 48):=by
 rw [List.take_succ_eq_append_getElem hj,yoP]
theorem WL (l:List UInt8) (h:∀ c∈l,As.bL c=true) (j:Nat) (hj:j<=10):As.dec (l.take j)<=9999999999:=by
 have h1:=Qs (l.take j) fun c hc=>h c (List.mem_of_mem_take hc)
 have h2:(l.take j).length<=10:=by rw [List.length_take]; omega
 have h3:10 ^ (l.take j).length<=10 ^ 10:=Nat.pow_le_pow_right (by decide) h2
 omega
theorem UK (f:UInt8->Bool) (s:ByteArray) (p:Nat) (hp:p<=s.size) (ds:List UInt8) (hd:ds=((sl s).drop p).takeWhile f) :
  (∀ c∈ds,f c=true)/\p+ds.length<=s.size/\(∀ j (h:j < ds.length) (hk:p+j < s.size),s[p+j]'hk=ds[j])/\(∀ hk:p+ds.length < s.size,f (s[p+ds.length]'hk)=false):=by
 have hpre:ds <+: (sl s).drop p:=by rw [hd]; exact List.takeWhile_prefix f
 have hlen:p+ds.length<=s.size:=by have:=hpre.length_le; rw [List.length_drop,yr] at this; omega
 refine ⟨fun c hc=>?_,hlen,fun j h hk=>?_,fun hk=>?_⟩
 ·rw [hd] at hc
  exact yof f _ c hc
 ·have h1:=hpre.getElem h
  rw [h1,List.getElem_drop]
  rfl
 ·have e:As.skip f (sl s) p=p+ds.length:=by unfold As.skip; rw [<- hd]
  have:=yqU (f:=f) (s:=sl s) (k:=p) (by rw [e,yr]; exact hk)
  simp only [e] at this
  exact this
structure r9 (s:ByteArray) (b:Nat) (tail:List Value) (w:World) (k:Nat) (W:World):Prop where
 t:yc W w.heap.size #[.int .i64 0,.int .i64 0,.string ⟨#[]⟩,.int .i64 0] 64
 f:yc W (w.heap.size+1) #[.int .i64 0,.int .i64 0,.string ⟨#[]⟩] 45
 sc:eY s b tail k W
 gr:w.grownBy W (some b)
theorem r9.drewN {s:ByteArray} {b:Nat} {tail:List Value} {w:World} {k:Nat} {W:World} (h:r9 s b tail w k W) (n:Nat):r9 s b tail w k (W.drewN n) :=
 ⟨h.t.drewN n,h.f.drewN n,h.sc.drewN n,ye h.gr n⟩
theorem r9.step {s:ByteArray} {b:Nat} {tail:List Value} {w:World} {k:Nat} {W:World} (h:r9 s b tail w k W) (hb:b < w.heap.size) (q:Nat):r9 s b tail w q (W.setCell ⟨b,1,none⟩ (.int .i64 q)) :=
 ⟨h.t.grown (yf _ _ _ _) (by simp; omega),h.f.grown (yf _ _ _ _) (by simp; omega),h.sc.set q,ya h.gr (yf _ _ _ _)⟩
theorem r9.put {s:ByteArray} {b:Nat} {tail:List Value} {w:World} {k:Nat} {W:World} (h:r9 s b tail w k W) (hb:b < w.heap.size) (a0 a1 a2 a3 z0 z1 z2:Value) :
  let W':=sets (sets W w.heap.size [(0,a0),(1,a1),(2,a2),(3,a3)]) (w.heap.size+1) [(0,z0),(1,z1),(2,z2)]
  yc W' w.heap.size #[a0,a1,a2,a3] 64/\yc W' (w.heap.size+1) #[z0,z1,z2] 45/\eY s b tail k W'/\w.grownBy W' (some b):=by
 have t1:=Ba [(0,a0),(1,a1),(2,a2),(3,a3)] h.t
 have f1:=h.f.kD (r:=w.heap.size) (by omega) [(0,a0),(1,a1),(2,a2),(3,a3)]
 have f2:=Ba [(0,z0),(1,z1),(2,z2)] f1
 simp only [rT,kH,kQ,fQ,fT,fP] at t1 f2
 exact ⟨t1.kD (by omega) _,f2,yc.kD (yc.kD h.sc (by omega) _) (by omega) _,Un (Un h.gr (by omega) _) (by omega) _⟩
set_option maxRecDepth 100000 in
theorem yly (s:ByteArray) (b:Nat) (tail:List Value) (p:Nat) (w:World) (h:eY s b tail p w) (hs:s.size<=1000) (hp:p<=s.size) :
  Calls Tryz.prog 131 #[.pointer (some ⟨b,0,none⟩)] w fun e w'=>e = .returned (oC (As.iM (sl s) p))/\eY s b tail (As.iM (sl s) p).2.2 w'/\w.grownBy w' (some b):=by
 have H:=hid h
 have hbl:=yc.lt h
 have c1:=h.c1
 clear h
 have SL:=hid (yr s)
 generalize hD:((sl s).drop p).takeWhile As.bL=ds
 obtain ⟨w1,w2,w3,w4⟩:=UK As.bL s p hp ds hD.symm
 have SN:=hid (show As.iM (sl s) p=if 10 < ds.length then (As.Tok.nil,(5,p),p+10) else if (((sl s)[p+ds.length]?).map As.bM).getD false then (As.Tok.nil,(2,p+ds.length),p+ds.length) else (⟨2,p,ds,As.dec ds⟩,(0,0),p+ds.length) from by
  unfold As.iM As.skip; rw [hD])
 generalize As.iM (sl s) p=R at *
 have Ir:=hid w1
 have XE:=hid w3
 have HST:=hid w4
 have II:=hid (show ds=((sl s).drop p).take ds.length from by
  have:=List.prefix_iff_eq_take.1 (List.takeWhile_prefix As.bL (l:=(sl s).drop p))
  rw [hD] at this
  exact this)
 clear hD w1 w3 w4
 have B1:Hd (yc ((w.alloc (.cells #[.int .i64 0,.int .i64 0,.string ⟨#[]⟩,.int .i64 0] 64)).alloc (.cells #[.int .i64 0,.int .i64 0,.string ⟨#[]⟩] 45)) w.heap.size #[.int .i64 0,.int .i64 0,.string ⟨#[]⟩,.int .i64 0] 64) :=
  (yc.new w _ _).grown (aH _ _ none) (by simp)
 have B2:Hd (yc ((w.alloc (.cells #[.int .i64 0,.int .i64 0,.string ⟨#[]⟩,.int .i64 0] 64)).alloc (.cells #[.int .i64 0,.int .i64 0,.string ⟨#[]⟩] 45)) (w.heap.size+1) #[.int .i64 0,.int .i64 0,.string ⟨#[]⟩] 45):=by
  have:=yc.new (w.alloc (.cells #[.int .i64 0,.int .i64 0,.string ⟨#[]⟩,.int .i64 0] 64)) #[.int .i64 0,.int .i64 0,.string ⟨#[]⟩] 45
  rw [show (w.alloc (.cells #[.int .i64 0,.int .i64 0,.string ⟨#[]⟩,.int .i64 0] 64)).heap.size=w.heap.size+1 by simp] at this
  exact this
 have B3:Hd (eY s b tail p ((w.alloc (.cells #[.int .i64 0,.int .i64 0,.string ⟨#[]⟩,.int .i64 0] 64)).alloc (.cells #[.int .i64 0,.int .i64 0,.string ⟨#[]⟩] 45))) :=
  (H.o.grown (aH _ _ none)).grown (aH _ _ none)
 have B4:Hd (w.grownBy ((w.alloc (.cells #[.int .i64 0,.int .i64 0,.string ⟨#[]⟩,.int .i64 0] 64)).alloc (.cells #[.int .i64 0,.int .i64 0,.string ⟨#[]⟩] 45)) (some b)) :=
  ya (aH _ _ _) (aH _ _ _)
 have B5:Hd (∀ W:World,W=(w.alloc (.cells #[.int .i64 0,.int .i64 0,.string ⟨#[]⟩,.int .i64 0] 64)).alloc (.cells #[.int .i64 0,.int .i64 0,.string ⟨#[]⟩] 45)->r9 s b tail w p W):=fun W hW=>by subst hW; exact ⟨B1.o,B2.o,B3.o,B4.o⟩
 clear B1 B2 B3 B4
 go_enter Tryz.func131,Tryz.ntmps131
 go_wp2
 go_loopw [5] (fun n wr=>∃ j k:Nat,j<=ds.length/\j<=10/\n = .int .i64 (As.dec (ds.take j))/\r9 s b tail w k wr/\k=p+j) (fun _ wr=>s.size - AA b wr)
 case atStart=>exact ⟨0,p,by omega,by omega,by simp [As.dec],B5.o _ rfl,rfl⟩
 case round =>
  obtain ⟨j,k,hj,Ol,rfl,hst,hkj⟩:=hrel
  have HS:=hid hst
  have c0:=hst.sc.c0
  have c1:=hst.sc.c1
  have f1:=hst.sc.f1
  have t0:=hst.t.cell 0
  have t1:=hst.t.cell 1
  have t2:=hst.t.cell 2
  have t3:=hst.t.cell 3
  have v0:=hst.t.free 0
  have v1:=hst.t.free 1
  have v2:=hst.t.free 2
  have v3:=hst.t.free 3
  have x0:=hst.f.cell 0
  have x1:=hst.f.cell 1
  have x2:=hst.f.cell 2
  have y0:=hst.f.free 0
  have y1:=hst.f.free 1
  have y2:=hst.f.free 2
  simp only [bC,bG,bE] at t0 t1 t2 t3 x0 x1 x2
  have hdec:=WL ds Ir.o j Ol
  have Iw:=hid (PX ds j)
  generalize hn:As.dec (ds.take j)=n at *
  have HN:=hid hn
  clear hn
  have KJ:=hid hkj
  clear hst B5 hkj
  by_cases hlt:k < s.size
  ·have d:decide ((k:Int) < (s.size:Int))=true:=by simp; omega
   have g1:(0:Int)<=(k:Int):=by omega
   have g2:(k:Int) < (s.size:Int):=by omega
   have cD:=hid (fun W=>Mf (s[k]'hlt) W)
   by_cases hjd:j < ds.length
   ·have ED:=hid (show (s[k]'hlt)=ds[j] from by have e:=KJ.o; subst e; exact XE.o j hjd hlt)
    have hdg:As.bL (s[k]'hlt)=true:=by rw [ED.o]; exact Ir.o _ (gW hjd)
    rw [hdg] at cD
    have DR:=hid hdg
    clear hdg
    by_cases h10:j=10
    ·have RR:=hid (show R=(As.Tok.nil,(5,p),k) by rw [SN.o,if_pos (by omega),KJ.o,h10])
     have d3:((k:Int) - (p:Int) == 10)=true:=by have:=KJ.o; simp; omega
     clear h10
     go_wp2
     go_quiet ((go_at_call 130; exact Calls.quiet_of_same (cD.o _)))
     go_wp2
     have F:=(HS.o.drewN nq).put hbl (.int .i64 0) (.int .i64 0) (.string ⟨#[]⟩) (.int .i64 0) (.int .i64 5) (.int .i64 p) (.string ⟨#[]⟩)
     have e0:=F.1.cell 0
     have e1:=F.1.cell 1
     have e2:=F.1.cell 2
     have e3:=F.1.cell 3
     have h0:=F.2.1.cell 0
     have h1:=F.2.1.cell 1
     have h2:=F.2.1.cell 2
     simp only [bC,bG,bE] at e0 e1 e2 e3 h0 h1 h2
     refine bodyPost_ret (v:=oC R) ?_ rfl ⟨rfl,by rw [RR.o]; exact F.2.2.1,F.2.2.2⟩
     rw [RR.o]
     clear F t0 t1 t2 t3 v0 v1 v2 v3 x0 x1 x2 y0 y1 y2 HS
     simp only [sets,kH,kQ] at e0 e1 e2 e3 h0 h1 h2
     generalize World.setCell _ _ _=WF at *
     simp [results,Tryz.results131,go_sem,oC,fM,mZ,As.Tok.nil,bs,e0,e1,e2,e3,h0,h1,h2]
    ·have d3:((k:Int) - (p:Int) == 10)=false:=by have:=KJ.o; simp; omega
     go_wp2
     go_quiet ((go_at_call 130; exact Calls.quiet_of_same (cD.o _)))
     go_wp2
     go_quiet (fail)
     go_wp2
     refine ⟨⟨j+1,k+1,by omega,by omega,?_,(HS.o.drewN _).step hbl (k+1),by have:=KJ.o; omega⟩,J5 HS.o.sc _ hlt⟩
     rw [Iw.o hjd,<- ED.o]
     have:=DR.o
     unfold As.bL at this
     simp at this
     congr 1
     omega
   ·have hst:=hid (HST.o)
    have ej:j=ds.length:=by omega
    have hdg:As.bL (s[k]'hlt)=false:=by
     have e:=KJ.o
     subst e
     subst ej
     exact HST.o hlt
    rw [hdg] at cD
    clear hdg
    have cW:=hid (fun W=>Pt (s[k]'hlt) W)
    have KO:=hid (show (((sl s)[p+ds.length]?).map As.bM).getD false=As.bM (s[k]'hlt) from by
     have e:=KJ.o
     subst e
     subst ej
     rw [jF (by rw [SL.o]; exact hlt)]
     rfl)
    have EJ:=hid ej
    clear ej
    cases hw:As.bM (s[k]'hlt)
    ·have RR:=hid (show R=(⟨2,p,ds,n⟩,(0,0),k) by
      rw [SN.o,if_neg (by have:=EJ.o; omega),KO.o,hw,KJ.o,<- HN.o,EJ.o,List.take_length]
      rfl)
     rw [hw] at cW
     clear hw
     have EX:=hid (show s.extract p k=bs ds from by rw [JX,KJ.o,Nat.add_sub_cancel_left,EJ.o]; exact congrArg bs II.o.symm)
     have hpk:(p:Int)<=(k:Int):=by have:=KJ.o; omega
     have hks:(k:Int)<=(s.size:Int):=by have:=KJ.o; omega
     have hp0:(0:Int)<=(p:Int):=by omega
     go_wp2
     go_quiet ((go_at_call 130; exact Calls.quiet_of_same (cD.o _)))
     clear cD
     have HS2:=hid (HS.o.drewN nq)
     generalize wr.drewN nq=V at *
     clear HS c0 c1 f1 t0 t1 t2 t3 v0 v1 v2 v3 x0 x1 x2 y0 y1 y2
     have c0:=HS2.o.sc.c0
     have c1:=HS2.o.sc.c1
     have f1:=HS2.o.sc.f1
     have t0:=HS2.o.t.cell 0
     have t1:=HS2.o.t.cell 1
     have t2:=HS2.o.t.cell 2
     have t3:=HS2.o.t.cell 3
     have v0:=HS2.o.t.free 0
     have v1:=HS2.o.t.free 1
     have v2:=HS2.o.t.free 2
     have v3:=HS2.o.t.free 3
     have x0:=HS2.o.f.cell 0
     have x1:=HS2.o.f.cell 1
     have x2:=HS2.o.f.cell 2
     have y0:=HS2.o.f.free 0
     have y1:=HS2.o.f.free 1
     have y2:=HS2.o.f.free 2
     simp only [bC,bG,bE] at t0 t1 t2 t3 x0 x1 x2
     go_wp2
     go_quiet ((go_at_call 132; exact Calls.quiet_of_same (cW.o _)))
     go_wp2
     go_region
     go_wp2
     rw [EX.o]
     have F:=(HS2.o.drewN (nq+1)).put hbl (.int .i64 2) (.int .i64 p) (.string (bs ds)) (.int .i64 n) (.int .i64 0) (.int .i64 0) (.string ⟨#[]⟩)
     have e0:=F.1.cell 0
     have e1:=F.1.cell 1
     have e2:=F.1.cell 2
     have e3:=F.1.cell 3
     have h0:=F.2.1.cell 0
     have h1:=F.2.1.cell 1
     have h2:=F.2.1.cell 2
     simp only [bC,bG,bE] at e0 e1 e2 e3 h0 h1 h2
     refine bodyPost_ret (v:=oC R) ?_ rfl ⟨rfl,by rw [RR.o]; exact F.2.2.1,F.2.2.2⟩
     rw [RR.o]
     clear F t0 t1 t2 t3 v0 v1 v2 v3 x0 x1 x2 y0 y1 y2 HS2
     simp only [sets,kH,kQ] at e0 e1 e2 e3 h0 h1 h2
     generalize World.setCell _ _ _=WF at *
     simp [results,Tryz.results131,go_sem,oC,fM,mZ,e0,e1,e2,e3,h0,h1,h2]
    ·have RR:=hid (show R=(As.Tok.nil,(2,k),k) by
      rw [SN.o,if_neg (by have:=EJ.o; omega),KO.o,hw,KJ.o,EJ.o]
      rfl)
     rw [hw] at cW
     clear hw
     go_wp2
     go_quiet ((go_at_call 130; exact Calls.quiet_of_same (cD.o _)))
     clear cD
     have HS2:=hid (HS.o.drewN nq)
     generalize wr.drewN nq=V at *
     clear HS c0 c1 f1 t0 t1 t2 t3 v0 v1 v2 v3 x0 x1 x2 y0 y1 y2
     have c0:=HS2.o.sc.c0
     have c1:=HS2.o.sc.c1
     have f1:=HS2.o.sc.f1
     have t0:=HS2.o.t.cell 0
     have t1:=HS2.o.t.cell 1
     have t2:=HS2.o.t.cell 2
     have t3:=HS2.o.t.cell 3
     have v0:=HS2.o.t.free 0
     have v1:=HS2.o.t.free 1
     have v2:=HS2.o.t.free 2
     have v3:=HS2.o.t.free 3
     have x0:=HS2.o.f.cell 0
     have x1:=HS2.o.f.cell 1
     have x2:=HS2.o.f.cell 2
     have y0:=HS2.o.f.free 0
     have y1:=HS2.o.f.free 1
     have y2:=HS2.o.f.free 2
     simp only [bC,bG,bE] at t0 t1 t2 t3 x0 x1 x2
     go_wp2
     go_quiet ((go_at_call 132; exact Calls.quiet_of_same (cW.o _)))
     go_wp2
     go_region
     go_wp2
     have F:=(HS2.o.drewN (nq+1)).put hbl (.int .i64 0) (.int .i64 0) (.string ⟨#[]⟩) (.int .i64 0) (.int .i64 2) (.int .i64 k) (.string ⟨#[]⟩)
     have e0:=F.1.cell 0
     have e1:=F.1.cell 1
     have e2:=F.1.cell 2
     have e3:=F.1.cell 3
     have h0:=F.2.1.cell 0
     have h1:=F.2.1.cell 1
     have h2:=F.2.1.cell 2
     simp only [bC,bG,bE] at e0 e1 e2 e3 h0 h1 h2
     refine bodyPost_ret (v:=oC R) ?_ rfl ⟨rfl,by rw [RR.o]; exact F.2.2.1,F.2.2.2⟩
     rw [RR.o]
     clear F t0 t1 t2 t3 v0 v1 v2 v3 x0 x1 x2 y0 y1 y2 HS2
     simp only [sets,kH,kQ] at e0 e1 e2 e3 h0 h1 h2
     generalize World.setCell _ _ _=WF at *
     simp [results,Tryz.results131,go_sem,oC,fM,mZ,As.Tok.nil,bs,e0,e1,e2,e3,h0,h1,h2]
  ·have d:decide ((k:Int) < (s.size:Int))=false:=by simp; omega
   have ej:j=ds.length:=by have:=KJ.o; omega
   have EJ:=hid ej
   clear ej
   have KO:=hid (show (((sl s)[p+ds.length]?).map As.bM).getD false=false from by
    have e:=KJ.o
    have e2:=EJ.o
    rw [List.getElem?_eq_none (by rw [SL.o]; omega)]
    rfl)
   have RR:=hid (show R=(⟨2,p,ds,n⟩,(0,0),k) by
    rw [SN.o,if_neg (by have:=EJ.o; omega),KO.o,KJ.o,<- HN.o,EJ.o,List.take_length]
    rfl)
   have EX:=hid (show s.extract p k=bs ds from by rw [JX,KJ.o,Nat.add_sub_cancel_left,EJ.o]; exact congrArg bs II.o.symm)
   have hpk:(p:Int)<=(k:Int):=by have:=KJ.o; omega
   have hks:(k:Int)<=(s.size:Int):=by have:=KJ.o; omega
   have hp0:(0:Int)<=(p:Int):=by omega
   go_wp2
   go_quiet (fail)
   have HS2:=hid (HS.o.drewN nq)
   generalize wr.drewN nq=V at *
   clear HS c0 c1 f1 t0 t1 t2 t3 v0 v1 v2 v3 x0 x1 x2 y0 y1 y2
   have c0:=HS2.o.sc.c0
   have c1:=HS2.o.sc.c1
   have f1:=HS2.o.sc.f1
   have t0:=HS2.o.t.cell 0
   have t1:=HS2.o.t.cell 1
   have t2:=HS2.o.t.cell 2
   have t3:=HS2.o.t.cell 3
   have v0:=HS2.o.t.free 0
   have v1:=HS2.o.t.free 1
   have v2:=HS2.o.t.free 2
   have v3:=HS2.o.t.free 3
   have x0:=HS2.o.f.cell 0
   have x1:=HS2.o.f.cell 1
   have x2:=HS2.o.f.cell 2
   have y0:=HS2.o.f.free 0
   have y1:=HS2.o.f.free 1
   have y2:=HS2.o.f.free 2
   simp only [bC,bG,bE] at t0 t1 t2 t3 x0 x1 x2
   go_wp2
   go_quiet (fail)
   go_wp2
   go_region
   go_wp2
   rw [EX.o]
   have F:=(HS2.o.drewN (nq+1)).put hbl (.int .i64 2) (.int .i64 p) (.string (bs ds)) (.int .i64 n) (.int .i64 0) (.int .i64 0) (.string ⟨#[]⟩)
   have e0:=F.1.cell 0
   have e1:=F.1.cell 1
   have e2:=F.1.cell 2
   have e3:=F.1.cell 3
   have h0:=F.2.1.cell 0
   have h1:=F.2.1.cell 1
   have h2:=F.2.1.cell 2
   simp only [bC,bG,bE] at e0 e1 e2 e3 h0 h1 h2
   refine bodyPost_ret (v:=oC R) ?_ rfl ⟨rfl,by rw [RR.o]; exact F.2.2.1,F.2.2.2⟩
   rw [RR.o]
   clear F t0 t1 t2 t3 v0 v1 v2 v3 x0 x1 x2 y0 y1 y2 HS2
   simp only [sets,kH,kQ] at e0 e1 e2 e3 h0 h1 h2
   generalize World.setCell _ _ _=WF at *
   simp [results,Tryz.results131,go_sem,oC,fM,mZ,e0,e1,e2,e3,h0,h1,h2]
theorem yc.drew {W:World} {g:Nat} {cs:Array Value} {t:TypeId} (h:yc W g cs t):yc W.drew g cs t:=h
theorem r9.begin {s:ByteArray} {b:Nat} {tail:List Value} {p:Nat} {w:World} (h:eY s b tail p w):r9 s b tail w p ((w.alloc (.cells #[.int .i64 0,.int .i64 0,.string ⟨#[]⟩,.int .i64 0] 64)).alloc (.cells #[.int .i64 0,.int .i64 0,.string ⟨#[]⟩] 45)):=by
 refine ⟨(yc.new w _ _).grown (aH _ _ none) (by simp),?_,(h.grown (aH _ _ none)).grown (aH _ _ none),ya (aH _ _ _) (aH _ _ _)⟩
 have:=yc.new (w.alloc (.cells #[.int .i64 0,.int .i64 0,.string ⟨#[]⟩,.int .i64 0] 64)) #[.int .i64 0,.int .i64 0,.string ⟨#[]⟩] 45
 rw [show (w.alloc (.cells #[.int .i64 0,.int .i64 0,.string ⟨#[]⟩,.int .i64 0] 64)).heap.size=w.heap.size+1 by simp] at this
 exact this
theorem r9.call {s:ByteArray} {b:Nat} {tail:List Value} {w:World} {k k':Nat} {W W':World} (h:r9 s b tail w k W) (hb:b < w.heap.size) (hsc:eY s b tail k' W') (hg:W.grownBy W' (some b)):r9 s b tail w k' W' :=
 ⟨h.t.grown hg (by simp; omega),h.f.grown hg (by simp; omega),hsc,ya h.gr hg⟩
set_option maxRecDepth 100000 in
theorem ypw (s:ByteArray) (b:Nat) (tail:List Value) (p:Nat) (w:World) (h:eY s b tail p w) (hs:s.size<=1000) (hp:p<=s.size) :
  Calls Tryz.prog 84 #[.pointer (some ⟨b,0,none⟩)] w fun e w'=>e = .returned (oC (As.next (sl s) p))/\eY s b tail (As.next (sl s) p).2.2 w'/\w.grownBy w' (some b):=by
 have hbl:=yc.lt h
 have B0:=hid (r9.begin h)
 have Om:As.skip As.blank (sl s) p<=s.size:=by have:=Kh (f:=As.blank) (s:=sl s) (k:=p) (by rw [yr]; exact hp); rw [yr] at this; exact this
 have cB:=hid (fun W hW=>Zj s b tail p W hW hs hp)
 have RR:=hid (show As.next (sl s) p=As.iX (sl s) (As.skip As.blank (sl s) p) from rfl)
 clear h
 generalize As.next (sl s) p=R at *
 generalize As.skip As.blank (sl s) p=q at *
 have cE:=hid (fun W hW=>ynD s b tail q W hW hs Om)
 have cN:=hid (fun W hW=>yly s b tail q W hW hs Om)
 have cW:=hid (fun W hW=>ykb s b tail q W hW hs Om)
 go_enter Tryz.func84,Tryz.ntmps84
 go_wp2_with fail
 refine Calls.aJ (r9 s b tail w p) B0.o ?_
 clear B0
 intro V h0
 refine (cB.o V h0.sc).mono ?_
 rintro e V1 ⟨rfl,hsc,hg⟩
 have H1:=hid (h0.call hbl hsc hg)
 clear h0 hsc hg cB V
 have c1:=H1.o.sc.c1
 go_wp2_with fail
 refine (cE.o V1 H1.o.sc).mono ?_
 rintro e V2 ⟨rfl,nn,rfl⟩
 have H2:=hid (H1.o.drewN nn)
 clear H1 cE c1
 generalize V1.drewN nn=V2 at *
 by_cases hlt:q < s.size
 ·have GQ:=hid (show (sl s)[q]?=some (s[q]'hlt) from by rw [jF (by rw [yr]; exact hlt)]; rfl)
  have vZ:=hid (show R=(if As.ends (s[q]'hlt) then (⟨4,q,[],0⟩,(0,0),q) else if As.bL (s[q]'hlt) then As.iM (sl s) q else if As.bM (s[q]'hlt) then (⟨1,q,((sl s).drop q).takeWhile As.bM,0⟩,(0,0),As.skip As.bM (sl s) q) else if As.nk (s[q]'hlt) then (⟨3,q,[s[q]'hlt],0⟩,(0,0),q+1) else (As.Tok.nil,(2,q),q)) from by
   rw [RR.o]; unfold As.iX; rw [GQ.o])
  rw [show ((sl s)[q]?.map As.ends).getD true=As.ends (s[q]'hlt) from by rw [GQ.o]; rfl]
  clear RR GQ
  cases hE:As.ends (s[q]'hlt)
  ·simp only [hE,Bool.false_eq_true,if_false] at vZ
   clear hE
   have c0:=H2.o.sc.c0
   have c1:=H2.o.sc.c1
   have f1:=H2.o.sc.f1
   have t0:=H2.o.t.cell 0
   have t1:=H2.o.t.cell 1
   have t2:=H2.o.t.cell 2
   have t3:=H2.o.t.cell 3
   have v0:=H2.o.t.free 0
   have v1:=H2.o.t.free 1
   have v2:=H2.o.t.free 2
   have v3:=H2.o.t.free 3
   have x0:=H2.o.f.cell 0
   have x1:=H2.o.f.cell 1
   have x2:=H2.o.f.cell 2
   have y0:=H2.o.f.free 0
   have y1:=H2.o.f.free 1
   have y2:=H2.o.f.free 2
   simp only [bC,bG,bE] at t0 t1 t2 t3 x0 x1 x2
   have g1:(0:Int)<=(q:Int):=by omega
   have g2:(q:Int) < (s.size:Int):=by omega
   have cD:=hid (fun W=>Mf (s[q]'hlt) W)
   have cI:=hid (fun W=>Pt (s[q]'hlt) W)
   have cS:=hid (fun W=>ymz (s[q]'hlt) W)
   go_wp2_with fail
   refine (cD.o _).mono ?_
   rintro e w1 ⟨rfl,rfl⟩
   clear cD
   cases hD:As.bL (s[q]'hlt)
   ·simp only [hD,Bool.false_eq_true,if_false] at vZ
    clear hD
    go_wp2_with fail
    refine (cI.o _).mono ?_
    rintro e w1 ⟨rfl,rfl⟩
    clear cI
    cases hI:As.bM (s[q]'hlt)
    ·simp only [hI,Bool.false_eq_true,if_false] at vZ
     clear hI
     go_wp2_with fail
     refine (cS.o _).mono ?_
     rintro e w1 ⟨rfl,rfl⟩
     clear cS
     cases hS:As.nk (s[q]'hlt)
     ·simp only [hS,Bool.false_eq_true,if_false] at vZ
      clear hS
      have RF:=hid vZ.o
      go_wp2
      have F:=H2.o.put hbl (.int .i64 0) (.int .i64 0) (.string ⟨#[]⟩) (.int .i64 0) (.int .i64 2) (.int .i64 q) (.string ⟨#[]⟩)
      have e0:=F.1.cell 0
      have e1:=F.1.cell 1
      have e2:=F.1.cell 2
      have e3:=F.1.cell 3
      have h0:=F.2.1.cell 0
      have h1:=F.2.1.cell 1
      have h2:=F.2.1.cell 2
      simp only [bC,bG,bE] at e0 e1 e2 e3 h0 h1 h2
      refine bodyPost_ret (v:=oC R) ?_ rfl ⟨rfl,by rw [RF.o]; exact F.2.2.1,F.2.2.2⟩
      rw [RF.o]
      clear F t0 t1 t2 t3 v0 v1 v2 v3 x0 x1 x2 y0 y1 y2 H2
      simp only [sets,kH,kQ] at e0 e1 e2 e3 h0 h1 h2
      generalize World.setCell _ _ _=WF at *
      simp [results,Tryz.results84,go_sem,oC,fM,mZ,As.Tok.nil,bs,e0,e1,e2,e3,h0,h1,h2]
     ·simp only [hS,if_true] at vZ
      clear hS
      have RF:=hid vZ.o
      have EX:=hid (show s.extract q (q+1)=bs [s[q]'hlt] from by rw [JX,Nat.add_sub_cancel_left]; exact congrArg bs (by rw [kP (by rw [yr]; exact hlt)]; rfl))
      have g3:(q:Int)+1<=(s.size:Int):=by omega
      have g4:(q:Int)<=(q:Int)+1:=by omega
      go_wp2
      go_region
      go_wp2
      rw [EX.o]
      have F:=(show r9 s b tail w (q+1) (w1.setCell ⟨b,1,none⟩ (.int .i64 ((q:Int)+1))) from H2.o.step hbl (q+1)).put hbl (.int .i64 3) (.int .i64 q) (.string (bs [s[q]'hlt])) (.int .i64 0) (.int .i64 0) (.int .i64 0) (.string ⟨#[]⟩)
      have e0:=F.1.drew.cell 0
      have e1:=F.1.drew.cell 1
      have e2:=F.1.drew.cell 2
      have e3:=F.1.drew.cell 3
      have h0:=F.2.1.drew.cell 0
      have h1:=F.2.1.drew.cell 1
      have h2:=F.2.1.drew.cell 2
      simp only [bC,bG,bE] at e0 e1 e2 e3 h0 h1 h2
      refine bodyPost_ret (v:=oC R) ?_ rfl ⟨rfl,by rw [RF.o]; exact yc.drew F.2.2.1,yi F.2.2.2⟩
      rw [RF.o]
      clear F t0 t1 t2 t3 v0 v1 v2 v3 x0 x1 x2 y0 y1 y2 H2
      simp only [sets,kH,kQ] at e0 e1 e2 e3 h0 h1 h2
      generalize World.drew _=WF at *
      simp [results,Tryz.results84,go_sem,oC,fM,mZ,e0,e1,e2,e3,h0,h1,h2]
    ·simp only [hI,if_true] at vZ
     clear hI
     have RF:=hid vZ.o
     have hr:=Kh (f:=As.bM) (s:=sl s) (k:=q) (by rw [yr]; omega)
     rw [yr] at hr
     have hr2:=Ke As.bM (sl s) q
     have EX:=hid (show s.extract q (As.skip As.bM (sl s) q)=bs (((sl s).drop q).takeWhile As.bM) from by
      rw [JX]
      unfold As.skip
      rw [Nat.add_sub_cancel_left]
      exact congrArg bs (List.prefix_iff_eq_take.1 (List.takeWhile_prefix As.bM)).symm)
     clear t0 t1 t2 t3 v0 v1 v2 v3 x0 x1 x2 y0 y1 y2 c0 c1 f1
     go_wp2_with fail
     refine (cW.o _ H2.o.sc).mono ?_
     rintro e V3 ⟨rfl,hsc,hg⟩
     have H3:=hid (H2.o.call hbl hsc hg)
     clear hsc hg cW H2
     generalize As.skip As.bM (sl s) q=r at *
     generalize ((sl s).drop q).takeWhile As.bM=tx at *
     have g3:(q:Int)<=(r:Int):=by omega
     have g4:(r:Int)<=(s.size:Int):=by omega
     have c0:=H3.o.sc.c0
     have c1:=H3.o.sc.c1
     have f1:=H3.o.sc.f1
     have t0:=H3.o.t.cell 0
     have t1:=H3.o.t.cell 1
     have t2:=H3.o.t.cell 2
     have t3:=H3.o.t.cell 3
     have v0:=H3.o.t.free 0
     have v1:=H3.o.t.free 1
     have v2:=H3.o.t.free 2
     have v3:=H3.o.t.free 3
     have x0:=H3.o.f.cell 0
     have x1:=H3.o.f.cell 1
     have x2:=H3.o.f.cell 2
     have y0:=H3.o.f.free 0
     have y1:=H3.o.f.free 1
     have y2:=H3.o.f.free 2
     simp only [bC,bG,bE] at t0 t1 t2 t3 x0 x1 x2
     go_wp2
     go_region
     go_wp2
     rw [EX.o]
     have F:=H3.o.put hbl (.int .i64 1) (.int .i64 q) (.string (bs tx)) (.int .i64 0) (.int .i64 0) (.int .i64 0) (.string ⟨#[]⟩)
     have e0:=F.1.drew.cell 0
     have e1:=F.1.drew.cell 1
     have e2:=F.1.drew.cell 2
     have e3:=F.1.drew.cell 3
     have h0:=F.2.1.drew.cell 0
     have h1:=F.2.1.drew.cell 1
     have h2:=F.2.1.drew.cell 2
     simp only [bC,bG,bE] at e0 e1 e2 e3 h0 h1 h2
     refine bodyPost_ret (v:=oC R) ?_ rfl ⟨rfl,by rw [RF.o]; exact yc.drew F.2.2.1,yi F.2.2.2⟩
     rw [RF.o]
     clear F t0 t1 t2 t3 v0 v1 v2 v3 x0 x1 x2 y0 y1 y2 H3
     simp only [sets,kH,kQ] at e0 e1 e2 e3 h0 h1 h2
     generalize World.drew _=WF at *
     simp [results,Tryz.results84,go_sem,oC,fM,mZ,e0,e1,e2,e3,h0,h1,h2]
   ·simp only [hD,if_true] at vZ
    clear hD
    have RF:=hid vZ.o
    clear t0 t1 t2 t3 v0 v1 v2 v3 x0 x1 x2 y0 y1 y2 c0 c1 f1
    go_wp2_with fail
    refine (cN.o _ H2.o.sc).mono ?_
    rintro e V3 ⟨rfl,hsc,hg⟩
    have H3:=hid (H2.o.call hbl hsc hg)
    clear hsc hg cN H2
    generalize As.iM (sl s) q=R3 at *
    obtain ⟨⟨kk,pp,tt,nn⟩,⟨fe,fa⟩,rr⟩:=R3
    simp only [oC,fM,mZ]
    have c0:=H3.o.sc.c0
    have c1:=H3.o.sc.c1
    have f1:=H3.o.sc.f1
    have t0:=H3.o.t.cell 0
    have t1:=H3.o.t.cell 1
    have t2:=H3.o.t.cell 2
    have t3:=H3.o.t.cell 3
    have v0:=H3.o.t.free 0
    have v1:=H3.o.t.free 1
    have v2:=H3.o.t.free 2
    have v3:=H3.o.t.free 3
    have x0:=H3.o.f.cell 0
    have x1:=H3.o.f.cell 1
    have x2:=H3.o.f.cell 2
    have y0:=H3.o.f.free 0
    have y1:=H3.o.f.free 1
    have y2:=H3.o.f.free 2
    simp only [bC,bG,bE] at t0 t1 t2 t3 x0 x1 x2
    go_wp2
    have F:=H3.o.put hbl (.int .i64 kk) (.int .i64 pp) (.string (bs tt)) (.int .i64 nn) (.int .i64 fe) (.int .i64 fa) (.string ⟨#[]⟩)
    have e0:=F.1.cell 0
    have e1:=F.1.cell 1
    have e2:=F.1.cell 2
    have e3:=F.1.cell 3
    have h0:=F.2.1.cell 0
    have h1:=F.2.1.cell 1
    have h2:=F.2.1.cell 2
    simp only [bC,bG,bE] at e0 e1 e2 e3 h0 h1 h2
    refine bodyPost_ret (v:=oC R) ?_ rfl ⟨rfl,by rw [RF.o]; exact F.2.2.1,F.2.2.2⟩
    rw [RF.o]
    clear F t0 t1 t2 t3 v0 v1 v2 v3 x0 x1 x2 y0 y1 y2 H3
    simp only [sets,kH,kQ] at e0 e1 e2 e3 h0 h1 h2
    generalize World.setCell _ _ _=WF at *
    simp [results,Tryz.results84,go_sem,oC,fM,mZ,e0,e1,e2,e3,h0,h1,h2]
  ·simp only [hE,if_true] at vZ
   clear hE
   have RF:=hid vZ.o
   have c0:=H2.o.sc.c0
   have c1:=H2.o.sc.c1
   have f1:=H2.o.sc.f1
   have t0:=H2.o.t.cell 0
   have t1:=H2.o.t.cell 1
   have t2:=H2.o.t.cell 2
   have t3:=H2.o.t.cell 3
   have v0:=H2.o.t.free 0
   have v1:=H2.o.t.free 1
   have v2:=H2.o.t.free 2
   have v3:=H2.o.t.free 3
   have x0:=H2.o.f.cell 0
   have x1:=H2.o.f.cell 1
   have x2:=H2.o.f.cell 2
   have y0:=H2.o.f.free 0
   have y1:=H2.o.f.free 1
   have y2:=H2.o.f.free 2
   simp only [bC,bG,bE] at t0 t1 t2 t3 x0 x1 x2
   go_wp2
   have F:=H2.o.put hbl (.int .i64 4) (.int .i64 q) (.string ⟨#[]⟩) (.int .i64 0) (.int .i64 0) (.int .i64 0) (.string ⟨#[]⟩)
   have e0:=F.1.cell 0
   have e1:=F.1.cell 1
   have e2:=F.1.cell 2
   have e3:=F.1.cell 3
   have h0:=F.2.1.cell 0
   have h1:=F.2.1.cell 1
   have h2:=F.2.1.cell 2
   simp only [bC,bG,bE] at e0 e1 e2 e3 h0 h1 h2
   refine bodyPost_ret (v:=oC R) ?_ rfl ⟨rfl,by rw [RF.o]; exact F.2.2.1,F.2.2.2⟩
   rw [RF.o]
   clear F t0 t1 t2 t3 v0 v1 v2 v3 x0 x1 x2 y0 y1 y2 H2
   simp only [sets,kH,kQ] at e0 e1 e2 e3 h0 h1 h2
   generalize World.setCell _ _ _=WF at *
   simp [results,Tryz.results84,go_sem,oC,fM,mZ,bs,e0,e1,e2,e3,h0,h1,h2]
 ·have RF:=hid (show R=(⟨4,q,[],0⟩,(0,0),q) from by rw [RR.o]; unfold As.iX; rw [List.getElem?_eq_none (by rw [yr]; omega)])
  rw [show ((sl s)[q]?.map As.ends).getD true=true from by rw [List.getElem?_eq_none (by rw [yr]; omega)]; rfl]
  have c0:=H2.o.sc.c0
  have c1:=H2.o.sc.c1
  have f1:=H2.o.sc.f1
  have t0:=H2.o.t.cell 0
  have t1:=H2.o.t.cell 1
  have t2:=H2.o.t.cell 2
  have t3:=H2.o.t.cell 3
  have v0:=H2.o.t.free 0
  have v1:=H2.o.t.free 1
  have v2:=H2.o.t.free 2
  have v3:=H2.o.t.free 3
  have x0:=H2.o.f.cell 0
  have x1:=H2.o.f.cell 1
  have x2:=H2.o.f.cell 2
  have y0:=H2.o.f.free 0
  have y1:=H2.o.f.free 1
  have y2:=H2.o.f.free 2
  simp only [bC,bG,bE] at t0 t1 t2 t3 x0 x1 x2
  go_wp2
  have F:=H2.o.put hbl (.int .i64 4) (.int .i64 q) (.string ⟨#[]⟩) (.int .i64 0) (.int .i64 0) (.int .i64 0) (.string ⟨#[]⟩)
  have e0:=F.1.cell 0
  have e1:=F.1.cell 1
  have e2:=F.1.cell 2
  have e3:=F.1.cell 3
  have h0:=F.2.1.cell 0
  have h1:=F.2.1.cell 1
  have h2:=F.2.1.cell 2
  simp only [bC,bG,bE] at e0 e1 e2 e3 h0 h1 h2
  refine bodyPost_ret (v:=oC R) ?_ rfl ⟨rfl,by rw [RF.o]; exact F.2.2.1,F.2.2.2⟩
  rw [RF.o]
  clear F t0 t1 t2 t3 v0 v1 v2 v3 x0 x1 x2 y0 y1 y2 H2
  simp only [sets,kH,kQ] at e0 e1 e2 e3 h0 h1 h2
  generalize World.setCell _ _ _=WF at *
  simp [results,Tryz.results84,go_sem,oC,fM,mZ,bs,e0,e1,e2,e3,h0,h1,h2]
theorem ylh (s:ByteArray) (b:Nat) (tail:List Value) (p:Nat) (w:World) (h:eY s b tail p w) (hs:s.size<=1000) (hp:p<=s.size) :
  Calls Tryz.prog 55 #[.pointer (some ⟨b,0,none⟩)] w fun e w'=>e = .returned (.bool (As.lineEnd (sl s) p).1)/\eY s b tail (As.lineEnd (sl s) p).2 w'/\w.grownBy w' (some b):=by
 have H:=hid h
 clear h
 have SL:=hid (yr s)
 go_enter Tryz.func55,Tryz.ntmps55
 go_wp2
 go_loopw [] (fun wr=>∃ k:Nat,k<=s.size/\eY s b tail k wr/\As.skip As.iI (sl s) k=As.skip As.iI (sl s) p/\w.grownBy wr (some b)) (fun wr=>s.size - AA b wr)
 case atStart=>exact ⟨p,hp,H.o,rfl,World.grownBy.refl _ _⟩
 case round =>
  obtain ⟨k,hk,hsc,hsk,hgr⟩:=hrel
  have c0:=hsc.c0
  have c1:=hsc.c1
  have f1:=hsc.f1
  have HS:=hid hsc
  have HK:=hid hsk
  have HG:=hid hgr
  clear hsc hsk hgr
  by_cases hlt:k < s.size
  ·have d:decide ((k:Int) < (s.size:Int))=true:=by simp; omega
   have g1:(0:Int)<=(k:Int):=by omega
   have g2:(k:Int) < (s.size:Int):=by omega
   have HL:=hid (show k < (sl s).length by rw [SL.o]; exact hlt)
   have GET:=hid (MG s k hlt)
   by_cases e1:(s[k]'hlt).toNat=10
   ·have d1:(((s[k]'hlt).toNat:Int) == 10)=true:=by simp; omega
    have d2:(((s[k]'hlt).toNat:Int) != 10)=false:=by simp; omega
    have d3:decide ((s.size:Int)<=(k:Int))=false:=by simp; omega
    have E:=hid (Mk (f:=As.iI) HL.o (by rw [GET.o]; unfold As.iI; rw [e1]; rfl))
    clear e1
    go_wp2
    go_quiet (fail)
    go_wp2
    go_quiet (fail)
    go_wp2
    go_ret
    have F:As.lineEnd (sl s) p=(true,k+1):=by unfold As.lineEnd; rw [<- HK.o,E.o,if_pos HL.o]
    rw [F]
    exact ⟨rfl,HS.o.step _ (k+1),JY HG.o _ _⟩
   ·have d1:(((s[k]'hlt).toNat:Int) == 10)=false:=by simp; omega
    have d2:(((s[k]'hlt).toNat:Int) != 10)=true:=by simp; omega
    have E:=hid (Kg (f:=As.iI) HL.o (by rw [GET.o]; unfold As.iI; rw [beq_eq_false_iff_ne.2 e1]; rfl))
    clear e1
    go_wp2
    go_quiet (fail)
    go_wp2
    go_roundw
    case rel=>exact ⟨k+1,by omega,HS.o.step _ (k+1),by rw [<- E.o,HK.o],JY HG.o _ _⟩
    case measure=>exact J5 HS.o _ hlt
  ·have d:decide ((k:Int) < (s.size:Int))=false:=by simp; omega
   have d3:decide ((s.size:Int)<=(k:Int))=true:=by simp; omega
   have E:=hid (Mv (f:=As.iI) (s:=sl s) (k:=k) (by rw [SL.o]; omega))
   go_wp2
   go_quiet (fail)
   go_wp2
   go_quiet (fail)
   go_wp2
   go_ret
   have F:As.lineEnd (sl s) p=(false,k):=by unfold As.lineEnd; rw [<- HK.o,E.o,if_neg (by rw [SL.o]; exact hlt)]
   rw [F]
   exact ⟨rfl,(HS.o.drewN _).drewN _,ye (ye HG.o _) _⟩
end Go.Proofs.YtpgklkhgfcjceaaGreatDoor
