
import Derived.Test.YtnkkepfcpjllmaaGreatDoorU02
import Derived.Maps.AppendAt
import Derived.BigQuiet
import Derived.BigRegion
set_option maxHeartbeats 16000000
set_option maxRecDepth 100000
namespace Go.Proofs.YtnkkepfcpjllmaaGreatDoor
namespace As
structure Tok where
 kind:Nat
 pos:Nat
 text:List UInt8
 n:Nat
def Tok.nil:Tok:=⟨0,0,[],0⟩
structure St where
 p:Nat
 tok:Tok
 fe:Nat
 fa:Nat
 op:Tok
 ah:Nat
 obj:Lk.Obj
def aK (c:UInt8):Bool:=decide (48<=c.toNat) && decide (c.toNat<=57)
def aI (c:UInt8):Bool:=(decide (97<=c.toNat) && decide (c.toNat<=122)) || c.toNat == 95 || aK c || c.toNat == 46
def gG (c:UInt8):Bool:=c.toNat == 44 || c.toNat == 58 || c.toNat == 40 || c.toNat == 41 || c.toNat == 43 || c.toNat == 45
def blank (c:UInt8):Bool:=c.toNat == 32 || c.toNat == 9
def bF (c:UInt8):Bool:=!(c.toNat == 10)
def ends (c:UInt8):Bool:=c.toNat == 10 || c.toNat == 35
def skip (f:UInt8->Bool) (s:List UInt8) (p:Nat):Nat:=p+((s.drop p).takeWhile f).length
def dec (ds:List UInt8):Nat:=ds.foldl (fun n c=>10 * n+(c.toNat - 48)) 0
def gU (s:List UInt8) (p:Nat):Tok×(Nat×Nat)×Nat :=
 if 10 < ((s.drop p).takeWhile aK).length then (Tok.nil,(5,p),p+10)
 else if ((s[skip aK s p]?).map aI).getD false then (Tok.nil,(2,skip aK s p),skip aK s p)
 else (⟨2,p,(s.drop p).takeWhile aK,dec ((s.drop p).takeWhile aK)⟩,(0,0),skip aK s p)
def gN (s:List UInt8) (q:Nat):Tok×(Nat×Nat)×Nat :=
 match s[q]? with
 | none=>(⟨4,q,[],0⟩,(0,0),q)
 | some c =>
  if ends c then (⟨4,q,[],0⟩,(0,0),q)
  else if aK c then gU s q
  else if aI c then (⟨1,q,(s.drop q).takeWhile aI,0⟩,(0,0),skip aI s q)
  else if gG c then (⟨3,q,[c],0⟩,(0,0),q+1)
  else (Tok.nil,(2,q),q)
def next (s:List UInt8) (p:Nat):Tok×(Nat×Nat)×Nat:=gN s (skip blank s p)
def failed (st:St):Bool:=!(st.fe == 0)
def refuse (e pos:Nat) (st:St):St:=if failed st then st else { st with fe:=e,fa:=pos,tok:=Tok.nil }
def advance (s:List UInt8) (st:St):St :=
 if failed st then st
 else if (next s st.p).2.1.1 == 0 then { st with p:=(next s st.p).2.2,tok:=(next s st.p).1 }
 else refuse (next s st.p).2.1.1 (next s st.p).2.1.2 { st with p:=(next s st.p).2.2 }
def aU (s:List UInt8) (st:St):Tok×St:=if st.tok.kind == 1 then (st.tok,advance s st) else (Tok.nil,st)
def Tok.is (t:Tok) (c:List UInt8):Bool:=t.kind == 3 && t.text == c
def lineEnd (s:List UInt8) (p:Nat):Bool×Nat :=
 if skip bF s p < s.length then (true,skip bF s p+1) else (false,skip bF s p)
def bO (s:List UInt8) (st:St):Bool×St :=
 if failed st then (false,st) else ((lineEnd s st.p).1,{ st with p:=(lineEnd s st.p).2 })
def bX (t:List UInt8):Bool:=t.any fun c=>c.toNat == 46
def dY:List UInt8->Option Nat
 | [x,a]=>if x.toNat=120/\aK a then some (a.toNat - 48) else none
 | [x,a,b]=>if x.toNat=120/\aK a/\a.toNat≠48/\aK b/\10 * (a.toNat - 48)+(b.toNat - 48)<=31 then some (10 * (a.toNat - 48)+(b.toNat - 48)) else none
 | _=>none
def aJ (c:Bool) (e pos:Nat) (st:St):St:=if c then refuse e pos st else st
def aP (t:Tok) (st:St):St :=
 aJ (dY t.text).isSome 7 t.pos (aJ (decide (6 < t.text.length)) 4 t.pos (aJ (bX t.text) 3 t.pos st))
def aA (o:Lk.Obj) (ah:Nat):Int :=
 if ah=4 then o.bss else if ah=1 then o.text.length else if ah=2 then o.far.length else if ah=3 then o.data.length else 0
def eH (ys:List Lk.Sym) (nm:List UInt8):Option Nat:=ys.findIdx? fun y=>y.name == nm
def au (t:Tok) (st:St):(Nat×Bool)×St :=
 if failed st then ((0,false),st)
 else match eH st.obj.syms t.text with
  | some i=>((i,true),st)
  | none =>
   if 16<=st.obj.syms.length then ((0,false),refuse 11 t.pos st)
   else ((st.obj.syms.length,true),{ st with obj:={ st.obj with syms:=st.obj.syms ++ [⟨t.text,0,0,0⟩] } })
def lH (st:St) (i:Nat) (f:Lk.Sym->Lk.Sym):St:={ st with obj:={ st.obj with syms:=st.obj.syms.modify i f } }
def label (t:Tok) (st0:St):St :=
 let r:=au t (aP t st0)
 if !r.1.2 then r.2
 else if ((r.2.obj.syms[r.1.1]?).map (·.ah)).getD 0≠0 then refuse 10 t.pos r.2
 else lH r.2 r.1.1 fun y=>⟨y.name,y.bind,r.2.ah,4 * aA r.2.obj r.2.ah⟩
def name (s:List UInt8) (st:St):Tok×St :=
 if st.tok.kind == 1 then (st.tok,advance s (aP st.tok st)) else (Tok.nil,refuse 3 st.tok.pos st)
def bind (s:List UInt8) (binding:Int) (st0:St):St :=
 let t:=(name s st0).1
 let r:=au t (name s st0).2
 if !r.1.2 then r.2
 else if ((r.2.obj.syms[r.1.1]?).map (·.bind)).getD 0≠0 then refuse 14 t.pos r.2
 else lH r.2 r.1.1 fun y=>⟨y.name,binding,y.ah,y.off⟩
def sign (s:List UInt8) (c:List UInt8) (st:St):St:=if st.tok.is c then advance s st else refuse 3 st.tok.pos st
def register (s:List UInt8) (st:St):Nat×St :=
 if st.tok.kind == 1 then
  match dY st.tok.text with
  | none=>(0,refuse 7 st.tok.pos st)
  | some r=>(r,advance s st)
 else (0,refuse 3 st.tok.pos st)
def aN (s:List UInt8) (neg:Bool) (pos:Nat) (lo hi:Int) (st:St):Int×St :=
 if st.tok.kind == 2 then
  if (if neg then -(st.tok.n:Int) else (st.tok.n:Int)) < lo\/hi < (if neg then -(st.tok.n:Int) else (st.tok.n:Int)) then (0,refuse 8 pos st)
  else ((if neg then -(st.tok.n:Int) else (st.tok.n:Int)),advance s st)
 else (0,refuse 3 st.tok.pos st)
def number (s:List UInt8) (lo hi:Int) (st:St):Int×St :=
 if st.tok.is [45] then aN s true st.tok.pos lo hi (advance s st) else aN s false st.tok.pos lo hi st
def symbol (s:List UInt8) (st:St):Nat×St :=
 let r:=au (name s st).1 (name s st).2
 (r.1.1,r.2)
def target (s:List UInt8) (st:St):(Nat×Int)×St :=
 let r:=symbol s st
 if r.2.tok.is [43] then ((r.1,(number s 0 2047 (advance s r.2)).1),(number s 0 2047 (advance s r.2)).2)
 else if r.2.tok.is [45] then ((r.1,-(number s 0 2048 (advance s r.2)).1),(number s 0 2048 (advance s r.2)).2)
 else ((r.1,0),r.2)
def place (s:List UInt8) (st:St):(Int×Nat)×St :=
 let r:=number s (-2048) 2047 st
 let q:=register s (sign s [40] r.2)
 ((r.1,q.1),sign s [41] q.2)
def limit (ah:Nat):Int:=if ah=3 then 64 else if ah=4 then 64 else 1200
def aB (o:Lk.Obj) (ah:Nat) (ws:List Int):Lk.Obj :=
 if ah=1 then { o with text:=o.text ++ ws } else if ah=2 then { o with far:=o.far ++ ws } else if ah=3 then { o with data:=o.data ++ ws }
 else if ah=4 then { o with bss:=o.bss+ws.length } else o
def lay (ws:List Int) (st:St):St :=
 if 4 * limit st.ah < 4 * aA st.obj st.ah+4 * (ws.length:Int) then refuse 13 st.op.pos st
 else if failed st then st
 else { st with obj:=aB st.obj st.ah ws }
def bG (kind:Int) (sym:Nat) (addend:Int) (ws:List Int) (st0:St):St :=
 let st:=aJ (decide (32<=st0.obj.aj.length)) 12 st0.op.pos st0
 if failed st then st
 else lay ws { st with obj:={ st.obj with aj:=st.obj.aj ++ [⟨st.ah,4 * aA st.obj st.ah,kind,sym,addend⟩] } }
end As
end Go.Proofs.YtnkkepfcpjllmaaGreatDoor

namespace Go.Proofs.YtnkkepfcpjllmaaGreatDoor
namespace As
def dQ (n:Int) (low count:Nat):Nat:=((n / (2:Int) ^ low) % (2:Int) ^ count).toNat
def forms:List Nat:=[0,1,1,2,3,4,4,4,4,4,4,3,5,3,3,3,3,3,6,6,6,6,6,6,6,7]
def jP:List Nat:=[0,55,23,111,103,99,4195,16483,20579,24675,28771,8195,8227,19,8211,16403,24595,28691,51,1073741875,8243,12339,16435,24627,28723,115]
def place' (form:Nat) (n:Int):Nat :=
 if form=1 then dQ n 0 20 * 4096
 else if form=2 then dQ n 20 1 * 2147483648 ||| dQ n 1 10 * 2097152 ||| dQ n 11 1 * 1048576 ||| dQ n 12 8 * 4096
 else if form=3 then dQ n 0 12 * 1048576
 else if form=4 then dQ n 12 1 * 2147483648 ||| dQ n 5 6 * 33554432 ||| dQ n 1 4 * 256 ||| dQ n 11 1 * 128
 else if form=5 then dQ n 5 7 * 33554432 ||| dQ n 0 5 * 128
 else 0
def iY (form:Nat):Bool:=form == 1 || form == 2 || form == 3 || form == 6
def gW (form:Nat):Bool:=form == 3 || form == 4 || form == 5 || form == 6
def iP (form:Nat):Bool:=form == 4 || form == 5 || form == 6
def gV (form fixed:Nat) (rd bK dJ:Nat) (n:Int):Nat :=
 let w0:=fixed ||| place' form n
 let w1:=if iY form then w0 ||| dQ rd 0 5 * 128 else w0
 let w2:=if gW form then w1 ||| dQ bK 0 5 * 32768 else w1
 if iP form then w2 ||| dQ dJ 0 5 * 1048576 else w2
def enc (op rd bK dJ:Nat) (n:Int):Nat:=gV (forms.getD op 0) (jP.getD op 0) rd bK dJ n
end As
end Go.Proofs.YtnkkepfcpjllmaaGreatDoor

namespace Go.Proofs.YtnkkepfcpjllmaaGreatDoor
open Go.RowKit
def Dw (vs:List Value):Prop:=vs.Pairwise fun u v=>∀ k,u.ownBlock=some k->v.ownBlock≠some k
def gI (b:Nat):Value:=.slice (some ⟨b,0,none⟩) 0 0
structure qD (B:Nat) (W:World) (b g:Nat) (o:Lk.Obj) (vt vf vd va vs vr:Value):Prop where
 blk:yd W g #[vt,vf,vd,.int .i64 o.bss,va,vs,vr] 40
 text:W.ownsRow B 3 1 vt o.text.length (o.text.map (Value.int .i64))
 far:W.ownsRow B 3 1 vf o.far.length (o.far.map (Value.int .i64))
 data:W.ownsRow B 3 1 vd o.data.length (o.data.map (Value.int .i64))
 align:W.ownsRow B 3 1 va o.align.length (o.align.map (Value.int .i64))
 syms:W.ownsRow B 50 4 vs o.syms.length (o.syms.flatMap iF)
 aj:W.ownsRow B 54 5 vr o.aj.length (o.aj.flatMap dK)
 apart:Dw [gI b,gI g,vt,vf,vd,va,vs,vr]
structure Aw (t:As.Tok):Prop where
 kind:t.kind<=4
 pos:t.pos<=1000
 text:t.text.length<=1000
 n:t.n<=9999999999
structure jH (s:ByteArray) (st:As.St):Prop where
 size:s.size<=1000
 p:st.p<=s.size
 tok:Aw st.tok
 fe:st.fe<=99
 fa:st.fa<=1000
 op:Aw st.op
 ah:1<=st.ah/\st.ah<=4
 text:st.obj.text.length<=1200
 far:st.obj.far.length<=1200
 data:st.obj.data.length<=64
 bss:0<=st.obj.bss/\st.obj.bss<=64
 align:st.obj.align.length=4
 syms:st.obj.syms.length<=16
 aj:st.obj.aj.length<=32
def tokA (t:As.Tok):Value:=.agg #[.int .i64 t.kind,.int .i64 t.pos,.string (bs t.text),.int .i64 t.n]
def yK (s:ByteArray) (g:Nat) (st:As.St):Array Value :=
 #[.string s,.int .i64 st.p,.int .i64 st.tok.kind,.int .i64 st.tok.pos,.string (bs st.tok.text),.int .i64 st.tok.n,.int .i64 st.fe,.int .i64 st.fa,.string ⟨#[]⟩,
  .int .i64 st.op.kind,.int .i64 st.op.pos,.string (bs st.op.text),.int .i64 st.op.n,.int .i64 st.ah,.pointer (some ⟨g,0,none⟩)]
structure yl (B:Nat) (s:ByteArray) (b g:Nat) (st:As.St) (W:World):Prop where
 blk:yd W b (yK s g st) 64
 own:∃ vt vf vd va vs vr,qD B W b g st.obj vt vf vd va vs vr
 lo:3<=B/\B<=b/\B<=g/\b≠g
 ok:jH s st
 tabs:gD W
section
variable {B:Nat} {s:ByteArray} {b g:Nat} {st:As.St} {W W':World} {o:Lk.Obj} {vt vf vd va vs vr:Value}
theorem Iy {e:TypeId} {size n:Nat} {v:Value} {xs:List Value} (h:W.ownsRow B e size v n xs) (hk:∀ k,v.ownBlock=some k->W'.heap[k]?=W.heap[k]?):W'.ownsRow B e size v n xs:=by
 refine ⟨h.1,?_⟩;rcases h.2 with hn | ⟨g,cap,cur,rfl,hb,hgg,rest⟩
 ·exact .inl hn
 ·exact .inr ⟨g,cap,cur,rfl,hb,(hk g rfl).trans hgg,rest⟩
theorem qD.keep (h:qD B W b g o vt vf vd va vs vr) (hk:∀ k,k≠b->k < W.heap.size->W'.heap[k]?=W.heap[k]?):qD B W' b g o vt vf vd va vs vr:=by
 have ap:=h.apart;unfold Dw at ap;simp only [List.pairwise_cons,List.mem_cons,List.mem_nil_iff,or_false,forall_eq_or_imp,forall_eq] at ap;have ne:∀ v:Value,(∀ k,Value.ownBlock (gI b)=some k->v.ownBlock≠some k)->∀ k,v.ownBlock=some k->k≠b:=fun v hv k hk' hb=>hv b rfl (by rw [hk',hb])
 obtain ⟨⟨ag,at_,af,ad,aa,gu,ar⟩,-⟩:=ap;have row:∀ {e:TypeId} {size n:Nat} {v:Value} {xs:List Value},W.ownsRow B e size v n xs->(∀ k,Value.ownBlock (gI b)=some k->v.ownBlock≠some k)->W'.ownsRow B e size v n xs :=
  fun h hv=>Iy h fun k hk'=>hk k (ne _ hv k hk') (h.lt k hk').2
 have hg:g≠b:=ne (gI g) ag g rfl;exact ⟨(hk g hg h.blk.lt).trans h.blk,row h.text at_,row h.far af,row h.data ad,row h.align aa,row h.syms gu,row h.aj ar,h.apart⟩
theorem yl.grown (h:yl B s b g st W) (hg:W.grownBy W' none):yl B s b g st W':=by
 obtain ⟨vt,vf,vd,va,vs,vr,ho⟩:=h.own;exact ⟨h.blk.grown hg (by simp),⟨vt,vf,vd,va,vs,vr,ho.keep fun k _ hk=>hg.block k hk (by simp)⟩,h.lo,h.ok,h.tabs.grown hg⟩
theorem yl.put (h:yl B s b g st W) (st':As.St) (hb:yd W' b (yK s g st') 64) (hg:W.grownBy W' (some b)) (uj:st'.obj=st.obj) (hok:jH s st'):yl B s b g st' W':=by
 obtain ⟨vt,vf,vd,va,vs,vr,ho⟩:=h.own;refine ⟨hb,⟨vt,vf,vd,va,vs,vr,?_⟩,h.lo,hok,h.tabs.qZ hg (by have:=h.lo; omega)⟩;rw [uj];exact ho.keep fun k hk hlt=>hg.block k hlt (by simpa using hk)
theorem yl.size (h:yl B s b g st W):B<=W.heap.size:=by have:=h.blk.lt; have:=h.lo; omega
theorem yl.below (h:yl B s b g st W) {row:Option Nat} (hg:W.grownBy W' row) (hr:∀ k,row=some k->B<=k):Below B W W':=(Below.refl B W).grown hg h.size hr
theorem yl.JI (h:yl B s b g st W) (hg:W.grownBy W' none):Below B W W':=h.below hg (by simp)
theorem yl.JH (h:yl B s b g st W) (hg:W.grownBy W' (some b)):Below B W W':=h.below hg (by intro k hk; simp at hk; have:=h.lo; omega)
end
def sets (W:World) (b:Nat) (l:List (Nat×Value)):World:=l.foldl (fun w q=>w.setCell ⟨b,q.1,none⟩ q.2) W
def nE (cs:Array Value) (l:List (Nat×Value)):Array Value:=l.foldl (fun a q=>a.setIfInBounds q.1 q.2) cs
theorem vG {W:World} {b:Nat} {cs:Array Value} {t:TypeId} (l:List (Nat×Value)) (h:yd W b cs t):yd (sets W b l) b (nE cs l) t:=by
 induction l generalizing W cs with
 | nil=>exact h
 | cons q l ih=>exact ih (h.set q.1 q.2)
theorem Bw (W:World) (b:Nat) (l:List (Nat×Value)):W.grownBy (sets W b l) (some b):=by
 induction l generalizing W with
 | nil=>exact World.grownBy.refl _ _
 | cons q l ih=>exact ya (yy W b q.1 q.2) (ih _)
def kP (B:Nat) (s:ByteArray) (b g:Nat) (W:World) (st':As.St) (W':World):Prop:=yl B s b g st' W'/\W.grownBy W' (some b)
def BH (W W':World):Prop:=∀ k cs t,t≠64->t≠40->t≠3->t≠50->t≠54->yd W k cs t->yd W' k cs t
theorem BH.refl (W:World):BH W W:=fun _ _ _ _ _ _ _ _ h=>h
theorem BH.trans {a b c:World} (h:BH a b) (k:BH b c):BH a c:=fun i cs t h1 h2 h3 h4 h5 hb=>k i cs t h1 h2 h3 h4 h5 (h i cs t h1 h2 h3 h4 h5 hb)
theorem BH.none {W W':World} (h:W.grownBy W' none):BH W W':=fun _ _ _ _ _ _ _ _ hb=>hb.grown h (by simp)
def Does (B:Nat) (s:ByteArray) (b g:Nat) (W:World) (st':As.St) (W':World):Prop:=yl B s b g st' W'/\Below B W W'/\BH W W'
section
variable {B:Nat} {s:ByteArray} {b g:Nat} {st st':As.St} {W V V':World}
theorem BH.row (h:yl B s b g st W) (hg:W.grownBy V (some b)):BH W V:=by
 intro k cs t h1 _ _ _ _ hb;refine hb.grown hg ?_;intro e;obtain rfl:k=b:=by simpa using e
 have:=hb.symm.trans h.blk
 simp at this;exact h1 this.2
theorem kP.does (k:kP B s b g W st' V) (h:yl B s b g st W):Does B s b g W st' V:=⟨k.1,h.JH k.2,BH.row h k.2⟩
theorem kP.grown (h:kP B s b g W st V) (hg:V.grownBy V' none):kP B s b g W st V':=⟨h.1.grown hg,ya h.2 (Xy hg)⟩
theorem kP.alloc (h:kP B s b g W st V) (o:Obj):kP B s b g W st (V.alloc o):=h.grown (aW V o none)
theorem kP.drewN (h:kP B s b g W st V) (n:Nat):kP B s b g W st (V.drewN n):=h.grown (yc (World.grownBy.refl _ _) n)
theorem kP.after (h:kP B s b g W st V) (k:kP B s b g V st' V'):kP B s b g W st' V':=⟨k.1,ya h.2 k.2⟩
theorem kP.sets (h:kP B s b g W st V) (l:List (Nat×Value)) (st':As.St) (hc:nE (yK s g st) l=yK s g st') (uj:st'.obj=st.obj) (hok:jH s st'):kP B s b g W st' (sets V b l) :=
 ⟨h.1.put st' (by rw [<- hc]; exact vG l h.1.blk) (Bw V b l) uj hok,ya h.2 (Bw V b l)⟩
theorem yl.kC (h:yl B s b g st W):kP B s b g W st W:=⟨h,World.grownBy.refl _ _⟩
theorem yl.does (h:yl B s b g st W):Does B s b g W st W:=⟨h,Below.refl _ _,BH.refl _⟩
theorem Does.grown (h:Does B s b g W st V) (hg:V.grownBy V' none):Does B s b g W st V':=⟨h.1.grown hg,h.2.1.trans (h.1.JI hg),h.2.2.trans (BH.none hg)⟩
theorem Does.alloc (h:Does B s b g W st V) (o:Obj):Does B s b g W st (V.alloc o):=h.grown (aW V o none)
theorem Does.drewN (h:Does B s b g W st V) (n:Nat):Does B s b g W st (V.drewN n):=h.grown (yc (World.grownBy.refl _ _) n)
theorem Does.after (h:Does B s b g W st V) (k:Does B s b g V st' V'):Does B s b g W st' V':=⟨k.1,h.2.1.trans k.2.1,h.2.2.trans k.2.2⟩
theorem Does.aR (h:Does B s b g W st V) (k:kP B s b g V st' V'):Does B s b g W st' V':=h.after (k.does h.1)
end
def w9 (t:TypeId):Prop:=t≠64/\t≠40/\t≠3/\t≠50/\t≠54
section
variable {B:Nat} {s:ByteArray} {b g r:Nat} {st st':As.St} {W V V':World} {cs:Array Value} {t:TypeId} {o:Lk.Obj} {vt vf vd va vs vr:Value}
theorem Lm {e:TypeId} {size n:Nat} {v:Value} {xs:List Value} (h:W.ownsRow B e size v n xs) (hr:yd W r cs t) (ht:t≠e) (l:List (Nat×Value)):(sets W r l).ownsRow B e size v n xs:=by
 refine Iy h fun k hk=>?_
 refine (Bw W r l).block k (h.lt k hk).2 ?_;intro e';obtain rfl:k=r:=by simpa using e'
 rcases h.2 with ⟨rfl,_⟩ | ⟨g',cap,cur,rfl,_,hg,_⟩
 ·simp [Value.ownBlock] at hk
 ·obtain rfl:g'=k:=by simpa [Value.ownBlock] using hk
  have:=hg.symm.trans hr
  simp at this;exact ht this.2.symm
theorem yl.local (h:yl B s b g st V) (hr:yd V r cs t) (ht:w9 t) (hB:B<=r) (l:List (Nat×Value)):yl B s b g st (Proofs.YtnkkepfcpjllmaaGreatDoor.sets V r l):=by
 obtain ⟨t1,t2,t3,t4,t5⟩:=ht;obtain ⟨vt,vf,vd,va,vs,vr,ho⟩:=h.own;have other:∀ {k:Nat} {cs':Array Value} {t':TypeId},yd V k cs' t'->t≠t'->yd (Proofs.YtnkkepfcpjllmaaGreatDoor.sets V r l) k cs' t':=fun hb hne=>hb.grown (Bw V r l) (by
  intro e;have e':=Option.some.inj e;subst e'
  have:=hb.symm.trans hr
  simp at this;exact hne this.2.symm)
 refine ⟨other h.blk t1,⟨vt,vf,vd,va,vs,vr,other ho.blk t2,Lm ho.text hr t3 l,Lm ho.far hr t3 l,Lm ho.data hr t3 l,Lm ho.align hr t3 l,Lm ho.syms hr t4 l,Lm ho.aj hr t5 l,ho.apart⟩,h.lo,h.ok,h.tabs.qZ (Bw V r l) (by have:=h.lo; omega)⟩
theorem kP.local (h:kP B s b g W st V) (hr:yd V r cs t) (ht:w9 t) (hB:B<=W.heap.size) (hw:W.heap.size<=r) (l:List (Nat×Value)):kP B s b g W st (Proofs.YtnkkepfcpjllmaaGreatDoor.sets V r l):=by
 refine ⟨h.1.local hr ht (by omega) l,?_⟩;have g:=Bw V r l;exact ⟨g.os.trans h.2.os,g.tape.trans h.2.tape,g.output.trans h.2.output,Nat.le_trans h.2.size g.size,fun i hi hne=>(g.block i (Nat.lt_of_lt_of_le hi h.2.size) (by simp; omega)).trans (h.2.block i hi hne)⟩
theorem Does.local (h:Does B s b g W st V) (hr:yd V r cs t) (ht:w9 t) (hB:B<=W.heap.size) (hw:W.heap.size<=r) (l:List (Nat×Value)):Does B s b g W st (Proofs.YtnkkepfcpjllmaaGreatDoor.sets V r l):=by
 have g:=Bw V r l;have hV:B<=V.heap.size:=Nat.le_trans hB h.2.1.size;refine ⟨h.1.local hr ht (by omega) l,h.2.1.trans ((Below.refl B V).grown g hV (by intro k hk; simp at hk; omega)),fun k cs t' h1 h2 h3 h4 h5 hb=>(h.2.2 k cs t' h1 h2 h3 h4 h5 hb).grown g ?_⟩;intro e
 have:=hb.lt
 have e':=Option.some.inj e;omega
end
theorem jH.tok' {s:ByteArray} {st:As.St} (h:jH s st) (t:As.Tok) (ht:Aw t) (fe fa:Nat) (h1:fe<=99) (h2:fa<=1000):jH s { st with tok:=t,fe:=fe,fa:=fa } :=
 ⟨h.size,h.p,ht,h1,h2,h.op,h.ah,h.text,h.far,h.data,h.bss,h.align,h.syms,h.aj⟩
theorem LJ:Aw As.Tok.nil:=⟨by decide,by decide,by decide,by decide⟩
theorem Gi (B:Nat) (s:ByteArray) (b g:Nat) (st:As.St) (W:World) (h:yl B s b g st W) :
  Calls Tryz.prog 20 #[.pointer (some ⟨b,0,none⟩)] W fun e W'=>e = .returned (.bool (As.failed st))/\W'=W:=by
 have k:=h.blk.cell 6;simp only [yK,bB,yml,bf] at k;clear h;have e:(!((st.fe:Int) == 0))=As.failed st:=by unfold As.failed; congr 1; rw [Bool.eq_iff_iff]; simp
 go_enter Tryz.func20,Tryz.ntmps20;go_wp2;go_ret;exact ⟨by rw [<- e]; rfl,rfl⟩
theorem yP {B:Nat} {s:ByteArray} {b g:Nat} {st:As.St} {W:World} (h:yl B s b g st W) (i:Nat):W.cell? ⟨b,i,none⟩=(yK s g st)[i]?:=h.blk.cell i
theorem yM (B:Nat) (s:ByteArray) (b g:Nat) (st:As.St) (e pos:Nat) (W:World) (h:yl B s b g st W) (he:e<=99) (hp:pos<=1000) :
  Calls Tryz.prog 38 #[.pointer (some ⟨b,0,none⟩),.int .i64 e,.int .i64 pos] W fun en W'=>en = .returned (.tuple #[])/\kP B s b g W (As.refuse e pos st) W':=by
 have cF:=hid (Gi B s b g st W h);have H:=hid h;clear h
 cases hf:As.failed st
 ·have R:=hid (show As.refuse e pos st={ st with fe:=e,fa:=pos,tok:=As.Tok.nil } by unfold As.refuse; rw [hf]; rfl);rw [hf] at cF;clear hf;have k2:=H.o.blk.free 2;have k3:=H.o.blk.free 3;have k4:=H.o.blk.free 4;have k5:=H.o.blk.free 5;have k6:=H.o.blk.free 6;have k7:=H.o.blk.free 7;have k8:=H.o.blk.free 8;have c2:=yP H.o 2;have c3:=yP H.o 3;have c4:=yP H.o 4;have c5:=yP H.o 5;have c6:=yP H.o 6;have c7:=yP H.o 7;have c8:=yP H.o 8;simp only [yK,bB,yml,bf] at c2 c3 c4 c5 c6 c7 c8;go_enter Tryz.func38,Tryz.ntmps38;go_wp2_with fail;refine cF.o.mono ?_;rintro e w1 ⟨rfl,rfl⟩;go_wp2
  go_end0
  rw [R.o];exact ⟨rfl,H.o.kC.sets [(6,.int .i64 e),(7,.int .i64 pos),(8,.string ⟨#[]⟩),(2,.int .i64 0),(3,.int .i64 0),(4,.string ⟨#[]⟩),(5,.int .i64 0)] _ (by simp only [nE,yK,jA,jE,iW,iR,iT]; rfl) rfl (H.o.ok.tok' _ LJ _ _ he hp)⟩
 ·have R:=hid (show As.refuse e pos st=st by unfold As.refuse; rw [hf]; rfl);rw [hf] at cF;clear hf;go_enter Tryz.func38,Tryz.ntmps38;go_wp2_with fail;refine cF.o.mono ?_;rintro e w1 ⟨rfl,rfl⟩;go_wp2
  (try simp only [Exit.inBlock,Exit.then]); refine bodyPost_ret (results_none rfl _ _ _) rfl ?_
  rw [R.o];exact ⟨rfl,H.o.kC⟩
theorem Xb {e:Ending} {P:Prop} {x:Bool} (h:ye e P) (k:x=true↔P):e = .returned (.bool x):=by
 obtain ⟨y,rfl,h2⟩:=h
 have:y=x:=by rw [Bool.eq_iff_iff,h2,k]
 rw [this]
theorem ykC (c:UInt8):lU (c.toNat:Int)↔((97<=c.toNat/\c.toNat<=122)\/c.toNat=95\/(48<=c.toNat/\c.toNat<=57)):=by unfold lU; omega
theorem Ua (c:UInt8) (w:World) :
  Calls Tryz.prog 93 #[.int .u8 c.toNat] w fun e w'=>e = .returned (.bool (As.aI c))/\w'=w:=by
 have cM:=hid (WK (c.toNat:Int) w (by omega));have hI:=hid (ykC c);by_cases c1:c.toNat=46
 ·have N:=hid (show As.aI c=true from by unfold As.aI As.aK; simp [c1]);have hN:¬ lU (c.toNat:Int):=by unfold lU; omega
  have d:((c.toNat:Int) == 46)=true:=by simp; omega
  clear c1;go_enter Tryz.func93,Tryz.ntmps93;go_wp2_with fail;refine cM.o.mono ?_;rintro e w1 ⟨t1,rfl⟩;obtain rfl:=Xb (x:=false) t1 (by simp [hN]);go_wp2;go_ret;exact ⟨by rw [N.o]; rfl,rfl⟩
 ·have N:=hid (show As.aI c=true↔lU (c.toNat:Int) from by
   rw [hI.o];unfold As.aI As.aK;simp only [Bool.or_eq_true,Bool.and_eq_true,decide_eq_true_eq,beq_iff_eq];omega)
  have d:((c.toNat:Int) == 46)=false:=by simp; omega
  clear c1;go_enter Tryz.func93,Tryz.ntmps93;go_wp2_with fail;refine cM.o.mono ?_;rintro e w1 ⟨t1,rfl⟩;rcases t1.split with ⟨rfl,p1⟩ | ⟨rfl,p1⟩ <;> clear t1 cM
  ·have P:=hid (show As.aI c=false from by rw [<- Bool.not_eq_true,N.o]; exact p1.o);go_wp2;go_ret;exact ⟨by rw [P.o]; rfl,rfl⟩
  ·have P:=hid (show As.aI c=true from N.o.2 p1.o);go_wp2;go_ret;exact ⟨by rw [P.o]; rfl,rfl⟩
theorem yiC (c:UInt8) (w:World) :
  Calls Tryz.prog 95 #[.int .u8 c.toNat] w fun e w'=>e = .returned (.bool (As.gG c))/\w'=w:=by
 have N:=hid (show As.gG c=(c.toNat == 44 || c.toNat == 58 || c.toNat == 40 || c.toNat == 41 || c.toNat == 43 || c.toNat == 45) from rfl);generalize As.gG c=x at *;generalize hc:c.toNat=n at *;clear hc;have dec:∀ m:Nat,((n:Int) == (m:Int))=(n == m):=fun m=>by rw [Bool.eq_iff_iff,beq_iff_eq,beq_iff_eq]; omega
 have d1:=dec 44;have d2:=dec 58;have d3:=dec 40;have d4:=dec 41;have d5:=dec 43;have d6:=dec 45;clear dec;simp only [Int.cast_ofNat_Int] at d1 d2 d3 d4 d5 d6;generalize (n == 44)=b1 at *;generalize (n == 58)=b2 at *;generalize (n == 40)=b3 at *;generalize (n == 41)=b4 at *;generalize (n == 43)=b5 at *;generalize (n == 45)=b6 at *
 cases b1
 ·cases b2
  ·cases b3
   ·cases b4
    ·cases b5
     ·go_enter Tryz.func95,Tryz.ntmps95;go_wp2;go_ret;exact ⟨by rw [N.o]; rfl,rfl⟩
     ·go_enter Tryz.func95,Tryz.ntmps95;go_wp2;go_ret;exact ⟨by rw [N.o]; rfl,rfl⟩
    ·go_enter Tryz.func95,Tryz.ntmps95;go_wp2;go_ret;exact ⟨by rw [N.o]; rfl,rfl⟩
   ·go_enter Tryz.func95,Tryz.ntmps95;go_wp2;go_ret;exact ⟨by rw [N.o]; rfl,rfl⟩
  ·go_enter Tryz.func95,Tryz.ntmps95;go_wp2;go_ret;exact ⟨by rw [N.o]; rfl,rfl⟩
 ·go_enter Tryz.func95,Tryz.ntmps95;go_wp2;go_ret;exact ⟨by rw [N.o]; rfl,rfl⟩
theorem Qg (c:UInt8) (w:World) :
  Calls Tryz.prog 91 #[.int .u8 c.toNat] w fun e w'=>e = .returned (.bool (As.aK c))/\w'=w:=by
 by_cases h:48<=c.toNat/\c.toNat<=57
 ·have e:As.aK c=true:=by unfold As.aK; simp [h]
  rw [e];exact Uk _ w (by omega) (by omega)
 ·have e:As.aK c=false:=by unfold As.aK; simp; omega
  rw [e];exact Lv _ w (by omega)
def fG (s:ByteArray) (b:Nat) (tail:List Value) (p:Nat) (W:World):Prop:=yd W b (.string s :: .int .i64 p :: tail).toArray 64
section
variable {s:ByteArray} {b:Nat} {tail:List Value} {p:Nat} {W W':World}
theorem fG.c0 (h:fG s b tail p W):W.cell? ⟨b,0,none⟩=some (.string s):=by rw [yd.cell h]; simp
theorem fG.c1 (h:fG s b tail p W):W.cell? ⟨b,1,none⟩=some (.int .i64 p):=by rw [yd.cell h]; simp
theorem fG.f1 (h:fG s b tail p W):W.frozen? ⟨b,1,none⟩=false:=yd.free h 1
theorem fG.drewN (h:fG s b tail p W) (n:Nat):fG s b tail p (W.drewN n):=yd.drewN h n
theorem fG.set (h:fG s b tail p W) (q:Nat):fG s b tail q (W.setCell ⟨b,1,none⟩ (.int .i64 q)):=by
 have:=yd.set h 1 (.int .i64 q)
 simpa [fG] using this
theorem fG.grown (h:fG s b tail p W) (hg:W.grownBy W' none):fG s b tail p W':=yd.grown h hg (by simp)
theorem fG.step (h:fG s b tail p W) (n:Nat) (q:Nat):fG s b tail q ((W.drewN n).setCell ⟨b,1,none⟩ (.int .i64 q)):=(h.drewN n).set q
end
theorem OG {w W:World} {b:Nat} (h:w.grownBy W (some b)) (n:Nat) (v:Value):w.grownBy ((W.drewN n).setCell ⟨b,1,none⟩ v) (some b) :=
 ya (yc h n) (yy _ _ _ _)
def F8 (b:Nat) (W:World):Nat:=match W.cell? ⟨b,1,none⟩ with
 | some (.int _ i)=>i.toNat
 | _=>0
theorem fG.pos {s:ByteArray} {b:Nat} {tail:List Value} {p:Nat} {W:World} (h:fG s b tail p W):F8 b W=p:=by unfold F8; rw [h.c1]; simp
theorem Oy {s:ByteArray} {b:Nat} {tail:List Value} {k:Nat} {W:World} (h:fG s b tail k W) (n:Nat) (hlt:k < s.size):s.size - F8 b ((W.drewN n).setCell ⟨b,1,none⟩ (.int .i64 ((k:Int)+1))) < s.size - F8 b W:=by
 rw [h.pos,show ((k:Int)+1)=((k+1:Nat):Int) from by omega,(h.step n (k+1)).pos]; omega
theorem KF {f:UInt8->Bool} {s:List UInt8} {k:Nat} (h:k < s.length) (hf:f s[k]=true):As.skip f s k=As.skip f s (k+1):=by
 unfold As.skip;rw [Js h,List.takeWhile_cons_of_pos hf];simp; omega
theorem LH {f:UInt8->Bool} {s:List UInt8} {k:Nat} (h:k < s.length) (hf:f s[k]=false):As.skip f s k=k:=by
 unfold As.skip;rw [Js h,List.takeWhile_cons_of_neg (by simp [hf])];simp
theorem Ls {f:UInt8->Bool} {s:List UInt8} {k:Nat} (h:s.length<=k):As.skip f s k=k:=by
 unfold As.skip;rw [List.drop_eq_nil_of_le h];simp
theorem kH {f:UInt8->Bool} {s:List UInt8} {k:Nat} (h:k<=s.length):As.skip f s k<=s.length:=by
 unfold As.skip;have h1:=(List.takeWhile_prefix f (l:=s.drop k)).length_le;rw [List.length_drop] at h1;omega
theorem IJ (f:UInt8->Bool) (s:List UInt8) (k:Nat):k<=As.skip f s k:=by unfold As.skip; omega
theorem ykQ {f:UInt8->Bool} {s:List UInt8} {k:Nat} (h:As.skip f s k < s.length):f (s[As.skip f s k])=false:=by
 generalize hn:s.length - k=n
 induction n generalizing k with
 | zero =>
  have:As.skip f s k=k:=Ls (by omega)
  omega
 | succ n ih =>
  by_cases hk:k < s.length
  ·cases hf:f s[k]
   ·have e:=LH hk hf;simp only [e]; exact hf
   ·have e:=KF hk hf;simp only [e] at h ⊢;exact ih h (by omega)
  ·omega
theorem LK (s:ByteArray) (k:Nat) (h:k < s.size):(sl s)[k]'(by rw [yx]; exact h)=s[k]:=rfl
theorem ygb (s:ByteArray) (b:Nat) (tail:List Value) (p:Nat) (w:World) (h:fG s b tail p w) (hs:s.size<=1000) (hp:p<=s.size) :
  Calls Tryz.prog 89 #[.pointer (some ⟨b,0,none⟩)] w fun e w'=>e = .returned (.tuple #[])/\fG s b tail (As.skip As.blank (sl s) p) w'/\w.grownBy w' (some b):=by
 have H:=hid h;clear h;have SL:=hid (yx s);go_enter Tryz.func89,Tryz.ntmps89;go_wp2
 go_loopw [] (fun wr=>∃ k:Nat,k<=s.size/\fG s b tail k wr/\As.skip As.blank (sl s) k=As.skip As.blank (sl s) p/\w.grownBy wr (some b)) (fun wr=>s.size - F8 b wr)
 case atStart=>exact ⟨p,hp,H.o,rfl,World.grownBy.refl _ _⟩
 case round =>
  obtain ⟨k,hk,hsc,hsk,hgr⟩:=hrel;have c0:=hsc.c0;have c1:=hsc.c1;have f1:=hsc.f1;have HS:=hid hsc;have HK:=hid hsk;have HG:=hid hgr;have HP:=hid hsc.pos;clear hsc hsk hgr;by_cases hlt:k < s.size
  ·have d:decide ((k:Int) < (s.size:Int))=true:=by simp; omega
   have g1:(0:Int)<=(k:Int):=by omega
   have g2:(k:Int) < (s.size:Int):=by omega
   have HL:=hid (show k < (sl s).length by rw [SL.o]; exact hlt);have GET:=hid (LK s k hlt);by_cases e1:(s[k]'hlt).toNat=32
   ·have d1:(((s[k]'hlt).toNat:Int) == 32)=true:=by simp; omega
    have E:=hid (KF (f:=As.blank) HL.o (by rw [GET.o]; unfold As.blank; rw [e1]; rfl));clear e1;go_wp2
    go_quiet (fail)
    go_wp2
    go_roundw
    case rel=>exact ⟨k+1,by omega,HS.o.step _ (k+1),by rw [<- E.o,HK.o],OG HG.o _ _⟩
    case measure=>exact Oy HS.o _ hlt
   ·by_cases e2:(s[k]'hlt).toNat=9
    ·have d1:(((s[k]'hlt).toNat:Int) == 32)=false:=by simp; omega
     have d2:(((s[k]'hlt).toNat:Int) == 9)=true:=by simp; omega
     have E:=hid (KF (f:=As.blank) HL.o (by rw [GET.o]; unfold As.blank; rw [e2]; rfl));clear e1 e2;go_wp2
     go_quiet (fail)
     go_wp2
     go_roundw
     case rel=>exact ⟨k+1,by omega,HS.o.step _ (k+1),by rw [<- E.o,HK.o],OG HG.o _ _⟩
     case measure=>exact Oy HS.o _ hlt
    ·have d1:(((s[k]'hlt).toNat:Int) == 32)=false:=by simp; omega
     have d2:(((s[k]'hlt).toNat:Int) == 9)=false:=by simp; omega
     have E:=hid (LH (f:=As.blank) HL.o (by rw [GET.o]; unfold As.blank; rw [Bool.or_eq_false_iff,beq_eq_false_iff_ne,beq_eq_false_iff_ne]; exact ⟨e1,e2⟩));clear e1 e2;go_wp2
     go_quiet (fail)
     go_wp2
     go_end0
     exact ⟨rfl,by rw [<- HK.o,E.o]; exact HS.o.drewN _,yc HG.o _⟩
  ·have d:decide ((k:Int) < (s.size:Int))=false:=by simp; omega
   have E:=hid (Ls (f:=As.blank) (s:=sl s) (k:=k) (by rw [SL.o]; omega));go_wp2
   go_quiet (fail)
   go_wp2
   go_end0
   exact ⟨rfl,by rw [<- HK.o,E.o]; exact HS.o.drewN _,yc HG.o _⟩
theorem yhy (s:ByteArray) (b:Nat) (tail:List Value) (p:Nat) (w:World) (h:fG s b tail p w) (hs:s.size<=1000) (hp:p<=s.size) :
  Calls Tryz.prog 94 #[.pointer (some ⟨b,0,none⟩)] w fun e w'=>e = .returned (.tuple #[])/\fG s b tail (As.skip As.aI (sl s) p) w'/\w.grownBy w' (some b):=by
 have H:=hid h;clear h;have SL:=hid (yx s);go_enter Tryz.func94,Tryz.ntmps94;go_wp2
 go_loopw [] (fun wr=>∃ k:Nat,k<=s.size/\fG s b tail k wr/\As.skip As.aI (sl s) k=As.skip As.aI (sl s) p/\w.grownBy wr (some b)) (fun wr=>s.size - F8 b wr)
 case atStart=>exact ⟨p,hp,H.o,rfl,World.grownBy.refl _ _⟩
 case round =>
  obtain ⟨k,hk,hsc,hsk,hgr⟩:=hrel;have c0:=hsc.c0;have c1:=hsc.c1;have f1:=hsc.f1;have HS:=hid hsc;have HK:=hid hsk;have HG:=hid hgr;clear hsc hsk hgr;by_cases hlt:k < s.size
  ·have d:decide ((k:Int) < (s.size:Int))=true:=by simp; omega
   have g1:(0:Int)<=(k:Int):=by omega
   have g2:(k:Int) < (s.size:Int):=by omega
   have HL:=hid (show k < (sl s).length by rw [SL.o]; exact hlt);have GET:=hid (LK s k hlt);have cW:=hid (fun W=>Ua (s[k]'hlt) W)
   cases e1:As.aI (s[k]'hlt)
   ·have E:=hid (LH (f:=As.aI) HL.o (by rw [GET.o]; exact e1));rw [e1] at cW;clear e1;go_wp2
    go_quiet ((go_at_call 93; exact Calls.quiet_of_same (cW.o _)))
    go_wp2
    go_end0
    exact ⟨rfl,by rw [<- HK.o,E.o]; exact HS.o.drewN _,yc HG.o _⟩
   ·have E:=hid (KF (f:=As.aI) HL.o (by rw [GET.o]; exact e1));rw [e1] at cW;clear e1;go_wp2
    go_quiet ((go_at_call 93; exact Calls.quiet_of_same (cW.o _)))
    go_wp2
    go_roundw
    case rel=>exact ⟨k+1,by omega,HS.o.step _ (k+1),by rw [<- E.o,HK.o],OG HG.o _ _⟩
    case measure=>exact Oy HS.o _ hlt
  ·have d:decide ((k:Int) < (s.size:Int))=false:=by simp; omega
   have E:=hid (Ls (f:=As.aI) (s:=sl s) (k:=k) (by rw [SL.o]; omega));go_wp2
   go_quiet (fail)
   go_wp2
   go_end0
   exact ⟨rfl,by rw [<- HK.o,E.o]; exact HS.o.drewN _,yc HG.o _⟩
theorem yiZ (s:ByteArray) (b:Nat) (tail:List Value) (p:Nat) (w:World) (h:fG s b tail p w) (_hs:s.size<=1000) (_hp:p<=s.size) :
  Calls Tryz.prog 90 #[.pointer (some ⟨b,0,none⟩)] w fun e w'=>e = .returned (.bool (((sl s)[p]?.map As.ends).getD true))/\∃ n,w'=w.drewN n:=by
 have c0:=h.c0;have c1:=h.c1;clear h;have SL:=hid (yx s);generalize hx:(((sl s)[p]?.map As.ends).getD true)=x;have HX:=hid hx.symm;clear hx;by_cases hlt:p < s.size
 ·have d:decide (s.size<=p)=false:=by simp; omega
  have g1:(0:Int)<=(p:Int):=by omega
  have g2:(p:Int) < (s.size:Int):=by omega
  have E:=hid (show x=As.ends (s[p]'hlt) by rw [HX.o,kg (by rw [SL.o]; exact hlt)]; rfl);clear HX;by_cases e1:(s[p]'hlt).toNat=10
  ·have d1:(((s[p]'hlt).toNat:Int) == 10)=true:=by simp; omega
   have E1:=hid (show As.ends (s[p]'hlt)=true by unfold As.ends; rw [e1]; rfl);clear e1;go_enter Tryz.func90,Tryz.ntmps90;go_wp2
   go_quiet (fail)
   go_wp2;go_ret;exact ⟨by rw [E.o,E1.o]; rfl,_,rfl⟩
  ·by_cases e2:(s[p]'hlt).toNat=35
   ·have d1:(((s[p]'hlt).toNat:Int) == 10)=false:=by simp; omega
    have d2:(((s[p]'hlt).toNat:Int) == 35)=true:=by simp; omega
    have E1:=hid (show As.ends (s[p]'hlt)=true by unfold As.ends; rw [e2]; rfl);clear e1 e2;go_enter Tryz.func90,Tryz.ntmps90;go_wp2
    go_quiet (fail)
    go_wp2;go_ret;exact ⟨by rw [E.o,E1.o]; rfl,_,rfl⟩
   ·have d1:(((s[p]'hlt).toNat:Int) == 10)=false:=by simp; omega
    have d2:(((s[p]'hlt).toNat:Int) == 35)=false:=by simp; omega
    have E1:=hid (show As.ends (s[p]'hlt)=false by unfold As.ends; rw [Bool.or_eq_false_iff,beq_eq_false_iff_ne,beq_eq_false_iff_ne]; exact ⟨e1,e2⟩);clear e1 e2;go_enter Tryz.func90,Tryz.ntmps90;go_wp2
    go_quiet (fail)
    go_wp2;go_ret;exact ⟨by rw [E.o,E1.o]; rfl,_,rfl⟩
 ·have d:decide (s.size<=p)=true:=by simp; omega
  have E:=hid (show x=true by rw [HX.o,List.getElem?_eq_none (by rw [SL.o]; omega)]; rfl);go_enter Tryz.func90,Tryz.ntmps90;go_wp2
  go_quiet (fail)
  go_wp2;go_ret;exact ⟨by rw [E.o]; rfl,_,rfl⟩
def pU (e pos:Nat):Value:=.agg #[.int .i64 e,.int .i64 pos,.string ⟨#[]⟩]
def rE (r:As.Tok×(Nat×Nat)×Nat):Value:=.tuple #[tokA r.1,pU r.2.1.1 r.2.1.2]
theorem Xi {w W:World} {row:Option Nat} {r:Nat} (h:w.grownBy W row) (hb:w.heap.size<=r) (l:List (Nat×Value)):w.grownBy (sets W r l) row:=by
 have g:=Bw W r l;exact ⟨g.os.trans h.os,g.tape.trans h.tape,g.output.trans h.output,Nat.le_trans h.size g.size,fun i hi hr=>(g.block i (Nat.lt_of_lt_of_le hi h.size) (by simp; omega)).trans (h.block i hi hr)⟩
theorem yd.jY {W:World} {g r:Nat} {cs:Array Value} {t:TypeId} (h:yd W g cs t) (hne:g≠r) (l:List (Nat×Value)):yd (sets W r l) g cs t :=
 h.grown (Bw W r l) (by simpa using hne)
theorem yjE (l:List UInt8) (c:UInt8):As.dec (l ++ [c])=10 * As.dec l+(c.toNat - 48):=by unfold As.dec; rw [List.foldl_append]; rfl
theorem yjD (l:List UInt8) (n:Nat) (h:∀ c∈l,As.aK c=true):l.foldl (fun n c=>10 * n+(c.toNat - 48)) n+1<=(n+1) * 10 ^ l.length:=by
 induction l generalizing n with
 | nil=>simp
 | cons c l ih =>
  have h1:=ih (10 * n+(c.toNat - 48)) fun c hc=>h c (by simp [hc])
  have h2:=h c (by simp);unfold As.aK at h2;simp at h2;rw [jA,Gn,Nat.pow_succ];have h3:(10 * n+(c.toNat - 48)+1) * 10 ^ l.length<=(10 * (n+1)) * 10 ^ l.length:=Nat.mul_le_mul_right _ (by omega);have h4:(n+1) * (10 ^ l.length * 10)=(10 * (n+1)) * 10 ^ l.length:=by rw [Nat.mul_comm 10,Nat.mul_assoc,Nat.mul_comm 10]
  omega
theorem UK (l:List UInt8) (h:∀ c∈l,As.aK c=true):As.dec l < 10 ^ l.length:=by
 have:=yjD l 0 h
 unfold As.dec;omega
theorem XA (f:UInt8->Bool) (l:List UInt8):∀ c∈l.takeWhile f,f c=true:=by
 induction l with
 | nil=>simp
 | cons a l ih =>
  intro c hc
  cases hf:f a
  ·rw [List.takeWhile_cons_of_neg (by simp [hf])] at hc;simp at hc
  ·rw [List.takeWhile_cons_of_pos hf] at hc;rcases List.mem_cons.1 hc with rfl | hc
   ·exact hf
   ·exact ih c hc
theorem Qc (l:List UInt8) (j:Nat) (hj:j < l.length):As.dec (l.take (j+1))=10 * As.dec (l.take j)+(l[j].toNat - 48):=by
 rw [List.take_succ_eq_append_getElem hj,yjE]
theorem Qs (l:List UInt8) (h:∀ c∈l,As.aK c=true) (j:Nat) (hj:j<=10):As.dec (l.take j)<=9999999999:=by
 have h1:=UK (l.take j) fun c hc=>h c (List.mem_of_mem_take hc)
 have h2:(l.take j).length<=10:=by rw [List.length_take]; omega
 have h3:10 ^ (l.take j).length<=10 ^ 10:=Nat.pow_le_pow_right (by decide) h2;omega
theorem PO (f:UInt8->Bool) (s:ByteArray) (p:Nat) (hp:p<=s.size) (ds:List UInt8) (hd:ds=((sl s).drop p).takeWhile f) :
  (∀ c∈ds,f c=true)/\p+ds.length<=s.size/\(∀ j (h:j < ds.length) (hk:p+j < s.size),s[p+j]'hk=ds[j])/\(∀ hk:p+ds.length < s.size,f (s[p+ds.length]'hk)=false):=by
 have hpre:ds <+: (sl s).drop p:=by rw [hd]; exact List.takeWhile_prefix f
 have hlen:p+ds.length<=s.size:=by have:=hpre.length_le; rw [List.length_drop,yx] at this; omega
 refine ⟨fun c hc=>?_,hlen,fun j h hk=>?_,fun hk=>?_⟩
 ·rw [hd] at hc;exact XA f _ c hc
 ·have h1:=hpre.getElem h;rw [h1,List.getElem_drop];rfl
 ·have e:As.skip f (sl s) p=p+ds.length:=by unfold As.skip; rw [<- hd]
  have:=ykQ (f:=f) (s:=sl s) (k:=p) (by rw [e,yx]; exact hk)
  simp only [e] at this;exact this
structure wR (s:ByteArray) (b:Nat) (tail:List Value) (w:World) (k:Nat) (W:World):Prop where
 t:yd W w.heap.size #[.int .i64 0,.int .i64 0,.string ⟨#[]⟩,.int .i64 0] 62
 f:yd W (w.heap.size+1) #[.int .i64 0,.int .i64 0,.string ⟨#[]⟩] 27
 sc:fG s b tail k W
 gr:w.grownBy W (some b)
theorem wR.drewN {s:ByteArray} {b:Nat} {tail:List Value} {w:World} {k:Nat} {W:World} (h:wR s b tail w k W) (n:Nat):wR s b tail w k (W.drewN n) :=
 ⟨h.t.drewN n,h.f.drewN n,h.sc.drewN n,yc h.gr n⟩
theorem wR.step {s:ByteArray} {b:Nat} {tail:List Value} {w:World} {k:Nat} {W:World} (h:wR s b tail w k W) (hb:b < w.heap.size) (q:Nat):wR s b tail w q (W.setCell ⟨b,1,none⟩ (.int .i64 q)) :=
 ⟨h.t.grown (yy _ _ _ _) (by simp; omega),h.f.grown (yy _ _ _ _) (by simp; omega),h.sc.set q,ya h.gr (yy _ _ _ _)⟩
theorem wR.put {s:ByteArray} {b:Nat} {tail:List Value} {w:World} {k:Nat} {W:World} (h:wR s b tail w k W) (hb:b < w.heap.size) (a0 a1 a2 a3 z0 z1 z2:Value) :
  let W':=sets (sets W w.heap.size [(0,a0),(1,a1),(2,a2),(3,a3)]) (w.heap.size+1) [(0,z0),(1,z1),(2,z2)]
  yd W' w.heap.size #[a0,a1,a2,a3] 62/\yd W' (w.heap.size+1) #[z0,z1,z2] 27/\fG s b tail k W'/\w.grownBy W' (some b):=by
 have t1:=vG [(0,a0),(1,a1),(2,a2),(3,a3)] h.t;have f1:=h.f.jY (r:=w.heap.size) (by omega) [(0,a0),(1,a1),(2,a2),(3,a3)];have f2:=vG [(0,z0),(1,z1),(2,z2)] f1;simp only [nE,jA,jE,iW,iR,iT] at t1 f2;exact ⟨t1.jY (by omega) _,f2,yd.jY (yd.jY h.sc (by omega) _) (by omega) _,Xi (Xi h.gr (by omega) _) (by omega) _⟩
theorem yhU (s:ByteArray) (b:Nat) (tail:List Value) (p:Nat) (w:World) (h:fG s b tail p w) (hs:s.size<=1000) (hp:p<=s.size) :
  Calls Tryz.prog 92 #[.pointer (some ⟨b,0,none⟩)] w fun e w'=>e = .returned (rE (As.gU (sl s) p))/\fG s b tail (As.gU (sl s) p).2.2 w'/\w.grownBy w' (some b):=by
 have H:=hid h;have hbl:=yd.lt h;have c1:=h.c1;clear h;have SL:=hid (yx s);generalize hD:((sl s).drop p).takeWhile As.aK=ds;obtain ⟨w1,w2,w3,w4⟩:=PO As.aK s p hp ds hD.symm;have SN:=hid (show As.gU (sl s) p=if 10 < ds.length then (As.Tok.nil,(5,p),p+10) else if (((sl s)[p+ds.length]?).map As.aI).getD false then (As.Tok.nil,(2,p+ds.length),p+ds.length) else (⟨2,p,ds,As.dec ds⟩,(0,0),p+ds.length) from by
  unfold As.gU As.skip; rw [hD])
 generalize As.gU (sl s) p=R at *;have DC:=hid w1;have Qy:=hid w3;have HST:=hid w4;have dF:=hid (show ds=((sl s).drop p).take ds.length from by
  have:=List.prefix_iff_eq_take.1 (List.takeWhile_prefix As.aK (l:=(sl s).drop p))
  rw [hD] at this;exact this)
 clear hD w1 w3 w4;have B1:Hd (yd ((w.alloc (.cells #[.int .i64 0,.int .i64 0,.string ⟨#[]⟩,.int .i64 0] 62)).alloc (.cells #[.int .i64 0,.int .i64 0,.string ⟨#[]⟩] 27)) w.heap.size #[.int .i64 0,.int .i64 0,.string ⟨#[]⟩,.int .i64 0] 62) :=
  (yd.new w _ _).grown (aW _ _ none) (by simp)
 have B2:Hd (yd ((w.alloc (.cells #[.int .i64 0,.int .i64 0,.string ⟨#[]⟩,.int .i64 0] 62)).alloc (.cells #[.int .i64 0,.int .i64 0,.string ⟨#[]⟩] 27)) (w.heap.size+1) #[.int .i64 0,.int .i64 0,.string ⟨#[]⟩] 27):=by
  have:=yd.new (w.alloc (.cells #[.int .i64 0,.int .i64 0,.string ⟨#[]⟩,.int .i64 0] 62)) #[.int .i64 0,.int .i64 0,.string ⟨#[]⟩] 27
  rw [show (w.alloc (.cells #[.int .i64 0,.int .i64 0,.string ⟨#[]⟩,.int .i64 0] 62)).heap.size=w.heap.size+1 by simp] at this;exact this
 have B3:Hd (fG s b tail p ((w.alloc (.cells #[.int .i64 0,.int .i64 0,.string ⟨#[]⟩,.int .i64 0] 62)).alloc (.cells #[.int .i64 0,.int .i64 0,.string ⟨#[]⟩] 27))) :=
  (H.o.grown (aW _ _ none)).grown (aW _ _ none)
 have B4:Hd (w.grownBy ((w.alloc (.cells #[.int .i64 0,.int .i64 0,.string ⟨#[]⟩,.int .i64 0] 62)).alloc (.cells #[.int .i64 0,.int .i64 0,.string ⟨#[]⟩] 27)) (some b)) :=
  ya (aW _ _ _) (aW _ _ _)
 have B5:Hd (∀ W:World,W=(w.alloc (.cells #[.int .i64 0,.int .i64 0,.string ⟨#[]⟩,.int .i64 0] 62)).alloc (.cells #[.int .i64 0,.int .i64 0,.string ⟨#[]⟩] 27)->wR s b tail w p W):=fun W hW=>by subst hW; exact ⟨B1.o,B2.o,B3.o,B4.o⟩
 clear B1 B2 B3 B4;go_enter Tryz.func92,Tryz.ntmps92;go_wp2
 go_loopw [5] (fun n wr=>∃ j k:Nat,j<=ds.length/\j<=10/\n = .int .i64 (As.dec (ds.take j))/\wR s b tail w k wr/\k=p+j) (fun _ wr=>s.size - F8 b wr)
 case atStart=>exact ⟨0,p,by omega,by omega,by simp [As.dec],B5.o _ rfl,rfl⟩
 case round =>
  obtain ⟨j,k,hj,J5,rfl,hst,hkj⟩:=hrel;have HS:=hid hst;have c0:=hst.sc.c0;have c1:=hst.sc.c1;have f1:=hst.sc.f1;have t0:=hst.t.cell 0;have t1:=hst.t.cell 1;have t2:=hst.t.cell 2;have t3:=hst.t.cell 3;have v0:=hst.t.free 0;have v1:=hst.t.free 1;have v2:=hst.t.free 2;have v3:=hst.t.free 3;have x0:=hst.f.cell 0;have x1:=hst.f.cell 1;have x2:=hst.f.cell 2;have y0:=hst.f.free 0;have y1:=hst.f.free 1;have y2:=hst.f.free 2;simp only [bB,yml,bf] at t0 t1 t2 t3 x0 x1 x2;have hdec:=Qs ds DC.o j J5;have Jv:=hid (Qc ds j);generalize hn:As.dec (ds.take j)=n at *;have HN:=hid hn;clear hn;have KJ:=hid hkj;clear hst B5 hkj
  by_cases hlt:k < s.size
  ·have d:decide ((k:Int) < (s.size:Int))=true:=by simp; omega
   have g1:(0:Int)<=(k:Int):=by omega
   have g2:(k:Int) < (s.size:Int):=by omega
   have cD:=hid (fun W=>Qg (s[k]'hlt) W);by_cases hjd:j < ds.length
   ·have ED:=hid (show (s[k]'hlt)=ds[j] from by have e:=KJ.o; subst e; exact Qy.o j hjd hlt);have hdg:As.aK (s[k]'hlt)=true:=by rw [ED.o]; exact DC.o _ (lM hjd)
    rw [hdg] at cD;have DR:=hid hdg;clear hdg;by_cases h10:j=10
    ·have RR:=hid (show R=(As.Tok.nil,(5,p),k) by rw [SN.o,if_pos (by omega),KJ.o,h10]);have d3:((k:Int) - (p:Int) == 10)=true:=by have:=KJ.o; simp; omega
     clear h10;go_wp2
     go_quiet ((go_at_call 91; exact Calls.quiet_of_same (cD.o _)))
     go_wp2;have F:=(HS.o.drewN nq).put hbl (.int .i64 0) (.int .i64 0) (.string ⟨#[]⟩) (.int .i64 0) (.int .i64 5) (.int .i64 p) (.string ⟨#[]⟩);have e0:=F.1.cell 0;have e1:=F.1.cell 1;have e2:=F.1.cell 2;have e3:=F.1.cell 3;have h0:=F.2.1.cell 0;have h1:=F.2.1.cell 1;have h2:=F.2.1.cell 2;simp only [bB,yml,bf] at e0 e1 e2 e3 h0 h1 h2;refine bodyPost_ret (v:=rE R) ?_ rfl ⟨rfl,by rw [RR.o]; exact F.2.2.1,F.2.2.2⟩;rw [RR.o];clear F t0 t1 t2 t3 v0 v1 v2 v3 x0 x1 x2 y0 y1 y2 HS;simp only [sets,jA,jE] at e0 e1 e2 e3 h0 h1 h2;generalize World.setCell _ _ _=WF at *;simp [results,Tryz.results92,go_sem,rE,tokA,pU,As.Tok.nil,bs,e0,e1,e2,e3,h0,h1,h2]
    ·have d3:((k:Int) - (p:Int) == 10)=false:=by have:=KJ.o; simp; omega
     go_wp2
     go_quiet ((go_at_call 91; exact Calls.quiet_of_same (cD.o _)))
     go_wp2
     go_quiet (fail)
     go_wp2;refine ⟨⟨j+1,k+1,by omega,by omega,?_,(HS.o.drewN _).step hbl (k+1),by have:=KJ.o; omega⟩,Oy HS.o.sc _ hlt⟩;rw [Jv.o hjd,<- ED.o]
     have:=DR.o
     unfold As.aK at this;simp at this
     congr 1
     omega
   ·have hst:=hid (HST.o);have ej:j=ds.length:=by omega
    have hdg:As.aK (s[k]'hlt)=false:=by
     have e:=KJ.o;subst e;subst ej;exact HST.o hlt
    rw [hdg] at cD;clear hdg;have cW:=hid (fun W=>Ua (s[k]'hlt) W);have JA:=hid (show (((sl s)[p+ds.length]?).map As.aI).getD false=As.aI (s[k]'hlt) from by
     have e:=KJ.o;subst e;subst ej;rw [kg (by rw [SL.o]; exact hlt)];rfl)
    have EJ:=hid ej;clear ej
    cases hw:As.aI (s[k]'hlt)
    ·have RR:=hid (show R=(⟨2,p,ds,n⟩,(0,0),k) by
      rw [SN.o,if_neg (by have:=EJ.o; omega),JA.o,hw,KJ.o,<- HN.o,EJ.o,List.take_length];rfl)
     rw [hw] at cW;clear hw;have EX:=hid (show s.extract p k=bs ds from by rw [KD,KJ.o,Nat.add_sub_cancel_left,EJ.o]; exact congrArg bs dF.o.symm);have hpk:(p:Int)<=(k:Int):=by have:=KJ.o; omega
     have hks:(k:Int)<=(s.size:Int):=by have:=KJ.o; omega
     have hp0:(0:Int)<=(p:Int):=by omega
     go_wp2
     go_quiet ((go_at_call 91; exact Calls.quiet_of_same (cD.o _)))
     clear cD;have HS2:=hid (HS.o.drewN nq);generalize wr.drewN nq=V at *;clear HS c0 c1 f1 t0 t1 t2 t3 v0 v1 v2 v3 x0 x1 x2 y0 y1 y2;have c0:=HS2.o.sc.c0;have c1:=HS2.o.sc.c1;have f1:=HS2.o.sc.f1;have t0:=HS2.o.t.cell 0;have t1:=HS2.o.t.cell 1;have t2:=HS2.o.t.cell 2;have t3:=HS2.o.t.cell 3;have v0:=HS2.o.t.free 0;have v1:=HS2.o.t.free 1;have v2:=HS2.o.t.free 2;have v3:=HS2.o.t.free 3;have x0:=HS2.o.f.cell 0;have x1:=HS2.o.f.cell 1;have x2:=HS2.o.f.cell 2;have y0:=HS2.o.f.free 0;have y1:=HS2.o.f.free 1;have y2:=HS2.o.f.free 2;simp only [bB,yml,bf] at t0 t1 t2 t3 x0 x1 x2;go_wp2
     go_quiet ((go_at_call 93; exact Calls.quiet_of_same (cW.o _)))
     go_wp2
     go_region
     go_wp2;rw [EX.o];have F:=(HS2.o.drewN (nq+1)).put hbl (.int .i64 2) (.int .i64 p) (.string (bs ds)) (.int .i64 n) (.int .i64 0) (.int .i64 0) (.string ⟨#[]⟩);have e0:=F.1.cell 0;have e1:=F.1.cell 1;have e2:=F.1.cell 2;have e3:=F.1.cell 3;have h0:=F.2.1.cell 0;have h1:=F.2.1.cell 1;have h2:=F.2.1.cell 2;simp only [bB,yml,bf] at e0 e1 e2 e3 h0 h1 h2;refine bodyPost_ret (v:=rE R) ?_ rfl ⟨rfl,by rw [RR.o]; exact F.2.2.1,F.2.2.2⟩;rw [RR.o];clear F t0 t1 t2 t3 v0 v1 v2 v3 x0 x1 x2 y0 y1 y2 HS2;simp only [sets,jA,jE] at e0 e1 e2 e3 h0 h1 h2;generalize World.setCell _ _ _=WF at *;simp [results,Tryz.results92,go_sem,rE,tokA,pU,e0,e1,e2,e3,h0,h1,h2]
    ·have RR:=hid (show R=(As.Tok.nil,(2,k),k) by
      rw [SN.o,if_neg (by have:=EJ.o; omega),JA.o,hw,KJ.o,EJ.o];rfl)
     rw [hw] at cW;clear hw;go_wp2
     go_quiet ((go_at_call 91; exact Calls.quiet_of_same (cD.o _)))
     clear cD;have HS2:=hid (HS.o.drewN nq);generalize wr.drewN nq=V at *;clear HS c0 c1 f1 t0 t1 t2 t3 v0 v1 v2 v3 x0 x1 x2 y0 y1 y2;have c0:=HS2.o.sc.c0;have c1:=HS2.o.sc.c1;have f1:=HS2.o.sc.f1;have t0:=HS2.o.t.cell 0;have t1:=HS2.o.t.cell 1;have t2:=HS2.o.t.cell 2;have t3:=HS2.o.t.cell 3;have v0:=HS2.o.t.free 0;have v1:=HS2.o.t.free 1;have v2:=HS2.o.t.free 2;have v3:=HS2.o.t.free 3;have x0:=HS2.o.f.cell 0;have x1:=HS2.o.f.cell 1;have x2:=HS2.o.f.cell 2;have y0:=HS2.o.f.free 0;have y1:=HS2.o.f.free 1;have y2:=HS2.o.f.free 2;simp only [bB,yml,bf] at t0 t1 t2 t3 x0 x1 x2;go_wp2
     go_quiet ((go_at_call 93; exact Calls.quiet_of_same (cW.o _)))
     go_wp2
     go_region
     go_wp2;have F:=(HS2.o.drewN (nq+1)).put hbl (.int .i64 0) (.int .i64 0) (.string ⟨#[]⟩) (.int .i64 0) (.int .i64 2) (.int .i64 k) (.string ⟨#[]⟩);have e0:=F.1.cell 0;have e1:=F.1.cell 1;have e2:=F.1.cell 2;have e3:=F.1.cell 3;have h0:=F.2.1.cell 0;have h1:=F.2.1.cell 1;have h2:=F.2.1.cell 2;simp only [bB,yml,bf] at e0 e1 e2 e3 h0 h1 h2;refine bodyPost_ret (v:=rE R) ?_ rfl ⟨rfl,by rw [RR.o]; exact F.2.2.1,F.2.2.2⟩;rw [RR.o];clear F t0 t1 t2 t3 v0 v1 v2 v3 x0 x1 x2 y0 y1 y2 HS2;simp only [sets,jA,jE] at e0 e1 e2 e3 h0 h1 h2;generalize World.setCell _ _ _=WF at *;simp [results,Tryz.results92,go_sem,rE,tokA,pU,As.Tok.nil,bs,e0,e1,e2,e3,h0,h1,h2]
  ·have d:decide ((k:Int) < (s.size:Int))=false:=by simp; omega
   have ej:j=ds.length:=by have:=KJ.o; omega
   have EJ:=hid ej;clear ej;have JA:=hid (show (((sl s)[p+ds.length]?).map As.aI).getD false=false from by
    have e:=KJ.o;have e2:=EJ.o;rw [List.getElem?_eq_none (by rw [SL.o]; omega)];rfl)
   have RR:=hid (show R=(⟨2,p,ds,n⟩,(0,0),k) by
    rw [SN.o,if_neg (by have:=EJ.o; omega),JA.o,KJ.o,<- HN.o,EJ.o,List.take_length];rfl)
   have EX:=hid (show s.extract p k=bs ds from by rw [KD,KJ.o,Nat.add_sub_cancel_left,EJ.o]; exact congrArg bs dF.o.symm);have hpk:(p:Int)<=(k:Int):=by have:=KJ.o; omega
   have hks:(k:Int)<=(s.size:Int):=by have:=KJ.o; omega
   have hp0:(0:Int)<=(p:Int):=by omega
   go_wp2
   go_quiet (fail)
   have HS2:=hid (HS.o.drewN nq);generalize wr.drewN nq=V at *;clear HS c0 c1 f1 t0 t1 t2 t3 v0 v1 v2 v3 x0 x1 x2 y0 y1 y2;have c0:=HS2.o.sc.c0;have c1:=HS2.o.sc.c1;have f1:=HS2.o.sc.f1;have t0:=HS2.o.t.cell 0;have t1:=HS2.o.t.cell 1;have t2:=HS2.o.t.cell 2;have t3:=HS2.o.t.cell 3;have v0:=HS2.o.t.free 0;have v1:=HS2.o.t.free 1;have v2:=HS2.o.t.free 2;have v3:=HS2.o.t.free 3;have x0:=HS2.o.f.cell 0;have x1:=HS2.o.f.cell 1;have x2:=HS2.o.f.cell 2;have y0:=HS2.o.f.free 0;have y1:=HS2.o.f.free 1;have y2:=HS2.o.f.free 2;simp only [bB,yml,bf] at t0 t1 t2 t3 x0 x1 x2;go_wp2
   go_quiet (fail)
   go_wp2
   go_region
   go_wp2;rw [EX.o];have F:=(HS2.o.drewN (nq+1)).put hbl (.int .i64 2) (.int .i64 p) (.string (bs ds)) (.int .i64 n) (.int .i64 0) (.int .i64 0) (.string ⟨#[]⟩);have e0:=F.1.cell 0;have e1:=F.1.cell 1;have e2:=F.1.cell 2;have e3:=F.1.cell 3;have h0:=F.2.1.cell 0;have h1:=F.2.1.cell 1;have h2:=F.2.1.cell 2;simp only [bB,yml,bf] at e0 e1 e2 e3 h0 h1 h2;refine bodyPost_ret (v:=rE R) ?_ rfl ⟨rfl,by rw [RR.o]; exact F.2.2.1,F.2.2.2⟩;rw [RR.o];clear F t0 t1 t2 t3 v0 v1 v2 v3 x0 x1 x2 y0 y1 y2 HS2;simp only [sets,jA,jE] at e0 e1 e2 e3 h0 h1 h2;generalize World.setCell _ _ _=WF at *;simp [results,Tryz.results92,go_sem,rE,tokA,pU,e0,e1,e2,e3,h0,h1,h2]
end Go.Proofs.YtnkkepfcpjllmaaGreatDoor
