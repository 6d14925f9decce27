
import Derived.Test.YtnkkepfcpjllmaaGreatDoorU09
set_option maxHeartbeats 16000000
set_option maxRecDepth 100000
namespace Go.Proofs.YtnkkepfcpjllmaaGreatDoor
namespace As
def eU (t:List UInt8):Nat :=
 if t=[46,116,101,120,116] then 15 else
 if t=[46,102,97,114] then 15 else
 if t=[46,100,97,116,97] then 15 else
 if t=[46,98,115,115] then 15 else
 if t=[46,119,111,114,100] then 16 else
 if t=[46,115,112,97,99,101] then 17 else
 if t=[46,97,108,105,103,110] then 18 else
 if t=[46,103,108,111,98,108] then 19 else
 if t=[46,119,101,97,107] then 19 else
 0
def shapeOf (t:List UInt8):Nat :=
 if t=[97,100,100] then 1 else
 if t=[115,117,98] then 1 else
 if t=[115,108,116] then 1 else
 if t=[115,108,116,117] then 1 else
 if t=[120,111,114] then 1 else
 if t=[111,114] then 1 else
 if t=[97,110,100] then 1 else
 if t=[97,100,100,105] then 2 else
 if t=[115,108,116,105] then 2 else
 if t=[120,111,114,105] then 2 else
 if t=[111,114,105] then 2 else
 if t=[97,110,100,105] then 2 else
 if t=[108,117,105] then 3 else
 if t=[108,119] then 4 else
 if t=[115,119] then 5 else
 if t=[106,97,108,114] then 6 else
 if t=[101,99,97,108,108] then 7 else
 if t=[114,101,116] then 7 else
 if t=[110,111,112] then 7 else
 if t=[98,101,113] then 8 else
 if t=[98,110,101] then 8 else
 if t=[98,108,116] then 8 else
 if t=[98,103,101] then 8 else
 if t=[98,108,116,117] then 8 else
 if t=[98,103,101,117] then 8 else
 if t=[106,97,108] then 9 else
 if t=[106] then 10 else
 if t=[109,118] then 11 else
 if t=[108,105] then 12 else
 if t=[99,97,108,108] then 13 else
 if t=[116,97,105,108] then 13 else
 if t=[108,97] then 14 else
 eU t
def names:List (List UInt8):=[[],[108,117,105],[97,117,105,112,99],[106,97,108],[106,97,108,114],[98,101,113],[98,110,101],[98,108,116],[98,103,101],[98,108,116,117],[98,103,101,117],[108,119],[115,119],[97,100,100,105],[115,108,116,105],[120,111,114,105],[111,114,105],[97,110,100,105],[97,100,100],[115,117,98],[115,108,116],[115,108,116,117],[120,111,114],[111,114],[97,110,100],[101,99,97,108,108]]
def named (t:List UInt8):Nat:=((List.range 26).find? fun k=>decide (1<=k) && names.getD k [] == t).getD 0
def instruction (s:List UInt8) (shape op:Nat) (st:St):St :=
 if shape=1 then bA s op st else if shape=2 then bC s op st else if shape=3 then upper s st else if shape=4 then load s st
 else if shape=5 then store s st else if shape=6 then bN s st else if shape=7 then bare st else if shape=8 then branch s op st
 else if shape=9 then eX s st else if shape=10 then fE s 0 st else if shape=11 then move s st else if shape=12 then bZ s st
 else if shape=13 then call s st else if shape=14 then bS s st else st
def directive (s:List UInt8) (shape:Nat) (st:St):St :=
 if shape=15 then dz st else if shape=16 then word s st else if shape=17 then space s st else if shape=18 then align s st
 else if shape=19 then binding s st else st
def dX (shape ah:Nat):Bool:=if shape<=14 then gL ah else !(shape == 16) || !(ah == 4)
def operation (s:List UInt8) (t:Tok) (st:St):St :=
 if shapeOf t.text=0 then refuse 6 t.pos st
 else if !dX (shapeOf t.text) st.ah then refuse 9 t.pos st
 else if shapeOf t.text<=14 then instruction s (shapeOf t.text) (named t.text) { st with op:=t }
 else directive s (shapeOf t.text) { st with op:=t }
def gM (s:List UInt8) (t:Tok) (st:St):St :=
 let st1:=if t.kind == 1 then operation s t st else st
 if st1.tok.kind == 4 then st1 else refuse 3 st1.tok.pos st1
def line (s:List UInt8) (st:St):St :=
 let w:=aU s (advance s st)
 if w.1.kind == 1 && w.2.tok.is [58] then
  let v:=aU s (advance s (label w.1 w.2))
  gM s v.1 v.2
 else gM s w.1 w.2
def lines (s:List UInt8):Nat->St->St
 | 0,st=>st
 | n+1,st =>
  let r:=bO s (line s st)
  if r.1 then lines s n r.2 else r.2
def dL (ys:List Lk.Sym):List Lk.Sym:=ys.map fun y=>if y.ah=0/\y.bind=0 then ⟨y.name,1,y.ah,y.off⟩ else y
def dx (rs:List Lk.Rel):List Lk.Rel:=(rs.filter fun r=>r.ah=1) ++ (rs.filter fun r=>r.ah=2) ++ (rs.filter fun r=>r.ah=3)
def start:St:=⟨0,Tok.nil,0,0,Tok.nil,1,⟨[],[],[],0,[2,2,2,2],[],[]⟩⟩
def finish (o:Lk.Obj):Lk.Obj:={ o with syms:=dL o.syms,aj:=dx o.aj }
def assemble (s:List UInt8):(Nat×Nat)×Lk.Obj :=
 if 1000 < s.length then ((1,0),start.obj)
 else ((( lines s (s.length+1) start).fe,(lines s (s.length+1) start).fa),finish (lines s (s.length+1) start).obj)
end As
end Go.Proofs.YtnkkepfcpjllmaaGreatDoor

namespace Go.Proofs.YtnkkepfcpjllmaaGreatDoor
namespace Rf
structure Tk where
 kind:Nat
 at_:Nat
 text:List UInt8
 num:Nat
 e:Nat
def Tk.nil:Tk:=⟨0,0,[],0,0⟩
def one (s:List UInt8) (p:Nat):Tk×Nat :=
 match s[p]? with
 | none=>(Tk.nil,p)
 | some c =>
  if As.aK c then
   if 10 < ((s.drop p).takeWhile As.aK).length then (⟨33,p,[],0,5⟩,p+11)
   else if ((s[As.skip As.aK s p]?).map As.aI).getD false then (⟨33,As.skip As.aK s p,[],0,2⟩,As.skip As.aK s p)
   else (⟨110,p,[],As.dec ((s.drop p).takeWhile As.aK),0⟩,As.skip As.aK s p)
  else if As.aI c then (⟨119,p,(s.drop p).takeWhile As.aI,0,0⟩,As.skip As.aI s p)
  else if As.gG c then (⟨c.toNat,p,[],0,0⟩,p+1)
  else (⟨33,p,[],0,2⟩,p)
def oJ (s:List UInt8) (p:Nat):Bool:=((s[p]?).map As.ends).getD true
def aV (s:List UInt8):Nat->Nat->List Tk×Nat
 | 0,p=>([],p)
 | n+1,p =>
  if oJ s p then ([⟨101,p,[],0,0⟩],As.skip As.bF s p+1)
  else if ((s[p]?).map As.blank).getD false then aV s n (p+1)
  else if (one s p).1.kind=33 then ([(one s p).1],s.length)
  else ((one s p).1 :: (aV s n (one s p).2).1,(aV s n (one s p).2).2)
def tokens (s:List UInt8) (p:Nat):List Tk×Nat:=aV s (s.length+1 - p) p
structure Ds where
 k:Nat
 fe:Nat
 fa:Nat
 ah:Nat
 op:Nat
 obj:Lk.Obj
 said:List Bool
def bad (e a:Nat) (d:Ds):Ds:=if d.fe=0 then { d with fe:=e,fa:=a } else d
def aH (c:Bool) (e a:Nat) (d:Ds):Ds:=if c then bad e a d else d
def tk (L:List Tk) (d:Ds):Tk:=L.getD d.k Tk.nil
def look (L:List Tk) (d:Ds):Ds:=aH (decide ((tk L d).kind=33)) (tk L d).e (tk L d).at_ d
def step (L:List Tk) (d:Ds):Ds:=look L (if d.k+1 < L.length/\d.fe=0 then { d with k:=d.k+1 } else d)
def expect (L:List Tk) (c:Nat) (d:Ds):Ds:=if (tk L d).kind=c then step L d else bad 3 (tk L d).at_ d
def reg (L:List Tk) (d:Ds):Nat×Ds :=
 if (tk L d).kind=119 then
  match As.dY (tk L d).text with
  | none=>(0,bad 7 (tk L d).at_ d)
  | some r=>(r,step L d)
 else (0,bad 3 (tk L d).at_ d)
def bP (L:List Tk) (neg:Bool) (pos:Nat) (lo hi:Int) (d:Ds):Int×Ds :=
 if (tk L d).kind=110 then
  ((if neg then -((tk L d).num:Int) else ((tk L d).num:Int)),step L (aH (decide ((if neg then -((tk L d).num:Int) else ((tk L d).num:Int)) < lo\/hi < (if neg then -((tk L d).num:Int) else ((tk L d).num:Int)))) 8 pos d))
 else (0,bad 3 (tk L d).at_ d)
def num (L:List Tk) (lo hi:Int) (d:Ds):Int×Ds :=
 if (tk L d).kind=45 then bP L true (tk L d).at_ lo hi (step L d) else bP L false (tk L d).at_ lo hi d
def proper (t:Tk) (d:Ds):Ds:=aH (As.dY t.text).isSome 7 t.at_ (aH (decide (6 < t.text.length)) 4 t.at_ (aH (As.bX t.text) 3 t.at_ d))
def entry (n:List UInt8) (a:Nat) (d:Ds):Nat×Ds :=
 match As.eH d.obj.syms n with
 | some k=>(k,d)
 | none =>
  if (aH (decide (d.obj.syms.length=16)) 11 a d).fe=0 then (d.obj.syms.length,{ d with obj:={ d.obj with syms:=d.obj.syms ++ [⟨n,0,0,0⟩] },said:=d.said ++ [false] })
  else (0,aH (decide (d.obj.syms.length=16)) 11 a d)
def sym (L:List Tk) (d:Ds):Nat×Ds :=
 if (tk L d).kind=119 then entry (tk L d).text (tk L d).at_ (step L (proper (tk L d) d)) else (0,bad 3 (tk L d).at_ d)
def added (L:List Tk) (d:Ds):(Nat×Int)×Ds :=
 let r:=sym L d
 if (tk L r.2).kind=43 then ((r.1,(num L 0 2047 (step L r.2)).1),(num L 0 2047 (step L r.2)).2)
 else if (tk L r.2).kind=45 then ((r.1,-(num L 0 2048 (step L r.2)).1),(num L 0 2048 (step L r.2)).2)
 else ((r.1,0),r.2)
structure Got where
 rs:List Nat
 num:Int
 sym:Nat
 add:Int
def iU (L:List Tk) (lo hi:Int) (c:Nat) (g:Got) (d:Ds):Got×Ds :=
 if c=114 then ({ g with rs:=g.rs ++ [(reg L d).1] },(reg L d).2)
 else if c=44 then (g,expect L 44 d)
 else if c=110 then ({ g with num:=(num L lo hi d).1 },(num L lo hi d).2)
 else if c=115 then ({ g with sym:=(sym L d).1 },(sym L d).2)
 else if c=97 then ({ g with sym:=(added L d).1.1,add:=(added L d).1.2 },(added L d).2)
 else if c=112 then
  let n:=num L lo hi d
  let r:=reg L (expect L 40 n.2)
  ({ g with num:=n.1,rs:=g.rs ++ [r.1] },expect L 41 r.2)
 else (g,d)
def aS (L:List Tk) (lo hi:Int):List Nat->Got->Ds->Got×Ds
 | [],g,d=>(g,d)
 | c :: cs,g,d=>if d.fe=0 then aS L lo hi cs (iU L lo hi c g d).1 (iU L lo hi c g d).2 else (g,d)
def pad (g:Got):Got:={ g with rs:=g.rs ++ List.replicate (3 - g.rs.length) 0 }
def operands (L:List Tk) (form:List Nat) (lo hi:Int) (d:Ds):Got×Ds:=(pad (aS L lo hi form ⟨[],0,0,0⟩ d).1,(aS L lo hi form ⟨[],0,0,0⟩ d).2)
def top (ah:Nat):Int:=if ah=3 then 64 else 1200
def lay (kind sym:Nat) (add:Int) (ws:List Int) (d:Ds):Ds :=
 let d1:=aH (decide (0 < kind/\d.obj.aj.length=32)) 12 d.op d
 if d1.fe=0 then
  let d2:Ds:=if 0 < kind then { d1 with obj:={ d1.obj with aj:=d1.obj.aj ++ [⟨d1.ah,4 * As.aA d1.obj d1.ah,kind,sym,add⟩] } } else d1
  if top d.ah < As.aA d.obj d.ah+ws.length then bad 13 d.op d2 else { d2 with obj:=As.aB d2.obj d2.ah ws }
 else d1
def nothing (n:Int) (d:Ds):Ds :=
 let d1:=aH (decide (64 < d.obj.bss+n)) 13 d.op d
 if d1.fe=0 then { d1 with obj:={ d1.obj with bss:=d1.obj.bss+n } } else d1
def empty (n:Nat) (d:Ds):Ds:=if d.fe=0 then (if d.ah=4 then nothing n d else lay 0 0 0 (List.replicate n 0) d) else d
def address (r:Nat) (g:Got) (w:Int) (d:Ds):Ds:=if r=0 then bad 7 d.op d else lay 5 g.sym g.add [(As.enc 1 r 0 0 0:Int),w] d
def label (t:Tk) (d:Ds):Ds :=
 let r:=entry t.text t.at_ (proper t d)
 if r.2.fe=0 then
  if ((r.2.obj.syms[r.1]?).map (·.ah)).getD 0=0 then { r.2 with obj:={ r.2.obj with syms:=r.2.obj.syms.modify r.1 fun y=>⟨y.name,y.bind,r.2.ah,4 * As.aA r.2.obj r.2.ah⟩ } }
  else bad 10 t.at_ r.2
 else r.2
end Rf
end Go.Proofs.YtnkkepfcpjllmaaGreatDoor

namespace Go.Proofs.YtnkkepfcpjllmaaGreatDoor
namespace Rf
def conv (t:As.Tok) (f:Nat×Nat):Tk :=
 if f.1≠0 then ⟨33,f.2,[],0,f.1⟩ else if t.kind=1 then ⟨119,t.pos,t.text,0,0⟩ else if t.kind=2 then ⟨110,t.pos,[],t.n,0⟩ else if t.kind=3 then ⟨(t.text.headD 0).toNat,t.pos,[],0,0⟩ else ⟨101,t.pos,[],0,0⟩
def Dy (t:As.Tok):Prop:=t.kind=1\/t.kind=2\/(t.kind=3/\∃ c,t.text=[c]/\As.gG c=true)\/t.kind=4
def Is (t:As.Tok) (x:Tk):Prop:=Dy t/\conv t (0,0)=x
def Ahead (s:List UInt8) (p:Nat):List Tk->Prop
 | []=>False
 | x :: xs=>conv (As.next s p).1 (As.next s p).2.1=x/\((As.next s p).2.1.1=0->Dy (As.next s p).1) /\
  match xs with
  | []=>x.kind=33\/(x.kind=101/\As.next s (As.next s p).2.2=((As.next s p).1,(0,0),(As.next s p).2.2))
  | _=>x.kind≠33/\x.kind≠101/\Ahead s (As.next s p).2.2 xs
structure bM (s:List UInt8) (L:List Tk) (d:Ds) (st:As.St):Prop where
 fe:st.fe=d.fe
 fa:d.fe≠0->st.fa=d.fa
 tok:d.fe=0->Is st.tok (tk L d)
 obj:d.fe=0->st.obj=d.obj
 ah:d.fe=0->st.ah=d.ah
 op:d.fe=0->st.op.pos=d.op
 k:d.fe=0->d.k < L.length
 more:d.fe=0->d.k+1 < L.length->Ahead s st.p (L.drop (d.k+1))
 last:d.fe=0->¬ d.k+1 < L.length->(tk L d).kind=101/\As.next s st.p=(st.tok,(0,0),st.p)
 syms:d.fe=0->d.obj.syms.length<=16
 aj:d.fe=0->d.obj.aj.length<=32
 secs:d.fe=0->1<=d.ah/\d.ah<=4
 said:d.fe=0->d.said=d.obj.syms.map fun y=>decide (y.bind≠0)
section
variable {s:List UInt8} {L:List Tk} {d d':Ds} {st st':As.St}
theorem bM.down (h1:st.fe=d.fe) (h2:d.fe≠0) (h3:st.fa=d.fa):bM s L d st :=
 ⟨h1,fun _=>h3,fun c=>absurd c h2,fun c=>absurd c h2,fun c=>absurd c h2,fun c=>absurd c h2,fun c=>absurd c h2,fun c=>absurd c h2,fun c=>absurd c h2,fun c=>absurd c h2,fun c=>absurd c h2,fun c=>absurd c h2,fun c=>absurd c h2⟩
def aD (st st':As.St):Prop:=st.fe≠0->st'.fe=st.fe/\st'.fa=st.fa
def aQ (d d':Ds):Prop:=d.fe≠0->d'.fe=d.fe/\d'.fa=d.fa
theorem aD.refl:aD st st:=fun _=>⟨rfl,rfl⟩
theorem aQ.refl:aQ d d:=fun _=>⟨rfl,rfl⟩
theorem aD.trans {a b c:As.St} (h:aD a b) (k:aD b c):aD a c:=fun x=>by
 obtain ⟨h1,h2⟩:=h x;obtain ⟨k1,k2⟩:=k (by rw [h1]; exact x);exact ⟨k1.trans h1,k2.trans h2⟩
theorem aQ.trans {a b c:Ds} (h:aQ a b) (k:aQ b c):aQ a c:=fun x=>by
 obtain ⟨h1,h2⟩:=h x;obtain ⟨k1,k2⟩:=k (by rw [h1]; exact x);exact ⟨k1.trans h1,k2.trans h2⟩
theorem aD.ite {c:Prop} [Decidable c] {x y:As.St} (h:aD st x) (k:aD st y):aD st (if c then x else y):=by split; exact h; exact k
theorem aQ.ite {c:Prop} [Decidable c] {x y:Ds} (h:aQ d x) (k:aQ d y):aQ d (if c then x else y):=by split; exact h; exact k
theorem bM.stays (h:bM s L d st) (hd:d.fe≠0) (a:aD st st') (b:aQ d d'):bM s L d' st':=by
 have e:st.fe≠0:=by rw [h.fe]; exact hd
 obtain ⟨a1,a2⟩:=a e;obtain ⟨b1,b2⟩:=b hd;exact bM.down (by rw [a1,b1,h.fe]) (by rw [b1]; exact hd) (by rw [a2,b2,h.fa hd])
theorem bE (e a:Nat) (st:As.St):aD st (As.refuse e a st):=fun h=>by
 unfold As.refuse As.failed;rw [if_pos (by simp [h])];exact ⟨rfl,rfl⟩
theorem fP (e a:Nat) (d:Ds):aQ d (bad e a d):=fun h=>by
 unfold bad;rw [if_neg h];exact ⟨rfl,rfl⟩
theorem ig (c:Bool) (e a:Nat) (st:As.St):aD st (As.aJ c e a st):=aD.ite (bE _ _ _) aD.refl
theorem gy (c:Bool) (e a:Nat) (d:Ds):aQ d (aH c e a d):=aQ.ite (fP _ _ _) aQ.refl
theorem aX (s:List UInt8) (st:As.St):aD st (As.advance s st):=fun h=>by
 unfold As.advance As.failed;rw [if_pos (by simp [h])];exact ⟨rfl,rfl⟩
theorem dD (L:List Tk) (d:Ds):aQ d (step L d):=fun h=>by
 unfold step;rw [if_neg (fun c=>h c.2)];exact gy _ _ _ _ h
theorem eZ (e a:Nat) (he:e≠0) (h:bM s L d st):bM s L (bad e a d) (As.refuse e a st):=by
 by_cases hd:d.fe=0
 ·have e1:bad e a d={ d with fe:=e,fa:=a }:=by unfold bad; rw [if_pos hd]
  have e2:As.refuse e a st={ st with fe:=e,fa:=a,tok:=As.Tok.nil }:=by
   unfold As.refuse As.failed;rw [if_neg (by simp [h.fe,hd])]
  rw [e1,e2];exact bM.down rfl he rfl
 ·exact h.stays hd (bE _ _ _) (fP _ _ _)
theorem qb (c:Bool) (e a:Nat) (he:e≠0) (h:bM s L d st):bM s L (aH c e a d) (As.aJ c e a st):=by
 cases c
 ·exact h
 ·exact eZ e a he h
theorem Ho {t:As.Tok} {x:Tk} (h:Is t x) (c:UInt8) (hc:As.gG c=true):t.is [c]=true↔x.kind=c.toNat:=by
 obtain ⟨g,rfl⟩:=h;have hs:c.toNat=44\/c.toNat=58\/c.toNat=40\/c.toNat=41\/c.toNat=43\/c.toNat=45:=by
  unfold As.gG at hc;simp only [Bool.or_eq_true,beq_iff_eq] at hc;omega
 unfold As.Tok.is conv;rw [if_neg (by simp)];rcases g with g | g | ⟨g,b,hb,-⟩ | g
 ·simp [g]; omega
 ·simp [g]; omega
 ·simp [g,hb];constructor
  ·intro e; rw [e]
  ·intro e; exact UInt8.toNat_inj.1 e
 ·simp [g]; omega
theorem q9 {t:As.Tok} {x:Tk} (h:Is t x):(t.kind=1↔x.kind=119)/\(t.kind=1->x.text=t.text)/\(t.kind=2↔x.kind=110)/\(t.kind=2->x.num=t.n)/\(t.kind=4↔x.kind=101)/\x.at_=t.pos/\x.kind≠33:=by
 obtain ⟨g,rfl⟩:=h;unfold conv;rw [if_neg (by simp)];rcases g with g | g | ⟨g,b,hb,hs⟩ | g
 ·simp [g]
 ·simp [g]
 ·have hs:b.toNat=44\/b.toNat=58\/b.toNat=40\/b.toNat=41\/b.toNat=43\/b.toNat=45:=by
   unfold As.gG at hs;simp only [Bool.or_eq_true,beq_iff_eq] at hs;omega
  simp [g,hb];omega
 ·simp [g]
theorem iM (h:bM s L d st):bM s L (step L d) (As.advance s st):=by
 by_cases hd:d.fe=0
 ·have hf:As.failed st=false:=by unfold As.failed; simp [h.fe,hd]
  by_cases hk:d.k+1 < L.length
  ·have A:=h.more hd hk;obtain ⟨x,xs,hx⟩:∃ x xs,L.drop (d.k+1)=x :: xs:=by
    cases e:L.drop (d.k+1) with
    | nil=>simp at e; omega
    | cons x xs=>exact ⟨x,xs,rfl⟩
   have hx1:L[d.k+1]?=some x:=by
    have:(L.drop (d.k+1))[0]?=L[d.k+1]?:=by simp
    rw [<- this,hx];rfl
   have hxs:L.drop (d.k+1+1)=xs:=by rw [<- List.drop_drop,hx]; rfl
   have xl:xs.length+(d.k+2)=L.length:=by
    have:=congrArg List.length hx
    simp at this;omega
   have tx:tk L { d with k:=d.k+1 }=x:=by unfold tk; rw [List.getD_eq_getElem?_getD,hx1]; rfl
   rw [hx] at A;unfold Ahead at A;obtain ⟨a1,a2,a3⟩:=A;unfold step look;rw [if_pos ⟨hk,hd⟩,tx];unfold As.advance;rw [hf];simp only [Bool.false_eq_true,if_false];by_cases hn:(As.next s st.p).2.1.1=0
   ·have G:=a2 hn;have I:Is (As.next s st.p).1 x:=⟨G,by rw [<- a1]; unfold conv; simp [hn]⟩
    have W:=q9 I;rw [decide_eq_false W.2.2.2.2.2.2,if_pos (by simp [hn])];refine ⟨h.fe,h.fa,fun _=>?_,fun _=>h.obj hd,fun _=>h.ah hd,fun _=>h.op hd,fun _=>hk,fun _ c=>?_,fun _ c=>?_,fun _=>h.syms hd,fun _=>h.aj hd,fun _=>h.secs hd,fun _=>h.said hd⟩
    ·show Is (As.next s st.p).1 (tk L { d with k:=d.k+1 });rw [tx];exact I
    ·have c':d.k+1+1 < L.length:=c;show Ahead s (As.next s st.p).2.2 (L.drop (d.k+1+1));rw [hxs]
     cases xs with
     | nil=>simp at xl; omega
     | cons y ys=>exact a3.2.2
    ·have c':¬ d.k+1+1 < L.length:=c;have z:xs=[]:=by
      cases xs with
      | nil=>rfl
      | cons y ys=>simp at xl; omega
     subst z;rcases a3 with a3 | ⟨a3,a4⟩
     ·exact absurd a3 W.2.2.2.2.2.2
     ·show (tk L { d with k:=d.k+1 }).kind=101/\As.next s (As.next s st.p).2.2=_;rw [tx];exact ⟨a3,a4⟩
   ·have e33:x=⟨33,(As.next s st.p).2.1.2,[],0,(As.next s st.p).2.1.1⟩:=by rw [<- a1]; unfold conv; rw [if_pos hn]
    rw [if_neg (by simpa using hn),e33];have e1:aH (decide ((⟨33,(As.next s st.p).2.1.2,[],0,(As.next s st.p).2.1.1⟩:Tk).kind=33)) (As.next s st.p).2.1.1 (As.next s st.p).2.1.2 { d with k:=d.k+1 }={ d with k:=d.k+1,fe:=(As.next s st.p).2.1.1,fa:=(As.next s st.p).2.1.2 }:=by
     unfold aH bad;simp [hd]
    have e2:As.refuse (As.next s st.p).2.1.1 (As.next s st.p).2.1.2 { st with p:=(As.next s st.p).2.2 }={ st with p:=(As.next s st.p).2.2,fe:=(As.next s st.p).2.1.1,fa:=(As.next s st.p).2.1.2,tok:=As.Tok.nil }:=by
     unfold As.refuse As.failed;simp [h.fe,hd]
    rw [e1,e2];exact bM.down rfl hn rfl
  ·obtain ⟨l1,l2⟩:=h.last hd hk;have e1:step L d=d:=by
    have e0:(if d.k+1 < L.length/\d.fe=0 then { d with k:=d.k+1 } else d)=d:=if_neg fun c=>hk c.1
    unfold step;rw [e0];unfold look aH;rw [l1];rfl
   have e2:As.advance s st=st:=by
    unfold As.advance;rw [hf,l2];rfl
   rw [e1,e2];exact h
 ·exact h.stays hd (aX _ _) (dD _ _)
theorem bM.word (h:bM s L d st) (hd:d.fe=0):(st.tok.kind=1↔(tk L d).kind=119)/\(st.tok.kind=1->(tk L d).text=st.tok.text)/\(st.tok.kind=2↔(tk L d).kind=110)/\(st.tok.kind=2->(tk L d).num=st.tok.n)/\(st.tok.kind=4↔(tk L d).kind=101)/\(tk L d).at_=st.tok.pos/\(tk L d).kind≠33:=q9 (h.tok hd)
theorem bM.sign (h:bM s L d st) (hd:d.fe=0) (c:UInt8) (hc:As.gG c=true):st.tok.is [c]=true↔(tk L d).kind=c.toNat:=Ho (h.tok hd) c hc
theorem bL (s c:List UInt8) (st:As.St):aD st (As.sign s c st):=aD.ite (aX _ _) (bE _ _ _)
theorem dU (L:List Tk) (c:Nat) (d:Ds):aQ d (expect L c d):=aQ.ite (dD _ _) (fP _ _ _)
theorem dh (c:UInt8) (n:Nat) (hc:As.gG c=true) (hn:c.toNat=n) (h:bM s L d st):bM s L (expect L n d) (As.sign s [c] st):=by
 subst hn;by_cases hd:d.fe=0
 ·have q:=h.sign hd c hc;unfold expect As.sign;by_cases e:(tk L d).kind=c.toNat
  ·rw [if_pos e,if_pos (q.2 e)];exact iM h
  ·rw [if_neg e,if_neg (fun x=>e (q.1 x)),(h.word hd).2.2.2.2.2.1];exact eZ 3 _ (by decide) h
 ·exact h.stays hd (bL _ _ _) (dU _ _ _)
structure qH {α:Type} (s:List UInt8) (L:List Tk) (x:α×Ds) (y:α×As.St):Prop where
 jK:bM s L x.2 y.2
 eq:x.2.fe=0->x.1=y.1
theorem aO (s:List UInt8) (st:As.St):aD st (As.register s st).2:=by
 unfold As.register;split
 ·split
  ·exact bE _ _ _
  ·exact aX _ _
 ·exact bE _ _ _
theorem jN (L:List Tk) (d:Ds):aQ d (reg L d).2:=by
 unfold reg;split
 ·split
  ·exact fP _ _ _
  ·exact dD _ _
 ·exact fP _ _ _
theorem qH.down {α:Type} {x:α×Ds} {y:α×As.St} (h:bM s L d st) (hd:d.fe≠0) (a:aD st y.2) (b:aQ d x.2):qH s L x y:=⟨h.stays hd a b,fun c=>by
 have:=(b hd).1
 rw [c] at this;exact absurd this.symm hd⟩
theorem bH (e a:Nat) (he:e≠0) (d:Ds):(bad e a d).fe≠0:=by
 unfold bad;split
 ·exact he
 ·assumption
theorem fq (h:bM s L d st):qH s L (reg L d) (As.register s st):=by
 by_cases hd:d.fe=0
 ·have w:=h.word hd;unfold reg As.register;by_cases e:(tk L d).kind=119
  ·have k1:=w.1.2 e;rw [if_pos e,if_pos (by simp [k1]),w.2.1 k1,w.2.2.2.2.2.1]
   cases As.dY st.tok.text with
   | none=>exact ⟨eZ 7 _ (by decide) h,fun c=>absurd c (bH 7 _ (by decide) d)⟩
   | some r=>exact ⟨iM h,fun _=>rfl⟩
  ·rw [if_neg e,if_neg (by simpa using fun x=>e (w.1.1 x)),w.2.2.2.2.2.1];exact ⟨eZ 3 _ (by decide) h,fun _=>rfl⟩
 ·exact qH.down h hd (aO _ _) (jN _ _)
theorem jl (s:List UInt8) (neg:Bool) (pos:Nat) (lo hi:Int) (st:As.St):aD st (As.aN s neg pos lo hi st).2:=by
 unfold As.aN;generalize (if neg=true then -(st.tok.n:Int) else (st.tok.n:Int))=v;split
 ·split
  ·exact bE _ _ _
  ·exact aX _ _
 ·exact bE _ _ _
theorem bW (s:List UInt8) (lo hi:Int) (st:As.St):aD st (As.number s lo hi st).2:=by
 unfold As.number;split
 ·exact (aX _ _).trans (jl _ _ _ _ _ _)
 ·exact jl _ _ _ _ _ _
theorem kJ (L:List Tk) (neg:Bool) (pos:Nat) (lo hi:Int) (d:Ds):aQ d (bP L neg pos lo hi d).2:=by
 unfold bP;split
 ·exact (gy _ _ _ _).trans (dD _ _)
 ·exact fP _ _ _
theorem iE (L:List Tk) (lo hi:Int) (d:Ds):aQ d (num L lo hi d).2:=by
 unfold num;split
 ·exact (dD _ _).trans (kJ _ _ _ _ _ _)
 ·exact kJ _ _ _ _ _ _
theorem qz (neg:Bool) (pos:Nat) (lo hi:Int) (h:bM s L d st):qH s L (bP L neg pos lo hi d) (As.aN s neg pos lo hi st):=by
 by_cases hd:d.fe=0
 ·have w:=h.word hd;unfold bP As.aN;by_cases e:(tk L d).kind=110
  ·have k2:=w.2.2.1.2 e;rw [w.2.2.2.1 k2];generalize (if neg=true then -(st.tok.n:Int) else (st.tok.n:Int))=v;rw [if_pos e,if_pos (show (st.tok.kind == 2)=true by simp [k2])];by_cases c:v < lo\/hi < v
   ·rw [if_pos c,decide_eq_true c];have e1:aQ (bad 8 pos d) (step L (bad 8 pos d)):=dD _ _;have e2:=bH 8 pos (by decide) d;exact ⟨(eZ 8 pos (by decide) h).stays e2 aD.refl e1,fun x=>by have:=(e1 e2).1; exact absurd (this.symm.trans x) e2⟩
   ·rw [if_neg c,decide_eq_false c];exact ⟨iM h,fun _=>rfl⟩
  ·rw [if_neg e,if_neg (by simpa using fun x=>e (w.2.2.1.1 x)),w.2.2.2.2.2.1];exact ⟨eZ 3 _ (by decide) h,fun _=>rfl⟩
 ·exact qH.down h hd (jl _ _ _ _ _ _) (kJ _ _ _ _ _ _)
theorem kG (lo hi:Int) (h:bM s L d st):qH s L (num L lo hi d) (As.number s lo hi st):=by
 by_cases hd:d.fe=0
 ·have w:=h.word hd;have q:=h.sign hd 45 (by decide);unfold num As.number;by_cases e:(tk L d).kind=45
  ·rw [if_pos e,if_pos (q.2 e),w.2.2.2.2.2.1];exact qz true _ lo hi (iM h)
  ·rw [if_neg e,if_neg (fun x=>e (q.1 x)),w.2.2.2.2.2.1];exact qz false _ lo hi h
 ·exact qH.down h hd (bW _ _ _ _) (iE _ _ _ _)
theorem tq (t:As.Tok) (x:Tk) (ht:x.text=t.text) (ha:x.at_=t.pos) (h:bM s L d st):bM s L (proper x d) (As.aP t st):=by
 unfold proper As.aP;rw [ht,ha];exact qb _ _ _ (by decide) (qb _ _ _ (by decide) (qb _ _ _ (by decide) h))
theorem jF (t:As.Tok) (st:As.St):aD st (As.aP t st):=((ig _ _ _ _).trans (ig _ _ _ _)).trans (ig _ _ _ _)
theorem oW (x:Tk) (d:Ds):aQ d (proper x d):=((gy _ _ _ _).trans (gy _ _ _ _)).trans (gy _ _ _ _)
theorem eB (t:As.Tok) (st:As.St):aD st (As.au t st).2:=fun h=>by
 unfold As.au As.failed;rw [if_pos (by simp [h])];exact ⟨rfl,rfl⟩
theorem lZ (n:List UInt8) (a:Nat) (d:Ds):aQ d (entry n a d).2:=fun h=>by
 unfold entry
 cases As.eH d.obj.syms n with
 | some k=>exact ⟨rfl,rfl⟩
 | none =>
  have b:=gy (decide (d.obj.syms.length=16)) 11 a d h;simp only;rw [if_neg (by rw [b.1]; exact h)];exact b
theorem bM.put (h:bM s L d st) (o:Lk.Obj) (q:List Bool) (ho:o.syms.length<=16) (hr:o.aj.length<=32) (hq:q=o.syms.map fun y=>decide (y.bind≠0)):bM s L { d with obj:=o,said:=q } { st with obj:=o } :=
 ⟨h.fe,h.fa,h.tok,fun _=>rfl,h.ah,h.op,h.k,h.more,h.last,fun _=>ho,fun _=>hr,h.secs,fun _=>hq⟩
theorem vD (t:As.Tok) (x:Tk) (ht:x.text=t.text) (ha:x.at_=t.pos) (h:bM s L d st):bM s L (entry x.text x.at_ d).2 (As.au t st).2/\((entry x.text x.at_ d).2.fe=0->(As.au t st).1=((entry x.text x.at_ d).1,true))/\((entry x.text x.at_ d).2.fe≠0->(As.au t st).1.2=false):=by
 by_cases hd:d.fe=0
 ·have hf:As.failed st=false:=by unfold As.failed; simp [h.fe,hd]
  have hl:=h.syms hd;unfold entry As.au;rw [hf,ht,ha,h.obj hd];simp only [Bool.false_eq_true,if_false]
  cases As.eH d.obj.syms t.text with
  | some k=>exact ⟨h,fun _=>rfl,fun c=>absurd hd c⟩
  | none =>
   simp only;by_cases c:d.obj.syms.length=16
   ·have e:aH (decide (d.obj.syms.length=16)) 11 t.pos d=bad 11 t.pos d:=by unfold aH; rw [decide_eq_true c]; rfl
    have b:=bH 11 t.pos (by decide) d;rw [e,if_neg b,if_pos (by omega)];exact ⟨eZ 11 _ (by decide) h,fun z=>absurd z b,fun _=>rfl⟩
   ·have e:aH (decide (d.obj.syms.length=16)) 11 t.pos d=d:=by unfold aH; rw [decide_eq_false c]; rfl
    rw [e,if_pos hd,if_neg (by omega)];exact ⟨h.put _ _ (by simp; omega) (h.aj hd) (by rw [h.said hd,List.map_append]; rfl),fun _=>rfl,fun z=>absurd hd z⟩
 ·have a:=eB t st;have b:=lZ x.text x.at_ d;refine ⟨h.stays hd a b,fun z=>absurd ((b hd).1.symm.trans z) hd,fun _=>?_⟩;unfold As.au As.failed;rw [if_pos (by simp [h.fe,hd])]
end
end Rf
end Go.Proofs.YtnkkepfcpjllmaaGreatDoor

namespace Go.Proofs.YtnkkepfcpjllmaaGreatDoor
namespace Rf
section
variable {s:List UInt8} {L:List Tk} {d:Ds} {st:As.St}
theorem jT (s:List UInt8) (st:As.St):aD st (As.name s st).2:=by
 unfold As.name;split
 ·exact (jF _ _).trans (aX _ _)
 ·exact bE _ _ _
theorem iG (s:List UInt8) (st:As.St):aD st (As.symbol s st).2:=(jT _ _).trans (eB _ _)
theorem jv (L:List Tk) (d:Ds):aQ d (sym L d).2:=by
 unfold sym;split
 ·exact ((oW _ _).trans (dD _ _)).trans (lZ _ _ _)
 ·exact fP _ _ _
theorem xV (h:bM s L d st):bM s L (sym L d).2 (As.au (As.name s st).1 (As.name s st).2).2/\((sym L d).2.fe=0->(As.au (As.name s st).1 (As.name s st).2).1=((sym L d).1,true))/\((sym L d).2.fe≠0->(As.au (As.name s st).1 (As.name s st).2).1.2=false):=by
 by_cases hd:d.fe=0
 ·have w:=h.word hd;by_cases e:(tk L d).kind=119
  ·have k1:=w.1.2 e;have n:As.name s st=(st.tok,As.advance s (As.aP st.tok st)):=by unfold As.name; rw [if_pos (by simp [k1])]
   have n2:sym L d=entry (tk L d).text (tk L d).at_ (step L (proper (tk L d) d)):=by unfold sym; rw [if_pos e]
   rw [n,n2];exact vD st.tok (tk L d) (w.2.1 k1) w.2.2.2.2.2.1 (iM (tq st.tok (tk L d) (w.2.1 k1) w.2.2.2.2.2.1 h))
  ·have n:As.name s st=(As.Tok.nil,As.refuse 3 st.tok.pos st):=by unfold As.name; rw [if_neg (by simpa using fun x=>e (w.1.1 x))]
   have n2:sym L d=(0,bad 3 st.tok.pos d):=by unfold sym; rw [if_neg e,w.2.2.2.2.2.1]
   have hb:=bH 3 st.tok.pos (by decide) d;have S:=eZ 3 st.tok.pos (by decide) h;rw [n,n2];refine ⟨S.stays hb (eB _ _) aQ.refl,fun c=>absurd c hb,fun _=>?_⟩;have f:(As.refuse 3 st.tok.pos st).fe≠0:=by rw [S.fe]; exact hb
   unfold As.au As.failed;rw [if_pos (by simp [f])]
 ·have a:aD st (As.au (As.name s st).1 (As.name s st).2).2:=(jT _ _).trans (eB _ _);have b:=jv L d;have f:(As.name s st).2.fe≠0:=by rw [(jT s st (by rw [h.fe]; exact hd)).1,h.fe]; exact hd
  refine ⟨h.stays hd a b,fun z=>absurd ((b hd).1.symm.trans z) hd,fun _=>?_⟩;unfold As.au As.failed;rw [if_pos (by simp [f])]
theorem rA (h:bM s L d st):qH s L (sym L d) (As.symbol s st):=by
 obtain ⟨a,b,-⟩:=xV h;exact ⟨a,fun c=>by
  have:=b c
  unfold As.symbol;simp only;rw [this]⟩
theorem jL (s:List UInt8) (st:As.St):aD st (As.target s st).2:=by
 unfold As.target;simp only;split
 ·exact ((iG _ _).trans (aX _ _)).trans (bW _ _ _ _)
 split
 ·exact ((iG _ _).trans (aX _ _)).trans (bW _ _ _ _)
 ·exact iG _ _
theorem jC (L:List Tk) (d:Ds):aQ d (added L d).2:=by
 unfold added;simp only;split
 ·exact ((jv _ _).trans (dD _ _)).trans (iE _ _ _ _)
 split
 ·exact ((jv _ _).trans (dD _ _)).trans (iE _ _ _ _)
 ·exact jv _ _
theorem mW (h:bM s L d st):qH s L (added L d) (As.target s st):=by
 have q:=rA h;by_cases hd:(sym L d).2.fe=0
 ·have p:=q.jK.sign hd 43 (by decide);have m:=q.jK.sign hd 45 (by decide);unfold added As.target;simp only;by_cases e1:(tk L (sym L d).2).kind=43
  ·have n:=kG 0 2047 (iM q.jK);rw [if_pos e1,if_pos (p.2 e1)];exact ⟨n.jK,fun c=>by rw [q.eq hd]; exact congrArg (Prod.mk _) (n.eq c)⟩
  ·rw [if_neg e1,if_neg (fun x=>e1 (p.1 x))];by_cases e2:(tk L (sym L d).2).kind=45
   ·have n:=kG 0 2048 (iM q.jK);rw [if_pos e2,if_pos (m.2 e2)];exact ⟨n.jK,fun c=>by rw [q.eq hd]; exact congrArg (Prod.mk _) (congrArg Neg.neg (n.eq c))⟩
   ·rw [if_neg e2,if_neg (fun x=>e2 (m.1 x))];exact ⟨q.jK,fun _=>by rw [q.eq hd]⟩
 ·have f:(As.symbol s st).2.fe≠0:=by rw [q.jK.fe]; exact hd
  refine qH.down q.jK hd ?_ ?_
  ·unfold As.target;simp only;split
   ·exact (aX _ _).trans (bW _ _ _ _)
   split
   ·exact (aX _ _).trans (bW _ _ _ _)
   ·exact aD.refl
  ·unfold added;simp only;split
   ·exact (dD _ _).trans (iE _ _ _ _)
   split
   ·exact (dD _ _).trans (iE _ _ _ _)
   ·exact aQ.refl
theorem dw (ws:List Int) (st:As.St):aD st (As.lay ws st):=fun h=>by
 unfold As.lay;split
 ·exact bE _ _ _ h
 ·unfold As.failed;rw [if_pos (by simp [h])];exact ⟨rfl,rfl⟩
theorem eO (kind:Int) (sym:Nat) (addend:Int) (ws:List Int) (st:As.St):aD st (As.bG kind sym addend ws st):=fun h=>by
 have r:=ig (decide (32<=st.obj.aj.length)) 12 st.op.pos st h;unfold As.bG;simp only;rw [if_pos (by unfold As.failed; simp [r.1,h])];exact r
theorem bY (kind sym:Nat) (add:Int) (ws:List Int) (d:Ds):aQ d (lay kind sym add ws d):=fun h=>by
 have r:=gy (decide (0 < kind/\d.obj.aj.length=32)) 12 d.op d h;unfold lay;simp only;rw [if_neg (by rw [r.1]; exact h)];exact r
theorem nG (o:Lk.Obj) (ah:Nat) (ws:List Int):(As.aB o ah ws).syms=o.syms:=by
 unfold As.aB
 (repeat' split) <;> rfl
theorem tZ (o:Lk.Obj) (ah:Nat) (ws:List Int):(As.aB o ah ws).aj=o.aj:=by
 unfold As.aB
 (repeat' split) <;> rfl
theorem Cz (ah:Nat) (h:ah=1\/ah=2\/ah=3):As.limit ah=top ah:=by
 rcases h with rfl | rfl | rfl <;> rfl
theorem wu (ws:List Int) (h:bM s L d st) (hs:d.fe=0->d.ah=1\/d.ah=2\/d.ah=3) (sy:Nat) (add:Int):bM s L (lay 0 sy add ws d) (As.lay ws st):=by
 by_cases hd:d.fe=0
 ·have hf:As.failed st=false:=by unfold As.failed; simp [h.fe,hd]
  have e0:aH (decide ((0:Nat) < 0/\d.obj.aj.length=32)) 12 d.op d=d:=by
   unfold aH;rw [decide_eq_false (by omega)];rfl
  have ho:=h.op hd;obtain ⟨p,tok,fe,fa,op,ah,obj⟩:=st;obtain rfl:obj=d.obj:=h.obj hd;obtain rfl:ah=d.ah:=h.ah hd;unfold lay As.lay;rw [e0];simp only [Nat.lt_irrefl,if_false];simp only at ho;rw [if_pos hd,Cz _ (hs hd),hf,ho];simp only [Bool.false_eq_true,if_false];by_cases c:top d.ah < As.aA d.obj d.ah+ws.length
  ·rw [if_pos c,if_pos (by omega)];exact eZ 13 _ (by decide) h
  ·rw [if_neg c,if_neg (by omega)];exact h.put (As.aB d.obj d.ah ws) d.said (by rw [nG]; exact h.syms hd) (by rw [tZ]; exact h.aj hd) (by rw [nG]; exact h.said hd)
 ·exact h.stays hd (dw _ _) (bY _ _ _ _ _)
theorem kF (kind:Nat) (hk:0 < kind) (sy:Nat) (add:Int) (ws:List Int) (h:bM s L d st) (hs:d.fe=0->d.ah=1\/d.ah=2\/d.ah=3):bM s L (lay kind sy add ws d) (As.bG kind sy add ws st):=by
 by_cases hd:d.fe=0
 ·have hf:As.failed st=false:=by unfold As.failed; simp [h.fe,hd]
  have ho:=h.op hd;obtain ⟨p,tok,fe,fa,op,ah,obj⟩:=st;obtain rfl:obj=d.obj:=h.obj hd;obtain rfl:ah=d.ah:=h.ah hd;simp only at ho;unfold lay As.bG;simp only;rw [ho];by_cases c:d.obj.aj.length=32
  ·have e0:aH (decide (0 < kind/\d.obj.aj.length=32)) 12 d.op d=bad 12 d.op d:=by unfold aH; rw [decide_eq_true ⟨hk,c⟩]; rfl
   have e1:As.aJ (decide (32<=d.obj.aj.length)) 12 d.op ⟨p,tok,fe,fa,op,d.ah,d.obj⟩=As.refuse 12 d.op ⟨p,tok,fe,fa,op,d.ah,d.obj⟩:=by unfold As.aJ; rw [decide_eq_true (by omega)]; rfl
   have b:=bH 12 d.op (by decide) d;have S:=eZ 12 d.op (by decide) h;rw [e0,e1,if_neg b,if_pos (by unfold As.failed; simp [S.fe,b])];exact S
  ·have e0:aH (decide (0 < kind/\d.obj.aj.length=32)) 12 d.op d=d:=by unfold aH; rw [decide_eq_false (fun x=>c x.2)]; rfl
   have e1:As.aJ (decide (32<=d.obj.aj.length)) 12 d.op ⟨p,tok,fe,fa,op,d.ah,d.obj⟩=⟨p,tok,fe,fa,op,d.ah,d.obj⟩:=by unfold As.aJ; rw [decide_eq_false (by have:=h.aj hd; omega)]; rfl
   rw [e0,e1,if_pos hd,if_pos hk,hf];simp only [Bool.false_eq_true,if_false];have q:=h.put { d.obj with aj:=d.obj.aj ++ [⟨d.ah,4 * As.aA d.obj d.ah,kind,sy,add⟩] } d.said (h.syms hd) (by have:=h.aj hd; show (d.obj.aj ++ _).length<=32; simp; omega) (h.said hd);have r:=wu ws q hs sy add;have e2:aH (decide ((0:Nat) < 0/\({ d.obj with aj:=d.obj.aj ++ [⟨d.ah,4 * As.aA d.obj d.ah,kind,sy,add⟩] }:Lk.Obj).aj.length=32)) 12 d.op { d with obj:={ d.obj with aj:=d.obj.aj ++ [⟨d.ah,4 * As.aA d.obj d.ah,kind,sy,add⟩] } }={ d with obj:={ d.obj with aj:=d.obj.aj ++ [⟨d.ah,4 * As.aA d.obj d.ah,kind,sy,add⟩] } }:=by
    unfold aH;rw [decide_eq_false (by omega)];rfl
   unfold lay at r;rw [e2] at r;simp only [Nat.lt_irrefl,if_false] at r;rw [if_pos hd] at r;exact r
 ·exact h.stays hd (eO _ _ _ _ _) (bY _ _ _ _ _)
theorem Ai (ws ws':List Int) (h:bM s L d st) (hs:d.fe=0->d.ah=1\/d.ah=2\/d.ah=3) (sy:Nat) (add:Int) (e:d.fe=0->ws=ws'):bM s L (lay 0 sy add ws d) (As.lay ws' st):=by
 by_cases hd:d.fe=0
 ·rw [e hd]; exact wu ws' h hs sy add
 ·exact h.stays hd (dw _ _) (bY _ _ _ _ _)
theorem Il (kind:Nat) (hk:0 < kind) (sy Oo:Nat) (add add':Int) (ws ws':List Int) (h:bM s L d st) (hs:d.fe=0->d.ah=1\/d.ah=2\/d.ah=3) (e:d.fe=0->sy=Oo/\add=add'/\ws=ws'):bM s L (lay kind sy add ws d) (As.bG kind Oo add' ws' st):=by
 by_cases hd:d.fe=0
 ·obtain ⟨rfl,rfl,rfl⟩:=e hd;exact kF kind hk sy add ws h hs
 ·exact h.stays hd (eO _ _ _ _ _) (bY _ _ _ _ _)
end
end Rf
end Go.Proofs.YtnkkepfcpjllmaaGreatDoor

namespace Go.Proofs.YtnkkepfcpjllmaaGreatDoor
namespace Rf
def mE (L:List Tk) (lo hi:Int):List Nat->Got->Ds->Got×Ds
 | [],g,d=>(g,d)
 | c :: cs,g,d=>mE L lo hi cs (iU L lo hi c g d).1 (iU L lo hi c g d).2
theorem zY (L:List Tk) (lo hi:Int) (c:Nat) (g:Got) (d:Ds):aQ d (iU L lo hi c g d).2:=by
 unfold iU;split
 ·exact jN _ _
 split
 ·exact dU _ _ _
 split
 ·exact iE _ _ _ _
 split
 ·exact jv _ _
 split
 ·exact jC _ _
 split
 ·exact (((iE _ _ _ _).trans (dU _ _ _)).trans (jN _ _)).trans (dU _ _ _)
 ·exact aQ.refl
theorem vX (L:List Tk) (lo hi:Int) (cs:List Nat):∀ (g:Got) (d:Ds),aQ d (mE L lo hi cs g d).2:=by
 induction cs with
 | nil=>intro g d; exact aQ.refl
 | cons c cs ih=>intro g d; exact (zY L lo hi c g d).trans (ih _ _)
theorem Bj (L:List Tk) (lo hi:Int) (cs:List Nat):∀ (g:Got) (d:Ds),aS L lo hi cs g d=mE L lo hi cs g d\/((aS L lo hi cs g d).2.fe≠0/\(mE L lo hi cs g d).2.fe=(aS L lo hi cs g d).2.fe/\(mE L lo hi cs g d).2.fa=(aS L lo hi cs g d).2.fa):=by
 induction cs with
 | nil=>intro g d; exact .inl rfl
 | cons c cs ih =>
  intro g d;unfold aS;by_cases hd:d.fe=0
  ·rw [if_pos hd];exact ih _ _
  ·rw [if_neg hd];have q:=vX L lo hi (c :: cs) g d hd;exact .inr ⟨hd,q.1,q.2⟩
def after (x:Got×Ds) (f:Got->Ds->Ds):Ds:=if x.2.fe=0 then f (pad x.1) x.2 else x.2
section
variable {s:List UInt8} {L:List Tk} {d:Ds} {st st':As.St}
theorem jy (lo hi:Int) (cs:List Nat) (d:Ds) (f:Got->Ds->Ds) (h:bM s L (after (mE L lo hi cs ⟨[],0,0,0⟩ d) f) st'):bM s L (after (aS L lo hi cs ⟨[],0,0,0⟩ d) f) st':=by
 rcases Bj L lo hi cs ⟨[],0,0,0⟩ d with e | ⟨e1,e2,e3⟩
 ·rw [e]; exact h
 ·unfold after at *;rw [if_neg e1];rw [if_neg (by rw [e2]; exact e1)] at h;exact bM.down (by rw [h.fe,e2]) e1 (by rw [h.fa (by rw [e2]; exact e1),e3])
theorem aQ.back {a b:Ds} (h:aQ a b) (hb:b.fe=0):a.fe=0:=by
 by_cases c:a.fe=0
 ·exact c
 ·exact absurd ((h c).1.symm.trans hb) c
theorem iI {x:Got×Ds} {f:Got->Ds->Ds} (hf:aQ x.2 (f (pad x.1) x.2)) (h:bM s L (f (pad x.1) x.2) st'):bM s L (after x f) st':=by
 unfold after;by_cases hd:x.2.fe=0
 ·rw [if_pos hd]; exact h
 ·rw [if_neg hd];obtain ⟨a,b⟩:=hf hd;exact bM.down (by rw [h.fe,a]) hd (by rw [h.fa (by rw [a]; exact hd),b])
abbrev code (d:Ds):Prop:=d.fe=0->d.ah=1\/d.ah=2
theorem I7 (h:code d):d.fe=0->d.ah=1\/d.ah=2\/d.ah=3:=fun x=>by rcases h x with c | c; exact .inl c; exact .inr (.inl c)
end
theorem kS (e a:Nat) (d:Ds):(bad e a d).ah=d.ah:=by unfold bad; split <;> rfl
theorem ji (c:Bool) (e a:Nat) (d:Ds):(aH c e a d).ah=d.ah:=by unfold aH; split; exact kS _ _ _; rfl
theorem jr (L:List Tk) (d:Ds):(step L d).ah=d.ah:=by unfold step look; rw [ji]; split <;> rfl
theorem iQ (L:List Tk) (c:Nat) (d:Ds):(expect L c d).ah=d.ah:=by unfold expect; split; exact jr _ _; exact kS _ _ _
theorem mH (L:List Tk) (d:Ds):(reg L d).2.ah=d.ah:=by
 unfold reg;split
 ·split
  ·exact kS _ _ _
  ·exact jr _ _
 ·exact kS _ _ _
theorem oP (L:List Tk) (neg:Bool) (pos:Nat) (lo hi:Int) (d:Ds):(bP L neg pos lo hi d).2.ah=d.ah:=by
 unfold bP;split
 ·exact (jr _ _).trans (ji _ _ _ _)
 ·exact kS _ _ _
theorem jU (L:List Tk) (lo hi:Int) (d:Ds):(num L lo hi d).2.ah=d.ah:=by
 unfold num;split
 ·exact (oP _ _ _ _ _ _).trans (jr _ _)
 ·exact oP _ _ _ _ _ _
theorem xO (t:Tk) (d:Ds):(proper t d).ah=d.ah:=by unfold proper; rw [ji,ji,ji]
theorem zM (n:List UInt8) (a:Nat) (d:Ds):(entry n a d).2.ah=d.ah:=by
 unfold entry;split
 ·rfl
 ·split
  ·rfl
  ·exact ji _ _ _ _
theorem mM (L:List Tk) (d:Ds):(sym L d).2.ah=d.ah:=by
 unfold sym;split
 ·exact (zM _ _ _).trans ((jr _ _).trans (xO _ _))
 ·exact kS _ _ _
theorem jO (L:List Tk) (d:Ds):(added L d).2.ah=d.ah:=by
 unfold added;simp only;split
 ·exact (jU _ _ _ _).trans ((jr _ _).trans (mM _ _))
 split
 ·exact (jU _ _ _ _).trans ((jr _ _).trans (mM _ _))
 ·exact mM _ _
section
variable {s:List UInt8} {L:List Tk} {d:Ds} {st:As.St}
structure Way (d d':Ds):Prop where
 st:aQ d d'
 ah:d'.ah=d.ah
theorem Way.trans {a b c:Ds} (h:Way a b) (k:Way b c):Way a c:=⟨h.st.trans k.st,k.ah.trans h.ah⟩
theorem fu (L:List Tk) (d:Ds):Way d (reg L d).2:=⟨jN _ _,mH _ _⟩
theorem bT (L:List Tk) (c:Nat) (d:Ds):Way d (expect L c d):=⟨dU _ _ _,iQ _ _ _⟩
theorem pz (L:List Tk) (lo hi:Int) (d:Ds):Way d (num L lo hi d).2:=⟨iE _ _ _ _,jU _ _ _ _⟩
theorem wI (L:List Tk) (d:Ds):Way d (sym L d).2:=⟨jv _ _,mM _ _⟩
theorem qg (L:List Tk) (d:Ds):Way d (added L d).2:=⟨jC _ _,jO _ _⟩
theorem Way.code {d d':Ds} (h:Way d d') (hc:code d):d'.fe=0->d'.ah=1\/d'.ah=2\/d'.ah=3:=fun x=>by
 rw [h.ah];exact I7 hc (h.st.back x)
def r3:List Nat:=[114,44,114,44,114]
theorem jq (op:Nat) (hc:code d) (h:bM s L d st):bM s L (after (aS L 0 0 r3 ⟨[],0,0,0⟩ d) fun g=>lay 0 g.sym g.add [(As.enc op (g.rs.getD 0 0) (g.rs.getD 1 0) (g.rs.getD 2 0) 0:Int)]) (As.bA s op st):=by
 refine jy _ _ _ _ _ (iI (bY _ _ _ _ _) ?_);have a:=fq h;have wa:=fu L d;show bM s L (lay 0 0 0 [(As.enc op (reg L d).1 (reg L (expect L 44 (reg L d).2)).1 (reg L (expect L 44 (reg L (expect L 44 (reg L d).2)).2)).1 0:Int)] (reg L (expect L 44 (reg L (expect L 44 (reg L d).2)).2)).2) _;unfold As.bA As.dR;simp only;generalize reg L d=A at *;generalize As.register s st=A' at *;have a2:=dh 44 44 rfl rfl a.jK;have wb:=bT L 44 A.2;have b:=fq a2;have wc:=fu L (expect L 44 A.2);generalize reg L (expect L 44 A.2)=B at *;generalize As.register s (As.sign s [44] A'.2)=B' at *;have b2:=dh 44 44 rfl rfl b.jK
 have wd:=bT L 44 B.2;have c:=fq b2;have we:=fu L (expect L 44 B.2);generalize reg L (expect L 44 B.2)=C at *;generalize As.register s (As.sign s [44] B'.2)=C' at *;refine Ai _ _ c.jK ((((wa.trans wb).trans wc).trans wd).trans we |>.code hc) 0 0 fun hd=>?_
 have f3:=(wd.trans we).st.back hd;have f1:=(wb.trans wc).st.back f3;rw [a.eq f1,b.eq f3,c.eq hd]
theorem jZ (op:Nat) (hc:code d) (h:bM s L d st):bM s L (after (aS L (-2048) 2047 [114,44,114,44,110] ⟨[],0,0,0⟩ d) fun g=>lay 0 g.sym g.add [(As.enc op (g.rs.getD 0 0) (g.rs.getD 1 0) 0 g.num:Int)]) (As.bC s op st):=by
 refine jy _ _ _ _ _ (iI (bY _ _ _ _ _) ?_);have a:=fq h;have wa:=fu L d;show bM s L (lay 0 0 0 [(As.enc op (reg L d).1 (reg L (expect L 44 (reg L d).2)).1 0 (num L (-2048) 2047 (expect L 44 (reg L (expect L 44 (reg L d).2)).2)).1:Int)] (num L (-2048) 2047 (expect L 44 (reg L (expect L 44 (reg L d).2)).2)).2) _;unfold As.bC As.dR;simp only;generalize reg L d=A at *;generalize As.register s st=A' at *;have a2:=dh 44 44 rfl rfl a.jK;have wb:=bT L 44 A.2;have b:=fq a2;have wc:=fu L (expect L 44 A.2);generalize reg L (expect L 44 A.2)=B at *;generalize As.register s (As.sign s [44] A'.2)=B' at *;have b2:=dh 44 44 rfl rfl b.jK
 have wd:=bT L 44 B.2;have c:=kG (-2048) 2047 b2;have we:=pz L (-2048) 2047 (expect L 44 B.2);generalize num L (-2048) 2047 (expect L 44 B.2)=C at *;generalize As.number s (-2048) 2047 (As.sign s [44] B'.2)=C' at *;refine Ai _ _ c.jK ((((wa.trans wb).trans wc).trans wd).trans we |>.code hc) 0 0 fun hd=>?_
 have f3:=(wd.trans we).st.back hd;have f1:=(wb.trans wc).st.back f3;rw [a.eq f1,b.eq f3,c.eq hd]
theorem jo (op:Nat) (hc:code d) (h:bM s L d st):bM s L (after (aS L 0 0 [114,44,114,44,115] ⟨[],0,0,0⟩ d) fun g=>lay 2 g.sym g.add [(As.enc op 0 (g.rs.getD 0 0) (g.rs.getD 1 0) 0:Int)]) (As.branch s op st):=by
 refine jy _ _ _ _ _ (iI (bY _ _ _ _ _) ?_);have a:=fq h;have wa:=fu L d;show bM s L (lay 2 (sym L (expect L 44 (reg L (expect L 44 (reg L d).2)).2)).1 0 [(As.enc op 0 (reg L d).1 (reg L (expect L 44 (reg L d).2)).1 0:Int)] (sym L (expect L 44 (reg L (expect L 44 (reg L d).2)).2)).2) _;unfold As.branch;simp only;generalize reg L d=A at *;generalize As.register s st=A' at *;have a2:=dh 44 44 rfl rfl a.jK;have wb:=bT L 44 A.2;have b:=fq a2;have wc:=fu L (expect L 44 A.2);generalize reg L (expect L 44 A.2)=B at *;generalize As.register s (As.sign s [44] A'.2)=B' at *;have b2:=dh 44 44 rfl rfl b.jK
 have wd:=bT L 44 B.2;have c:=rA b2;have we:=wI L (expect L 44 B.2);generalize sym L (expect L 44 B.2)=C at *;generalize As.symbol s (As.sign s [44] B'.2)=C' at *;refine Il 2 (by decide) _ _ _ _ _ _ c.jK ((((wa.trans wb).trans wc).trans wd).trans we |>.code hc) fun hd=>?_
 have f3:=(wd.trans we).st.back hd;have f1:=(wb.trans wc).st.back f3;rw [a.eq f1,b.eq f3,c.eq hd];exact ⟨rfl,rfl,rfl⟩
theorem tu (lo hi:Int) (hc:code d) (h:bM s L d st) (f:Nat->Int->List Int):bM s L (after (aS L lo hi [114,44,110] ⟨[],0,0,0⟩ d) fun g=>lay 0 g.sym g.add (f (g.rs.getD 0 0) g.num)) (As.lay (f (As.register s st).1 (As.number s lo hi (As.sign s [44] (As.register s st).2)).1) (As.number s lo hi (As.sign s [44] (As.register s st).2)).2):=by
 refine jy _ _ _ _ _ (iI (bY _ _ _ _ _) ?_);have a:=fq h;have wa:=fu L d;show bM s L (lay 0 0 0 (f (reg L d).1 (num L lo hi (expect L 44 (reg L d).2)).1) (num L lo hi (expect L 44 (reg L d).2)).2) _;generalize reg L d=A at *;generalize As.register s st=A' at *;have b2:=dh 44 44 rfl rfl a.jK;have wd:=bT L 44 A.2;have c:=kG lo hi b2;have we:=pz L lo hi (expect L 44 A.2);generalize num L lo hi (expect L 44 A.2)=C at *;generalize As.number s lo hi (As.sign s [44] A'.2)=C' at *;refine Ai _ _ c.jK ((wa.trans wd).trans we |>.code hc) 0 0 fun hd=>?_
 rw [a.eq ((wd.trans we).st.back hd),c.eq hd]
theorem Dh (hc:code d) (h:bM s L d st):bM s L (after (aS L 0 1048575 [114,44,110] ⟨[],0,0,0⟩ d) fun g=>lay 0 g.sym g.add [(As.enc 1 (g.rs.getD 0 0) 0 0 g.num:Int)]) (As.upper s st) :=
 tu 0 1048575 hc h fun r n=>[(As.enc 1 r 0 0 n:Int)]
def vS (r:Nat) (v:Int):List Int:=if -2048<=v/\v<=2047 then [(As.enc 13 r 0 0 v:Int)] else [(As.enc 1 r 0 0 (As.fZ v):Int),(As.enc 13 r r 0 (As.dH v):Int)]
theorem Ku (hc:code d) (h:bM s L d st):bM s L (after (aS L (-2147483648) 2147483647 [114,44,110] ⟨[],0,0,0⟩ d) fun g=>lay 0 g.sym g.add (vS (g.rs.getD 0 0) g.num)) (As.bZ s st):=by
 have q:=tu (-2147483648) 2147483647 hc h vS;have e:As.bZ s st=As.lay (vS (As.register s st).1 (As.number s (-2147483648) 2147483647 (As.sign s [44] (As.register s st).2)).1) (As.number s (-2147483648) 2147483647 (As.sign s [44] (As.register s st).2)).2:=by
  unfold As.bZ vS As.dR;simp only;split <;> rfl
 rw [e];exact q
theorem Fp (hc:code d) (h:bM s L d st):bM s L (after (aS L 0 0 [114,44,114] ⟨[],0,0,0⟩ d) fun g=>lay 0 g.sym g.add [(As.enc 13 (g.rs.getD 0 0) (g.rs.getD 1 0) 0 0:Int)]) (As.move s st):=by
 refine jy _ _ _ _ _ (iI (bY _ _ _ _ _) ?_);have a:=fq h;have wa:=fu L d;show bM s L (lay 0 0 0 [(As.enc 13 (reg L d).1 (reg L (expect L 44 (reg L d).2)).1 0 0:Int)] (reg L (expect L 44 (reg L d).2)).2) _;unfold As.move As.dR;simp only;generalize reg L d=A at *;generalize As.register s st=A' at *;have b2:=dh 44 44 rfl rfl a.jK;have wd:=bT L 44 A.2;have c:=fq b2;have we:=fu L (expect L 44 A.2);generalize reg L (expect L 44 A.2)=C at *;generalize As.register s (As.sign s [44] A'.2)=C' at *;refine Ai _ _ c.jK ((wa.trans wd).trans we |>.code hc) 0 0 fun hd=>?_
 rw [a.eq ((wd.trans we).st.back hd),c.eq hd]
theorem Im (hc:code d) (h:bM s L d st):bM s L (after (aS L 0 0 [114,44,115] ⟨[],0,0,0⟩ d) fun g=>lay 3 g.sym g.add [(As.enc 3 (g.rs.getD 0 0) 0 0 0:Int)]) (As.eX s st):=by
 refine jy _ _ _ _ _ (iI (bY _ _ _ _ _) ?_);have a:=fq h;have wa:=fu L d;show bM s L (lay 3 (sym L (expect L 44 (reg L d).2)).1 0 [(As.enc 3 (reg L d).1 0 0 0:Int)] (sym L (expect L 44 (reg L d).2)).2) _;unfold As.eX As.fE;simp only;generalize reg L d=A at *;generalize As.register s st=A' at *;have b2:=dh 44 44 rfl rfl a.jK;have wd:=bT L 44 A.2;have c:=rA b2;have we:=wI L (expect L 44 A.2);generalize sym L (expect L 44 A.2)=C at *;generalize As.symbol s (As.sign s [44] A'.2)=C' at *;refine Il 3 (by decide) _ _ _ _ _ _ c.jK ((wa.trans wd).trans we |>.code hc) fun hd=>?_
 rw [a.eq ((wd.trans we).st.back hd),c.eq hd];exact ⟨rfl,rfl,rfl⟩
theorem wB (kind:Nat) (hk:0 < kind) (ws:List Int) (hc:code d) (h:bM s L d st):bM s L (after (aS L 0 0 [115] ⟨[],0,0,0⟩ d) fun g=>lay kind g.sym g.add ws) (As.bG kind (As.symbol s st).1 0 ws (As.symbol s st).2):=by
 refine jy _ _ _ _ _ (iI (bY _ _ _ _ _) ?_);have c:=rA h;have we:=wI L d;show bM s L (lay kind (sym L d).1 0 ws (sym L d).2) _;exact Il kind hk _ _ _ _ _ _ c.jK (we.code hc) fun hd=>⟨c.eq hd,rfl,rfl⟩
theorem Om (hc:code d) (h:bM s L d st):bM s L (after (aS L 0 0 [115] ⟨[],0,0,0⟩ d) fun g=>lay 3 g.sym g.add [(As.enc 3 0 0 0 0:Int)]) (As.fE s 0 st):=wB 3 (by decide) _ hc h
theorem Fg (hc:code d) (h:bM s L d st) (ht:(st.op.text == [116,97,105,108])=false):bM s L (after (aS L 0 0 [115] ⟨[],0,0,0⟩ d) fun g=>lay 4 g.sym g.add [(As.enc 2 1 0 0 0:Int),(As.enc 4 1 1 0 0:Int)]) (As.call s st):=by
 unfold As.call;rw [ht];exact wB 4 (by decide) _ hc h
theorem Fq (hc:code d) (h:bM s L d st) (ht:(st.op.text == [116,97,105,108])=true):bM s L (after (aS L 0 0 [115] ⟨[],0,0,0⟩ d) fun g=>lay 4 g.sym g.add [(As.enc 2 6 0 0 0:Int),(As.enc 4 0 6 0 0:Int)]) (As.call s st):=by
 unfold As.call;rw [ht];exact wB 4 (by decide) _ hc h
theorem sZ (w:Int) (hc:code d) (h:bM s L d st):bM s L (after (aS L 0 0 [] ⟨[],0,0,0⟩ d) fun g=>lay 0 g.sym g.add [w]) (As.lay [w] st):=by
 refine jy _ _ _ _ _ (iI (bY _ _ _ _ _) ?_);exact Ai _ _ h (I7 hc) _ _ fun _=>rfl
end
end Rf
end Go.Proofs.YtnkkepfcpjllmaaGreatDoor

namespace Go.Proofs.YtnkkepfcpjllmaaGreatDoor
namespace Rf
section
variable {s:List UInt8} {L:List Tk} {d:Ds} {st:As.St}
theorem iD (r op rd bK dJ:Nat) (n:Int) (sy:Nat) (add:Int) (st:As.St):aD st (As.bR r op rd bK dJ n sy add st):=(ig _ _ _ _).trans (eO _ _ _ _ _)
theorem jw (r:Nat) (g:Got) (w:Int) (d:Ds):aQ d (address r g w d):=aQ.ite (fP _ _ _) (bY _ _ _ _ _)
theorem mK (r r' op rd bK dJ sy:Nat) (g:Got) (add:Int) (w:Int) (h:bM s L d st) (hs:d.fe=0->d.ah=1\/d.ah=2\/d.ah=3) (e:d.fe=0->r=r'/\g.sym=sy/\g.add=add/\w=(As.enc op rd bK dJ 0:Int)):bM s L (address r g w d) (As.bR r' op rd bK dJ 0 sy add st):=by
 by_cases hd:d.fe=0
 ·obtain ⟨rfl,rfl,rfl,rfl⟩:=e hd;unfold address As.bR;by_cases c:r=0
  ·have e1:As.aJ (r == 0) 7 st.op.pos st=As.refuse 7 st.op.pos st:=by unfold As.aJ; rw [if_pos (by simp [c])]
   have b:=bH 7 d.op (by decide) d;rw [if_pos c,e1,h.op hd];exact (eZ 7 d.op (by decide) h).stays b (eO _ _ _ _ _) aQ.refl
  ·have e1:As.aJ (r == 0) 7 st.op.pos st=st:=by unfold As.aJ; rw [if_neg (by simpa using c)]
   rw [if_neg c,e1];exact kF 5 (by decide) g.sym g.add _ h hs
 ·exact h.stays hd (iD _ _ _ _ _ _ _ _ _) (jw _ _ _ _)
theorem Kt (hc:code d) (h:bM s L d st):bM s L (after (aS L 0 0 [114,44,97] ⟨[],0,0,0⟩ d) fun g=>address (g.rs.getD 0 0) g (As.enc 13 (g.rs.getD 0 0) (g.rs.getD 0 0) 0 0:Int)) (As.bS s st):=by
 refine jy _ _ _ _ _ (iI (jw _ _ _ _) ?_);have a:=fq h;have wa:=fu L d;show bM s L (address (reg L d).1 ⟨[(reg L d).1,0,0],0,(added L (expect L 44 (reg L d).2)).1.1,(added L (expect L 44 (reg L d).2)).1.2⟩ (As.enc 13 (reg L d).1 (reg L d).1 0 0:Int) (added L (expect L 44 (reg L d).2)).2) _;unfold As.bS;simp only;generalize reg L d=A at *;generalize As.register s st=A' at *;have b2:=dh 44 44 rfl rfl a.jK;have wd:=bT L 44 A.2;have c:=mW b2;have we:=qg L (expect L 44 A.2);generalize added L (expect L 44 A.2)=C at *;generalize As.target s (As.sign s [44] A'.2)=C' at *;refine mK _ _ _ _ _ _ _ _ _ _ c.jK ((wa.trans wd).trans we |>.code hc) fun hd=>?_
 have e1:=a.eq ((wd.trans we).st.back hd);have e2:=c.eq hd;rw [e1,e2];exact ⟨rfl,rfl,rfl,rfl⟩
def place (L:List Tk) (lo hi:Int) (d:Ds):(Int×Nat)×Ds:=(((num L lo hi d).1,(reg L (expect L 40 (num L lo hi d).2)).1),expect L 41 (reg L (expect L 40 (num L lo hi d).2)).2)
theorem C9 (h:bM s L d st):qH s L (place L (-2048) 2047 d) (As.place s st):=by
 have a:=kG (-2048) 2047 h;have wa:=pz L (-2048) 2047 d;unfold place As.place;simp only;generalize num L (-2048) 2047 d=A at *;generalize As.number s (-2048) 2047 st=A' at *;have a2:=dh 40 40 rfl rfl a.jK;have wb:=bT L 40 A.2;have b:=fq a2;have wc:=fu L (expect L 40 A.2);generalize reg L (expect L 40 A.2)=B at *;generalize As.register s (As.sign s [40] A'.2)=B' at *;refine ⟨dh 41 41 rfl rfl b.jK,fun hd=>?_⟩;have f2:=(dU L 41 B.2).back hd;have f1:=(wb.trans wc).st.back f2;rw [a.eq f1,b.eq f2]
theorem vE (L:List Tk) (lo hi:Int) (d:Ds):Way d (place L lo hi d).2:=((pz L lo hi d).trans (bT L 40 _)).trans ((fu L _).trans (bT L 41 _))
theorem lI (hc:code d) (h:bM s L d st) (f:Nat->Nat->Int->List Int):bM s L (after (aS L (-2048) 2047 [114,44,112] ⟨[],0,0,0⟩ d) fun g=>lay 0 g.sym g.add (f (g.rs.getD 0 0) (g.rs.getD 1 0) g.num)) (As.lay (f (As.register s st).1 (As.place s (As.sign s [44] (As.register s st).2)).1.2 (As.place s (As.sign s [44] (As.register s st).2)).1.1) (As.place s (As.sign s [44] (As.register s st).2)).2):=by
 refine jy _ _ _ _ _ (iI (bY _ _ _ _ _) ?_);have a:=fq h;have wa:=fu L d;show bM s L (lay 0 0 0 (f (reg L d).1 (place L (-2048) 2047 (expect L 44 (reg L d).2)).1.2 (place L (-2048) 2047 (expect L 44 (reg L d).2)).1.1) (place L (-2048) 2047 (expect L 44 (reg L d).2)).2) _;generalize reg L d=A at *;generalize As.register s st=A' at *;have b2:=dh 44 44 rfl rfl a.jK;have wd:=bT L 44 A.2;have c:=C9 b2;have we:=vE L (-2048) 2047 (expect L 44 A.2);generalize place L (-2048) 2047 (expect L 44 A.2)=C at *;generalize As.place s (As.sign s [44] A'.2)=C' at *;refine Ai _ _ c.jK ((wa.trans wd).trans we |>.code hc) 0 0 fun hd=>?_
 rw [a.eq ((wd.trans we).st.back hd),c.eq hd]
theorem Fh (hc:code d) (h:bM s L d st):bM s L (after (aS L (-2048) 2047 [114,44,112] ⟨[],0,0,0⟩ d) fun g=>lay 0 g.sym g.add [(As.enc 4 (g.rs.getD 0 0) (g.rs.getD 1 0) 0 g.num:Int)]) (As.bN s st) :=
 lI hc h fun r b n=>[(As.enc 4 r b 0 n:Int)]
def far (L:List Tk) (d:Ds):Bool:=decide (d.k+2 < L.length) && (decide ((L.getD d.k Tk.nil).kind=119) && (decide ((L.getD (d.k+1) Tk.nil).kind=44) && decide ((L.getD (d.k+2) Tk.nil).kind=119)))
theorem Ms (e a:Nat) (d:Ds):(bad e a d).k=d.k:=by unfold bad; split <;> rfl
theorem Gx (c:Bool) (e a:Nat) (d:Ds):(aH c e a d).k=d.k:=by unfold aH; split; exact Ms _ _ _; rfl
theorem Fz (L:List Tk) (d:Ds) (h:d.k+1 < L.length) (hd:d.fe=0):(step L d).k=d.k+1:=by unfold step look; rw [Gx,if_pos ⟨h,hd⟩]
theorem AQ (h:bM s L d st) (hd:(expect L 44 (reg L d).2).fe=0):(tk L (expect L 44 (reg L d).2)).kind=119↔far L d=true:=by
 have f1:=(dU L 44 (reg L d).2).back hd;have f0:=(jN L d).back f1;have k0:(tk L d).kind=119:=by
  by_cases c:(tk L d).kind=119
  ·exact c
  ·have e:reg L d=(0,bad 3 (tk L d).at_ d):=by unfold reg; rw [if_neg c]
   rw [e] at f1;exact absurd f1 (bH 3 _ (by decide) d)
 have n0:d.k+1 < L.length:=by
  by_cases c:d.k+1 < L.length
  ·exact c
  ·have:=(h.last f0 c).1
   omega
 have a:=(fq h).jK;have r1:(reg L d).2=step L d:=by
  unfold reg at f1 ⊢;rw [if_pos k0] at f1 ⊢
  cases e:As.dY (tk L d).text with
  | none=>rw [e] at f1; exact absurd f1 (bH 7 _ (by decide) d)
  | some r=>rfl
 rw [r1] at a f1 hd ⊢;have k1:(tk L (step L d)).kind=44:=by
  by_cases c:(tk L (step L d)).kind=44
  ·exact c
  ·have e:expect L 44 (step L d)=bad 3 (tk L (step L d)).at_ (step L d):=by unfold expect; rw [if_neg c]
   rw [e] at hd;exact absurd hd (bH 3 _ (by decide) _)
 have sk:=Fz L d n0 f0;have n1:(step L d).k+1 < L.length:=by
  by_cases c:(step L d).k+1 < L.length
  ·exact c
  ·have:=(a.last f1 c).1
   omega
 have r2:expect L 44 (step L d)=step L (step L d):=by unfold expect; rw [if_pos k1]
 have ZT:=Fz L (step L d) n1 f1;rw [r2];have t0:(L.getD d.k Tk.nil).kind=119:=k0;have t1:(L.getD (d.k+1) Tk.nil).kind=44:=by rw [<- sk]; exact k1
 have t2:tk L (step L (step L d))=L.getD (d.k+2) Tk.nil:=by unfold tk; rw [ZT,sk]
 rw [t2];unfold far;rw [sk] at n1;simp only [t0,t1,decide_true,Bool.true_and,Bool.and_eq_true,decide_eq_true_eq];exact ⟨fun x=>⟨by omega,x⟩,fun x=>x.2⟩
def nL (L:List Tk) (d:Ds):Ds :=
 let r:=reg L d
 let t:=added L (expect L 44 r.2)
 address r.1 ⟨[],0,t.1.1,t.1.2⟩ (As.enc 11 r.1 r.1 0 0:Int) t.2
def nM (L:List Tk) (d:Ds):Ds :=
 let r:=reg L d
 let t:=added L (expect L 44 r.2)
 let z:=reg L (expect L 44 t.2)
 address z.1 ⟨[],0,t.1.1,t.1.2⟩ (As.enc 12 0 z.1 r.1 0:Int) z.2
theorem zS (s:List UInt8) (st:As.St) (h:¬ (As.sign s [44] (As.register s st).2).tok.kind=1):As.load s st=As.lay [(As.enc 11 (As.register s st).1 (As.place s (As.sign s [44] (As.register s st).2)).1.2 0 (As.place s (As.sign s [44] (As.register s st).2)).1.1:Int)] (As.place s (As.sign s [44] (As.register s st).2)).2:=by
 unfold As.load As.dR;simp only;rw [if_neg (by simpa using h)]
theorem mF (s:List UInt8) (st:As.St):aD st (As.place s st).2:=((bW _ _ _ _).trans (bL _ _ _)).trans ((aO _ _).trans (bL _ _ _))
def lw (L:List Tk) (d:Ds):Ds:=if far L d then nL L d else after (aS L (-2048) 2047 [114,44,112] ⟨[],0,0,0⟩ d) fun g=>lay 0 g.sym g.add [(As.enc 11 (g.rs.getD 0 0) (g.rs.getD 1 0) 0 g.num:Int)]
def sw (L:List Tk) (d:Ds):Ds:=if far L d then nM L d else after (aS L (-2048) 2047 [114,44,112] ⟨[],0,0,0⟩ d) fun g=>lay 0 g.sym g.add [(As.enc 12 0 (g.rs.getD 1 0) (g.rs.getD 0 0) g.num:Int)]
theorem qp (s:List UInt8) (st:As.St):aD (As.sign s [44] (As.register s st).2) (As.load s st):=by
 unfold As.load;simp only;split
 ·exact (jL _ _).trans (iD _ _ _ _ _ _ _ _ _)
 ·exact (mF _ _).trans (dw _ _)
theorem pq (s:List UInt8) (st:As.St):aD (As.sign s [44] (As.register s st).2) (As.store s st):=by
 unfold As.store;simp only;split
 ·exact (((jL _ _).trans (bL _ _ _)).trans (aO _ _)).trans (iD _ _ _ _ _ _ _ _ _)
 ·exact (mF _ _).trans (dw _ _)
theorem xG (L:List Tk) (d:Ds):aQ (expect L 44 (reg L d).2) (nL L d):=(jC _ _).trans (jw _ _ _ _)
theorem xH (L:List Tk) (d:Ds):aQ (expect L 44 (reg L d).2) (nM L d):=(((jC _ _).trans (dU _ _ _)).trans (jN _ _)).trans (jw _ _ _ _)
theorem oQ (L:List Tk) (f:Got->Ds->Ds) (d:Ds) (hd:(expect L 44 (reg L d).2).fe≠0):(after (aS L (-2048) 2047 [114,44,112] ⟨[],0,0,0⟩ d) f).fe=(expect L 44 (reg L d).2).fe/\(after (aS L (-2048) 2047 [114,44,112] ⟨[],0,0,0⟩ d) f).fa=(expect L 44 (reg L d).2).fa:=by
 have u:aQ (expect L 44 (reg L d).2) (mE L (-2048) 2047 [114,44,112] ⟨[],0,0,0⟩ d).2:=(vE L (-2048) 2047 (expect L 44 (reg L d).2)).st;have q:=u hd;have nz:(mE L (-2048) 2047 [114,44,112] ⟨[],0,0,0⟩ d).2.fe≠0:=by rw [q.1]; exact hd
 rcases Bj L (-2048) 2047 [114,44,112] ⟨[],0,0,0⟩ d with e | ⟨e1,e2,e3⟩
 ·rw [e];unfold after;rw [if_neg nz];exact q
 ·unfold after;rw [if_neg e1,<- e2,<- e3];exact q
theorem Kv (hc:code d) (h:bM s L d st):bM s L (lw L d) (As.load s st):=by
 have a:=fq h;have b:=dh 44 44 rfl rfl a.jK;unfold lw;by_cases hd:(expect L 44 (reg L d).2).fe=0
 ·have fi:=AQ h hd;have w:=(b.word hd).1;by_cases f:far L d=true
  ·rw [if_pos f];have k1:=w.2 (fi.2 f);have e:As.load s st=As.bR (As.register s st).1 11 (As.register s st).1 (As.register s st).1 0 0 (As.target s (As.sign s [44] (As.register s st).2)).1.1 (As.target s (As.sign s [44] (As.register s st).2)).1.2 (As.target s (As.sign s [44] (As.register s st).2)).2:=by
    unfold As.load;simp only;rw [if_pos (by simpa using k1)]
   have c:=mW b;have we:=qg L (expect L 44 (reg L d).2);rw [e];unfold nL;refine mK _ _ _ _ _ _ _ _ _ _ c.jK (((fu L d).trans (bT L 44 _)).trans we |>.code hc) fun hd2=>?_
   have e1:=a.eq ((dU L 44 _).back hd);have e2:=c.eq hd2;rw [e1,e2];exact ⟨rfl,rfl,rfl,rfl⟩
  ·rw [if_neg f,zS s st (fun x=>f (fi.1 (w.1 x)))];exact lI hc h fun r b n=>[(As.enc 11 r b 0 n:Int)]
 ·refine b.stays hd (qp s st) fun x=>?_
  by_cases f:far L d=true
  ·rw [if_pos f]; exact xG L d x
  ·rw [if_neg f]; exact oQ L _ d hd
theorem Kw (hc:code d) (h:bM s L d st):bM s L (sw L d) (As.store s st):=by
 have a:=fq h;have b:=dh 44 44 rfl rfl a.jK;unfold sw;by_cases hd:(expect L 44 (reg L d).2).fe=0
 ·have fi:=AQ h hd;have w:=(b.word hd).1;by_cases f:far L d=true
  ·rw [if_pos f];have k1:=w.2 (fi.2 f);have e:As.store s st=As.bR (As.register s (As.sign s [44] (As.target s (As.sign s [44] (As.register s st).2)).2)).1 12 0 (As.register s (As.sign s [44] (As.target s (As.sign s [44] (As.register s st).2)).2)).1 (As.register s st).1 0 (As.target s (As.sign s [44] (As.register s st).2)).1.1 (As.target s (As.sign s [44] (As.register s st).2)).1.2 (As.register s (As.sign s [44] (As.target s (As.sign s [44] (As.register s st).2)).2)).2:=by
    unfold As.store;simp only;rw [if_pos (by simpa using k1)]
   have c:=mW b;have we:=qg L (expect L 44 (reg L d).2);have c2:=dh 44 44 rfl rfl c.jK;have z:=fq c2;have wz:=(bT L 44 (added L (expect L 44 (reg L d).2)).2).trans (fu L _);rw [e];unfold nM;refine mK _ _ _ _ _ _ _ _ _ _ z.jK ((((fu L d).trans (bT L 44 _)).trans we).trans wz |>.code hc) fun hd2=>?_
   have e1:=a.eq ((dU L 44 _).back hd);have e2:=c.eq (wz.st.back hd2);have e3:=z.eq hd2;rw [e1,e2,e3];exact ⟨rfl,rfl,rfl,rfl⟩
  ·rw [if_neg f];have e:As.store s st=As.lay [(As.enc 12 0 (As.place s (As.sign s [44] (As.register s st).2)).1.2 (As.register s st).1 (As.place s (As.sign s [44] (As.register s st).2)).1.1:Int)] (As.place s (As.sign s [44] (As.register s st).2)).2:=by
    unfold As.store As.dR;simp only;rw [if_neg (by simpa using fun x=>f (fi.1 (w.1 x)))]
   rw [e];exact lI hc h fun r b n=>[(As.enc 12 0 b r n:Int)]
 ·refine b.stays hd (pq s st) fun x=>?_
  by_cases f:far L d=true
  ·rw [if_pos f]; exact xH L d x
  ·rw [if_neg f]; exact oQ L _ d hd
end
end Rf
end Go.Proofs.YtnkkepfcpjllmaaGreatDoor
