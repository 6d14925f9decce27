
import Derived.Test.YtpgklkhgfcjceaaGreatDoorV01
import Derived.KernelRfl
import Derived.OrdersHeld
import Derived.Test.YtpgklkhgfcjceaaGreatDoorRows
import Derived.WalkKit
import Derived.WalkSpells
import Derived.WalkLawsBesides
import Derived.Deep.QuietTactic
import Derived.BigQuiet
import Derived.Lib.Strings
set_option maxHeartbeats 16000000
set_option maxRecDepth 100000
namespace Go.Proofs.YtpgklkhgfcjceaaGreatDoor
namespace At
open As
inductive It where
 | tok (b k:Nat) (t:List UInt8) (n:Nat)
 | nl
def spell:It->List UInt8
 | .tok b _ t _=>List.replicate b 32 ++ t
 | .nl=>[10]
def spells (l:List It):List UInt8:=l.flatMap spell
def mY:It->Bool
 | .nl=>true
 | _=>false
def blanks:Option It->Nat
 | some (.tok b _ _ _)=>b
 | _=>0
def jT (k:Nat) (t:List UInt8) (n:Nat):Prop :=
 (k=1/\n=0/\t.all aX=true/\(t.head?.map bA)=some false) \/
 (k=2/\n=dec t/\t.all bA=true/\1<=t.length/\t.length<=10) \/
 (k=3/\n=0/\t.length=1/\t.all j6=true)
instance (k:Nat) (t:List UInt8) (n:Nat):Decidable (jT k t n):=by unfold jT; infer_instance
def gL:It->Prop
 | .tok _ k t n=>jT k t n
 | .nl=>True
instance (i:It):Decidable (gL i):=by cases i <;> unfold gL <;> infer_instance
def apart:List It->Bool
 | .tok _ k _ _ :: .tok b' k' t' n' :: r=>(decide (k=3) || decide (0 < b') || decide (k'=3)) && apart (.tok b' k' t' n' :: r)
 | .tok _ _ _ _ :: .nl :: r=>apart r
 | .nl :: r=>apart r
 | [.tok _ _ _ _]=>true
 | []=>true
def nE (l:List It):Sc where
 next p:=match l[p]? with
  | some (.tok _ k t n)=>(⟨k,p,t,n⟩,(0,0),p+1)
  | _=>(⟨4,p,[],0⟩,(0,0),p)
 le p:=if p+((l.drop p).takeWhile fun i=>!mY i).length < l.length then (true,p+((l.drop p).takeWhile fun i=>!mY i).length+1) else (false,l.length)
def qp (l:List It) (p:Nat):Nat:=(spells (l.take p)).length
def lie (l:List It) (p:Nat):Nat:=qp l p+blanks l[p]?
theorem kX {c:UInt8} (h:aX c=true):As.blank c=false/\ends c=false/\eG c=true:=by
 unfold aX bA at h;unfold As.blank ends eG;simp only [Bool.or_eq_true,Bool.and_eq_true,decide_eq_true_eq,beq_iff_eq] at h;simp only [Bool.or_eq_false_iff,beq_eq_false_iff_ne,Bool.not_eq_true'];omega
theorem Dy {c:UInt8} (h:bA c=true):As.blank c=false/\ends c=false/\eG c=true/\aX c=true:=by
 have:aX c=true:=by unfold aX; rw [h]; simp
 have q:=kX this;exact ⟨q.1,q.2.1,q.2.2,this⟩
theorem kU {c:UInt8} (h:j6 c=true):As.blank c=false/\ends c=false/\eG c=true/\aX c=false/\bA c=false:=by
 unfold j6 at h;simp only [Bool.or_eq_true,beq_iff_eq] at h;unfold As.blank ends eG aX bA;simp only [Bool.or_eq_false_iff,Bool.and_eq_false_iff,beq_eq_false_iff_ne,decide_eq_false_iff_not,Bool.not_eq_true'];omega
theorem vN (b:Nat) (l:List UInt8) (h:(l.head?.map As.blank).getD false=false):(List.replicate b (32:UInt8) ++ l).takeWhile As.blank=List.replicate b 32:=by
 induction b with
 | zero =>
  cases l with
  | nil=>rfl
  | cons c r =>
   have:As.blank c=false:=h
   simp [this]
 | succ b ih =>
  rw [List.replicate_succ,List.cons_append,List.takeWhile_cons];rw [show As.blank 32=true from rfl,if_pos rfl,ih]
theorem vM {f:UInt8->Bool} (t rest:List UInt8) (ha:t.all f=true) (h:(rest.head?.map f).getD false=false):(t ++ rest).takeWhile f=t:=by
 induction t with
 | nil =>
  cases rest with
  | nil=>rfl
  | cons c r =>
   have:f c=false:=h
   simp [this]
 | cons c t ih =>
  rw [List.all_cons,Bool.and_eq_true] at ha;rw [List.cons_append,List.takeWhile_cons,ha.1,if_pos rfl,ih ha.2]
theorem sP (s:List UInt8) (q:Nat):s[q]?=(s.drop q).head?:=by
 rw [List.head?_drop]
theorem CF (s:List UInt8) (p b k n:Nat) (t rest:List UInt8) (hd:s.drop p=List.replicate b 32 ++ (t ++ rest)) (hg:jT k t n) (hr:k=3\/(rest.head?.map aX).getD false=false) :
  As.next s p=(⟨k,p+b,t,n⟩,(0,0),p+b+t.length):=by
 obtain ⟨c,r,rfl⟩:∃ c r,t=c :: r:=by
  cases t with
  | nil=>rcases hg with ⟨-,-,-,h⟩ | ⟨-,-,-,h,-⟩ | ⟨-,-,h,-⟩ <;> simp at h
  | cons c r=>exact ⟨c,r,rfl⟩
 have hb:As.blank c=false:=by
  rcases hg with ⟨-,-,h,-⟩ | ⟨-,-,h,-⟩ | ⟨-,-,-,h⟩ <;> rw [List.all_cons,Bool.and_eq_true] at h
  ·exact (kX h.1).1
  ·exact (Dy h.1).1
  ·exact (kU h.1).1
 have hq:skip As.blank s p=p+b:=by
  unfold skip;rw [hd,vN b _ (by simpa using hb),List.length_replicate]
 have Mx:s.drop (p+b)=(c :: r) ++ rest:=by
  rw [<- List.drop_drop,hd,List.drop_left' (by simp)]
 have hc:s[p+b]?=some c:=by rw [sP,Mx]; rfl
 unfold As.next iL;rw [hq,hc];simp only;rcases hg with ⟨rfl,rfl,h,hh⟩ | ⟨rfl,rfl,h,h1,h2⟩ | ⟨rfl,rfl,h1,h⟩
 ·have hc1:aX c=true:=by rw [List.all_cons,Bool.and_eq_true] at h; exact h.1
  have hc2:bA c=false:=by simpa using hh
  rw [(kX hc1).2.1,hc2,hc1];simp only [Bool.false_eq_true,if_false,if_true];have tk:((c :: r) ++ rest).takeWhile aX=c :: r:=vM _ _ h (by rcases hr with h | h; cases h; exact h);unfold skip;rw [Mx,tk]
 ·have hc1:bA c=true:=by rw [List.all_cons,Bool.and_eq_true] at h; exact h.1
  rw [(Dy hc1).2.1,hc1];simp only [Bool.false_eq_true,if_false,if_true];have hrw:(rest.head?.map aX).getD false=false:=by rcases hr with h | h; cases h; exact h
  have hrd:(rest.head?.map bA).getD false=false:=by
   cases rest with
   | nil=>rfl
   | cons x y =>
    have:aX x=false:=hrw
    show bA x=false
    cases hx:bA x with
    | false=>rfl
    | true=>rw [(Dy hx).2.2.2] at this; cases this
  have tk:((c :: r) ++ rest).takeWhile bA=c :: r:=vM _ _ h hrd;have sk:skip bA s (p+b)=p+b+(c :: r).length:=by unfold skip; rw [Mx,tk]
  have nx:s[p+b+(c :: r).length]?=rest.head?:=by rw [sP,<- List.drop_drop,Mx,List.drop_left' rfl]
  unfold iH;rw [Mx,tk,if_neg (by omega),sk,nx,hrw];simp only [Bool.false_eq_true,if_false]
 ·have hc1:j6 c=true:=by rw [List.all_cons,Bool.and_eq_true] at h; exact h.1
  obtain ⟨f1,f2,f3,f4,f5⟩:=kU hc1;obtain rfl:r=[]:=by simpa using h1
  rw [f2,f5,f4,hc1];rfl
theorem vC (s:List UInt8) (p:Nat) (hd:s.drop p=[]\/∃ r,s.drop p=10 :: r):As.next s p=(⟨4,p,[],0⟩,(0,0),p):=by
 have hq:skip As.blank s p=p:=by
  unfold skip;rcases hd with h | ⟨r,h⟩ <;> rw [h]
  ·rfl
  ·rw [List.takeWhile_cons,show As.blank 10=false from rfl]; rfl
 unfold As.next iL;rw [hq,sP];rcases hd with h | ⟨r,h⟩ <;> rw [h] <;> rfl
theorem kV (a b:List It):spells (a ++ b)=spells a ++ spells b:=by unfold spells; rw [List.flatMap_append]
theorem lS (i:It) (l:List It):spells (i :: l)=spell i ++ spells l:=rfl
theorem uX (l:List It) (p:Nat):(spells l).drop (qp l p)=spells (l.drop p):=by
 have e:spells l=spells (l.take p) ++ spells (l.drop p):=by rw [<- kV,List.take_append_drop]
 unfold qp
 conv=>lhs; rw [e]
 exact List.drop_left' rfl
theorem uY (l:List It) (p:Nat) (i:It) (h:l[p]?=some i):qp l (p+1)=qp l p+(spell i).length:=by
 unfold qp;rw [List.take_add_one,h,kV,List.length_append];simp [spells]
theorem sU (l:List It) (p:Nat) (h:l.length<=p):qp l p=(spells l).length:=by
 unfold qp;rw [List.take_of_length_le h]
theorem drop_cons (l:List It) (p:Nat) (i:It) (h:l[p]?=some i):l.drop p=i :: l.drop (p+1):=by
 obtain ⟨hl,e⟩:=List.getElem?_eq_some_iff.1 h;rw [List.drop_eq_getElem_cons hl,e]
theorem wJ:∀ (i:It) (r:List It),apart (i :: r)=true->apart r=true
 | .tok _ _ _ _,.tok _ _ _ _ :: _,h=>by unfold apart at h; rw [Bool.and_eq_true] at h; exact h.2
 | .tok _ _ _ _,.nl :: _,h=>h
 | .tok _ _ _ _,[],_=>rfl
 | .nl,_,h=>h
theorem wH (p:Nat):∀ l:List It,apart l=true->apart (l.drop p)=true:=by
 induction p with
 | zero=>intro l h; exact h
 | succ p ih =>
  intro l h
  cases l with
  | nil=>rfl
  | cons i r=>exact ih r (wJ i r h)
theorem wI (b k n:Nat) (t:List UInt8) (r:List It) (h:apart (.tok b k t n :: r)=true) (hg:∀ i∈r,gL i):k=3\/((spells r).head?.map aX).getD false=false:=by
 cases r with
 | nil=>exact .inr rfl
 | cons i r =>
  cases i with
  | nl=>exact .inr rfl
  | tok b' k' t' n' =>
   unfold apart at h;simp only [Bool.and_eq_true,Bool.or_eq_true,decide_eq_true_eq] at h;rcases h.1 with (h | h) | h
   ·exact .inl h
   ·right
    obtain ⟨c,rfl⟩:∃ c,b'=c+1:=⟨b' - 1,by omega⟩
    rfl
   ·right
    have g:jT k' t' n':=hg _ List.mem_cons_self
    cases b' with
    | succ c=>rfl
    | zero =>
     rcases g with ⟨e,-⟩ | ⟨e,-⟩ | ⟨-,-,h1,h2⟩
     ·omega
     ·omega
     ·cases t' with
      | nil=>simp at h1
      | cons c t' =>
       rw [List.all_cons,Bool.and_eq_true] at h2;show aX c=false;exact (kU h2.1).2.2.2.1
theorem xI {k n:Nat} {t:List UInt8} (h:jT k t n):t.all eG=true:=by
 rw [List.all_eq_true];intro c hc;rcases h with ⟨-,-,h,-⟩ | ⟨-,-,h,-⟩ | ⟨-,-,-,h⟩ <;> rw [List.all_eq_true] at h
 ·exact (kX (h c hc)).2.2
 ·exact (Dy (h c hc)).2.2.1
 ·exact (kU (h c hc)).2.2.1
theorem rO {f:UInt8->Bool} (a b:List UInt8) (h:a.all f=true):(a ++ b).takeWhile f=a ++ b.takeWhile f:=by
 induction a with
 | nil=>rfl
 | cons c a ih =>
  rw [List.all_cons,Bool.and_eq_true] at h;rw [List.cons_append,List.takeWhile_cons,h.1,if_pos rfl,ih h.2];rfl
theorem zO (m:List It) (hg:∀ i∈m,gL i):(spells m).takeWhile eG=spells (m.takeWhile fun i=>!mY i):=by
 induction m with
 | nil=>rfl
 | cons i m ih =>
  cases i with
  | nl=>rfl
  | tok b k t n =>
   have g:jT k t n:=hg _ List.mem_cons_self;rw [lS,rO _ _ (by
    show (List.replicate b 32 ++ t).all eG=true;rw [List.all_append,xI g,List.all_replicate];simp [eG]),ih (fun j hj=>hg j (List.mem_cons_of_mem _ hj)),List.takeWhile_cons]
   rfl
theorem Fj (l:List It) (p j:Nat):qp l (p+j)=qp l p+(spells ((l.drop p).take j)).length:=by
 unfold qp;rw [List.take_add,kV,List.length_append]
theorem agree (l:List It) (hg:∀ i∈l,gL i) (ha:apart l=true) (h0:blanks l[0]?=0):Agree (CX (spells l)) (nE l) (qp l) (lie l):=by
 refine ⟨?_,fun p=>?_⟩
 ·unfold lie;rw [h0];rfl
 ·show As.next (spells l) (qp l p)=_;have hd:=uX l p
  cases hp:l[p]? with
  | none =>
   have hl:l.length<=p:=List.getElem?_eq_none_iff.1 hp;rw [vC _ _ (.inl (by rw [hd,List.drop_eq_nil_of_le hl]; rfl))];show _=(dP (lie l) ((nE l).next p).1,_,_)
   unfold nE;simp only [hp];unfold dP lie;rw [hp,h0];rfl
  | some i =>
   have hc:=drop_cons l p i hp;have mem:i∈l:=List.mem_of_getElem? hp
   cases i with
   | nl =>
    rw [vC _ _ (.inr ⟨_,by rw [hd,hc,lS]; rfl⟩)];unfold nE;simp only [hp];unfold dP lie;rw [hp,h0];rfl
   | tok b k t n =>
    have g:jT k t n:=hg _ mem;have ap:=wH p l ha;rw [hc] at ap;have hr:=wI b k n t _ ap (fun j hj=>hg j (List.mem_of_mem_drop hj));rw [CF (spells l) (qp l p) b k n t (spells (l.drop (p+1))) (by rw [hd,hc,lS]; show List.replicate b 32 ++ t ++ _=_; rw [List.append_assoc]) g hr];unfold nE;simp only [hp];unfold dP lie;rw [hp,h0,uY l p _ hp];show _=(_,_,qp l p+(List.replicate b (32:UInt8) ++ t).length)
    rw [List.length_append,List.length_replicate,Nat.add_assoc];rfl
theorem Bl (l:List It) (hg:∀ i∈l,gL i) (p:Nat):(CX (spells l)).le (qp l p)=(((nE l).le p).1,qp l ((nE l).le p).2):=by
 show As.lineEnd (spells l) (qp l p)=_;have hd:=uX l p;have hgd:∀ i∈l.drop p,gL i:=fun j hj=>hg j (List.mem_of_mem_drop hj)
 obtain ⟨j,hj⟩:∃ j,((l.drop p).takeWhile fun i=>!mY i).length=j:=⟨_,rfl⟩
 have tj:(l.drop p).take j=(l.drop p).takeWhile fun i=>!mY i:=by
  rw [<- hj];exact List.prefix_iff_eq_take.1 (List.takeWhile_prefix _) |>.symm
 have sk:skip eG (spells l) (qp l p)=qp l (p+j):=by
  unfold skip;rw [hd,zO _ hgd,Fj,tj]
 unfold As.lineEnd;rw [sk];unfold nE;simp only [hj];by_cases c:p+j < l.length
 ·have e:l[p+j]?=some .nl:=by
   have h1:(l.drop p)[j]?=l[p+j]?:=List.getElem?_drop;obtain ⟨x,hx⟩:∃ x,l[p+j]?=some x:=⟨_,List.getElem?_eq_getElem c⟩
   have h2:((l.drop p).dropWhile fun i=>!mY i).head?=some x:=by
    have:=List.takeWhile_append_dropWhile (p:=fun i=>!mY i) (l:=l.drop p)
    rw [<- hx,<- h1]
    conv=>rhs; rw [<- this]
    rw [List.getElem?_append_right (by omega),hj,Nat.sub_self,List.head?_eq_getElem?]
   have h3:=List.head?_dropWhile_not (fun i=>!mY i) (l.drop p);rw [h2] at h3
   cases x with
   | nl=>exact hx
   | tok b k t n=>simp [mY] at h3
  have f1:=uY l (p+j) .nl e;have le2:qp l (p+j+1)<=(spells l).length:=by
   have:spells l=spells (l.take (p+j+1)) ++ spells (l.drop (p+j+1)):=by rw [<- kV,List.take_append_drop]
   rw [this,List.length_append];exact Nat.le_add_right _ _
  have s1:(spell It.nl).length=1:=rfl;rw [if_pos c,if_pos (by omega),f1,s1]
 ·rw [if_neg c,if_neg (by rw [sU l (p+j) (by omega)]; omega),sU l (p+j) (by omega),sU l l.length (Nat.le_refl _)]
end At
end Go.Proofs.YtpgklkhgfcjceaaGreatDoor

namespace Go.Proofs.YtpgklkhgfcjceaaGreatDoor
namespace At
open As
theorem Bo (s:List UInt8) (n:Nat):∀ st:St,As.lines s n st=lines (CX s) n st:=by
 induction n with
 | zero=>intro st; rfl
 | succ n ih =>
  intro st;have e:As.bG s (As.line s st)=bG (CX s) (line (CX s) st):=by kernel_rfl
  unfold As.lines lines;rw [e];simp only [ih]
def sJ (L:List It):Sc where
 next p:=match L[p]? with
  | some (.tok _ k t n)=>(⟨k,p+1,t,n⟩,(0,0),p+1)
  | _=>(⟨4,L.length+1,[],0⟩,(0,0),p)
 le p:=(false,p)
def xg (L:List It):Prop:=∀ i∈L,mY i=false
def kD (L:List It) (s:Nat) (o:Lk.Obj) (s':Nat) (o':Lk.Obj):Prop :=
 xg L/\∀ (tok op:Tok) (fa:Nat),(line (sJ L) ⟨0,tok,0,fa,op,s,o⟩).fe=0/\(line (sJ L) ⟨0,tok,0,fa,op,s,o⟩).ah=s'/\(line (sJ L) ⟨0,tok,0,fa,op,s,o⟩).obj=o'
theorem FV (a L c:List It) (p:Nat) (hp:p < L.length):(a ++ (L ++ (.nl :: c)))[a.length+p]?=L[p]?:=by
 rw [List.getElem?_append_right (by omega),Nat.add_sub_cancel_left,List.getElem?_append_left hp]
theorem Js (a L c:List It):(a ++ (L ++ (.nl :: c)))[a.length+L.length]?=some .nl:=by
 rw [List.getElem?_append_right (by omega),Nat.add_sub_cancel_left,List.getElem?_append_right (by omega),Nat.sub_self];rfl
def rG (a L:List It) (u v w q:Nat):Nat:=if q=0 then 0 else if q<=L.length+1 then a.length+(q - 1) else if q=L.length+2 then u else if q=L.length+3 then v else w
theorem F4 (a L:List It) (u v w:Nat):rG a L u v w (L.length+2)=u:=by
 unfold rG;rw [if_neg (by omega),if_neg (by omega),if_pos (by omega)]
theorem zT (a L:List It) (u v w:Nat):rG a L u v w (L.length+3)=v:=by
 unfold rG;rw [if_neg (by omega),if_neg (by omega),if_neg (by omega),if_pos (by omega)]
theorem CP (a L:List It) (u v w:Nat):rG a L u v w (L.length+4)=w:=by
 unfold rG;rw [if_neg (by omega),if_neg (by omega),if_neg (by omega),if_neg (by omega)]
theorem wG (a L c:List It) (u v w:Nat) (hn:xg L):Agree (nE (a ++ (L ++ (.nl :: c)))) (sJ L) (fun p=>a.length+min p L.length) (rG a L u v w):=by
 refine ⟨rfl,fun p=>?_⟩;by_cases hp:p < L.length
 ·have e:=FV a L c p hp;obtain ⟨i,hi⟩:∃ i,L[p]?=some i:=⟨_,List.getElem?_eq_getElem hp⟩
  have ni:=hn i (List.mem_of_getElem? hi)
  cases i with
  | nl=>cases ni
  | tok b k t n =>
   rw [hi] at e;have m:min p L.length=p:=by omega
   have m2:min (p+1) L.length=p+1:=by omega
   unfold nE sJ;simp only [m,e,hi];unfold dP rG;simp only;rw [if_neg (by omega),if_pos (by omega),m2];rfl
 ·have e:=Js a L c;have m:min p L.length=L.length:=by omega
  have hi:L[p]?=none:=List.getElem?_eq_none_iff.2 (by omega);unfold nE sJ;simp only [m,e,hi];unfold dP rG;simp only;rw [if_neg (by omega),if_pos (by omega)];rfl
theorem FH (a L c:List It) (hn:xg L) (st:St) (hp:st.p=a.length) (hf:st.fe=0) :
  ∃ tok op fa f g,line (nE (a ++ (L ++ (.nl :: c)))) st=aG f g (line (sJ L) ⟨0,tok,0,fa,op,st.ah,st.obj⟩)/\∀ p,∃ q,q<=L.length/\f p=a.length+q:=by
 have A:=wG a L c st.tok.pos st.op.pos st.fa hn;refine ⟨⟨st.tok.kind,L.length+2,st.tok.text,st.tok.n⟩,⟨st.op.kind,L.length+3,st.op.text,st.op.n⟩,L.length+4,fun p=>a.length+min p L.length,rG a L st.tok.pos st.op.pos st.fa,?_,fun p=>⟨min p L.length,by omega,rfl⟩⟩;rw [<- Cq A]
 congr 1
 obtain ⟨p,tok,fe,fa,op,ah,obj⟩:=st;simp only at hp hf;subst hp hf;unfold aG dP;simp only [Nat.zero_min,Nat.add_zero,F4,zT,CP]
theorem MQ (a L c:List It) (hn:xg L) (q:Nat) (hq:q<=L.length):(nE (a ++ (L ++ (.nl :: c)))).le (a.length+q)=(true,(a ++ (L ++ [It.nl])).length):=by
 have e:((a ++ (L ++ (.nl :: c))).drop (a.length+q)).takeWhile (fun i=>!mY i)=L.drop q:=by
  rw [<- List.drop_drop,List.drop_left' rfl,List.drop_append_of_le_length hq]
  have:∀ M:List It,xg M->(M ++ (.nl :: c)).takeWhile (fun i=>!mY i)=M:=by
   intro M
   induction M with
   | nil=>intro _; rfl
   | cons i M ih =>
    intro h;rw [List.cons_append,List.takeWhile_cons,h i List.mem_cons_self];simp only [Bool.not_false,if_true];rw [ih (fun j hj=>h j (List.mem_cons_of_mem _ hj))]
  exact this _ (fun i hi=>hn i (List.mem_of_mem_drop hi))
 unfold nE;simp only [e,List.length_drop,List.length_append,List.length_cons,List.length_nil];rw [if_pos (by omega)];simp only [Prod.mk.injEq,true_and];omega
def join (Ls:List (List It)):List It:=Ls.flatMap (· ++ [.nl])
theorem zP (l:List It) (st:St) (hp:st.p=l.length) (hf:st.fe=0) (n:Nat):(lines (nE l) (n+1) st).fe=0/\(lines (nE l) (n+1) st).obj=st.obj:=by
 obtain ⟨p,tok,fe,fa,op,ah,obj⟩:=st;simp only at hp hf;subst hp hf;have e1:(nE l).next l.length=(⟨4,l.length,[],0⟩,(0,0),l.length):=by
  unfold nE;simp only [List.getElem?_eq_none_iff.2 (Nat.le_refl l.length)]
 have e2:(nE l).le l.length=(false,l.length):=by
  unfold nE;simp only;rw [List.drop_length];simp
 have a1:advance (nE l) ⟨l.length,tok,0,fa,op,ah,obj⟩=⟨l.length,⟨4,l.length,[],0⟩,0,fa,op,ah,obj⟩:=by
  unfold advance;rw [e1];rfl
 have a2:line (nE l) ⟨l.length,tok,0,fa,op,ah,obj⟩=⟨l.length,⟨4,l.length,[],0⟩,0,fa,op,ah,obj⟩:=by
  unfold line;rw [a1];rfl
 unfold lines;rw [a2];have a3:bG (nE l) ⟨l.length,⟨4,l.length,[],0⟩,0,fa,op,ah,obj⟩=(false,⟨l.length,⟨4,l.length,[],0⟩,0,fa,op,ah,obj⟩):=by
  unfold bG;rw [e2];rfl
 rw [a3];exact ⟨rfl,rfl⟩
end At
end Go.Proofs.YtpgklkhgfcjceaaGreatDoor

namespace Go.Proofs.YtpgklkhgfcjceaaGreatDoor
namespace At
open As
def Gets:List (List It)->Nat->Lk.Obj->Nat->Lk.Obj->Prop
 | [],s,o,s',o'=>s=s'/\o=o'
 | L :: Ls,s,o,s',o'=>xg L/\∀ (tok op:Tok) (fa:Nat),(line (sJ L) ⟨0,tok,0,fa,op,s,o⟩).fe=0/\Gets Ls (line (sJ L) ⟨0,tok,0,fa,op,s,o⟩).ah (line (sJ L) ⟨0,tok,0,fa,op,s,o⟩).obj s' o'
theorem Gets.one {L:List It} {Ls:List (List It)} {s s' s'':Nat} {o o' o'':Lk.Obj} (h:kD L s o s' o') (k:Gets Ls s' o' s'' o''):Gets (L :: Ls) s o s'' o'':=by
 refine ⟨h.1,fun tok op fa=>?_⟩;obtain ⟨h1,h2,h3⟩:=h.2 tok op fa;rw [h2,h3];exact ⟨h1,k⟩
def runs:(Nat->Tok×Tok×Nat)->List (List It)->Nat->Lk.Obj->Option (Nat×Lk.Obj)
 | _,[],s,o=>some (s,o)
 | f,L :: Ls,s,o=>if (line (sJ L) ⟨0,(f 0).1,0,(f 0).2.2,(f 0).2.1,s,o⟩).fe=0 then runs (fun i=>f (i+1)) Ls (line (sJ L) ⟨0,(f 0).1,0,(f 0).2.2,(f 0).2.1,s,o⟩).ah (line (sJ L) ⟨0,(f 0).1,0,(f 0).2.2,(f 0).2.1,s,o⟩).obj else none
theorem Gets.many {Ls Ms:List (List It)} {s' s'':Nat} {o' o'':Lk.Obj} (hn:(Ls.all fun L=>L.all fun i=>!mY i)=true) (k:Gets Ms s' o' s'' o''):∀ (s:Nat) (o:Lk.Obj),(∀ f,runs f Ls s o=some (s',o'))->Gets (Ls ++ Ms) s o s'' o'':=by
 induction Ls with
 | nil =>
  intro s o h;have e:=h fun _=>(Tok.nil,Tok.nil,0)
  unfold runs at e
  cases e
  exact k
 | cons L Ls ih =>
  intro s o h;rw [List.all_cons,Bool.and_eq_true] at hn;refine ⟨fun i hi=>by have:=List.all_eq_true.1 hn.1 i hi; simpa using this,fun tok op fa=>?_⟩;have q:∀ f:Nat->Tok×Tok×Nat,(line (sJ L) ⟨0,tok,0,fa,op,s,o⟩).fe=0/\runs f Ls (line (sJ L) ⟨0,tok,0,fa,op,s,o⟩).ah (line (sJ L) ⟨0,tok,0,fa,op,s,o⟩).obj=some (s',o'):=fun f=>by
   have e:=h fun i=>match i with | 0=>(tok,op,fa) | i+1=>f i
   unfold runs at e;split at e
   ·exact ⟨by assumption,e⟩
   ·cases e
  exact ⟨(q fun _=>(Tok.nil,Tok.nil,0)).1,ih hn.2 _ _ fun f=>(q f).2⟩
theorem wW {s':Nat} {o':Lk.Obj}:∀ (Ls:List (List It)) (s:Nat) (o:Lk.Obj),Gets Ls s o s' o'->∀ (a:List It) (st:St) (n:Nat),st.p=a.length->st.fe=0->st.ah=s->st.obj=o->Ls.length<=n ->
  (lines (nE (a ++ join Ls)) (n+1) st).fe=0/\(lines (nE (a ++ join Ls)) (n+1) st).obj=o':=by
 intro Ls
 induction Ls with
 | nil =>
  intro s o h a st n hp hf _ ho _
  have:a ++ join []=a:=List.append_nil a
  rw [this];have q:=zP a st hp hf n;rw [ho,h.2] at q;exact q
 | cons L Ls ih =>
  intro s o h a st n hp hf hs ho hn;obtain ⟨hL,h⟩:=h;obtain ⟨m,rfl⟩:∃ m,n=m+1:=⟨n - 1,by simp at hn; omega⟩
  have j:join (L :: Ls)=L ++ (.nl :: join Ls):=by unfold join; rw [List.flatMap_cons,List.append_assoc]; rfl
  rw [j];obtain ⟨tok,op,fa,f,g,e,hfq⟩:=FH a L (join Ls) hL st hp hf;rw [hs,ho] at e;obtain ⟨d1,d2⟩:=h tok op fa;generalize line (sJ L) ⟨0,tok,0,fa,op,s,o⟩=r at *;have step:lines (nE (a ++ (L ++ (.nl :: join Ls)))) (m+1+1) st=lines (nE (a ++ (L ++ (.nl :: join Ls)))) (m+1) { aG f g r with p:=(a ++ (L ++ [It.nl])).length }:=by
   conv=>lhs; unfold lines
   rw [e];obtain ⟨q,hq,eq⟩:=hfq r.p;have nx:bG (nE (a ++ (L ++ (.nl :: join Ls)))) (aG f g r)=(true,{ aG f g r with p:=(a ++ (L ++ [It.nl])).length }):=by
    unfold bG;have nf:failed (aG f g r)=false:=by unfold failed aG; simp [d1]
    rw [nf];simp only [Bool.false_eq_true,if_false]
    have:(aG f g r).p=a.length+q:=eq
    rw [this,MQ a L (join Ls) hL q hq]
   rw [nx];rfl
  rw [step];have w:a ++ (L ++ (.nl :: join Ls))=(a ++ (L ++ [.nl])) ++ join Ls:=by simp
  rw [w];exact ih r.ah r.obj d2 (a ++ (L ++ [It.nl])) ⟨(a ++ (L ++ [It.nl])).length,dP g r.tok,r.fe,g r.fa,dP g r.op,r.ah,r.obj⟩ m rfl d1 rfl rfl (by simp at hn; omega)
theorem qY {Ls:List (List It)} {s':Nat} {o':Lk.Obj} (h:Gets Ls 1 As.start.obj s' o') (hg:∀ i∈join Ls,gL i) (ha:apart (join Ls)=true) (h0:blanks (join Ls)[0]?=0) (hl:(spells (join Ls)).length<=1000) (hn:Ls.length<=(spells (join Ls)).length) :
  (As.assemble (spells (join Ls))).1.1=0/\(As.assemble (spells (join Ls))).2=finish o':=by
 have A:=agree (join Ls) hg ha h0;have B:=Bl (join Ls) hg;have st0:aG (qp (join Ls)) (lie (join Ls)) As.start=As.start:=by
  have z:lie (join Ls) 0=0:=A.zero;unfold aG As.start;simp only [z];rw [xZ A];rfl
 have e:As.lines (spells (join Ls)) ((spells (join Ls)).length+1) As.start=aG (qp (join Ls)) (lie (join Ls)) (lines (nE (join Ls)) ((spells (join Ls)).length+1) As.start):=by
  rw [Bo,<- FK A B,st0]
 have q:=wW Ls 1 As.start.obj h [] As.start (spells (join Ls)).length rfl rfl rfl rfl hn;rw [List.nil_append] at q;unfold As.assemble;rw [if_neg (by omega),e];generalize lines (nE (join Ls)) ((spells (join Ls)).length+1) As.start=X at *;obtain ⟨x1,x2,x3,x4,x5,x6,x7⟩:=X;exact ⟨q.1,congrArg finish q.2⟩
end At
end Go.Proofs.YtpgklkhgfcjceaaGreatDoor

namespace Go.Proofs.YtpgklkhgfcjceaaGreatDoor
namespace At
open As
def more (o:Lk.Obj) (ws:List Int):Lk.Obj:={ o with text:=o.text ++ ws }
def ended (st:St):St:=if st.tok.kind == 4 then st else refuse 3 st.tok.pos st
theorem Ch (ws:List Int) (p:Nat) (tok:Tok) (fa:Nat) (op:Tok) (o:Lk.Obj) (hk:tok.kind=4) (h:o.text.length+ws.length<=1200) :
  ended (lay ws ⟨p,tok,0,fa,op,1,o⟩)=⟨p,tok,0,fa,op,1,more o ws⟩:=by
 have c:¬ 4 * limit 1 < 4 * bM o 1+4 * (ws.length:Int):=by
  have e1:limit 1=1200:=rfl;have e2:bM o 1=o.text.length:=rfl;rw [e1,e2];omega
 have e:lay ws ⟨p,tok,0,fa,op,1,o⟩=⟨p,tok,0,fa,op,1,more o ws⟩:=by
  unfold lay;simp only;rw [if_neg c];rfl
 rw [e];unfold ended;simp only [hk];rfl
def wd (b:Nat) (t:List UInt8):It:=.tok b 1 t 0
def sn (c:UInt8):It:=.tok 0 3 [c] 0
def nm (t:List UInt8) (n:Nat):It:=.tok 0 2 t n
def Da (neg:Bool) (t:List UInt8) (n:Nat):List It:=if neg then [sn 45,nm t n] else [nm t n]
def lq (r:Nat) (v:Int):List Int:=if -2048<=v/\v<=2047 then [(enc 13 r 0 0 v:Int)] else [(enc 1 r 0 0 (dG v):Int),(enc 13 r r 0 (bP v):Int)]
theorem FE (r:Nat) (v:Int):1<=(lq r v).length/\(lq r v).length<=2:=by
 unfold lq;split <;> simp
theorem Cn (r:Nat) (v lo hi:Int) (S1 S2:St) (h0:lo<=v) (h1:v<=hi) :
  (let c:=(if v < lo\/hi < v then ((0:Int),S1) else (v,S2)); if -2048<=c.1/\c.1<=2047 then bH 13 r 0 0 c.1 c.2 else lay [(enc 1 r 0 0 (dG c.1):Int),(enc 13 r r 0 (bP c.1):Int)] c.2)=lay (lq r v) S2:=by
 have e:(if v < lo\/hi < v then ((0:Int),S1) else (v,S2))=(v,S2):=if_neg (by omega);rw [e];unfold lq bH;simp only;split <;> rfl
theorem tC {L:List It} (h:(L.all fun i=>!mY i)=true):xg L:=fun i hi=>by
 have:=List.all_eq_true.1 h i hi
 simpa using this
theorem Cm (L:List It) (o o':Lk.Obj) (r:Nat) (v:Int) (i:Nat) (S1:Nat->St) (hn:(L.all fun i=>!mY i)=true)
  (e:∀ tok op fa,line (sJ L) ⟨0,tok,0,fa,op,1,o⟩=ended (let c:=(if v < -2147483648\/2147483647 < v then ((0:Int),S1 fa) else (v,⟨L.length,⟨4,L.length+1,[],0⟩,0,fa,⟨1,i,[108,105],0⟩,1,o'⟩)); if -2048<=c.1/\c.1<=2047 then bH 13 r 0 0 c.1 c.2 else lay [(enc 1 r 0 0 (dG c.1):Int),(enc 13 r r 0 (bP c.1):Int)] c.2))
  (h0:-2147483648<=v) (h1:v<=2147483647) (h:o'.text.length+2<=1200):kD L 1 o 1 (more o' (lq r v)):=by
 refine ⟨tC hn,fun tok op fa=>?_⟩;rw [e,Cn r v _ _ _ _ h0 h1,Ch _ L.length ⟨4,L.length+1,[],0⟩ fa _ o' rfl (by have:=FE r v; omega)];exact ⟨rfl,rfl,rfl⟩
end At
end Go.Proofs.YtpgklkhgfcjceaaGreatDoor

namespace Go.Proofs.YtpgklkhgfcjceaaGreatDoor
namespace At
open As
theorem Cu (t:List UInt8) (n:Nat) (o:Lk.Obj) (h:o.text.length+2<=1200) (hn:(n:Int)<=2147483647):kD [wd 0 [108,105],wd 1 [120,54],sn 44,nm t n] 1 o 1 (more o (lq 6 ((n:Int)))):=Cm _ o o 6 ((n:Int)) 1 (fun fa=>refuse 8 4 ⟨4,⟨2,4,t,n⟩,0,fa,⟨1,1,[108,105],0⟩,1,o⟩) rfl (fun _ _ _=>by kernel_rfl) (by omega) (by omega) h
theorem Ct (t:List UInt8) (n:Nat) (o:Lk.Obj) (h:o.text.length+2<=1200) (hn:(n:Int)<=2147483648):kD [wd 0 [108,105],wd 1 [120,54],sn 44,sn 45,nm t n] 1 o 1 (more o (lq 6 (-(n:Int)))):=Cm _ o o 6 (-(n:Int)) 1 (fun fa=>refuse 8 4 ⟨5,⟨2,5,t,n⟩,0,fa,⟨1,1,[108,105],0⟩,1,o⟩) rfl (fun _ _ _=>by kernel_rfl) (by omega) (by omega) h
end At
end Go.Proofs.YtpgklkhgfcjceaaGreatDoor

namespace Go.Proofs.YtpgklkhgfcjceaaGreatDoor
namespace At
open As
def val (neg:Bool) (n:Nat):Int:=if neg then -(n:Int) else n
theorem Jq (neg:Bool) (t:List UInt8) (n:Nat) (hn:n<=2147483647\/(neg=true/\n<=2147483648)) (o:Lk.Obj) (h:o.text.length+2<=1200):kD ([wd 0 [108,105],wd 1 [120,54],sn 44] ++ Da neg t n) 1 o 1 (more o (lq 6 (val neg n))):=by
 cases neg
 ·exact Cu t n o h (by rcases hn with h | h; omega; cases h.1)
 ·exact Ct t n o h (by omega)
abbrev AL:List Int:=[2,2,2,2]
end At
end Go.Proofs.YtpgklkhgfcjceaaGreatDoor

namespace Go.Proofs.YtpgklkhgfcjceaaGreatDoor
open Go.RowKit
theorem aU {P:Program} {md:Region.Mode} {ops:Array Oper} {Q:Exit->Act->World->Prop} {S:World->Prop} {i:Nat} {oi:Oper} {v:Value} {fuel:Nat} {listed:Array Bool} {a:Act} {w:World} (hi:ops[i]?=some oi) (hy:∀ w,S w->(execOp a.eval oi).run P w = .ok (.value v) w) (hS:S w) (h:wpAnyH P md ops Q S fuel (listed.setIfInBounds i true) (a.put oi.dst v) w) (hs:Region.noSelect ops=true:=by kernel_rfl) (hf:Region.free md ops listed i=true:=by kernel_rfl) (hr:(Region.ready md ops listed).contains i=true:=by kernel_rfl) (hw:Region.wanted oi (yielded ops a.tmps)=true:=by kernel_rfl) (hQ:∀ c a w,Q (.panic c) (a.put oi.dst v) w->Q (.panic c) a w:=by exact fun _ _ _ h=>h):wpAnyH P md ops Q S (fuel+1) listed a w:=wpAnyH_take hi hs hf hr hQ (Or.inl ⟨hw,hy⟩) hS h
theorem qP {P:Program} {md:Region.Mode} {ops:Array Oper} {Q:Exit->Act->World->Prop} {S:World->Prop} {i:Nat} {oi:Oper} {fuel:Nat} {listed:Array Bool} {a:Act} {w:World} (hi:ops[i]?=some oi) (hS:S w) (h:wpAnyH P md ops Q S fuel (listed.setIfInBounds i true) (a.put oi.dst undef) w) (hs:Region.noSelect ops=true:=by kernel_rfl) (hf:Region.free md ops listed i=true:=by kernel_rfl) (hr:(Region.ready md ops listed).contains i=true:=by kernel_rfl) (hw:Region.wanted oi (yielded ops a.tmps)=false:=by kernel_rfl) (hQ:∀ c a w,Q (.panic c) (a.put oi.dst undef) w->Q (.panic c) a w:=by exact fun _ _ _ h=>h):wpAnyH P md ops Q S (fuel+1) listed a w:=wpAnyH_take hi hs hf hr hQ (Or.inr ⟨hw,rfl⟩) hS h
theorem bK:type_of% @List.getElem?_cons_zero:=@List.getElem?_cons_zero
theorem bI:type_of% @List.getElem?_toArray:=@List.getElem?_toArray
theorem bN:type_of% @List.getElem?_cons_succ:=@List.getElem?_cons_succ
theorem fZ:type_of% @List.set_cons_succ:=@List.set_cons_succ
theorem gq:type_of% @List.set_cons_zero:=@List.set_cons_zero
theorem gu:type_of% @List.setIfInBounds_toArray:=@List.setIfInBounds_toArray
theorem aJ:type_of% @Go.World.grownBy_alloc:=@Go.World.grownBy_alloc
theorem eZ:type_of% @List.length_append:=@List.length_append
theorem iq:type_of% @List.getElem_mem:=@List.getElem_mem
theorem jm:type_of% @List.length_cons:=@List.length_cons
theorem j3:type_of% @List.getElem?_eq_getElem:=@List.getElem?_eq_getElem
theorem lV:type_of% @List.drop_eq_getElem_cons:=@List.drop_eq_getElem_cons
theorem rW:type_of% @List.length_map:=@List.length_map
theorem pz:type_of% @List.getElem_cons_succ:=@List.getElem_cons_succ
theorem pU:type_of% @List.getElem_cons_zero:=@List.getElem_cons_zero
theorem qc:type_of% @List.getElem_toArray:=@List.getElem_toArray
theorem lu:type_of% @List.foldl_cons:=@List.foldl_cons
theorem lW:type_of% @List.foldl_nil:=@List.foldl_nil
theorem lC:type_of% @List.getD_eq_getElem?_getD:=@List.getD_eq_getElem?_getD
def Hd (p:Prop):Prop:=p
theorem Hd.o {p:Prop} (h:Hd p):p:=h
def sl (s:ByteArray):List UInt8:=s.data.toList
def bs (l:List UInt8):ByteArray:=⟨l.toArray⟩
theorem yq (s:ByteArray):(sl s).length=s.size:=by unfold sl; rw [Array.length_toList]; rfl
theorem zh (l:List UInt8):(bs l).size=l.length:=by simp [bs,ByteArray.size]
theorem Gx (l:List UInt8):sl (bs l)=l:=by simp [sl,bs]
theorem yrQ (s:ByteArray):bs (sl s)=s:=by simp [sl,bs]
theorem Nj (s:ByteArray) (a b:Nat):s.extract a b=bs (((sl s).drop a).take (b - a)):=Lib.extract_eq s a b
theorem yM {k:IntKind} {a b:Int} (h:a=b):Ending.returned (.int k a) = .returned (.int k b):=by rw [h]
theorem yqP {a b:ByteArray} (h:a=b):Ending.returned (.string a) = .returned (.string b):=by rw [h]
theorem hid {p:Prop} (h:p):Hd p:=h
theorem ya {a b c:World} {row:Option Nat} (h:a.grownBy b row) (k:b.grownBy c row):a.grownBy c row :=
 ⟨k.os.trans h.os,k.tape.trans h.tape,k.output.trans h.output,Nat.le_trans h.size k.size,fun i hi hr=>(k.block i (Nat.lt_of_lt_of_le hi h.size) hr).trans (h.block i hi hr)⟩
theorem ynS {a b:World} {row:Option Nat} (h:a.grownBy b none):a.grownBy b row:=⟨h.os,h.tape,h.output,h.size,fun i hi _=>h.block i hi (by simp)⟩
theorem yf {a b:World} {row:Option Nat} (h:a.grownBy b row) (n:Nat):a.grownBy (b.drewN n) row:=by
 induction n with
 | zero=>exact h
 | succ n ih=>exact ⟨ih.os,ih.tape,ih.output,ih.size,ih.block⟩
theorem Pn {a b:World} {row:Option Nat} (h:a.grownBy b row) {B:Nat} (hB:B<=a.heap.size) (hr:∀ k,row=some k->B<=k):Below B a b :=
 (Below.refl B a).grown h hB hr
theorem ye (w:World) (b o:Nat) (v:Value):w.grownBy (w.setCell ⟨b,o,none⟩ v) (some b) :=
 ⟨rfl,rfl,rfl,by simp [World.setCell],fun k _ hr=>Below.heap_setCell _ _ _ _ (by simpa using hr)⟩
theorem XI (w:World) (n:Nat):(w.drewN n).heap=w.heap:=by
 induction n with
 | zero=>rfl
 | succ n ih=>exact ih
def bF (w:World) (b:Nat) (s:ByteArray) (p:Nat) (sh:Bool):Prop :=
 w.heap[b]?=some (.cells #[.string s,.int .i64 p,.bool sh] 83 (0,0))
theorem bF.lt {w:World} {b:Nat} {s:ByteArray} {p:Nat} {sh:Bool} (h:bF w b s p sh):b < w.heap.size:=(Array.getElem?_eq_some_iff.1 h).1
theorem bF.c0 {w:World} {b:Nat} {s:ByteArray} {p:Nat} {sh:Bool} (h:bF w b s p sh):w.cell? ⟨b,0,none⟩=some (.string s):=by simp [World.cell?,show w.heap[b]?=_ from h]
theorem bF.c1 {w:World} {b:Nat} {s:ByteArray} {p:Nat} {sh:Bool} (h:bF w b s p sh):w.cell? ⟨b,1,none⟩=some (.int .i64 p):=by simp [World.cell?,show w.heap[b]?=_ from h]
theorem bF.c2 {w:World} {b:Nat} {s:ByteArray} {p:Nat} {sh:Bool} (h:bF w b s p sh):w.cell? ⟨b,2,none⟩=some (.bool sh):=by simp [World.cell?,show w.heap[b]?=_ from h]
theorem bF.free {w:World} {b:Nat} {s:ByteArray} {p:Nat} {sh:Bool} (h:bF w b s p sh) (o:Nat):w.frozen? ⟨b,o,none⟩=false:=by simp [World.frozen?,show w.heap[b]?=_ from h]
theorem bF.grown {w w':World} {b:Nat} {s:ByteArray} {p:Nat} {sh:Bool} (h:bF w b s p sh) {row:Option Nat} (hg:w.grownBy w' row) (hne:some b≠row):bF w' b s p sh :=
 (hg.block b h.lt hne).trans h
theorem bF.drewN {w:World} {b:Nat} {s:ByteArray} {p:Nat} {sh:Bool} (h:bF w b s p sh) (n:Nat):bF (w.drewN n) b s p sh:=by
 unfold bF; rw [XI]; exact h
theorem Nf {w:World} {b o:Nat} {cs:Array Value} {t:TypeId} (h:w.heap[b]?=some (.cells cs t (0,0))) (v:Value) :
  (w.setCell ⟨b,o,none⟩ v).heap[b]?=some (.cells (cs.setIfInBounds o v) t (0,0)):=by
 simp [World.setCell,Array.getElem?_modify,h]
theorem bF.set1 {w:World} {b:Nat} {s:ByteArray} {p:Nat} {sh:Bool} (h:bF w b s p sh) (q:Nat):bF (w.setCell ⟨b,1,none⟩ (.int .i64 q)) b s q sh:=by
 have:=Nf (o:=1) h (.int .i64 q)
 simpa [bF] using this
theorem bF.set2 {w:World} {b:Nat} {s:ByteArray} {p:Nat} {sh:Bool} (h:bF w b s p sh) (q:Bool):bF (w.setCell ⟨b,2,none⟩ (.bool q)) b s p q:=by
 have:=Nf (o:=2) h (.bool q)
 simpa [bF] using this
theorem PY (b:Nat) (s:ByteArray) (p:Nat) (sh:Bool) (w:World) (h:bF w b s p sh) :
  Calls Tryz.prog 222 #[.pointer (some ⟨b,0,none⟩)] w fun e w'=>e = .returned (.bool sh)/\w'=w:=by
 have h2:=h.c2;clear h;go_enter Tryz.func222,Tryz.ntmps222;go_wp2;go_ret;exact ⟨rfl,rfl⟩
theorem TS (b:Nat) (s:ByteArray) (p:Nat) (sh:Bool) (w:World) (h:bF w b s p sh) :
  Calls Tryz.prog 45 #[.pointer (some ⟨b,0,none⟩)] w fun e w'=>e = .returned (.bool (!sh && decide (p=s.size)))/\∃ k,w'=w.drewN k:=by
 have h0:=h.c0;have h1:=h.c1;have h2:=h.c2;clear h
 cases sh
 ·go_enter Tryz.func45,Tryz.ntmps45;go_wp2
  go_quiet (fail)
  go_wp2;go_ret;refine ⟨?_,_,rfl⟩
  have:((p:Int) == (s.size:Int))=decide (p=s.size):=by rw [Bool.eq_iff_iff]; simp; omega
  simp [this]
 ·go_enter Tryz.func45,Tryz.ntmps45;go_wp2
  go_quiet (fail)
  go_wp2;go_ret;exact ⟨rfl,_,rfl⟩
theorem ypW (b:Nat) (s:ByteArray) (p n:Nat) (sh:Bool) (w:World) (h:bF w b s p sh)
  (hs:s.size<=1048576) (hp:p<=s.size) (hn:n<=s.size - p) :
  Calls Tryz.prog 77 #[.pointer (some ⟨b,0,none⟩),.int .i64 n] w fun e w'=>e = .returned (.string (bs (Lk.aH (sl s) n (p,sh)).1))/\bF w' b s (Lk.aH (sl s) n (p,sh)).2.1 (Lk.aH (sl s) n (p,sh)).2.2/\w.grownBy w' (some b):=by
 have e1:Lk.aH (sl s) n (p,sh)=(((sl s).drop p).take n,(p+n,sh)):=by
  unfold Lk.aH; rw [if_pos (by rw [yq]; exact hn)]
 rw [e1];clear e1;have h0:=h.c0;have h1:=h.c1;have f1:=h.free 1;have R:Hd (bF w b s p sh):=h;clear h;have g1:(0:Int)<=n:=by omega
 have g2:(n:Int)<=(s.size:Int) - p:=by omega
 have g3:(p:Int)+n<=s.size:=by omega
 have hd:decide ((n:Int) < 0)=false:=by simp
 go_enter Tryz.func77,Tryz.ntmps77;go_wp2
 go_quiet (fail)
 go_wp2
 go_quiet (fail)
 go_wp2;go_ret;refine ⟨yqP ?_,?_,?_⟩
 ·rw [Nj,Nat.add_sub_cancel_left]
 ·exact ((R.o.drewN _).set1 (p+n)).drewN _
 ·exact yf (ya (yf (World.grownBy.refl _ _) _) (ye _ _ _ _)) _
theorem yqS (b:Nat) (s:ByteArray) (p n:Nat) (sh:Bool) (w:World) (h:bF w b s p sh)
  (_hs:s.size<=1048576) (_hp:p<=s.size) (_hm:n<=1048576) (hn:s.size - p < n) :
  Calls Tryz.prog 77 #[.pointer (some ⟨b,0,none⟩),.int .i64 n] w fun e w'=>e = .returned (.string (bs (Lk.aH (sl s) n (p,sh)).1))/\bF w' b s (Lk.aH (sl s) n (p,sh)).2.1 (Lk.aH (sl s) n (p,sh)).2.2/\w.grownBy w' (some b):=by
 have e1:Lk.aH (sl s) n (p,sh)=([],(p,true)):=by
  unfold Lk.aH; rw [if_neg (by rw [yq]; omega)]
 rw [e1];clear e1;have h0:=h.c0;have h1:=h.c1;have h2:=h.c2;have f2:=h.free 2;have R:Hd (bF w b s p sh):=h;clear h;have g1:(0:Int)<=n:=by omega
 have g2:(s.size:Int) - p < n:=by omega
 have hd:decide ((n:Int) < 0)=false:=by simp
 go_enter Tryz.func77,Tryz.ntmps77;go_wp2
 go_quiet (fail)
 go_wp2;go_ret;refine ⟨rfl,?_,?_⟩
 ·exact (R.o.drewN _).set2 true
 ·exact ya (yf (World.grownBy.refl _ _) _) (ye _ _ _ _)
theorem YW (b:Nat) (s:ByteArray) (p n:Nat) (sh:Bool) (w:World) (h:bF w b s p sh)
  (hs:s.size<=1048576) (hp:p<=s.size) (hm:n<=1048576) :
  Calls Tryz.prog 77 #[.pointer (some ⟨b,0,none⟩),.int .i64 n] w fun e w'=>e = .returned (.string (bs (Lk.aH (sl s) n (p,sh)).1))/\bF w' b s (Lk.aH (sl s) n (p,sh)).2.1 (Lk.aH (sl s) n (p,sh)).2.2/\w.grownBy w' (some b):=by
 by_cases hn:n<=s.size - p
 ·exact ypW b s p n sh w h hs hp hn
 ·exact yqS b s p n sh w h hs hp hm (by omega)
theorem yiO (l:List UInt8) (k:Nat) (hk:k < l.length):Lk.num (l.take (k+1))=Lk.num (l.take k)+(l[k].toNat:Int) * (256:Int) ^ k:=by
 rw [List.take_succ_eq_append_getElem hk,Lk.xk,List.length_take_of_le (by omega)];simp [Lk.num,Int.mul_comm]
theorem Ui (k:Nat) (h:k<=4):1<=(256:Int) ^ k/\(256:Int) ^ k<=4294967296:=by
 rcases (show k=0\/k=1\/k=2\/k=3\/k=4 from by omega) with rfl | rfl | rfl | rfl | rfl <;> decide
theorem ypC (part:List UInt8) (k:Nat) (hk:k < part.length) (h4:part.length<=4) (h':k < (bs part).size) :
  wrap64 (Lk.num (part.take k)+wrap64 (wrap64 (((bs part)[k]'h').toNat:Int) * (256:Int) ^ k))=Lk.num (part.take (k+1)):=by
 have b1:=Lk.num_nonneg (part.take k);have b2:=Lk.qF (part.take k);rw [List.length_take_of_le (by omega)] at b2;have b3:=Ui k (by omega);have hts:=yiO part k hk;have e0:(((bs part)[k]'h').toNat:Int)=((part[k]'hk).toNat:Int):=rfl;have hb:((part[k]'hk).toNat:Int) < 256:=by have:=(part[k]'hk).toNat_lt; omega
 rw [e0];generalize hc:((part[k]'hk).toNat:Int)=c at hb hts;have hb0:(0:Int)<=c:=by omega
 have m1:c * (256:Int) ^ k<=255 * 4294967296:=Int.mul_le_mul (by omega) b3.2 (by omega) (by omega);have m0:(0:Int)<=c * (256:Int) ^ k:=Int.mul_nonneg hb0 (by omega);rw [IntWalk.wrap64_in c ⟨by omega,by omega⟩,IntWalk.wrap64_in (c * (256:Int) ^ k) ⟨by omega,by omega⟩,IntWalk.wrap64_in _ ⟨by omega,by omega⟩,hts]
theorem Yh (b:Nat) (s:ByteArray) (p n:Nat) (sh:Bool) (w:World) (h:bF w b s p sh)
  (hs:s.size<=1048576) (hp:p<=s.size) (hm:n<=4) :
  Calls Tryz.prog 78 #[.pointer (some ⟨b,0,none⟩),.int .i64 n] w fun e w'=>e = .returned (.int .i64 (Lk.rdNum (sl s) n (p,sh)).1)/\bF w' b s (Lk.rdNum (sl s) n (p,sh)).2.1 (Lk.rdNum (sl s) n (p,sh)).2.2/\w.grownBy w' (some b):=by
 have c:=YW b s p n sh w h hs hp (by omega);unfold Lk.rdNum;have hl:(Lk.aH (sl s) n (p,sh)).1.length<=4:=by
  unfold Lk.aH;split
  ·simp; omega
  ·simp
 generalize Lk.aH (sl s) n (p,sh)=r at c hl;obtain ⟨part,st⟩:=r;simp only at c hl ⊢;clear h;have C:=hid c;clear c;go_enter Tryz.func78,Tryz.ntmps78;go_wp2_with fail;refine C.o.mono ?_;rintro e w' ⟨rfl,hr,hg⟩;have R:Hd (bF w' b s st.1 st.2/\w.grownBy w' (some b)):=⟨hr,hg⟩
 clear hr hg C;go_wp2_with fail;have hz:=zh part
 go_loop [6,7,8] (fun t u i=>∃ k:Nat,k<=part.length/\i = .int .i64 k/\u = .int .i64 ((256:Int) ^ k)/\t = .int .i64 (Lk.num (part.take k))) (fun _ _ i=>part.length - (intOf i).toNat)
 case atStart=>exact ⟨0,Nat.zero_le _,rfl,rfl,rfl⟩
 case round =>
  obtain ⟨k,hk,rfl,rfl,rfl⟩:=hrel;have b1:=Lk.num_nonneg (part.take k);have b2:=Lk.qF (part.take k);rw [List.length_take_of_le hk] at b2;have b3:=Ui k (by omega);by_cases hlt:k < part.length
  ·have hlt':k < (bs part).size:=by omega
   go_wp2
   go_round
   case rel=>exact ⟨k+1,by omega,by go_num,by rw [Int.pow_succ],by rw [ypC part k hlt hl]⟩
   case measure=>simp [intOf]; omega
  ·go_wp2;go_ret;exact ⟨yM (by rw [List.take_of_length_le (by omega)]),R.o.1,R.o.2⟩
theorem Tryz.kN:(Tryz.prog.info? 3).map (fun i=>(i.zero,i.size,i.bytes))=some (some (.int .i64 0),1,8):=by kernel_rfl
theorem Tryz.xR:(Tryz.prog.info? 100).map (fun i=>(i.zero,i.size,i.bytes))=some (some (.agg #[.string ⟨#[]⟩,.int .i64 0,.int .i64 0,.int .i64 0]),4,40):=by kernel_rfl
theorem Tryz.sZ:(Tryz.prog.info? 102).map (fun i=>(i.zero,i.size,i.bytes))=some (some (.agg #[.int .i64 0,.int .i64 0,.int .i64 0,.int .i64 0,.int .i64 0]),5,40):=by kernel_rfl
theorem JZ (l:List UInt8) (n:Nat) (st:Lk.St) (h:st.1<=l.length):(Lk.aH l n st).2.1<=l.length:=by
 unfold Lk.aH; split <;> simp <;> omega
theorem yC (l:List UInt8) (n:Nat) (st:Lk.St) (h:st.1<=l.length):(Lk.rdNum l n st).2.1<=l.length:=JZ l n st h
theorem Gp {w wr w1:World} {b:Nat} {row:Option Nat} (h:w.grownBy wr (some b)) (k:wr.grownBy w1 row) (hr:∀ g,row=some g->w.heap.size<=g):w.grownBy w1 (some b) :=
 ⟨k.os.trans h.os,k.tape.trans h.tape,k.output.trans h.output,Nat.le_trans h.size k.size,fun i hi hn =>
  (k.block i (Nat.lt_of_lt_of_le hi h.size) (fun e=>by have:=hr i e.symm; omega)).trans (h.block i hi hn)⟩
theorem Zr {w wr w1:World} {o:Obj} {b:Nat} {s:ByteArray} {p:Nat} {sh:Bool} {row:Option Nat} (hb:b < w.heap.size) (hg:w.grownBy wr (some b)) (hr:bF wr b s p sh) (hk:(wr.alloc o).grownBy w1 row) (hrow:∀ g,row=some g->w.heap.size<=g) :
  bF w1 b s p sh/\w.grownBy w1 (some b):=by
 have h1:wr.grownBy (wr.alloc o) none:=aJ wr o none;refine ⟨(hr.grown h1 (by simp)).grown hk (fun e=>by have:=hrow b e.symm; omega),?_⟩;exact Gp (Gp hg h1 (by simp)) hk hrow
theorem JU {w w':World} {base:Nat} {e:TypeId} {size:Nat} {v:Value} {n:Nat} {xs:List Value} {b:Nat} (h:w.ownsRow base e size v n xs) (hb:b < base) (hg:w.grownBy w' (some b)):w'.ownsRow base e size v n xs :=
 h.kept hg (by
  cases hv:v.ownBlock with
  | none=>exact .inl rfl
  | some g=>right; have:=(h.lt g hv).1; simp; omega)
theorem ylr (l:List UInt8) (n:Nat) (st:Lk.St) (h:n<=4):0<=(Lk.rdNum l n st).1/\(Lk.rdNum l n st).1 < 4294967296:=by
 unfold Lk.rdNum;have h1:=Lk.num_nonneg (Lk.aH l n st).1;have h2:=Lk.qF (Lk.aH l n st).1;have hl:(Lk.aH l n st).1.length<=4:=by
  unfold Lk.aH;split
  ·simp; omega
  ·simp
 have:=Ui _ hl
 exact ⟨h1,by omega⟩
theorem yhl (b:Nat) (s:ByteArray) (p count size:Nat) (sh:Bool) (w:World) (h:bF w b s p sh)
  (hs:s.size<=1048576) (hp:p<=s.size) (hc:count<=65535) (hm:size<=4) :
  Calls Tryz.prog 79 #[.pointer (some ⟨b,0,none⟩),.int .i64 count,.int .i64 size] w fun e w'=>∃ v,e = .returned v /\
   w'.ownsRow w.heap.size 3 1 v (Lk.aP (sl s) size count (p,sh)).1.length ((Lk.aP (sl s) size count (p,sh)).1.map (Value.int .i64)) /\
   bF w' b s (Lk.aP (sl s) size count (p,sh)).2.1 (Lk.aP (sl s) size count (p,sh)).2.2/\w.grownBy w' (some b):=by
 obtain ⟨i0,hi,hz0,hz1,hz2⟩:=info_parts Tryz.kN;have hb:=h.lt;have H:=hid h;clear h;go_enter Tryz.func79,Tryz.ntmps79;go_wp2_with fail
 go_loopw [7,8] (fun v i wr=>∃ (k:Nat) (acc:List Int) (st:Lk.St),k<=count/\i = .int .i64 k/\acc.length=k/\st.1<=s.size /\
   wr.ownsRow w.heap.size 3 1 v acc.length (acc.map (Value.int .i64))/\bF wr b s st.1 st.2/\w.grownBy wr (some b) /\
   Lk.aP (sl s) size count (p,sh)=(acc ++ (Lk.aP (sl s) size (count - k) st).1,(Lk.aP (sl s) size (count - k) st).2)) (fun _ i _=>count - (intOf i).toNat)
 case atStart=>exact ⟨0,[],(p,sh),Nat.zero_le _,rfl,rfl,hp,World.ownsRow_nil _ _ _ _,H.o,World.grownBy.refl _ _,by simp⟩
 case round =>
  obtain ⟨k,acc,st,hk,rfl,hacc,hst,hown,hrd,hgr,heq⟩:=hrel;have HE:=hid heq;have HA:=hid hacc;clear heq;by_cases hlt:k < count
  ·cases hsh:st.2
   ·rw [hsh] at hrd;have hsu:count - k=(count - (k+1))+1:=by omega
    have hnb:=ylr (sl s) size (st.1,false) hm;have hle:=yC (sl s) size (st.1,false) (by rw [yq]; exact hst);have cN:=hid (Yh b s st.1 size false wr hrd hs hst hm);have HN:=hid (show Lk.aP (sl s) size (count - k) st=((Lk.rdNum (sl s) size (st.1,false)).1 :: (Lk.aP (sl s) size (count - (k+1)) (Lk.rdNum (sl s) size (st.1,false)).2).1,(Lk.aP (sl s) size (count - (k+1)) (Lk.rdNum (sl s) size (st.1,false)).2).2) from by
     rw [hsu];have e:st=(st.1,false):=Prod.ext rfl hsh;rw [e]; rfl)
    rw [yq] at hle;clear hsu hsh;generalize Lk.rdNum (sl s) size (st.1,false)=r at *;obtain ⟨x,st'⟩:=r;simp only at cN HN hnb hle;have k2:=hrd.c2;have HR:=hid hrd;clear hrd;have BJ:acc.length<=65535:=by omega
    go_wp2_with fail;refine cN.o.mono ?_;rintro e w2 ⟨rfl,u6,iD⟩;have hown2:=JU hown hb iD;have qw:=ya hgr iD;have HR2:=hid u6;have HG2:=hid qw;have hsz:=qw.size;clear u6 iD qw hown hgr HR k2 cN;go_wp2_with (at_builtin; refine wpList_append_own _ rfl _ _ 35 rfl w.heap.size 3 i0 (.int .i64 0) 1 8 Tryz.underlying35 hi hz0 hz1 hz2 rfl (by decide) _ _ _ rfl (hown2.alloc _) ⟨w2.heap.size,0,none⟩ 1 1 [.int .i64 x] rfl rfl (cell_one_new _ _ _) (by intro u hu; simp at hu; subst hu; rfl) (by unfold maxLen; omega) (by omega) (by simp; omega) ?_; intro v' w3 hown' hgrow _)
    have K:=Zr hb HG2.o HR2.o hgrow (fun g hg=>(hown2.lt g hg).1);clear hgrow hown2;go_wp2
    go_roundw
    case rel =>
     refine ⟨k+1,acc ++ [x],st',by omega,by go_num,by simp [HA.o],hle,?_,K.1,K.2,?_⟩
     ·simpa using hown'
     ·rw [HE.o,HN.o]; simp
    case measure=>simp [intOf]; omega
   ·rw [hsh] at hrd;have hfin:Lk.aP (sl s) size count (p,sh)=(acc,(st.1,true)):=by
     have hsu:count - k=(count - (k+1))+1:=by omega
     rw [HE.o,hsu];have e:st=(st.1,true):=Prod.ext rfl hsh;rw [e];simp [Lk.aP]
    have HF:=hid hfin;clear hfin hsh HE;have k2:=hrd.c2;have HR:=hid hrd;clear hrd;go_wp2;go_ret;rw [HF.o];exact ⟨_,rfl,hown,HR.o,hgr⟩
  ·have hfin:Lk.aP (sl s) size count (p,sh)=(acc,st):=by
    have hsu:count - k=0:=by omega
    rw [HE.o,hsu];simp [Lk.aP]
   have HF:=hid hfin;clear hfin HE;have HR:=hid hrd;clear hrd;have hd:decide ((k:Int) < (count:Int))=false:=by simp; omega
   go_wp2;go_ret;rw [HF.o];exact ⟨_,rfl,hown,HR.o,hgr⟩
def yc (w:World) (g:Nat) (cs:Array Value) (t:TypeId):Prop:=w.heap[g]?=some (.cells cs t (0,0))
section
variable {w w':World} {g:Nat} {cs:Array Value} {t:TypeId}
theorem yc.lt (h:yc w g cs t):g < w.heap.size:=(Array.getElem?_eq_some_iff.1 h).1
theorem yc.cell (h:yc w g cs t) (o:Nat):w.cell? ⟨g,o,none⟩=cs[o]?:=by simp [World.cell?,show w.heap[g]?=_ from h]
theorem yc.free (h:yc w g cs t) (o:Nat):w.frozen? ⟨g,o,none⟩=false:=by simp [World.frozen?,show w.heap[g]?=_ from h]
theorem yc.set (h:yc w g cs t) (o:Nat) (v:Value):yc (w.setCell ⟨g,o,none⟩ v) g (cs.setIfInBounds o v) t:=Nf h v
theorem yc.grown (h:yc w g cs t) {row:Option Nat} (hg:w.grownBy w' row) (hne:some g≠row):yc w' g cs t:=(hg.block g h.lt hne).trans h
theorem yc.new (w:World) (cs:Array Value) (t:TypeId):yc (w.alloc (.cells cs t)) w.heap.size cs t:=heap_alloc_new w _
theorem yc.drewN (h:yc w g cs t) (n:Nat):yc (w.drewN n) g cs t:=by unfold yc; rw [XI]; exact h
end
theorem Calls.aL {P:Program} {f:Nat} {args:Array Value} {w:World} {K:Ending->World->Prop} (R:World->Prop) (hR:R w) (h:∀ w,R w->Calls P f args w K):Calls P f args w K:=h w hR
structure qO (w:World) (b:Nat) (s:ByteArray) (t:TypeId) (zs:Array Value) (p:Nat) (sh:Bool) (cs:Array Value) (W:World):Prop where
 rd:bF W b s p sh
 own:yc W (w.heap.size+1) cs t
 res:yc W w.heap.size zs t
 gr:w.grownBy W (some b)
section
variable {w W W':World} {b:Nat} {s:ByteArray} {t:TypeId} {zs cs:Array Value} {p p':Nat} {sh sh':Bool}
theorem qO.begin (h:bF w b s p sh):qO w b s t zs p sh cs ((w.alloc (.cells zs t)).alloc (.cells cs t)):=by
 refine ⟨(h.grown (aJ w _ none) (by simp)).grown (aJ _ _ none) (by simp),?_,?_,?_⟩
 ·have:=yc.new (w.alloc (.cells zs t)) cs t
  simpa using this
 ·exact (yc.new w zs t).grown (aJ _ _ none) (by simp)
 ·exact ya (aJ _ _ _) (aJ _ _ _)
theorem qO.call (h:qO w b s t zs p sh cs W) (hb:b < w.heap.size) (hr:bF W' b s p' sh') (hg:W.grownBy W' (some b)):qO w b s t zs p' sh' cs W' :=
 ⟨hr,h.own.grown hg (by simp; omega),h.res.grown hg (by simp; omega),ya h.gr hg⟩
theorem qO.store (h:qO w b s t zs p sh cs W) (hb:b < w.heap.size) (o:Nat) (v:Value):qO w b s t zs p sh (cs.setIfInBounds o v) (W.setCell ⟨w.heap.size+1,o,none⟩ v) :=
 ⟨h.rd.grown (ye W (w.heap.size+1) o v) (by simp; omega),h.own.set o v,h.res.grown (ye W (w.heap.size+1) o v) (by simp),Gp h.gr (ye W (w.heap.size+1) o v) (by simp)⟩
theorem qO.put (h:qO w b s t zs p sh cs W) (hb:b < w.heap.size) (o:Nat) (v:Value):qO w b s t (zs.setIfInBounds o v) p sh cs (W.setCell ⟨w.heap.size,o,none⟩ v) :=
 ⟨h.rd.grown (ye W w.heap.size o v) (by simp; omega),h.own.grown (ye W w.heap.size o v) (by simp),h.res.set o v,Gp h.gr (ye W w.heap.size o v) (by simp)⟩
end
theorem yJ (b:Nat) (s:ByteArray) (p n:Nat) (m:Int) (hmn:m=(n:Int)) (sh:Bool) (w:World) (h:bF w b s p sh)
  (hs:s.size<=1048576) (hp:p<=s.size) (hm:n<=4) :
  Calls Tryz.prog 78 #[.pointer (some ⟨b,0,none⟩),.int .i64 m] w fun e w'=>e = .returned (.int .i64 (Lk.rdNum (sl s) n (p,sh)).1)/\bF w' b s (Lk.rdNum (sl s) n (p,sh)).2.1 (Lk.rdNum (sl s) n (p,sh)).2.2/\w.grownBy w' (some b):=by
 subst hmn; exact Yh b s p n sh w h hs hp hm
theorem JW (b:Nat) (s:ByteArray) (p n:Nat) (m:Int) (hmn:m=(n:Int)) (sh:Bool) (w:World) (h:bF w b s p sh)
  (hs:s.size<=1048576) (hp:p<=s.size) (hm:n<=1048576) :
  Calls Tryz.prog 77 #[.pointer (some ⟨b,0,none⟩),.int .i64 m] w fun e w'=>e = .returned (.string (bs (Lk.aH (sl s) n (p,sh)).1))/\bF w' b s (Lk.aH (sl s) n (p,sh)).2.1 (Lk.aH (sl s) n (p,sh)).2.2/\w.grownBy w' (some b):=by
 subst hmn; exact YW b s p n sh w h hs hp hm
theorem ypJ (a d:Nat):(256:Int) ^ a<=(256:Int) ^ (a+d):=by
 induction d with
 | zero=>simp
 | succ d ih =>
  have h1:=Int.pow_succ (256:Int) (a+d);have hp:(0:Int) < 256 ^ (a+d):=Int.pow_pos (by decide);rw [<- Nat.add_assoc,h1];omega
theorem yP (l:List UInt8) (n:Nat) (st:Lk.St):0<=(Lk.rdNum l n st).1/\(Lk.rdNum l n st).1 < (256:Int) ^ n:=by
 unfold Lk.rdNum;refine ⟨Lk.num_nonneg _,?_⟩;have h2:=Lk.qF (Lk.aH l n st).1;have hl:(Lk.aH l n st).1.length<=n:=by
  unfold Lk.aH;split
  ·simp; omega
  ·simp
 have hm:=ypJ (Lk.aH l n st).1.length (n - (Lk.aH l n st).1.length);rw [Nat.add_sub_cancel' hl] at hm;omega
theorem yhZ (b:Nat) (s:ByteArray) (p:Nat) (sh:Bool) (w:World) (h:bF w b s p sh)
  (hs:s.size<=1048576) (hp:p<=s.size) :
  Calls Tryz.prog 223 #[.pointer (some ⟨b,0,none⟩)] w fun e w' =>
   e = .returned (.agg #[.string (bs (Lk.dO (sl s) (p,sh)).1.name),.int .i64 (Lk.dO (sl s) (p,sh)).1.bind,.int .i64 (Lk.dO (sl s) (p,sh)).1.ah,.int .i64 (Lk.dO (sl s) (p,sh)).1.off]) /\
   bF w' b s (Lk.dO (sl s) (p,sh)).2.1 (Lk.dO (sl s) (p,sh)).2.2/\w.grownBy w' (some b):=by
 have hb:=h.lt;have hlen:=yq s;unfold Lk.dO;simp only;have ba:=yP (sl s) 1 (p,sh);have la:=yC (sl s) 1 (p,sh) (by rw [hlen]; exact hp);have c1:=fun W h=>yJ b s p 1 1 rfl sh W h hs hp (by omega)
 generalize Lk.rdNum (sl s) 1 (p,sh)=a at *;obtain ⟨len,p1,s1⟩:=a;rw [hlen] at la;simp only [Int.reducePow] at *;have lt:=JZ (sl s) len.toNat (p1,s1) (by rw [hlen]; exact la)
 have c2:=fun W h=>JW b s p1 len.toNat len (by omega) s1 W h hs la (by omega)
 generalize Lk.aH (sl s) len.toNat (p1,s1)=t at *;obtain ⟨name,p2,s2⟩:=t;rw [hlen] at lt;simp only at *;have lb:=yC (sl s) 1 (p2,s2) (by rw [hlen]; exact lt);have c3:=fun W h=>yJ b s p2 1 1 rfl s2 W h hs lt (by omega)
 generalize Lk.rdNum (sl s) 1 (p2,s2)=x3 at *;obtain ⟨bind,p3,s3⟩:=x3;rw [hlen] at lb;simp only at *;have lc:=yC (sl s) 1 (p3,s3) (by rw [hlen]; exact lb);have c4:=fun W h=>yJ b s p3 1 1 rfl s3 W h hs lb (by omega)
 generalize Lk.rdNum (sl s) 1 (p3,s3)=x4 at *;obtain ⟨ah,p4,s4⟩:=x4;rw [hlen] at lc;simp only at *;have c5:=fun W h=>yJ b s p4 2 2 rfl s4 W h hs lc (by omega)
 generalize Lk.rdNum (sl s) 2 (p4,s4)=x5 at *;obtain ⟨off,p5,s5⟩:=x5;simp only at *;replace c1:=hid c1;replace c2:=hid c2;replace c3:=hid c3;replace c4:=hid c4;replace c5:=hid c5;have H:=hid h;clear h hlen;go_enter Tryz.func223,Tryz.ntmps223;go_wp2_with fail;refine Calls.aL (qO w b s 100 #[.string ⟨#[]⟩,.int .i64 0,.int .i64 0,.int .i64 0] p sh #[.string ⟨#[]⟩,.int .i64 0,.int .i64 0,.int .i64 0]) (qO.begin H.o) ?_;intro W1 h1;refine (c1.o W1 h1.rd).mono ?_;rintro e W2 ⟨rfl,r2,q2⟩;have S2:=hid (h1.call hb r2 q2);clear r2 q2 h1;go_wp2_with fail;refine (c2.o W2 S2.o.rd).mono ?_;rintro e W3 ⟨rfl,r3,q3⟩
 have S3:=hid (S2.o.call hb r3 q3);have k3:=S3.o.own.cell 0;have f3:=S3.o.own.free 0;clear r3 q3 S2;go_wp2_with fail;refine Calls.aL (qO w b s 100 #[.string ⟨#[]⟩,.int .i64 0,.int .i64 0,.int .i64 0] p2 s2 #[.string (bs name),.int .i64 0,.int .i64 0,.int .i64 0]) (S3.o.store hb 0 _) ?_;clear k3 f3 S3 W3;intro W3 h3;refine (c3.o W3 h3.rd).mono ?_;rintro e W4 ⟨rfl,r4,q4⟩;have S4:=hid (h3.call hb r4 q4);have k4:=S4.o.own.cell 1;have f4:=S4.o.own.free 1;clear r4 q4 h3;go_wp2_with fail;refine Calls.aL (qO w b s 100 #[.string ⟨#[]⟩,.int .i64 0,.int .i64 0,.int .i64 0] p3 s3 #[.string (bs name),.int .i64 bind,.int .i64 0,.int .i64 0]) (S4.o.store hb 1 _) ?_
 clear k4 f4 S4 W4;intro W4 h4;refine (c4.o W4 h4.rd).mono ?_;rintro e W5 ⟨rfl,r5,q5⟩;have S5:=hid (h4.call hb r5 q5);have k5:=S5.o.own.cell 2;have f5:=S5.o.own.free 2;clear r5 q5 h4;go_wp2_with fail;refine Calls.aL (qO w b s 100 #[.string ⟨#[]⟩,.int .i64 0,.int .i64 0,.int .i64 0] p4 s4 #[.string (bs name),.int .i64 bind,.int .i64 ah,.int .i64 0]) (S5.o.store hb 2 _) ?_;clear k5 f5 S5 W5;intro W5 h5;refine (c5.o W5 h5.rd).mono ?_;rintro e W6 ⟨rfl,r6,q6⟩;have S6:=hid (h5.call hb r6 q6);have k60:=S6.o.own.cell 0;have k61:=S6.o.own.cell 1;have k62:=S6.o.own.cell 2;have k63:=S6.o.own.cell 3;have f63:=S6.o.own.free 3
 have m60:=S6.o.res.cell 0;have m61:=S6.o.res.cell 1;have m62:=S6.o.res.cell 2;have m63:=S6.o.res.cell 3;have n60:=S6.o.res.free 0;have n61:=S6.o.res.free 1;have n62:=S6.o.res.free 2;have n63:=S6.o.res.free 3;clear r6 q6 h5;go_wp2;have F:=((((S6.o.store hb 3 (.int .i64 off)).put hb 0 (.string (bs name))).put hb 1 (.int .i64 bind)).put hb 2 (.int .i64 ah)).put hb 3 (.int .i64 off);refine bodyPost_ret (v:=.agg #[.string (bs name),.int .i64 bind,.int .i64 ah,.int .i64 off]) ?_ rfl ⟨rfl,F.rd,F.gr⟩;have e0:=F.res.cell 0;have e1:=F.res.cell 1;have e2:=F.res.cell 2;have e3:=F.res.cell 3;clear S6 k60 k61 k62 k63 f63 m60 m61 m62 m63 n60 n61 n62 n63
 generalize World.setCell _ _ _=WF at *;simp [results,Tryz.results223,go_sem,e0,e1,e2,e3]
theorem yiR (b:Nat) (s:ByteArray) (p:Nat) (sh:Bool) (w:World) (h:bF w b s p sh)
  (hs:s.size<=1048576) (hp:p<=s.size) :
  Calls Tryz.prog 224 #[.pointer (some ⟨b,0,none⟩)] w fun e w' =>
   e = .returned (.agg #[.int .i64 (Lk.dL (sl s) (p,sh)).1.ah,.int .i64 (Lk.dL (sl s) (p,sh)).1.off,.int .i64 (Lk.dL (sl s) (p,sh)).1.kind,.int .i64 (Lk.dL (sl s) (p,sh)).1.sym,.int .i64 (Lk.dL (sl s) (p,sh)).1.addend]) /\
   bF w' b s (Lk.dL (sl s) (p,sh)).2.1 (Lk.dL (sl s) (p,sh)).2.2/\w.grownBy w' (some b):=by
 have hb:=h.lt;have hlen:=yq s;unfold Lk.dL;simp only;have l1:=yC (sl s) 1 (p,sh) (by rw [hlen]; exact hp);have b1:=yP (sl s) 1 (p,sh);have c1:=fun W h=>yJ b s p 1 1 rfl sh W h hs hp (by omega)
 generalize Lk.rdNum (sl s) 1 (p,sh)=x1 at *;obtain ⟨ah,p1,s1⟩:=x1;rw [hlen] at l1;simp only [Int.reducePow] at *;have l2:=yC (sl s) 1 (p1,s1) (by rw [hlen]; exact l1);have b2:=yP (sl s) 1 (p1,s1);have c2:=fun W h=>yJ b s p1 1 1 rfl s1 W h hs l1 (by omega)
 generalize Lk.rdNum (sl s) 1 (p1,s1)=x2 at *;obtain ⟨kind,p2,s2⟩:=x2;rw [hlen] at l2;simp only [Int.reducePow] at *;have l3:=yC (sl s) 2 (p2,s2) (by rw [hlen]; exact l2);have b3:=yP (sl s) 2 (p2,s2);have c3:=fun W h=>yJ b s p2 2 2 rfl s2 W h hs l2 (by omega)
 generalize Lk.rdNum (sl s) 2 (p2,s2)=x3 at *;obtain ⟨off,p3,s3⟩:=x3;rw [hlen] at l3;simp only [Int.reducePow] at *;have l4:=yC (sl s) 1 (p3,s3) (by rw [hlen]; exact l3);have b4:=yP (sl s) 1 (p3,s3);have c4:=fun W h=>yJ b s p3 1 1 rfl s3 W h hs l3 (by omega)
 generalize Lk.rdNum (sl s) 1 (p3,s3)=x4 at *;obtain ⟨sym,p4,s4⟩:=x4;rw [hlen] at l4;simp only [Int.reducePow] at *;have b5:=yP (sl s) 2 (p4,s4);have c5:=fun W h=>yJ b s p4 2 2 rfl s4 W h hs l4 (by omega)
 generalize Lk.rdNum (sl s) 2 (p4,s4)=x5 at *;obtain ⟨add,p5,s5⟩:=x5;simp only [Int.reducePow] at *;replace c1:=hid c1;replace c2:=hid c2;replace c3:=hid c3;replace c4:=hid c4;replace c5:=hid c5;have H:=hid h;clear h hlen;go_enter Tryz.func224,Tryz.ntmps224;go_wp2_with fail;refine Calls.aL (qO w b s 102 #[.int .i64 0,.int .i64 0,.int .i64 0,.int .i64 0,.int .i64 0] p sh #[.int .i64 0,.int .i64 0,.int .i64 0,.int .i64 0,.int .i64 0]) (qO.begin H.o) ?_;intro W1 h1;refine (c1.o W1 h1.rd).mono ?_;rintro e V1 ⟨rfl,r1,q1⟩;have S1:=hid (h1.call hb r1 q1);have k1:=S1.o.own.cell 0;have f1:=S1.o.own.free 0
 clear r1 q1 h1;go_wp2_with fail;refine Calls.aL (qO w b s 102 #[.int .i64 0,.int .i64 0,.int .i64 0,.int .i64 0,.int .i64 0] p1 s1 #[.int .i64 ah,.int .i64 0,.int .i64 0,.int .i64 0,.int .i64 0]) (S1.o.store hb 0 _) ?_;clear k1 f1 S1 V1;intro W2 h2;refine (c2.o W2 h2.rd).mono ?_;rintro e V2 ⟨rfl,r2,q2⟩;have S2:=hid (h2.call hb r2 q2);have k2:=S2.o.own.cell 2;have f2:=S2.o.own.free 2;clear r2 q2 h2;go_wp2_with fail;refine Calls.aL (qO w b s 102 #[.int .i64 0,.int .i64 0,.int .i64 0,.int .i64 0,.int .i64 0] p2 s2 #[.int .i64 ah,.int .i64 0,.int .i64 kind,.int .i64 0,.int .i64 0]) (S2.o.store hb 2 _) ?_
 clear k2 f2 S2 V2;intro W3 h3;refine (c3.o W3 h3.rd).mono ?_;rintro e V3 ⟨rfl,r3,q3⟩;have S3:=hid (h3.call hb r3 q3);have k3:=S3.o.own.cell 1;have f3:=S3.o.own.free 1;clear r3 q3 h3;go_wp2_with fail;refine Calls.aL (qO w b s 102 #[.int .i64 0,.int .i64 0,.int .i64 0,.int .i64 0,.int .i64 0] p3 s3 #[.int .i64 ah,.int .i64 off,.int .i64 kind,.int .i64 0,.int .i64 0]) (S3.o.store hb 1 _) ?_;clear k3 f3 S3 V3;intro W4 h4;refine (c4.o W4 h4.rd).mono ?_;rintro e V4 ⟨rfl,r4,q4⟩;have S4:=hid (h4.call hb r4 q4);have k4:=S4.o.own.cell 3;have f4:=S4.o.own.free 3;clear r4 q4 h4;go_wp2_with fail;refine Calls.aL (qO w b s 102 #[.int .i64 0,.int .i64 0,.int .i64 0,.int .i64 0,.int .i64 0] p4 s4 #[.int .i64 ah,.int .i64 off,.int .i64 kind,.int .i64 sym,.int .i64 0]) (S4.o.store hb 3 _) ?_
 clear k4 f4 S4 V4;intro W5 h5;refine (c5.o W5 h5.rd).mono ?_;rintro e V5 ⟨rfl,r5,q5⟩;have S5:=hid (h5.call hb r5 q5);clear r5 q5 h5;have k0:=S5.o.own.cell 0;have k1:=S5.o.own.cell 1;have k2:=S5.o.own.cell 2;have k3:=S5.o.own.cell 3;have k4:=S5.o.own.cell 4;have f4:=S5.o.own.free 4;have m0:=S5.o.res.cell 0;have n0:=S5.o.res.free 0;have m1:=S5.o.res.cell 1;have n1:=S5.o.res.free 1;have m2:=S5.o.res.cell 2;have n2:=S5.o.res.free 2;have m3:=S5.o.res.cell 3;have n3:=S5.o.res.free 3;have m4:=S5.o.res.cell 4;have n4:=S5.o.res.free 4;by_cases hge:32768<=add
 ·have HG:=hid (show Lk.Aq add=(add - 65536) from by unfold Lk.Aq; rw [if_pos hge]);go_wp2;have F:=((((((S5.o.store hb 4 (.int .i64 add)).store hb 4 (.int .i64 (add - 65536))).put hb 0 (.int .i64 ah)).put hb 1 (.int .i64 off)).put hb 2 (.int .i64 kind)).put hb 3 (.int .i64 sym)).put hb 4 (.int .i64 (add - 65536));refine bodyPost_ret (v:=.agg #[.int .i64 ah,.int .i64 off,.int .i64 kind,.int .i64 sym,.int .i64 (add - 65536)]) ?_ rfl ⟨by rw [HG.o],F.rd,F.gr⟩;have e0:=F.res.cell 0;have e1:=F.res.cell 1;have e2:=F.res.cell 2;have e3:=F.res.cell 3;have e4:=F.res.cell 4;clear S5 k0 k1 k2 k3 k4 f4 m0 m1 m2 m3 m4 n0 n1 n2 n3 n4
  generalize World.setCell _ _ _=WF at *;simp [results,Tryz.results224,go_sem,e0,e1,e2,e3,e4]
 ·have HG:=hid (show Lk.Aq add=add from by unfold Lk.Aq; rw [if_neg hge]);go_wp2;have F:=(((((S5.o.store hb 4 (.int .i64 add)).put hb 0 (.int .i64 ah)).put hb 1 (.int .i64 off)).put hb 2 (.int .i64 kind)).put hb 3 (.int .i64 sym)).put hb 4 (.int .i64 add);refine bodyPost_ret (v:=.agg #[.int .i64 ah,.int .i64 off,.int .i64 kind,.int .i64 sym,.int .i64 add]) ?_ rfl ⟨by rw [HG.o],F.rd,F.gr⟩;have e0:=F.res.cell 0;have e1:=F.res.cell 1;have e2:=F.res.cell 2;have e3:=F.res.cell 3;have e4:=F.res.cell 4;clear S5 k0 k1 k2 k3 k4 f4 m0 m1 m2 m3 m4 n0 n1 n2 n3 n4;generalize World.setCell _ _ _=WF at *;simp [results,Tryz.results224,go_sem,e0,e1,e2,e3,e4]
end Go.Proofs.YtpgklkhgfcjceaaGreatDoor
