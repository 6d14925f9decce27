
import Derived.Test.YtpgklkhgfcjceaaGreatDoorU01
import Derived.KernelRfl
import Derived.OrdersHeld
import Derived.Test.YtpgklkhgfcjceaaGreatDoorRows
import Derived.WalkKit
import Derived.WalkSpells
import Derived.WalkLawsBesides
import Derived.Deep.QuietTactic
import Derived.BigQuiet
import Derived.Lib.Strings
set_option maxHeartbeats 16000000
set_option maxRecDepth 100000
namespace Go.Proofs.YtpgklkhgfcjceaaGreatDoor
namespace At
open As
inductive It where
 | tok (b k:Nat) (t:List UInt8) (n:Nat)
 | nl
def spell:It->List UInt8
 | .tok b _ t _=>List.replicate b 32 ++ t
 | .nl=>[10]
def spells (l:List It):List UInt8:=l.flatMap spell
def nL:It->Bool
 | .nl=>true
 | _=>false
def blanks:Option It->Nat
 | some (.tok b _ _ _)=>b
 | _=>0
def jY (k:Nat) (t:List UInt8) (n:Nat):Prop :=
 (k=1/\n=0/\t.all aY=true/\(t.head?.map bA)=some false) \/
 (k=2/\n=dec t/\t.all bA=true/\1<=t.length/\t.length<=10) \/
 (k=3/\n=0/\t.length=1/\t.all kF=true)
instance (k:Nat) (t:List UInt8) (n:Nat):Decidable (jY k t n):=by unfold jY; infer_instance
def gN:It->Prop
 | .tok _ k t n=>jY k t n
 | .nl=>True
instance (i:It):Decidable (gN i):=by cases i <;> unfold gN <;> infer_instance
def apart:List It->Bool
 | .tok _ k _ _ :: .tok b' k' t' n' :: r=>(decide (k=3) || decide (0 < b') || decide (k'=3)) && apart (.tok b' k' t' n' :: r)
 | .tok _ _ _ _ :: .nl :: r=>apart r
 | .nl :: r=>apart r
 | [.tok _ _ _ _]=>true
 | []=>true
def nV (l:List It):Sc where
 next p:=match l[p]? with
  | some (.tok _ k t n)=>(⟨k,p,t,n⟩,(0,0),p+1)
  | _=>(⟨4,p,[],0⟩,(0,0),p)
 le p:=if p+((l.drop p).takeWhile fun i=>!nL i).length < l.length then (true,p+((l.drop p).takeWhile fun i=>!nL i).length+1) else (false,l.length)
def qN (l:List It) (p:Nat):Nat:=(spells (l.take p)).length
def lie (l:List It) (p:Nat):Nat:=qN l p+blanks l[p]?
theorem lJ {c:UInt8} (h:aY c=true):As.blank c=false/\ends c=false/\eY c=true:=by
 unfold aY bA at h;unfold As.blank ends eY;simp only [Bool.or_eq_true,Bool.and_eq_true,decide_eq_true_eq,beq_iff_eq] at h;simp only [Bool.or_eq_false_iff,beq_eq_false_iff_ne,Bool.not_eq_true'];omega
theorem EZ {c:UInt8} (h:bA c=true):As.blank c=false/\ends c=false/\eY c=true/\aY c=true:=by
 have:aY c=true:=by unfold aY; rw [h]; simp
 have q:=lJ this;exact ⟨q.1,q.2.1,q.2.2,this⟩
theorem lG {c:UInt8} (h:kF c=true):As.blank c=false/\ends c=false/\eY c=true/\aY c=false/\bA c=false:=by
 unfold kF at h;simp only [Bool.or_eq_true,beq_iff_eq] at h;unfold As.blank ends eY aY bA;simp only [Bool.or_eq_false_iff,Bool.and_eq_false_iff,beq_eq_false_iff_ne,decide_eq_false_iff_not,Bool.not_eq_true'];omega
theorem wP (b:Nat) (l:List UInt8) (h:(l.head?.map As.blank).getD false=false):(List.replicate b (32:UInt8) ++ l).takeWhile As.blank=List.replicate b 32:=by
 induction b with
 | zero =>
  cases l with
  | nil=>rfl
  | cons c r =>
   have:As.blank c=false:=h
   simp [this]
 | succ b ih =>
  rw [List.replicate_succ,List.cons_append,List.takeWhile_cons];rw [show As.blank 32=true from rfl,if_pos rfl,ih]
theorem wO {f:UInt8->Bool} (t rest:List UInt8) (ha:t.all f=true) (h:(rest.head?.map f).getD false=false):(t ++ rest).takeWhile f=t:=by
 induction t with
 | nil =>
  cases rest with
  | nil=>rfl
  | cons c r =>
   have:f c=false:=h
   simp [this]
 | cons c t ih =>
  rw [List.all_cons,Bool.and_eq_true] at ha;rw [List.cons_append,List.takeWhile_cons,ha.1,if_pos rfl,ih ha.2]
theorem uf (s:List UInt8) (q:Nat):s[q]?=(s.drop q).head?:=by
 rw [List.head?_drop]
theorem DU (s:List UInt8) (p b k n:Nat) (t rest:List UInt8) (hd:s.drop p=List.replicate b 32 ++ (t ++ rest)) (hg:jY k t n) (hr:k=3\/(rest.head?.map aY).getD false=false) :
  As.next s p=(⟨k,p+b,t,n⟩,(0,0),p+b+t.length):=by
 obtain ⟨c,r,rfl⟩:∃ c r,t=c :: r:=by
  cases t with
  | nil=>rcases hg with ⟨-,-,-,h⟩ | ⟨-,-,-,h,-⟩ | ⟨-,-,h,-⟩ <;> simp at h
  | cons c r=>exact ⟨c,r,rfl⟩
 have hb:As.blank c=false:=by
  rcases hg with ⟨-,-,h,-⟩ | ⟨-,-,h,-⟩ | ⟨-,-,-,h⟩ <;> rw [List.all_cons,Bool.and_eq_true] at h
  ·exact (lJ h.1).1
  ·exact (EZ h.1).1
  ·exact (lG h.1).1
 have hq:skip As.blank s p=p+b:=by
  unfold skip;rw [hd,wP b _ (by simpa using hb),List.length_replicate]
 have Od:s.drop (p+b)=(c :: r) ++ rest:=by
  rw [<- List.drop_drop,hd,List.drop_left' (by simp)]
 have hc:s[p+b]?=some c:=by rw [uf,Od]; rfl
 unfold As.next iL;rw [hq,hc];simp only;rcases hg with ⟨rfl,rfl,h,hh⟩ | ⟨rfl,rfl,h,h1,h2⟩ | ⟨rfl,rfl,h1,h⟩
 ·have hc1:aY c=true:=by rw [List.all_cons,Bool.and_eq_true] at h; exact h.1
  have hc2:bA c=false:=by simpa using hh
  rw [(lJ hc1).2.1,hc2,hc1];simp only [Bool.false_eq_true,if_false,if_true];have tk:((c :: r) ++ rest).takeWhile aY=c :: r:=wO _ _ h (by rcases hr with h | h; cases h; exact h);unfold skip;rw [Od,tk]
 ·have hc1:bA c=true:=by rw [List.all_cons,Bool.and_eq_true] at h; exact h.1
  rw [(EZ hc1).2.1,hc1];simp only [Bool.false_eq_true,if_false,if_true];have hrw:(rest.head?.map aY).getD false=false:=by rcases hr with h | h; cases h; exact h
  have hrd:(rest.head?.map bA).getD false=false:=by
   cases rest with
   | nil=>rfl
   | cons x y =>
    have:aY x=false:=hrw
    show bA x=false
    cases hx:bA x with
    | false=>rfl
    | true=>rw [(EZ hx).2.2.2] at this; cases this
  have tk:((c :: r) ++ rest).takeWhile bA=c :: r:=wO _ _ h hrd;have sk:skip bA s (p+b)=p+b+(c :: r).length:=by unfold skip; rw [Od,tk]
  have nx:s[p+b+(c :: r).length]?=rest.head?:=by rw [uf,<- List.drop_drop,Od,List.drop_left' rfl]
  unfold iI;rw [Od,tk,if_neg (by omega),sk,nx,hrw];simp only [Bool.false_eq_true,if_false]
 ·have hc1:kF c=true:=by rw [List.all_cons,Bool.and_eq_true] at h; exact h.1
  obtain ⟨f1,f2,f3,f4,f5⟩:=lG hc1;obtain rfl:r=[]:=by simpa using h1
  rw [f2,f5,f4,hc1];rfl
theorem wD (s:List UInt8) (p:Nat) (hd:s.drop p=[]\/∃ r,s.drop p=10 :: r):As.next s p=(⟨4,p,[],0⟩,(0,0),p):=by
 have hq:skip As.blank s p=p:=by
  unfold skip;rcases hd with h | ⟨r,h⟩ <;> rw [h]
  ·rfl
  ·rw [List.takeWhile_cons,show As.blank 10=false from rfl]; rfl
 unfold As.next iL;rw [hq,uf];rcases hd with h | ⟨r,h⟩ <;> rw [h] <;> rfl
theorem lH (a b:List It):spells (a ++ b)=spells a ++ spells b:=by unfold spells; rw [List.flatMap_append]
theorem mq (i:It) (l:List It):spells (i :: l)=spell i ++ spells l:=rfl
theorem vX (l:List It) (p:Nat):(spells l).drop (qN l p)=spells (l.drop p):=by
 have e:spells l=spells (l.take p) ++ spells (l.drop p):=by rw [<- lH,List.take_append_drop]
 unfold qN
 conv=>lhs; rw [e]
 exact List.drop_left' rfl
theorem vY (l:List It) (p:Nat) (i:It) (h:l[p]?=some i):qN l (p+1)=qN l p+(spell i).length:=by
 unfold qN;rw [List.take_add_one,h,lH,List.length_append];simp [spells]
theorem um (l:List It) (p:Nat) (h:l.length<=p):qN l p=(spells l).length:=by
 unfold qN;rw [List.take_of_length_le h]
theorem drop_cons (l:List It) (p:Nat) (i:It) (h:l[p]?=some i):l.drop p=i :: l.drop (p+1):=by
 obtain ⟨hl,e⟩:=List.getElem?_eq_some_iff.1 h;rw [List.drop_eq_getElem_cons hl,e]
theorem xG:∀ (i:It) (r:List It),apart (i :: r)=true->apart r=true
 | .tok _ _ _ _,.tok _ _ _ _ :: _,h=>by unfold apart at h; rw [Bool.and_eq_true] at h; exact h.2
 | .tok _ _ _ _,.nl :: _,h=>h
 | .tok _ _ _ _,[],_=>rfl
 | .nl,_,h=>h
theorem xD (p:Nat):∀ l:List It,apart l=true->apart (l.drop p)=true:=by
 induction p with
 | zero=>intro l h; exact h
 | succ p ih =>
  intro l h
  cases l with
  | nil=>rfl
  | cons i r=>exact ih r (xG i r h)
theorem xE (b k n:Nat) (t:List UInt8) (r:List It) (h:apart (.tok b k t n :: r)=true) (hg:∀ i∈r,gN i):k=3\/((spells r).head?.map aY).getD false=false:=by
 cases r with
 | nil=>exact .inr rfl
 | cons i r =>
  cases i with
  | nl=>exact .inr rfl
  | tok b' k' t' n' =>
   unfold apart at h;simp only [Bool.and_eq_true,Bool.or_eq_true,decide_eq_true_eq] at h;rcases h.1 with (h | h) | h
   ·exact .inl h
   ·right
    obtain ⟨c,rfl⟩:∃ c,b'=c+1:=⟨b' - 1,by omega⟩
    rfl
   ·right
    have g:jY k' t' n':=hg _ List.mem_cons_self
    cases b' with
    | succ c=>rfl
    | zero =>
     rcases g with ⟨e,-⟩ | ⟨e,-⟩ | ⟨-,-,h1,h2⟩
     ·omega
     ·omega
     ·cases t' with
      | nil=>simp at h1
      | cons c t' =>
       rw [List.all_cons,Bool.and_eq_true] at h2;show aY c=false;exact (lG h2.1).2.2.2.1
theorem zu {k n:Nat} {t:List UInt8} (h:jY k t n):t.all eY=true:=by
 rw [List.all_eq_true];intro c hc;rcases h with ⟨-,-,h,-⟩ | ⟨-,-,h,-⟩ | ⟨-,-,-,h⟩ <;> rw [List.all_eq_true] at h
 ·exact (lJ (h c hc)).2.2
 ·exact (EZ (h c hc)).2.2.1
 ·exact (lG (h c hc)).2.2.1
theorem sJ {f:UInt8->Bool} (a b:List UInt8) (h:a.all f=true):(a ++ b).takeWhile f=a ++ b.takeWhile f:=by
 induction a with
 | nil=>rfl
 | cons c a ih =>
  rw [List.all_cons,Bool.and_eq_true] at h;rw [List.cons_append,List.takeWhile_cons,h.1,if_pos rfl,ih h.2];rfl
theorem AY (m:List It) (hg:∀ i∈m,gN i):(spells m).takeWhile eY=spells (m.takeWhile fun i=>!nL i):=by
 induction m with
 | nil=>rfl
 | cons i m ih =>
  cases i with
  | nl=>rfl
  | tok b k t n =>
   have g:jY k t n:=hg _ List.mem_cons_self;rw [mq,sJ _ _ (by
    show (List.replicate b 32 ++ t).all eY=true;rw [List.all_append,zu g,List.all_replicate];simp [eY]),ih (fun j hj=>hg j (List.mem_cons_of_mem _ hj)),List.takeWhile_cons]
   rfl
theorem Gt (l:List It) (p j:Nat):qN l (p+j)=qN l p+(spells ((l.drop p).take j)).length:=by
 unfold qN;rw [List.take_add,lH,List.length_append]
theorem agree (l:List It) (hg:∀ i∈l,gN i) (ha:apart l=true) (h0:blanks l[0]?=0):Agree (El (spells l)) (nV l) (qN l) (lie l):=by
 refine ⟨?_,fun p=>?_⟩
 ·unfold lie;rw [h0];rfl
 ·show As.next (spells l) (qN l p)=_;have hd:=vX l p
  cases hp:l[p]? with
  | none =>
   have hl:l.length<=p:=List.getElem?_eq_none_iff.1 hp;rw [wD _ _ (.inl (by rw [hd,List.drop_eq_nil_of_le hl]; rfl))];show _=(dU (lie l) ((nV l).next p).1,_,_)
   unfold nV;simp only [hp];unfold dU lie;rw [hp,h0];rfl
  | some i =>
   have hc:=drop_cons l p i hp;have mem:i∈l:=List.mem_of_getElem? hp
   cases i with
   | nl =>
    rw [wD _ _ (.inr ⟨_,by rw [hd,hc,mq]; rfl⟩)];unfold nV;simp only [hp];unfold dU lie;rw [hp,h0];rfl
   | tok b k t n =>
    have g:jY k t n:=hg _ mem;have ap:=xD p l ha;rw [hc] at ap;have hr:=xE b k n t _ ap (fun j hj=>hg j (List.mem_of_mem_drop hj));rw [DU (spells l) (qN l p) b k n t (spells (l.drop (p+1))) (by rw [hd,hc,mq]; show List.replicate b 32 ++ t ++ _=_; rw [List.append_assoc]) g hr];unfold nV;simp only [hp];unfold dU lie;rw [hp,h0,vY l p _ hp];show _=(_,_,qN l p+(List.replicate b (32:UInt8) ++ t).length)
    rw [List.length_append,List.length_replicate,Nat.add_assoc];rfl
theorem CJ (l:List It) (hg:∀ i∈l,gN i) (p:Nat):(El (spells l)).le (qN l p)=(((nV l).le p).1,qN l ((nV l).le p).2):=by
 show As.lineEnd (spells l) (qN l p)=_;have hd:=vX l p;have hgd:∀ i∈l.drop p,gN i:=fun j hj=>hg j (List.mem_of_mem_drop hj)
 obtain ⟨j,hj⟩:∃ j,((l.drop p).takeWhile fun i=>!nL i).length=j:=⟨_,rfl⟩
 have tj:(l.drop p).take j=(l.drop p).takeWhile fun i=>!nL i:=by
  rw [<- hj];exact List.prefix_iff_eq_take.1 (List.takeWhile_prefix _) |>.symm
 have sk:skip eY (spells l) (qN l p)=qN l (p+j):=by
  unfold skip;rw [hd,AY _ hgd,Gt,tj]
 unfold As.lineEnd;rw [sk];unfold nV;simp only [hj];by_cases c:p+j < l.length
 ·have e:l[p+j]?=some .nl:=by
   have h1:(l.drop p)[j]?=l[p+j]?:=List.getElem?_drop;obtain ⟨x,hx⟩:∃ x,l[p+j]?=some x:=⟨_,List.getElem?_eq_getElem c⟩
   have h2:((l.drop p).dropWhile fun i=>!nL i).head?=some x:=by
    have:=List.takeWhile_append_dropWhile (p:=fun i=>!nL i) (l:=l.drop p)
    rw [<- hx,<- h1]
    conv=>rhs; rw [<- this]
    rw [List.getElem?_append_right (by omega),hj,Nat.sub_self,List.head?_eq_getElem?]
   have h3:=List.head?_dropWhile_not (fun i=>!nL i) (l.drop p);rw [h2] at h3
   cases x with
   | nl=>exact hx
   | tok b k t n=>simp [nL] at h3
  have f1:=vY l (p+j) .nl e;have le2:qN l (p+j+1)<=(spells l).length:=by
   have:spells l=spells (l.take (p+j+1)) ++ spells (l.drop (p+j+1)):=by rw [<- lH,List.take_append_drop]
   rw [this,List.length_append];exact Nat.le_add_right _ _
  have s1:(spell It.nl).length=1:=rfl;rw [if_pos c,if_pos (by omega),f1,s1]
 ·rw [if_neg c,if_neg (by rw [um l (p+j) (by omega)]; omega),um l (p+j) (by omega),um l l.length (Nat.le_refl _)]
end At
end Go.Proofs.YtpgklkhgfcjceaaGreatDoor

namespace Go.Proofs.YtpgklkhgfcjceaaGreatDoor
namespace At
open As
theorem CQ (s:List UInt8) (n:Nat):∀ st:St,As.lines s n st=lines (El s) n st:=by
 induction n with
 | zero=>intro st; rfl
 | succ n ih =>
  intro st;have e:As.bG s (As.line s st)=bG (El s) (line (El s) st):=by kernel_rfl
  unfold As.lines lines;rw [e];simp only [ih]
def Bp (L:List It):Sc where
 next p:=match L[p]? with
  | some (.tok _ k t n)=>(⟨k,p+1,t,n⟩,(0,0),p+1)
  | _=>(⟨4,L.length+1,[],0⟩,(0,0),p)
 le p:=(false,p)
def y5 (L:List It):Prop:=∀ i∈L,nL i=false
def bn (L:List It) (s:Nat) (o:Lk.Obj) (s':Nat) (o':Lk.Obj):Prop :=
 y5 L/\∀ (tok op:Tok) (fa:Nat),(line (Bp L) ⟨0,tok,0,fa,op,s,o⟩).fe=0/\(line (Bp L) ⟨0,tok,0,fa,op,s,o⟩).ah=s'/\(line (Bp L) ⟨0,tok,0,fa,op,s,o⟩).obj=o'
theorem Hw (a L c:List It) (p:Nat) (hp:p < L.length):(a ++ (L ++ (.nl :: c)))[a.length+p]?=L[p]?:=by
 rw [List.getElem?_append_right (by omega),Nat.add_sub_cancel_left,List.getElem?_append_left hp]
theorem KH (a L c:List It):(a ++ (L ++ (.nl :: c)))[a.length+L.length]?=some .nl:=by
 rw [List.getElem?_append_right (by omega),Nat.add_sub_cancel_left,List.getElem?_append_right (by omega),Nat.sub_self];rfl
def sD (a L:List It) (u v w q:Nat):Nat:=if q=0 then 0 else if q<=L.length+1 then a.length+(q - 1) else if q=L.length+2 then u else if q=L.length+3 then v else w
theorem Ih (a L:List It) (u v w:Nat):sD a L u v w (L.length+2)=u:=by
 unfold sD;rw [if_neg (by omega),if_neg (by omega),if_pos (by omega)]
theorem Bh (a L:List It) (u v w:Nat):sD a L u v w (L.length+3)=v:=by
 unfold sD;rw [if_neg (by omega),if_neg (by omega),if_neg (by omega),if_pos (by omega)]
theorem Ed (a L:List It) (u v w:Nat):sD a L u v w (L.length+4)=w:=by
 unfold sD;rw [if_neg (by omega),if_neg (by omega),if_neg (by omega),if_neg (by omega)]
theorem xC (a L c:List It) (u v w:Nat) (hn:y5 L):Agree (nV (a ++ (L ++ (.nl :: c)))) (Bp L) (fun p=>a.length+min p L.length) (sD a L u v w):=by
 refine ⟨rfl,fun p=>?_⟩;by_cases hp:p < L.length
 ·have e:=Hw a L c p hp;obtain ⟨i,hi⟩:∃ i,L[p]?=some i:=⟨_,List.getElem?_eq_getElem hp⟩
  have ni:=hn i (List.mem_of_getElem? hi)
  cases i with
  | nl=>cases ni
  | tok b k t n =>
   rw [hi] at e;have m:min p L.length=p:=by omega
   have m2:min (p+1) L.length=p+1:=by omega
   unfold nV Bp;simp only [m,e,hi];unfold dU sD;simp only;rw [if_neg (by omega),if_pos (by omega),m2];rfl
 ·have e:=KH a L c;have m:min p L.length=L.length:=by omega
  have hi:L[p]?=none:=List.getElem?_eq_none_iff.2 (by omega);unfold nV Bp;simp only [m,e,hi];unfold dU sD;simp only;rw [if_neg (by omega),if_pos (by omega)];rfl
theorem He (a L c:List It) (hn:y5 L) (st:St) (hp:st.p=a.length) (hf:st.fe=0) :
  ∃ tok op fa f g,line (nV (a ++ (L ++ (.nl :: c)))) st=aD f g (line (Bp L) ⟨0,tok,0,fa,op,st.ah,st.obj⟩)/\∀ p,∃ q,q<=L.length/\f p=a.length+q:=by
 have A:=xC a L c st.tok.pos st.op.pos st.fa hn;refine ⟨⟨st.tok.kind,L.length+2,st.tok.text,st.tok.n⟩,⟨st.op.kind,L.length+3,st.op.text,st.op.n⟩,L.length+4,fun p=>a.length+min p L.length,sD a L st.tok.pos st.op.pos st.fa,?_,fun p=>⟨min p L.length,by omega,rfl⟩⟩;rw [<- Du A]
 congr 1
 obtain ⟨p,tok,fe,fa,op,ah,obj⟩:=st;simp only at hp hf;subst hp hf;unfold aD dU;simp only [Nat.zero_min,Nat.add_zero,Ih,Bh,Ed]
theorem Oq (a L c:List It) (hn:y5 L) (q:Nat) (hq:q<=L.length):(nV (a ++ (L ++ (.nl :: c)))).le (a.length+q)=(true,(a ++ (L ++ [It.nl])).length):=by
 have e:((a ++ (L ++ (.nl :: c))).drop (a.length+q)).takeWhile (fun i=>!nL i)=L.drop q:=by
  rw [<- List.drop_drop,List.drop_left' rfl,List.drop_append_of_le_length hq]
  have:∀ M:List It,y5 M->(M ++ (.nl :: c)).takeWhile (fun i=>!nL i)=M:=by
   intro M
   induction M with
   | nil=>intro _; rfl
   | cons i M ih =>
    intro h;rw [List.cons_append,List.takeWhile_cons,h i List.mem_cons_self];simp only [Bool.not_false,if_true];rw [ih (fun j hj=>h j (List.mem_cons_of_mem _ hj))]
  exact this _ (fun i hi=>hn i (List.mem_of_mem_drop hi))
 unfold nV;simp only [e,List.length_drop,List.length_append,List.length_cons,List.length_nil];rw [if_pos (by omega)];simp only [Prod.mk.injEq,true_and];omega
inductive Does:List (List It)->Nat->Lk.Obj->Nat->Lk.Obj->Prop where
 | nil (s:Nat) (o:Lk.Obj):Does [] s o s o
 | cons {L:List It} {Ls:List (List It)} {s s' s'':Nat} {o o' o'':Lk.Obj}:bn L s o s' o'->Does Ls s' o' s'' o''->Does (L :: Ls) s o s'' o''
def join (Ls:List (List It)):List It:=Ls.flatMap (· ++ [.nl])
theorem AZ (l:List It) (st:St) (hp:st.p=l.length) (hf:st.fe=0) (n:Nat):(lines (nV l) (n+1) st).fe=0/\(lines (nV l) (n+1) st).obj=st.obj:=by
 obtain ⟨p,tok,fe,fa,op,ah,obj⟩:=st;simp only at hp hf;subst hp hf;have e1:(nV l).next l.length=(⟨4,l.length,[],0⟩,(0,0),l.length):=by
  unfold nV;simp only [List.getElem?_eq_none_iff.2 (Nat.le_refl l.length)]
 have e2:(nV l).le l.length=(false,l.length):=by
  unfold nV;simp only;rw [List.drop_length];simp
 have a1:advance (nV l) ⟨l.length,tok,0,fa,op,ah,obj⟩=⟨l.length,⟨4,l.length,[],0⟩,0,fa,op,ah,obj⟩:=by
  unfold advance;rw [e1];rfl
 have a2:line (nV l) ⟨l.length,tok,0,fa,op,ah,obj⟩=⟨l.length,⟨4,l.length,[],0⟩,0,fa,op,ah,obj⟩:=by
  unfold line;rw [a1];rfl
 unfold lines;rw [a2];have a3:bG (nV l) ⟨l.length,⟨4,l.length,[],0⟩,0,fa,op,ah,obj⟩=(false,⟨l.length,⟨4,l.length,[],0⟩,0,fa,op,ah,obj⟩):=by
  unfold bG;rw [e2];rfl
 rw [a3];exact ⟨rfl,rfl⟩
theorem xU {Ls:List (List It)} {s s':Nat} {o o':Lk.Obj} (h:Does Ls s o s' o'):∀ (a:List It) (st:St) (n:Nat),st.p=a.length->st.fe=0->st.ah=s->st.obj=o->Ls.length<=n ->
  (lines (nV (a ++ join Ls)) (n+1) st).fe=0/\(lines (nV (a ++ join Ls)) (n+1) st).obj=o':=by
 induction h with
 | nil s o =>
  intro a st n hp hf _ ho _
  have:a ++ join []=a:=List.append_nil a
  rw [this];have q:=AZ a st hp hf n;rw [ho] at q;exact q
 | @cons L Ls s s1 s2 o o1 o2 hL hLs ih =>
  intro a st n hp hf hs ho hn;obtain ⟨m,rfl⟩:∃ m,n=m+1:=⟨n - 1,by simp at hn; omega⟩
  have j:join (L :: Ls)=L ++ (.nl :: join Ls):=by unfold join; rw [List.flatMap_cons,List.append_assoc]; rfl
  rw [j];obtain ⟨tok,op,fa,f,g,e,hfq⟩:=He a L (join Ls) hL.1 st hp hf;rw [hs,ho] at e;obtain ⟨d1,d2,d3⟩:=hL.2 tok op fa;generalize line (Bp L) ⟨0,tok,0,fa,op,s,o⟩=r at *;have step:lines (nV (a ++ (L ++ (.nl :: join Ls)))) (m+1+1) st=lines (nV (a ++ (L ++ (.nl :: join Ls)))) (m+1) { aD f g r with p:=(a ++ (L ++ [It.nl])).length }:=by
   conv=>lhs; unfold lines
   rw [e];obtain ⟨q,hq,eq⟩:=hfq r.p;have nx:bG (nV (a ++ (L ++ (.nl :: join Ls)))) (aD f g r)=(true,{ aD f g r with p:=(a ++ (L ++ [It.nl])).length }):=by
    unfold bG;have nf:failed (aD f g r)=false:=by unfold failed aD; simp [d1]
    rw [nf];simp only [Bool.false_eq_true,if_false]
    have:(aD f g r).p=a.length+q:=eq
    rw [this,Oq a L (join Ls) hL.1 q hq]
   rw [nx];rfl
  rw [step];have w:a ++ (L ++ (.nl :: join Ls))=(a ++ (L ++ [.nl])) ++ join Ls:=by simp
  rw [w];exact ih (a ++ (L ++ [It.nl])) ⟨(a ++ (L ++ [It.nl])).length,dU g r.tok,r.fe,g r.fa,dU g r.op,r.ah,r.obj⟩ m rfl d1 d2 d3 (by simp at hn; omega)
theorem rX {Ls:List (List It)} {s':Nat} {o':Lk.Obj} (h:Does Ls 1 As.start.obj s' o') (hg:∀ i∈join Ls,gN i) (ha:apart (join Ls)=true) (h0:blanks (join Ls)[0]?=0) (hl:(spells (join Ls)).length<=1000) (hn:Ls.length<=(spells (join Ls)).length) :
  (As.assemble (spells (join Ls))).1.1=0/\(As.assemble (spells (join Ls))).2=finish o':=by
 have A:=agree (join Ls) hg ha h0;have B:=CJ (join Ls) hg;have st0:aD (qN (join Ls)) (lie (join Ls)) As.start=As.start:=by
  have z:lie (join Ls) 0=0:=A.zero;unfold aD As.start;simp only [z];rw [zQ A];rfl
 have e:As.lines (spells (join Ls)) ((spells (join Ls)).length+1) As.start=aD (qN (join Ls)) (lie (join Ls)) (lines (nV (join Ls)) ((spells (join Ls)).length+1) As.start):=by
  rw [CQ,<- Hg A B,st0]
 have q:=xU h [] As.start (spells (join Ls)).length rfl rfl rfl rfl hn;rw [List.nil_append] at q;unfold As.assemble;rw [if_neg (by omega),e];generalize lines (nV (join Ls)) ((spells (join Ls)).length+1) As.start=X at *;obtain ⟨x1,x2,x3,x4,x5,x6,x7⟩:=X;exact ⟨q.1,congrArg finish q.2⟩
end At
end Go.Proofs.YtpgklkhgfcjceaaGreatDoor

namespace Go.Proofs.YtpgklkhgfcjceaaGreatDoor
namespace At
open As
def more (o:Lk.Obj) (ws:List Int):Lk.Obj:={ o with text:=o.text ++ ws }
def ended (st:St):St:=if st.tok.kind == 4 then st else refuse 3 st.tok.pos st
theorem lW (ws:List Int) (p:Nat) (tok:Tok) (fa:Nat) (op:Tok) (o:Lk.Obj) (hk:tok.kind=4) (h:o.text.length+ws.length<=1200) :
  ended (lay ws ⟨p,tok,0,fa,op,1,o⟩)=⟨p,tok,0,fa,op,1,more o ws⟩:=by
 have c:¬ 4 * limit 1 < 4 * bK o 1+4 * (ws.length:Int):=by
  have e1:limit 1=1200:=rfl;have e2:bK o 1=o.text.length:=rfl;rw [e1,e2];omega
 have e:lay ws ⟨p,tok,0,fa,op,1,o⟩=⟨p,tok,0,fa,op,1,more o ws⟩:=by
  unfold lay;simp only;rw [if_neg c];rfl
 rw [e];unfold ended;simp only [hk];rfl
def wd (b:Nat) (t:List UInt8):It:=.tok b 1 t 0
def sn (c:UInt8):It:=.tok 0 3 [c] 0
def nm (t:List UInt8) (n:Nat):It:=.tok 0 2 t n
def zn (neg:Bool) (t:List UInt8) (n:Nat):List It:=if neg then [sn 45,nm t n] else [nm t n]
theorem DV:y5 [wd 0 [101,99,97,108,108]]:=by
 intro i hi;simp at hi;subst hi;rfl
theorem kT (o:Lk.Obj) (h:o.text.length+1<=1200):bn [wd 0 [101,99,97,108,108]] 1 o 1 (more o [115]):=by
 refine ⟨DV,fun tok op fa=>?_⟩;have e:line (Bp [wd 0 [101,99,97,108,108]]) ⟨0,tok,0,fa,op,1,o⟩=ended (lay [115] ⟨1,⟨4,2,[],0⟩,0,fa,⟨1,1,[101,99,97,108,108],0⟩,1,o⟩):=by kernel_rfl
 rw [e,lW [115] 1 ⟨4,2,[],0⟩ fa _ o rfl h];exact ⟨rfl,rfl,rfl⟩
def kP (r:Nat) (v:Int):List Int:=if -2048<=v/\v<=2047 then [(enc 13 r 0 0 v:Int)] else [(enc 1 r 0 0 (dJ v):Int),(enc 13 r r 0 (bP v):Int)]
theorem kZ (r:Nat) (v:Int):1<=(kP r v).length/\(kP r v).length<=2:=by
 unfold kP;split <;> simp
theorem Dr (r:Nat) (v lo hi:Int) (S1 S2:St) (h0:lo<=v) (h1:v<=hi) :
  (let c:=(if v < lo\/hi < v then ((0:Int),S1) else (v,S2)); if -2048<=c.1/\c.1<=2047 then bC 13 r 0 0 c.1 c.2 else lay [(enc 1 r 0 0 (dJ c.1):Int),(enc 13 r r 0 (bP c.1):Int)] c.2)=lay (kP r v) S2:=by
 have e:(if v < lo\/hi < v then ((0:Int),S1) else (v,S2))=(v,S2):=if_neg (by omega);rw [e];unfold kP bC;simp only;split <;> rfl
theorem uF {L:List It} (h:(L.all fun i=>!nL i)=true):y5 L:=fun i hi=>by
 have:=List.all_eq_true.1 h i hi
 simpa using this
theorem dZ (L:List It) (o o':Lk.Obj) (ws:List Int) (i:Nat) (m:List UInt8) (hn:(L.all fun i=>!nL i)=true)
  (e:∀ tok op fa,line (Bp L) ⟨0,tok,0,fa,op,1,o⟩=ended (lay ws ⟨L.length,⟨4,L.length+1,[],0⟩,0,fa,⟨1,i,m,0⟩,1,o'⟩)) (h:o'.text.length+ws.length<=1200):bn L 1 o 1 (more o' ws):=by
 refine ⟨uF hn,fun tok op fa=>?_⟩;rw [e,lW ws L.length ⟨4,L.length+1,[],0⟩ fa _ o' rfl h];exact ⟨rfl,rfl,rfl⟩
theorem uy (L:List It) (o o':Lk.Obj) (r:Nat) (v:Int) (i:Nat) (S1:Nat->St) (hn:(L.all fun i=>!nL i)=true)
  (e:∀ tok op fa,line (Bp L) ⟨0,tok,0,fa,op,1,o⟩=ended (let c:=(if v < -2147483648\/2147483647 < v then ((0:Int),S1 fa) else (v,⟨L.length,⟨4,L.length+1,[],0⟩,0,fa,⟨1,i,[108,105],0⟩,1,o'⟩)); if -2048<=c.1/\c.1<=2047 then bC 13 r 0 0 c.1 c.2 else lay [(enc 1 r 0 0 (dJ c.1):Int),(enc 13 r r 0 (bP c.1):Int)] c.2))
  (h0:-2147483648<=v) (h1:v<=2147483647) (h:o'.text.length+2<=1200):bn L 1 o 1 (more o' (kP r v)):=by
 refine ⟨uF hn,fun tok op fa=>?_⟩;rw [e,Dr r v _ _ _ _ h0 h1,lW _ L.length ⟨4,L.length+1,[],0⟩ fa _ o' rfl (by have:=kZ r v; omega)];exact ⟨rfl,rfl,rfl⟩
end At
end Go.Proofs.YtpgklkhgfcjceaaGreatDoor

namespace Go.Proofs.YtpgklkhgfcjceaaGreatDoor
namespace At
open As
theorem tJ (o:Lk.Obj) (h:o.text.length+1<=1200):bn [wd 0 [108,105],wd 1 [120,49,55],sn 44,nm [49] 1] 1 o 1 (more o [(enc 13 17 0 0 1:Int)]):=dZ _ o o [(enc 13 17 0 0 1:Int)] 1 [108,105] rfl (fun _ _ _=>by kernel_rfl) h
theorem Ba (o:Lk.Obj) (h:o.text.length+1<=1200):bn [wd 0 [108,105],wd 1 [120,49,55],sn 44,nm [48] 0] 1 o 1 (more o [(enc 13 17 0 0 0:Int)]):=dZ _ o o [(enc 13 17 0 0 0:Int)] 1 [108,105] rfl (fun _ _ _=>by kernel_rfl) h
theorem oZ (o:Lk.Obj) (h:o.text.length+1<=1200):bn [wd 0 [108,105],wd 1 [120,49,48],sn 44,nm [49] 1] 1 o 1 (more o [(enc 13 10 0 0 1:Int)]):=dZ _ o o [(enc 13 10 0 0 1:Int)] 1 [108,105] rfl (fun _ _ _=>by kernel_rfl) h
theorem mI (o:Lk.Obj) (h:o.text.length+1<=1200):bn [wd 0 [108,105],wd 1 [120,49,48],sn 44,nm [48] 0] 1 o 1 (more o [(enc 13 10 0 0 0:Int)]):=dZ _ o o [(enc 13 10 0 0 0:Int)] 1 [108,105] rfl (fun _ _ _=>by kernel_rfl) h
theorem Ku (o:Lk.Obj) (h:o.text.length+1<=1200):bn [wd 0 [97,100,100],wd 1 [120,49,48],sn 44,wd 0 [120,53],sn 44,wd 0 [120,54]] 1 o 1 (more o [(enc 18 10 5 6 0:Int)]):=dZ _ o o [(enc 18 10 5 6 0:Int)] 1 [97,100,100] rfl (fun _ _ _=>by kernel_rfl) h
theorem KC (o:Lk.Obj) (h:o.text.length+1<=1200):bn [wd 0 [115,117,98],wd 1 [120,49,48],sn 44,wd 0 [120,53],sn 44,wd 0 [120,54]] 1 o 1 (more o [(enc 19 10 5 6 0:Int)]):=dZ _ o o [(enc 19 10 5 6 0:Int)] 1 [115,117,98] rfl (fun _ _ _=>by kernel_rfl) h
theorem KA (o:Lk.Obj) (h:o.text.length+1<=1200):bn [wd 0 [115,108,116],wd 1 [120,49,48],sn 44,wd 0 [120,53],sn 44,wd 0 [120,54]] 1 o 1 (more o [(enc 20 10 5 6 0:Int)]):=dZ _ o o [(enc 20 10 5 6 0:Int)] 1 [115,108,116] rfl (fun _ _ _=>by kernel_rfl) h
theorem Hr (o:Lk.Obj) (h:o.text.length+1<=1200):bn [wd 0 [115,108,116,117],wd 1 [120,49,48],sn 44,wd 0 [120,53],sn 44,wd 0 [120,54]] 1 o 1 (more o [(enc 21 10 5 6 0:Int)]):=dZ _ o o [(enc 21 10 5 6 0:Int)] 1 [115,108,116,117] rfl (fun _ _ _=>by kernel_rfl) h
theorem KE (o:Lk.Obj) (h:o.text.length+1<=1200):bn [wd 0 [120,111,114],wd 1 [120,49,48],sn 44,wd 0 [120,53],sn 44,wd 0 [120,54]] 1 o 1 (more o [(enc 22 10 5 6 0:Int)]):=dZ _ o o [(enc 22 10 5 6 0:Int)] 1 [120,111,114] rfl (fun _ _ _=>by kernel_rfl) h
theorem Ou (o:Lk.Obj) (h:o.text.length+1<=1200):bn [wd 0 [111,114],wd 1 [120,49,48],sn 44,wd 0 [120,53],sn 44,wd 0 [120,54]] 1 o 1 (more o [(enc 23 10 5 6 0:Int)]):=dZ _ o o [(enc 23 10 5 6 0:Int)] 1 [111,114] rfl (fun _ _ _=>by kernel_rfl) h
theorem Kv (o:Lk.Obj) (h:o.text.length+1<=1200):bn [wd 0 [97,110,100],wd 1 [120,49,48],sn 44,wd 0 [120,53],sn 44,wd 0 [120,54]] 1 o 1 (more o [(enc 24 10 5 6 0:Int)]):=dZ _ o o [(enc 24 10 5 6 0:Int)] 1 [97,110,100] rfl (fun _ _ _=>by kernel_rfl) h
theorem Dz (t:List UInt8) (n:Nat) (o:Lk.Obj) (h:o.text.length+2<=1200) (hn:(n:Int)<=2147483647):bn [wd 0 [108,105],wd 1 [120,54],sn 44,nm t n] 1 o 1 (more o (kP 6 ((n:Int)))):=uy _ o o 6 ((n:Int)) 1 (fun fa=>refuse 8 4 ⟨4,⟨2,4,t,n⟩,0,fa,⟨1,1,[108,105],0⟩,1,o⟩) rfl (fun _ _ _=>by kernel_rfl) (by omega) (by omega) h
theorem Dy (t:List UInt8) (n:Nat) (o:Lk.Obj) (h:o.text.length+2<=1200) (hn:(n:Int)<=2147483648):bn [wd 0 [108,105],wd 1 [120,54],sn 44,sn 45,nm t n] 1 o 1 (more o (kP 6 (-(n:Int)))):=uy _ o o 6 (-(n:Int)) 1 (fun fa=>refuse 8 4 ⟨5,⟨2,5,t,n⟩,0,fa,⟨1,1,[108,105],0⟩,1,o⟩) rfl (fun _ _ _=>by kernel_rfl) (by omega) (by omega) h
theorem xX (t:List UInt8) (n:Nat) (hn:(n:Int)<=2147483647):bn [wd 0 [95,115,116,97,114,116],sn 58,wd 1 [108,105],wd 1 [120,53],sn 44,nm t n] 1 ⟨[],[],[],0,[2,2,2,2],[⟨[95,115,116,97,114,116],1,0,0⟩],[]⟩ 1 (more ⟨[],[],[],0,[2,2,2,2],[⟨[95,115,116,97,114,116],1,1,0⟩],[]⟩ (kP 5 ((n:Int)))):=uy _ ⟨[],[],[],0,[2,2,2,2],[⟨[95,115,116,97,114,116],1,0,0⟩],[]⟩ ⟨[],[],[],0,[2,2,2,2],[⟨[95,115,116,97,114,116],1,1,0⟩],[]⟩ 5 ((n:Int)) 3 (fun fa=>refuse 8 6 ⟨6,⟨2,6,t,n⟩,0,fa,⟨1,3,[108,105],0⟩,1,⟨[],[],[],0,[2,2,2,2],[⟨[95,115,116,97,114,116],1,1,0⟩],[]⟩⟩) rfl (fun _ _ _=>by kernel_rfl) (by omega) (by omega) (by simp)
theorem xW (t:List UInt8) (n:Nat) (hn:(n:Int)<=2147483648):bn [wd 0 [95,115,116,97,114,116],sn 58,wd 1 [108,105],wd 1 [120,53],sn 44,sn 45,nm t n] 1 ⟨[],[],[],0,[2,2,2,2],[⟨[95,115,116,97,114,116],1,0,0⟩],[]⟩ 1 (more ⟨[],[],[],0,[2,2,2,2],[⟨[95,115,116,97,114,116],1,1,0⟩],[]⟩ (kP 5 (-(n:Int)))):=uy _ ⟨[],[],[],0,[2,2,2,2],[⟨[95,115,116,97,114,116],1,0,0⟩],[]⟩ ⟨[],[],[],0,[2,2,2,2],[⟨[95,115,116,97,114,116],1,1,0⟩],[]⟩ 5 (-(n:Int)) 3 (fun fa=>refuse 8 6 ⟨7,⟨2,7,t,n⟩,0,fa,⟨1,3,[108,105],0⟩,1,⟨[],[],[],0,[2,2,2,2],[⟨[95,115,116,97,114,116],1,1,0⟩],[]⟩⟩) rfl (fun _ _ _=>by kernel_rfl) (by omega) (by omega) (by simp)
theorem Hl (t:List UInt8) (n:Nat) (o:Lk.Obj) (h:o.text.length+1<=1200) (hn:n<=2047):bn [wd 0 [97,100,100,105],wd 1 [120,49,48],sn 44,wd 0 [120,53],sn 44,sn 45,nm t n] 1 o 1 (more o [(enc 13 10 5 0 (-(n:Int)):Int)]):=by
 refine ⟨?_,fun tok op fa=>?_⟩
 ·intro i hi;simp only [List.mem_cons,List.not_mem_nil,or_false] at hi;rcases hi with rfl | rfl | rfl | rfl | rfl | rfl | rfl <;> rfl
 have e:line (Bp [wd 0 [97,100,100,105],wd 1 [120,49,48],sn 44,wd 0 [120,53],sn 44,sn 45,nm t n]) ⟨0,tok,0,fa,op,1,o⟩=ended (let c:=(if -(n:Int) < -2048\/2047 < -(n:Int) then ((0:Int),refuse 8 6 ⟨7,⟨2,7,t,n⟩,0,fa,⟨1,1,[97,100,100,105],0⟩,1,o⟩) else (-(n:Int),⟨7,⟨4,8,[],0⟩,0,fa,⟨1,1,[97,100,100,105],0⟩,1,o⟩)); bC 13 10 5 0 c.1 c.2):=by kernel_rfl
 have e2:(if -(n:Int) < -2048\/2047 < -(n:Int) then ((0:Int),refuse 8 6 ⟨7,⟨2,7,t,n⟩,0,fa,⟨1,1,[97,100,100,105],0⟩,1,o⟩) else (-(n:Int),⟨7,⟨4,8,[],0⟩,0,fa,⟨1,1,[97,100,100,105],0⟩,1,o⟩))=(-(n:Int),⟨7,⟨4,8,[],0⟩,0,fa,⟨1,1,[97,100,100,105],0⟩,1,o⟩):=if_neg (by omega);rw [e,e2];have e3:ended (let c:=((-(n:Int),⟨7,⟨4,8,[],0⟩,0,fa,⟨1,1,[97,100,100,105],0⟩,1,o⟩):Int×St); bC 13 10 5 0 c.1 c.2)=ended (lay [(enc 13 10 5 0 (-(n:Int)):Int)] ⟨7,⟨4,8,[],0⟩,0,fa,⟨1,1,[97,100,100,105],0⟩,1,o⟩):=rfl;rw [e3,lW [(enc 13 10 5 0 (-(n:Int)):Int)] 7 ⟨4,8,[],0⟩ fa _ o rfl h];exact ⟨rfl,rfl,rfl⟩
theorem Ho (t:List UInt8) (n:Nat) (o:Lk.Obj) (h:o.text.length+1<=1200) (hn:n<=2047):bn [wd 0 [97,110,100,105],wd 1 [120,49,48],sn 44,wd 0 [120,54],sn 44,nm t n] 1 o 1 (more o [(enc 17 10 6 0 ((n:Int)):Int)]):=by
 refine ⟨?_,fun tok op fa=>?_⟩
 ·intro i hi;simp only [List.mem_cons,List.not_mem_nil,or_false] at hi;rcases hi with rfl | rfl | rfl | rfl | rfl | rfl <;> rfl
 have e:line (Bp [wd 0 [97,110,100,105],wd 1 [120,49,48],sn 44,wd 0 [120,54],sn 44,nm t n]) ⟨0,tok,0,fa,op,1,o⟩=ended (let c:=(if (n:Int) < -2048\/2047 < (n:Int) then ((0:Int),refuse 8 6 ⟨6,⟨2,6,t,n⟩,0,fa,⟨1,1,[97,110,100,105],0⟩,1,o⟩) else ((n:Int),⟨6,⟨4,7,[],0⟩,0,fa,⟨1,1,[97,110,100,105],0⟩,1,o⟩)); bC 17 10 6 0 c.1 c.2):=by kernel_rfl
 have e2:(if (n:Int) < -2048\/2047 < (n:Int) then ((0:Int),refuse 8 6 ⟨6,⟨2,6,t,n⟩,0,fa,⟨1,1,[97,110,100,105],0⟩,1,o⟩) else ((n:Int),⟨6,⟨4,7,[],0⟩,0,fa,⟨1,1,[97,110,100,105],0⟩,1,o⟩))=((n:Int),⟨6,⟨4,7,[],0⟩,0,fa,⟨1,1,[97,110,100,105],0⟩,1,o⟩):=if_neg (by omega);rw [e,e2];have e3:ended (let c:=(((n:Int),⟨6,⟨4,7,[],0⟩,0,fa,⟨1,1,[97,110,100,105],0⟩,1,o⟩):Int×St); bC 17 10 6 0 c.1 c.2)=ended (lay [(enc 17 10 6 0 ((n:Int)):Int)] ⟨6,⟨4,7,[],0⟩,0,fa,⟨1,1,[97,110,100,105],0⟩,1,o⟩):=rfl;rw [e3,lW [(enc 17 10 6 0 ((n:Int)):Int)] 6 ⟨4,7,[],0⟩ fa _ o rfl h];exact ⟨rfl,rfl,rfl⟩
theorem Kw (q:List Int) (h:q.length+1<=1200):bn [wd 0 [98,108,116],wd 1 [120,53],sn 44,wd 0 [120,54],sn 44,wd 0 [97]] 1 ⟨q,[],[],0,[2,2,2,2],[⟨[95,115,116,97,114,116],1,1,0⟩],[]⟩ 1 (more ⟨q,[],[],0,[2,2,2,2],[⟨[95,115,116,97,114,116],1,1,0⟩,⟨[97],0,0,0⟩],[⟨1,4 * (q.length:Int),2,1,0⟩]⟩ [(enc 7 0 5 6 0:Int)]):=dZ _ _ _ [(enc 7 0 5 6 0:Int)] 1 [98,108,116] rfl (fun _ _ _=>by kernel_rfl) h
theorem Uo (q:List Int) (u:Int) (h:q.length+1<=1200):bn [wd 0 [97],sn 58,wd 1 [101,99,97,108,108]] 1 ⟨q,[],[],0,[2,2,2,2],[⟨[95,115,116,97,114,116],1,1,0⟩,⟨[97],0,0,0⟩],[⟨1,u,2,1,0⟩]⟩ 1 (more ⟨q,[],[],0,[2,2,2,2],[⟨[95,115,116,97,114,116],1,1,0⟩,⟨[97],0,1,4 * (q.length:Int)⟩],[⟨1,u,2,1,0⟩]⟩ [115]):=dZ _ _ _ [115] 3 [101,99,97,108,108] rfl (fun _ _ _=>by kernel_rfl) h
theorem Hq (q:List Int) (u v:Int) (h:q.length+1<=1200):bn [wd 0 [98,103,101,117],wd 1 [120,53],sn 44,wd 0 [120,54],sn 44,wd 0 [98]] 1 ⟨q,[],[],0,[2,2,2,2],[⟨[95,115,116,97,114,116],1,1,0⟩,⟨[97],0,1,u⟩],[⟨1,v,2,1,0⟩]⟩ 1 (more ⟨q,[],[],0,[2,2,2,2],[⟨[95,115,116,97,114,116],1,1,0⟩,⟨[97],0,1,u⟩,⟨[98],0,0,0⟩],[⟨1,v,2,1,0⟩,⟨1,4 * (q.length:Int),2,2,0⟩]⟩ [(enc 10 0 5 6 0:Int)]):=dZ _ _ _ [(enc 10 0 5 6 0:Int)] 1 [98,103,101,117] rfl (fun _ _ _=>by kernel_rfl) h
theorem Uq (q:List Int) (u v x:Int) (h:q.length+1<=1200):bn [wd 0 [98],sn 58,wd 1 [101,99,97,108,108]] 1 ⟨q,[],[],0,[2,2,2,2],[⟨[95,115,116,97,114,116],1,1,0⟩,⟨[97],0,1,u⟩,⟨[98],0,0,0⟩],[⟨1,v,2,1,0⟩,⟨1,x,2,2,0⟩]⟩ 1 (more ⟨q,[],[],0,[2,2,2,2],[⟨[95,115,116,97,114,116],1,1,0⟩,⟨[97],0,1,u⟩,⟨[98],0,1,4 * (q.length:Int)⟩],[⟨1,v,2,1,0⟩,⟨1,x,2,2,0⟩]⟩ [115]):=dZ _ _ _ [115] 3 [101,99,97,108,108] rfl (fun _ _ _=>by kernel_rfl) h
theorem Ky (q:List Int) (u v x y:Int) (h:q.length+1<=1200):bn [wd 0 [98,110,101],wd 1 [120,53],sn 44,wd 0 [120,54],sn 44,wd 0 [99]] 1 ⟨q,[],[],0,[2,2,2,2],[⟨[95,115,116,97,114,116],1,1,0⟩,⟨[97],0,1,u⟩,⟨[98],0,1,v⟩],[⟨1,x,2,1,0⟩,⟨1,y,2,2,0⟩]⟩ 1 (more ⟨q,[],[],0,[2,2,2,2],[⟨[95,115,116,97,114,116],1,1,0⟩,⟨[97],0,1,u⟩,⟨[98],0,1,v⟩,⟨[99],0,0,0⟩],[⟨1,x,2,1,0⟩,⟨1,y,2,2,0⟩,⟨1,4 * (q.length:Int),2,3,0⟩]⟩ [(enc 6 0 5 6 0:Int)]):=dZ _ _ _ [(enc 6 0 5 6 0:Int)] 1 [98,110,101] rfl (fun _ _ _=>by kernel_rfl) h
theorem Ur (q:List Int) (u v x y z:Int) (h:q.length+1<=1200):bn [wd 0 [99],sn 58,wd 1 [101,99,97,108,108]] 1 ⟨q,[],[],0,[2,2,2,2],[⟨[95,115,116,97,114,116],1,1,0⟩,⟨[97],0,1,u⟩,⟨[98],0,1,v⟩,⟨[99],0,0,0⟩],[⟨1,x,2,1,0⟩,⟨1,y,2,2,0⟩,⟨1,z,2,3,0⟩]⟩ 1 (more ⟨q,[],[],0,[2,2,2,2],[⟨[95,115,116,97,114,116],1,1,0⟩,⟨[97],0,1,u⟩,⟨[98],0,1,v⟩,⟨[99],0,1,4 * (q.length:Int)⟩],[⟨1,x,2,1,0⟩,⟨1,y,2,2,0⟩,⟨1,z,2,3,0⟩]⟩ [115]):=dZ _ _ _ [115] 3 [101,99,97,108,108] rfl (fun _ _ _=>by kernel_rfl) h
theorem Dx:bn [wd 0 [46,103,108,111,98,108],wd 1 [95,115,116,97,114,116]] 1 As.start.obj 1 ⟨[],[],[],0,[2,2,2,2],[⟨[95,115,116,97,114,116],1,0,0⟩],[]⟩:=by
 exact ⟨uF rfl,fun tok op fa=>⟨by kernel_rfl,by kernel_rfl,by kernel_rfl⟩⟩
end At
end Go.Proofs.YtpgklkhgfcjceaaGreatDoor

namespace Go.Proofs.YtpgklkhgfcjceaaGreatDoor
namespace At
open As
theorem Does.trans {Ls Ms:List (List It)} {s s' s'':Nat} {o o' o'':Lk.Obj} (h:Does Ls s o s' o') (k:Does Ms s' o' s'' o''):Does (Ls ++ Ms) s o s'' o'':=by
 induction h with
 | nil s o=>exact k
 | cons hL _ ih=>exact .cons hL (ih k)
theorem jl (o:Lk.Obj) (ws:List Int):(more o ws).text.length=o.text.length+ws.length:=List.length_append
def Uu (k:Nat):List It:=[wd 0 ([[97,100,100],[115,117,98],[115,108,116],[115,108,116,117],[120,111,114],[111,114],[97,110,100]].getD k []),wd 1 [120,49,48],sn 44,wd 0 [120,53],sn 44,wd 0 [120,54]]
def wY (k:Nat):Int:=(enc (18+k) 10 5 6 0:Nat)
theorem Ot (k:Nat) (hk:k < 7) (o:Lk.Obj) (h:o.text.length+1<=1200):bn (Uu k) 1 o 1 (more o [wY k]):=by
 rcases (show k=0\/k=1\/k=2\/k=3\/k=4\/k=5\/k=6 by omega) with rfl | rfl | rfl | rfl | rfl | rfl | rfl
 ·exact Ku o h
 ·exact KC o h
 ·exact KA o h
 ·exact Hr o h
 ·exact KE o h
 ·exact Ou o h
 ·exact Kv o h
def val (neg:Bool) (n:Nat):Int:=if neg then -(n:Int) else n
theorem DC (neg:Bool) (t:List UInt8) (n:Nat) (hn:n<=2147483647\/(neg=true/\n<=2147483648)):bn ([wd 0 [95,115,116,97,114,116],sn 58,wd 1 [108,105],wd 1 [120,53],sn 44] ++ zn neg t n) 1 ⟨[],[],[],0,[2,2,2,2],[⟨[95,115,116,97,114,116],1,0,0⟩],[]⟩ 1 (more ⟨[],[],[],0,[2,2,2,2],[⟨[95,115,116,97,114,116],1,1,0⟩],[]⟩ (kP 5 (val neg n))):=by
 cases neg
 ·exact xX t n (by rcases hn with h | h; omega; cases h.1)
 ·exact xW t n (by omega)
theorem Kz (neg:Bool) (t:List UInt8) (n:Nat) (hn:n<=2147483647\/(neg=true/\n<=2147483648)) (o:Lk.Obj) (h:o.text.length+2<=1200):bn ([wd 0 [108,105],wd 1 [120,54],sn 44] ++ zn neg t n) 1 o 1 (more o (kP 6 (val neg n))):=by
 cases neg
 ·exact Dz t n o h (by rcases hn with h | h; omega; cases h.1)
 ·exact Dy t n o h (by omega)
abbrev AL:List Int:=[2,2,2,2]
abbrev S0:Lk.Sym:=⟨[95,115,116,97,114,116],1,1,0⟩
def Jh:List It:=[wd 0 [108,105],wd 1 [120,49,55],sn 44,nm [49] 1]
def Nt:List It:=[wd 0 [108,105],wd 1 [120,49,55],sn 44,nm [48] 0]
def vK:List It:=[wd 0 [108,105],wd 1 [120,49,48],sn 44,nm [49] 1]
def Jg:List It:=[wd 0 [108,105],wd 1 [120,49,48],sn 44,nm [48] 0]
def Qg:List It:=[wd 0 [101,99,97,108,108]]
def Lbr (b l:List UInt8):List It:=[wd 0 b,wd 1 [120,53],sn 44,wd 0 [120,54],sn 44,wd 0 l]
def Lla (l:List UInt8):List It:=[wd 0 l,sn 58,wd 1 [101,99,97,108,108]]
def KR (nx:Bool) (tx:List UInt8) (x:Nat) (ny:Bool) (ty:List UInt8) (y k:Nat):List (List It) :=
 [[wd 0 [46,103,108,111,98,108],wd 1 [95,115,116,97,114,116]],[wd 0 [95,115,116,97,114,116],sn 58,wd 1 [108,105],wd 1 [120,53],sn 44] ++ zn nx tx x,[wd 0 [108,105],wd 1 [120,54],sn 44] ++ zn ny ty y,Uu k,Jh,Qg,vK]
def nE:Int:=(enc 13 17 0 0 1:Nat)
def vM:Int:=(enc 13 17 0 0 0:Nat)
def jZ:Int:=(enc 13 10 0 0 1:Nat)
def iD:Int:=(enc 13 10 0 0 0:Nat)
def q1 (vx vy:Int) (k:Nat):List Int:=kP 5 vx ++ kP 6 vy ++ [wY k] ++ [nE] ++ [115] ++ [jZ]
theorem NV (nx:Bool) (tx:List UInt8) (x:Nat) (ny:Bool) (ty:List UInt8) (y k:Nat) (hx:x<=2147483647\/(nx=true/\x<=2147483648)) (hy:y<=2147483647\/(ny=true/\y<=2147483648)) (hk:k < 7) :
  Does (KR nx tx x ny ty y k) 1 As.start.obj 1 ⟨q1 (val nx x) (val ny y) k,[],[],0,AL,[S0],[]⟩:=by
 have lx:=kZ 5 (val nx x);have ly:=kZ 6 (val ny y);refine .cons Dx (.cons (DC nx tx x hx) (.cons (Kz ny ty y hy _ ?_) (.cons (Ot k hk _ ?_) (.cons (tJ _ ?_) (.cons (kT _ ?_) (.cons (oZ _ ?_) (.nil _ _)))))))
 all_goals simp only [jl,List.length_nil,List.length_cons]; omega
def zk (b l:List UInt8):List (List It):=[Lbr b l,Jg,Lla l]
theorem NW (q:List Int) (h:q.length<=100):Does (zk [98,108,116] [97] ++ [vK]) 1 ⟨q,[],[],0,AL,[S0],[]⟩ 1 ⟨q ++ [(enc 7 0 5 6 0:Int)] ++ [iD] ++ [115] ++ [jZ],[],[],0,AL,[S0,⟨[97],0,1,4 * ((q ++ [(enc 7 0 5 6 0:Int)] ++ [iD]).length:Int)⟩],[⟨1,4 * (q.length:Int),2,1,0⟩]⟩:=by
 refine .cons (Kw q (by omega)) (.cons (mI _ ?_) (.cons (Uo (q ++ [(enc 7 0 5 6 0:Int)] ++ [iD]) (4 * (q.length:Int)) ?_) (.cons (oZ _ ?_) (.nil _ _))))
 ·simp only [jl,List.length_nil,List.length_cons]; omega
 ·simp only [List.length_append,List.length_nil,List.length_cons]; omega
 ·simp only [jl,List.length_append,List.length_nil,List.length_cons]; omega
theorem NY (q:List Int) (u v:Int) (h:q.length<=100):Does (zk [98,103,101,117] [98] ++ [vK]) 1 ⟨q,[],[],0,AL,[S0,⟨[97],0,1,u⟩],[⟨1,v,2,1,0⟩]⟩ 1 ⟨q ++ [(enc 10 0 5 6 0:Int)] ++ [iD] ++ [115] ++ [jZ],[],[],0,AL,[S0,⟨[97],0,1,u⟩,⟨[98],0,1,4 * ((q ++ [(enc 10 0 5 6 0:Int)] ++ [iD]).length:Int)⟩],[⟨1,v,2,1,0⟩,⟨1,4 * (q.length:Int),2,2,0⟩]⟩:=by
 refine .cons (Hq q u v (by omega)) (.cons (mI _ ?_) (.cons (Uq (q ++ [(enc 10 0 5 6 0:Int)] ++ [iD]) u v (4 * (q.length:Int)) ?_) (.cons (oZ _ ?_) (.nil _ _))))
 ·simp only [jl,List.length_nil,List.length_cons]; omega
 ·simp only [List.length_append,List.length_nil,List.length_cons]; omega
 ·simp only [jl,List.length_append,List.length_nil,List.length_cons]; omega
theorem NZ (q:List Int) (u v x y:Int) (h:q.length<=100):Does (zk [98,110,101] [99]) 1 ⟨q,[],[],0,AL,[S0,⟨[97],0,1,u⟩,⟨[98],0,1,v⟩],[⟨1,x,2,1,0⟩,⟨1,y,2,2,0⟩]⟩ 1 ⟨q ++ [(enc 6 0 5 6 0:Int)] ++ [iD] ++ [115],[],[],0,AL,[S0,⟨[97],0,1,u⟩,⟨[98],0,1,v⟩,⟨[99],0,1,4 * ((q ++ [(enc 6 0 5 6 0:Int)] ++ [iD]).length:Int)⟩],[⟨1,x,2,1,0⟩,⟨1,y,2,2,0⟩,⟨1,4 * (q.length:Int),2,3,0⟩]⟩:=by
 refine .cons (Ky q u v x y (by omega)) (.cons (mI _ ?_) (.cons (Ur (q ++ [(enc 6 0 5 6 0:Int)] ++ [iD]) u v x y (4 * (q.length:Int)) ?_) (.nil _ _)))
 ·simp only [jl,List.length_nil,List.length_cons]; omega
 ·simp only [List.length_append,List.length_nil,List.length_cons]; omega
def KS (ts:List UInt8) (n:Nat):List (List It):=[[wd 0 [97,100,100,105],wd 1 [120,49,48],sn 44,wd 0 [120,53],sn 44,sn 45,nm ts n],Qg,[wd 0 [97,110,100,105],wd 1 [120,49,48],sn 44,wd 0 [120,54],sn 44,nm ts n],Jh,Qg,Jg,Nt,Qg]
theorem N7 (ts:List UInt8) (n:Nat) (hn:n<=2047) (q:List Int) (ys:List Lk.Sym) (rs:List Lk.Rel) (h:q.length<=100):Does (KS ts n) 1 ⟨q,[],[],0,AL,ys,rs⟩ 1 ⟨q ++ [(enc 13 10 5 0 (-(n:Int)):Int)] ++ [115] ++ [(enc 17 10 6 0 (n:Int):Int)] ++ [nE] ++ [115] ++ [iD] ++ [vM] ++ [115],[],[],0,AL,ys,rs⟩:=by
 refine .cons (Hl ts n _ ?_ hn) (.cons (kT _ ?_) (.cons (Ho ts n _ ?_ hn) (.cons (tJ _ ?_) (.cons (kT _ ?_) (.cons (mI _ ?_) (.cons (Ba _ ?_) (.cons (kT _ ?_) (.nil _ _))))))))
 all_goals simp only [jl,List.length_nil,List.length_cons]; omega
end At
end Go.Proofs.YtpgklkhgfcjceaaGreatDoor

namespace Go.Proofs.YtpgklkhgfcjceaaGreatDoor
open Go.RowKit
theorem aW {P:Program} {md:Region.Mode} {ops:Array Oper} {Q:Exit->Act->World->Prop} {S:World->Prop} {i:Nat} {oi:Oper} {v:Value} {fuel:Nat} {listed:Array Bool} {a:Act} {w:World} (hi:ops[i]?=some oi) (hy:∀ w,S w->(execOp a.eval oi).run P w = .ok (.value v) w) (hS:S w) (h:wpAnyH P md ops Q S fuel (listed.setIfInBounds i true) (a.put oi.dst v) w) (hs:Region.noSelect ops=true:=by kernel_rfl) (hf:Region.free md ops listed i=true:=by kernel_rfl) (hr:(Region.ready md ops listed).contains i=true:=by kernel_rfl) (hw:Region.wanted oi (yielded ops a.tmps)=true:=by kernel_rfl) (hQ:∀ c a w,Q (.panic c) (a.put oi.dst v) w->Q (.panic c) a w:=by exact fun _ _ _ h=>h):wpAnyH P md ops Q S (fuel+1) listed a w:=wpAnyH_take hi hs hf hr hQ (Or.inl ⟨hw,hy⟩) hS h
theorem rO {P:Program} {md:Region.Mode} {ops:Array Oper} {Q:Exit->Act->World->Prop} {S:World->Prop} {i:Nat} {oi:Oper} {fuel:Nat} {listed:Array Bool} {a:Act} {w:World} (hi:ops[i]?=some oi) (hS:S w) (h:wpAnyH P md ops Q S fuel (listed.setIfInBounds i true) (a.put oi.dst undef) w) (hs:Region.noSelect ops=true:=by kernel_rfl) (hf:Region.free md ops listed i=true:=by kernel_rfl) (hr:(Region.ready md ops listed).contains i=true:=by kernel_rfl) (hw:Region.wanted oi (yielded ops a.tmps)=false:=by kernel_rfl) (hQ:∀ c a w,Q (.panic c) (a.put oi.dst undef) w->Q (.panic c) a w:=by exact fun _ _ _ h=>h):wpAnyH P md ops Q S (fuel+1) listed a w:=wpAnyH_take hi hs hf hr hQ (Or.inr ⟨hw,rfl⟩) hS h
theorem bL:type_of% @List.getElem?_cons_zero:=@List.getElem?_cons_zero
theorem bJ:type_of% @List.getElem?_toArray:=@List.getElem?_toArray
theorem bN:type_of% @List.getElem?_cons_succ:=@List.getElem?_cons_succ
theorem gF:type_of% @List.set_cons_succ:=@List.set_cons_succ
theorem gG:type_of% @List.set_cons_zero:=@List.set_cons_zero
theorem gH:type_of% @List.setIfInBounds_toArray:=@List.setIfInBounds_toArray
theorem aH:type_of% @Go.World.grownBy_alloc:=@Go.World.grownBy_alloc
theorem eP:type_of% @List.length_append:=@List.length_append
theorem iC:type_of% @List.getElem_mem:=@List.getElem_mem
theorem iV:type_of% @List.length_cons:=@List.length_cons
theorem jW:type_of% @List.getElem?_eq_getElem:=@List.getElem?_eq_getElem
theorem mE:type_of% @List.drop_eq_getElem_cons:=@List.drop_eq_getElem_cons
theorem sU:type_of% @List.length_map:=@List.length_map
theorem qc:type_of% @List.getElem_cons_succ:=@List.getElem_cons_succ
theorem qx:type_of% @List.getElem_cons_zero:=@List.getElem_cons_zero
theorem qE:type_of% @List.getElem_toArray:=@List.getElem_toArray
theorem lQ:type_of% @List.foldl_cons:=@List.foldl_cons
theorem mF:type_of% @List.foldl_nil:=@List.foldl_nil
theorem lN:type_of% @List.getD_eq_getElem?_getD:=@List.getD_eq_getElem?_getD
def Hd (p:Prop):Prop:=p
theorem Hd.o {p:Prop} (h:Hd p):p:=h
def sl (s:ByteArray):List UInt8:=s.data.toList
def bs (l:List UInt8):ByteArray:=⟨l.toArray⟩
theorem yu (s:ByteArray):(sl s).length=s.size:=by unfold sl; rw [Array.length_toList]; rfl
theorem w9 (l:List UInt8):(bs l).size=l.length:=by simp [bs,ByteArray.size]
theorem I4 (l:List UInt8):sl (bs l)=l:=by simp [sl,bs]
theorem ysj (s:ByteArray):bs (sl s)=s:=by simp [sl,bs]
theorem OQ (s:ByteArray) (a b:Nat):s.extract a b=bs (((sl s).drop a).take (b - a)):=Lib.extract_eq s a b
theorem yF {k:IntKind} {a b:Int} (h:a=b):Ending.returned (.int k a) = .returned (.int k b):=by rw [h]
theorem yrg {a b:ByteArray} (h:a=b):Ending.returned (.string a) = .returned (.string b):=by rw [h]
theorem hid {p:Prop} (h:p):Hd p:=h
theorem ya {a b c:World} {row:Option Nat} (h:a.grownBy b row) (k:b.grownBy c row):a.grownBy c row :=
 ⟨k.os.trans h.os,k.tape.trans h.tape,k.output.trans h.output,Nat.le_trans h.size k.size,fun i hi hr=>(k.block i (Nat.lt_of_lt_of_le hi h.size) hr).trans (h.block i hi hr)⟩
theorem ynY {a b:World} {row:Option Nat} (h:a.grownBy b none):a.grownBy b row:=⟨h.os,h.tape,h.output,h.size,fun i hi _=>h.block i hi (by simp)⟩
theorem ye {a b:World} {row:Option Nat} (h:a.grownBy b row) (n:Nat):a.grownBy (b.drewN n) row:=by
 induction n with
 | zero=>exact h
 | succ n ih=>exact ⟨ih.os,ih.tape,ih.output,ih.size,ih.block⟩
theorem Q9 {a b:World} {row:Option Nat} (h:a.grownBy b row) {B:Nat} (hB:B<=a.heap.size) (hr:∀ k,row=some k->B<=k):Below B a b :=
 (Below.refl B a).grown h hB hr
theorem yf (w:World) (b o:Nat) (v:Value):w.grownBy (w.setCell ⟨b,o,none⟩ v) (some b) :=
 ⟨rfl,rfl,rfl,by simp [World.setCell],fun k _ hr=>Below.heap_setCell _ _ _ _ (by simpa using hr)⟩
theorem Zg (w:World) (n:Nat):(w.drewN n).heap=w.heap:=by
 induction n with
 | zero=>rfl
 | succ n ih=>exact ih
def bF (w:World) (b:Nat) (s:ByteArray) (p:Nat) (sh:Bool):Prop :=
 w.heap[b]?=some (.cells #[.string s,.int .i64 p,.bool sh] 83 (0,0))
theorem bF.lt {w:World} {b:Nat} {s:ByteArray} {p:Nat} {sh:Bool} (h:bF w b s p sh):b < w.heap.size:=(Array.getElem?_eq_some_iff.1 h).1
theorem bF.c0 {w:World} {b:Nat} {s:ByteArray} {p:Nat} {sh:Bool} (h:bF w b s p sh):w.cell? ⟨b,0,none⟩=some (.string s):=by simp [World.cell?,show w.heap[b]?=_ from h]
theorem bF.c1 {w:World} {b:Nat} {s:ByteArray} {p:Nat} {sh:Bool} (h:bF w b s p sh):w.cell? ⟨b,1,none⟩=some (.int .i64 p):=by simp [World.cell?,show w.heap[b]?=_ from h]
theorem bF.c2 {w:World} {b:Nat} {s:ByteArray} {p:Nat} {sh:Bool} (h:bF w b s p sh):w.cell? ⟨b,2,none⟩=some (.bool sh):=by simp [World.cell?,show w.heap[b]?=_ from h]
theorem bF.free {w:World} {b:Nat} {s:ByteArray} {p:Nat} {sh:Bool} (h:bF w b s p sh) (o:Nat):w.frozen? ⟨b,o,none⟩=false:=by simp [World.frozen?,show w.heap[b]?=_ from h]
theorem bF.grown {w w':World} {b:Nat} {s:ByteArray} {p:Nat} {sh:Bool} (h:bF w b s p sh) {row:Option Nat} (hg:w.grownBy w' row) (hne:some b≠row):bF w' b s p sh :=
 (hg.block b h.lt hne).trans h
theorem bF.drewN {w:World} {b:Nat} {s:ByteArray} {p:Nat} {sh:Bool} (h:bF w b s p sh) (n:Nat):bF (w.drewN n) b s p sh:=by
 unfold bF; rw [Zg]; exact h
theorem OT {w:World} {b o:Nat} {cs:Array Value} {t:TypeId} (h:w.heap[b]?=some (.cells cs t (0,0))) (v:Value) :
  (w.setCell ⟨b,o,none⟩ v).heap[b]?=some (.cells (cs.setIfInBounds o v) t (0,0)):=by
 simp [World.setCell,Array.getElem?_modify,h]
theorem bF.set1 {w:World} {b:Nat} {s:ByteArray} {p:Nat} {sh:Bool} (h:bF w b s p sh) (q:Nat):bF (w.setCell ⟨b,1,none⟩ (.int .i64 q)) b s q sh:=by
 have:=OT (o:=1) h (.int .i64 q)
 simpa [bF] using this
theorem bF.set2 {w:World} {b:Nat} {s:ByteArray} {p:Nat} {sh:Bool} (h:bF w b s p sh) (q:Bool):bF (w.setCell ⟨b,2,none⟩ (.bool q)) b s p q:=by
 have:=OT (o:=2) h (.bool q)
 simpa [bF] using this
theorem Rp (b:Nat) (s:ByteArray) (p:Nat) (sh:Bool) (w:World) (h:bF w b s p sh) :
  Calls Tryz.prog 222 #[.pointer (some ⟨b,0,none⟩)] w fun e w'=>e = .returned (.bool sh)/\w'=w:=by
 have h2:=h.c2;clear h;go_enter Tryz.func222,Tryz.ntmps222;go_wp2;go_ret;exact ⟨rfl,rfl⟩
theorem Vy (b:Nat) (s:ByteArray) (p:Nat) (sh:Bool) (w:World) (h:bF w b s p sh) :
  Calls Tryz.prog 45 #[.pointer (some ⟨b,0,none⟩)] w fun e w'=>e = .returned (.bool (!sh && decide (p=s.size)))/\∃ k,w'=w.drewN k:=by
 have h0:=h.c0;have h1:=h.c1;have h2:=h.c2;clear h
 cases sh
 ·go_enter Tryz.func45,Tryz.ntmps45;go_wp2
  go_quiet (fail)
  go_wp2;go_ret;refine ⟨?_,_,rfl⟩
  have:((p:Int) == (s.size:Int))=decide (p=s.size):=by rw [Bool.eq_iff_iff]; simp; omega
  simp [this]
 ·go_enter Tryz.func45,Tryz.ntmps45;go_wp2
  go_quiet (fail)
  go_wp2;go_ret;exact ⟨rfl,_,rfl⟩
theorem yqi (b:Nat) (s:ByteArray) (p n:Nat) (sh:Bool) (w:World) (h:bF w b s p sh)
  (hs:s.size<=1048576) (hp:p<=s.size) (hn:n<=s.size - p) :
  Calls Tryz.prog 77 #[.pointer (some ⟨b,0,none⟩),.int .i64 n] w fun e w'=>e = .returned (.string (bs (Lk.aF (sl s) n (p,sh)).1))/\bF w' b s (Lk.aF (sl s) n (p,sh)).2.1 (Lk.aF (sl s) n (p,sh)).2.2/\w.grownBy w' (some b):=by
 have e1:Lk.aF (sl s) n (p,sh)=(((sl s).drop p).take n,(p+n,sh)):=by
  unfold Lk.aF; rw [if_pos (by rw [yu]; exact hn)]
 rw [e1];clear e1;have h0:=h.c0;have h1:=h.c1;have f1:=h.free 1;have R:Hd (bF w b s p sh):=h;clear h;have g1:(0:Int)<=n:=by omega
 have g2:(n:Int)<=(s.size:Int) - p:=by omega
 have g3:(p:Int)+n<=s.size:=by omega
 have hd:decide ((n:Int) < 0)=false:=by simp
 go_enter Tryz.func77,Tryz.ntmps77;go_wp2
 go_quiet (fail)
 go_wp2
 go_quiet (fail)
 go_wp2;go_ret;refine ⟨yrg ?_,?_,?_⟩
 ·rw [OQ,Nat.add_sub_cancel_left]
 ·exact ((R.o.drewN _).set1 (p+n)).drewN _
 ·exact ye (ya (ye (World.grownBy.refl _ _) _) (yf _ _ _ _)) _
theorem yrj (b:Nat) (s:ByteArray) (p n:Nat) (sh:Bool) (w:World) (h:bF w b s p sh)
  (_hs:s.size<=1048576) (_hp:p<=s.size) (_hm:n<=1048576) (hn:s.size - p < n) :
  Calls Tryz.prog 77 #[.pointer (some ⟨b,0,none⟩),.int .i64 n] w fun e w'=>e = .returned (.string (bs (Lk.aF (sl s) n (p,sh)).1))/\bF w' b s (Lk.aF (sl s) n (p,sh)).2.1 (Lk.aF (sl s) n (p,sh)).2.2/\w.grownBy w' (some b):=by
 have e1:Lk.aF (sl s) n (p,sh)=([],(p,true)):=by
  unfold Lk.aF; rw [if_neg (by rw [yu]; omega)]
 rw [e1];clear e1;have h0:=h.c0;have h1:=h.c1;have h2:=h.c2;have f2:=h.free 2;have R:Hd (bF w b s p sh):=h;clear h;have g1:(0:Int)<=n:=by omega
 have g2:(s.size:Int) - p < n:=by omega
 have hd:decide ((n:Int) < 0)=false:=by simp
 go_enter Tryz.func77,Tryz.ntmps77;go_wp2
 go_quiet (fail)
 go_wp2;go_ret;refine ⟨rfl,?_,?_⟩
 ·exact (R.o.drewN _).set2 true
 ·exact ya (ye (World.grownBy.refl _ _) _) (yf _ _ _ _)
theorem Z7 (b:Nat) (s:ByteArray) (p n:Nat) (sh:Bool) (w:World) (h:bF w b s p sh)
  (hs:s.size<=1048576) (hp:p<=s.size) (hm:n<=1048576) :
  Calls Tryz.prog 77 #[.pointer (some ⟨b,0,none⟩),.int .i64 n] w fun e w'=>e = .returned (.string (bs (Lk.aF (sl s) n (p,sh)).1))/\bF w' b s (Lk.aF (sl s) n (p,sh)).2.1 (Lk.aF (sl s) n (p,sh)).2.2/\w.grownBy w' (some b):=by
 by_cases hn:n<=s.size - p
 ·exact yqi b s p n sh w h hs hp hn
 ·exact yrj b s p n sh w h hs hp hm (by omega)
theorem yiY (l:List UInt8) (k:Nat) (hk:k < l.length):Lk.num (l.take (k+1))=Lk.num (l.take k)+(l[k].toNat:Int) * (256:Int) ^ k:=by
 rw [List.take_succ_eq_append_getElem hk,Lk.y7,List.length_take_of_le (by omega)];simp [Lk.num,Int.mul_comm]
theorem VQ (k:Nat) (h:k<=4):1<=(256:Int) ^ k/\(256:Int) ^ k<=4294967296:=by
 rcases (show k=0\/k=1\/k=2\/k=3\/k=4 from by omega) with rfl | rfl | rfl | rfl | rfl <;> decide
theorem ypN (part:List UInt8) (k:Nat) (hk:k < part.length) (h4:part.length<=4) (h':k < (bs part).size) :
  wrap64 (Lk.num (part.take k)+wrap64 (wrap64 (((bs part)[k]'h').toNat:Int) * (256:Int) ^ k))=Lk.num (part.take (k+1)):=by
 have b1:=Lk.num_nonneg (part.take k);have b2:=Lk.qZ (part.take k);rw [List.length_take_of_le (by omega)] at b2;have b3:=VQ k (by omega);have hts:=yiY part k hk;have e0:(((bs part)[k]'h').toNat:Int)=((part[k]'hk).toNat:Int):=rfl;have hb:((part[k]'hk).toNat:Int) < 256:=by have:=(part[k]'hk).toNat_lt; omega
 rw [e0];generalize hc:((part[k]'hk).toNat:Int)=c at hb hts;have hb0:(0:Int)<=c:=by omega
 have m1:c * (256:Int) ^ k<=255 * 4294967296:=Int.mul_le_mul (by omega) b3.2 (by omega) (by omega);have m0:(0:Int)<=c * (256:Int) ^ k:=Int.mul_nonneg hb0 (by omega);rw [IntWalk.wrap64_in c ⟨by omega,by omega⟩,IntWalk.wrap64_in (c * (256:Int) ^ k) ⟨by omega,by omega⟩,IntWalk.wrap64_in _ ⟨by omega,by omega⟩,hts]
theorem Zo (b:Nat) (s:ByteArray) (p n:Nat) (sh:Bool) (w:World) (h:bF w b s p sh)
  (hs:s.size<=1048576) (hp:p<=s.size) (hm:n<=4) :
  Calls Tryz.prog 78 #[.pointer (some ⟨b,0,none⟩),.int .i64 n] w fun e w'=>e = .returned (.int .i64 (Lk.rdNum (sl s) n (p,sh)).1)/\bF w' b s (Lk.rdNum (sl s) n (p,sh)).2.1 (Lk.rdNum (sl s) n (p,sh)).2.2/\w.grownBy w' (some b):=by
 have c:=Z7 b s p n sh w h hs hp (by omega);unfold Lk.rdNum;have hl:(Lk.aF (sl s) n (p,sh)).1.length<=4:=by
  unfold Lk.aF;split
  ·simp; omega
  ·simp
 generalize Lk.aF (sl s) n (p,sh)=r at c hl;obtain ⟨part,st⟩:=r;simp only at c hl ⊢;clear h;have C:=hid c;clear c;go_enter Tryz.func78,Tryz.ntmps78;go_wp2_with fail;refine C.o.mono ?_;rintro e w' ⟨rfl,hr,hg⟩;have R:Hd (bF w' b s st.1 st.2/\w.grownBy w' (some b)):=⟨hr,hg⟩
 clear hr hg C;go_wp2_with fail;have hz:=w9 part
 go_loop [6,7,8] (fun t u i=>∃ k:Nat,k<=part.length/\i = .int .i64 k/\u = .int .i64 ((256:Int) ^ k)/\t = .int .i64 (Lk.num (part.take k))) (fun _ _ i=>part.length - (intOf i).toNat)
 case atStart=>exact ⟨0,Nat.zero_le _,rfl,rfl,rfl⟩
 case round =>
  obtain ⟨k,hk,rfl,rfl,rfl⟩:=hrel;have b1:=Lk.num_nonneg (part.take k);have b2:=Lk.qZ (part.take k);rw [List.length_take_of_le hk] at b2;have b3:=VQ k (by omega);by_cases hlt:k < part.length
  ·have hlt':k < (bs part).size:=by omega
   go_wp2
   go_round
   case rel=>exact ⟨k+1,by omega,by go_num,by rw [Int.pow_succ],by rw [ypN part k hlt hl]⟩
   case measure=>simp [intOf]; omega
  ·go_wp2;go_ret;exact ⟨yF (by rw [List.take_of_length_le (by omega)]),R.o.1,R.o.2⟩
theorem Tryz.kW:(Tryz.prog.info? 3).map (fun i=>(i.zero,i.size,i.bytes))=some (some (.int .i64 0),1,8):=by kernel_rfl
theorem Tryz.zI:(Tryz.prog.info? 100).map (fun i=>(i.zero,i.size,i.bytes))=some (some (.agg #[.string ⟨#[]⟩,.int .i64 0,.int .i64 0,.int .i64 0]),4,40):=by kernel_rfl
theorem Tryz.uw:(Tryz.prog.info? 102).map (fun i=>(i.zero,i.size,i.bytes))=some (some (.agg #[.int .i64 0,.int .i64 0,.int .i64 0,.int .i64 0,.int .i64 0]),5,40):=by kernel_rfl
theorem Li (l:List UInt8) (n:Nat) (st:Lk.St) (h:st.1<=l.length):(Lk.aF l n st).2.1<=l.length:=by
 unfold Lk.aF; split <;> simp <;> omega
theorem yE (l:List UInt8) (n:Nat) (st:Lk.St) (h:st.1<=l.length):(Lk.rdNum l n st).2.1<=l.length:=Li l n st h
theorem II {w wr w1:World} {b:Nat} {row:Option Nat} (h:w.grownBy wr (some b)) (k:wr.grownBy w1 row) (hr:∀ g,row=some g->w.heap.size<=g):w.grownBy w1 (some b) :=
 ⟨k.os.trans h.os,k.tape.trans h.tape,k.output.trans h.output,Nat.le_trans h.size k.size,fun i hi hn =>
  (k.block i (Nat.lt_of_lt_of_le hi h.size) (fun e=>by have:=hr i e.symm; omega)).trans (h.block i hi hn)⟩
theorem ymn {w wr w1:World} {o:Obj} {b:Nat} {s:ByteArray} {p:Nat} {sh:Bool} {row:Option Nat} (hb:b < w.heap.size) (hg:w.grownBy wr (some b)) (hr:bF wr b s p sh) (hk:(wr.alloc o).grownBy w1 row) (hrow:∀ g,row=some g->w.heap.size<=g) :
  bF w1 b s p sh/\w.grownBy w1 (some b):=by
 have h1:wr.grownBy (wr.alloc o) none:=aH wr o none;refine ⟨(hr.grown h1 (by simp)).grown hk (fun e=>by have:=hrow b e.symm; omega),?_⟩;exact II (II hg h1 (by simp)) hk hrow
theorem Lc {w w':World} {base:Nat} {e:TypeId} {size:Nat} {v:Value} {n:Nat} {xs:List Value} {b:Nat} (h:w.ownsRow base e size v n xs) (hb:b < base) (hg:w.grownBy w' (some b)):w'.ownsRow base e size v n xs :=
 h.kept hg (by
  cases hv:v.ownBlock with
  | none=>exact .inl rfl
  | some g=>right; have:=(h.lt g hv).1; simp; omega)
theorem ylC (l:List UInt8) (n:Nat) (st:Lk.St) (h:n<=4):0<=(Lk.rdNum l n st).1/\(Lk.rdNum l n st).1 < 4294967296:=by
 unfold Lk.rdNum;have h1:=Lk.num_nonneg (Lk.aF l n st).1;have h2:=Lk.qZ (Lk.aF l n st).1;have hl:(Lk.aF l n st).1.length<=4:=by
  unfold Lk.aF;split
  ·simp; omega
  ·simp
 have:=VQ _ hl
 exact ⟨h1,by omega⟩
theorem yhu (b:Nat) (s:ByteArray) (p count size:Nat) (sh:Bool) (w:World) (h:bF w b s p sh)
  (hs:s.size<=1048576) (hp:p<=s.size) (hc:count<=65535) (hm:size<=4) :
  Calls Tryz.prog 79 #[.pointer (some ⟨b,0,none⟩),.int .i64 count,.int .i64 size] w fun e w'=>∃ v,e = .returned v /\
   w'.ownsRow w.heap.size 3 1 v (Lk.aR (sl s) size count (p,sh)).1.length ((Lk.aR (sl s) size count (p,sh)).1.map (Value.int .i64)) /\
   bF w' b s (Lk.aR (sl s) size count (p,sh)).2.1 (Lk.aR (sl s) size count (p,sh)).2.2/\w.grownBy w' (some b):=by
 obtain ⟨i0,hi,hz0,hz1,hz2⟩:=info_parts Tryz.kW;have hb:=h.lt;have H:=hid h;clear h;go_enter Tryz.func79,Tryz.ntmps79;go_wp2_with fail
 go_loopw [7,8] (fun v i wr=>∃ (k:Nat) (acc:List Int) (st:Lk.St),k<=count/\i = .int .i64 k/\acc.length=k/\st.1<=s.size /\
   wr.ownsRow w.heap.size 3 1 v acc.length (acc.map (Value.int .i64))/\bF wr b s st.1 st.2/\w.grownBy wr (some b) /\
   Lk.aR (sl s) size count (p,sh)=(acc ++ (Lk.aR (sl s) size (count - k) st).1,(Lk.aR (sl s) size (count - k) st).2)) (fun _ i _=>count - (intOf i).toNat)
 case atStart=>exact ⟨0,[],(p,sh),Nat.zero_le _,rfl,rfl,hp,World.ownsRow_nil _ _ _ _,H.o,World.grownBy.refl _ _,by simp⟩
 case round =>
  obtain ⟨k,acc,st,hk,rfl,hacc,hst,hown,hrd,hgr,heq⟩:=hrel;have HE:=hid heq;have HA:=hid hacc;clear heq;by_cases hlt:k < count
  ·cases hsh:st.2
   ·rw [hsh] at hrd;have hsu:count - k=(count - (k+1))+1:=by omega
    have hnb:=ylC (sl s) size (st.1,false) hm;have hle:=yE (sl s) size (st.1,false) (by rw [yu]; exact hst);have cN:=hid (Zo b s st.1 size false wr hrd hs hst hm);have HN:=hid (show Lk.aR (sl s) size (count - k) st=((Lk.rdNum (sl s) size (st.1,false)).1 :: (Lk.aR (sl s) size (count - (k+1)) (Lk.rdNum (sl s) size (st.1,false)).2).1,(Lk.aR (sl s) size (count - (k+1)) (Lk.rdNum (sl s) size (st.1,false)).2).2) from by
     rw [hsu];have e:st=(st.1,false):=Prod.ext rfl hsh;rw [e]; rfl)
    rw [yu] at hle;clear hsu hsh;generalize Lk.rdNum (sl s) size (st.1,false)=r at *;obtain ⟨x,st'⟩:=r;simp only at cN HN hnb hle;have k2:=hrd.c2;have HR:=hid hrd;clear hrd;have Db:acc.length<=65535:=by omega
    go_wp2_with fail;refine cN.o.mono ?_;rintro e w2 ⟨rfl,wh,iF⟩;have hown2:=Lc hown hb iF;have qO:=ya hgr iF;have HR2:=hid wh;have HG2:=hid qO;have hsz:=qO.size;clear wh iF qO hown hgr HR k2 cN;go_wp2_with (at_builtin; refine wpList_append_own _ rfl _ _ 35 rfl w.heap.size 3 i0 (.int .i64 0) 1 8 Tryz.underlying35 hi hz0 hz1 hz2 rfl (by decide) _ _ _ rfl (hown2.alloc _) ⟨w2.heap.size,0,none⟩ 1 1 [.int .i64 x] rfl rfl (cell_one_new _ _ _) (by intro u hu; simp at hu; subst hu; rfl) (by unfold maxLen; omega) (by omega) (by simp; omega) ?_; intro v' w3 hown' hgrow _)
    have K:=ymn hb HG2.o HR2.o hgrow (fun g hg=>(hown2.lt g hg).1);clear hgrow hown2;go_wp2
    go_roundw
    case rel =>
     refine ⟨k+1,acc ++ [x],st',by omega,by go_num,by simp [HA.o],hle,?_,K.1,K.2,?_⟩
     ·simpa using hown'
     ·rw [HE.o,HN.o]; simp
    case measure=>simp [intOf]; omega
   ·rw [hsh] at hrd;have hfin:Lk.aR (sl s) size count (p,sh)=(acc,(st.1,true)):=by
     have hsu:count - k=(count - (k+1))+1:=by omega
     rw [HE.o,hsu];have e:st=(st.1,true):=Prod.ext rfl hsh;rw [e];simp [Lk.aR]
    have HF:=hid hfin;clear hfin hsh HE;have k2:=hrd.c2;have HR:=hid hrd;clear hrd;go_wp2;go_ret;rw [HF.o];exact ⟨_,rfl,hown,HR.o,hgr⟩
  ·have hfin:Lk.aR (sl s) size count (p,sh)=(acc,st):=by
    have hsu:count - k=0:=by omega
    rw [HE.o,hsu];simp [Lk.aR]
   have HF:=hid hfin;clear hfin HE;have HR:=hid hrd;clear hrd;have hd:decide ((k:Int) < (count:Int))=false:=by simp; omega
   go_wp2;go_ret;rw [HF.o];exact ⟨_,rfl,hown,HR.o,hgr⟩
end Go.Proofs.YtpgklkhgfcjceaaGreatDoor
