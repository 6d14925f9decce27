
import Derived.Test.YtnkkepfcpjllmaaGreatDoorU11
set_option maxHeartbeats 16000000
set_option maxRecDepth 100000
namespace Go.Proofs.YtnkkepfcpjllmaaGreatDoor
namespace Rf
section
variable {s:List UInt8} {L:List Tk} {d:Ds} {st:As.St}
theorem mq (t:As.Tok) (st:As.St):aD st (As.label t st):=fun h=>by
 have q:=(jF t st).trans (eB t (As.aP t st)) h;have f:(As.aP t st).fe≠0:=by rw [(jF t st h).1]; exact h
 have e:(As.au t (As.aP t st)).1.2=false:=by
  unfold As.au As.failed;rw [if_pos (by simp [f])]
 unfold As.label;simp only;rw [e];exact q
theorem vR (t:Tk) (d:Ds):aQ d (label t d):=((oW t d).trans (lZ t.text t.at_ (proper t d))).trans fun h=>by
 unfold label;simp only;rw [if_neg h];exact ⟨rfl,rfl⟩
theorem C8 (t:As.Tok) (x:Tk) (ht:x.text=t.text) (ha:x.at_=t.pos) (h:bM s L d st):bM s L (label x d) (As.label t st):=by
 obtain ⟨q1,q2,q3⟩:=vD t x ht ha (tq t x ht ha h);unfold label As.label;simp only;generalize entry x.text x.at_ (proper x d)=R at *;generalize As.au t (As.aP t st)=R' at *;by_cases hf:R.2.fe=0
 ·rw [if_pos hf,q2 hf,q1.obj hf];simp only [Bool.not_true,Bool.false_eq_true,if_false];by_cases c:((R.2.obj.syms[R.1]?).map (·.ah)).getD 0=0
  ·rw [if_pos c,if_neg (not_not_intro c)];have p:=q1.put { R.2.obj with syms:=R.2.obj.syms.modify R.1 fun y=>⟨y.name,y.bind,R.2.ah,4 * As.aA R.2.obj R.2.ah⟩ } R.2.said (by simp; exact q1.syms hf) (q1.aj hf) (by
    rw [q1.said hf];apply List.ext_getElem?;intro i;rw [List.getElem?_map,List.getElem?_map,List.getElem?_modify]
    cases R.2.obj.syms[i]? with
    | none=>rfl
    | some y=>by_cases e:R.1=i <;> simp [e])
   unfold As.lH;rw [q1.obj hf,q1.ah hf];rw [q1.ah hf] at p;exact p
  ·rw [if_neg c,if_pos c,ha];exact eZ 10 _ (by decide) q1
 ·rw [if_neg hf,q3 hf];exact q1
theorem Eh (w:List UInt8):(∀ i,pJ.findIdx? (· == w)=some i->pJ[i]?=some w)/\(pJ.findIdx? (· == w)=none->w ∉ pJ):=by
 refine ⟨fun i h=>?_,fun h=>?_⟩
 ·obtain ⟨hl,hp,-⟩:=List.findIdx?_eq_some_iff_getElem.1 h;have e:pJ[i]=w:=by simpa using hp
  rw [List.getElem?_eq_getElem hl,e]
 ·intro hm
  have:=List.findIdx?_eq_none_iff.1 h w hm
  simp at this
theorem uJ (t:As.Tok) (hd:d.fe=0) (hb:0<=d.obj.bss) (h:bM s L d st):bM s L (operation L t.text { d with op:=t.pos }) (As.operation s t st):=by
 have h':=h.at t;unfold operation;by_cases c:t.text.headD 0=46
 ·rw [if_pos c];exact uI t c hd hb h' rfl
 rw [if_neg c];have fm:=Eh t.text;have dn:∀ e,e≠0->bM s L (bad e t.pos { d with op:=t.pos }) (As.refuse e t.pos st):=fun e he=>by
  have z:st.fe=0:=h.fe.trans hd;have e2:As.refuse e t.pos st={ st with fe:=e,fa:=t.pos,tok:=As.Tok.nil }:=by
   unfold As.refuse As.failed;rw [if_neg (by simp [z])]
  have e1:bad e t.pos { d with op:=t.pos }={ d with op:=t.pos,fe:=e,fa:=t.pos }:=by unfold bad; rw [if_pos hd]
  rw [e1,e2];exact bM.down rfl he rfl
 cases e:pJ.findIdx? (· == t.text) with
 | none =>
  have n:=fm.2 e;simp only;unfold As.operation;rw [sW _ c n,if_pos rfl];exact dn 6 (by decide)
 | some i =>
  have m:=fm.1 i e;have sc:=Ah t.text (List.mem_of_getElem? m);have se:st.ah=d.ah:=h.ah hd;simp only;unfold As.operation;rw [if_neg sc.1];have ms:As.dX (As.shapeOf t.text) st.ah=As.gL d.ah:=by unfold As.dX; rw [if_pos sc.2,se]
  rw [ms];by_cases z:d.ah=1\/d.ah=2
  ·have ic:As.gL d.ah=true:=by unfold As.gL; rcases z with z | z <;> simp [z]
   rw [ic,if_pos z];simp only [Bool.not_true,Bool.false_eq_true,if_false];rw [if_pos sc.2];exact CZ t i m (fun _=>z) h'
  ·have ic:As.gL d.ah=false:=by
    unfold As.gL;have h1:d.ah≠1:=fun x=>z (.inl x)
    have h2:d.ah≠2:=fun x=>z (.inr x)
    simp [h1,h2]
   rw [ic,if_neg z];simp only [Bool.not_false,if_true];exact dn 9 (by decide)
def jc (L:List Tk) (t:Tk) (d:Ds):Ds :=
 if d.fe=0 then
  let r:=operation L t.text { d with op:=t.at_ }
  if (tk L r).kind=101 then r else bad 3 (tk L r).at_ r
 else d
def jS (L:List Tk) (d:Ds):Ds :=
 let d0:=look L d
 if d0.fe≠0\/(tk L d).kind=101 then d0
 else if (tk L d).kind=119 then
  let d1:=step L d0
  if (tk L d1).kind=58 then
   let d2:=step L (label (tk L d) d1)
   if d2.fe≠0\/(tk L d2).kind=101 then d2
   else if (tk L d2).kind=119 then jc L (tk L d2) (step L d2) else bad 3 (tk L d2).at_ d2
  else jc L (tk L d) d1
 else bad 3 (tk L d).at_ d0
theorem fF (s:List UInt8) (t:As.Tok) (st:As.St):aD st (As.gM s t st):=by
 unfold As.gM;simp only;have o:aD st (if t.kind == 1 then As.operation s t st else st):=aD.ite (qL _ _ _) aD.refl;exact o.trans (aD.ite aD.refl (bE _ _ _))
theorem qm (t:As.Tok) (x:Tk) (h1:t.kind=1) (ht:x.text=t.text) (ha:x.at_=t.pos) (hb:d.fe=0->0<=d.obj.bss) (h:bM s L d st):bM s L (jc L x d) (As.gM s t st):=by
 by_cases hd:d.fe=0
 ·have o:=uJ t hd (hb hd) h;unfold jc As.gM;rw [if_pos hd,ht,ha];simp only;rw [if_pos (show (t.kind == 1)=true by simp [h1])];generalize operation L t.text { d with op:=t.pos }=R at *;generalize As.operation s t st=R' at *;by_cases hf:R.fe=0
  ·have w:=o.word hf;by_cases c:(tk L R).kind=101
   ·rw [if_pos c,if_pos (by simpa using w.2.2.2.2.1.2 c)];exact o
   ·rw [if_neg c,if_neg (by simpa using fun x=>c (w.2.2.2.2.1.1 x)),w.2.2.2.2.2.1];exact eZ 3 _ (by decide) o
  ·refine o.stays hf ?_ ?_
   ·exact aD.ite aD.refl (bE _ _ _)
   ·exact aQ.ite aQ.refl (fP _ _ _)
 ·refine h.stays hd (fF _ _ _) fun _=>?_
  unfold jc;rw [if_neg hd];exact ⟨rfl,rfl⟩
theorem ql (h:bM s L d st) (t:As.Tok) (ht:t.kind=0):bM s L (if d.fe≠0\/(tk L d).kind=101 then d else bad 3 (tk L d).at_ d) (As.gM s t st):=by
 unfold As.gM;simp only;rw [if_neg (show ¬ (t.kind == 1)=true by simp [ht])];by_cases hd:d.fe=0
 ·have w:=h.word hd;by_cases c:(tk L d).kind=101
  ·rw [if_pos (.inr c),if_pos (by simpa using w.2.2.2.2.1.2 c)];exact h
  ·rw [if_neg (fun x=>x.elim (fun y=>y hd) c),if_neg (by simpa using fun x=>c (w.2.2.2.2.1.1 x)),w.2.2.2.2.2.1];exact eZ 3 _ (by decide) h
 ·rw [if_pos (.inl hd)];exact h.stays hd (aD.ite aD.refl (bE _ _ _)) aQ.refl
theorem kR (c:Bool) (e a:Nat) (d:Ds):(aH c e a d).obj=d.obj:=by
 unfold aH bad;split
 ·split <;> rfl
 ·rfl
theorem iy (L:List Tk) (d:Ds):(step L d).obj=d.obj:=by
 unfold step look;rw [kR];split <;> rfl
theorem Ct (n:List UInt8) (a:Nat) (d:Ds):(entry n a d).2.obj.bss=d.obj.bss:=by
 unfold entry;split
 ·rfl
 ·split
  ·rfl
  ·exact congrArg Lk.Obj.bss (kR _ _ _ _)
theorem og (t:Tk) (d:Ds):(proper t d).obj=d.obj:=by
 unfold proper;rw [kR,kR,kR]
theorem Cy (t:Tk) (d:Ds):(label t d).obj.bss=d.obj.bss:=by
 have e:(entry t.text t.at_ (proper t d)).2.obj.bss=d.obj.bss:=by rw [Ct,og]
 unfold label;simp only;split
 ·split
  ·exact e
  ·unfold bad;split <;> exact e
 ·exact e
theorem Fj (hb:0<=d.obj.bss) (h:bM s L (look L d) (As.advance s st)) (hk:(look L d).fe=0->look L d=d):bM s L (jS L d) (As.line s st):=by
 unfold jS As.line;simp only;by_cases hd:(look L d).fe=0
 ·have e0:=hk hd;rw [e0] at h hd ⊢;have w:=h.word hd;by_cases c1:(tk L d).kind=119
  ·have k1:=w.1.2 c1;have tw:As.aU s (As.advance s st)=((As.advance s st).tok,As.advance s (As.advance s st)):=by unfold As.aU; rw [if_pos (by simp [k1])]
   have S1:=iM h;rw [tw,if_neg (by omega),if_pos c1];simp only;have VO:(step L d).obj=d.obj:=iy L d;by_cases hd1:(step L d).fe=0
   ·have q:=S1.sign hd1 58 (by decide);by_cases c2:(tk L (step L d)).kind=58
    ·have is:=q.2 c2;rw [if_pos c2,if_pos (show ((As.advance s st).tok.kind == 1 && (As.advance s (As.advance s st)).tok.is [58])=true by rw [is]; simp [k1])];have S2:=iM (C8 (As.advance s st).tok (tk L d) (w.2.1 k1) w.2.2.2.2.2.1 S1);have Tv:(step L (label (tk L d) (step L d))).obj.bss=d.obj.bss:=by rw [iy,Cy,VO]
     generalize step L (label (tk L d) (step L d))=D at *;generalize As.advance s (As.label (As.advance s st).tok (As.advance s (As.advance s st)))=D' at *;by_cases hD:D.fe=0
     ·have w2:=S2.word hD;by_cases c3:(tk L D).kind=119
      ·have k3:=w2.1.2 c3;have Tz:As.aU s D'=(D'.tok,As.advance s D'):=by unfold As.aU; rw [if_pos (by simp [k3])]
       rw [Tz,if_neg (by omega),if_pos c3];exact qm D'.tok (tk L D) k3 (w2.2.1 k3) w2.2.2.2.2.2.1 (fun _=>by rw [iy,Tv]; exact hb) (iM S2)
      ·have n3:¬ D'.tok.kind=1:=fun x=>c3 (w2.1.1 x)
       have Tz:As.aU s D'=(As.Tok.nil,D'):=by unfold As.aU; rw [if_neg (by simpa using n3)]
       rw [Tz,if_neg c3];exact ql S2 As.Tok.nil rfl
     ·rw [if_pos (.inl hD)];refine S2.stays hD ?_ aQ.refl;unfold As.aU;split
      ·exact (aX _ _).trans (fF _ _ _)
      ·exact fF _ _ _
    ·have ni:¬ (As.advance s (As.advance s st)).tok.is [58]=true:=fun x=>c2 (q.1 x)
     rw [if_neg c2,if_neg (show ¬ ((As.advance s st).tok.kind == 1 && (As.advance s (As.advance s st)).tok.is [58])=true by simp [ni])];exact qm (As.advance s st).tok (tk L d) k1 (w.2.1 k1) w.2.2.2.2.2.1 (fun _=>by rw [VO]; exact hb) S1
   ·refine S1.stays hd1 ?_ ?_
    ·split
     ·unfold As.aU;split
      ·exact (((mq _ _).trans (aX _ _)).trans (aX _ _)).trans (fF _ _ _)
      ·exact ((mq _ _).trans (aX _ _)).trans (fF _ _ _)
     ·exact fF _ _ _
    ·have u:aQ (step L d) (step L (label (tk L d) (step L d))):=(vR _ _).trans (dD _ _);have op:∀ t d,aQ d (jc L t d):=fun t d x=>by unfold jc; rw [if_neg x]; exact ⟨rfl,rfl⟩
     split
     ·split
      ·exact u
      split
      ·exact (u.trans (dD _ _)).trans (op _ _)
      ·exact u.trans (fP _ _ _)
     ·exact op _ _
  ·have n1:¬ (As.advance s st).tok.kind=1:=fun x=>c1 (w.1.1 x)
   have tw:As.aU s (As.advance s st)=(As.Tok.nil,As.advance s st):=by unfold As.aU; rw [if_neg (by simpa using n1)]
   rw [tw,if_neg c1];simp only;rw [if_neg (show ¬ (As.Tok.nil.kind == 1 && (As.advance s st).tok.is [58])=true by simp [As.Tok.nil])];exact ql h As.Tok.nil rfl
 ·rw [if_pos (.inl hd)];refine h.stays hd ?_ aQ.refl;have tk1:aD (As.advance s st) (As.aU s (As.advance s st)).2:=by
   unfold As.aU;split
   ·exact aX _ _
   ·exact aD.refl
  split
  ·have tk2:∀ x,aD x (As.aU s x).2:=fun x=>by
    unfold As.aU;split
    ·exact aX _ _
    ·exact aD.refl
   exact (((tk1.trans (mq _ _)).trans (aX _ _)).trans (tk2 _)).trans (fF _ _ _)
  ·exact tk1.trans (fF _ _ _)
end
end Rf
end Go.Proofs.YtnkkepfcpjllmaaGreatDoor

namespace Go.Proofs.YtnkkepfcpjllmaaGreatDoor
namespace Rf
theorem Io (f:UInt8->Bool) (s:List UInt8) (p:Nat) (h:((s[p]?).map f).getD false=false):As.skip f s p=p:=by
 unfold As.skip;have e:(s.drop p).takeWhile f=[]:=by
  cases g:s.drop p with
  | nil=>rfl
  | cons c r =>
   have:s[p]?=some c:=by
    have h0:(s.drop p)[0]?=s[p]?:=by simp
    rw [<- h0,g];rfl
   rw [this] at h;have h':f c=false:=h;simp [h']
 rw [e];rfl
theorem Fv (f:UInt8->Bool) (s:List UInt8) (p:Nat) (h:((s[p]?).map f).getD false=true):As.skip f s p=As.skip f s (p+1):=by
 unfold As.skip
 cases g:s[p]? with
 | none=>rw [g] at h; cases h
 | some c =>
  rw [g] at h;have h':f c=true:=h;obtain ⟨hl,e⟩:=List.getElem?_eq_some_iff.1 g;rw [List.drop_eq_getElem_cons hl,e,List.takeWhile_cons,h',if_pos rfl,List.length_cons];omega
theorem zI (c:UInt8) (h:As.ends c=true):As.blank c=false:=by
 unfold As.ends at h;unfold As.blank;simp only [Bool.or_eq_true,beq_iff_eq] at h;simp only [Bool.or_eq_false_iff,beq_eq_false_iff_ne];omega
theorem zW (s:List UInt8) (p:Nat) (h:((s[p]?).map As.blank).getD false=true):As.next s p=As.next s (p+1):=by
 unfold As.next;rw [Fv As.blank s p h]
theorem sK (s:List UInt8) (p:Nat) (h:((s[p]?).map As.blank).getD false=false):As.next s p=As.gN s p:=by
 unfold As.next;rw [Io As.blank s p h]
theorem EF (s:List UInt8) (p:Nat) (h:oJ s p=true):As.next s p=(⟨4,p,[],0⟩,(0,0),p):=by
 unfold oJ at h;have b:((s[p]?).map As.blank).getD false=false:=by
  cases g:s[p]? with
  | none=>rfl
  | some c=>rw [g] at h; exact zI c h
 rw [sK s p b];unfold As.gN
 cases g:s[p]? with
 | none=>rfl
 | some c =>
  rw [g] at h;have h':As.ends c=true:=h;simp [h']
theorem EI (s:List UInt8) (p:Nat) (h:oJ s p=false) (hb:((s[p]?).map As.blank).getD false=false) :
  conv (As.next s p).1 (As.next s p).2.1=(one s p).1/\((As.next s p).2.1.1=0->Dy (As.next s p).1)/\(one s p).1.kind≠101/\((one s p).1.kind≠33->(As.next s p).2.2=(one s p).2):=by
 rw [sK s p hb];unfold oJ at h;unfold As.gN one
 cases g:s[p]? with
 | none=>rw [g] at h; cases h
 | some c =>
  rw [g] at h;have h':As.ends c=false:=h;simp only [h',Bool.false_eq_true,if_false]
  cases hd:As.aK c with
  | true =>
   simp only [if_true];unfold As.gU;split
   ·exact ⟨rfl,fun x=>(by cases x),(show (33:Nat)≠101 by decide),fun x=>absurd rfl x⟩
   split
   ·exact ⟨rfl,fun x=>(by cases x),(show (33:Nat)≠101 by decide),fun x=>absurd rfl x⟩
   ·exact ⟨rfl,fun _=>.inr (.inl rfl),(show (110:Nat)≠101 by decide),fun _=>rfl⟩
  | false =>
   simp only [Bool.false_eq_true,if_false]
   cases hw:As.aI c with
   | true=>exact ⟨rfl,fun _=>.inl rfl,(show (119:Nat)≠101 by decide),fun _=>rfl⟩
   | false =>
    simp only [Bool.false_eq_true,if_false]
    cases hs:As.gG c with
    | true =>
     refine ⟨rfl,fun _=>.inr (.inr (.inl ⟨rfl,c,rfl,hs⟩)),?_,fun _=>rfl⟩;have q:c.toNat=44\/c.toNat=58\/c.toNat=40\/c.toNat=41\/c.toNat=43\/c.toNat=45:=by
      unfold As.gG at hs;simp only [Bool.or_eq_true,beq_iff_eq] at hs;omega
     show c.toNat≠101;omega
    | false=>exact ⟨rfl,fun x=>(by cases x),(show (33:Nat)≠101 by decide),fun x=>absurd rfl x⟩
theorem jD (s:List UInt8) (p:Nat) (h:oJ s p=false) (hk:(one s p).1.kind≠33):p < (one s p).2/\(one s p).2<=s.length:=by
 unfold oJ at h;unfold one at hk ⊢
 cases g:s[p]? with
 | none=>rw [g] at h; cases h
 | some c =>
  obtain ⟨hl,-⟩:=List.getElem?_eq_some_iff.1 g;rw [g] at hk;simp only at hk ⊢;have sk:∀ f:UInt8->Bool,f c=true->p < As.skip f s p/\As.skip f s p<=s.length:=fun f hf=>by
   unfold As.skip;have l1:((s.drop p).takeWhile f).length<=(s.drop p).length:=(List.takeWhile_sublist _).length_le;rw [List.length_drop] at l1;obtain ⟨hl,e⟩:=List.getElem?_eq_some_iff.1 g;rw [List.drop_eq_getElem_cons hl,e,List.takeWhile_cons,hf,if_pos rfl,List.length_cons] at l1 ⊢;omega
  cases hd:As.aK c with
  | true =>
   rw [hd] at hk;simp only [if_true] at hk ⊢;by_cases c1:10 < ((s.drop p).takeWhile As.aK).length
   ·rw [if_pos c1] at hk; exact absurd rfl hk
   ·rw [if_neg c1] at hk ⊢;by_cases c2:((s[As.skip As.aK s p]?).map As.aI).getD false=true
    ·rw [if_pos c2] at hk; exact absurd rfl hk
    ·rw [if_neg c2];exact sk As.aK hd
  | false =>
   rw [hd] at hk;simp only [Bool.false_eq_true,if_false] at hk ⊢
   cases hw:As.aI c with
   | true=>exact sk As.aI hw
   | false =>
    rw [hw] at hk;simp only [Bool.false_eq_true,if_false] at hk ⊢
    cases hs:As.gG c with
    | true=>exact ⟨by show p < p+1; omega,by show p+1<=_; omega⟩
    | false=>rw [hs] at hk; exact absurd rfl hk
theorem zG {s:List UInt8} {p q:Nat} (h:As.next s p=As.next s q):∀ L:List Tk,Ahead s q L->Ahead s p L
 | [],x=>x
 | [_],x=>by unfold Ahead at x ⊢; rw [h]; exact x
 | _ :: _ :: _,x=>by unfold Ahead at x ⊢; rw [h]; exact x
theorem wF (s:List UInt8) (n:Nat):∀ p,p<=s.length->s.length < n+p->Ahead s p (aV s n p).1/\∀ pe,(aV s n p).1.getLast?=some ⟨101,pe,[],0,0⟩->(aV s n p).2=As.skip As.bF s pe+1:=by
 induction n with
 | zero=>intro p hp h; omega
 | succ n ih =>
  intro p hp h;unfold aV;by_cases c1:oJ s p=true
  ·rw [if_pos c1];have e:=EF s p c1;refine ⟨?_,fun pe x=>?_⟩
   ·unfold Ahead;rw [e];exact ⟨rfl,fun _=>.inr (.inr (.inr rfl)),.inr ⟨rfl,e⟩⟩
   ·have:(⟨101,p,[],0,0⟩:Tk)=⟨101,pe,[],0,0⟩:=Option.some.inj x
    have:p=pe:=congrArg Tk.at_ this
    rw [this]
  rw [if_neg c1];have c1':oJ s p=false:=by simpa using c1
  have lt:p < s.length:=by
   unfold oJ at c1'
   cases g:s[p]? with
   | none=>rw [g] at c1'; cases c1'
   | some c=>exact (List.getElem?_eq_some_iff.1 g).1
  by_cases c2:((s[p]?).map As.blank).getD false=true
  ·rw [if_pos c2];obtain ⟨a,b⟩:=ih (p+1) (by omega) (by omega);exact ⟨zG (zW s p c2) _ a,b⟩
  rw [if_neg c2];have c2':((s[p]?).map As.blank).getD false=false:=by simpa using c2
  obtain ⟨n1,n2,n3,n4⟩:=EI s p c1' c2';by_cases c3:(one s p).1.kind=33
  ·rw [if_pos c3];refine ⟨?_,fun pe x=>?_⟩
   ·unfold Ahead;exact ⟨n1,n2,.inl c3⟩
   ·have e:(one s p).1=⟨101,pe,[],0,0⟩:=Option.some.inj x;rw [e] at c3
    cases c3
  ·rw [if_neg c3];obtain ⟨m1,m2⟩:=jD s p c1' c3;obtain ⟨a,b⟩:=ih (one s p).2 m2 (by omega)
   cases g:(aV s n (one s p).2).1 with
   | nil=>rw [g] at a; exact a.elim
   | cons x xs =>
    rw [g] at a b;refine ⟨?_,fun pe y=>b pe (by rw [<- y]; rfl)⟩;unfold Ahead;exact ⟨n1,n2,c3,n3,by rw [n4 c3]; exact a⟩
end Rf
end Go.Proofs.YtnkkepfcpjllmaaGreatDoor

namespace Go.Proofs.YtnkkepfcpjllmaaGreatDoor
namespace Rf
def eD (s:List UInt8):Nat->Nat->Ds->Ds
 | 0,_,d=>d
 | n+1,p,d=>if p < s.length/\d.fe=0 then eD s n (tokens s p).2 (jS (tokens s p).1 { d with k:=0 }) else d
def gQ:Ds:=⟨0,0,0,1,0,⟨[],[],[],0,[2,2,2,2],[],[]⟩,[]⟩
def bV (s:List UInt8):(Nat×Nat)×Lk.Obj :=
 if 1000 < s.length then ((1,0),gQ.obj) else (((eD s (s.length+1) 0 gQ).fe,(eD s (s.length+1) 0 gQ).fa),As.finish (eD s (s.length+1) 0 gQ).obj)
structure Sb (d:Ds) (st:As.St):Prop where
 fe:d.fe=0
 La:st.fe=0
 obj:st.obj=d.obj
 ah:st.ah=d.ah
 op:st.op.pos=d.op
 syms:d.obj.syms.length<=16
 aj:d.obj.aj.length<=32
 secs:1<=d.ah/\d.ah<=4
 said:d.said=d.obj.syms.map fun y=>decide (y.bind≠0)
theorem Sb.of {s:List UInt8} {L:List Tk} {d:Ds} {st:As.St} (h:bM s L d st) (hd:d.fe=0):Sb d st:=⟨hd,h.fe.trans hd,h.obj hd,h.ah hd,h.op hd,h.syms hd,h.aj hd,h.secs hd,h.said hd⟩
section
variable {s:List UInt8} {L:List Tk} {d:Ds} {st:As.St}
theorem CY (h:Sb d st) (hk:d.k=0) (A:Ahead s st.p L):bM s L (look L d) (As.advance s st)/\((look L d).fe=0->look L d=d):=by
 have hf:As.failed st=false:=by unfold As.failed; simp [h.La]
 cases L with
 | nil=>exact A.elim
 | cons x xs =>
  have tx:tk (x :: xs) d=x:=by unfold tk; rw [hk]; rfl
  unfold Ahead at A;obtain ⟨a1,a2,a3⟩:=A;unfold look;rw [tx];unfold As.advance;rw [hf];simp only [Bool.false_eq_true,if_false];by_cases hn:(As.next s st.p).2.1.1=0
  ·have G:=a2 hn;have I:Is (As.next s st.p).1 x:=⟨G,by rw [<- a1]; unfold conv; simp [hn]⟩
   have W:=q9 I;rw [decide_eq_false W.2.2.2.2.2.2,if_pos (by simp [hn])];refine ⟨⟨h.La.trans h.fe.symm,fun c=>absurd h.fe c,fun _=>?_,fun _=>h.obj,fun _=>h.ah,fun _=>h.op,fun _=>?_,fun _ c=>?_,fun _ c=>?_,fun _=>h.syms,fun _=>h.aj,fun _=>h.secs,fun _=>h.said⟩,fun _=>rfl⟩
   ·show Is (As.next s st.p).1 (tk (x :: xs) d);rw [tx];exact I
   ·show d.k < _;rw [hk];simp
   ·have c':d.k+1 < (x :: xs).length:=c;show Ahead s (As.next s st.p).2.2 ((x :: xs).drop (d.k+1));rw [hk]
    cases xs with
    | nil=>rw [hk] at c'; simp at c'
    | cons y ys=>exact a3.2.2
   ·have c':¬ d.k+1 < (x :: xs).length:=c;have z:xs=[]:=by
     cases xs with
     | nil=>rfl
     | cons y ys=>rw [hk] at c'; simp at c'
    subst z;rcases a3 with a3 | ⟨a3,a4⟩
    ·exact absurd a3 W.2.2.2.2.2.2
    ·show (tk [x] d).kind=101/\As.next s (As.next s st.p).2.2=_;rw [tx];exact ⟨a3,a4⟩
  ·have e33:x=⟨33,(As.next s st.p).2.1.2,[],0,(As.next s st.p).2.1.1⟩:=by rw [<- a1]; unfold conv; rw [if_pos hn]
   rw [if_neg (by simpa using hn),e33];have e1:aH (decide ((⟨33,(As.next s st.p).2.1.2,[],0,(As.next s st.p).2.1.1⟩:Tk).kind=33)) (As.next s st.p).2.1.1 (As.next s st.p).2.1.2 d={ d with fe:=(As.next s st.p).2.1.1,fa:=(As.next s st.p).2.1.2 }:=by
    unfold aH bad;simp [h.fe]
   have e2:As.refuse (As.next s st.p).2.1.1 (As.next s st.p).2.1.2 { st with p:=(As.next s st.p).2.2 }={ st with p:=(As.next s st.p).2.2,fe:=(As.next s st.p).2.1.1,fa:=(As.next s st.p).2.1.2,tok:=As.Tok.nil }:=by
    unfold As.refuse As.failed;simp [h.La]
   rw [e1,e2];exact ⟨bM.down rfl hn rfl,fun c=>absurd c hn⟩
theorem sN (L:List Tk) (t:Tk) (d:Ds) (h:(jc L t d).fe=0):(tk L (jc L t d)).kind=101:=by
 unfold jc at h ⊢;by_cases hd:d.fe=0
 ·rw [if_pos hd] at h ⊢;simp only at h ⊢;by_cases c:(tk L (operation L t.text { d with op:=t.at_ })).kind=101
  ·rw [if_pos c]; exact c
  ·rw [if_neg c] at h;exact absurd h (bH 3 _ (by decide) _)
 ·rw [if_neg hd] at h;exact absurd h hd
theorem CB (L:List Tk) (d:Ds) (hk:(look L d).fe=0->look L d=d) (h:(jS L d).fe=0):(tk L (jS L d)).kind=101:=by
 unfold jS at h ⊢;simp only at h ⊢;by_cases c0:(look L d).fe≠0\/(tk L d).kind=101
 ·rw [if_pos c0] at h ⊢;rcases c0 with c | c
  ·exact absurd h c
  ·rw [hk h]; exact c
 rw [if_neg c0] at h ⊢;by_cases c1:(tk L d).kind=119
 ·rw [if_pos c1] at h ⊢;by_cases c2:(tk L (step L (look L d))).kind=58
  ·rw [if_pos c2] at h ⊢;generalize step L (label (tk L d) (step L (look L d)))=D at *;by_cases c3:D.fe≠0\/(tk L D).kind=101
   ·rw [if_pos c3] at h ⊢;rcases c3 with c | c
    ·exact absurd h c
    ·exact c
   rw [if_neg c3] at h ⊢;by_cases c4:(tk L D).kind=119
   ·rw [if_pos c4] at h ⊢;exact sN _ _ _ h
   ·rw [if_neg c4] at h;exact absurd h (bH 3 _ (by decide) _)
  ·rw [if_neg c2] at h ⊢;exact sN _ _ _ h
 ·rw [if_neg c1] at h;exact absurd h (bH 3 _ (by decide) _)
theorem qh:∀ (L:List Tk) (p:Nat),Ahead s p L->∀ i,i+1 < L.length->(L.getD i Tk.nil).kind≠101
 | [],_,h,_,_=>h.elim
 | [_],_,_,i,hi=>by simp at hi
 | x :: y :: ys,p,h,i,hi=>by
  unfold Ahead at h;obtain ⟨-,-,-,h2,h3⟩:=h
  cases i with
  | zero=>exact h2
  | succ i=>exact qh (y :: ys) _ h3 i (by simpa using hi)
theorem CG (s:List UInt8) (p:Nat) (h:(As.next s p).1.kind=4):(As.next s p).2.2=(As.next s p).1.pos:=by
 unfold As.next at h ⊢;generalize As.skip As.blank s p=q at *;unfold As.gN at h ⊢
 cases g:s[q]? with
 | none=>rfl
 | some c =>
  rw [g] at h;simp only at h ⊢;split at h
  ·rename_i e; rw [if_pos e]
  rename_i e1;rw [if_neg e1];split at h
  ·unfold As.gU at h;split at h
   ·cases h
   split at h
   ·cases h
   ·cases h
  split at h
  ·cases h
  split at h
  ·cases h
  ·cases h
theorem qo {p:Nat} (h:bM s L d st) (hd:d.fe=0) (hk:(tk L d).kind=101) (A:Ahead s p L):L.getLast?=some ⟨101,st.p,[],0,0⟩:=by
 have kl:=h.k hd;have nl:¬ d.k+1 < L.length:=fun c=>qh L p A d.k c hk
 have l:=(h.last hd nl).2;have t:=h.tok hd;have w:=q9 t;have k4:=w.2.2.2.2.1.2 hk;have e1:st.p=st.tok.pos:=by
  have f:=CG s st.p (by rw [l]; exact k4);rw [l] at f;exact f
 have e2:tk L d=⟨101,st.tok.pos,[],0,0⟩:=by
  rw [<- t.2];unfold conv;simp [k4]
 have e3:L.getLast?=some (tk L d):=by
  rw [List.getLast?_eq_getElem?];unfold tk;rw [show L.length - 1=d.k by omega,List.getD_eq_getElem?_getD,List.getElem?_eq_getElem kl];rfl
 rw [e3,e2,<- e1]
def Y9 (d:Ds) (st:As.St):Prop:=st.fe=d.fe/\(d.fe≠0->st.fa=d.fa)/\(d.fe=0->st.obj=d.obj)
theorem uZ (s:List UInt8) (n:Nat):∀ (p:Nat) (d:Ds) (st:As.St),Sb d st->st.p=p->p<=s.length->As.Tm st.obj->Y9 (eD s n p d) (As.lines s n st):=by
 induction n with
 | zero=>intro p d st h _ _ _; exact ⟨h.La.trans h.fe.symm,fun c=>absurd h.fe c,fun _=>h.obj⟩
 | succ n ih =>
  intro p d st h hp hl hT;have h0:Sb { d with k:=0 } st:=⟨h.fe,h.La,h.obj,h.ah,h.op,h.syms,h.aj,h.secs,h.said⟩
  obtain ⟨A,B⟩:=wF s (s.length+1 - p) p hl (by omega);have A':Ahead s st.p (aV s (s.length+1 - p) p).1:=by rw [hp]; exact A
  obtain ⟨f1,f2⟩:=CY h0 rfl A';have hb:0<=d.obj.bss:=by rw [<- h.obj]; exact hT.bss.1
  have S:=Fj (d:={ d with k:=0 }) hb f1 f2;have T1:=As.A8 s st hT;have E:=CB _ _ f2;unfold As.lines;simp only;by_cases c:p < s.length
  ·have u:eD s (n+1) p d=eD s n (tokens s p).2 (jS (tokens s p).1 { d with k:=0 }):=by
    conv=>lhs; unfold eD
    rw [if_pos ⟨c,h.fe⟩]
   rw [u];have eT:tokens s p=aV s (s.length+1 - p) p:=rfl;rw [eT];generalize jS (aV s (s.length+1 - p) p).1 { d with k:=0 }=D at *;generalize As.line s st=D' at *;by_cases hD:D.fe=0
   ·have LE:=qo S hD (E hD) A;have q:=B _ LE;have hf:As.failed D'=false:=by unfold As.failed; simp [S.fe,hD]
    have nl:As.bO s D'=((As.lineEnd s D'.p).1,{ D' with p:=(As.lineEnd s D'.p).2 }):=by unfold As.bO; rw [hf]; rfl
    rw [nl,q];unfold As.lineEnd;by_cases z:As.skip As.bF s D'.p < s.length
    ·rw [if_pos z];simp only [if_true];have Gu:=Sb.of S hD;exact ih _ D { D' with p:=As.skip As.bF s D'.p+1 } ⟨Gu.fe,Gu.La,Gu.obj,Gu.ah,Gu.op,Gu.syms,Gu.aj,Gu.secs,Gu.said⟩ rfl (by omega) T1
    ·rw [if_neg z];simp only [Bool.false_eq_true,if_false];have u2:eD s n (As.skip As.bF s D'.p+1) D=D:=by
      cases n with
      | zero=>rfl
      | succ n=>unfold eD; rw [if_neg (by omega)]
     rw [u2];exact ⟨S.fe,fun c=>absurd hD c,fun _=>S.obj hD⟩
   ·have hf:As.failed D'=true:=by unfold As.failed; simp [S.fe,hD]
    have nl:As.bO s D'=(false,D'):=by unfold As.bO; rw [hf]; rfl
    rw [nl];simp only [Bool.false_eq_true,if_false];have u2:eD s n (aV s (s.length+1 - p) p).2 D=D:=by
     cases n with
     | zero=>rfl
     | succ n=>unfold eD; rw [if_neg (fun x=>hD x.2)]
    rw [u2];exact ⟨S.fe,S.fa,fun c=>absurd c hD⟩
  ·have u:eD s (n+1) p d=d:=by unfold eD; rw [if_neg (fun x=>c x.1)]
   rw [u];have pe:p=s.length:=by omega
   have eo:oJ s p=true:=by
    unfold oJ;rw [List.getElem?_eq_none (by omega)];rfl
   have tp:aV s (s.length+1 - p) p=([⟨101,p,[],0,0⟩],As.skip As.bF s p+1):=by
    rw [show s.length+1 - p=0+1 by omega];unfold aV;rw [if_pos eo]
   have lk:look [⟨101,p,[],0,0⟩] { d with k:=0 }={ d with k:=0 }:=rfl;have ld:jS [⟨101,p,[],0,0⟩] { d with k:=0 }={ d with k:=0 }:=by
    unfold jS;simp only;rw [lk,if_pos (.inr rfl)]
   rw [tp] at S;simp only at S;rw [ld] at S;have hf:As.failed (As.line s st)=false:=by unfold As.failed; rw [S.fe]; simp [h.fe]
   have nl:As.bO s (As.line s st)=((As.lineEnd s (As.line s st).p).1,{ As.line s st with p:=(As.lineEnd s (As.line s st).p).2 }):=by unfold As.bO; rw [hf]; rfl
   have LE:=qo S h.fe rfl (by rw [tp] at A; exact A:Ahead s p [⟨101,p,[],0,0⟩]);have pp:(As.line s st).p=p:=by
    have:(⟨101,p,[],0,0⟩:Tk)=⟨101,(As.line s st).p,[],0,0⟩:=Option.some.inj LE
    exact (congrArg Tk.at_ this).symm
   have sk:¬ As.skip As.bF s p < s.length:=by
    unfold As.skip;omega
   rw [nl,pp];unfold As.lineEnd;rw [if_neg sk];simp only [Bool.false_eq_true,if_false];exact ⟨S.fe,fun c=>absurd h.fe c,fun _=>S.obj h.fe⟩
theorem nH (s:List UInt8):(bV s).1.1=(As.assemble s).1.1/\((bV s).1.1≠0->(bV s).1.2=(As.assemble s).1.2)/\((bV s).1.1=0->(bV s).2=(As.assemble s).2):=by
 unfold bV As.assemble;by_cases c:1000 < s.length
 ·rw [if_pos c,if_pos c];exact ⟨rfl,fun _=>rfl,fun x=>(by cases x)⟩
 ·rw [if_neg c,if_neg c];obtain ⟨r1,r2,r3⟩:=uZ s (s.length+1) 0 gQ As.start ⟨rfl,rfl,rfl,rfl,rfl,by decide,by decide,by decide,rfl⟩ rfl (Nat.zero_le _) As.tF;exact ⟨r1.symm,fun x=>(r2 x).symm,fun x=>by show As.finish _=As.finish _; rw [r3 x]⟩
end
end Rf
end Go.Proofs.YtnkkepfcpjllmaaGreatDoor

namespace Go.Proofs.YtnkkepfcpjllmaaGreatDoor
open Go.RowKit
theorem XC (v:Int) (w:World) (h0:-2147483648<=v) (h1:v<=2147483647) :
  Calls Tryz.prog 139 #[.int .i64 v] w fun e w'=>e = .returned (.tuple #[.int .i64 (As.fZ v),.int .i64 (As.dH v)])/\w'=w:=by
 have a1:=UC v;have r1:0<=v % 4096/\v % 4096 < 4096:=by omega
 have e1:bits .and .i64 v 4095=v % 4096:=by rw [a1]; omega
 have HH:=hid (show As.fZ v=(v - As.dH v) / 4096 % 1048576 from rfl);have Vg:=hid (show As.dH v=if v % 4096 < 2048 then v % 4096 else v % 4096 - 4096 from rfl);clear a1;by_cases c:v % 4096 < 2048
 ·have EL:=hid (show As.dH v=v % 4096 by rw [Vg.o,if_pos c]);have EH:=hid (show bits .and .i64 ((v - v % 4096) / 4096) 1048575=As.fZ v by rw [UD,HH.o,EL.o]; omega);generalize As.dH v=lo at *;generalize As.fZ v=hi at *;go_enter Tryz.func139,Tryz.ntmps139;go_wp2;go_ret2;exact ⟨by rw [EL.o,<- EH.o]; rfl,rfl⟩
 ·have EL:=hid (show As.dH v=v % 4096 - 4096 by rw [Vg.o,if_neg c]);have EH:=hid (show bits .and .i64 ((v - (v % 4096 - 4096)) / 4096) 1048575=As.fZ v by rw [UD,HH.o,EL.o]; omega);generalize As.dH v=lo at *;generalize As.fZ v=hi at *;go_enter Tryz.func139,Tryz.ntmps139;go_wp2;go_ret2;exact ⟨by rw [EL.o,<- EH.o]; rfl,rfl⟩
theorem IB (W:World) (x:Int):yE (W.alloc (.cells #[.int .i64 x] 3)) (some ⟨W.heap.size,0,none⟩) 1 [x] :=
 .inr ⟨W.heap.size,0,_,rfl,yd.new W _ _,fun i h=>by
  have:i=0:=by simp at h; omega
  subst this; rfl⟩
theorem LM (W:World) (x y:Int):yE (W.alloc (.cells #[.int .i64 x,.int .i64 y] 3)) (some ⟨W.heap.size,0,none⟩) 2 [x,y] :=
 .inr ⟨W.heap.size,0,_,rfl,yd.new W _ _,fun i h=>by
  rcases (show i=0\/i=1 by simp at h; omega) with rfl | rfl <;> rfl⟩
theorem FV (B:Nat) (s:ByteArray) (b g:Nat) (st:As.St) (op rd bK dJ:Nat) (n:Int) (W:World) (h:yl B s b g st W) (h1:1<=op) (h2:op<=25) :
  Calls Tryz.prog 130 #[.pointer (some ⟨b,0,none⟩),Cw op rd bK dJ n] W fun en W'=>en = .returned (.tuple #[])/\Does B s b g W (As.dR op rd bK dJ n st) W':=by
 have HW:=hid h;have cE:=hid (fun V (hV:gD V)=>Dj op rd bK dJ n V hV h1 h2);clear h;unfold Cw As.dR at *;generalize As.enc op rd bK dJ n=x at *;go_enter Tryz.func130,Tryz.ntmps130;go_wp2_with fail;refine (cE.o _ (HW.o.does.alloc _).1.tabs).mono ?_;rintro e V ⟨rfl,hg⟩;have D:=hid ((HW.o.does.alloc _).grown hg);clear hg cE;go_wp2_with fail;refine (KE B s b g st _ 1 [(x:Int)] _ (D.o.alloc _).1 (IB V x) (by simp)).mono ?_;rintro e V2 ⟨rfl,h2⟩;have D2:=hid ((D.o.alloc _).after h2);clear h2;go_wp2
 go_end0
 exact ⟨rfl,D2.o⟩
def KR (op rd bK dJ:Nat) (n:Int):Array Value:=#[.int .i64 op,.int .i64 rd,.int .i64 bK,.int .i64 dJ,.int .i64 n]
theorem TR (B:Nat) (s:ByteArray) (b g:Nat) (st:As.St) (reg op rd bK dJ:Nat) (n:Int) (sym:Nat) (addend:Int) (W:World) (h:yl B s b g st W) (h1:1<=op) (h2:op<=25) :
  Calls Tryz.prog 134 #[.pointer (some ⟨b,0,none⟩),.int .i64 reg,Cw op rd bK dJ n,.int .i64 sym,.int .i64 addend] W fun en W'=>en = .returned (.tuple #[])/\Does B s b g W (As.bR reg op rd bK dJ n sym addend st) W':=by
 have HW:=hid h;have L0:=hid ((Loc.begin h).alloc (KR op rd bK dJ n) 140);have hpos:=h.ok.op.pos;have cE:=hid (fun V (hV:gD V)=>Dj op rd bK dJ n V hV h1 h2);have Pj:=hid (fun V (hV:gD V)=>Dj 1 reg 0 0 0 V hV (by omega) (by omega));have hbl:=h.blk.lt;have c10:=Ql h;have RS:=hid (show As.bR reg op rd bK dJ n sym addend st=As.bG 5 sym addend [(As.enc 1 reg 0 0 0:Int),(As.enc op rd bK dJ n:Int)] (As.aJ (reg == 0) 7 st.op.pos st) from rfl);generalize As.bR reg op rd bK dJ n sym addend st=X at *;generalize As.enc op rd bK dJ n=x at *;generalize As.enc 1 reg 0 0 0=y at *;clear h;unfold Cw at *;have hn1:b≠W.heap.size:=by omega
 cases hr:(reg == 0)
 ·have d:((reg:Int) == 0)=false:=by simp at hr ⊢; omega
  rw [hr] at RS;have RF:=hid (show X=As.bG 5 sym addend [(y:Int),(x:Int)] st from RS.o);clear RS hr;go_enter Tryz.func134,Tryz.ntmps134;go_wp2_with fail;refine Calls.fO (Loc B s b g W [(W.heap.size,KR op rd bK dJ n,140)] st) L0.o ?_;clear L0 c10;intro V0 Le;have L:=hid Le;clear Le;refine (Pj.o _ L.o.d.1.tabs).mono ?_;rintro e V2 ⟨rfl,hg⟩;have L2:=hid (L.o.grown hg);clear hg L Pj;have Lr:=L2.o.l (W.heap.size,KR op rd bK dJ n,140) (by simp);have m0:=Lr.cell 0;have m1:=Lr.cell 1;have m2:=Lr.cell 2;have m3:=Lr.cell 3;have m4:=Lr.cell 4;simp only [KR,bB,yml,bf] at m0 m1 m2 m3 m4;clear Lr;go_wp2_with fail
  refine (cE.o _ L2.o.d.1.tabs).mono ?_;rintro e V3 ⟨rfl,hg⟩;have L3:=hid (L2.o.grown hg);have D3:=hid (L3.o.d.does HW.o);clear hg L2 cE m0 m1 m2 m3 m4 L3;go_wp2_with fail;refine (Jk B s b g _ 5 sym addend _ 2 [(y:Int),(x:Int)] _ (D3.o.alloc _).1 (LM V3 y x) (by simp)).mono ?_;rintro e V4 ⟨rfl,h4⟩;have D4:=hid ((D3.o.alloc _).after h4);clear h4 D3;go_wp2
  go_end0
  rw [RF.o];exact ⟨rfl,D4.o⟩
 ·have d:((reg:Int) == 0)=true:=by simp at hr ⊢; omega
  rw [hr] at RS;have RF:=hid (show X=As.bG 5 sym addend [(y:Int),(x:Int)] (As.refuse 7 st.op.pos st) from RS.o);clear RS hr;go_enter Tryz.func134,Tryz.ntmps134;go_wp2_with fail;refine Calls.fO (Loc B s b g W [(W.heap.size,KR op rd bK dJ n,140)] st) L0.o ?_;clear L0 c10;intro V0 Le;refine (yM B s b g st 7 st.op.pos V0 Le.d.1 (by omega) hpos).mono ?_;rintro e V1 ⟨rfl,hh⟩;have L:=hid (Le.step hh);clear hh Le V0;generalize As.refuse 7 st.op.pos st=st1 at *;go_wp2_with fail;refine (Pj.o _ L.o.d.1.tabs).mono ?_;rintro e V2 ⟨rfl,hg⟩;have L2:=hid (L.o.grown hg);clear hg L Pj;have Lr:=L2.o.l (W.heap.size,KR op rd bK dJ n,140) (by simp)
  have m0:=Lr.cell 0;have m1:=Lr.cell 1;have m2:=Lr.cell 2;have m3:=Lr.cell 3;have m4:=Lr.cell 4;simp only [KR,bB,yml,bf] at m0 m1 m2 m3 m4;clear Lr;go_wp2_with fail;refine (cE.o _ L2.o.d.1.tabs).mono ?_;rintro e V3 ⟨rfl,hg⟩;have L3:=hid (L2.o.grown hg);have D3:=hid (L3.o.d.does HW.o);clear hg L2 cE m0 m1 m2 m3 m4 L3;go_wp2_with fail;refine (Jk B s b g _ 5 sym addend _ 2 [(y:Int),(x:Int)] _ (D3.o.alloc _).1 (LM V3 y x) (by simp)).mono ?_;rintro e V4 ⟨rfl,h4⟩;have D4:=hid ((D3.o.alloc _).after h4);clear h4 D3;go_wp2
  go_end0
  rw [RF.o];exact ⟨rfl,D4.o⟩
theorem ygH (B:Nat) (s:ByteArray) (b g:Nat) (st0:As.St) (op:Nat) (W:World) (h:yl B s b g st0 W) (h1:1<=op) (h2:op<=25) :
  Calls Tryz.prog 101 #[.pointer (some ⟨b,0,none⟩),.int .i64 op] W fun en W'=>en = .returned (.tuple #[])/\Does B s b g W (As.bA (sl s) op st0) W':=by
 have D0:=hid h.does;clear h;obtain ⟨X,hX⟩:∃ X,X=As.bA (sl s) op st0:=⟨_,rfl⟩
 rw [<- hX];unfold As.bA at hX;dsimp only at hX;have RS:=hid hX;clear hX;go_enter Tryz.func101,Tryz.ntmps101;go_wp2_with fail;refine (yX B s b g st0 _ D0.o.1).mono ?_;rintro e V1 ⟨rfl,hh⟩;have D1:=hid (D0.o.aR hh);clear hh D0;generalize As.register (sl s) st0=R1 at *;obtain ⟨rd,st1⟩:=R1;dsimp only at RS D1 ⊢;go_wp2_with fail;refine (za B s b g st1 [44] _ D1.o.1).mono ?_;rintro e V2 ⟨rfl,hh⟩;have D2:=hid (D1.o.aR hh);clear hh D1;generalize As.sign (sl s) [44] st1=st2 at *;go_wp2_with fail;refine (yX B s b g st2 _ D2.o.1).mono ?_;rintro e V3 ⟨rfl,hh⟩;have D3:=hid (D2.o.aR hh);clear hh D2;generalize As.register (sl s) st2=R3 at *
 obtain ⟨bK,iV⟩:=R3;dsimp only at RS D3 ⊢;go_wp2_with fail;refine (za B s b g iV [44] _ D3.o.1).mono ?_;rintro e V4 ⟨rfl,hh⟩;have D4:=hid (D3.o.aR hh);clear hh D3;generalize As.sign (sl s) [44] iV=uK at *;go_wp2_with fail;refine (yX B s b g uK _ D4.o.1).mono ?_;rintro e V5 ⟨rfl,hh⟩;have D5:=hid (D4.o.aR hh);clear hh D4;generalize As.register (sl s) uK=R5 at *;obtain ⟨dJ,Fx⟩:=R5;dsimp only at RS D5 ⊢;go_wp2_with fail;refine (FV B s b g Fx op rd bK dJ 0 _ D5.o.1 h1 h2).mono ?_;rintro e VF ⟨rfl,hh⟩;have DF:=hid (D5.o.after hh);clear hh;go_wp2
 go_end0
 rw [RS.o];exact ⟨rfl,DF.o⟩
theorem ygf (B:Nat) (s:ByteArray) (b g:Nat) (st0:As.St) (op:Nat) (W:World) (h:yl B s b g st0 W) (h1:1<=op) (h2:op<=25) :
  Calls Tryz.prog 102 #[.pointer (some ⟨b,0,none⟩),.int .i64 op] W fun en W'=>en = .returned (.tuple #[])/\Does B s b g W (As.bC (sl s) op st0) W':=by
 have D0:=hid h.does;clear h;obtain ⟨X,hX⟩:∃ X,X=As.bC (sl s) op st0:=⟨_,rfl⟩
 rw [<- hX];unfold As.bC at hX;dsimp only at hX;have RS:=hid hX;clear hX;go_enter Tryz.func102,Tryz.ntmps102;go_wp2_with fail;refine (yX B s b g st0 _ D0.o.1).mono ?_;rintro e V1 ⟨rfl,hh⟩;have D1:=hid (D0.o.aR hh);clear hh D0;generalize As.register (sl s) st0=R1 at *;obtain ⟨rd,st1⟩:=R1;dsimp only at RS D1 ⊢;go_wp2_with fail;refine (za B s b g st1 [44] _ D1.o.1).mono ?_;rintro e V2 ⟨rfl,hh⟩;have D2:=hid (D1.o.aR hh);clear hh D1;generalize As.sign (sl s) [44] st1=st2 at *;go_wp2_with fail;refine (yX B s b g st2 _ D2.o.1).mono ?_;rintro e V3 ⟨rfl,hh⟩;have D3:=hid (D2.o.aR hh);clear hh D2;generalize As.register (sl s) st2=R3 at *
 obtain ⟨bK,iV⟩:=R3;dsimp only at RS D3 ⊢;go_wp2_with fail;refine (za B s b g iV [44] _ D3.o.1).mono ?_;rintro e V4 ⟨rfl,hh⟩;have D4:=hid (D3.o.aR hh);clear hh D3;generalize As.sign (sl s) [44] iV=uK at *;go_wp2_with fail;refine (Iz B s b g uK (-2048) 2047 _ D4.o.1).mono ?_;rintro e V5 ⟨rfl,hh⟩;have D5:=hid (D4.o.aR hh);clear hh D4;generalize As.number (sl s) (-2048) 2047 uK=R5 at *;obtain ⟨n,Fx⟩:=R5;dsimp only at RS D5 ⊢;go_wp2_with fail;refine (FV B s b g Fx op rd bK 0 n _ D5.o.1 h1 h2).mono ?_;rintro e VF ⟨rfl,hh⟩;have DF:=hid (D5.o.after hh);clear hh;go_wp2
 go_end0
 rw [RS.o];exact ⟨rfl,DF.o⟩
theorem yjx (B:Nat) (s:ByteArray) (b g:Nat) (st0:As.St) (W:World) (h:yl B s b g st0 W) :
  Calls Tryz.prog 103 #[.pointer (some ⟨b,0,none⟩)] W fun en W'=>en = .returned (.tuple #[])/\Does B s b g W (As.upper (sl s) st0) W':=by
 have D0:=hid h.does;clear h;obtain ⟨X,hX⟩:∃ X,X=As.upper (sl s) st0:=⟨_,rfl⟩
 rw [<- hX];unfold As.upper at hX;dsimp only at hX;have RS:=hid hX;clear hX;go_enter Tryz.func103,Tryz.ntmps103;go_wp2_with fail;refine (yX B s b g st0 _ D0.o.1).mono ?_;rintro e V1 ⟨rfl,hh⟩;have D1:=hid (D0.o.aR hh);clear hh D0;generalize As.register (sl s) st0=R1 at *;obtain ⟨rd,st1⟩:=R1;dsimp only at RS D1 ⊢;go_wp2_with fail;refine (za B s b g st1 [44] _ D1.o.1).mono ?_;rintro e V2 ⟨rfl,hh⟩;have D2:=hid (D1.o.aR hh);clear hh D1;generalize As.sign (sl s) [44] st1=st2 at *;go_wp2_with fail;refine (Iz B s b g st2 0 1048575 _ D2.o.1).mono ?_;rintro e V3 ⟨rfl,hh⟩;have D3:=hid (D2.o.aR hh);clear hh D2
 generalize As.number (sl s) 0 1048575 st2=R3 at *;obtain ⟨n,iV⟩:=R3;dsimp only at RS D3 ⊢;go_wp2_with fail;refine (FV B s b g iV 1 rd 0 0 n _ D3.o.1 (by omega) (by omega)).mono ?_;rintro e VF ⟨rfl,hh⟩;have DF:=hid (D3.o.after hh);clear hh;go_wp2
 go_end0
 rw [RS.o];exact ⟨rfl,DF.o⟩
theorem yff (B:Nat) (s:ByteArray) (b g:Nat) (st0:As.St) (W:World) (h:yl B s b g st0 W) :
  Calls Tryz.prog 106 #[.pointer (some ⟨b,0,none⟩)] W fun en W'=>en = .returned (.tuple #[])/\Does B s b g W (As.bN (sl s) st0) W':=by
 have D0:=hid h.does;clear h;obtain ⟨X,hX⟩:∃ X,X=As.bN (sl s) st0:=⟨_,rfl⟩
 rw [<- hX];unfold As.bN at hX;dsimp only at hX;have RS:=hid hX;clear hX;go_enter Tryz.func106,Tryz.ntmps106;go_wp2_with fail;refine (yX B s b g st0 _ D0.o.1).mono ?_;rintro e V1 ⟨rfl,hh⟩;have D1:=hid (D0.o.aR hh);clear hh D0;generalize As.register (sl s) st0=R1 at *;obtain ⟨rd,st1⟩:=R1;dsimp only at RS D1 ⊢;go_wp2_with fail;refine (za B s b g st1 [44] _ D1.o.1).mono ?_;rintro e V2 ⟨rfl,hh⟩;have D2:=hid (D1.o.aR hh);clear hh D1;generalize As.sign (sl s) [44] st1=st2 at *;go_wp2_with fail;refine (Uz B s b g st2 _ D2.o.1).mono ?_;rintro e V3 ⟨rfl,hh⟩;have D3:=hid (D2.o.aR hh);clear hh D2;generalize As.place (sl s) st2=R3 at *
 obtain ⟨⟨n,bK⟩,iV⟩:=R3;dsimp only at RS D3 ⊢;go_wp2_with fail;refine (FV B s b g iV 4 rd bK 0 n _ D3.o.1 (by omega) (by omega)).mono ?_;rintro e VF ⟨rfl,hh⟩;have DF:=hid (D3.o.after hh);clear hh;go_wp2
 go_end0
 rw [RS.o];exact ⟨rfl,DF.o⟩
theorem yjV (B:Nat) (s:ByteArray) (b g:Nat) (st0:As.St) (W:World) (h:yl B s b g st0 W) :
  Calls Tryz.prog 111 #[.pointer (some ⟨b,0,none⟩)] W fun en W'=>en = .returned (.tuple #[])/\Does B s b g W (As.move (sl s) st0) W':=by
 have D0:=hid h.does;clear h;obtain ⟨X,hX⟩:∃ X,X=As.move (sl s) st0:=⟨_,rfl⟩
 rw [<- hX];unfold As.move at hX;dsimp only at hX;have RS:=hid hX;clear hX;go_enter Tryz.func111,Tryz.ntmps111;go_wp2_with fail;refine (yX B s b g st0 _ D0.o.1).mono ?_;rintro e V1 ⟨rfl,hh⟩;have D1:=hid (D0.o.aR hh);clear hh D0;generalize As.register (sl s) st0=R1 at *;obtain ⟨rd,st1⟩:=R1;dsimp only at RS D1 ⊢;go_wp2_with fail;refine (za B s b g st1 [44] _ D1.o.1).mono ?_;rintro e V2 ⟨rfl,hh⟩;have D2:=hid (D1.o.aR hh);clear hh D1;generalize As.sign (sl s) [44] st1=st2 at *;go_wp2_with fail;refine (yX B s b g st2 _ D2.o.1).mono ?_;rintro e V3 ⟨rfl,hh⟩;have D3:=hid (D2.o.aR hh);clear hh D2;generalize As.register (sl s) st2=R3 at *
 obtain ⟨bK,iV⟩:=R3;dsimp only at RS D3 ⊢;go_wp2_with fail;refine (FV B s b g iV 13 rd bK 0 0 _ D3.o.1 (by omega) (by omega)).mono ?_;rintro e VF ⟨rfl,hh⟩;have DF:=hid (D3.o.after hh);clear hh;go_wp2
 go_end0
 rw [RS.o];exact ⟨rfl,DF.o⟩
theorem yfx (B:Nat) (s:ByteArray) (b g:Nat) (st0:As.St) (W:World) (h:yl B s b g st0 W) :
  Calls Tryz.prog 114 #[.pointer (some ⟨b,0,none⟩)] W fun en W'=>en = .returned (.tuple #[])/\Does B s b g W (As.bS (sl s) st0) W':=by
 have D0:=hid h.does;clear h;obtain ⟨X,hX⟩:∃ X,X=As.bS (sl s) st0:=⟨_,rfl⟩
 rw [<- hX];unfold As.bS at hX;dsimp only at hX;have RS:=hid hX;clear hX;go_enter Tryz.func114,Tryz.ntmps114;go_wp2_with fail;refine (yX B s b g st0 _ D0.o.1).mono ?_;rintro e V1 ⟨rfl,hh⟩;have D1:=hid (D0.o.aR hh);clear hh D0;generalize As.register (sl s) st0=R1 at *;obtain ⟨rd,st1⟩:=R1;dsimp only at RS D1 ⊢;go_wp2_with fail;refine (za B s b g st1 [44] _ D1.o.1).mono ?_;rintro e V2 ⟨rfl,hh⟩;have D2:=hid (D1.o.aR hh);clear hh D1;generalize As.sign (sl s) [44] st1=st2 at *;go_wp2_with fail;refine (Qf B s b g st2 _ D2.o.1).mono ?_;rintro e V3 ⟨rfl,hh⟩;have D3:=hid (D2.o.after hh);clear hh D2;generalize As.target (sl s) st2=R3 at *
 obtain ⟨⟨sym,add⟩,iV⟩:=R3;dsimp only at RS D3 ⊢;go_wp2_with fail;refine (TR B s b g iV rd 13 rd rd 0 0 sym add _ D3.o.1 (by omega) (by omega)).mono ?_;rintro e VF ⟨rfl,hh⟩;have DF:=hid (D3.o.after hh);clear hh;go_wp2
 go_end0
 rw [RS.o];exact ⟨rfl,DF.o⟩
end Go.Proofs.YtnkkepfcpjllmaaGreatDoor
