

set_option maxHeartbeats 16000000
set_option maxRecDepth 100000
namespace Go.Proofs.YtpgklkhgfcjceaaGreatDoor.Lk
structure Sym where
 name:List UInt8
 bind:Int
 ah:Int
 off:Int
structure Rel where
 ah:Int
 off:Int
 kind:Int
 sym:Int
 addend:Int
structure Obj where
 text:List Int
 far:List Int
 data:List Int
 bss:Int
 align:List Int
 syms:List Sym
 aj:List Rel
def le (v:Int):Nat->List UInt8
 | 0=>[]
 | n+1=>UInt8.ofNat (v % 256).toNat :: le (v / 256) n
def num:List UInt8->Int
 | []=>0
 | b :: t=>(b.toNat:Int)+256 * num t
theorem aA (v:Int) (n:Nat):(le v n).length=n:=by
 induction n generalizing v with
 | zero=>rfl
 | succ n ih=>simp [le,ih]
theorem num_nonneg (l:List UInt8):0<=num l:=by
 induction l with
 | nil=>simp [num]
 | cons b t ih=>simp [num]; omega
theorem qZ (l:List UInt8):num l < (256:Int) ^ l.length:=by
 induction l with
 | nil=>simp [num]
 | cons b t ih =>
  have hb:b.toNat < 256:=b.toNat_lt;simp only [num,List.length_cons,Int.pow_succ];omega
theorem byte_of (b:UInt8):UInt8.ofNat b.toNat=b:=by simp
theorem y7 (a b:List UInt8):num (a ++ b)=num a+(256:Int) ^ a.length * num b:=by
 induction a with
 | nil=>simp [num]
 | cons x t ih =>
  simp only [List.cons_append,num,ih,List.length_cons,Int.pow_succ,Int.mul_add]
  have:(256:Int) ^ t.length * 256 * num b=256 * ((256:Int) ^ t.length * num b):=by
   rw [Int.mul_comm ((256:Int) ^ t.length) 256,Int.mul_assoc]
  omega
theorem xS (l:List UInt8):le (num l) l.length=l:=by
 induction l with
 | nil=>rfl
 | cons b t ih =>
  have hb:b.toNat < 256:=b.toNat_lt;have e1:((b.toNat:Int)+256 * num t) % 256=b.toNat:=by omega
  have e2:((b.toNat:Int)+256 * num t) / 256=num t:=by omega
  simp only [num,List.length_cons,le,e1,e2,ih,Int.toNat_natCast,byte_of]
theorem DW (v:Int) (n:Nat) (h0:0<=v) (h1:v < (256:Int) ^ n):num (le v n)=v:=by
 induction n generalizing v with
 | zero=>simp [le,num] at *; omega
 | succ n ih =>
  have e:(256:Int) ^ (n+1)=256 ^ n * 256:=Int.pow_succ ..;have h2:v / 256 < (256:Int) ^ n:=by rw [e] at h1; omega
  have hb:(UInt8.ofNat (v % 256).toNat).toNat=(v % 256).toNat:=by
   rw [UInt8.toNat_ofNat']; omega
  simp only [le,num,ih (v / 256) (by omega) h2,hb];omega
def jd (y:Sym):List UInt8:=le y.name.length 1 ++ (y.name ++ (le y.bind 1 ++ (le y.ah 1 ++ le y.off 2)))
def iT (r:Rel):List UInt8:=le r.ah 1 ++ (le r.kind 1 ++ (le r.off 2 ++ (le r.sym 1 ++ le r.addend 2)))
def nums (l:List Int) (n:Nat):List UInt8:=l.flatMap (le · n)
def lY (o:Obj):List UInt8 :=
 [76,75] ++ (le o.text.length 2 ++ (le o.far.length 2 ++ (le o.data.length 2 ++ (le o.bss 2 ++ (nums o.align 1 ++ (le o.syms.length 1 ++ (le o.aj.length 1 ++
  (o.syms.flatMap jd ++ (o.aj.flatMap iT ++ (nums o.text 4 ++ (nums o.far 4 ++ nums o.data 4)))))))))))
abbrev St:=Nat×Bool
def aF (l:List UInt8) (n:Nat) (st:St):List UInt8×St :=
 if n<=l.length - st.1 then ((l.drop st.1).take n,(st.1+n,st.2)) else ([],(st.1,true))
def rdNum (l:List UInt8) (n:Nat) (st:St):Int×St:=(num (aF l n st).1,(aF l n st).2)
def aR (l:List UInt8) (size:Nat):Nat->St->List Int×St
 | 0,st=>([],st)
 | c+1,st=>if st.2 then ([],st) else
   ((rdNum l size st).1 :: (aR l size c (rdNum l size st).2).1,(aR l size c (rdNum l size st).2).2)
def dR (l:List UInt8) (st:St):Sym×St :=
 let a:=rdNum l 1 st
 let t:=aF l a.1.toNat a.2
 let b:=rdNum l 1 t.2
 let c:=rdNum l 1 b.2
 let d:=rdNum l 2 c.2
 (⟨t.1,b.1,c.1,d.1⟩,d.2)
def Cg (a:Int):Int:=if a≥32768 then a - 65536 else a
def dN (l:List UInt8) (st:St):Rel×St :=
 let a:=rdNum l 1 st
 let b:=rdNum l 1 a.2
 let c:=rdNum l 2 b.2
 let d:=rdNum l 1 c.2
 let e:=rdNum l 2 d.2
 (⟨a.1,c.1,b.1,d.1,Cg e.1⟩,e.2)
def aM {α:Type} (f:St->α×St):Nat->St->List α×St
 | 0,st=>([],st)
 | c+1,st=>if st.2 then ([],st) else ((f st).1 :: (aM f c (f st).2).1,(aM f c (f st).2).2)
theorem pX (l:List UInt8) (size c:Nat) (st:St):aR l size c st=aM (rdNum l size) c st:=by
 induction c generalizing st with
 | zero=>rfl
 | succ c ih=>simp only [aR,aM,ih]
def iM (l:List UInt8) (st:St):Obj×St :=
 let t:=rdNum l 2 st
 let f:=rdNum l 2 t.2
 let d:=rdNum l 2 f.2
 let b:=rdNum l 2 d.2
 let a:=aR l 1 4 b.2
 let s:=rdNum l 1 a.2
 let r:=rdNum l 1 s.2
 let ss:=aM (dR l) s.1.toNat r.2
 let rs:=aM (dN l) r.1.toNat ss.2
 let tx:=aR l 4 t.1.toNat rs.2
 let fx:=aR l 4 f.1.toNat tx.2
 let dx:=aR l 4 d.1.toNat fx.2
 (⟨tx.1,fx.1,dx.1,b.1,a.1,ss.1,rs.1⟩,dx.2)
structure Reads (l:List UInt8) {α:Type} (f:St->α×St) (enc:α->List UInt8) (good:α->Prop):Prop where
 mono:∀ p,(f (p,true)).2.2=true
 sound:∀ p x p',p<=l.length->f (p,false)=(x,(p',false))->p'<=l.length/\l.drop p=enc x ++ l.drop p'/\good x
 full:∀ p x rest,p<=l.length->good x->l.drop p=enc x ++ rest->f (p,false)=(x,(p+(enc x).length,false))/\l.drop (p+(enc x).length)=rest/\p+(enc x).length<=l.length
theorem CZ {l:List UInt8} {p:Nat} {a rest:List UInt8} (hp:p<=l.length) (h:l.drop p=a ++ rest) :
  a.length<=l.length - p/\(l.drop p).take a.length=a/\l.drop (p+a.length)=rest/\p+a.length<=l.length:=by
 have h1:(l.drop p).length=(a ++ rest).length:=by rw [h]
 simp at h1;refine ⟨by omega,by rw [h]; simp,?_,by omega⟩;rw [<- List.drop_drop,h]; simp
theorem fB (l:List UInt8) (n:Nat):Reads l (aF l n) (fun x=>x) (fun x=>x.length=n) where
 mono p:=by unfold aF; split <;> rfl
 sound p x p' hp h:=by
  unfold aF at h;split at h
  ·simp only [Prod.mk.injEq] at h;obtain ⟨rfl,rfl,_⟩:=h;simp only at *;refine ⟨by omega,?_,by simp; omega⟩;rw [<- List.drop_drop]; exact (List.take_append_drop n _).symm
  ·simp at h
 full p x rest hp hg h:=by
  obtain ⟨h1,h2,h3,h4⟩:=CZ hp h;subst hg;refine ⟨?_,h3,h4⟩;unfold aF;simp only;rw [if_pos h1,h2]
theorem aB (l:List UInt8) (n:Nat):Reads l (rdNum l n) (fun v=>le v n) (fun v=>0<=v/\v < (256:Int) ^ n) where
 mono p:=by unfold rdNum; exact (fB l n).mono p
 sound p x p' hp h:=by
  unfold rdNum at h;simp only [Prod.mk.injEq] at h;obtain ⟨h1,h2⟩:=h;have hs:=(fB l n).sound p (aF l n (p,false)).1 p' hp (by rw [<- h2]);obtain ⟨a,b,c⟩:=hs;have hn:=num_nonneg (aF l n (p,false)).1;have hl:=qZ (aF l n (p,false)).1;have he:=xS (aF l n (p,false)).1;rw [c,h1] at hl he;rw [h1] at hn;exact ⟨a,by rw [he]; exact b,hn,hl⟩
 full p x rest hp hg h:=by
  have:=(fB l n).full p (le x n) rest hp (aA _ _) h
  obtain ⟨a,b,c⟩:=this;refine ⟨?_,b,c⟩;unfold rdNum;rw [a];simp only [DW x n hg.1 hg.2]
theorem gB (l:List UInt8) {α:Type} (f:St->α×St) (enc:α->List UInt8) (good:α->Prop) (R:Reads l f enc good) (c:Nat) :
  Reads l (aM f c) (fun xs=>xs.flatMap enc) (fun xs=>xs.length=c/\∀ x∈xs,good x) where
 mono p:=by cases c <;> simp [aM]
 sound:=by
  induction c with
  | zero =>
   intro p x p' hp h;simp [aM] at h;obtain ⟨rfl,rfl⟩:=h;simp [hp]
  | succ c ih =>
   intro p x p' hp h;simp only [aM,Bool.false_eq_true,if_false,Prod.mk.injEq] at h;obtain ⟨h1,h2⟩:=h;have h3:aM f c (f (p,false)).2=((aM f c (f (p,false)).2).1,(p',false)):=by rw [<- h2]
   have hst:(f (p,false)).2=((f (p,false)).2.1,false):=by
    cases hb:(f (p,false)).2.2 with
    | false=>exact Prod.ext rfl hb
    | true =>
     exfalso
     have e:(f (p,false)).2=((f (p,false)).2.1,true):=Prod.ext rfl hb;rw [e] at h3
     cases c with
     | zero=>simp [aM] at h3
     | succ c=>simp [aM] at h3
   obtain ⟨a1,a2,a3⟩:=R.sound p (f (p,false)).1 (f (p,false)).2.1 hp (by rw [<- hst]);rw [hst] at h3;obtain ⟨b1,b2,b3,b4⟩:=ih _ _ _ a1 h3;rw [<- hst] at b2 b3 b4;subst h1;refine ⟨b1,?_,by simp [b3],?_⟩
   ·rw [a2,b2]; simp
   ·intro x hx;rcases List.mem_cons.1 hx with rfl | hx
    ·exact a3
    ·exact b4 x hx
 full:=by
  induction c with
  | zero =>
   intro p x rest hp hg h;obtain ⟨hg,_⟩:=hg
   have:x=[]:=List.length_eq_zero_iff.1 hg
   subst this;simp [aM] at *;exact ⟨h,hp⟩
  | succ c ih =>
   intro p x rest hp hg h;obtain ⟨hl,hg⟩:=hg
   match x,hl with
   | y :: ys,hl =>
    simp only [List.flatMap_cons,List.append_assoc] at h;obtain ⟨a1,a2,a3⟩:=R.full p y _ hp (hg y (by simp)) h;obtain ⟨b1,b2,b3⟩:=ih _ ys rest a3 ⟨by simpa using hl,fun z hz=>hg z (by simp [hz])⟩ a2;simp only [aM,Bool.false_eq_true,if_false,a1,b1,List.flatMap_cons,List.length_append];rw [<- Nat.add_assoc];exact ⟨rfl,b2,b3⟩
theorem Reads.back {l:List UInt8} {α:Type} {f:St->α×St} {enc:α->List UInt8} {good:α->Prop} (R:Reads l f enc good) {st:St} (h:(f st).2.2=false):st.2=false:=by
 obtain ⟨p,b⟩:=st
 cases b with
 | false=>rfl
 | true=>have:=R.mono p; rw [this] at h; simp at h
theorem Reads.go {l:List UInt8} {α:Type} {f:St->α×St} {enc:α->List UInt8} {good:α->Prop} (R:Reads l f enc good) {st:St} (hp:st.1<=l.length) (h0:st.2=false) (h:(f st).2.2=false) :
  (f st).2.1<=l.length/\l.drop st.1=enc (f st).1 ++ l.drop (f st).2.1/\good (f st).1:=by
 obtain ⟨p,b⟩:=st;simp only at h0 hp;subst h0;exact R.sound p _ (f (p,false)).2.1 hp (Prod.ext rfl (Prod.ext rfl h))
theorem Reads.on {l:List UInt8} {α:Type} {f:St->α×St} {enc:α->List UInt8} {good:α->Prop} (R:Reads l f enc good) {st:St} (hp:st.1<=l.length) (h0:st.2=false) {x:α} {rest:List UInt8} (hg:good x) (h:l.drop st.1=enc x ++ rest) :
  (f st).1=x/\(f st).2.2=false/\(f st).2.1=st.1+(enc x).length/\(f st).2.1<=l.length/\l.drop (f st).2.1=rest:=by
 obtain ⟨p,b⟩:=st;simp only at h0 hp h;subst h0;obtain ⟨a,b,c⟩:=R.full p x rest hp hg h;rw [a];exact ⟨rfl,rfl,rfl,c,b⟩
def mH (y:Sym):Prop:=y.name.length < 256/\(0<=y.bind/\y.bind < 256)/\(0<=y.ah/\y.ah < 256)/\0<=y.off/\y.off < 65536
theorem Reads.iq {l:List UInt8} {α:Type} {f:St->α×St} {enc:α->List UInt8} {good:α->Prop} (R:Reads l f enc good) {st:St} (h:st.2=true):(f st).2.2=true:=by
 obtain ⟨p,b⟩:=st;simp only at h;subst h;exact R.mono p
theorem mM (l:List UInt8):Reads l (dR l) jd mH where
 mono p:=by
  unfold dR;exact (aB l 2).iq ((aB l 1).iq ((aB l 1).iq ((fB l _).iq ((aB l 1).iq rfl))))
 sound p x p' hp h:=by
  unfold dR at h;simp only [Prod.mk.injEq] at h;obtain ⟨h1,h2⟩:=h;generalize ha:rdNum l 1 (p,false)=a at h1 h2;generalize ht:aF l a.1.toNat a.2=t at h1 h2;generalize hb:rdNum l 1 t.2=b at h1 h2;generalize hc:rdNum l 1 b.2=c at h1 h2;generalize hd:rdNum l 2 c.2=d at h1 h2;have f5:d.2.2=false:=by rw [h2]
  have f4:c.2.2=false:=by rw [<- hd] at f5; exact (aB l 2).back f5
  have f3:b.2.2=false:=by rw [<- hc] at f4; exact (aB l 1).back f4
  have f2:t.2.2=false:=by rw [<- hb] at f3; exact (aB l 1).back f3
  have f1:a.2.2=false:=by rw [<- ht] at f2; exact (fB l _).back f2
  have g1:=(aB l 1).go (st:=(p,false)) hp rfl (by rw [ha]; exact f1);rw [ha] at g1;have g2:=(fB l a.1.toNat).go (st:=a.2) g1.1 f1 (by rw [ht]; exact f2);rw [ht] at g2;have g3:=(aB l 1).go (st:=t.2) g2.1 f2 (by rw [hb]; exact f3);rw [hb] at g3;have g4:=(aB l 1).go (st:=b.2) g3.1 f3 (by rw [hc]; exact f4);rw [hc] at g4;have g5:=(aB l 2).go (st:=c.2) g4.1 f4 (by rw [hd]; exact f5);rw [hd] at g5;have e5:d.2.1=p':=by rw [h2]
  rw [e5] at g5;obtain ⟨a1,a2,a3,a4⟩:=g1;obtain ⟨b1,b2,b3⟩:=g2;obtain ⟨c1,c2,c3,c4⟩:=g3;obtain ⟨d1,d2,d3,d4⟩:=g4;obtain ⟨e1,e2,e3,e4⟩:=g5;simp only [Int.reducePow] at a4 c4 d4 e4;subst h1;have hlen:((t.1.length:Nat):Int)=a.1:=by rw [b3]; omega
  refine ⟨e1,?_,?_⟩
  ·simp only [jd,List.append_assoc,hlen];rw [<- e2,<- d2,<- c2,<- b2,<- a2]
  ·refine ⟨?_,⟨c3,c4⟩,⟨d3,d4⟩,e3,e4⟩;simp only; omega
 full p x rest hp hg h:=by
  obtain ⟨hn,⟨hb0,hb1⟩,⟨hs0,hs1⟩,ho0,ho1⟩:=hg;simp only [jd,List.append_assoc] at h;obtain ⟨a1,a2,a3,a4,a5⟩:=(aB l 1).on (st:=(p,false)) hp rfl (x:=(x.name.length:Int)) ⟨by omega,by simp only [Int.reducePow]; omega⟩ h;generalize ha:rdNum l 1 (p,false)=a at *;obtain ⟨b1,b2,b3,b4,b5⟩:=(fB l a.1.toNat).on (st:=a.2) a4 a2 (x:=x.name) (by rw [a1]; simp) a5;generalize ht:aF l a.1.toNat a.2=t at *;obtain ⟨c1,c2,c3,c4,c5⟩:=(aB l 1).on (st:=t.2) b4 b2 (x:=x.bind) ⟨hb0,by simp only [Int.reducePow]; omega⟩ b5;generalize hb:rdNum l 1 t.2=b at *;obtain ⟨d1,d2,d3,d4,d5⟩:=(aB l 1).on (st:=b.2) c4 c2 (x:=x.ah) ⟨hs0,by simp only [Int.reducePow]; omega⟩ c5
  generalize hc:rdNum l 1 b.2=c at *;obtain ⟨e1,e2,e3,e4,e5⟩:=(aB l 2).on (st:=c.2) d4 d2 (x:=x.off) ⟨ho0,by simp only [Int.reducePow]; omega⟩ d5;generalize hd:rdNum l 2 c.2=d at *;have hlen:d.2.1=p+(jd x).length:=by
   simp only [jd,List.length_append,aA] at *;omega
  refine ⟨?_,by rw [<- hlen]; exact e5,by rw [<- hlen]; exact e4⟩;unfold dR;simp only [ha,ht,hb,hc,hd,b1,c1,d1,e1];exact Prod.ext rfl (Prod.ext hlen e2)
def ou (r:Rel):Prop:=(0<=r.ah/\r.ah < 256)/\(0<=r.kind/\r.kind < 256)/\(0<=r.off/\r.off < 65536)/\(0<=r.sym/\r.sym < 256)/\-32768<=r.addend/\r.addend < 32768
theorem Dn (v:Int) (n:Nat):le (v+(256:Int) ^ n) n=le v n:=by
 induction n generalizing v with
 | zero=>rfl
 | succ n ih =>
  have e:(256:Int) ^ (n+1)=256 ^ n * 256:=Int.pow_succ ..;have e1:(v+(256:Int) ^ (n+1)) % 256=v % 256:=by rw [e]; omega
  have e2:(v+(256:Int) ^ (n+1)) / 256=v / 256+256 ^ n:=by rw [e]; omega
  simp only [le,e1,e2,ih]
theorem Kt (v:Int):le (Cg v) 2=le v 2:=by
 unfold Cg;split
 ·have:=Dn (v - 65536) 2
  simp only [Int.reducePow] at this;rw [<- this]
  congr 1
  omega
 ·rfl
def Ev (a:Int):Int:=if a < 0 then a+65536 else a
theorem Dp (v:Int):le (Ev v) 2=le v 2:=by
 unfold Ev;split
 ·have:=Dn v 2
  simp only [Int.reducePow] at this;exact this
 ·rfl
theorem mK (l:List UInt8):Reads l (dN l) iT ou where
 mono p:=by
  simp only [dN];refine (aB l 2).iq ?_;refine (aB l 1).iq ?_;refine (aB l 2).iq ?_;refine (aB l 1).iq ?_;refine (aB l 1).iq ?_;rfl
 sound p x p' hp h:=by
  unfold dN at h;simp only [Prod.mk.injEq] at h;obtain ⟨h1,h2⟩:=h;generalize ha:rdNum l 1 (p,false)=a at h1 h2;generalize ht:rdNum l 1 a.2=t at h1 h2;generalize hb:rdNum l 2 t.2=b at h1 h2;generalize hc:rdNum l 1 b.2=c at h1 h2;generalize hd:rdNum l 2 c.2=d at h1 h2;have f5:d.2.2=false:=by rw [h2]
  have f4:c.2.2=false:=by rw [<- hd] at f5; exact (aB l 2).back f5
  have f3:b.2.2=false:=by rw [<- hc] at f4; exact (aB l 1).back f4
  have f2:t.2.2=false:=by rw [<- hb] at f3; exact (aB l 2).back f3
  have f1:a.2.2=false:=by rw [<- ht] at f2; exact (aB l 1).back f2
  have g1:=(aB l 1).go (st:=(p,false)) hp rfl (by rw [ha]; exact f1);rw [ha] at g1;have g2:=(aB l 1).go (st:=a.2) g1.1 f1 (by rw [ht]; exact f2);rw [ht] at g2;have g3:=(aB l 2).go (st:=t.2) g2.1 f2 (by rw [hb]; exact f3);rw [hb] at g3;have g4:=(aB l 1).go (st:=b.2) g3.1 f3 (by rw [hc]; exact f4);rw [hc] at g4;have g5:=(aB l 2).go (st:=c.2) g4.1 f4 (by rw [hd]; exact f5);rw [hd] at g5;have e5:d.2.1=p':=by rw [h2]
  rw [e5] at g5;obtain ⟨a1,a2,a3,a4⟩:=g1;obtain ⟨b1,b2,b3,b4⟩:=g2;obtain ⟨c1,c2,c3,c4⟩:=g3;obtain ⟨d1,d2,d3,d4⟩:=g4;obtain ⟨e1,e2,e3,e4⟩:=g5;simp only [Int.reducePow] at a4 b4 c4 d4 e4;subst h1;refine ⟨e1,?_,?_⟩
  ·simp only [iT,List.append_assoc,Kt];rw [<- e2,<- d2,<- c2,<- b2,<- a2]
  ·refine ⟨⟨a3,a4⟩,⟨b3,b4⟩,⟨c3,c4⟩,⟨d3,d4⟩,?_,?_⟩ <;> simp only [Cg] <;> split <;> omega
 full p x rest hp hg h:=by
  obtain ⟨⟨hs0,hs1⟩,⟨hk0,hk1⟩,⟨ho0,ho1⟩,⟨hy0,hy1⟩,ha0,ha1⟩:=hg;simp only [iT,List.append_assoc] at h;obtain ⟨a1,a2,a3,a4,a5⟩:=(aB l 1).on (st:=(p,false)) hp rfl (x:=x.ah) ⟨hs0,by simp only [Int.reducePow]; omega⟩ h;generalize ha:rdNum l 1 (p,false)=a at *;obtain ⟨b1,b2,b3,b4,b5⟩:=(aB l 1).on (st:=a.2) a4 a2 (x:=x.kind) ⟨hk0,by simp only [Int.reducePow]; omega⟩ a5;generalize ht:rdNum l 1 a.2=t at *;obtain ⟨c1,c2,c3,c4,c5⟩:=(aB l 2).on (st:=t.2) b4 b2 (x:=x.off) ⟨ho0,by simp only [Int.reducePow]; omega⟩ b5;generalize hb:rdNum l 2 t.2=b at *;obtain ⟨d1,d2,d3,d4,d5⟩:=(aB l 1).on (st:=b.2) c4 c2 (x:=x.sym) ⟨hy0,by simp only [Int.reducePow]; omega⟩ c5
  generalize hc:rdNum l 1 b.2=c at *;rw [<- Dp] at d5;obtain ⟨e1,e2,e3,e4,e5⟩:=(aB l 2).on (st:=c.2) d4 d2 (x:=Ev x.addend) ⟨by unfold Ev; split <;> omega,by simp only [Int.reducePow]; unfold Ev; split <;> omega⟩ d5;generalize hd:rdNum l 2 c.2=d at *;have hlen:d.2.1=p+(iT x).length:=by
   simp only [iT,List.length_append,aA] at *;omega
  refine ⟨?_,by rw [<- hlen]; exact e5,by rw [<- hlen]; exact e4⟩;unfold dN;simp only [ha,ht,hb,hc,hd,a1,b1,c1,d1,e1];have hu:Cg (Ev x.addend)=x.addend:=by unfold Cg Ev; split <;> split <;> omega
  rw [hu];exact Prod.ext rfl (Prod.ext hlen e2)
def jg (n:Nat) (xs:List Int):Prop:=∀ x∈xs,0<=x/\x < (256:Int) ^ n
def mG (o:Obj):Prop :=
 o.text.length < 65536/\o.far.length < 65536/\o.data.length < 65536/\(0<=o.bss/\o.bss < 65536)/\o.align.length=4/\jg 1 o.align /\
 o.syms.length < 256/\o.aj.length < 256/\(∀ y∈o.syms,mH y)/\(∀ r∈o.aj,ou r)/\jg 4 o.text/\jg 4 o.far/\jg 4 o.data
def nI (o:Obj):List UInt8 :=
 le o.text.length 2 ++ (le o.far.length 2 ++ (le o.data.length 2 ++ (le o.bss 2 ++ (nums o.align 1 ++ (le o.syms.length 1 ++ (le o.aj.length 1 ++
  (o.syms.flatMap jd ++ (o.aj.flatMap iT ++ (nums o.text 4 ++ (nums o.far 4 ++ nums o.data 4))))))))))
theorem zR (o:Obj):lY o=[76,75] ++ nI o:=rfl
theorem bE (l:List UInt8) (n c:Nat):Reads l (aR l n c) (fun xs=>nums xs n) (fun xs=>xs.length=c/\jg n xs):=by
 have h:=gB l (rdNum l n) _ _ (aB l n) c;have e:aR l n c=aM (rdNum l n) c:=funext fun st=>pX l n c st
 rw [e];exact h
theorem nN (l:List UInt8):Reads l (iM l) nI mG where
 mono p:=by
  simp only [iM];refine (bE l 4 _).iq ?_;refine (bE l 4 _).iq ?_;refine (bE l 4 _).iq ?_;refine (gB l _ _ _ (mK l) _).iq ?_;refine (gB l _ _ _ (mM l) _).iq ?_;refine (aB l 1).iq ?_;refine (aB l 1).iq ?_;refine (bE l 1 _).iq ?_;refine (aB l 2).iq ?_;refine (aB l 2).iq ?_;refine (aB l 2).iq ?_;refine (aB l 2).iq ?_;rfl
 sound p x p' hp h:=by
  simp only [iM,Prod.mk.injEq] at h;obtain ⟨h1,h2⟩:=h;generalize e1:rdNum l 2 (p,false)=t at h1 h2;generalize e2:rdNum l 2 t.2=f at h1 h2;generalize e3:rdNum l 2 f.2=d at h1 h2;generalize e4:rdNum l 2 d.2=b at h1 h2;generalize e5:aR l 1 4 b.2=a at h1 h2;generalize e6:rdNum l 1 a.2=s at h1 h2;generalize e7:rdNum l 1 s.2=r at h1 h2;generalize e8:aM (dR l) s.1.toNat r.2=ss at h1 h2;generalize e9:aM (dN l) r.1.toNat ss.2=rs at h1 h2;generalize e10:aR l 4 t.1.toNat rs.2=tx at h1 h2;generalize e11:aR l 4 f.1.toNat tx.2=fx at h1 h2;generalize e12:aR l 4 d.1.toNat fx.2=dx at h1 h2;have f12:dx.2.2=false:=by rw [h2]
  have f11:fx.2.2=false:=by rw [<- e12] at f12; exact (bE l 4 _).back f12
  have f10:tx.2.2=false:=by rw [<- e11] at f11; exact (bE l 4 _).back f11
  have f9:rs.2.2=false:=by rw [<- e10] at f10; exact (bE l 4 _).back f10
  have f8:ss.2.2=false:=by rw [<- e9] at f9; exact (gB l _ _ _ (mK l) _).back f9
  have f7:r.2.2=false:=by rw [<- e8] at f8; exact (gB l _ _ _ (mM l) _).back f8
  have f6:s.2.2=false:=by rw [<- e7] at f7; exact (aB l 1).back f7
  have f5:a.2.2=false:=by rw [<- e6] at f6; exact (aB l 1).back f6
  have f4:b.2.2=false:=by rw [<- e5] at f5; exact (bE l 1 _).back f5
  have f3:d.2.2=false:=by rw [<- e4] at f4; exact (aB l 2).back f4
  have f2:f.2.2=false:=by rw [<- e3] at f3; exact (aB l 2).back f3
  have f1:t.2.2=false:=by rw [<- e2] at f2; exact (aB l 2).back f2
  obtain ⟨p1,d1,g1⟩:=(aB l 2).go (st:=(p,false)) hp rfl (by rw [e1]; exact f1);rw [e1] at p1 d1 g1;obtain ⟨p2,d2,g2⟩:=(aB l 2).go (st:=t.2) p1 f1 (by rw [e2]; exact f2);rw [e2] at p2 d2 g2;obtain ⟨p3,d3,g3⟩:=(aB l 2).go (st:=f.2) p2 f2 (by rw [e3]; exact f3);rw [e3] at p3 d3 g3;obtain ⟨p4,d4,g4⟩:=(aB l 2).go (st:=d.2) p3 f3 (by rw [e4]; exact f4);rw [e4] at p4 d4 g4;obtain ⟨p5,d5,g5⟩:=(bE l 1 4).go (st:=b.2) p4 f4 (by rw [e5]; exact f5);rw [e5] at p5 d5 g5;obtain ⟨p6,d6,g6⟩:=(aB l 1).go (st:=a.2) p5 f5 (by rw [e6]; exact f6);rw [e6] at p6 d6 g6;obtain ⟨p7,d7,g7⟩:=(aB l 1).go (st:=s.2) p6 f6 (by rw [e7]; exact f7)
  rw [e7] at p7 d7 g7;obtain ⟨p8,d8,g8⟩:=(gB l _ _ _ (mM l) s.1.toNat).go (st:=r.2) p7 f7 (by rw [e8]; exact f8);rw [e8] at p8 d8 g8;obtain ⟨p9,d9,g9⟩:=(gB l _ _ _ (mK l) r.1.toNat).go (st:=ss.2) p8 f8 (by rw [e9]; exact f9);rw [e9] at p9 d9 g9;obtain ⟨wZ,Jj,g10⟩:=(bE l 4 t.1.toNat).go (st:=rs.2) p9 f9 (by rw [e10]; exact f10);rw [e10] at wZ Jj g10;obtain ⟨Eb,Jk,g11⟩:=(bE l 4 f.1.toNat).go (st:=tx.2) wZ f10 (by rw [e11]; exact f11);rw [e11] at Eb Jk g11;obtain ⟨Ce,Gl,g12⟩:=(bE l 4 d.1.toNat).go (st:=fx.2) Eb f11 (by rw [e12]; exact f12);rw [e12] at Ce Gl g12;have e13:dx.2.1=p':=by rw [h2]
  rw [e13] at Ce Gl;simp only [Int.reducePow] at g1 g2 g3 g4 g6 g7;have l1:((tx.1.length:Nat):Int)=t.1:=by rw [g10.1]; omega
  have l2:((fx.1.length:Nat):Int)=f.1:=by rw [g11.1]; omega
  have l3:((dx.1.length:Nat):Int)=d.1:=by rw [g12.1]; omega
  have l4:((ss.1.length:Nat):Int)=s.1:=by rw [g8.1]; omega
  have l5:((rs.1.length:Nat):Int)=r.1:=by rw [g9.1]; omega
  subst h1;refine ⟨Ce,?_,?_⟩
  ·simp only [nI,List.append_assoc,l1,l2,l3,l4,l5];rw [<- Gl,<- Jk,<- Jj,<- d9,<- d8,<- d7,<- d6,<- d5,<- d4,<- d3,<- d2,<- d1]
  ·refine ⟨?_,?_,?_,g4,g5.1,g5.2,?_,?_,g8.2,g9.2,g10.2,g11.2,g12.2⟩ <;> simp only <;> omega
 full p x rest hp hg h:=by
  obtain ⟨k1,k2,k3,k4,k5,k6,k7,k8,k9,k10,k11,k12,k13⟩:=hg;simp only [nI,List.append_assoc] at h;obtain ⟨a1,b1,c1,p1,d1⟩:=(aB l 2).on (st:=(p,false)) hp rfl (x:=(x.text.length:Int)) ⟨by omega,by simp only [Int.reducePow]; omega⟩ h;generalize e1:rdNum l 2 (p,false)=t at *;obtain ⟨a2,b2,c2,p2,d2⟩:=(aB l 2).on (st:=t.2) p1 b1 (x:=(x.far.length:Int)) ⟨by omega,by simp only [Int.reducePow]; omega⟩ d1;generalize e2:rdNum l 2 t.2=f at *;obtain ⟨a3,b3,c3,p3,d3⟩:=(aB l 2).on (st:=f.2) p2 b2 (x:=(x.data.length:Int)) ⟨by omega,by simp only [Int.reducePow]; omega⟩ d2;generalize e3:rdNum l 2 f.2=d at *;obtain ⟨a4,b4,c4,p4,d4⟩:=(aB l 2).on (st:=d.2) p3 b3 (x:=x.bss) ⟨k4.1,by simp only [Int.reducePow]; omega⟩ d3
  generalize e4:rdNum l 2 d.2=b at *;obtain ⟨a5,b5,c5,p5,d5⟩:=(bE l 1 4).on (st:=b.2) p4 b4 (x:=x.align) ⟨k5,k6⟩ d4;generalize e5:aR l 1 4 b.2=a at *;obtain ⟨a6,b6,c6,p6,d6⟩:=(aB l 1).on (st:=a.2) p5 b5 (x:=(x.syms.length:Int)) ⟨by omega,by simp only [Int.reducePow]; omega⟩ d5;generalize e6:rdNum l 1 a.2=s at *;obtain ⟨a7,b7,c7,p7,d7⟩:=(aB l 1).on (st:=s.2) p6 b6 (x:=(x.aj.length:Int)) ⟨by omega,by simp only [Int.reducePow]; omega⟩ d6;generalize e7:rdNum l 1 s.2=r at *;obtain ⟨a8,b8,c8,p8,d8⟩:=(gB l _ _ _ (mM l) s.1.toNat).on (st:=r.2) p7 b7 (x:=x.syms) ⟨by rw [a6]; simp,k9⟩ d7;generalize e8:aM (dR l) s.1.toNat r.2=ss at *
  obtain ⟨a9,b9,c9,p9,d9⟩:=(gB l _ _ _ (mK l) r.1.toNat).on (st:=ss.2) p8 b8 (x:=x.aj) ⟨by rw [a7]; simp,k10⟩ d8;generalize e9:aM (dN l) r.1.toNat ss.2=rs at *;obtain ⟨Qj,b10,c10,wZ,Jj⟩:=(bE l 4 t.1.toNat).on (st:=rs.2) p9 b9 (x:=x.text) ⟨by rw [a1]; simp,k11⟩ d9;generalize e10:aR l 4 t.1.toNat rs.2=tx at *;obtain ⟨Xq,b11,c11,Eb,Jk⟩:=(bE l 4 f.1.toNat).on (st:=tx.2) wZ b10 (x:=x.far) ⟨by rw [a2]; simp,k12⟩ Jj;generalize e11:aR l 4 f.1.toNat tx.2=fx at *;obtain ⟨a12,b12,c12,Ce,Gl⟩:=(bE l 4 d.1.toNat).on (st:=fx.2) Eb b11 (x:=x.data) ⟨by rw [a3]; simp,k13⟩ Jk;generalize e12:aR l 4 d.1.toNat fx.2=dx at *
  have hlen:dx.2.1=p+(nI x).length:=by
   simp only [nI,List.length_append,aA] at *;omega
  refine ⟨?_,by rw [<- hlen]; exact Gl,by rw [<- hlen]; exact Ce⟩;simp only [iM,e1,e2,e3,e4,e5,e6,e7,e8,e9,e10,e11,e12,a4,a5,a8,a9,Qj,Xq,a12];exact Prod.ext rfl (Prod.ext hlen b12)
def gY (l:List UInt8):Option Obj :=
 if (aF l 2 (0,false)).1=[76,75] then
  (if (iM l (aF l 2 (0,false)).2).2=(l.length,false) then some (iM l (aF l 2 (0,false)).2).1 else none)
 else none
theorem kr (l:List UInt8) (o:Obj):gY l=some o↔mG o/\l=lY o:=by
 unfold gY;constructor
 ·intro h;split at h
  ·rename_i hm;split at h
   ·rename_i hr;simp only [Option.some.injEq] at h;generalize ht:aF l 2 (0,false)=t at *;have f1:t.2.2=false:=(nN l).back (by rw [hr]);obtain ⟨p1,d1,g1⟩:=(fB l 2).go (st:=(0,false)) (Nat.zero_le _) rfl (by rw [ht]; exact f1);rw [ht] at p1 d1 g1;obtain ⟨p2,d2,g2⟩:=(nN l).go (st:=t.2) p1 f1 (by rw [hr]);rw [h] at d2 g2;rw [hr] at d2;rw [hm] at d1;simp only [List.drop_zero,List.drop_length,List.append_nil] at d1 d2;exact ⟨g2,by rw [zR,<- d2]; exact d1⟩
   ·simp at h
  ·simp at h
 ·rintro ⟨hg,hl⟩;have h0:l.drop 0=[76,75] ++ nI o:=by rw [hl,zR]; rfl
  obtain ⟨a1,b1,c1,p1,d1⟩:=(fB l 2).on (st:=(0,false)) (Nat.zero_le _) rfl (x:=[76,75]) (rest:=nI o) rfl h0;generalize ht:aF l 2 (0,false)=t at *;obtain ⟨a2,b2,c2,p2,d2⟩:=(nN l).on (st:=t.2) p1 b1 (x:=o) (rest:=[]) hg (by simpa using d1);rw [if_pos a1];have hlen:(iM l t.2).2.1=l.length:=by
   have h3:(l.drop (iM l t.2).2.1).length=0:=by rw [d2]; rfl
   simp at h3;omega
  rw [if_pos (Prod.ext hlen b2),a2]
end Go.Proofs.YtpgklkhgfcjceaaGreatDoor.Lk

namespace Go.Proofs.YtpgklkhgfcjceaaGreatDoor
namespace As
structure Tok where
 kind:Nat
 pos:Nat
 text:List UInt8
 n:Nat
def Tok.nil:Tok:=⟨0,0,[],0⟩
structure St where
 p:Nat
 tok:Tok
 fe:Nat
 fa:Nat
 op:Tok
 ah:Nat
 obj:Lk.Obj
def bA (c:UInt8):Bool:=decide (48<=c.toNat) && decide (c.toNat<=57)
def aY (c:UInt8):Bool:=(decide (97<=c.toNat) && decide (c.toNat<=122)) || c.toNat == 95 || bA c || c.toNat == 46
def kF (c:UInt8):Bool:=c.toNat == 44 || c.toNat == 58 || c.toNat == 40 || c.toNat == 41 || c.toNat == 43 || c.toNat == 45
def blank (c:UInt8):Bool:=c.toNat == 32 || c.toNat == 9
def eY (c:UInt8):Bool:=!(c.toNat == 10)
def ends (c:UInt8):Bool:=c.toNat == 10 || c.toNat == 35
def skip (f:UInt8->Bool) (s:List UInt8) (p:Nat):Nat:=p+((s.drop p).takeWhile f).length
def dec (ds:List UInt8):Nat:=ds.foldl (fun n c=>10 * n+(c.toNat - 48)) 0
def iI (s:List UInt8) (p:Nat):Tok×(Nat×Nat)×Nat :=
 if 10 < ((s.drop p).takeWhile bA).length then (Tok.nil,(5,p),p+10)
 else if ((s[skip bA s p]?).map aY).getD false then (Tok.nil,(2,skip bA s p),skip bA s p)
 else (⟨2,p,(s.drop p).takeWhile bA,dec ((s.drop p).takeWhile bA)⟩,(0,0),skip bA s p)
def iL (s:List UInt8) (q:Nat):Tok×(Nat×Nat)×Nat :=
 match s[q]? with
 | none=>(⟨4,q,[],0⟩,(0,0),q)
 | some c =>
  if ends c then (⟨4,q,[],0⟩,(0,0),q)
  else if bA c then iI s q
  else if aY c then (⟨1,q,(s.drop q).takeWhile aY,0⟩,(0,0),skip aY s q)
  else if kF c then (⟨3,q,[c],0⟩,(0,0),q+1)
  else (Tok.nil,(2,q),q)
def next (s:List UInt8) (p:Nat):Tok×(Nat×Nat)×Nat:=iL s (skip blank s p)
def failed (st:St):Bool:=!(st.fe == 0)
def refuse (e pos:Nat) (st:St):St:=if failed st then st else { st with fe:=e,fa:=pos,tok:=Tok.nil }
def advance (s:List UInt8) (st:St):St :=
 if failed st then st
 else if (next s st.p).2.1.1 == 0 then { st with p:=(next s st.p).2.2,tok:=(next s st.p).1 }
 else refuse (next s st.p).2.1.1 (next s st.p).2.1.2 { st with p:=(next s st.p).2.2 }
def bV (s:List UInt8) (st:St):Tok×St:=if st.tok.kind == 1 then (st.tok,advance s st) else (Tok.nil,st)
def Tok.is (t:Tok) (c:List UInt8):Bool:=t.kind == 3 && t.text == c
def lineEnd (s:List UInt8) (p:Nat):Bool×Nat :=
 if skip eY s p < s.length then (true,skip eY s p+1) else (false,skip eY s p)
def bG (s:List UInt8) (st:St):Bool×St :=
 if failed st then (false,st) else ((lineEnd s st.p).1,{ st with p:=(lineEnd s st.p).2 })
def kN (t:List UInt8):Bool:=t.any fun c=>c.toNat == 46
def jf:List UInt8->Option Nat
 | [x,a]=>if x.toNat=120/\bA a then some (a.toNat - 48) else none
 | [x,a,b]=>if x.toNat=120/\bA a/\a.toNat≠48/\bA b/\10 * (a.toNat - 48)+(b.toNat - 48)<=31 then some (10 * (a.toNat - 48)+(b.toNat - 48)) else none
 | _=>none
def aV (c:Bool) (e pos:Nat) (st:St):St:=if c then refuse e pos st else st
def bR (t:Tok) (st:St):St :=
 aV (jf t.text).isSome 7 t.pos (aV (decide (6 < t.text.length)) 4 t.pos (aV (kN t.text) 3 t.pos st))
def bK (o:Lk.Obj) (ah:Nat):Int :=
 if ah=4 then o.bss else if ah=1 then o.text.length else if ah=2 then o.far.length else if ah=3 then o.data.length else 0
def kg (ys:List Lk.Sym) (nm:List UInt8):Option Nat:=ys.findIdx? fun y=>y.name == nm
def aJ (t:Tok) (st:St):(Nat×Bool)×St :=
 if failed st then ((0,false),st)
 else match kg st.obj.syms t.text with
  | some i=>((i,true),st)
  | none =>
   if 16<=st.obj.syms.length then ((0,false),refuse 11 t.pos st)
   else ((st.obj.syms.length,true),{ st with obj:={ st.obj with syms:=st.obj.syms ++ [⟨t.text,0,0,0⟩] } })
def mh (st:St) (i:Nat) (f:Lk.Sym->Lk.Sym):St:={ st with obj:={ st.obj with syms:=st.obj.syms.modify i f } }
def label (t:Tok) (st0:St):St :=
 let r:=aJ t (bR t st0)
 if !r.1.2 then r.2
 else if ((r.2.obj.syms[r.1.1]?).map (·.ah)).getD 0≠0 then refuse 10 t.pos r.2
 else mh r.2 r.1.1 fun y=>⟨y.name,y.bind,r.2.ah,4 * bK r.2.obj r.2.ah⟩
def name (s:List UInt8) (st:St):Tok×St :=
 if st.tok.kind == 1 then (st.tok,advance s (bR st.tok st)) else (Tok.nil,refuse 3 st.tok.pos st)
def bind (s:List UInt8) (binding:Int) (st0:St):St :=
 let t:=(name s st0).1
 let r:=aJ t (name s st0).2
 if !r.1.2 then r.2
 else if ((r.2.obj.syms[r.1.1]?).map (·.bind)).getD 0≠0 then refuse 14 t.pos r.2
 else mh r.2 r.1.1 fun y=>⟨y.name,binding,y.ah,y.off⟩
def sign (s:List UInt8) (c:List UInt8) (st:St):St:=if st.tok.is c then advance s st else refuse 3 st.tok.pos st
def register (s:List UInt8) (st:St):Nat×St :=
 if st.tok.kind == 1 then
  match jf st.tok.text with
  | none=>(0,refuse 7 st.tok.pos st)
  | some r=>(r,advance s st)
 else (0,refuse 3 st.tok.pos st)
def aT (s:List UInt8) (neg:Bool) (pos:Nat) (lo hi:Int) (st:St):Int×St :=
 if st.tok.kind == 2 then
  if (if neg then -(st.tok.n:Int) else (st.tok.n:Int)) < lo\/hi < (if neg then -(st.tok.n:Int) else (st.tok.n:Int)) then (0,refuse 8 pos st)
  else ((if neg then -(st.tok.n:Int) else (st.tok.n:Int)),advance s st)
 else (0,refuse 3 st.tok.pos st)
def number (s:List UInt8) (lo hi:Int) (st:St):Int×St :=
 if st.tok.is [45] then aT s true st.tok.pos lo hi (advance s st) else aT s false st.tok.pos lo hi st
def symbol (s:List UInt8) (st:St):Nat×St :=
 let r:=aJ (name s st).1 (name s st).2
 (r.1.1,r.2)
def target (s:List UInt8) (st:St):(Nat×Int)×St :=
 let r:=symbol s st
 if r.2.tok.is [43] then ((r.1,(number s 0 2047 (advance s r.2)).1),(number s 0 2047 (advance s r.2)).2)
 else if r.2.tok.is [45] then ((r.1,-(number s 0 2048 (advance s r.2)).1),(number s 0 2048 (advance s r.2)).2)
 else ((r.1,0),r.2)
def place (s:List UInt8) (st:St):(Int×Nat)×St :=
 let r:=number s (-2048) 2047 st
 let q:=register s (sign s [40] r.2)
 ((r.1,q.1),sign s [41] q.2)
def limit (ah:Nat):Int:=if ah=3 then 64 else if ah=4 then 64 else 1200
def aI (o:Lk.Obj) (ah:Nat) (ws:List Int):Lk.Obj :=
 if ah=1 then { o with text:=o.text ++ ws } else if ah=2 then { o with far:=o.far ++ ws } else if ah=3 then { o with data:=o.data ++ ws }
 else if ah=4 then { o with bss:=o.bss+ws.length } else o
def lay (ws:List Int) (st:St):St :=
 if 4 * limit st.ah < 4 * bK st.obj st.ah+4 * (ws.length:Int) then refuse 13 st.op.pos st
 else if failed st then st
 else { st with obj:=aI st.obj st.ah ws }
def bZ (kind:Int) (sym:Nat) (addend:Int) (ws:List Int) (st0:St):St :=
 let st:=aV (decide (32<=st0.obj.aj.length)) 12 st0.op.pos st0
 if failed st then st
 else lay ws { st with obj:={ st.obj with aj:=st.obj.aj ++ [⟨st.ah,4 * bK st.obj st.ah,kind,sym,addend⟩] } }
end As
end Go.Proofs.YtpgklkhgfcjceaaGreatDoor

namespace Go.Proofs.YtpgklkhgfcjceaaGreatDoor
namespace As
def fO (n:Int) (low count:Nat):Nat:=((n / (2:Int) ^ low) % (2:Int) ^ count).toNat
def forms:List Nat:=[0,1,1,2,3,4,4,4,4,4,4,3,5,3,3,3,3,3,6,6,6,6,6,6,6,7]
def jQ:List Nat:=[0,55,23,111,103,99,4195,16483,20579,24675,28771,8195,8227,19,8211,16403,24595,28691,51,1073741875,8243,12339,16435,24627,28723,115]
def place' (form:Nat) (n:Int):Nat :=
 if form=1 then fO n 0 20 * 4096
 else if form=2 then fO n 20 1 * 2147483648 ||| fO n 1 10 * 2097152 ||| fO n 11 1 * 1048576 ||| fO n 12 8 * 4096
 else if form=3 then fO n 0 12 * 1048576
 else if form=4 then fO n 12 1 * 2147483648 ||| fO n 5 6 * 33554432 ||| fO n 1 4 * 256 ||| fO n 11 1 * 128
 else if form=5 then fO n 5 7 * 33554432 ||| fO n 0 5 * 128
 else 0
def lM (form:Nat):Bool:=form == 1 || form == 2 || form == 3 || form == 6
def jA (form:Nat):Bool:=form == 3 || form == 4 || form == 5 || form == 6
def kE (form:Nat):Bool:=form == 4 || form == 5 || form == 6
def kV (form fixed:Nat) (rd au aC:Nat) (n:Int):Nat :=
 let w0:=fixed ||| place' form n
 let w1:=if lM form then w0 ||| fO rd 0 5 * 128 else w0
 let w2:=if jA form then w1 ||| fO au 0 5 * 32768 else w1
 if kE form then w2 ||| fO aC 0 5 * 1048576 else w2
def enc (op rd au aC:Nat) (n:Int):Nat:=kV (forms.getD op 0) (jQ.getD op 0) rd au aC n
end As
end Go.Proofs.YtpgklkhgfcjceaaGreatDoor

namespace Go.Proofs.YtpgklkhgfcjceaaGreatDoor
namespace As
def bP (v:Int):Int:=if v % 4096 < 2048 then v % 4096 else v % 4096 - 4096
def dJ (v:Int):Int:=(v - bP v) / 4096 % 1048576
def bC (op rd au aC:Nat) (n:Int) (st:St):St:=lay [(enc op rd au aC n:Int)] st
def bX (reg op rd au aC:Nat) (n:Int) (sym:Nat) (addend:Int) (st:St):St :=
 bZ 5 sym addend [(enc 1 reg 0 0 0:Int),(enc op rd au aC n:Int)] (aV (reg == 0) 7 st.op.pos st)
def eB (s:List UInt8) (op:Nat) (st:St):St :=
 let a:=register s st
 let b:=register s (sign s [44] a.2)
 let c:=register s (sign s [44] b.2)
 bC op a.1 b.1 c.1 0 c.2
def dK (s:List UInt8) (op:Nat) (st:St):St :=
 let a:=register s st
 let b:=register s (sign s [44] a.2)
 let c:=number s (-2048) 2047 (sign s [44] b.2)
 bC op a.1 b.1 0 c.1 c.2
def upper (s:List UInt8) (st:St):St :=
 let a:=register s st
 let c:=number s 0 1048575 (sign s [44] a.2)
 bC 1 a.1 0 0 c.1 c.2
def load (s:List UInt8) (st:St):St :=
 let a:=register s st
 let st1:=sign s [44] a.2
 if st1.tok.kind == 1 then
  let t:=target s st1
  bX a.1 11 a.1 a.1 0 0 t.1.1 t.1.2 t.2
 else
  let p:=place s st1
  bC 11 a.1 p.1.2 0 p.1.1 p.2
def store (s:List UInt8) (st:St):St :=
 let a:=register s st
 let st1:=sign s [44] a.2
 if st1.tok.kind == 1 then
  let t:=target s st1
  let r:=register s (sign s [44] t.2)
  bX r.1 12 0 r.1 a.1 0 t.1.1 t.1.2 r.2
 else
  let p:=place s st1
  bC 12 0 p.1.2 a.1 p.1.1 p.2
def dh (s:List UInt8) (st:St):St :=
 let a:=register s st
 let t:=target s (sign s [44] a.2)
 bX a.1 13 a.1 a.1 0 0 t.1.1 t.1.2 t.2
def bO (s:List UInt8) (st:St):St :=
 let a:=register s st
 let p:=place s (sign s [44] a.2)
 bC 4 a.1 p.1.2 0 p.1.1 p.2
def bare (st:St):St :=
 if st.op.text=[101,99,97,108,108] then bC 25 0 0 0 0 st
 else if st.op.text=[114,101,116] then bC 4 0 1 0 0 st
 else if st.op.text=[110,111,112] then bC 13 0 0 0 0 st
 else st
def branch (s:List UInt8) (op:Nat) (st:St):St :=
 let a:=register s st
 let b:=register s (sign s [44] a.2)
 let y:=symbol s (sign s [44] b.2)
 bZ 2 y.1 0 [(enc op 0 a.1 b.1 0:Int)] y.2
def fF (s:List UInt8) (rd:Nat) (st:St):St :=
 let y:=symbol s st
 bZ 3 y.1 0 [(enc 3 rd 0 0 0:Int)] y.2
def fE (s:List UInt8) (st:St):St :=
 let a:=register s st
 fF s a.1 (sign s [44] a.2)
def move (s:List UInt8) (st:St):St :=
 let a:=register s st
 let b:=register s (sign s [44] a.2)
 bC 13 a.1 b.1 0 0 b.2
def dI (s:List UInt8) (st:St):St :=
 let a:=register s st
 let c:=number s (-2147483648) 2147483647 (sign s [44] a.2)
 if -2048<=c.1/\c.1<=2047 then bC 13 a.1 0 0 c.1 c.2
 else lay [(enc 1 a.1 0 0 (dJ c.1):Int),(enc 13 a.1 a.1 0 (bP c.1):Int)] c.2
def call (s:List UInt8) (st:St):St :=
 let tail:=st.op.text == [116,97,105,108]
 let y:=symbol s st
 bZ 4 y.1 0 [(enc 2 (if tail then 6 else 1) 0 0 0:Int),(enc 4 (if tail then 0 else 1) (if tail then 6 else 1) 0 0:Int)] y.2
end As
end Go.Proofs.YtpgklkhgfcjceaaGreatDoor

namespace Go.Proofs.YtpgklkhgfcjceaaGreatDoor
namespace As
def fH (st:St):St :=
 if st.op.text=[46,116,101,120,116] then { st with ah:=1 }
 else if st.op.text=[46,102,97,114] then { st with ah:=2 }
 else if st.op.text=[46,100,97,116,97] then { st with ah:=3 }
 else if st.op.text=[46,98,115,115] then { st with ah:=4 }
 else st
def binding (s:List UInt8) (st:St):St:=bind s (if st.op.text=[46,103,108,111,98,108] then 1 else 2) st
def word (s:List UInt8) (st:St):St :=
 if st.tok.kind == 1 then
  let t:=target s st
  bZ 1 t.1.1 t.1.2 [0] t.2
 else
  let n:=number s (-2147483648) 4294967295 st
  lay [n.1 % 4294967296] n.2
def space (s:List UInt8) (st:St):St :=
 let n:=number s 0 4800 st
 if n.1 % 4=0 then lay (List.replicate (n.1 / 4).toNat 0) n.2 else refuse 8 n.2.op.pos n.2
def nK (ah:Nat):Bool:=ah == 1 || ah == 2
def bT (k:Int) (st:St):St :=
 if (st.obj.align[st.ah - 1]?).getD 0 < k then { st with obj:={ st.obj with align:=st.obj.align.set (st.ah - 1) k } } else st
def dB (aG:Nat) (st:St):St :=
 if nK st.ah then
  if 4 < aG then bZ 6 0 ((aG:Int) - 4) (List.replicate (aG / 4 - 1) 19) st else st
 else lay (List.replicate (((aG:Int) - 4 * bK st.obj st.ah % aG) % aG / 4).toNat 0) st
def align (s:List UInt8) (st:St):St :=
 let n:=number s 2 4 st
 if failed n.2 then n.2 else bT n.1 (dB (2 ^ n.1.toNat) n.2)
end As
end Go.Proofs.YtpgklkhgfcjceaaGreatDoor

namespace Go.Proofs.YtpgklkhgfcjceaaGreatDoor
namespace As
def iW (t:List UInt8):Nat :=
 if t=[46,116,101,120,116] then 15 else
 if t=[46,102,97,114] then 15 else
 if t=[46,100,97,116,97] then 15 else
 if t=[46,98,115,115] then 15 else
 if t=[46,119,111,114,100] then 16 else
 if t=[46,115,112,97,99,101] then 17 else
 if t=[46,97,108,105,103,110] then 18 else
 if t=[46,103,108,111,98,108] then 19 else
 if t=[46,119,101,97,107] then 19 else
 0
def shapeOf (t:List UInt8):Nat :=
 if t=[97,100,100] then 1 else
 if t=[115,117,98] then 1 else
 if t=[115,108,116] then 1 else
 if t=[115,108,116,117] then 1 else
 if t=[120,111,114] then 1 else
 if t=[111,114] then 1 else
 if t=[97,110,100] then 1 else
 if t=[97,100,100,105] then 2 else
 if t=[115,108,116,105] then 2 else
 if t=[120,111,114,105] then 2 else
 if t=[111,114,105] then 2 else
 if t=[97,110,100,105] then 2 else
 if t=[108,117,105] then 3 else
 if t=[108,119] then 4 else
 if t=[115,119] then 5 else
 if t=[106,97,108,114] then 6 else
 if t=[101,99,97,108,108] then 7 else
 if t=[114,101,116] then 7 else
 if t=[110,111,112] then 7 else
 if t=[98,101,113] then 8 else
 if t=[98,110,101] then 8 else
 if t=[98,108,116] then 8 else
 if t=[98,103,101] then 8 else
 if t=[98,108,116,117] then 8 else
 if t=[98,103,101,117] then 8 else
 if t=[106,97,108] then 9 else
 if t=[106] then 10 else
 if t=[109,118] then 11 else
 if t=[108,105] then 12 else
 if t=[99,97,108,108] then 13 else
 if t=[116,97,105,108] then 13 else
 if t=[108,97] then 14 else
 iW t
def names:List (List UInt8):=[[],[108,117,105],[97,117,105,112,99],[106,97,108],[106,97,108,114],[98,101,113],[98,110,101],[98,108,116],[98,103,101],[98,108,116,117],[98,103,101,117],[108,119],[115,119],[97,100,100,105],[115,108,116,105],[120,111,114,105],[111,114,105],[97,110,100,105],[97,100,100],[115,117,98],[115,108,116],[115,108,116,117],[120,111,114],[111,114],[97,110,100],[101,99,97,108,108]]
def named (t:List UInt8):Nat:=((List.range 26).find? fun k=>decide (1<=k) && names.getD k [] == t).getD 0
def instruction (s:List UInt8) (shape op:Nat) (st:St):St :=
 if shape=1 then eB s op st else if shape=2 then dK s op st else if shape=3 then upper s st else if shape=4 then load s st
 else if shape=5 then store s st else if shape=6 then bO s st else if shape=7 then bare st else if shape=8 then branch s op st
 else if shape=9 then fE s st else if shape=10 then fF s 0 st else if shape=11 then move s st else if shape=12 then dI s st
 else if shape=13 then call s st else if shape=14 then dh s st else st
def directive (s:List UInt8) (shape:Nat) (st:St):St :=
 if shape=15 then fH st else if shape=16 then word s st else if shape=17 then space s st else if shape=18 then align s st
 else if shape=19 then binding s st else st
def iG (shape ah:Nat):Bool:=if shape<=14 then nK ah else !(shape == 16) || !(ah == 4)
def operation (s:List UInt8) (t:Tok) (st:St):St :=
 if shapeOf t.text=0 then refuse 6 t.pos st
 else if !iG (shapeOf t.text) st.ah then refuse 9 t.pos st
 else if shapeOf t.text<=14 then instruction s (shapeOf t.text) (named t.text) { st with op:=t }
 else directive s (shapeOf t.text) { st with op:=t }
def iA (s:List UInt8) (t:Tok) (st:St):St :=
 let st1:=if t.kind == 1 then operation s t st else st
 if st1.tok.kind == 4 then st1 else refuse 3 st1.tok.pos st1
def line (s:List UInt8) (st:St):St :=
 let w:=bV s (advance s st)
 if w.1.kind == 1 && w.2.tok.is [58] then
  let v:=bV s (advance s (label w.1 w.2))
  iA s v.1 v.2
 else iA s w.1 w.2
def lines (s:List UInt8):Nat->St->St
 | 0,st=>st
 | n+1,st =>
  let r:=bG s (line s st)
  if r.1 then lines s n r.2 else r.2
def kM (ys:List Lk.Sym):List Lk.Sym:=ys.map fun y=>if y.ah=0/\y.bind=0 then ⟨y.name,1,y.ah,y.off⟩ else y
def gW (rs:List Lk.Rel):List Lk.Rel:=(rs.filter fun r=>r.ah=1) ++ (rs.filter fun r=>r.ah=2) ++ (rs.filter fun r=>r.ah=3)
def start:St:=⟨0,Tok.nil,0,0,Tok.nil,1,⟨[],[],[],0,[2,2,2,2],[],[]⟩⟩
def finish (o:Lk.Obj):Lk.Obj:={ o with syms:=kM o.syms,aj:=gW o.aj }
def assemble (s:List UInt8):(Nat×Nat)×Lk.Obj :=
 if 1000 < s.length then ((1,0),start.obj)
 else ((( lines s (s.length+1) start).fe,(lines s (s.length+1) start).fa),finish (lines s (s.length+1) start).obj)
end As
end Go.Proofs.YtpgklkhgfcjceaaGreatDoor

namespace Go.Proofs.YtpgklkhgfcjceaaGreatDoor
namespace At
open As
structure Sc where
 next:Nat->Tok×(Nat×Nat)×Nat
 le:Nat->Bool×Nat
def advance (s:Sc) (st:St):St :=
 if failed st then st
 else if (s.next st.p).2.1.1 == 0 then { st with p:=(s.next st.p).2.2,tok:=(s.next st.p).1 }
 else refuse (s.next st.p).2.1.1 (s.next st.p).2.1.2 { st with p:=(s.next st.p).2.2 }
def bV (s:Sc) (st:St):Tok×St:=if st.tok.kind == 1 then (st.tok,advance s st) else (Tok.nil,st)
def bG (s:Sc) (st:St):Bool×St :=
 if failed st then (false,st) else ((s.le st.p).1,{ st with p:=(s.le st.p).2 })
def name (s:Sc) (st:St):Tok×St :=
 if st.tok.kind == 1 then (st.tok,advance s (bR st.tok st)) else (Tok.nil,refuse 3 st.tok.pos st)
def bind (s:Sc) (binding:Int) (st0:St):St :=
 let t:=(name s st0).1
 let r:=aJ t (name s st0).2
 if !r.1.2 then r.2
 else if ((r.2.obj.syms[r.1.1]?).map (·.bind)).getD 0≠0 then refuse 14 t.pos r.2
 else mh r.2 r.1.1 fun y=>⟨y.name,binding,y.ah,y.off⟩
def sign (s:Sc) (c:List UInt8) (st:St):St:=if st.tok.is c then advance s st else refuse 3 st.tok.pos st
def register (s:Sc) (st:St):Nat×St :=
 if st.tok.kind == 1 then
  match jf st.tok.text with
  | none=>(0,refuse 7 st.tok.pos st)
  | some r=>(r,advance s st)
 else (0,refuse 3 st.tok.pos st)
def aT (s:Sc) (neg:Bool) (pos:Nat) (lo hi:Int) (st:St):Int×St :=
 if st.tok.kind == 2 then
  if (if neg then -(st.tok.n:Int) else (st.tok.n:Int)) < lo\/hi < (if neg then -(st.tok.n:Int) else (st.tok.n:Int)) then (0,refuse 8 pos st)
  else ((if neg then -(st.tok.n:Int) else (st.tok.n:Int)),advance s st)
 else (0,refuse 3 st.tok.pos st)
def number (s:Sc) (lo hi:Int) (st:St):Int×St :=
 if st.tok.is [45] then aT s true st.tok.pos lo hi (advance s st) else aT s false st.tok.pos lo hi st
def symbol (s:Sc) (st:St):Nat×St :=
 let r:=aJ (name s st).1 (name s st).2
 (r.1.1,r.2)
def target (s:Sc) (st:St):(Nat×Int)×St :=
 let r:=symbol s st
 if r.2.tok.is [43] then ((r.1,(number s 0 2047 (advance s r.2)).1),(number s 0 2047 (advance s r.2)).2)
 else if r.2.tok.is [45] then ((r.1,-(number s 0 2048 (advance s r.2)).1),(number s 0 2048 (advance s r.2)).2)
 else ((r.1,0),r.2)
def place (s:Sc) (st:St):(Int×Nat)×St :=
 let r:=number s (-2048) 2047 st
 let q:=register s (sign s [40] r.2)
 ((r.1,q.1),sign s [41] q.2)
def eB (s:Sc) (op:Nat) (st:St):St :=
 let a:=register s st
 let b:=register s (sign s [44] a.2)
 let c:=register s (sign s [44] b.2)
 bC op a.1 b.1 c.1 0 c.2
def dK (s:Sc) (op:Nat) (st:St):St :=
 let a:=register s st
 let b:=register s (sign s [44] a.2)
 let c:=number s (-2048) 2047 (sign s [44] b.2)
 bC op a.1 b.1 0 c.1 c.2
def upper (s:Sc) (st:St):St :=
 let a:=register s st
 let c:=number s 0 1048575 (sign s [44] a.2)
 bC 1 a.1 0 0 c.1 c.2
def load (s:Sc) (st:St):St :=
 let a:=register s st
 let st1:=sign s [44] a.2
 if st1.tok.kind == 1 then
  let t:=target s st1
  bX a.1 11 a.1 a.1 0 0 t.1.1 t.1.2 t.2
 else
  let p:=place s st1
  bC 11 a.1 p.1.2 0 p.1.1 p.2
def store (s:Sc) (st:St):St :=
 let a:=register s st
 let st1:=sign s [44] a.2
 if st1.tok.kind == 1 then
  let t:=target s st1
  let r:=register s (sign s [44] t.2)
  bX r.1 12 0 r.1 a.1 0 t.1.1 t.1.2 r.2
 else
  let p:=place s st1
  bC 12 0 p.1.2 a.1 p.1.1 p.2
def dh (s:Sc) (st:St):St :=
 let a:=register s st
 let t:=target s (sign s [44] a.2)
 bX a.1 13 a.1 a.1 0 0 t.1.1 t.1.2 t.2
def bO (s:Sc) (st:St):St :=
 let a:=register s st
 let p:=place s (sign s [44] a.2)
 bC 4 a.1 p.1.2 0 p.1.1 p.2
def branch (s:Sc) (op:Nat) (st:St):St :=
 let a:=register s st
 let b:=register s (sign s [44] a.2)
 let y:=symbol s (sign s [44] b.2)
 bZ 2 y.1 0 [(enc op 0 a.1 b.1 0:Int)] y.2
def fF (s:Sc) (rd:Nat) (st:St):St :=
 let y:=symbol s st
 bZ 3 y.1 0 [(enc 3 rd 0 0 0:Int)] y.2
def fE (s:Sc) (st:St):St :=
 let a:=register s st
 fF s a.1 (sign s [44] a.2)
def move (s:Sc) (st:St):St :=
 let a:=register s st
 let b:=register s (sign s [44] a.2)
 bC 13 a.1 b.1 0 0 b.2
def dI (s:Sc) (st:St):St :=
 let a:=register s st
 let c:=number s (-2147483648) 2147483647 (sign s [44] a.2)
 if -2048<=c.1/\c.1<=2047 then bC 13 a.1 0 0 c.1 c.2
 else lay [(enc 1 a.1 0 0 (dJ c.1):Int),(enc 13 a.1 a.1 0 (bP c.1):Int)] c.2
def call (s:Sc) (st:St):St :=
 let tail:=st.op.text == [116,97,105,108]
 let y:=symbol s st
 bZ 4 y.1 0 [(enc 2 (if tail then 6 else 1) 0 0 0:Int),(enc 4 (if tail then 0 else 1) (if tail then 6 else 1) 0 0:Int)] y.2
def binding (s:Sc) (st:St):St:=bind s (if st.op.text=[46,103,108,111,98,108] then 1 else 2) st
def word (s:Sc) (st:St):St :=
 if st.tok.kind == 1 then
  let t:=target s st
  bZ 1 t.1.1 t.1.2 [0] t.2
 else
  let n:=number s (-2147483648) 4294967295 st
  lay [n.1 % 4294967296] n.2
def space (s:Sc) (st:St):St :=
 let n:=number s 0 4800 st
 if n.1 % 4=0 then lay (List.replicate (n.1 / 4).toNat 0) n.2 else refuse 8 n.2.op.pos n.2
def align (s:Sc) (st:St):St :=
 let n:=number s 2 4 st
 if failed n.2 then n.2 else bT n.1 (dB (2 ^ n.1.toNat) n.2)
def instruction (s:Sc) (shape op:Nat) (st:St):St :=
 if shape=1 then eB s op st else if shape=2 then dK s op st else if shape=3 then upper s st else if shape=4 then load s st
 else if shape=5 then store s st else if shape=6 then bO s st else if shape=7 then bare st else if shape=8 then branch s op st
 else if shape=9 then fE s st else if shape=10 then fF s 0 st else if shape=11 then move s st else if shape=12 then dI s st
 else if shape=13 then call s st else if shape=14 then dh s st else st
def directive (s:Sc) (shape:Nat) (st:St):St :=
 if shape=15 then fH st else if shape=16 then word s st else if shape=17 then space s st else if shape=18 then align s st
 else if shape=19 then binding s st else st
def operation (s:Sc) (t:Tok) (st:St):St :=
 if shapeOf t.text=0 then refuse 6 t.pos st
 else if !iG (shapeOf t.text) st.ah then refuse 9 t.pos st
 else if shapeOf t.text<=14 then instruction s (shapeOf t.text) (named t.text) { st with op:=t }
 else directive s (shapeOf t.text) { st with op:=t }
def iA (s:Sc) (t:Tok) (st:St):St :=
 let st1:=if t.kind == 1 then operation s t st else st
 if st1.tok.kind == 4 then st1 else refuse 3 st1.tok.pos st1
def line (s:Sc) (st:St):St :=
 let w:=bV s (advance s st)
 if w.1.kind == 1 && w.2.tok.is [58] then
  let v:=bV s (advance s (label w.1 w.2))
  iA s v.1 v.2
 else iA s w.1 w.2
def lines (s:Sc):Nat->St->St
 | 0,st=>st
 | n+1,st =>
  let r:=bG s (line s st)
  if r.1 then lines s n r.2 else r.2
def dU (g:Nat->Nat) (t:Tok):Tok:=⟨t.kind,g t.pos,t.text,t.n⟩
def aD (f g:Nat->Nat) (st:St):St:=⟨f st.p,dU g st.tok,st.fe,g st.fa,dU g st.op,st.ah,st.obj⟩
structure Agree (S T:Sc) (f g:Nat->Nat):Prop where
 zero:g 0=0
 next:∀ p,S.next (f p)=(dU g (T.next p).1,((T.next p).2.1.1,g (T.next p).2.1.2),f (T.next p).2.2)
def El (s:List UInt8):Sc:=⟨As.next s,As.lineEnd s⟩
theorem kC (g:Nat->Nat) (t:Tok):(dU g t).kind=t.kind:=rfl
theorem oK (g:Nat->Nat) (t:Tok):(dU g t).text=t.text:=rfl
theorem jE (g:Nat->Nat) (t:Tok):(dU g t).pos=g t.pos:=rfl
theorem Uz (g:Nat->Nat) (t:Tok):(dU g t).n=t.n:=rfl
theorem zU (g:Nat->Nat) (t:Tok) (c:List UInt8):(dU g t).is c=t.is c:=rfl
section
variable (f g:Nat->Nat) (st:St)
theorem Ov:(aD f g st).p=f st.p:=rfl
theorem jS:(aD f g st).tok=dU g st.tok:=rfl
theorem wB:(aD f g st).op=dU g st.op:=rfl
theorem qA:(aD f g st).ah=st.ah:=rfl
theorem pq:(aD f g st).obj=st.obj:=rfl
theorem jM:failed (aD f g st)=failed st:=rfl
theorem tL (i:Nat) (k:Lk.Sym->Lk.Sym):mh (aD f g st) i k=aD f g (mh st i k):=rfl
end
section
variable {S T:Sc} {f g:Nat->Nat}
theorem zQ (h:Agree S T f g):dU g Tok.nil=Tok.nil:=by unfold dU Tok.nil; rw [h.zero]
theorem fG (h:Agree S T f g) (e p:Nat) (st:St):refuse e (g p) (aD f g st)=aD f g (refuse e p st):=by
 unfold refuse;rw [jM];split
 ·rfl
 ·unfold aD;rw [zQ h]
theorem nO (h:Agree S T f g) (c:Bool) (e p:Nat) (st:St):aV c e (g p) (aD f g st)=aD f g (aV c e p st):=by
 unfold aV;split
 ·exact fG h e p st
 ·rfl
theorem pU (h:Agree S T f g) (t:Tok) (st:St):bR (dU g t) (aD f g st)=aD f g (bR t st):=by
 unfold bR;simp only [oK,jE,nO h]
 repeat' split
 all_goals first | rfl | contradiction | (simp [*]; done) | (simp [*]; rfl)
theorem kH (h:Agree S T f g) (t:Tok) (st:St):aJ (dU g t) (aD f g st)=((aJ t st).1,aD f g (aJ t st).2):=by
 unfold aJ;simp only [oK,jE,jM,pq,fG h]
 repeat' split
 all_goals first | rfl | contradiction | (simp [*]; done) | (simp [*]; rfl)
theorem GY (h:Agree S T f g) (t:Tok) (st:St):label (dU g t) (aD f g st)=aD f g (label t st):=by
 unfold label;simp only [pU h,kH h,pq,qA,jE,fG h,tL]
 repeat' split
 all_goals first | rfl | contradiction | (simp [*]; done) | (simp [*]; rfl)
theorem tu (h:Agree S T f g) (ws:List Int) (st:St):lay ws (aD f g st)=aD f g (lay ws st):=by
 unfold lay;simp only [pq,qA,wB,jE,fG h,jM]
 repeat' split
 all_goals first | rfl | contradiction | (simp [*]; done) | (simp [*]; rfl)
theorem jK (h:Agree S T f g) (kind:Int) (sym:Nat) (ad:Int) (ws:List Int) (st:St):bZ kind sym ad ws (aD f g st)=aD f g (bZ kind sym ad ws st):=by
 have e:aV (decide (32<=(aD f g st).obj.aj.length)) 12 (aD f g st).op.pos (aD f g st)=aD f g (aV (decide (32<=st.obj.aj.length)) 12 st.op.pos st):=nO h _ 12 st.op.pos st;unfold bZ;rw [e];generalize aV (decide (32<=st.obj.aj.length)) 12 st.op.pos st=t;by_cases c:failed t=true
 ·rw [if_pos c,if_pos (by exact c)]
 ·rw [if_neg c,if_neg (by exact c)];exact tu h ws { t with obj:={ t.obj with aj:=t.obj.aj ++ [⟨t.ah,4 * bK t.obj t.ah,kind,sym,ad⟩] } }
theorem iY (h:Agree S T f g) (op rd au aC:Nat) (n:Int) (st:St):bC op rd au aC n (aD f g st)=aD f g (bC op rd au aC n st):=tu h _ st
theorem kX (h:Agree S T f g) (reg op rd au aC:Nat) (n:Int) (sym:Nat) (ad:Int) (st:St):bX reg op rd au aC n sym ad (aD f g st)=aD f g (bX reg op rd au aC n sym ad st):=by
 unfold bX;simp only [wB,jE,nO h,jK h]
 repeat' split
 all_goals first | rfl | contradiction | (simp [*]; done) | (simp [*]; rfl)
theorem JV (h:Agree S T f g) (st:St):bare (aD f g st)=aD f g (bare st):=by
 unfold bare;simp only [wB,oK,iY h]
 repeat' split
 all_goals first | rfl | contradiction | (simp [*]; done) | (simp [*]; rfl)
theorem Br (st:St):fH (aD f g st)=aD f g (fH st):=by
 have e:fH (aD f g st)=(if st.op.text=[46,116,101,120,116] then aD f g { st with ah:=1 } else if st.op.text=[46,102,97,114] then aD f g { st with ah:=2 } else if st.op.text=[46,100,97,116,97] then aD f g { st with ah:=3 } else if st.op.text=[46,98,115,115] then aD f g { st with ah:=4 } else aD f g st):=rfl;rw [e];unfold fH
 repeat' split
 all_goals first | rfl | contradiction
theorem sF (k:Int) (st:St):bT k (aD f g st)=aD f g (bT k st):=by
 unfold bT;simp only [pq,qA]
 repeat' split
 all_goals first | rfl | contradiction | (simp [*]; done) | (simp [*]; rfl)
theorem Ak (h:Agree S T f g) (b:Nat) (st:St):dB b (aD f g st)=aD f g (dB b st):=by
 unfold dB;simp only [pq,qA,jK h,tu h]
 repeat' split
 all_goals first | rfl | contradiction | (simp [*]; done) | (simp [*]; rfl)
theorem iO (h:Agree S T f g) (st:St):advance S (aD f g st)=aD f g (advance T st):=by
 unfold advance;simp only [jM,Ov,h.next];split
 ·rfl
 ·split
  ·rfl
  ·exact fG h _ _ { st with p:=(T.next st.p).2.2 }
theorem zq (h:Agree S T f g) (st:St):bV S (aD f g st)=(dU g (bV T st).1,aD f g (bV T st).2):=by
 unfold bV;simp only [jS,kC,iO h];split
 ·rfl
 ·rw [zQ h]
theorem xZ (hl:∀ p,S.le (f p)=((T.le p).1,f (T.le p).2)) (st:St):bG S (aD f g st)=((bG T st).1,aD f g (bG T st).2):=by
 unfold bG;simp only [jM,Ov,hl]
 repeat' split
 all_goals first | rfl | contradiction | (simp [*]; done) | (simp [*]; rfl)
theorem DK (h:Agree S T f g) (st:St):name S (aD f g st)=(dU g (name T st).1,aD f g (name T st).2):=by
 unfold name;simp only [jS,kC,jE,pU h,iO h,fG h];split
 ·rfl
 ·rw [zQ h]
theorem JZ (h:Agree S T f g) (b:Int) (st:St):bind S b (aD f g st)=aD f g (bind T b st):=by
 unfold bind;simp only [DK h,kH h,pq,jE,fG h,tL]
 repeat' split
 all_goals first | rfl | contradiction | (simp [*]; done) | (simp [*]; rfl)
theorem jD (h:Agree S T f g) (c:List UInt8) (st:St):sign S c (aD f g st)=aD f g (sign T c st):=by
 unfold sign;simp only [jS,zU,jE,iO h,fG h]
 repeat' split
 all_goals first | rfl | contradiction | (simp [*]; done) | (simp [*]; rfl)
theorem eH (h:Agree S T f g) (st:St):register S (aD f g st)=((register T st).1,aD f g (register T st).2):=by
 unfold register;simp only [jS,kC,oK,jE,iO h,fG h];split
 ·cases jf st.tok.text <;> rfl
 ·rfl
theorem uG (h:Agree S T f g) (neg:Bool) (p:Nat) (lo hi:Int) (st:St):aT S neg (g p) lo hi (aD f g st)=((aT T neg p lo hi st).1,aD f g (aT T neg p lo hi st).2):=by
 unfold aT;simp only [jS,kC,Uz,jE,iO h,fG h]
 repeat' split
 all_goals first | rfl | contradiction | (simp [*]; done) | (simp [*]; rfl)
theorem jv (h:Agree S T f g) (lo hi:Int) (st:St):number S lo hi (aD f g st)=((number T lo hi st).1,aD f g (number T lo hi st).2):=by
 unfold number;simp only [jS,zU,jE,iO h,uG h]
 repeat' split
 all_goals first | rfl | contradiction | (simp [*]; done) | (simp [*]; rfl)
theorem oI (h:Agree S T f g) (st:St):symbol S (aD f g st)=((symbol T st).1,aD f g (symbol T st).2):=by
 unfold symbol;simp only [DK h,kH h]
 repeat' split
 all_goals first | rfl | contradiction | (simp [*]; done) | (simp [*]; rfl)
theorem oJ (h:Agree S T f g) (st:St):target S (aD f g st)=((target T st).1,aD f g (target T st).2):=by
 unfold target;simp only [oI h,jS,zU,iO h,jv h]
 repeat' split
 all_goals first | rfl | contradiction | (simp [*]; done) | (simp [*]; rfl)
theorem uL (h:Agree S T f g) (st:St):place S (aD f g st)=((place T st).1,aD f g (place T st).2):=by
 unfold place;simp only [jv h,jD h,eH h]
 repeat' split
 all_goals first | rfl | contradiction | (simp [*]; done) | (simp [*]; rfl)
theorem wQ (h:Agree S T f g) (op:Nat) (st:St):eB S op (aD f g st)=aD f g (eB T op st):=by
 unfold eB;simp only [eH h,jD h,iY h]
theorem uS (h:Agree S T f g) (op:Nat) (st:St):dK S op (aD f g st)=aD f g (dK T op st):=by
 unfold dK;simp only [eH h,jD h,jv h,iY h]
theorem IB (h:Agree S T f g) (st:St):upper S (aD f g st)=aD f g (upper T st):=by
 unfold upper;simp only [eH h,jD h,jv h,iY h]
theorem KF (h:Agree S T f g) (st:St):load S (aD f g st)=aD f g (load T st):=by
 unfold load;simp only [eH h,jD h,oJ h,uL h,iY h,kX h,jS,kC]
 repeat' split
 all_goals first | rfl | contradiction | (simp [*]; done) | (simp [*]; rfl)
theorem Iz (h:Agree S T f g) (st:St):store S (aD f g st)=aD f g (store T st):=by
 unfold store;simp only [eH h,jD h,oJ h,uL h,iY h,kX h,jS,kC]
 repeat' split
 all_goals first | rfl | contradiction | (simp [*]; done) | (simp [*]; rfl)
theorem sj (h:Agree S T f g) (st:St):dh S (aD f g st)=aD f g (dh T st):=by
 unfold dh;simp only [eH h,jD h,oJ h,kX h]
theorem qR (h:Agree S T f g) (st:St):bO S (aD f g st)=aD f g (bO T st):=by
 unfold bO;simp only [eH h,jD h,uL h,iY h]
theorem CV (h:Agree S T f g) (op:Nat) (st:St):branch S op (aD f g st)=aD f g (branch T op st):=by
 unfold branch;simp only [eH h,jD h,oI h,jK h]
theorem tq (h:Agree S T f g) (rd:Nat) (st:St):fF S rd (aD f g st)=aD f g (fF T rd st):=by
 unfold fF;simp only [oI h,jK h]
theorem xR (h:Agree S T f g) (st:St):fE S (aD f g st)=aD f g (fE T st):=by
 unfold fE;simp only [eH h,jD h,tq h]
theorem KL (h:Agree S T f g) (st:St):move S (aD f g st)=aD f g (move T st):=by
 unfold move;simp only [eH h,jD h,iY h]
theorem uD (h:Agree S T f g) (st:St):dI S (aD f g st)=aD f g (dI T st):=by
 unfold dI;simp only [eH h,jD h,jv h,iY h,tu h]
 repeat' split
 all_goals first | rfl | contradiction | (simp [*]; done) | (simp [*]; rfl)
theorem Ao (h:Agree S T f g) (st:St):binding S (aD f g st)=aD f g (binding T st):=by
 unfold binding;simp only [wB,oK,JZ h]
 repeat' split
 all_goals first | rfl | contradiction | (simp [*]; done) | (simp [*]; rfl)
theorem KX (h:Agree S T f g) (st:St):word S (aD f g st)=aD f g (word T st):=by
 unfold word;simp only [jv h,oJ h,jK h,tu h,jS,kC]
 repeat' split
 all_goals first | rfl | contradiction | (simp [*]; done) | (simp [*]; rfl)
theorem Iy (h:Agree S T f g) (st:St):space S (aD f g st)=aD f g (space T st):=by
 unfold space;simp only [jv h,tu h,wB,jE,fG h]
 repeat' split
 all_goals first | rfl | contradiction | (simp [*]; done) | (simp [*]; rfl)
theorem F8 (h:Agree S T f g) (st:St):align S (aD f g st)=aD f g (align T st):=by
 unfold align;simp only [jv h,jM,Ak h,sF]
 repeat' split
 all_goals first | rfl | contradiction | (simp [*]; done) | (simp [*]; rfl)
theorem J5 (h:Agree S T f g) (st:St):call S (aD f g st)=aD f g (call T st):=by
 unfold call;simp only [oI h,jK h];rfl
theorem r9 (h:Agree S T f g) (shape op:Nat) (st:St):instruction S shape op (aD f g st)=aD f g (instruction T shape op st):=by
 unfold instruction;simp only [apply_ite (aD f g),wQ h,uS h,IB h,KF h,Iz h,qR h,JV h,CV h,xR h,tq h,KL h,uD h,J5 h,sj h]
theorem vW (h:Agree S T f g) (shape:Nat) (st:St):directive S shape (aD f g st)=aD f g (directive T shape st):=by
 unfold directive;simp only [apply_ite (aD f g),Br,KX h,Iy h,F8 h,Ao h]
theorem wG (h:Agree S T f g) (t:Tok) (st:St):operation S (dU g t) (aD f g st)=aD f g (operation T t st):=by
 unfold operation;by_cases c1:shapeOf t.text=0
 ·rw [if_pos c1,if_pos (show shapeOf (dU g t).text=0 from c1)];exact fG h 6 t.pos st
 rw [if_neg c1,if_neg (show ¬ shapeOf (dU g t).text=0 from c1)];by_cases c2:(!iG (shapeOf t.text) st.ah)=true
 ·rw [if_pos c2,if_pos (show (!iG (shapeOf (dU g t).text) (aD f g st).ah)=true from c2)];exact fG h 9 t.pos st
 rw [if_neg c2,if_neg (show ¬ (!iG (shapeOf (dU g t).text) (aD f g st).ah)=true from c2)];by_cases c3:shapeOf t.text<=14
 ·rw [if_pos c3,if_pos (show shapeOf (dU g t).text<=14 from c3)];exact r9 h (shapeOf t.text) (named t.text) { st with op:=t }
 rw [if_neg c3,if_neg (show ¬ shapeOf (dU g t).text<=14 from c3)];exact vW h (shapeOf t.text) { st with op:=t }
theorem Dt (h:Agree S T f g) (t:Tok) (st:St):iA S (dU g t) (aD f g st)=aD f g (iA T t st):=by
 have e:(if (dU g t).kind == 1 then operation S (dU g t) (aD f g st) else aD f g st)=aD f g (if t.kind == 1 then operation T t st else st):=by
  rw [wG h];exact (apply_ite (aD f g) _ _ _).symm
 unfold iA;rw [e];generalize (if t.kind == 1 then operation T t st else st)=x;by_cases c:(x.tok.kind == 4)=true
 ·simp only;rw [if_pos c,if_pos (show ((aD f g x).tok.kind == 4)=true from c)]
 ·simp only;rw [if_neg c,if_neg (show ¬ ((aD f g x).tok.kind == 4)=true from c)];exact fG h 3 x.tok.pos x
theorem Du (h:Agree S T f g) (st:St):line S (aD f g st)=aD f g (line T st):=by
 unfold line;simp only [iO h,zq h,kC,jS,zU,GY h,Dt h];split <;> rfl
theorem Hg (h:Agree S T f g) (hl:∀ p,S.le (f p)=((T.le p).1,f (T.le p).2)) (n:Nat):∀ st:St,lines S n (aD f g st)=aD f g (lines T n st):=by
 induction n with
 | zero=>intro st; rfl
 | succ n ih =>
  intro st;unfold lines;simp only [Du h,xZ hl,ih];split <;> rfl
end
end At
end Go.Proofs.YtpgklkhgfcjceaaGreatDoor
