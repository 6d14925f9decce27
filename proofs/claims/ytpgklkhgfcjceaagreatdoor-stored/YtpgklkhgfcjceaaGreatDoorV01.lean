

set_option maxHeartbeats 16000000
set_option maxRecDepth 100000
namespace Go.Proofs.YtpgklkhgfcjceaaGreatDoor.Lk
structure Sym where
 name:List UInt8
 bind:Int
 ah:Int
 off:Int
structure Rel where
 ah:Int
 off:Int
 kind:Int
 sym:Int
 addend:Int
structure Obj where
 text:List Int
 far:List Int
 data:List Int
 bss:Int
 align:List Int
 syms:List Sym
 aj:List Rel
def le (v:Int):Nat->List UInt8
 | 0=>[]
 | n+1=>UInt8.ofNat (v % 256).toNat :: le (v / 256) n
def num:List UInt8->Int
 | []=>0
 | b :: t=>(b.toNat:Int)+256 * num t
theorem aC (v:Int) (n:Nat):(le v n).length=n:=by
 induction n generalizing v with
 | zero=>rfl
 | succ n ih=>simp [le,ih]
theorem num_nonneg (l:List UInt8):0<=num l:=by
 induction l with
 | nil=>simp [num]
 | cons b t ih=>simp [num]; omega
theorem qF (l:List UInt8):num l < (256:Int) ^ l.length:=by
 induction l with
 | nil=>simp [num]
 | cons b t ih =>
  have hb:b.toNat < 256:=b.toNat_lt;simp only [num,List.length_cons,Int.pow_succ];omega
theorem byte_of (b:UInt8):UInt8.ofNat b.toNat=b:=by simp
theorem xk (a b:List UInt8):num (a ++ b)=num a+(256:Int) ^ a.length * num b:=by
 induction a with
 | nil=>simp [num]
 | cons x t ih =>
  simp only [List.cons_append,num,ih,List.length_cons,Int.pow_succ,Int.mul_add]
  have:(256:Int) ^ t.length * 256 * num b=256 * ((256:Int) ^ t.length * num b):=by
   rw [Int.mul_comm ((256:Int) ^ t.length) 256,Int.mul_assoc]
  omega
theorem wV (l:List UInt8):le (num l) l.length=l:=by
 induction l with
 | nil=>rfl
 | cons b t ih =>
  have hb:b.toNat < 256:=b.toNat_lt;have e1:((b.toNat:Int)+256 * num t) % 256=b.toNat:=by omega
  have e2:((b.toNat:Int)+256 * num t) / 256=num t:=by omega
  simp only [num,List.length_cons,le,e1,e2,ih,Int.toNat_natCast,byte_of]
theorem CG (v:Int) (n:Nat) (h0:0<=v) (h1:v < (256:Int) ^ n):num (le v n)=v:=by
 induction n generalizing v with
 | zero=>simp [le,num] at *; omega
 | succ n ih =>
  have e:(256:Int) ^ (n+1)=256 ^ n * 256:=Int.pow_succ ..;have h2:v / 256 < (256:Int) ^ n:=by rw [e] at h1; omega
  have hb:(UInt8.ofNat (v % 256).toNat).toNat=(v % 256).toNat:=by
   rw [UInt8.toNat_ofNat']; omega
  simp only [le,num,ih (v / 256) (by omega) h2,hb];omega
def jd (y:Sym):List UInt8:=le y.name.length 1 ++ (y.name ++ (le y.bind 1 ++ (le y.ah 1 ++ le y.off 2)))
def iT (r:Rel):List UInt8:=le r.ah 1 ++ (le r.kind 1 ++ (le r.off 2 ++ (le r.sym 1 ++ le r.addend 2)))
def nums (l:List Int) (n:Nat):List UInt8:=l.flatMap (le · n)
def lN (o:Obj):List UInt8 :=
 [76,75] ++ (le o.text.length 2 ++ (le o.far.length 2 ++ (le o.data.length 2 ++ (le o.bss 2 ++ (nums o.align 1 ++ (le o.syms.length 1 ++ (le o.aj.length 1 ++
  (o.syms.flatMap jd ++ (o.aj.flatMap iT ++ (nums o.text 4 ++ (nums o.far 4 ++ nums o.data 4)))))))))))
abbrev St:=Nat×Bool
def aH (l:List UInt8) (n:Nat) (st:St):List UInt8×St :=
 if n<=l.length - st.1 then ((l.drop st.1).take n,(st.1+n,st.2)) else ([],(st.1,true))
def rdNum (l:List UInt8) (n:Nat) (st:St):Int×St:=(num (aH l n st).1,(aH l n st).2)
def aP (l:List UInt8) (size:Nat):Nat->St->List Int×St
 | 0,st=>([],st)
 | c+1,st=>if st.2 then ([],st) else
   ((rdNum l size st).1 :: (aP l size c (rdNum l size st).2).1,(aP l size c (rdNum l size st).2).2)
def dO (l:List UInt8) (st:St):Sym×St :=
 let a:=rdNum l 1 st
 let t:=aH l a.1.toNat a.2
 let b:=rdNum l 1 t.2
 let c:=rdNum l 1 b.2
 let d:=rdNum l 2 c.2
 (⟨t.1,b.1,c.1,d.1⟩,d.2)
def Aq (a:Int):Int:=if a≥32768 then a - 65536 else a
def dL (l:List UInt8) (st:St):Rel×St :=
 let a:=rdNum l 1 st
 let b:=rdNum l 1 a.2
 let c:=rdNum l 2 b.2
 let d:=rdNum l 1 c.2
 let e:=rdNum l 2 d.2
 (⟨a.1,c.1,b.1,d.1,Aq e.1⟩,e.2)
def aM {α:Type} (f:St->α×St):Nat->St->List α×St
 | 0,st=>([],st)
 | c+1,st=>if st.2 then ([],st) else ((f st).1 :: (aM f c (f st).2).1,(aM f c (f st).2).2)
theorem oV (l:List UInt8) (size c:Nat) (st:St):aP l size c st=aM (rdNum l size) c st:=by
 induction c generalizing st with
 | zero=>rfl
 | succ c ih=>simp only [aP,aM,ih]
def iM (l:List UInt8) (st:St):Obj×St :=
 let t:=rdNum l 2 st
 let f:=rdNum l 2 t.2
 let d:=rdNum l 2 f.2
 let b:=rdNum l 2 d.2
 let a:=aP l 1 4 b.2
 let s:=rdNum l 1 a.2
 let r:=rdNum l 1 s.2
 let ss:=aM (dO l) s.1.toNat r.2
 let rs:=aM (dL l) r.1.toNat ss.2
 let tx:=aP l 4 t.1.toNat rs.2
 let fx:=aP l 4 f.1.toNat tx.2
 let dx:=aP l 4 d.1.toNat fx.2
 (⟨tx.1,fx.1,dx.1,b.1,a.1,ss.1,rs.1⟩,dx.2)
structure Reads (l:List UInt8) {α:Type} (f:St->α×St) (enc:α->List UInt8) (good:α->Prop):Prop where
 mono:∀ p,(f (p,true)).2.2=true
 sound:∀ p x p',p<=l.length->f (p,false)=(x,(p',false))->p'<=l.length/\l.drop p=enc x ++ l.drop p'/\good x
 full:∀ p x rest,p<=l.length->good x->l.drop p=enc x ++ rest->f (p,false)=(x,(p+(enc x).length,false))/\l.drop (p+(enc x).length)=rest/\p+(enc x).length<=l.length
theorem Bw {l:List UInt8} {p:Nat} {a rest:List UInt8} (hp:p<=l.length) (h:l.drop p=a ++ rest) :
  a.length<=l.length - p/\(l.drop p).take a.length=a/\l.drop (p+a.length)=rest/\p+a.length<=l.length:=by
 have h1:(l.drop p).length=(a ++ rest).length:=by rw [h]
 simp at h1;refine ⟨by omega,by rw [h]; simp,?_,by omega⟩;rw [<- List.drop_drop,h]; simp
theorem eX (l:List UInt8) (n:Nat):Reads l (aH l n) (fun x=>x) (fun x=>x.length=n) where
 mono p:=by unfold aH; split <;> rfl
 sound p x p' hp h:=by
  unfold aH at h;split at h
  ·simp only [Prod.mk.injEq] at h;obtain ⟨rfl,rfl,_⟩:=h;simp only at *;refine ⟨by omega,?_,by simp; omega⟩;rw [<- List.drop_drop]; exact (List.take_append_drop n _).symm
  ·simp at h
 full p x rest hp hg h:=by
  obtain ⟨h1,h2,h3,h4⟩:=Bw hp h;subst hg;refine ⟨?_,h3,h4⟩;unfold aH;simp only;rw [if_pos h1,h2]
theorem aD (l:List UInt8) (n:Nat):Reads l (rdNum l n) (fun v=>le v n) (fun v=>0<=v/\v < (256:Int) ^ n) where
 mono p:=by unfold rdNum; exact (eX l n).mono p
 sound p x p' hp h:=by
  unfold rdNum at h;simp only [Prod.mk.injEq] at h;obtain ⟨h1,h2⟩:=h;have hs:=(eX l n).sound p (aH l n (p,false)).1 p' hp (by rw [<- h2]);obtain ⟨a,b,c⟩:=hs;have hn:=num_nonneg (aH l n (p,false)).1;have hl:=qF (aH l n (p,false)).1;have he:=wV (aH l n (p,false)).1;rw [c,h1] at hl he;rw [h1] at hn;exact ⟨a,by rw [he]; exact b,hn,hl⟩
 full p x rest hp hg h:=by
  have:=(eX l n).full p (le x n) rest hp (aC _ _) h
  obtain ⟨a,b,c⟩:=this;refine ⟨?_,b,c⟩;unfold rdNum;rw [a];simp only [CG x n hg.1 hg.2]
theorem fU (l:List UInt8) {α:Type} (f:St->α×St) (enc:α->List UInt8) (good:α->Prop) (R:Reads l f enc good) (c:Nat) :
  Reads l (aM f c) (fun xs=>xs.flatMap enc) (fun xs=>xs.length=c/\∀ x∈xs,good x) where
 mono p:=by cases c <;> simp [aM]
 sound:=by
  induction c with
  | zero =>
   intro p x p' hp h;simp [aM] at h;obtain ⟨rfl,rfl⟩:=h;simp [hp]
  | succ c ih =>
   intro p x p' hp h;simp only [aM,Bool.false_eq_true,if_false,Prod.mk.injEq] at h;obtain ⟨h1,h2⟩:=h;have h3:aM f c (f (p,false)).2=((aM f c (f (p,false)).2).1,(p',false)):=by rw [<- h2]
   have hst:(f (p,false)).2=((f (p,false)).2.1,false):=by
    cases hb:(f (p,false)).2.2 with
    | false=>exact Prod.ext rfl hb
    | true =>
     exfalso
     have e:(f (p,false)).2=((f (p,false)).2.1,true):=Prod.ext rfl hb;rw [e] at h3
     cases c with
     | zero=>simp [aM] at h3
     | succ c=>simp [aM] at h3
   obtain ⟨a1,a2,a3⟩:=R.sound p (f (p,false)).1 (f (p,false)).2.1 hp (by rw [<- hst]);rw [hst] at h3;obtain ⟨b1,b2,b3,b4⟩:=ih _ _ _ a1 h3;rw [<- hst] at b2 b3 b4;subst h1;refine ⟨b1,?_,by simp [b3],?_⟩
   ·rw [a2,b2]; simp
   ·intro x hx;rcases List.mem_cons.1 hx with rfl | hx
    ·exact a3
    ·exact b4 x hx
 full:=by
  induction c with
  | zero =>
   intro p x rest hp hg h;obtain ⟨hg,_⟩:=hg
   have:x=[]:=List.length_eq_zero_iff.1 hg
   subst this;simp [aM] at *;exact ⟨h,hp⟩
  | succ c ih =>
   intro p x rest hp hg h;obtain ⟨hl,hg⟩:=hg
   match x,hl with
   | y :: ys,hl =>
    simp only [List.flatMap_cons,List.append_assoc] at h;obtain ⟨a1,a2,a3⟩:=R.full p y _ hp (hg y (by simp)) h;obtain ⟨b1,b2,b3⟩:=ih _ ys rest a3 ⟨by simpa using hl,fun z hz=>hg z (by simp [hz])⟩ a2;simp only [aM,Bool.false_eq_true,if_false,a1,b1,List.flatMap_cons,List.length_append];rw [<- Nat.add_assoc];exact ⟨rfl,b2,b3⟩
theorem Reads.back {l:List UInt8} {α:Type} {f:St->α×St} {enc:α->List UInt8} {good:α->Prop} (R:Reads l f enc good) {st:St} (h:(f st).2.2=false):st.2=false:=by
 obtain ⟨p,b⟩:=st
 cases b with
 | false=>rfl
 | true=>have:=R.mono p; rw [this] at h; simp at h
theorem Reads.go {l:List UInt8} {α:Type} {f:St->α×St} {enc:α->List UInt8} {good:α->Prop} (R:Reads l f enc good) {st:St} (hp:st.1<=l.length) (h0:st.2=false) (h:(f st).2.2=false) :
  (f st).2.1<=l.length/\l.drop st.1=enc (f st).1 ++ l.drop (f st).2.1/\good (f st).1:=by
 obtain ⟨p,b⟩:=st;simp only at h0 hp;subst h0;exact R.sound p _ (f (p,false)).2.1 hp (Prod.ext rfl (Prod.ext rfl h))
theorem Reads.on {l:List UInt8} {α:Type} {f:St->α×St} {enc:α->List UInt8} {good:α->Prop} (R:Reads l f enc good) {st:St} (hp:st.1<=l.length) (h0:st.2=false) {x:α} {rest:List UInt8} (hg:good x) (h:l.drop st.1=enc x ++ rest) :
  (f st).1=x/\(f st).2.2=false/\(f st).2.1=st.1+(enc x).length/\(f st).2.1<=l.length/\l.drop (f st).2.1=rest:=by
 obtain ⟨p,b⟩:=st;simp only at h0 hp h;subst h0;obtain ⟨a,b,c⟩:=R.full p x rest hp hg h;rw [a];exact ⟨rfl,rfl,rfl,c,b⟩
def lY (y:Sym):Prop:=y.name.length < 256/\(0<=y.bind/\y.bind < 256)/\(0<=y.ah/\y.ah < 256)/\0<=y.off/\y.off < 65536
theorem Reads.gY {l:List UInt8} {α:Type} {f:St->α×St} {enc:α->List UInt8} {good:α->Prop} (R:Reads l f enc good) {st:St} (h:st.2=true):(f st).2.2=true:=by
 obtain ⟨p,b⟩:=st;simp only at h;subst h;exact R.mono p
theorem mq (l:List UInt8):Reads l (dO l) jd lY where
 mono p:=by
  unfold dO;exact (aD l 2).gY ((aD l 1).gY ((aD l 1).gY ((eX l _).gY ((aD l 1).gY rfl))))
 sound p x p' hp h:=by
  unfold dO at h;simp only [Prod.mk.injEq] at h;obtain ⟨h1,h2⟩:=h;generalize ha:rdNum l 1 (p,false)=a at h1 h2;generalize ht:aH l a.1.toNat a.2=t at h1 h2;generalize hb:rdNum l 1 t.2=b at h1 h2;generalize hc:rdNum l 1 b.2=c at h1 h2;generalize hd:rdNum l 2 c.2=d at h1 h2;have f5:d.2.2=false:=by rw [h2]
  have f4:c.2.2=false:=by rw [<- hd] at f5; exact (aD l 2).back f5
  have f3:b.2.2=false:=by rw [<- hc] at f4; exact (aD l 1).back f4
  have f2:t.2.2=false:=by rw [<- hb] at f3; exact (aD l 1).back f3
  have f1:a.2.2=false:=by rw [<- ht] at f2; exact (eX l _).back f2
  have g1:=(aD l 1).go (st:=(p,false)) hp rfl (by rw [ha]; exact f1);rw [ha] at g1;have g2:=(eX l a.1.toNat).go (st:=a.2) g1.1 f1 (by rw [ht]; exact f2);rw [ht] at g2;have g3:=(aD l 1).go (st:=t.2) g2.1 f2 (by rw [hb]; exact f3);rw [hb] at g3;have g4:=(aD l 1).go (st:=b.2) g3.1 f3 (by rw [hc]; exact f4);rw [hc] at g4;have g5:=(aD l 2).go (st:=c.2) g4.1 f4 (by rw [hd]; exact f5);rw [hd] at g5;have e5:d.2.1=p':=by rw [h2]
  rw [e5] at g5;obtain ⟨a1,a2,a3,a4⟩:=g1;obtain ⟨b1,b2,b3⟩:=g2;obtain ⟨c1,c2,c3,c4⟩:=g3;obtain ⟨d1,d2,d3,d4⟩:=g4;obtain ⟨e1,e2,e3,e4⟩:=g5;simp only [Int.reducePow] at a4 c4 d4 e4;subst h1;have hlen:((t.1.length:Nat):Int)=a.1:=by rw [b3]; omega
  refine ⟨e1,?_,?_⟩
  ·simp only [jd,List.append_assoc,hlen];rw [<- e2,<- d2,<- c2,<- b2,<- a2]
  ·refine ⟨?_,⟨c3,c4⟩,⟨d3,d4⟩,e3,e4⟩;simp only; omega
 full p x rest hp hg h:=by
  obtain ⟨hn,⟨hb0,hb1⟩,⟨hs0,hs1⟩,ho0,ho1⟩:=hg;simp only [jd,List.append_assoc] at h;obtain ⟨a1,a2,a3,a4,a5⟩:=(aD l 1).on (st:=(p,false)) hp rfl (x:=(x.name.length:Int)) ⟨by omega,by simp only [Int.reducePow]; omega⟩ h;generalize ha:rdNum l 1 (p,false)=a at *;obtain ⟨b1,b2,b3,b4,b5⟩:=(eX l a.1.toNat).on (st:=a.2) a4 a2 (x:=x.name) (by rw [a1]; simp) a5;generalize ht:aH l a.1.toNat a.2=t at *;obtain ⟨c1,c2,c3,c4,c5⟩:=(aD l 1).on (st:=t.2) b4 b2 (x:=x.bind) ⟨hb0,by simp only [Int.reducePow]; omega⟩ b5;generalize hb:rdNum l 1 t.2=b at *;obtain ⟨d1,d2,d3,d4,d5⟩:=(aD l 1).on (st:=b.2) c4 c2 (x:=x.ah) ⟨hs0,by simp only [Int.reducePow]; omega⟩ c5
  generalize hc:rdNum l 1 b.2=c at *;obtain ⟨e1,e2,e3,e4,e5⟩:=(aD l 2).on (st:=c.2) d4 d2 (x:=x.off) ⟨ho0,by simp only [Int.reducePow]; omega⟩ d5;generalize hd:rdNum l 2 c.2=d at *;have hlen:d.2.1=p+(jd x).length:=by
   simp only [jd,List.length_append,aC] at *;omega
  refine ⟨?_,by rw [<- hlen]; exact e5,by rw [<- hlen]; exact e4⟩;unfold dO;simp only [ha,ht,hb,hc,hd,b1,c1,d1,e1];exact Prod.ext rfl (Prod.ext hlen e2)
def nK (r:Rel):Prop:=(0<=r.ah/\r.ah < 256)/\(0<=r.kind/\r.kind < 256)/\(0<=r.off/\r.off < 65536)/\(0<=r.sym/\r.sym < 256)/\-32768<=r.addend/\r.addend < 32768
theorem Ci (v:Int) (n:Nat):le (v+(256:Int) ^ n) n=le v n:=by
 induction n generalizing v with
 | zero=>rfl
 | succ n ih =>
  have e:(256:Int) ^ (n+1)=256 ^ n * 256:=Int.pow_succ ..;have e1:(v+(256:Int) ^ (n+1)) % 256=v % 256:=by rw [e]; omega
  have e2:(v+(256:Int) ^ (n+1)) / 256=v / 256+256 ^ n:=by rw [e]; omega
  simp only [le,e1,e2,ih]
theorem Jo (v:Int):le (Aq v) 2=le v 2:=by
 unfold Aq;split
 ·have:=Ci (v - 65536) 2
  simp only [Int.reducePow] at this;rw [<- this]
  congr 1
  omega
 ·rfl
def Dl (a:Int):Int:=if a < 0 then a+65536 else a
theorem Cj (v:Int):le (Dl v) 2=le v 2:=by
 unfold Dl;split
 ·have:=Ci v 2
  simp only [Int.reducePow] at this;exact this
 ·rfl
theorem mh (l:List UInt8):Reads l (dL l) iT nK where
 mono p:=by
  simp only [dL];refine (aD l 2).gY ?_;refine (aD l 1).gY ?_;refine (aD l 2).gY ?_;refine (aD l 1).gY ?_;refine (aD l 1).gY ?_;rfl
 sound p x p' hp h:=by
  unfold dL at h;simp only [Prod.mk.injEq] at h;obtain ⟨h1,h2⟩:=h;generalize ha:rdNum l 1 (p,false)=a at h1 h2;generalize ht:rdNum l 1 a.2=t at h1 h2;generalize hb:rdNum l 2 t.2=b at h1 h2;generalize hc:rdNum l 1 b.2=c at h1 h2;generalize hd:rdNum l 2 c.2=d at h1 h2;have f5:d.2.2=false:=by rw [h2]
  have f4:c.2.2=false:=by rw [<- hd] at f5; exact (aD l 2).back f5
  have f3:b.2.2=false:=by rw [<- hc] at f4; exact (aD l 1).back f4
  have f2:t.2.2=false:=by rw [<- hb] at f3; exact (aD l 2).back f3
  have f1:a.2.2=false:=by rw [<- ht] at f2; exact (aD l 1).back f2
  have g1:=(aD l 1).go (st:=(p,false)) hp rfl (by rw [ha]; exact f1);rw [ha] at g1;have g2:=(aD l 1).go (st:=a.2) g1.1 f1 (by rw [ht]; exact f2);rw [ht] at g2;have g3:=(aD l 2).go (st:=t.2) g2.1 f2 (by rw [hb]; exact f3);rw [hb] at g3;have g4:=(aD l 1).go (st:=b.2) g3.1 f3 (by rw [hc]; exact f4);rw [hc] at g4;have g5:=(aD l 2).go (st:=c.2) g4.1 f4 (by rw [hd]; exact f5);rw [hd] at g5;have e5:d.2.1=p':=by rw [h2]
  rw [e5] at g5;obtain ⟨a1,a2,a3,a4⟩:=g1;obtain ⟨b1,b2,b3,b4⟩:=g2;obtain ⟨c1,c2,c3,c4⟩:=g3;obtain ⟨d1,d2,d3,d4⟩:=g4;obtain ⟨e1,e2,e3,e4⟩:=g5;simp only [Int.reducePow] at a4 b4 c4 d4 e4;subst h1;refine ⟨e1,?_,?_⟩
  ·simp only [iT,List.append_assoc,Jo];rw [<- e2,<- d2,<- c2,<- b2,<- a2]
  ·refine ⟨⟨a3,a4⟩,⟨b3,b4⟩,⟨c3,c4⟩,⟨d3,d4⟩,?_,?_⟩ <;> simp only [Aq] <;> split <;> omega
 full p x rest hp hg h:=by
  obtain ⟨⟨hs0,hs1⟩,⟨hk0,hk1⟩,⟨ho0,ho1⟩,⟨hy0,hy1⟩,ha0,ha1⟩:=hg;simp only [iT,List.append_assoc] at h;obtain ⟨a1,a2,a3,a4,a5⟩:=(aD l 1).on (st:=(p,false)) hp rfl (x:=x.ah) ⟨hs0,by simp only [Int.reducePow]; omega⟩ h;generalize ha:rdNum l 1 (p,false)=a at *;obtain ⟨b1,b2,b3,b4,b5⟩:=(aD l 1).on (st:=a.2) a4 a2 (x:=x.kind) ⟨hk0,by simp only [Int.reducePow]; omega⟩ a5;generalize ht:rdNum l 1 a.2=t at *;obtain ⟨c1,c2,c3,c4,c5⟩:=(aD l 2).on (st:=t.2) b4 b2 (x:=x.off) ⟨ho0,by simp only [Int.reducePow]; omega⟩ b5;generalize hb:rdNum l 2 t.2=b at *;obtain ⟨d1,d2,d3,d4,d5⟩:=(aD l 1).on (st:=b.2) c4 c2 (x:=x.sym) ⟨hy0,by simp only [Int.reducePow]; omega⟩ c5
  generalize hc:rdNum l 1 b.2=c at *;rw [<- Cj] at d5;obtain ⟨e1,e2,e3,e4,e5⟩:=(aD l 2).on (st:=c.2) d4 d2 (x:=Dl x.addend) ⟨by unfold Dl; split <;> omega,by simp only [Int.reducePow]; unfold Dl; split <;> omega⟩ d5;generalize hd:rdNum l 2 c.2=d at *;have hlen:d.2.1=p+(iT x).length:=by
   simp only [iT,List.length_append,aC] at *;omega
  refine ⟨?_,by rw [<- hlen]; exact e5,by rw [<- hlen]; exact e4⟩;unfold dL;simp only [ha,ht,hb,hc,hd,a1,b1,c1,d1,e1];have hu:Aq (Dl x.addend)=x.addend:=by unfold Aq Dl; split <;> split <;> omega
  rw [hu];exact Prod.ext rfl (Prod.ext hlen e2)
def jg (n:Nat) (xs:List Int):Prop:=∀ x∈xs,0<=x/\x < (256:Int) ^ n
def lX (o:Obj):Prop :=
 o.text.length < 65536/\o.far.length < 65536/\o.data.length < 65536/\(0<=o.bss/\o.bss < 65536)/\o.align.length=4/\jg 1 o.align /\
 o.syms.length < 256/\o.aj.length < 256/\(∀ y∈o.syms,lY y)/\(∀ r∈o.aj,nK r)/\jg 4 o.text/\jg 4 o.far/\jg 4 o.data
def mV (o:Obj):List UInt8 :=
 le o.text.length 2 ++ (le o.far.length 2 ++ (le o.data.length 2 ++ (le o.bss 2 ++ (nums o.align 1 ++ (le o.syms.length 1 ++ (le o.aj.length 1 ++
  (o.syms.flatMap jd ++ (o.aj.flatMap iT ++ (nums o.text 4 ++ (nums o.far 4 ++ nums o.data 4))))))))))
theorem y5 (o:Obj):lN o=[76,75] ++ mV o:=rfl
theorem bE (l:List UInt8) (n c:Nat):Reads l (aP l n c) (fun xs=>nums xs n) (fun xs=>xs.length=c/\jg n xs):=by
 have h:=fU l (rdNum l n) _ _ (aD l n) c;have e:aP l n c=aM (rdNum l n) c:=funext fun st=>oV l n c st
 rw [e];exact h
theorem mZ (l:List UInt8):Reads l (iM l) mV lX where
 mono p:=by
  simp only [iM];refine (bE l 4 _).gY ?_;refine (bE l 4 _).gY ?_;refine (bE l 4 _).gY ?_;refine (fU l _ _ _ (mh l) _).gY ?_;refine (fU l _ _ _ (mq l) _).gY ?_;refine (aD l 1).gY ?_;refine (aD l 1).gY ?_;refine (bE l 1 _).gY ?_;refine (aD l 2).gY ?_;refine (aD l 2).gY ?_;refine (aD l 2).gY ?_;refine (aD l 2).gY ?_;rfl
 sound p x p' hp h:=by
  simp only [iM,Prod.mk.injEq] at h;obtain ⟨h1,h2⟩:=h;generalize e1:rdNum l 2 (p,false)=t at h1 h2;generalize e2:rdNum l 2 t.2=f at h1 h2;generalize e3:rdNum l 2 f.2=d at h1 h2;generalize e4:rdNum l 2 d.2=b at h1 h2;generalize e5:aP l 1 4 b.2=a at h1 h2;generalize e6:rdNum l 1 a.2=s at h1 h2;generalize e7:rdNum l 1 s.2=r at h1 h2;generalize e8:aM (dO l) s.1.toNat r.2=ss at h1 h2;generalize e9:aM (dL l) r.1.toNat ss.2=rs at h1 h2;generalize e10:aP l 4 t.1.toNat rs.2=tx at h1 h2;generalize e11:aP l 4 f.1.toNat tx.2=fx at h1 h2;generalize e12:aP l 4 d.1.toNat fx.2=dx at h1 h2;have f12:dx.2.2=false:=by rw [h2]
  have f11:fx.2.2=false:=by rw [<- e12] at f12; exact (bE l 4 _).back f12
  have f10:tx.2.2=false:=by rw [<- e11] at f11; exact (bE l 4 _).back f11
  have f9:rs.2.2=false:=by rw [<- e10] at f10; exact (bE l 4 _).back f10
  have f8:ss.2.2=false:=by rw [<- e9] at f9; exact (fU l _ _ _ (mh l) _).back f9
  have f7:r.2.2=false:=by rw [<- e8] at f8; exact (fU l _ _ _ (mq l) _).back f8
  have f6:s.2.2=false:=by rw [<- e7] at f7; exact (aD l 1).back f7
  have f5:a.2.2=false:=by rw [<- e6] at f6; exact (aD l 1).back f6
  have f4:b.2.2=false:=by rw [<- e5] at f5; exact (bE l 1 _).back f5
  have f3:d.2.2=false:=by rw [<- e4] at f4; exact (aD l 2).back f4
  have f2:f.2.2=false:=by rw [<- e3] at f3; exact (aD l 2).back f3
  have f1:t.2.2=false:=by rw [<- e2] at f2; exact (aD l 2).back f2
  obtain ⟨p1,d1,g1⟩:=(aD l 2).go (st:=(p,false)) hp rfl (by rw [e1]; exact f1);rw [e1] at p1 d1 g1;obtain ⟨p2,d2,g2⟩:=(aD l 2).go (st:=t.2) p1 f1 (by rw [e2]; exact f2);rw [e2] at p2 d2 g2;obtain ⟨p3,d3,g3⟩:=(aD l 2).go (st:=f.2) p2 f2 (by rw [e3]; exact f3);rw [e3] at p3 d3 g3;obtain ⟨p4,d4,g4⟩:=(aD l 2).go (st:=d.2) p3 f3 (by rw [e4]; exact f4);rw [e4] at p4 d4 g4;obtain ⟨p5,d5,g5⟩:=(bE l 1 4).go (st:=b.2) p4 f4 (by rw [e5]; exact f5);rw [e5] at p5 d5 g5;obtain ⟨p6,d6,g6⟩:=(aD l 1).go (st:=a.2) p5 f5 (by rw [e6]; exact f6);rw [e6] at p6 d6 g6;obtain ⟨p7,d7,g7⟩:=(aD l 1).go (st:=s.2) p6 f6 (by rw [e7]; exact f7)
  rw [e7] at p7 d7 g7;obtain ⟨p8,d8,g8⟩:=(fU l _ _ _ (mq l) s.1.toNat).go (st:=r.2) p7 f7 (by rw [e8]; exact f8);rw [e8] at p8 d8 g8;obtain ⟨p9,d9,g9⟩:=(fU l _ _ _ (mh l) r.1.toNat).go (st:=ss.2) p8 f8 (by rw [e9]; exact f9);rw [e9] at p9 d9 g9;obtain ⟨vZ,GV,g10⟩:=(bE l 4 t.1.toNat).go (st:=rs.2) p9 f9 (by rw [e10]; exact f10);rw [e10] at vZ GV g10;obtain ⟨CJ,GX,g11⟩:=(bE l 4 f.1.toNat).go (st:=tx.2) vZ f10 (by rw [e11]; exact f11);rw [e11] at CJ GX g11;obtain ⟨Ap,Fb,g12⟩:=(bE l 4 d.1.toNat).go (st:=fx.2) CJ f11 (by rw [e12]; exact f12);rw [e12] at Ap Fb g12;have e13:dx.2.1=p':=by rw [h2]
  rw [e13] at Ap Fb;simp only [Int.reducePow] at g1 g2 g3 g4 g6 g7;have l1:((tx.1.length:Nat):Int)=t.1:=by rw [g10.1]; omega
  have l2:((fx.1.length:Nat):Int)=f.1:=by rw [g11.1]; omega
  have l3:((dx.1.length:Nat):Int)=d.1:=by rw [g12.1]; omega
  have l4:((ss.1.length:Nat):Int)=s.1:=by rw [g8.1]; omega
  have l5:((rs.1.length:Nat):Int)=r.1:=by rw [g9.1]; omega
  subst h1;refine ⟨Ap,?_,?_⟩
  ·simp only [mV,List.append_assoc,l1,l2,l3,l4,l5];rw [<- Fb,<- GX,<- GV,<- d9,<- d8,<- d7,<- d6,<- d5,<- d4,<- d3,<- d2,<- d1]
  ·refine ⟨?_,?_,?_,g4,g5.1,g5.2,?_,?_,g8.2,g9.2,g10.2,g11.2,g12.2⟩ <;> simp only <;> omega
 full p x rest hp hg h:=by
  obtain ⟨k1,k2,k3,k4,k5,k6,k7,k8,k9,k10,k11,k12,k13⟩:=hg;simp only [mV,List.append_assoc] at h;obtain ⟨a1,b1,c1,p1,d1⟩:=(aD l 2).on (st:=(p,false)) hp rfl (x:=(x.text.length:Int)) ⟨by omega,by simp only [Int.reducePow]; omega⟩ h;generalize e1:rdNum l 2 (p,false)=t at *;obtain ⟨a2,b2,c2,p2,d2⟩:=(aD l 2).on (st:=t.2) p1 b1 (x:=(x.far.length:Int)) ⟨by omega,by simp only [Int.reducePow]; omega⟩ d1;generalize e2:rdNum l 2 t.2=f at *;obtain ⟨a3,b3,c3,p3,d3⟩:=(aD l 2).on (st:=f.2) p2 b2 (x:=(x.data.length:Int)) ⟨by omega,by simp only [Int.reducePow]; omega⟩ d2;generalize e3:rdNum l 2 f.2=d at *;obtain ⟨a4,b4,c4,p4,d4⟩:=(aD l 2).on (st:=d.2) p3 b3 (x:=x.bss) ⟨k4.1,by simp only [Int.reducePow]; omega⟩ d3
  generalize e4:rdNum l 2 d.2=b at *;obtain ⟨a5,b5,c5,p5,d5⟩:=(bE l 1 4).on (st:=b.2) p4 b4 (x:=x.align) ⟨k5,k6⟩ d4;generalize e5:aP l 1 4 b.2=a at *;obtain ⟨a6,b6,c6,p6,d6⟩:=(aD l 1).on (st:=a.2) p5 b5 (x:=(x.syms.length:Int)) ⟨by omega,by simp only [Int.reducePow]; omega⟩ d5;generalize e6:rdNum l 1 a.2=s at *;obtain ⟨a7,b7,c7,p7,d7⟩:=(aD l 1).on (st:=s.2) p6 b6 (x:=(x.aj.length:Int)) ⟨by omega,by simp only [Int.reducePow]; omega⟩ d6;generalize e7:rdNum l 1 s.2=r at *;obtain ⟨a8,b8,c8,p8,d8⟩:=(fU l _ _ _ (mq l) s.1.toNat).on (st:=r.2) p7 b7 (x:=x.syms) ⟨by rw [a6]; simp,k9⟩ d7;generalize e8:aM (dO l) s.1.toNat r.2=ss at *
  obtain ⟨a9,b9,c9,p9,d9⟩:=(fU l _ _ _ (mh l) r.1.toNat).on (st:=ss.2) p8 b8 (x:=x.aj) ⟨by rw [a7]; simp,k10⟩ d8;generalize e9:aM (dL l) r.1.toNat ss.2=rs at *;obtain ⟨VN,b10,c10,vZ,GV⟩:=(bE l 4 t.1.toNat).on (st:=rs.2) p9 b9 (x:=x.text) ⟨by rw [a1]; simp,k11⟩ d9;generalize e10:aP l 4 t.1.toNat rs.2=tx at *;obtain ⟨VO,b11,c11,CJ,GX⟩:=(bE l 4 f.1.toNat).on (st:=tx.2) vZ b10 (x:=x.far) ⟨by rw [a2]; simp,k12⟩ GV;generalize e11:aP l 4 f.1.toNat tx.2=fx at *;obtain ⟨a12,b12,c12,Ap,Fb⟩:=(bE l 4 d.1.toNat).on (st:=fx.2) CJ b11 (x:=x.data) ⟨by rw [a3]; simp,k13⟩ GX;generalize e12:aP l 4 d.1.toNat fx.2=dx at *
  have hlen:dx.2.1=p+(mV x).length:=by
   simp only [mV,List.length_append,aC] at *;omega
  refine ⟨?_,by rw [<- hlen]; exact Fb,by rw [<- hlen]; exact Ap⟩;simp only [iM,e1,e2,e3,e4,e5,e6,e7,e8,e9,e10,e11,e12,a4,a5,a8,a9,VN,VO,a12];exact Prod.ext rfl (Prod.ext hlen b12)
def gW (l:List UInt8):Option Obj :=
 if (aH l 2 (0,false)).1=[76,75] then
  (if (iM l (aH l 2 (0,false)).2).2=(l.length,false) then some (iM l (aH l 2 (0,false)).2).1 else none)
 else none
theorem jX (l:List UInt8) (o:Obj):gW l=some o↔lX o/\l=lN o:=by
 unfold gW;constructor
 ·intro h;split at h
  ·rename_i hm;split at h
   ·rename_i hr;simp only [Option.some.injEq] at h;generalize ht:aH l 2 (0,false)=t at *;have f1:t.2.2=false:=(mZ l).back (by rw [hr]);obtain ⟨p1,d1,g1⟩:=(eX l 2).go (st:=(0,false)) (Nat.zero_le _) rfl (by rw [ht]; exact f1);rw [ht] at p1 d1 g1;obtain ⟨p2,d2,g2⟩:=(mZ l).go (st:=t.2) p1 f1 (by rw [hr]);rw [h] at d2 g2;rw [hr] at d2;rw [hm] at d1;simp only [List.drop_zero,List.drop_length,List.append_nil] at d1 d2;exact ⟨g2,by rw [y5,<- d2]; exact d1⟩
   ·simp at h
  ·simp at h
 ·rintro ⟨hg,hl⟩;have h0:l.drop 0=[76,75] ++ mV o:=by rw [hl,y5]; rfl
  obtain ⟨a1,b1,c1,p1,d1⟩:=(eX l 2).on (st:=(0,false)) (Nat.zero_le _) rfl (x:=[76,75]) (rest:=mV o) rfl h0;generalize ht:aH l 2 (0,false)=t at *;obtain ⟨a2,b2,c2,p2,d2⟩:=(mZ l).on (st:=t.2) p1 b1 (x:=o) (rest:=[]) hg (by simpa using d1);rw [if_pos a1];have hlen:(iM l t.2).2.1=l.length:=by
   have h3:(l.drop (iM l t.2).2.1).length=0:=by rw [d2]; rfl
   simp at h3;omega
  rw [if_pos (Prod.ext hlen b2),a2]
end Go.Proofs.YtpgklkhgfcjceaaGreatDoor.Lk

namespace Go.Proofs.YtpgklkhgfcjceaaGreatDoor
namespace As
structure Tok where
 kind:Nat
 pos:Nat
 text:List UInt8
 n:Nat
def Tok.nil:Tok:=⟨0,0,[],0⟩
structure St where
 p:Nat
 tok:Tok
 fe:Nat
 fa:Nat
 op:Tok
 ah:Nat
 obj:Lk.Obj
def bA (c:UInt8):Bool:=decide (48<=c.toNat) && decide (c.toNat<=57)
def aX (c:UInt8):Bool:=(decide (97<=c.toNat) && decide (c.toNat<=122)) || c.toNat == 95 || bA c || c.toNat == 46
def j6 (c:UInt8):Bool:=c.toNat == 44 || c.toNat == 58 || c.toNat == 40 || c.toNat == 41 || c.toNat == 43 || c.toNat == 45
def blank (c:UInt8):Bool:=c.toNat == 32 || c.toNat == 9
def eG (c:UInt8):Bool:=!(c.toNat == 10)
def ends (c:UInt8):Bool:=c.toNat == 10 || c.toNat == 35
def skip (f:UInt8->Bool) (s:List UInt8) (p:Nat):Nat:=p+((s.drop p).takeWhile f).length
def dec (ds:List UInt8):Nat:=ds.foldl (fun n c=>10 * n+(c.toNat - 48)) 0
def iH (s:List UInt8) (p:Nat):Tok×(Nat×Nat)×Nat :=
 if 10 < ((s.drop p).takeWhile bA).length then (Tok.nil,(5,p),p+10)
 else if ((s[skip bA s p]?).map aX).getD false then (Tok.nil,(2,skip bA s p),skip bA s p)
 else (⟨2,p,(s.drop p).takeWhile bA,dec ((s.drop p).takeWhile bA)⟩,(0,0),skip bA s p)
def iL (s:List UInt8) (q:Nat):Tok×(Nat×Nat)×Nat :=
 match s[q]? with
 | none=>(⟨4,q,[],0⟩,(0,0),q)
 | some c =>
  if ends c then (⟨4,q,[],0⟩,(0,0),q)
  else if bA c then iH s q
  else if aX c then (⟨1,q,(s.drop q).takeWhile aX,0⟩,(0,0),skip aX s q)
  else if j6 c then (⟨3,q,[c],0⟩,(0,0),q+1)
  else (Tok.nil,(2,q),q)
def next (s:List UInt8) (p:Nat):Tok×(Nat×Nat)×Nat:=iL s (skip blank s p)
def failed (st:St):Bool:=!(st.fe == 0)
def refuse (e pos:Nat) (st:St):St:=if failed st then st else { st with fe:=e,fa:=pos,tok:=Tok.nil }
def advance (s:List UInt8) (st:St):St :=
 if failed st then st
 else if (next s st.p).2.1.1 == 0 then { st with p:=(next s st.p).2.2,tok:=(next s st.p).1 }
 else refuse (next s st.p).2.1.1 (next s st.p).2.1.2 { st with p:=(next s st.p).2.2 }
def bU (s:List UInt8) (st:St):Tok×St:=if st.tok.kind == 1 then (st.tok,advance s st) else (Tok.nil,st)
def Tok.is (t:Tok) (c:List UInt8):Bool:=t.kind == 3 && t.text == c
def lineEnd (s:List UInt8) (p:Nat):Bool×Nat :=
 if skip eG s p < s.length then (true,skip eG s p+1) else (false,skip eG s p)
def bG (s:List UInt8) (st:St):Bool×St :=
 if failed st then (false,st) else ((lineEnd s st.p).1,{ st with p:=(lineEnd s st.p).2 })
def kG (t:List UInt8):Bool:=t.any fun c=>c.toNat == 46
def jf:List UInt8->Option Nat
 | [x,a]=>if x.toNat=120/\bA a then some (a.toNat - 48) else none
 | [x,a,b]=>if x.toNat=120/\bA a/\a.toNat≠48/\bA b/\10 * (a.toNat - 48)+(b.toNat - 48)<=31 then some (10 * (a.toNat - 48)+(b.toNat - 48)) else none
 | _=>none
def aT (c:Bool) (e pos:Nat) (st:St):St:=if c then refuse e pos st else st
def bS (t:Tok) (st:St):St :=
 aT (jf t.text).isSome 7 t.pos (aT (decide (6 < t.text.length)) 4 t.pos (aT (kG t.text) 3 t.pos st))
def bM (o:Lk.Obj) (ah:Nat):Int :=
 if ah=4 then o.bss else if ah=1 then o.text.length else if ah=2 then o.far.length else if ah=3 then o.data.length else 0
def jV (ys:List Lk.Sym) (nm:List UInt8):Option Nat:=ys.findIdx? fun y=>y.name == nm
def aK (t:Tok) (st:St):(Nat×Bool)×St :=
 if failed st then ((0,false),st)
 else match jV st.obj.syms t.text with
  | some i=>((i,true),st)
  | none =>
   if 16<=st.obj.syms.length then ((0,false),refuse 11 t.pos st)
   else ((st.obj.syms.length,true),{ st with obj:={ st.obj with syms:=st.obj.syms ++ [⟨t.text,0,0,0⟩] } })
def lQ (st:St) (i:Nat) (f:Lk.Sym->Lk.Sym):St:={ st with obj:={ st.obj with syms:=st.obj.syms.modify i f } }
def label (t:Tok) (st0:St):St :=
 let r:=aK t (bS t st0)
 if !r.1.2 then r.2
 else if ((r.2.obj.syms[r.1.1]?).map (·.ah)).getD 0≠0 then refuse 10 t.pos r.2
 else lQ r.2 r.1.1 fun y=>⟨y.name,y.bind,r.2.ah,4 * bM r.2.obj r.2.ah⟩
def name (s:List UInt8) (st:St):Tok×St :=
 if st.tok.kind == 1 then (st.tok,advance s (bS st.tok st)) else (Tok.nil,refuse 3 st.tok.pos st)
def bind (s:List UInt8) (binding:Int) (st0:St):St :=
 let t:=(name s st0).1
 let r:=aK t (name s st0).2
 if !r.1.2 then r.2
 else if ((r.2.obj.syms[r.1.1]?).map (·.bind)).getD 0≠0 then refuse 14 t.pos r.2
 else lQ r.2 r.1.1 fun y=>⟨y.name,binding,y.ah,y.off⟩
def sign (s:List UInt8) (c:List UInt8) (st:St):St:=if st.tok.is c then advance s st else refuse 3 st.tok.pos st
def register (s:List UInt8) (st:St):Nat×St :=
 if st.tok.kind == 1 then
  match jf st.tok.text with
  | none=>(0,refuse 7 st.tok.pos st)
  | some r=>(r,advance s st)
 else (0,refuse 3 st.tok.pos st)
def aS (s:List UInt8) (neg:Bool) (pos:Nat) (lo hi:Int) (st:St):Int×St :=
 if st.tok.kind == 2 then
  if (if neg then -(st.tok.n:Int) else (st.tok.n:Int)) < lo\/hi < (if neg then -(st.tok.n:Int) else (st.tok.n:Int)) then (0,refuse 8 pos st)
  else ((if neg then -(st.tok.n:Int) else (st.tok.n:Int)),advance s st)
 else (0,refuse 3 st.tok.pos st)
def number (s:List UInt8) (lo hi:Int) (st:St):Int×St :=
 if st.tok.is [45] then aS s true st.tok.pos lo hi (advance s st) else aS s false st.tok.pos lo hi st
def symbol (s:List UInt8) (st:St):Nat×St :=
 let r:=aK (name s st).1 (name s st).2
 (r.1.1,r.2)
def target (s:List UInt8) (st:St):(Nat×Int)×St :=
 let r:=symbol s st
 if r.2.tok.is [43] then ((r.1,(number s 0 2047 (advance s r.2)).1),(number s 0 2047 (advance s r.2)).2)
 else if r.2.tok.is [45] then ((r.1,-(number s 0 2048 (advance s r.2)).1),(number s 0 2048 (advance s r.2)).2)
 else ((r.1,0),r.2)
def place (s:List UInt8) (st:St):(Int×Nat)×St :=
 let r:=number s (-2048) 2047 st
 let q:=register s (sign s [40] r.2)
 ((r.1,q.1),sign s [41] q.2)
def limit (ah:Nat):Int:=if ah=3 then 64 else if ah=4 then 64 else 1200
def bn (o:Lk.Obj) (ah:Nat) (ws:List Int):Lk.Obj :=
 if ah=1 then { o with text:=o.text ++ ws } else if ah=2 then { o with far:=o.far ++ ws } else if ah=3 then { o with data:=o.data ++ ws }
 else if ah=4 then { o with bss:=o.bss+ws.length } else o
def lay (ws:List Int) (st:St):St :=
 if 4 * limit st.ah < 4 * bM st.obj st.ah+4 * (ws.length:Int) then refuse 13 st.op.pos st
 else if failed st then st
 else { st with obj:=bn st.obj st.ah ws }
def bX (kind:Int) (sym:Nat) (addend:Int) (ws:List Int) (st0:St):St :=
 let st:=aT (decide (32<=st0.obj.aj.length)) 12 st0.op.pos st0
 if failed st then st
 else lay ws { st with obj:={ st.obj with aj:=st.obj.aj ++ [⟨st.ah,4 * bM st.obj st.ah,kind,sym,addend⟩] } }
end As
end Go.Proofs.YtpgklkhgfcjceaaGreatDoor

namespace Go.Proofs.YtpgklkhgfcjceaaGreatDoor
namespace As
def fI (n:Int) (low count:Nat):Nat:=((n / (2:Int) ^ low) % (2:Int) ^ count).toNat
def forms:List Nat:=[0,1,1,2,3,4,4,4,4,4,4,3,5,3,3,3,3,3,6,6,6,6,6,6,6,7]
def jO:List Nat:=[0,55,23,111,103,99,4195,16483,20579,24675,28771,8195,8227,19,8211,16403,24595,28691,51,1073741875,8243,12339,16435,24627,28723,115]
def place' (form:Nat) (n:Int):Nat :=
 if form=1 then fI n 0 20 * 4096
 else if form=2 then fI n 20 1 * 2147483648 ||| fI n 1 10 * 2097152 ||| fI n 11 1 * 1048576 ||| fI n 12 8 * 4096
 else if form=3 then fI n 0 12 * 1048576
 else if form=4 then fI n 12 1 * 2147483648 ||| fI n 5 6 * 33554432 ||| fI n 1 4 * 256 ||| fI n 11 1 * 128
 else if form=5 then fI n 5 7 * 33554432 ||| fI n 0 5 * 128
 else 0
def kZ (form:Nat):Bool:=form == 1 || form == 2 || form == 3 || form == 6
def jy (form:Nat):Bool:=form == 3 || form == 4 || form == 5 || form == 6
def j5 (form:Nat):Bool:=form == 4 || form == 5 || form == 6
def kM (form fixed:Nat) (rd au aF:Nat) (n:Int):Nat :=
 let w0:=fixed ||| place' form n
 let w1:=if kZ form then w0 ||| fI rd 0 5 * 128 else w0
 let w2:=if jy form then w1 ||| fI au 0 5 * 32768 else w1
 if j5 form then w2 ||| fI aF 0 5 * 1048576 else w2
def enc (op rd au aF:Nat) (n:Int):Nat:=kM (forms.getD op 0) (jO.getD op 0) rd au aF n
end As
end Go.Proofs.YtpgklkhgfcjceaaGreatDoor

namespace Go.Proofs.YtpgklkhgfcjceaaGreatDoor
namespace As
def bP (v:Int):Int:=if v % 4096 < 2048 then v % 4096 else v % 4096 - 4096
def dG (v:Int):Int:=(v - bP v) / 4096 % 1048576
def bH (op rd au aF:Nat) (n:Int) (st:St):St:=lay [(enc op rd au aF n:Int)] st
def bV (reg op rd au aF:Nat) (n:Int) (sym:Nat) (addend:Int) (st:St):St :=
 bX 5 sym addend [(enc 1 reg 0 0 0:Int),(enc op rd au aF n:Int)] (aT (reg == 0) 7 st.op.pos st)
def dX (s:List UInt8) (op:Nat) (st:St):St :=
 let a:=register s st
 let b:=register s (sign s [44] a.2)
 let c:=register s (sign s [44] b.2)
 bH op a.1 b.1 c.1 0 c.2
def dI (s:List UInt8) (op:Nat) (st:St):St :=
 let a:=register s st
 let b:=register s (sign s [44] a.2)
 let c:=number s (-2048) 2047 (sign s [44] b.2)
 bH op a.1 b.1 0 c.1 c.2
def upper (s:List UInt8) (st:St):St :=
 let a:=register s st
 let c:=number s 0 1048575 (sign s [44] a.2)
 bH 1 a.1 0 0 c.1 c.2
def load (s:List UInt8) (st:St):St :=
 let a:=register s st
 let st1:=sign s [44] a.2
 if st1.tok.kind == 1 then
  let t:=target s st1
  bV a.1 11 a.1 a.1 0 0 t.1.1 t.1.2 t.2
 else
  let p:=place s st1
  bH 11 a.1 p.1.2 0 p.1.1 p.2
def store (s:List UInt8) (st:St):St :=
 let a:=register s st
 let st1:=sign s [44] a.2
 if st1.tok.kind == 1 then
  let t:=target s st1
  let r:=register s (sign s [44] t.2)
  bV r.1 12 0 r.1 a.1 0 t.1.1 t.1.2 r.2
 else
  let p:=place s st1
  bH 12 0 p.1.2 a.1 p.1.1 p.2
def bY (s:List UInt8) (st:St):St :=
 let a:=register s st
 let t:=target s (sign s [44] a.2)
 bV a.1 13 a.1 a.1 0 0 t.1.1 t.1.2 t.2
def bO (s:List UInt8) (st:St):St :=
 let a:=register s st
 let p:=place s (sign s [44] a.2)
 bH 4 a.1 p.1.2 0 p.1.1 p.2
def bare (st:St):St :=
 if st.op.text=[101,99,97,108,108] then bH 25 0 0 0 0 st
 else if st.op.text=[114,101,116] then bH 4 0 1 0 0 st
 else if st.op.text=[110,111,112] then bH 13 0 0 0 0 st
 else st
def branch (s:List UInt8) (op:Nat) (st:St):St :=
 let a:=register s st
 let b:=register s (sign s [44] a.2)
 let y:=symbol s (sign s [44] b.2)
 bX 2 y.1 0 [(enc op 0 a.1 b.1 0:Int)] y.2
def fC (s:List UInt8) (rd:Nat) (st:St):St :=
 let y:=symbol s st
 bX 3 y.1 0 [(enc 3 rd 0 0 0:Int)] y.2
def fB (s:List UInt8) (st:St):St :=
 let a:=register s st
 fC s a.1 (sign s [44] a.2)
def move (s:List UInt8) (st:St):St :=
 let a:=register s st
 let b:=register s (sign s [44] a.2)
 bH 13 a.1 b.1 0 0 b.2
def dF (s:List UInt8) (st:St):St :=
 let a:=register s st
 let c:=number s (-2147483648) 2147483647 (sign s [44] a.2)
 if -2048<=c.1/\c.1<=2047 then bH 13 a.1 0 0 c.1 c.2
 else lay [(enc 1 a.1 0 0 (dG c.1):Int),(enc 13 a.1 a.1 0 (bP c.1):Int)] c.2
def call (s:List UInt8) (st:St):St :=
 let tail:=st.op.text == [116,97,105,108]
 let y:=symbol s st
 bX 4 y.1 0 [(enc 2 (if tail then 6 else 1) 0 0 0:Int),(enc 4 (if tail then 0 else 1) (if tail then 6 else 1) 0 0:Int)] y.2
end As
end Go.Proofs.YtpgklkhgfcjceaaGreatDoor

namespace Go.Proofs.YtpgklkhgfcjceaaGreatDoor
namespace As
def fE (st:St):St :=
 if st.op.text=[46,116,101,120,116] then { st with ah:=1 }
 else if st.op.text=[46,102,97,114] then { st with ah:=2 }
 else if st.op.text=[46,100,97,116,97] then { st with ah:=3 }
 else if st.op.text=[46,98,115,115] then { st with ah:=4 }
 else st
def binding (s:List UInt8) (st:St):St:=bind s (if st.op.text=[46,103,108,111,98,108] then 1 else 2) st
def word (s:List UInt8) (st:St):St :=
 if st.tok.kind == 1 then
  let t:=target s st
  bX 1 t.1.1 t.1.2 [0] t.2
 else
  let n:=number s (-2147483648) 4294967295 st
  lay [n.1 % 4294967296] n.2
def space (s:List UInt8) (st:St):St :=
 let n:=number s 0 4800 st
 if n.1 % 4=0 then lay (List.replicate (n.1 / 4).toNat 0) n.2 else refuse 8 n.2.op.pos n.2
def mX (ah:Nat):Bool:=ah == 1 || ah == 2
def bT (k:Int) (st:St):St :=
 if (st.obj.align[st.ah - 1]?).getD 0 < k then { st with obj:={ st.obj with align:=st.obj.align.set (st.ah - 1) k } } else st
def dh (aI:Nat) (st:St):St :=
 if mX st.ah then
  if 4 < aI then bX 6 0 ((aI:Int) - 4) (List.replicate (aI / 4 - 1) 19) st else st
 else lay (List.replicate (((aI:Int) - 4 * bM st.obj st.ah % aI) % aI / 4).toNat 0) st
def align (s:List UInt8) (st:St):St :=
 let n:=number s 2 4 st
 if failed n.2 then n.2 else bT n.1 (dh (2 ^ n.1.toNat) n.2)
end As
end Go.Proofs.YtpgklkhgfcjceaaGreatDoor

namespace Go.Proofs.YtpgklkhgfcjceaaGreatDoor
namespace As
def iV (t:List UInt8):Nat :=
 if t=[46,116,101,120,116] then 15 else
 if t=[46,102,97,114] then 15 else
 if t=[46,100,97,116,97] then 15 else
 if t=[46,98,115,115] then 15 else
 if t=[46,119,111,114,100] then 16 else
 if t=[46,115,112,97,99,101] then 17 else
 if t=[46,97,108,105,103,110] then 18 else
 if t=[46,103,108,111,98,108] then 19 else
 if t=[46,119,101,97,107] then 19 else
 0
def shapeOf (t:List UInt8):Nat :=
 if t=[97,100,100] then 1 else
 if t=[115,117,98] then 1 else
 if t=[115,108,116] then 1 else
 if t=[115,108,116,117] then 1 else
 if t=[120,111,114] then 1 else
 if t=[111,114] then 1 else
 if t=[97,110,100] then 1 else
 if t=[97,100,100,105] then 2 else
 if t=[115,108,116,105] then 2 else
 if t=[120,111,114,105] then 2 else
 if t=[111,114,105] then 2 else
 if t=[97,110,100,105] then 2 else
 if t=[108,117,105] then 3 else
 if t=[108,119] then 4 else
 if t=[115,119] then 5 else
 if t=[106,97,108,114] then 6 else
 if t=[101,99,97,108,108] then 7 else
 if t=[114,101,116] then 7 else
 if t=[110,111,112] then 7 else
 if t=[98,101,113] then 8 else
 if t=[98,110,101] then 8 else
 if t=[98,108,116] then 8 else
 if t=[98,103,101] then 8 else
 if t=[98,108,116,117] then 8 else
 if t=[98,103,101,117] then 8 else
 if t=[106,97,108] then 9 else
 if t=[106] then 10 else
 if t=[109,118] then 11 else
 if t=[108,105] then 12 else
 if t=[99,97,108,108] then 13 else
 if t=[116,97,105,108] then 13 else
 if t=[108,97] then 14 else
 iV t
def names:List (List UInt8):=[[],[108,117,105],[97,117,105,112,99],[106,97,108],[106,97,108,114],[98,101,113],[98,110,101],[98,108,116],[98,103,101],[98,108,116,117],[98,103,101,117],[108,119],[115,119],[97,100,100,105],[115,108,116,105],[120,111,114,105],[111,114,105],[97,110,100,105],[97,100,100],[115,117,98],[115,108,116],[115,108,116,117],[120,111,114],[111,114],[97,110,100],[101,99,97,108,108]]
def named (t:List UInt8):Nat:=((List.range 26).find? fun k=>decide (1<=k) && names.getD k [] == t).getD 0
def instruction (s:List UInt8) (shape op:Nat) (st:St):St :=
 if shape=1 then dX s op st else if shape=2 then dI s op st else if shape=3 then upper s st else if shape=4 then load s st
 else if shape=5 then store s st else if shape=6 then bO s st else if shape=7 then bare st else if shape=8 then branch s op st
 else if shape=9 then fB s st else if shape=10 then fC s 0 st else if shape=11 then move s st else if shape=12 then dF s st
 else if shape=13 then call s st else if shape=14 then bY s st else st
def directive (s:List UInt8) (shape:Nat) (st:St):St :=
 if shape=15 then fE st else if shape=16 then word s st else if shape=17 then space s st else if shape=18 then align s st
 else if shape=19 then binding s st else st
def iE (shape ah:Nat):Bool:=if shape<=14 then mX ah else !(shape == 16) || !(ah == 4)
def operation (s:List UInt8) (t:Tok) (st:St):St :=
 if shapeOf t.text=0 then refuse 6 t.pos st
 else if !iE (shapeOf t.text) st.ah then refuse 9 t.pos st
 else if shapeOf t.text<=14 then instruction s (shapeOf t.text) (named t.text) { st with op:=t }
 else directive s (shapeOf t.text) { st with op:=t }
def gZ (s:List UInt8) (t:Tok) (st:St):St :=
 let st1:=if t.kind == 1 then operation s t st else st
 if st1.tok.kind == 4 then st1 else refuse 3 st1.tok.pos st1
def line (s:List UInt8) (st:St):St :=
 let w:=bU s (advance s st)
 if w.1.kind == 1 && w.2.tok.is [58] then
  let v:=bU s (advance s (label w.1 w.2))
  gZ s v.1 v.2
 else gZ s w.1 w.2
def lines (s:List UInt8):Nat->St->St
 | 0,st=>st
 | n+1,st =>
  let r:=bG s (line s st)
  if r.1 then lines s n r.2 else r.2
def kF (ys:List Lk.Sym):List Lk.Sym:=ys.map fun y=>if y.ah=0/\y.bind=0 then ⟨y.name,1,y.ah,y.off⟩ else y
def gV (rs:List Lk.Rel):List Lk.Rel:=(rs.filter fun r=>r.ah=1) ++ (rs.filter fun r=>r.ah=2) ++ (rs.filter fun r=>r.ah=3)
def start:St:=⟨0,Tok.nil,0,0,Tok.nil,1,⟨[],[],[],0,[2,2,2,2],[],[]⟩⟩
def finish (o:Lk.Obj):Lk.Obj:={ o with syms:=kF o.syms,aj:=gV o.aj }
def assemble (s:List UInt8):(Nat×Nat)×Lk.Obj :=
 if 1000 < s.length then ((1,0),start.obj)
 else ((( lines s (s.length+1) start).fe,(lines s (s.length+1) start).fa),finish (lines s (s.length+1) start).obj)
end As
end Go.Proofs.YtpgklkhgfcjceaaGreatDoor

namespace Go.Proofs.YtpgklkhgfcjceaaGreatDoor
namespace At
open As
structure Sc where
 next:Nat->Tok×(Nat×Nat)×Nat
 le:Nat->Bool×Nat
def advance (s:Sc) (st:St):St :=
 if failed st then st
 else if (s.next st.p).2.1.1 == 0 then { st with p:=(s.next st.p).2.2,tok:=(s.next st.p).1 }
 else refuse (s.next st.p).2.1.1 (s.next st.p).2.1.2 { st with p:=(s.next st.p).2.2 }
def bU (s:Sc) (st:St):Tok×St:=if st.tok.kind == 1 then (st.tok,advance s st) else (Tok.nil,st)
def bG (s:Sc) (st:St):Bool×St :=
 if failed st then (false,st) else ((s.le st.p).1,{ st with p:=(s.le st.p).2 })
def name (s:Sc) (st:St):Tok×St :=
 if st.tok.kind == 1 then (st.tok,advance s (bS st.tok st)) else (Tok.nil,refuse 3 st.tok.pos st)
def bind (s:Sc) (binding:Int) (st0:St):St :=
 let t:=(name s st0).1
 let r:=aK t (name s st0).2
 if !r.1.2 then r.2
 else if ((r.2.obj.syms[r.1.1]?).map (·.bind)).getD 0≠0 then refuse 14 t.pos r.2
 else lQ r.2 r.1.1 fun y=>⟨y.name,binding,y.ah,y.off⟩
def sign (s:Sc) (c:List UInt8) (st:St):St:=if st.tok.is c then advance s st else refuse 3 st.tok.pos st
def register (s:Sc) (st:St):Nat×St :=
 if st.tok.kind == 1 then
  match jf st.tok.text with
  | none=>(0,refuse 7 st.tok.pos st)
  | some r=>(r,advance s st)
 else (0,refuse 3 st.tok.pos st)
def aS (s:Sc) (neg:Bool) (pos:Nat) (lo hi:Int) (st:St):Int×St :=
 if st.tok.kind == 2 then
  if (if neg then -(st.tok.n:Int) else (st.tok.n:Int)) < lo\/hi < (if neg then -(st.tok.n:Int) else (st.tok.n:Int)) then (0,refuse 8 pos st)
  else ((if neg then -(st.tok.n:Int) else (st.tok.n:Int)),advance s st)
 else (0,refuse 3 st.tok.pos st)
def number (s:Sc) (lo hi:Int) (st:St):Int×St :=
 if st.tok.is [45] then aS s true st.tok.pos lo hi (advance s st) else aS s false st.tok.pos lo hi st
def symbol (s:Sc) (st:St):Nat×St :=
 let r:=aK (name s st).1 (name s st).2
 (r.1.1,r.2)
def target (s:Sc) (st:St):(Nat×Int)×St :=
 let r:=symbol s st
 if r.2.tok.is [43] then ((r.1,(number s 0 2047 (advance s r.2)).1),(number s 0 2047 (advance s r.2)).2)
 else if r.2.tok.is [45] then ((r.1,-(number s 0 2048 (advance s r.2)).1),(number s 0 2048 (advance s r.2)).2)
 else ((r.1,0),r.2)
def place (s:Sc) (st:St):(Int×Nat)×St :=
 let r:=number s (-2048) 2047 st
 let q:=register s (sign s [40] r.2)
 ((r.1,q.1),sign s [41] q.2)
def dX (s:Sc) (op:Nat) (st:St):St :=
 let a:=register s st
 let b:=register s (sign s [44] a.2)
 let c:=register s (sign s [44] b.2)
 bH op a.1 b.1 c.1 0 c.2
def dI (s:Sc) (op:Nat) (st:St):St :=
 let a:=register s st
 let b:=register s (sign s [44] a.2)
 let c:=number s (-2048) 2047 (sign s [44] b.2)
 bH op a.1 b.1 0 c.1 c.2
def upper (s:Sc) (st:St):St :=
 let a:=register s st
 let c:=number s 0 1048575 (sign s [44] a.2)
 bH 1 a.1 0 0 c.1 c.2
def load (s:Sc) (st:St):St :=
 let a:=register s st
 let st1:=sign s [44] a.2
 if st1.tok.kind == 1 then
  let t:=target s st1
  bV a.1 11 a.1 a.1 0 0 t.1.1 t.1.2 t.2
 else
  let p:=place s st1
  bH 11 a.1 p.1.2 0 p.1.1 p.2
def store (s:Sc) (st:St):St :=
 let a:=register s st
 let st1:=sign s [44] a.2
 if st1.tok.kind == 1 then
  let t:=target s st1
  let r:=register s (sign s [44] t.2)
  bV r.1 12 0 r.1 a.1 0 t.1.1 t.1.2 r.2
 else
  let p:=place s st1
  bH 12 0 p.1.2 a.1 p.1.1 p.2
def bY (s:Sc) (st:St):St :=
 let a:=register s st
 let t:=target s (sign s [44] a.2)
 bV a.1 13 a.1 a.1 0 0 t.1.1 t.1.2 t.2
def bO (s:Sc) (st:St):St :=
 let a:=register s st
 let p:=place s (sign s [44] a.2)
 bH 4 a.1 p.1.2 0 p.1.1 p.2
def branch (s:Sc) (op:Nat) (st:St):St :=
 let a:=register s st
 let b:=register s (sign s [44] a.2)
 let y:=symbol s (sign s [44] b.2)
 bX 2 y.1 0 [(enc op 0 a.1 b.1 0:Int)] y.2
def fC (s:Sc) (rd:Nat) (st:St):St :=
 let y:=symbol s st
 bX 3 y.1 0 [(enc 3 rd 0 0 0:Int)] y.2
def fB (s:Sc) (st:St):St :=
 let a:=register s st
 fC s a.1 (sign s [44] a.2)
def move (s:Sc) (st:St):St :=
 let a:=register s st
 let b:=register s (sign s [44] a.2)
 bH 13 a.1 b.1 0 0 b.2
def dF (s:Sc) (st:St):St :=
 let a:=register s st
 let c:=number s (-2147483648) 2147483647 (sign s [44] a.2)
 if -2048<=c.1/\c.1<=2047 then bH 13 a.1 0 0 c.1 c.2
 else lay [(enc 1 a.1 0 0 (dG c.1):Int),(enc 13 a.1 a.1 0 (bP c.1):Int)] c.2
def call (s:Sc) (st:St):St :=
 let tail:=st.op.text == [116,97,105,108]
 let y:=symbol s st
 bX 4 y.1 0 [(enc 2 (if tail then 6 else 1) 0 0 0:Int),(enc 4 (if tail then 0 else 1) (if tail then 6 else 1) 0 0:Int)] y.2
def binding (s:Sc) (st:St):St:=bind s (if st.op.text=[46,103,108,111,98,108] then 1 else 2) st
def word (s:Sc) (st:St):St :=
 if st.tok.kind == 1 then
  let t:=target s st
  bX 1 t.1.1 t.1.2 [0] t.2
 else
  let n:=number s (-2147483648) 4294967295 st
  lay [n.1 % 4294967296] n.2
def space (s:Sc) (st:St):St :=
 let n:=number s 0 4800 st
 if n.1 % 4=0 then lay (List.replicate (n.1 / 4).toNat 0) n.2 else refuse 8 n.2.op.pos n.2
def align (s:Sc) (st:St):St :=
 let n:=number s 2 4 st
 if failed n.2 then n.2 else bT n.1 (dh (2 ^ n.1.toNat) n.2)
def instruction (s:Sc) (shape op:Nat) (st:St):St :=
 if shape=1 then dX s op st else if shape=2 then dI s op st else if shape=3 then upper s st else if shape=4 then load s st
 else if shape=5 then store s st else if shape=6 then bO s st else if shape=7 then bare st else if shape=8 then branch s op st
 else if shape=9 then fB s st else if shape=10 then fC s 0 st else if shape=11 then move s st else if shape=12 then dF s st
 else if shape=13 then call s st else if shape=14 then bY s st else st
def directive (s:Sc) (shape:Nat) (st:St):St :=
 if shape=15 then fE st else if shape=16 then word s st else if shape=17 then space s st else if shape=18 then align s st
 else if shape=19 then binding s st else st
def operation (s:Sc) (t:Tok) (st:St):St :=
 if shapeOf t.text=0 then refuse 6 t.pos st
 else if !iE (shapeOf t.text) st.ah then refuse 9 t.pos st
 else if shapeOf t.text<=14 then instruction s (shapeOf t.text) (named t.text) { st with op:=t }
 else directive s (shapeOf t.text) { st with op:=t }
def gZ (s:Sc) (t:Tok) (st:St):St :=
 let st1:=if t.kind == 1 then operation s t st else st
 if st1.tok.kind == 4 then st1 else refuse 3 st1.tok.pos st1
def line (s:Sc) (st:St):St :=
 let w:=bU s (advance s st)
 if w.1.kind == 1 && w.2.tok.is [58] then
  let v:=bU s (advance s (label w.1 w.2))
  gZ s v.1 v.2
 else gZ s w.1 w.2
def lines (s:Sc):Nat->St->St
 | 0,st=>st
 | n+1,st =>
  let r:=bG s (line s st)
  if r.1 then lines s n r.2 else r.2
def dP (g:Nat->Nat) (t:Tok):Tok:=⟨t.kind,g t.pos,t.text,t.n⟩
def aG (f g:Nat->Nat) (st:St):St:=⟨f st.p,dP g st.tok,st.fe,g st.fa,dP g st.op,st.ah,st.obj⟩
structure Agree (S T:Sc) (f g:Nat->Nat):Prop where
 zero:g 0=0
 next:∀ p,S.next (f p)=(dP g (T.next p).1,((T.next p).2.1.1,g (T.next p).2.1.2),f (T.next p).2.2)
def CX (s:List UInt8):Sc:=⟨As.next s,As.lineEnd s⟩
theorem jZ (g:Nat->Nat) (t:Tok):(dP g t).kind=t.kind:=rfl
theorem nU (g:Nat->Nat) (t:Tok):(dP g t).text=t.text:=rfl
theorem jC (g:Nat->Nat) (t:Tok):(dP g t).pos=g t.pos:=rfl
theorem Sq (g:Nat->Nat) (t:Tok):(dP g t).n=t.n:=rfl
theorem y8 (g:Nat->Nat) (t:Tok) (c:List UInt8):(dP g t).is c=t.is c:=rfl
section
variable (f g:Nat->Nat) (st:St)
theorem MR:(aG f g st).p=f st.p:=rfl
theorem jQ:(aG f g st).tok=dP g st.tok:=rfl
theorem vw:(aG f g st).op=dP g st.op:=rfl
theorem pX:(aG f g st).ah=st.ah:=rfl
theorem oH:(aG f g st).obj=st.obj:=rfl
theorem jK:failed (aG f g st)=failed st:=rfl
theorem sF (i:Nat) (k:Lk.Sym->Lk.Sym):lQ (aG f g st) i k=aG f g (lQ st i k):=rfl
end
section
variable {S T:Sc} {f g:Nat->Nat}
theorem xZ (h:Agree S T f g):dP g Tok.nil=Tok.nil:=by unfold dP Tok.nil; rw [h.zero]
theorem fD (h:Agree S T f g) (e p:Nat) (st:St):refuse e (g p) (aG f g st)=aG f g (refuse e p st):=by
 unfold refuse;rw [jK];split
 ·rfl
 ·unfold aG;rw [xZ h]
theorem nk (h:Agree S T f g) (c:Bool) (e p:Nat) (st:St):aT c e (g p) (aG f g st)=aG f g (aT c e p st):=by
 unfold aT;split
 ·exact fD h e p st
 ·rfl
theorem oP (h:Agree S T f g) (t:Tok) (st:St):bS (dP g t) (aG f g st)=aG f g (bS t st):=by
 unfold bS;simp only [nU,jC,nk h]
 repeat' split
 all_goals first | rfl | contradiction | (simp [*]; done) | (simp [*]; rfl)
theorem kr (h:Agree S T f g) (t:Tok) (st:St):aK (dP g t) (aG f g st)=((aK t st).1,aG f g (aK t st).2):=by
 unfold aK;simp only [nU,jC,jK,oH,fD h]
 repeat' split
 all_goals first | rfl | contradiction | (simp [*]; done) | (simp [*]; rfl)
theorem Fz (h:Agree S T f g) (t:Tok) (st:St):label (dP g t) (aG f g st)=aG f g (label t st):=by
 unfold label;simp only [oP h,kr h,oH,pX,jC,fD h,sF]
 repeat' split
 all_goals first | rfl | contradiction | (simp [*]; done) | (simp [*]; rfl)
theorem r9 (h:Agree S T f g) (ws:List Int) (st:St):lay ws (aG f g st)=aG f g (lay ws st):=by
 unfold lay;simp only [oH,pX,vw,jC,fD h,jK]
 repeat' split
 all_goals first | rfl | contradiction | (simp [*]; done) | (simp [*]; rfl)
theorem jI (h:Agree S T f g) (kind:Int) (sym:Nat) (ad:Int) (ws:List Int) (st:St):bX kind sym ad ws (aG f g st)=aG f g (bX kind sym ad ws st):=by
 have e:aT (decide (32<=(aG f g st).obj.aj.length)) 12 (aG f g st).op.pos (aG f g st)=aG f g (aT (decide (32<=st.obj.aj.length)) 12 st.op.pos st):=nk h _ 12 st.op.pos st;unfold bX;rw [e];generalize aT (decide (32<=st.obj.aj.length)) 12 st.op.pos st=t;by_cases c:failed t=true
 ·rw [if_pos c,if_pos (by exact c)]
 ·rw [if_neg c,if_neg (by exact c)];exact r9 h ws { t with obj:={ t.obj with aj:=t.obj.aj ++ [⟨t.ah,4 * bM t.obj t.ah,kind,sym,ad⟩] } }
theorem iX (h:Agree S T f g) (op rd au aF:Nat) (n:Int) (st:St):bH op rd au aF n (aG f g st)=aG f g (bH op rd au aF n st):=r9 h _ st
theorem kP (h:Agree S T f g) (reg op rd au aF:Nat) (n:Int) (sym:Nat) (ad:Int) (st:St):bV reg op rd au aF n sym ad (aG f g st)=aG f g (bV reg op rd au aF n sym ad st):=by
 unfold bV;simp only [vw,jC,nk h,jI h]
 repeat' split
 all_goals first | rfl | contradiction | (simp [*]; done) | (simp [*]; rfl)
theorem Iw (h:Agree S T f g) (st:St):bare (aG f g st)=aG f g (bare st):=by
 unfold bare;simp only [vw,nU,iX h]
 repeat' split
 all_goals first | rfl | contradiction | (simp [*]; done) | (simp [*]; rfl)
theorem zW (st:St):fE (aG f g st)=aG f g (fE st):=by
 have e:fE (aG f g st)=(if st.op.text=[46,116,101,120,116] then aG f g { st with ah:=1 } else if st.op.text=[46,102,97,114] then aG f g { st with ah:=2 } else if st.op.text=[46,100,97,116,97] then aG f g { st with ah:=3 } else if st.op.text=[46,98,115,115] then aG f g { st with ah:=4 } else aG f g st):=rfl;rw [e];unfold fE
 repeat' split
 all_goals first | rfl | contradiction
theorem rH (k:Int) (st:St):bT k (aG f g st)=aG f g (bT k st):=by
 unfold bT;simp only [oH,pX]
 repeat' split
 all_goals first | rfl | contradiction | (simp [*]; done) | (simp [*]; rfl)
theorem zx (h:Agree S T f g) (b:Nat) (st:St):dh b (aG f g st)=aG f g (dh b st):=by
 unfold dh;simp only [oH,pX,jI h,r9 h]
 repeat' split
 all_goals first | rfl | contradiction | (simp [*]; done) | (simp [*]; rfl)
theorem iO (h:Agree S T f g) (st:St):advance S (aG f g st)=aG f g (advance T st):=by
 unfold advance;simp only [jK,MR,h.next];split
 ·rfl
 ·split
  ·rfl
  ·exact fD h _ _ { st with p:=(T.next st.p).2.2 }
theorem xH (h:Agree S T f g) (st:St):bU S (aG f g st)=(dP g (bU T st).1,aG f g (bU T st).2):=by
 unfold bU;simp only [jQ,jZ,iO h];split
 ·rfl
 ·rw [xZ h]
theorem w9 (hl:∀ p,S.le (f p)=((T.le p).1,f (T.le p).2)) (st:St):bG S (aG f g st)=((bG T st).1,aG f g (bG T st).2):=by
 unfold bG;simp only [jK,MR,hl]
 repeat' split
 all_goals first | rfl | contradiction | (simp [*]; done) | (simp [*]; rfl)
theorem Cx (h:Agree S T f g) (st:St):name S (aG f g st)=(dP g (name T st).1,aG f g (name T st).2):=by
 unfold name;simp only [jQ,jZ,jC,oP h,iO h,fD h];split
 ·rfl
 ·rw [xZ h]
theorem IE (h:Agree S T f g) (b:Int) (st:St):bind S b (aG f g st)=aG f g (bind T b st):=by
 unfold bind;simp only [Cx h,kr h,oH,jC,fD h,sF]
 repeat' split
 all_goals first | rfl | contradiction | (simp [*]; done) | (simp [*]; rfl)
theorem jB (h:Agree S T f g) (c:List UInt8) (st:St):sign S c (aG f g st)=aG f g (sign T c st):=by
 unfold sign;simp only [jQ,y8,jC,iO h,fD h]
 repeat' split
 all_goals first | rfl | contradiction | (simp [*]; done) | (simp [*]; rfl)
theorem dY (h:Agree S T f g) (st:St):register S (aG f g st)=((register T st).1,aG f g (register T st).2):=by
 unfold register;simp only [jQ,jZ,nU,jC,iO h,fD h];split
 ·cases jf st.tok.text <;> rfl
 ·rfl
theorem tF (h:Agree S T f g) (neg:Bool) (p:Nat) (lo hi:Int) (st:St):aS S neg (g p) lo hi (aG f g st)=((aS T neg p lo hi st).1,aG f g (aS T neg p lo hi st).2):=by
 unfold aS;simp only [jQ,jZ,Sq,jC,iO h,fD h]
 repeat' split
 all_goals first | rfl | contradiction | (simp [*]; done) | (simp [*]; rfl)
theorem jr (h:Agree S T f g) (lo hi:Int) (st:St):number S lo hi (aG f g st)=((number T lo hi st).1,aG f g (number T lo hi st).2):=by
 unfold number;simp only [jQ,y8,jC,iO h,tF h]
 repeat' split
 all_goals first | rfl | contradiction | (simp [*]; done) | (simp [*]; rfl)
theorem nQ (h:Agree S T f g) (st:St):symbol S (aG f g st)=((symbol T st).1,aG f g (symbol T st).2):=by
 unfold symbol;simp only [Cx h,kr h]
 repeat' split
 all_goals first | rfl | contradiction | (simp [*]; done) | (simp [*]; rfl)
theorem nS (h:Agree S T f g) (st:St):target S (aG f g st)=((target T st).1,aG f g (target T st).2):=by
 unfold target;simp only [nQ h,jQ,y8,iO h,jr h]
 repeat' split
 all_goals first | rfl | contradiction | (simp [*]; done) | (simp [*]; rfl)
theorem tQ (h:Agree S T f g) (st:St):place S (aG f g st)=((place T st).1,aG f g (place T st).2):=by
 unfold place;simp only [jr h,jB h,dY h]
 repeat' split
 all_goals first | rfl | contradiction | (simp [*]; done) | (simp [*]; rfl)
theorem vO (h:Agree S T f g) (op:Nat) (st:St):dX S op (aG f g st)=aG f g (dX T op st):=by
 unfold dX;simp only [dY h,jB h,iX h]
theorem ug (h:Agree S T f g) (op:Nat) (st:St):dI S op (aG f g st)=aG f g (dI T op st):=by
 unfold dI;simp only [dY h,jB h,jr h,iX h]
theorem Gj (h:Agree S T f g) (st:St):upper S (aG f g st)=aG f g (upper T st):=by
 unfold upper;simp only [dY h,jB h,jr h,iX h]
theorem Jr (h:Agree S T f g) (st:St):load S (aG f g st)=aG f g (load T st):=by
 unfold load;simp only [dY h,jB h,nS h,tQ h,iX h,kP h,jQ,jZ]
 repeat' split
 all_goals first | rfl | contradiction | (simp [*]; done) | (simp [*]; rfl)
theorem Gh (h:Agree S T f g) (st:St):store S (aG f g st)=aG f g (store T st):=by
 unfold store;simp only [dY h,jB h,nS h,tQ h,iX h,kP h,jQ,jZ]
 repeat' split
 all_goals first | rfl | contradiction | (simp [*]; done) | (simp [*]; rfl)
theorem rA (h:Agree S T f g) (st:St):bY S (aG f g st)=aG f g (bY T st):=by
 unfold bY;simp only [dY h,jB h,nS h,kP h]
theorem qz (h:Agree S T f g) (st:St):bO S (aG f g st)=aG f g (bO T st):=by
 unfold bO;simp only [dY h,jB h,tQ h,iX h]
theorem Bt (h:Agree S T f g) (op:Nat) (st:St):branch S op (aG f g st)=aG f g (branch T op st):=by
 unfold branch;simp only [dY h,jB h,nQ h,jI h]
theorem rZ (h:Agree S T f g) (rd:Nat) (st:St):fC S rd (aG f g st)=aG f g (fC T rd st):=by
 unfold fC;simp only [nQ h,jI h]
theorem wU (h:Agree S T f g) (st:St):fB S (aG f g st)=aG f g (fB T st):=by
 unfold fB;simp only [dY h,jB h,rZ h]
theorem Jt (h:Agree S T f g) (st:St):move S (aG f g st)=aG f g (move T st):=by
 unfold move;simp only [dY h,jB h,iX h]
theorem tq (h:Agree S T f g) (st:St):dF S (aG f g st)=aG f g (dF T st):=by
 unfold dF;simp only [dY h,jB h,jr h,iX h,r9 h]
 repeat' split
 all_goals first | rfl | contradiction | (simp [*]; done) | (simp [*]; rfl)
theorem zB (h:Agree S T f g) (st:St):binding S (aG f g st)=aG f g (binding T st):=by
 unfold binding;simp only [vw,nU,IE h]
 repeat' split
 all_goals first | rfl | contradiction | (simp [*]; done) | (simp [*]; rfl)
theorem JI (h:Agree S T f g) (st:St):word S (aG f g st)=aG f g (word T st):=by
 unfold word;simp only [jr h,nS h,jI h,r9 h,jQ,jZ]
 repeat' split
 all_goals first | rfl | contradiction | (simp [*]; done) | (simp [*]; rfl)
theorem Gg (h:Agree S T f g) (st:St):space S (aG f g st)=aG f g (space T st):=by
 unfold space;simp only [jr h,r9 h,vw,jC,fD h]
 repeat' split
 all_goals first | rfl | contradiction | (simp [*]; done) | (simp [*]; rfl)
theorem Ez (h:Agree S T f g) (st:St):align S (aG f g st)=aG f g (align T st):=by
 unfold align;simp only [jr h,jK,zx h,rH]
 repeat' split
 all_goals first | rfl | contradiction | (simp [*]; done) | (simp [*]; rfl)
theorem IJ (h:Agree S T f g) (st:St):call S (aG f g st)=aG f g (call T st):=by
 unfold call;simp only [nQ h,jI h];rfl
theorem rz (h:Agree S T f g) (shape op:Nat) (st:St):instruction S shape op (aG f g st)=aG f g (instruction T shape op st):=by
 unfold instruction;simp only [apply_ite (aG f g),vO h,ug h,Gj h,Jr h,Gh h,qz h,Iw h,Bt h,wU h,rZ h,Jt h,tq h,IJ h,rA h]
theorem uW (h:Agree S T f g) (shape:Nat) (st:St):directive S shape (aG f g st)=aG f g (directive T shape st):=by
 unfold directive;simp only [apply_ite (aG f g),zW,JI h,Gg h,Ez h,zB h]
theorem vG (h:Agree S T f g) (t:Tok) (st:St):operation S (dP g t) (aG f g st)=aG f g (operation T t st):=by
 unfold operation;by_cases c1:shapeOf t.text=0
 ·rw [if_pos c1,if_pos (show shapeOf (dP g t).text=0 from c1)];exact fD h 6 t.pos st
 rw [if_neg c1,if_neg (show ¬ shapeOf (dP g t).text=0 from c1)];by_cases c2:(!iE (shapeOf t.text) st.ah)=true
 ·rw [if_pos c2,if_pos (show (!iE (shapeOf (dP g t).text) (aG f g st).ah)=true from c2)];exact fD h 9 t.pos st
 rw [if_neg c2,if_neg (show ¬ (!iE (shapeOf (dP g t).text) (aG f g st).ah)=true from c2)];by_cases c3:shapeOf t.text<=14
 ·rw [if_pos c3,if_pos (show shapeOf (dP g t).text<=14 from c3)];exact rz h (shapeOf t.text) (named t.text) { st with op:=t }
 rw [if_neg c3,if_neg (show ¬ shapeOf (dP g t).text<=14 from c3)];exact uW h (shapeOf t.text) { st with op:=t }
theorem Co (h:Agree S T f g) (t:Tok) (st:St):gZ S (dP g t) (aG f g st)=aG f g (gZ T t st):=by
 have e:(if (dP g t).kind == 1 then operation S (dP g t) (aG f g st) else aG f g st)=aG f g (if t.kind == 1 then operation T t st else st):=by
  rw [vG h];exact (apply_ite (aG f g) _ _ _).symm
 unfold gZ;rw [e];generalize (if t.kind == 1 then operation T t st else st)=x;by_cases c:(x.tok.kind == 4)=true
 ·simp only;rw [if_pos c,if_pos (show ((aG f g x).tok.kind == 4)=true from c)]
 ·simp only;rw [if_neg c,if_neg (show ¬ ((aG f g x).tok.kind == 4)=true from c)];exact fD h 3 x.tok.pos x
theorem Cq (h:Agree S T f g) (st:St):line S (aG f g st)=aG f g (line T st):=by
 unfold line;simp only [iO h,xH h,jZ,jQ,y8,Fz h,Co h];split <;> rfl
theorem FK (h:Agree S T f g) (hl:∀ p,S.le (f p)=((T.le p).1,f (T.le p).2)) (n:Nat):∀ st:St,lines S n (aG f g st)=aG f g (lines T n st):=by
 induction n with
 | zero=>intro st; rfl
 | succ n ih =>
  intro st;unfold lines;simp only [Cq h,w9 hl,ih];split <;> rfl
end
end At
end Go.Proofs.YtpgklkhgfcjceaaGreatDoor
