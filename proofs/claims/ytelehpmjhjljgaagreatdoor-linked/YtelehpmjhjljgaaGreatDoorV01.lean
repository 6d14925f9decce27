
import Derived.OrdersHeld
import Derived.KernelRfl
import Derived.Test.YtelehpmjhjljgaaGreatDoorRows
import Derived.WalkKit
import Derived.WalkSpells
import Derived.WalkLawsBesides
import Derived.Deep.QuietTactic
import Derived.BigQuiet
import Derived.Lib.Strings
set_option maxHeartbeats 16000000
set_option maxRecDepth 100000
namespace Go.Proofs.YtelehpmjhjljgaaGreatDoor.Lk
structure Sym where
 name:List UInt8
 bind:Int
 ah:Int
 off:Int
structure Rel where
 ah:Int
 off:Int
 kind:Int
 sym:Int
 addend:Int
structure Obj where
 text:List Int
 far:List Int
 data:List Int
 bss:Int
 align:List Int
 syms:List Sym
 aj:List Rel
def le (v:Int):Nat->List UInt8
 | 0=>[]
 | n+1=>UInt8.ofNat (v % 256).toNat :: le (v / 256) n
def num:List UInt8->Int
 | []=>0
 | b :: t=>(b.toNat:Int)+256 * num t
theorem aD (v:Int) (n:Nat):(le v n).length=n:=by
 induction n generalizing v with
 | zero=>rfl
 | succ n ih=>simp [le,ih]
theorem num_nonneg (l:List UInt8):0<=num l:=by
 induction l with
 | nil=>simp [num]
 | cons b t ih=>simp [num]; omega
theorem oC (l:List UInt8):num l < (256:Int) ^ l.length:=by
 induction l with
 | nil=>simp [num]
 | cons b t ih =>
  have hb:b.toNat < 256:=b.toNat_lt;simp only [num,List.length_cons,Int.pow_succ];omega
theorem byte_of (b:UInt8):UInt8.ofNat b.toNat=b:=by simp
theorem uG (a b:List UInt8):num (a ++ b)=num a+(256:Int) ^ a.length * num b:=by
 induction a with
 | nil=>simp [num]
 | cons x t ih =>
  simp only [List.cons_append,num,ih,List.length_cons,Int.pow_succ,Int.mul_add]
  have:(256:Int) ^ t.length * 256 * num b=256 * ((256:Int) ^ t.length * num b):=by
   rw [Int.mul_comm ((256:Int) ^ t.length) 256,Int.mul_assoc]
  omega
theorem uE (l:List UInt8):le (num l) l.length=l:=by
 induction l with
 | nil=>rfl
 | cons b t ih =>
  have hb:b.toNat < 256:=b.toNat_lt;have e1:((b.toNat:Int)+256 * num t) % 256=b.toNat:=by omega
  have e2:((b.toNat:Int)+256 * num t) / 256=num t:=by omega
  simp only [num,List.length_cons,le,e1,e2,ih,Int.toNat_natCast,byte_of]
theorem Et (v:Int) (n:Nat) (h0:0<=v) (h1:v < (256:Int) ^ n):num (le v n)=v:=by
 induction n generalizing v with
 | zero=>simp [le,num] at *; omega
 | succ n ih =>
  have e:(256:Int) ^ (n+1)=256 ^ n * 256:=Int.pow_succ ..;have h2:v / 256 < (256:Int) ^ n:=by rw [e] at h1; omega
  have hb:(UInt8.ofNat (v % 256).toNat).toNat=(v % 256).toNat:=by
   rw [UInt8.toNat_ofNat']; omega
  simp only [le,num,ih (v / 256) (by omega) h2,hb];omega
def iN (y:Sym):List UInt8:=le y.name.length 1 ++ (y.name ++ (le y.bind 1 ++ (le y.ah 1 ++ le y.off 2)))
def iG (r:Rel):List UInt8:=le r.ah 1 ++ (le r.kind 1 ++ (le r.off 2 ++ (le r.sym 1 ++ le r.addend 2)))
def nums (l:List Int) (n:Nat):List UInt8:=l.flatMap (le · n)
def kP (o:Obj):List UInt8 :=
 [76,75] ++ (le o.text.length 2 ++ (le o.far.length 2 ++ (le o.data.length 2 ++ (le o.bss 2 ++ (nums o.align 1 ++ (le o.syms.length 1 ++ (le o.aj.length 1 ++
  (o.syms.flatMap iN ++ (o.aj.flatMap iG ++ (nums o.text 4 ++ (nums o.far 4 ++ nums o.data 4)))))))))))
abbrev St:=Nat×Bool
def aF (l:List UInt8) (n:Nat) (st:St):List UInt8×St :=
 if n<=l.length - st.1 then ((l.drop st.1).take n,(st.1+n,st.2)) else ([],(st.1,true))
def rdNum (l:List UInt8) (n:Nat) (st:St):Int×St:=(num (aF l n st).1,(aF l n st).2)
def bn (l:List UInt8) (size:Nat):Nat->St->List Int×St
 | 0,st=>([],st)
 | c+1,st=>if st.2 then ([],st) else
   ((rdNum l size st).1 :: (bn l size c (rdNum l size st).2).1,(bn l size c (rdNum l size st).2).2)
def dD (l:List UInt8) (st:St):Sym×St :=
 let a:=rdNum l 1 st
 let t:=aF l a.1.toNat a.2
 let b:=rdNum l 1 t.2
 let c:=rdNum l 1 b.2
 let d:=rdNum l 2 c.2
 (⟨t.1,b.1,c.1,d.1⟩,d.2)
def tL (a:Int):Int:=if a≥32768 then a - 65536 else a
def dz (l:List UInt8) (st:St):Rel×St :=
 let a:=rdNum l 1 st
 let b:=rdNum l 1 a.2
 let c:=rdNum l 2 b.2
 let d:=rdNum l 1 c.2
 let e:=rdNum l 2 d.2
 (⟨a.1,c.1,b.1,d.1,tL e.1⟩,e.2)
def aN {α:Type} (f:St->α×St):Nat->St->List α×St
 | 0,st=>([],st)
 | c+1,st=>if st.2 then ([],st) else ((f st).1 :: (aN f c (f st).2).1,(aN f c (f st).2).2)
theorem ng (l:List UInt8) (size c:Nat) (st:St):bn l size c st=aN (rdNum l size) c st:=by
 induction c generalizing st with
 | zero=>rfl
 | succ c ih=>simp only [bn,aN,ih]
def gQ (l:List UInt8) (st:St):Obj×St :=
 let t:=rdNum l 2 st
 let f:=rdNum l 2 t.2
 let d:=rdNum l 2 f.2
 let b:=rdNum l 2 d.2
 let a:=bn l 1 4 b.2
 let s:=rdNum l 1 a.2
 let r:=rdNum l 1 s.2
 let ss:=aN (dD l) s.1.toNat r.2
 let rs:=aN (dz l) r.1.toNat ss.2
 let tx:=bn l 4 t.1.toNat rs.2
 let fx:=bn l 4 f.1.toNat tx.2
 let dx:=bn l 4 d.1.toNat fx.2
 (⟨tx.1,fx.1,dx.1,b.1,a.1,ss.1,rs.1⟩,dx.2)
structure Reads (l:List UInt8) {α:Type} (f:St->α×St) (enc:α->List UInt8) (good:α->Prop):Prop where
 mono:∀ p,(f (p,true)).2.2=true
 sound:∀ p x p',p<=l.length->f (p,false)=(x,(p',false))->p'<=l.length/\l.drop p=enc x ++ l.drop p'/\good x
 full:∀ p x rest,p<=l.length->good x->l.drop p=enc x ++ rest->f (p,false)=(x,(p+(enc x).length,false))/\l.drop (p+(enc x).length)=rest/\p+(enc x).length<=l.length
theorem zy {l:List UInt8} {p:Nat} {a rest:List UInt8} (hp:p<=l.length) (h:l.drop p=a ++ rest) :
  a.length<=l.length - p/\(l.drop p).take a.length=a/\l.drop (p+a.length)=rest/\p+a.length<=l.length:=by
 have h1:(l.drop p).length=(a ++ rest).length:=by rw [h]
 simp at h1;refine ⟨by omega,by rw [h]; simp,?_,by omega⟩;rw [<- List.drop_drop,h]; simp
theorem dU (l:List UInt8) (n:Nat):Reads l (aF l n) (fun x=>x) (fun x=>x.length=n) where
 mono p:=by unfold aF; split <;> rfl
 sound p x p' hp h:=by
  unfold aF at h;split at h
  ·simp only [Prod.mk.injEq] at h;obtain ⟨rfl,rfl,_⟩:=h;simp only at *;refine ⟨by omega,?_,by simp; omega⟩;rw [<- List.drop_drop]; exact (List.take_append_drop n _).symm
  ·simp at h
 full p x rest hp hg h:=by
  obtain ⟨h1,h2,h3,h4⟩:=zy hp h;subst hg;refine ⟨?_,h3,h4⟩;unfold aF;simp only;rw [if_pos h1,h2]
theorem aC (l:List UInt8) (n:Nat):Reads l (rdNum l n) (fun v=>le v n) (fun v=>0<=v/\v < (256:Int) ^ n) where
 mono p:=by unfold rdNum; exact (dU l n).mono p
 sound p x p' hp h:=by
  unfold rdNum at h;simp only [Prod.mk.injEq] at h;obtain ⟨h1,h2⟩:=h;have hs:=(dU l n).sound p (aF l n (p,false)).1 p' hp (by rw [<- h2]);obtain ⟨a,b,c⟩:=hs;have hn:=num_nonneg (aF l n (p,false)).1;have hl:=oC (aF l n (p,false)).1;have he:=uE (aF l n (p,false)).1;rw [c,h1] at hl he;rw [h1] at hn;exact ⟨a,by rw [he]; exact b,hn,hl⟩
 full p x rest hp hg h:=by
  have:=(dU l n).full p (le x n) rest hp (aD _ _) h
  obtain ⟨a,b,c⟩:=this;refine ⟨?_,b,c⟩;unfold rdNum;rw [a];simp only [Et x n hg.1 hg.2]
theorem fB (l:List UInt8) {α:Type} (f:St->α×St) (enc:α->List UInt8) (good:α->Prop) (R:Reads l f enc good) (c:Nat) :
  Reads l (aN f c) (fun xs=>xs.flatMap enc) (fun xs=>xs.length=c/\∀ x∈xs,good x) where
 mono p:=by cases c <;> simp [aN]
 sound:=by
  induction c with
  | zero =>
   intro p x p' hp h;simp [aN] at h;obtain ⟨rfl,rfl⟩:=h;simp [hp]
  | succ c ih =>
   intro p x p' hp h;simp only [aN,Bool.false_eq_true,if_false,Prod.mk.injEq] at h;obtain ⟨h1,h2⟩:=h;have h3:aN f c (f (p,false)).2=((aN f c (f (p,false)).2).1,(p',false)):=by rw [<- h2]
   have hst:(f (p,false)).2=((f (p,false)).2.1,false):=by
    cases hb:(f (p,false)).2.2 with
    | false=>exact Prod.ext rfl hb
    | true =>
     exfalso
     have e:(f (p,false)).2=((f (p,false)).2.1,true):=Prod.ext rfl hb;rw [e] at h3
     cases c with
     | zero=>simp [aN] at h3
     | succ c=>simp [aN] at h3
   obtain ⟨a1,a2,a3⟩:=R.sound p (f (p,false)).1 (f (p,false)).2.1 hp (by rw [<- hst]);rw [hst] at h3;obtain ⟨b1,b2,b3,b4⟩:=ih _ _ _ a1 h3;rw [<- hst] at b2 b3 b4;subst h1;refine ⟨b1,?_,by simp [b3],?_⟩
   ·rw [a2,b2]; simp
   ·intro x hx;rcases List.mem_cons.1 hx with rfl | hx
    ·exact a3
    ·exact b4 x hx
 full:=by
  induction c with
  | zero =>
   intro p x rest hp hg h;obtain ⟨hg,_⟩:=hg
   have:x=[]:=List.length_eq_zero_iff.1 hg
   subst this;simp [aN] at *;exact ⟨h,hp⟩
  | succ c ih =>
   intro p x rest hp hg h;obtain ⟨hl,hg⟩:=hg
   match x,hl with
   | y :: ys,hl =>
    simp only [List.flatMap_cons,List.append_assoc] at h;obtain ⟨a1,a2,a3⟩:=R.full p y _ hp (hg y (by simp)) h;obtain ⟨b1,b2,b3⟩:=ih _ ys rest a3 ⟨by simpa using hl,fun z hz=>hg z (by simp [hz])⟩ a2;simp only [aN,Bool.false_eq_true,if_false,a1,b1,List.flatMap_cons,List.length_append];rw [<- Nat.add_assoc];exact ⟨rfl,b2,b3⟩
theorem Reads.back {l:List UInt8} {α:Type} {f:St->α×St} {enc:α->List UInt8} {good:α->Prop} (R:Reads l f enc good) {st:St} (h:(f st).2.2=false):st.2=false:=by
 obtain ⟨p,b⟩:=st
 cases b with
 | false=>rfl
 | true=>have:=R.mono p; rw [this] at h; simp at h
theorem Reads.go {l:List UInt8} {α:Type} {f:St->α×St} {enc:α->List UInt8} {good:α->Prop} (R:Reads l f enc good) {st:St} (hp:st.1<=l.length) (h0:st.2=false) (h:(f st).2.2=false) :
  (f st).2.1<=l.length/\l.drop st.1=enc (f st).1 ++ l.drop (f st).2.1/\good (f st).1:=by
 obtain ⟨p,b⟩:=st;simp only at h0 hp;subst h0;exact R.sound p _ (f (p,false)).2.1 hp (Prod.ext rfl (Prod.ext rfl h))
theorem Reads.on {l:List UInt8} {α:Type} {f:St->α×St} {enc:α->List UInt8} {good:α->Prop} (R:Reads l f enc good) {st:St} (hp:st.1<=l.length) (h0:st.2=false) {x:α} {rest:List UInt8} (hg:good x) (h:l.drop st.1=enc x ++ rest) :
  (f st).1=x/\(f st).2.2=false/\(f st).2.1=st.1+(enc x).length/\(f st).2.1<=l.length/\l.drop (f st).2.1=rest:=by
 obtain ⟨p,b⟩:=st;simp only at h0 hp h;subst h0;obtain ⟨a,b,c⟩:=R.full p x rest hp hg h;rw [a];exact ⟨rfl,rfl,rfl,c,b⟩
def nP (y:Sym):Prop:=y.name.length < 256/\(0<=y.bind/\y.bind < 256)/\(0<=y.ah/\y.ah < 256)/\0<=y.off/\y.off < 65536
theorem Reads.gD {l:List UInt8} {α:Type} {f:St->α×St} {enc:α->List UInt8} {good:α->Prop} (R:Reads l f enc good) {st:St} (h:st.2=true):(f st).2.2=true:=by
 obtain ⟨p,b⟩:=st;simp only at h;subst h;exact R.mono p
theorem j3 (l:List UInt8):Reads l (dD l) iN nP where
 mono p:=by
  unfold dD;exact (aC l 2).gD ((aC l 1).gD ((aC l 1).gD ((dU l _).gD ((aC l 1).gD rfl))))
 sound p x p' hp h:=by
  unfold dD at h;simp only [Prod.mk.injEq] at h;obtain ⟨h1,h2⟩:=h;generalize ha:rdNum l 1 (p,false)=a at h1 h2;generalize ht:aF l a.1.toNat a.2=t at h1 h2;generalize hb:rdNum l 1 t.2=b at h1 h2;generalize hc:rdNum l 1 b.2=c at h1 h2;generalize hd:rdNum l 2 c.2=d at h1 h2;have f5:d.2.2=false:=by rw [h2]
  have f4:c.2.2=false:=by rw [<- hd] at f5; exact (aC l 2).back f5
  have f3:b.2.2=false:=by rw [<- hc] at f4; exact (aC l 1).back f4
  have f2:t.2.2=false:=by rw [<- hb] at f3; exact (aC l 1).back f3
  have f1:a.2.2=false:=by rw [<- ht] at f2; exact (dU l _).back f2
  have g1:=(aC l 1).go (st:=(p,false)) hp rfl (by rw [ha]; exact f1);rw [ha] at g1;have g2:=(dU l a.1.toNat).go (st:=a.2) g1.1 f1 (by rw [ht]; exact f2);rw [ht] at g2;have g3:=(aC l 1).go (st:=t.2) g2.1 f2 (by rw [hb]; exact f3);rw [hb] at g3;have g4:=(aC l 1).go (st:=b.2) g3.1 f3 (by rw [hc]; exact f4);rw [hc] at g4;have g5:=(aC l 2).go (st:=c.2) g4.1 f4 (by rw [hd]; exact f5);rw [hd] at g5;have e5:d.2.1=p':=by rw [h2]
  rw [e5] at g5;obtain ⟨a1,a2,a3,a4⟩:=g1;obtain ⟨b1,b2,b3⟩:=g2;obtain ⟨c1,c2,c3,c4⟩:=g3;obtain ⟨d1,d2,d3,d4⟩:=g4;obtain ⟨e1,e2,e3,e4⟩:=g5;simp only [Int.reducePow] at a4 c4 d4 e4;subst h1;have hlen:((t.1.length:Nat):Int)=a.1:=by rw [b3]; omega
  refine ⟨e1,?_,?_⟩
  ·simp only [iN,List.append_assoc,hlen];rw [<- e2,<- d2,<- c2,<- b2,<- a2]
  ·refine ⟨?_,⟨c3,c4⟩,⟨d3,d4⟩,e3,e4⟩;simp only; omega
 full p x rest hp hg h:=by
  obtain ⟨hn,⟨hb0,hb1⟩,⟨hs0,hs1⟩,ho0,ho1⟩:=hg;simp only [iN,List.append_assoc] at h;obtain ⟨a1,a2,a3,a4,a5⟩:=(aC l 1).on (st:=(p,false)) hp rfl (x:=(x.name.length:Int)) ⟨by omega,by simp only [Int.reducePow]; omega⟩ h;generalize ha:rdNum l 1 (p,false)=a at *;obtain ⟨b1,b2,b3,b4,b5⟩:=(dU l a.1.toNat).on (st:=a.2) a4 a2 (x:=x.name) (by rw [a1]; simp) a5;generalize ht:aF l a.1.toNat a.2=t at *;obtain ⟨c1,c2,c3,c4,c5⟩:=(aC l 1).on (st:=t.2) b4 b2 (x:=x.bind) ⟨hb0,by simp only [Int.reducePow]; omega⟩ b5;generalize hb:rdNum l 1 t.2=b at *;obtain ⟨d1,d2,d3,d4,d5⟩:=(aC l 1).on (st:=b.2) c4 c2 (x:=x.ah) ⟨hs0,by simp only [Int.reducePow]; omega⟩ c5
  generalize hc:rdNum l 1 b.2=c at *;obtain ⟨e1,e2,e3,e4,e5⟩:=(aC l 2).on (st:=c.2) d4 d2 (x:=x.off) ⟨ho0,by simp only [Int.reducePow]; omega⟩ d5;generalize hd:rdNum l 2 c.2=d at *;have hlen:d.2.1=p+(iN x).length:=by
   simp only [iN,List.length_append,aD] at *;omega
  refine ⟨?_,by rw [<- hlen]; exact e5,by rw [<- hlen]; exact e4⟩;unfold dD;simp only [ha,ht,hb,hc,hd,b1,c1,d1,e1];exact Prod.ext rfl (Prod.ext hlen e2)
def nO (r:Rel):Prop:=(0<=r.ah/\r.ah < 256)/\(0<=r.kind/\r.kind < 256)/\(0<=r.off/\r.off < 65536)/\(0<=r.sym/\r.sym < 256)/\-32768<=r.addend/\r.addend < 32768
theorem zS (v:Int) (n:Nat):le (v+(256:Int) ^ n) n=le v n:=by
 induction n generalizing v with
 | zero=>rfl
 | succ n ih =>
  have e:(256:Int) ^ (n+1)=256 ^ n * 256:=Int.pow_succ ..;have e1:(v+(256:Int) ^ (n+1)) % 256=v % 256:=by rw [e]; omega
  have e2:(v+(256:Int) ^ (n+1)) / 256=v / 256+256 ^ n:=by rw [e]; omega
  simp only [le,e1,e2,ih]
theorem Es (v:Int):le (tL v) 2=le v 2:=by
 unfold tL;split
 ·have:=zS (v - 65536) 2
  simp only [Int.reducePow] at this;rw [<- this]
  congr 1
  omega
 ·rfl
def zX (a:Int):Int:=if a < 0 then a+65536 else a
theorem zT (v:Int):le (zX v) 2=le v 2:=by
 unfold zX;split
 ·have:=zS v 2
  simp only [Int.reducePow] at this;exact this
 ·rfl
theorem jZ (l:List UInt8):Reads l (dz l) iG nO where
 mono p:=by
  simp only [dz];refine (aC l 2).gD ?_;refine (aC l 1).gD ?_;refine (aC l 2).gD ?_;refine (aC l 1).gD ?_;refine (aC l 1).gD ?_;rfl
 sound p x p' hp h:=by
  unfold dz at h;simp only [Prod.mk.injEq] at h;obtain ⟨h1,h2⟩:=h;generalize ha:rdNum l 1 (p,false)=a at h1 h2;generalize ht:rdNum l 1 a.2=t at h1 h2;generalize hb:rdNum l 2 t.2=b at h1 h2;generalize hc:rdNum l 1 b.2=c at h1 h2;generalize hd:rdNum l 2 c.2=d at h1 h2;have f5:d.2.2=false:=by rw [h2]
  have f4:c.2.2=false:=by rw [<- hd] at f5; exact (aC l 2).back f5
  have f3:b.2.2=false:=by rw [<- hc] at f4; exact (aC l 1).back f4
  have f2:t.2.2=false:=by rw [<- hb] at f3; exact (aC l 2).back f3
  have f1:a.2.2=false:=by rw [<- ht] at f2; exact (aC l 1).back f2
  have g1:=(aC l 1).go (st:=(p,false)) hp rfl (by rw [ha]; exact f1);rw [ha] at g1;have g2:=(aC l 1).go (st:=a.2) g1.1 f1 (by rw [ht]; exact f2);rw [ht] at g2;have g3:=(aC l 2).go (st:=t.2) g2.1 f2 (by rw [hb]; exact f3);rw [hb] at g3;have g4:=(aC l 1).go (st:=b.2) g3.1 f3 (by rw [hc]; exact f4);rw [hc] at g4;have g5:=(aC l 2).go (st:=c.2) g4.1 f4 (by rw [hd]; exact f5);rw [hd] at g5;have e5:d.2.1=p':=by rw [h2]
  rw [e5] at g5;obtain ⟨a1,a2,a3,a4⟩:=g1;obtain ⟨b1,b2,b3,b4⟩:=g2;obtain ⟨c1,c2,c3,c4⟩:=g3;obtain ⟨d1,d2,d3,d4⟩:=g4;obtain ⟨e1,e2,e3,e4⟩:=g5;simp only [Int.reducePow] at a4 b4 c4 d4 e4;subst h1;refine ⟨e1,?_,?_⟩
  ·simp only [iG,List.append_assoc,Es];rw [<- e2,<- d2,<- c2,<- b2,<- a2]
  ·refine ⟨⟨a3,a4⟩,⟨b3,b4⟩,⟨c3,c4⟩,⟨d3,d4⟩,?_,?_⟩ <;> simp only [tL] <;> split <;> omega
 full p x rest hp hg h:=by
  obtain ⟨⟨hs0,hs1⟩,⟨hk0,hk1⟩,⟨ho0,ho1⟩,⟨hy0,hy1⟩,ha0,ha1⟩:=hg;simp only [iG,List.append_assoc] at h;obtain ⟨a1,a2,a3,a4,a5⟩:=(aC l 1).on (st:=(p,false)) hp rfl (x:=x.ah) ⟨hs0,by simp only [Int.reducePow]; omega⟩ h;generalize ha:rdNum l 1 (p,false)=a at *;obtain ⟨b1,b2,b3,b4,b5⟩:=(aC l 1).on (st:=a.2) a4 a2 (x:=x.kind) ⟨hk0,by simp only [Int.reducePow]; omega⟩ a5;generalize ht:rdNum l 1 a.2=t at *;obtain ⟨c1,c2,c3,c4,c5⟩:=(aC l 2).on (st:=t.2) b4 b2 (x:=x.off) ⟨ho0,by simp only [Int.reducePow]; omega⟩ b5;generalize hb:rdNum l 2 t.2=b at *;obtain ⟨d1,d2,d3,d4,d5⟩:=(aC l 1).on (st:=b.2) c4 c2 (x:=x.sym) ⟨hy0,by simp only [Int.reducePow]; omega⟩ c5
  generalize hc:rdNum l 1 b.2=c at *;rw [<- zT] at d5;obtain ⟨e1,e2,e3,e4,e5⟩:=(aC l 2).on (st:=c.2) d4 d2 (x:=zX x.addend) ⟨by unfold zX; split <;> omega,by simp only [Int.reducePow]; unfold zX; split <;> omega⟩ d5;generalize hd:rdNum l 2 c.2=d at *;have hlen:d.2.1=p+(iG x).length:=by
   simp only [iG,List.length_append,aD] at *;omega
  refine ⟨?_,by rw [<- hlen]; exact e5,by rw [<- hlen]; exact e4⟩;unfold dz;simp only [ha,ht,hb,hc,hd,a1,b1,c1,d1,e1];have hu:tL (zX x.addend)=x.addend:=by unfold tL zX; split <;> split <;> omega
  rw [hu];exact Prod.ext rfl (Prod.ext hlen e2)
def iy (n:Nat) (xs:List Int):Prop:=∀ x∈xs,0<=x/\x < (256:Int) ^ n
def lI (o:Obj):Prop :=
 o.text.length < 65536/\o.far.length < 65536/\o.data.length < 65536/\(0<=o.bss/\o.bss < 65536)/\o.align.length=4/\iy 1 o.align /\
 o.syms.length < 256/\o.aj.length < 256/\(∀ y∈o.syms,nP y)/\(∀ r∈o.aj,nO r)/\iy 4 o.text/\iy 4 o.far/\iy 4 o.data
def kG (o:Obj):List UInt8 :=
 le o.text.length 2 ++ (le o.far.length 2 ++ (le o.data.length 2 ++ (le o.bss 2 ++ (nums o.align 1 ++ (le o.syms.length 1 ++ (le o.aj.length 1 ++
  (o.syms.flatMap iN ++ (o.aj.flatMap iG ++ (nums o.text 4 ++ (nums o.far 4 ++ nums o.data 4))))))))))
theorem vG (o:Obj):kP o=[76,75] ++ kG o:=rfl
theorem bQ (l:List UInt8) (n c:Nat):Reads l (bn l n c) (fun xs=>nums xs n) (fun xs=>xs.length=c/\iy n xs):=by
 have h:=fB l (rdNum l n) _ _ (aC l n) c;have e:bn l n c=aN (rdNum l n) c:=funext fun st=>ng l n c st
 rw [e];exact h
theorem kQ (l:List UInt8):Reads l (gQ l) kG lI where
 mono p:=by
  simp only [gQ];refine (bQ l 4 _).gD ?_;refine (bQ l 4 _).gD ?_;refine (bQ l 4 _).gD ?_;refine (fB l _ _ _ (jZ l) _).gD ?_;refine (fB l _ _ _ (j3 l) _).gD ?_;refine (aC l 1).gD ?_;refine (aC l 1).gD ?_;refine (bQ l 1 _).gD ?_;refine (aC l 2).gD ?_;refine (aC l 2).gD ?_;refine (aC l 2).gD ?_;refine (aC l 2).gD ?_;rfl
 sound p x p' hp h:=by
  simp only [gQ,Prod.mk.injEq] at h;obtain ⟨h1,h2⟩:=h;generalize e1:rdNum l 2 (p,false)=t at h1 h2;generalize e2:rdNum l 2 t.2=f at h1 h2;generalize e3:rdNum l 2 f.2=d at h1 h2;generalize e4:rdNum l 2 d.2=b at h1 h2;generalize e5:bn l 1 4 b.2=a at h1 h2;generalize e6:rdNum l 1 a.2=s at h1 h2;generalize e7:rdNum l 1 s.2=r at h1 h2;generalize e8:aN (dD l) s.1.toNat r.2=ss at h1 h2;generalize e9:aN (dz l) r.1.toNat ss.2=rs at h1 h2;generalize e10:bn l 4 t.1.toNat rs.2=tx at h1 h2;generalize e11:bn l 4 f.1.toNat tx.2=fx at h1 h2;generalize e12:bn l 4 d.1.toNat fx.2=dx at h1 h2;have f12:dx.2.2=false:=by rw [h2]
  have f11:fx.2.2=false:=by rw [<- e12] at f12; exact (bQ l 4 _).back f12
  have f10:tx.2.2=false:=by rw [<- e11] at f11; exact (bQ l 4 _).back f11
  have f9:rs.2.2=false:=by rw [<- e10] at f10; exact (bQ l 4 _).back f10
  have f8:ss.2.2=false:=by rw [<- e9] at f9; exact (fB l _ _ _ (jZ l) _).back f9
  have f7:r.2.2=false:=by rw [<- e8] at f8; exact (fB l _ _ _ (j3 l) _).back f8
  have f6:s.2.2=false:=by rw [<- e7] at f7; exact (aC l 1).back f7
  have f5:a.2.2=false:=by rw [<- e6] at f6; exact (aC l 1).back f6
  have f4:b.2.2=false:=by rw [<- e5] at f5; exact (bQ l 1 _).back f5
  have f3:d.2.2=false:=by rw [<- e4] at f4; exact (aC l 2).back f4
  have f2:f.2.2=false:=by rw [<- e3] at f3; exact (aC l 2).back f3
  have f1:t.2.2=false:=by rw [<- e2] at f2; exact (aC l 2).back f2
  obtain ⟨p1,d1,g1⟩:=(aC l 2).go (st:=(p,false)) hp rfl (by rw [e1]; exact f1);rw [e1] at p1 d1 g1;obtain ⟨p2,d2,g2⟩:=(aC l 2).go (st:=t.2) p1 f1 (by rw [e2]; exact f2);rw [e2] at p2 d2 g2;obtain ⟨p3,d3,g3⟩:=(aC l 2).go (st:=f.2) p2 f2 (by rw [e3]; exact f3);rw [e3] at p3 d3 g3;obtain ⟨p4,d4,g4⟩:=(aC l 2).go (st:=d.2) p3 f3 (by rw [e4]; exact f4);rw [e4] at p4 d4 g4;obtain ⟨p5,d5,g5⟩:=(bQ l 1 4).go (st:=b.2) p4 f4 (by rw [e5]; exact f5);rw [e5] at p5 d5 g5;obtain ⟨p6,d6,g6⟩:=(aC l 1).go (st:=a.2) p5 f5 (by rw [e6]; exact f6);rw [e6] at p6 d6 g6;obtain ⟨p7,d7,g7⟩:=(aC l 1).go (st:=s.2) p6 f6 (by rw [e7]; exact f7)
  rw [e7] at p7 d7 g7;obtain ⟨p8,d8,g8⟩:=(fB l _ _ _ (j3 l) s.1.toNat).go (st:=r.2) p7 f7 (by rw [e8]; exact f8);rw [e8] at p8 d8 g8;obtain ⟨p9,d9,g9⟩:=(fB l _ _ _ (jZ l) r.1.toNat).go (st:=ss.2) p8 f8 (by rw [e9]; exact f9);rw [e9] at p9 d9 g9;obtain ⟨BA,Lv,g10⟩:=(bQ l 4 t.1.toNat).go (st:=rs.2) p9 f9 (by rw [e10]; exact f10);rw [e10] at BA Lv g10;obtain ⟨BG,Lx,g11⟩:=(bQ l 4 f.1.toNat).go (st:=tx.2) BA f10 (by rw [e11]; exact f11);rw [e11] at BG Lx g11;obtain ⟨xP,Jo,g12⟩:=(bQ l 4 d.1.toNat).go (st:=fx.2) BG f11 (by rw [e12]; exact f12);rw [e12] at xP Jo g12;have e13:dx.2.1=p':=by rw [h2]
  rw [e13] at xP Jo;simp only [Int.reducePow] at g1 g2 g3 g4 g6 g7;have l1:((tx.1.length:Nat):Int)=t.1:=by rw [g10.1]; omega
  have l2:((fx.1.length:Nat):Int)=f.1:=by rw [g11.1]; omega
  have l3:((dx.1.length:Nat):Int)=d.1:=by rw [g12.1]; omega
  have l4:((ss.1.length:Nat):Int)=s.1:=by rw [g8.1]; omega
  have l5:((rs.1.length:Nat):Int)=r.1:=by rw [g9.1]; omega
  subst h1;refine ⟨xP,?_,?_⟩
  ·simp only [kG,List.append_assoc,l1,l2,l3,l4,l5];rw [<- Jo,<- Lx,<- Lv,<- d9,<- d8,<- d7,<- d6,<- d5,<- d4,<- d3,<- d2,<- d1]
  ·refine ⟨?_,?_,?_,g4,g5.1,g5.2,?_,?_,g8.2,g9.2,g10.2,g11.2,g12.2⟩ <;> simp only <;> omega
 full p x rest hp hg h:=by
  obtain ⟨k1,k2,k3,k4,k5,k6,k7,k8,k9,k10,k11,k12,k13⟩:=hg;simp only [kG,List.append_assoc] at h;obtain ⟨a1,b1,c1,p1,d1⟩:=(aC l 2).on (st:=(p,false)) hp rfl (x:=(x.text.length:Int)) ⟨by omega,by simp only [Int.reducePow]; omega⟩ h;generalize e1:rdNum l 2 (p,false)=t at *;obtain ⟨a2,b2,c2,p2,d2⟩:=(aC l 2).on (st:=t.2) p1 b1 (x:=(x.far.length:Int)) ⟨by omega,by simp only [Int.reducePow]; omega⟩ d1;generalize e2:rdNum l 2 t.2=f at *;obtain ⟨a3,b3,c3,p3,d3⟩:=(aC l 2).on (st:=f.2) p2 b2 (x:=(x.data.length:Int)) ⟨by omega,by simp only [Int.reducePow]; omega⟩ d2;generalize e3:rdNum l 2 f.2=d at *;obtain ⟨a4,b4,c4,p4,d4⟩:=(aC l 2).on (st:=d.2) p3 b3 (x:=x.bss) ⟨k4.1,by simp only [Int.reducePow]; omega⟩ d3
  generalize e4:rdNum l 2 d.2=b at *;obtain ⟨a5,b5,c5,p5,d5⟩:=(bQ l 1 4).on (st:=b.2) p4 b4 (x:=x.align) ⟨k5,k6⟩ d4;generalize e5:bn l 1 4 b.2=a at *;obtain ⟨a6,b6,c6,p6,d6⟩:=(aC l 1).on (st:=a.2) p5 b5 (x:=(x.syms.length:Int)) ⟨by omega,by simp only [Int.reducePow]; omega⟩ d5;generalize e6:rdNum l 1 a.2=s at *;obtain ⟨a7,b7,c7,p7,d7⟩:=(aC l 1).on (st:=s.2) p6 b6 (x:=(x.aj.length:Int)) ⟨by omega,by simp only [Int.reducePow]; omega⟩ d6;generalize e7:rdNum l 1 s.2=r at *;obtain ⟨a8,b8,c8,p8,d8⟩:=(fB l _ _ _ (j3 l) s.1.toNat).on (st:=r.2) p7 b7 (x:=x.syms) ⟨by rw [a6]; simp,k9⟩ d7;generalize e8:aN (dD l) s.1.toNat r.2=ss at *
  obtain ⟨a9,b9,c9,p9,d9⟩:=(fB l _ _ _ (jZ l) r.1.toNat).on (st:=ss.2) p8 b8 (x:=x.aj) ⟨by rw [a7]; simp,k10⟩ d8;generalize e9:aN (dz l) r.1.toNat ss.2=rs at *;obtain ⟨Vg,b10,c10,BA,Lv⟩:=(bQ l 4 t.1.toNat).on (st:=rs.2) p9 b9 (x:=x.text) ⟨by rw [a1]; simp,k11⟩ d9;generalize e10:bn l 4 t.1.toNat rs.2=tx at *;obtain ⟨Vh,b11,c11,BG,Lx⟩:=(bQ l 4 f.1.toNat).on (st:=tx.2) BA b10 (x:=x.far) ⟨by rw [a2]; simp,k12⟩ Lv;generalize e11:bn l 4 f.1.toNat tx.2=fx at *;obtain ⟨a12,b12,c12,xP,Jo⟩:=(bQ l 4 d.1.toNat).on (st:=fx.2) BG b11 (x:=x.data) ⟨by rw [a3]; simp,k13⟩ Lx;generalize e12:bn l 4 d.1.toNat fx.2=dx at *
  have hlen:dx.2.1=p+(kG x).length:=by
   simp only [kG,List.length_append,aD] at *;omega
  refine ⟨?_,by rw [<- hlen]; exact Jo,by rw [<- hlen]; exact xP⟩;simp only [gQ,e1,e2,e3,e4,e5,e6,e7,e8,e9,e10,e11,e12,a4,a5,a8,a9,Vg,Vh,a12];exact Prod.ext rfl (Prod.ext hlen b12)
def gu (l:List UInt8):Option Obj :=
 if (aF l 2 (0,false)).1=[76,75] then
  (if (gQ l (aF l 2 (0,false)).2).2=(l.length,false) then some (gQ l (aF l 2 (0,false)).2).1 else none)
 else none
theorem jT (l:List UInt8) (o:Obj):gu l=some o↔lI o/\l=kP o:=by
 unfold gu;constructor
 ·intro h;split at h
  ·rename_i hm;split at h
   ·rename_i hr;simp only [Option.some.injEq] at h;generalize ht:aF l 2 (0,false)=t at *;have f1:t.2.2=false:=(kQ l).back (by rw [hr]);obtain ⟨p1,d1,g1⟩:=(dU l 2).go (st:=(0,false)) (Nat.zero_le _) rfl (by rw [ht]; exact f1);rw [ht] at p1 d1 g1;obtain ⟨p2,d2,g2⟩:=(kQ l).go (st:=t.2) p1 f1 (by rw [hr]);rw [h] at d2 g2;rw [hr] at d2;rw [hm] at d1;simp only [List.drop_zero,List.drop_length,List.append_nil] at d1 d2;exact ⟨g2,by rw [vG,<- d2]; exact d1⟩
   ·simp at h
  ·simp at h
 ·rintro ⟨hg,hl⟩;have h0:l.drop 0=[76,75] ++ kG o:=by rw [hl,vG]; rfl
  obtain ⟨a1,b1,c1,p1,d1⟩:=(dU l 2).on (st:=(0,false)) (Nat.zero_le _) rfl (x:=[76,75]) (rest:=kG o) rfl h0;generalize ht:aF l 2 (0,false)=t at *;obtain ⟨a2,b2,c2,p2,d2⟩:=(kQ l).on (st:=t.2) p1 b1 (x:=o) (rest:=[]) hg (by simpa using d1);rw [if_pos a1];have hlen:(gQ l t.2).2.1=l.length:=by
   have h3:(l.drop (gQ l t.2).2.1).length=0:=by rw [d2]; rfl
   simp at h3;omega
  rw [if_pos (Prod.ext hlen b2),a2]
end Go.Proofs.YtelehpmjhjljgaaGreatDoor.Lk


namespace Go.Proofs.YtelehpmjhjljgaaGreatDoor
namespace As
def dB (n:Int) (low count:Nat):Nat:=((n / (2:Int) ^ low) % (2:Int) ^ count).toNat
def forms:List Nat:=[0,1,1,2,3,4,4,4,4,4,4,3,5,3,3,3,3,3,6,6,6,6,6,6,6,7]
def iT:List Nat:=[0,55,23,111,103,99,4195,16483,20579,24675,28771,8195,8227,19,8211,16403,24595,28691,51,1073741875,8243,12339,16435,24627,28723,115]
def place' (form:Nat) (n:Int):Nat :=
 if form=1 then dB n 0 20 * 4096
 else if form=2 then dB n 20 1 * 2147483648 ||| dB n 1 10 * 2097152 ||| dB n 11 1 * 1048576 ||| dB n 12 8 * 4096
 else if form=3 then dB n 0 12 * 1048576
 else if form=4 then dB n 12 1 * 2147483648 ||| dB n 5 6 * 33554432 ||| dB n 1 4 * 256 ||| dB n 11 1 * 128
 else if form=5 then dB n 5 7 * 33554432 ||| dB n 0 5 * 128
 else 0
def iE (form:Nat):Bool:=form == 1 || form == 2 || form == 3 || form == 6
def fV (form:Nat):Bool:=form == 3 || form == 4 || form == 5 || form == 6
def gN (form:Nat):Bool:=form == 4 || form == 5 || form == 6
def gH (form fixed:Nat) (rd dP fq:Nat) (n:Int):Nat :=
 let w0:=fixed ||| place' form n
 let w1:=if iE form then w0 ||| dB rd 0 5 * 128 else w0
 let w2:=if fV form then w1 ||| dB dP 0 5 * 32768 else w1
 if gN form then w2 ||| dB fq 0 5 * 1048576 else w2
def enc (op rd dP fq:Nat) (n:Int):Nat:=gH (forms.getD op 0) (iT.getD op 0) rd dP fq n
end As
end Go.Proofs.YtelehpmjhjljgaaGreatDoor

namespace Go.Proofs.YtelehpmjhjljgaaGreatDoor
namespace As
def bR (v:Int):Int:=if v % 4096 < 2048 then v % 4096 else v % 4096 - 4096
def dO (v:Int):Int:=(v - bR v) / 4096 % 1048576
end As
end Go.Proofs.YtelehpmjhjljgaaGreatDoor

namespace Go.Proofs.YtelehpmjhjljgaaGreatDoor
open Go.RowKit
theorem fD {P:Program} {md:Region.Mode} {ops:Array Oper} {Q:Exit->Act->World->Prop} {S:World->Prop} {i:Nat} {oi:Oper} {v:Value} {fuel:Nat} {listed:Array Bool} {a:Act} {w:World} (hi:ops[i]?=some oi) (hy:∀ w,S w->(execOp a.eval oi).run P w = .ok (.value v) w) (hS:S w) (h:wpAnyH P md ops Q S fuel (listed.setIfInBounds i true) (a.put oi.dst v) w) (hs:Region.noSelect ops=true:=by kernel_rfl) (hf:Region.free md ops listed i=true:=by kernel_rfl) (hr:(Region.ready md ops listed).contains i=true:=by kernel_rfl) (hw:Region.wanted oi (yielded ops a.tmps)=true:=by kernel_rfl) (hQ:∀ c a w,Q (.panic c) (a.put oi.dst v) w->Q (.panic c) a w:=by exact fun _ _ _ h=>h):wpAnyH P md ops Q S (fuel+1) listed a w:=wpAnyH_take hi hs hf hr hQ (Or.inl ⟨hw,hy⟩) hS h
theorem oU {P:Program} {md:Region.Mode} {ops:Array Oper} {Q:Exit->Act->World->Prop} {S:World->Prop} {i:Nat} {oi:Oper} {fuel:Nat} {listed:Array Bool} {a:Act} {w:World} (hi:ops[i]?=some oi) (hS:S w) (h:wpAnyH P md ops Q S fuel (listed.setIfInBounds i true) (a.put oi.dst undef) w) (hs:Region.noSelect ops=true:=by kernel_rfl) (hf:Region.free md ops listed i=true:=by kernel_rfl) (hr:(Region.ready md ops listed).contains i=true:=by kernel_rfl) (hw:Region.wanted oi (yielded ops a.tmps)=false:=by kernel_rfl) (hQ:∀ c a w,Q (.panic c) (a.put oi.dst undef) w->Q (.panic c) a w:=by exact fun _ _ _ h=>h):wpAnyH P md ops Q S (fuel+1) listed a w:=wpAnyH_take hi hs hf hr hQ (Or.inr ⟨hw,rfl⟩) hS h
theorem dK:type_of% @List.getElem?_cons_zero:=@List.getElem?_cons_zero
theorem dH:type_of% @List.getElem?_toArray:=@List.getElem?_toArray
theorem dL:type_of% @List.getElem?_cons_succ:=@List.getElem?_cons_succ
theorem fC:type_of% @List.set_cons_succ:=@List.set_cons_succ
theorem eX:type_of% @List.set_cons_zero:=@List.set_cons_zero
theorem fu:type_of% @List.setIfInBounds_toArray:=@List.setIfInBounds_toArray
theorem aH:type_of% @Go.World.grownBy_alloc:=@Go.World.grownBy_alloc
theorem fE:type_of% @List.length_append:=@List.length_append
theorem dM:type_of% @List.getElem_mem:=@List.getElem_mem
theorem gL:type_of% @List.length_cons:=@List.length_cons
theorem gy:type_of% @List.getElem?_eq_getElem:=@List.getElem?_eq_getElem
theorem jg:type_of% @List.drop_eq_getElem_cons:=@List.drop_eq_getElem_cons
theorem jc:type_of% @List.length_map:=@List.length_map
theorem kT:type_of% @List.getElem_cons_succ:=@List.getElem_cons_succ
theorem kI:type_of% @List.getElem_cons_zero:=@List.getElem_cons_zero
theorem mh:type_of% @List.getElem_toArray:=@List.getElem_toArray
theorem iJ:type_of% @List.getD_eq_getElem?_getD:=@List.getD_eq_getElem?_getD
theorem o7:type_of% @List.length_singleton:=@List.length_singleton
def Hd (p:Prop):Prop:=p
theorem Hd.o {p:Prop} (h:Hd p):p:=h
def sl (s:ByteArray):List UInt8:=s.data.toList
def bs (l:List UInt8):ByteArray:=⟨l.toArray⟩
theorem rz (s:ByteArray):(sl s).length=s.size:=by unfold sl; rw [Array.length_toList]; rfl
theorem uY (l:List UInt8):(bs l).size=l.length:=by simp [bs,ByteArray.size]
theorem Df (l:List UInt8):sl (bs l)=l:=by simp [sl,bs]
theorem Zz (s:ByteArray):bs (sl s)=s:=by simp [sl,bs]
theorem Rj (s:ByteArray) (a b:Nat):s.extract a b=bs (((sl s).drop a).take (b - a)):=Lib.extract_eq s a b
theorem oJ {k:IntKind} {a b:Int} (h:a=b):Ending.returned (.int k a) = .returned (.int k b):=by rw [h]
theorem EM {a b:ByteArray} (h:a=b):Ending.returned (.string a) = .returned (.string b):=by rw [h]
theorem hid {p:Prop} (h:p):Hd p:=h
theorem yU {P:Program} {ops:Array Oper} {Q:Exit->Act->World->Prop} {md:Region.Mode} {S:World->Prop} {oi:Oper} {v:Value} {fuel:Nat} {listed:Array Bool} {a:Act} {w:World} (hi:ops[ops.size - (fuel+1)]?=some oi)
  (hc:(Region.noSelect ops && (Region.free md ops listed (ops.size - (fuel+1)) && ((Region.ready md ops listed).contains (ops.size - (fuel+1)) && Region.wanted oi (yielded ops a.tmps))))=true)
  (hQ:∀ c a w,Q (.panic c) (a.put oi.dst v) w->Q (.panic c) a w) (hS:S w) (hv:∀ w,S w->(execOp a.eval oi).run P w = .ok (.value v) w)
  (h:wpAnyH P md ops Q S fuel (listed.setIfInBounds (ops.size - (fuel+1)) true) (a.put oi.dst v) w):wpAnyH P md ops Q S (fuel+1) listed a w:=by
 simp only [Bool.and_eq_true] at hc;exact wpAnyH_take hi hc.1 hc.2.1 hc.2.2.1 hQ (Or.inl ⟨hc.2.2.2,hv⟩) hS h
theorem ya {a b c:World} {row:Option Nat} (h:a.grownBy b row) (k:b.grownBy c row):a.grownBy c row :=
 ⟨k.os.trans h.os,k.tape.trans h.tape,k.output.trans h.output,Nat.le_trans h.size k.size,fun i hi hr=>(k.block i (Nat.lt_of_lt_of_le hi h.size) hr).trans (h.block i hi hr)⟩
theorem yd {a b:World} {row:Option Nat} (h:a.grownBy b row) (n:Nat):a.grownBy (b.drewN n) row:=by
 induction n with
 | zero=>exact h
 | succ n ih=>exact ⟨ih.os,ih.tape,ih.output,ih.size,ih.block⟩
theorem yi (w:World) (b o:Nat) (v:Value):w.grownBy (w.setCell ⟨b,o,none⟩ v) (some b) :=
 ⟨rfl,rfl,rfl,by simp [World.setCell],fun k _ hr=>Below.heap_setCell _ _ _ _ (by simpa using hr)⟩
theorem XB (w:World) (n:Nat):(w.drewN n).heap=w.heap:=by
 induction n with
 | zero=>rfl
 | succ n ih=>exact ih
def bC (w:World) (b:Nat) (s:ByteArray) (p:Nat) (sh:Bool):Prop :=
 w.heap[b]?=some (.cells #[.string s,.int .i64 p,.bool sh] 173 (0,0))
theorem bC.lt {w:World} {b:Nat} {s:ByteArray} {p:Nat} {sh:Bool} (h:bC w b s p sh):b < w.heap.size:=(Array.getElem?_eq_some_iff.1 h).1
theorem bC.c0 {w:World} {b:Nat} {s:ByteArray} {p:Nat} {sh:Bool} (h:bC w b s p sh):w.cell? ⟨b,0,none⟩=some (.string s):=by simp [World.cell?,show w.heap[b]?=_ from h]
theorem bC.c1 {w:World} {b:Nat} {s:ByteArray} {p:Nat} {sh:Bool} (h:bC w b s p sh):w.cell? ⟨b,1,none⟩=some (.int .i64 p):=by simp [World.cell?,show w.heap[b]?=_ from h]
theorem bC.c2 {w:World} {b:Nat} {s:ByteArray} {p:Nat} {sh:Bool} (h:bC w b s p sh):w.cell? ⟨b,2,none⟩=some (.bool sh):=by simp [World.cell?,show w.heap[b]?=_ from h]
theorem bC.free {w:World} {b:Nat} {s:ByteArray} {p:Nat} {sh:Bool} (h:bC w b s p sh) (o:Nat):w.frozen? ⟨b,o,none⟩=false:=by simp [World.frozen?,show w.heap[b]?=_ from h]
theorem bC.grown {w w':World} {b:Nat} {s:ByteArray} {p:Nat} {sh:Bool} (h:bC w b s p sh) {row:Option Nat} (hg:w.grownBy w' row) (hne:some b≠row):bC w' b s p sh :=
 (hg.block b h.lt hne).trans h
theorem bC.drewN {w:World} {b:Nat} {s:ByteArray} {p:Nat} {sh:Bool} (h:bC w b s p sh) (n:Nat):bC (w.drewN n) b s p sh:=by
 unfold bC; rw [XB]; exact h
theorem QC {w:World} {b o:Nat} {cs:Array Value} {t:TypeId} (h:w.heap[b]?=some (.cells cs t (0,0))) (v:Value) :
  (w.setCell ⟨b,o,none⟩ v).heap[b]?=some (.cells (cs.setIfInBounds o v) t (0,0)):=by
 simp [World.setCell,Array.getElem?_modify,h]
theorem bC.set1 {w:World} {b:Nat} {s:ByteArray} {p:Nat} {sh:Bool} (h:bC w b s p sh) (q:Nat):bC (w.setCell ⟨b,1,none⟩ (.int .i64 q)) b s q sh:=by
 have:=QC (o:=1) h (.int .i64 q)
 simpa [bC] using this
theorem bC.set2 {w:World} {b:Nat} {s:ByteArray} {p:Nat} {sh:Bool} (h:bC w b s p sh) (q:Bool):bC (w.setCell ⟨b,2,none⟩ (.bool q)) b s p q:=by
 have:=QC (o:=2) h (.bool q)
 simpa [bC] using this
theorem MB (b:Nat) (s:ByteArray) (p:Nat) (sh:Bool) (w:World) (h:bC w b s p sh) :
  Calls Tryz.prog 134 #[.pointer (some ⟨b,0,none⟩)] w fun e w'=>e = .returned (.bool sh)/\w'=w:=by
 have h2:=h.c2;clear h;go_enter Tryz.func134,Tryz.ntmps134;go_wp2;go_ret;exact ⟨rfl,rfl⟩
theorem Yp (b:Nat) (s:ByteArray) (p:Nat) (sh:Bool) (w:World) (h:bC w b s p sh) :
  Calls Tryz.prog 97 #[.pointer (some ⟨b,0,none⟩)] w fun e w'=>e = .returned (.bool (!sh && decide (p=s.size)))/\∃ k,w'=w.drewN k:=by
 have h0:=h.c0;have h1:=h.c1;have h2:=h.c2;clear h
 cases sh
 ·go_enter Tryz.func97,Tryz.ntmps97;go_wp2
  go_quiet (fail)
  go_wp2;go_ret;refine ⟨?_,_,rfl⟩
  have:((p:Int) == (s.size:Int))=decide (p=s.size):=by rw [Bool.eq_iff_iff]; simp; omega
  simp [this]
 ·go_enter Tryz.func97,Tryz.ntmps97;go_wp2
  go_quiet (fail)
  go_wp2;go_ret;exact ⟨rfl,_,rfl⟩
theorem ynT (b:Nat) (s:ByteArray) (p n:Nat) (sh:Bool) (w:World) (h:bC w b s p sh)
  (hs:s.size<=1048576) (hp:p<=s.size) (hn:n<=s.size - p) :
  Calls Tryz.prog 99 #[.pointer (some ⟨b,0,none⟩),.int .i64 n] w fun e w'=>e = .returned (.string (bs (Lk.aF (sl s) n (p,sh)).1))/\bC w' b s (Lk.aF (sl s) n (p,sh)).2.1 (Lk.aF (sl s) n (p,sh)).2.2/\w.grownBy w' (some b):=by
 have e1:Lk.aF (sl s) n (p,sh)=(((sl s).drop p).take n,(p+n,sh)):=by
  unfold Lk.aF; rw [if_pos (by rw [rz]; exact hn)]
 rw [e1];clear e1;have h0:=h.c0;have h1:=h.c1;have f1:=h.free 1;have R:Hd (bC w b s p sh):=h;clear h;have g1:(0:Int)<=n:=by omega
 have g2:(n:Int)<=(s.size:Int) - p:=by omega
 have g3:(p:Int)+n<=s.size:=by omega
 have hd:decide ((n:Int) < 0)=false:=by simp
 go_enter Tryz.func99,Tryz.ntmps99;go_wp2
 go_quiet (fail)
 go_wp2
 go_quiet (fail)
 go_wp2;go_ret;refine ⟨EM ?_,?_,?_⟩
 ·rw [Rj,Nat.add_sub_cancel_left]
 ·exact ((R.o.drewN _).set1 (p+n)).drewN _
 ·exact yd (ya (yd (World.grownBy.refl _ _) _) (yi _ _ _ _)) _
theorem yoD (b:Nat) (s:ByteArray) (p n:Nat) (sh:Bool) (w:World) (h:bC w b s p sh)
  (_hs:s.size<=1048576) (_hp:p<=s.size) (_hm:n<=1048576) (hn:s.size - p < n) :
  Calls Tryz.prog 99 #[.pointer (some ⟨b,0,none⟩),.int .i64 n] w fun e w'=>e = .returned (.string (bs (Lk.aF (sl s) n (p,sh)).1))/\bC w' b s (Lk.aF (sl s) n (p,sh)).2.1 (Lk.aF (sl s) n (p,sh)).2.2/\w.grownBy w' (some b):=by
 have e1:Lk.aF (sl s) n (p,sh)=([],(p,true)):=by
  unfold Lk.aF; rw [if_neg (by rw [rz]; omega)]
 rw [e1];clear e1;have h0:=h.c0;have h1:=h.c1;have h2:=h.c2;have f2:=h.free 2;have R:Hd (bC w b s p sh):=h;clear h;have g1:(0:Int)<=n:=by omega
 have g2:(s.size:Int) - p < n:=by omega
 have hd:decide ((n:Int) < 0)=false:=by simp
 go_enter Tryz.func99,Tryz.ntmps99;go_wp2
 go_quiet (fail)
 go_wp2;go_ret;refine ⟨rfl,?_,?_⟩
 ·exact (R.o.drewN _).set2 true
 ·exact ya (yd (World.grownBy.refl _ _) _) (yi _ _ _ _)
theorem YH (b:Nat) (s:ByteArray) (p n:Nat) (sh:Bool) (w:World) (h:bC w b s p sh)
  (hs:s.size<=1048576) (hp:p<=s.size) (hm:n<=1048576) :
  Calls Tryz.prog 99 #[.pointer (some ⟨b,0,none⟩),.int .i64 n] w fun e w'=>e = .returned (.string (bs (Lk.aF (sl s) n (p,sh)).1))/\bC w' b s (Lk.aF (sl s) n (p,sh)).2.1 (Lk.aF (sl s) n (p,sh)).2.2/\w.grownBy w' (some b):=by
 by_cases hn:n<=s.size - p
 ·exact ynT b s p n sh w h hs hp hn
 ·exact yoD b s p n sh w h hs hp hm (by omega)
theorem yip (l:List UInt8) (k:Nat) (hk:k < l.length):Lk.num (l.take (k+1))=Lk.num (l.take k)+(l[k].toNat:Int) * (256:Int) ^ k:=by
 rw [List.take_succ_eq_append_getElem hk,Lk.uG,List.length_take_of_le (by omega)];simp [Lk.num,Int.mul_comm]
theorem Nl (k:Nat) (h:k<=4):1<=(256:Int) ^ k/\(256:Int) ^ k<=4294967296:=by
 rcases (show k=0\/k=1\/k=2\/k=3\/k=4 from by omega) with rfl | rfl | rfl | rfl | rfl <;> decide
theorem ynv (part:List UInt8) (k:Nat) (hk:k < part.length) (h4:part.length<=4) (h':k < (bs part).size) :
  wrap64 (Lk.num (part.take k)+wrap64 (wrap64 (((bs part)[k]'h').toNat:Int) * (256:Int) ^ k))=Lk.num (part.take (k+1)):=by
 have b1:=Lk.num_nonneg (part.take k);have b2:=Lk.oC (part.take k);rw [List.length_take_of_le (by omega)] at b2;have b3:=Nl k (by omega);have hts:=yip part k hk;have e0:(((bs part)[k]'h').toNat:Int)=((part[k]'hk).toNat:Int):=rfl;have hb:((part[k]'hk).toNat:Int) < 256:=by have:=(part[k]'hk).toNat_lt; omega
 rw [e0];generalize hc:((part[k]'hk).toNat:Int)=c at hb hts;have hb0:(0:Int)<=c:=by omega
 have m1:c * (256:Int) ^ k<=255 * 4294967296:=Int.mul_le_mul (by omega) b3.2 (by omega) (by omega);have m0:(0:Int)<=c * (256:Int) ^ k:=Int.mul_nonneg hb0 (by omega);rw [IntWalk.wrap64_in c ⟨by omega,by omega⟩,IntWalk.wrap64_in (c * (256:Int) ^ k) ⟨by omega,by omega⟩,IntWalk.wrap64_in _ ⟨by omega,by omega⟩,hts]
theorem Yc (b:Nat) (s:ByteArray) (p n:Nat) (sh:Bool) (w:World) (h:bC w b s p sh)
  (hs:s.size<=1048576) (hp:p<=s.size) (hm:n<=4) :
  Calls Tryz.prog 100 #[.pointer (some ⟨b,0,none⟩),.int .i64 n] w fun e w'=>e = .returned (.int .i64 (Lk.rdNum (sl s) n (p,sh)).1)/\bC w' b s (Lk.rdNum (sl s) n (p,sh)).2.1 (Lk.rdNum (sl s) n (p,sh)).2.2/\w.grownBy w' (some b):=by
 have c:=YH b s p n sh w h hs hp (by omega);unfold Lk.rdNum;have hl:(Lk.aF (sl s) n (p,sh)).1.length<=4:=by
  unfold Lk.aF;split
  ·simp; omega
  ·simp
 generalize Lk.aF (sl s) n (p,sh)=r at c hl;obtain ⟨part,st⟩:=r;simp only at c hl ⊢;clear h;have C:=hid c;clear c;go_enter Tryz.func100,Tryz.ntmps100;go_wp2_with fail;refine C.o.mono ?_;rintro e w' ⟨rfl,hr,hg⟩;have R:Hd (bC w' b s st.1 st.2/\w.grownBy w' (some b)):=⟨hr,hg⟩
 clear hr hg C;go_wp2_with fail;have hz:=uY part
 go_loop [6,7,8] (fun t u i=>∃ k:Nat,k<=part.length/\i = .int .i64 k/\u = .int .i64 ((256:Int) ^ k)/\t = .int .i64 (Lk.num (part.take k))) (fun _ _ i=>part.length - (intOf i).toNat)
 case atStart=>exact ⟨0,Nat.zero_le _,rfl,rfl,rfl⟩
 case round =>
  obtain ⟨k,hk,rfl,rfl,rfl⟩:=hrel;have b1:=Lk.num_nonneg (part.take k);have b2:=Lk.oC (part.take k);rw [List.length_take_of_le hk] at b2;have b3:=Nl k (by omega);by_cases hlt:k < part.length
  ·have hlt':k < (bs part).size:=by omega
   go_wp2
   go_round
   case rel=>exact ⟨k+1,by omega,by go_num,by rw [Int.pow_succ],by rw [ynv part k hlt hl]⟩
   case measure=>simp [intOf]; omega
  ·go_wp2;go_ret;exact ⟨oJ (by rw [List.take_of_length_le (by omega)]),R.o.1,R.o.2⟩
theorem Tryz.fP:(Tryz.prog.info? 3).map (fun i=>(i.zero,i.size,i.bytes))=some (some (.int .i64 0),1,8):=by kernel_rfl
theorem Tryz.vF:(Tryz.prog.info? 77).map (fun i=>(i.zero,i.size,i.bytes))=some (some (.agg #[.string ⟨#[]⟩,.int .i64 0,.int .i64 0,.int .i64 0]),4,40):=by kernel_rfl
theorem Tryz.vE:(Tryz.prog.info? 83).map (fun i=>(i.zero,i.size,i.bytes))=some (some (.agg #[.int .i64 0,.int .i64 0,.int .i64 0,.int .i64 0,.int .i64 0]),5,40):=by kernel_rfl
theorem Gg (l:List UInt8) (n:Nat) (st:Lk.St) (h:st.1<=l.length):(Lk.aF l n st).2.1<=l.length:=by
 unfold Lk.aF; split <;> simp <;> omega
theorem nk (l:List UInt8) (n:Nat) (st:Lk.St) (h:st.1<=l.length):(Lk.rdNum l n st).2.1<=l.length:=Gg l n st h
theorem BU {w wr w1:World} {b:Nat} {row:Option Nat} (h:w.grownBy wr (some b)) (k:wr.grownBy w1 row) (hr:∀ g,row=some g->w.heap.size<=g):w.grownBy w1 (some b) :=
 ⟨k.os.trans h.os,k.tape.trans h.tape,k.output.trans h.output,Nat.le_trans h.size k.size,fun i hi hn =>
  (k.block i (Nat.lt_of_lt_of_le hi h.size) (fun e=>by have:=hr i e.symm; omega)).trans (h.block i hi hn)⟩
theorem Y5 {w wr w1:World} {o:Obj} {b:Nat} {s:ByteArray} {p:Nat} {sh:Bool} {row:Option Nat} (hb:b < w.heap.size) (hg:w.grownBy wr (some b)) (hr:bC wr b s p sh) (hk:(wr.alloc o).grownBy w1 row) (hrow:∀ g,row=some g->w.heap.size<=g) :
  bC w1 b s p sh/\w.grownBy w1 (some b):=by
 have h1:wr.grownBy (wr.alloc o) none:=aH wr o none;refine ⟨(hr.grown h1 (by simp)).grown hk (fun e=>by have:=hrow b e.symm; omega),?_⟩;exact BU (BU hg h1 (by simp)) hk hrow
theorem EU {w w':World} {base:Nat} {e:TypeId} {size:Nat} {v:Value} {n:Nat} {xs:List Value} {b:Nat} (h:w.ownsRow base e size v n xs) (hb:b < base) (hg:w.grownBy w' (some b)):w'.ownsRow base e size v n xs :=
 h.kept hg (by
  cases hv:v.ownBlock with
  | none=>exact .inl rfl
  | some g=>right; have:=(h.lt g hv).1; simp; omega)
theorem ykm (l:List UInt8) (n:Nat) (st:Lk.St) (h:n<=4):0<=(Lk.rdNum l n st).1/\(Lk.rdNum l n st).1 < 4294967296:=by
 unfold Lk.rdNum;have h1:=Lk.num_nonneg (Lk.aF l n st).1;have h2:=Lk.oC (Lk.aF l n st).1;have hl:(Lk.aF l n st).1.length<=4:=by
  unfold Lk.aF;split
  ·simp; omega
  ·simp
 have:=Nl _ hl
 exact ⟨h1,by omega⟩
theorem yhg (b:Nat) (s:ByteArray) (p count size:Nat) (sh:Bool) (w:World) (h:bC w b s p sh)
  (hs:s.size<=1048576) (hp:p<=s.size) (hc:count<=65535) (hm:size<=4) :
  Calls Tryz.prog 118 #[.pointer (some ⟨b,0,none⟩),.int .i64 count,.int .i64 size] w fun e w'=>∃ v,e = .returned v /\
   w'.ownsRow w.heap.size 3 1 v (Lk.bn (sl s) size count (p,sh)).1.length ((Lk.bn (sl s) size count (p,sh)).1.map (Value.int .i64)) /\
   bC w' b s (Lk.bn (sl s) size count (p,sh)).2.1 (Lk.bn (sl s) size count (p,sh)).2.2/\w.grownBy w' (some b):=by
 obtain ⟨i0,hi,hz0,hz1,hz2⟩:=info_parts Tryz.fP;have hb:=h.lt;have H:=hid h;clear h;go_enter Tryz.func118,Tryz.ntmps118;go_wp2_with fail
 go_loopw [7,8] (fun v i wr=>∃ (k:Nat) (acc:List Int) (st:Lk.St),k<=count/\i = .int .i64 k/\acc.length=k/\st.1<=s.size /\
   wr.ownsRow w.heap.size 3 1 v acc.length (acc.map (Value.int .i64))/\bC wr b s st.1 st.2/\w.grownBy wr (some b) /\
   Lk.bn (sl s) size count (p,sh)=(acc ++ (Lk.bn (sl s) size (count - k) st).1,(Lk.bn (sl s) size (count - k) st).2)) (fun _ i _=>count - (intOf i).toNat)
 case atStart=>exact ⟨0,[],(p,sh),Nat.zero_le _,rfl,rfl,hp,World.ownsRow_nil _ _ _ _,H.o,World.grownBy.refl _ _,by simp⟩
 case round =>
  obtain ⟨k,acc,st,hk,rfl,hacc,hst,hown,hrd,hgr,heq⟩:=hrel;have HE:=hid heq;have HA:=hid hacc;clear heq;by_cases hlt:k < count
  ·cases hsh:st.2
   ·rw [hsh] at hrd;have hsu:count - k=(count - (k+1))+1:=by omega
    have hnb:=ykm (sl s) size (st.1,false) hm;have hle:=nk (sl s) size (st.1,false) (by rw [rz]; exact hst);have cN:=hid (Yc b s st.1 size false wr hrd hs hst hm);have HN:=hid (show Lk.bn (sl s) size (count - k) st=((Lk.rdNum (sl s) size (st.1,false)).1 :: (Lk.bn (sl s) size (count - (k+1)) (Lk.rdNum (sl s) size (st.1,false)).2).1,(Lk.bn (sl s) size (count - (k+1)) (Lk.rdNum (sl s) size (st.1,false)).2).2) from by
     rw [hsu];have e:st=(st.1,false):=Prod.ext rfl hsh;rw [e]; rfl)
    rw [rz] at hle;clear hsu hsh;generalize Lk.rdNum (sl s) size (st.1,false)=r at *;obtain ⟨x,st'⟩:=r;simp only at cN HN hnb hle;have k2:=hrd.c2;have HR:=hid hrd;clear hrd;have zD:acc.length<=65535:=by omega
    go_wp2_with fail;refine cN.o.mono ?_;rintro e w2 ⟨rfl,sD,dN⟩;have hown2:=EU hown hb dN;have jK:=ya hgr dN;have HR2:=hid sD;have HG2:=hid jK;have hsz:=jK.size;clear sD dN jK hown hgr HR k2 cN;go_wp2_with (at_builtin; refine wpList_append_own _ rfl _ _ 35 rfl w.heap.size 3 i0 (.int .i64 0) 1 8 Tryz.underlying35 hi hz0 hz1 hz2 rfl (by decide) _ _ _ rfl (hown2.alloc _) ⟨w2.heap.size,0,none⟩ 1 1 [.int .i64 x] rfl rfl (cell_one_new _ _ _) (by intro u hu; simp at hu; subst hu; rfl) (by unfold maxLen; omega) (by omega) (by simp; omega) ?_; intro v' w3 hown' hgrow _)
    have K:=Y5 hb HG2.o HR2.o hgrow (fun g hg=>(hown2.lt g hg).1);clear hgrow hown2;go_wp2
    go_roundw
    case rel =>
     refine ⟨k+1,acc ++ [x],st',by omega,by go_num,by simp [HA.o],hle,?_,K.1,K.2,?_⟩
     ·simpa using hown'
     ·rw [HE.o,HN.o]; simp
    case measure=>simp [intOf]; omega
   ·rw [hsh] at hrd;have hfin:Lk.bn (sl s) size count (p,sh)=(acc,(st.1,true)):=by
     have hsu:count - k=(count - (k+1))+1:=by omega
     rw [HE.o,hsu];have e:st=(st.1,true):=Prod.ext rfl hsh;rw [e];simp [Lk.bn]
    have HF:=hid hfin;clear hfin hsh HE;have k2:=hrd.c2;have HR:=hid hrd;clear hrd;go_wp2;go_ret;rw [HF.o];exact ⟨_,rfl,hown,HR.o,hgr⟩
  ·have hfin:Lk.bn (sl s) size count (p,sh)=(acc,st):=by
    have hsu:count - k=0:=by omega
    rw [HE.o,hsu];simp [Lk.bn]
   have HF:=hid hfin;clear hfin HE;have HR:=hid hrd;clear hrd;have hd:decide ((k:Int) < (count:Int))=false:=by simp; omega
   go_wp2;go_ret;rw [HF.o];exact ⟨_,rfl,hown,HR.o,hgr⟩
end Go.Proofs.YtelehpmjhjljgaaGreatDoor
