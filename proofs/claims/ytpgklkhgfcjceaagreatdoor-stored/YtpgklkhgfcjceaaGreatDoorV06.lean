
import Derived.Test.YtpgklkhgfcjceaaGreatDoorV05
set_option maxHeartbeats 16000000
set_option maxRecDepth 100000
namespace Go.Proofs.YtpgklkhgfcjceaaGreatDoor
open Go.RowKit
namespace Ln
structure gM where
 mod:Option Nat
 ah:Int
 off:Int
structure Mod where
 obj:Lk.Obj
 means:List gM
 short:List Bool
 text:List Int
 far:List Int
 data:Int
 bss:Int
def none_:gM:=⟨none,0,0⟩
def defines (y:Lk.Sym):Bool:=!decide (y.bind=0) && !decide (y.ah=0)
def wanted (y:Lk.Sym):Bool:=decide (y.bind=1) && decide (y.ah=0)
def wants (os:List Lk.Obj) (n:List UInt8):Bool:=os.any fun o=>o.syms.any fun y=>decide (y.name=n) && wanted y
def has (os:List Lk.Obj) (n:List UInt8):Bool:=os.any fun o=>o.syms.any fun y=>decide (y.name=n) && defines y
def needs (os:List Lk.Obj) (o:Lk.Obj):Bool:=o.syms.any fun y=>defines y && (wants os y.name && !has os y.name)
def gP (n:List UInt8) (bind:Int):List Lk.Sym->Option (Int×Int)
 | []=>none
 | y :: ys=>if y.name=n/\y.bind=bind/\y.ah≠0 then some (y.ah,y.off) else gP n bind ys
def findAt (n:List UInt8) (bind:Int):Nat->List Lk.Obj->gM
 | _,[]=>none_
 | i,o :: os=>match gP n bind o.syms with
  | some (s,f)=>⟨some i,s,f⟩
  | none=>findAt n bind (i+1) os
def find (os:List Lk.Obj) (n:List UInt8) (bind:Int):gM:=findAt n bind 0 os
def named (os:List Lk.Obj) (n:List UInt8):gM:=if (find os n 1).mod.isSome then find os n 1 else find os n 2
def meaning (os:List Lk.Obj) (i:Nat) (y:Lk.Sym):gM:=if y.bind=0 then ⟨some i,y.ah,y.off⟩ else named os y.name
structure qN where
 e:Int
 at_:Int
 name:List UInt8
def ok:qN:=⟨0,0,[]⟩
def dU (os:List Lk.Obj) (i:Nat):List Lk.Sym->Option qN
 | []=>none
 | y :: ys=>if y.bind≠1\/y.ah=0 then dU os i ys else if (find (os.take i) y.name 1).mod.isSome then some ⟨33,i,y.name⟩ else dU os i ys
def mJ (os:List Lk.Obj):Nat->List Lk.Obj->qN
 | _,[]=>ok
 | i,o :: r=>match dU os i o.syms with
  | some f=>f
  | none=>mJ os (i+1) r
def iK (os:List Lk.Obj):qN:=mJ os 0 os
def dJ (os:List Lk.Obj) (i:Nat):List Lk.Sym->Option qN
 | []=>none
 | y :: ys=>if wanted y=false then dJ os i ys else if (named os y.name).mod.isSome then dJ os i ys else some ⟨34,i,y.name⟩
def wantedAt (os:List Lk.Obj):Nat->List Lk.Obj->qN
 | _,[]=>ok
 | i,o :: r=>match dJ os i o.syms with
  | some f=>f
  | none=>wantedAt os (i+1) r
def fT (os:List Lk.Obj):qN:=wantedAt os 0 os
def pass:List (Lk.Obj×Bool)->List Lk.Obj->List (Lk.Obj×Bool)×List Lk.Obj×Bool
 | [],os=>([],os,false)
 | (o,t) :: r,os=>if t=false/\needs os o=true then ((o,true) :: (pass r (os ++ [o])).1,(pass r (os ++ [o])).2.1,true) else ((o,t) :: (pass r os).1,(pass r os).2.1,(pass r os).2.2)
def gF:Nat->List (Lk.Obj×Bool)->List Lk.Obj->List Lk.Obj
 | 0,_,os=>os
 | k+1,ms,os=>if (pass ms os).2.2=true then gF k (pass ms os).1 (pass ms os).2.1 else (pass ms os).2.1
def aR (ah off:Int):Nat->List Lk.Rel->Int×Lk.Rel
 | _,[]=>(0,⟨0,0,0,0,0⟩)
 | i,r :: rs=>if r.ah=ah/\r.off<=off/\off < r.off+4 * nX r then (i,r) else aR ah off (i+1) rs
def iW (sh:List Bool) (i:Int):Bool:=decide (0<=i) && sh.getD i.toNat false
def rup (a b:Int):Int:=bits .andNot .i64 (a+b - 1) (b - 1)
def stays (m:Mod) (ah off at_:Int):Bool :=
 if (aR ah off 0 m.obj.aj).2.kind=6 then !decide (rup at_ ((aR ah off 0 m.obj.aj).2.addend+4)=at_)
 else if (aR ah off 0 m.obj.aj).2.kind=4 then decide (off=(aR ah off 0 m.obj.aj).2.off) || !iW m.short (aR ah off 0 m.obj.aj).1
 else true
def bD (m:Mod) (ah:Int):Nat->List Int->Int->List Int
 | _,[],at_=>[at_]
 | i,_ :: ws,at_=>at_ :: bD m ah (i+1) ws (if stays m ah (4 * i) at_ then at_+4 else at_)
def eB (m:Mod) (ah:Int):Nat->List Int->Int->Int
 | _,[],at_=>at_
 | i,_ :: ws,at_=>eB m ah (i+1) ws (if stays m ah (4 * i) at_ then at_+4 else at_)
def aI (o:Lk.Obj) (ah:Nat):Int:=xJ (o.align.getD (ah - 1) 0)
def begin_ (m:Mod) (ah:Nat) (from_:Int):Int:=rup from_ (aI m.obj ah)
def dD (m:Mod) (ah:Nat) (from_:Int):Int:=eB m ah 0 (yx m.obj ah) (begin_ m ah from_)
def aZ (m:Mod) (ah:Nat) (from_:Int):List Int:=bD m ah 0 (yx m.obj ah) (begin_ m ah from_)
def bH (m:Mod) (t f d:Int):Mod:={ m with text:=aZ m 1 t,far:=aZ m 2 f,data:=rup d (aI m.obj 3) }
def dw:List Mod->Int->Int->Int->List Mod
 | [],_,_,_=>[]
 | m :: ms,t,f,d=>bH m t f d :: dw ms (dD m 1 t) (dD m 2 f) (rup d (aI m.obj 3)+4 * m.obj.data.length)
def dS:List Mod->Int->Int
 | [],d=>d
 | m :: ms,d=>dS ms (rup d (aI m.obj 3)+4 * m.obj.data.length)
def eP:List Mod->Int->List Mod
 | [],_=>[]
 | m :: ms,b=>{ m with bss:=rup b (aI m.obj 4) } :: eP ms (rup b (aI m.obj 4)+4 * m.obj.bss)
def iJ:List Mod->Int->Int
 | [],b=>b
 | m :: ms,b=>iJ ms (rup b (aI m.obj 4)+4 * m.obj.bss)
def lay (t f d:Int) (ms:List Mod):List Mod:=eP (dw ms t f d) (dS ms d)
def noughts (d:Int) (ms:List Mod):Int:=(iJ ms (dS ms d) - dS ms d) / 4
def placeOf (ps:List Int) (off:Int):Int:=if off.tdiv 4 < 0 then 0 else ps.getD (off.tdiv 4).toNat 0
def address (m:Mod) (ah off:Int):Int :=
 if ah=1 then placeOf m.text off else if ah=2 then placeOf m.far off else if ah=3 then m.data+off else if ah=4 then m.bss+off else 0
def cZ (ms:List Mod) (s:gM):Int:=match s.mod with
 | none=>0
 | some i=>match ms[i]? with
  | none=>0
  | some m=>address m s.ah s.off
def target (ms:List Mod) (m:Mod) (r:Lk.Rel):Int:=if r.sym < 0\/(m.means.length:Int)<=r.sym then 0 else cZ ms (m.means.getD r.sym.toNat none_)
def distance (ms:List Mod) (m:Mod) (r:Lk.Rel):Int:=target ms m r - address m r.ah r.off
def dH (ms:List Mod) (m:Mod) (r:Lk.Rel):Bool:=decide (r.kind=4) && (decide (-1015808 < distance ms m r) && decide (distance ms m r < 1015808))
def shorten (ms:List Mod):List Mod:=ms.map fun m=>{ m with short:=m.obj.aj.map (dH ms m) }
def layout (t f d:Int) (ms:List Mod):List Mod:=lay t f d (shorten (lay t f d ms))
end Ln
def yR (n:Int):Prop:=n % 128=99/\(n / 4096 % 8=0\/n / 4096 % 8=1\/n / 4096 % 8=4\/n / 4096 % 8=5\/n / 4096 % 8=6\/n / 4096 % 8=7)/\n / 33554432=0/\n / 128 % 32=0
def iP (n:Int):Prop:=n % 128=111/\n / 4096=0
def yY (Sk n:Int):Prop:=n % 128=Sk/\n / 4096=0
def yW (Sk f n:Int):Prop:=n % 128=Sk/\n / 4096 % 8=f/\n / 1048576=0
def nV (n:Int):Prop:=n % 128=35/\n / 4096 % 8=2/\n / 33554432=0/\n / 128 % 32=0
theorem Fx (n:Int) (h0:0<=n) (h1:n<=4294967295):Is 1 n↔n % 128=55:=by
 show bits .and .i64 n 127=55↔_;rw [UE n h0 h1]
theorem Jf (n:Int) (h0:0<=n) (h1:n<=4294967295):Is 2 n↔n % 128=23:=by
 show bits .and .i64 n 127=23↔_;rw [UE n h0 h1]
theorem Jg (n:Int) (h0:0<=n) (h1:n<=4294967295):Is 3 n↔n % 128=111:=by
 show bits .and .i64 n 127=111↔_;rw [UE n h0 h1]
theorem Jh (n:Int) (h0:0<=n) (h1:n<=4294967295):Is 4 n↔n % 128+4096 * (n / 4096 % 8)=103:=by
 show bits .and .i64 n 28799=103↔_;rw [zm n h0 h1]
theorem Ji (n:Int) (h0:0<=n) (h1:n<=4294967295):Is 5 n↔n % 128+4096 * (n / 4096 % 8)=99:=by
 show bits .and .i64 n 28799=99↔_;rw [zm n h0 h1]
theorem Jj (n:Int) (h0:0<=n) (h1:n<=4294967295):Is 6 n↔n % 128+4096 * (n / 4096 % 8)=4195:=by
 show bits .and .i64 n 28799=4195↔_;rw [zm n h0 h1]
theorem Jk (n:Int) (h0:0<=n) (h1:n<=4294967295):Is 7 n↔n % 128+4096 * (n / 4096 % 8)=16483:=by
 show bits .and .i64 n 28799=16483↔_;rw [zm n h0 h1]
theorem Jl (n:Int) (h0:0<=n) (h1:n<=4294967295):Is 8 n↔n % 128+4096 * (n / 4096 % 8)=20579:=by
 show bits .and .i64 n 28799=20579↔_;rw [zm n h0 h1]
theorem Jm (n:Int) (h0:0<=n) (h1:n<=4294967295):Is 9 n↔n % 128+4096 * (n / 4096 % 8)=24675:=by
 show bits .and .i64 n 28799=24675↔_;rw [zm n h0 h1]
theorem Ux (n:Int) (h0:0<=n) (h1:n<=4294967295):Is 10 n↔n % 128+4096 * (n / 4096 % 8)=28771:=by
 show bits .and .i64 n 28799=28771↔_;rw [zm n h0 h1]
theorem Uy (n:Int) (h0:0<=n) (h1:n<=4294967295):Is 11 n↔n % 128+4096 * (n / 4096 % 8)=8195:=by
 show bits .and .i64 n 28799=8195↔_;rw [zm n h0 h1]
theorem Uz (n:Int) (h0:0<=n) (h1:n<=4294967295):Is 12 n↔n % 128+4096 * (n / 4096 % 8)=8227:=by
 show bits .and .i64 n 28799=8227↔_;rw [zm n h0 h1]
theorem UA (n:Int) (h0:0<=n) (h1:n<=4294967295):Is 13 n↔n % 128+4096 * (n / 4096 % 8)=19:=by
 show bits .and .i64 n 28799=19↔_;rw [zm n h0 h1]
theorem ysc (n:Int) (h0:0<=n) (h1:n<=4294967295):Is 14 n↔n % 128+4096 * (n / 4096 % 8)=8211:=by
 show bits .and .i64 n 28799=8211↔_;rw [zm n h0 h1]
theorem ysd (n:Int) (h0:0<=n) (h1:n<=4294967295):Is 15 n↔n % 128+4096 * (n / 4096 % 8)=16403:=by
 show bits .and .i64 n 28799=16403↔_;rw [zm n h0 h1]
theorem yse (n:Int) (h0:0<=n) (h1:n<=4294967295):Is 16 n↔n % 128+4096 * (n / 4096 % 8)=24595:=by
 show bits .and .i64 n 28799=24595↔_;rw [zm n h0 h1]
theorem ysf (n:Int) (h0:0<=n) (h1:n<=4294967295):Is 17 n↔n % 128+4096 * (n / 4096 % 8)=28691:=by
 show bits .and .i64 n 28799=28691↔_;rw [zm n h0 h1]
theorem ysg (n:Int) (h0:0<=n) (h1:n<=4294967295):Is 18 n↔n % 128+4096 * (n / 4096 % 8)+33554432 * (n / 33554432)=51:=by
 show bits .and .i64 n 4261441663=51↔_;rw [Ki n h0 h1]
theorem ysh (n:Int) (h0:0<=n) (h1:n<=4294967295):Is 19 n↔n % 128+4096 * (n / 4096 % 8)+33554432 * (n / 33554432)=1073741875:=by
 show bits .and .i64 n 4261441663=1073741875↔_;rw [Ki n h0 h1]
theorem ysi (n:Int) (h0:0<=n) (h1:n<=4294967295):Is 20 n↔n % 128+4096 * (n / 4096 % 8)+33554432 * (n / 33554432)=8243:=by
 show bits .and .i64 n 4261441663=8243↔_;rw [Ki n h0 h1]
theorem ysj (n:Int) (h0:0<=n) (h1:n<=4294967295):Is 21 n↔n % 128+4096 * (n / 4096 % 8)+33554432 * (n / 33554432)=12339:=by
 show bits .and .i64 n 4261441663=12339↔_;rw [Ki n h0 h1]
theorem ysk (n:Int) (h0:0<=n) (h1:n<=4294967295):Is 22 n↔n % 128+4096 * (n / 4096 % 8)+33554432 * (n / 33554432)=16435:=by
 show bits .and .i64 n 4261441663=16435↔_;rw [Ki n h0 h1]
theorem ysl (n:Int) (h0:0<=n) (h1:n<=4294967295):Is 23 n↔n % 128+4096 * (n / 4096 % 8)+33554432 * (n / 33554432)=24627:=by
 show bits .and .i64 n 4261441663=24627↔_;rw [Ki n h0 h1]
theorem ysm (n:Int) (h0:0<=n) (h1:n<=4294967295):Is 24 n↔n % 128+4096 * (n / 4096 % 8)+33554432 * (n / 33554432)=28723:=by
 show bits .and .i64 n 4261441663=28723↔_;rw [Ki n h0 h1]
theorem ysn (n:Int) (h0:0<=n) (h1:n<=4294967295):Is 25 n↔n=115:=by
 show bits .and .i64 n 4294967295=115↔_;rw [yso n h0 h1]
def yp (n op rd au m:Int):Prop :=
  ((5<=op/\op<=10/\m=0)↔yR n)/\((op=3/\m=0)↔iP n)/\((op=1/\m=0)↔yY 55 n)/\((op=2/\m=0)↔yY 23 n) /\
  ((op=4/\m=0)↔yW 103 0 n)/\((op=11/\m=0)↔yW 3 2 n)/\((op=12/\m=0)↔nV n)/\((op=13/\m=0)↔yW 19 0 n) /\
  ((op=1\/op=2)->rd=n / 128 % 32)/\((op=4\/op=11\/op=12\/op=13)->au=n / 32768 % 32)
theorem yB (n d:Int) (h0:0<=n) (h1:n<=4294967295) (hd:1<=d):bits .and .i64 (n / d) 31=n / d % 32:=by
 have a:0<=n / d:=Int.ediv_nonneg h0 (by omega);have b:n / d<=n:=Int.ediv_le_self d h0;exact low (n / d) 5 (by decide) 31 32 rfl rfl a (by omega)
theorem yrv (n:Int) (h0:0<=n) (h1:n<=4294967295) (h:∀ k,1<=k->k<=25->¬ Is k n):yp n 0 0 0 0:=by
 have i1:=h 1 (by decide) (by decide);rw [Fx n h0 h1] at i1;have i2:=h 2 (by decide) (by decide);rw [Jf n h0 h1] at i2;have i3:=h 3 (by decide) (by decide);rw [Jg n h0 h1] at i3;have i4:=h 4 (by decide) (by decide);rw [Jh n h0 h1] at i4;have i5:=h 5 (by decide) (by decide);rw [Ji n h0 h1] at i5;have i6:=h 6 (by decide) (by decide);rw [Jj n h0 h1] at i6;have i7:=h 7 (by decide) (by decide);rw [Jk n h0 h1] at i7;have i8:=h 8 (by decide) (by decide);rw [Jl n h0 h1] at i8;have i9:=h 9 (by decide) (by decide);rw [Jm n h0 h1] at i9;have i10:=h 10 (by decide) (by decide);rw [Ux n h0 h1] at i10;have i11:=h 11 (by decide) (by decide)
 rw [Uy n h0 h1] at i11;have i12:=h 12 (by decide) (by decide);rw [Uz n h0 h1] at i12;have i13:=h 13 (by decide) (by decide);rw [UA n h0 h1] at i13;clear h;unfold yp yR iP yY yW nV;refine ⟨?_,?_,?_,?_,?_,?_,?_,?_,?_,?_⟩ <;> omega
theorem yrR (n m:Int) (h0:0<=n) (h1:n<=4294967295) (hi:Is 1 n) (_hm:m=0↔yk 1 n):yp n 1 (gB 1 n) (bL 1 n) m:=by
 rw [Fx n h0 h1] at hi;have hz:yk 1 n↔n / 4096=0:=by simp [yk]
 rw [hz] at _hm;have hrd:gB 1 n=n / 128 % 32:=by rw [<- yB n 128 h0 h1 (by decide)]; rfl
 have hrs:bL 1 n=0:=by rfl
 unfold yp yR iP yY yW nV;rw [hrd,hrs];clear hz;refine ⟨?_,?_,?_,?_,?_,?_,?_,?_,?_,?_⟩ <;> omega
theorem yrS (n m:Int) (h0:0<=n) (h1:n<=4294967295) (hi:Is 2 n) (_hm:m=0↔yk 1 n):yp n 2 (gB 1 n) (bL 1 n) m:=by
 rw [Jf n h0 h1] at hi;have hz:yk 1 n↔n / 4096=0:=by simp [yk]
 rw [hz] at _hm;have hrd:gB 1 n=n / 128 % 32:=by rw [<- yB n 128 h0 h1 (by decide)]; rfl
 have hrs:bL 1 n=0:=by rfl
 unfold yp yR iP yY yW nV;rw [hrd,hrs];clear hz;refine ⟨?_,?_,?_,?_,?_,?_,?_,?_,?_,?_⟩ <;> omega
theorem yrT (n m:Int) (h0:0<=n) (h1:n<=4294967295) (hi:Is 3 n) (_hm:m=0↔yk 2 n):yp n 3 (gB 2 n) (bL 2 n) m:=by
 rw [Jg n h0 h1] at hi;have hz:yk 2 n↔n / 4096=0:=by simp [yk]
 rw [hz] at _hm;have hrd:gB 2 n=n / 128 % 32:=by rw [<- yB n 128 h0 h1 (by decide)]; rfl
 have hrs:bL 2 n=0:=by rfl
 unfold yp yR iP yY yW nV;rw [hrd,hrs];clear hz;refine ⟨?_,?_,?_,?_,?_,?_,?_,?_,?_,?_⟩ <;> omega
theorem yrU (n m:Int) (h0:0<=n) (h1:n<=4294967295) (hi:Is 4 n) (_hm:m=0↔yk 3 n):yp n 4 (gB 3 n) (bL 3 n) m:=by
 rw [Jh n h0 h1] at hi;have hz:yk 3 n↔n / 1048576=0:=by simp [yk]
 rw [hz] at _hm;have hrd:gB 3 n=n / 128 % 32:=by rw [<- yB n 128 h0 h1 (by decide)]; rfl
 have hrs:bL 3 n=n / 32768 % 32:=by rw [<- yB n 32768 h0 h1 (by decide)]; rfl
 unfold yp yR iP yY yW nV;rw [hrd,hrs];clear hz;refine ⟨?_,?_,?_,?_,?_,?_,?_,?_,?_,?_⟩ <;> omega
theorem yrV (n m:Int) (h0:0<=n) (h1:n<=4294967295) (hi:Is 5 n) (_hm:m=0↔yk 4 n):yp n 5 (gB 4 n) (bL 4 n) m:=by
 rw [Ji n h0 h1] at hi;have hz:yk 4 n↔n / 33554432=0/\n / 128 % 32=0:=by simp [yk]
 rw [hz] at _hm;have hrd:gB 4 n=0:=by rfl
 have hrs:bL 4 n=n / 32768 % 32:=by rw [<- yB n 32768 h0 h1 (by decide)]; rfl
 unfold yp yR iP yY yW nV;rw [hrd,hrs];clear hz;refine ⟨?_,?_,?_,?_,?_,?_,?_,?_,?_,?_⟩ <;> omega
theorem yrW (n m:Int) (h0:0<=n) (h1:n<=4294967295) (hi:Is 6 n) (_hm:m=0↔yk 4 n):yp n 6 (gB 4 n) (bL 4 n) m:=by
 rw [Jj n h0 h1] at hi;have hz:yk 4 n↔n / 33554432=0/\n / 128 % 32=0:=by simp [yk]
 rw [hz] at _hm;have hrd:gB 4 n=0:=by rfl
 have hrs:bL 4 n=n / 32768 % 32:=by rw [<- yB n 32768 h0 h1 (by decide)]; rfl
 unfold yp yR iP yY yW nV;rw [hrd,hrs];clear hz;refine ⟨?_,?_,?_,?_,?_,?_,?_,?_,?_,?_⟩ <;> omega
theorem yrX (n m:Int) (h0:0<=n) (h1:n<=4294967295) (hi:Is 7 n) (_hm:m=0↔yk 4 n):yp n 7 (gB 4 n) (bL 4 n) m:=by
 rw [Jk n h0 h1] at hi;have hz:yk 4 n↔n / 33554432=0/\n / 128 % 32=0:=by simp [yk]
 rw [hz] at _hm;have hrd:gB 4 n=0:=by rfl
 have hrs:bL 4 n=n / 32768 % 32:=by rw [<- yB n 32768 h0 h1 (by decide)]; rfl
 unfold yp yR iP yY yW nV;rw [hrd,hrs];clear hz;refine ⟨?_,?_,?_,?_,?_,?_,?_,?_,?_,?_⟩ <;> omega
theorem yrY (n m:Int) (h0:0<=n) (h1:n<=4294967295) (hi:Is 8 n) (_hm:m=0↔yk 4 n):yp n 8 (gB 4 n) (bL 4 n) m:=by
 rw [Jl n h0 h1] at hi;have hz:yk 4 n↔n / 33554432=0/\n / 128 % 32=0:=by simp [yk]
 rw [hz] at _hm;have hrd:gB 4 n=0:=by rfl
 have hrs:bL 4 n=n / 32768 % 32:=by rw [<- yB n 32768 h0 h1 (by decide)]; rfl
 unfold yp yR iP yY yW nV;rw [hrd,hrs];clear hz;refine ⟨?_,?_,?_,?_,?_,?_,?_,?_,?_,?_⟩ <;> omega
theorem yrZ (n m:Int) (h0:0<=n) (h1:n<=4294967295) (hi:Is 9 n) (_hm:m=0↔yk 4 n):yp n 9 (gB 4 n) (bL 4 n) m:=by
 rw [Jm n h0 h1] at hi;have hz:yk 4 n↔n / 33554432=0/\n / 128 % 32=0:=by simp [yk]
 rw [hz] at _hm;have hrd:gB 4 n=0:=by rfl
 have hrs:bL 4 n=n / 32768 % 32:=by rw [<- yB n 32768 h0 h1 (by decide)]; rfl
 unfold yp yR iP yY yW nV;rw [hrd,hrs];clear hz;refine ⟨?_,?_,?_,?_,?_,?_,?_,?_,?_,?_⟩ <;> omega
theorem yrf (n m:Int) (h0:0<=n) (h1:n<=4294967295) (hi:Is 10 n) (_hm:m=0↔yk 4 n):yp n 10 (gB 4 n) (bL 4 n) m:=by
 rw [Ux n h0 h1] at hi;have hz:yk 4 n↔n / 33554432=0/\n / 128 % 32=0:=by simp [yk]
 rw [hz] at _hm;have hrd:gB 4 n=0:=by rfl
 have hrs:bL 4 n=n / 32768 % 32:=by rw [<- yB n 32768 h0 h1 (by decide)]; rfl
 unfold yp yR iP yY yW nV;rw [hrd,hrs];clear hz;refine ⟨?_,?_,?_,?_,?_,?_,?_,?_,?_,?_⟩ <;> omega
theorem yrg (n m:Int) (h0:0<=n) (h1:n<=4294967295) (hi:Is 11 n) (_hm:m=0↔yk 3 n):yp n 11 (gB 3 n) (bL 3 n) m:=by
 rw [Uy n h0 h1] at hi;have hz:yk 3 n↔n / 1048576=0:=by simp [yk]
 rw [hz] at _hm;have hrd:gB 3 n=n / 128 % 32:=by rw [<- yB n 128 h0 h1 (by decide)]; rfl
 have hrs:bL 3 n=n / 32768 % 32:=by rw [<- yB n 32768 h0 h1 (by decide)]; rfl
 unfold yp yR iP yY yW nV;rw [hrd,hrs];clear hz;refine ⟨?_,?_,?_,?_,?_,?_,?_,?_,?_,?_⟩ <;> omega
theorem yrh (n m:Int) (h0:0<=n) (h1:n<=4294967295) (hi:Is 12 n) (_hm:m=0↔yk 5 n):yp n 12 (gB 5 n) (bL 5 n) m:=by
 rw [Uz n h0 h1] at hi;have hz:yk 5 n↔n / 33554432=0/\n / 128 % 32=0:=by simp [yk]
 rw [hz] at _hm;have hrd:gB 5 n=0:=by rfl
 have hrs:bL 5 n=n / 32768 % 32:=by rw [<- yB n 32768 h0 h1 (by decide)]; rfl
 unfold yp yR iP yY yW nV;rw [hrd,hrs];clear hz;refine ⟨?_,?_,?_,?_,?_,?_,?_,?_,?_,?_⟩ <;> omega
theorem yri (n m:Int) (h0:0<=n) (h1:n<=4294967295) (hi:Is 13 n) (_hm:m=0↔yk 3 n):yp n 13 (gB 3 n) (bL 3 n) m:=by
 rw [UA n h0 h1] at hi;have hz:yk 3 n↔n / 1048576=0:=by simp [yk]
 rw [hz] at _hm;have hrd:gB 3 n=n / 128 % 32:=by rw [<- yB n 128 h0 h1 (by decide)]; rfl
 have hrs:bL 3 n=n / 32768 % 32:=by rw [<- yB n 32768 h0 h1 (by decide)]; rfl
 unfold yp yR iP yY yW nV;rw [hrd,hrs];clear hz;refine ⟨?_,?_,?_,?_,?_,?_,?_,?_,?_,?_⟩ <;> omega
theorem yrj (n m:Int) (h0:0<=n) (h1:n<=4294967295) (hi:Is 14 n) (_hm:m=0↔yk 3 n):yp n 14 (gB 3 n) (bL 3 n) m:=by
 rw [ysc n h0 h1] at hi;have hz:yk 3 n↔n / 1048576=0:=by simp [yk]
 rw [hz] at _hm;have hrd:gB 3 n=n / 128 % 32:=by rw [<- yB n 128 h0 h1 (by decide)]; rfl
 have hrs:bL 3 n=n / 32768 % 32:=by rw [<- yB n 32768 h0 h1 (by decide)]; rfl
 unfold yp yR iP yY yW nV;rw [hrd,hrs];clear hz;refine ⟨?_,?_,?_,?_,?_,?_,?_,?_,?_,?_⟩ <;> omega
theorem yrk (n m:Int) (h0:0<=n) (h1:n<=4294967295) (hi:Is 15 n) (_hm:m=0↔yk 3 n):yp n 15 (gB 3 n) (bL 3 n) m:=by
 rw [ysd n h0 h1] at hi;have hz:yk 3 n↔n / 1048576=0:=by simp [yk]
 rw [hz] at _hm;have hrd:gB 3 n=n / 128 % 32:=by rw [<- yB n 128 h0 h1 (by decide)]; rfl
 have hrs:bL 3 n=n / 32768 % 32:=by rw [<- yB n 32768 h0 h1 (by decide)]; rfl
 unfold yp yR iP yY yW nV;rw [hrd,hrs];clear hz;refine ⟨?_,?_,?_,?_,?_,?_,?_,?_,?_,?_⟩ <;> omega
theorem yrl (n m:Int) (h0:0<=n) (h1:n<=4294967295) (hi:Is 16 n) (_hm:m=0↔yk 3 n):yp n 16 (gB 3 n) (bL 3 n) m:=by
 rw [yse n h0 h1] at hi;have hz:yk 3 n↔n / 1048576=0:=by simp [yk]
 rw [hz] at _hm;have hrd:gB 3 n=n / 128 % 32:=by rw [<- yB n 128 h0 h1 (by decide)]; rfl
 have hrs:bL 3 n=n / 32768 % 32:=by rw [<- yB n 32768 h0 h1 (by decide)]; rfl
 unfold yp yR iP yY yW nV;rw [hrd,hrs];clear hz;refine ⟨?_,?_,?_,?_,?_,?_,?_,?_,?_,?_⟩ <;> omega
theorem yrm (n m:Int) (h0:0<=n) (h1:n<=4294967295) (hi:Is 17 n) (_hm:m=0↔yk 3 n):yp n 17 (gB 3 n) (bL 3 n) m:=by
 rw [ysf n h0 h1] at hi;have hz:yk 3 n↔n / 1048576=0:=by simp [yk]
 rw [hz] at _hm;have hrd:gB 3 n=n / 128 % 32:=by rw [<- yB n 128 h0 h1 (by decide)]; rfl
 have hrs:bL 3 n=n / 32768 % 32:=by rw [<- yB n 32768 h0 h1 (by decide)]; rfl
 unfold yp yR iP yY yW nV;rw [hrd,hrs];clear hz;refine ⟨?_,?_,?_,?_,?_,?_,?_,?_,?_,?_⟩ <;> omega
theorem yrn (n m:Int) (h0:0<=n) (h1:n<=4294967295) (hi:Is 18 n) (_hm:m=0↔yk 6 n):yp n 18 (gB 6 n) (bL 6 n) m:=by
 rw [ysg n h0 h1] at hi;have hz:yk 6 n↔True:=by simp [yk]
 rw [hz] at _hm;have hrd:gB 6 n=n / 128 % 32:=by rw [<- yB n 128 h0 h1 (by decide)]; rfl
 have hrs:bL 6 n=n / 32768 % 32:=by rw [<- yB n 32768 h0 h1 (by decide)]; rfl
 unfold yp yR iP yY yW nV;rw [hrd,hrs];simp only [iff_true] at _hm;refine ⟨?_,?_,?_,?_,?_,?_,?_,?_,?_,?_⟩ <;> omega
theorem yro (n m:Int) (h0:0<=n) (h1:n<=4294967295) (hi:Is 19 n) (_hm:m=0↔yk 6 n):yp n 19 (gB 6 n) (bL 6 n) m:=by
 rw [ysh n h0 h1] at hi;have hz:yk 6 n↔True:=by simp [yk]
 rw [hz] at _hm;have hrd:gB 6 n=n / 128 % 32:=by rw [<- yB n 128 h0 h1 (by decide)]; rfl
 have hrs:bL 6 n=n / 32768 % 32:=by rw [<- yB n 32768 h0 h1 (by decide)]; rfl
 unfold yp yR iP yY yW nV;rw [hrd,hrs];simp only [iff_true] at _hm;refine ⟨?_,?_,?_,?_,?_,?_,?_,?_,?_,?_⟩ <;> omega
theorem yrp (n m:Int) (h0:0<=n) (h1:n<=4294967295) (hi:Is 20 n) (_hm:m=0↔yk 6 n):yp n 20 (gB 6 n) (bL 6 n) m:=by
 rw [ysi n h0 h1] at hi;have hz:yk 6 n↔True:=by simp [yk]
 rw [hz] at _hm;have hrd:gB 6 n=n / 128 % 32:=by rw [<- yB n 128 h0 h1 (by decide)]; rfl
 have hrs:bL 6 n=n / 32768 % 32:=by rw [<- yB n 32768 h0 h1 (by decide)]; rfl
 unfold yp yR iP yY yW nV;rw [hrd,hrs];simp only [iff_true] at _hm;refine ⟨?_,?_,?_,?_,?_,?_,?_,?_,?_,?_⟩ <;> omega
theorem yrq (n m:Int) (h0:0<=n) (h1:n<=4294967295) (hi:Is 21 n) (_hm:m=0↔yk 6 n):yp n 21 (gB 6 n) (bL 6 n) m:=by
 rw [ysj n h0 h1] at hi;have hz:yk 6 n↔True:=by simp [yk]
 rw [hz] at _hm;have hrd:gB 6 n=n / 128 % 32:=by rw [<- yB n 128 h0 h1 (by decide)]; rfl
 have hrs:bL 6 n=n / 32768 % 32:=by rw [<- yB n 32768 h0 h1 (by decide)]; rfl
 unfold yp yR iP yY yW nV;rw [hrd,hrs];simp only [iff_true] at _hm;refine ⟨?_,?_,?_,?_,?_,?_,?_,?_,?_,?_⟩ <;> omega
theorem yrr (n m:Int) (h0:0<=n) (h1:n<=4294967295) (hi:Is 22 n) (_hm:m=0↔yk 6 n):yp n 22 (gB 6 n) (bL 6 n) m:=by
 rw [ysk n h0 h1] at hi;have hz:yk 6 n↔True:=by simp [yk]
 rw [hz] at _hm;have hrd:gB 6 n=n / 128 % 32:=by rw [<- yB n 128 h0 h1 (by decide)]; rfl
 have hrs:bL 6 n=n / 32768 % 32:=by rw [<- yB n 32768 h0 h1 (by decide)]; rfl
 unfold yp yR iP yY yW nV;rw [hrd,hrs];simp only [iff_true] at _hm;refine ⟨?_,?_,?_,?_,?_,?_,?_,?_,?_,?_⟩ <;> omega
theorem yrs (n m:Int) (h0:0<=n) (h1:n<=4294967295) (hi:Is 23 n) (_hm:m=0↔yk 6 n):yp n 23 (gB 6 n) (bL 6 n) m:=by
 rw [ysl n h0 h1] at hi;have hz:yk 6 n↔True:=by simp [yk]
 rw [hz] at _hm;have hrd:gB 6 n=n / 128 % 32:=by rw [<- yB n 128 h0 h1 (by decide)]; rfl
 have hrs:bL 6 n=n / 32768 % 32:=by rw [<- yB n 32768 h0 h1 (by decide)]; rfl
 unfold yp yR iP yY yW nV;rw [hrd,hrs];simp only [iff_true] at _hm;refine ⟨?_,?_,?_,?_,?_,?_,?_,?_,?_,?_⟩ <;> omega
theorem yrt (n m:Int) (h0:0<=n) (h1:n<=4294967295) (hi:Is 24 n) (_hm:m=0↔yk 6 n):yp n 24 (gB 6 n) (bL 6 n) m:=by
 rw [ysm n h0 h1] at hi;have hz:yk 6 n↔True:=by simp [yk]
 rw [hz] at _hm;have hrd:gB 6 n=n / 128 % 32:=by rw [<- yB n 128 h0 h1 (by decide)]; rfl
 have hrs:bL 6 n=n / 32768 % 32:=by rw [<- yB n 32768 h0 h1 (by decide)]; rfl
 unfold yp yR iP yY yW nV;rw [hrd,hrs];simp only [iff_true] at _hm;refine ⟨?_,?_,?_,?_,?_,?_,?_,?_,?_,?_⟩ <;> omega
theorem yru (n m:Int) (h0:0<=n) (h1:n<=4294967295) (hi:Is 25 n) (_hm:m=0↔yk 7 n):yp n 25 (gB 7 n) (bL 7 n) m:=by
 rw [ysn n h0 h1] at hi;have hz:yk 7 n↔True:=by simp [yk]
 rw [hz] at _hm;have hrd:gB 7 n=0:=by rfl
 have hrs:bL 7 n=0:=by rfl
 unfold yp yR iP yY yW nV;rw [hrd,hrs];simp only [iff_true] at _hm;refine ⟨?_,?_,?_,?_,?_,?_,?_,?_,?_,?_⟩ <;> omega
theorem JX (n op rd au m:Int) (h0:0<=n) (h1:n<=4294967295) (h:Dec n op rd au m):yp n op rd au m:=by
 rcases h with ⟨rfl,rfl,rfl,rfl,h⟩ | ⟨k,k1,k2,hi,-,rfl,rfl,rfl,hm⟩
 ·exact yrv n h0 h1 h
 ·rcases (show k=1\/k=2\/k=3\/k=4\/k=5\/k=6\/k=7\/k=8\/k=9\/k=10\/k=11\/k=12\/k=13\/k=14\/k=15\/k=16\/k=17\/k=18\/k=19\/k=20\/k=21\/k=22\/k=23\/k=24\/k=25 from by omega) with rfl | rfl | rfl | rfl | rfl | rfl | rfl | rfl | rfl | rfl | rfl | rfl | rfl | rfl | rfl | rfl | rfl | rfl | rfl | rfl | rfl | rfl | rfl | rfl | rfl
  ·exact yrR n m h0 h1 hi hm
  ·exact yrS n m h0 h1 hi hm
  ·exact yrT n m h0 h1 hi hm
  ·exact yrU n m h0 h1 hi hm
  ·exact yrV n m h0 h1 hi hm
  ·exact yrW n m h0 h1 hi hm
  ·exact yrX n m h0 h1 hi hm
  ·exact yrY n m h0 h1 hi hm
  ·exact yrZ n m h0 h1 hi hm
  ·exact yrf n m h0 h1 hi hm
  ·exact yrg n m h0 h1 hi hm
  ·exact yrh n m h0 h1 hi hm
  ·exact yri n m h0 h1 hi hm
  ·exact yrj n m h0 h1 hi hm
  ·exact yrk n m h0 h1 hi hm
  ·exact yrl n m h0 h1 hi hm
  ·exact yrm n m h0 h1 hi hm
  ·exact yrn n m h0 h1 hi hm
  ·exact yro n m h0 h1 hi hm
  ·exact yrp n m h0 h1 hi hm
  ·exact yrq n m h0 h1 hi hm
  ·exact yrr n m h0 h1 hi hm
  ·exact yrs n m h0 h1 hi hm
  ·exact yrt n m h0 h1 hi hm
  ·exact yru n m h0 h1 hi hm
def Ba (xs:List Int):Prop:=∀ i (h:i < xs.length),xs[i]=19
theorem ykU (ao:Option Addr) (cap:Nat) (xs:List Int) (w:World) (h:yy w ao xs) (hn:xs.length<=65535) :
  Calls Tryz.prog 221 #[.slice ao xs.length cap] w fun e w'=>yg e (Ba xs)/\w'=w:=by
 have H:=hid h;clear h;go_enter Tryz.func221,Tryz.ntmps221;go_wp2
 go_loop [7] (fun i=>∃ k:Nat,k<=xs.length/\i = .int .i64 k/\∀ j (hj:j < xs.length),j < k->xs[j]=19) (fun i=>xs.length - (intOf i).toNat)
 case atStart=>exact ⟨0,Nat.zero_le _,rfl,fun j _ hj=>absurd hj (Nat.not_lt_zero j)⟩
 case round =>
  obtain ⟨k,hk,rfl,hall⟩:=hrel;have HA:=hid hall;clear hall;by_cases hlt:k < xs.length
  ·obtain ⟨g,off,rfl,hc⟩:=H.o (by omega);have hck:=hc k hlt;clear hc;by_cases h1:xs[k]=19
   ·have HE:=hid h1;have d1:(xs[k] == 19)=true:=beq_iff_eq.2 h1;clear h1;go_wp2
    go_round
    case rel=>exact ⟨k+1,by omega,by go_num,fun j hj hjk=>(Nat.lt_succ_iff_lt_or_eq.1 hjk).elim (fun h=>HA.o j hj h) (fun h=>by subst h; exact HE.o)⟩
    case measure=>simp [intOf]; omega
   ·have N:=hid (show ¬ Ba xs from fun hw=>h1 (hw k hlt));have d1:(xs[k] == 19)=false:=beq_eq_false_iff_ne.2 h1;clear h1;go_wp2;go_ret;exact ⟨yg.no N.o,rfl⟩
  ·go_wp2;go_ret;exact ⟨yg.yes fun i hi=>HA.o i hi (by omega),rfl⟩
def NR (kind op1 rd m1 op2 rs m2:Int):Prop:=(rd≠0/\rs=rd/\m1=0/\m2=0)/\(if kind=4 then op1=2/\op2=4 else op1=1/\(op2=13\/op2=11\/op2=12))
theorem Xm (kind op1 zU s1 t1 m1 op2 CU s2 t2 m2:Int) (w:World) :
  Calls Tryz.prog 220 #[.int .i64 kind,bC op1 zU s1 t1 m1,bC op2 CU s2 t2 m2] w fun e w'=>yg e (NR kind op1 zU m1 op2 s2 m2)/\w.grownBy w' none:=by
 have G1:=hid (fun o:Obj=>aJ w o none);have G2:=hid (fun o o':Obj=>aJ (w.alloc o) o' none);have HQ:=hid (show NR kind op1 zU m1 op2 s2 m2↔(zU≠0/\s2=zU/\m1=0/\m2=0)/\(if kind=4 then op1=2/\op2=4 else op1=1/\(op2=13\/op2=11\/op2=12)) from Iff.rfl);generalize NR kind op1 zU m1 op2 s2 m2=Q at *;unfold bC;by_cases c1:zU=0
 ·have N:=hid (show ¬ Q from fun q=>(HQ.o.1 q).1.1 c1);subst c1;clear HQ;go_enter Tryz.func220,Tryz.ntmps220;go_wp2;go_ret;exact ⟨yg.no N.o,ya (G1.o _) (G2.o _ _)⟩
 have d1:(zU == 0)=false:=beq_eq_false_iff_ne.2 c1;by_cases c2:s2=zU
 rotate_left
 ·have N:=hid (show ¬ Q from fun q=>c2 (HQ.o.1 q).1.2.1);have d2:(s2 != zU)=true:=by simpa using c2
  clear HQ c1 c2;go_enter Tryz.func220,Tryz.ntmps220;go_wp2;go_ret;exact ⟨yg.no N.o,ya (G1.o _) (G2.o _ _)⟩
 subst c2;have d2:(s2 == s2)=true:=by simp
 by_cases c3:m1=0
 rotate_left
 ·have N:=hid (show ¬ Q from fun q=>c3 (HQ.o.1 q).1.2.2.1);have d3:(m1 == 0)=false:=beq_eq_false_iff_ne.2 c3;clear HQ c1 c3;go_enter Tryz.func220,Tryz.ntmps220;go_wp2;go_ret;exact ⟨yg.no N.o,ya (G1.o _) (G2.o _ _)⟩
 subst c3;by_cases c4:m2=0
 rotate_left
 ·have N:=hid (show ¬ Q from fun q=>c4 (HQ.o.1 q).1.2.2.2);have d4:(m2 == 0)=false:=beq_eq_false_iff_ne.2 c4;clear HQ c1 c4;go_enter Tryz.func220,Tryz.ntmps220;go_wp2;go_ret;exact ⟨yg.no N.o,ya (G1.o _) (G2.o _ _)⟩
 subst c4;have C1:=hid c1;clear c1;by_cases k4:kind=4
 ·subst k4;have oO:=hid (show Q↔op1=2/\op2=4 from by rw [HQ.o,if_pos rfl]; exact ⟨fun h=>h.2,fun h=>⟨⟨C1.o,rfl,rfl,rfl⟩,h⟩⟩);clear HQ;by_cases o1:op1=2
  ·subst o1;go_enter Tryz.func220,Tryz.ntmps220;go_wp2;go_ret;exact ⟨yg.of (by rw [oO.o,beq_iff_eq]; simp),ya (G1.o _) (G2.o _ _)⟩
  ·have N:=hid (show ¬ Q from fun q=>o1 (oO.o.1 q).1);have d5:(op1 == 2)=false:=beq_eq_false_iff_ne.2 o1;clear oO o1;go_enter Tryz.func220,Tryz.ntmps220;go_wp2;go_ret;exact ⟨yg.no N.o,ya (G1.o _) (G2.o _ _)⟩
 ·have oO:=hid (show Q↔op1=1/\(op2=13\/op2=11\/op2=12) from by rw [HQ.o,if_neg k4]; exact ⟨fun h=>h.2,fun h=>⟨⟨C1.o,rfl,rfl,rfl⟩,h⟩⟩);have dk:(kind == 4)=false:=beq_eq_false_iff_ne.2 k4;clear HQ k4;by_cases o1:op1=1
  rotate_left
  ·have N:=hid (show ¬ Q from fun q=>o1 (oO.o.1 q).1);have d5:(op1 == 1)=false:=beq_eq_false_iff_ne.2 o1;clear oO o1;go_enter Tryz.func220,Tryz.ntmps220;go_wp2;go_ret;exact ⟨yg.no N.o,ya (G1.o _) (G2.o _ _)⟩
  subst o1;by_cases o2:op2=13
  ·subst o2;go_enter Tryz.func220,Tryz.ntmps220;go_wp2;go_ret;exact ⟨yg.yes (by rw [oO.o]; simp),ya (G1.o _) (G2.o _ _)⟩
  have e2:(op2 == 13)=false:=beq_eq_false_iff_ne.2 o2;by_cases o3:op2=11
  ·subst o3;go_enter Tryz.func220,Tryz.ntmps220;go_wp2;go_ret;exact ⟨yg.yes (by rw [oO.o]; simp),ya (G1.o _) (G2.o _ _)⟩
  have e3:(op2 == 11)=false:=beq_eq_false_iff_ne.2 o3;have O:=hid (⟨o2,o3⟩:op2≠13/\op2≠11);clear o2 o3;go_enter Tryz.func220,Tryz.ntmps220;go_wp2;go_ret;exact ⟨yg.of (by rw [oO.o,beq_iff_eq]; have:=O.o; simp; omega),ya (G1.o _) (G2.o _ _)⟩
def La (kind a b:Int):Prop:=a / 128 % 32≠0/\b / 32768 % 32=a / 128 % 32/\(if kind=4 then yY 23 a/\yW 103 0 b else yY 55 a/\(yW 19 0 b\/yW 3 2 b\/nV b))
theorem Yi (kind a b op1 zU s1 m1 op2 CU s2 m2:Int) (h1:yp a op1 zU s1 m1) (h2:yp b op2 CU s2 m2):NR kind op1 zU m1 op2 s2 m2↔La kind a b:=by
 obtain ⟨-,-,a1,a2,-,-,-,-,a9,-⟩:=h1;obtain ⟨-,-,-,-,b4,b11,b12,b13,-,b10⟩:=h2;unfold NR La;rw [<- a1,<- a2,<- b4,<- b11,<- b12,<- b13];split
 ·constructor
  ·rintro ⟨⟨x1,x2,x3,x4⟩,x5,x6⟩;have y1:=a9 (.inr x5);have y2:=b10 (.inl x6);rw [<- y1,<- y2];exact ⟨x1,x2,⟨x5,x3⟩,x6,x4⟩
  ·rintro ⟨x1,x2,⟨x5,x3⟩,x6,x4⟩;have y1:=a9 (.inr x5);have y2:=b10 (.inl x6);rw [<- y1] at x1 x2;rw [<- y2] at x2;exact ⟨⟨x1,x2,x3,x4⟩,x5,x6⟩
 ·constructor
  ·rintro ⟨⟨x1,x2,x3,x4⟩,x5,x6⟩;have y1:=a9 (.inl x5);have y2:=b10 (by omega);rw [<- y1,<- y2];exact ⟨x1,x2,⟨x5,x3⟩,by omega⟩
  ·rintro ⟨x1,x2,⟨x5,x3⟩,x6⟩;have y1:=a9 (.inl x5);have y2:=b10 (by omega);rw [<- y1] at x1 x2;rw [<- y2] at x2;exact ⟨⟨x1,x2,x3,by omega⟩,x5,by omega⟩
def pq (kind:Int) (xs:List Int):Prop :=
 if kind=1 then xs.getD 0 0=0 else if kind=2 then yR (xs.getD 0 0) else if kind=3 then iP (xs.getD 0 0) else if kind=4\/kind=5 then La kind (xs.getD 0 0) (xs.getD 1 0) else if kind=6 then Ba xs else False
theorem Ya (kind:Int) (w:World) :
  Calls Tryz.prog 206 #[.int .i64 kind,.slice none 0 0] w fun e w'=>e = .returned (.bool false)/\w'=w:=by
 go_enter Tryz.func206,Tryz.ntmps206;go_wp2;go_ret;exact ⟨rfl,rfl⟩
theorem X9 (kind:Int) (ao:Option Addr) (cap:Nat) (xs:List Int) (w:World) (ht:dQ w) (h:yy w ao xs) (hw:qL xs) (hn:xs.length<=3) (hn1:1<=xs.length) (hk:1<=kind/\kind<=6) (h2:kind=4\/kind=5->xs.length=2) :
  Calls Tryz.prog 206 #[.int .i64 kind,.slice ao xs.length cap] w fun e w'=>yg e (pq kind xs)/\w.grownBy w' none:=by
 obtain ⟨g,off,rfl,hc⟩:=h (by omega);have hx0:=hw 0 (by omega);have hgd:xs.getD 0 0=xs[0]:=by rw [lC,j3 (by omega)]; rfl
 have q0:=hc 0 (by omega);have cD:=hid (SV xs[0] w ht hx0.1 hx0.2);have cN:=hid (fun W (hW:yy W (some ⟨g,off,none⟩) xs)=>ykU (some ⟨g,off,none⟩) cap xs W hW (by omega));have HI:=hid h;simp only [Nat.add_zero] at q0;rcases (show kind=1\/kind=2\/kind=3\/kind=6\/kind=4\/kind=5 from by omega) with rfl | rfl | rfl | rfl | rfl | rfl
 ·have HQ:=hid (show pq 1 xs↔xs[0]=0 from by simp only [pq,if_true]; rw [hgd]);generalize pq 1 xs=Q at *;clear h2 hk h hc hw ht HI;go_enter Tryz.func206,Tryz.ntmps206;go_wp2_with fail;refine cD.o.mono ?_;rintro e w1 ⟨⟨op,rd,s1,t1,m,rfl,hd⟩,hq⟩;have q1:=yd q0 hq;unfold bC;have xO:=hid hq;clear hq q0 hd;have GA:=hid (fun ob:Obj=>aJ w1 ob none);have q2:=fun ob:Obj=>yd q1 (aJ w1 ob none)
  go_wp2;go_ret;exact ⟨yg.of (by rw [HQ.o,beq_iff_eq]),ya xO.o (GA.o _)⟩
 ·have HQ:=hid (show pq 2 xs↔yR xs[0] from by unfold pq; rw [if_neg (by decide),if_pos rfl,hgd]);generalize pq 2 xs=Q at *;clear h2 hk h hc hw ht HI;go_enter Tryz.func206,Tryz.ntmps206;go_wp2_with fail;refine cD.o.mono ?_;rintro e w1 ⟨⟨op,rd,s1,t1,m,rfl,hd⟩,hq⟩;have q1:=yd q0 hq;unfold bC;have xO:=hid hq;have DF:=hid (JX xs[0] op rd s1 m hx0.1 hx0.2 hd);clear hq q0 hd;have GA:=hid (fun ob:Obj=>aJ w1 ob none);by_cases o1:5<=op
  ·have d1:decide (5<=op)=true:=by simpa using o1
   by_cases o2:op<=10
   ·have d2:decide (op<=10)=true:=by simpa using o2
    go_wp2;go_ret;exact ⟨yg.of (by rw [HQ.o,<- DF.o.1,beq_iff_eq]; exact ⟨fun h=>⟨o1,o2,h⟩,fun h=>h.2.2⟩),ya xO.o (GA.o _)⟩
   ·have d2:decide (op<=10)=false:=by simp; omega
    go_wp2;go_ret;exact ⟨yg.no (by rw [HQ.o,<- DF.o.1]; omega),ya xO.o (GA.o _)⟩
  ·have d1:decide (5<=op)=false:=by simp; omega
   go_wp2;go_ret;exact ⟨yg.no (by rw [HQ.o,<- DF.o.1]; omega),ya xO.o (GA.o _)⟩
 ·have HQ:=hid (show pq 3 xs↔iP xs[0] from by unfold pq; rw [if_neg (by decide),if_neg (by decide),if_pos rfl,hgd]);generalize pq 3 xs=Q at *;clear h2 hk h hc hw ht HI;go_enter Tryz.func206,Tryz.ntmps206;go_wp2_with fail;refine cD.o.mono ?_;rintro e w1 ⟨⟨op,rd,s1,t1,m,rfl,hd⟩,hq⟩;have q1:=yd q0 hq;unfold bC;have xO:=hid hq;have DF:=hid (JX xs[0] op rd s1 m hx0.1 hx0.2 hd);clear hq q0 hd;have GA:=hid (fun ob:Obj=>aJ w1 ob none);by_cases o1:op=3
  ·subst o1;go_wp2;go_ret;exact ⟨yg.of (by rw [HQ.o,<- DF.o.2.1,beq_iff_eq]; simp),ya xO.o (GA.o _)⟩
  ·have d1:(op == 3)=false:=beq_eq_false_iff_ne.2 o1;have O:=hid o1;clear o1;go_wp2;go_ret;exact ⟨yg.no (by rw [HQ.o,<- DF.o.2.1]; have:=O.o; omega),ya xO.o (GA.o _)⟩
 ·have HQ:=hid (show pq 6 xs↔Ba xs from by unfold pq; rw [if_neg (by decide),if_neg (by decide),if_neg (by decide),if_neg (by decide),if_pos rfl]);generalize pq 6 xs=Q at *;clear h2 hk h hc hw ht;go_enter Tryz.func206,Tryz.ntmps206;go_wp2_with fail;refine cD.o.mono ?_;rintro e w1 ⟨⟨op,rd,s1,t1,m,rfl,hd⟩,hq⟩;have q1:=yd q0 hq;unfold bC;have xO:=hid hq;have DF:=hid (JX xs[0] op rd s1 m hx0.1 hx0.2 hd);clear hq q0 hd;have GA:=hid (fun ob:Obj=>aJ w1 ob none);go_wp2_with fail;refine (cN.o _ ((HI.o.kept (fun a v hv=>yd hv xO.o)).kept (fun a v hv=>yd hv (GA.o _)))).mono ?_;rintro e w2 ⟨t,rfl⟩;obtain ⟨b,rfl,hb⟩:=t
  have nY:=hid hb;clear hb;go_wp2;go_ret;exact ⟨yg.of (by rw [HQ.o]; exact nY.o),ya xO.o (GA.o _)⟩
 ·have hl2:=h2 (by omega);have hlt1:1 < xs.length:=by omega
  have hx1:=hw 1 hlt1;have hgd1:xs.getD 1 0=xs[1]'hlt1:=by rw [lC,j3 hlt1]; rfl
  have HQ:=hid (show pq 4 xs↔La 4 xs[0] xs[1] from by unfold pq; rw [if_neg (by decide),if_neg (by decide),if_neg (by decide),if_pos (by decide),hgd,hgd1]);have q1:=hc 1 hlt1;have QM:=hid (fun W (hW:dQ W)=>SV xs[1] W hW hx1.1 hx1.2);have HT:=hid ht;generalize pq 4 xs=Q at *;have dl:((xs.length:Int) == 2)=true:=by rw [beq_iff_eq]; omega
  have hl3:2<=xs.length:=by omega
  have g1:(1:Int) < (xs.length:Int):=by omega
  have g2:(0:Int) < (xs.length:Int):=by omega
  clear h2 hk h hc hw ht HI cN hl2;go_enter Tryz.func206,Tryz.ntmps206;go_wp2_with fail;refine cD.o.mono ?_;rintro e w1 ⟨⟨op,rd,s1,t1,m,rfl,hd⟩,hq⟩;unfold bC;have B:=yc.new w1 #[.int .i64 op,.int .i64 rd,.int .i64 s1,.int .i64 t1,.int .i64 m] 143;have GA:=aJ w1 (.cells #[.int .i64 op,.int .i64 rd,.int .i64 s1,.int .i64 t1,.int .i64 m] 143) none;have c0:Hd ((w1.alloc (.cells #[.int .i64 op,.int .i64 rd,.int .i64 s1,.int .i64 t1,.int .i64 m] 143)).drew.cell? ⟨w1.heap.size,0,none⟩=some (.int .i64 op)):=B.cell 0;have c1:Hd ((w1.alloc (.cells #[.int .i64 op,.int .i64 rd,.int .i64 s1,.int .i64 t1,.int .i64 m] 143)).drew.cell? ⟨w1.heap.size,1,none⟩=some (.int .i64 rd)):=B.cell 1
  have c2:Hd ((w1.alloc (.cells #[.int .i64 op,.int .i64 rd,.int .i64 s1,.int .i64 t1,.int .i64 m] 143)).drew.cell? ⟨w1.heap.size,2,none⟩=some (.int .i64 s1)):=B.cell 2;have c3:Hd ((w1.alloc (.cells #[.int .i64 op,.int .i64 rd,.int .i64 s1,.int .i64 t1,.int .i64 m] 143)).drew.cell? ⟨w1.heap.size,3,none⟩=some (.int .i64 t1)):=B.cell 3;have c4:Hd ((w1.alloc (.cells #[.int .i64 op,.int .i64 rd,.int .i64 s1,.int .i64 t1,.int .i64 m] 143)).drew.cell? ⟨w1.heap.size,4,none⟩=some (.int .i64 m)):=B.cell 4;have c5:Hd ((w1.alloc (.cells #[.int .i64 op,.int .i64 rd,.int .i64 s1,.int .i64 t1,.int .i64 m] 143)).drew.cell? ⟨g,off+1,none⟩=some (.int .i64 xs[1])):=yd (yd q1 hq) (yh GA)
  have hgl:g < w1.heap.size:=World.block_lt_of_cell? w1 _ (yd q1 hq);have hnew:=World.new_ne w1 ⟨g,off+1,none⟩ (yd q1 hq);have q2:=yd q1 hq;have GG:=hid (ya hq (yh GA));have DF:=hid (JX xs[0] op rd s1 m hx0.1 hx0.2 hd);clear hq q0 q1 hd B GA cD;go_wp2
  go_region_held3 (fun w'=>w'.cell? ⟨w1.heap.size,0,none⟩=some (.int .i64 op)/\w'.cell? ⟨w1.heap.size,1,none⟩=some (.int .i64 rd)/\w'.cell? ⟨w1.heap.size,2,none⟩=some (.int .i64 s1)/\w'.cell? ⟨w1.heap.size,3,none⟩=some (.int .i64 t1)/\w'.cell? ⟨w1.heap.size,4,none⟩=some (.int .i64 m)/\w'.cell? ⟨g,off+1,none⟩=some (.int .i64 xs[1]))
   (go_keep)
   (first | (go_at_call 82; refine (QM.o _ (HT.o.grown GG.o)).mono ?_; rintro e w' ⟨⟨op2,CU,s2,t2,m2,rfl,hd2⟩,hq⟩; have s0:=yd c0.o hq; have s1':=yd c1.o hq; have s2':=yd c2.o hq; have s3:=yd c3.o hq; have s4:=yd c4.o hq; have s5:=yd c5.o hq) | (go_at_call 220; refine (Xm 4 op rd s1 t1 m op2 CU s2 t2 m2 _).mono ?_; rintro e w'' ⟨⟨b,rfl,hb⟩,hq2⟩; have z0:=yd s0 hq2; have z1:=yd s1' hq2; have z2:=yd s2' hq2; have z3:=yd s3 hq2; have z4:=yd s4 hq2; have z5:=yd s5 hq2))
  have nY:=hid hb;have D2:=hid (JX xs[1] op2 CU s2 m2 hx1.1 hx1.2 hd2);have GF:=hid (ya (ya GG.o hq) hq2);clear hb hd2 hq hq2 s0 s1' s2' s3 s4 s5 z0 z1 z2 z3 z4 z5;go_wp2;go_ret;exact ⟨yg.of (by rw [HQ.o,<- Yi 4 xs[0] xs[1] op rd s1 m op2 CU s2 m2 DF.o D2.o]; exact nY.o),GF.o⟩
 ·have hl2:=h2 (by omega);have hlt1:1 < xs.length:=by omega
  have hx1:=hw 1 hlt1;have hgd1:xs.getD 1 0=xs[1]'hlt1:=by rw [lC,j3 hlt1]; rfl
  have HQ:=hid (show pq 5 xs↔La 5 xs[0] xs[1] from by unfold pq; rw [if_neg (by decide),if_neg (by decide),if_neg (by decide),if_pos (by decide),hgd,hgd1]);have q1:=hc 1 hlt1;have QM:=hid (fun W (hW:dQ W)=>SV xs[1] W hW hx1.1 hx1.2);have HT:=hid ht;generalize pq 5 xs=Q at *;have dl:((xs.length:Int) == 2)=true:=by rw [beq_iff_eq]; omega
  have hl3:2<=xs.length:=by omega
  have g1:(1:Int) < (xs.length:Int):=by omega
  have g2:(0:Int) < (xs.length:Int):=by omega
  clear h2 hk h hc hw ht HI cN hl2;go_enter Tryz.func206,Tryz.ntmps206;go_wp2_with fail;refine cD.o.mono ?_;rintro e w1 ⟨⟨op,rd,s1,t1,m,rfl,hd⟩,hq⟩;unfold bC;have B:=yc.new w1 #[.int .i64 op,.int .i64 rd,.int .i64 s1,.int .i64 t1,.int .i64 m] 143;have GA:=aJ w1 (.cells #[.int .i64 op,.int .i64 rd,.int .i64 s1,.int .i64 t1,.int .i64 m] 143) none;have c0:Hd ((w1.alloc (.cells #[.int .i64 op,.int .i64 rd,.int .i64 s1,.int .i64 t1,.int .i64 m] 143)).drew.cell? ⟨w1.heap.size,0,none⟩=some (.int .i64 op)):=B.cell 0;have c1:Hd ((w1.alloc (.cells #[.int .i64 op,.int .i64 rd,.int .i64 s1,.int .i64 t1,.int .i64 m] 143)).drew.cell? ⟨w1.heap.size,1,none⟩=some (.int .i64 rd)):=B.cell 1
  have c2:Hd ((w1.alloc (.cells #[.int .i64 op,.int .i64 rd,.int .i64 s1,.int .i64 t1,.int .i64 m] 143)).drew.cell? ⟨w1.heap.size,2,none⟩=some (.int .i64 s1)):=B.cell 2;have c3:Hd ((w1.alloc (.cells #[.int .i64 op,.int .i64 rd,.int .i64 s1,.int .i64 t1,.int .i64 m] 143)).drew.cell? ⟨w1.heap.size,3,none⟩=some (.int .i64 t1)):=B.cell 3;have c4:Hd ((w1.alloc (.cells #[.int .i64 op,.int .i64 rd,.int .i64 s1,.int .i64 t1,.int .i64 m] 143)).drew.cell? ⟨w1.heap.size,4,none⟩=some (.int .i64 m)):=B.cell 4;have c5:Hd ((w1.alloc (.cells #[.int .i64 op,.int .i64 rd,.int .i64 s1,.int .i64 t1,.int .i64 m] 143)).drew.cell? ⟨g,off+1,none⟩=some (.int .i64 xs[1])):=yd (yd q1 hq) (yh GA)
  have hgl:g < w1.heap.size:=World.block_lt_of_cell? w1 _ (yd q1 hq);have hnew:=World.new_ne w1 ⟨g,off+1,none⟩ (yd q1 hq);have q2:=yd q1 hq;have GG:=hid (ya hq (yh GA));have DF:=hid (JX xs[0] op rd s1 m hx0.1 hx0.2 hd);clear hq q0 q1 hd B GA cD;go_wp2
  go_region_held3 (fun w'=>w'.cell? ⟨w1.heap.size,0,none⟩=some (.int .i64 op)/\w'.cell? ⟨w1.heap.size,1,none⟩=some (.int .i64 rd)/\w'.cell? ⟨w1.heap.size,2,none⟩=some (.int .i64 s1)/\w'.cell? ⟨w1.heap.size,3,none⟩=some (.int .i64 t1)/\w'.cell? ⟨w1.heap.size,4,none⟩=some (.int .i64 m)/\w'.cell? ⟨g,off+1,none⟩=some (.int .i64 xs[1]))
   (go_keep)
   (first | (go_at_call 82; refine (QM.o _ (HT.o.grown GG.o)).mono ?_; rintro e w' ⟨⟨op2,CU,s2,t2,m2,rfl,hd2⟩,hq⟩; have s0:=yd c0.o hq; have s1':=yd c1.o hq; have s2':=yd c2.o hq; have s3:=yd c3.o hq; have s4:=yd c4.o hq; have s5:=yd c5.o hq) | (go_at_call 220; refine (Xm 5 op rd s1 t1 m op2 CU s2 t2 m2 _).mono ?_; rintro e w'' ⟨⟨b,rfl,hb⟩,hq2⟩; have z0:=yd s0 hq2; have z1:=yd s1' hq2; have z2:=yd s2' hq2; have z3:=yd s3 hq2; have z4:=yd s4 hq2; have z5:=yd s5 hq2))
  have nY:=hid hb;have D2:=hid (JX xs[1] op2 CU s2 m2 hx1.1 hx1.2 hd2);have GF:=hid (ya (ya GG.o hq) hq2);clear hb hd2 hq hq2 s0 s1' s2' s3 s4 s5 z0 z1 z2 z3 z4 z5;go_wp2;go_ret;exact ⟨yg.of (by rw [HQ.o,<- Yi 5 xs[0] xs[1] op rd s1 m op2 CU s2 m2 DF.o D2.o]; exact nY.o),GF.o⟩
end Go.Proofs.YtpgklkhgfcjceaaGreatDoor
