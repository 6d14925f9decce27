/- Linking, as plain functions. -/
/- What Decode's answer says of a word: the plain side. -/
/- Walks over package object's checks: whether words go with a relocation. -/
/- Walks over package object's checks: wordsGo. -/
import Derived.Test.YtnfgdlkiialnnaaGreatDoorG01
import Derived.Test.YtnfgdlkiialnnaaGreatDoorG04
import Derived.Test.YtnfgdlkiialnnaaGreatDoorG03
namespace Go.Proofs.YtnfgdlkiialnnaaGreatDoor
open Go.RowKit

namespace Ln
/-- a place in a section of module number mod; without one: nothing -/
structure Spot where
 mod:Option Nat
 sect:Int
 off:Int
structure Mod where
 obj:Lk.Obj
 means:List Spot
 short:List Bool
 text:List Int
 far:List Int
 data:Int
 bss:Int
def none_:Spot:=⟨none,0,0⟩

def defines (y:Lk.Sym):Bool:=!decide (y.bind=0) && !decide (y.sect=0)
def wanted (y:Lk.Sym):Bool:=decide (y.bind=1) && decide (y.sect=0)
def wants (os:List Lk.Obj) (n:List UInt8):Bool:=os.any fun o=>o.syms.any fun y=>decide (y.name=n) && wanted y
def has (os:List Lk.Obj) (n:List UInt8):Bool:=os.any fun o=>o.syms.any fun y=>decide (y.name=n) && defines y
def needs (os:List Lk.Obj) (o:Lk.Obj):Bool:=o.syms.any fun y=>defines y && (wants os y.name && !has os y.name)

/-- the first symbol of this name and binding that is defined -/
def findIn (n:List UInt8) (bind:Int):List Lk.Sym→Option (Int×Int)
 | []=>none
 | y :: ys=>if y.name=n∧y.bind=bind∧y.sect≠0 then some (y.sect,y.off) else findIn n bind ys
def findAt (n:List UInt8) (bind:Int):Nat→List Lk.Obj→Spot
 | _,[]=>none_
 | i,o :: os=>match findIn n bind o.syms with
  | some (s,f)=>⟨some i,s,f⟩
  | none=>findAt n bind (i+1) os
def find (os:List Lk.Obj) (n:List UInt8) (bind:Int):Spot:=findAt n bind 0 os
def named (os:List Lk.Obj) (n:List UInt8):Spot:=if (find os n 1).mod.isSome then find os n 1 else find os n 2
def meaning (os:List Lk.Obj) (i:Nat) (y:Lk.Sym):Spot:=if y.bind=0 then ⟨some i,y.sect,y.off⟩ else named os y.name

/-- a fault: its kind, place, name -/
structure Flt where
 e:Int
 at_:Int
 name:List UInt8
def ok:Flt:=⟨0,0,[]⟩
def twiceIn (os:List Lk.Obj) (i:Nat):List Lk.Sym→Option Flt
 | []=>none
 | y :: ys=>if y.bind≠1∨y.sect=0 then twiceIn os i ys else if (find (os.take i) y.name 1).mod.isSome then some ⟨33,i,y.name⟩ else twiceIn os i ys
def twiceAt (os:List Lk.Obj):Nat→List Lk.Obj→Flt
 | _,[]=>ok
 | i,o :: r=>match twiceIn os i o.syms with
  | some f=>f
  | none=>twiceAt os (i+1) r
def checkTwice (os:List Lk.Obj):Flt:=twiceAt os 0 os
def wantedIn (os:List Lk.Obj) (i:Nat):List Lk.Sym→Option Flt
 | []=>none
 | y :: ys=>if wanted y=false then wantedIn os i ys else if (named os y.name).mod.isSome then wantedIn os i ys else some ⟨34,i,y.name⟩
def wantedAt (os:List Lk.Obj):Nat→List Lk.Obj→Flt
 | _,[]=>ok
 | i,o :: r=>match wantedIn os i o.syms with
  | some f=>f
  | none=>wantedAt os (i+1) r
def checkWanted (os:List Lk.Obj):Flt:=wantedAt os 0 os

/-- one going through the members of an archive: which are taken, the objects, whether one was taken -/
def pass:List (Lk.Obj×Bool)→List Lk.Obj→List (Lk.Obj×Bool)×List Lk.Obj×Bool
 | [],os=>([],os,false)
 | (o,t) :: r,os=>if t=false∧needs os o=true then ((o,true) :: (pass r (os ++ [o])).1,(pass r (os ++ [o])).2.1,true) else ((o,t) :: (pass r os).1,(pass r os).2.1,(pass r os).2.2)
def takeArch:Nat→List (Lk.Obj×Bool)→List Lk.Obj→List Lk.Obj
 | 0,_,os=>os
 | k+1,ms,os=>if (pass ms os).2.2=true then takeArch k (pass ms os).1 (pass ms os).2.1 else (pass ms os).2.1

/-- the relocation about the word at off of a section, and its number -/
def relocAt (sect off:Int):Nat→List Lk.Rel→Int×Lk.Rel
 | _,[]=>(0,⟨0,0,0,0,0⟩)
 | i,r :: rs=>if r.sect=sect∧r.off≤off∧off < r.off+4 * spanI r then (i,r) else relocAt sect off (i+1) rs
def isShort (sh:List Bool) (i:Int):Bool:=decide (0≤i) && sh.getD i.toNat false
def rup (a b:Int):Int:=bits .andNot .i64 (a+b - 1) (b - 1)
def stays (m:Mod) (sect off at_:Int):Bool :=
 if (relocAt sect off 0 m.obj.rels).2.kind=6 then !decide (rup at_ ((relocAt sect off 0 m.obj.rels).2.addend+4)=at_)
 else if (relocAt sect off 0 m.obj.rels).2.kind=4 then decide (off=(relocAt sect off 0 m.obj.rels).2.off) || !isShort m.short (relocAt sect off 0 m.obj.rels).1
 else true
/-- where each word of a section lies, and last where it ends -/
def placesFrom (m:Mod) (sect:Int):Nat→List Int→Int→List Int
 | _,[],at_=>[at_]
 | i,_ :: ws,at_=>at_ :: placesFrom m sect (i+1) ws (if stays m sect (4 * i) at_ then at_+4 else at_)
def endFrom (m:Mod) (sect:Int):Nat→List Int→Int→Int
 | _,[],at_=>at_
 | i,_ :: ws,at_=>endFrom m sect (i+1) ws (if stays m sect (4 * i) at_ then at_+4 else at_)
def border (o:Lk.Obj) (sect:Nat):Int:=borderI (o.align.getD (sect - 1) 0)
def begin_ (m:Mod) (sect:Nat) (from_:Int):Int:=rup from_ (border m.obj sect)
def layEnd (m:Mod) (sect:Nat) (from_:Int):Int:=endFrom m sect 0 (wordsOf m.obj sect) (begin_ m sect from_)
def layPlaces (m:Mod) (sect:Nat) (from_:Int):List Int:=placesFrom m sect 0 (wordsOf m.obj sect) (begin_ m sect from_)
def layOne (m:Mod) (t f d:Int):Mod:={ m with text:=layPlaces m 1 t,far:=layPlaces m 2 f,data:=rup d (border m.obj 3) }
def layMods:List Mod→Int→Int→Int→List Mod
 | [],_,_,_=>[]
 | m :: ms,t,f,d=>layOne m t f d :: layMods ms (layEnd m 1 t) (layEnd m 2 f) (rup d (border m.obj 3)+4 * m.obj.data.length)
def dataEnd:List Mod→Int→Int
 | [],d=>d
 | m :: ms,d=>dataEnd ms (rup d (border m.obj 3)+4 * m.obj.data.length)
def layBss:List Mod→Int→List Mod
 | [],_=>[]
 | m :: ms,b=>{ m with bss:=rup b (border m.obj 4) } :: layBss ms (rup b (border m.obj 4)+4 * m.obj.bss)
def bssEnd:List Mod→Int→Int
 | [],b=>b
 | m :: ms,b=>bssEnd ms (rup b (border m.obj 4)+4 * m.obj.bss)
def lay (t f d:Int) (ms:List Mod):List Mod:=layBss (layMods ms t f d) (dataEnd ms d)
def noughts (d:Int) (ms:List Mod):Int:=(bssEnd ms (dataEnd ms d) - dataEnd ms d) / 4

def placeOf (ps:List Int) (off:Int):Int:=if off.tdiv 4 < 0 then 0 else ps.getD (off.tdiv 4).toNat 0
def address (m:Mod) (sect off:Int):Int :=
 if sect=1 then placeOf m.text off else if sect=2 then placeOf m.far off else if sect=3 then m.data+off else if sect=4 then m.bss+off else 0
def spotAddr (ms:List Mod) (s:Spot):Int:=match s.mod with
 | none=>0
 | some i=>match ms[i]? with
  | none=>0
  | some m=>address m s.sect s.off
def target (ms:List Mod) (m:Mod) (r:Lk.Rel):Int:=if r.sym < 0∨(m.means.length:Int)≤r.sym then 0 else spotAddr ms (m.means.getD r.sym.toNat none_)
def distance (ms:List Mod) (m:Mod) (r:Lk.Rel):Int:=target ms m r - address m r.sect r.off
def shortOne (ms:List Mod) (m:Mod) (r:Lk.Rel):Bool:=decide (r.kind=4) && (decide (-1015808 < distance ms m r) && decide (distance ms m r < 1015808))
def shorten (ms:List Mod):List Mod:=ms.map fun m=>{ m with short:=m.obj.rels.map (shortOne ms m) }
def layout (t f d:Int) (ms:List Mod):List Mod:=lay t f d (shorten (lay t f d ms))
end Ln
end Go.Proofs.YtnfgdlkiialnnaaGreatDoor

namespace Go.Proofs.YtnfgdlkiialnnaaGreatDoor
open Go.RowKit

def Branch0 (n:Int):Prop:=n % 128=99∧(n / 4096 % 8=0∨n / 4096 % 8=1∨n / 4096 % 8=4∨n / 4096 % 8=5∨n / 4096 % 8=6∨n / 4096 % 8=7)∧n / 33554432=0∧n / 128 % 32=0
def Jal0 (n:Int):Prop:=n % 128=111∧n / 4096=0
def Upper0 (opc n:Int):Prop:=n % 128=opc∧n / 4096=0
def Short0 (opc f n:Int):Prop:=n % 128=opc∧n / 4096 % 8=f∧n / 1048576=0
def Store0 (n:Int):Prop:=n % 128=35∧n / 4096 % 8=2∧n / 33554432=0∧n / 128 % 32=0

theorem is_1 (n:Int) (h0:0≤n) (h1:n≤4294967295):Is 1 n↔n % 128=55:=by
 show bits .and .i64 n 127=55↔_
 rw [mask7 n h0 h1]
theorem is_2 (n:Int) (h0:0≤n) (h1:n≤4294967295):Is 2 n↔n % 128=23:=by
 show bits .and .i64 n 127=23↔_
 rw [mask7 n h0 h1]
theorem is_3 (n:Int) (h0:0≤n) (h1:n≤4294967295):Is 3 n↔n % 128=111:=by
 show bits .and .i64 n 127=111↔_
 rw [mask7 n h0 h1]
theorem is_4 (n:Int) (h0:0≤n) (h1:n≤4294967295):Is 4 n↔n % 128+4096 * (n / 4096 % 8)=103:=by
 show bits .and .i64 n 28799=103↔_
 rw [mask3 n h0 h1]
theorem is_5 (n:Int) (h0:0≤n) (h1:n≤4294967295):Is 5 n↔n % 128+4096 * (n / 4096 % 8)=99:=by
 show bits .and .i64 n 28799=99↔_
 rw [mask3 n h0 h1]
theorem is_6 (n:Int) (h0:0≤n) (h1:n≤4294967295):Is 6 n↔n % 128+4096 * (n / 4096 % 8)=4195:=by
 show bits .and .i64 n 28799=4195↔_
 rw [mask3 n h0 h1]
theorem is_7 (n:Int) (h0:0≤n) (h1:n≤4294967295):Is 7 n↔n % 128+4096 * (n / 4096 % 8)=16483:=by
 show bits .and .i64 n 28799=16483↔_
 rw [mask3 n h0 h1]
theorem is_8 (n:Int) (h0:0≤n) (h1:n≤4294967295):Is 8 n↔n % 128+4096 * (n / 4096 % 8)=20579:=by
 show bits .and .i64 n 28799=20579↔_
 rw [mask3 n h0 h1]
theorem is_9 (n:Int) (h0:0≤n) (h1:n≤4294967295):Is 9 n↔n % 128+4096 * (n / 4096 % 8)=24675:=by
 show bits .and .i64 n 28799=24675↔_
 rw [mask3 n h0 h1]
theorem is_10 (n:Int) (h0:0≤n) (h1:n≤4294967295):Is 10 n↔n % 128+4096 * (n / 4096 % 8)=28771:=by
 show bits .and .i64 n 28799=28771↔_
 rw [mask3 n h0 h1]
theorem is_11 (n:Int) (h0:0≤n) (h1:n≤4294967295):Is 11 n↔n % 128+4096 * (n / 4096 % 8)=8195:=by
 show bits .and .i64 n 28799=8195↔_
 rw [mask3 n h0 h1]
theorem is_12 (n:Int) (h0:0≤n) (h1:n≤4294967295):Is 12 n↔n % 128+4096 * (n / 4096 % 8)=8227:=by
 show bits .and .i64 n 28799=8227↔_
 rw [mask3 n h0 h1]
theorem is_13 (n:Int) (h0:0≤n) (h1:n≤4294967295):Is 13 n↔n % 128+4096 * (n / 4096 % 8)=19:=by
 show bits .and .i64 n 28799=19↔_
 rw [mask3 n h0 h1]
theorem is_14 (n:Int) (h0:0≤n) (h1:n≤4294967295):Is 14 n↔n % 128+4096 * (n / 4096 % 8)=8211:=by
 show bits .and .i64 n 28799=8211↔_
 rw [mask3 n h0 h1]
theorem is_15 (n:Int) (h0:0≤n) (h1:n≤4294967295):Is 15 n↔n % 128+4096 * (n / 4096 % 8)=16403:=by
 show bits .and .i64 n 28799=16403↔_
 rw [mask3 n h0 h1]
theorem is_16 (n:Int) (h0:0≤n) (h1:n≤4294967295):Is 16 n↔n % 128+4096 * (n / 4096 % 8)=24595:=by
 show bits .and .i64 n 28799=24595↔_
 rw [mask3 n h0 h1]
theorem is_17 (n:Int) (h0:0≤n) (h1:n≤4294967295):Is 17 n↔n % 128+4096 * (n / 4096 % 8)=28691:=by
 show bits .and .i64 n 28799=28691↔_
 rw [mask3 n h0 h1]
theorem is_18 (n:Int) (h0:0≤n) (h1:n≤4294967295):Is 18 n↔n % 128+4096 * (n / 4096 % 8)+33554432 * (n / 33554432)=51:=by
 show bits .and .i64 n 4261441663=51↔_
 rw [maskR n h0 h1]
theorem is_19 (n:Int) (h0:0≤n) (h1:n≤4294967295):Is 19 n↔n % 128+4096 * (n / 4096 % 8)+33554432 * (n / 33554432)=1073741875:=by
 show bits .and .i64 n 4261441663=1073741875↔_
 rw [maskR n h0 h1]
theorem is_20 (n:Int) (h0:0≤n) (h1:n≤4294967295):Is 20 n↔n % 128+4096 * (n / 4096 % 8)+33554432 * (n / 33554432)=8243:=by
 show bits .and .i64 n 4261441663=8243↔_
 rw [maskR n h0 h1]
theorem is_21 (n:Int) (h0:0≤n) (h1:n≤4294967295):Is 21 n↔n % 128+4096 * (n / 4096 % 8)+33554432 * (n / 33554432)=12339:=by
 show bits .and .i64 n 4261441663=12339↔_
 rw [maskR n h0 h1]
theorem is_22 (n:Int) (h0:0≤n) (h1:n≤4294967295):Is 22 n↔n % 128+4096 * (n / 4096 % 8)+33554432 * (n / 33554432)=16435:=by
 show bits .and .i64 n 4261441663=16435↔_
 rw [maskR n h0 h1]
theorem is_23 (n:Int) (h0:0≤n) (h1:n≤4294967295):Is 23 n↔n % 128+4096 * (n / 4096 % 8)+33554432 * (n / 33554432)=24627:=by
 show bits .and .i64 n 4261441663=24627↔_
 rw [maskR n h0 h1]
theorem is_24 (n:Int) (h0:0≤n) (h1:n≤4294967295):Is 24 n↔n % 128+4096 * (n / 4096 % 8)+33554432 * (n / 33554432)=28723:=by
 show bits .and .i64 n 4261441663=28723↔_
 rw [maskR n h0 h1]
theorem is_25 (n:Int) (h0:0≤n) (h1:n≤4294967295):Is 25 n↔n=115:=by
 show bits .and .i64 n 4294967295=115↔_
 rw [maskW n h0 h1]

def DecFacts (n op rd rs1 m:Int):Prop :=
  ((5≤op∧op≤10∧m=0)↔Branch0 n)∧((op=3∧m=0)↔Jal0 n)∧((op=1∧m=0)↔Upper0 55 n)∧((op=2∧m=0)↔Upper0 23 n) ∧
  ((op=4∧m=0)↔Short0 103 0 n)∧((op=11∧m=0)↔Short0 3 2 n)∧((op=12∧m=0)↔Store0 n)∧((op=13∧m=0)↔Short0 19 0 n) ∧
  ((op=1∨op=2)→rd=n / 128 % 32)∧((op=4∨op=11∨op=12∨op=13)→rs1=n / 32768 % 32)

theorem reg_low (n d:Int) (h0:0≤n) (h1:n≤4294967295) (hd:1≤d):bits .and .i64 (n / d) 31=n / d % 32:=by
 have a:0≤n / d:=Int.ediv_nonneg h0 (by omega)
 have b:n / d≤n:=Int.ediv_le_self d h0
 exact low (n / d) 5 (by decide) 31 32 rfl rfl a (by omega)

theorem dec_no (n:Int) (h0:0≤n) (h1:n≤4294967295) (h:∀ k,1≤k→k≤25→¬ Is k n):DecFacts n 0 0 0 0:=by
 have i1:=h 1 (by decide) (by decide)
 rw [is_1 n h0 h1] at i1
 have i2:=h 2 (by decide) (by decide)
 rw [is_2 n h0 h1] at i2
 have i3:=h 3 (by decide) (by decide)
 rw [is_3 n h0 h1] at i3
 have i4:=h 4 (by decide) (by decide)
 rw [is_4 n h0 h1] at i4
 have i5:=h 5 (by decide) (by decide)
 rw [is_5 n h0 h1] at i5
 have i6:=h 6 (by decide) (by decide)
 rw [is_6 n h0 h1] at i6
 have i7:=h 7 (by decide) (by decide)
 rw [is_7 n h0 h1] at i7
 have i8:=h 8 (by decide) (by decide)
 rw [is_8 n h0 h1] at i8
 have i9:=h 9 (by decide) (by decide)
 rw [is_9 n h0 h1] at i9
 have i10:=h 10 (by decide) (by decide)
 rw [is_10 n h0 h1] at i10
 have i11:=h 11 (by decide) (by decide)
 rw [is_11 n h0 h1] at i11
 have i12:=h 12 (by decide) (by decide)
 rw [is_12 n h0 h1] at i12
 have i13:=h 13 (by decide) (by decide)
 rw [is_13 n h0 h1] at i13
 clear h
 unfold DecFacts Branch0 Jal0 Upper0 Short0 Store0
 refine ⟨?_,?_,?_,?_,?_,?_,?_,?_,?_,?_⟩ <;> omega

theorem dec_1 (n m:Int) (h0:0≤n) (h1:n≤4294967295) (hi:Is 1 n) (_hm:m=0↔NumZero 1 n):DecFacts n 1 (rdF 1 n) (rs1F 1 n) m:=by
 rw [is_1 n h0 h1] at hi
 have hz:NumZero 1 n↔n / 4096=0:=by simp [NumZero]
 rw [hz] at _hm
 have hrd:rdF 1 n=n / 128 % 32:=by rw [← reg_low n 128 h0 h1 (by decide)]; rfl
 have hrs:rs1F 1 n=0:=by rfl
 unfold DecFacts Branch0 Jal0 Upper0 Short0 Store0
 rw [hrd,hrs]
 clear hz
 refine ⟨?_,?_,?_,?_,?_,?_,?_,?_,?_,?_⟩ <;> omega
theorem dec_2 (n m:Int) (h0:0≤n) (h1:n≤4294967295) (hi:Is 2 n) (_hm:m=0↔NumZero 1 n):DecFacts n 2 (rdF 1 n) (rs1F 1 n) m:=by
 rw [is_2 n h0 h1] at hi
 have hz:NumZero 1 n↔n / 4096=0:=by simp [NumZero]
 rw [hz] at _hm
 have hrd:rdF 1 n=n / 128 % 32:=by rw [← reg_low n 128 h0 h1 (by decide)]; rfl
 have hrs:rs1F 1 n=0:=by rfl
 unfold DecFacts Branch0 Jal0 Upper0 Short0 Store0
 rw [hrd,hrs]
 clear hz
 refine ⟨?_,?_,?_,?_,?_,?_,?_,?_,?_,?_⟩ <;> omega
theorem dec_3 (n m:Int) (h0:0≤n) (h1:n≤4294967295) (hi:Is 3 n) (_hm:m=0↔NumZero 2 n):DecFacts n 3 (rdF 2 n) (rs1F 2 n) m:=by
 rw [is_3 n h0 h1] at hi
 have hz:NumZero 2 n↔n / 4096=0:=by simp [NumZero]
 rw [hz] at _hm
 have hrd:rdF 2 n=n / 128 % 32:=by rw [← reg_low n 128 h0 h1 (by decide)]; rfl
 have hrs:rs1F 2 n=0:=by rfl
 unfold DecFacts Branch0 Jal0 Upper0 Short0 Store0
 rw [hrd,hrs]
 clear hz
 refine ⟨?_,?_,?_,?_,?_,?_,?_,?_,?_,?_⟩ <;> omega
theorem dec_4 (n m:Int) (h0:0≤n) (h1:n≤4294967295) (hi:Is 4 n) (_hm:m=0↔NumZero 3 n):DecFacts n 4 (rdF 3 n) (rs1F 3 n) m:=by
 rw [is_4 n h0 h1] at hi
 have hz:NumZero 3 n↔n / 1048576=0:=by simp [NumZero]
 rw [hz] at _hm
 have hrd:rdF 3 n=n / 128 % 32:=by rw [← reg_low n 128 h0 h1 (by decide)]; rfl
 have hrs:rs1F 3 n=n / 32768 % 32:=by rw [← reg_low n 32768 h0 h1 (by decide)]; rfl
 unfold DecFacts Branch0 Jal0 Upper0 Short0 Store0
 rw [hrd,hrs]
 clear hz
 refine ⟨?_,?_,?_,?_,?_,?_,?_,?_,?_,?_⟩ <;> omega
theorem dec_5 (n m:Int) (h0:0≤n) (h1:n≤4294967295) (hi:Is 5 n) (_hm:m=0↔NumZero 4 n):DecFacts n 5 (rdF 4 n) (rs1F 4 n) m:=by
 rw [is_5 n h0 h1] at hi
 have hz:NumZero 4 n↔n / 33554432=0∧n / 128 % 32=0:=by simp [NumZero]
 rw [hz] at _hm
 have hrd:rdF 4 n=0:=by rfl
 have hrs:rs1F 4 n=n / 32768 % 32:=by rw [← reg_low n 32768 h0 h1 (by decide)]; rfl
 unfold DecFacts Branch0 Jal0 Upper0 Short0 Store0
 rw [hrd,hrs]
 clear hz
 refine ⟨?_,?_,?_,?_,?_,?_,?_,?_,?_,?_⟩ <;> omega
theorem dec_6 (n m:Int) (h0:0≤n) (h1:n≤4294967295) (hi:Is 6 n) (_hm:m=0↔NumZero 4 n):DecFacts n 6 (rdF 4 n) (rs1F 4 n) m:=by
 rw [is_6 n h0 h1] at hi
 have hz:NumZero 4 n↔n / 33554432=0∧n / 128 % 32=0:=by simp [NumZero]
 rw [hz] at _hm
 have hrd:rdF 4 n=0:=by rfl
 have hrs:rs1F 4 n=n / 32768 % 32:=by rw [← reg_low n 32768 h0 h1 (by decide)]; rfl
 unfold DecFacts Branch0 Jal0 Upper0 Short0 Store0
 rw [hrd,hrs]
 clear hz
 refine ⟨?_,?_,?_,?_,?_,?_,?_,?_,?_,?_⟩ <;> omega
theorem dec_7 (n m:Int) (h0:0≤n) (h1:n≤4294967295) (hi:Is 7 n) (_hm:m=0↔NumZero 4 n):DecFacts n 7 (rdF 4 n) (rs1F 4 n) m:=by
 rw [is_7 n h0 h1] at hi
 have hz:NumZero 4 n↔n / 33554432=0∧n / 128 % 32=0:=by simp [NumZero]
 rw [hz] at _hm
 have hrd:rdF 4 n=0:=by rfl
 have hrs:rs1F 4 n=n / 32768 % 32:=by rw [← reg_low n 32768 h0 h1 (by decide)]; rfl
 unfold DecFacts Branch0 Jal0 Upper0 Short0 Store0
 rw [hrd,hrs]
 clear hz
 refine ⟨?_,?_,?_,?_,?_,?_,?_,?_,?_,?_⟩ <;> omega
theorem dec_8 (n m:Int) (h0:0≤n) (h1:n≤4294967295) (hi:Is 8 n) (_hm:m=0↔NumZero 4 n):DecFacts n 8 (rdF 4 n) (rs1F 4 n) m:=by
 rw [is_8 n h0 h1] at hi
 have hz:NumZero 4 n↔n / 33554432=0∧n / 128 % 32=0:=by simp [NumZero]
 rw [hz] at _hm
 have hrd:rdF 4 n=0:=by rfl
 have hrs:rs1F 4 n=n / 32768 % 32:=by rw [← reg_low n 32768 h0 h1 (by decide)]; rfl
 unfold DecFacts Branch0 Jal0 Upper0 Short0 Store0
 rw [hrd,hrs]
 clear hz
 refine ⟨?_,?_,?_,?_,?_,?_,?_,?_,?_,?_⟩ <;> omega
theorem dec_9 (n m:Int) (h0:0≤n) (h1:n≤4294967295) (hi:Is 9 n) (_hm:m=0↔NumZero 4 n):DecFacts n 9 (rdF 4 n) (rs1F 4 n) m:=by
 rw [is_9 n h0 h1] at hi
 have hz:NumZero 4 n↔n / 33554432=0∧n / 128 % 32=0:=by simp [NumZero]
 rw [hz] at _hm
 have hrd:rdF 4 n=0:=by rfl
 have hrs:rs1F 4 n=n / 32768 % 32:=by rw [← reg_low n 32768 h0 h1 (by decide)]; rfl
 unfold DecFacts Branch0 Jal0 Upper0 Short0 Store0
 rw [hrd,hrs]
 clear hz
 refine ⟨?_,?_,?_,?_,?_,?_,?_,?_,?_,?_⟩ <;> omega
theorem dec_10 (n m:Int) (h0:0≤n) (h1:n≤4294967295) (hi:Is 10 n) (_hm:m=0↔NumZero 4 n):DecFacts n 10 (rdF 4 n) (rs1F 4 n) m:=by
 rw [is_10 n h0 h1] at hi
 have hz:NumZero 4 n↔n / 33554432=0∧n / 128 % 32=0:=by simp [NumZero]
 rw [hz] at _hm
 have hrd:rdF 4 n=0:=by rfl
 have hrs:rs1F 4 n=n / 32768 % 32:=by rw [← reg_low n 32768 h0 h1 (by decide)]; rfl
 unfold DecFacts Branch0 Jal0 Upper0 Short0 Store0
 rw [hrd,hrs]
 clear hz
 refine ⟨?_,?_,?_,?_,?_,?_,?_,?_,?_,?_⟩ <;> omega
theorem dec_11 (n m:Int) (h0:0≤n) (h1:n≤4294967295) (hi:Is 11 n) (_hm:m=0↔NumZero 3 n):DecFacts n 11 (rdF 3 n) (rs1F 3 n) m:=by
 rw [is_11 n h0 h1] at hi
 have hz:NumZero 3 n↔n / 1048576=0:=by simp [NumZero]
 rw [hz] at _hm
 have hrd:rdF 3 n=n / 128 % 32:=by rw [← reg_low n 128 h0 h1 (by decide)]; rfl
 have hrs:rs1F 3 n=n / 32768 % 32:=by rw [← reg_low n 32768 h0 h1 (by decide)]; rfl
 unfold DecFacts Branch0 Jal0 Upper0 Short0 Store0
 rw [hrd,hrs]
 clear hz
 refine ⟨?_,?_,?_,?_,?_,?_,?_,?_,?_,?_⟩ <;> omega
theorem dec_12 (n m:Int) (h0:0≤n) (h1:n≤4294967295) (hi:Is 12 n) (_hm:m=0↔NumZero 5 n):DecFacts n 12 (rdF 5 n) (rs1F 5 n) m:=by
 rw [is_12 n h0 h1] at hi
 have hz:NumZero 5 n↔n / 33554432=0∧n / 128 % 32=0:=by simp [NumZero]
 rw [hz] at _hm
 have hrd:rdF 5 n=0:=by rfl
 have hrs:rs1F 5 n=n / 32768 % 32:=by rw [← reg_low n 32768 h0 h1 (by decide)]; rfl
 unfold DecFacts Branch0 Jal0 Upper0 Short0 Store0
 rw [hrd,hrs]
 clear hz
 refine ⟨?_,?_,?_,?_,?_,?_,?_,?_,?_,?_⟩ <;> omega
theorem dec_13 (n m:Int) (h0:0≤n) (h1:n≤4294967295) (hi:Is 13 n) (_hm:m=0↔NumZero 3 n):DecFacts n 13 (rdF 3 n) (rs1F 3 n) m:=by
 rw [is_13 n h0 h1] at hi
 have hz:NumZero 3 n↔n / 1048576=0:=by simp [NumZero]
 rw [hz] at _hm
 have hrd:rdF 3 n=n / 128 % 32:=by rw [← reg_low n 128 h0 h1 (by decide)]; rfl
 have hrs:rs1F 3 n=n / 32768 % 32:=by rw [← reg_low n 32768 h0 h1 (by decide)]; rfl
 unfold DecFacts Branch0 Jal0 Upper0 Short0 Store0
 rw [hrd,hrs]
 clear hz
 refine ⟨?_,?_,?_,?_,?_,?_,?_,?_,?_,?_⟩ <;> omega
theorem dec_14 (n m:Int) (h0:0≤n) (h1:n≤4294967295) (hi:Is 14 n) (_hm:m=0↔NumZero 3 n):DecFacts n 14 (rdF 3 n) (rs1F 3 n) m:=by
 rw [is_14 n h0 h1] at hi
 have hz:NumZero 3 n↔n / 1048576=0:=by simp [NumZero]
 rw [hz] at _hm
 have hrd:rdF 3 n=n / 128 % 32:=by rw [← reg_low n 128 h0 h1 (by decide)]; rfl
 have hrs:rs1F 3 n=n / 32768 % 32:=by rw [← reg_low n 32768 h0 h1 (by decide)]; rfl
 unfold DecFacts Branch0 Jal0 Upper0 Short0 Store0
 rw [hrd,hrs]
 clear hz
 refine ⟨?_,?_,?_,?_,?_,?_,?_,?_,?_,?_⟩ <;> omega
theorem dec_15 (n m:Int) (h0:0≤n) (h1:n≤4294967295) (hi:Is 15 n) (_hm:m=0↔NumZero 3 n):DecFacts n 15 (rdF 3 n) (rs1F 3 n) m:=by
 rw [is_15 n h0 h1] at hi
 have hz:NumZero 3 n↔n / 1048576=0:=by simp [NumZero]
 rw [hz] at _hm
 have hrd:rdF 3 n=n / 128 % 32:=by rw [← reg_low n 128 h0 h1 (by decide)]; rfl
 have hrs:rs1F 3 n=n / 32768 % 32:=by rw [← reg_low n 32768 h0 h1 (by decide)]; rfl
 unfold DecFacts Branch0 Jal0 Upper0 Short0 Store0
 rw [hrd,hrs]
 clear hz
 refine ⟨?_,?_,?_,?_,?_,?_,?_,?_,?_,?_⟩ <;> omega
theorem dec_16 (n m:Int) (h0:0≤n) (h1:n≤4294967295) (hi:Is 16 n) (_hm:m=0↔NumZero 3 n):DecFacts n 16 (rdF 3 n) (rs1F 3 n) m:=by
 rw [is_16 n h0 h1] at hi
 have hz:NumZero 3 n↔n / 1048576=0:=by simp [NumZero]
 rw [hz] at _hm
 have hrd:rdF 3 n=n / 128 % 32:=by rw [← reg_low n 128 h0 h1 (by decide)]; rfl
 have hrs:rs1F 3 n=n / 32768 % 32:=by rw [← reg_low n 32768 h0 h1 (by decide)]; rfl
 unfold DecFacts Branch0 Jal0 Upper0 Short0 Store0
 rw [hrd,hrs]
 clear hz
 refine ⟨?_,?_,?_,?_,?_,?_,?_,?_,?_,?_⟩ <;> omega
theorem dec_17 (n m:Int) (h0:0≤n) (h1:n≤4294967295) (hi:Is 17 n) (_hm:m=0↔NumZero 3 n):DecFacts n 17 (rdF 3 n) (rs1F 3 n) m:=by
 rw [is_17 n h0 h1] at hi
 have hz:NumZero 3 n↔n / 1048576=0:=by simp [NumZero]
 rw [hz] at _hm
 have hrd:rdF 3 n=n / 128 % 32:=by rw [← reg_low n 128 h0 h1 (by decide)]; rfl
 have hrs:rs1F 3 n=n / 32768 % 32:=by rw [← reg_low n 32768 h0 h1 (by decide)]; rfl
 unfold DecFacts Branch0 Jal0 Upper0 Short0 Store0
 rw [hrd,hrs]
 clear hz
 refine ⟨?_,?_,?_,?_,?_,?_,?_,?_,?_,?_⟩ <;> omega
theorem dec_18 (n m:Int) (h0:0≤n) (h1:n≤4294967295) (hi:Is 18 n) (_hm:m=0↔NumZero 6 n):DecFacts n 18 (rdF 6 n) (rs1F 6 n) m:=by
 rw [is_18 n h0 h1] at hi
 have hz:NumZero 6 n↔True:=by simp [NumZero]
 rw [hz] at _hm
 have hrd:rdF 6 n=n / 128 % 32:=by rw [← reg_low n 128 h0 h1 (by decide)]; rfl
 have hrs:rs1F 6 n=n / 32768 % 32:=by rw [← reg_low n 32768 h0 h1 (by decide)]; rfl
 unfold DecFacts Branch0 Jal0 Upper0 Short0 Store0
 rw [hrd,hrs]
 simp only [iff_true] at _hm
 refine ⟨?_,?_,?_,?_,?_,?_,?_,?_,?_,?_⟩ <;> omega
theorem dec_19 (n m:Int) (h0:0≤n) (h1:n≤4294967295) (hi:Is 19 n) (_hm:m=0↔NumZero 6 n):DecFacts n 19 (rdF 6 n) (rs1F 6 n) m:=by
 rw [is_19 n h0 h1] at hi
 have hz:NumZero 6 n↔True:=by simp [NumZero]
 rw [hz] at _hm
 have hrd:rdF 6 n=n / 128 % 32:=by rw [← reg_low n 128 h0 h1 (by decide)]; rfl
 have hrs:rs1F 6 n=n / 32768 % 32:=by rw [← reg_low n 32768 h0 h1 (by decide)]; rfl
 unfold DecFacts Branch0 Jal0 Upper0 Short0 Store0
 rw [hrd,hrs]
 simp only [iff_true] at _hm
 refine ⟨?_,?_,?_,?_,?_,?_,?_,?_,?_,?_⟩ <;> omega
theorem dec_20 (n m:Int) (h0:0≤n) (h1:n≤4294967295) (hi:Is 20 n) (_hm:m=0↔NumZero 6 n):DecFacts n 20 (rdF 6 n) (rs1F 6 n) m:=by
 rw [is_20 n h0 h1] at hi
 have hz:NumZero 6 n↔True:=by simp [NumZero]
 rw [hz] at _hm
 have hrd:rdF 6 n=n / 128 % 32:=by rw [← reg_low n 128 h0 h1 (by decide)]; rfl
 have hrs:rs1F 6 n=n / 32768 % 32:=by rw [← reg_low n 32768 h0 h1 (by decide)]; rfl
 unfold DecFacts Branch0 Jal0 Upper0 Short0 Store0
 rw [hrd,hrs]
 simp only [iff_true] at _hm
 refine ⟨?_,?_,?_,?_,?_,?_,?_,?_,?_,?_⟩ <;> omega
theorem dec_21 (n m:Int) (h0:0≤n) (h1:n≤4294967295) (hi:Is 21 n) (_hm:m=0↔NumZero 6 n):DecFacts n 21 (rdF 6 n) (rs1F 6 n) m:=by
 rw [is_21 n h0 h1] at hi
 have hz:NumZero 6 n↔True:=by simp [NumZero]
 rw [hz] at _hm
 have hrd:rdF 6 n=n / 128 % 32:=by rw [← reg_low n 128 h0 h1 (by decide)]; rfl
 have hrs:rs1F 6 n=n / 32768 % 32:=by rw [← reg_low n 32768 h0 h1 (by decide)]; rfl
 unfold DecFacts Branch0 Jal0 Upper0 Short0 Store0
 rw [hrd,hrs]
 simp only [iff_true] at _hm
 refine ⟨?_,?_,?_,?_,?_,?_,?_,?_,?_,?_⟩ <;> omega
theorem dec_22 (n m:Int) (h0:0≤n) (h1:n≤4294967295) (hi:Is 22 n) (_hm:m=0↔NumZero 6 n):DecFacts n 22 (rdF 6 n) (rs1F 6 n) m:=by
 rw [is_22 n h0 h1] at hi
 have hz:NumZero 6 n↔True:=by simp [NumZero]
 rw [hz] at _hm
 have hrd:rdF 6 n=n / 128 % 32:=by rw [← reg_low n 128 h0 h1 (by decide)]; rfl
 have hrs:rs1F 6 n=n / 32768 % 32:=by rw [← reg_low n 32768 h0 h1 (by decide)]; rfl
 unfold DecFacts Branch0 Jal0 Upper0 Short0 Store0
 rw [hrd,hrs]
 simp only [iff_true] at _hm
 refine ⟨?_,?_,?_,?_,?_,?_,?_,?_,?_,?_⟩ <;> omega
theorem dec_23 (n m:Int) (h0:0≤n) (h1:n≤4294967295) (hi:Is 23 n) (_hm:m=0↔NumZero 6 n):DecFacts n 23 (rdF 6 n) (rs1F 6 n) m:=by
 rw [is_23 n h0 h1] at hi
 have hz:NumZero 6 n↔True:=by simp [NumZero]
 rw [hz] at _hm
 have hrd:rdF 6 n=n / 128 % 32:=by rw [← reg_low n 128 h0 h1 (by decide)]; rfl
 have hrs:rs1F 6 n=n / 32768 % 32:=by rw [← reg_low n 32768 h0 h1 (by decide)]; rfl
 unfold DecFacts Branch0 Jal0 Upper0 Short0 Store0
 rw [hrd,hrs]
 simp only [iff_true] at _hm
 refine ⟨?_,?_,?_,?_,?_,?_,?_,?_,?_,?_⟩ <;> omega
theorem dec_24 (n m:Int) (h0:0≤n) (h1:n≤4294967295) (hi:Is 24 n) (_hm:m=0↔NumZero 6 n):DecFacts n 24 (rdF 6 n) (rs1F 6 n) m:=by
 rw [is_24 n h0 h1] at hi
 have hz:NumZero 6 n↔True:=by simp [NumZero]
 rw [hz] at _hm
 have hrd:rdF 6 n=n / 128 % 32:=by rw [← reg_low n 128 h0 h1 (by decide)]; rfl
 have hrs:rs1F 6 n=n / 32768 % 32:=by rw [← reg_low n 32768 h0 h1 (by decide)]; rfl
 unfold DecFacts Branch0 Jal0 Upper0 Short0 Store0
 rw [hrd,hrs]
 simp only [iff_true] at _hm
 refine ⟨?_,?_,?_,?_,?_,?_,?_,?_,?_,?_⟩ <;> omega
theorem dec_25 (n m:Int) (h0:0≤n) (h1:n≤4294967295) (hi:Is 25 n) (_hm:m=0↔NumZero 7 n):DecFacts n 25 (rdF 7 n) (rs1F 7 n) m:=by
 rw [is_25 n h0 h1] at hi
 have hz:NumZero 7 n↔True:=by simp [NumZero]
 rw [hz] at _hm
 have hrd:rdF 7 n=0:=by rfl
 have hrs:rs1F 7 n=0:=by rfl
 unfold DecFacts Branch0 Jal0 Upper0 Short0 Store0
 rw [hrd,hrs]
 simp only [iff_true] at _hm
 refine ⟨?_,?_,?_,?_,?_,?_,?_,?_,?_,?_⟩ <;> omega

theorem dec_facts (n op rd rs1 m:Int) (h0:0≤n) (h1:n≤4294967295) (h:Dec n op rd rs1 m):DecFacts n op rd rs1 m:=by
 rcases h with ⟨rfl,rfl,rfl,rfl,h⟩ | ⟨k,k1,k2,hi,-,rfl,rfl,rfl,hm⟩
 ·exact dec_no n h0 h1 h
 ·rcases (show k=1∨k=2∨k=3∨k=4∨k=5∨k=6∨k=7∨k=8∨k=9∨k=10∨k=11∨k=12∨k=13∨k=14∨k=15∨k=16∨k=17∨k=18∨k=19∨k=20∨k=21∨k=22∨k=23∨k=24∨k=25 from by omega) with rfl | rfl | rfl | rfl | rfl | rfl | rfl | rfl | rfl | rfl | rfl | rfl | rfl | rfl | rfl | rfl | rfl | rfl | rfl | rfl | rfl | rfl | rfl | rfl | rfl
  ·exact dec_1 n m h0 h1 hi hm
  ·exact dec_2 n m h0 h1 hi hm
  ·exact dec_3 n m h0 h1 hi hm
  ·exact dec_4 n m h0 h1 hi hm
  ·exact dec_5 n m h0 h1 hi hm
  ·exact dec_6 n m h0 h1 hi hm
  ·exact dec_7 n m h0 h1 hi hm
  ·exact dec_8 n m h0 h1 hi hm
  ·exact dec_9 n m h0 h1 hi hm
  ·exact dec_10 n m h0 h1 hi hm
  ·exact dec_11 n m h0 h1 hi hm
  ·exact dec_12 n m h0 h1 hi hm
  ·exact dec_13 n m h0 h1 hi hm
  ·exact dec_14 n m h0 h1 hi hm
  ·exact dec_15 n m h0 h1 hi hm
  ·exact dec_16 n m h0 h1 hi hm
  ·exact dec_17 n m h0 h1 hi hm
  ·exact dec_18 n m h0 h1 hi hm
  ·exact dec_19 n m h0 h1 hi hm
  ·exact dec_20 n m h0 h1 hi hm
  ·exact dec_21 n m h0 h1 hi hm
  ·exact dec_22 n m h0 h1 hi hm
  ·exact dec_23 n m h0 h1 hi hm
  ·exact dec_24 n m h0 h1 hi hm
  ·exact dec_25 n m h0 h1 hi hm

end Go.Proofs.YtnfgdlkiialnnaaGreatDoor

namespace Go.Proofs.YtnfgdlkiialnnaaGreatDoor
open Go.RowKit

def Nops (xs:List Int):Prop:=∀ i (h:i < xs.length),xs[i]=19

set_option maxHeartbeats 400000 in
theorem allNops_any (ao:Option Addr) (cap:Nat) (xs:List Int) (w:World) (h:IntsIn w ao xs) (hn:xs.length≤65535) :
  Calls Tryz.prog 224 #[.slice ao xs.length cap] w fun e w'=>Tells e (Nops xs)∧w'=w:=by
 have H:=hid h
 clear h
 go_enter Tryz.func224,Tryz.ntmps224
 go_wp2
 go_loop [7] (fun i=>∃ k:Nat,k≤xs.length∧i = .int .i64 k∧∀ j (hj:j < xs.length),j < k→xs[j]=19) (fun i=>xs.length - (intOf i).toNat)
 case atStart=>exact ⟨0,Nat.zero_le _,rfl,fun j _ hj=>absurd hj (Nat.not_lt_zero j)⟩
 case round =>
  obtain ⟨k,hk,rfl,hall⟩:=hrel
  have HA:=hid hall
  clear hall
  by_cases hlt:k < xs.length
  ·obtain ⟨g,off,rfl,hc⟩:=H.out (by omega)
   have hck:=hc k hlt
   clear hc
   by_cases h1:xs[k]=19
   ·have HE:=hid h1
    have d1:(xs[k] == 19)=true:=beq_iff_eq.2 h1
    clear h1
    go_wp2
    go_round
    case rel=>exact ⟨k+1,by omega,by go_num,fun j hj hjk=>(Nat.lt_succ_iff_lt_or_eq.1 hjk).elim (fun h=>HA.out j hj h) (fun h=>by subst h; exact HE.out)⟩
    case measure=>simp [intOf]; omega
   ·have N:=hid (show ¬ Nops xs from fun hw=>h1 (hw k hlt))
    have d1:(xs[k] == 19)=false:=beq_eq_false_iff_ne.2 h1
    clear h1
    go_wp2
    go_ret
    exact ⟨Tells.no N.out,rfl⟩
  ·go_wp2
   go_ret
   exact ⟨Tells.yes fun i hi=>HA.out i hi (by omega),rfl⟩

def PairP (kind op1 rd m1 op2 rs m2:Int):Prop:=(rd≠0∧rs=rd∧m1=0∧m2=0)∧(if kind=4 then op1=2∧op2=4 else op1=1∧(op2=13∨op2=11∨op2=12))

set_option maxHeartbeats 4000000 in
theorem pairGoes_any (kind op1 rd1 s1 t1 m1 op2 rd2 s2 t2 m2:Int) (w:World) :
  Calls Tryz.prog 223 #[.int .i64 kind,insV op1 rd1 s1 t1 m1,insV op2 rd2 s2 t2 m2] w fun e w'=>Tells e (PairP kind op1 rd1 m1 op2 s2 m2)∧w.grownBy w' none:=by
 have G1:=hid (fun o:Obj=>World.grownBy_alloc w o none)
 have G2:=hid (fun o o':Obj=>World.grownBy_alloc (w.alloc o) o' none)
 have HQ:=hid (show PairP kind op1 rd1 m1 op2 s2 m2↔(rd1≠0∧s2=rd1∧m1=0∧m2=0)∧(if kind=4 then op1=2∧op2=4 else op1=1∧(op2=13∨op2=11∨op2=12)) from Iff.rfl)
 generalize PairP kind op1 rd1 m1 op2 s2 m2=Q at *
 unfold insV
 by_cases c1:rd1=0
 ·have N:=hid (show ¬ Q from fun q=>(HQ.out.1 q).1.1 c1)
  subst c1
  clear HQ
  go_enter Tryz.func223,Tryz.ntmps223
  go_wp2
  go_ret
  exact ⟨Tells.no N.out,grown_trans (G1.out _) (G2.out _ _)⟩
 have d1:(rd1 == 0)=false:=beq_eq_false_iff_ne.2 c1
 by_cases c2:s2=rd1
 rotate_left
 ·have N:=hid (show ¬ Q from fun q=>c2 (HQ.out.1 q).1.2.1)
  have d2:(s2 != rd1)=true:=by simpa using c2
  clear HQ c1 c2
  go_enter Tryz.func223,Tryz.ntmps223
  go_wp2
  go_ret
  exact ⟨Tells.no N.out,grown_trans (G1.out _) (G2.out _ _)⟩
 subst c2
 have d2:(s2 == s2)=true:=by simp
 by_cases c3:m1=0
 rotate_left
 ·have N:=hid (show ¬ Q from fun q=>c3 (HQ.out.1 q).1.2.2.1)
  have d3:(m1 == 0)=false:=beq_eq_false_iff_ne.2 c3
  clear HQ c1 c3
  go_enter Tryz.func223,Tryz.ntmps223
  go_wp2
  go_ret
  exact ⟨Tells.no N.out,grown_trans (G1.out _) (G2.out _ _)⟩
 subst c3
 by_cases c4:m2=0
 rotate_left
 ·have N:=hid (show ¬ Q from fun q=>c4 (HQ.out.1 q).1.2.2.2)
  have d4:(m2 == 0)=false:=beq_eq_false_iff_ne.2 c4
  clear HQ c1 c4
  go_enter Tryz.func223,Tryz.ntmps223
  go_wp2
  go_ret
  exact ⟨Tells.no N.out,grown_trans (G1.out _) (G2.out _ _)⟩
 subst c4
 have C1:=hid c1
 clear c1
 by_cases k4:kind=4
 ·subst k4
  have HQ2:=hid (show Q↔op1=2∧op2=4 from by rw [HQ.out,if_pos rfl]; exact ⟨fun h=>h.2,fun h=>⟨⟨C1.out,rfl,rfl,rfl⟩,h⟩⟩)
  clear HQ
  by_cases o1:op1=2
  ·subst o1
   go_enter Tryz.func223,Tryz.ntmps223
   go_wp2
   go_ret
   exact ⟨Tells.of (by rw [HQ2.out,beq_iff_eq]; simp),grown_trans (G1.out _) (G2.out _ _)⟩
  ·have N:=hid (show ¬ Q from fun q=>o1 (HQ2.out.1 q).1)
   have d5:(op1 == 2)=false:=beq_eq_false_iff_ne.2 o1
   clear HQ2 o1
   go_enter Tryz.func223,Tryz.ntmps223
   go_wp2
   go_ret
   exact ⟨Tells.no N.out,grown_trans (G1.out _) (G2.out _ _)⟩
 ·have HQ2:=hid (show Q↔op1=1∧(op2=13∨op2=11∨op2=12) from by rw [HQ.out,if_neg k4]; exact ⟨fun h=>h.2,fun h=>⟨⟨C1.out,rfl,rfl,rfl⟩,h⟩⟩)
  have dk:(kind == 4)=false:=beq_eq_false_iff_ne.2 k4
  clear HQ k4
  by_cases o1:op1=1
  rotate_left
  ·have N:=hid (show ¬ Q from fun q=>o1 (HQ2.out.1 q).1)
   have d5:(op1 == 1)=false:=beq_eq_false_iff_ne.2 o1
   clear HQ2 o1
   go_enter Tryz.func223,Tryz.ntmps223
   go_wp2
   go_ret
   exact ⟨Tells.no N.out,grown_trans (G1.out _) (G2.out _ _)⟩
  subst o1
  by_cases o2:op2=13
  ·subst o2
   go_enter Tryz.func223,Tryz.ntmps223
   go_wp2
   go_ret
   exact ⟨Tells.yes (by rw [HQ2.out]; simp),grown_trans (G1.out _) (G2.out _ _)⟩
  have e2:(op2 == 13)=false:=beq_eq_false_iff_ne.2 o2
  by_cases o3:op2=11
  ·subst o3
   go_enter Tryz.func223,Tryz.ntmps223
   go_wp2
   go_ret
   exact ⟨Tells.yes (by rw [HQ2.out]; simp),grown_trans (G1.out _) (G2.out _ _)⟩
  have e3:(op2 == 11)=false:=beq_eq_false_iff_ne.2 o3
  have O:=hid (⟨o2,o3⟩:op2≠13∧op2≠11)
  clear o2 o3
  go_enter Tryz.func223,Tryz.ntmps223
  go_wp2
  go_ret
  exact ⟨Tells.of (by rw [HQ2.out,beq_iff_eq]; have:=O.out; simp; omega),grown_trans (G1.out _) (G2.out _ _)⟩

def PairW (kind a b:Int):Prop:=a / 128 % 32≠0∧b / 32768 % 32=a / 128 % 32∧(if kind=4 then Upper0 23 a∧Short0 103 0 b else Upper0 55 a∧(Short0 19 0 b∨Short0 3 2 b∨Store0 b))

theorem pair_words (kind a b op1 rd1 s1 m1 op2 rd2 s2 m2:Int) (h1:DecFacts a op1 rd1 s1 m1) (h2:DecFacts b op2 rd2 s2 m2):PairP kind op1 rd1 m1 op2 s2 m2↔PairW kind a b:=by
 obtain ⟨-,-,a1,a2,-,-,-,-,a9,-⟩:=h1
 obtain ⟨-,-,-,-,b4,b11,b12,b13,-,b10⟩:=h2
 unfold PairP PairW
 rw [← a1,← a2,← b4,← b11,← b12,← b13]
 split
 ·constructor
  ·rintro ⟨⟨x1,x2,x3,x4⟩,x5,x6⟩
   have y1:=a9 (.inr x5)
   have y2:=b10 (.inl x6)
   rw [← y1,← y2]
   exact ⟨x1,x2,⟨x5,x3⟩,x6,x4⟩
  ·rintro ⟨x1,x2,⟨x5,x3⟩,x6,x4⟩
   have y1:=a9 (.inr x5)
   have y2:=b10 (.inl x6)
   rw [← y1] at x1 x2
   rw [← y2] at x2
   exact ⟨⟨x1,x2,x3,x4⟩,x5,x6⟩
 ·constructor
  ·rintro ⟨⟨x1,x2,x3,x4⟩,x5,x6⟩
   have y1:=a9 (.inl x5)
   have y2:=b10 (by omega)
   rw [← y1,← y2]
   exact ⟨x1,x2,⟨x5,x3⟩,by omega⟩
  ·rintro ⟨x1,x2,⟨x5,x3⟩,x6⟩
   have y1:=a9 (.inl x5)
   have y2:=b10 (by omega)
   rw [← y1] at x1 x2
   rw [← y2] at x2
   exact ⟨⟨x1,x2,x3,by omega⟩,x5,by omega⟩

def GoesP (kind:Int) (xs:List Int):Prop :=
 if kind=1 then xs.getD 0 0=0 else if kind=2 then Branch0 (xs.getD 0 0) else if kind=3 then Jal0 (xs.getD 0 0) else if kind=4∨kind=5 then PairW kind (xs.getD 0 0) (xs.getD 1 0) else if kind=6 then Nops xs else False

end Go.Proofs.YtnfgdlkiialnnaaGreatDoor

namespace Go.Proofs.YtnfgdlkiialnnaaGreatDoor
open Go.RowKit

set_option maxHeartbeats 1000000 in
theorem wordsGo_nil (kind:Int) (w:World) :
  Calls Tryz.prog 216 #[.int .i64 kind,.slice none 0 0] w fun e w'=>e = .returned (.bool false)∧w'=w:=by
 go_enter Tryz.func216,Tryz.ntmps216
 go_wp2
 go_ret
 exact ⟨rfl,rfl⟩

set_option maxHeartbeats 4000000 in
theorem wordsGo_any (kind:Int) (ao:Option Addr) (cap:Nat) (xs:List Int) (w:World) (ht:Tabs w) (h:IntsIn w ao xs) (hw:Words xs) (hn:xs.length≤3) (hn1:1≤xs.length) (hk:1≤kind∧kind≤6) (h2:kind=4∨kind=5→xs.length=2) :
  Calls Tryz.prog 216 #[.int .i64 kind,.slice ao xs.length cap] w fun e w'=>Tells e (GoesP kind xs)∧w.grownBy w' none:=by
 obtain ⟨g,off,rfl,hc⟩:=h (by omega)
 have hx0:=hw 0 (by omega)
 have hgd:xs.getD 0 0=xs[0]:=by rw [List.getD_eq_getElem?_getD,List.getElem?_eq_getElem (by omega)]; rfl
 have q0:=hc 0 (by omega)
 have cD:=hid (decode_any xs[0] w ht hx0.1 hx0.2)
 have cN:=hid (fun W (hW:IntsIn W (some ⟨g,off,none⟩) xs)=>allNops_any (some ⟨g,off,none⟩) cap xs W hW (by omega))
 have HI:=hid h
 simp only [Nat.add_zero] at q0
 rcases (show kind=1∨kind=2∨kind=3∨kind=6∨kind=4∨kind=5 from by omega) with rfl | rfl | rfl | rfl | rfl | rfl
 ·have HQ:=hid (show GoesP 1 xs↔xs[0]=0 from by simp only [GoesP,if_true]; rw [hgd])
  generalize GoesP 1 xs=Q at *
  clear h2 hk h hc hw ht HI
  go_enter Tryz.func216,Tryz.ntmps216
  go_wp2_with fail
  refine cD.out.mono ?_
  rintro e w1 ⟨⟨op,rd,s1,t1,m,rfl,hd⟩,hq⟩
  have q1:=gcell q0 hq
  unfold insV
  have HQQ:=hid hq
  clear hq q0 hd
  have GA:=hid (fun ob:Obj=>World.grownBy_alloc w1 ob none)
  have q2:=fun ob:Obj=>gcell q1 (World.grownBy_alloc w1 ob none)
  go_wp2
  go_ret
  exact ⟨Tells.of (by rw [HQ.out,beq_iff_eq]),grown_trans HQQ.out (GA.out _)⟩
 ·have HQ:=hid (show GoesP 2 xs↔Branch0 xs[0] from by unfold GoesP; rw [if_neg (by decide),if_pos rfl,hgd])
  generalize GoesP 2 xs=Q at *
  clear h2 hk h hc hw ht HI
  go_enter Tryz.func216,Tryz.ntmps216
  go_wp2_with fail
  refine cD.out.mono ?_
  rintro e w1 ⟨⟨op,rd,s1,t1,m,rfl,hd⟩,hq⟩
  have q1:=gcell q0 hq
  unfold insV
  have HQQ:=hid hq
  have DF:=hid (dec_facts xs[0] op rd s1 m hx0.1 hx0.2 hd)
  clear hq q0 hd
  have GA:=hid (fun ob:Obj=>World.grownBy_alloc w1 ob none)
  by_cases o1:5≤op
  ·have d1:decide (5≤op)=true:=by simpa using o1
   by_cases o2:op≤10
   ·have d2:decide (op≤10)=true:=by simpa using o2
    go_wp2
    go_ret
    exact ⟨Tells.of (by rw [HQ.out,← DF.out.1,beq_iff_eq]; exact ⟨fun h=>⟨o1,o2,h⟩,fun h=>h.2.2⟩),grown_trans HQQ.out (GA.out _)⟩
   ·have d2:decide (op≤10)=false:=by simp; omega
    go_wp2
    go_ret
    exact ⟨Tells.no (by rw [HQ.out,← DF.out.1]; omega),grown_trans HQQ.out (GA.out _)⟩
  ·have d1:decide (5≤op)=false:=by simp; omega
   go_wp2
   go_ret
   exact ⟨Tells.no (by rw [HQ.out,← DF.out.1]; omega),grown_trans HQQ.out (GA.out _)⟩
 ·have HQ:=hid (show GoesP 3 xs↔Jal0 xs[0] from by unfold GoesP; rw [if_neg (by decide),if_neg (by decide),if_pos rfl,hgd])
  generalize GoesP 3 xs=Q at *
  clear h2 hk h hc hw ht HI
  go_enter Tryz.func216,Tryz.ntmps216
  go_wp2_with fail
  refine cD.out.mono ?_
  rintro e w1 ⟨⟨op,rd,s1,t1,m,rfl,hd⟩,hq⟩
  have q1:=gcell q0 hq
  unfold insV
  have HQQ:=hid hq
  have DF:=hid (dec_facts xs[0] op rd s1 m hx0.1 hx0.2 hd)
  clear hq q0 hd
  have GA:=hid (fun ob:Obj=>World.grownBy_alloc w1 ob none)
  by_cases o1:op=3
  ·subst o1
   go_wp2
   go_ret
   exact ⟨Tells.of (by rw [HQ.out,← DF.out.2.1,beq_iff_eq]; simp),grown_trans HQQ.out (GA.out _)⟩
  ·have d1:(op == 3)=false:=beq_eq_false_iff_ne.2 o1
   have O:=hid o1
   clear o1
   go_wp2
   go_ret
   exact ⟨Tells.no (by rw [HQ.out,← DF.out.2.1]; have:=O.out; omega),grown_trans HQQ.out (GA.out _)⟩
 ·have HQ:=hid (show GoesP 6 xs↔Nops xs from by unfold GoesP; rw [if_neg (by decide),if_neg (by decide),if_neg (by decide),if_neg (by decide),if_pos rfl])
  generalize GoesP 6 xs=Q at *
  clear h2 hk h hc hw ht
  go_enter Tryz.func216,Tryz.ntmps216
  go_wp2_with fail
  refine cD.out.mono ?_
  rintro e w1 ⟨⟨op,rd,s1,t1,m,rfl,hd⟩,hq⟩
  have q1:=gcell q0 hq
  unfold insV
  have HQQ:=hid hq
  have DF:=hid (dec_facts xs[0] op rd s1 m hx0.1 hx0.2 hd)
  clear hq q0 hd
  have GA:=hid (fun ob:Obj=>World.grownBy_alloc w1 ob none)
  go_wp2_with fail
  refine (cN.out _ ((HI.out.kept (fun a v hv=>gcell hv HQQ.out)).kept (fun a v hv=>gcell hv (GA.out _)))).mono ?_
  rintro e w2 ⟨t,rfl⟩
  obtain ⟨b,rfl,hb⟩:=t
  have HBB:=hid hb
  clear hb
  go_wp2
  go_ret
  exact ⟨Tells.of (by rw [HQ.out]; exact HBB.out),grown_trans HQQ.out (GA.out _)⟩
 ·have hl2:=h2 (by omega)
  have hlt1:1 < xs.length:=by omega
  have hx1:=hw 1 hlt1
  have hgd1:xs.getD 1 0=xs[1]'hlt1:=by rw [List.getD_eq_getElem?_getD,List.getElem?_eq_getElem hlt1]; rfl
  have HQ:=hid (show GoesP 4 xs↔PairW 4 xs[0] xs[1] from by unfold GoesP; rw [if_neg (by decide),if_neg (by decide),if_neg (by decide),if_pos (by decide),hgd,hgd1])
  have q1:=hc 1 hlt1
  have cD1:=hid (fun W (hW:Tabs W)=>decode_any xs[1] W hW hx1.1 hx1.2)
  have HT:=hid ht
  generalize GoesP 4 xs=Q at *
  have dl:((xs.length:Int) == 2)=true:=by rw [beq_iff_eq]; omega
  have hl3:2≤xs.length:=by omega
  have g1:(1:Int) < (xs.length:Int):=by omega
  have g2:(0:Int) < (xs.length:Int):=by omega
  clear h2 hk h hc hw ht HI cN hl2
  go_enter Tryz.func216,Tryz.ntmps216
  go_wp2_with fail
  refine cD.out.mono ?_
  rintro e w1 ⟨⟨op,rd,s1,t1,m,rfl,hd⟩,hq⟩
  unfold insV
  have B:=BlkAt.new w1 #[.int .i64 op,.int .i64 rd,.int .i64 s1,.int .i64 t1,.int .i64 m] 147
  have GA:=World.grownBy_alloc w1 (.cells #[.int .i64 op,.int .i64 rd,.int .i64 s1,.int .i64 t1,.int .i64 m] 147) none
  have c0:Hid ((w1.alloc (.cells #[.int .i64 op,.int .i64 rd,.int .i64 s1,.int .i64 t1,.int .i64 m] 147)).drew.cell? ⟨w1.heap.size,0,none⟩=some (.int .i64 op)):=B.cell 0
  have c1:Hid ((w1.alloc (.cells #[.int .i64 op,.int .i64 rd,.int .i64 s1,.int .i64 t1,.int .i64 m] 147)).drew.cell? ⟨w1.heap.size,1,none⟩=some (.int .i64 rd)):=B.cell 1
  have c2:Hid ((w1.alloc (.cells #[.int .i64 op,.int .i64 rd,.int .i64 s1,.int .i64 t1,.int .i64 m] 147)).drew.cell? ⟨w1.heap.size,2,none⟩=some (.int .i64 s1)):=B.cell 2
  have c3:Hid ((w1.alloc (.cells #[.int .i64 op,.int .i64 rd,.int .i64 s1,.int .i64 t1,.int .i64 m] 147)).drew.cell? ⟨w1.heap.size,3,none⟩=some (.int .i64 t1)):=B.cell 3
  have c4:Hid ((w1.alloc (.cells #[.int .i64 op,.int .i64 rd,.int .i64 s1,.int .i64 t1,.int .i64 m] 147)).drew.cell? ⟨w1.heap.size,4,none⟩=some (.int .i64 m)):=B.cell 4
  have c5:Hid ((w1.alloc (.cells #[.int .i64 op,.int .i64 rd,.int .i64 s1,.int .i64 t1,.int .i64 m] 147)).drew.cell? ⟨g,off+1,none⟩=some (.int .i64 xs[1])):=gcell (gcell q1 hq) (grown_drew GA)
  have hgl:g < w1.heap.size:=World.block_lt_of_cell? w1 _ (gcell q1 hq)
  have hnew:=World.new_ne w1 ⟨g,off+1,none⟩ (gcell q1 hq)
  have q2:=gcell q1 hq
  have GG:=hid (grown_trans hq (grown_drew GA))
  have DF:=hid (dec_facts xs[0] op rd s1 m hx0.1 hx0.2 hd)
  clear hq q0 q1 hd B GA cD
  go_wp2
  go_region_held3 (fun w'=>w'.cell? ⟨w1.heap.size,0,none⟩=some (.int .i64 op)∧w'.cell? ⟨w1.heap.size,1,none⟩=some (.int .i64 rd)∧w'.cell? ⟨w1.heap.size,2,none⟩=some (.int .i64 s1)∧w'.cell? ⟨w1.heap.size,3,none⟩=some (.int .i64 t1)∧w'.cell? ⟨w1.heap.size,4,none⟩=some (.int .i64 m)∧w'.cell? ⟨g,off+1,none⟩=some (.int .i64 xs[1]))
   (go_keep)
   (first | (go_at_call 87; refine (cD1.out _ (HT.out.grown GG.out)).mono ?_; rintro e w' ⟨⟨op2,rd2,s2,t2,m2,rfl,hd2⟩,hq⟩; have s0:=gcell c0.out hq; have s1':=gcell c1.out hq; have s2':=gcell c2.out hq; have s3:=gcell c3.out hq; have s4:=gcell c4.out hq; have s5:=gcell c5.out hq) | (go_at_call 223; refine (pairGoes_any 4 op rd s1 t1 m op2 rd2 s2 t2 m2 _).mono ?_; rintro e w'' ⟨⟨b,rfl,hb⟩,hq2⟩; have z0:=gcell s0 hq2; have z1:=gcell s1' hq2; have z2:=gcell s2' hq2; have z3:=gcell s3 hq2; have z4:=gcell s4 hq2; have z5:=gcell s5 hq2))
  have HBB:=hid hb
  have D2:=hid (dec_facts xs[1] op2 rd2 s2 m2 hx1.1 hx1.2 hd2)
  have GF:=hid (grown_trans (grown_trans GG.out hq) hq2)
  clear hb hd2 hq hq2 s0 s1' s2' s3 s4 s5 z0 z1 z2 z3 z4 z5
  go_wp2
  go_ret
  exact ⟨Tells.of (by rw [HQ.out,← pair_words 4 xs[0] xs[1] op rd s1 m op2 rd2 s2 m2 DF.out D2.out]; exact HBB.out),GF.out⟩
 ·have hl2:=h2 (by omega)
  have hlt1:1 < xs.length:=by omega
  have hx1:=hw 1 hlt1
  have hgd1:xs.getD 1 0=xs[1]'hlt1:=by rw [List.getD_eq_getElem?_getD,List.getElem?_eq_getElem hlt1]; rfl
  have HQ:=hid (show GoesP 5 xs↔PairW 5 xs[0] xs[1] from by unfold GoesP; rw [if_neg (by decide),if_neg (by decide),if_neg (by decide),if_pos (by decide),hgd,hgd1])
  have q1:=hc 1 hlt1
  have cD1:=hid (fun W (hW:Tabs W)=>decode_any xs[1] W hW hx1.1 hx1.2)
  have HT:=hid ht
  generalize GoesP 5 xs=Q at *
  have dl:((xs.length:Int) == 2)=true:=by rw [beq_iff_eq]; omega
  have hl3:2≤xs.length:=by omega
  have g1:(1:Int) < (xs.length:Int):=by omega
  have g2:(0:Int) < (xs.length:Int):=by omega
  clear h2 hk h hc hw ht HI cN hl2
  go_enter Tryz.func216,Tryz.ntmps216
  go_wp2_with fail
  refine cD.out.mono ?_
  rintro e w1 ⟨⟨op,rd,s1,t1,m,rfl,hd⟩,hq⟩
  unfold insV
  have B:=BlkAt.new w1 #[.int .i64 op,.int .i64 rd,.int .i64 s1,.int .i64 t1,.int .i64 m] 147
  have GA:=World.grownBy_alloc w1 (.cells #[.int .i64 op,.int .i64 rd,.int .i64 s1,.int .i64 t1,.int .i64 m] 147) none
  have c0:Hid ((w1.alloc (.cells #[.int .i64 op,.int .i64 rd,.int .i64 s1,.int .i64 t1,.int .i64 m] 147)).drew.cell? ⟨w1.heap.size,0,none⟩=some (.int .i64 op)):=B.cell 0
  have c1:Hid ((w1.alloc (.cells #[.int .i64 op,.int .i64 rd,.int .i64 s1,.int .i64 t1,.int .i64 m] 147)).drew.cell? ⟨w1.heap.size,1,none⟩=some (.int .i64 rd)):=B.cell 1
  have c2:Hid ((w1.alloc (.cells #[.int .i64 op,.int .i64 rd,.int .i64 s1,.int .i64 t1,.int .i64 m] 147)).drew.cell? ⟨w1.heap.size,2,none⟩=some (.int .i64 s1)):=B.cell 2
  have c3:Hid ((w1.alloc (.cells #[.int .i64 op,.int .i64 rd,.int .i64 s1,.int .i64 t1,.int .i64 m] 147)).drew.cell? ⟨w1.heap.size,3,none⟩=some (.int .i64 t1)):=B.cell 3
  have c4:Hid ((w1.alloc (.cells #[.int .i64 op,.int .i64 rd,.int .i64 s1,.int .i64 t1,.int .i64 m] 147)).drew.cell? ⟨w1.heap.size,4,none⟩=some (.int .i64 m)):=B.cell 4
  have c5:Hid ((w1.alloc (.cells #[.int .i64 op,.int .i64 rd,.int .i64 s1,.int .i64 t1,.int .i64 m] 147)).drew.cell? ⟨g,off+1,none⟩=some (.int .i64 xs[1])):=gcell (gcell q1 hq) (grown_drew GA)
  have hgl:g < w1.heap.size:=World.block_lt_of_cell? w1 _ (gcell q1 hq)
  have hnew:=World.new_ne w1 ⟨g,off+1,none⟩ (gcell q1 hq)
  have q2:=gcell q1 hq
  have GG:=hid (grown_trans hq (grown_drew GA))
  have DF:=hid (dec_facts xs[0] op rd s1 m hx0.1 hx0.2 hd)
  clear hq q0 q1 hd B GA cD
  go_wp2
  go_region_held3 (fun w'=>w'.cell? ⟨w1.heap.size,0,none⟩=some (.int .i64 op)∧w'.cell? ⟨w1.heap.size,1,none⟩=some (.int .i64 rd)∧w'.cell? ⟨w1.heap.size,2,none⟩=some (.int .i64 s1)∧w'.cell? ⟨w1.heap.size,3,none⟩=some (.int .i64 t1)∧w'.cell? ⟨w1.heap.size,4,none⟩=some (.int .i64 m)∧w'.cell? ⟨g,off+1,none⟩=some (.int .i64 xs[1]))
   (go_keep)
   (first | (go_at_call 87; refine (cD1.out _ (HT.out.grown GG.out)).mono ?_; rintro e w' ⟨⟨op2,rd2,s2,t2,m2,rfl,hd2⟩,hq⟩; have s0:=gcell c0.out hq; have s1':=gcell c1.out hq; have s2':=gcell c2.out hq; have s3:=gcell c3.out hq; have s4:=gcell c4.out hq; have s5:=gcell c5.out hq) | (go_at_call 223; refine (pairGoes_any 5 op rd s1 t1 m op2 rd2 s2 t2 m2 _).mono ?_; rintro e w'' ⟨⟨b,rfl,hb⟩,hq2⟩; have z0:=gcell s0 hq2; have z1:=gcell s1' hq2; have z2:=gcell s2' hq2; have z3:=gcell s3 hq2; have z4:=gcell s4 hq2; have z5:=gcell s5 hq2))
  have HBB:=hid hb
  have D2:=hid (dec_facts xs[1] op2 rd2 s2 m2 hx1.1 hx1.2 hd2)
  have GF:=hid (grown_trans (grown_trans GG.out hq) hq2)
  clear hb hd2 hq hq2 s0 s1' s2' s3 s4 s5 z0 z1 z2 z3 z4 z5
  go_wp2
  go_ret
  exact ⟨Tells.of (by rw [HQ.out,← pair_words 5 xs[0] xs[1] op rd s1 m op2 rd2 s2 m2 DF.out D2.out]; exact HBB.out),GF.out⟩

end Go.Proofs.YtnfgdlkiialnnaaGreatDoor
