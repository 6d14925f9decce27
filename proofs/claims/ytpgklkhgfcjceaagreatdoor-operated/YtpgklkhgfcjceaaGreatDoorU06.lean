
import Derived.Test.YtpgklkhgfcjceaaGreatDoorU05
import Derived.Maps.AppendAt
set_option maxHeartbeats 16000000
set_option maxRecDepth 100000
namespace Go.Proofs.YtpgklkhgfcjceaaGreatDoor
open Go.RowKit
namespace Mc
def wd (x:Int):Int:=x % 4294967296
def sg (x:Int):Int:=if x < 2147483648 then x else x - 4294967296
theorem fJ (x:Int):0<=wd x/\wd x < 4294967296:=by unfold wd; omega
structure St where
 regs:List Int
 data:List Int
 pc:Int
 next:Int
 fQ:Int
 code:Int
 o:List Int
 steps:Nat
 read:Nat
def reg (st:St) (n:Int):Int:=st.regs.getD (n % 32).toNat 0
def set (n v:Int) (st:St):St:=if n % 32=0 then st else { st with regs:=st.regs.set (n % 32).toNat (wd v) }
def holds (op a b:Int):Bool :=
 if op=5 then decide (a=b) else if op=6 then decide (a≠b) else if op=7 then decide (sg a < sg b) else if op=8 then decide (sg b<=sg a)
 else if op=9 then decide (a < b) else if op=10 then decide (b<=a) else false
def computed (op a b:Int):Int :=
 if op=18 then a+b else if op=19 then a - b else if op=20 then (if sg a < sg b then 1 else 0) else if op=21 then (if a < b then 1 else 0)
 else if op=22 then bits .xor .i64 a b else if op=23 then bits .or .i64 a b else if op=24 then bits .and .i64 a b else 0
def plain (op:Int):Int:=if op=13 then 18 else if op=14 then 20 else if op=15 then 22 else if op=16 then 23 else if op=17 then 24 else 0
def jump (rd dest:Int) (st:St):St:={ set rd (st.pc+4) st with next:=wd dest }
def branch (taken:Bool) (n:Int) (st:St):St:=if taken then { st with next:=wd (st.pc+n) } else st
def load (m:Im.eU) (rd a:Int) (st:St):St :=
 match Im.code m a with
 | some w=>set rd w st
 | none=>if 0<=Im.place m.data st.data.length a then set rd (st.data.getD (Im.place m.data st.data.length a).toNat 0) st else { st with fQ:=4 }
def store (m:Im.eU) (a v:Int) (st:St):St :=
 if 0<=Im.place m.data st.data.length a then { st with data:=st.data.set (Im.place m.data st.data.length a).toNat v } else { st with fQ:=5 }
def call (ins:List Int) (st:St):St :=
 if reg st 17=0 then { st with fQ:=1,code:=sg (reg st 10) }
 else if reg st 17=1 then (if 16<=st.o.length then { st with fQ:=6 } else { st with o:=st.o ++ [sg (reg st 10)] })
 else if reg st 17=2 then (if ins.length<=st.read then { st with fQ:=6 } else { set 10 (ins.getD st.read 0) st with read:=st.read+1 })
 else { st with fQ:=6 }
def doIt (m:Im.eU) (ins:List Int) (op rd au aC n:Int) (st:St):St :=
 if op=0 then { st with fQ:=3 }
 else if op=1 then set rd (n * 4096) st
 else if op=2 then set rd (n * 4096+st.pc) st
 else if op=3 then jump rd (st.pc+n) st
 else if op=4 then jump rd ((reg st au+n) - (reg st au+n) % 2) st
 else if 5<=op/\op<=10 then branch (holds op (reg st au) (reg st aC)) n st
 else if op=11 then load m rd (wd (reg st au+n)) st
 else if op=12 then store m (wd (reg st au+n)) (reg st aC) st
 else if 13<=op/\op<=17 then set rd (computed (plain op) (reg st au) (wd n)) st
 else if op=25 then call ins st
 else set rd (computed op (reg st au) (reg st aC)) st
def step (m:Im.eU) (ins:List Int) (st:St):St :=
 match Im.code m st.pc with
 | none=>{ st with steps:=st.steps+1,fQ:=2 }
 | some w =>
  let s:=doIt m ins (jX w) (gI (aO w) w) (bI (aO w) w) (jC (aO w) w) (jm (aO w) w) { st with steps:=st.steps+1,next:=wd (st.pc+4) }
  { s with pc:=s.next }
def steps (m:Im.eU) (ins:List Int) (fuel:Nat):Nat->St->St
 | 0,st=>st
 | k+1,st=>if st.fQ=0/\st.steps < fuel then steps m ins fuel k (step m ins st) else st
structure Ok (st:St):Prop where
 regs:st.regs.length=32
 words:∀ i,0<=st.regs.getD i 0/\st.regs.getD i 0 < 4294967296
 zero:st.regs.getD 0 0=0
 data:st.data.length<=131070
 kU:∀ i,0<=st.data.getD i 0/\st.data.getD i 0 < 4294967296
 pc:0<=st.pc/\st.pc < 4294967296
 next:0<=st.next/\st.next < 4294967296
 o:st.o.length<=16
 steps:st.steps<=65536
 read:st.read<=16
end Mc
theorem Pm (n:Int):bits .and .i64 n 4294967295=Mc.wd n:=by
 have h1:(BitVec.ofInt 64 4294967295).toNat=2 ^ 32 - 1:=by decide
 have key:(BitVec.ofInt 64 n &&& BitVec.ofInt 64 4294967295).toNat=(n % ((2 ^ 64:Nat):Int)).toNat % 2 ^ 32:=by
  rw [BitVec.toNat_and,BitVec.toNat_ofInt,h1,Nat.and_two_pow_sub_one_eq_mod]
 show IntKind.i64.wrap ((BitVec.ofInt 64 n &&& BitVec.ofInt 64 4294967295).toNat:Nat)=n % 4294967296;rw [key,IntKind.wrap_i64];omega
def jU (g:Nat) (eZ:Value) (st:Mc.St) (vd vo:Value):List Value :=
 [.pointer (some ⟨g,0,none⟩),eZ] ++ (st.regs.map (Value.int .i64) ++ [vd,.int .i64 st.pc,.int .i64 st.next,.int .i64 st.fQ,.int .i64 st.code,vo,.int .i64 st.steps,.int .i64 st.read])
structure yz (W0:World) (b g:Nat) (eZ:Value) (st:Mc.St) (vd vo:Value) (W:World):Prop where
 blk:yc W b (jU g eZ st vd vo).toArray 93
 data:W.ownsRow W0.heap.size 3 1 vd st.data.length (st.data.map (Value.int .i64))
 o:W.ownsRow W0.heap.size 3 1 vo st.o.length (st.o.map (Value.int .i64))
 apart:(∀ k,vd.ownBlock=some k->k≠b)/\(∀ k,vo.ownBlock=some k->k≠b)/\∀ k,vd.ownBlock=some k->vo.ownBlock≠some k
 lo:W0.heap.size<=b
 gr:W0.grownBy W none
 ok:Mc.Ok st
theorem ypY (g:Nat) (eZ:Value) (st:Mc.St) (vd vo:Value) (h:st.regs.length=32) (i:Nat) (hi:i < 32):(jU g eZ st vd vo)[2+i]?=some (.int .i64 (st.regs.getD i 0)):=by
 unfold jU;rw [List.getElem?_append_right (by simp),List.getElem?_append_left (by simp; omega)];have e:2+i - [Value.pointer (some ⟨g,0,none⟩),eZ].length=i:=by simp
 rw [e,List.getElem?_map,jW (by omega),lN,jW (by omega)];rfl
theorem ZB (g:Nat) (eZ:Value) (st:Mc.St) (vd vo:Value) (h:st.regs.length=32) (i:Nat):(jU g eZ st vd vo)[34+i]?=[vd,.int .i64 st.pc,.int .i64 st.next,.int .i64 st.fQ,.int .i64 st.code,vo,.int .i64 st.steps,.int .i64 st.read][i]?:=by
 unfold jU;rw [List.getElem?_append_right (by simp; omega),List.getElem?_append_right (by simp; omega)]
 congr 1
 simp;omega
section
variable {W0 W:World} {b g:Nat} {eZ vd vo:Value} {st:Mc.St}
theorem yz.c (h:yz W0 b g eZ st vd vo W):W.cell? ⟨b,0,none⟩=some (.pointer (some ⟨g,0,none⟩))/\W.cell? ⟨b,1,none⟩=some eZ/\W.cell? ⟨b,34,none⟩=some vd/\W.cell? ⟨b,35,none⟩=some (.int .i64 st.pc)/\W.cell? ⟨b,36,none⟩=some (.int .i64 st.next) /\
  W.cell? ⟨b,37,none⟩=some (.int .i64 st.fQ)/\W.cell? ⟨b,38,none⟩=some (.int .i64 st.code)/\W.cell? ⟨b,39,none⟩=some vo/\W.cell? ⟨b,40,none⟩=some (.int .i64 st.steps)/\W.cell? ⟨b,41,none⟩=some (.int .i64 st.read):=by
 have k:∀ i,W.cell? ⟨b,i,none⟩=(jU g eZ st vd vo)[i]?:=fun i=>(h.blk.cell i).trans bJ
 have t:=ZB g eZ st vd vo h.ok.regs;refine ⟨k 0,k 1,(k 34).trans (t 0),(k 35).trans (t 1),(k 36).trans (t 2),(k 37).trans (t 3),(k 38).trans (t 4),(k 39).trans (t 5),(k 40).trans (t 6),(k 41).trans (t 7)⟩
theorem yz.cr (h:yz W0 b g eZ st vd vo W) (i:Nat) (hi:i < 32):W.cell? ⟨b,2+i,none⟩=some (.int .i64 (st.regs.getD i 0)):=((h.blk.cell (2+i)).trans bJ).trans (ypY g eZ st vd vo h.ok.regs i hi)
end
theorem Fa (n:Int) (w:World):Calls Tryz.prog 81 #[.int .i64 n] w fun e w'=>e = .returned (.int .i64 (Mc.wd n))/\w'=w:=by
 have E:=hid (Pm n);go_enter Tryz.func81,Tryz.ntmps81;go_wp2;go_ret;exact ⟨yF E.o,rfl⟩
theorem UL (n:Int) (w:World) (h0:0<=n) (h1:n < 4294967296):Calls Tryz.prog 180 #[.int .i64 n] w fun e w'=>e = .returned (.int .i64 (Mc.sg n))/\w'=w:=by
 by_cases h:n < 2147483648
 ·have E:=hid (show n=Mc.sg n by unfold Mc.sg; rw [if_pos h]);go_enter Tryz.func180,Tryz.ntmps180;go_wp2;go_ret;exact ⟨yF E.o,rfl⟩
 ·have E:=hid (show n - 4294967296=Mc.sg n by unfold Mc.sg; rw [if_neg h]);have d:decide (n < 2147483648)=false:=by simpa using h
  have e1:IntKind.i64.wrap (n - 4294967296)=n - 4294967296:=IntWalk.i64_in _ ⟨by omega,by omega⟩;go_enter Tryz.func180,Tryz.ntmps180;go_wp2;go_ret;exact ⟨yF E.o,rfl⟩
theorem yqp (n:Int) (h0:0<=n) (h1:n<=4294967295):bits .and .i64 n 31=n % 32:=low n 5 (by decide) 31 32 rfl rfl h0 h1
theorem yj (W0:World) (b g:Nat) (eZ:Value) (st:Mc.St) (vd vo:Value) (n:Int) (W:World) (h:yz W0 b g eZ st vd vo W) (h0:0<=n) (h1:n < 32) :
  Calls Tryz.prog 118 #[.pointer (some ⟨b,0,none⟩),.int .i64 n] W fun e W'=>e = .returned (.int .i64 (Mc.reg st n))/\W'=W:=by
 obtain ⟨k,rfl⟩:=Int.eq_ofNat_of_zero_le h0;have hk:k < 32:=by omega
 have c:=h.cr k hk;have e:=yqp (k:Int) (by omega) (by omega);have e2:(k:Int) % 32=k:=by omega
 rw [e2] at e;have R:=hid (show Mc.reg st (k:Int)=st.regs.getD k 0 by unfold Mc.reg; rw [e2]; rfl);clear h e2;generalize st.regs.getD k 0=v at *;go_enter Tryz.func118,Tryz.ntmps118;go_wp2;go_ret;exact ⟨yF R.o.symm,rfl⟩
theorem FE {W:World} {B b o:Nat} {v u:Value} {n:Nat} {xs:List Value} (h:W.ownsRow B 3 1 v n xs) (hne:∀ k,v.ownBlock=some k->k≠b):(W.setCell ⟨b,o,none⟩ u).ownsRow B 3 1 v n xs :=
 h.kept (yf W b o u) (by
  cases hv:v.ownBlock with
  | none=>exact .inl rfl
  | some k=>right; intro e; exact hne k hv (by simpa using e))
theorem yQ {w a c:World} {row:Option Nat} (h:w.grownBy a none) (k:a.grownBy c row) (hb:∀ b,row=some b->w.heap.size<=b):w.grownBy c none :=
 ⟨k.os.trans h.os,k.tape.trans h.tape,k.output.trans h.output,Nat.le_trans h.size k.size,fun i hi _ =>
  (k.block i (Nat.lt_of_lt_of_le hi h.size) (fun e=>by have:=hb i e.symm; omega)).trans (h.block i hi (by simp))⟩
section
variable {W0 W W':World} {b g:Nat} {eZ vd vo:Value} {st:Mc.St}
theorem yz.put (h:yz W0 b g eZ st vd vo W) (o:Nat) (v:Value) (st':Mc.St) (hc:(jU g eZ st vd vo).set o v=jU g eZ st' vd vo) (hd:st'.data=st.data) (ho:st'.o=st.o) (hok:Mc.Ok st') :
  yz W0 b g eZ st' vd vo (W.setCell ⟨b,o,none⟩ v):=by
 refine ⟨?_,by rw [hd]; exact FE h.data h.apart.1,by rw [ho]; exact FE h.o h.apart.2.1,h.apart,h.lo,yQ h.gr (yf W b o v) (by intro k e; simp at e; have:=h.lo; omega),hok⟩
 have:=h.blk.set o v
 rw [gH,hc] at this;exact this
theorem yz.grown (h:yz W0 b g eZ st vd vo W) (hg:W.grownBy W' none):yz W0 b g eZ st vd vo W' :=
 ⟨h.blk.grown hg (by simp),h.data.kept hg (by cases hv:vd.ownBlock <;> simp),h.o.kept hg (by cases hv:vo.ownBlock <;> simp),h.apart,h.lo,ya h.gr hg,h.ok⟩
theorem yz.free (h:yz W0 b g eZ st vd vo W) (o:Nat):W.frozen? ⟨b,o,none⟩=false:=h.blk.free o
end
theorem ylJ (g:Nat) (eZ:Value) (st:Mc.St) (vd vo:Value) (h:st.regs.length=32) (i:Nat) (hi:i < 32) (v:Int):(jU g eZ st vd vo).set (2+i) (.int .i64 v)=jU g eZ { st with regs:=st.regs.set i v } vd vo:=by
 unfold jU;rw [List.set_append_right _ _ (by simp),List.set_append_left _ _ (by simp; omega)];have e:2+i - [Value.pointer (some ⟨g,0,none⟩),eZ].length=i:=by simp
 rw [e,List.map_set]
theorem La (g:Nat) (eZ:Value) (st st':Mc.St) (vd vo OE OH:Value) (h:st.regs.length=32) (hr:st'.regs=st.regs) (i:Nat) (v:Value)
  (he:[vd,.int .i64 st.pc,.int .i64 st.next,.int .i64 st.fQ,.int .i64 st.code,vo,.int .i64 st.steps,.int .i64 st.read].set i v=[OE,.int .i64 st'.pc,.int .i64 st'.next,.int .i64 st'.fQ,.int .i64 st'.code,OH,.int .i64 st'.steps,.int .i64 st'.read]) :
  (jU g eZ st vd vo).set (34+i) v=jU g eZ st' OE OH:=by
 unfold jU;rw [List.set_append_right _ _ (by simp; omega),List.set_append_right _ _ (by simp; omega),hr]
 congr 2
 rw [<- he]
 congr 1
 simp;omega
theorem yrr {st:Mc.St} (h:Mc.Ok st) (i:Nat) (v:Int) (hi:i≠0):Mc.Ok { st with regs:=st.regs.set i (Mc.wd v) }:=by
 have hw:=Mc.fJ v;have g:∀ j,(st.regs.set i (Mc.wd v)).getD j 0=st.regs.getD j 0\/(st.regs.set i (Mc.wd v)).getD j 0=Mc.wd v:=by
  intro j;rw [lN,lN,List.getElem?_set];split
  ·split
   ·exact .inr rfl
   ·left
    rename_i h1 h2;subst h1;rw [List.getElem?_eq_none (by omega)]
  ·exact .inl rfl
 refine ⟨by simpa using h.regs,fun j=>?_,?_,h.data,h.kU,h.pc,h.next,h.o,h.steps,h.read⟩
 ·rcases g j with e | e
  ·rw [e]; exact h.words j
  ·rw [e]; exact hw
 ·show (st.regs.set i (Mc.wd v)).getD 0 0=0;rw [lN,List.getElem?_set,if_neg hi];exact h.zero
namespace Ln
structure gP where
 mod:Option Nat
 ah:Int
 off:Int
structure Mod where
 obj:Lk.Obj
 means:List gP
 short:List Bool
 text:List Int
 far:List Int
 data:Int
 bss:Int
def none_:gP:=⟨none,0,0⟩
def defines (y:Lk.Sym):Bool:=!decide (y.bind=0) && !decide (y.ah=0)
def wanted (y:Lk.Sym):Bool:=decide (y.bind=1) && decide (y.ah=0)
def wants (os:List Lk.Obj) (n:List UInt8):Bool:=os.any fun o=>o.syms.any fun y=>decide (y.name=n) && wanted y
def has (os:List Lk.Obj) (n:List UInt8):Bool:=os.any fun o=>o.syms.any fun y=>decide (y.name=n) && defines y
def needs (os:List Lk.Obj) (o:Lk.Obj):Bool:=o.syms.any fun y=>defines y && (wants os y.name && !has os y.name)
def gT (n:List UInt8) (bind:Int):List Lk.Sym->Option (Int×Int)
 | []=>none
 | y :: ys=>if y.name=n/\y.bind=bind/\y.ah≠0 then some (y.ah,y.off) else gT n bind ys
def findAt (n:List UInt8) (bind:Int):Nat->List Lk.Obj->gP
 | _,[]=>none_
 | i,o :: os=>match gT n bind o.syms with
  | some (s,f)=>⟨some i,s,f⟩
  | none=>findAt n bind (i+1) os
def find (os:List Lk.Obj) (n:List UInt8) (bind:Int):gP:=findAt n bind 0 os
def named (os:List Lk.Obj) (n:List UInt8):gP:=if (find os n 1).mod.isSome then find os n 1 else find os n 2
def meaning (os:List Lk.Obj) (i:Nat) (y:Lk.Sym):gP:=if y.bind=0 then ⟨some i,y.ah,y.off⟩ else named os y.name
structure rJ where
 e:Int
 at_:Int
 name:List UInt8
def ok:rJ:=⟨0,0,[]⟩
def dX (os:List Lk.Obj) (i:Nat):List Lk.Sym->Option rJ
 | []=>none
 | y :: ys=>if y.bind≠1\/y.ah=0 then dX os i ys else if (find (os.take i) y.name 1).mod.isSome then some ⟨33,i,y.name⟩ else dX os i ys
def mW (os:List Lk.Obj):Nat->List Lk.Obj->rJ
 | _,[]=>ok
 | i,o :: r=>match dX os i o.syms with
  | some f=>f
  | none=>mW os (i+1) r
def iJ (os:List Lk.Obj):rJ:=mW os 0 os
def dL (os:List Lk.Obj) (i:Nat):List Lk.Sym->Option rJ
 | []=>none
 | y :: ys=>if wanted y=false then dL os i ys else if (named os y.name).mod.isSome then dL os i ys else some ⟨34,i,y.name⟩
def wantedAt (os:List Lk.Obj):Nat->List Lk.Obj->rJ
 | _,[]=>ok
 | i,o :: r=>match dL os i o.syms with
  | some f=>f
  | none=>wantedAt os (i+1) r
def gu (os:List Lk.Obj):rJ:=wantedAt os 0 os
def pass:List (Lk.Obj×Bool)->List Lk.Obj->List (Lk.Obj×Bool)×List Lk.Obj×Bool
 | [],os=>([],os,false)
 | (o,t) :: r,os=>if t=false/\needs os o=true then ((o,true) :: (pass r (os ++ [o])).1,(pass r (os ++ [o])).2.1,true) else ((o,t) :: (pass r os).1,(pass r os).2.1,(pass r os).2.2)
def gK:Nat->List (Lk.Obj×Bool)->List Lk.Obj->List Lk.Obj
 | 0,_,os=>os
 | k+1,ms,os=>if (pass ms os).2.2=true then gK k (pass ms os).1 (pass ms os).2.1 else (pass ms os).2.1
def aL (ah off:Int):Nat->List Lk.Rel->Int×Lk.Rel
 | _,[]=>(0,⟨0,0,0,0,0⟩)
 | i,r :: rs=>if r.ah=ah/\r.off<=off/\off < r.off+4 * mX r then (i,r) else aL ah off (i+1) rs
def iX (sh:List Bool) (i:Int):Bool:=decide (0<=i) && sh.getD i.toNat false
def rup (a b:Int):Int:=bits .andNot .i64 (a+b - 1) (b - 1)
def stays (m:Mod) (ah off at_:Int):Bool :=
 if (aL ah off 0 m.obj.aj).2.kind=6 then !decide (rup at_ ((aL ah off 0 m.obj.aj).2.addend+4)=at_)
 else if (aL ah off 0 m.obj.aj).2.kind=4 then decide (off=(aL ah off 0 m.obj.aj).2.off) || !iX m.short (aL ah off 0 m.obj.aj).1
 else true
def aQ (m:Mod) (ah:Int):Nat->List Int->Int->List Int
 | _,[],at_=>[at_]
 | i,_ :: ws,at_=>at_ :: aQ m ah (i+1) ws (if stays m ah (4 * i) at_ then at_+4 else at_)
def dP (m:Mod) (ah:Int):Nat->List Int->Int->Int
 | _,[],at_=>at_
 | i,_ :: ws,at_=>dP m ah (i+1) ws (if stays m ah (4 * i) at_ then at_+4 else at_)
def aG (o:Lk.Obj) (ah:Nat):Int:=zA (o.align.getD (ah - 1) 0)
def begin_ (m:Mod) (ah:Nat) (from_:Int):Int:=rup from_ (aG m.obj ah)
def dH (m:Mod) (ah:Nat) (from_:Int):Int:=dP m ah 0 (yw m.obj ah) (begin_ m ah from_)
def aN (m:Mod) (ah:Nat) (from_:Int):List Int:=aQ m ah 0 (yw m.obj ah) (begin_ m ah from_)
def bC (m:Mod) (t f d:Int):Mod:={ m with text:=aN m 1 t,far:=aN m 2 f,data:=rup d (aG m.obj 3) }
def dD:List Mod->Int->Int->Int->List Mod
 | [],_,_,_=>[]
 | m :: ms,t,f,d=>bC m t f d :: dD ms (dH m 1 t) (dH m 2 f) (rup d (aG m.obj 3)+4 * m.obj.data.length)
def dO:List Mod->Int->Int
 | [],d=>d
 | m :: ms,d=>dO ms (rup d (aG m.obj 3)+4 * m.obj.data.length)
def fu:List Mod->Int->List Mod
 | [],_=>[]
 | m :: ms,b=>{ m with bss:=rup b (aG m.obj 4) } :: fu ms (rup b (aG m.obj 4)+4 * m.obj.bss)
def iy:List Mod->Int->Int
 | [],b=>b
 | m :: ms,b=>iy ms (rup b (aG m.obj 4)+4 * m.obj.bss)
def lay (t f d:Int) (ms:List Mod):List Mod:=fu (dD ms t f d) (dO ms d)
def noughts (d:Int) (ms:List Mod):Int:=(iy ms (dO ms d) - dO ms d) / 4
def placeOf (ps:List Int) (off:Int):Int:=if off.tdiv 4 < 0 then 0 else ps.getD (off.tdiv 4).toNat 0
def address (m:Mod) (ah off:Int):Int :=
 if ah=1 then placeOf m.text off else if ah=2 then placeOf m.far off else if ah=3 then m.data+off else if ah=4 then m.bss+off else 0
def bW (ms:List Mod) (s:gP):Int:=match s.mod with
 | none=>0
 | some i=>match ms[i]? with
  | none=>0
  | some m=>address m s.ah s.off
def target (ms:List Mod) (m:Mod) (r:Lk.Rel):Int:=if r.sym < 0\/(m.means.length:Int)<=r.sym then 0 else bW ms (m.means.getD r.sym.toNat none_)
def distance (ms:List Mod) (m:Mod) (r:Lk.Rel):Int:=target ms m r - address m r.ah r.off
def bU (ms:List Mod) (m:Mod) (r:Lk.Rel):Bool:=decide (r.kind=4) && (decide (-1015808 < distance ms m r) && decide (distance ms m r < 1015808))
def shorten (ms:List Mod):List Mod:=ms.map fun m=>{ m with short:=m.obj.aj.map (bU ms m) }
def layout (t f d:Int) (ms:List Mod):List Mod:=lay t f d (shorten (lay t f d ms))
end Ln
def yU (n:Int):Prop:=n % 128=99/\(n / 4096 % 8=0\/n / 4096 % 8=1\/n / 4096 % 8=4\/n / 4096 % 8=5\/n / 4096 % 8=6\/n / 4096 % 8=7)/\n / 33554432=0/\n / 128 % 32=0
def iP (n:Int):Prop:=n % 128=111/\n / 4096=0
def nS (Uv n:Int):Prop:=n % 128=Uv/\n / 4096=0
def yY (Uv f n:Int):Prop:=n % 128=Uv/\n / 4096 % 8=f/\n / 1048576=0
def oL (n:Int):Prop:=n % 128=35/\n / 4096 % 8=2/\n / 33554432=0/\n / 128 % 32=0
theorem Dl (n:Int) (h0:0<=n) (h1:n<=4294967295):Is 1 n↔n % 128=55:=by
 show bits .and .i64 n 127=55↔_;rw [Wq n h0 h1]
theorem GD (n:Int) (h0:0<=n) (h1:n<=4294967295):Is 2 n↔n % 128=23:=by
 show bits .and .i64 n 127=23↔_;rw [Wq n h0 h1]
theorem GH (n:Int) (h0:0<=n) (h1:n<=4294967295):Is 3 n↔n % 128=111:=by
 show bits .and .i64 n 127=111↔_;rw [Wq n h0 h1]
theorem GI (n:Int) (h0:0<=n) (h1:n<=4294967295):Is 4 n↔n % 128+4096 * (n / 4096 % 8)=103:=by
 show bits .and .i64 n 28799=103↔_;rw [Ae n h0 h1]
theorem GJ (n:Int) (h0:0<=n) (h1:n<=4294967295):Is 5 n↔n % 128+4096 * (n / 4096 % 8)=99:=by
 show bits .and .i64 n 28799=99↔_;rw [Ae n h0 h1]
theorem GL (n:Int) (h0:0<=n) (h1:n<=4294967295):Is 6 n↔n % 128+4096 * (n / 4096 % 8)=4195:=by
 show bits .and .i64 n 28799=4195↔_;rw [Ae n h0 h1]
theorem GN (n:Int) (h0:0<=n) (h1:n<=4294967295):Is 7 n↔n % 128+4096 * (n / 4096 % 8)=16483:=by
 show bits .and .i64 n 28799=16483↔_;rw [Ae n h0 h1]
theorem GU (n:Int) (h0:0<=n) (h1:n<=4294967295):Is 8 n↔n % 128+4096 * (n / 4096 % 8)=20579:=by
 show bits .and .i64 n 28799=20579↔_;rw [Ae n h0 h1]
theorem GV (n:Int) (h0:0<=n) (h1:n<=4294967295):Is 9 n↔n % 128+4096 * (n / 4096 % 8)=24675:=by
 show bits .and .i64 n 28799=24675↔_;rw [Ae n h0 h1]
theorem Sj (n:Int) (h0:0<=n) (h1:n<=4294967295):Is 10 n↔n % 128+4096 * (n / 4096 % 8)=28771:=by
 show bits .and .i64 n 28799=28771↔_;rw [Ae n h0 h1]
theorem Sk (n:Int) (h0:0<=n) (h1:n<=4294967295):Is 11 n↔n % 128+4096 * (n / 4096 % 8)=8195:=by
 show bits .and .i64 n 28799=8195↔_;rw [Ae n h0 h1]
theorem Sl (n:Int) (h0:0<=n) (h1:n<=4294967295):Is 12 n↔n % 128+4096 * (n / 4096 % 8)=8227:=by
 show bits .and .i64 n 28799=8227↔_;rw [Ae n h0 h1]
theorem Sm (n:Int) (h0:0<=n) (h1:n<=4294967295):Is 13 n↔n % 128+4096 * (n / 4096 % 8)=19:=by
 show bits .and .i64 n 28799=19↔_;rw [Ae n h0 h1]
theorem yqr (n:Int) (h0:0<=n) (h1:n<=4294967295):Is 14 n↔n % 128+4096 * (n / 4096 % 8)=8211:=by
 show bits .and .i64 n 28799=8211↔_;rw [Ae n h0 h1]
theorem yqs (n:Int) (h0:0<=n) (h1:n<=4294967295):Is 15 n↔n % 128+4096 * (n / 4096 % 8)=16403:=by
 show bits .and .i64 n 28799=16403↔_;rw [Ae n h0 h1]
theorem yqt (n:Int) (h0:0<=n) (h1:n<=4294967295):Is 16 n↔n % 128+4096 * (n / 4096 % 8)=24595:=by
 show bits .and .i64 n 28799=24595↔_;rw [Ae n h0 h1]
theorem yqu (n:Int) (h0:0<=n) (h1:n<=4294967295):Is 17 n↔n % 128+4096 * (n / 4096 % 8)=28691:=by
 show bits .and .i64 n 28799=28691↔_;rw [Ae n h0 h1]
theorem ysv (n:Int) (h0:0<=n) (h1:n<=4294967295):Is 18 n↔n % 128+4096 * (n / 4096 % 8)+33554432 * (n / 33554432)=51:=by
 show bits .and .i64 n 4261441663=51↔_;rw [LH n h0 h1]
theorem ysw (n:Int) (h0:0<=n) (h1:n<=4294967295):Is 19 n↔n % 128+4096 * (n / 4096 % 8)+33554432 * (n / 33554432)=1073741875:=by
 show bits .and .i64 n 4261441663=1073741875↔_;rw [LH n h0 h1]
theorem ysx (n:Int) (h0:0<=n) (h1:n<=4294967295):Is 20 n↔n % 128+4096 * (n / 4096 % 8)+33554432 * (n / 33554432)=8243:=by
 show bits .and .i64 n 4261441663=8243↔_;rw [LH n h0 h1]
theorem ysy (n:Int) (h0:0<=n) (h1:n<=4294967295):Is 21 n↔n % 128+4096 * (n / 4096 % 8)+33554432 * (n / 33554432)=12339:=by
 show bits .and .i64 n 4261441663=12339↔_;rw [LH n h0 h1]
theorem ysz (n:Int) (h0:0<=n) (h1:n<=4294967295):Is 22 n↔n % 128+4096 * (n / 4096 % 8)+33554432 * (n / 33554432)=16435:=by
 show bits .and .i64 n 4261441663=16435↔_;rw [LH n h0 h1]
theorem ysA (n:Int) (h0:0<=n) (h1:n<=4294967295):Is 23 n↔n % 128+4096 * (n / 4096 % 8)+33554432 * (n / 33554432)=24627:=by
 show bits .and .i64 n 4261441663=24627↔_;rw [LH n h0 h1]
theorem ysB (n:Int) (h0:0<=n) (h1:n<=4294967295):Is 24 n↔n % 128+4096 * (n / 4096 % 8)+33554432 * (n / 33554432)=28723:=by
 show bits .and .i64 n 4261441663=28723↔_;rw [LH n h0 h1]
theorem ysC (n:Int) (h0:0<=n) (h1:n<=4294967295):Is 25 n↔n=115:=by
 show bits .and .i64 n 4294967295=115↔_;rw [ysD n h0 h1]
def yq (n op rd au m:Int):Prop :=
  ((5<=op/\op<=10/\m=0)↔yU n)/\((op=3/\m=0)↔iP n)/\((op=1/\m=0)↔nS 55 n)/\((op=2/\m=0)↔nS 23 n) /\
  ((op=4/\m=0)↔yY 103 0 n)/\((op=11/\m=0)↔yY 3 2 n)/\((op=12/\m=0)↔oL n)/\((op=13/\m=0)↔yY 19 0 n) /\
  ((op=1\/op=2)->rd=n / 128 % 32)/\((op=4\/op=11\/op=12\/op=13)->au=n / 32768 % 32)
theorem yD (n d:Int) (h0:0<=n) (h1:n<=4294967295) (hd:1<=d):bits .and .i64 (n / d) 31=n / d % 32:=by
 have a:0<=n / d:=Int.ediv_nonneg h0 (by omega);have b:n / d<=n:=Int.ediv_le_self d h0;exact low (n / d) 5 (by decide) 31 32 rfl rfl a (by omega)
theorem yrP (n:Int) (h0:0<=n) (h1:n<=4294967295) (h:∀ k,1<=k->k<=25->¬ Is k n):yq n 0 0 0 0:=by
 have i1:=h 1 (by decide) (by decide);rw [Dl n h0 h1] at i1;have i2:=h 2 (by decide) (by decide);rw [GD n h0 h1] at i2;have i3:=h 3 (by decide) (by decide);rw [GH n h0 h1] at i3;have i4:=h 4 (by decide) (by decide);rw [GI n h0 h1] at i4;have i5:=h 5 (by decide) (by decide);rw [GJ n h0 h1] at i5;have i6:=h 6 (by decide) (by decide);rw [GL n h0 h1] at i6;have i7:=h 7 (by decide) (by decide);rw [GN n h0 h1] at i7;have i8:=h 8 (by decide) (by decide);rw [GU n h0 h1] at i8;have i9:=h 9 (by decide) (by decide);rw [GV n h0 h1] at i9;have i10:=h 10 (by decide) (by decide);rw [Sj n h0 h1] at i10;have i11:=h 11 (by decide) (by decide)
 rw [Sk n h0 h1] at i11;have i12:=h 12 (by decide) (by decide);rw [Sl n h0 h1] at i12;have i13:=h 13 (by decide) (by decide);rw [Sm n h0 h1] at i13;clear h;unfold yq yU iP nS yY oL;refine ⟨?_,?_,?_,?_,?_,?_,?_,?_,?_,?_⟩ <;> omega
theorem ysk (n m:Int) (h0:0<=n) (h1:n<=4294967295) (hi:Is 1 n) (_hm:m=0↔yk 1 n):yq n 1 (gI 1 n) (bI 1 n) m:=by
 rw [Dl n h0 h1] at hi;have hz:yk 1 n↔n / 4096=0:=by simp [yk]
 rw [hz] at _hm;have hrd:gI 1 n=n / 128 % 32:=by rw [<- yD n 128 h0 h1 (by decide)]; rfl
 have hrs:bI 1 n=0:=by rfl
 unfold yq yU iP nS yY oL;rw [hrd,hrs];clear hz;refine ⟨?_,?_,?_,?_,?_,?_,?_,?_,?_,?_⟩ <;> omega
theorem ysl (n m:Int) (h0:0<=n) (h1:n<=4294967295) (hi:Is 2 n) (_hm:m=0↔yk 1 n):yq n 2 (gI 1 n) (bI 1 n) m:=by
 rw [GD n h0 h1] at hi;have hz:yk 1 n↔n / 4096=0:=by simp [yk]
 rw [hz] at _hm;have hrd:gI 1 n=n / 128 % 32:=by rw [<- yD n 128 h0 h1 (by decide)]; rfl
 have hrs:bI 1 n=0:=by rfl
 unfold yq yU iP nS yY oL;rw [hrd,hrs];clear hz;refine ⟨?_,?_,?_,?_,?_,?_,?_,?_,?_,?_⟩ <;> omega
theorem ysm (n m:Int) (h0:0<=n) (h1:n<=4294967295) (hi:Is 3 n) (_hm:m=0↔yk 2 n):yq n 3 (gI 2 n) (bI 2 n) m:=by
 rw [GH n h0 h1] at hi;have hz:yk 2 n↔n / 4096=0:=by simp [yk]
 rw [hz] at _hm;have hrd:gI 2 n=n / 128 % 32:=by rw [<- yD n 128 h0 h1 (by decide)]; rfl
 have hrs:bI 2 n=0:=by rfl
 unfold yq yU iP nS yY oL;rw [hrd,hrs];clear hz;refine ⟨?_,?_,?_,?_,?_,?_,?_,?_,?_,?_⟩ <;> omega
theorem ysn (n m:Int) (h0:0<=n) (h1:n<=4294967295) (hi:Is 4 n) (_hm:m=0↔yk 3 n):yq n 4 (gI 3 n) (bI 3 n) m:=by
 rw [GI n h0 h1] at hi;have hz:yk 3 n↔n / 1048576=0:=by simp [yk]
 rw [hz] at _hm;have hrd:gI 3 n=n / 128 % 32:=by rw [<- yD n 128 h0 h1 (by decide)]; rfl
 have hrs:bI 3 n=n / 32768 % 32:=by rw [<- yD n 32768 h0 h1 (by decide)]; rfl
 unfold yq yU iP nS yY oL;rw [hrd,hrs];clear hz;refine ⟨?_,?_,?_,?_,?_,?_,?_,?_,?_,?_⟩ <;> omega
theorem yso (n m:Int) (h0:0<=n) (h1:n<=4294967295) (hi:Is 5 n) (_hm:m=0↔yk 4 n):yq n 5 (gI 4 n) (bI 4 n) m:=by
 rw [GJ n h0 h1] at hi;have hz:yk 4 n↔n / 33554432=0/\n / 128 % 32=0:=by simp [yk]
 rw [hz] at _hm;have hrd:gI 4 n=0:=by rfl
 have hrs:bI 4 n=n / 32768 % 32:=by rw [<- yD n 32768 h0 h1 (by decide)]; rfl
 unfold yq yU iP nS yY oL;rw [hrd,hrs];clear hz;refine ⟨?_,?_,?_,?_,?_,?_,?_,?_,?_,?_⟩ <;> omega
theorem ysp (n m:Int) (h0:0<=n) (h1:n<=4294967295) (hi:Is 6 n) (_hm:m=0↔yk 4 n):yq n 6 (gI 4 n) (bI 4 n) m:=by
 rw [GL n h0 h1] at hi;have hz:yk 4 n↔n / 33554432=0/\n / 128 % 32=0:=by simp [yk]
 rw [hz] at _hm;have hrd:gI 4 n=0:=by rfl
 have hrs:bI 4 n=n / 32768 % 32:=by rw [<- yD n 32768 h0 h1 (by decide)]; rfl
 unfold yq yU iP nS yY oL;rw [hrd,hrs];clear hz;refine ⟨?_,?_,?_,?_,?_,?_,?_,?_,?_,?_⟩ <;> omega
theorem ysq (n m:Int) (h0:0<=n) (h1:n<=4294967295) (hi:Is 7 n) (_hm:m=0↔yk 4 n):yq n 7 (gI 4 n) (bI 4 n) m:=by
 rw [GN n h0 h1] at hi;have hz:yk 4 n↔n / 33554432=0/\n / 128 % 32=0:=by simp [yk]
 rw [hz] at _hm;have hrd:gI 4 n=0:=by rfl
 have hrs:bI 4 n=n / 32768 % 32:=by rw [<- yD n 32768 h0 h1 (by decide)]; rfl
 unfold yq yU iP nS yY oL;rw [hrd,hrs];clear hz;refine ⟨?_,?_,?_,?_,?_,?_,?_,?_,?_,?_⟩ <;> omega
theorem ysr (n m:Int) (h0:0<=n) (h1:n<=4294967295) (hi:Is 8 n) (_hm:m=0↔yk 4 n):yq n 8 (gI 4 n) (bI 4 n) m:=by
 rw [GU n h0 h1] at hi;have hz:yk 4 n↔n / 33554432=0/\n / 128 % 32=0:=by simp [yk]
 rw [hz] at _hm;have hrd:gI 4 n=0:=by rfl
 have hrs:bI 4 n=n / 32768 % 32:=by rw [<- yD n 32768 h0 h1 (by decide)]; rfl
 unfold yq yU iP nS yY oL;rw [hrd,hrs];clear hz;refine ⟨?_,?_,?_,?_,?_,?_,?_,?_,?_,?_⟩ <;> omega
theorem yss (n m:Int) (h0:0<=n) (h1:n<=4294967295) (hi:Is 9 n) (_hm:m=0↔yk 4 n):yq n 9 (gI 4 n) (bI 4 n) m:=by
 rw [GV n h0 h1] at hi;have hz:yk 4 n↔n / 33554432=0/\n / 128 % 32=0:=by simp [yk]
 rw [hz] at _hm;have hrd:gI 4 n=0:=by rfl
 have hrs:bI 4 n=n / 32768 % 32:=by rw [<- yD n 32768 h0 h1 (by decide)]; rfl
 unfold yq yU iP nS yY oL;rw [hrd,hrs];clear hz;refine ⟨?_,?_,?_,?_,?_,?_,?_,?_,?_,?_⟩ <;> omega
theorem yrz (n m:Int) (h0:0<=n) (h1:n<=4294967295) (hi:Is 10 n) (_hm:m=0↔yk 4 n):yq n 10 (gI 4 n) (bI 4 n) m:=by
 rw [Sj n h0 h1] at hi;have hz:yk 4 n↔n / 33554432=0/\n / 128 % 32=0:=by simp [yk]
 rw [hz] at _hm;have hrd:gI 4 n=0:=by rfl
 have hrs:bI 4 n=n / 32768 % 32:=by rw [<- yD n 32768 h0 h1 (by decide)]; rfl
 unfold yq yU iP nS yY oL;rw [hrd,hrs];clear hz;refine ⟨?_,?_,?_,?_,?_,?_,?_,?_,?_,?_⟩ <;> omega
theorem yrA (n m:Int) (h0:0<=n) (h1:n<=4294967295) (hi:Is 11 n) (_hm:m=0↔yk 3 n):yq n 11 (gI 3 n) (bI 3 n) m:=by
 rw [Sk n h0 h1] at hi;have hz:yk 3 n↔n / 1048576=0:=by simp [yk]
 rw [hz] at _hm;have hrd:gI 3 n=n / 128 % 32:=by rw [<- yD n 128 h0 h1 (by decide)]; rfl
 have hrs:bI 3 n=n / 32768 % 32:=by rw [<- yD n 32768 h0 h1 (by decide)]; rfl
 unfold yq yU iP nS yY oL;rw [hrd,hrs];clear hz;refine ⟨?_,?_,?_,?_,?_,?_,?_,?_,?_,?_⟩ <;> omega
theorem yrB (n m:Int) (h0:0<=n) (h1:n<=4294967295) (hi:Is 12 n) (_hm:m=0↔yk 5 n):yq n 12 (gI 5 n) (bI 5 n) m:=by
 rw [Sl n h0 h1] at hi;have hz:yk 5 n↔n / 33554432=0/\n / 128 % 32=0:=by simp [yk]
 rw [hz] at _hm;have hrd:gI 5 n=0:=by rfl
 have hrs:bI 5 n=n / 32768 % 32:=by rw [<- yD n 32768 h0 h1 (by decide)]; rfl
 unfold yq yU iP nS yY oL;rw [hrd,hrs];clear hz;refine ⟨?_,?_,?_,?_,?_,?_,?_,?_,?_,?_⟩ <;> omega
theorem yrC (n m:Int) (h0:0<=n) (h1:n<=4294967295) (hi:Is 13 n) (_hm:m=0↔yk 3 n):yq n 13 (gI 3 n) (bI 3 n) m:=by
 rw [Sm n h0 h1] at hi;have hz:yk 3 n↔n / 1048576=0:=by simp [yk]
 rw [hz] at _hm;have hrd:gI 3 n=n / 128 % 32:=by rw [<- yD n 128 h0 h1 (by decide)]; rfl
 have hrs:bI 3 n=n / 32768 % 32:=by rw [<- yD n 32768 h0 h1 (by decide)]; rfl
 unfold yq yU iP nS yY oL;rw [hrd,hrs];clear hz;refine ⟨?_,?_,?_,?_,?_,?_,?_,?_,?_,?_⟩ <;> omega
theorem yrD (n m:Int) (h0:0<=n) (h1:n<=4294967295) (hi:Is 14 n) (_hm:m=0↔yk 3 n):yq n 14 (gI 3 n) (bI 3 n) m:=by
 rw [yqr n h0 h1] at hi;have hz:yk 3 n↔n / 1048576=0:=by simp [yk]
 rw [hz] at _hm;have hrd:gI 3 n=n / 128 % 32:=by rw [<- yD n 128 h0 h1 (by decide)]; rfl
 have hrs:bI 3 n=n / 32768 % 32:=by rw [<- yD n 32768 h0 h1 (by decide)]; rfl
 unfold yq yU iP nS yY oL;rw [hrd,hrs];clear hz;refine ⟨?_,?_,?_,?_,?_,?_,?_,?_,?_,?_⟩ <;> omega
theorem yrE (n m:Int) (h0:0<=n) (h1:n<=4294967295) (hi:Is 15 n) (_hm:m=0↔yk 3 n):yq n 15 (gI 3 n) (bI 3 n) m:=by
 rw [yqs n h0 h1] at hi;have hz:yk 3 n↔n / 1048576=0:=by simp [yk]
 rw [hz] at _hm;have hrd:gI 3 n=n / 128 % 32:=by rw [<- yD n 128 h0 h1 (by decide)]; rfl
 have hrs:bI 3 n=n / 32768 % 32:=by rw [<- yD n 32768 h0 h1 (by decide)]; rfl
 unfold yq yU iP nS yY oL;rw [hrd,hrs];clear hz;refine ⟨?_,?_,?_,?_,?_,?_,?_,?_,?_,?_⟩ <;> omega
theorem yrF (n m:Int) (h0:0<=n) (h1:n<=4294967295) (hi:Is 16 n) (_hm:m=0↔yk 3 n):yq n 16 (gI 3 n) (bI 3 n) m:=by
 rw [yqt n h0 h1] at hi;have hz:yk 3 n↔n / 1048576=0:=by simp [yk]
 rw [hz] at _hm;have hrd:gI 3 n=n / 128 % 32:=by rw [<- yD n 128 h0 h1 (by decide)]; rfl
 have hrs:bI 3 n=n / 32768 % 32:=by rw [<- yD n 32768 h0 h1 (by decide)]; rfl
 unfold yq yU iP nS yY oL;rw [hrd,hrs];clear hz;refine ⟨?_,?_,?_,?_,?_,?_,?_,?_,?_,?_⟩ <;> omega
theorem yrG (n m:Int) (h0:0<=n) (h1:n<=4294967295) (hi:Is 17 n) (_hm:m=0↔yk 3 n):yq n 17 (gI 3 n) (bI 3 n) m:=by
 rw [yqu n h0 h1] at hi;have hz:yk 3 n↔n / 1048576=0:=by simp [yk]
 rw [hz] at _hm;have hrd:gI 3 n=n / 128 % 32:=by rw [<- yD n 128 h0 h1 (by decide)]; rfl
 have hrs:bI 3 n=n / 32768 % 32:=by rw [<- yD n 32768 h0 h1 (by decide)]; rfl
 unfold yq yU iP nS yY oL;rw [hrd,hrs];clear hz;refine ⟨?_,?_,?_,?_,?_,?_,?_,?_,?_,?_⟩ <;> omega
theorem yrH (n m:Int) (h0:0<=n) (h1:n<=4294967295) (hi:Is 18 n) (_hm:m=0↔yk 6 n):yq n 18 (gI 6 n) (bI 6 n) m:=by
 rw [ysv n h0 h1] at hi;have hz:yk 6 n↔True:=by simp [yk]
 rw [hz] at _hm;have hrd:gI 6 n=n / 128 % 32:=by rw [<- yD n 128 h0 h1 (by decide)]; rfl
 have hrs:bI 6 n=n / 32768 % 32:=by rw [<- yD n 32768 h0 h1 (by decide)]; rfl
 unfold yq yU iP nS yY oL;rw [hrd,hrs];simp only [iff_true] at _hm;refine ⟨?_,?_,?_,?_,?_,?_,?_,?_,?_,?_⟩ <;> omega
theorem yrI (n m:Int) (h0:0<=n) (h1:n<=4294967295) (hi:Is 19 n) (_hm:m=0↔yk 6 n):yq n 19 (gI 6 n) (bI 6 n) m:=by
 rw [ysw n h0 h1] at hi;have hz:yk 6 n↔True:=by simp [yk]
 rw [hz] at _hm;have hrd:gI 6 n=n / 128 % 32:=by rw [<- yD n 128 h0 h1 (by decide)]; rfl
 have hrs:bI 6 n=n / 32768 % 32:=by rw [<- yD n 32768 h0 h1 (by decide)]; rfl
 unfold yq yU iP nS yY oL;rw [hrd,hrs];simp only [iff_true] at _hm;refine ⟨?_,?_,?_,?_,?_,?_,?_,?_,?_,?_⟩ <;> omega
theorem yrJ (n m:Int) (h0:0<=n) (h1:n<=4294967295) (hi:Is 20 n) (_hm:m=0↔yk 6 n):yq n 20 (gI 6 n) (bI 6 n) m:=by
 rw [ysx n h0 h1] at hi;have hz:yk 6 n↔True:=by simp [yk]
 rw [hz] at _hm;have hrd:gI 6 n=n / 128 % 32:=by rw [<- yD n 128 h0 h1 (by decide)]; rfl
 have hrs:bI 6 n=n / 32768 % 32:=by rw [<- yD n 32768 h0 h1 (by decide)]; rfl
 unfold yq yU iP nS yY oL;rw [hrd,hrs];simp only [iff_true] at _hm;refine ⟨?_,?_,?_,?_,?_,?_,?_,?_,?_,?_⟩ <;> omega
theorem yrK (n m:Int) (h0:0<=n) (h1:n<=4294967295) (hi:Is 21 n) (_hm:m=0↔yk 6 n):yq n 21 (gI 6 n) (bI 6 n) m:=by
 rw [ysy n h0 h1] at hi;have hz:yk 6 n↔True:=by simp [yk]
 rw [hz] at _hm;have hrd:gI 6 n=n / 128 % 32:=by rw [<- yD n 128 h0 h1 (by decide)]; rfl
 have hrs:bI 6 n=n / 32768 % 32:=by rw [<- yD n 32768 h0 h1 (by decide)]; rfl
 unfold yq yU iP nS yY oL;rw [hrd,hrs];simp only [iff_true] at _hm;refine ⟨?_,?_,?_,?_,?_,?_,?_,?_,?_,?_⟩ <;> omega
theorem yrL (n m:Int) (h0:0<=n) (h1:n<=4294967295) (hi:Is 22 n) (_hm:m=0↔yk 6 n):yq n 22 (gI 6 n) (bI 6 n) m:=by
 rw [ysz n h0 h1] at hi;have hz:yk 6 n↔True:=by simp [yk]
 rw [hz] at _hm;have hrd:gI 6 n=n / 128 % 32:=by rw [<- yD n 128 h0 h1 (by decide)]; rfl
 have hrs:bI 6 n=n / 32768 % 32:=by rw [<- yD n 32768 h0 h1 (by decide)]; rfl
 unfold yq yU iP nS yY oL;rw [hrd,hrs];simp only [iff_true] at _hm;refine ⟨?_,?_,?_,?_,?_,?_,?_,?_,?_,?_⟩ <;> omega
theorem yrM (n m:Int) (h0:0<=n) (h1:n<=4294967295) (hi:Is 23 n) (_hm:m=0↔yk 6 n):yq n 23 (gI 6 n) (bI 6 n) m:=by
 rw [ysA n h0 h1] at hi;have hz:yk 6 n↔True:=by simp [yk]
 rw [hz] at _hm;have hrd:gI 6 n=n / 128 % 32:=by rw [<- yD n 128 h0 h1 (by decide)]; rfl
 have hrs:bI 6 n=n / 32768 % 32:=by rw [<- yD n 32768 h0 h1 (by decide)]; rfl
 unfold yq yU iP nS yY oL;rw [hrd,hrs];simp only [iff_true] at _hm;refine ⟨?_,?_,?_,?_,?_,?_,?_,?_,?_,?_⟩ <;> omega
theorem yrN (n m:Int) (h0:0<=n) (h1:n<=4294967295) (hi:Is 24 n) (_hm:m=0↔yk 6 n):yq n 24 (gI 6 n) (bI 6 n) m:=by
 rw [ysB n h0 h1] at hi;have hz:yk 6 n↔True:=by simp [yk]
 rw [hz] at _hm;have hrd:gI 6 n=n / 128 % 32:=by rw [<- yD n 128 h0 h1 (by decide)]; rfl
 have hrs:bI 6 n=n / 32768 % 32:=by rw [<- yD n 32768 h0 h1 (by decide)]; rfl
 unfold yq yU iP nS yY oL;rw [hrd,hrs];simp only [iff_true] at _hm;refine ⟨?_,?_,?_,?_,?_,?_,?_,?_,?_,?_⟩ <;> omega
theorem yrO (n m:Int) (h0:0<=n) (h1:n<=4294967295) (hi:Is 25 n) (_hm:m=0↔yk 7 n):yq n 25 (gI 7 n) (bI 7 n) m:=by
 rw [ysC n h0 h1] at hi;have hz:yk 7 n↔True:=by simp [yk]
 rw [hz] at _hm;have hrd:gI 7 n=0:=by rfl
 have hrs:bI 7 n=0:=by rfl
 unfold yq yU iP nS yY oL;rw [hrd,hrs];simp only [iff_true] at _hm;refine ⟨?_,?_,?_,?_,?_,?_,?_,?_,?_,?_⟩ <;> omega
theorem Lg (n op rd au m:Int) (h0:0<=n) (h1:n<=4294967295) (h:Dec n op rd au m):yq n op rd au m:=by
 rcases h with ⟨rfl,rfl,rfl,rfl,h⟩ | ⟨k,k1,k2,hi,-,rfl,rfl,rfl,hm⟩
 ·exact yrP n h0 h1 h
 ·rcases (show k=1\/k=2\/k=3\/k=4\/k=5\/k=6\/k=7\/k=8\/k=9\/k=10\/k=11\/k=12\/k=13\/k=14\/k=15\/k=16\/k=17\/k=18\/k=19\/k=20\/k=21\/k=22\/k=23\/k=24\/k=25 from by omega) with rfl | rfl | rfl | rfl | rfl | rfl | rfl | rfl | rfl | rfl | rfl | rfl | rfl | rfl | rfl | rfl | rfl | rfl | rfl | rfl | rfl | rfl | rfl | rfl | rfl
  ·exact ysk n m h0 h1 hi hm
  ·exact ysl n m h0 h1 hi hm
  ·exact ysm n m h0 h1 hi hm
  ·exact ysn n m h0 h1 hi hm
  ·exact yso n m h0 h1 hi hm
  ·exact ysp n m h0 h1 hi hm
  ·exact ysq n m h0 h1 hi hm
  ·exact ysr n m h0 h1 hi hm
  ·exact yss n m h0 h1 hi hm
  ·exact yrz n m h0 h1 hi hm
  ·exact yrA n m h0 h1 hi hm
  ·exact yrB n m h0 h1 hi hm
  ·exact yrC n m h0 h1 hi hm
  ·exact yrD n m h0 h1 hi hm
  ·exact yrE n m h0 h1 hi hm
  ·exact yrF n m h0 h1 hi hm
  ·exact yrG n m h0 h1 hi hm
  ·exact yrH n m h0 h1 hi hm
  ·exact yrI n m h0 h1 hi hm
  ·exact yrJ n m h0 h1 hi hm
  ·exact yrK n m h0 h1 hi hm
  ·exact yrL n m h0 h1 hi hm
  ·exact yrM n m h0 h1 hi hm
  ·exact yrN n m h0 h1 hi hm
  ·exact yrO n m h0 h1 hi hm
def Cy (xs:List Int):Prop:=∀ i (h:i < xs.length),xs[i]=19
theorem ylf (ao:Option Addr) (cap:Nat) (xs:List Int) (w:World) (h:yC w ao xs) (hn:xs.length<=65535) :
  Calls Tryz.prog 221 #[.slice ao xs.length cap] w fun e w'=>yg e (Cy xs)/\w'=w:=by
 have H:=hid h;clear h;go_enter Tryz.func221,Tryz.ntmps221;go_wp2
 go_loop [7] (fun i=>∃ k:Nat,k<=xs.length/\i = .int .i64 k/\∀ j (hj:j < xs.length),j < k->xs[j]=19) (fun i=>xs.length - (intOf i).toNat)
 case atStart=>exact ⟨0,Nat.zero_le _,rfl,fun j _ hj=>absurd hj (Nat.not_lt_zero j)⟩
 case round =>
  obtain ⟨k,hk,rfl,hall⟩:=hrel;have HA:=hid hall;clear hall;by_cases hlt:k < xs.length
  ·obtain ⟨g,off,rfl,hc⟩:=H.o (by omega);have hck:=hc k hlt;clear hc;by_cases h1:xs[k]=19
   ·have HE:=hid h1;have d1:(xs[k] == 19)=true:=beq_iff_eq.2 h1;clear h1;go_wp2
    go_round
    case rel=>exact ⟨k+1,by omega,by go_num,fun j hj hjk=>(Nat.lt_succ_iff_lt_or_eq.1 hjk).elim (fun h=>HA.o j hj h) (fun h=>by subst h; exact HE.o)⟩
    case measure=>simp [intOf]; omega
   ·have N:=hid (show ¬ Cy xs from fun hw=>h1 (hw k hlt));have d1:(xs[k] == 19)=false:=beq_eq_false_iff_ne.2 h1;clear h1;go_wp2;go_ret;exact ⟨yg.no N.o,rfl⟩
  ·go_wp2;go_ret;exact ⟨yg.yes fun i hi=>HA.o i hi (by omega),rfl⟩
def Pv (kind op1 rd m1 op2 rs m2:Int):Prop:=(rd≠0/\rs=rd/\m1=0/\m2=0)/\(if kind=4 then op1=2/\op2=4 else op1=1/\(op2=13\/op2=11\/op2=12))
theorem Yu (kind op1 Bj s1 t1 m1 op2 Eh s2 t2 m2:Int) (w:World) :
  Calls Tryz.prog 220 #[.int .i64 kind,bD op1 Bj s1 t1 m1,bD op2 Eh s2 t2 m2] w fun e w'=>yg e (Pv kind op1 Bj m1 op2 s2 m2)/\w.grownBy w' none:=by
 have G1:=hid (fun o:Obj=>aH w o none);have G2:=hid (fun o o':Obj=>aH (w.alloc o) o' none);have HQ:=hid (show Pv kind op1 Bj m1 op2 s2 m2↔(Bj≠0/\s2=Bj/\m1=0/\m2=0)/\(if kind=4 then op1=2/\op2=4 else op1=1/\(op2=13\/op2=11\/op2=12)) from Iff.rfl);generalize Pv kind op1 Bj m1 op2 s2 m2=Q at *;unfold bD;by_cases c1:Bj=0
 ·have N:=hid (show ¬ Q from fun q=>(HQ.o.1 q).1.1 c1);subst c1;clear HQ;go_enter Tryz.func220,Tryz.ntmps220;go_wp2;go_ret;exact ⟨yg.no N.o,ya (G1.o _) (G2.o _ _)⟩
 have d1:(Bj == 0)=false:=beq_eq_false_iff_ne.2 c1;by_cases c2:s2=Bj
 rotate_left
 ·have N:=hid (show ¬ Q from fun q=>c2 (HQ.o.1 q).1.2.1);have d2:(s2 != Bj)=true:=by simpa using c2
  clear HQ c1 c2;go_enter Tryz.func220,Tryz.ntmps220;go_wp2;go_ret;exact ⟨yg.no N.o,ya (G1.o _) (G2.o _ _)⟩
 subst c2;have d2:(s2 == s2)=true:=by simp
 by_cases c3:m1=0
 rotate_left
 ·have N:=hid (show ¬ Q from fun q=>c3 (HQ.o.1 q).1.2.2.1);have d3:(m1 == 0)=false:=beq_eq_false_iff_ne.2 c3;clear HQ c1 c3;go_enter Tryz.func220,Tryz.ntmps220;go_wp2;go_ret;exact ⟨yg.no N.o,ya (G1.o _) (G2.o _ _)⟩
 subst c3;by_cases c4:m2=0
 rotate_left
 ·have N:=hid (show ¬ Q from fun q=>c4 (HQ.o.1 q).1.2.2.2);have d4:(m2 == 0)=false:=beq_eq_false_iff_ne.2 c4;clear HQ c1 c4;go_enter Tryz.func220,Tryz.ntmps220;go_wp2;go_ret;exact ⟨yg.no N.o,ya (G1.o _) (G2.o _ _)⟩
 subst c4;have C1:=hid c1;clear c1;by_cases k4:kind=4
 ·subst k4;have pO:=hid (show Q↔op1=2/\op2=4 from by rw [HQ.o,if_pos rfl]; exact ⟨fun h=>h.2,fun h=>⟨⟨C1.o,rfl,rfl,rfl⟩,h⟩⟩);clear HQ;by_cases o1:op1=2
  ·subst o1;go_enter Tryz.func220,Tryz.ntmps220;go_wp2;go_ret;exact ⟨yg.of (by rw [pO.o,beq_iff_eq]; simp),ya (G1.o _) (G2.o _ _)⟩
  ·have N:=hid (show ¬ Q from fun q=>o1 (pO.o.1 q).1);have d5:(op1 == 2)=false:=beq_eq_false_iff_ne.2 o1;clear pO o1;go_enter Tryz.func220,Tryz.ntmps220;go_wp2;go_ret;exact ⟨yg.no N.o,ya (G1.o _) (G2.o _ _)⟩
 ·have pO:=hid (show Q↔op1=1/\(op2=13\/op2=11\/op2=12) from by rw [HQ.o,if_neg k4]; exact ⟨fun h=>h.2,fun h=>⟨⟨C1.o,rfl,rfl,rfl⟩,h⟩⟩);have dk:(kind == 4)=false:=beq_eq_false_iff_ne.2 k4;clear HQ k4;by_cases o1:op1=1
  rotate_left
  ·have N:=hid (show ¬ Q from fun q=>o1 (pO.o.1 q).1);have d5:(op1 == 1)=false:=beq_eq_false_iff_ne.2 o1;clear pO o1;go_enter Tryz.func220,Tryz.ntmps220;go_wp2;go_ret;exact ⟨yg.no N.o,ya (G1.o _) (G2.o _ _)⟩
  subst o1;by_cases o2:op2=13
  ·subst o2;go_enter Tryz.func220,Tryz.ntmps220;go_wp2;go_ret;exact ⟨yg.yes (by rw [pO.o]; simp),ya (G1.o _) (G2.o _ _)⟩
  have e2:(op2 == 13)=false:=beq_eq_false_iff_ne.2 o2;by_cases o3:op2=11
  ·subst o3;go_enter Tryz.func220,Tryz.ntmps220;go_wp2;go_ret;exact ⟨yg.yes (by rw [pO.o]; simp),ya (G1.o _) (G2.o _ _)⟩
  have e3:(op2 == 11)=false:=beq_eq_false_iff_ne.2 o3;have O:=hid (⟨o2,o3⟩:op2≠13/\op2≠11);clear o2 o3;go_enter Tryz.func220,Tryz.ntmps220;go_wp2;go_ret;exact ⟨yg.of (by rw [pO.o,beq_iff_eq]; have:=O.o; simp; omega),ya (G1.o _) (G2.o _ _)⟩
def MR (kind a b:Int):Prop:=a / 128 % 32≠0/\b / 32768 % 32=a / 128 % 32/\(if kind=4 then nS 23 a/\yY 103 0 b else nS 55 a/\(yY 19 0 b\/yY 3 2 b\/oL b))
theorem Zp (kind a b op1 Bj s1 m1 op2 Eh s2 m2:Int) (h1:yq a op1 Bj s1 m1) (h2:yq b op2 Eh s2 m2):Pv kind op1 Bj m1 op2 s2 m2↔MR kind a b:=by
 obtain ⟨-,-,a1,a2,-,-,-,-,a9,-⟩:=h1;obtain ⟨-,-,-,-,b4,b11,b12,b13,-,b10⟩:=h2;unfold Pv MR;rw [<- a1,<- a2,<- b4,<- b11,<- b12,<- b13];split
 ·constructor
  ·rintro ⟨⟨x1,x2,x3,x4⟩,x5,x6⟩;have y1:=a9 (.inr x5);have y2:=b10 (.inl x6);rw [<- y1,<- y2];exact ⟨x1,x2,⟨x5,x3⟩,x6,x4⟩
  ·rintro ⟨x1,x2,⟨x5,x3⟩,x6,x4⟩;have y1:=a9 (.inr x5);have y2:=b10 (.inl x6);rw [<- y1] at x1 x2;rw [<- y2] at x2;exact ⟨⟨x1,x2,x3,x4⟩,x5,x6⟩
 ·constructor
  ·rintro ⟨⟨x1,x2,x3,x4⟩,x5,x6⟩;have y1:=a9 (.inl x5);have y2:=b10 (by omega);rw [<- y1,<- y2];exact ⟨x1,x2,⟨x5,x3⟩,by omega⟩
  ·rintro ⟨x1,x2,⟨x5,x3⟩,x6⟩;have y1:=a9 (.inl x5);have y2:=b10 (by omega);rw [<- y1] at x1 x2;rw [<- y2] at x2;exact ⟨⟨x1,x2,x3,by omega⟩,x5,by omega⟩
def pI (kind:Int) (xs:List Int):Prop :=
 if kind=1 then xs.getD 0 0=0 else if kind=2 then yU (xs.getD 0 0) else if kind=3 then iP (xs.getD 0 0) else if kind=4\/kind=5 then MR kind (xs.getD 0 0) (xs.getD 1 0) else if kind=6 then Cy xs else False
theorem YO (kind:Int) (w:World) :
  Calls Tryz.prog 206 #[.int .i64 kind,.slice none 0 0] w fun e w'=>e = .returned (.bool false)/\w'=w:=by
 go_enter Tryz.func206,Tryz.ntmps206;go_wp2;go_ret;exact ⟨rfl,rfl⟩
theorem YN (kind:Int) (ao:Option Addr) (cap:Nat) (xs:List Int) (w:World) (ht:dV w) (h:yC w ao xs) (hw:sS xs) (hn:xs.length<=3) (hn1:1<=xs.length) (hk:1<=kind/\kind<=6) (h2:kind=4\/kind=5->xs.length=2) :
  Calls Tryz.prog 206 #[.int .i64 kind,.slice ao xs.length cap] w fun e w'=>yg e (pI kind xs)/\w.grownBy w' none:=by
 obtain ⟨g,off,rfl,hc⟩:=h (by omega);have hx0:=hw 0 (by omega);have hgd:xs.getD 0 0=xs[0]:=by rw [lN,jW (by omega)]; rfl
 have q0:=hc 0 (by omega);have cD:=hid (UR xs[0] w ht hx0.1 hx0.2);have cN:=hid (fun W (hW:yC W (some ⟨g,off,none⟩) xs)=>ylf (some ⟨g,off,none⟩) cap xs W hW (by omega));have HI:=hid h;simp only [Nat.add_zero] at q0;rcases (show kind=1\/kind=2\/kind=3\/kind=6\/kind=4\/kind=5 from by omega) with rfl | rfl | rfl | rfl | rfl | rfl
 ·have HQ:=hid (show pI 1 xs↔xs[0]=0 from by simp only [pI,if_true]; rw [hgd]);generalize pI 1 xs=Q at *;clear h2 hk h hc hw ht HI;go_enter Tryz.func206,Tryz.ntmps206;go_wp2_with fail;refine cD.o.mono ?_;rintro e w1 ⟨⟨op,rd,s1,t1,m,rfl,hd⟩,hq⟩;have q1:=yd q0 hq;unfold bD;have zB:=hid hq;clear hq q0 hd;have GA:=hid (fun ob:Obj=>aH w1 ob none);have q2:=fun ob:Obj=>yd q1 (aH w1 ob none)
  go_wp2;go_ret;exact ⟨yg.of (by rw [HQ.o,beq_iff_eq]),ya zB.o (GA.o _)⟩
 ·have HQ:=hid (show pI 2 xs↔yU xs[0] from by unfold pI; rw [if_neg (by decide),if_pos rfl,hgd]);generalize pI 2 xs=Q at *;clear h2 hk h hc hw ht HI;go_enter Tryz.func206,Tryz.ntmps206;go_wp2_with fail;refine cD.o.mono ?_;rintro e w1 ⟨⟨op,rd,s1,t1,m,rfl,hd⟩,hq⟩;have q1:=yd q0 hq;unfold bD;have zB:=hid hq;have DF:=hid (Lg xs[0] op rd s1 m hx0.1 hx0.2 hd);clear hq q0 hd;have GA:=hid (fun ob:Obj=>aH w1 ob none);by_cases o1:5<=op
  ·have d1:decide (5<=op)=true:=by simpa using o1
   by_cases o2:op<=10
   ·have d2:decide (op<=10)=true:=by simpa using o2
    go_wp2;go_ret;exact ⟨yg.of (by rw [HQ.o,<- DF.o.1,beq_iff_eq]; exact ⟨fun h=>⟨o1,o2,h⟩,fun h=>h.2.2⟩),ya zB.o (GA.o _)⟩
   ·have d2:decide (op<=10)=false:=by simp; omega
    go_wp2;go_ret;exact ⟨yg.no (by rw [HQ.o,<- DF.o.1]; omega),ya zB.o (GA.o _)⟩
  ·have d1:decide (5<=op)=false:=by simp; omega
   go_wp2;go_ret;exact ⟨yg.no (by rw [HQ.o,<- DF.o.1]; omega),ya zB.o (GA.o _)⟩
 ·have HQ:=hid (show pI 3 xs↔iP xs[0] from by unfold pI; rw [if_neg (by decide),if_neg (by decide),if_pos rfl,hgd]);generalize pI 3 xs=Q at *;clear h2 hk h hc hw ht HI;go_enter Tryz.func206,Tryz.ntmps206;go_wp2_with fail;refine cD.o.mono ?_;rintro e w1 ⟨⟨op,rd,s1,t1,m,rfl,hd⟩,hq⟩;have q1:=yd q0 hq;unfold bD;have zB:=hid hq;have DF:=hid (Lg xs[0] op rd s1 m hx0.1 hx0.2 hd);clear hq q0 hd;have GA:=hid (fun ob:Obj=>aH w1 ob none);by_cases o1:op=3
  ·subst o1;go_wp2;go_ret;exact ⟨yg.of (by rw [HQ.o,<- DF.o.2.1,beq_iff_eq]; simp),ya zB.o (GA.o _)⟩
  ·have d1:(op == 3)=false:=beq_eq_false_iff_ne.2 o1;have O:=hid o1;clear o1;go_wp2;go_ret;exact ⟨yg.no (by rw [HQ.o,<- DF.o.2.1]; have:=O.o; omega),ya zB.o (GA.o _)⟩
 ·have HQ:=hid (show pI 6 xs↔Cy xs from by unfold pI; rw [if_neg (by decide),if_neg (by decide),if_neg (by decide),if_neg (by decide),if_pos rfl]);generalize pI 6 xs=Q at *;clear h2 hk h hc hw ht;go_enter Tryz.func206,Tryz.ntmps206;go_wp2_with fail;refine cD.o.mono ?_;rintro e w1 ⟨⟨op,rd,s1,t1,m,rfl,hd⟩,hq⟩;have q1:=yd q0 hq;unfold bD;have zB:=hid hq;have DF:=hid (Lg xs[0] op rd s1 m hx0.1 hx0.2 hd);clear hq q0 hd;have GA:=hid (fun ob:Obj=>aH w1 ob none);go_wp2_with fail;refine (cN.o _ ((HI.o.kept (fun a v hv=>yd hv zB.o)).kept (fun a v hv=>yd hv (GA.o _)))).mono ?_;rintro e w2 ⟨t,rfl⟩;obtain ⟨b,rfl,hb⟩:=t
  have oN:=hid hb;clear hb;go_wp2;go_ret;exact ⟨yg.of (by rw [HQ.o]; exact oN.o),ya zB.o (GA.o _)⟩
 ·have hl2:=h2 (by omega);have hlt1:1 < xs.length:=by omega
  have hx1:=hw 1 hlt1;have hgd1:xs.getD 1 0=xs[1]'hlt1:=by rw [lN,jW hlt1]; rfl
  have HQ:=hid (show pI 4 xs↔MR 4 xs[0] xs[1] from by unfold pI; rw [if_neg (by decide),if_neg (by decide),if_neg (by decide),if_pos (by decide),hgd,hgd1]);have q1:=hc 1 hlt1;have Tf:=hid (fun W (hW:dV W)=>UR xs[1] W hW hx1.1 hx1.2);have HT:=hid ht;generalize pI 4 xs=Q at *;have dl:((xs.length:Int) == 2)=true:=by rw [beq_iff_eq]; omega
  have hl3:2<=xs.length:=by omega
  have g1:(1:Int) < (xs.length:Int):=by omega
  have g2:(0:Int) < (xs.length:Int):=by omega
  clear h2 hk h hc hw ht HI cN hl2;go_enter Tryz.func206,Tryz.ntmps206;go_wp2_with fail;refine cD.o.mono ?_;rintro e w1 ⟨⟨op,rd,s1,t1,m,rfl,hd⟩,hq⟩;unfold bD;have B:=yc.new w1 #[.int .i64 op,.int .i64 rd,.int .i64 s1,.int .i64 t1,.int .i64 m] 143;have GA:=aH w1 (.cells #[.int .i64 op,.int .i64 rd,.int .i64 s1,.int .i64 t1,.int .i64 m] 143) none;have c0:Hd ((w1.alloc (.cells #[.int .i64 op,.int .i64 rd,.int .i64 s1,.int .i64 t1,.int .i64 m] 143)).drew.cell? ⟨w1.heap.size,0,none⟩=some (.int .i64 op)):=B.cell 0;have c1:Hd ((w1.alloc (.cells #[.int .i64 op,.int .i64 rd,.int .i64 s1,.int .i64 t1,.int .i64 m] 143)).drew.cell? ⟨w1.heap.size,1,none⟩=some (.int .i64 rd)):=B.cell 1
  have c2:Hd ((w1.alloc (.cells #[.int .i64 op,.int .i64 rd,.int .i64 s1,.int .i64 t1,.int .i64 m] 143)).drew.cell? ⟨w1.heap.size,2,none⟩=some (.int .i64 s1)):=B.cell 2;have c3:Hd ((w1.alloc (.cells #[.int .i64 op,.int .i64 rd,.int .i64 s1,.int .i64 t1,.int .i64 m] 143)).drew.cell? ⟨w1.heap.size,3,none⟩=some (.int .i64 t1)):=B.cell 3;have c4:Hd ((w1.alloc (.cells #[.int .i64 op,.int .i64 rd,.int .i64 s1,.int .i64 t1,.int .i64 m] 143)).drew.cell? ⟨w1.heap.size,4,none⟩=some (.int .i64 m)):=B.cell 4;have c5:Hd ((w1.alloc (.cells #[.int .i64 op,.int .i64 rd,.int .i64 s1,.int .i64 t1,.int .i64 m] 143)).drew.cell? ⟨g,off+1,none⟩=some (.int .i64 xs[1])):=yd (yd q1 hq) (yi GA)
  have hgl:g < w1.heap.size:=World.block_lt_of_cell? w1 _ (yd q1 hq);have hnew:=World.new_ne w1 ⟨g,off+1,none⟩ (yd q1 hq);have q2:=yd q1 hq;have GG:=hid (ya hq (yi GA));have DF:=hid (Lg xs[0] op rd s1 m hx0.1 hx0.2 hd);clear hq q0 q1 hd B GA cD;go_wp2
  go_region_held3 (fun w'=>w'.cell? ⟨w1.heap.size,0,none⟩=some (.int .i64 op)/\w'.cell? ⟨w1.heap.size,1,none⟩=some (.int .i64 rd)/\w'.cell? ⟨w1.heap.size,2,none⟩=some (.int .i64 s1)/\w'.cell? ⟨w1.heap.size,3,none⟩=some (.int .i64 t1)/\w'.cell? ⟨w1.heap.size,4,none⟩=some (.int .i64 m)/\w'.cell? ⟨g,off+1,none⟩=some (.int .i64 xs[1]))
   (go_keep)
   (first | (go_at_call 82; refine (Tf.o _ (HT.o.grown GG.o)).mono ?_; rintro e w' ⟨⟨op2,Eh,s2,t2,m2,rfl,hd2⟩,hq⟩; have s0:=yd c0.o hq; have s1':=yd c1.o hq; have s2':=yd c2.o hq; have s3:=yd c3.o hq; have s4:=yd c4.o hq; have s5:=yd c5.o hq) | (go_at_call 220; refine (Yu 4 op rd s1 t1 m op2 Eh s2 t2 m2 _).mono ?_; rintro e w'' ⟨⟨b,rfl,hb⟩,hq2⟩; have z0:=yd s0 hq2; have z1:=yd s1' hq2; have z2:=yd s2' hq2; have z3:=yd s3 hq2; have z4:=yd s4 hq2; have z5:=yd s5 hq2))
  have oN:=hid hb;have D2:=hid (Lg xs[1] op2 Eh s2 m2 hx1.1 hx1.2 hd2);have GF:=hid (ya (ya GG.o hq) hq2);clear hb hd2 hq hq2 s0 s1' s2' s3 s4 s5 z0 z1 z2 z3 z4 z5;go_wp2;go_ret;exact ⟨yg.of (by rw [HQ.o,<- Zp 4 xs[0] xs[1] op rd s1 m op2 Eh s2 m2 DF.o D2.o]; exact oN.o),GF.o⟩
 ·have hl2:=h2 (by omega);have hlt1:1 < xs.length:=by omega
  have hx1:=hw 1 hlt1;have hgd1:xs.getD 1 0=xs[1]'hlt1:=by rw [lN,jW hlt1]; rfl
  have HQ:=hid (show pI 5 xs↔MR 5 xs[0] xs[1] from by unfold pI; rw [if_neg (by decide),if_neg (by decide),if_neg (by decide),if_pos (by decide),hgd,hgd1]);have q1:=hc 1 hlt1;have Tf:=hid (fun W (hW:dV W)=>UR xs[1] W hW hx1.1 hx1.2);have HT:=hid ht;generalize pI 5 xs=Q at *;have dl:((xs.length:Int) == 2)=true:=by rw [beq_iff_eq]; omega
  have hl3:2<=xs.length:=by omega
  have g1:(1:Int) < (xs.length:Int):=by omega
  have g2:(0:Int) < (xs.length:Int):=by omega
  clear h2 hk h hc hw ht HI cN hl2;go_enter Tryz.func206,Tryz.ntmps206;go_wp2_with fail;refine cD.o.mono ?_;rintro e w1 ⟨⟨op,rd,s1,t1,m,rfl,hd⟩,hq⟩;unfold bD;have B:=yc.new w1 #[.int .i64 op,.int .i64 rd,.int .i64 s1,.int .i64 t1,.int .i64 m] 143;have GA:=aH w1 (.cells #[.int .i64 op,.int .i64 rd,.int .i64 s1,.int .i64 t1,.int .i64 m] 143) none;have c0:Hd ((w1.alloc (.cells #[.int .i64 op,.int .i64 rd,.int .i64 s1,.int .i64 t1,.int .i64 m] 143)).drew.cell? ⟨w1.heap.size,0,none⟩=some (.int .i64 op)):=B.cell 0;have c1:Hd ((w1.alloc (.cells #[.int .i64 op,.int .i64 rd,.int .i64 s1,.int .i64 t1,.int .i64 m] 143)).drew.cell? ⟨w1.heap.size,1,none⟩=some (.int .i64 rd)):=B.cell 1
  have c2:Hd ((w1.alloc (.cells #[.int .i64 op,.int .i64 rd,.int .i64 s1,.int .i64 t1,.int .i64 m] 143)).drew.cell? ⟨w1.heap.size,2,none⟩=some (.int .i64 s1)):=B.cell 2;have c3:Hd ((w1.alloc (.cells #[.int .i64 op,.int .i64 rd,.int .i64 s1,.int .i64 t1,.int .i64 m] 143)).drew.cell? ⟨w1.heap.size,3,none⟩=some (.int .i64 t1)):=B.cell 3;have c4:Hd ((w1.alloc (.cells #[.int .i64 op,.int .i64 rd,.int .i64 s1,.int .i64 t1,.int .i64 m] 143)).drew.cell? ⟨w1.heap.size,4,none⟩=some (.int .i64 m)):=B.cell 4;have c5:Hd ((w1.alloc (.cells #[.int .i64 op,.int .i64 rd,.int .i64 s1,.int .i64 t1,.int .i64 m] 143)).drew.cell? ⟨g,off+1,none⟩=some (.int .i64 xs[1])):=yd (yd q1 hq) (yi GA)
  have hgl:g < w1.heap.size:=World.block_lt_of_cell? w1 _ (yd q1 hq);have hnew:=World.new_ne w1 ⟨g,off+1,none⟩ (yd q1 hq);have q2:=yd q1 hq;have GG:=hid (ya hq (yi GA));have DF:=hid (Lg xs[0] op rd s1 m hx0.1 hx0.2 hd);clear hq q0 q1 hd B GA cD;go_wp2
  go_region_held3 (fun w'=>w'.cell? ⟨w1.heap.size,0,none⟩=some (.int .i64 op)/\w'.cell? ⟨w1.heap.size,1,none⟩=some (.int .i64 rd)/\w'.cell? ⟨w1.heap.size,2,none⟩=some (.int .i64 s1)/\w'.cell? ⟨w1.heap.size,3,none⟩=some (.int .i64 t1)/\w'.cell? ⟨w1.heap.size,4,none⟩=some (.int .i64 m)/\w'.cell? ⟨g,off+1,none⟩=some (.int .i64 xs[1]))
   (go_keep)
   (first | (go_at_call 82; refine (Tf.o _ (HT.o.grown GG.o)).mono ?_; rintro e w' ⟨⟨op2,Eh,s2,t2,m2,rfl,hd2⟩,hq⟩; have s0:=yd c0.o hq; have s1':=yd c1.o hq; have s2':=yd c2.o hq; have s3:=yd c3.o hq; have s4:=yd c4.o hq; have s5:=yd c5.o hq) | (go_at_call 220; refine (Yu 5 op rd s1 t1 m op2 Eh s2 t2 m2 _).mono ?_; rintro e w'' ⟨⟨b,rfl,hb⟩,hq2⟩; have z0:=yd s0 hq2; have z1:=yd s1' hq2; have z2:=yd s2' hq2; have z3:=yd s3 hq2; have z4:=yd s4 hq2; have z5:=yd s5 hq2))
  have oN:=hid hb;have D2:=hid (Lg xs[1] op2 Eh s2 m2 hx1.1 hx1.2 hd2);have GF:=hid (ya (ya GG.o hq) hq2);clear hb hd2 hq hq2 s0 s1' s2' s3 s4 s5 z0 z1 z2 z3 z4 z5;go_wp2;go_ret;exact ⟨yg.of (by rw [HQ.o,<- Zp 5 xs[0] xs[1] op rd s1 m op2 Eh s2 m2 DF.o D2.o]; exact oN.o),GF.o⟩
end Go.Proofs.YtpgklkhgfcjceaaGreatDoor
