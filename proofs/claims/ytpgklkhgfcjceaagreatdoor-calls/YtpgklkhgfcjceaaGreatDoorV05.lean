
import Derived.Test.YtpgklkhgfcjceaaGreatDoorV04
import Derived.Maps.AppendAt
set_option maxHeartbeats 16000000
namespace Go.Proofs.YtpgklkhgfcjceaaGreatDoor
open Go.RowKit
namespace Im
def code (m:dK) (a:Int):Option Int :=
 if 0<=place m.text m.T.length a then some (m.T.getD (place m.text m.T.length a).toNat 0)
 else if 0<=place m.far m.F.length a then some (m.F.getD (place m.far m.F.length a).toNat 0) else none
theorem jK (base:Int) (n:Nat) (a:Int):place base n a = -1\/(0<=place base n a/\place base n a < n):=by
 unfold place
 split
 ·right; omega
 ·left; rfl
theorem qJ (base:Int) (n:Nat) (a:Int):0<=place base n a↔In base n a:=by
 unfold place In
 split
 ·rename_i h; exact ⟨fun _=>h,fun _=>by omega⟩
 ·rename_i h; exact ⟨fun k=>by omega,fun k=>absurd k h⟩
theorem zf (m:dK) (a:Int):(code m a).isSome=true↔In m.text m.T.length a\/In m.far m.F.length a:=by
 unfold code
 rw [<- qJ,<- qJ]
 by_cases h:0<=place m.text m.T.length a
 ·simp [h]
 ·by_cases k:0<=place m.far m.F.length a <;> simp [h,k]
structure jo (m:dK):Prop where
 start:0<=m.start/\m.start < 4294967296
 text:0<=m.text/\m.text < 4294967296
 far:0<=m.far/\m.far < 4294967296
 data:0<=m.data/\m.data < 4294967296
 lens:m.T.length<=65535/\m.F.length<=65535/\m.D.length<=65535
 noughts:0<=m.noughts/\m.noughts<=65535
end Im
theorem lJ.open {W:World} {g:Nat} {m:Im.dK} (h:lJ W g m):∃ at_ ct af cf ad cd,
  yc W g #[.int .i64 m.start,.int .i64 m.text,.int .i64 m.far,.int .i64 m.data,.slice at_ m.T.length ct,.slice af m.F.length cf,.slice ad m.D.length cd,.int .i64 m.noughts] 90 /\
  W.ownsRow 0 3 1 (.slice at_ m.T.length ct) m.T.length (m.T.map (Value.int .i64))/\W.ownsRow 0 3 1 (.slice af m.F.length cf) m.F.length (m.F.map (Value.int .i64)) /\
  W.ownsRow 0 3 1 (.slice ad m.D.length cd) m.D.length (m.D.map (Value.int .i64)):=by
 obtain ⟨vt,vf,vd,hb,h1,h2,h3⟩:=h
 obtain ⟨at_,ct,rfl⟩:=yh h1
 obtain ⟨af,cf,rfl⟩:=yh h2
 obtain ⟨ad,cd,rfl⟩:=yh h3
 exact ⟨at_,ct,af,cf,ad,cd,hb,h1,h2,h3⟩
theorem lJ.kept {W W':World} {g:Nat} {m:Im.dK} (h:lJ W g m) (hg:W.grownBy W' none):lJ W' g m:=by
 obtain ⟨vt,vf,vd,hb,h1,h2,h3⟩:=h
 have k:∀ {v:Value} {n:Nat} {xs:List Value},W.ownsRow 0 3 1 v n xs->W'.ownsRow 0 3 1 v n xs:=fun h=>h.kept hg (by
  cases h':Value.ownBlock _ with
  | none=>exact .inl rfl
  | some b=>right; simp)
 exact ⟨vt,vf,vd,hb.grown hg (by simp),k h1,k h2,k h3⟩
theorem L9 (g:Nat) (m:Im.dK) (a:Int) (w:World) (h:lJ w g m) (ht:Im.jo m) (h0:0<=a) (h1:a < 4294967296) :
  Calls Tryz.prog 76 #[.pointer (some ⟨g,0,none⟩),.int .i64 a] w fun e w'=>e = .returned (.tuple #[.int .i64 ((Im.code m a).getD 0),.bool (Im.code m a).isSome])/\∃ n,w'=w.drewN n:=by
 obtain ⟨at_,ct,af,cf,ad,cd,hb,q1,q2,-⟩:=h.open
 have hc1:=pV q1
 have hc2:=pV q2
 have I1:=hid (yz.aR q1)
 have I2:=hid (yz.aR q2)
 have k1:=hb.cell 1
 have k2:=hb.cell 2
 have k4:=hb.cell 4
 have k5:=hb.cell 5
 simp only [bC,bG,bE] at k1 k2 k4 k5
 have cT:=hid (fun W=>OY at_ m.T.length ct m.text a W h0 h1 ht.text.1 ht.text.2)
 have cF:=hid (fun W=>OY af m.F.length cf m.far a W h0 h1 ht.far.1 ht.far.2)
 obtain ⟨X,hX⟩:∃ X,X=Im.code m a:=⟨_,rfl⟩
 rw [<- hX]
 unfold Im.code at hX
 have RX:=hid hX
 have r1:=Im.jK m.text m.T.length a
 have r2:=Im.jK m.far m.F.length a
 have L:=hid ht.lens
 clear hX h ht hb q1 q2
 generalize Im.place m.text m.T.length a=i at *
 generalize Im.place m.far m.F.length a=j at *
 have hl1:=L.o.1
 have hl2:=L.o.2.1
 by_cases ci:0<=i
 ·have d1:decide (0<=i)=true:=by simpa using ci
  have hi:i.toNat < m.T.length:=by omega
  obtain ⟨sg,off,rfl,hcell⟩:=I1.o (by omega)
  have hck:=hcell i.toNat hi
  rw [if_pos ci] at RX
  have GE:=hid (show m.T.getD i.toNat 0=m.T[i.toNat] from by rw [jY,jF hi]; rfl)
  rw [GE.o] at RX
  have g1:i < (m.T.length:Int):=by omega
  clear hcell r1 r2 cF I1 I2 L GE
  generalize m.T[i.toNat]=v at *
  obtain ⟨n,rfl⟩:∃ n:Nat,i=n:=⟨i.toNat,by omega⟩
  rw [Int.toNat_natCast] at hck hi
  go_enter Tryz.func76,Tryz.ntmps76
  go_wp2
  go_quiet ((go_at_call 115; exact Calls.quiet_of_same (cT.o _)))
  go_wp2
  go_ret2
  rw [RX.o]
  exact ⟨rfl,_,rfl⟩
 ·have d1:decide (0<=i)=false:=by simpa using ci
  rw [if_neg ci] at RX
  obtain rfl:i = -1:=by omega
  clear I1 r1
  by_cases cj:0<=j
  ·have d2:decide (0<=j)=true:=by simpa using cj
   have hj:j.toNat < m.F.length:=by omega
   obtain ⟨sg,off,rfl,hcell⟩:=I2.o (by omega)
   have hck:=hcell j.toNat hj
   rw [if_pos cj] at RX
   have GE:=hid (show m.F.getD j.toNat 0=m.F[j.toNat] from by rw [jY,jF hj]; rfl)
   rw [GE.o] at RX
   have g1:j < (m.F.length:Int):=by omega
   clear hcell r2 I2 L GE
   generalize m.F[j.toNat]=v at *
   obtain ⟨n,rfl⟩:∃ n:Nat,j=n:=⟨j.toNat,by omega⟩
   rw [Int.toNat_natCast] at hck hj
   go_enter Tryz.func76,Tryz.ntmps76
   go_wp2
   go_quiet ((go_at_call 115; exact Calls.quiet_of_same (cT.o _)))
   go_wp2
   have HE:=hid (show ∃ n,w.drewN nq=w.drewN n from ⟨_,rfl⟩)
   replace k2:(w.drewN nq).cell? ⟨g,2,none⟩=some (.int .i64 m.far):=k2
   replace k5:(w.drewN nq).cell? ⟨g,5,none⟩=some (.slice (some ⟨sg,off,none⟩) m.F.length cf):=k5
   replace hck:(w.drewN nq).cell? ⟨sg,off+n,none⟩=some (.int .i64 v):=hck
   generalize w.drewN nq=V at *
   go_quiet ((go_at_call 115; exact Calls.quiet_of_same (cF.o _)))
   go_wp2
   go_ret2
   rw [RX.o]
   exact ⟨rfl,by obtain ⟨q,hq⟩:=HE.o; exact ⟨_,by rw [hq,World.drewN_drewN]⟩⟩
  ·have d2:decide (0<=j)=false:=by simpa using cj
   rw [if_neg cj] at RX
   obtain rfl:j = -1:=by omega
   go_enter Tryz.func76,Tryz.ntmps76
   go_wp2
   go_quiet ((go_at_call 115; exact Calls.quiet_of_same (cT.o _)))
   go_wp2
   have HE:=hid (show ∃ n,w.drewN nq=w.drewN n from ⟨_,rfl⟩)
   replace k2:(w.drewN nq).cell? ⟨g,2,none⟩=some (.int .i64 m.far):=k2
   replace k5:(w.drewN nq).cell? ⟨g,5,none⟩=some (.slice af m.F.length cf):=k5
   generalize w.drewN nq=V at *
   go_quiet ((go_at_call 115; exact Calls.quiet_of_same (cF.o _)))
   go_wp2
   go_ret2
   rw [RX.o]
   exact ⟨rfl,by obtain ⟨q,hq⟩:=HE.o; exact ⟨_,by rw [hq,World.drewN_drewN]⟩⟩
namespace Mc
def wd (x:Int):Int:=x % 4294967296
def sg (x:Int):Int:=if x < 2147483648 then x else x - 4294967296
theorem gH (x:Int):0<=wd x/\wd x < 4294967296:=by unfold wd; omega
structure St where
 regs:List Int
 data:List Int
 pc:Int
 next:Int
 dG:Int
 code:Int
 o:List Int
 steps:Nat
 read:Nat
def reg (st:St) (n:Int):Int:=st.regs.getD (n % 32).toNat 0
def set (n v:Int) (st:St):St:=if n % 32=0 then st else { st with regs:=st.regs.set (n % 32).toNat (wd v) }
def holds (op a b:Int):Bool :=
 if op=5 then decide (a=b) else if op=6 then decide (a≠b) else if op=7 then decide (sg a < sg b) else if op=8 then decide (sg b<=sg a)
 else if op=9 then decide (a < b) else if op=10 then decide (b<=a) else false
def computed (op a b:Int):Int :=
 if op=18 then a+b else if op=19 then a - b else if op=20 then (if sg a < sg b then 1 else 0) else if op=21 then (if a < b then 1 else 0)
 else if op=22 then bits .xor .i64 a b else if op=23 then bits .or .i64 a b else if op=24 then bits .and .i64 a b else 0
def plain (op:Int):Int:=if op=13 then 18 else if op=14 then 20 else if op=15 then 22 else if op=16 then 23 else if op=17 then 24 else 0
def jump (rd dest:Int) (st:St):St:={ set rd (st.pc+4) st with next:=wd dest }
def branch (taken:Bool) (n:Int) (st:St):St:=if taken then { st with next:=wd (st.pc+n) } else st
def load (m:Im.dK) (rd a:Int) (st:St):St :=
 match Im.code m a with
 | some w=>set rd w st
 | none=>if 0<=Im.place m.data st.data.length a then set rd (st.data.getD (Im.place m.data st.data.length a).toNat 0) st else { st with dG:=4 }
def store (m:Im.dK) (a v:Int) (st:St):St :=
 if 0<=Im.place m.data st.data.length a then { st with data:=st.data.set (Im.place m.data st.data.length a).toNat v } else { st with dG:=5 }
def call (ins:List Int) (st:St):St :=
 if reg st 17=0 then { st with dG:=1,code:=sg (reg st 10) }
 else if reg st 17=1 then (if 16<=st.o.length then { st with dG:=6 } else { st with o:=st.o ++ [sg (reg st 10)] })
 else if reg st 17=2 then (if ins.length<=st.read then { st with dG:=6 } else { set 10 (ins.getD st.read 0) st with read:=st.read+1 })
 else { st with dG:=6 }
def doIt (m:Im.dK) (ins:List Int) (op rd au aC n:Int) (st:St):St :=
 if op=0 then { st with dG:=3 }
 else if op=1 then set rd (n * 4096) st
 else if op=2 then set rd (n * 4096+st.pc) st
 else if op=3 then jump rd (st.pc+n) st
 else if op=4 then jump rd ((reg st au+n) - (reg st au+n) % 2) st
 else if 5<=op/\op<=10 then branch (holds op (reg st au) (reg st aC)) n st
 else if op=11 then load m rd (wd (reg st au+n)) st
 else if op=12 then store m (wd (reg st au+n)) (reg st aC) st
 else if 13<=op/\op<=17 then set rd (computed (plain op) (reg st au) (wd n)) st
 else if op=25 then call ins st
 else set rd (computed op (reg st au) (reg st aC)) st
def step (m:Im.dK) (ins:List Int) (st:St):St :=
 match Im.code m st.pc with
 | none=>{ st with steps:=st.steps+1,dG:=2 }
 | some w =>
  let s:=doIt m ins (jq w) (fI (aK w) w) (bA (aK w) w) (jd (aK w) w) (iJ (aK w) w) { st with steps:=st.steps+1,next:=wd (st.pc+4) }
  { s with pc:=s.next }
def steps (m:Im.dK) (ins:List Int) (fuel:Nat):Nat->St->St
 | 0,st=>st
 | k+1,st=>if st.dG=0/\st.steps < fuel then steps m ins fuel k (step m ins st) else st
structure Ok (st:St):Prop where
 regs:st.regs.length=32
 words:∀ i,0<=st.regs.getD i 0/\st.regs.getD i 0 < 4294967296
 zero:st.regs.getD 0 0=0
 data:st.data.length<=131070
 j5:∀ i,0<=st.data.getD i 0/\st.data.getD i 0 < 4294967296
 pc:0<=st.pc/\st.pc < 4294967296
 next:0<=st.next/\st.next < 4294967296
 o:st.o.length<=16
 steps:st.steps<=65536
 read:st.read<=16
end Mc
theorem yrj (n:Int):bits .and .i64 n 4294967295=Mc.wd n:=by
 have h1:(BitVec.ofInt 64 4294967295).toNat=2 ^ 32 - 1:=by decide
 have key:(BitVec.ofInt 64 n &&& BitVec.ofInt 64 4294967295).toNat=(n % ((2 ^ 64:Nat):Int)).toNat % 2 ^ 32:=by
  rw [BitVec.toNat_and,BitVec.toNat_ofInt,h1,Nat.and_two_pow_sub_one_eq_mod]
 show IntKind.i64.wrap ((BitVec.ofInt 64 n &&& BitVec.ofInt 64 4294967295).toNat:Nat)=n % 4294967296
 rw [key,IntKind.wrap_i64]
 omega
def jD (g:Nat) (dW:Value) (st:Mc.St) (vd vo:Value):List Value :=
 [.pointer (some ⟨g,0,none⟩),dW] ++ (st.regs.map (Value.int .i64) ++ [vd,.int .i64 st.pc,.int .i64 st.next,.int .i64 st.dG,.int .i64 st.code,vo,.int .i64 st.steps,.int .i64 st.read])
structure yv (W0:World) (b g:Nat) (dW:Value) (st:Mc.St) (vd vo:Value) (W:World):Prop where
 blk:yc W b (jD g dW st vd vo).toArray 93
 data:W.ownsRow W0.heap.size 3 1 vd st.data.length (st.data.map (Value.int .i64))
 o:W.ownsRow W0.heap.size 3 1 vo st.o.length (st.o.map (Value.int .i64))
 apart:(∀ k,vd.ownBlock=some k->k≠b)/\(∀ k,vo.ownBlock=some k->k≠b)/\∀ k,vd.ownBlock=some k->vo.ownBlock≠some k
 lo:W0.heap.size<=b
 gr:W0.grownBy W none
 ok:Mc.Ok st
theorem ypJ (g:Nat) (dW:Value) (st:Mc.St) (vd vo:Value) (h:st.regs.length=32) (i:Nat) (hi:i < 32):(jD g dW st vd vo)[2+i]?=some (.int .i64 (st.regs.getD i 0)):=by
 unfold jD
 rw [List.getElem?_append_right (by simp),List.getElem?_append_left (by simp; omega)]
 have e:2+i - [Value.pointer (some ⟨g,0,none⟩),dW].length=i:=by simp
 rw [e,List.getElem?_map,jF (by omega),jY,jF (by omega)]
 rfl
theorem Vv (g:Nat) (dW:Value) (st:Mc.St) (vd vo:Value) (h:st.regs.length=32) (i:Nat):(jD g dW st vd vo)[34+i]?=[vd,.int .i64 st.pc,.int .i64 st.next,.int .i64 st.dG,.int .i64 st.code,vo,.int .i64 st.steps,.int .i64 st.read][i]?:=by
 unfold jD
 rw [List.getElem?_append_right (by simp; omega),List.getElem?_append_right (by simp; omega)]
 congr 1
 simp
 omega
section
variable {W0 W:World} {b g:Nat} {dW vd vo:Value} {st:Mc.St}
theorem yv.c (h:yv W0 b g dW st vd vo W):W.cell? ⟨b,0,none⟩=some (.pointer (some ⟨g,0,none⟩))/\W.cell? ⟨b,1,none⟩=some dW/\W.cell? ⟨b,34,none⟩=some vd/\W.cell? ⟨b,35,none⟩=some (.int .i64 st.pc)/\W.cell? ⟨b,36,none⟩=some (.int .i64 st.next) /\
  W.cell? ⟨b,37,none⟩=some (.int .i64 st.dG)/\W.cell? ⟨b,38,none⟩=some (.int .i64 st.code)/\W.cell? ⟨b,39,none⟩=some vo/\W.cell? ⟨b,40,none⟩=some (.int .i64 st.steps)/\W.cell? ⟨b,41,none⟩=some (.int .i64 st.read):=by
 have k:∀ i,W.cell? ⟨b,i,none⟩=(jD g dW st vd vo)[i]?:=fun i=>(h.blk.cell i).trans bC
 have t:=Vv g dW st vd vo h.ok.regs
 refine ⟨k 0,k 1,(k 34).trans (t 0),(k 35).trans (t 1),(k 36).trans (t 2),(k 37).trans (t 3),(k 38).trans (t 4),(k 39).trans (t 5),(k 40).trans (t 6),(k 41).trans (t 7)⟩
theorem yv.cr (h:yv W0 b g dW st vd vo W) (i:Nat) (hi:i < 32):W.cell? ⟨b,2+i,none⟩=some (.int .i64 (st.regs.getD i 0)):=((h.blk.cell (2+i)).trans bC).trans (ypJ g dW st vd vo h.ok.regs i hi)
end
theorem Au (n:Int) (w:World):Calls Tryz.prog 81 #[.int .i64 n] w fun e w'=>e = .returned (.int .i64 (Mc.wd n))/\w'=w:=by
 have E:=hid (yrj n)
 go_enter Tryz.func81,Tryz.ntmps81
 go_wp2
 go_ret
 exact ⟨yC E.o,rfl⟩
theorem O7 (n:Int) (w:World) (h0:0<=n) (h1:n < 4294967296):Calls Tryz.prog 180 #[.int .i64 n] w fun e w'=>e = .returned (.int .i64 (Mc.sg n))/\w'=w:=by
 by_cases h:n < 2147483648
 ·have E:=hid (show n=Mc.sg n by unfold Mc.sg; rw [if_pos h])
  go_enter Tryz.func180,Tryz.ntmps180
  go_wp2
  go_ret
  exact ⟨yC E.o,rfl⟩
 ·have E:=hid (show n - 4294967296=Mc.sg n by unfold Mc.sg; rw [if_neg h])
  have d:decide (n < 2147483648)=false:=by simpa using h
  have e1:IntKind.i64.wrap (n - 4294967296)=n - 4294967296:=IntWalk.i64_in _ ⟨by omega,by omega⟩
  go_enter Tryz.func180,Tryz.ntmps180
  go_wp2
  go_ret
  exact ⟨yC E.o,rfl⟩
theorem Xf (n:Int) (h0:0<=n) (h1:n<=4294967295):bits .and .i64 n 31=n % 32:=low n 5 (by decide) 31 32 rfl rfl h0 h1
theorem yj (W0:World) (b g:Nat) (dW:Value) (st:Mc.St) (vd vo:Value) (n:Int) (W:World) (h:yv W0 b g dW st vd vo W) (h0:0<=n) (h1:n < 32) :
  Calls Tryz.prog 118 #[.pointer (some ⟨b,0,none⟩),.int .i64 n] W fun e W'=>e = .returned (.int .i64 (Mc.reg st n))/\W'=W:=by
 obtain ⟨k,rfl⟩:=Int.eq_ofNat_of_zero_le h0
 have hk:k < 32:=by omega
 have c:=h.cr k hk
 have e:=Xf (k:Int) (by omega) (by omega)
 have e2:(k:Int) % 32=k:=by omega
 rw [e2] at e
 have R:=hid (show Mc.reg st (k:Int)=st.regs.getD k 0 by unfold Mc.reg; rw [e2]; rfl)
 clear h e2
 generalize st.regs.getD k 0=v at *
 go_enter Tryz.func118,Tryz.ntmps118
 go_wp2
 go_ret
 exact ⟨yC R.o.symm,rfl⟩
theorem Bc {W:World} {B b o:Nat} {v u:Value} {n:Nat} {xs:List Value} (h:W.ownsRow B 3 1 v n xs) (hne:∀ k,v.ownBlock=some k->k≠b):(W.setCell ⟨b,o,none⟩ u).ownsRow B 3 1 v n xs :=
 h.kept (yf W b o u) (by
  cases hv:v.ownBlock with
  | none=>exact .inl rfl
  | some k=>right; intro e; exact hne k hv (by simpa using e))
theorem yN {w a c:World} {row:Option Nat} (h:w.grownBy a none) (k:a.grownBy c row) (hb:∀ b,row=some b->w.heap.size<=b):w.grownBy c none :=
 ⟨k.os.trans h.os,k.tape.trans h.tape,k.output.trans h.output,Nat.le_trans h.size k.size,fun i hi _ =>
  (k.block i (Nat.lt_of_lt_of_le hi h.size) (fun e=>by have:=hb i e.symm; omega)).trans (h.block i hi (by simp))⟩
section
variable {W0 W W':World} {b g:Nat} {dW vd vo:Value} {st:Mc.St}
theorem yv.put (h:yv W0 b g dW st vd vo W) (o:Nat) (v:Value) (st':Mc.St) (hc:(jD g dW st vd vo).set o v=jD g dW st' vd vo) (hd:st'.data=st.data) (ho:st'.o=st.o) (hok:Mc.Ok st') :
  yv W0 b g dW st' vd vo (W.setCell ⟨b,o,none⟩ v):=by
 refine ⟨?_,by rw [hd]; exact Bc h.data h.apart.1,by rw [ho]; exact Bc h.o h.apart.2.1,h.apart,h.lo,yN h.gr (yf W b o v) (by intro k e; simp at e; have:=h.lo; omega),hok⟩
 have:=h.blk.set o v
 rw [fQ,hc] at this
 exact this
theorem yv.grown (h:yv W0 b g dW st vd vo W) (hg:W.grownBy W' none):yv W0 b g dW st vd vo W' :=
 ⟨h.blk.grown hg (by simp),h.data.kept hg (by cases hv:vd.ownBlock <;> simp),h.o.kept hg (by cases hv:vo.ownBlock <;> simp),h.apart,h.lo,ya h.gr hg,h.ok⟩
theorem yv.free (h:yv W0 b g dW st vd vo W) (o:Nat):W.frozen? ⟨b,o,none⟩=false:=h.blk.free o
end
theorem ylv (g:Nat) (dW:Value) (st:Mc.St) (vd vo:Value) (h:st.regs.length=32) (i:Nat) (hi:i < 32) (v:Int):(jD g dW st vd vo).set (2+i) (.int .i64 v)=jD g dW { st with regs:=st.regs.set i v } vd vo:=by
 unfold jD
 rw [List.set_append_right _ _ (by simp),List.set_append_left _ _ (by simp; omega)]
 have e:2+i - [Value.pointer (some ⟨g,0,none⟩),dW].length=i:=by simp
 rw [e,List.map_set]
theorem FX (g:Nat) (dW:Value) (st st':Mc.St) (vd vo JO JR:Value) (h:st.regs.length=32) (hr:st'.regs=st.regs) (i:Nat) (v:Value)
  (he:[vd,.int .i64 st.pc,.int .i64 st.next,.int .i64 st.dG,.int .i64 st.code,vo,.int .i64 st.steps,.int .i64 st.read].set i v=[JO,.int .i64 st'.pc,.int .i64 st'.next,.int .i64 st'.dG,.int .i64 st'.code,JR,.int .i64 st'.steps,.int .i64 st'.read]) :
  (jD g dW st vd vo).set (34+i) v=jD g dW st' JO JR:=by
 unfold jD
 rw [List.set_append_right _ _ (by simp; omega),List.set_append_right _ _ (by simp; omega),hr]
 congr 2
 rw [<- he]
 congr 1
 simp
 omega
theorem yrc {st:Mc.St} (h:Mc.Ok st) (i:Nat) (v:Int) (hi:i≠0):Mc.Ok { st with regs:=st.regs.set i (Mc.wd v) }:=by
 have hw:=Mc.gH v
 have g:∀ j,(st.regs.set i (Mc.wd v)).getD j 0=st.regs.getD j 0\/(st.regs.set i (Mc.wd v)).getD j 0=Mc.wd v:=by
  intro j
  rw [jY,jY,List.getElem?_set]
  split
  ·split
   ·exact .inr rfl
   ·left
    rename_i h1 h2
    subst h1
    rw [List.getElem?_eq_none (by omega)]
  ·exact .inl rfl
 refine ⟨by simpa using h.regs,fun j=>?_,?_,h.data,h.j5,h.pc,h.next,h.o,h.steps,h.read⟩
 ·rcases g j with e | e
  ·rw [e]; exact h.words j
  ·rw [e]; exact hw
 ·show (st.regs.set i (Mc.wd v)).getD 0 0=0
  rw [jY,List.getElem?_set,if_neg hi]
  exact h.zero
namespace Ln
structure gB where
 mod:Option Nat
 ah:Int
 off:Int
structure Mod where
 obj:Lk.Obj
 means:List gB
 short:List Bool
 text:List Int
 far:List Int
 data:Int
 bss:Int
def none_:gB:=⟨none,0,0⟩
def defines (y:Lk.Sym):Bool:=!decide (y.bind=0) && !decide (y.ah=0)
def wanted (y:Lk.Sym):Bool:=decide (y.bind=1) && decide (y.ah=0)
def wants (os:List Lk.Obj) (n:List UInt8):Bool:=os.any fun o=>o.syms.any fun y=>decide (y.name=n) && wanted y
def has (os:List Lk.Obj) (n:List UInt8):Bool:=os.any fun o=>o.syms.any fun y=>decide (y.name=n) && defines y
def needs (os:List Lk.Obj) (o:Lk.Obj):Bool:=o.syms.any fun y=>defines y && (wants os y.name && !has os y.name)
def gF (n:List UInt8) (bind:Int):List Lk.Sym->Option (Int×Int)
 | []=>none
 | y :: ys=>if y.name=n/\y.bind=bind/\y.ah≠0 then some (y.ah,y.off) else gF n bind ys
def findAt (n:List UInt8) (bind:Int):Nat->List Lk.Obj->gB
 | _,[]=>none_
 | i,o :: os=>match gF n bind o.syms with
  | some (s,f)=>⟨some i,s,f⟩
  | none=>findAt n bind (i+1) os
def find (os:List Lk.Obj) (n:List UInt8) (bind:Int):gB:=findAt n bind 0 os
def named (os:List Lk.Obj) (n:List UInt8):gB:=if (find os n 1).mod.isSome then find os n 1 else find os n 2
def meaning (os:List Lk.Obj) (i:Nat) (y:Lk.Sym):gB:=if y.bind=0 then ⟨some i,y.ah,y.off⟩ else named os y.name
structure pO where
 e:Int
 at_:Int
 name:List UInt8
def ok:pO:=⟨0,0,[]⟩
def dB (os:List Lk.Obj) (i:Nat):List Lk.Sym->Option pO
 | []=>none
 | y :: ys=>if y.bind≠1\/y.ah=0 then dB os i ys else if (find (os.take i) y.name 1).mod.isSome then some ⟨33,i,y.name⟩ else dB os i ys
def lu (os:List Lk.Obj):Nat->List Lk.Obj->pO
 | _,[]=>ok
 | i,o :: r=>match dB os i o.syms with
  | some f=>f
  | none=>lu os (i+1) r
def gX (os:List Lk.Obj):pO:=lu os 0 os
def bU (os:List Lk.Obj) (i:Nat):List Lk.Sym->Option pO
 | []=>none
 | y :: ys=>if wanted y=false then bU os i ys else if (named os y.name).mod.isSome then bU os i ys else some ⟨34,i,y.name⟩
def wantedAt (os:List Lk.Obj):Nat->List Lk.Obj->pO
 | _,[]=>ok
 | i,o :: r=>match bU os i o.syms with
  | some f=>f
  | none=>wantedAt os (i+1) r
def fH (os:List Lk.Obj):pO:=wantedAt os 0 os
def pass:List (Lk.Obj×Bool)->List Lk.Obj->List (Lk.Obj×Bool)×List Lk.Obj×Bool
 | [],os=>([],os,false)
 | (o,t) :: r,os=>if t=false/\needs os o=true then ((o,true) :: (pass r (os ++ [o])).1,(pass r (os ++ [o])).2.1,true) else ((o,t) :: (pass r os).1,(pass r os).2.1,(pass r os).2.2)
def fZ:Nat->List (Lk.Obj×Bool)->List Lk.Obj->List Lk.Obj
 | 0,_,os=>os
 | k+1,ms,os=>if (pass ms os).2.2=true then fZ k (pass ms os).1 (pass ms os).2.1 else (pass ms os).2.1
def aM (ah off:Int):Nat->List Lk.Rel->Int×Lk.Rel
 | _,[]=>(0,⟨0,0,0,0,0⟩)
 | i,r :: rs=>if r.ah=ah/\r.off<=off/\off < r.off+4 * mU r then (i,r) else aM ah off (i+1) rs
def bY (sh:List Bool) (i:Int):Bool:=decide (0<=i) && sh.getD i.toNat false
def rup (a b:Int):Int:=bits .andNot .i64 (a+b - 1) (b - 1)
def stays (m:Mod) (ah off at_:Int):Bool :=
 if (aM ah off 0 m.obj.aj).2.kind=6 then !decide (rup at_ ((aM ah off 0 m.obj.aj).2.addend+4)=at_)
 else if (aM ah off 0 m.obj.aj).2.kind=4 then decide (off=(aM ah off 0 m.obj.aj).2.off) || !bY m.short (aM ah off 0 m.obj.aj).1
 else true
def aL (m:Mod) (ah:Int):Nat->List Int->Int->List Int
 | _,[],at_=>[at_]
 | i,_ :: ws,at_=>at_ :: aL m ah (i+1) ws (if stays m ah (4 * i) at_ then at_+4 else at_)
def bR (m:Mod) (ah:Int):Nat->List Int->Int->Int
 | _,[],at_=>at_
 | i,_ :: ws,at_=>bR m ah (i+1) ws (if stays m ah (4 * i) at_ then at_+4 else at_)
def aF (o:Lk.Obj) (ah:Nat):Int:=uS (o.align.getD (ah - 1) 0)
def begin_ (m:Mod) (ah:Nat) (from_:Int):Int:=rup from_ (aF m.obj ah)
def bF (m:Mod) (ah:Nat) (from_:Int):Int:=bR m ah 0 (yp m.obj ah) (begin_ m ah from_)
def aG (m:Mod) (ah:Nat) (from_:Int):List Int:=aL m ah 0 (yp m.obj ah) (begin_ m ah from_)
def dw (m:Mod) (t f d:Int):Mod:={ m with text:=aG m 1 t,far:=aG m 2 f,data:=rup d (aF m.obj 3) }
def bS:List Mod->Int->Int->Int->List Mod
 | [],_,_,_=>[]
 | m :: ms,t,f,d=>dw m t f d :: bS ms (bF m 1 t) (bF m 2 f) (rup d (aF m.obj 3)+4 * m.obj.data.length)
def bX:List Mod->Int->Int
 | [],d=>d
 | m :: ms,d=>bX ms (rup d (aF m.obj 3)+4 * m.obj.data.length)
def dX:List Mod->Int->List Mod
 | [],_=>[]
 | m :: ms,b=>{ m with bss:=rup b (aF m.obj 4) } :: dX ms (rup b (aF m.obj 4)+4 * m.obj.bss)
def gN:List Mod->Int->Int
 | [],b=>b
 | m :: ms,b=>gN ms (rup b (aF m.obj 4)+4 * m.obj.bss)
def lay (t f d:Int) (ms:List Mod):List Mod:=dX (bS ms t f d) (bX ms d)
def noughts (d:Int) (ms:List Mod):Int:=(gN ms (bX ms d) - bX ms d) / 4
def placeOf (ps:List Int) (off:Int):Int:=if off.tdiv 4 < 0 then 0 else ps.getD (off.tdiv 4).toNat 0
def address (m:Mod) (ah off:Int):Int :=
 if ah=1 then placeOf m.text off else if ah=2 then placeOf m.far off else if ah=3 then m.data+off else if ah=4 then m.bss+off else 0
def bH (ms:List Mod) (s:gB):Int:=match s.mod with
 | none=>0
 | some i=>match ms[i]? with
  | none=>0
  | some m=>address m s.ah s.off
def target (ms:List Mod) (m:Mod) (r:Lk.Rel):Int:=if r.sym < 0\/(m.means.length:Int)<=r.sym then 0 else bH ms (m.means.getD r.sym.toNat none_)
def distance (ms:List Mod) (m:Mod) (r:Lk.Rel):Int:=target ms m r - address m r.ah r.off
def bn (ms:List Mod) (m:Mod) (r:Lk.Rel):Bool:=decide (r.kind=4) && (decide (-1015808 < distance ms m r) && decide (distance ms m r < 1015808))
def shorten (ms:List Mod):List Mod:=ms.map fun m=>{ m with short:=m.obj.aj.map (bn ms m) }
def layout (t f d:Int) (ms:List Mod):List Mod:=lay t f d (shorten (lay t f d ms))
end Ln
def yQ (n:Int):Prop:=n % 128=99/\(n / 4096 % 8=0\/n / 4096 % 8=1\/n / 4096 % 8=4\/n / 4096 % 8=5\/n / 4096 % 8=6\/n / 4096 % 8=7)/\n / 33554432=0/\n / 128 % 32=0
def iA (n:Int):Prop:=n % 128=111/\n / 4096=0
def yX (Oy n:Int):Prop:=n % 128=Oy/\n / 4096=0
def yV (Oy f n:Int):Prop:=n % 128=Oy/\n / 4096 % 8=f/\n / 1048576=0
def mQ (n:Int):Prop:=n % 128=35/\n / 4096 % 8=2/\n / 33554432=0/\n / 128 % 32=0
theorem zy (n:Int) (h0:0<=n) (h1:n<=4294967295):Is 1 n↔n % 128=55:=by
 show bits .and .i64 n 127=55↔_
 rw [QB n h0 h1]
theorem zA (n:Int) (h0:0<=n) (h1:n<=4294967295):Is 2 n↔n % 128=23:=by
 show bits .and .i64 n 127=23↔_
 rw [QB n h0 h1]
theorem Cr (n:Int) (h0:0<=n) (h1:n<=4294967295):Is 3 n↔n % 128=111:=by
 show bits .and .i64 n 127=111↔_
 rw [QB n h0 h1]
theorem Fg (n:Int) (h0:0<=n) (h1:n<=4294967295):Is 4 n↔n % 128+4096 * (n / 4096 % 8)=103:=by
 show bits .and .i64 n 28799=103↔_
 rw [vV n h0 h1]
theorem Jz (n:Int) (h0:0<=n) (h1:n<=4294967295):Is 5 n↔n % 128+4096 * (n / 4096 % 8)=99:=by
 show bits .and .i64 n 28799=99↔_
 rw [vV n h0 h1]
theorem JA (n:Int) (h0:0<=n) (h1:n<=4294967295):Is 6 n↔n % 128+4096 * (n / 4096 % 8)=4195:=by
 show bits .and .i64 n 28799=4195↔_
 rw [vV n h0 h1]
theorem JB (n:Int) (h0:0<=n) (h1:n<=4294967295):Is 7 n↔n % 128+4096 * (n / 4096 % 8)=16483:=by
 show bits .and .i64 n 28799=16483↔_
 rw [vV n h0 h1]
theorem JC (n:Int) (h0:0<=n) (h1:n<=4294967295):Is 8 n↔n % 128+4096 * (n / 4096 % 8)=20579:=by
 show bits .and .i64 n 28799=20579↔_
 rw [vV n h0 h1]
theorem JD (n:Int) (h0:0<=n) (h1:n<=4294967295):Is 9 n↔n % 128+4096 * (n / 4096 % 8)=24675:=by
 show bits .and .i64 n 28799=24675↔_
 rw [vV n h0 h1]
theorem Xh (n:Int) (h0:0<=n) (h1:n<=4294967295):Is 10 n↔n % 128+4096 * (n / 4096 % 8)=28771:=by
 show bits .and .i64 n 28799=28771↔_
 rw [vV n h0 h1]
theorem Xi (n:Int) (h0:0<=n) (h1:n<=4294967295):Is 11 n↔n % 128+4096 * (n / 4096 % 8)=8195:=by
 show bits .and .i64 n 28799=8195↔_
 rw [vV n h0 h1]
theorem Xj (n:Int) (h0:0<=n) (h1:n<=4294967295):Is 12 n↔n % 128+4096 * (n / 4096 % 8)=8227:=by
 show bits .and .i64 n 28799=8227↔_
 rw [vV n h0 h1]
theorem Xk (n:Int) (h0:0<=n) (h1:n<=4294967295):Is 13 n↔n % 128+4096 * (n / 4096 % 8)=19:=by
 show bits .and .i64 n 28799=19↔_
 rw [vV n h0 h1]
theorem ysg (n:Int) (h0:0<=n) (h1:n<=4294967295):Is 14 n↔n % 128+4096 * (n / 4096 % 8)=8211:=by
 show bits .and .i64 n 28799=8211↔_
 rw [vV n h0 h1]
theorem ysh (n:Int) (h0:0<=n) (h1:n<=4294967295):Is 15 n↔n % 128+4096 * (n / 4096 % 8)=16403:=by
 show bits .and .i64 n 28799=16403↔_
 rw [vV n h0 h1]
theorem ysi (n:Int) (h0:0<=n) (h1:n<=4294967295):Is 16 n↔n % 128+4096 * (n / 4096 % 8)=24595:=by
 show bits .and .i64 n 28799=24595↔_
 rw [vV n h0 h1]
theorem ysj (n:Int) (h0:0<=n) (h1:n<=4294967295):Is 17 n↔n % 128+4096 * (n / 4096 % 8)=28691:=by
 show bits .and .i64 n 28799=28691↔_
 rw [vV n h0 h1]
theorem ysk (n:Int) (h0:0<=n) (h1:n<=4294967295):Is 18 n↔n % 128+4096 * (n / 4096 % 8)+33554432 * (n / 33554432)=51:=by
 show bits .and .i64 n 4261441663=51↔_
 rw [Gm n h0 h1]
theorem ysl (n:Int) (h0:0<=n) (h1:n<=4294967295):Is 19 n↔n % 128+4096 * (n / 4096 % 8)+33554432 * (n / 33554432)=1073741875:=by
 show bits .and .i64 n 4261441663=1073741875↔_
 rw [Gm n h0 h1]
theorem ysm (n:Int) (h0:0<=n) (h1:n<=4294967295):Is 20 n↔n % 128+4096 * (n / 4096 % 8)+33554432 * (n / 33554432)=8243:=by
 show bits .and .i64 n 4261441663=8243↔_
 rw [Gm n h0 h1]
theorem ysn (n:Int) (h0:0<=n) (h1:n<=4294967295):Is 21 n↔n % 128+4096 * (n / 4096 % 8)+33554432 * (n / 33554432)=12339:=by
 show bits .and .i64 n 4261441663=12339↔_
 rw [Gm n h0 h1]
theorem yso (n:Int) (h0:0<=n) (h1:n<=4294967295):Is 22 n↔n % 128+4096 * (n / 4096 % 8)+33554432 * (n / 33554432)=16435:=by
 show bits .and .i64 n 4261441663=16435↔_
 rw [Gm n h0 h1]
theorem ysp (n:Int) (h0:0<=n) (h1:n<=4294967295):Is 23 n↔n % 128+4096 * (n / 4096 % 8)+33554432 * (n / 33554432)=24627:=by
 show bits .and .i64 n 4261441663=24627↔_
 rw [Gm n h0 h1]
theorem ysq (n:Int) (h0:0<=n) (h1:n<=4294967295):Is 24 n↔n % 128+4096 * (n / 4096 % 8)+33554432 * (n / 33554432)=28723:=by
 show bits .and .i64 n 4261441663=28723↔_
 rw [Gm n h0 h1]
theorem ysr (n:Int) (h0:0<=n) (h1:n<=4294967295):Is 25 n↔n=115:=by
 show bits .and .i64 n 4294967295=115↔_
 rw [yss n h0 h1]
def yq (n op rd au m:Int):Prop :=
  ((5<=op/\op<=10/\m=0)↔yQ n)/\((op=3/\m=0)↔iA n)/\((op=1/\m=0)↔yX 55 n)/\((op=2/\m=0)↔yX 23 n) /\
  ((op=4/\m=0)↔yV 103 0 n)/\((op=11/\m=0)↔yV 3 2 n)/\((op=12/\m=0)↔mQ n)/\((op=13/\m=0)↔yV 19 0 n) /\
  ((op=1\/op=2)->rd=n / 128 % 32)/\((op=4\/op=11\/op=12\/op=13)->au=n / 32768 % 32)
theorem yA (n d:Int) (h0:0<=n) (h1:n<=4294967295) (hd:1<=d):bits .and .i64 (n / d) 31=n / d % 32:=by
 have a:0<=n / d:=Int.ediv_nonneg h0 (by omega)
 have b:n / d<=n:=Int.ediv_le_self d h0
 exact low (n / d) 5 (by decide) 31 32 rfl rfl a (by omega)
theorem yrC (n:Int) (h0:0<=n) (h1:n<=4294967295) (h:∀ k,1<=k->k<=25->¬ Is k n):yq n 0 0 0 0:=by
 have i1:=h 1 (by decide) (by decide)
 rw [zy n h0 h1] at i1
 have i2:=h 2 (by decide) (by decide)
 rw [zA n h0 h1] at i2
 have i3:=h 3 (by decide) (by decide)
 rw [Cr n h0 h1] at i3
 have i4:=h 4 (by decide) (by decide)
 rw [Fg n h0 h1] at i4
 have i5:=h 5 (by decide) (by decide)
 rw [Jz n h0 h1] at i5
 have i6:=h 6 (by decide) (by decide)
 rw [JA n h0 h1] at i6
 have i7:=h 7 (by decide) (by decide)
 rw [JB n h0 h1] at i7
 have i8:=h 8 (by decide) (by decide)
 rw [JC n h0 h1] at i8
 have i9:=h 9 (by decide) (by decide)
 rw [JD n h0 h1] at i9
 have YB:=h 10 (by decide) (by decide)
 rw [Xh n h0 h1] at YB
 have i11:=h 11 (by decide) (by decide)
 rw [Xi n h0 h1] at i11
 have i12:=h 12 (by decide) (by decide)
 rw [Xj n h0 h1] at i12
 have YC:=h 13 (by decide) (by decide)
 rw [Xk n h0 h1] at YC
 clear h
 unfold yq yQ iA yX yV mQ
 refine ⟨?_,?_,?_,?_,?_,?_,?_,?_,?_,?_⟩ <;> omega
theorem yrV (n m:Int) (h0:0<=n) (h1:n<=4294967295) (hi:Is 1 n) (_hm:m=0↔yk 1 n):yq n 1 (fI 1 n) (bA 1 n) m:=by
 rw [zy n h0 h1] at hi
 have hz:yk 1 n↔n / 4096=0:=by simp [yk]
 rw [hz] at _hm
 have hrd:fI 1 n=n / 128 % 32:=by rw [<- yA n 128 h0 h1 (by decide)]; rfl
 have hrs:bA 1 n=0:=by rfl
 unfold yq yQ iA yX yV mQ
 rw [hrd,hrs]
 clear hz
 refine ⟨?_,?_,?_,?_,?_,?_,?_,?_,?_,?_⟩ <;> omega
theorem yrW (n m:Int) (h0:0<=n) (h1:n<=4294967295) (hi:Is 2 n) (_hm:m=0↔yk 1 n):yq n 2 (fI 1 n) (bA 1 n) m:=by
 rw [zA n h0 h1] at hi
 have hz:yk 1 n↔n / 4096=0:=by simp [yk]
 rw [hz] at _hm
 have hrd:fI 1 n=n / 128 % 32:=by rw [<- yA n 128 h0 h1 (by decide)]; rfl
 have hrs:bA 1 n=0:=by rfl
 unfold yq yQ iA yX yV mQ
 rw [hrd,hrs]
 clear hz
 refine ⟨?_,?_,?_,?_,?_,?_,?_,?_,?_,?_⟩ <;> omega
theorem yrX (n m:Int) (h0:0<=n) (h1:n<=4294967295) (hi:Is 3 n) (_hm:m=0↔yk 2 n):yq n 3 (fI 2 n) (bA 2 n) m:=by
 rw [Cr n h0 h1] at hi
 have hz:yk 2 n↔n / 4096=0:=by simp [yk]
 rw [hz] at _hm
 have hrd:fI 2 n=n / 128 % 32:=by rw [<- yA n 128 h0 h1 (by decide)]; rfl
 have hrs:bA 2 n=0:=by rfl
 unfold yq yQ iA yX yV mQ
 rw [hrd,hrs]
 clear hz
 refine ⟨?_,?_,?_,?_,?_,?_,?_,?_,?_,?_⟩ <;> omega
theorem yrY (n m:Int) (h0:0<=n) (h1:n<=4294967295) (hi:Is 4 n) (_hm:m=0↔yk 3 n):yq n 4 (fI 3 n) (bA 3 n) m:=by
 rw [Fg n h0 h1] at hi
 have hz:yk 3 n↔n / 1048576=0:=by simp [yk]
 rw [hz] at _hm
 have hrd:fI 3 n=n / 128 % 32:=by rw [<- yA n 128 h0 h1 (by decide)]; rfl
 have hrs:bA 3 n=n / 32768 % 32:=by rw [<- yA n 32768 h0 h1 (by decide)]; rfl
 unfold yq yQ iA yX yV mQ
 rw [hrd,hrs]
 clear hz
 refine ⟨?_,?_,?_,?_,?_,?_,?_,?_,?_,?_⟩ <;> omega
theorem yrZ (n m:Int) (h0:0<=n) (h1:n<=4294967295) (hi:Is 5 n) (_hm:m=0↔yk 4 n):yq n 5 (fI 4 n) (bA 4 n) m:=by
 rw [Jz n h0 h1] at hi
 have hz:yk 4 n↔n / 33554432=0/\n / 128 % 32=0:=by simp [yk]
 rw [hz] at _hm
 have hrd:fI 4 n=0:=by rfl
 have hrs:bA 4 n=n / 32768 % 32:=by rw [<- yA n 32768 h0 h1 (by decide)]; rfl
 unfold yq yQ iA yX yV mQ
 rw [hrd,hrs]
 clear hz
 refine ⟨?_,?_,?_,?_,?_,?_,?_,?_,?_,?_⟩ <;> omega
theorem ysa (n m:Int) (h0:0<=n) (h1:n<=4294967295) (hi:Is 6 n) (_hm:m=0↔yk 4 n):yq n 6 (fI 4 n) (bA 4 n) m:=by
 rw [JA n h0 h1] at hi
 have hz:yk 4 n↔n / 33554432=0/\n / 128 % 32=0:=by simp [yk]
 rw [hz] at _hm
 have hrd:fI 4 n=0:=by rfl
 have hrs:bA 4 n=n / 32768 % 32:=by rw [<- yA n 32768 h0 h1 (by decide)]; rfl
 unfold yq yQ iA yX yV mQ
 rw [hrd,hrs]
 clear hz
 refine ⟨?_,?_,?_,?_,?_,?_,?_,?_,?_,?_⟩ <;> omega
theorem ysb (n m:Int) (h0:0<=n) (h1:n<=4294967295) (hi:Is 7 n) (_hm:m=0↔yk 4 n):yq n 7 (fI 4 n) (bA 4 n) m:=by
 rw [JB n h0 h1] at hi
 have hz:yk 4 n↔n / 33554432=0/\n / 128 % 32=0:=by simp [yk]
 rw [hz] at _hm
 have hrd:fI 4 n=0:=by rfl
 have hrs:bA 4 n=n / 32768 % 32:=by rw [<- yA n 32768 h0 h1 (by decide)]; rfl
 unfold yq yQ iA yX yV mQ
 rw [hrd,hrs]
 clear hz
 refine ⟨?_,?_,?_,?_,?_,?_,?_,?_,?_,?_⟩ <;> omega
theorem ysc (n m:Int) (h0:0<=n) (h1:n<=4294967295) (hi:Is 8 n) (_hm:m=0↔yk 4 n):yq n 8 (fI 4 n) (bA 4 n) m:=by
 rw [JC n h0 h1] at hi
 have hz:yk 4 n↔n / 33554432=0/\n / 128 % 32=0:=by simp [yk]
 rw [hz] at _hm
 have hrd:fI 4 n=0:=by rfl
 have hrs:bA 4 n=n / 32768 % 32:=by rw [<- yA n 32768 h0 h1 (by decide)]; rfl
 unfold yq yQ iA yX yV mQ
 rw [hrd,hrs]
 clear hz
 refine ⟨?_,?_,?_,?_,?_,?_,?_,?_,?_,?_⟩ <;> omega
theorem ysd (n m:Int) (h0:0<=n) (h1:n<=4294967295) (hi:Is 9 n) (_hm:m=0↔yk 4 n):yq n 9 (fI 4 n) (bA 4 n) m:=by
 rw [JD n h0 h1] at hi
 have hz:yk 4 n↔n / 33554432=0/\n / 128 % 32=0:=by simp [yk]
 rw [hz] at _hm
 have hrd:fI 4 n=0:=by rfl
 have hrs:bA 4 n=n / 32768 % 32:=by rw [<- yA n 32768 h0 h1 (by decide)]; rfl
 unfold yq yQ iA yX yV mQ
 rw [hrd,hrs]
 clear hz
 refine ⟨?_,?_,?_,?_,?_,?_,?_,?_,?_,?_⟩ <;> omega
theorem yrm (n m:Int) (h0:0<=n) (h1:n<=4294967295) (hi:Is 10 n) (_hm:m=0↔yk 4 n):yq n 10 (fI 4 n) (bA 4 n) m:=by
 rw [Xh n h0 h1] at hi
 have hz:yk 4 n↔n / 33554432=0/\n / 128 % 32=0:=by simp [yk]
 rw [hz] at _hm
 have hrd:fI 4 n=0:=by rfl
 have hrs:bA 4 n=n / 32768 % 32:=by rw [<- yA n 32768 h0 h1 (by decide)]; rfl
 unfold yq yQ iA yX yV mQ
 rw [hrd,hrs]
 clear hz
 refine ⟨?_,?_,?_,?_,?_,?_,?_,?_,?_,?_⟩ <;> omega
theorem yrn (n m:Int) (h0:0<=n) (h1:n<=4294967295) (hi:Is 11 n) (_hm:m=0↔yk 3 n):yq n 11 (fI 3 n) (bA 3 n) m:=by
 rw [Xi n h0 h1] at hi
 have hz:yk 3 n↔n / 1048576=0:=by simp [yk]
 rw [hz] at _hm
 have hrd:fI 3 n=n / 128 % 32:=by rw [<- yA n 128 h0 h1 (by decide)]; rfl
 have hrs:bA 3 n=n / 32768 % 32:=by rw [<- yA n 32768 h0 h1 (by decide)]; rfl
 unfold yq yQ iA yX yV mQ
 rw [hrd,hrs]
 clear hz
 refine ⟨?_,?_,?_,?_,?_,?_,?_,?_,?_,?_⟩ <;> omega
theorem yro (n m:Int) (h0:0<=n) (h1:n<=4294967295) (hi:Is 12 n) (_hm:m=0↔yk 5 n):yq n 12 (fI 5 n) (bA 5 n) m:=by
 rw [Xj n h0 h1] at hi
 have hz:yk 5 n↔n / 33554432=0/\n / 128 % 32=0:=by simp [yk]
 rw [hz] at _hm
 have hrd:fI 5 n=0:=by rfl
 have hrs:bA 5 n=n / 32768 % 32:=by rw [<- yA n 32768 h0 h1 (by decide)]; rfl
 unfold yq yQ iA yX yV mQ
 rw [hrd,hrs]
 clear hz
 refine ⟨?_,?_,?_,?_,?_,?_,?_,?_,?_,?_⟩ <;> omega
theorem yrp (n m:Int) (h0:0<=n) (h1:n<=4294967295) (hi:Is 13 n) (_hm:m=0↔yk 3 n):yq n 13 (fI 3 n) (bA 3 n) m:=by
 rw [Xk n h0 h1] at hi
 have hz:yk 3 n↔n / 1048576=0:=by simp [yk]
 rw [hz] at _hm
 have hrd:fI 3 n=n / 128 % 32:=by rw [<- yA n 128 h0 h1 (by decide)]; rfl
 have hrs:bA 3 n=n / 32768 % 32:=by rw [<- yA n 32768 h0 h1 (by decide)]; rfl
 unfold yq yQ iA yX yV mQ
 rw [hrd,hrs]
 clear hz
 refine ⟨?_,?_,?_,?_,?_,?_,?_,?_,?_,?_⟩ <;> omega
theorem yrq (n m:Int) (h0:0<=n) (h1:n<=4294967295) (hi:Is 14 n) (_hm:m=0↔yk 3 n):yq n 14 (fI 3 n) (bA 3 n) m:=by
 rw [ysg n h0 h1] at hi
 have hz:yk 3 n↔n / 1048576=0:=by simp [yk]
 rw [hz] at _hm
 have hrd:fI 3 n=n / 128 % 32:=by rw [<- yA n 128 h0 h1 (by decide)]; rfl
 have hrs:bA 3 n=n / 32768 % 32:=by rw [<- yA n 32768 h0 h1 (by decide)]; rfl
 unfold yq yQ iA yX yV mQ
 rw [hrd,hrs]
 clear hz
 refine ⟨?_,?_,?_,?_,?_,?_,?_,?_,?_,?_⟩ <;> omega
theorem yrr (n m:Int) (h0:0<=n) (h1:n<=4294967295) (hi:Is 15 n) (_hm:m=0↔yk 3 n):yq n 15 (fI 3 n) (bA 3 n) m:=by
 rw [ysh n h0 h1] at hi
 have hz:yk 3 n↔n / 1048576=0:=by simp [yk]
 rw [hz] at _hm
 have hrd:fI 3 n=n / 128 % 32:=by rw [<- yA n 128 h0 h1 (by decide)]; rfl
 have hrs:bA 3 n=n / 32768 % 32:=by rw [<- yA n 32768 h0 h1 (by decide)]; rfl
 unfold yq yQ iA yX yV mQ
 rw [hrd,hrs]
 clear hz
 refine ⟨?_,?_,?_,?_,?_,?_,?_,?_,?_,?_⟩ <;> omega
theorem yrs (n m:Int) (h0:0<=n) (h1:n<=4294967295) (hi:Is 16 n) (_hm:m=0↔yk 3 n):yq n 16 (fI 3 n) (bA 3 n) m:=by
 rw [ysi n h0 h1] at hi
 have hz:yk 3 n↔n / 1048576=0:=by simp [yk]
 rw [hz] at _hm
 have hrd:fI 3 n=n / 128 % 32:=by rw [<- yA n 128 h0 h1 (by decide)]; rfl
 have hrs:bA 3 n=n / 32768 % 32:=by rw [<- yA n 32768 h0 h1 (by decide)]; rfl
 unfold yq yQ iA yX yV mQ
 rw [hrd,hrs]
 clear hz
 refine ⟨?_,?_,?_,?_,?_,?_,?_,?_,?_,?_⟩ <;> omega
theorem yrt (n m:Int) (h0:0<=n) (h1:n<=4294967295) (hi:Is 17 n) (_hm:m=0↔yk 3 n):yq n 17 (fI 3 n) (bA 3 n) m:=by
 rw [ysj n h0 h1] at hi
 have hz:yk 3 n↔n / 1048576=0:=by simp [yk]
 rw [hz] at _hm
 have hrd:fI 3 n=n / 128 % 32:=by rw [<- yA n 128 h0 h1 (by decide)]; rfl
 have hrs:bA 3 n=n / 32768 % 32:=by rw [<- yA n 32768 h0 h1 (by decide)]; rfl
 unfold yq yQ iA yX yV mQ
 rw [hrd,hrs]
 clear hz
 refine ⟨?_,?_,?_,?_,?_,?_,?_,?_,?_,?_⟩ <;> omega
theorem yru (n m:Int) (h0:0<=n) (h1:n<=4294967295) (hi:Is 18 n) (_hm:m=0↔yk 6 n):yq n 18 (fI 6 n) (bA 6 n) m:=by
 rw [ysk n h0 h1] at hi
 have hz:yk 6 n↔True:=by simp [yk]
 rw [hz] at _hm
 have hrd:fI 6 n=n / 128 % 32:=by rw [<- yA n 128 h0 h1 (by decide)]; rfl
 have hrs:bA 6 n=n / 32768 % 32:=by rw [<- yA n 32768 h0 h1 (by decide)]; rfl
 unfold yq yQ iA yX yV mQ
 rw [hrd,hrs]
 simp only [iff_true] at _hm
 refine ⟨?_,?_,?_,?_,?_,?_,?_,?_,?_,?_⟩ <;> omega
theorem yrv (n m:Int) (h0:0<=n) (h1:n<=4294967295) (hi:Is 19 n) (_hm:m=0↔yk 6 n):yq n 19 (fI 6 n) (bA 6 n) m:=by
 rw [ysl n h0 h1] at hi
 have hz:yk 6 n↔True:=by simp [yk]
 rw [hz] at _hm
 have hrd:fI 6 n=n / 128 % 32:=by rw [<- yA n 128 h0 h1 (by decide)]; rfl
 have hrs:bA 6 n=n / 32768 % 32:=by rw [<- yA n 32768 h0 h1 (by decide)]; rfl
 unfold yq yQ iA yX yV mQ
 rw [hrd,hrs]
 simp only [iff_true] at _hm
 refine ⟨?_,?_,?_,?_,?_,?_,?_,?_,?_,?_⟩ <;> omega
theorem yrw (n m:Int) (h0:0<=n) (h1:n<=4294967295) (hi:Is 20 n) (_hm:m=0↔yk 6 n):yq n 20 (fI 6 n) (bA 6 n) m:=by
 rw [ysm n h0 h1] at hi
 have hz:yk 6 n↔True:=by simp [yk]
 rw [hz] at _hm
 have hrd:fI 6 n=n / 128 % 32:=by rw [<- yA n 128 h0 h1 (by decide)]; rfl
 have hrs:bA 6 n=n / 32768 % 32:=by rw [<- yA n 32768 h0 h1 (by decide)]; rfl
 unfold yq yQ iA yX yV mQ
 rw [hrd,hrs]
 simp only [iff_true] at _hm
 refine ⟨?_,?_,?_,?_,?_,?_,?_,?_,?_,?_⟩ <;> omega
theorem yrx (n m:Int) (h0:0<=n) (h1:n<=4294967295) (hi:Is 21 n) (_hm:m=0↔yk 6 n):yq n 21 (fI 6 n) (bA 6 n) m:=by
 rw [ysn n h0 h1] at hi
 have hz:yk 6 n↔True:=by simp [yk]
 rw [hz] at _hm
 have hrd:fI 6 n=n / 128 % 32:=by rw [<- yA n 128 h0 h1 (by decide)]; rfl
 have hrs:bA 6 n=n / 32768 % 32:=by rw [<- yA n 32768 h0 h1 (by decide)]; rfl
 unfold yq yQ iA yX yV mQ
 rw [hrd,hrs]
 simp only [iff_true] at _hm
 refine ⟨?_,?_,?_,?_,?_,?_,?_,?_,?_,?_⟩ <;> omega
theorem yry (n m:Int) (h0:0<=n) (h1:n<=4294967295) (hi:Is 22 n) (_hm:m=0↔yk 6 n):yq n 22 (fI 6 n) (bA 6 n) m:=by
 rw [yso n h0 h1] at hi
 have hz:yk 6 n↔True:=by simp [yk]
 rw [hz] at _hm
 have hrd:fI 6 n=n / 128 % 32:=by rw [<- yA n 128 h0 h1 (by decide)]; rfl
 have hrs:bA 6 n=n / 32768 % 32:=by rw [<- yA n 32768 h0 h1 (by decide)]; rfl
 unfold yq yQ iA yX yV mQ
 rw [hrd,hrs]
 simp only [iff_true] at _hm
 refine ⟨?_,?_,?_,?_,?_,?_,?_,?_,?_,?_⟩ <;> omega
theorem yrz (n m:Int) (h0:0<=n) (h1:n<=4294967295) (hi:Is 23 n) (_hm:m=0↔yk 6 n):yq n 23 (fI 6 n) (bA 6 n) m:=by
 rw [ysp n h0 h1] at hi
 have hz:yk 6 n↔True:=by simp [yk]
 rw [hz] at _hm
 have hrd:fI 6 n=n / 128 % 32:=by rw [<- yA n 128 h0 h1 (by decide)]; rfl
 have hrs:bA 6 n=n / 32768 % 32:=by rw [<- yA n 32768 h0 h1 (by decide)]; rfl
 unfold yq yQ iA yX yV mQ
 rw [hrd,hrs]
 simp only [iff_true] at _hm
 refine ⟨?_,?_,?_,?_,?_,?_,?_,?_,?_,?_⟩ <;> omega
theorem yrA (n m:Int) (h0:0<=n) (h1:n<=4294967295) (hi:Is 24 n) (_hm:m=0↔yk 6 n):yq n 24 (fI 6 n) (bA 6 n) m:=by
 rw [ysq n h0 h1] at hi
 have hz:yk 6 n↔True:=by simp [yk]
 rw [hz] at _hm
 have hrd:fI 6 n=n / 128 % 32:=by rw [<- yA n 128 h0 h1 (by decide)]; rfl
 have hrs:bA 6 n=n / 32768 % 32:=by rw [<- yA n 32768 h0 h1 (by decide)]; rfl
 unfold yq yQ iA yX yV mQ
 rw [hrd,hrs]
 simp only [iff_true] at _hm
 refine ⟨?_,?_,?_,?_,?_,?_,?_,?_,?_,?_⟩ <;> omega
theorem yrB (n m:Int) (h0:0<=n) (h1:n<=4294967295) (hi:Is 25 n) (_hm:m=0↔yk 7 n):yq n 25 (fI 7 n) (bA 7 n) m:=by
 rw [ysr n h0 h1] at hi
 have hz:yk 7 n↔True:=by simp [yk]
 rw [hz] at _hm
 have hrd:fI 7 n=0:=by rfl
 have hrs:bA 7 n=0:=by rfl
 unfold yq yQ iA yX yV mQ
 rw [hrd,hrs]
 simp only [iff_true] at _hm
 refine ⟨?_,?_,?_,?_,?_,?_,?_,?_,?_,?_⟩ <;> omega
theorem F6 (n op rd au m:Int) (h0:0<=n) (h1:n<=4294967295) (h:Dec n op rd au m):yq n op rd au m:=by
 rcases h with ⟨rfl,rfl,rfl,rfl,h⟩ | ⟨k,k1,k2,hi,-,rfl,rfl,rfl,hm⟩
 ·exact yrC n h0 h1 h
 ·rcases (show k=1\/k=2\/k=3\/k=4\/k=5\/k=6\/k=7\/k=8\/k=9\/k=10\/k=11\/k=12\/k=13\/k=14\/k=15\/k=16\/k=17\/k=18\/k=19\/k=20\/k=21\/k=22\/k=23\/k=24\/k=25 from by omega) with rfl | rfl | rfl | rfl | rfl | rfl | rfl | rfl | rfl | rfl | rfl | rfl | rfl | rfl | rfl | rfl | rfl | rfl | rfl | rfl | rfl | rfl | rfl | rfl | rfl
  ·exact yrV n m h0 h1 hi hm
  ·exact yrW n m h0 h1 hi hm
  ·exact yrX n m h0 h1 hi hm
  ·exact yrY n m h0 h1 hi hm
  ·exact yrZ n m h0 h1 hi hm
  ·exact ysa n m h0 h1 hi hm
  ·exact ysb n m h0 h1 hi hm
  ·exact ysc n m h0 h1 hi hm
  ·exact ysd n m h0 h1 hi hm
  ·exact yrm n m h0 h1 hi hm
  ·exact yrn n m h0 h1 hi hm
  ·exact yro n m h0 h1 hi hm
  ·exact yrp n m h0 h1 hi hm
  ·exact yrq n m h0 h1 hi hm
  ·exact yrr n m h0 h1 hi hm
  ·exact yrs n m h0 h1 hi hm
  ·exact yrt n m h0 h1 hi hm
  ·exact yru n m h0 h1 hi hm
  ·exact yrv n m h0 h1 hi hm
  ·exact yrw n m h0 h1 hi hm
  ·exact yrx n m h0 h1 hi hm
  ·exact yry n m h0 h1 hi hm
  ·exact yrz n m h0 h1 hi hm
  ·exact yrA n m h0 h1 hi hm
  ·exact yrB n m h0 h1 hi hm
def xU (xs:List Int):Prop:=∀ i (h:i < xs.length),xs[i]=19
theorem ykS (ao:Option Addr) (cap:Nat) (xs:List Int) (w:World) (h:yz w ao xs) (hn:xs.length<=65535) :
  Calls Tryz.prog 221 #[.slice ao xs.length cap] w fun e w'=>yg e (xU xs)/\w'=w:=by
 have H:=hid h
 clear h
 go_enter Tryz.func221,Tryz.ntmps221
 go_wp2
 go_loop [7] (fun i=>∃ k:Nat,k<=xs.length/\i = .int .i64 k/\∀ j (hj:j < xs.length),j < k->xs[j]=19) (fun i=>xs.length - (intOf i).toNat)
 case atStart=>exact ⟨0,Nat.zero_le _,rfl,fun j _ hj=>absurd hj (Nat.not_lt_zero j)⟩
 case round =>
  obtain ⟨k,hk,rfl,hall⟩:=hrel
  have HA:=hid hall
  clear hall
  by_cases hlt:k < xs.length
  ·obtain ⟨g,off,rfl,hc⟩:=H.o (by omega)
   have hck:=hc k hlt
   clear hc
   by_cases h1:xs[k]=19
   ·have HE:=hid h1
    have d1:(xs[k] == 19)=true:=beq_iff_eq.2 h1
    clear h1
    go_wp2
    go_round
    case rel=>exact ⟨k+1,by omega,by go_num,fun j hj hjk=>(Nat.lt_succ_iff_lt_or_eq.1 hjk).elim (fun h=>HA.o j hj h) (fun h=>by subst h; exact HE.o)⟩
    case measure=>simp [intOf]; omega
   ·have N:=hid (show ¬ xU xs from fun hw=>h1 (hw k hlt))
    have d1:(xs[k] == 19)=false:=beq_eq_false_iff_ne.2 h1
    clear h1
    go_wp2
    go_ret
    exact ⟨yg.no N.o,rfl⟩
  ·go_wp2
   go_ret
   exact ⟨yg.yes fun i hi=>HA.o i hi (by omega),rfl⟩
def Kq (kind op1 rd m1 op2 rs m2:Int):Prop:=(rd≠0/\rs=rd/\m1=0/\m2=0)/\(if kind=4 then op1=2/\op2=4 else op1=1/\(op2=13\/op2=11\/op2=12))
theorem TR (kind op1 wM s1 t1 m1 op2 zS s2 t2 m2:Int) (w:World) :
  Calls Tryz.prog 220 #[.int .i64 kind,aX op1 wM s1 t1 m1,aX op2 zS s2 t2 m2] w fun e w'=>yg e (Kq kind op1 wM m1 op2 s2 m2)/\w.grownBy w' none:=by
 have G1:=hid (fun o:Obj=>aH w o none)
 have G2:=hid (fun o o':Obj=>aH (w.alloc o) o' none)
 have HQ:=hid (show Kq kind op1 wM m1 op2 s2 m2↔(wM≠0/\s2=wM/\m1=0/\m2=0)/\(if kind=4 then op1=2/\op2=4 else op1=1/\(op2=13\/op2=11\/op2=12)) from Iff.rfl)
 generalize Kq kind op1 wM m1 op2 s2 m2=Q at *
 unfold aX
 by_cases c1:wM=0
 ·have N:=hid (show ¬ Q from fun q=>(HQ.o.1 q).1.1 c1)
  subst c1
  clear HQ
  go_enter Tryz.func220,Tryz.ntmps220
  go_wp2
  go_ret
  exact ⟨yg.no N.o,ya (G1.o _) (G2.o _ _)⟩
 have d1:(wM == 0)=false:=beq_eq_false_iff_ne.2 c1
 by_cases c2:s2=wM
 rotate_left
 ·have N:=hid (show ¬ Q from fun q=>c2 (HQ.o.1 q).1.2.1)
  have d2:(s2 != wM)=true:=by simpa using c2
  clear HQ c1 c2
  go_enter Tryz.func220,Tryz.ntmps220
  go_wp2
  go_ret
  exact ⟨yg.no N.o,ya (G1.o _) (G2.o _ _)⟩
 subst c2
 have d2:(s2 == s2)=true:=by simp
 by_cases c3:m1=0
 rotate_left
 ·have N:=hid (show ¬ Q from fun q=>c3 (HQ.o.1 q).1.2.2.1)
  have d3:(m1 == 0)=false:=beq_eq_false_iff_ne.2 c3
  clear HQ c1 c3
  go_enter Tryz.func220,Tryz.ntmps220
  go_wp2
  go_ret
  exact ⟨yg.no N.o,ya (G1.o _) (G2.o _ _)⟩
 subst c3
 by_cases c4:m2=0
 rotate_left
 ·have N:=hid (show ¬ Q from fun q=>c4 (HQ.o.1 q).1.2.2.2)
  have d4:(m2 == 0)=false:=beq_eq_false_iff_ne.2 c4
  clear HQ c1 c4
  go_enter Tryz.func220,Tryz.ntmps220
  go_wp2
  go_ret
  exact ⟨yg.no N.o,ya (G1.o _) (G2.o _ _)⟩
 subst c4
 have C1:=hid c1
 clear c1
 by_cases k4:kind=4
 ·subst k4
  have nJ:=hid (show Q↔op1=2/\op2=4 from by rw [HQ.o,if_pos rfl]; exact ⟨fun h=>h.2,fun h=>⟨⟨C1.o,rfl,rfl,rfl⟩,h⟩⟩)
  clear HQ
  by_cases o1:op1=2
  ·subst o1
   go_enter Tryz.func220,Tryz.ntmps220
   go_wp2
   go_ret
   exact ⟨yg.of (by rw [nJ.o,beq_iff_eq]; simp),ya (G1.o _) (G2.o _ _)⟩
  ·have N:=hid (show ¬ Q from fun q=>o1 (nJ.o.1 q).1)
   have d5:(op1 == 2)=false:=beq_eq_false_iff_ne.2 o1
   clear nJ o1
   go_enter Tryz.func220,Tryz.ntmps220
   go_wp2
   go_ret
   exact ⟨yg.no N.o,ya (G1.o _) (G2.o _ _)⟩
 ·have nJ:=hid (show Q↔op1=1/\(op2=13\/op2=11\/op2=12) from by rw [HQ.o,if_neg k4]; exact ⟨fun h=>h.2,fun h=>⟨⟨C1.o,rfl,rfl,rfl⟩,h⟩⟩)
  have dk:(kind == 4)=false:=beq_eq_false_iff_ne.2 k4
  clear HQ k4
  by_cases o1:op1=1
  rotate_left
  ·have N:=hid (show ¬ Q from fun q=>o1 (nJ.o.1 q).1)
   have d5:(op1 == 1)=false:=beq_eq_false_iff_ne.2 o1
   clear nJ o1
   go_enter Tryz.func220,Tryz.ntmps220
   go_wp2
   go_ret
   exact ⟨yg.no N.o,ya (G1.o _) (G2.o _ _)⟩
  subst o1
  by_cases o2:op2=13
  ·subst o2
   go_enter Tryz.func220,Tryz.ntmps220
   go_wp2
   go_ret
   exact ⟨yg.yes (by rw [nJ.o]; simp),ya (G1.o _) (G2.o _ _)⟩
  have e2:(op2 == 13)=false:=beq_eq_false_iff_ne.2 o2
  by_cases o3:op2=11
  ·subst o3
   go_enter Tryz.func220,Tryz.ntmps220
   go_wp2
   go_ret
   exact ⟨yg.yes (by rw [nJ.o]; simp),ya (G1.o _) (G2.o _ _)⟩
  have e3:(op2 == 11)=false:=beq_eq_false_iff_ne.2 o3
  have O:=hid (⟨o2,o3⟩:op2≠13/\op2≠11)
  clear o2 o3
  go_enter Tryz.func220,Tryz.ntmps220
  go_wp2
  go_ret
  exact ⟨yg.of (by rw [nJ.o,beq_iff_eq]; have:=O.o; simp; omega),ya (G1.o _) (G2.o _ _)⟩
def Ig (kind a b:Int):Prop:=a / 128 % 32≠0/\b / 32768 % 32=a / 128 % 32/\(if kind=4 then yX 23 a/\yV 103 0 b else yX 55 a/\(yV 19 0 b\/yV 3 2 b\/mQ b))
theorem Vf (kind a b op1 wM s1 m1 op2 zS s2 m2:Int) (h1:yq a op1 wM s1 m1) (h2:yq b op2 zS s2 m2):Kq kind op1 wM m1 op2 s2 m2↔Ig kind a b:=by
 obtain ⟨-,-,a1,a2,-,-,-,-,a9,-⟩:=h1
 obtain ⟨-,-,-,-,b4,b11,b12,b13,-,b10⟩:=h2
 unfold Kq Ig
 rw [<- a1,<- a2,<- b4,<- b11,<- b12,<- b13]
 split
 ·constructor
  ·rintro ⟨⟨x1,x2,x3,x4⟩,x5,x6⟩
   have y1:=a9 (.inr x5)
   have y2:=b10 (.inl x6)
   rw [<- y1,<- y2]
   exact ⟨x1,x2,⟨x5,x3⟩,x6,x4⟩
  ·rintro ⟨x1,x2,⟨x5,x3⟩,x6,x4⟩
   have y1:=a9 (.inr x5)
   have y2:=b10 (.inl x6)
   rw [<- y1] at x1 x2
   rw [<- y2] at x2
   exact ⟨⟨x1,x2,x3,x4⟩,x5,x6⟩
 ·constructor
  ·rintro ⟨⟨x1,x2,x3,x4⟩,x5,x6⟩
   have y1:=a9 (.inl x5)
   have y2:=b10 (by omega)
   rw [<- y1,<- y2]
   exact ⟨x1,x2,⟨x5,x3⟩,by omega⟩
  ·rintro ⟨x1,x2,⟨x5,x3⟩,x6⟩
   have y1:=a9 (.inl x5)
   have y2:=b10 (by omega)
   rw [<- y1] at x1 x2
   rw [<- y2] at x2
   exact ⟨⟨x1,x2,x3,by omega⟩,x5,by omega⟩
def nP (kind:Int) (xs:List Int):Prop :=
 if kind=1 then xs.getD 0 0=0 else if kind=2 then yQ (xs.getD 0 0) else if kind=3 then iA (xs.getD 0 0) else if kind=4\/kind=5 then Ig kind (xs.getD 0 0) (xs.getD 1 0) else if kind=6 then xU xs else False
theorem UM (kind:Int) (w:World) :
  Calls Tryz.prog 206 #[.int .i64 kind,.slice none 0 0] w fun e w'=>e = .returned (.bool false)/\w'=w:=by
 go_enter Tryz.func206,Tryz.ntmps206
 go_wp2
 go_ret
 exact ⟨rfl,rfl⟩
theorem UL (kind:Int) (ao:Option Addr) (cap:Nat) (xs:List Int) (w:World) (ht:dz w) (h:yz w ao xs) (hw:qO xs) (hn:xs.length<=3) (hn1:1<=xs.length) (hk:1<=kind/\kind<=6) (h2:kind=4\/kind=5->xs.length=2) :
  Calls Tryz.prog 206 #[.int .i64 kind,.slice ao xs.length cap] w fun e w'=>yg e (nP kind xs)/\w.grownBy w' none:=by
 obtain ⟨g,off,rfl,hc⟩:=h (by omega)
 have hx0:=hw 0 (by omega)
 have hgd:xs.getD 0 0=xs[0]:=by rw [jY,jF (by omega)]; rfl
 have q0:=hc 0 (by omega)
 have cD:=hid (OW xs[0] w ht hx0.1 hx0.2)
 have cN:=hid (fun W (hW:yz W (some ⟨g,off,none⟩) xs)=>ykS (some ⟨g,off,none⟩) cap xs W hW (by omega))
 have HI:=hid h
 simp only [Nat.add_zero] at q0
 rcases (show kind=1\/kind=2\/kind=3\/kind=6\/kind=4\/kind=5 from by omega) with rfl | rfl | rfl | rfl | rfl | rfl
 ·have HQ:=hid (show nP 1 xs↔xs[0]=0 from by simp only [nP,if_true]; rw [hgd])
  generalize nP 1 xs=Q at *
  clear h2 hk h hc hw ht HI
  go_enter Tryz.func206,Tryz.ntmps206
  go_wp2_with fail
  refine cD.o.mono ?_
  rintro e w1 ⟨⟨op,rd,s1,t1,m,rfl,hd⟩,hq⟩
  have q1:=yd q0 hq
  unfold aX
  have uW:=hid hq
  clear hq q0 hd
  have GA:=hid (fun ob:Obj=>aH w1 ob none)
  have q2:=fun ob:Obj=>yd q1 (aH w1 ob none)
  go_wp2
  go_ret
  exact ⟨yg.of (by rw [HQ.o,beq_iff_eq]),ya uW.o (GA.o _)⟩
 ·have HQ:=hid (show nP 2 xs↔yQ xs[0] from by unfold nP; rw [if_neg (by decide),if_pos rfl,hgd])
  generalize nP 2 xs=Q at *
  clear h2 hk h hc hw ht HI
  go_enter Tryz.func206,Tryz.ntmps206
  go_wp2_with fail
  refine cD.o.mono ?_
  rintro e w1 ⟨⟨op,rd,s1,t1,m,rfl,hd⟩,hq⟩
  have q1:=yd q0 hq
  unfold aX
  have uW:=hid hq
  have DF:=hid (F6 xs[0] op rd s1 m hx0.1 hx0.2 hd)
  clear hq q0 hd
  have GA:=hid (fun ob:Obj=>aH w1 ob none)
  by_cases o1:5<=op
  ·have d1:decide (5<=op)=true:=by simpa using o1
   by_cases o2:op<=10
   ·have d2:decide (op<=10)=true:=by simpa using o2
    go_wp2
    go_ret
    exact ⟨yg.of (by rw [HQ.o,<- DF.o.1,beq_iff_eq]; exact ⟨fun h=>⟨o1,o2,h⟩,fun h=>h.2.2⟩),ya uW.o (GA.o _)⟩
   ·have d2:decide (op<=10)=false:=by simp; omega
    go_wp2
    go_ret
    exact ⟨yg.no (by rw [HQ.o,<- DF.o.1]; omega),ya uW.o (GA.o _)⟩
  ·have d1:decide (5<=op)=false:=by simp; omega
   go_wp2
   go_ret
   exact ⟨yg.no (by rw [HQ.o,<- DF.o.1]; omega),ya uW.o (GA.o _)⟩
 ·have HQ:=hid (show nP 3 xs↔iA xs[0] from by unfold nP; rw [if_neg (by decide),if_neg (by decide),if_pos rfl,hgd])
  generalize nP 3 xs=Q at *
  clear h2 hk h hc hw ht HI
  go_enter Tryz.func206,Tryz.ntmps206
  go_wp2_with fail
  refine cD.o.mono ?_
  rintro e w1 ⟨⟨op,rd,s1,t1,m,rfl,hd⟩,hq⟩
  have q1:=yd q0 hq
  unfold aX
  have uW:=hid hq
  have DF:=hid (F6 xs[0] op rd s1 m hx0.1 hx0.2 hd)
  clear hq q0 hd
  have GA:=hid (fun ob:Obj=>aH w1 ob none)
  by_cases o1:op=3
  ·subst o1
   go_wp2
   go_ret
   exact ⟨yg.of (by rw [HQ.o,<- DF.o.2.1,beq_iff_eq]; simp),ya uW.o (GA.o _)⟩
  ·have d1:(op == 3)=false:=beq_eq_false_iff_ne.2 o1
   have O:=hid o1
   clear o1
   go_wp2
   go_ret
   exact ⟨yg.no (by rw [HQ.o,<- DF.o.2.1]; have:=O.o; omega),ya uW.o (GA.o _)⟩
 ·have HQ:=hid (show nP 6 xs↔xU xs from by unfold nP; rw [if_neg (by decide),if_neg (by decide),if_neg (by decide),if_neg (by decide),if_pos rfl])
  generalize nP 6 xs=Q at *
  clear h2 hk h hc hw ht
  go_enter Tryz.func206,Tryz.ntmps206
  go_wp2_with fail
  refine cD.o.mono ?_
  rintro e w1 ⟨⟨op,rd,s1,t1,m,rfl,hd⟩,hq⟩
  have q1:=yd q0 hq
  unfold aX
  have uW:=hid hq
  have DF:=hid (F6 xs[0] op rd s1 m hx0.1 hx0.2 hd)
  clear hq q0 hd
  have GA:=hid (fun ob:Obj=>aH w1 ob none)
  go_wp2_with fail
  refine (cN.o _ ((HI.o.kept (fun a v hv=>yd hv uW.o)).kept (fun a v hv=>yd hv (GA.o _)))).mono ?_
  rintro e w2 ⟨t,rfl⟩
  obtain ⟨b,rfl,hb⟩:=t
  have mV:=hid hb
  clear hb
  go_wp2
  go_ret
  exact ⟨yg.of (by rw [HQ.o]; exact mV.o),ya uW.o (GA.o _)⟩
 ·have hl2:=h2 (by omega)
  have hlt1:1 < xs.length:=by omega
  have hx1:=hw 1 hlt1
  have hgd1:xs.getD 1 0=xs[1]'hlt1:=by rw [jY,jF hlt1]; rfl
  have HQ:=hid (show nP 4 xs↔Ig 4 xs[0] xs[1] from by unfold nP; rw [if_neg (by decide),if_neg (by decide),if_neg (by decide),if_pos (by decide),hgd,hgd1])
  have q1:=hc 1 hlt1
  have Nr:=hid (fun W (hW:dz W)=>OW xs[1] W hW hx1.1 hx1.2)
  have HT:=hid ht
  generalize nP 4 xs=Q at *
  have dl:((xs.length:Int) == 2)=true:=by rw [beq_iff_eq]; omega
  have hl3:2<=xs.length:=by omega
  have g1:(1:Int) < (xs.length:Int):=by omega
  have g2:(0:Int) < (xs.length:Int):=by omega
  clear h2 hk h hc hw ht HI cN hl2
  go_enter Tryz.func206,Tryz.ntmps206
  go_wp2_with fail
  refine cD.o.mono ?_
  rintro e w1 ⟨⟨op,rd,s1,t1,m,rfl,hd⟩,hq⟩
  unfold aX
  have B:=yc.new w1 #[.int .i64 op,.int .i64 rd,.int .i64 s1,.int .i64 t1,.int .i64 m] 143
  have GA:=aH w1 (.cells #[.int .i64 op,.int .i64 rd,.int .i64 s1,.int .i64 t1,.int .i64 m] 143) none
  have c0:Hd ((w1.alloc (.cells #[.int .i64 op,.int .i64 rd,.int .i64 s1,.int .i64 t1,.int .i64 m] 143)).drew.cell? ⟨w1.heap.size,0,none⟩=some (.int .i64 op)):=B.cell 0
  have c1:Hd ((w1.alloc (.cells #[.int .i64 op,.int .i64 rd,.int .i64 s1,.int .i64 t1,.int .i64 m] 143)).drew.cell? ⟨w1.heap.size,1,none⟩=some (.int .i64 rd)):=B.cell 1
  have c2:Hd ((w1.alloc (.cells #[.int .i64 op,.int .i64 rd,.int .i64 s1,.int .i64 t1,.int .i64 m] 143)).drew.cell? ⟨w1.heap.size,2,none⟩=some (.int .i64 s1)):=B.cell 2
  have c3:Hd ((w1.alloc (.cells #[.int .i64 op,.int .i64 rd,.int .i64 s1,.int .i64 t1,.int .i64 m] 143)).drew.cell? ⟨w1.heap.size,3,none⟩=some (.int .i64 t1)):=B.cell 3
  have c4:Hd ((w1.alloc (.cells #[.int .i64 op,.int .i64 rd,.int .i64 s1,.int .i64 t1,.int .i64 m] 143)).drew.cell? ⟨w1.heap.size,4,none⟩=some (.int .i64 m)):=B.cell 4
  have c5:Hd ((w1.alloc (.cells #[.int .i64 op,.int .i64 rd,.int .i64 s1,.int .i64 t1,.int .i64 m] 143)).drew.cell? ⟨g,off+1,none⟩=some (.int .i64 xs[1])):=yd (yd q1 hq) (yi GA)
  have hgl:g < w1.heap.size:=World.block_lt_of_cell? w1 _ (yd q1 hq)
  have hnew:=World.new_ne w1 ⟨g,off+1,none⟩ (yd q1 hq)
  have q2:=yd q1 hq
  have GG:=hid (ya hq (yi GA))
  have DF:=hid (F6 xs[0] op rd s1 m hx0.1 hx0.2 hd)
  clear hq q0 q1 hd B GA cD
  go_wp2
  go_region_held3 (fun w'=>w'.cell? ⟨w1.heap.size,0,none⟩=some (.int .i64 op)/\w'.cell? ⟨w1.heap.size,1,none⟩=some (.int .i64 rd)/\w'.cell? ⟨w1.heap.size,2,none⟩=some (.int .i64 s1)/\w'.cell? ⟨w1.heap.size,3,none⟩=some (.int .i64 t1)/\w'.cell? ⟨w1.heap.size,4,none⟩=some (.int .i64 m)/\w'.cell? ⟨g,off+1,none⟩=some (.int .i64 xs[1]))
   (go_keep)
   (first | (go_at_call 82; refine (Nr.o _ (HT.o.grown GG.o)).mono ?_; rintro e w' ⟨⟨op2,zS,s2,t2,m2,rfl,hd2⟩,hq⟩; have s0:=yd c0.o hq; have s1':=yd c1.o hq; have s2':=yd c2.o hq; have s3:=yd c3.o hq; have s4:=yd c4.o hq; have s5:=yd c5.o hq) | (go_at_call 220; refine (TR 4 op rd s1 t1 m op2 zS s2 t2 m2 _).mono ?_; rintro e w'' ⟨⟨b,rfl,hb⟩,hq2⟩; have z0:=yd s0 hq2; have z1:=yd s1' hq2; have z2:=yd s2' hq2; have z3:=yd s3 hq2; have z4:=yd s4 hq2; have z5:=yd s5 hq2))
  have mV:=hid hb
  have D2:=hid (F6 xs[1] op2 zS s2 m2 hx1.1 hx1.2 hd2)
  have GF:=hid (ya (ya GG.o hq) hq2)
  clear hb hd2 hq hq2 s0 s1' s2' s3 s4 s5 z0 z1 z2 z3 z4 z5
  go_wp2
  go_ret
  exact ⟨yg.of (by rw [HQ.o,<- Vf 4 xs[0] xs[1] op rd s1 m op2 zS s2 m2 DF.o D2.o]; exact mV.o),GF.o⟩
 ·have hl2:=h2 (by omega)
  have hlt1:1 < xs.length:=by omega
  have hx1:=hw 1 hlt1
  have hgd1:xs.getD 1 0=xs[1]'hlt1:=by rw [jY,jF hlt1]; rfl
  have HQ:=hid (show nP 5 xs↔Ig 5 xs[0] xs[1] from by unfold nP; rw [if_neg (by decide),if_neg (by decide),if_neg (by decide),if_pos (by decide),hgd,hgd1])
  have q1:=hc 1 hlt1
  have Nr:=hid (fun W (hW:dz W)=>OW xs[1] W hW hx1.1 hx1.2)
  have HT:=hid ht
  generalize nP 5 xs=Q at *
  have dl:((xs.length:Int) == 2)=true:=by rw [beq_iff_eq]; omega
  have hl3:2<=xs.length:=by omega
  have g1:(1:Int) < (xs.length:Int):=by omega
  have g2:(0:Int) < (xs.length:Int):=by omega
  clear h2 hk h hc hw ht HI cN hl2
  go_enter Tryz.func206,Tryz.ntmps206
  go_wp2_with fail
  refine cD.o.mono ?_
  rintro e w1 ⟨⟨op,rd,s1,t1,m,rfl,hd⟩,hq⟩
  unfold aX
  have B:=yc.new w1 #[.int .i64 op,.int .i64 rd,.int .i64 s1,.int .i64 t1,.int .i64 m] 143
  have GA:=aH w1 (.cells #[.int .i64 op,.int .i64 rd,.int .i64 s1,.int .i64 t1,.int .i64 m] 143) none
  have c0:Hd ((w1.alloc (.cells #[.int .i64 op,.int .i64 rd,.int .i64 s1,.int .i64 t1,.int .i64 m] 143)).drew.cell? ⟨w1.heap.size,0,none⟩=some (.int .i64 op)):=B.cell 0
  have c1:Hd ((w1.alloc (.cells #[.int .i64 op,.int .i64 rd,.int .i64 s1,.int .i64 t1,.int .i64 m] 143)).drew.cell? ⟨w1.heap.size,1,none⟩=some (.int .i64 rd)):=B.cell 1
  have c2:Hd ((w1.alloc (.cells #[.int .i64 op,.int .i64 rd,.int .i64 s1,.int .i64 t1,.int .i64 m] 143)).drew.cell? ⟨w1.heap.size,2,none⟩=some (.int .i64 s1)):=B.cell 2
  have c3:Hd ((w1.alloc (.cells #[.int .i64 op,.int .i64 rd,.int .i64 s1,.int .i64 t1,.int .i64 m] 143)).drew.cell? ⟨w1.heap.size,3,none⟩=some (.int .i64 t1)):=B.cell 3
  have c4:Hd ((w1.alloc (.cells #[.int .i64 op,.int .i64 rd,.int .i64 s1,.int .i64 t1,.int .i64 m] 143)).drew.cell? ⟨w1.heap.size,4,none⟩=some (.int .i64 m)):=B.cell 4
  have c5:Hd ((w1.alloc (.cells #[.int .i64 op,.int .i64 rd,.int .i64 s1,.int .i64 t1,.int .i64 m] 143)).drew.cell? ⟨g,off+1,none⟩=some (.int .i64 xs[1])):=yd (yd q1 hq) (yi GA)
  have hgl:g < w1.heap.size:=World.block_lt_of_cell? w1 _ (yd q1 hq)
  have hnew:=World.new_ne w1 ⟨g,off+1,none⟩ (yd q1 hq)
  have q2:=yd q1 hq
  have GG:=hid (ya hq (yi GA))
  have DF:=hid (F6 xs[0] op rd s1 m hx0.1 hx0.2 hd)
  clear hq q0 q1 hd B GA cD
  go_wp2
  go_region_held3 (fun w'=>w'.cell? ⟨w1.heap.size,0,none⟩=some (.int .i64 op)/\w'.cell? ⟨w1.heap.size,1,none⟩=some (.int .i64 rd)/\w'.cell? ⟨w1.heap.size,2,none⟩=some (.int .i64 s1)/\w'.cell? ⟨w1.heap.size,3,none⟩=some (.int .i64 t1)/\w'.cell? ⟨w1.heap.size,4,none⟩=some (.int .i64 m)/\w'.cell? ⟨g,off+1,none⟩=some (.int .i64 xs[1]))
   (go_keep)
   (first | (go_at_call 82; refine (Nr.o _ (HT.o.grown GG.o)).mono ?_; rintro e w' ⟨⟨op2,zS,s2,t2,m2,rfl,hd2⟩,hq⟩; have s0:=yd c0.o hq; have s1':=yd c1.o hq; have s2':=yd c2.o hq; have s3:=yd c3.o hq; have s4:=yd c4.o hq; have s5:=yd c5.o hq) | (go_at_call 220; refine (TR 5 op rd s1 t1 m op2 zS s2 t2 m2 _).mono ?_; rintro e w'' ⟨⟨b,rfl,hb⟩,hq2⟩; have z0:=yd s0 hq2; have z1:=yd s1' hq2; have z2:=yd s2' hq2; have z3:=yd s3 hq2; have z4:=yd s4 hq2; have z5:=yd s5 hq2))
  have mV:=hid hb
  have D2:=hid (F6 xs[1] op2 zS s2 m2 hx1.1 hx1.2 hd2)
  have GF:=hid (ya (ya GG.o hq) hq2)
  clear hb hd2 hq hq2 s0 s1' s2' s3 s4 s5 z0 z1 z2 z3 z4 z5
  go_wp2
  go_ret
  exact ⟨yg.of (by rw [HQ.o,<- Vf 5 xs[0] xs[1] op rd s1 m op2 zS s2 m2 DF.o D2.o]; exact mV.o),GF.o⟩
end Go.Proofs.YtpgklkhgfcjceaaGreatDoor
