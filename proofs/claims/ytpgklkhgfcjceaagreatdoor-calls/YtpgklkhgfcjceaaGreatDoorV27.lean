
import Derived.Test.YtpgklkhgfcjceaaGreatDoorV26
set_option maxHeartbeats 16000000
namespace Go.Proofs.YtpgklkhgfcjceaaGreatDoor
open Go.RowKit
namespace Ca
section
variable {k:Nat} {F:Int} {s:List Bool} {A B:Ln.Mod}
theorem jv (L:Laid k F s A B) (n:Nat) (hn:n<=2 * k+6):Ln.address A 1 (4 * (n:Int))=4096+4 * (Ln.cn (st s k) n:Int):=by
 show Ln.placeOf A.text (4 * (n:Int))=_
 rw [Ln.ku,L.JL n hn]
theorem mq (L:Laid k F s A B) (n:Nat) (hn:n<=2):Ln.address B 2 (4 * (n:Int))=F+4 * (n:Int):=by
 show Ln.placeOf B.far (4 * (n:Int))=_
 rw [Ln.ku,L.N8 n hn]
theorem wQ (L:Laid k F s A B) (h:k < 20) (i:Nat) (hi:i < k):Ln.target [A,B] A (rel i)=F:=by
 rcases yrk k h with c | ⟨h1,h2,h3,h4⟩
 ·omega
 ·rw [<- L.zL] at h1 h2 h3 h4
  have e:Ln.target [A,B] A (rel i)=Ln.bH [A,B] (A.means.getD 1 Ln.none_):=by
   unfold Ln.target
   rw [if_neg (by show ¬ ((1:Int) < 0\/(A.means.length:Int)<=1); omega)]
   rfl
  rw [e]
  unfold Ln.bH
  rw [h2]
  show Ln.address B _ _=F
  rw [h3,h4]
  have:=mq L 0 (by omega)
  simpa using this
theorem oq (L:Laid k F s A B) (h:k < 20) (i:Nat) (hi:i < k):Ln.distance [A,B] A (rel i)=F - (4096+4 * (Ln.cn (st s k) (1+2 * i):Int)):=by
 unfold Ln.distance
 rw [wQ L h i hi]
 have e:(rel i).off=4 * ((1+2 * i:Nat):Int):=by show 4+8 * (i:Int)=_; omega
 rw [e]
 show F - Ln.address A 1 _=_
 rw [jv L (1+2 * i) (by omega)]
theorem pE (L:Laid k F s A B) (h:k < 20):Ln.region [A,B] 1 4096 19 [A,B] []=Ln.aI [A,B] A 1 0 (ws k):=by
 obtain ⟨⟨t1,-⟩,-⟩:=HY k h
 obtain ⟨⟨u1,-⟩,-⟩:=Hz
 have wa:yp A.obj 1=ws k:=by rw [L.mJ]; exact t1
 have wb:yp B.obj 1=[]:=by rw [L.iY]; exact u1
 have q:=Ln.kK [A,B] A 1 (st s k) 4096 (ws k) 0 (fun n hn=>by rw [Nat.zero_add]; exact jv L n (by rw [iy] at hn; exact hn))
 have l:=q.1
 rw [iy,Nat.zero_add] at l
 have z:Ln.cn (st s k) 0=0:=rfl
 rw [z,Nat.sub_zero] at l
 show Ln.fG [A,B] B 1 4096 19 (Ln.fG [A,B] A 1 4096 19 [])=_
 have a0:Ln.address A 1 0=4096:=by have:=jv L 0 (by omega); rw [z] at this; simpa using this
 have e1:Ln.fG [A,B] A 1 4096 19 []=Ln.aI [A,B] A 1 0 (ws k):=by
  unfold Ln.fG
  rw [a0,FZ (by simp),wa]
  rfl
 rw [e1]
 have b0:Ln.address B 1 0=4096+4 * (Ln.cn (st s k) (2 * k+6):Int):=by
  show Ln.placeOf B.text 0=_
  have:=Ln.ku B.text 0
  rw [L.JM] at this
  exact this
 unfold Ln.fG
 rw [b0,FZ (by rw [l]; omega),wb]
 show _ ++ []=_
 rw [List.append_nil]
theorem wU (L:Laid k F s A B) (h:k < 20):Ln.region [A,B] 2 F 19 [A,B] []=[1377555,32871]:=by
 obtain ⟨⟨-,t2,-⟩,-⟩:=HY k h
 obtain ⟨⟨-,u2,-⟩,-⟩:=Hz
 have wa:yp A.obj 2=[]:=by rw [L.mJ]; exact t2
 have wb:yp B.obj 2=[1377555,32871]:=by rw [L.iY]; exact u2
 have a0:Ln.address A 2 0=F:=by
  show Ln.placeOf A.far 0=_
  have:=Ln.ku A.far 0
  rw [L.N7] at this
  exact this
 have b0:=mq L 0 (by omega)
 have b1:=mq L 1 (by omega)
 have b2:=mq L 2 (by omega)
 have ln:∀ off w,Ln.linked [A,B] B 2 off w=w:=fun off w=>by
  unfold Ln.linked
  rw [L.iY,qZ]
  rfl
 show Ln.fG [A,B] B 2 F 19 (Ln.fG [A,B] A 2 F 19 [])=_
 have e1:Ln.fG [A,B] A 2 F 19 []=[]:=by
  unfold Ln.fG
  rw [a0,FZ (by simp),wa]
  rfl
 rw [e1]
 have b0':Ln.address B 2 0=F:=by simpa using b0
 have e2:Ln.aI [A,B] B 2 0 [1377555,32871]=[1377555,32871]:=by
  show (if Ln.address B 2 (4 * ((0:Nat):Int)) < Ln.address B 2 (4 * ((0:Nat):Int)+4) then _ else _)=_
  rw [if_pos (by rw [show 4 * ((0:Nat):Int)+4=4 * ((1:Nat):Int) by omega,b0,b1]; omega),ln]
  show 1377555 :: (if Ln.address B 2 (4 * ((1:Nat):Int)) < Ln.address B 2 (4 * ((1:Nat):Int)+4) then _ else _)=_
  rw [if_pos (by rw [show 4 * ((1:Nat):Int)+4=4 * ((2:Nat):Int) by omega,b1,b2]; omega),ln]
  rfl
 unfold Ln.fG
 rw [b0',FZ (by simp),wb,e2]
 rfl
theorem tF (L:Laid k F s A B) (h:k < 20):Ln.region [A,B] 3 16777216 0 [A,B] []=[]:=by
 obtain ⟨⟨-,-,t3,-⟩,-⟩:=HY k h
 obtain ⟨⟨-,-,u3,-⟩,-⟩:=Hz
 have wa:yp A.obj 3=[]:=by rw [L.mJ]; exact t3
 have wb:yp B.obj 3=[]:=by rw [L.iY]; exact u3
 have a0:Ln.address A 3 0=16777216:=by show A.data+0=_; rw [L.Jh]; rfl
 have b0:Ln.address B 3 0=16777216:=by show B.data+0=_; rw [L.Ji]; rfl
 show Ln.fG [A,B] B 3 16777216 0 (Ln.fG [A,B] A 3 16777216 0 [])=_
 have e1:Ln.fG [A,B] A 3 16777216 0 []=[]:=by
  unfold Ln.fG
  rw [a0,FZ (by simp),wa]
  rfl
 rw [e1]
 unfold Ln.fG
 rw [b0,FZ (by simp),wb]
 rfl
theorem zI (L:Laid k F s A B) (h:k < 20) (n:Nat) (hn:n < 2 * k+6) (c:n=0\/2 * k < n) (w:Int):Ln.linked [A,B] A 1 (4 * (n:Int)) w=w:=by
 unfold Ln.linked
 rw [L.mJ,y5 k h n hn c]
 rfl
theorem Fu:Mc.jq 151=2/\fI (Mc.aK 151) 151=1/\bA (Mc.aK 151) 151=0/\jd (Mc.aK 151) 151=0:=by decide +kernel
theorem sV:Mc.jq 32999=4/\fI (Mc.aK 32999) 32999=1/\bA (Mc.aK 32999) 32999=1/\jd (Mc.aK 32999) 32999=0:=by decide +kernel
theorem Ai (n:Int):Ln.dM 151 n=(As.enc 2 1 0 0 n:Nat):=by
 obtain ⟨a,b,c,d⟩:=Fu
 unfold Ln.dM Ln.encZ
 rw [a,b,c,d,if_neg (by decide)]
 rfl
theorem uR (n:Int):Ln.dM 32999 n=(As.enc 4 1 1 0 n:Nat):=by
 obtain ⟨a,b,c,d⟩:=sV
 unfold Ln.dM Ln.encZ
 rw [a,b,c,d,if_neg (by decide)]
 rfl
theorem zJ (L:Laid k F s A B) (h:k < 20) (i:Nat) (hi:i < k) (c:s.getD i false=true) (w:Int):Ln.linked [A,B] A 1 (4 * ((1+2 * i:Nat):Int)) w=(As.enc 3 1 0 0 (F - (4096+4 * (Ln.cn (st s k) (1+2 * i):Int))):Nat):=by
 unfold Ln.linked
 rw [L.mJ,uX k h (1+2 * i) (by omega) (by omega),show (1+2 * i - 1) / 2=i by omega]
 have e:Ln.bY A.short (i:Int)=true:=by
  unfold Ln.bY
  rw [L.rH,decide_eq_true (by omega),Int.toNat_natCast,c]
  rfl
 show (if Ln.bY A.short (i:Int)=true then Ln.iq [A,B] A (rel i) else _)=_
 rw [if_pos e]
 unfold Ln.iq
 rw [L.mJ,yrl k h i hi,oq L h i hi,sV.2.1]
 unfold Ln.encZ
 rw [if_neg (by decide)]
 rfl
theorem zG (L:Laid k F s A B) (h:k < 20) (i:Nat) (hi:i < k) (c:s.getD i false=false):Ln.linked [A,B] A 1 (4 * ((1+2 * i:Nat):Int)) 151=(As.enc 2 1 0 0 (As.eP (F - (4096+4 * (Ln.cn (st s k) (1+2 * i):Int)))):Nat):=by
 unfold Ln.linked
 rw [L.mJ,uX k h (1+2 * i) (by omega) (by omega),show (1+2 * i - 1) / 2=i by omega]
 have e:Ln.bY A.short (i:Int)=false:=by
  unfold Ln.bY
  rw [L.rH,decide_eq_true (by omega),Int.toNat_natCast,c]
  rfl
 show (if Ln.bY A.short (i:Int)=true then _ else Ln.gu 151 (decide (4 * ((1+2 * i:Nat):Int)=4+8 * (i:Int))) (Ln.distance [A,B] A (rel i)))=_
 rw [e,if_neg (by decide),decide_eq_true (by omega),oq L h i hi]
 unfold Ln.gu
 rw [if_pos rfl,Ai]
theorem zH (L:Laid k F s A B) (h:k < 20) (i:Nat) (hi:i < k) (c:s.getD i false=false):Ln.linked [A,B] A 1 (4 * ((2+2 * i:Nat):Int)) 32999=(As.enc 4 1 1 0 (As.dI (F - (4096+4 * (Ln.cn (st s k) (1+2 * i):Int)))):Nat):=by
 unfold Ln.linked
 rw [L.mJ,uX k h (2+2 * i) (by omega) (by omega),show (2+2 * i - 1) / 2=i by omega]
 have e:Ln.bY A.short (i:Int)=false:=by
  unfold Ln.bY
  rw [L.rH,decide_eq_true (by omega),Int.toNat_natCast,c]
  rfl
 show (if Ln.bY A.short (i:Int)=true then _ else Ln.gu 32999 (decide (4 * ((2+2 * i:Nat):Int)=4+8 * (i:Int))) (Ln.distance [A,B] A (rel i)))=_
 rw [e,if_neg (by decide),decide_eq_false (by omega),oq L h i hi]
 unfold Ln.gu
 rw [if_neg (by decide),uR]
end
end Ca
namespace Ca
theorem Fz (k n:Nat):st [] k n=true:=by
 unfold st
 split
 ·rfl
 ·split <;> rfl
theorem Eu (k n:Nat):Ln.cn (st [] k) n=n:=by
 have e:st [] k=fun _=>true:=funext fun n=>Fz k n
 rw [e,y9]
theorem uL (ms:List Ln.Mod) (m:Ln.Mod) (i:Nat):∀ l:List Nat,Ln.eU ms m i (l.map rel)=none:=by
 intro l
 induction l with
 | nil=>rfl
 | cons x l ih =>
  show (if Ln.fV 4 (Ln.distance ms m (rel x))=true then Ln.eU ms m i (l.map rel) else _)=none
  rw [if_pos (show Ln.fV 4 (Ln.distance ms m (rel x))=true from rfl),ih]
def img (F:Int) (T:List Int):Im.dK:=⟨4096,4096,F,16777216,T,[1377555,32871],[],0⟩
theorem Cw (k:Nat) (h:k < 20) (F:Int) (h0:8192<=F) (h1:F<=4194304) (h2:F % 16=0):∃ (s:List Bool) (A B:Ln.Mod),Laid k F s A B/\(∀ i,i < k->s.getD i false=decide (F - 4100 - 8 * (i:Int) < 1015808)) /\
  Ln.bZ (obs k) 4096 F 16777216=[A,B]/\Ln.eG (obs k) 4096 F 16777216=img F (Ln.aI [A,B] A 1 0 (ws k)):=by
 obtain ⟨⟨t1,t2,t3,t4,t5⟩,-⟩:=HY k h
 obtain ⟨⟨u1,u2,u3,u4,u5⟩,-⟩:=Hz
 obtain ⟨-,n1,n2,n3⟩:=WZ k h
 obtain ⟨A1,B1,e1,L1⟩:=vk k h F (by omega) (by omega) (by omega) (Ln.jc (obs k) 0 (Ln.bare (cu k))) (Ln.jc (obs k) 1 (Ln.bare kG)) rfl rfl rfl
 have Sr:Ln.lay 4096 F 16777216 (Ln.bO (obs k) ((obs k).map Ln.bare))=[A1,B1]:=e1
 have es:Ln.shorten [A1,B1]=[{ A1 with short:=A1.obj.aj.map (Ln.bn [A1,B1] A1) },{ B1 with short:=B1.obj.aj.map (Ln.bn [A1,B1] B1) }]:=rfl
 obtain ⟨A,B,e2,L⟩:=vk k h F (by omega) (by omega) (by omega) { A1 with short:=A1.obj.aj.map (Ln.bn [A1,B1] A1) } { B1 with short:=B1.obj.aj.map (Ln.bn [A1,B1] B1) } L1.mJ L1.zL L1.iY
 have em:Ln.bZ (obs k) 4096 F 16777216=[A,B]:=by
  unfold Ln.bZ Ln.layout
  rw [Sr,es,e2]
 refine ⟨_,A,B,L,fun i hi=>?_,em,?_⟩
 ·show (A1.obj.aj.map (Ln.bn [A1,B1] A1)).getD i false=_
  rw [L1.mJ,vI k h,List.map_map,jY,List.getElem?_map,List.getElem?_range hi]
  show (decide ((4:Int)=4) && (decide (-1015808 < Ln.distance [A1,B1] A1 (rel i)) && decide (Ln.distance [A1,B1] A1 (rel i) < 1015808)))=_
  have sA:A1.short=[]:=L1.rH
  have dd:=oq L1 h i hi
  have c0:Ln.cn (st (Ln.jc (obs k) 0 (Ln.bare (cu k))).short k) (1+2 * i)=1+2 * i:=Eu k (1+2 * i)
  rw [c0] at dd
  have de:Ln.distance [A1,B1] A1 (rel i)=F - 4100 - 8 * (i:Int):=by rw [dd]; omega
  rw [de,decide_eq_true rfl,Bool.true_and,decide_eq_true (show -1015808 < F - 4100 - 8 * (i:Int) by omega),Bool.true_and]
 ·have b3:Ln.aF (cu k) 3=4:=ig t5 3 (by omega)
  have b4:Ln.aF (cu k) 4=4:=ig t5 4 (by omega)
  have f3:Ln.aF kG 3=4:=ig u5 3 (by omega)
  have f4:Ln.aF kG 4=4:=ig u5 4 (by omega)
  have r3:Ln.rup 16777216 4=16777216:=Ln.kM 16777216 (by omega) (by omega) (by omega)
  have nn:Ln.noughts 16777216 (Ln.shorten (Ln.lay 4096 F 16777216 (Ln.bO (obs k) ((obs k).map Ln.bare))))=0:=by
   rw [Sr,es]
   unfold Ln.noughts
   have de:Ln.bX [{ A1 with short:=A1.obj.aj.map (Ln.bn [A1,B1] A1) },{ B1 with short:=B1.obj.aj.map (Ln.bn [A1,B1] B1) }] 16777216=16777216:=by
    show Ln.rup (Ln.rup 16777216 (Ln.aF A1.obj 3)+4 * (A1.obj.data.length:Int)) (Ln.aF B1.obj 3)+4 * (B1.obj.data.length:Int)=_
    rw [L1.mJ,L1.iY,b3,f3,t3,u3,r3]
    show Ln.rup (16777216+4 * ((0:Nat):Int)) 4+4 * ((0:Nat):Int)=_
    rw [show (16777216:Int)+4 * ((0:Nat):Int)=16777216 by omega,r3]
    omega
   rw [de]
   have be:Ln.gN [{ A1 with short:=A1.obj.aj.map (Ln.bn [A1,B1] A1) },{ B1 with short:=B1.obj.aj.map (Ln.bn [A1,B1] B1) }] 16777216=16777216:=by
    show Ln.rup (Ln.rup 16777216 (Ln.aF A1.obj 4)+4 * A1.obj.bss) (Ln.aF B1.obj 4)+4 * B1.obj.bss=_
    rw [L1.mJ,L1.iY,b4,f4,t4,u4,r3,show (16777216:Int)+4 * 0=16777216 by omega,r3]
    omega
   rw [be]
   rfl
  have sp:Ln.bH [A,B] (Ln.named (obs k) Ln.dU)=4096:=by
   unfold Ln.bH
   rw [n1]
   show Ln.address A _ _=_
   rw [n2,n3]
   have:=jv L 0 (by omega)
   simpa [Ln.cn] using this
  unfold Ln.eG Ln.image img
  rw [em,sp,nn,pE L h,wU L h,tF L h]
end Ca
namespace Sy
inductive E where
 | c (i:Int)
 | p (k:Nat)
 | a (x y:E)
def ev (ins:List Int):E->Int
 | .c i=>i
 | .p k=>Mc.wd (ins.getD k 0)
 | .a x y=>Mc.wd (ev ins x+ev ins y)
def con:E->Int
 | .c i=>i
 | .p _=>0
 | .a x y=>con x+con y
def lv:E->List Nat
 | .c _=>[]
 | .p k=>[k]
 | .a x y=>lv x ++ lv y
def num:E->Option Int
 | .c i=>some i
 | _=>none
theorem ko {e:E} {i:Int} (h:num e=some i) (ins:List Int):ev ins e=i:=by
 cases e <;> simp [num] at h
 exact h
def add (x y:E):E:=match num x,num y with
 | some i,some j=>.c (Mc.wd (i+j))
 | _,_=>.a x y
theorem xY (ins:List Int) (x y:E):ev ins (add x y)=Mc.wd (ev ins x+ev ins y):=by
 unfold add
 split
 ·next i j h1 h2=>rw [ko h1,ko h2]; rfl
 ·rfl
structure S where
 regs:List E
 pc:Int
 o:List E
 steps:Nat
 read:Nat
 fin:Bool
def reg (st:S) (n:Int):E:=st.regs.getD (n % 32).toNat (.c 0)
def set (n:Int) (v:E) (l:List E):List E:=if n % 32=0 then l else l.set (n % 32).toNat v
def doIt (len:Nat) (op rd au aC n:Int) (st:S):Option S :=
 if op=2 then some { st with regs:=set rd (.c (Mc.wd (n * 4096+st.pc))) st.regs,pc:=Mc.wd (st.pc+4) }
 else if op=3 then some { st with regs:=set rd (.c (Mc.wd (st.pc+4))) st.regs,pc:=Mc.wd (st.pc+n) }
 else if op=4 then
  match num (reg st au) with
  | some i=>some { st with regs:=set rd (.c (Mc.wd (st.pc+4))) st.regs,pc:=Mc.wd ((i+n) - (i+n) % 2) }
  | none=>none
 else if op=5 then
  match num (reg st au),num (reg st aC) with
  | some i,some j=>some { st with pc:=if i=j then Mc.wd (st.pc+n) else Mc.wd (st.pc+4) }
  | _,_=>none
 else if op=13 then some { st with regs:=set rd (add (reg st au) (.c (Mc.wd n))) st.regs,pc:=Mc.wd (st.pc+4) }
 else if op=18 then some { st with regs:=set rd (add (reg st au) (reg st aC)) st.regs,pc:=Mc.wd (st.pc+4) }
 else if op=25 then
  match num (reg st 17) with
  | some 0=>match num (reg st 10) with
   | some 0=>some { st with fin:=true,pc:=Mc.wd (st.pc+4) }
   | _=>none
  | some 1=>if 16<=st.o.length then none else some { st with o:=st.o ++ [reg st 10],pc:=Mc.wd (st.pc+4) }
  | some 2=>if len<=st.read then none else some { st with regs:=set 10 (.p st.read) st.regs,read:=st.read+1,pc:=Mc.wd (st.pc+4) }
  | _=>none
 else none
def step (m:Im.dK) (len:Nat) (st:S):Option S :=
 match Im.code m st.pc with
 | none=>none
 | some w=>doIt len (Mc.jq w) (fI (Mc.aK w) w) (bA (Mc.aK w) w) (jd (Mc.aK w) w) (Mc.iJ (Mc.aK w) w) { st with steps:=st.steps+1 }
def steps (m:Im.dK) (len:Nat):Nat->S->Option S
 | 0,st=>some st
 | k+1,st=>if st.fin then some st else match step m len st with
  | none=>none
  | some s=>steps m len k s
def start (m:Im.dK):S:=⟨List.replicate 32 (.c 0),m.start,[],0,0,false⟩
structure R (ins:List Int) (st:S) (s:Mc.St):Prop where
 regs:s.regs=st.regs.map (ev ins)
 pc:s.pc=st.pc
 o:s.o=st.o.map fun e=>Mc.sg (ev ins e)
 steps:s.steps=st.steps
 read:s.read=st.read
 dG:s.dG=if st.fin then 1 else 0
 code:s.code=0
theorem Fw {ins:List Int} {l:List E} {d:List Int} (h:d=l.map (ev ins)) (n:Int):d.getD (n % 32).toNat 0=ev ins (l.getD (n % 32).toNat (.c 0)):=by
 subst h
 rw [jY,jY,List.getElem?_map]
 cases l[(n % 32).toNat]? <;> rfl
theorem Fy {ins:List Int} {l:List E} {d:List Int} (h:d=l.map (ev ins)) (n:Int) (v:E):(if n % 32=0 then d else d.set (n % 32).toNat (ev ins v))=(set n v l).map (ev ins):=by
 subst h
 unfold set
 split
 ·rfl
 ·rw [List.map_set]
theorem zT (n v:Int) (s:Mc.St):(Mc.set n v s).regs=if n % 32=0 then s.regs else s.regs.set (n % 32).toNat (Mc.wd v):=by unfold Mc.set; split <;> rfl
theorem tq (n v:Int) (s:Mc.St):(Mc.set n v s).next=s.next/\(Mc.set n v s).o=s.o/\(Mc.set n v s).steps=s.steps/\(Mc.set n v s).read=s.read/\(Mc.set n v s).dG=s.dG/\(Mc.set n v s).code=s.code:=by unfold Mc.set; split <;> exact ⟨rfl,rfl,rfl,rfl,rfl,rfl⟩
theorem qB {ins:List Int} {st:S} {s:Mc.St} (h:R ins st s) (rd x q:Int) (v:E) (hv:ev ins v=Mc.wd x):R ins { st with regs:=set rd v st.regs,pc:=q } { Mc.set rd x s with pc:=q }:=by
 obtain ⟨-,e2,e3,e4,e5,e6⟩:=tq rd x s
 refine ⟨?_,rfl,e2.trans h.o,e3.trans h.steps,e4.trans h.read,e5.trans h.dG,e6.trans h.code⟩
 show (Mc.set rd x s).regs=_
 rw [zT,<- hv]
 exact Fy h.regs rd v
theorem IV {ins:List Int} {st:S} {s:Mc.St} (h:R ins st s) (q:Int):R ins { st with pc:=q } { s with pc:=q }:=⟨h.regs,rfl,h.o,h.steps,h.read,h.dG,h.code⟩
theorem Ew (m:Im.dK) {ins:List Int} {st st':S} {s:Mc.St} (op rd au aC n:Int) (h:R ins st s) (hn:s.next=Mc.wd (s.pc+4)) (hs:doIt ins.length op rd au aC n st=some st'):R ins st' { Mc.doIt m ins op rd au aC n s with pc:=(Mc.doIt m ins op rd au aC n s).next }:=by
 have hr:∀ k,Mc.reg s k=ev ins (reg st k):=fun k=>Fw h.regs k
 have hset:∀ rd x,(Mc.set rd x s).next=Mc.wd (st.pc+4):=fun rd x=>by rw [(tq rd x s).1,hn,h.pc]
 unfold doIt at hs
 split at hs
 ·next e =>
  subst e
  cases hs
  have q:=qB h rd (n * 4096+s.pc) (Mc.wd (st.pc+4)) (.c (Mc.wd (n * 4096+st.pc))) (by rw [h.pc]; rfl)
  have E:Mc.doIt m ins 2 rd au aC n s=Mc.set rd (n * 4096+s.pc) s:=rfl
  rw [E,hset]
  exact q
 split at hs
 ·next e =>
  subst e
  cases hs
  have q:=qB h rd (s.pc+4) (Mc.wd (st.pc+n)) (.c (Mc.wd (st.pc+4))) (by rw [h.pc]; rfl)
  have E:Mc.doIt m ins 3 rd au aC n s=Mc.jump rd (s.pc+n) s:=rfl
  rw [E]
  unfold Mc.jump
  rw [<- h.pc] at q ⊢
  exact ⟨q.regs,q.pc,q.o,q.steps,q.read,q.dG,q.code⟩
 split at hs
 ·next e =>
  subst e
  split at hs
  ·next i hi =>
   cases hs
   have e1:Mc.reg s au=i:=by rw [hr]; exact ko hi ins
   have q:=qB h rd (s.pc+4) (Mc.wd ((i+n) - (i+n) % 2)) (.c (Mc.wd (st.pc+4))) (by rw [h.pc]; rfl)
   have E:Mc.doIt m ins 4 rd au aC n s=Mc.jump rd ((Mc.reg s au+n) - (Mc.reg s au+n) % 2) s:=rfl
   rw [E,e1]
   unfold Mc.jump
   exact ⟨q.regs,q.pc,q.o,q.steps,q.read,q.dG,q.code⟩
  ·cases hs
 split at hs
 ·next e =>
  subst e
  split at hs
  ·next i j hi hj =>
   cases hs
   have e1:Mc.reg s au=i:=by rw [hr]; exact ko hi ins
   have e2:Mc.reg s aC=j:=by rw [hr]; exact ko hj ins
   have E:Mc.doIt m ins 5 rd au aC n s=Mc.branch (decide (Mc.reg s au=Mc.reg s aC)) n s:=rfl
   rw [E,e1,e2]
   unfold Mc.branch
   by_cases c:i=j
   ·rw [if_pos c,if_pos (by simpa using c),<- h.pc]
    have q:=IV h (Mc.wd (s.pc+n))
    exact ⟨q.regs,q.pc,q.o,q.steps,q.read,q.dG,q.code⟩
   ·rw [if_neg c,if_neg (by simpa using c),hn,<- h.pc]
    exact IV h _
  ·cases hs
 split at hs
 ·next e =>
  subst e
  cases hs
  have q:=qB h rd (Mc.reg s au+Mc.wd n) (Mc.wd (st.pc+4)) (add (reg st au) (.c (Mc.wd n))) (by rw [xY,hr]; rfl)
  have E:Mc.doIt m ins 13 rd au aC n s=Mc.set rd (Mc.reg s au+Mc.wd n) s:=rfl
  rw [E,hset]
  exact q
 split at hs
 ·next e =>
  subst e
  cases hs
  have q:=qB h rd (Mc.reg s au+Mc.reg s aC) (Mc.wd (st.pc+4)) (add (reg st au) (reg st aC)) (by rw [xY,hr,hr])
  have E:Mc.doIt m ins 18 rd au aC n s=Mc.set rd (Mc.reg s au+Mc.reg s aC) s:=rfl
  rw [E,hset]
  exact q
 split at hs
 ·next e =>
  subst e
  have E:Mc.doIt m ins 25 rd au aC n s=Mc.call ins s:=rfl
  rw [E]
  unfold Mc.call
  split at hs
  ·next hi =>
   have e1:Mc.reg s 17=0:=by rw [hr]; exact ko hi ins
   split at hs
   ·next hj =>
    cases hs
    have e2:Mc.reg s 10=0:=by rw [hr]; exact ko hj ins
    rw [if_pos e1,e2]
    exact ⟨h.regs,by show s.next=_; rw [hn,h.pc],h.o,h.steps,h.read,rfl,rfl⟩
   ·cases hs
  ·next hi =>
   have e1:Mc.reg s 17=1:=by rw [hr]; exact ko hi ins
   split at hs
   ·cases hs
   ·next hl =>
    cases hs
    rw [if_neg (by rw [e1]; decide),if_pos e1,if_neg (by rw [h.o,pX]; exact hl)]
    refine ⟨h.regs,by show s.next=_; rw [hn,h.pc],?_,h.steps,h.read,h.dG,h.code⟩
    show s.o ++ [Mc.sg (Mc.reg s 10)]=_
    rw [List.map_append,h.o,hr]
    rfl
  ·next hi =>
   have e1:Mc.reg s 17=2:=by rw [hr]; exact ko hi ins
   split at hs
   ·cases hs
   ·next hl =>
    cases hs
    rw [if_neg (by rw [e1]; decide),if_neg (by rw [e1]; decide),if_pos e1,if_neg (by rw [h.read]; exact hl)]
    have q:=qB h 10 (ins.getD s.read 0) (Mc.wd (st.pc+4)) (.p st.read) (by rw [h.read]; rfl)
    exact ⟨q.regs,hset 10 (ins.getD s.read 0),q.o,q.steps,by show s.read+1=_; rw [h.read],q.dG,q.code⟩
  ·cases hs
 ·cases hs
theorem FC (m:Im.dK) {ins:List Int} {st st':S} {s:Mc.St} (h:R ins st s) (hs:step m ins.length st=some st'):R ins st' (Mc.step m ins s):=by
 unfold step at hs
 unfold Mc.step
 rw [h.pc]
 split at hs
 ·cases hs
 ·next w hw =>
  rw [hw]
  exact Ew m _ _ _ _ _ (st:={ st with steps:=st.steps+1 }) (s:={ s with pc:=st.pc,steps:=s.steps+1,next:=Mc.wd (st.pc+4) }) ⟨h.regs,rfl,h.o,congrArg (· + 1) h.steps,h.read,h.dG,h.code⟩ rfl hs
theorem Py (m:Im.dK) (len:Nat) {st st':S} (hs:step m len st=some st'):st'.steps=st.steps+1:=by
 unfold step at hs
 split at hs
 ·cases hs
 ·unfold doIt at hs
  repeat' split at hs
  all_goals first | (cases hs; rfl) | cases hs
theorem CW (m:Im.dK) (ins:List Int) (fuel k:Nat):∀ (j:Nat) (st st':S) (s:Mc.St),R ins st s->steps m ins.length j st=some st'->st'.fin=true->j<=k->st.steps+j<=fuel->R ins st' (Mc.steps m ins fuel k s):=by
 induction k with
 | zero =>
  intro j st st' s h hs hf hj _
  obtain rfl:j=0:=by omega
  unfold steps at hs
  cases hs
  exact h
 | succ k ih =>
  intro j st st' s h hs hf hj hl
  unfold Mc.steps
  cases j with
  | zero =>
   unfold steps at hs
   cases hs
   have e:=h.dG
   rw [hf,if_pos rfl] at e
   rw [if_neg (by rw [e]; intro c; exact absurd c.1 (by decide))]
   exact h
  | succ j =>
   unfold steps at hs
   have e:=h.dG
   by_cases c:st.fin=true
   ·rw [if_pos c] at hs e
    cases hs
    rw [if_neg (by rw [e]; intro c; exact absurd c.1 (by decide))]
    exact h
   ·rw [if_neg c] at hs e
    rw [if_pos ⟨e,by rw [h.steps]; omega⟩]
    split at hs
    ·cases hs
    ·next t ht =>
     have:=Py m _ ht
     exact ih j t st' _ (FC m h ht) hs hf (by omega) (by omega)
theorem CV (m:Im.dK) (ins:List Int):R ins (start m) (Mc.start m):=⟨by unfold start Mc.start; rw [List.map_replicate]; rfl,rfl,rfl,rfl,rfl,rfl,rfl⟩
theorem JK (m:Im.dK) (ins:List Int) (st:S) (hs:steps m ins.length 200 (start m)=some st) (hf:st.fin=true):R ins st (Mc.run m ins 5000)/\(Mc.run m ins 5000).dG=1:=by
 have q:=CW m ins 5000 5000 200 (start m) st (Mc.start m) (CV m ins) hs hf (by omega) (by show 0+200<=5000; omega)
 have e:=q.dG
 rw [hf,if_pos rfl] at e
 unfold Mc.run
 simp only
 rw [if_neg (by rw [e]; decide)]
 exact ⟨q,e⟩
def Sums (os:List Lk.Obj) (bt bf bd:Int) (n:Nat):Prop :=
 Ko (Ln.eH os bt bf bd).2 0 0 []/\Im.jG (Ln.eH os bt bf bd).1 /\
  match steps (Im.dV (Ln.eH os bt bf bd).1) n 200 (start (Im.dV (Ln.eH os bt bf bd).1)) with
  | none=>False
  | some st=>st.fin=true/\st.read=n/\st.o.map lv=[List.range n]/\st.o.map con=[0]
instance (os:List Lk.Obj) (bt bf bd:Int) (n:Nat):Decidable (Sums os bt bf bd n):=by
 unfold Sums
 have:∀ o:Option S,Decidable (match o with | none=>False | some st=>st.fin=true/\st.read=n/\st.o.map lv=[List.range n]/\st.o.map con=[0]):=fun o=>by cases o <;> infer_instance
 infer_instance
end Sy
namespace Su
def KY (n:Nat):List UInt8:=if n < 10 then [UInt8.ofNat (48+n)] else [UInt8.ofNat (48+n / 10),UInt8.ofNat (48+n % 10)]
def main (n:Nat):List UInt8:=[46,103,108,111,98,108,32,95,115,116,97,114,116,10,95,115,116,97,114,116,58,32,108,105,32,120,49,49,44] ++ KY n ++ [10,99,97,108,108,32,115,117,109,10,108,105,32,120,49,55,44,49,10,101,99,97,108,108,10,108,105,32,120,49,48,44,48,10,108,105,32,120,49,55,44,48,10,101,99,97,108,108,10]
def loop:List UInt8:=[46,102,97,114,10,46,103,108,111,98,108,32,115,117,109,10,115,117,109,58,32,108,105,32,120,49,50,44,48,10,108,105,32,120,49,55,44,50,10,103,58,32,98,101,113,32,120,49,49,44,120,48,44,111,117,116,10,101,99,97,108,108,10,97,100,100,32,120,49,50,44,120,49,50,44,120,49,48,10,97,100,100,105,32,120,49,49,44,120,49,49,44,45,49,10,106,32,103,10,111,117,116,58,32,109,118,32,120,49,48,44,120,49,50,10,114,101,116,10]
def cu (n:Nat):Lk.Obj:=(As.assemble (main n)).2
end Su
namespace Ca
theorem okB {t:List UInt8} (h:Kr t=true):Kn t:=by
 unfold Kr at h
 simp only [Bool.and_eq_true,decide_eq_true_eq] at h
 exact ⟨h.1,yni h.2⟩
theorem Ac (k:Nat):Ln.bD [(false,[cu k]),(false,[kG])]=obs k:=rfl
structure Linked (k:Nat) (F:Int) (s:List Bool) (A B:Ln.Mod) (T:List Int):Prop where
 laid:Laid k F s A B
 short:∀ i,i < k->s.getD i false=decide (F - 4100 - 8 * (i:Int) < 1015808)
 text:T=Ln.aI [A,B] A 1 0 (ws k)
 len:T.length=Ln.cn (st s k) (2 * k+6)
 link:Ln.eH (obs k) 4096 F 16777216=(Im.bytes (img F T),Ln.ok)
 Jy:Im.jG (Im.bytes (img F T))
 same:Im.dV (Im.bytes (img F T))=img F T
 size:(Im.bytes (img F T)).length=26+4 * (T.length+2)
theorem wJ (k:Nat) (h:k < 20) (F:Int) (h0:8192<=F) (h1:F<=4194304) (h2:F % 16=0):∃ s A B T,Linked k F s A B T:=by
 obtain ⟨s,A,B,L,hs,em,ei⟩:=Cw k h F h0 h1 h2
 obtain ⟨T,hT⟩:∃ T,T=Ln.aI [A,B] A 1 0 (ws k):=⟨_,rfl⟩
 rw [<- hT] at ei
 have q:=Ln.kK [A,B] A 1 (st s k) 4096 (ws k) 0 (fun n hn=>by rw [Nat.zero_add]; exact jv L n (by rw [iy] at hn; exact hn))
 have len:=q.1
 rw [iy,Nat.zero_add,show Ln.cn (st s k) 0=0 from rfl,Nat.sub_zero,<- hT] at len
 have cl:=Ln.qD (st s k) (2 * k+6)
 have c6:6<=Ln.cn (st s k) (2 * k+6):=by
  have e:∀ r,r < 6->st s k (2 * k+r)=true\/r=0:=fun r hr=>by
   by_cases c:r=0
   ·exact .inr c
   ·left; unfold st; rw [if_pos (by omega)]
  have c1:1<=Ln.cn (st s k) (2 * k+1):=by
   have:=Ln.qP (st s k) 1 (2 * k)
   rw [show 1+2 * k=2 * k+1 by omega] at this
   have z:Ln.cn (st s k) 1=1:=by
    show 0+(if st s k 0=true then 1 else 0)=1
    rw [show st s k 0=true by unfold st; rw [if_pos (by omega)]]
    rfl
   omega
  have up:∀ r,1<=r->r < 6->Ln.cn (st s k) (2 * k+(r+1))=Ln.cn (st s k) (2 * k+r)+1:=fun r hr hr2=>by
   show Ln.cn (st s k) (2 * k+r)+(if st s k (2 * k+r)=true then 1 else 0)=_
   rcases e r hr2 with c | c
   ·rw [c]; rfl
   ·omega
  have u1:Ln.cn (st s k) (2 * k+2)=Ln.cn (st s k) (2 * k+1)+1:=up 1 (by omega) (by omega)
  have u2:Ln.cn (st s k) (2 * k+3)=Ln.cn (st s k) (2 * k+2)+1:=up 2 (by omega) (by omega)
  have u3:Ln.cn (st s k) (2 * k+4)=Ln.cn (st s k) (2 * k+3)+1:=up 3 (by omega) (by omega)
  have u4:Ln.cn (st s k) (2 * k+5)=Ln.cn (st s k) (2 * k+4)+1:=up 4 (by omega) (by omega)
  have u5:Ln.cn (st s k) (2 * k+6)=Ln.cn (st s k) (2 * k+5)+1:=up 5 (by omega) (by omega)
  omega
 have va:yw (cu k):=(okB (Qg k h)).2
 have vb:yw kG:=(okB Qf).2
 have w32:=(Us (ms:=[A,B]) (Ln.named (obs k) Ln.dU) 4096 F 16777216 0 (by
  intro m hm
  simp only [List.mem_cons,List.not_mem_nil,or_false] at hm
  rcases hm with rfl | rfl
  ·rw [L.mJ]; exact va
  ·rw [L.iY]; exact vb)).1
 have wT:qc T:=by
  have e:(Ln.image [A,B] (Ln.named (obs k) Ln.dU) 4096 F 16777216 0).T=T:=by
   show Ln.region [A,B] 1 4096 19 [A,B] []=T
   rw [pE L h,hT]
  rw [e] at w32
  exact w32
 have fit:Im.Fit (img F T):=⟨⟨by show (0:Int)<=4096; omega,by show (4096:Int) < 4294967296; omega⟩,⟨by show (0:Int)<=4096; omega,by show (4096:Int) < 4294967296; omega⟩,⟨by show 0<=F; omega,by show F < 4294967296; omega⟩,⟨by show (0:Int)<=16777216; omega,by show (16777216:Int) < 4294967296; omega⟩,
  by show T.length<=65535; omega,by show 2<=65535; omega,by show 0<=65535; omega,⟨by show (0:Int)<=0; omega,by show (0:Int)<=65535; omega⟩,
  fun x hx=>by have:=wT x hx; omega,fun x hx=>by
   simp only [img,List.mem_cons,List.not_mem_nil,or_false] at hx
   rcases hx with rfl | rfl <;> omega,fun x hx=>by simp [img] at hx⟩
 obtain ⟨b1,b2,b3,b4⟩:=Im.uh (img F T) fit
 have tl:(T.length:Int)<=44:=by omega
 have ok:Im.lK (img F T):=by
  unfold Im.lK Im.Base Im.jM Im.In img
  simp only [iE,List.length_nil]
  refine ⟨⟨by omega,by omega,by omega⟩,⟨by omega,by omega,by omega⟩,⟨by omega,by omega,by omega⟩,.inl ⟨by omega,by omega,by omega⟩⟩
 have fits:Im.Fits (img F T):=by
  unfold Im.Fits Im.mH Im.mG Im.mF Im.jM img
  simp only [iE,List.length_nil]
  refine ⟨⟨by omega,by omega,by omega⟩,⟨by omega,by omega,by omega⟩⟩
 have reach:Ln.dL [A,B]=Ln.ok:=by
  have r1:Ln.eU [A,B] A 0 A.obj.aj=none:=by rw [L.mJ,vI k h]; exact uL _ _ _ _
  have r2:Ln.eU [A,B] B 1 B.obj.aj=none:=by rw [L.iY,qZ]; rfl
  show (match Ln.eU [A,B] A 0 A.obj.aj with | some f=>f | none=>(match Ln.eU [A,B] B 1 B.obj.aj with | some f=>f | none=>Ln.ok))=Ln.ok
  rw [r1,r2]
 have cs:(Im.code (img F T) (img F T).start).isSome=true:=by
  have p:Im.place 4096 T.length 4096=0:=by
   unfold Im.place
   rw [if_pos ⟨by omega,by omega,by omega⟩]
   rfl
  unfold Im.code
  show (if 0<=Im.place 4096 T.length 4096 then some _ else _).isSome=true
  rw [p]
  rfl
 have pf:Ln.bP (img F T) [A,B]=Ln.ok:=by
  unfold Ln.bP
  rw [if_neg (by simpa using fits),reach,if_neg (by show ¬ (0:Int)≠0; simp),if_pos cs]
 refine ⟨s,A,B,T,L,hs,hT,len,?_,⟨b3,b2,by rw [b1]; exact ok⟩,b1,b4⟩
 unfold Ln.eH
 rw [if_neg (by rw [(WZ k h).1]; simp),em,ei,pf,if_neg (by show ¬ (0:Int)≠0; simp)]
theorem DN:∀ k,k < 20->(∀ i,i < k->(ws k)[1+2 * i]?=some 151/\(ws k)[2+2 * i]?=some 32999)/\(ws k)[0]?=some 1299/\(ws k)[2 * k+1]?=some 1050771/\(ws k)[2 * k+2]?=some 115/\(ws k)[2 * k+3]?=some 1299/\(ws k)[2 * k+4]?=some 2195/\(ws k)[2 * k+5]?=some 115:=by decide +kernel
section
variable {k:Nat} {F:Int} {s:List Bool} {A B:Ln.Mod} {T:List Int}
theorem jH (L:Linked k F s A B T) (n:Nat) (hn:n < 2 * k+6) (w:Int) (hw:(ws k)[n]?=some w) (c:st s k n=true):Im.code (img F T) (4096+4 * (Ln.cn (st s k) n:Int))=some (Ln.linked [A,B] A 1 (4 * (n:Int)) w):=by
 have q:=Ln.kK [A,B] A 1 (st s k) 4096 (ws k) 0 (fun n hn=>by rw [Nat.zero_add]; exact jv L.laid n (by rw [iy] at hn; exact hn))
 have hl:n < (ws k).length:=by rw [iy]; exact hn
 have q2:=q.2 n hl (by rw [Nat.zero_add]; exact c)
 rw [Nat.zero_add,show Ln.cn (st s k) 0=0 from rfl,Nat.sub_zero,<- L.text] at q2
 have e:(ws k)[n]=w:=by rw [jF hl] at hw; exact Option.some.inj hw
 rw [e] at q2
 have lt:Ln.cn (st s k) n < T.length:=by
  have:=List.getElem?_eq_some_iff.1 q2
  exact this.1
 have p:Im.place 4096 T.length (4096+4 * (Ln.cn (st s k) n:Int))=(Ln.cn (st s k) n:Int):=by
  unfold Im.place
  rw [if_pos ⟨by omega,by omega,by omega⟩]
  omega
 unfold Im.code
 show (if 0<=Im.place 4096 T.length (4096+4 * (Ln.cn (st s k) n:Int)) then some (T.getD (Im.place 4096 T.length (4096+4 * (Ln.cn (st s k) n:Int))).toNat 0) else _)=_
 rw [p,if_pos (by omega),Int.toNat_natCast,jY,q2]
 rfl
theorem ze (L:Linked k F s A B T) (h:k < 20) (h0:8192<=F):Im.code (img F T) F=some 1377555/\Im.code (img F T) (F+4)=some 32871:=by
 have cl:=Ln.qD (st s k) (2 * k+6)
 have tl:=L.len
 have p1:Im.place 4096 T.length F = -1:=by unfold Im.place; rw [if_neg (by omega)]
 have p2:Im.place 4096 T.length (F+4) = -1:=by unfold Im.place; rw [if_neg (by omega)]
 have p3:Im.place F 2 F=0:=by unfold Im.place; rw [if_pos ⟨by omega,by omega,by omega⟩]; omega
 have p4:Im.place F 2 (F+4)=1:=by unfold Im.place; rw [if_pos ⟨by omega,by omega,by omega⟩]; omega
 constructor
 ·unfold Im.code
  show (if 0<=Im.place 4096 T.length F then _ else if 0<=Im.place F 2 F then some (([1377555,32871]:List Int).getD (Im.place F 2 F).toNat 0) else none)=_
  rw [p1,p3]
  rfl
 ·unfold Im.code
  show (if 0<=Im.place 4096 T.length (F+4) then _ else if 0<=Im.place F 2 (F+4) then some (([1377555,32871]:List Int).getD (Im.place F 2 (F+4)).toNat 0) else none)=_
  rw [p2,p4]
  rfl
end
end Ca
namespace Sy
theorem fE {m:Im.dK} {len:Nat} {s s':S} (h:step m len s=some s') (hf:s.fin=false) (N:Nat):steps m len (N+1) s=steps m len N s':=by
 show (if s.fin=true then some s else match step m len s with | none=>none | some x=>steps m len N x)=_
 rw [hf,h]
 rfl
theorem wP {m:Im.dK} {len:Nat} {s:S} (hf:s.fin=true) (N:Nat):steps m len N s=some s:=by
 cases N with
 | zero=>rfl
 | succ N =>
  show (if s.fin=true then some s else _)=_
  rw [if_pos hf]
theorem fD {m:Im.dK} {len:Nat} {s:S} {w:Int} {op:Nat} {rd au aC n:Int} (hc:Im.code m s.pc=some w) (hw:Mc.Says w op rd au aC n):step m len s=doIt len op rd au aC n { s with steps:=s.steps+1 }:=by
 unfold step
 rw [hc]
 simp only
 rw [hw.op,hw.rd,hw.au,hw.aC,hw.n]
def R3 (a b c:Int):List E:=[.c 0,.c a,.c 0,.c 0,.c 0,.c 0,.c 0,.c 0,.c 0,.c 0,.c b,.c 0,.c 0,.c 0,.c 0,.c 0,.c 0,.c c,.c 0,.c 0,.c 0,.c 0,.c 0,.c 0,.c 0,.c 0,.c 0,.c 0,.c 0,.c 0,.c 0,.c 0]
section
variable (a b c pc:Int) (o:List E) (s r:Nat)
theorem uZ (n:Int):doIt 0 ((13:Nat):Int) 10 0 0 n ⟨R3 a b c,pc,o,s,r,false⟩=some ⟨R3 a (Mc.wd (0+Mc.wd n)) c,Mc.wd (pc+4),o,s,r,false⟩:=rfl
theorem u6 (n:Int):doIt 0 ((13:Nat):Int) 17 0 0 n ⟨R3 a b c,pc,o,s,r,false⟩=some ⟨R3 a b (Mc.wd (0+Mc.wd n)),Mc.wd (pc+4),o,s,r,false⟩:=rfl
theorem Jj (n:Int):doIt 0 ((13:Nat):Int) 10 10 0 n ⟨R3 a b c,pc,o,s,r,false⟩=some ⟨R3 a (Mc.wd (b+Mc.wd n)) c,Mc.wd (pc+4),o,s,r,false⟩:=rfl
theorem um (n:Int):doIt 0 ((3:Nat):Int) ((1:Nat):Int) 0 0 n ⟨R3 a b c,pc,o,s,r,false⟩=some ⟨R3 (Mc.wd (pc+4)) b c,Mc.wd (pc+n),o,s,r,false⟩:=rfl
theorem oL (n:Int):doIt 0 ((2:Nat):Int) ((1:Nat):Int) 0 0 n ⟨R3 a b c,pc,o,s,r,false⟩=some ⟨R3 (Mc.wd (n * 4096+pc)) b c,Mc.wd (pc+4),o,s,r,false⟩:=rfl
theorem qU (n:Int):doIt 0 ((4:Nat):Int) ((1:Nat):Int) ((1:Nat):Int) 0 n ⟨R3 a b c,pc,o,s,r,false⟩=some ⟨R3 (Mc.wd (pc+4)) b c,Mc.wd ((a+n) - (a+n) % 2),o,s,r,false⟩:=rfl
theorem Ey:doIt 0 ((4:Nat):Int) 0 1 0 0 ⟨R3 a b c,pc,o,s,r,false⟩=some ⟨R3 a b c,Mc.wd ((a+0) - (a+0) % 2),o,s,r,false⟩:=rfl
theorem zi:doIt 0 ((25:Nat):Int) 0 0 0 0 ⟨R3 a b 1,pc,[],s,r,false⟩=some ⟨R3 a b 1,Mc.wd (pc+4),[.c b],s,r,false⟩:=rfl
theorem Cm:doIt 0 ((25:Nat):Int) 0 0 0 0 ⟨R3 a 0 0,pc,o,s,r,false⟩=some ⟨R3 a 0 0,Mc.wd (pc+4),o,s,r,true⟩:=rfl
end
end Sy
theorem MK (x:Int) (h0:0<=x) (h1:x < 4294967296):Mc.wd x=x:=by unfold Mc.wd; omega
theorem Vi:Mc.Says 1299 13 10 0 0 0:=⟨by decide,by decide,by decide +kernel,by decide +kernel,by decide +kernel,by decide +kernel,by decide +kernel⟩
theorem ykv:Mc.Says 1377555 13 10 10 0 1:=⟨by decide,by decide,by decide +kernel,by decide +kernel,by decide +kernel,by decide +kernel,by decide +kernel⟩
theorem ymY:Mc.Says 32871 4 0 1 0 0:=⟨by decide,by decide,by decide +kernel,by decide +kernel,by decide +kernel,by decide +kernel,by decide +kernel⟩
theorem ykt:Mc.Says 1050771 13 17 0 0 1:=⟨by decide,by decide,by decide +kernel,by decide +kernel,by decide +kernel,by decide +kernel,by decide +kernel⟩
theorem VY:Mc.Says 115 25 0 0 0 0:=⟨by decide,by decide,by decide +kernel,by decide +kernel,by decide +kernel,by decide +kernel,by decide +kernel⟩
theorem yox:Mc.Says 2195 13 17 0 0 0:=⟨by decide,by decide,by decide +kernel,by decide +kernel,by decide +kernel,by decide +kernel,by decide +kernel⟩
namespace Ca
theorem zX (s:List Bool) (k i:Nat):st s k (1+2 * i)=true:=by
 unfold st
 split
 ·rfl
 ·rw [if_pos (by omega)]
theorem vK (s:List Bool) (k i:Nat) (h:i < k):st s k (2+2 * i) = !(s.getD i false):=by
 unfold st
 rw [if_neg (by omega),if_neg (by omega),show (2+2 * i) / 2 - 1=i by omega]
theorem nG (s:List Bool) (k r:Nat) (h:1<=r):st s k (2 * k+r)=true:=by
 unfold st
 rw [if_pos (by omega)]
theorem oo (s:List Bool) (k i:Nat) (h:i < k):Ln.cn (st s k) (2+2 * i)=Ln.cn (st s k) (1+2 * i)+1/\Ln.cn (st s k) (1+2 * (i+1))=Ln.cn (st s k) (1+2 * i)+1+if s.getD i false then 0 else 1:=by
 have e1:Ln.cn (st s k) (1+2 * i+1)=Ln.cn (st s k) (1+2 * i)+1:=by
  show Ln.cn (st s k) (1+2 * i)+(if st s k (1+2 * i)=true then 1 else 0)=_
  rw [zX]
  rfl
 have e2:Ln.cn (st s k) (2+2 * i+1)=Ln.cn (st s k) (2+2 * i)+if s.getD i false then 0 else 1:=by
  show Ln.cn (st s k) (2+2 * i)+(if st s k (2+2 * i)=true then 1 else 0)=_
  rw [vK s k i h]
  cases s.getD i false <;> rfl
 rw [show 1+2 * i+1=2+2 * i by omega] at e1
 rw [e1] at e2
 rw [show 1+2 * (i+1)=2+2 * i+1 by omega]
 exact ⟨e1,e2⟩
theorem mE (s:List Bool) (k:Nat):Ln.cn (st s k) 1=1:=by
 show 0+(if st s k 0=true then 1 else 0)=1
 rw [show st s k 0=true by unfold st; rw [if_pos (by omega)]]
 rfl
theorem uj (s:List Bool) (k:Nat):∀ i,i<=k->1+i<=Ln.cn (st s k) (1+2 * i):=by
 intro i
 induction i with
 | zero =>
  intro _
  show 1<=Ln.cn (st s k) 1
  rw [mE]
  exact Nat.le_refl _
 | succ i ih =>
  intro h
  have:=ih (by omega)
  have:=(oo s k i (by omega)).2
  omega
theorem j3 (s:List Bool) (k r:Nat) (h:1<=r):Ln.cn (st s k) (2 * k+(r+1))=Ln.cn (st s k) (2 * k+r)+1:=by
 show Ln.cn (st s k) (2 * k+r)+(if st s k (2 * k+r)=true then 1 else 0)=_
 rw [nG s k r h]
 rfl
section
variable {k:Nat} {F:Int} {s:List Bool} {A B:Ln.Mod} {T:List Int}
theorem qE (L:Linked k F s A B T) (h:k < 20) (h0:8192<=F) (h1:F<=4194304) (x i:Int) (hx:0<=x/\x < 4294967296/\x % 2=0) (hi:0<=i/\i < 1000) (q N:Nat) :
  Sy.steps (img F T) 0 (N+2) ⟨Sy.R3 x i 0,F,[],q,0,false⟩=Sy.steps (img F T) 0 N ⟨Sy.R3 x (i+1) 0,x,[],q+2,0,false⟩:=by
 obtain ⟨c1,c2⟩:=ze L h h0
 have s1:=(Sy.fD (len:=0) (s:=⟨Sy.R3 x i 0,F,[],q,0,false⟩) c1 ykv).trans (Sy.Jj x i 0 F [] (q+1) 0 1)
 rw [show Mc.wd (i+Mc.wd 1)=i+1 by unfold Mc.wd; omega,show Mc.wd (F+4)=F+4 from MK _ (by omega) (by omega)] at s1
 have s2:=(Sy.fD (len:=0) (s:=⟨Sy.R3 x (i+1) 0,F+4,[],q+1,0,false⟩) c2 ymY).trans (Sy.Ey x (i+1) 0 (F+4) [] (q+1+1) 0)
 rw [show Mc.wd ((x+0) - (x+0) % 2)=x by unfold Mc.wd; omega] at s2
 rw [show N+2=N+1+1 from rfl,Sy.fE s1 rfl,Sy.fE s2 rfl]
theorem OU (L:Linked k F s A B T) (h:k < 20) (h0:8192<=F) (h1:F<=4194304) (h2:F % 16=0) (i:Nat) (hi:i < k) (a:Int) (q:Nat) :
  ∃ n,n<=4/\∃ a' q',∀ N,Sy.steps (img F T) 0 (N+n) ⟨Sy.R3 a i 0,4096+4 * (Ln.cn (st s k) (1+2 * i):Int),[],q,0,false⟩=Sy.steps (img F T) 0 N ⟨Sy.R3 a' ((i+1:Nat):Int) 0,4096+4 * (Ln.cn (st s k) (1+2 * (i+1)):Int),[],q',0,false⟩:=by
 have lo:=uj s k i (by omega)
 have hi':=Ln.qD (st s k) (1+2 * i)
 obtain ⟨e1,e2⟩:=oo s k i hi
 obtain ⟨w1,w2⟩:=(DN k h).1 i hi
 have c1:=jH L (1+2 * i) (by omega) 151 w1 (zX s k i)
 have sh:=L.short i hi
 obtain ⟨p,hp⟩:∃ p:Int,4096+4 * (Ln.cn (st s k) (1+2 * i):Int)=p:=⟨_,rfl⟩
 by_cases b:s.getD i false=true
 ·rw [b] at e2 sh
  have d:=of_decide_eq_true sh.symm
  rw [zJ L.laid h i hi b] at c1
  rw [if_pos rfl] at e2
  have ep:4096+4 * (Ln.cn (st s k) (1+2 * (i+1)):Int)=p+4:=by rw [e2,<- hp]; omega
  rw [ep]
  rw [hp] at c1 ⊢
  have sy:=ypK 1 (F - p) (by omega) (by omega) (by omega) (by omega)
  have s1:=(Sy.fD (len:=0) (s:=⟨Sy.R3 a i 0,p,[],q,0,false⟩) c1 sy).trans (Sy.um a i 0 p [] (q+1) 0 (F - p))
  rw [show Mc.wd (p+4)=p+4 from MK _ (by omega) (by omega),show Mc.wd (p+(F - p))=F by unfold Mc.wd; omega] at s1
  refine ⟨3,by omega,p+4,q+1+2,fun N=>?_⟩
  rw [show N+3=N+2+1 from rfl,Sy.fE s1 rfl,qE L h h0 h1 (p+4) i ⟨by omega,by omega,by omega⟩ ⟨by omega,by omega⟩ (q+1) N]
  rfl
 ·have b':s.getD i false=false:=by simpa using b
  rw [b'] at e2 sh
  have c2:=jH L (2+2 * i) (by omega) 32999 w2 (by rw [vK s k i hi,b']; rfl)
  rw [zG L.laid h i hi b'] at c1
  rw [zH L.laid h i hi b',e1] at c2
  rw [if_neg (by decide)] at e2
  have ep:4096+4 * (Ln.cn (st s k) (1+2 * (i+1)):Int)=p+8:=by rw [e2,<- hp]; omega
  have Yd:4096+4 * ((Ln.cn (st s k) (1+2 * i)+1:Nat):Int)=p+4:=by rw [<- hp]; omega
  rw [ep]
  rw [Yd,hp] at c2
  rw [hp] at c1 ⊢
  have lw:-2048<=As.dI (F - p)/\As.dI (F - p) < 2048/\∃ z,F - p=4096 * z+As.dI (F - p):=by
   unfold As.dI
   split
   ·exact ⟨by omega,by omega,(F - p) / 4096,by omega⟩
   ·exact ⟨by omega,by omega,(F - p) / 4096+1,by omega⟩
  obtain ⟨l1,l2,z,hz⟩:=lw
  have hg:As.eP (F - p)=z % 1048576:=by
   unfold As.eP
   rw [show (F - p - As.dI (F - p)) / 4096=z by omega]
  rw [hg] at c1
  obtain ⟨lw,Yp⟩:∃ lw,As.dI (F - p)=lw:=⟨_,rfl⟩
  rw [Yp] at c2 l1 l2 hz
  have y1:=ymZ 1 (z % 1048576) (by omega)
  rw [show z % 1048576 % 1048576=z % 1048576 by omega] at y1
  have y2:=yoy 1 1 lw (by omega) (by omega) l1 l2
  have s1:=(Sy.fD (len:=0) (s:=⟨Sy.R3 a i 0,p,[],q,0,false⟩) c1 y1).trans (Sy.oL a i 0 p [] (q+1) 0 (z % 1048576))
  rw [show Mc.wd (p+4)=p+4 from MK _ (by omega) (by omega)] at s1
  obtain ⟨x,hx⟩:∃ x,Mc.wd (z % 1048576 * 4096+p)=x:=⟨_,rfl⟩
  rw [hx] at s1
  have s2:=(Sy.fD (len:=0) (s:=⟨Sy.R3 x i 0,p+4,[],q+1,0,false⟩) c2 y2).trans (Sy.qU x i 0 (p+4) [] (q+1+1) 0 lw)
  have t:Mc.wd ((x+lw) - (x+lw) % 2)=F:=by
   unfold Mc.wd at hx ⊢
   omega
  rw [show Mc.wd (p+4+4)=p+8 by unfold Mc.wd; omega,t] at s2
  refine ⟨4,by omega,p+8,q+1+1+2,fun N=>?_⟩
  rw [show N+4=N+2+1+1 from rfl,Sy.fE s1 rfl,Sy.fE s2 rfl,qE L h h0 h1 (p+8) i ⟨by omega,by omega,by omega⟩ ⟨by omega,by omega⟩ (q+1+1) N]
  rfl
theorem wo (L:Linked k F s A B T) (h:k < 20) (h0:8192<=F) (h1:F<=4194304) (h2:F % 16=0):∀ i,i<=k->∃ n,n<=4 * i/\∃ a q,∀ N,Sy.steps (img F T) 0 (N+n) ⟨Sy.R3 0 0 0,4100,[],1,0,false⟩=Sy.steps (img F T) 0 N ⟨Sy.R3 a (i:Int) 0,4096+4 * (Ln.cn (st s k) (1+2 * i):Int),[],q,0,false⟩:=by
 intro i
 induction i with
 | zero =>
  intro _
  refine ⟨0,by omega,0,1,fun N=>?_⟩
  rw [show 1+2 * 0=1 from rfl,mE]
  rfl
 | succ i ih =>
  intro hi
  obtain ⟨n,hn,a,q,hs⟩:=ih (by omega)
  obtain ⟨m,hm,a',q',hs'⟩:=OU L h h0 h1 h2 i (by omega) a q
  refine ⟨m+n,by omega,a',q',fun N=>?_⟩
  rw [show N+(m+n)=N+m+n by omega,hs (N+m),hs' N]
theorem Fx (L:Linked k F s A B T) (h:k < 20) (h0:8192<=F) (h1:F<=4194304) (h2:F % 16=0):∃ x:Sy.S,Sy.steps (img F T) 0 200 (Sy.start (img F T))=some x/\x.fin=true/\x.o=[.c (k:Int)]:=by
 obtain ⟨-,w0,w1,w2,w3,w4,w5⟩:=DN k h
 have lo:=uj s k k (by omega)
 have hi:=Ln.qD (st s k) (1+2 * k)
 have c0:=jH L 0 (by omega) 1299 w0 (by unfold st; rw [if_pos (by omega)])
 rw [zI L.laid h 0 (by omega) (by omega)] at c0
 have c1:=jH L (2 * k+1) (by omega) _ w1 (nG s k 1 (by omega))
 have c2:=jH L (2 * k+2) (by omega) _ w2 (nG s k 2 (by omega))
 have c3:=jH L (2 * k+3) (by omega) _ w3 (nG s k 3 (by omega))
 have c4:=jH L (2 * k+4) (by omega) _ w4 (nG s k 4 (by omega))
 have c5:=jH L (2 * k+5) (by omega) _ w5 (nG s k 5 (by omega))
 rw [zI L.laid h _ (by omega) (by omega)] at c1 c2 c3 c4 c5
 have u1:Ln.cn (st s k) (2 * k+2)=Ln.cn (st s k) (2 * k+1)+1:=j3 s k 1 (by omega)
 have u2:Ln.cn (st s k) (2 * k+3)=Ln.cn (st s k) (2 * k+2)+1:=j3 s k 2 (by omega)
 have u3:Ln.cn (st s k) (2 * k+4)=Ln.cn (st s k) (2 * k+3)+1:=j3 s k 3 (by omega)
 have u4:Ln.cn (st s k) (2 * k+5)=Ln.cn (st s k) (2 * k+4)+1:=j3 s k 4 (by omega)
 obtain ⟨n,hn,a,q,hs⟩:=wo L h h0 h1 h2 k (Nat.le_refl _)
 rw [show 1+2 * k=2 * k+1 by omega] at hs lo hi
 obtain ⟨p,hp⟩:∃ p:Int,4096+4 * (Ln.cn (st s k) (2 * k+1):Int)=p:=⟨_,rfl⟩
 have p2:4096+4 * (Ln.cn (st s k) (2 * k+2):Int)=p+4:=by omega
 have p3:4096+4 * (Ln.cn (st s k) (2 * k+3):Int)=p+8:=by omega
 have p4:4096+4 * (Ln.cn (st s k) (2 * k+4):Int)=p+12:=by omega
 have p5:4096+4 * (Ln.cn (st s k) (2 * k+5):Int)=p+16:=by omega
 rw [hp] at c1 hs
 rw [p2] at c2
 rw [p3] at c3
 rw [p4] at c4
 rw [p5] at c5
 have s0:=(Sy.fD (len:=0) (s:=⟨Sy.R3 0 0 0,4096,[],0,0,false⟩) (m:=img F T) c0 Vi).trans (Sy.uZ 0 0 0 4096 [] 1 0 0)
 rw [show Mc.wd (0+Mc.wd 0)=0 from rfl,show Mc.wd (4096+4)=4100 from rfl] at s0
 have s1:=(Sy.fD (len:=0) (s:=⟨Sy.R3 a k 0,p,[],q,0,false⟩) c1 ykt).trans (Sy.u6 a k 0 p [] (q+1) 0 1)
 rw [show Mc.wd (0+Mc.wd 1)=1 from rfl,show Mc.wd (p+4)=p+4 from MK _ (by omega) (by omega)] at s1
 have s2:=(Sy.fD (len:=0) (s:=⟨Sy.R3 a k 1,p+4,[],q+1,0,false⟩) c2 VY).trans (Sy.zi a k (p+4) (q+1+1) 0)
 rw [show Mc.wd (p+4+4)=p+8 by unfold Mc.wd; omega] at s2
 have s3:=(Sy.fD (len:=0) (s:=⟨Sy.R3 a k 1,p+8,[.c (k:Int)],q+1+1,0,false⟩) c3 Vi).trans (Sy.uZ a k 1 (p+8) [.c (k:Int)] (q+1+1+1) 0 0)
 rw [show Mc.wd (0+Mc.wd 0)=0 from rfl,show Mc.wd (p+8+4)=p+12 by unfold Mc.wd; omega] at s3
 have s4:=(Sy.fD (len:=0) (s:=⟨Sy.R3 a 0 1,p+12,[.c (k:Int)],q+1+1+1,0,false⟩) c4 yox).trans (Sy.u6 a 0 1 (p+12) [.c (k:Int)] (q+1+1+1+1) 0 0)
 rw [show Mc.wd (0+Mc.wd 0)=0 from rfl,show Mc.wd (p+12+4)=p+16 by unfold Mc.wd; omega] at s4
 have s5:=(Sy.fD (len:=0) (s:=⟨Sy.R3 a 0 0,p+16,[.c (k:Int)],q+1+1+1+1,0,false⟩) c5 VY).trans (Sy.Cm a (p+16) [.c (k:Int)] (q+1+1+1+1+1) 0)
 refine ⟨⟨Sy.R3 a 0 0,Mc.wd (p+16+4),[.c (k:Int)],q+1+1+1+1+1,0,true⟩,?_,rfl,rfl⟩
 show Sy.steps (img F T) 0 (199+1) ⟨Sy.R3 0 0 0,4096,[],0,0,false⟩=_
 rw [Sy.fE s0 rfl,show 199=(194 - n)+1+1+1+1+1+n by omega,hs,Sy.fE s1 rfl,Sy.fE s2 rfl,Sy.fE s3 rfl,Sy.fE s4 rfl,Sy.fE s5 rfl,Sy.wP rfl]
end
end Ca
namespace Ca
theorem za (s:List Bool) (k:Nat) (hs:∀ i,i < k->s.getD i false=true):∀ i,i<=k->Ln.cn (st s k) (1+2 * i)=1+i:=by
 intro i
 induction i with
 | zero=>intro _; exact mE s k
 | succ i ih =>
  intro h
  have e:=(oo s k i (by omega)).2
  rw [hs i (by omega),if_pos rfl,ih (by omega)] at e
  omega
theorem Ch (s:List Bool) (k:Nat) (hs:∀ i,i < k->s.getD i false=false):∀ i,i<=k->Ln.cn (st s k) (1+2 * i)=1+2 * i:=by
 intro i
 induction i with
 | zero=>intro _; exact mE s k
 | succ i ih =>
  intro h
  have e:=(oo s k i (by omega)).2
  rw [hs i (by omega),if_neg (by decide),ih (by omega)] at e
  omega
theorem wD (k:Nat) (h:k < 20) (F:Int) (h0:8192<=F) (h1:F<=4194304) (h2:F % 16=0) :
  Gg (Ln.bD [(false,[cu k]),(false,[kG])]) 4096 F 16777216 [] [(k:Int)] 0 /\
  ∃ g:Nat,g<=k/\(Ln.eH (Ln.bD [(false,[cu k]),(false,[kG])]) 4096 F 16777216).1.length=26+4 * (8+k+g)/\(F - 8192 < 524288->g=0)/\(1048576<=F - 8192->g=k):=by
 obtain ⟨s,A,B,T,L⟩:=wJ k h F h0 h1 h2
 obtain ⟨x,hx,hf,ho⟩:=Fx L h h0 h1 h2
 obtain ⟨q,e⟩:=Sy.JK (img F T) [] x hx hf
 unfold Gg
 rw [Ac,L.link]
 refine ⟨⟨⟨rfl,rfl,rfl⟩,?_⟩,Ln.cn (st s k) (1+2 * k) - 1 - k,?_,?_,fun c=>?_,fun c=>?_⟩
 ·show Im.jG (Im.bytes (img F T))/\(Mc.run (Im.dV (Im.bytes (img F T))) [] 5000).dG=1/\(Mc.run (Im.dV (Im.bytes (img F T))) [] 5000).code=0/\(Mc.run (Im.dV (Im.bytes (img F T))) [] 5000).o=[(k:Int)]
  rw [L.same]
  refine ⟨L.Jy,e,q.code,?_⟩
  rw [q.o,ho]
  show [Mc.sg (k:Int)]=_
  unfold Mc.sg
  rw [if_pos (by omega)]
 ·have:=Ln.qD (st s k) (1+2 * k)
  omega
 ·have lo:=uj s k k (Nat.le_refl _)
  have u1:Ln.cn (st s k) (2 * k+2)=Ln.cn (st s k) (2 * k+1)+1:=j3 s k 1 (by omega)
  have u2:Ln.cn (st s k) (2 * k+3)=Ln.cn (st s k) (2 * k+2)+1:=j3 s k 2 (by omega)
  have u3:Ln.cn (st s k) (2 * k+4)=Ln.cn (st s k) (2 * k+3)+1:=j3 s k 3 (by omega)
  have u4:Ln.cn (st s k) (2 * k+5)=Ln.cn (st s k) (2 * k+4)+1:=j3 s k 4 (by omega)
  have u5:Ln.cn (st s k) (2 * k+6)=Ln.cn (st s k) (2 * k+5)+1:=j3 s k 5 (by omega)
  show (Im.bytes (img F T)).length=_
  rw [L.size,L.len]
  rw [show 1+2 * k=2 * k+1 by omega] at lo ⊢
  omega
 ·have:=za s k (fun i hi=>by rw [L.short i hi]; exact decide_eq_true (by omega)) k (Nat.le_refl _)
  omega
 ·have:=Ch s k (fun i hi=>by rw [L.short i hi]; exact decide_eq_false (by omega)) k (Nat.le_refl _)
  omega
end Ca
namespace Ar
def KY (k:Nat):List UInt8:=[UInt8.ofNat (48+k)]
def Ox (k:Nat):List UInt8:=[102] ++ KY k
def text (n k:Nat):List UInt8 :=
 [46,103,108,111,98,108,32] ++ Ox k ++ [10] ++ Ox k ++ [58,32,97,100,100,105,32,120,49,48,44,120,49,48,44] ++ KY (k+1) ++ [10] ++ (if k+1 < n then [116,97,105,108,32] ++ Ox (k+1) ++ [10] else [114,101,116,10])
def last:List UInt8:=[46,103,108,111,98,108,32,111,116,104,101,114,10,46,103,108,111,98,108,32,95,115,116,97,114,116,10,95,115,116,97,114,116,58,10,111,116,104,101,114,58,32,108,105,32,120,49,55,44,48,10,101,99,97,108,108,10]
def main:List UInt8:=[46,103,108,111,98,108,32,95,115,116,97,114,116,10,95,115,116,97,114,116,58,32,108,105,32,120,49,48,44,48,10,99,97,108,108,32,102,48,10,108,105,32,120,49,55,44,49,10,101,99,97,108,108,10,108,105,32,120,49,48,44,48,10,108,105,32,120,49,55,44,48,10,101,99,97,108,108,10]
def texts (n:Nat):List (List UInt8):=(List.range n).map (text n) ++ [last]
def objs (n t:Nat):List Lk.Obj:=(List.range (n+1)).map fun k=>(As.assemble ((texts n).getD ((k+t) % (n+1)) [])).2
def cu:Lk.Obj:=(As.assemble main).2
end Ar
def WS (n t:Nat):Prop:=Gg (Ln.bD [(false,[Ar.cu]),(true,Ar.objs n t)]) 4096 65536 131072 [] [((n * (n+1) / 2:Nat):Int)] 0/\Qq (Ln.bD [(true,Ar.objs n t),(false,[Ar.cu])]) 4096 65536 131072 34 0 [102,48]
instance (n t:Nat):Decidable (WS n t):=by unfold WS; infer_instance
set_option maxRecDepth 100000 in
theorem ylx (ao bo:Option Addr) (ca cb:Nat) (xs:List Int) (w:World) (ha:yz w ao xs) (hb:yz w bo xs) (hl:xs.length<=65535) :
  Calls Tryz.prog 26 #[.slice ao xs.length ca,.slice bo xs.length cb] w fun e w'=>e = .returned (.bool true)/\w.grownBy w' none:=by
 have HA:=hid ha
 have HB:=hid hb
 clear ha hb
 go_enter Tryz.func26,Tryz.ntmps26
 go_wp2
 go_loopw [5] (fun i wr=>∃ k:Nat,k<=xs.length/\i = .int .i64 k/\w.grownBy wr none) (fun i _=>xs.length - (intOf i).toNat)
 case atStart=>exact ⟨0,Nat.zero_le _,rfl,World.grownBy.refl _ _⟩
 case round =>
  obtain ⟨k,hk,rfl,hgr⟩:=hrel
  have G:=hid hgr
  clear hgr
  by_cases hlt:k < xs.length
  ·have g1:(k:Int) < (xs.length:Int):=by omega
   obtain ⟨ga,oa,rfl,hca⟩:=HA.o (by omega)
   obtain ⟨gb,ob,rfl,hcb⟩:=HB.o (by omega)
   have c1:=yd (hca k hlt) G.o
   have c2:=yd (hcb k hlt) G.o
   generalize xs[k]=x at *
   have d1:(x == x)=true:=by simp
   have d2:(x != x)=false:=by simp
   clear hca hcb
   go_wp2
   go_quiet (fail)
   go_wp2
   go_roundw
   case rel=>exact ⟨k+1,by omega,by go_num,ye G.o _⟩
   case measure=>simp [intOf]; omega
  ·obtain rfl:k=xs.length:=by omega
   have g3:decide ((xs.length:Int) < (xs.length:Int))=false:=by simp
   go_wp2
   go_ret
   exact ⟨rfl,G.o⟩
set_option maxRecDepth 100000 in
theorem yoR (R:Nat) (ao bo:Option Addr) (ca cb:Nat) (xs:List Int) (code st rd:Int) (w:World) (hR:yc w R #[.int .i64 1,.int .i64 code,.slice ao xs.length ca,.int .i64 st,.int .i64 rd] 37) (ha:yz w ao xs) (hb:yz w bo xs) (hl:xs.length<=65535) :
  Calls Tryz.prog 19 #[.pointer (some ⟨R,0,none⟩),.slice bo xs.length cb,.int .i64 code] w fun e w'=>e = .returned (.bool true)/\w.grownBy w' none:=by
 have HR:=hid hR
 have c0:w.cell? ⟨R,0,none⟩=some (.int .i64 1):=hR.cell 0
 have c1:w.cell? ⟨R,1,none⟩=some (.int .i64 code):=hR.cell 1
 have c2:w.cell? ⟨R,2,none⟩=some (.slice ao xs.length ca):=hR.cell 2
 have cS:=hid (fun W (hg:w.grownBy W none)=>ylx ao bo ca cb xs W (ha.kept (fun a v e=>yd e hg)) (hb.kept (fun a v e=>yd e hg)) hl)
 clear ha hb hR
 go_enter Tryz.func19,Tryz.ntmps19
 go_wp2_with fail
 refine (cS.o _ (World.grownBy.refl _ _)).mono ?_
 rintro e V ⟨rfl,hg⟩
 have G:=hid hg
 have b0:=yd c0 hg
 have b1:=yd c1 hg
 have d1:(code == code)=true:=by simp
 clear hg cS c0 c1 c2
 go_wp2
 go_ret
 exact ⟨rfl,G.o⟩
theorem ype {W:World} {X:Nat} {t:TypeId} (xs:List Int) (h:yc W X (xs.map (Value.int .i64)).toArray t):yz W (some ⟨X,0,none⟩) xs:=fun _=>⟨X,0,rfl,fun i hi=>by
 rw [Nat.zero_add,h.cell i,bC,List.getElem?_map,jF hi]
 rfl⟩
theorem J7 (l:List UInt8) (p:Nat):0<=dA l p 4/\dA l p 4 < 4294967296:=by have:=PN l p 4; simpa using this
theorem ynM (l:List UInt8):Im.jo (Im.dV l):=by
 have h:=Im.Fj l
 have h2:=Im.jy l 24
 refine ⟨J7 l 2,J7 l 6,J7 l 10,J7 l 14,⟨?_,?_,?_⟩,?_⟩
 ·simp only [Im.dV,Im.gL]; omega
 ·simp only [Im.dV,Im.gL]; omega
 ·simp only [Im.dV,Im.gL]; omega
 ·simp only [Im.dV]; omega
theorem Qc (l:List UInt8) (p n i:Nat):0<=(Im.words l p n).getD i 0/\(Im.words l p n).getD i 0 < 4294967296:=by
 rw [jY]
 by_cases h:i < (Im.words l p n).length
 ·rw [jF h]
  have hm:(Im.words l p n)[i]∈(List.range n).map (fun i=>dA l (p+4 * i) 4):=gW h
  obtain ⟨j,-,hj⟩:=List.mem_map.1 hm
  rw [Option.getD_some,<- hj]
  exact J7 l _
 ·rw [List.getElem?_eq_none (by omega)]
  decide
set_option maxRecDepth 100000 in
theorem yph (bt bf bd:Int) (af:Option Addr) (cf:Nat) (fs:List (List UInt8)) (xs:List (Bool×List Lk.Obj)) (ai:Option Addr) (ci:Nat) (ins:List Int) (out:List Int) (code:Int) (w:World) (hin:Aw w af fs) (hsz:∀ f∈fs,f.length<=1048576) (hii:yz w ai ins) (hil:ins.length<=16) (ht:dz w) (h1:1<=fs.length) (h8:fs.length<=8) (hb:Im.Base bt/\Im.Base bf/\Im.Base bd) (hf:Ie fs xs) (hr:Gg (Ln.bD xs) bt bf bd ins out code) (hlen:(Ln.eH (Ln.bD xs) bt bf bd).1.length<=1048576) :
  Calls Tryz.prog 18 #[.slice af fs.length cf,.agg #[.int .i64 bt,.int .i64 bf,.int .i64 bd],.slice ai ins.length ci] w fun e w'=>(∃ (ao:Option Addr) (ca:Nat) (st:Int),e = .returned (.tuple #[.agg #[.int .i64 1,.int .i64 code,.slice ao out.length ca,.int .i64 st,.int .i64 (Mc.run (Im.dV (Ln.eH (Ln.bD xs) bt bf bd).1) ins 5000).read],.int .i64 ((Ln.eH (Ln.bD xs) bt bf bd).1.length:Nat),.bool true])/\∃ B,w'.ownsRow B 3 1 (.slice ao out.length ca) out.length (out.map (Value.int .i64)))/\w.grownBy w' none:=by
 have HT:=hid ht
 have HI:=hid hin
 have XH:=hid hii
 have cL:=hid (fun W (hg:w.grownBy W none)=>ynP bt bf bd af cf fs W (HI.o.kept hg) hsz (HT.o.grown hg) (by omega))
 have LF:=hid (fun e (h:Ga bt bf bd fs e)=>ymH h hb h1 h8 hf)
 obtain ⟨hr0,hr1,hr2,hr3,hr4⟩:=hr
 have EQ:Ln.eH (Ln.bD xs) bt bf bd=((Ln.eH (Ln.bD xs) bt bf bd).1,⟨0,0,[]⟩):=by
  obtain ⟨q1,q2,q3⟩:=hr0
  generalize Ln.eH (Ln.bD xs) bt bf bd=q at *
  obtain ⟨tb,f⟩:=q
  obtain ⟨x,y,z⟩:=f
  simp only at q1 q2 q3
  rw [q1,q2,q3]
 have EF:(Ln.eH (Ln.bD xs) bt bf bd).2=⟨0,0,[]⟩:=by rw [EQ]
 rw [EF] at LF
 generalize (Ln.eH (Ln.bD xs) bt bf bd).1=tb at *
 have HR1:=hid hr1
 have Rk:=hid (And.intro hr2 (And.intro hr3 hr4))
 have tsz:(bs tb).size=tb.length:=Ao tb
 have Sj:=hid (fun W=>ynL (bs tb) W (by omega))
 have SB:=Dj tb
 clear hin ht EF EQ hr0 hr1 hr2 hr3 hr4 hii hf
 have hs1:(w.alloc (.cells #[.int .i64 bt,.int .i64 bf,.int .i64 bd] 33)).heap.size=w.heap.size+1:=Array.size_push _
 have A1:=aH (w.alloc (.cells #[.int .i64 bt,.int .i64 bf,.int .i64 bd] 33)) (.cells #[.int .i64 0,.int .i64 0,.slice none 0 0,.int .i64 0,.int .i64 0] 37) none
 have G1:=hid (ya (aH w (.cells #[.int .i64 bt,.int .i64 bf,.int .i64 bd] 33) none) A1)
 have BR:=hid (yc.new (w.alloc (.cells #[.int .i64 bt,.int .i64 bf,.int .i64 bd] 33)) #[.int .i64 0,.int .i64 0,.slice none 0 0,.int .i64 0,.int .i64 0] 37)
 rw [hs1] at BR
 clear A1 hs1
 go_enter Tryz.func18,Tryz.ntmps18
 go_wp2_with fail
 generalize (w.alloc (.cells #[.int .i64 bt,.int .i64 bf,.int .i64 bd] 33)).alloc (.cells #[.int .i64 0,.int .i64 0,.slice none 0 0,.int .i64 0,.int .i64 0] 37)=W1 at *
 have Dw:w.heap.size<=w.heap.size+1:=by omega
 generalize w.heap.size+1=R at *
 refine (cL.o _ G1.o).mono ?_
 rintro e V1 ⟨hret,h2⟩
 obtain rfl:=LF.o e hret
 have A2:=aH V1 (.cells #[.int .i64 0,.int .i64 0,.string (bs [])] 45) none
 have G2:=hid (ya (ya G1.o h2) A2)
 have tL:=hid (BR.o.grown (ya h2 A2) (by simp))
 clear hret h2 A2 cL LF BR G1
 unfold fF
 dsimp only
 go_wp2_with fail
 generalize V1.alloc (.cells #[.int .i64 0,.int .i64 0,.string (bs [])] 45)=V2 at *
 refine (Sj.o _).mono ?_
 rintro e V3 ⟨hld,h3⟩
 have G3:=hid (ya G2.o h3)
 have rU:=hid (tL.o.grown h3 (by simp))
 clear h3 Sj tL G2
 unfold WV at hld
 rw [SB] at hld
 rcases hld with ⟨-,x,rfl,g,hx,hI⟩ | ⟨hno,-⟩
 case inr=>exact (hno HR1.o).elim
 have cR:=hid (yjS x g (Im.dV tb) ai ci ins 5000 V3 (hx.cell 0) hI (ynM tb) (fun i=>Qc _ _ _ i) ⟨fun i=>Qc _ _ _ i,fun i=>Qc _ _ _ i⟩ (XH.o.kept (fun a v e=>yd e G3.o)) (HT.o.grown G3.o))
 clear hx hI HR1 SB
 go_wp2_with fail
 refine cR.o.mono ?_
 rintro e V4 ⟨hrt,h4⟩
 rcases hrt with ⟨h,-⟩ | ⟨-,h,-⟩ | ⟨-,-,-,vo,rfl,ho⟩
 case inl=>omega
 case inr.inl=>omega
 have E5:(5000:Int).toNat=5000:=rfl
 rw [E5] at ho ⊢
 have IJ:=Rk.o
 generalize hs:Mc.run (Im.dV tb) ins 5000=s at *
 have HS:=hid hs
 clear hs
 obtain ⟨m1,m2,m3,m4,m5,m6,m7,m8,m9⟩:=s
 simp only at IJ ho ⊢
 obtain ⟨q1,q2,q3⟩:=IJ
 subst q1 q2 q3
 obtain ⟨ao,ca,rfl⟩:=yh ho
 have A5:=aH V4 (.cells #[.int .i64 1,.int .i64 m6,.slice ao m7.length ca,.int .i64 m8,.int .i64 m9] 37) none
 have G5:=hid (ya (ya G3.o h4) A5)
 have tY:=hid (rU.o.grown (ya h4 A5) (by simp))
 have BX:=hid (yc.new V4 #[.int .i64 1,.int .i64 m6,.slice ao m7.length ca,.int .i64 m8,.int .i64 m9] 37)
 have HO:=hid (ho.kept A5 (Decidable.em _))
 have hne:R≠V4.heap.size:=by have:=rU.o.lt; have:=h4.size; omega
 clear h4 ho A5 cR rU G3 Rk
 have z0:(V4.alloc (.cells #[.int .i64 1,.int .i64 m6,.slice ao m7.length ca,.int .i64 m8,.int .i64 m9] 37)).cell? ⟨R,0,none⟩=some (.int .i64 0):=tY.o.cell 0
 have z1:(V4.alloc (.cells #[.int .i64 1,.int .i64 m6,.slice ao m7.length ca,.int .i64 m8,.int .i64 m9] 37)).cell? ⟨R,1,none⟩=some (.int .i64 0):=tY.o.cell 1
 have z2:(V4.alloc (.cells #[.int .i64 1,.int .i64 m6,.slice ao m7.length ca,.int .i64 m8,.int .i64 m9] 37)).cell? ⟨R,2,none⟩=some (.slice none 0 0):=tY.o.cell 2
 have z3:(V4.alloc (.cells #[.int .i64 1,.int .i64 m6,.slice ao m7.length ca,.int .i64 m8,.int .i64 m9] 37)).cell? ⟨R,3,none⟩=some (.int .i64 0):=tY.o.cell 3
 have z4:(V4.alloc (.cells #[.int .i64 1,.int .i64 m6,.slice ao m7.length ca,.int .i64 m8,.int .i64 m9] 37)).cell? ⟨R,4,none⟩=some (.int .i64 0):=tY.o.cell 4
 have f0:=tY.o.free 0
 have f1:=tY.o.free 1
 have f2:=tY.o.free 2
 have f3:=tY.o.free 3
 have f4:=tY.o.free 4
 go_wp2
 have GS:=World.grownBy.trans (World.grownBy.trans (World.grownBy.trans (World.grownBy.trans (yf (V4.alloc (.cells #[.int .i64 1,.int .i64 m6,.slice ao m7.length ca,.int .i64 m8,.int .i64 m9] 37)) R 0 (.int .i64 1)) (yf _ R 1 (.int .i64 m6))) (yf _ R 2 (.slice ao m7.length ca))) (yf _ R 3 (.int .i64 m8))) (yf _ R 4 (.int .i64 m9))
 have OI:=yy HO.o GS (bI.blk tY.o) (by decide)
 have F:=((((tY.o.set 0 (.int .i64 1)).set 1 (.int .i64 m6)).set 2 (.slice ao m7.length ca)).set 3 (.int .i64 m8)).set 4 (.int .i64 m9)
 have h0:=F.cell 0
 have h1:=F.cell 1
 have h2:=F.cell 2
 have h3:=F.cell 3
 have h4:=F.cell 4
 simp only [fQ,fT,fP,bC,bG,bE] at h0 h1 h2 h3 h4
 refine bodyPost_ret (v:=.tuple #[.agg #[.int .i64 1,.int .i64 m6,.slice ao m7.length ca,.int .i64 m8,.int .i64 m9],.int .i64 (tb.length:Nat),.bool true]) ?_ rfl ⟨⟨ao,ca,m8,by rw [HS.o],_,OI⟩,Pb G5.o _ Dw _ _ _ _ _⟩
 clear F z0 z1 z2 z3 z4 f0 f1 f2 f3 f4 OI GS
 generalize World.setCell _ _ _=WF at *
 simp [results,Tryz.results18,go_sem,h0,h1,h2,h3,h4]
def pk (c:Int) (n:Nat):Nat:=if c < 0 then (-(c+1) % n).toNat else (c % n).toNat
theorem Xm (c:Int) (n:Nat) (hn:1<=n):pk c n < n:=by
 have a:=Int.emod_lt_of_pos (-(c+1)) (show (0:Int) < (n:Int) by omega)
 have b:=Int.emod_lt_of_pos c (show (0:Int) < (n:Int) by omega)
 unfold pk
 split <;> omega
set_option maxRecDepth 100000 in
theorem yoq (c:Int) (n:Nat) (w:World) (hn:1<=n) (hm:n<=100) (h0:-9223372036854775808<=c) (h1:c<=9223372036854775807) :
  Calls Tryz.prog 12 #[.int .i64 c,.int .i64 n] w fun e w'=>e = .returned (.int .i64 (pk c n))/\w'=w:=by
 have z1:((n:Int) == 0)=false:=by simp; omega
 have z2:(n:Int)≠0:=by omega
 by_cases hc:c < 0
 ·have d:decide (c < 0)=true:=by simpa using hc
  have e:-((c+1).tmod n)=((pk c n:Nat):Int):=by
   have p:=Int.emod_nonneg (-(c+1)) z2
   unfold pk
   rw [if_pos hc,<- Int.neg_tmod,Int.tmod_eq_emod_of_nonneg (by omega)]
   omega
  have E:=hid e
  clear e
  go_enter Tryz.func12,Tryz.ntmps12
  go_wp2
  go_ret
  exact ⟨yC E.o,rfl⟩
 ·have d:decide (c < 0)=false:=by simpa using hc
  have e:c % n=((pk c n:Nat):Int):=by
   have p:=Int.emod_nonneg c z2
   unfold pk
   rw [if_neg hc]
   omega
  have E:=hid e
  clear e
  go_enter Tryz.func12,Tryz.ntmps12
  go_wp2
  go_ret
  exact ⟨yC E.o,rfl⟩
theorem ynO {l:List UInt8} (h:Im.jG l):l.length<=1048576:=by
 have f:l.length=26+4 * (Im.nT l+Im.nF l+Im.nD l):=h.2.1
 have n:=Im.Fj l
 omega
end Go.Proofs.YtpgklkhgfcjceaaGreatDoor
