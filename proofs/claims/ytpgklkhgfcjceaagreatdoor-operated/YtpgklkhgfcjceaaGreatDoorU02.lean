
import Derived.Test.YtpgklkhgfcjceaaGreatDoorU01
import Derived.KernelRfl
set_option maxHeartbeats 16000000
set_option maxRecDepth 100000
namespace Go.Proofs.YtpgklkhgfcjceaaGreatDoor
namespace At
open As
structure Sc where
 next:Nat->Tok×(Nat×Nat)×Nat
 le:Nat->Bool×Nat
def advance (s:Sc) (st:St):St :=
 if failed st then st
 else if (s.next st.p).2.1.1 == 0 then { st with p:=(s.next st.p).2.2,tok:=(s.next st.p).1 }
 else refuse (s.next st.p).2.1.1 (s.next st.p).2.1.2 { st with p:=(s.next st.p).2.2 }
def bV (s:Sc) (st:St):Tok×St:=if st.tok.kind == 1 then (st.tok,advance s st) else (Tok.nil,st)
def bG (s:Sc) (st:St):Bool×St :=
 if failed st then (false,st) else ((s.le st.p).1,{ st with p:=(s.le st.p).2 })
def name (s:Sc) (st:St):Tok×St :=
 if st.tok.kind == 1 then (st.tok,advance s (bR st.tok st)) else (Tok.nil,refuse 3 st.tok.pos st)
def bind (s:Sc) (binding:Int) (st0:St):St :=
 let t:=(name s st0).1
 let r:=aJ t (name s st0).2
 if !r.1.2 then r.2
 else if ((r.2.obj.syms[r.1.1]?).map (·.bind)).getD 0≠0 then refuse 14 t.pos r.2
 else mh r.2 r.1.1 fun y=>⟨y.name,binding,y.ah,y.off⟩
def sign (s:Sc) (c:List UInt8) (st:St):St:=if st.tok.is c then advance s st else refuse 3 st.tok.pos st
def register (s:Sc) (st:St):Nat×St :=
 if st.tok.kind == 1 then
  match jf st.tok.text with
  | none=>(0,refuse 7 st.tok.pos st)
  | some r=>(r,advance s st)
 else (0,refuse 3 st.tok.pos st)
def aT (s:Sc) (neg:Bool) (pos:Nat) (lo hi:Int) (st:St):Int×St :=
 if st.tok.kind == 2 then
  if (if neg then -(st.tok.n:Int) else (st.tok.n:Int)) < lo\/hi < (if neg then -(st.tok.n:Int) else (st.tok.n:Int)) then (0,refuse 8 pos st)
  else ((if neg then -(st.tok.n:Int) else (st.tok.n:Int)),advance s st)
 else (0,refuse 3 st.tok.pos st)
def number (s:Sc) (lo hi:Int) (st:St):Int×St :=
 if st.tok.is [45] then aT s true st.tok.pos lo hi (advance s st) else aT s false st.tok.pos lo hi st
def symbol (s:Sc) (st:St):Nat×St :=
 let r:=aJ (name s st).1 (name s st).2
 (r.1.1,r.2)
def target (s:Sc) (st:St):(Nat×Int)×St :=
 let r:=symbol s st
 if r.2.tok.is [43] then ((r.1,(number s 0 2047 (advance s r.2)).1),(number s 0 2047 (advance s r.2)).2)
 else if r.2.tok.is [45] then ((r.1,-(number s 0 2048 (advance s r.2)).1),(number s 0 2048 (advance s r.2)).2)
 else ((r.1,0),r.2)
def place (s:Sc) (st:St):(Int×Nat)×St :=
 let r:=number s (-2048) 2047 st
 let q:=register s (sign s [40] r.2)
 ((r.1,q.1),sign s [41] q.2)
def eB (s:Sc) (op:Nat) (st:St):St :=
 let a:=register s st
 let b:=register s (sign s [44] a.2)
 let c:=register s (sign s [44] b.2)
 bC op a.1 b.1 c.1 0 c.2
def dK (s:Sc) (op:Nat) (st:St):St :=
 let a:=register s st
 let b:=register s (sign s [44] a.2)
 let c:=number s (-2048) 2047 (sign s [44] b.2)
 bC op a.1 b.1 0 c.1 c.2
def upper (s:Sc) (st:St):St :=
 let a:=register s st
 let c:=number s 0 1048575 (sign s [44] a.2)
 bC 1 a.1 0 0 c.1 c.2
def load (s:Sc) (st:St):St :=
 let a:=register s st
 let st1:=sign s [44] a.2
 if st1.tok.kind == 1 then
  let t:=target s st1
  bX a.1 11 a.1 a.1 0 0 t.1.1 t.1.2 t.2
 else
  let p:=place s st1
  bC 11 a.1 p.1.2 0 p.1.1 p.2
def store (s:Sc) (st:St):St :=
 let a:=register s st
 let st1:=sign s [44] a.2
 if st1.tok.kind == 1 then
  let t:=target s st1
  let r:=register s (sign s [44] t.2)
  bX r.1 12 0 r.1 a.1 0 t.1.1 t.1.2 r.2
 else
  let p:=place s st1
  bC 12 0 p.1.2 a.1 p.1.1 p.2
def dh (s:Sc) (st:St):St :=
 let a:=register s st
 let t:=target s (sign s [44] a.2)
 bX a.1 13 a.1 a.1 0 0 t.1.1 t.1.2 t.2
def bO (s:Sc) (st:St):St :=
 let a:=register s st
 let p:=place s (sign s [44] a.2)
 bC 4 a.1 p.1.2 0 p.1.1 p.2
def branch (s:Sc) (op:Nat) (st:St):St :=
 let a:=register s st
 let b:=register s (sign s [44] a.2)
 let y:=symbol s (sign s [44] b.2)
 bZ 2 y.1 0 [(enc op 0 a.1 b.1 0:Int)] y.2
def fF (s:Sc) (rd:Nat) (st:St):St :=
 let y:=symbol s st
 bZ 3 y.1 0 [(enc 3 rd 0 0 0:Int)] y.2
def fE (s:Sc) (st:St):St :=
 let a:=register s st
 fF s a.1 (sign s [44] a.2)
def move (s:Sc) (st:St):St :=
 let a:=register s st
 let b:=register s (sign s [44] a.2)
 bC 13 a.1 b.1 0 0 b.2
def dI (s:Sc) (st:St):St :=
 let a:=register s st
 let c:=number s (-2147483648) 2147483647 (sign s [44] a.2)
 if -2048<=c.1/\c.1<=2047 then bC 13 a.1 0 0 c.1 c.2
 else lay [(enc 1 a.1 0 0 (dJ c.1):Int),(enc 13 a.1 a.1 0 (bP c.1):Int)] c.2
def call (s:Sc) (st:St):St :=
 let tail:=st.op.text == [116,97,105,108]
 let y:=symbol s st
 bZ 4 y.1 0 [(enc 2 (if tail then 6 else 1) 0 0 0:Int),(enc 4 (if tail then 0 else 1) (if tail then 6 else 1) 0 0:Int)] y.2
def binding (s:Sc) (st:St):St:=bind s (if st.op.text=[46,103,108,111,98,108] then 1 else 2) st
def word (s:Sc) (st:St):St :=
 if st.tok.kind == 1 then
  let t:=target s st
  bZ 1 t.1.1 t.1.2 [0] t.2
 else
  let n:=number s (-2147483648) 4294967295 st
  lay [n.1 % 4294967296] n.2
def space (s:Sc) (st:St):St :=
 let n:=number s 0 4800 st
 if n.1 % 4=0 then lay (List.replicate (n.1 / 4).toNat 0) n.2 else refuse 8 n.2.op.pos n.2
def align (s:Sc) (st:St):St :=
 let n:=number s 2 4 st
 if failed n.2 then n.2 else bT n.1 (dB (2 ^ n.1.toNat) n.2)
def instruction (s:Sc) (shape op:Nat) (st:St):St :=
 if shape=1 then eB s op st else if shape=2 then dK s op st else if shape=3 then upper s st else if shape=4 then load s st
 else if shape=5 then store s st else if shape=6 then bO s st else if shape=7 then bare st else if shape=8 then branch s op st
 else if shape=9 then fE s st else if shape=10 then fF s 0 st else if shape=11 then move s st else if shape=12 then dI s st
 else if shape=13 then call s st else if shape=14 then dh s st else st
def directive (s:Sc) (shape:Nat) (st:St):St :=
 if shape=15 then fH st else if shape=16 then word s st else if shape=17 then space s st else if shape=18 then align s st
 else if shape=19 then binding s st else st
def operation (s:Sc) (t:Tok) (st:St):St :=
 if shapeOf t.text=0 then refuse 6 t.pos st
 else if !iG (shapeOf t.text) st.ah then refuse 9 t.pos st
 else if shapeOf t.text<=14 then instruction s (shapeOf t.text) (named t.text) { st with op:=t }
 else directive s (shapeOf t.text) { st with op:=t }
def iA (s:Sc) (t:Tok) (st:St):St :=
 let st1:=if t.kind == 1 then operation s t st else st
 if st1.tok.kind == 4 then st1 else refuse 3 st1.tok.pos st1
def line (s:Sc) (st:St):St :=
 let w:=bV s (advance s st)
 if w.1.kind == 1 && w.2.tok.is [58] then
  let v:=bV s (advance s (label w.1 w.2))
  iA s v.1 v.2
 else iA s w.1 w.2
def lines (s:Sc):Nat->St->St
 | 0,st=>st
 | n+1,st =>
  let r:=bG s (line s st)
  if r.1 then lines s n r.2 else r.2
def dU (g:Nat->Nat) (t:Tok):Tok:=⟨t.kind,g t.pos,t.text,t.n⟩
def aD (f g:Nat->Nat) (st:St):St:=⟨f st.p,dU g st.tok,st.fe,g st.fa,dU g st.op,st.ah,st.obj⟩
structure Agree (S T:Sc) (f g:Nat->Nat):Prop where
 zero:g 0=0
 next:∀ p,S.next (f p)=(dU g (T.next p).1,((T.next p).2.1.1,g (T.next p).2.1.2),f (T.next p).2.2)
def El (s:List UInt8):Sc:=⟨As.next s,As.lineEnd s⟩
theorem kC (g:Nat->Nat) (t:Tok):(dU g t).kind=t.kind:=rfl
theorem oK (g:Nat->Nat) (t:Tok):(dU g t).text=t.text:=rfl
theorem jE (g:Nat->Nat) (t:Tok):(dU g t).pos=g t.pos:=rfl
theorem Uz (g:Nat->Nat) (t:Tok):(dU g t).n=t.n:=rfl
theorem zU (g:Nat->Nat) (t:Tok) (c:List UInt8):(dU g t).is c=t.is c:=rfl
section
variable (f g:Nat->Nat) (st:St)
theorem Ov:(aD f g st).p=f st.p:=rfl
theorem jS:(aD f g st).tok=dU g st.tok:=rfl
theorem wB:(aD f g st).op=dU g st.op:=rfl
theorem qA:(aD f g st).ah=st.ah:=rfl
theorem pq:(aD f g st).obj=st.obj:=rfl
theorem jM:failed (aD f g st)=failed st:=rfl
theorem tL (i:Nat) (k:Lk.Sym->Lk.Sym):mh (aD f g st) i k=aD f g (mh st i k):=rfl
end
section
variable {S T:Sc} {f g:Nat->Nat}
theorem zQ (h:Agree S T f g):dU g Tok.nil=Tok.nil:=by unfold dU Tok.nil; rw [h.zero]
theorem fG (h:Agree S T f g) (e p:Nat) (st:St):refuse e (g p) (aD f g st)=aD f g (refuse e p st):=by
 unfold refuse;rw [jM];split
 ·rfl
 ·unfold aD;rw [zQ h]
theorem nO (h:Agree S T f g) (c:Bool) (e p:Nat) (st:St):aV c e (g p) (aD f g st)=aD f g (aV c e p st):=by
 unfold aV;split
 ·exact fG h e p st
 ·rfl
theorem pU (h:Agree S T f g) (t:Tok) (st:St):bR (dU g t) (aD f g st)=aD f g (bR t st):=by
 unfold bR;simp only [oK,jE,nO h]
 repeat' split
 all_goals first | rfl | contradiction | (simp [*]; done) | (simp [*]; rfl)
theorem kH (h:Agree S T f g) (t:Tok) (st:St):aJ (dU g t) (aD f g st)=((aJ t st).1,aD f g (aJ t st).2):=by
 unfold aJ;simp only [oK,jE,jM,pq,fG h]
 repeat' split
 all_goals first | rfl | contradiction | (simp [*]; done) | (simp [*]; rfl)
theorem GY (h:Agree S T f g) (t:Tok) (st:St):label (dU g t) (aD f g st)=aD f g (label t st):=by
 unfold label;simp only [pU h,kH h,pq,qA,jE,fG h,tL]
 repeat' split
 all_goals first | rfl | contradiction | (simp [*]; done) | (simp [*]; rfl)
theorem tu (h:Agree S T f g) (ws:List Int) (st:St):lay ws (aD f g st)=aD f g (lay ws st):=by
 unfold lay;simp only [pq,qA,wB,jE,fG h,jM]
 repeat' split
 all_goals first | rfl | contradiction | (simp [*]; done) | (simp [*]; rfl)
theorem jK (h:Agree S T f g) (kind:Int) (sym:Nat) (ad:Int) (ws:List Int) (st:St):bZ kind sym ad ws (aD f g st)=aD f g (bZ kind sym ad ws st):=by
 have e:aV (decide (32<=(aD f g st).obj.aj.length)) 12 (aD f g st).op.pos (aD f g st)=aD f g (aV (decide (32<=st.obj.aj.length)) 12 st.op.pos st):=nO h _ 12 st.op.pos st;unfold bZ;rw [e];generalize aV (decide (32<=st.obj.aj.length)) 12 st.op.pos st=t;by_cases c:failed t=true
 ·rw [if_pos c,if_pos (by exact c)]
 ·rw [if_neg c,if_neg (by exact c)];exact tu h ws { t with obj:={ t.obj with aj:=t.obj.aj ++ [⟨t.ah,4 * bK t.obj t.ah,kind,sym,ad⟩] } }
theorem iY (h:Agree S T f g) (op rd au aC:Nat) (n:Int) (st:St):bC op rd au aC n (aD f g st)=aD f g (bC op rd au aC n st):=tu h _ st
theorem kX (h:Agree S T f g) (reg op rd au aC:Nat) (n:Int) (sym:Nat) (ad:Int) (st:St):bX reg op rd au aC n sym ad (aD f g st)=aD f g (bX reg op rd au aC n sym ad st):=by
 unfold bX;simp only [wB,jE,nO h,jK h]
 repeat' split
 all_goals first | rfl | contradiction | (simp [*]; done) | (simp [*]; rfl)
theorem JV (h:Agree S T f g) (st:St):bare (aD f g st)=aD f g (bare st):=by
 unfold bare;simp only [wB,oK,iY h]
 repeat' split
 all_goals first | rfl | contradiction | (simp [*]; done) | (simp [*]; rfl)
theorem Br (st:St):fH (aD f g st)=aD f g (fH st):=by
 have e:fH (aD f g st)=(if st.op.text=[46,116,101,120,116] then aD f g { st with ah:=1 } else if st.op.text=[46,102,97,114] then aD f g { st with ah:=2 } else if st.op.text=[46,100,97,116,97] then aD f g { st with ah:=3 } else if st.op.text=[46,98,115,115] then aD f g { st with ah:=4 } else aD f g st):=rfl;rw [e];unfold fH
 repeat' split
 all_goals first | rfl | contradiction
theorem sF (k:Int) (st:St):bT k (aD f g st)=aD f g (bT k st):=by
 unfold bT;simp only [pq,qA]
 repeat' split
 all_goals first | rfl | contradiction | (simp [*]; done) | (simp [*]; rfl)
theorem Ak (h:Agree S T f g) (b:Nat) (st:St):dB b (aD f g st)=aD f g (dB b st):=by
 unfold dB;simp only [pq,qA,jK h,tu h]
 repeat' split
 all_goals first | rfl | contradiction | (simp [*]; done) | (simp [*]; rfl)
theorem iO (h:Agree S T f g) (st:St):advance S (aD f g st)=aD f g (advance T st):=by
 unfold advance;simp only [jM,Ov,h.next];split
 ·rfl
 ·split
  ·rfl
  ·exact fG h _ _ { st with p:=(T.next st.p).2.2 }
theorem zq (h:Agree S T f g) (st:St):bV S (aD f g st)=(dU g (bV T st).1,aD f g (bV T st).2):=by
 unfold bV;simp only [jS,kC,iO h];split
 ·rfl
 ·rw [zQ h]
theorem xZ (hl:∀ p,S.le (f p)=((T.le p).1,f (T.le p).2)) (st:St):bG S (aD f g st)=((bG T st).1,aD f g (bG T st).2):=by
 unfold bG;simp only [jM,Ov,hl]
 repeat' split
 all_goals first | rfl | contradiction | (simp [*]; done) | (simp [*]; rfl)
theorem DK (h:Agree S T f g) (st:St):name S (aD f g st)=(dU g (name T st).1,aD f g (name T st).2):=by
 unfold name;simp only [jS,kC,jE,pU h,iO h,fG h];split
 ·rfl
 ·rw [zQ h]
theorem JZ (h:Agree S T f g) (b:Int) (st:St):bind S b (aD f g st)=aD f g (bind T b st):=by
 unfold bind;simp only [DK h,kH h,pq,jE,fG h,tL]
 repeat' split
 all_goals first | rfl | contradiction | (simp [*]; done) | (simp [*]; rfl)
theorem jD (h:Agree S T f g) (c:List UInt8) (st:St):sign S c (aD f g st)=aD f g (sign T c st):=by
 unfold sign;simp only [jS,zU,jE,iO h,fG h]
 repeat' split
 all_goals first | rfl | contradiction | (simp [*]; done) | (simp [*]; rfl)
theorem eH (h:Agree S T f g) (st:St):register S (aD f g st)=((register T st).1,aD f g (register T st).2):=by
 unfold register;simp only [jS,kC,oK,jE,iO h,fG h];split
 ·cases jf st.tok.text <;> rfl
 ·rfl
theorem uG (h:Agree S T f g) (neg:Bool) (p:Nat) (lo hi:Int) (st:St):aT S neg (g p) lo hi (aD f g st)=((aT T neg p lo hi st).1,aD f g (aT T neg p lo hi st).2):=by
 unfold aT;simp only [jS,kC,Uz,jE,iO h,fG h]
 repeat' split
 all_goals first | rfl | contradiction | (simp [*]; done) | (simp [*]; rfl)
theorem jv (h:Agree S T f g) (lo hi:Int) (st:St):number S lo hi (aD f g st)=((number T lo hi st).1,aD f g (number T lo hi st).2):=by
 unfold number;simp only [jS,zU,jE,iO h,uG h]
 repeat' split
 all_goals first | rfl | contradiction | (simp [*]; done) | (simp [*]; rfl)
theorem oI (h:Agree S T f g) (st:St):symbol S (aD f g st)=((symbol T st).1,aD f g (symbol T st).2):=by
 unfold symbol;simp only [DK h,kH h]
 repeat' split
 all_goals first | rfl | contradiction | (simp [*]; done) | (simp [*]; rfl)
theorem oJ (h:Agree S T f g) (st:St):target S (aD f g st)=((target T st).1,aD f g (target T st).2):=by
 unfold target;simp only [oI h,jS,zU,iO h,jv h]
 repeat' split
 all_goals first | rfl | contradiction | (simp [*]; done) | (simp [*]; rfl)
theorem uL (h:Agree S T f g) (st:St):place S (aD f g st)=((place T st).1,aD f g (place T st).2):=by
 unfold place;simp only [jv h,jD h,eH h]
 repeat' split
 all_goals first | rfl | contradiction | (simp [*]; done) | (simp [*]; rfl)
theorem wQ (h:Agree S T f g) (op:Nat) (st:St):eB S op (aD f g st)=aD f g (eB T op st):=by
 unfold eB;simp only [eH h,jD h,iY h]
 repeat' split
 all_goals first | rfl | contradiction | (simp [*]; done) | (simp [*]; rfl)
theorem uS (h:Agree S T f g) (op:Nat) (st:St):dK S op (aD f g st)=aD f g (dK T op st):=by
 unfold dK;simp only [eH h,jD h,jv h,iY h]
 repeat' split
 all_goals first | rfl | contradiction | (simp [*]; done) | (simp [*]; rfl)
theorem IB (h:Agree S T f g) (st:St):upper S (aD f g st)=aD f g (upper T st):=by
 unfold upper;simp only [eH h,jD h,jv h,iY h]
 repeat' split
 all_goals first | rfl | contradiction | (simp [*]; done) | (simp [*]; rfl)
theorem KF (h:Agree S T f g) (st:St):load S (aD f g st)=aD f g (load T st):=by
 unfold load;simp only [eH h,jD h,oJ h,uL h,iY h,kX h,jS,kC]
 repeat' split
 all_goals first | rfl | contradiction | (simp [*]; done) | (simp [*]; rfl)
theorem Iz (h:Agree S T f g) (st:St):store S (aD f g st)=aD f g (store T st):=by
 unfold store;simp only [eH h,jD h,oJ h,uL h,iY h,kX h,jS,kC]
 repeat' split
 all_goals first | rfl | contradiction | (simp [*]; done) | (simp [*]; rfl)
theorem sj (h:Agree S T f g) (st:St):dh S (aD f g st)=aD f g (dh T st):=by
 unfold dh;simp only [eH h,jD h,oJ h,kX h]
 repeat' split
 all_goals first | rfl | contradiction | (simp [*]; done) | (simp [*]; rfl)
theorem qR (h:Agree S T f g) (st:St):bO S (aD f g st)=aD f g (bO T st):=by
 unfold bO;simp only [eH h,jD h,uL h,iY h]
 repeat' split
 all_goals first | rfl | contradiction | (simp [*]; done) | (simp [*]; rfl)
theorem CV (h:Agree S T f g) (op:Nat) (st:St):branch S op (aD f g st)=aD f g (branch T op st):=by
 unfold branch;simp only [eH h,jD h,oI h,jK h]
 repeat' split
 all_goals first | rfl | contradiction | (simp [*]; done) | (simp [*]; rfl)
theorem tq (h:Agree S T f g) (rd:Nat) (st:St):fF S rd (aD f g st)=aD f g (fF T rd st):=by
 unfold fF;simp only [oI h,jK h]
 repeat' split
 all_goals first | rfl | contradiction | (simp [*]; done) | (simp [*]; rfl)
theorem xR (h:Agree S T f g) (st:St):fE S (aD f g st)=aD f g (fE T st):=by
 unfold fE;simp only [eH h,jD h,tq h]
 repeat' split
 all_goals first | rfl | contradiction | (simp [*]; done) | (simp [*]; rfl)
theorem KL (h:Agree S T f g) (st:St):move S (aD f g st)=aD f g (move T st):=by
 unfold move;simp only [eH h,jD h,iY h]
 repeat' split
 all_goals first | rfl | contradiction | (simp [*]; done) | (simp [*]; rfl)
theorem uD (h:Agree S T f g) (st:St):dI S (aD f g st)=aD f g (dI T st):=by
 unfold dI;simp only [eH h,jD h,jv h,iY h,tu h]
 repeat' split
 all_goals first | rfl | contradiction | (simp [*]; done) | (simp [*]; rfl)
theorem Ao (h:Agree S T f g) (st:St):binding S (aD f g st)=aD f g (binding T st):=by
 unfold binding;simp only [wB,oK,JZ h]
 repeat' split
 all_goals first | rfl | contradiction | (simp [*]; done) | (simp [*]; rfl)
theorem KX (h:Agree S T f g) (st:St):word S (aD f g st)=aD f g (word T st):=by
 unfold word;simp only [jv h,oJ h,jK h,tu h,jS,kC]
 repeat' split
 all_goals first | rfl | contradiction | (simp [*]; done) | (simp [*]; rfl)
theorem Iy (h:Agree S T f g) (st:St):space S (aD f g st)=aD f g (space T st):=by
 unfold space;simp only [jv h,tu h,wB,jE,fG h]
 repeat' split
 all_goals first | rfl | contradiction | (simp [*]; done) | (simp [*]; rfl)
theorem F8 (h:Agree S T f g) (st:St):align S (aD f g st)=aD f g (align T st):=by
 unfold align;simp only [jv h,jM,Ak h,sF]
 repeat' split
 all_goals first | rfl | contradiction | (simp [*]; done) | (simp [*]; rfl)
theorem J5 (h:Agree S T f g) (st:St):call S (aD f g st)=aD f g (call T st):=by
 unfold call;simp only [oI h,jK h];rfl
theorem r9 (h:Agree S T f g) (shape op:Nat) (st:St):instruction S shape op (aD f g st)=aD f g (instruction T shape op st):=by
 unfold instruction;simp only [apply_ite (aD f g),wQ h,uS h,IB h,KF h,Iz h,qR h,JV h,CV h,xR h,tq h,KL h,uD h,J5 h,sj h]
theorem vW (h:Agree S T f g) (shape:Nat) (st:St):directive S shape (aD f g st)=aD f g (directive T shape st):=by
 unfold directive;simp only [apply_ite (aD f g),Br,KX h,Iy h,F8 h,Ao h]
theorem wG (h:Agree S T f g) (t:Tok) (st:St):operation S (dU g t) (aD f g st)=aD f g (operation T t st):=by
 unfold operation;by_cases c1:shapeOf t.text=0
 ·rw [if_pos c1,if_pos (show shapeOf (dU g t).text=0 from c1)];exact fG h 6 t.pos st
 rw [if_neg c1,if_neg (show ¬ shapeOf (dU g t).text=0 from c1)];by_cases c2:(!iG (shapeOf t.text) st.ah)=true
 ·rw [if_pos c2,if_pos (show (!iG (shapeOf (dU g t).text) (aD f g st).ah)=true from c2)];exact fG h 9 t.pos st
 rw [if_neg c2,if_neg (show ¬ (!iG (shapeOf (dU g t).text) (aD f g st).ah)=true from c2)];by_cases c3:shapeOf t.text<=14
 ·rw [if_pos c3,if_pos (show shapeOf (dU g t).text<=14 from c3)];exact r9 h (shapeOf t.text) (named t.text) { st with op:=t }
 rw [if_neg c3,if_neg (show ¬ shapeOf (dU g t).text<=14 from c3)];exact vW h (shapeOf t.text) { st with op:=t }
theorem Dt (h:Agree S T f g) (t:Tok) (st:St):iA S (dU g t) (aD f g st)=aD f g (iA T t st):=by
 have e:(if (dU g t).kind == 1 then operation S (dU g t) (aD f g st) else aD f g st)=aD f g (if t.kind == 1 then operation T t st else st):=by
  rw [wG h];exact (apply_ite (aD f g) _ _ _).symm
 unfold iA;rw [e];generalize (if t.kind == 1 then operation T t st else st)=x;by_cases c:(x.tok.kind == 4)=true
 ·simp only;rw [if_pos c,if_pos (show ((aD f g x).tok.kind == 4)=true from c)]
 ·simp only;rw [if_neg c,if_neg (show ¬ ((aD f g x).tok.kind == 4)=true from c)];exact fG h 3 x.tok.pos x
theorem Du (h:Agree S T f g) (st:St):line S (aD f g st)=aD f g (line T st):=by
 unfold line;simp only [iO h,zq h,kC,jS,zU,GY h,Dt h];split <;> rfl
theorem Hg (h:Agree S T f g) (hl:∀ p,S.le (f p)=((T.le p).1,f (T.le p).2)) (n:Nat):∀ st:St,lines S n (aD f g st)=aD f g (lines T n st):=by
 induction n with
 | zero=>intro st; rfl
 | succ n ih =>
  intro st;unfold lines;simp only [Du h,xZ hl,ih];split <;> rfl
end
end At
end Go.Proofs.YtpgklkhgfcjceaaGreatDoor

namespace Go.Proofs.YtpgklkhgfcjceaaGreatDoor
namespace At
open As
inductive It where
 | tok (b k:Nat) (t:List UInt8) (n:Nat)
 | nl
def spell:It->List UInt8
 | .tok b _ t _=>List.replicate b 32 ++ t
 | .nl=>[10]
def spells (l:List It):List UInt8:=l.flatMap spell
def nL:It->Bool
 | .nl=>true
 | _=>false
def blanks:Option It->Nat
 | some (.tok b _ _ _)=>b
 | _=>0
def jY (k:Nat) (t:List UInt8) (n:Nat):Prop :=
 (k=1/\n=0/\t.all aY=true/\(t.head?.map bA)=some false) \/
 (k=2/\n=dec t/\t.all bA=true/\1<=t.length/\t.length<=10) \/
 (k=3/\n=0/\t.length=1/\t.all kF=true)
instance (k:Nat) (t:List UInt8) (n:Nat):Decidable (jY k t n):=by unfold jY; infer_instance
def gN:It->Prop
 | .tok _ k t n=>jY k t n
 | .nl=>True
instance (i:It):Decidable (gN i):=by cases i <;> unfold gN <;> infer_instance
def apart:List It->Bool
 | .tok _ k _ _ :: .tok b' k' t' n' :: r=>(decide (k=3) || decide (0 < b') || decide (k'=3)) && apart (.tok b' k' t' n' :: r)
 | .tok _ _ _ _ :: .nl :: r=>apart r
 | .nl :: r=>apart r
 | [.tok _ _ _ _]=>true
 | []=>true
def nV (l:List It):Sc where
 next p:=match l[p]? with
  | some (.tok _ k t n)=>(⟨k,p,t,n⟩,(0,0),p+1)
  | _=>(⟨4,p,[],0⟩,(0,0),p)
 le p:=if p+((l.drop p).takeWhile fun i=>!nL i).length < l.length then (true,p+((l.drop p).takeWhile fun i=>!nL i).length+1) else (false,l.length)
def qN (l:List It) (p:Nat):Nat:=(spells (l.take p)).length
def lie (l:List It) (p:Nat):Nat:=qN l p+blanks l[p]?
theorem lJ {c:UInt8} (h:aY c=true):blank c=false/\ends c=false/\eY c=true:=by
 unfold aY bA at h;unfold blank ends eY;simp only [Bool.or_eq_true,Bool.and_eq_true,decide_eq_true_eq,beq_iff_eq] at h;simp only [Bool.or_eq_false_iff,beq_eq_false_iff_ne,Bool.not_eq_true'];omega
theorem EZ {c:UInt8} (h:bA c=true):blank c=false/\ends c=false/\eY c=true/\aY c=true:=by
 have:aY c=true:=by unfold aY; rw [h]; simp
 have q:=lJ this;exact ⟨q.1,q.2.1,q.2.2,this⟩
theorem lG {c:UInt8} (h:kF c=true):blank c=false/\ends c=false/\eY c=true/\aY c=false/\bA c=false:=by
 unfold kF at h;simp only [Bool.or_eq_true,beq_iff_eq] at h;unfold blank ends eY aY bA;simp only [Bool.or_eq_false_iff,Bool.and_eq_false_iff,beq_eq_false_iff_ne,decide_eq_false_iff_not,Bool.not_eq_true'];omega
theorem wP (b:Nat) (l:List UInt8) (h:(l.head?.map blank).getD false=false):(List.replicate b (32:UInt8) ++ l).takeWhile blank=List.replicate b 32:=by
 induction b with
 | zero =>
  cases l with
  | nil=>rfl
  | cons c r =>
   have:blank c=false:=h
   simp [this]
 | succ b ih =>
  rw [List.replicate_succ,List.cons_append,List.takeWhile_cons];rw [show blank 32=true from rfl,if_pos rfl,ih]
theorem wO {f:UInt8->Bool} (t rest:List UInt8) (ha:t.all f=true) (h:(rest.head?.map f).getD false=false):(t ++ rest).takeWhile f=t:=by
 induction t with
 | nil =>
  cases rest with
  | nil=>rfl
  | cons c r =>
   have:f c=false:=h
   simp [this]
 | cons c t ih =>
  rw [List.all_cons,Bool.and_eq_true] at ha;rw [List.cons_append,List.takeWhile_cons,ha.1,if_pos rfl,ih ha.2]
theorem uf (s:List UInt8) (q:Nat):s[q]?=(s.drop q).head?:=by
 rw [List.head?_drop]
theorem DU (s:List UInt8) (p b k n:Nat) (t rest:List UInt8) (hd:s.drop p=List.replicate b 32 ++ (t ++ rest)) (hg:jY k t n) (hr:k=3\/(rest.head?.map aY).getD false=false) :
  As.next s p=(⟨k,p+b,t,n⟩,(0,0),p+b+t.length):=by
 obtain ⟨c,r,rfl⟩:∃ c r,t=c :: r:=by
  cases t with
  | nil=>rcases hg with ⟨-,-,-,h⟩ | ⟨-,-,-,h,-⟩ | ⟨-,-,h,-⟩ <;> simp at h
  | cons c r=>exact ⟨c,r,rfl⟩
 have hb:blank c=false:=by
  rcases hg with ⟨-,-,h,-⟩ | ⟨-,-,h,-⟩ | ⟨-,-,-,h⟩ <;> rw [List.all_cons,Bool.and_eq_true] at h
  ·exact (lJ h.1).1
  ·exact (EZ h.1).1
  ·exact (lG h.1).1
 have hq:skip blank s p=p+b:=by
  unfold skip;rw [hd,wP b _ (by simpa using hb),List.length_replicate]
 have Od:s.drop (p+b)=(c :: r) ++ rest:=by
  rw [<- List.drop_drop,hd,List.drop_left' (by simp)]
 have hc:s[p+b]?=some c:=by rw [uf,Od]; rfl
 unfold As.next iL;rw [hq,hc];simp only;rcases hg with ⟨rfl,rfl,h,hh⟩ | ⟨rfl,rfl,h,h1,h2⟩ | ⟨rfl,rfl,h1,h⟩
 ·have hc1:aY c=true:=by rw [List.all_cons,Bool.and_eq_true] at h; exact h.1
  have hc2:bA c=false:=by simpa using hh
  rw [(lJ hc1).2.1,hc2,hc1];simp only [Bool.false_eq_true,if_false,if_true];have tk:((c :: r) ++ rest).takeWhile aY=c :: r:=wO _ _ h (by rcases hr with h | h; cases h; exact h);unfold skip;rw [Od,tk]
 ·have hc1:bA c=true:=by rw [List.all_cons,Bool.and_eq_true] at h; exact h.1
  rw [(EZ hc1).2.1,hc1];simp only [Bool.false_eq_true,if_false,if_true];have hrw:(rest.head?.map aY).getD false=false:=by rcases hr with h | h; cases h; exact h
  have hrd:(rest.head?.map bA).getD false=false:=by
   cases rest with
   | nil=>rfl
   | cons x y =>
    have:aY x=false:=hrw
    show bA x=false
    cases hx:bA x with
    | false=>rfl
    | true=>rw [(EZ hx).2.2.2] at this; cases this
  have tk:((c :: r) ++ rest).takeWhile bA=c :: r:=wO _ _ h hrd;have sk:skip bA s (p+b)=p+b+(c :: r).length:=by unfold skip; rw [Od,tk]
  have nx:s[p+b+(c :: r).length]?=rest.head?:=by rw [uf,<- List.drop_drop,Od,List.drop_left' rfl]
  unfold iI;rw [Od,tk,if_neg (by omega),sk,nx,hrw];simp only [Bool.false_eq_true,if_false]
 ·have hc1:kF c=true:=by rw [List.all_cons,Bool.and_eq_true] at h; exact h.1
  obtain ⟨f1,f2,f3,f4,f5⟩:=lG hc1;obtain rfl:r=[]:=by simpa using h1
  rw [f2,f5,f4,hc1];rfl
theorem wD (s:List UInt8) (p:Nat) (hd:s.drop p=[]\/∃ r,s.drop p=10 :: r):As.next s p=(⟨4,p,[],0⟩,(0,0),p):=by
 have hq:skip blank s p=p:=by
  unfold skip;rcases hd with h | ⟨r,h⟩ <;> rw [h]
  ·rfl
  ·rw [List.takeWhile_cons,show blank 10=false from rfl]; rfl
 unfold As.next iL;rw [hq,uf];rcases hd with h | ⟨r,h⟩ <;> rw [h] <;> rfl
theorem lH (a b:List It):spells (a ++ b)=spells a ++ spells b:=by unfold spells; rw [List.flatMap_append]
theorem mq (i:It) (l:List It):spells (i :: l)=spell i ++ spells l:=rfl
theorem vX (l:List It) (p:Nat):(spells l).drop (qN l p)=spells (l.drop p):=by
 have e:spells l=spells (l.take p) ++ spells (l.drop p):=by rw [<- lH,List.take_append_drop]
 unfold qN
 conv=>lhs; rw [e]
 exact List.drop_left' rfl
theorem vY (l:List It) (p:Nat) (i:It) (h:l[p]?=some i):qN l (p+1)=qN l p+(spell i).length:=by
 unfold qN;rw [List.take_add_one,h,lH,List.length_append];simp [spells]
theorem um (l:List It) (p:Nat) (h:l.length<=p):qN l p=(spells l).length:=by
 unfold qN;rw [List.take_of_length_le h]
theorem drop_cons (l:List It) (p:Nat) (i:It) (h:l[p]?=some i):l.drop p=i :: l.drop (p+1):=by
 obtain ⟨hl,e⟩:=List.getElem?_eq_some_iff.1 h;rw [List.drop_eq_getElem_cons hl,e]
theorem xG:∀ (i:It) (r:List It),apart (i :: r)=true->apart r=true
 | .tok _ _ _ _,.tok _ _ _ _ :: _,h=>by unfold apart at h; rw [Bool.and_eq_true] at h; exact h.2
 | .tok _ _ _ _,.nl :: _,h=>h
 | .tok _ _ _ _,[],_=>rfl
 | .nl,_,h=>h
theorem xD (p:Nat):∀ l:List It,apart l=true->apart (l.drop p)=true:=by
 induction p with
 | zero=>intro l h; exact h
 | succ p ih =>
  intro l h
  cases l with
  | nil=>rfl
  | cons i r=>exact ih r (xG i r h)
theorem xE (b k n:Nat) (t:List UInt8) (r:List It) (h:apart (.tok b k t n :: r)=true) (hg:∀ i∈r,gN i):k=3\/((spells r).head?.map aY).getD false=false:=by
 cases r with
 | nil=>exact .inr rfl
 | cons i r =>
  cases i with
  | nl=>exact .inr rfl
  | tok b' k' t' n' =>
   unfold apart at h;simp only [Bool.and_eq_true,Bool.or_eq_true,decide_eq_true_eq] at h;rcases h.1 with (h | h) | h
   ·exact .inl h
   ·right
    obtain ⟨c,rfl⟩:∃ c,b'=c+1:=⟨b' - 1,by omega⟩
    rfl
   ·right
    have g:jY k' t' n':=hg _ List.mem_cons_self
    cases b' with
    | succ c=>rfl
    | zero =>
     rcases g with ⟨e,-⟩ | ⟨e,-⟩ | ⟨-,-,h1,h2⟩
     ·omega
     ·omega
     ·cases t' with
      | nil=>simp at h1
      | cons c t' =>
       rw [List.all_cons,Bool.and_eq_true] at h2;show aY c=false;exact (lG h2.1).2.2.2.1
theorem zu {k n:Nat} {t:List UInt8} (h:jY k t n):t.all eY=true:=by
 rw [List.all_eq_true];intro c hc;rcases h with ⟨-,-,h,-⟩ | ⟨-,-,h,-⟩ | ⟨-,-,-,h⟩ <;> rw [List.all_eq_true] at h
 ·exact (lJ (h c hc)).2.2
 ·exact (EZ (h c hc)).2.2.1
 ·exact (lG (h c hc)).2.2.1
theorem sJ {f:UInt8->Bool} (a b:List UInt8) (h:a.all f=true):(a ++ b).takeWhile f=a ++ b.takeWhile f:=by
 induction a with
 | nil=>rfl
 | cons c a ih =>
  rw [List.all_cons,Bool.and_eq_true] at h;rw [List.cons_append,List.takeWhile_cons,h.1,if_pos rfl,ih h.2];rfl
theorem AY (m:List It) (hg:∀ i∈m,gN i):(spells m).takeWhile eY=spells (m.takeWhile fun i=>!nL i):=by
 induction m with
 | nil=>rfl
 | cons i m ih =>
  cases i with
  | nl=>rfl
  | tok b k t n =>
   have g:jY k t n:=hg _ List.mem_cons_self;rw [mq,sJ _ _ (by
    show (List.replicate b 32 ++ t).all eY=true;rw [List.all_append,zu g,List.all_replicate];simp [eY]),ih (fun j hj=>hg j (List.mem_cons_of_mem _ hj)),List.takeWhile_cons]
   rfl
theorem Gt (l:List It) (p j:Nat):qN l (p+j)=qN l p+(spells ((l.drop p).take j)).length:=by
 unfold qN;rw [List.take_add,lH,List.length_append]
theorem agree (l:List It) (hg:∀ i∈l,gN i) (ha:apart l=true) (h0:blanks l[0]?=0):Agree (El (spells l)) (nV l) (qN l) (lie l):=by
 refine ⟨?_,fun p=>?_⟩
 ·unfold lie;rw [h0];rfl
 ·show As.next (spells l) (qN l p)=_;have hd:=vX l p
  cases hp:l[p]? with
  | none =>
   have hl:l.length<=p:=List.getElem?_eq_none_iff.1 hp;rw [wD _ _ (.inl (by rw [hd,List.drop_eq_nil_of_le hl]; rfl))];show _=(dU (lie l) ((nV l).next p).1,_,_)
   unfold nV;simp only [hp];unfold dU lie;rw [hp,h0];rfl
  | some i =>
   have hc:=drop_cons l p i hp;have mem:i∈l:=List.mem_of_getElem? hp
   cases i with
   | nl =>
    rw [wD _ _ (.inr ⟨_,by rw [hd,hc,mq]; rfl⟩)];unfold nV;simp only [hp];unfold dU lie;rw [hp,h0];rfl
   | tok b k t n =>
    have g:jY k t n:=hg _ mem;have ap:=xD p l ha;rw [hc] at ap;have hr:=xE b k n t _ ap (fun j hj=>hg j (List.mem_of_mem_drop hj));rw [DU (spells l) (qN l p) b k n t (spells (l.drop (p+1))) (by rw [hd,hc,mq]; show List.replicate b 32 ++ t ++ _=_; rw [List.append_assoc]) g hr];unfold nV;simp only [hp];unfold dU lie;rw [hp,h0,vY l p _ hp];show _=(_,_,qN l p+(List.replicate b (32:UInt8) ++ t).length)
    rw [List.length_append,List.length_replicate,Nat.add_assoc];rfl
theorem CJ (l:List It) (hg:∀ i∈l,gN i) (p:Nat):(El (spells l)).le (qN l p)=(((nV l).le p).1,qN l ((nV l).le p).2):=by
 show As.lineEnd (spells l) (qN l p)=_;have hd:=vX l p;have hgd:∀ i∈l.drop p,gN i:=fun j hj=>hg j (List.mem_of_mem_drop hj)
 obtain ⟨j,hj⟩:∃ j,((l.drop p).takeWhile fun i=>!nL i).length=j:=⟨_,rfl⟩
 have tj:(l.drop p).take j=(l.drop p).takeWhile fun i=>!nL i:=by
  rw [<- hj];exact List.prefix_iff_eq_take.1 (List.takeWhile_prefix _) |>.symm
 have sk:skip eY (spells l) (qN l p)=qN l (p+j):=by
  unfold skip;rw [hd,AY _ hgd,Gt,tj]
 unfold As.lineEnd;rw [sk];unfold nV;simp only [hj];by_cases c:p+j < l.length
 ·have e:l[p+j]?=some .nl:=by
   have h1:(l.drop p)[j]?=l[p+j]?:=List.getElem?_drop;obtain ⟨x,hx⟩:∃ x,l[p+j]?=some x:=⟨_,List.getElem?_eq_getElem c⟩
   have h2:((l.drop p).dropWhile fun i=>!nL i).head?=some x:=by
    have:=List.takeWhile_append_dropWhile (p:=fun i=>!nL i) (l:=l.drop p)
    rw [<- hx,<- h1]
    conv=>rhs; rw [<- this]
    rw [List.getElem?_append_right (by omega),hj,Nat.sub_self,List.head?_eq_getElem?]
   have h3:=List.head?_dropWhile_not (fun i=>!nL i) (l.drop p);rw [h2] at h3
   cases x with
   | nl=>exact hx
   | tok b k t n=>simp [nL] at h3
  have f1:=vY l (p+j) .nl e;have le2:qN l (p+j+1)<=(spells l).length:=by
   have:spells l=spells (l.take (p+j+1)) ++ spells (l.drop (p+j+1)):=by rw [<- lH,List.take_append_drop]
   rw [this,List.length_append];exact Nat.le_add_right _ _
  have s1:(spell It.nl).length=1:=rfl;rw [if_pos c,if_pos (by omega),f1,s1]
 ·rw [if_neg c,if_neg (by rw [um l (p+j) (by omega)]; omega),um l (p+j) (by omega),um l l.length (Nat.le_refl _)]
end At
end Go.Proofs.YtpgklkhgfcjceaaGreatDoor

namespace Go.Proofs.YtpgklkhgfcjceaaGreatDoor
namespace At
open As
theorem CQ (s:List UInt8) (n:Nat):∀ st:St,As.lines s n st=lines (El s) n st:=by
 induction n with
 | zero=>intro st; rfl
 | succ n ih =>
  intro st;have e:As.bG s (As.line s st)=bG (El s) (line (El s) st):=by kernel_rfl
  unfold As.lines lines;rw [e];simp only [ih]
def Bp (L:List It):Sc where
 next p:=match L[p]? with
  | some (.tok _ k t n)=>(⟨k,p+1,t,n⟩,(0,0),p+1)
  | _=>(⟨4,L.length+1,[],0⟩,(0,0),p)
 le p:=(false,p)
def y5 (L:List It):Prop:=∀ i∈L,nL i=false
def bn (L:List It) (s:Nat) (o:Lk.Obj) (s':Nat) (o':Lk.Obj):Prop :=
 y5 L/\∀ (tok op:Tok) (fa:Nat),(line (Bp L) ⟨0,tok,0,fa,op,s,o⟩).fe=0/\(line (Bp L) ⟨0,tok,0,fa,op,s,o⟩).ah=s'/\(line (Bp L) ⟨0,tok,0,fa,op,s,o⟩).obj=o'
theorem Hw (a L c:List It) (p:Nat) (hp:p < L.length):(a ++ (L ++ (.nl :: c)))[a.length+p]?=L[p]?:=by
 rw [List.getElem?_append_right (by omega),Nat.add_sub_cancel_left,List.getElem?_append_left hp]
theorem KH (a L c:List It):(a ++ (L ++ (.nl :: c)))[a.length+L.length]?=some .nl:=by
 rw [List.getElem?_append_right (by omega),Nat.add_sub_cancel_left,List.getElem?_append_right (by omega),Nat.sub_self];rfl
def sD (a L:List It) (u v w q:Nat):Nat:=if q=0 then 0 else if q<=L.length+1 then a.length+(q - 1) else if q=L.length+2 then u else if q=L.length+3 then v else w
theorem Ih (a L:List It) (u v w:Nat):sD a L u v w (L.length+2)=u:=by
 unfold sD;rw [if_neg (by omega),if_neg (by omega),if_pos (by omega)]
theorem Bh (a L:List It) (u v w:Nat):sD a L u v w (L.length+3)=v:=by
 unfold sD;rw [if_neg (by omega),if_neg (by omega),if_neg (by omega),if_pos (by omega)]
theorem Ed (a L:List It) (u v w:Nat):sD a L u v w (L.length+4)=w:=by
 unfold sD;rw [if_neg (by omega),if_neg (by omega),if_neg (by omega),if_neg (by omega)]
theorem xC (a L c:List It) (u v w:Nat) (hn:y5 L):Agree (nV (a ++ (L ++ (.nl :: c)))) (Bp L) (fun p=>a.length+min p L.length) (sD a L u v w):=by
 refine ⟨rfl,fun p=>?_⟩;by_cases hp:p < L.length
 ·have e:=Hw a L c p hp;obtain ⟨i,hi⟩:∃ i,L[p]?=some i:=⟨_,List.getElem?_eq_getElem hp⟩
  have ni:=hn i (List.mem_of_getElem? hi)
  cases i with
  | nl=>cases ni
  | tok b k t n =>
   rw [hi] at e;have m:min p L.length=p:=by omega
   have m2:min (p+1) L.length=p+1:=by omega
   unfold nV Bp;simp only [m,e,hi];unfold dU sD;simp only;rw [if_neg (by omega),if_pos (by omega),m2];rfl
 ·have e:=KH a L c;have m:min p L.length=L.length:=by omega
  have hi:L[p]?=none:=List.getElem?_eq_none_iff.2 (by omega);unfold nV Bp;simp only [m,e,hi];unfold dU sD;simp only;rw [if_neg (by omega),if_pos (by omega)];rfl
theorem He (a L c:List It) (hn:y5 L) (st:St) (hp:st.p=a.length) (hf:st.fe=0) :
  ∃ tok op fa f g,line (nV (a ++ (L ++ (.nl :: c)))) st=aD f g (line (Bp L) ⟨0,tok,0,fa,op,st.ah,st.obj⟩)/\∀ p,∃ q,q<=L.length/\f p=a.length+q:=by
 have A:=xC a L c st.tok.pos st.op.pos st.fa hn;refine ⟨⟨st.tok.kind,L.length+2,st.tok.text,st.tok.n⟩,⟨st.op.kind,L.length+3,st.op.text,st.op.n⟩,L.length+4,fun p=>a.length+min p L.length,sD a L st.tok.pos st.op.pos st.fa,?_,fun p=>⟨min p L.length,by omega,rfl⟩⟩;rw [<- Du A]
 congr 1
 obtain ⟨p,tok,fe,fa,op,ah,obj⟩:=st;simp only at hp hf;subst hp hf;unfold aD dU;simp only [Nat.zero_min,Nat.add_zero,Ih,Bh,Ed]
theorem Oq (a L c:List It) (hn:y5 L) (q:Nat) (hq:q<=L.length):(nV (a ++ (L ++ (.nl :: c)))).le (a.length+q)=(true,(a ++ (L ++ [It.nl])).length):=by
 have e:((a ++ (L ++ (.nl :: c))).drop (a.length+q)).takeWhile (fun i=>!nL i)=L.drop q:=by
  rw [<- List.drop_drop,List.drop_left' rfl,List.drop_append_of_le_length hq]
  have:∀ M:List It,y5 M->(M ++ (.nl :: c)).takeWhile (fun i=>!nL i)=M:=by
   intro M
   induction M with
   | nil=>intro _; rfl
   | cons i M ih =>
    intro h;rw [List.cons_append,List.takeWhile_cons,h i List.mem_cons_self];simp only [Bool.not_false,if_true];rw [ih (fun j hj=>h j (List.mem_cons_of_mem _ hj))]
  exact this _ (fun i hi=>hn i (List.mem_of_mem_drop hi))
 unfold nV;simp only [e,List.length_drop,List.length_append,List.length_cons,List.length_nil];rw [if_pos (by omega)];simp only [Prod.mk.injEq,true_and];omega
inductive Does:List (List It)->Nat->Lk.Obj->Nat->Lk.Obj->Prop where
 | nil (s:Nat) (o:Lk.Obj):Does [] s o s o
 | cons {L:List It} {Ls:List (List It)} {s s' s'':Nat} {o o' o'':Lk.Obj}:bn L s o s' o'->Does Ls s' o' s'' o''->Does (L :: Ls) s o s'' o''
def join (Ls:List (List It)):List It:=Ls.flatMap (· ++ [.nl])
theorem AZ (l:List It) (st:St) (hp:st.p=l.length) (hf:st.fe=0) (n:Nat):(lines (nV l) (n+1) st).fe=0/\(lines (nV l) (n+1) st).obj=st.obj:=by
 obtain ⟨p,tok,fe,fa,op,ah,obj⟩:=st;simp only at hp hf;subst hp hf;have e1:(nV l).next l.length=(⟨4,l.length,[],0⟩,(0,0),l.length):=by
  unfold nV;simp only [List.getElem?_eq_none_iff.2 (Nat.le_refl l.length)]
 have e2:(nV l).le l.length=(false,l.length):=by
  unfold nV;simp only;rw [List.drop_length];simp
 have a1:advance (nV l) ⟨l.length,tok,0,fa,op,ah,obj⟩=⟨l.length,⟨4,l.length,[],0⟩,0,fa,op,ah,obj⟩:=by
  unfold advance;rw [e1];rfl
 have a2:line (nV l) ⟨l.length,tok,0,fa,op,ah,obj⟩=⟨l.length,⟨4,l.length,[],0⟩,0,fa,op,ah,obj⟩:=by
  unfold line;rw [a1];rfl
 unfold lines;rw [a2];have a3:bG (nV l) ⟨l.length,⟨4,l.length,[],0⟩,0,fa,op,ah,obj⟩=(false,⟨l.length,⟨4,l.length,[],0⟩,0,fa,op,ah,obj⟩):=by
  unfold bG;rw [e2];rfl
 rw [a3];exact ⟨rfl,rfl⟩
theorem xU {Ls:List (List It)} {s s':Nat} {o o':Lk.Obj} (h:Does Ls s o s' o'):∀ (a:List It) (st:St) (n:Nat),st.p=a.length->st.fe=0->st.ah=s->st.obj=o->Ls.length<=n ->
  (lines (nV (a ++ join Ls)) (n+1) st).fe=0/\(lines (nV (a ++ join Ls)) (n+1) st).obj=o':=by
 induction h with
 | nil s o =>
  intro a st n hp hf _ ho _
  have:a ++ join []=a:=List.append_nil a
  rw [this];have q:=AZ a st hp hf n;rw [ho] at q;exact q
 | @cons L Ls s s1 s2 o o1 o2 hL hLs ih =>
  intro a st n hp hf hs ho hn;obtain ⟨m,rfl⟩:∃ m,n=m+1:=⟨n - 1,by simp at hn; omega⟩
  have j:join (L :: Ls)=L ++ (.nl :: join Ls):=by unfold join; rw [List.flatMap_cons,List.append_assoc]; rfl
  rw [j];obtain ⟨tok,op,fa,f,g,e,hfq⟩:=He a L (join Ls) hL.1 st hp hf;rw [hs,ho] at e;obtain ⟨d1,d2,d3⟩:=hL.2 tok op fa;generalize line (Bp L) ⟨0,tok,0,fa,op,s,o⟩=r at *;have step:lines (nV (a ++ (L ++ (.nl :: join Ls)))) (m+1+1) st=lines (nV (a ++ (L ++ (.nl :: join Ls)))) (m+1) { aD f g r with p:=(a ++ (L ++ [It.nl])).length }:=by
   conv=>lhs; unfold lines
   rw [e];obtain ⟨q,hq,eq⟩:=hfq r.p;have nx:bG (nV (a ++ (L ++ (.nl :: join Ls)))) (aD f g r)=(true,{ aD f g r with p:=(a ++ (L ++ [It.nl])).length }):=by
    unfold bG;have nf:failed (aD f g r)=false:=by unfold failed aD; simp [d1]
    rw [nf];simp only [Bool.false_eq_true,if_false]
    have:(aD f g r).p=a.length+q:=eq
    rw [this,Oq a L (join Ls) hL.1 q hq]
   rw [nx];rfl
  rw [step];have w:a ++ (L ++ (.nl :: join Ls))=(a ++ (L ++ [.nl])) ++ join Ls:=by simp
  rw [w];exact ih (a ++ (L ++ [It.nl])) ⟨(a ++ (L ++ [It.nl])).length,dU g r.tok,r.fe,g r.fa,dU g r.op,r.ah,r.obj⟩ m rfl d1 d2 d3 (by simp at hn; omega)
theorem rX {Ls:List (List It)} {s':Nat} {o':Lk.Obj} (h:Does Ls 1 start.obj s' o') (hg:∀ i∈join Ls,gN i) (ha:apart (join Ls)=true) (h0:blanks (join Ls)[0]?=0) (hl:(spells (join Ls)).length<=1000) (hn:Ls.length<=(spells (join Ls)).length) :
  (As.assemble (spells (join Ls))).1.1=0/\(As.assemble (spells (join Ls))).2=finish o':=by
 have A:=agree (join Ls) hg ha h0;have B:=CJ (join Ls) hg;have st0:aD (qN (join Ls)) (lie (join Ls)) start=start:=by
  have z:lie (join Ls) 0=0:=A.zero;unfold aD start;simp only [z];rw [zQ A];rfl
 have e:As.lines (spells (join Ls)) ((spells (join Ls)).length+1) start=aD (qN (join Ls)) (lie (join Ls)) (lines (nV (join Ls)) ((spells (join Ls)).length+1) start):=by
  rw [CQ,<- Hg A B,st0]
 have q:=xU h [] start (spells (join Ls)).length rfl rfl rfl rfl hn;rw [List.nil_append] at q;unfold As.assemble;rw [if_neg (by omega),e];generalize lines (nV (join Ls)) ((spells (join Ls)).length+1) start=X at *;obtain ⟨x1,x2,x3,x4,x5,x6,x7⟩:=X;exact ⟨q.1,congrArg finish q.2⟩
end At
end Go.Proofs.YtpgklkhgfcjceaaGreatDoor

namespace Go.Proofs.YtpgklkhgfcjceaaGreatDoor
namespace At
open As
def more (o:Lk.Obj) (ws:List Int):Lk.Obj:={ o with text:=o.text ++ ws }
def ended (st:St):St:=if st.tok.kind == 4 then st else refuse 3 st.tok.pos st
theorem lW (ws:List Int) (p:Nat) (tok:Tok) (fa:Nat) (op:Tok) (o:Lk.Obj) (hk:tok.kind=4) (h:o.text.length+ws.length<=1200) :
  ended (lay ws ⟨p,tok,0,fa,op,1,o⟩)=⟨p,tok,0,fa,op,1,more o ws⟩:=by
 have c:¬ 4 * limit 1 < 4 * bK o 1+4 * (ws.length:Int):=by
  have e1:limit 1=1200:=rfl;have e2:bK o 1=o.text.length:=rfl;rw [e1,e2];omega
 have e:lay ws ⟨p,tok,0,fa,op,1,o⟩=⟨p,tok,0,fa,op,1,more o ws⟩:=by
  unfold lay;simp only;rw [if_neg c];rfl
 rw [e];unfold ended;simp only [hk];rfl
def wd (b:Nat) (t:List UInt8):It:=.tok b 1 t 0
def sn (c:UInt8):It:=.tok 0 3 [c] 0
def nm (t:List UInt8) (n:Nat):It:=.tok 0 2 t n
def zn (neg:Bool) (t:List UInt8) (n:Nat):List It:=if neg then [sn 45,nm t n] else [nm t n]
theorem DV:y5 [wd 0 [101,99,97,108,108]]:=by
 intro i hi;simp at hi;subst hi;rfl
theorem kT (o:Lk.Obj) (h:o.text.length+1<=1200):bn [wd 0 [101,99,97,108,108]] 1 o 1 (more o [115]):=by
 refine ⟨DV,fun tok op fa=>?_⟩;have e:line (Bp [wd 0 [101,99,97,108,108]]) ⟨0,tok,0,fa,op,1,o⟩=ended (lay [115] ⟨1,⟨4,2,[],0⟩,0,fa,⟨1,1,[101,99,97,108,108],0⟩,1,o⟩):=by kernel_rfl
 rw [e,lW [115] 1 ⟨4,2,[],0⟩ fa _ o rfl h];exact ⟨rfl,rfl,rfl⟩
def kP (r:Nat) (v:Int):List Int:=if -2048<=v/\v<=2047 then [(enc 13 r 0 0 v:Int)] else [(enc 1 r 0 0 (dJ v):Int),(enc 13 r r 0 (bP v):Int)]
theorem kZ (r:Nat) (v:Int):1<=(kP r v).length/\(kP r v).length<=2:=by
 unfold kP;split <;> simp
theorem Dr (r:Nat) (v lo hi:Int) (S1 S2:St) (h0:lo<=v) (h1:v<=hi) :
  (let c:=(if v < lo\/hi < v then ((0:Int),S1) else (v,S2)); if -2048<=c.1/\c.1<=2047 then bC 13 r 0 0 c.1 c.2 else lay [(enc 1 r 0 0 (dJ c.1):Int),(enc 13 r r 0 (bP c.1):Int)] c.2)=lay (kP r v) S2:=by
 have e:(if v < lo\/hi < v then ((0:Int),S1) else (v,S2))=(v,S2):=if_neg (by omega);rw [e];unfold kP bC;simp only;split <;> rfl
theorem uF {L:List It} (h:(L.all fun i=>!nL i)=true):y5 L:=fun i hi=>by
 have:=List.all_eq_true.1 h i hi
 simpa using this
theorem dZ (L:List It) (o o':Lk.Obj) (ws:List Int) (i:Nat) (m:List UInt8) (hn:(L.all fun i=>!nL i)=true)
  (e:∀ tok op fa,line (Bp L) ⟨0,tok,0,fa,op,1,o⟩=ended (lay ws ⟨L.length,⟨4,L.length+1,[],0⟩,0,fa,⟨1,i,m,0⟩,1,o'⟩)) (h:o'.text.length+ws.length<=1200):bn L 1 o 1 (more o' ws):=by
 refine ⟨uF hn,fun tok op fa=>?_⟩;rw [e,lW ws L.length ⟨4,L.length+1,[],0⟩ fa _ o' rfl h];exact ⟨rfl,rfl,rfl⟩
theorem uy (L:List It) (o o':Lk.Obj) (r:Nat) (v:Int) (i:Nat) (S1:Nat->St) (hn:(L.all fun i=>!nL i)=true)
  (e:∀ tok op fa,line (Bp L) ⟨0,tok,0,fa,op,1,o⟩=ended (let c:=(if v < -2147483648\/2147483647 < v then ((0:Int),S1 fa) else (v,⟨L.length,⟨4,L.length+1,[],0⟩,0,fa,⟨1,i,[108,105],0⟩,1,o'⟩)); if -2048<=c.1/\c.1<=2047 then bC 13 r 0 0 c.1 c.2 else lay [(enc 1 r 0 0 (dJ c.1):Int),(enc 13 r r 0 (bP c.1):Int)] c.2))
  (h0:-2147483648<=v) (h1:v<=2147483647) (h:o'.text.length+2<=1200):bn L 1 o 1 (more o' (kP r v)):=by
 refine ⟨uF hn,fun tok op fa=>?_⟩;rw [e,Dr r v _ _ _ _ h0 h1,lW _ L.length ⟨4,L.length+1,[],0⟩ fa _ o' rfl (by have:=kZ r v; omega)];exact ⟨rfl,rfl,rfl⟩
end At
end Go.Proofs.YtpgklkhgfcjceaaGreatDoor

namespace Go.Proofs.YtpgklkhgfcjceaaGreatDoor
namespace At
open As
theorem tJ (o:Lk.Obj) (h:o.text.length+1<=1200):bn [wd 0 [108,105],wd 1 [120,49,55],sn 44,nm [49] 1] 1 o 1 (more o [(enc 13 17 0 0 1:Int)]):=dZ _ o o [(enc 13 17 0 0 1:Int)] 1 [108,105] rfl (fun _ _ _=>by kernel_rfl) h
theorem Ba (o:Lk.Obj) (h:o.text.length+1<=1200):bn [wd 0 [108,105],wd 1 [120,49,55],sn 44,nm [48] 0] 1 o 1 (more o [(enc 13 17 0 0 0:Int)]):=dZ _ o o [(enc 13 17 0 0 0:Int)] 1 [108,105] rfl (fun _ _ _=>by kernel_rfl) h
theorem oZ (o:Lk.Obj) (h:o.text.length+1<=1200):bn [wd 0 [108,105],wd 1 [120,49,48],sn 44,nm [49] 1] 1 o 1 (more o [(enc 13 10 0 0 1:Int)]):=dZ _ o o [(enc 13 10 0 0 1:Int)] 1 [108,105] rfl (fun _ _ _=>by kernel_rfl) h
theorem mI (o:Lk.Obj) (h:o.text.length+1<=1200):bn [wd 0 [108,105],wd 1 [120,49,48],sn 44,nm [48] 0] 1 o 1 (more o [(enc 13 10 0 0 0:Int)]):=dZ _ o o [(enc 13 10 0 0 0:Int)] 1 [108,105] rfl (fun _ _ _=>by kernel_rfl) h
theorem Ku (o:Lk.Obj) (h:o.text.length+1<=1200):bn [wd 0 [97,100,100],wd 1 [120,49,48],sn 44,wd 0 [120,53],sn 44,wd 0 [120,54]] 1 o 1 (more o [(enc 18 10 5 6 0:Int)]):=dZ _ o o [(enc 18 10 5 6 0:Int)] 1 [97,100,100] rfl (fun _ _ _=>by kernel_rfl) h
theorem KC (o:Lk.Obj) (h:o.text.length+1<=1200):bn [wd 0 [115,117,98],wd 1 [120,49,48],sn 44,wd 0 [120,53],sn 44,wd 0 [120,54]] 1 o 1 (more o [(enc 19 10 5 6 0:Int)]):=dZ _ o o [(enc 19 10 5 6 0:Int)] 1 [115,117,98] rfl (fun _ _ _=>by kernel_rfl) h
theorem KA (o:Lk.Obj) (h:o.text.length+1<=1200):bn [wd 0 [115,108,116],wd 1 [120,49,48],sn 44,wd 0 [120,53],sn 44,wd 0 [120,54]] 1 o 1 (more o [(enc 20 10 5 6 0:Int)]):=dZ _ o o [(enc 20 10 5 6 0:Int)] 1 [115,108,116] rfl (fun _ _ _=>by kernel_rfl) h
theorem Hr (o:Lk.Obj) (h:o.text.length+1<=1200):bn [wd 0 [115,108,116,117],wd 1 [120,49,48],sn 44,wd 0 [120,53],sn 44,wd 0 [120,54]] 1 o 1 (more o [(enc 21 10 5 6 0:Int)]):=dZ _ o o [(enc 21 10 5 6 0:Int)] 1 [115,108,116,117] rfl (fun _ _ _=>by kernel_rfl) h
theorem KE (o:Lk.Obj) (h:o.text.length+1<=1200):bn [wd 0 [120,111,114],wd 1 [120,49,48],sn 44,wd 0 [120,53],sn 44,wd 0 [120,54]] 1 o 1 (more o [(enc 22 10 5 6 0:Int)]):=dZ _ o o [(enc 22 10 5 6 0:Int)] 1 [120,111,114] rfl (fun _ _ _=>by kernel_rfl) h
theorem Ou (o:Lk.Obj) (h:o.text.length+1<=1200):bn [wd 0 [111,114],wd 1 [120,49,48],sn 44,wd 0 [120,53],sn 44,wd 0 [120,54]] 1 o 1 (more o [(enc 23 10 5 6 0:Int)]):=dZ _ o o [(enc 23 10 5 6 0:Int)] 1 [111,114] rfl (fun _ _ _=>by kernel_rfl) h
theorem Kv (o:Lk.Obj) (h:o.text.length+1<=1200):bn [wd 0 [97,110,100],wd 1 [120,49,48],sn 44,wd 0 [120,53],sn 44,wd 0 [120,54]] 1 o 1 (more o [(enc 24 10 5 6 0:Int)]):=dZ _ o o [(enc 24 10 5 6 0:Int)] 1 [97,110,100] rfl (fun _ _ _=>by kernel_rfl) h
theorem Dz (t:List UInt8) (n:Nat) (o:Lk.Obj) (h:o.text.length+2<=1200) (hn:(n:Int)<=2147483647):bn [wd 0 [108,105],wd 1 [120,54],sn 44,nm t n] 1 o 1 (more o (kP 6 ((n:Int)))):=uy _ o o 6 ((n:Int)) 1 (fun fa=>refuse 8 4 ⟨4,⟨2,4,t,n⟩,0,fa,⟨1,1,[108,105],0⟩,1,o⟩) rfl (fun _ _ _=>by kernel_rfl) (by omega) (by omega) h
theorem Dy (t:List UInt8) (n:Nat) (o:Lk.Obj) (h:o.text.length+2<=1200) (hn:(n:Int)<=2147483648):bn [wd 0 [108,105],wd 1 [120,54],sn 44,sn 45,nm t n] 1 o 1 (more o (kP 6 (-(n:Int)))):=uy _ o o 6 (-(n:Int)) 1 (fun fa=>refuse 8 4 ⟨5,⟨2,5,t,n⟩,0,fa,⟨1,1,[108,105],0⟩,1,o⟩) rfl (fun _ _ _=>by kernel_rfl) (by omega) (by omega) h
theorem xX (t:List UInt8) (n:Nat) (hn:(n:Int)<=2147483647):bn [wd 0 [95,115,116,97,114,116],sn 58,wd 1 [108,105],wd 1 [120,53],sn 44,nm t n] 1 ⟨[],[],[],0,[2,2,2,2],[⟨[95,115,116,97,114,116],1,0,0⟩],[]⟩ 1 (more ⟨[],[],[],0,[2,2,2,2],[⟨[95,115,116,97,114,116],1,1,0⟩],[]⟩ (kP 5 ((n:Int)))):=uy _ ⟨[],[],[],0,[2,2,2,2],[⟨[95,115,116,97,114,116],1,0,0⟩],[]⟩ ⟨[],[],[],0,[2,2,2,2],[⟨[95,115,116,97,114,116],1,1,0⟩],[]⟩ 5 ((n:Int)) 3 (fun fa=>refuse 8 6 ⟨6,⟨2,6,t,n⟩,0,fa,⟨1,3,[108,105],0⟩,1,⟨[],[],[],0,[2,2,2,2],[⟨[95,115,116,97,114,116],1,1,0⟩],[]⟩⟩) rfl (fun _ _ _=>by kernel_rfl) (by omega) (by omega) (by simp)
theorem xW (t:List UInt8) (n:Nat) (hn:(n:Int)<=2147483648):bn [wd 0 [95,115,116,97,114,116],sn 58,wd 1 [108,105],wd 1 [120,53],sn 44,sn 45,nm t n] 1 ⟨[],[],[],0,[2,2,2,2],[⟨[95,115,116,97,114,116],1,0,0⟩],[]⟩ 1 (more ⟨[],[],[],0,[2,2,2,2],[⟨[95,115,116,97,114,116],1,1,0⟩],[]⟩ (kP 5 (-(n:Int)))):=uy _ ⟨[],[],[],0,[2,2,2,2],[⟨[95,115,116,97,114,116],1,0,0⟩],[]⟩ ⟨[],[],[],0,[2,2,2,2],[⟨[95,115,116,97,114,116],1,1,0⟩],[]⟩ 5 (-(n:Int)) 3 (fun fa=>refuse 8 6 ⟨7,⟨2,7,t,n⟩,0,fa,⟨1,3,[108,105],0⟩,1,⟨[],[],[],0,[2,2,2,2],[⟨[95,115,116,97,114,116],1,1,0⟩],[]⟩⟩) rfl (fun _ _ _=>by kernel_rfl) (by omega) (by omega) (by simp)
theorem Hl (t:List UInt8) (n:Nat) (o:Lk.Obj) (h:o.text.length+1<=1200) (hn:n<=2047):bn [wd 0 [97,100,100,105],wd 1 [120,49,48],sn 44,wd 0 [120,53],sn 44,sn 45,nm t n] 1 o 1 (more o [(enc 13 10 5 0 (-(n:Int)):Int)]):=by
 refine ⟨?_,fun tok op fa=>?_⟩
 ·intro i hi;simp only [List.mem_cons,List.not_mem_nil,or_false] at hi;rcases hi with rfl | rfl | rfl | rfl | rfl | rfl | rfl <;> rfl
 have e:line (Bp [wd 0 [97,100,100,105],wd 1 [120,49,48],sn 44,wd 0 [120,53],sn 44,sn 45,nm t n]) ⟨0,tok,0,fa,op,1,o⟩=ended (let c:=(if -(n:Int) < -2048\/2047 < -(n:Int) then ((0:Int),refuse 8 6 ⟨7,⟨2,7,t,n⟩,0,fa,⟨1,1,[97,100,100,105],0⟩,1,o⟩) else (-(n:Int),⟨7,⟨4,8,[],0⟩,0,fa,⟨1,1,[97,100,100,105],0⟩,1,o⟩)); bC 13 10 5 0 c.1 c.2):=by kernel_rfl
 have e2:(if -(n:Int) < -2048\/2047 < -(n:Int) then ((0:Int),refuse 8 6 ⟨7,⟨2,7,t,n⟩,0,fa,⟨1,1,[97,100,100,105],0⟩,1,o⟩) else (-(n:Int),⟨7,⟨4,8,[],0⟩,0,fa,⟨1,1,[97,100,100,105],0⟩,1,o⟩))=(-(n:Int),⟨7,⟨4,8,[],0⟩,0,fa,⟨1,1,[97,100,100,105],0⟩,1,o⟩):=if_neg (by omega);rw [e,e2];have e3:ended (let c:=((-(n:Int),⟨7,⟨4,8,[],0⟩,0,fa,⟨1,1,[97,100,100,105],0⟩,1,o⟩):Int×St); bC 13 10 5 0 c.1 c.2)=ended (lay [(enc 13 10 5 0 (-(n:Int)):Int)] ⟨7,⟨4,8,[],0⟩,0,fa,⟨1,1,[97,100,100,105],0⟩,1,o⟩):=rfl;rw [e3,lW [(enc 13 10 5 0 (-(n:Int)):Int)] 7 ⟨4,8,[],0⟩ fa _ o rfl h];exact ⟨rfl,rfl,rfl⟩
theorem Ho (t:List UInt8) (n:Nat) (o:Lk.Obj) (h:o.text.length+1<=1200) (hn:n<=2047):bn [wd 0 [97,110,100,105],wd 1 [120,49,48],sn 44,wd 0 [120,54],sn 44,nm t n] 1 o 1 (more o [(enc 17 10 6 0 ((n:Int)):Int)]):=by
 refine ⟨?_,fun tok op fa=>?_⟩
 ·intro i hi;simp only [List.mem_cons,List.not_mem_nil,or_false] at hi;rcases hi with rfl | rfl | rfl | rfl | rfl | rfl <;> rfl
 have e:line (Bp [wd 0 [97,110,100,105],wd 1 [120,49,48],sn 44,wd 0 [120,54],sn 44,nm t n]) ⟨0,tok,0,fa,op,1,o⟩=ended (let c:=(if (n:Int) < -2048\/2047 < (n:Int) then ((0:Int),refuse 8 6 ⟨6,⟨2,6,t,n⟩,0,fa,⟨1,1,[97,110,100,105],0⟩,1,o⟩) else ((n:Int),⟨6,⟨4,7,[],0⟩,0,fa,⟨1,1,[97,110,100,105],0⟩,1,o⟩)); bC 17 10 6 0 c.1 c.2):=by kernel_rfl
 have e2:(if (n:Int) < -2048\/2047 < (n:Int) then ((0:Int),refuse 8 6 ⟨6,⟨2,6,t,n⟩,0,fa,⟨1,1,[97,110,100,105],0⟩,1,o⟩) else ((n:Int),⟨6,⟨4,7,[],0⟩,0,fa,⟨1,1,[97,110,100,105],0⟩,1,o⟩))=((n:Int),⟨6,⟨4,7,[],0⟩,0,fa,⟨1,1,[97,110,100,105],0⟩,1,o⟩):=if_neg (by omega);rw [e,e2];have e3:ended (let c:=(((n:Int),⟨6,⟨4,7,[],0⟩,0,fa,⟨1,1,[97,110,100,105],0⟩,1,o⟩):Int×St); bC 17 10 6 0 c.1 c.2)=ended (lay [(enc 17 10 6 0 ((n:Int)):Int)] ⟨6,⟨4,7,[],0⟩,0,fa,⟨1,1,[97,110,100,105],0⟩,1,o⟩):=rfl;rw [e3,lW [(enc 17 10 6 0 ((n:Int)):Int)] 6 ⟨4,7,[],0⟩ fa _ o rfl h];exact ⟨rfl,rfl,rfl⟩
theorem Kw (q:List Int) (h:q.length+1<=1200):bn [wd 0 [98,108,116],wd 1 [120,53],sn 44,wd 0 [120,54],sn 44,wd 0 [97]] 1 ⟨q,[],[],0,[2,2,2,2],[⟨[95,115,116,97,114,116],1,1,0⟩],[]⟩ 1 (more ⟨q,[],[],0,[2,2,2,2],[⟨[95,115,116,97,114,116],1,1,0⟩,⟨[97],0,0,0⟩],[⟨1,4 * (q.length:Int),2,1,0⟩]⟩ [(enc 7 0 5 6 0:Int)]):=dZ _ _ _ [(enc 7 0 5 6 0:Int)] 1 [98,108,116] rfl (fun _ _ _=>by kernel_rfl) h
theorem Uo (q:List Int) (u:Int) (h:q.length+1<=1200):bn [wd 0 [97],sn 58,wd 1 [101,99,97,108,108]] 1 ⟨q,[],[],0,[2,2,2,2],[⟨[95,115,116,97,114,116],1,1,0⟩,⟨[97],0,0,0⟩],[⟨1,u,2,1,0⟩]⟩ 1 (more ⟨q,[],[],0,[2,2,2,2],[⟨[95,115,116,97,114,116],1,1,0⟩,⟨[97],0,1,4 * (q.length:Int)⟩],[⟨1,u,2,1,0⟩]⟩ [115]):=dZ _ _ _ [115] 3 [101,99,97,108,108] rfl (fun _ _ _=>by kernel_rfl) h
theorem Hq (q:List Int) (u v:Int) (h:q.length+1<=1200):bn [wd 0 [98,103,101,117],wd 1 [120,53],sn 44,wd 0 [120,54],sn 44,wd 0 [98]] 1 ⟨q,[],[],0,[2,2,2,2],[⟨[95,115,116,97,114,116],1,1,0⟩,⟨[97],0,1,u⟩],[⟨1,v,2,1,0⟩]⟩ 1 (more ⟨q,[],[],0,[2,2,2,2],[⟨[95,115,116,97,114,116],1,1,0⟩,⟨[97],0,1,u⟩,⟨[98],0,0,0⟩],[⟨1,v,2,1,0⟩,⟨1,4 * (q.length:Int),2,2,0⟩]⟩ [(enc 10 0 5 6 0:Int)]):=dZ _ _ _ [(enc 10 0 5 6 0:Int)] 1 [98,103,101,117] rfl (fun _ _ _=>by kernel_rfl) h
theorem Uq (q:List Int) (u v x:Int) (h:q.length+1<=1200):bn [wd 0 [98],sn 58,wd 1 [101,99,97,108,108]] 1 ⟨q,[],[],0,[2,2,2,2],[⟨[95,115,116,97,114,116],1,1,0⟩,⟨[97],0,1,u⟩,⟨[98],0,0,0⟩],[⟨1,v,2,1,0⟩,⟨1,x,2,2,0⟩]⟩ 1 (more ⟨q,[],[],0,[2,2,2,2],[⟨[95,115,116,97,114,116],1,1,0⟩,⟨[97],0,1,u⟩,⟨[98],0,1,4 * (q.length:Int)⟩],[⟨1,v,2,1,0⟩,⟨1,x,2,2,0⟩]⟩ [115]):=dZ _ _ _ [115] 3 [101,99,97,108,108] rfl (fun _ _ _=>by kernel_rfl) h
theorem Ky (q:List Int) (u v x y:Int) (h:q.length+1<=1200):bn [wd 0 [98,110,101],wd 1 [120,53],sn 44,wd 0 [120,54],sn 44,wd 0 [99]] 1 ⟨q,[],[],0,[2,2,2,2],[⟨[95,115,116,97,114,116],1,1,0⟩,⟨[97],0,1,u⟩,⟨[98],0,1,v⟩],[⟨1,x,2,1,0⟩,⟨1,y,2,2,0⟩]⟩ 1 (more ⟨q,[],[],0,[2,2,2,2],[⟨[95,115,116,97,114,116],1,1,0⟩,⟨[97],0,1,u⟩,⟨[98],0,1,v⟩,⟨[99],0,0,0⟩],[⟨1,x,2,1,0⟩,⟨1,y,2,2,0⟩,⟨1,4 * (q.length:Int),2,3,0⟩]⟩ [(enc 6 0 5 6 0:Int)]):=dZ _ _ _ [(enc 6 0 5 6 0:Int)] 1 [98,110,101] rfl (fun _ _ _=>by kernel_rfl) h
theorem Ur (q:List Int) (u v x y z:Int) (h:q.length+1<=1200):bn [wd 0 [99],sn 58,wd 1 [101,99,97,108,108]] 1 ⟨q,[],[],0,[2,2,2,2],[⟨[95,115,116,97,114,116],1,1,0⟩,⟨[97],0,1,u⟩,⟨[98],0,1,v⟩,⟨[99],0,0,0⟩],[⟨1,x,2,1,0⟩,⟨1,y,2,2,0⟩,⟨1,z,2,3,0⟩]⟩ 1 (more ⟨q,[],[],0,[2,2,2,2],[⟨[95,115,116,97,114,116],1,1,0⟩,⟨[97],0,1,u⟩,⟨[98],0,1,v⟩,⟨[99],0,1,4 * (q.length:Int)⟩],[⟨1,x,2,1,0⟩,⟨1,y,2,2,0⟩,⟨1,z,2,3,0⟩]⟩ [115]):=dZ _ _ _ [115] 3 [101,99,97,108,108] rfl (fun _ _ _=>by kernel_rfl) h
theorem Dx:bn [wd 0 [46,103,108,111,98,108],wd 1 [95,115,116,97,114,116]] 1 start.obj 1 ⟨[],[],[],0,[2,2,2,2],[⟨[95,115,116,97,114,116],1,0,0⟩],[]⟩:=by
 exact ⟨uF rfl,fun tok op fa=>⟨by kernel_rfl,by kernel_rfl,by kernel_rfl⟩⟩
end At
end Go.Proofs.YtpgklkhgfcjceaaGreatDoor
