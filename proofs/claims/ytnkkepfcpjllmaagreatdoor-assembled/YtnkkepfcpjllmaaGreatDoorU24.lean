
import Derived.Test.YtnkkepfcpjllmaaGreatDoorU23
import Derived.KernelRfl
set_option maxHeartbeats 16000000
set_option maxRecDepth 100000
namespace Go.Proofs.YtnkkepfcpjllmaaGreatDoor
theorem BM (n:Int) (low count:Nat):As.dQ n low count < 2 ^ count:=by
 unfold As.dQ;have h:(0:Int) < (2:Int) ^ count:=Int.pow_pos (by decide);have a:=Int.emod_lt_of_pos (n / (2:Int) ^ low) h;have b:=Int.emod_nonneg (n / (2:Int) ^ low) (Int.ne_of_gt h);have e:((2 ^ count:Nat):Int)=(2:Int) ^ count:=by simp
 omega
theorem yiY (form:Nat) (n:Int):As.place' form n < 2 ^ 32:=by
 have a1:=BM n 0 20;have a2:=BM n 20 1;have a3:=BM n 1 10;have a4:=BM n 11 1;have a5:=BM n 12 8;have a6:=BM n 0 12;have a7:=BM n 12 1;have a8:=BM n 5 6;have a9:=BM n 1 4;have aa:=BM n 5 7;have ab:=BM n 0 5;unfold As.place'
 repeat' split
 ·omega
 ·exact Nat.or_lt_two_pow (Nat.or_lt_two_pow (Nat.or_lt_two_pow (by omega) (by omega)) (by omega)) (by omega)
 ·omega
 ·exact Nat.or_lt_two_pow (Nat.or_lt_two_pow (Nat.or_lt_two_pow (by omega) (by omega)) (by omega)) (by omega)
 ·exact Nat.or_lt_two_pow (by omega) (by omega)
 ·omega
theorem yiw (op:Nat):As.jP.getD op 0 < 2 ^ 32:=by
 have h:∀ x∈As.jP,x < 2 ^ 32:=by decide
 rw [mP]
 cases e:As.jP[op]? with
 | none=>simp
 | some x=>exact h x (List.mem_of_getElem? e)
theorem ykE (op rd bK dJ:Nat) (n:Int):As.enc op rd bK dJ n < 2 ^ 32:=by
 unfold As.enc As.gV;have p:=yiY (As.forms.getD op 0) n;have f:=yiw op;have b1:=BM rd 0 5;have b2:=BM bK 0 5;have b3:=BM dJ 0 5;generalize As.forms.getD op 0=form at *;have w0:=Nat.or_lt_two_pow f p;generalize As.jP.getD op 0 ||| As.place' form n=x0 at *;have w1:(if As.iY form then x0 ||| As.dQ rd 0 5 * 128 else x0) < 2 ^ 32:=by
  split
  ·exact Nat.or_lt_two_pow w0 (by omega)
  ·exact w0
 dsimp only;generalize (if As.iY form then x0 ||| As.dQ rd 0 5 * 128 else x0)=x1 at *;have w2:(if As.gW form then x1 ||| As.dQ bK 0 5 * 32768 else x1) < 2 ^ 32:=by
  split
  ·exact Nat.or_lt_two_pow w1 (by omega)
  ·exact w1
 generalize (if As.gW form then x1 ||| As.dQ bK 0 5 * 32768 else x1)=x2 at *;split
 ·exact Nat.or_lt_two_pow w2 (by omega)
 ·exact w2
namespace As
theorem iJ (op rd bK dJ:Nat) (n:Int):tY ((enc op rd bK dJ n:Nat):Int):=by
 have:=ykE op rd bK dJ n
 unfold tY;omega
theorem j6 {w:Int} (h:tY w):∀ x∈[w],tY x:=fun x hx=>by rw [List.mem_singleton] at hx; rw [hx]; exact h
theorem Bu {v w:Int} (h:tY v) (k:tY w):∀ x∈[v,w],tY x:=fun x hx=>by
 simp only [List.mem_cons,List.not_mem_nil,or_false] at hx;rcases hx with rfl | rfl
 ·exact h
 ·exact k
instance (n:Int):Decidable (yV n):=by unfold yV; infer_instance
instance (n:Int):Decidable (iB n):=by unfold iB; infer_instance
instance (k a b:Int):Decidable (zq k a b):=by unfold zq nT nA oz; infer_instance
theorem xA:∀ op,op < 11->5<=op->∀ a,a < 32->∀ b,b < 32->yV ((enc op 0 a b 0:Nat):Int):=by decide +kernel
theorem Ej:∀ a,a < 32->iB ((enc 3 a 0 0 0:Nat):Int):=by decide +kernel
theorem goes_call:zq 4 ((enc 2 1 0 0 0:Nat):Int) ((enc 4 1 1 0 0:Nat):Int)/\zq 4 ((enc 2 6 0 0 0:Nat):Int) ((enc 4 0 6 0 0:Nat):Int):=by decide +kernel
theorem uU:∀ r,r < 32->r≠0->zq 5 ((enc 1 r 0 0 0:Nat):Int) ((enc 13 r r 0 0:Nat):Int)/\zq 5 ((enc 1 r 0 0 0:Nat):Int) ((enc 11 r r 0 0:Nat):Int):=by decide +kernel
theorem GZ:∀ r,r < 32->r≠0->∀ a,a < 32->zq 5 ((enc 1 r 0 0 0:Nat):Int) ((enc 12 0 r a 0:Nat):Int):=by decide +kernel
abbrev Cd (st:St):Prop:=st.fe=0->st.ah=1\/st.ah=2
theorem Cd.q {st st':St} (h:Cd st) (k:Q st st'):Cd st':=fun x=>by rw [k.ah]; exact h (k.fe x)
theorem gY (s:List UInt8) (op:Nat) (st:St) (h:P st):P (bA s op st):=jV _ _ (h.q (((((bJ _ _).trans (gZ _ _ _)).trans (bJ _ _)).trans (gZ _ _ _)).trans (bJ _ _))) fun _=>j6 (iJ _ _ _ _ _)
theorem jd (s:List UInt8) (op:Nat) (st:St) (h:P st):P (bC s op st):=jV _ _ (h.q (((((bJ _ _).trans (gZ _ _ _)).trans (bJ _ _)).trans (gZ _ _ _)).trans (iL _ _ _ _))) fun _=>j6 (iJ _ _ _ _ _)
theorem Ij (s:List UInt8) (st:St) (h:P st):P (upper s st):=jV _ _ (h.q (((bJ _ _).trans (gZ _ _ _)).trans (iL _ _ _ _))) fun _=>j6 (iJ _ _ _ _ _)
theorem sP (s:List UInt8) (st:St) (h:P st):P (bN s st):=jV _ _ (h.q (((bJ _ _).trans (gZ _ _ _)).trans (vZ _ _))) fun _=>j6 (iJ _ _ _ _ _)
theorem Aa (st:St) (h:P st):P (bare st):=nP (jV _ _ h fun _=>j6 (iJ _ _ _ _ _)) (nP (jV _ _ h fun _=>j6 (iJ _ _ _ _ _)) (nP (jV _ _ h fun _=>j6 (iJ _ _ _ _ _)) h))
theorem Km (s:List UInt8) (st:St) (h:P st):P (move s st):=jV _ _ (h.q (((bJ _ _).trans (gZ _ _ _)).trans (bJ _ _))) fun _=>j6 (iJ _ _ _ _ _)
theorem vY (s:List UInt8) (st:St) (h:P st):P (bZ s st):=by
 have q:=((bJ s st).trans (gZ s [44] _)).trans (iL s (-2147483648) 2147483647 _);exact nP (jV _ _ (h.q q) fun _=>j6 (iJ _ _ _ _ _)) (jV _ _ (h.q q) fun _=>Bu (iJ _ _ _ _ _) (iJ _ _ _ _ _))
theorem Bn (kind:Int) (hk:kind=2\/kind=3\/kind=4) (sy:Nat) (ws:List Int) (st:St) (h:P st) (hc:Cd st) (hs:st.fe=0->sy < st.obj.syms.length) (hw:∀ w∈ws,tY w) (hl:(ws.length:Int)=if kind=4 then 2 else 1) (hg:yt kind ws):P (bG kind sy 0 ws st):=by
 refine kY kind sy 0 ws st h (fun x=>by rcases hc x with c | c <;> omega) (fun _=>hw) fun x off=>?_
 have c:=hc x;have s':=hs x;refine ⟨?_,?_,?_,?_,?_,hg⟩
 ·unfold yC;simp only
  left
  constructor
  ·rcases c with c | c
   ·left; omega
   ·right; omega
  ·omega
 ·unfold yk;simp only;rw [if_neg (by omega),if_neg (by omega)]
  trivial
 ·unfold yS;simp only;rw [if_neg (by omega)];omega
 ·intro e;simp only at e;omega
 ·unfold yo;simp only;rw [hl];rcases hk with rfl | rfl | rfl <;> simp
theorem kX (s:List UInt8) (op:Nat) (st:St) (h:P st) (hc:Cd st) (ho:5<=op/\op < 11):P (branch s op st):=by
 have q:=(((bJ s st).trans (gZ s [44] _)).trans (bJ s _)).trans (gZ s [44] _);obtain ⟨a,b,c,-,e⟩:=oU s _ (h.q q);unfold branch;simp only;exact Bn 2 (by omega) _ _ _ a (fun x=>by rw [c]; exact (hc.q q) (e x)) b (j6 (iJ _ _ _ _ _)) (by simp) (xA op ho.2 ho.1 _ (iq _ _) _ (iq _ _))
theorem u7 (s:List UInt8) (rd:Nat) (st:St) (hr:rd < 32) (h:P st) (hc:Cd st):P (fE s rd st):=by
 obtain ⟨a,b,c,-,e⟩:=oU s st h;exact Bn 3 (by omega) _ _ _ a (fun x=>by rw [c]; exact hc (e x)) b (j6 (iJ _ _ _ _ _)) (by simp) (Ej rd hr)
theorem Ab (s:List UInt8) (st:St) (h:P st) (hc:Cd st):P (eX s st):=by
 have q:=(bJ s st).trans (gZ s [44] _);exact u7 s _ _ (iq _ _) (h.q q) (hc.q q)
theorem EU (s:List UInt8) (st:St) (h:P st) (hc:Cd st):P (call s st):=by
 obtain ⟨a,b,c,-,e⟩:=oU s st h;unfold call;simp only;by_cases t:(st.op.text == [116,97,105,108])=true
 ·simp only [t,if_true];exact Bn 4 (by omega) _ _ _ a (fun x=>by rw [c]; exact hc (e x)) b (Bu (iJ _ _ _ _ _) (iJ _ _ _ _ _)) (by simp) goes_call.2
 ·simp only [t];exact Bn 4 (by omega) _ _ _ a (fun x=>by rw [c]; exact hc (e x)) b (Bu (iJ _ _ _ _ _) (iJ _ _ _ _ _)) (by simp) goes_call.1
theorem lF (r op rd bK dJ sy:Nat) (add:Int) (st:St) (h:P st) (hc:Cd st) (hs:st.fe=0->sy < st.obj.syms.length/\-2048<=add/\add<=2047) (hg:r≠0->zq 5 ((enc 1 r 0 0 0:Nat):Int) ((enc op rd bK dJ 0:Nat):Int)):P (bR r op rd bK dJ 0 sy add st):=by
 unfold bR;by_cases z:r=0
 ·have e:aJ (r == 0) 7 st.op.pos st=refuse 7 st.op.pos st:=by unfold aJ; rw [if_pos (by simp [z])]
  rw [e];have f:=dn 7 st.op.pos st (by decide);exact kY _ _ _ _ _ (h.q (dM _ _ _)) (fun x=>absurd x f) (fun x=>absurd x f) (fun x=>absurd x f)
 ·have e:aJ (r == 0) 7 st.op.pos st=st:=by unfold aJ; rw [if_neg (by simpa using z)]
  rw [e];refine kY 5 sy add _ st h (fun x=>by rcases hc x with c | c <;> omega) (fun _=>Bu (iJ _ _ _ _ _) (iJ _ _ _ _ _)) fun x off=>?_
  have c:=hc x;obtain ⟨s1,s2,s3⟩:=hs x;refine ⟨?_,?_,?_,?_,by unfold yo; simp,hg z⟩
  ·unfold yC;simp only
   left
   constructor
   ·rcases c with c | c
    ·left; omega
    ·right; omega
   ·omega
  ·unfold yk;rw [if_pos (.inr rfl)];exact ⟨s2,s3⟩
  ·unfold yS;simp only;rw [if_neg (by omega)];omega
  ·intro e;simp only at e;omega
theorem uF (s:List UInt8) (st:St) (h:P st) (hc:Cd st):P (bS s st):=by
 have q:=(bJ s st).trans (gZ s [44] _);obtain ⟨a,b,c,-,e⟩:=oV s _ (h.q q);exact lF _ _ _ _ _ _ _ _ a (fun x=>by rw [c]; exact (hc.q q) (e x)) b fun z=>(uU _ (iq _ _) z).1
theorem Kl (s:List UInt8) (st:St) (h:P st) (hc:Cd st):P (load s st):=by
 have q:=(bJ s st).trans (gZ s [44] _);unfold load;simp only;split
 ·obtain ⟨a,b,c,-,e⟩:=oV s _ (h.q q);exact lF _ _ _ _ _ _ _ _ a (fun x=>by rw [c]; exact (hc.q q) (e x)) b fun z=>(uU _ (iq _ _) z).2
 ·exact jV _ _ (h.q (q.trans (vZ _ _))) fun _=>j6 (iJ _ _ _ _ _)
theorem Ii (s:List UInt8) (st:St) (h:P st) (hc:Cd st):P (store s st):=by
 have q:=(bJ s st).trans (gZ s [44] _);unfold store;simp only;split
 ·obtain ⟨a,b,c,-,e⟩:=oV s _ (h.q q);have q2:=(gZ s [44] (target s (sign s [44] (register s st).2)).2).trans (bJ s _);exact lF _ _ _ _ _ _ _ _ (a.q q2) (fun x=>by rw [q2.ah,c]; exact (hc.q q) (e (q2.fe x))) (fun x=>by rw [q2.obj]; exact b (q2.fe x)) fun z=>GZ _ (iq _ _) z _ (iq _ _)
 ·exact jV _ _ (h.q (q.trans (vZ _ _))) fun _=>j6 (iJ _ _ _ _ _)
theorem uE (s:List UInt8) (t:Tok) (i:Nat) (hi:Rf.pJ[i]?=some t.text) (st:St) (h:P st) (hc:Cd st):P (instruction s (shapeOf t.text) (named t.text) st):=by
 have lt:i < 32:=(List.getElem?_eq_some_iff.1 hi).1;rcases (show i=0\/i=1\/i=2\/i=3\/i=4\/i=5\/i=6\/i=7\/i=8\/i=9\/i=10\/i=11\/i=12\/i=13\/i=14\/i=15\/i=16\/i=17\/i=18\/i=19\/i=20\/i=21\/i=22\/i=23\/i=24\/i=25\/i=26\/i=27\/i=28\/i=29\/i=30\/i=31 by omega) with rfl | rfl | rfl | rfl | rfl | rfl | rfl | rfl | rfl | rfl | rfl | rfl | rfl | rfl | rfl | rfl | rfl | rfl | rfl | rfl | rfl | rfl | rfl | rfl | rfl | rfl | rfl | rfl | rfl | rfl | rfl | rfl
 ·have ht:t.text=[97,100,100]:=(Option.some.inj hi).symm;rw [ht,show shapeOf [97,100,100]=1 by kernel_rfl,show named [97,100,100]=18 by kernel_rfl,show instruction s 1 18 st=bA s 18 st by kernel_rfl];exact gY s _ _ h
 ·have ht:t.text=[115,117,98]:=(Option.some.inj hi).symm;rw [ht,show shapeOf [115,117,98]=1 by kernel_rfl,show named [115,117,98]=19 by kernel_rfl,show instruction s 1 19 st=bA s 19 st by kernel_rfl];exact gY s _ _ h
 ·have ht:t.text=[115,108,116]:=(Option.some.inj hi).symm;rw [ht,show shapeOf [115,108,116]=1 by kernel_rfl,show named [115,108,116]=20 by kernel_rfl,show instruction s 1 20 st=bA s 20 st by kernel_rfl];exact gY s _ _ h
 ·have ht:t.text=[115,108,116,117]:=(Option.some.inj hi).symm;rw [ht,show shapeOf [115,108,116,117]=1 by kernel_rfl,show named [115,108,116,117]=21 by kernel_rfl,show instruction s 1 21 st=bA s 21 st by kernel_rfl];exact gY s _ _ h
 ·have ht:t.text=[120,111,114]:=(Option.some.inj hi).symm;rw [ht,show shapeOf [120,111,114]=1 by kernel_rfl,show named [120,111,114]=22 by kernel_rfl,show instruction s 1 22 st=bA s 22 st by kernel_rfl];exact gY s _ _ h
 ·have ht:t.text=[111,114]:=(Option.some.inj hi).symm;rw [ht,show shapeOf [111,114]=1 by kernel_rfl,show named [111,114]=23 by kernel_rfl,show instruction s 1 23 st=bA s 23 st by kernel_rfl];exact gY s _ _ h
 ·have ht:t.text=[97,110,100]:=(Option.some.inj hi).symm;rw [ht,show shapeOf [97,110,100]=1 by kernel_rfl,show named [97,110,100]=24 by kernel_rfl,show instruction s 1 24 st=bA s 24 st by kernel_rfl];exact gY s _ _ h
 ·have ht:t.text=[97,100,100,105]:=(Option.some.inj hi).symm;rw [ht,show shapeOf [97,100,100,105]=2 by kernel_rfl,show named [97,100,100,105]=13 by kernel_rfl,show instruction s 2 13 st=bC s 13 st by kernel_rfl];exact jd s _ _ h
 ·have ht:t.text=[115,108,116,105]:=(Option.some.inj hi).symm;rw [ht,show shapeOf [115,108,116,105]=2 by kernel_rfl,show named [115,108,116,105]=14 by kernel_rfl,show instruction s 2 14 st=bC s 14 st by kernel_rfl];exact jd s _ _ h
 ·have ht:t.text=[120,111,114,105]:=(Option.some.inj hi).symm;rw [ht,show shapeOf [120,111,114,105]=2 by kernel_rfl,show named [120,111,114,105]=15 by kernel_rfl,show instruction s 2 15 st=bC s 15 st by kernel_rfl];exact jd s _ _ h
 ·have ht:t.text=[111,114,105]:=(Option.some.inj hi).symm;rw [ht,show shapeOf [111,114,105]=2 by kernel_rfl,show named [111,114,105]=16 by kernel_rfl,show instruction s 2 16 st=bC s 16 st by kernel_rfl];exact jd s _ _ h
 ·have ht:t.text=[97,110,100,105]:=(Option.some.inj hi).symm;rw [ht,show shapeOf [97,110,100,105]=2 by kernel_rfl,show named [97,110,100,105]=17 by kernel_rfl,show instruction s 2 17 st=bC s 17 st by kernel_rfl];exact jd s _ _ h
 ·have ht:t.text=[98,101,113]:=(Option.some.inj hi).symm;rw [ht,show shapeOf [98,101,113]=8 by kernel_rfl,show named [98,101,113]=5 by kernel_rfl,show instruction s 8 5 st=branch s 5 st by kernel_rfl];exact kX s _ _ h hc (by decide)
 ·have ht:t.text=[98,110,101]:=(Option.some.inj hi).symm;rw [ht,show shapeOf [98,110,101]=8 by kernel_rfl,show named [98,110,101]=6 by kernel_rfl,show instruction s 8 6 st=branch s 6 st by kernel_rfl];exact kX s _ _ h hc (by decide)
 ·have ht:t.text=[98,108,116]:=(Option.some.inj hi).symm;rw [ht,show shapeOf [98,108,116]=8 by kernel_rfl,show named [98,108,116]=7 by kernel_rfl,show instruction s 8 7 st=branch s 7 st by kernel_rfl];exact kX s _ _ h hc (by decide)
 ·have ht:t.text=[98,103,101]:=(Option.some.inj hi).symm;rw [ht,show shapeOf [98,103,101]=8 by kernel_rfl,show named [98,103,101]=8 by kernel_rfl,show instruction s 8 8 st=branch s 8 st by kernel_rfl];exact kX s _ _ h hc (by decide)
 ·have ht:t.text=[98,108,116,117]:=(Option.some.inj hi).symm;rw [ht,show shapeOf [98,108,116,117]=8 by kernel_rfl,show named [98,108,116,117]=9 by kernel_rfl,show instruction s 8 9 st=branch s 9 st by kernel_rfl];exact kX s _ _ h hc (by decide)
 ·have ht:t.text=[98,103,101,117]:=(Option.some.inj hi).symm;rw [ht,show shapeOf [98,103,101,117]=8 by kernel_rfl,show named [98,103,101,117]=10 by kernel_rfl,show instruction s 8 10 st=branch s 10 st by kernel_rfl];exact kX s _ _ h hc (by decide)
 ·have ht:t.text=[108,117,105]:=(Option.some.inj hi).symm;rw [ht,show shapeOf [108,117,105]=3 by kernel_rfl,show instruction s 3 (named [108,117,105]) st=upper s st by kernel_rfl];exact Ij s _ h
 ·have ht:t.text=[106,97,108]:=(Option.some.inj hi).symm;rw [ht,show shapeOf [106,97,108]=9 by kernel_rfl,show instruction s 9 (named [106,97,108]) st=eX s st by kernel_rfl];exact Ab s _ h hc
 ·have ht:t.text=[106,97,108,114]:=(Option.some.inj hi).symm;rw [ht,show shapeOf [106,97,108,114]=6 by kernel_rfl,show instruction s 6 (named [106,97,108,114]) st=bN s st by kernel_rfl];exact sP s _ h
 ·have ht:t.text=[108,105]:=(Option.some.inj hi).symm;rw [ht,show shapeOf [108,105]=12 by kernel_rfl,show instruction s 12 (named [108,105]) st=bZ s st by kernel_rfl];exact vY s _ h
 ·have ht:t.text=[108,97]:=(Option.some.inj hi).symm;rw [ht,show shapeOf [108,97]=14 by kernel_rfl,show instruction s 14 (named [108,97]) st=bS s st by kernel_rfl];exact uF s _ h hc
 ·have ht:t.text=[109,118]:=(Option.some.inj hi).symm;rw [ht,show shapeOf [109,118]=11 by kernel_rfl,show instruction s 11 (named [109,118]) st=move s st by kernel_rfl];exact Km s _ h
 ·have ht:t.text=[99,97,108,108]:=(Option.some.inj hi).symm;rw [ht,show shapeOf [99,97,108,108]=13 by kernel_rfl,show instruction s 13 (named [99,97,108,108]) st=call s st by kernel_rfl];exact EU s _ h hc
 ·have ht:t.text=[116,97,105,108]:=(Option.some.inj hi).symm;rw [ht,show shapeOf [116,97,105,108]=13 by kernel_rfl,show instruction s 13 (named [116,97,105,108]) st=call s st by kernel_rfl];exact EU s _ h hc
 ·have ht:t.text=[106]:=(Option.some.inj hi).symm;rw [ht,show shapeOf [106]=10 by kernel_rfl,show instruction s 10 (named [106]) st=fE s 0 st by kernel_rfl];exact u7 s 0 _ (by decide) h hc
 ·have ht:t.text=[101,99,97,108,108]:=(Option.some.inj hi).symm;rw [ht,show shapeOf [101,99,97,108,108]=7 by kernel_rfl,show instruction s 7 (named [101,99,97,108,108]) st=bare st by kernel_rfl];exact Aa _ h
 ·have ht:t.text=[110,111,112]:=(Option.some.inj hi).symm;rw [ht,show shapeOf [110,111,112]=7 by kernel_rfl,show instruction s 7 (named [110,111,112]) st=bare st by kernel_rfl];exact Aa _ h
 ·have ht:t.text=[114,101,116]:=(Option.some.inj hi).symm;rw [ht,show shapeOf [114,101,116]=7 by kernel_rfl,show instruction s 7 (named [114,101,116]) st=bare st by kernel_rfl];exact Aa _ h
 ·have ht:t.text=[108,119]:=(Option.some.inj hi).symm;rw [ht,show shapeOf [108,119]=4 by kernel_rfl,show instruction s 4 (named [108,119]) st=load s st by kernel_rfl];exact Kl s _ h hc
 ·have ht:t.text=[115,119]:=(Option.some.inj hi).symm;rw [ht,show shapeOf [115,119]=5 by kernel_rfl,show instruction s 5 (named [115,119]) st=store s st by kernel_rfl];exact Ii s _ h hc
end As
end Go.Proofs.YtnkkepfcpjllmaaGreatDoor

namespace Go.Proofs.YtnkkepfcpjllmaaGreatDoor
namespace As
theorem rX (t:Tok) (st:St) (ht:rP t) (hk:t.kind=1) (h:(aP t st).fe=0):uS t.text:=by
 obtain ⟨w1,w2,w3⟩:=ht hk;have ff:failed (aP t st)=false:=by unfold failed; simp [h]
 have l6:=jI t st ff;have hp:bX t.text=false:=by
  unfold aP at ff;exact mG _ _ _ (by decide) _ (gJ _ _ _ _ (gJ _ _ _ _ ff))
 refine ⟨?_,l6,fun c hc=>?_,w3⟩
 ·cases e:t.text with
  | nil=>exact absurd e w1
  | cons c r=>simp
 ·have iw:=w2 c hc;have np:¬ c.toNat=46:=by
   intro x;unfold bX at hp;rw [List.any_eq_false] at hp;exact hp c hc (by simp [x])
  unfold aI aK at iw;simp only [Bool.or_eq_true,Bool.and_eq_true,decide_eq_true_eq,beq_iff_eq] at iw;unfold lU;omega
theorem Ig (t:Tok) (st:St) (h:P st) (ht:rP t) (hk:t.kind=1):P (label t st):=by
 have q:=qy t st;obtain ⟨a,b,c,-⟩:=kK t (aP t st) (h.q q) (fun x=>rX t st ht hk x);unfold label;simp only;generalize au t (aP t st)=R at *;split
 ·exact a
 split
 ·exact a.q (dM _ _ _)
 ·unfold lH;refine ⟨a.tok,fun x=>?_,a.ah⟩;have iv:=a.iv x;have sc:=a.ah x;have nn:0<=aA R.2.obj R.2.ah:=Rf.nR _ _ iv.bss.1;refine Er R.2.obj R.1.1 _ iv (fun y=>rfl) (fun y hy=>⟨hy.name,hy.bind,?_,?_,?_⟩) (fun r hr y hy e=>?_)
  ·show 0<=(R.2.ah:Int)/\(R.2.ah:Int)<=4;omega
  ·show 0<=4 * aA R.2.obj R.2.ah/\4 * aA R.2.obj R.2.ah % 4=0;omega
  ·show 4 * aA R.2.obj R.2.ah<=4 * nC R.2.obj R.2.ah;rw [oo];omega
  ·right
   have e':(R.2.ah:Int)=r.ah:=e;have re:=Bq (iv.aj r hr).ab;have k:=(iv.aj r hr).kind;unfold yC at k;rw [<- e',qC R.2.obj R.2.ah (by omega)] at re;exact re
theorem Kj (s:List UInt8) (b:Int) (hb:b=1\/b=2) (st:St) (h:P st):P (bind s b st):=by
 have q:=EZ s st;obtain ⟨a,-,-,-⟩:=kK (name s st).1 (name s st).2 (h.q q) (fun x=>u6 s st h.tok x);unfold bind;simp only;generalize au (name s st).1 (name s st).2=R at *;split
 ·exact a
 split
 ·exact a.q (dM _ _ _)
 ·unfold lH;refine ⟨a.tok,fun x=>?_,a.ah⟩;have iv:=a.iv x;exact Er R.2.obj R.1.1 _ iv (fun y=>rfl) (fun y hy=>⟨hy.name,(by show 0<=b/\b<=2; omega),hy.ah,hy.off,hy.low⟩) (fun r hr y hy e=>iv.apart r hr y hy e)
theorem Kn (s:List UInt8) (st:St) (h:P st) (h4:st.fe=0->st.ah≠4):P (word s st):=by
 unfold word;simp only;split
 ·obtain ⟨a,b,c,-,e⟩:=oV s st h;refine kY 1 _ _ _ _ a (fun x=>by rw [c]; have:=h4 (e x); have:=h.ah (e x); omega) (fun _=>j6 ⟨by decide,by decide⟩) fun x off=>?_
  have sc:=h.ah (e x);have n4:=h4 (e x);obtain ⟨s1,s2,s3⟩:=b x;refine ⟨?_,?_,?_,?_,by unfold yo; simp,?_⟩
  ·rw [c];rcases (show st.ah=1\/st.ah=2\/st.ah=3 by omega) with z | z | z
   ·exact .inl ⟨.inl (by show (st.ah:Int)=1; omega),by show (1:Int)<=1/\(1:Int)<=6; decide⟩
   ·exact .inl ⟨.inr (by show (st.ah:Int)=2; omega),by show (1:Int)<=1/\(1:Int)<=6; decide⟩
   ·exact .inr ⟨by show (st.ah:Int)=3; omega,rfl⟩
  ·unfold yk;rw [if_pos (.inl rfl)];exact ⟨s2,s3⟩
  ·unfold yS;simp only;rw [if_neg (by omega)];omega
  ·intro e;simp only at e;omega
  ·rfl
 ·refine jV _ _ (h.q (iL _ _ _ _)) fun _=>j6 ?_
  unfold tY;omega
theorem FM (n:Nat) (w:Int) (h:tY w):∀ x∈List.replicate n w,tY x:=fun x hx=>by rw [(List.mem_replicate.1 hx).2]; exact h
theorem Ih (s:List UInt8) (st:St) (h:P st):P (space s st):=by
 unfold space;simp only;split
 ·exact jV _ _ (h.q (iL _ _ _ _)) fun _=>FM _ _ ⟨by decide,by decide⟩
 ·exact (h.q (iL _ _ _ _)).q (dM _ _ _)
theorem Og (o:Lk.Obj) (ah:Nat) (k:Int) (h:Iv o) (hk:2<=k/\k<=4):Iv (Rf.up ah k o):=by
 obtain ⟨e1,e2,e3,e4,e5,e6⟩:=Rf.wG ah k o;have al:(Rf.up ah k o).align.length=4/\∀ x∈(Rf.up ah k o).align,2<=x/\x<=4:=by
  unfold Rf.up;split
  ·refine ⟨by simp [h.align.1],fun x hx=>?_⟩;rcases List.mem_or_eq_of_mem_set hx with y | y
   ·exact h.align.2 x y
   ·rw [y]; exact hk
  ·exact h.align
 have mono:∀ i,o.align.getD i 0<=(Rf.up ah k o).align.getD i 0:=fun i=>by
  unfold Rf.up;split
  ·rename_i c;rw [mP,mP];show (o.align[i]?).getD 0<=((o.align.set (ah - 1) k)[i]?).getD 0;rw [List.getElem?_set];by_cases z:ah - 1=i
   ·rw [if_pos z];rw [z] at c;by_cases l:i < o.align.length
    ·rw [if_pos (by rw [z]; exact l)];show _<=k;omega
    ·rw [if_neg (by rw [z]; exact l),List.getElem?_eq_none (by omega)];exact Int.le_refl _
   ·rw [if_neg z];exact Int.le_refl _
  ·exact Int.le_refl _
 have ws:∀ z,ym (Rf.up ah k o) z=ym o z:=fun z=>by unfold ym; rw [e1,e2,e3]
 refine ⟨by rw [e1]; exact h.text,by rw [e2]; exact h.far,by rw [e3]; exact h.data,by rw [e4]; exact h.bss,by rw [e5]; exact h.EP,by rw [e6]; exact h.EM,al,by rw [e1]; exact h.wt,by rw [e2]; exact h.wf,by rw [e3]; exact h.wd,fun y hy=>?_,by rw [e5]; exact h.uniq,fun r hr=>?_,by rw [e6]; exact h.order,by rw [e6,e5]; exact h.apart⟩
 ·rw [e5] at hy;obtain ⟨a,b,c,d,e⟩:=h.syms y hy;refine ⟨a,b,c,d,?_⟩;unfold nC at e ⊢;rw [e4,ws];exact e
 ·rw [e6] at hr;obtain ⟨a,b,c,d,e,f⟩:=h.aj r hr;refine ⟨a,b,?_,fun x=>?_,?_,?_⟩
  ·unfold yS at *; rw [e5]; exact c
  ·have d':=d x;have m:=mono (r.ah.toNat - 1);have kk:=a;unfold yC at kk;have lo:2<=o.align.getD (r.ah.toNat - 1) 0/\o.align.getD (r.ah.toNat - 1) 0<=4:=by
    rw [mP,kg (by rw [h.align.1]; omega)];exact h.align.2 _ (lM _)
   have hi:(Rf.up ah k o).align.getD (r.ah.toNat - 1) 0<=4:=by
    rw [mP,kg (by rw [al.1]; omega)];exact (al.2 _ (lM _)).2
   unfold pG at d' ⊢;generalize o.align.getD (r.ah.toNat - 1) 0=u at *;generalize (Rf.up ah k o).align.getD (r.ah.toNat - 1) 0=v at *;rcases (show u=2\/u=3\/u=4 by omega) with rfl | rfl | rfl <;> rcases (show v=2\/v=3\/v=4 by omega) with rfl | rfl | rfl <;> simp at d' ⊢ <;> omega
  ·unfold yv at *; rw [ws]; exact e
  ·unfold yF at *; rw [ws]; exact f
theorem Ie (s:List UInt8) (st:St) (h:P st):P (align s st):=by
 have q:=iL s 2 4 st;have rg:=lD s 2 4 st;have hp:=h.q q;unfold align;simp only;generalize number s 2 4 st=A at *;by_cases f:A.2.fe=0
 ·have hf:failed A.2=false:=by unfold failed; simp [f]
  obtain ⟨r1,r2⟩:=rg f;rw [hf,<- Rf.rU];simp only [Bool.false_eq_true,if_false];have hu:P (aC A.1 A.2):=by
   rw [Rf.dN];exact ⟨hp.tok,fun x=>Og _ _ _ (hp.iv x) ⟨r1,r2⟩,hp.ah⟩
  have se:(aC A.1 A.2).ah=A.2.ah:=by rw [Rf.dN]
  have iv:=hp.iv f;have sc:=hp.ah f;obtain ⟨k,hk⟩:∃ k:Nat,A.1=k:=⟨A.1.toNat,by omega⟩
  have kk:k=2\/k=3\/k=4:=by omega
  have big:(k:Int)<=(aC A.1 A.2).obj.align.getD (A.2.ah - 1) 0:=by
   rw [Rf.dN];unfold Rf.up;show (k:Int)<=(if _ then _ else A.2.obj:Lk.Obj).align.getD (A.2.ah - 1) 0;split
   ·rw [mP];show (k:Int)<=((A.2.obj.align.set (A.2.ah - 1) A.1)[A.2.ah - 1]?).getD 0;rw [List.getElem?_set,if_pos rfl,if_pos (by rw [iv.align.1]; omega),hk];exact Int.le_refl _
   ·rename_i c;rw [mP];omega
  unfold dA;split
  ·split
   ·rename_i ic bd;rw [se] at ic;have s12:A.2.ah=1\/A.2.ah=2:=by unfold gL at ic; simpa using ic
    have iu:=hu.iv (by rw [Rf.dN]; exact f);have hi:=iu.align;refine kY 6 0 _ _ _ hu (fun _=>by rw [se]; omega) (fun _=>FM _ _ ⟨by decide,by decide⟩) fun x off=>?_
    rw [se];have up4:(aC A.1 A.2).obj.align.getD (A.2.ah - 1) 0<=4:=by
     rw [mP,kg (by rw [hi.1]; omega)];exact (hi.2 _ (lM _)).2
    generalize hv:(aC A.1 A.2).obj.align.getD (A.2.ah - 1) 0=v at *;have vv:v=2\/v=3\/v=4:=by omega
    have ev:(aC A.1 A.2).obj.align.getD ((A.2.ah:Int).toNat - 1) 0=v:=by rw [<- hv]; congr 1
    have kd:yC ⟨A.2.ah,off,6,(0:Nat),((2 ^ A.1.toNat:Nat):Int) - 4⟩:=by
     rcases s12 with z | z
     ·exact .inl ⟨.inl (by show (A.2.ah:Int)=1; omega),by show (1:Int)<=6/\(6:Int)<=6; decide⟩
     ·exact .inl ⟨.inr (by show (A.2.ah:Int)=2; omega),by show (1:Int)<=6/\(6:Int)<=6; decide⟩
    refine ⟨kd,?_,rfl,fun _=>?_,?_,?_⟩
    ·show (((2 ^ A.1.toNat:Nat):Int) - 4=4\/((2 ^ A.1.toNat:Nat):Int) - 4=12);rw [hk] at bd ⊢;simp only [Int.toNat_natCast] at bd ⊢;rcases kk with rfl | rfl | rfl
     ·simp at bd
     ·decide
     ·decide
    ·show ((2 ^ A.1.toNat:Nat):Int) - 4+4<=pG ((aC A.1 A.2).obj.align.getD ((A.2.ah:Int).toNat - 1) 0);rw [ev,hk];simp only [Int.toNat_natCast];unfold pG;rcases kk with rfl | rfl | rfl <;> rcases vv with rfl | rfl | rfl <;> simp at big ⊢
    ·show ((List.replicate (2 ^ A.1.toNat / 4 - 1) (19:Int)).length:Int)=(((2 ^ A.1.toNat:Nat):Int) - 4) / 4;rw [hk];simp only [Int.toNat_natCast,List.length_replicate];rcases kk with rfl | rfl | rfl <;> decide
    ·show zB _;intro i hi';exact (List.mem_replicate.1 (lM hi')).2
   ·exact hu
  ·exact jV _ _ hu fun _=>FM _ _ ⟨by decide,by decide⟩
 ·have hf:failed A.2=true:=by unfold failed; simp [f]
  rw [hf];exact hp
end As
end Go.Proofs.YtnkkepfcpjllmaaGreatDoor

namespace Go.Proofs.YtnkkepfcpjllmaaGreatDoor
namespace As
theorem CK (st:St) (h:P st):P (dz st):=by
 unfold dz;exact nP ⟨h.tok,h.iv,fun _=>by show 1<=1/\1<=4; omega⟩ (nP ⟨h.tok,h.iv,fun _=>by show 1<=2/\2<=4; omega⟩ (nP ⟨h.tok,h.iv,fun _=>by show 1<=3/\3<=4; omega⟩ (nP ⟨h.tok,h.iv,fun _=>by show 1<=4/\4<=4; omega⟩ h)))
theorem xK (s:List UInt8) (shape:Nat) (st:St) (h:P st) (h4:shape=16->st.fe=0->st.ah≠4):P (directive s shape st):=by
 unfold directive;split
 ·exact CK _ h
 split
 ·exact Kn s st h (h4 (by assumption))
 split
 ·exact Ih s st h
 split
 ·exact Ie s st h
 split
 ·unfold binding;refine Kj s _ ?_ st h;split
  ·exact .inl rfl
  ·exact .inr rfl
 ·exact h
theorem GN (w:List UInt8):eU w=0\/15<=eU w:=by
 unfold eU
 (repeat' split) <;> omega
theorem xM (s:List UInt8) (t:Tok) (st:St) (h:P st):P (operation s t st):=by
 unfold operation;split
 ·exact h.q (dM _ _ _)
 rename_i nz;split
 ·exact h.q (dM _ _ _)
 rename_i ms;have ms':dX (shapeOf t.text) st.ah=true:=by simpa using ms
 have h':P { st with op:=t }:=⟨h.tok,h.iv,h.ah⟩
 split
 ·rename_i le;have hm:t.text∈Rf.pJ:=by
   by_cases c:t.text∈Rf.pJ
   ·exact c
   ·exfalso
    by_cases hd:t.text.headD 0=46
    ·rw [Rf.vB _ hd] at nz le;rcases GN t.text with x | x
     ·exact nz x
     ·omega
    ·exact nz (Rf.sW _ hd c)
  obtain ⟨i,hi,e⟩:=List.getElem_of_mem hm;have hc:Cd { st with op:=t }:=fun x=>by
   unfold dX at ms';rw [if_pos le] at ms';unfold gL at ms';show st.ah=1\/st.ah=2;simpa using ms'
  exact uE s t i (by rw [kg hi,e]) _ h' hc
 ·rename_i gt;refine xK s _ _ h' fun e _=>?_
  unfold dX at ms';rw [if_neg gt,e] at ms';show st.ah≠4;simpa using ms'
theorem xL (s:List UInt8) (t:Tok) (st:St) (h:P st):P (gM s t st):=by
 unfold gM;simp only;have o:P (if t.kind == 1 then operation s t st else st):=nP (xM s t st h) h;exact nP o (o.q (dM _ _ _))
theorem Ak (s:List UInt8) (st:St) (h:rP st.tok):rP (aU s st).1:=by
 unfold aU;split
 ·exact h
 ·exact kZ
theorem Kk (s:List UInt8) (st:St) (h:P st):P (line s st):=by
 have a:=h.q (gq s st);have w:=a.q (sV s _);unfold line;simp only;split
 ·rename_i c;have k1:(aU s (advance s st)).1.kind=1:=by
   rw [Bool.and_eq_true] at c;simpa using c.1
  have l:=Ig _ _ w (Ak s _ a.tok) k1;have v:=(l.q (gq s _)).q (sV s _);exact xL s _ _ v
 ·exact xL s _ _ w
theorem Bl (s:List UInt8) (n:Nat):∀ st,P st->P (lines s n st):=by
 induction n with
 | zero=>intro st h; exact h
 | succ n ih =>
  intro st h;have l:=Kk s st h;have nl:P (bO s (line s st)).2:=by
   unfold bO;split
   ·exact l
   ·exact ⟨l.tok,l.iv,l.ah⟩
  unfold lines;simp only;split
  ·exact ih _ nl
  ·exact nl
theorem Bo:P start:=⟨kZ,fun _=>Es,fun _=>by decide⟩
theorem Hq (s:List UInt8) (h:(assemble s).1.1=0):∃ o,Iv o/\(assemble s).2=finish o:=by
 unfold assemble at h ⊢;by_cases c:1000 < s.length
 ·rw [if_pos c] at h; cases h
 ·rw [if_neg c] at h ⊢;exact ⟨_,(Bl s _ start Bo).iv h,rfl⟩
theorem Ey {n:List UInt8} (h:uS n):vF (bs n):=by
 obtain ⟨h1,h2,h3,h4⟩:=h;have sz:(bs n).size=n.length:=zw n;refine ⟨by omega,by omega,fun hp=>?_,fun i hi=>?_⟩
 ·cases n with
  | nil=>simp at h1
  | cons c r =>
   have d:=h4 c r rfl;unfold aK at d;have e:((bs (c :: r))[0]'hp)=c:=rfl;rw [e];simp only [Bool.and_eq_false_iff,decide_eq_false_iff_not] at d;omega
 ·have e:((bs n)[i]'hi)=n[i]'(by omega):=rfl;rw [e];exact h3 _ (lM _)
theorem tL {xs:List Int} (h:∀ w∈xs,tY w):mO xs:=fun _ hi=>h _ (lM hi)
theorem uD {rs:List Lk.Rel} (ho:rs.Pairwise fun a b=>a.ah=b.ah->a.off+4 * yo a<=b.off):(dx rs).Pairwise yT:=by
 have part:∀ z:Int,(rs.filter fun r=>decide (r.ah=z)).Pairwise yT:=fun z=>by
  have p:=ho.sublist (List.filter_sublist (p:=fun r=>decide (r.ah=z)));refine p.imp_of_mem fun {a b} ha hb hab=>?_
  have e1:a.ah=z:=by simpa using (List.mem_filter.1 ha).2
  have e2:b.ah=z:=by simpa using (List.mem_filter.1 hb).2
  unfold yT;rw [if_pos (e2.trans e1.symm)];exact hab (e1.trans e2.symm)
 have cross:∀ (y z:Int),y < z->∀ a∈rs.filter (fun r=>decide (r.ah=y)),∀ b∈rs.filter (fun r=>decide (r.ah=z)),yT a b:=fun y z hyz a ha b hb=>by
  have e1:a.ah=y:=by simpa using (List.mem_filter.1 ha).2
  have e2:b.ah=z:=by simpa using (List.mem_filter.1 hb).2
  unfold yT;rw [if_neg (by omega)];omega
 unfold dx;rw [List.pairwise_append,List.pairwise_append];refine ⟨⟨part 1,part 2,cross 1 2 (by decide)⟩,part 3,fun a ha b hb=>?_⟩;rcases List.mem_append.1 ha with x | x
 ·exact cross 1 3 (by decide) a x b hb
 ·exact cross 2 3 (by decide) a x b hb
theorem Hy {rs:List Lk.Rel} {r:Lk.Rel} (h:r∈dx rs):r∈rs:=by
 unfold dx at h;rcases List.mem_append.1 h with x | x
 ·rcases List.mem_append.1 x with y | y
  ·exact (List.mem_filter.1 y).1
  ·exact (List.mem_filter.1 y).1
 ·exact (List.mem_filter.1 x).1
theorem Ic {rs:List Lk.Rel} (hk:∀ r∈rs,yC r):(dx rs).length=rs.length:=by
 unfold dx;rw [iA,iA]
 induction rs with
 | nil=>rfl
 | cons r rs ih =>
  have i:=ih fun q hq=>hk q (List.mem_cons_of_mem _ hq)
  have k:=hk r List.mem_cons_self;unfold yC at k;rcases (show r.ah=1\/r.ah=2\/r.ah=3 by omega) with e | e | e <;> simp [e] at i ⊢ <;> omega
theorem wH (o:Lk.Obj) (h:Iv o):zl (finish o):=by
 have hk:∀ r∈o.aj,yC r:=fun r hr=>(h.aj r hr).kind
 have ws:∀ z,ym (finish o) z=ym o z:=fun _=>rfl
 have sl:∀ z,nC (finish o) z=nC o z:=fun _=>rfl
 have len:(dL o.syms).length=o.syms.length:=by unfold dL; simp
 have sy:∀ y∈(finish o).syms,∃ x∈o.syms,y.name=x.name/\y.ah=x.ah/\y.off=x.off/\(0<=y.bind/\y.bind<=2)/\¬ (y.ah=0/\y.bind=0):=fun y hy=>by
  have hy':y∈dL o.syms:=hy;unfold dL at hy';obtain ⟨x,hx,e⟩:=List.mem_map.1 hy';refine ⟨x,hx,?_⟩;have b:=(h.syms x hx).bind;by_cases c:x.ah=0/\x.bind=0
  ·rw [if_pos c] at e;rw [<- e];exact ⟨rfl,rfl,rfl,by show (0:Int)<=1/\(1:Int)<=2; decide,fun z=>by have:(1:Int)=0:=z.2; cases this⟩
  ·rw [if_neg c] at e;rw [<- e];exact ⟨rfl,rfl,rfl,b,c⟩
 refine ⟨⟨⟨h.text,h.far,h.data⟩,h.bss,by show (dL o.syms).length<=16; rw [len]; exact h.EP,by show (dx o.aj).length<=32; rw [Ic hk]; exact h.EM⟩,⟨h.align.1,fun i hi=>h.align.2 _ (lM hi)⟩,⟨tL h.wt,tL h.wf,tL h.wd⟩,fun i hi=>⟨?_,?_⟩,fun i hi=>⟨?_,?_⟩⟩
 ·obtain ⟨x,hx,e1,e2,e3,e4,e5⟩:=sy _ (lM hi);obtain ⟨a,b,c,d,e⟩:=h.syms x hx;refine ⟨by rw [e1]; exact Ey a,e4,by rw [e2]; exact c,e5,by rw [e3]; exact d.1,by rw [e3]; exact d.2,?_⟩;rw [e2,e3,sl];exact e
 ·rintro ⟨j,hj,hji,e⟩;have p:(o.syms.map (·.name)).Pairwise (·≠·):=List.pairwise_map.2 h.uniq;have em:(finish o).syms.map (·.name)=o.syms.map (·.name):=by
   show (dL o.syms).map (·.name)=_;unfold dL;rw [List.map_map];apply List.map_congr_left;intro y _;show (if _ then _ else y:Lk.Sym).name=y.name;split <;> rfl
  rw [<- em] at p;have q:=(List.pairwise_iff_getElem.1 p) j i (by simpa using hj) (by simpa using hi) hji;simp only [List.getElem_map] at q;exact q e
 ·have hr:=Hy (lM hi);obtain ⟨a,b,c,d,e,f⟩:=h.aj _ hr;refine ⟨a,b,?_,d,e,f,?_⟩
  ·unfold yS at *;have ez:((finish o).syms.length:Int)=o.syms.length:=congrArg Int.ofNat len;rw [ez];exact c
  ·rintro ⟨k,hkk,s1,s2,s3⟩;obtain ⟨x,hx,e1,e2,e3,-⟩:=sy _ (lM hkk);rw [e2] at s1;rw [e3] at s2 s3;rcases h.apart _ hr x hx s1 with z | z
   ·exact absurd s2 (by omega)
   ·exact absurd s3 (by omega)
 ·intro hi0;have p:=uD h.order;exact (List.pairwise_iff_getElem.1 p) (i - 1) i (Nat.lt_of_le_of_lt (Nat.sub_le i 1) hi) hi (by omega)
theorem Ck (s:List UInt8) (h:(assemble s).1.1=0):zl (assemble s).2:=by
 obtain ⟨o,iv,e⟩:=Hq s h;rw [e];exact wH o iv
end As
end Go.Proofs.YtnkkepfcpjllmaaGreatDoor

namespace Go.Proofs.YtnkkepfcpjllmaaGreatDoor
open Go.RowKit
section
instance (c:Int):Decidable (lU c):=by unfold lU; infer_instance
instance (s:ByteArray):Decidable (vF s):=by unfold vF; infer_instance
instance (xs:List Int):Decidable (mO xs):=by unfold mO; infer_instance
instance (xs:List Int):Decidable (rD xs):=by unfold rD; infer_instance
instance (o:Lk.Obj):Decidable (Jp o):=by unfold Jp; infer_instance
instance (o:Lk.Obj):Decidable (tN o):=by unfold tN; infer_instance
instance (o:Lk.Obj) (y:Lk.Sym):Decidable (F7 o y):=by unfold F7; infer_instance
instance (o:Lk.Obj):Decidable (KV o):=by unfold KV; infer_instance
instance (r:Lk.Rel):Decidable (yC r):=by unfold yC; infer_instance
instance (r:Lk.Rel):Decidable (yk r):=by unfold yk; infer_instance
instance (o:Lk.Obj) (r:Lk.Rel):Decidable (yS o r):=by unfold yS; infer_instance
instance (o:Lk.Obj) (r:Lk.Rel):Decidable (yQ o r):=by unfold yQ; infer_instance
instance (o:Lk.Obj) (r:Lk.Rel):Decidable (yv o r):=by unfold yv; infer_instance
instance (o:Lk.Obj) (r:Lk.Rel):Decidable (yN o r):=by unfold yN; infer_instance
instance (k:Int) (xs:List Int):Decidable (yt k xs):=by unfold yt yV iB zq nT nA oz zB; infer_instance
instance (o:Lk.Obj) (r:Lk.Rel):Decidable (yY o r):=by unfold yY; infer_instance
instance (a r:Lk.Rel):Decidable (yT a r):=by unfold yT; infer_instance
instance (o:Lk.Obj):Decidable (KU o):=by unfold KU; infer_instance
instance Lg (o:Lk.Obj):Decidable (zl o):=by unfold zl; infer_instance
end
theorem yfg (s:ByteArray) (w:World) (ht:gD w) (hN:pQ w) (hB:3<=w.heap.size) :
  Calls Tryz.prog 5 #[.string s] w fun e w'=>(∃ t fe fa,e = .returned (.tuple #[.string (bs t),qE fe fa])/\Told (sl s) t fe fa)/\w.grownBy w' none:=by
 have cA:=hid (ygM s (w.alloc (.cells (nU 0 0) 27)) (ht.grown (aW _ _ none)) (hN.below (WG (aW _ _ none) (Nat.le_refl _) (by simp)) hB) (by rw [wL]; omega));have b0:=hid (yd.new w (nU 0 0) 27);go_enter Tryz.func5,Tryz.ntmps5;go_wp2_with fail;refine cA.o.mono ?_;rintro e V1 ⟨⟨t,fe,fa,rfl,ht⟩,hg⟩;have HT:=hid ht;have FB:=hid (b0.o.grown hg (by simp));have FG:=hid (ya (aW w (.cells (nU 0 0) 27) none) hg);clear ht hg cA b0;unfold qE;have v0:=FB.o.free 0;have v1:=FB.o.free 1;have v2:=FB.o.free 2;have x0:=FB.o.cell 0;have x1:=FB.o.cell 1;have x2:=FB.o.cell 2;simp only [nU,bB,yml,bf] at x0 x1 x2;go_wp2
 have F:=vG [(0,.int .i64 fe),(1,.int .i64 fa),(2,.string ⟨#[]⟩)] FB.o;have h0:=F.cell 0;have h1:=F.cell 1;have h2:=F.cell 2;simp only [nU,nE,jA,jE,iW,iR,iT,bB,yml,bf] at h0 h1 h2;refine bodyPost_ret (v:=.tuple #[.string (bs t),qE fe fa]) ?_ rfl ⟨⟨t,fe,fa,rfl,HT.o⟩,Dv FG.o _ (Nat.le_refl _) [(0,.int .i64 fe),(1,.int .i64 fa),(2,.string ⟨#[]⟩)]⟩;clear F x0 x1 x2 v0 v1 v2;simp only [sets,jA,jE] at h0 h1 h2 ⊢;generalize World.setCell _ _ _=WF at *;simp [results,Tryz.results5,go_sem,qE,h0,h1,h2]
theorem Ar (kind:Int) (ao:Option Addr) (cap:Nat) (xs:List Int) (w:World) (h:yn w ao xs) (hw:mO xs) (hn:xs.length<=3) (hn1:1<=xs.length) (hk:1<=kind/\kind<=6) (h2:kind=4\/kind=5->xs.length=2) :
  Calls Tryz.prog 32 #[.int .i64 kind,.slice ao xs.length cap] w fun e w'=>ye e (yt kind xs)/\w.grownBy w' none:=by
 obtain ⟨g,off,rfl,hc⟩:=h (by omega);have hx0:=hw 0 (by omega);have hgd:xs.getD 0 0=xs[0]:=by rw [mP,kg (by omega)]; rfl
 have q0:=hc 0 (by omega);have cD:=hid (UW xs[0] w hx0.1 hx0.2);have HI:=hid h;simp only [Nat.add_zero] at q0;have g0:(0:Int) < (xs.length:Int):=by omega
 rcases (show kind=1\/kind=2\/kind=3\/kind=6\/kind=4\/kind=5 from by omega) with rfl | rfl | rfl | rfl | rfl | rfl
 ·have HQ:=hid (show yt 1 xs↔xs[0]=0 from by simp only [yt,if_true]; rw [hgd]);generalize yt 1 xs=Q at *;clear h2 hk h hc hw;go_enter Tryz.func32,Tryz.ntmps32;go_wp2_with fail;refine cD.o.mono ?_;rintro e w1 ⟨⟨op,rd,s1,t1,m,fb,ok,rfl,hd,hok,xB⟩,hq⟩;have q1:=yb q0 hq;unfold dZ;have nW:=hid hq;have DF:=hid (Aq xs[0] op rd s1 m hx0.1 hx0.2 hd);have Gr:=hid hok;have Jy:=hid xB;clear hq q0 hd hok xB;have GA:=hid (fun ob:Obj=>aW w1 ob none);have hgl:g < w1.heap.size:=World.block_lt_of_cell? w1 _ q1;have hnew:=World.new_ne w1 ⟨g,off,none⟩ q1;go_wp2;go_ret;exact ⟨ye.of (by rw [HQ.o,beq_iff_eq]),ya nW.o (GA.o _)⟩
 ·have HQ:=hid (show yt 2 xs↔yV xs[0] from by unfold yt; rw [if_neg (by decide),if_pos rfl,hgd]);generalize yt 2 xs=Q at *;clear h2 hk h hc hw;go_enter Tryz.func32,Tryz.ntmps32;go_wp2_with fail;refine cD.o.mono ?_;rintro e w1 ⟨⟨op,rd,s1,t1,m,fb,ok,rfl,hd,hok,xB⟩,hq⟩;have q1:=yb q0 hq;unfold dZ;have nW:=hid hq;have DF:=hid (Aq xs[0] op rd s1 m hx0.1 hx0.2 hd);have Gr:=hid hok;have Jy:=hid xB;clear hq q0 hd hok xB;have GA:=hid (fun ob:Obj=>aW w1 ob none);have hgl:g < w1.heap.size:=World.block_lt_of_cell? w1 _ q1;have hnew:=World.new_ne w1 ⟨g,off,none⟩ q1
  cases ok
  ·go_wp2;go_ret;exact ⟨ye.no (by rw [HQ.o,<- DF.o.1]; have:=Gr.o; simp at this; omega),ya nW.o (GA.o _)⟩
  ·by_cases o1:fb=66
   ·have d1:(fb == 66)=true:=beq_iff_eq.2 o1;have O:=hid (Jy.o.1 o1);clear o1;go_wp2;go_ret;exact ⟨ye.of (by rw [HQ.o,<- DF.o.1,beq_iff_eq]; have:=O.o; omega),ya nW.o (GA.o _)⟩
   ·have d1:(fb == 66)=false:=beq_eq_false_iff_ne.2 o1;have O:=hid (fun h=>o1 (Jy.o.2 h));clear o1;go_wp2;go_ret;exact ⟨ye.no (by rw [HQ.o,<- DF.o.1]; exact fun h=>O.o ⟨h.1,h.2.1⟩),ya nW.o (GA.o _)⟩
 ·have HQ:=hid (show yt 3 xs↔iB xs[0] from by unfold yt; rw [if_neg (by decide),if_neg (by decide),if_pos rfl,hgd]);generalize yt 3 xs=Q at *;clear h2 hk h hc hw;go_enter Tryz.func32,Tryz.ntmps32;go_wp2_with fail;refine cD.o.mono ?_;rintro e w1 ⟨⟨op,rd,s1,t1,m,fb,ok,rfl,hd,hok,xB⟩,hq⟩;have q1:=yb q0 hq;unfold dZ;have nW:=hid hq;have DF:=hid (Aq xs[0] op rd s1 m hx0.1 hx0.2 hd);have Gr:=hid hok;have Jy:=hid xB;clear hq q0 hd hok xB;have GA:=hid (fun ob:Obj=>aW w1 ob none);have hgl:g < w1.heap.size:=World.block_lt_of_cell? w1 _ q1;have hnew:=World.new_ne w1 ⟨g,off,none⟩ q1
  cases ok
  ·go_wp2;go_ret;exact ⟨ye.no (by rw [HQ.o,<- DF.o.2.1]; have:=Gr.o; simp at this; omega),ya nW.o (GA.o _)⟩
  ·by_cases o1:op=3
   ·have d1:(op == 3)=true:=beq_iff_eq.2 o1;have O:=hid o1;clear o1;go_wp2;go_ret;exact ⟨ye.of (by rw [HQ.o,<- DF.o.2.1,beq_iff_eq]; have:=O.o; simp; omega),ya nW.o (GA.o _)⟩
   ·have d1:(op == 3)=false:=beq_eq_false_iff_ne.2 o1;have O:=hid o1;clear o1;go_wp2;go_ret;exact ⟨ye.no (by rw [HQ.o,<- DF.o.2.1]; have:=O.o; omega),ya nW.o (GA.o _)⟩
 ·have HQ:=hid (show yt 6 xs↔zB xs from by unfold yt; rw [if_neg (by decide),if_neg (by decide),if_neg (by decide),if_neg (by decide),if_pos rfl]);generalize yt 6 xs=Q at *;clear h2 hk h hc hw;go_enter Tryz.func32,Tryz.ntmps32;go_wp2_with fail;refine cD.o.mono ?_;rintro e w1 ⟨⟨op,rd,s1,t1,m,fb,ok,rfl,hd,hok,xB⟩,hq⟩;have q1:=yb q0 hq;unfold dZ;have nW:=hid hq;have DF:=hid (Aq xs[0] op rd s1 m hx0.1 hx0.2 hd);have Gr:=hid hok;have Jy:=hid xB;clear hq q0 hd hok xB;have GA:=hid (fun ob:Obj=>aW w1 ob none);have hgl:g < w1.heap.size:=World.block_lt_of_cell? w1 _ q1;have hnew:=World.new_ne w1 ⟨g,off,none⟩ q1
  have GB:=hid (fun i (hi:i < xs.length)=>(show w1.cell? ⟨g,off+i,none⟩=some (.int .i64 xs[i]) from by obtain ⟨g',off',e,hc⟩:=HI.o (by omega); cases e; exact yb (hc i hi) nW.o));go_wp2
  go_loopw [7] (fun i wr=>∃ k:Nat,k<=xs.length/\i = .int .i64 k/\(∀ j (hj:j < xs.length),j < k->xs[j]=19)/\w1.grownBy wr none) (fun i _=>xs.length - (intOf i).toNat)
  case atStart=>exact ⟨0,Nat.zero_le _,rfl,fun j _ hj=>absurd hj (Nat.not_lt_zero j),GA.o _⟩
  case round =>
   obtain ⟨k,hk,rfl,hall,hgr⟩:=hrel;have HA:=hid hall;have HG:=hid hgr;clear hall hgr;by_cases hlt:k < xs.length
   ·have ck:=yb (GB.o k hlt) HG.o;have g1:(k:Int) < (xs.length:Int):=by omega
    by_cases hx:xs[k]=19
    ·have d1:(xs[k] == 19)=true:=beq_iff_eq.2 hx;have HX:=hid hx;clear hx;go_wp2
     go_roundw
     case rel=>exact ⟨k+1,by omega,by go_num,fun j hj hjk=>(Nat.lt_succ_iff_lt_or_eq.1 hjk).elim (fun h=>HA.o j hj h) (fun h=>by subst h; exact HX.o),HG.o⟩
     case measure=>simp [intOf]; omega
    ·have d1:(xs[k] == 19)=false:=beq_eq_false_iff_ne.2 hx;have HX:=hid hx;clear hx;go_wp2;go_ret;exact ⟨ye.no (by rw [HQ.o]; exact fun h=>HX.o (h k hlt)),ya nW.o HG.o⟩
   ·go_wp2;go_ret;exact ⟨ye.yes (by rw [HQ.o]; exact fun i hi=>HA.o i hi (by omega)),ya nW.o HG.o⟩
 ·have hl2:=h2 (by omega);have hlt1:1 < xs.length:=by omega
  have hx1:=hw 1 hlt1;have hgd1:xs.getD 1 0=xs[1]'hlt1:=by rw [mP,kg hlt1]; rfl
  have HQ:=hid (show yt 4 xs↔zq 4 xs[0] xs[1] from by unfold yt; rw [if_neg (by decide),if_neg (by decide),if_neg (by decide),if_pos (by decide),hgd,hgd1]);have r0:=hc 1 hlt1;have JJ:=hid (fun W=>UW xs[1] W hx1.1 hx1.2);have g1:(1:Int) < (xs.length:Int):=by omega
  generalize yt 4 xs=Q at *;clear h2 hk h hc hw;go_enter Tryz.func32,Tryz.ntmps32;go_wp2_with fail;refine cD.o.mono ?_;rintro e w1 ⟨⟨op,rd,s1,t1,m,fb,ok,rfl,hd,hok,xB⟩,hq⟩;have q1:=yb q0 hq;unfold dZ;have nW:=hid hq;have DF:=hid (Aq xs[0] op rd s1 m hx0.1 hx0.2 hd);have Gr:=hid hok;have Jy:=hid xB;clear hq q0 hd hok xB;have GA:=hid (fun ob:Obj=>aW w1 ob none);have hgl:g < w1.heap.size:=World.block_lt_of_cell? w1 _ q1;have hnew:=World.new_ne w1 ⟨g,off,none⟩ q1;have r1:=yb r0 nW.o;have hnew1:=World.new_ne w1 ⟨g,off+1,none⟩ r1;clear r0 hl2;have B1:=yd.new w1 #[.int .i64 op,.int .i64 rd,.int .i64 s1,.int .i64 t1,.int .i64 m,.int .u8 fb] 102
  have HB1:=hid B1;clear B1;go_wp2_with fail;refine (JJ.o _).mono ?_;rintro e w2 ⟨⟨op2,xP,s2,t2,m2,Zo,Tw,rfl,hd2,hok2,J4⟩,hq2⟩;have B2:=HB1.o.grown hq2 (by simp);have k0:=B2.cell 0;have k1:=B2.cell 1;have k4:=B2.cell 4;have hB2:=B2.lt;have hne2:w1.heap.size≠w2.heap.size:=by omega
  unfold dZ;have GF:=hid (ya (ya nW.o (GA.o _)) hq2);have G2:=hid (fun ob:Obj=>aW w2 ob none);have PW:=hid (PY 4 xs[0] xs[1] op rd s1 m op2 xP s2 m2 DF.o (Aq xs[1] op2 xP s2 m2 hx1.1 hx1.2 hd2));have Jz:=hid hok2;clear hd2 hok2 J4 hq2 B2 q1 r1;have no:Hd (∀ W,(¬ IE 4 op rd m op2 s2 m2)->w.grownBy W none->ye (.returned (.bool false)) Q/\w.grownBy W none):=fun W a b=>⟨ye.no (by rw [HQ.o,<- PW.o]; exact a),b⟩
  cases ok
  ·have O:=hid (show op=0 from by have:=Gr.o; simp at this; omega);go_wp2;go_ret;exact no.o _ (fun h=>by have:=h.2; have:=O.o; simp at *; omega) (ya GF.o (G2.o _))
  cases Tw
  ·have O:=hid (show op2=0 from by have:=Jz.o; simp at this; omega);go_wp2;go_ret;exact no.o _ (fun h=>by have:=h.2; have:=O.o; simp at *; omega) (ya GF.o (G2.o _))
  by_cases a1:rd=0
  ·have d1:(rd == 0)=true:=beq_iff_eq.2 a1;have A1:=hid a1;clear a1;go_wp2;go_ret;exact no.o _ (fun h=>h.1.1 A1.o) (ya GF.o (G2.o _))
  have d1:(rd == 0)=false:=beq_eq_false_iff_ne.2 a1;have A1:=hid a1;clear a1;by_cases a2:s2=rd
  rotate_left
  ·have d2:(s2 == rd)=false:=beq_eq_false_iff_ne.2 a2;have A2:=hid a2;clear a2;go_wp2;go_ret;exact no.o _ (fun h=>A2.o h.1.2.1) (ya GF.o (G2.o _))
  have d2:(s2 == rd)=true:=beq_iff_eq.2 a2;have A2:=hid a2;clear a2;by_cases a3:m=0
  rotate_left
  ·have d3:(m == 0)=false:=beq_eq_false_iff_ne.2 a3;have A3:=hid a3;clear a3;go_wp2;go_ret;exact no.o _ (fun h=>A3.o h.1.2.2.1) (ya GF.o (G2.o _))
  have d3:(m == 0)=true:=beq_iff_eq.2 a3;have A3:=hid a3;clear a3;by_cases a4:m2=0
  rotate_left
  ·have d4:(m2 == 0)=false:=beq_eq_false_iff_ne.2 a4;have A4:=hid a4;clear a4;go_wp2;go_ret;exact no.o _ (fun h=>A4.o h.1.2.2.2) (ya GF.o (G2.o _))
  have d4:(m2 == 0)=true:=beq_iff_eq.2 a4;have A4:=hid a4;clear a4;have mR:=hid (show Q↔op=2/\op2=4 from by rw [HQ.o,<- PW.o]; unfold IE; rw [if_pos rfl]; exact ⟨fun h=>h.2,fun h=>⟨⟨A1.o,A2.o,A3.o,A4.o⟩,h⟩⟩);by_cases o1:op=2
  ·have d5:(op == 2)=true:=beq_iff_eq.2 o1;have O:=hid o1;clear o1;go_wp2;go_ret;exact ⟨ye.of (by rw [mR.o,beq_iff_eq]; have:=O.o; simp; omega),ya GF.o (G2.o _)⟩
  ·have d5:(op == 2)=false:=beq_eq_false_iff_ne.2 o1;have O:=hid o1;clear o1;go_wp2;go_ret;exact ⟨ye.no (by rw [mR.o]; exact fun h=>O.o h.1),ya GF.o (G2.o _)⟩
 ·have hl2:=h2 (by omega);have hlt1:1 < xs.length:=by omega
  have hx1:=hw 1 hlt1;have hgd1:xs.getD 1 0=xs[1]'hlt1:=by rw [mP,kg hlt1]; rfl
  have HQ:=hid (show yt 5 xs↔zq 5 xs[0] xs[1] from by unfold yt; rw [if_neg (by decide),if_neg (by decide),if_neg (by decide),if_pos (by decide),hgd,hgd1]);have r0:=hc 1 hlt1;have JJ:=hid (fun W=>UW xs[1] W hx1.1 hx1.2);have g1:(1:Int) < (xs.length:Int):=by omega
  generalize yt 5 xs=Q at *;clear h2 hk h hc hw;go_enter Tryz.func32,Tryz.ntmps32;go_wp2_with fail;refine cD.o.mono ?_;rintro e w1 ⟨⟨op,rd,s1,t1,m,fb,ok,rfl,hd,hok,xB⟩,hq⟩;have q1:=yb q0 hq;unfold dZ;have nW:=hid hq;have DF:=hid (Aq xs[0] op rd s1 m hx0.1 hx0.2 hd);have Gr:=hid hok;have Jy:=hid xB;clear hq q0 hd hok xB;have GA:=hid (fun ob:Obj=>aW w1 ob none);have hgl:g < w1.heap.size:=World.block_lt_of_cell? w1 _ q1;have hnew:=World.new_ne w1 ⟨g,off,none⟩ q1;have r1:=yb r0 nW.o;have hnew1:=World.new_ne w1 ⟨g,off+1,none⟩ r1;clear r0 hl2;have B1:=yd.new w1 #[.int .i64 op,.int .i64 rd,.int .i64 s1,.int .i64 t1,.int .i64 m,.int .u8 fb] 102
  have HB1:=hid B1;clear B1;go_wp2_with fail;refine (JJ.o _).mono ?_;rintro e w2 ⟨⟨op2,xP,s2,t2,m2,Zo,Tw,rfl,hd2,hok2,J4⟩,hq2⟩;have B2:=HB1.o.grown hq2 (by simp);have k0:=B2.cell 0;have k1:=B2.cell 1;have k4:=B2.cell 4;have hB2:=B2.lt;have hne2:w1.heap.size≠w2.heap.size:=by omega
  unfold dZ;have GF:=hid (ya (ya nW.o (GA.o _)) hq2);have G2:=hid (fun ob:Obj=>aW w2 ob none);have PW:=hid (PY 5 xs[0] xs[1] op rd s1 m op2 xP s2 m2 DF.o (Aq xs[1] op2 xP s2 m2 hx1.1 hx1.2 hd2));have Jz:=hid hok2;clear hd2 hok2 J4 hq2 B2 q1 r1;have no:Hd (∀ W,(¬ IE 5 op rd m op2 s2 m2)->w.grownBy W none->ye (.returned (.bool false)) Q/\w.grownBy W none):=fun W a b=>⟨ye.no (by rw [HQ.o,<- PW.o]; exact a),b⟩
  cases ok
  ·have O:=hid (show op=0 from by have:=Gr.o; simp at this; omega);go_wp2;go_ret;exact no.o _ (fun h=>by have:=h.2; have:=O.o; simp at *; omega) (ya GF.o (G2.o _))
  cases Tw
  ·have O:=hid (show op2=0 from by have:=Jz.o; simp at this; omega);go_wp2;go_ret;exact no.o _ (fun h=>by have:=h.2; have:=O.o; simp at *; omega) (ya GF.o (G2.o _))
  by_cases a1:rd=0
  ·have d1:(rd == 0)=true:=beq_iff_eq.2 a1;have A1:=hid a1;clear a1;go_wp2;go_ret;exact no.o _ (fun h=>h.1.1 A1.o) (ya GF.o (G2.o _))
  have d1:(rd == 0)=false:=beq_eq_false_iff_ne.2 a1;have A1:=hid a1;clear a1;by_cases a2:s2=rd
  rotate_left
  ·have d2:(s2 == rd)=false:=beq_eq_false_iff_ne.2 a2;have A2:=hid a2;clear a2;go_wp2;go_ret;exact no.o _ (fun h=>A2.o h.1.2.1) (ya GF.o (G2.o _))
  have d2:(s2 == rd)=true:=beq_iff_eq.2 a2;have A2:=hid a2;clear a2;by_cases a3:m=0
  rotate_left
  ·have d3:(m == 0)=false:=beq_eq_false_iff_ne.2 a3;have A3:=hid a3;clear a3;go_wp2;go_ret;exact no.o _ (fun h=>A3.o h.1.2.2.1) (ya GF.o (G2.o _))
  have d3:(m == 0)=true:=beq_iff_eq.2 a3;have A3:=hid a3;clear a3;by_cases a4:m2=0
  rotate_left
  ·have d4:(m2 == 0)=false:=beq_eq_false_iff_ne.2 a4;have A4:=hid a4;clear a4;go_wp2;go_ret;exact no.o _ (fun h=>A4.o h.1.2.2.2) (ya GF.o (G2.o _))
  have d4:(m2 == 0)=true:=beq_iff_eq.2 a4;have A4:=hid a4;clear a4;have mR:=hid (show Q↔op=1/\(op2=13\/op2=11\/op2=12) from by rw [HQ.o,<- PW.o]; unfold IE; rw [if_neg (by decide)]; exact ⟨fun h=>h.2,fun h=>⟨⟨A1.o,A2.o,A3.o,A4.o⟩,h⟩⟩);by_cases o1:op=1
  rotate_left
  ·have d5:(op == 1)=false:=beq_eq_false_iff_ne.2 o1;have O:=hid o1;clear o1;go_wp2;go_ret;exact ⟨ye.no (by rw [mR.o]; exact fun h=>O.o h.1),ya GF.o (G2.o _)⟩
  have d5:(op == 1)=true:=beq_iff_eq.2 o1;have O:=hid o1;clear o1;by_cases o2:op2=13
  ·have d6:(op2 == 13)=true:=beq_iff_eq.2 o2;have O2:=hid o2;clear o2;go_wp2;go_ret;exact ⟨ye.yes (by rw [mR.o]; exact ⟨O.o,.inl O2.o⟩),ya GF.o (G2.o _)⟩
  have d6:(op2 == 13)=false:=beq_eq_false_iff_ne.2 o2;have O2:=hid o2;clear o2;by_cases o3:op2=11
  ·have d7:(op2 == 11)=true:=beq_iff_eq.2 o3;have O3:=hid o3;clear o3;go_wp2;go_ret;exact ⟨ye.yes (by rw [mR.o]; exact ⟨O.o,.inr (.inl O3.o)⟩),ya GF.o (G2.o _)⟩
  have d7:(op2 == 11)=false:=beq_eq_false_iff_ne.2 o3;have O3:=hid o3;clear o3;go_wp2;go_ret;exact ⟨ye.of (by rw [mR.o,beq_iff_eq]; have:=O.o; have:=O2.o; have:=O3.o; omega),ya GF.o (G2.o _)⟩
def nD (o:Lk.Obj) (k:Nat) (h:k < o.aj.length):Prop:=yY o o.aj[k]/\(∀ _:0 < k,yT (o.aj[k - 1]'(by omega)) o.aj[k])
theorem tV.sec {W:World} {B:Nat} {o:Lk.Obj} {at_:Option Addr} {ct:Nat} {af:Option Addr} {cf:Nat} {ad:Option Addr} {cd:Nat} {Z:Nat} (h:tV W B o at_ ct af cf ad cd Z) (n:Nat) (hn:n<=2) :
  ∃ ao cap,W.cell? ⟨B,n+1,none⟩=some (.slice ao (ym o ((n:Int)+1)).length cap)/\(ym o ((n:Int)+1)).length<=cap/\cap<=maxLen/\yn W ao (ym o ((n:Int)+1)):=by
 rcases (show n=0\/n=1\/n=2 from by omega) with rfl | rfl | rfl
 ·exact ⟨_,_,h.blk.cell 1,h.ct.1,h.ct.2,h.text⟩
 ·exact ⟨_,_,h.blk.cell 2,h.cf.1,h.cf.2,h.far⟩
 ·exact ⟨_,_,h.blk.cell 3,h.cd.1,h.cd.2,h.data⟩
end Go.Proofs.YtnkkepfcpjllmaaGreatDoor
