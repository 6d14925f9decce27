
import Derived.Test.YtelehpmjhjljgaaGreatDoorV12
set_option maxHeartbeats 16000000
set_option maxRecDepth 100000
namespace Go.Proofs.YtelehpmjhjljgaaGreatDoor
open Go.RowKit
theorem uW (kind:Int) (ao:Option Addr) (cap:Nat) (xs:List Int) (w:World) (h:ym w ao xs) (hw:j6 xs) (hn:xs.length<=3) (hn1:1<=xs.length) (hk:1<=kind/\kind<=6) (h2:kind=4\/kind=5->xs.length=2) :
  Calls Tryz.prog 113 #[.int .i64 kind,.slice ao xs.length cap] w fun e w'=>yg e (yv kind xs)/\w.grownBy w' none:=by
 obtain ⟨g,off,rfl,hc⟩:=h (by omega);have hx0:=hw 0 (by omega);have hgd:xs.getD 0 0=xs[0]:=by rw [iJ,gy (by omega)]; rfl
 have q0:=hc 0 (by omega);have cD:=hid (Sv xs[0] w hx0.1 hx0.2);have HI:=hid h;simp only [Nat.add_zero] at q0;have g0:(0:Int) < (xs.length:Int):=by omega
 rcases (show kind=1\/kind=2\/kind=3\/kind=6\/kind=4\/kind=5 from by omega) with rfl | rfl | rfl | rfl | rfl | rfl
 ·have HQ:=hid (show yv 1 xs↔xs[0]=0 from by simp only [yv,if_true]; rw [hgd]);generalize yv 1 xs=Q at *;clear h2 hk h hc hw;go_enter Tryz.func113,Tryz.ntmps113;go_wp2_with fail;refine cD.o.mono ?_;rintro e w1 ⟨⟨op,rd,s1,t1,m,fb,ok,rfl,hd,hok,sj⟩,hq⟩;have q1:=yc q0 hq;unfold dR;have jX:=hid hq;have DF:=hid (uS xs[0] op rd s1 m hx0.1 hx0.2 hd);have Ai:=hid hok;have Dt:=hid sj;clear hq q0 hd hok sj;have GA:=hid (fun ob:Obj=>aH w1 ob none);have hgl:g < w1.heap.size:=World.block_lt_of_cell? w1 _ q1;have hnew:=World.new_ne w1 ⟨g,off,none⟩ q1;go_wp2;go_ret;exact ⟨yg.of (by rw [HQ.o,beq_iff_eq]),ya jX.o (GA.o _)⟩
 ·have HQ:=hid (show yv 2 xs↔yY xs[0] from by unfold yv; rw [if_neg (by decide),if_pos rfl,hgd]);generalize yv 2 xs=Q at *;clear h2 hk h hc hw;go_enter Tryz.func113,Tryz.ntmps113;go_wp2_with fail;refine cD.o.mono ?_;rintro e w1 ⟨⟨op,rd,s1,t1,m,fb,ok,rfl,hd,hok,sj⟩,hq⟩;have q1:=yc q0 hq;unfold dR;have jX:=hid hq;have DF:=hid (uS xs[0] op rd s1 m hx0.1 hx0.2 hd);have Ai:=hid hok;have Dt:=hid sj;clear hq q0 hd hok sj;have GA:=hid (fun ob:Obj=>aH w1 ob none);have hgl:g < w1.heap.size:=World.block_lt_of_cell? w1 _ q1;have hnew:=World.new_ne w1 ⟨g,off,none⟩ q1
  cases ok
  ·go_wp2;go_ret;exact ⟨yg.no (by rw [HQ.o,<- DF.o.1]; have:=Ai.o; simp at this; omega),ya jX.o (GA.o _)⟩
  ·by_cases o1:fb=66
   ·have d1:(fb == 66)=true:=beq_iff_eq.2 o1;have O:=hid (Dt.o.1 o1);clear o1;go_wp2;go_ret;exact ⟨yg.of (by rw [HQ.o,<- DF.o.1,beq_iff_eq]; have:=O.o; omega),ya jX.o (GA.o _)⟩
   ·have d1:(fb == 66)=false:=beq_eq_false_iff_ne.2 o1;have O:=hid (fun h=>o1 (Dt.o.2 h));clear o1;go_wp2;go_ret;exact ⟨yg.no (by rw [HQ.o,<- DF.o.1]; exact fun h=>O.o ⟨h.1,h.2.1⟩),ya jX.o (GA.o _)⟩
 ·have HQ:=hid (show yv 3 xs↔gW xs[0] from by unfold yv; rw [if_neg (by decide),if_neg (by decide),if_pos rfl,hgd]);generalize yv 3 xs=Q at *;clear h2 hk h hc hw;go_enter Tryz.func113,Tryz.ntmps113;go_wp2_with fail;refine cD.o.mono ?_;rintro e w1 ⟨⟨op,rd,s1,t1,m,fb,ok,rfl,hd,hok,sj⟩,hq⟩;have q1:=yc q0 hq;unfold dR;have jX:=hid hq;have DF:=hid (uS xs[0] op rd s1 m hx0.1 hx0.2 hd);have Ai:=hid hok;have Dt:=hid sj;clear hq q0 hd hok sj;have GA:=hid (fun ob:Obj=>aH w1 ob none);have hgl:g < w1.heap.size:=World.block_lt_of_cell? w1 _ q1;have hnew:=World.new_ne w1 ⟨g,off,none⟩ q1
  cases ok
  ·go_wp2;go_ret;exact ⟨yg.no (by rw [HQ.o,<- DF.o.2.1]; have:=Ai.o; simp at this; omega),ya jX.o (GA.o _)⟩
  ·by_cases o1:op=3
   ·have d1:(op == 3)=true:=beq_iff_eq.2 o1;have O:=hid o1;clear o1;go_wp2;go_ret;exact ⟨yg.of (by rw [HQ.o,<- DF.o.2.1,beq_iff_eq]; have:=O.o; simp; omega),ya jX.o (GA.o _)⟩
   ·have d1:(op == 3)=false:=beq_eq_false_iff_ne.2 o1;have O:=hid o1;clear o1;go_wp2;go_ret;exact ⟨yg.no (by rw [HQ.o,<- DF.o.2.1]; have:=O.o; omega),ya jX.o (GA.o _)⟩
 ·have HQ:=hid (show yv 6 xs↔zn xs from by unfold yv; rw [if_neg (by decide),if_neg (by decide),if_neg (by decide),if_neg (by decide),if_pos rfl]);generalize yv 6 xs=Q at *;clear h2 hk h hc hw;go_enter Tryz.func113,Tryz.ntmps113;go_wp2_with fail;refine cD.o.mono ?_;rintro e w1 ⟨⟨op,rd,s1,t1,m,fb,ok,rfl,hd,hok,sj⟩,hq⟩;have q1:=yc q0 hq;unfold dR;have jX:=hid hq;have DF:=hid (uS xs[0] op rd s1 m hx0.1 hx0.2 hd);have Ai:=hid hok;have Dt:=hid sj;clear hq q0 hd hok sj;have GA:=hid (fun ob:Obj=>aH w1 ob none);have hgl:g < w1.heap.size:=World.block_lt_of_cell? w1 _ q1;have hnew:=World.new_ne w1 ⟨g,off,none⟩ q1
  have GB:=hid (fun i (hi:i < xs.length)=>(show w1.cell? ⟨g,off+i,none⟩=some (.int .i64 xs[i]) from by obtain ⟨g',off',e,hc⟩:=HI.o (by omega); cases e; exact yc (hc i hi) jX.o));go_wp2
  go_loopw [7] (fun i wr=>∃ k:Nat,k<=xs.length/\i = .int .i64 k/\(∀ j (hj:j < xs.length),j < k->xs[j]=19)/\w1.grownBy wr none) (fun i _=>xs.length - (intOf i).toNat)
  case atStart=>exact ⟨0,Nat.zero_le _,rfl,fun j _ hj=>absurd hj (Nat.not_lt_zero j),GA.o _⟩
  case round =>
   obtain ⟨k,hk,rfl,hall,hgr⟩:=hrel;have HA:=hid hall;have HG:=hid hgr;clear hall hgr;by_cases hlt:k < xs.length
   ·have ck:=yc (GB.o k hlt) HG.o;have g1:(k:Int) < (xs.length:Int):=by omega
    by_cases hx:xs[k]=19
    ·have d1:(xs[k] == 19)=true:=beq_iff_eq.2 hx;have HX:=hid hx;clear hx;go_wp2
     go_roundw
     case rel=>exact ⟨k+1,by omega,by go_num,fun j hj hjk=>(Nat.lt_succ_iff_lt_or_eq.1 hjk).elim (fun h=>HA.o j hj h) (fun h=>by subst h; exact HX.o),HG.o⟩
     case measure=>simp [intOf]; omega
    ·have d1:(xs[k] == 19)=false:=beq_eq_false_iff_ne.2 hx;have HX:=hid hx;clear hx;go_wp2;go_ret;exact ⟨yg.no (by rw [HQ.o]; exact fun h=>HX.o (h k hlt)),ya jX.o HG.o⟩
   ·go_wp2;go_ret;exact ⟨yg.yes (by rw [HQ.o]; exact fun i hi=>HA.o i hi (by omega)),ya jX.o HG.o⟩
 ·have hl2:=h2 (by omega);have hlt1:1 < xs.length:=by omega
  have hx1:=hw 1 hlt1;have hgd1:xs.getD 1 0=xs[1]'hlt1:=by rw [iJ,gy hlt1]; rfl
  have HQ:=hid (show yv 4 xs↔Fa 4 xs[0] xs[1] from by unfold yv; rw [if_neg (by decide),if_neg (by decide),if_neg (by decide),if_pos (by decide),hgd,hgd1]);have r0:=hc 1 hlt1;have D6:=hid (fun W=>Sv xs[1] W hx1.1 hx1.2);have g1:(1:Int) < (xs.length:Int):=by omega
  generalize yv 4 xs=Q at *;clear h2 hk h hc hw;go_enter Tryz.func113,Tryz.ntmps113;go_wp2_with fail;refine cD.o.mono ?_;rintro e w1 ⟨⟨op,rd,s1,t1,m,fb,ok,rfl,hd,hok,sj⟩,hq⟩;have q1:=yc q0 hq;unfold dR;have jX:=hid hq;have DF:=hid (uS xs[0] op rd s1 m hx0.1 hx0.2 hd);have Ai:=hid hok;have Dt:=hid sj;clear hq q0 hd hok sj;have GA:=hid (fun ob:Obj=>aH w1 ob none);have hgl:g < w1.heap.size:=World.block_lt_of_cell? w1 _ q1;have hnew:=World.new_ne w1 ⟨g,off,none⟩ q1;have r1:=yc r0 jX.o;have hnew1:=World.new_ne w1 ⟨g,off+1,none⟩ r1;clear r0 hl2;have B1:=ye.new w1 #[.int .i64 op,.int .i64 rd,.int .i64 s1,.int .i64 t1,.int .i64 m,.int .u8 fb] 167
  have HB1:=hid B1;clear B1;go_wp2_with fail;refine (D6.o _).mono ?_;rintro e w2 ⟨⟨op2,ql,s2,t2,m2,Jq,Qn,rfl,hd2,hok2,En⟩,hq2⟩;have B2:=HB1.o.grown hq2 (by simp);have k0:=B2.cell 0;have k1:=B2.cell 1;have k4:=B2.cell 4;have hB2:=B2.lt;have hne2:w1.heap.size≠w2.heap.size:=by omega
  unfold dR;have GF:=hid (ya (ya jX.o (GA.o _)) hq2);have G2:=hid (fun ob:Obj=>aH w2 ob none);have PW:=hid (MR 4 xs[0] xs[1] op rd s1 m op2 ql s2 m2 DF.o (uS xs[1] op2 ql s2 m2 hx1.1 hx1.2 hd2));have Dx:=hid hok2;clear hd2 hok2 En hq2 B2 q1 r1;have no:Hd (∀ W,(¬ Ch 4 op rd m op2 s2 m2)->w.grownBy W none->yg (.returned (.bool false)) Q/\w.grownBy W none):=fun W a b=>⟨yg.no (by rw [HQ.o,<- PW.o]; exact a),b⟩
  cases ok
  ·have O:=hid (show op=0 from by have:=Ai.o; simp at this; omega);go_wp2;go_ret;exact no.o _ (fun h=>by have:=h.2; have:=O.o; simp at *; omega) (ya GF.o (G2.o _))
  cases Qn
  ·have O:=hid (show op2=0 from by have:=Dx.o; simp at this; omega);go_wp2;go_ret;exact no.o _ (fun h=>by have:=h.2; have:=O.o; simp at *; omega) (ya GF.o (G2.o _))
  by_cases a1:rd=0
  ·have d1:(rd == 0)=true:=beq_iff_eq.2 a1;have A1:=hid a1;clear a1;go_wp2;go_ret;exact no.o _ (fun h=>h.1.1 A1.o) (ya GF.o (G2.o _))
  have d1:(rd == 0)=false:=beq_eq_false_iff_ne.2 a1;have A1:=hid a1;clear a1;by_cases a2:s2=rd
  rotate_left
  ·have d2:(s2 == rd)=false:=beq_eq_false_iff_ne.2 a2;have A2:=hid a2;clear a2;go_wp2;go_ret;exact no.o _ (fun h=>A2.o h.1.2.1) (ya GF.o (G2.o _))
  have d2:(s2 == rd)=true:=beq_iff_eq.2 a2;have A2:=hid a2;clear a2;by_cases a3:m=0
  rotate_left
  ·have d3:(m == 0)=false:=beq_eq_false_iff_ne.2 a3;have A3:=hid a3;clear a3;go_wp2;go_ret;exact no.o _ (fun h=>A3.o h.1.2.2.1) (ya GF.o (G2.o _))
  have d3:(m == 0)=true:=beq_iff_eq.2 a3;have A3:=hid a3;clear a3;by_cases a4:m2=0
  rotate_left
  ·have d4:(m2 == 0)=false:=beq_eq_false_iff_ne.2 a4;have A4:=hid a4;clear a4;go_wp2;go_ret;exact no.o _ (fun h=>A4.o h.1.2.2.2) (ya GF.o (G2.o _))
  have d4:(m2 == 0)=true:=beq_iff_eq.2 a4;have A4:=hid a4;clear a4;have jW:=hid (show Q↔op=2/\op2=4 from by rw [HQ.o,<- PW.o]; unfold Ch; rw [if_pos rfl]; exact ⟨fun h=>h.2,fun h=>⟨⟨A1.o,A2.o,A3.o,A4.o⟩,h⟩⟩);by_cases o1:op=2
  ·have d5:(op == 2)=true:=beq_iff_eq.2 o1;have O:=hid o1;clear o1;go_wp2;go_ret;exact ⟨yg.of (by rw [jW.o,beq_iff_eq]; have:=O.o; simp; omega),ya GF.o (G2.o _)⟩
  ·have d5:(op == 2)=false:=beq_eq_false_iff_ne.2 o1;have O:=hid o1;clear o1;go_wp2;go_ret;exact ⟨yg.no (by rw [jW.o]; exact fun h=>O.o h.1),ya GF.o (G2.o _)⟩
 ·have hl2:=h2 (by omega);have hlt1:1 < xs.length:=by omega
  have hx1:=hw 1 hlt1;have hgd1:xs.getD 1 0=xs[1]'hlt1:=by rw [iJ,gy hlt1]; rfl
  have HQ:=hid (show yv 5 xs↔Fa 5 xs[0] xs[1] from by unfold yv; rw [if_neg (by decide),if_neg (by decide),if_neg (by decide),if_pos (by decide),hgd,hgd1]);have r0:=hc 1 hlt1;have D6:=hid (fun W=>Sv xs[1] W hx1.1 hx1.2);have g1:(1:Int) < (xs.length:Int):=by omega
  generalize yv 5 xs=Q at *;clear h2 hk h hc hw;go_enter Tryz.func113,Tryz.ntmps113;go_wp2_with fail;refine cD.o.mono ?_;rintro e w1 ⟨⟨op,rd,s1,t1,m,fb,ok,rfl,hd,hok,sj⟩,hq⟩;have q1:=yc q0 hq;unfold dR;have jX:=hid hq;have DF:=hid (uS xs[0] op rd s1 m hx0.1 hx0.2 hd);have Ai:=hid hok;have Dt:=hid sj;clear hq q0 hd hok sj;have GA:=hid (fun ob:Obj=>aH w1 ob none);have hgl:g < w1.heap.size:=World.block_lt_of_cell? w1 _ q1;have hnew:=World.new_ne w1 ⟨g,off,none⟩ q1;have r1:=yc r0 jX.o;have hnew1:=World.new_ne w1 ⟨g,off+1,none⟩ r1;clear r0 hl2;have B1:=ye.new w1 #[.int .i64 op,.int .i64 rd,.int .i64 s1,.int .i64 t1,.int .i64 m,.int .u8 fb] 167
  have HB1:=hid B1;clear B1;go_wp2_with fail;refine (D6.o _).mono ?_;rintro e w2 ⟨⟨op2,ql,s2,t2,m2,Jq,Qn,rfl,hd2,hok2,En⟩,hq2⟩;have B2:=HB1.o.grown hq2 (by simp);have k0:=B2.cell 0;have k1:=B2.cell 1;have k4:=B2.cell 4;have hB2:=B2.lt;have hne2:w1.heap.size≠w2.heap.size:=by omega
  unfold dR;have GF:=hid (ya (ya jX.o (GA.o _)) hq2);have G2:=hid (fun ob:Obj=>aH w2 ob none);have PW:=hid (MR 5 xs[0] xs[1] op rd s1 m op2 ql s2 m2 DF.o (uS xs[1] op2 ql s2 m2 hx1.1 hx1.2 hd2));have Dx:=hid hok2;clear hd2 hok2 En hq2 B2 q1 r1;have no:Hd (∀ W,(¬ Ch 5 op rd m op2 s2 m2)->w.grownBy W none->yg (.returned (.bool false)) Q/\w.grownBy W none):=fun W a b=>⟨yg.no (by rw [HQ.o,<- PW.o]; exact a),b⟩
  cases ok
  ·have O:=hid (show op=0 from by have:=Ai.o; simp at this; omega);go_wp2;go_ret;exact no.o _ (fun h=>by have:=h.2; have:=O.o; simp at *; omega) (ya GF.o (G2.o _))
  cases Qn
  ·have O:=hid (show op2=0 from by have:=Dx.o; simp at this; omega);go_wp2;go_ret;exact no.o _ (fun h=>by have:=h.2; have:=O.o; simp at *; omega) (ya GF.o (G2.o _))
  by_cases a1:rd=0
  ·have d1:(rd == 0)=true:=beq_iff_eq.2 a1;have A1:=hid a1;clear a1;go_wp2;go_ret;exact no.o _ (fun h=>h.1.1 A1.o) (ya GF.o (G2.o _))
  have d1:(rd == 0)=false:=beq_eq_false_iff_ne.2 a1;have A1:=hid a1;clear a1;by_cases a2:s2=rd
  rotate_left
  ·have d2:(s2 == rd)=false:=beq_eq_false_iff_ne.2 a2;have A2:=hid a2;clear a2;go_wp2;go_ret;exact no.o _ (fun h=>A2.o h.1.2.1) (ya GF.o (G2.o _))
  have d2:(s2 == rd)=true:=beq_iff_eq.2 a2;have A2:=hid a2;clear a2;by_cases a3:m=0
  rotate_left
  ·have d3:(m == 0)=false:=beq_eq_false_iff_ne.2 a3;have A3:=hid a3;clear a3;go_wp2;go_ret;exact no.o _ (fun h=>A3.o h.1.2.2.1) (ya GF.o (G2.o _))
  have d3:(m == 0)=true:=beq_iff_eq.2 a3;have A3:=hid a3;clear a3;by_cases a4:m2=0
  rotate_left
  ·have d4:(m2 == 0)=false:=beq_eq_false_iff_ne.2 a4;have A4:=hid a4;clear a4;go_wp2;go_ret;exact no.o _ (fun h=>A4.o h.1.2.2.2) (ya GF.o (G2.o _))
  have d4:(m2 == 0)=true:=beq_iff_eq.2 a4;have A4:=hid a4;clear a4;have jW:=hid (show Q↔op=1/\(op2=13\/op2=11\/op2=12) from by rw [HQ.o,<- PW.o]; unfold Ch; rw [if_neg (by decide)]; exact ⟨fun h=>h.2,fun h=>⟨⟨A1.o,A2.o,A3.o,A4.o⟩,h⟩⟩);by_cases o1:op=1
  rotate_left
  ·have d5:(op == 1)=false:=beq_eq_false_iff_ne.2 o1;have O:=hid o1;clear o1;go_wp2;go_ret;exact ⟨yg.no (by rw [jW.o]; exact fun h=>O.o h.1),ya GF.o (G2.o _)⟩
  have d5:(op == 1)=true:=beq_iff_eq.2 o1;have O:=hid o1;clear o1;by_cases o2:op2=13
  ·have d6:(op2 == 13)=true:=beq_iff_eq.2 o2;have O2:=hid o2;clear o2;go_wp2;go_ret;exact ⟨yg.yes (by rw [jW.o]; exact ⟨O.o,.inl O2.o⟩),ya GF.o (G2.o _)⟩
  have d6:(op2 == 13)=false:=beq_eq_false_iff_ne.2 o2;have O2:=hid o2;clear o2;by_cases o3:op2=11
  ·have d7:(op2 == 11)=true:=beq_iff_eq.2 o3;have O3:=hid o3;clear o3;go_wp2;go_ret;exact ⟨yg.yes (by rw [jW.o]; exact ⟨O.o,.inr (.inl O3.o)⟩),ya GF.o (G2.o _)⟩
  have d7:(op2 == 11)=false:=beq_eq_false_iff_ne.2 o3;have O3:=hid o3;clear o3;go_wp2;go_ret;exact ⟨yg.of (by rw [jW.o,beq_iff_eq]; have:=O.o; have:=O2.o; have:=O3.o; omega),ya GF.o (G2.o _)⟩
def kD (o:Lk.Obj) (k:Nat) (h:k < o.aj.length):Prop:=yV o o.aj[k]/\(∀ _:0 < k,oL (o.aj[k - 1]'(by omega)) o.aj[k])
theorem oV.sec {W:World} {B:Nat} {o:Lk.Obj} {at_:Option Addr} {ct:Nat} {af:Option Addr} {cf:Nat} {ad:Option Addr} {cd:Nat} {Z:Nat} (h:oV W B o at_ ct af cf ad cd Z) (n:Nat) (hn:n<=2) :
  ∃ ao cap,W.cell? ⟨B,n+1,none⟩=some (.slice ao (yh o ((n:Int)+1)).length cap)/\(yh o ((n:Int)+1)).length<=cap/\cap<=maxLen/\ym W ao (yh o ((n:Int)+1)):=by
 rcases (show n=0\/n=1\/n=2 from by omega) with rfl | rfl | rfl
 ·exact ⟨_,_,h.blk.cell 1,h.ct.1,h.ct.2,h.text⟩
 ·exact ⟨_,_,h.blk.cell 2,h.cf.1,h.cf.2,h.far⟩
 ·exact ⟨_,_,h.blk.cell 3,h.cd.1,h.cd.2,h.data⟩
theorem ypn (a b R:Int) (w:World) (h0:0<=a) (h1:a<=1099511627776) (hb:b=4\/b=8\/b=16) (hR:a<=R/\R < a+b/\R % b=0) :
  Calls Tryz.prog 35 #[.int .i64 a,.int .i64 b] w fun e w'=>e = .returned (.int .i64 R)/\w'=w:=by
 have hbn:(b == 0)=false:=by rcases hb with rfl | rfl | rfl <;> rfl
 have hb0:¬ b=0:=by omega
 have HS:=hid (fun (k:Int) (h1:a<=k) (h2:k<=R)=>show (k % b=0↔k=R) by
  obtain ⟨r1,r2,r3⟩:=hR;rcases hb with rfl | rfl | rfl <;> omega)
 have hRb:R<=a+15:=by omega
 have Py:=hR.1;clear hR hb;go_enter Tryz.func35,Tryz.ntmps35;go_wp2
 go_loopw [0] (fun c wr=>∃ k:Int,c = .int .i64 k/\a<=k/\k<=R/\wr=w) (fun c _=>(R - intOf c).toNat)
 case atStart=>exact ⟨a,rfl,by omega,by omega,rfl⟩
 case round =>
  obtain ⟨k,rfl,k1,k2,rfl⟩:=hrel;have hs:=HS.o k k1 k2;by_cases hz:k=R
  ·subst hz;have d1:(k % b == 0)=true:=by simpa using hs.2 rfl
   have d2:(k % b != 0)=false:=by simpa using hs.2 rfl
   clear hs;go_wp2;go_ret;exact ⟨rfl,rfl⟩
  ·have d1:(k % b == 0)=false:=by simpa using fun c=>hz (hs.1 c)
   have d2:(k % b != 0)=true:=by simpa using fun c=>hz (hs.1 c)
   clear hs;go_wp2
   go_roundw
   case rel=>exact ⟨k+1,by go_num,by omega,by omega,trivial⟩
   case measure=>simp [intOf]; omega
theorem ypm (a b:Int) (w:World) (h0:0<=a) (h1:a<=1099511627776) (hb:b=4\/b=8\/b=16) :
  Calls Tryz.prog 35 #[.int .i64 a,.int .i64 b] w fun e w'=>e = .returned (.int .i64 (Ln.rup a b))/\w'=w:=by
 refine ypn a b _ w h0 h1 hb ?_;have R1:=Sy a b h0 (by omega) hb;have R2:=ru a b h0 (by omega) hb;rcases hb with rfl | rfl | rfl <;> omega
def Sk (rs:List Lk.Rel) (ah:Int) (w:Nat) (k j:Int):Prop :=
 (Ln.aG ah (4 * (w:Int)) 0 rs=(0,⟨0,0,0,0,0⟩)/\k = -1/\j=0) \/
 ∃ i,∃ h:i < rs.length,Ln.aG ah (4 * (w:Int)) 0 rs=((i:Int),rs[i])/\k=i/\rs[i].ah=ah/\rs[i].off+4 * j=4 * (w:Int)/\0<=j/\j < yr rs[i]
theorem yp.rel {o:Lk.Obj} (h:yp o) (i:Nat) (hi:i < o.aj.length):yV o o.aj[i]:=(h.2.2.2.2 i hi).1
theorem Y6 (g:Nat) (o:Lk.Obj) (ah:Int) (x:Nat) (w:World) (ho:yq w g o) (hv:yp o) (hx:x<=65535) :
  Calls Tryz.prog 67 #[.pointer (some ⟨g,0,none⟩),.int .i64 ah,.int .i64 x] w fun e w'=>∃ k j,e = .returned (.tuple #[.int .i64 k,.int .i64 j])/\Sk o.aj ah x k j/\w.grownBy w' none:=by
 obtain ⟨at_,ct,af,cf,ad,cd,aa,ca,gF,cs,ar,cr,hb,-,-,-,-,-,q6⟩:=ho.open;have S:=hid (lX.aB q6);have HB:=hid hb;have hl:=hv.jU;have RO:=hid (fun (i:Nat) (hi:i < o.aj.length)=>show (0<=(o.aj[i]'hi).off/\(o.aj[i]'hi).off % 4=0/\(o.aj[i]'hi).off<=1048576)/\(1<=yr (o.aj[i]'hi)/\yr (o.aj[i]'hi)<=3)/\((o.aj[i]'hi).kind=6->(o.aj[i]'hi).addend=4\/(o.aj[i]'hi).addend=12) by
  have h:=hv.rel i hi;obtain ⟨b1,b2,b3⟩:=h.2.2.2.2.1;have h2:=yC h.2.1;have h3:(yh o (o.aj[i]'hi).ah).length<=65535:=yE ⟨by have:=hv.1.1.1; omega,by have:=hv.1.1.2.1; omega,by have:=hv.1.1.2.2; omega,by have:=hv.2.1.1; omega,by have:=hv.gT; omega,by omega⟩ _;exact ⟨⟨b1,b2,by omega⟩,h2,h.2.1.six⟩)
 clear ho hb q6 hv;generalize o.aj=rs at *;have R0:=hid (show Ln.aG ah (4 * (x:Int)) 0 rs=Ln.aG ah (4 * (x:Int)) 0 (rs.drop 0) from rfl);have RD:=hid (show ∀ k j,Sk rs ah x k j↔((Ln.aG ah (4 * (x:Int)) 0 rs=(0,⟨0,0,0,0,0⟩)/\k = -1/\j=0) \/
  ∃ i,∃ h:i < rs.length,Ln.aG ah (4 * (x:Int)) 0 rs=((i:Int),rs[i])/\k=i/\rs[i].ah=ah/\rs[i].off+4 * j=4 * (x:Int)/\0<=j/\j < yr rs[i]) from fun _ _=>Iff.rfl)
 generalize Sk rs ah x=RS at *;generalize Ln.aG ah (4 * (x:Int)) 0 rs=N at *;go_enter Tryz.func67,Tryz.ntmps67;go_wp2
 go_loopw [8] (fun i wr=>∃ k:Nat,k<=rs.length/\i = .int .i64 k/\N=Ln.aG ah (4 * (x:Int)) k (rs.drop k)/\w.grownBy wr none) (fun i _=>rs.length - (intOf i).toNat)
 case atStart=>exact ⟨0,Nat.zero_le _,rfl,R0.o,World.grownBy.refl _ _⟩
 case round =>
  obtain ⟨k,hk,rfl,hf,hgr⟩:=hrel;have HF:=hid hf;have HG:=hid hgr;clear hf hgr;have k6:=(HB.o.grown HG.o (by simp)).cell 6;simp only [dH,dL,dK] at k6;by_cases hlt:k < rs.length
  ·obtain ⟨sg,hsg,hgs,hcs⟩:=S.o.grown HG.o (by omega);subst hsg;obtain ⟨q0,q1,q2,q3,q4⟩:=hcs k hlt;clear hcs;have g2:(k:Int) < (rs.length:Int):=by omega
   have FI:=hid (Xc ah (4 * (x:Int)) rs k hlt);obtain ⟨⟨r1,r2,r3⟩,⟨s1,s2⟩,r6⟩:=RO.o k hlt;have YS:=hid (fun (j:Int) (e:N=((k:Int),rs[k])) (h1:rs[k].ah=ah) (h2:rs[k].off+4 * j=4 * (x:Int)) (h3:0<=j) (h4:j < yr rs[k])=>(RD.o k j).2 (.inr ⟨k,hlt,e,rfl,h1,h2,h3,h4⟩));generalize rs[k]=r at *;have cC:=hid (fun W=>tN r W r6);unfold bY at cC;have BX:=hid (ye.new wr #[.int .i64 r.ah,.int .i64 r.off,.int .i64 r.kind,.int .i64 r.sym,.int .i64 r.addend] 83);have GA:=hid (ya HG.o (aH wr (.cells #[.int .i64 r.ah,.int .i64 r.off,.int .i64 r.kind,.int .i64 r.sym,.int .i64 r.addend] 83) none));have qF:=hid (show yr r=yr r from rfl)
   generalize hsp:yr r=sp at *;have HP:=hid hsp;clear hsp qF r6
   go_upto_region 5 with fail
   generalize wr.alloc (.cells #[.int .i64 r.ah,.int .i64 r.off,.int .i64 r.kind,.int .i64 r.sym,.int .i64 r.addend] 83)=V1 at *;generalize wr.heap.size=X at *;clear k6 q0 q1 q2 q3 q4;have x0:V1.cell? ⟨X,0,none⟩=some (.int .i64 r.ah):=BX.o.cell 0;have x1:V1.cell? ⟨X,1,none⟩=some (.int .i64 r.off):=BX.o.cell 1;have x2:V1.cell? ⟨X,2,none⟩=some (.int .i64 r.kind):=BX.o.cell 2;have x3:V1.cell? ⟨X,3,none⟩=some (.int .i64 r.sym):=BX.o.cell 3;have x4:V1.cell? ⟨X,4,none⟩=some (.int .i64 r.addend):=BX.o.cell 4
   go_upto_region 6 with (go_at_call 91; refine (cC.o _).mono ?_; rintro e V2 ⟨rfl,h2⟩)
   have G2:=hid (ya GA.o h2);have qW:=hid (BX.o.grown h2 (by simp));clear x0 x1 x2 x3 x4 h2 BX cC;have x0:V2.cell? ⟨X,0,none⟩=some (.int .i64 r.ah):=qW.o.cell 0;have x1:V2.cell? ⟨X,1,none⟩=some (.int .i64 r.off):=qW.o.cell 1;obtain ⟨q,hq⟩:∃ q:Int,r.off=4 * q:=⟨r.off / 4,by omega⟩
   have q0:0<=q:=by omega
   have t1:Int.tdiv (4 * q) 4=q:=by rw [Int.tdiv_eq_ediv_of_nonneg (by omega)]; omega
   have t2:(4 * q) / 4=q:=by omega
   rw [hq] at x1 r3;have HQ:=hid hq;have Cy:=hid (fun (h:¬ (r.ah=ah/\q<=x/\(x:Int) < q+sp))=>show N=Ln.aG ah (4 * (x:Int)) (k+1) (rs.drop (k+1)) by
    rw [HF.o,FI.o,if_neg (fun c=>h ⟨c.1,by have:=HQ.o; omega,by have:=HQ.o; omega⟩)])
   have YES:=hid (fun (h:r.ah=ah/\q<=x/\(x:Int) < q+sp)=>show RS k ((x:Int) - q) from YS.o _ (by
    rw [HF.o,FI.o,if_pos ⟨h.1,by have:=HQ.o; omega,by have:=HQ.o; omega⟩]) h.1 (by rw [HQ.o]; omega) (by omega) (by omega))
   clear hq r1 r2 YS FI HF;by_cases e1:r.ah=ah
   ·have d1:(r.ah == ah)=true:=by simpa using e1
    by_cases e2:q<=x
    ·have d2:decide (q<=(x:Int))=true:=by simpa using e2
     have w2:IntKind.i64.wrap (q+sp)=q+sp:=IntWalk.i64_in _ ⟨by omega,by omega⟩;by_cases e3:(x:Int) < q+sp
     ·have d3:decide ((x:Int) < q+sp)=true:=by simpa using e3
      have E:=hid (YES.o ⟨e1,e2,e3⟩);have w3:IntKind.i64.wrap ((x:Int) - q)=(x:Int) - q:=IntWalk.i64_in _ ⟨by omega,by omega⟩;clear e1;go_wp2
      go_quiet (fail)
      go_wp2;go_ret2;exact ⟨_,_,rfl,E.o,yd G2.o nq⟩
     ·have d3:decide ((x:Int) < q+sp)=false:=by simpa using e3
      have E:=hid (Cy.o fun c=>e3 c.2.2);clear e1;go_wp2
      go_roundw
      case rel=>exact ⟨k+1,by omega,by go_num,E.o,G2.o⟩
      case measure=>simp [intOf]; omega
    ·have d2:decide (q<=(x:Int))=false:=by simpa using e2
     have E:=hid (Cy.o fun c=>e2 c.2.1);clear e1;go_wp2
     go_roundw
     case rel=>exact ⟨k+1,by omega,by go_num,E.o,G2.o⟩
     case measure=>simp [intOf]; omega
   ·have d1:(r.ah == ah)=false:=by simpa using e1
    have E:=hid (Cy.o fun c=>e1 c.1);clear e1;go_wp2
    go_roundw
    case rel=>exact ⟨k+1,by omega,by go_num,E.o,G2.o⟩
    case measure=>simp [intOf]; omega
  ·obtain rfl:k=rs.length:=by omega
   have E:=hid (show N=(0,⟨0,0,0,0,0⟩) by rw [HF.o,List.drop_length]; rfl);have g3:decide ((rs.length:Int) < (rs.length:Int))=false:=by simp
   go_wp2;go_ret2;exact ⟨_,_,rfl,(RD.o _ _).2 (.inl ⟨E.o,rfl,rfl⟩),HG.o⟩
theorem Wt {P:Program} {w:World} {ops:Array Oper} {rest:List Oper} {o:Oper} {a:Act} {Q:Exit->Act->World->Prop} (hgd:o.guard=none) (s x:Operand) (t:TypeId)
  (ho:o.op = .call { callee:=.builtin .append,args:=#[s,x],argTypes:=#[t,t] })
  (base:Nat) (i:TypeInfo) (ht:P.underlying t=some (.slice 51)) (hi:P.info? 51=some i) (hz:i.zero=some (.agg #[.int .i64 0,.int .i64 0]))
  (hsize:i.size=2) (hby:i.bytes=16)
  (v:Value) (n:Nat) (xs:List Value) (hs:a.eval s=v) (hown:w.ownsRow base 51 2 v n xs)
  (vx:Value) (bx:Nat) (ys:List (Nat×Nat)) (hx:a.eval x=vx) (hw:w.ownsRow bx 51 2 vx ys.length (ys.flatMap jD))
  (h63:n+ys.length<=65535) (hbase:base<=w.heap.size)
  (h:∀ v' w',w'.ownsRow base 51 2 v' (n+ys.length) (xs ++ ys.flatMap jD)->w.grownBy w' v.ownBlock->(v'.ownBlock=v.ownBlock\/v'.ownBlock=some w.heap.size)->wpList P ops Q rest (a.put o.dst v') w'):wpList P ops Q (o :: rest) a w:=by
 rcases hw.2 with ⟨rfl,h0⟩ | ⟨g,cap,cur,rfl,hb,hg,h3,h4,h5,h6⟩
 ·obtain rfl:ys=[]:=List.length_eq_zero_iff.1 h0;refine wpList_plain hgd fun K hK=>?_
  have hrun:=run_append_owned_none (P:=P) (w:=w) base t o.type 51 i 2 ht hi v n xs hown;have h':=h v w (by simpa using hown) ⟨rfl,rfl,rfl,Nat.le_refl _,fun _ _ _=>rfl⟩ (.inl rfl);unfold Oper.wp;simp [execOp,ho,resolve,invoke,builtin,hs,hx,hrun,Result.andThen];exact hK _ _ h'
 ·refine wpList_append_own_at _ hgd s x t ho base 51 i (.agg #[.int .i64 0,.int .i64 0]) 2 16 ht hi hz hsize hby rfl (by decide) v n xs hs hown ⟨g,0,none⟩ ys.length cap (ys.flatMap jD) hx hw.1 (hw.cells (g:=g) rfl) ?_ (by unfold maxLen; omega) (by omega) hbase (fun v' w' h1 h2 _ h4=>h v' w' h1 h2 h4);intro u hu;obtain ⟨r,_,hr⟩:=List.mem_flatMap.1 hu;simp [jD] at hr;rcases hr with rfl | rfl <;> rfl
theorem sU {w w':World} {base:Nat} {e:TypeId} {size:Nat} {v:Value} {n:Nat} {xs:List Value} (h:w.ownsRow base e size v n xs) (hg:w.grownBy w' none):w'.ownsRow base e size v n xs:=by
 refine h.kept hg ?_
 cases v.ownBlock with
 | none=>exact .inl rfl
 | some k=>exact .inr (by simp)
theorem RH {w:World} {base n cap:Nat} {a:Option Addr} {p:Nat×Nat} {C:List (Nat×Nat)} (h:w.ownsRow base 51 2 (.slice a n cap) n ((p :: C).flatMap jD)) (hn:0 < n) :
  ∃ g,a=some ⟨g,0,none⟩/\base<=g/\w.cell? ⟨g,0,none⟩=some (.int .i64 p.1)/\w.cell? ⟨g,1,none⟩=some (.int .i64 p.2):=by
 rcases h.2 with ⟨e,h0⟩ | ⟨g,c2,cur,e,hb,hg,h3,h4,h5,h6⟩
 ·omega
 ·obtain ⟨rfl,rfl⟩:a=some ⟨g,0,none⟩/\cap=c2:=by cases e; exact ⟨rfl,rfl⟩
  have hc:=h.cells (g:=g) rfl;refine ⟨g,rfl,?_,hc 0 _ rfl,hc 1 _ rfl⟩;exact (h.lt g rfl).1
namespace Dl
def cand (os:List Lk.Obj) (n:List UInt8):List (Nat×Nat):=bT os n 1 ++ bT os n 2
def bD (os:List Lk.Obj) (i k:Nat):Lk.Sym:=((os[i]?.map (·.syms)).getD []).getD k ⟨[],0,0,0⟩
def means (os:List Lk.Obj) (i k:Nat):Option (Nat×Nat):=if (bD os i k).bind=0 then some (i,k) else (cand os (bD os i k).name).head?
def bF:List UInt8:=[95,115,116,97,114,116]
def start (os:List Lk.Obj):Option (Nat×Nat):=match (cand os bF).head? with
 | none=>none
 | some (i,k)=>if (bD os i k).ah≠1/\(bD os i k).ah≠2 then none else some (i,k)
end Dl
def iF (r:Option (Nat×Nat)):Value:=match r with
 | none=>.agg #[.int .i64 (-1),.int .i64 0]
 | some (i,k)=>.agg #[.int .i64 i,.int .i64 k]
theorem Aq {os:List Lk.Obj} {i k:Nat} (hi:i < os.length) (hk:k < os[i].syms.length):Dl.bD os i k=os[i].syms[k]:=by
 unfold Dl.bD;rw [gy hi,Option.map_some,Option.getD_some,iJ,gy hk,Option.getD_some]
theorem MG {w:World} {ao:Option Addr} {gl:List Nat} {os:List Lk.Obj} (h:qx w ao gl os) (n:List UInt8) (b:Int):(Dl.bT os n b).length<=768:=by
 have:=Dl.qg n b os 0 fun o ho=>(h.val o ho).gT
 have:=h.few
 unfold Dl.bT;omega
theorem EI {w V:World} (h:w.grownBy V none) (r:Nat) (hr:w.heap.size<=r) (a b:Value):w.grownBy ((V.setCell ⟨r,0,none⟩ a).setCell ⟨r,1,none⟩ b) none :=
 yD (yD h (yi V r 0 a) (by intro k e; simp at e; omega)) (yi _ r 1 b) (by intro k e; simp at e; omega)
theorem Xy (ao:Option Addr) (cap:Nat) (gl:List Nat) (os:List Lk.Obj) (i k:Nat) (w:World) (h:qx w ao gl os) (hi:i < os.length) (hk:k < os[i].syms.length) :
  Calls Tryz.prog 31 #[.slice ao gl.length cap,.int .i64 i,.int .i64 k] w fun e w'=>e = .returned (iF (Dl.means os i k))/\w.grownBy w' none:=by
 obtain ⟨i2,hi2,hx0,hx1,hx2⟩:=info_parts Tryz.qJ;have hil:i < gl.length:=by rw [h.len]; exact hi
 have hgl:gl.length<=48:=by rw [h.len]; exact h.few
 obtain ⟨g0,off,hao,hc⟩:=h.ptrs (by omega);subst hao;have CK:=hid (hc i hil);obtain ⟨at_,ct,af,cf,ad,cd,wm,wD,gF,cs,ar,cr,hb,-,-,-,-,q5,-⟩:=(h.obj i hil hi).open;have S:=hid (yI.aB q5);have HB:=hid hb;have hns:=(h.val os[i] (dM hi)).gT;have SE:=Aq hi hk;have c1:=hid (fun nm W (hg:w.grownBy W none)=>Kg (some ⟨g0,off,none⟩) cap gl os nm 1 W (h.kept hg));have c2:=hid (fun nm W (hg:w.grownBy W none)=>Kg (some ⟨g0,off,none⟩) cap gl os nm 2 W (h.kept hg));have L1:=hid (fun nm=>MG h nm 1);have L2:=hid (fun nm=>MG h nm 2);have MN:=hid (show Dl.means os i k=if (Dl.bD os i k).bind=0 then some (i,k) else (Dl.bT os (Dl.bD os i k).name 1 ++ Dl.bT os (Dl.bD os i k).name 2).head? from rfl)
 rw [SE] at MN;clear hc hb q5 h SE;generalize Dl.means os i k=R at *;have G0:=hid (aH w (.cells #[.int .i64 0,.int .i64 0] 51) none);have B0:=hid (ye.new w #[.int .i64 0,.int .i64 0] 51);have hs0:(w.alloc (.cells #[.int .i64 0,.int .i64 0] 51)).heap.size=w.heap.size+1:=Array.size_push _;have ck:=yc CK.o G0.o;have k5:=(HB.o.grown G0.o (by simp)).cell 5;simp only [dH,dL,dK] at k5;obtain ⟨sg,hsg,hgs,hcs⟩:=S.o.grown G0.o (by omega);subst hsg;obtain ⟨q0,q1,q2,q3⟩:=hcs k hk;clear hcs;have g1:(i:Int) < (gl.length:Int):=by omega
 have g2:(k:Int) < (os[i].syms.length:Int):=by omega
 generalize os[i].syms[k]=y at *;generalize os[i].syms=ys at *;generalize gl[i]=bk at *;go_enter Tryz.func31,Tryz.ntmps31;have BS:=hid (ye.new (w.alloc (.cells #[.int .i64 0,.int .i64 0] 51)) #[.string (bs y.name),.int .i64 y.bind,.int .i64 y.ah,.int .i64 y.off] 77);have GS:=hid (ya G0.o (aH _ (.cells #[.string (bs y.name),.int .i64 y.bind,.int .i64 y.ah,.int .i64 y.off] 77) none));have BR:=hid (B0.o.grown (aH _ (.cells #[.string (bs y.name),.int .i64 y.bind,.int .i64 y.ah,.int .i64 y.off] 77) none) (by simp));rw [hs0] at BS;clear hs0
 go_upto_region 2 with fail
 generalize (w.alloc (.cells #[.int .i64 0,.int .i64 0] 51)).alloc (.cells #[.string (bs y.name),.int .i64 y.bind,.int .i64 y.ah,.int .i64 y.off] 77)=W1 at *;clear G0 B0 ck k5 q0 q1 q2 q3;have hX0:w.heap.size < w.heap.size+1:=by omega
 generalize w.heap.size+1=X at *;have x0:W1.cell? ⟨X,0,none⟩=some (.string (bs y.name)):=BS.o.cell 0;have x1:W1.cell? ⟨X,1,none⟩=some (.int .i64 y.bind):=BS.o.cell 1;have z0:W1.cell? ⟨w.heap.size,0,none⟩=some (.int .i64 0):=BR.o.cell 0;have z1:W1.cell? ⟨w.heap.size,1,none⟩=some (.int .i64 0):=BR.o.cell 1;have f0:=BR.o.free 0;have f1:=BR.o.free 1;have hRl:=BR.o.lt;by_cases hb0:y.bind=0
 ·have d0:(y.bind == 0)=true:=by simpa using hb0
  have E:=hid (show R=some (i,k) by rw [MN.o,if_pos hb0]);clear hb0;go_wp2;have F:=(BR.o.set 0 (.int .i64 i)).set 1 (.int .i64 k);have h0:=F.cell 0;have h1:=F.cell 1;simp only [fu,fC,eX,dH,dL,dK] at h0 h1;refine bodyPost_ret (v:=iF (some (i,k))) ?_ rfl ⟨by rw [E.o],EI GS.o _ (Nat.le_refl _) _ _⟩;clear F z0 z1 f0 f1 x0 x1;generalize World.setCell _ _ _=WF at *;simp [results,Tryz.results31,go_sem,iF,h0,h1]
 ·have d0:(y.bind == 0)=false:=by simpa using hb0
  have E:=hid (show R=(Dl.bT os y.name 1 ++ Dl.bT os y.name 2).head? by rw [MN.o,if_neg hb0]);have Vj:=hid (c1.o y.name);have Vk:=hid (c2.o y.name);have l1:=L1.o y.name;have l2:=L2.o y.name;clear hb0 MN c1 c2 L1 L2;generalize Dl.bT os y.name 1=A at *;generalize Dl.bT os y.name 2=B at *;go_wp2_with fail;refine (Vj.o _ GS.o).mono ?_;rintro e W2 ⟨v1,rfl,ho1,hg1⟩;obtain ⟨a1,VB,rfl⟩:=yj ho1;have G2:=hid (ya GS.o hg1);have SX:=hid (BS.o.grown hg1 (by simp));have kU:=hid (BR.o.grown hg1 (by simp));have O1:=hid ho1;have hw1:=hg1.size;clear ho1 hg1 x0 x1 z0 z1 f0 f1 Vj;have x0:W2.cell? ⟨X,0,none⟩=some (.string (bs y.name)):=SX.o.cell 0
  go_wp2_with fail;refine (Vk.o _ G2.o).mono ?_;rintro e W3 ⟨v2,rfl,ho2,hg2⟩;obtain ⟨a2,cp2,rfl⟩:=yj ho2;have G3:=hid (ya G2.o hg2);have fF:=hid (kU.o.grown hg2 (by simp));have vY:=hid (sU O1.o hg2);have O2:=hid ho2;have hw2:=hg2.size;clear ho2 hg2 x0 Vk BS SX BR kU O1;have hX:=GS.o.size
  go_upto_region 7 with (at_builtin; refine Wt rfl _ _ 78 rfl W1.heap.size i2 Tryz.underlying78 hi2 hx0 hx1 hx2 _ _ _ rfl vY.o _ W2.heap.size B rfl O2.o (by omega) (by omega) ?_; intro v3 w4 ho3 hg3 PD; obtain ⟨a3,O9,rfl⟩:=yj ho3; have G4:=hid (yD G3.o hg3 (fun b hb=>Nat.le_trans hX (vY.o.lt b hb).1)); have bZ:=hid (fF.o.grown hg3 (fun hb=>by have:=(vY.o.lt _ hb.symm).1; omega)); have O3:=hid ho3; clear ho3 hg3 PD)
  have EQ:=hid (show (A ++ B).length=A.length+B.length/\(A ++ B).flatMap jD=A.flatMap jD ++ B.flatMap jD from ⟨by simp,by simp⟩);have O4:=hid (show w4.ownsRow W1.heap.size 51 2 (.slice a3 (A.length+B.length) O9) (A.length+B.length) ((A ++ B).flatMap jD) by rw [EQ.o.2]; exact O3.o);have hlen:=EQ.o.1;clear O3 EQ vY O2;generalize A ++ B=C at *;have z0:w4.cell? ⟨w.heap.size,0,none⟩=some (.int .i64 0):=bZ.o.cell 0;have z1:w4.cell? ⟨w.heap.size,1,none⟩=some (.int .i64 0):=bZ.o.cell 1;have f0:=bZ.o.free 0;have f1:=bZ.o.free 1
  cases C with
  | nil =>
   have g3:((A.length:Int)+(B.length:Int) == 0)=true:=by simp only [List.length_nil] at hlen; simp; omega
   clear hlen;go_wp2;have F:=(bZ.o.set 0 (.int .i64 (-1))).set 1 (.int .i64 0);have h0:=F.cell 0;have h1:=F.cell 1;simp only [fu,fC,eX,dH,dL,dK] at h0 h1;refine bodyPost_ret (v:=iF none) ?_ rfl ⟨by rw [E.o]; rfl,EI G4.o _ (Nat.le_refl _) _ _⟩;clear F z0 z1 f0 f1;generalize World.setCell _ _ _=WF at *;simp [results,Tryz.results31,go_sem,iF,h0,h1]
  | cons p C =>
   have g3:((A.length:Int)+(B.length:Int) == 0)=false:=by simp only [gL] at hlen; simp; omega
   have g4:(0:Int) < (A.length:Int)+(B.length:Int):=by simp only [gL] at hlen; omega
   obtain ⟨gr,rfl,hgr,r0,r1⟩:=RH O4.o (by simp only [gL] at hlen; omega);clear hlen;go_wp2;have F:=(bZ.o.set 0 (.int .i64 p.1)).set 1 (.int .i64 p.2);have h0:=F.cell 0;have h1:=F.cell 1;simp only [fu,fC,eX,dH,dL,dK] at h0 h1;refine bodyPost_ret (v:=iF (some p)) ?_ rfl ⟨by rw [E.o]; rfl,EI G4.o _ (Nat.le_refl _) _ _⟩;clear F z0 z1 f0 f1 r0 r1;generalize World.setCell _ _ _=WF at *;simp [results,Tryz.results31,go_sem,iF,h0,h1]
theorem yfT (g B:Nat) (o:Lk.Obj) (at_:Option Addr) (ct:Nat) (af:Option Addr) (cf:Nat) (ad:Option Addr) (cd:Nat) (Z:Nat) (w:World) (h:yq w g o) (hs:oV w B o at_ ct af cf ad cd Z) (hn:kV o) (hb4:oI o.align) (hw:pR o)
  (hgr:∀ r∈o.aj,r.off<=9223372036854775807) (hk:0 < o.aj.length) (hpre:(1<=(o.aj[0]'hk).ah/\(o.aj[0]'hk).ah<=3)/\0<=(o.aj[0]'hk).off/\(o.aj[0]'hk).off % 4=0) (hkd:(o.aj[0]'hk).kind=1) :
  Calls Tryz.prog 90 #[.pointer (some ⟨g,0,none⟩),.slice (some ⟨B,0,none⟩) 5 5,.int .i64 0] w fun e w'=>yg e (kD o 0 hk)/\w.grownBy w' none:=by
 have cZ:=hid hpre;have gM:=hid hkd;clear hpre hkd;obtain ⟨_,_,_,_,_,_,aa,ca,gF,cs,ar,cr,hb,-,-,-,h4,h5,h6⟩:=h.open;have hnr:=hn.2.2.2.2.2;have hns:=hn.2.2.2.2.1;obtain ⟨rg,hao,hgs,hc⟩:=lX.aB h6 (by omega);subst hao;obtain ⟨q0,q1,q2,q3,q4⟩:=hc 0 hk;simp only [Nat.zero_mul,Nat.zero_add] at q0 q1 q2 q3 q4;have k6:=hb.cell 6;have S:=hid (yI.aB h5);have qI:=hb4.1;obtain ⟨ga,pO,pI,hca⟩:=ym.aB h4 (by omega);subst pI;have xC:=hid hca;have rG:=hid hb4;have iU:=yZ h4;have HB:=hid hb;have HS:=hid hs;have HW:=hid hw;have hsm:=hid (fun ah=>yE hn ah);have f3:=hgr _ (dM hk);have HQ:=hid (show kD o 0 hk↔yV o (o.aj[0]'hk) from ⟨fun h=>h.1,fun h=>⟨h,fun h=>absurd h (Nat.lt_irrefl _)⟩⟩)
 generalize kD o 0 hk=Q at *;have g1:(0:Int) < (o.aj.length:Int):=by omega
 generalize o.aj[0]'hk=r at *;have nK:=hid (fun (a:yl r) (b:yA o r) (c:j6 (yh o r.ah))=>w9 a b c);have cC:=hid (fun W (a:yl r)=>tN r W a.six);have qF:=hid (fun (a:yl r)=>yC a);have jI:=hid (show yA o r↔0<=r.off/\r.off % 4=0/\r.off / 4+yr r<=(yh o r.ah).length from Iff.rfl);have bL:=hid (show yz o r=((yh o r.ah).drop (r.off / 4).toNat).take (yr r).toNat from rfl);have jA:=hid (show yQ o r↔∃ i,∃ h:i < o.syms.length,o.syms[i].ah=r.ah/\r.off < o.syms[i].off/\o.syms[i].off < r.off+4 * yr r from Iff.rfl);have jh:=hid (show jw o r↔if r.kind=6 then r.sym=0 else 0<=r.sym/\r.sym < o.syms.length from Iff.rfl)
 have nL:=hid (show j4 o r↔(r.kind=6->r.addend+4<=yL (o.align.getD (r.ah.toNat - 1) 0)) from Iff.rfl);have kJ:=hid (show yH r↔((r.ah=1\/r.ah=2)/\1<=r.kind/\r.kind<=6)\/(r.ah=3/\r.kind=1) from Iff.rfl);have jV:=hid (show yl r↔if r.kind=1\/r.kind=5 then -2048<=r.addend/\r.addend<=2047 else if r.kind=6 then r.addend=4\/r.addend=12 else r.addend=0 from Iff.rfl);have bS:=hid (show yV o r↔yH r/\yl r/\jw o r/\j4 o r/\yA o r/\yv r.kind (yz o r)/\¬ yQ o r from Iff.rfl);generalize yV o r=RO at *;generalize jw o r=SI at *;generalize j4 o r=BO at *;generalize yH r=KO at *;generalize yl r=AO at *;generalize yA o r=AB at *
 generalize yQ o r=WI at *;generalize yz o r=ab at *;have nM:=hid (show r.kind=4\/r.kind=5->yr r=2 from fun h=>if_pos h);generalize yr r=sp at *;unfold bY at cC;obtain ⟨ah,off,kind,sym,addend⟩:=r;simp only at *;have no:Hd (∀ W,(¬ Q)->w.grownBy W none->yg (.returned (.bool false)) Q/\w.grownBy W none):=fun W a b=>⟨yg.no a,b⟩
 have B0:=ye.new w #[.int .i64 ah,.int .i64 off,.int .i64 kind,.int .i64 sym,.int .i64 addend] 83;have HB0:=hid B0;have G0:=hid (aH w (.cells #[.int .i64 ah,.int .i64 off,.int .i64 kind,.int .i64 sym,.int .i64 addend] 83) none);clear h hs hn h4 h5 h6 hb hb4 hw hgr hca hc B0;go_enter Tryz.func90,Tryz.ntmps90;by_cases c:ah < 1
 ·have d:decide (ah < 1)=true:=by simp; omega
  have:=cZ.o
  have:=gM.o
  omega
 have n0:decide (ah < 1)=false:=by simp; omega
 have m0:¬ (ah < 1):=c;clear c;by_cases c:3 < ah
 ·have d:decide (3 < ah)=true:=by simp; omega
  have:=cZ.o
  have:=gM.o
  omega
 have n1:decide (3 < ah)=false:=by simp; omega
 have m1:¬ (3 < ah):=c;clear c;by_cases c:kind < 1
 ·have d:decide (kind < 1)=true:=by simp; omega
  have:=cZ.o
  have:=gM.o
  omega
 have n2:decide (kind < 1)=false:=by simp; omega
 have m2:¬ (kind < 1):=c;clear c;by_cases c:6 < kind
 ·have d:decide (6 < kind)=true:=by simp; omega
  have:=cZ.o
  have:=gM.o
  omega
 have n3:decide (6 < kind)=false:=by simp; omega
 have m3:¬ (6 < kind):=c;clear c;by_cases c:off < 0
 ·have d:decide (off < 0)=true:=by simp; omega
  have:=cZ.o
  have:=gM.o
  omega
 have n4:decide (off < 0)=false:=by simp; omega
 have m4:¬ (off < 0):=c;clear c;have m5:0<=off:=by omega
 by_cases c:off % 4=0
 rotate_left
 ·have d:(off % 4 == 0)=false:=beq_eq_false_iff_ne.2 c;have CC:=hid c;clear c
  have:=cZ.o
  have:=gM.o
  have:=CC.o
  omega
 have n5:(off % 4 == 0)=true:=beq_iff_eq.2 c;have C5:=hid c;obtain ⟨q,hq4⟩:∃ q:Nat,off=4 * (q:Int):=⟨(off / 4).toNat,by omega⟩
 have iV:off / 4=(q:Int):=by omega
 have jJ:=hid iV;have oN:=hid hq4;clear c hq4 iV;obtain ⟨n,hsn⟩:∃ n:Nat,ah=(n:Int)+1:=⟨(ah - 1).toNat,by omega⟩
 have hn2:n<=2:=by omega
 subst hsn;clear m0 m1;obtain ⟨CW,aS,s1,s2,s3,s4⟩:=(HS.o.grown G0.o).sec n hn2;unfold maxLen at s3;have s5:=hsm.o ((n:Int)+1);have kK:=hid s4;clear s4;have oO:=hid (xQ HW.o ((n:Int)+1));generalize yh o ((n:Int)+1)=ws at *;have hkd:=gM.o
 ·subst hkd;by_cases c:addend < -2048
  ·have d:decide (addend < -2048)=true:=by simp; omega
   have CC:=hid (show ¬ AO from fun h=>by rw [jV.o] at h; simp at h; omega);go_wp2;go_ret;exact no.o _ (fun h=>CC.o (bS.o.1 (HQ.o.1 h)).2.1) G0.o
  have a1:decide (addend < -2048)=false:=by simp; omega
  have e1:¬ (addend < -2048):=c;clear c;by_cases c:2047 < addend
  ·have d:decide (2047 < addend)=true:=by simp; omega
   have CC:=hid (show ¬ AO from fun h=>by rw [jV.o] at h; simp at h; omega);go_wp2;go_ret;exact no.o _ (fun h=>CC.o (bS.o.1 (HQ.o.1 h)).2.1) G0.o
  have a2:decide (2047 < addend)=false:=by simp; omega
  have e2:¬ (2047 < addend):=c;clear c;have HA:=hid (jV.o.2 (by simp; omega));have hsp:=qF.o HA.o;have qY:=hid (fun W=>cC.o W HA.o);go_wp2_with fail;refine (qY.o _).mono ?_;rintro e w2 ⟨rfl,hq2⟩;have BR:=hid (HB0.o.grown hq2 (by simp));have G2:=hid (ya G0.o hq2);have t1:=yc s1 hq2;have nZ:=hid (kK.o.kept (fun a v hv=>yc hv hq2));have c0:=BR.o.cell 0;have c1:=BR.o.cell 1;have c2:=BR.o.cell 2;have c3:=BR.o.cell 3;have c4:=BR.o.cell 4;have b4:=(HB.o.grown G2.o (by simp)).cell 4;have b5:=(HB.o.grown G2.o (by simp)).cell 5;have b6:=(HB.o.grown G2.o (by simp)).cell 6;clear hq2 s1 q0 q1 q2 q3 q4 k6;have bW:=BR.o.lt
  have HA2:=hid HA.o;by_cases r1:(ws.length:Int) < off / 4+sp
  ·have d:decide ((ws.length:Int) < off / 4+sp)=true:=by simp; omega
   have CC:=hid (show ¬ AB from fun h=>by have:=(jI.o.1 h).2.2; omega);go_wp2
   go_quiet (fail)
   go_wp2;go_ret;exact no.o _ (fun h=>CC.o (bS.o.1 (HQ.o.1 h)).2.2.2.2.1) (yd G2.o nq)
  have D8:decide ((ws.length:Int) < off / 4+sp)=false:=by simp; omega
  have fK:=hid (jI.o.2 ⟨m5,C5.o,by omega⟩);have oM:=hid (kJ.o.2 (by simp; omega));rcases (show ((n:Int)+1 == 3)=true\/((n:Int)+1 == 3)=false from by cases ((n:Int)+1 == 3) <;> simp) with tY | tY
  all_goals
   go_wp2
   go_quiet (fail)
   have fF:=hid (BR.o.drewN nq);have G3:=hid (yd G2.o nq);have t3:=yc t1 (yd (World.grownBy.refl w2 none) nq);have nC:=hid (nZ.o.kept (fun a v hv=>yc hv (yd (World.grownBy.refl w2 none) nq)));clear c0 c1 c2 c3 c4 b4 b5 b6 t1 nZ BR G2 bW;generalize w2.drewN nq=w3 at *;have bW:=fF.o.lt;have c0:=fF.o.cell 0;have c1:=fF.o.cell 1;have c2:=fF.o.cell 2;have c3:=fF.o.cell 3;have c4:=fF.o.cell 4;have b4:=(HB.o.grown G3.o (by simp)).cell 4;have b5:=(HB.o.grown G3.o (by simp)).cell 5;by_cases r8:sym < 0
   ·have d:decide (sym < 0)=true:=by simp; omega
    have CC:=hid (show ¬ SI from fun h=>by have h2:=jh.o.1 h; first | omega | (rw [if_neg (by omega)] at h2; omega) | (simp at h2; omega));go_wp2
    go_quiet (fail)
    go_wp2;go_ret;exact no.o _ (fun h=>CC.o (bS.o.1 (HQ.o.1 h)).2.2.1) (yd G3.o nq)
   have vw:decide (sym < 0)=false:=by simp; omega
   by_cases r9:(o.syms.length:Int)<=sym
   ·have d:decide ((o.syms.length:Int)<=sym)=true:=by simp; omega
    have CC:=hid (show ¬ SI from fun h=>by have h2:=jh.o.1 h; first | omega | (rw [if_neg (by omega)] at h2; omega) | (simp at h2; omega));go_wp2
    go_quiet (fail)
    go_wp2;go_ret;exact no.o _ (fun h=>CC.o (bS.o.1 (HQ.o.1 h)).2.2.1) (yd G3.o nq)
   have CG:decide ((o.syms.length:Int)<=sym)=false:=by simp; omega
   have lu:=hid (show SI from jh.o.2 (by first | (rw [if_neg (by omega)]; omega) | (simp; omega)));have kZ:=hid (show BO from nL.o.2 (fun h=>by exfalso; omega));go_wp2
   go_quiet (fail)
   have gK:=hid (fF.o.drewN nq);have G5:=hid (yd G3.o nq);have t5:=yc t3 (yd (World.grownBy.refl w3 none) nq);have lD:=hid (nC.o.kept (fun a v hv=>yc hv (yd (World.grownBy.refl w3 none) nq)));clear c0 c1 c2 c3 c4 b4 b5 t3 nC fF G3 bW;generalize w3.drewN nq=w5 at *;have bW:=gK.o.lt;have b5:=(HB.o.grown G5.o (by simp)).cell 5;go_wp2;have S5:=hid (S.o.grown G5.o);have vH:IntKind.i64.wrap (4 * sp)=4 * sp:=IntWalk.i64_in _ ⟨by omega,by omega⟩;have lS:IntKind.i64.wrap (off+4 * sp)=off+4 * sp:=IntWalk.i64_in _ ⟨by omega,by omega⟩
   go_loopw [13] (fun i wr=>∃ a:Nat,a<=o.syms.length/\i = .int .i64 a/\(∀ b (hb:b < o.syms.length),b < a->¬ (o.syms[b].ah=(n:Int)+1/\off < o.syms[b].off/\o.syms[b].off < off+4 * sp))/\w5.grownBy wr none) (fun i _=>o.syms.length - (intOf i).toNat)
   case atStart=>exact ⟨0,Nat.zero_le _,rfl,fun j _ hj=>absurd hj (Nat.not_lt_zero j),World.grownBy.refl _ _⟩
   case round =>
    obtain ⟨a,ha,rfl,hall,hgr⟩:=hrel;have eu:=hid hall;have HG:=hid hgr;clear hall hgr;have fO:=hid (gK.o.grown HG.o (by simp));have c0:=fO.o.cell 0;have c1:=fO.o.cell 1;have oQ:=fO.o.lt;have hnn:w.heap.size≠wr.heap.size:=by omega
    have b5:=(HB.o.grown (ya G5.o HG.o) (by simp)).cell 5;have GA:=hid (fun ob:Obj=>aH wr ob none);by_cases hlt:a < o.syms.length
    ·obtain ⟨sg,hso,lJ,hcs⟩:=S5.o.grown HG.o (by omega);subst hso;obtain ⟨y0,y1,y2,y3⟩:=hcs a hlt;clear hcs;have g3:(a:Int) < (o.syms.length:Int):=by omega
     by_cases x1:o.syms[a].ah=(n:Int)+1
     ·have z1:(o.syms[a].ah == (n:Int)+1)=true:=beq_iff_eq.2 x1;by_cases x2:off < o.syms[a].off
      ·have z2:decide (off < o.syms[a].off)=true:=by simpa using x2
       by_cases x3:o.syms[a].off < off+4 * sp
       ·have z3:decide (o.syms[a].off < off+4 * sp)=true:=by simpa using x3
        have CC:=hid (show WI from jA.o.2 ⟨a,hlt,x1,x2,x3⟩);clear x1;go_wp2;go_ret;exact no.o _ (fun h=>(bS.o.1 (HQ.o.1 h)).2.2.2.2.2.2 CC.o) (ya (ya G5.o HG.o) (GA.o _))
       ·have z3:decide (o.syms[a].off < off+4 * sp)=false:=by simp; omega
        have CC:=hid (show ¬ (o.syms[a].ah=(n:Int)+1/\off < o.syms[a].off/\o.syms[a].off < off+4 * sp) from fun h=>x3 h.2.2);clear x1 x3;go_wp2
        go_roundw
        case rel=>exact ⟨a+1,by omega,by go_num,fun j hj hjk=>(Nat.lt_succ_iff_lt_or_eq.1 hjk).elim (fun h=>eu.o j hj h) (fun h=>by subst h; exact CC.o),ya HG.o (GA.o _)⟩
        case measure=>simp [intOf]; omega
      ·have z2:decide (off < o.syms[a].off)=false:=by simp; omega
       have CC:=hid (show ¬ (o.syms[a].ah=(n:Int)+1/\off < o.syms[a].off/\o.syms[a].off < off+4 * sp) from fun h=>x2 h.2.1);clear x1 x2;go_wp2
       go_roundw
       case rel=>exact ⟨a+1,by omega,by go_num,fun j hj hjk=>(Nat.lt_succ_iff_lt_or_eq.1 hjk).elim (fun h=>eu.o j hj h) (fun h=>by subst h; exact CC.o),ya HG.o (GA.o _)⟩
       case measure=>simp [intOf]; omega
     ·have z1:(o.syms[a].ah == (n:Int)+1)=false:=beq_eq_false_iff_ne.2 x1;have CC:=hid (show ¬ (o.syms[a].ah=(n:Int)+1/\off < o.syms[a].off/\o.syms[a].off < off+4 * sp) from fun h=>x1 h.1);clear x1;go_wp2
      go_roundw
      case rel=>exact ⟨a+1,by omega,by go_num,fun j hj hjk=>(Nat.lt_succ_iff_lt_or_eq.1 hjk).elim (fun h=>eu.o j hj h) (fun h=>by subst h; exact CC.o),ya HG.o (GA.o _)⟩
      case measure=>simp [intOf]; omega
    ·have NW:=hid (show ¬ WI from fun h=>by obtain ⟨i,hi,hh⟩:=jA.o.1 h; exact eu.o i hi (by omega) hh);obtain ⟨m,hm⟩:=Int.eq_ofNat_of_zero_le (show 0<=sp from by omega);obtain ⟨ag,aO,hsa,hcl⟩:=lD.o (by omega);subst hsa;have AF:=nK.o HA2.o fK.o oO.o;rw [bL.o] at AF;have hoff:off=4 * (q:Int):=oN.o;have hqq:(off / 4).toNat=q:=by have:=jJ.o; omega
     rw [hqq,hm,Int.toNat_natCast] at AF;rw [hqq,hm,Int.toNat_natCast] at bL;have c2:=fO.o.cell 2;have t6:=yc t5 HG.o;have m1:1<=m:=by omega
     have m3:m<=3:=by omega
     have hqm:q+m<=ws.length:=by have:=jJ.o; omega
     have IW:=hid (show ym wr (some ⟨ag,aO+q,none⟩) ((ws.drop q).take m) from fun _=>⟨ag,aO+q,rfl,fun i hi=>by
      have hi':q+i < ws.length:=by simp at hi; omega
      have:=yc (hcl (q+i) hi') HG.o
      rw [Nat.add_assoc,this];simp⟩)
     have dX:=hid (nM.o);have cG:=hid (fun W (hW:ym W (some ⟨ag,aO+q,none⟩) ((ws.drop q).take m))=>uW 1 (some ⟨ag,aO+q,none⟩) (aS - q) ((ws.drop q).take m) W hW AF.2.1 AF.2.2.1 AF.2.2.2 (by omega) (fun h=>by have:=dX.o (by first | exact h | simp); have:=AF.1; omega));rw [show ((ws.drop q).take m).length=m from AF.1] at cG;have lq:=hid (show yv 1 ((ws.drop q).take m)↔Q from ⟨fun h=>HQ.o.2 (bS.o.2 ⟨oM.o,HA2.o,lu.o,kZ.o,fK.o,by rw [bL.o]; exact h,NW.o⟩),fun h=>by have:=(bS.o.1 (HQ.o.1 h)).2.2.2.2.2.1; rw [bL.o] at this; exact this⟩);generalize yv 1 ((ws.drop q).take m)=GP at *;subst hoff;subst hm
     have k0:Hd (wr.drew.cell? ⟨w.heap.size,0,none⟩=some (.int .i64 ((n:Int)+1))):=c0;have k1:Hd (wr.drew.cell? ⟨w.heap.size,1,none⟩=some (.int .i64 (4 * (q:Int)))):=c1;have k2:Hd (wr.drew.cell? ⟨w.heap.size,2,none⟩=some (.int .i64 1)):=c2;have k3:Hd (wr.drew.cell? ⟨B,n+1,none⟩=some (.slice (some ⟨ag,aO,none⟩) ws.length aS)):=t6;have i1:(0:Int)<=(n:Int)+1:=by omega
     have i2:(n:Int)+1 < 5:=by omega
     have i3:(0:Int)<=(q:Int):=by omega
     have i4:(q:Int)<=(q:Int)+(m:Int):=by omega
     have i5:(q:Int)+(m:Int)<=(aS:Int):=by omega
     have i6:IntKind.i64.wrap ((q:Int)+(m:Int))=(q:Int)+(m:Int):=IntWalk.i64_in _ ⟨by omega,by omega⟩;have j1:IntKind.i64.wrap (q:Int)=(q:Int):=IntWalk.i64_in _ ⟨by omega,by omega⟩;have vD:¬ aS=q:=by omega
     have j2:max ((q:Int)+(m:Int)) 0=(q:Int)+(m:Int):=by omega
     have i7:(0:Int)<=(q:Int)+(m:Int):=by omega
     go_wp2;refine wp_region_held_drew (S:=(fun w'=>w'.cell? ⟨w.heap.size,0,none⟩=some (.int .i64 ((n:Int)+1))/\w'.cell? ⟨w.heap.size,1,none⟩=some (.int .i64 (4 * (q:Int)))/\w'.cell? ⟨w.heap.size,2,none⟩=some (.int .i64 1)/\w'.cell? ⟨B,n+1,none⟩=some (.slice (some ⟨ag,aO,none⟩) ws.length aS))) (by kernel_rfl) ⟨k0.o,k1.o,k2.o,k3.o⟩ ?_;intro hS
     iterate 15
      refine yU (v:=?_) rfl (by kernel_rfl) (fun _ _ _ h=>h) hS ?_ ?_
      rotate_left
      ·intro w' hw'; obtain ⟨x0,x1,x2,x3⟩:=hw'; go_simp; with_reducible rfl
     refine wpAnyH_take (i:=15) (v:=.slice (some ⟨ag,aO+q,none⟩) m (aS - q)) rfl (by kernel_rfl) (by kernel_rfl) (by kernel_rfl) (fun _ _ _ h=>h) (Or.inl ⟨by kernel_rfl,?_⟩) hS ?_
     ·intro w' hw'; obtain ⟨x0,x1,x2,x3⟩:=hw'; go_simp;omega
     refine wpAnyH_ready (rs:=[16]) (by kernel_rfl) (by simp) ?_;refine AllReadyH.cons rfl (fun K hK=>?_) AllReadyH.nil;go_simp;go_wp2_with (go_at_call 113; refine (cG.o _ ?_).mono ?_; (exact IW.o.kept (fun a v hv=>yc hv (yf (World.grownBy.refl wr none)))); rintro e w' ⟨⟨bb,rfl,hbb⟩,hq⟩)
     refine hK.out _ _ ⟨yc k0.o hq,yc k1.o hq,yc k2.o hq,yc k3.o hq⟩ (fun hS2=>?_);clear hK K;refine fD (i:=17) (v:=?_) rfl ?_ hS2 ?_
     rotate_left
     ·intro w' hw'; go_simp; with_reducible rfl
     refine wpAnyH_done (by kernel_rfl) ?_ _;simp only [ni,mh,kT,kI,fu,fC,eX];go_wp2;go_ret;exact ⟨yg.of (hbb.trans lq.o),ya (ya G5.o HG.o) (ya (yf (World.grownBy.refl _ _)) hq)⟩
end Go.Proofs.YtelehpmjhjljgaaGreatDoor
