
import Derived.Test.YtnkkepfcpjllmaaGreatDoorU08
set_option maxHeartbeats 16000000
set_option maxRecDepth 100000
namespace Go.Proofs.YtnkkepfcpjllmaaGreatDoor
open Go.RowKit
theorem Um (k:Nat) (h:k<=25):uP.getD k 0=((As.forms.getD k 0:Nat):Int):=by
 rcases (show k=0\/k=1\/k=2\/k=3\/k=4\/k=5\/k=6\/k=7\/k=8\/k=9\/k=10\/k=11\/k=12\/k=13\/k=14\/k=15\/k=16\/k=17\/k=18\/k=19\/k=20\/k=21\/k=22\/k=23\/k=24\/k=25 by omega) with rfl | rfl | rfl | rfl | rfl | rfl | rfl | rfl | rfl | rfl | rfl | rfl | rfl | rfl | rfl | rfl | rfl | rfl | rfl | rfl | rfl | rfl | rfl | rfl | rfl | rfl <;> rfl
theorem XD (k:Nat) (h:k<=25):FY.getD k 0=((As.jP.getD k 0:Nat):Int):=by
 rcases (show k=0\/k=1\/k=2\/k=3\/k=4\/k=5\/k=6\/k=7\/k=8\/k=9\/k=10\/k=11\/k=12\/k=13\/k=14\/k=15\/k=16\/k=17\/k=18\/k=19\/k=20\/k=21\/k=22\/k=23\/k=24\/k=25 by omega) with rfl | rfl | rfl | rfl | rfl | rfl | rfl | rfl | rfl | rfl | rfl | rfl | rfl | rfl | rfl | rfl | rfl | rfl | rfl | rfl | rfl | rfl | rfl | rfl | rfl | rfl <;> rfl
theorem XJ (k:Nat) (h:k<=25):As.jP.getD k 0 < 2147483648:=by
 rcases (show k=0\/k=1\/k=2\/k=3\/k=4\/k=5\/k=6\/k=7\/k=8\/k=9\/k=10\/k=11\/k=12\/k=13\/k=14\/k=15\/k=16\/k=17\/k=18\/k=19\/k=20\/k=21\/k=22\/k=23\/k=24\/k=25 by omega) with rfl | rfl | rfl | rfl | rfl | rfl | rfl | rfl | rfl | rfl | rfl | rfl | rfl | rfl | rfl | rfl | rfl | rfl | rfl | rfl | rfl | rfl | rfl | rfl | rfl | rfl <;> decide
theorem X3 (k:Nat) (h:1<=k) (h2:k<=25):1<=As.forms.getD k 0/\As.forms.getD k 0<=7:=by
 have:=TV k h h2
 rw [Um k h2] at this;omega
theorem U4 (a b:Nat) (ha:a < 2 ^ 40) (hb:b < 2 ^ 40):a ||| b < 2 ^ 40:=Nat.or_lt_two_pow ha hb
theorem FX (a:Nat) (r:Nat) (m:Nat) (M:Int) (hM:M=(m:Int)) (ha:a < 2 ^ 40) (hm:m<=1048576):bits .or .i64 (a:Int) (wrap64 (bits .and .i64 (r:Int) 31 * M))=((a ||| As.dQ r 0 5 * m:Nat):Int)/\a ||| As.dQ r 0 5 * m < 2 ^ 40:=by
 have h:=UU (r:Int);have h2:As.dQ r 0 5 * m<=31 * 1048576:=Nat.mul_le_mul (by omega) hm;rw [X0,BA _ m M hM (by omega),Dk _ _ (by omega) (by omega)];exact ⟨rfl,U4 _ _ ha (by omega)⟩
def Cw (op rd bK dJ:Nat) (n:Int):Value:=.agg #[.int .i64 op,.int .i64 rd,.int .i64 bK,.int .i64 dJ,.int .i64 n]
theorem Dj (op rd bK dJ:Nat) (n:Int) (w:World) (ht:gD w) (h1:1<=op) (h2:op<=25) :
  Calls Tryz.prog 136 #[Cw op rd bK dJ n] w fun e w'=>e = .returned (.int .i64 (As.enc op rd bK dJ n:Nat))/\w.grownBy w' none:=by
 have G:=hid (fun o:Obj=>aW w o none);have t1:=ht.form op (by omega);have t2:=ht.fix op (by omega);have hs1:1 < w.heap.size:=World.block_lt_of_cell? w ⟨1,op,none⟩ t1;have hs2:2 < w.heap.size:=World.block_lt_of_cell? w ⟨2,op,none⟩ t2;rw [Um op h2] at t1;rw [XD op h2] at t2;have hx:=XJ op h2;have hf:=X3 op h1 h2;have EN:=hid (show As.enc op rd bK dJ n=As.gV (As.forms.getD op 0) (As.jP.getD op 0) rd bK dJ n from rfl);generalize As.forms.getD op 0=form at *;generalize As.jP.getD op 0=x at *;generalize As.enc op rd bK dJ n=R at *;have hpl:=ykb form n;have cP:=hid (fun W=>yfC form n W hf);have PW:=hid (show bits .or .i64 (x:Int) (As.place' form n:Nat)=((x ||| As.place' form n:Nat):Int)/\x ||| As.place' form n < 2 ^ 40 from ⟨Dk _ _ (by omega) (by omega),U4 _ _ (by omega) (by omega)⟩)
 have e0:(1:Int)<=(op:Int):=by omega
 have e1:(op:Int)<=25:=by omega
 have b1:decide ((op:Int) < 1)=false:=by simp; omega
 have b2:decide ((25:Int) < (op:Int))=false:=by simp; omega
 clear ht h1 h2;unfold Cw;rcases (show form=1\/form=2\/form=3\/form=4\/form=5\/form=6\/form=7 from by omega) with rfl | rfl | rfl | rfl | rfl | rfl | rfl
 ·have BQ:=hid (show R=As.gV 1 x rd bK dJ n from EN.o);generalize hpn:As.place' 1 n=pn at *;have Cc:=hid hpn;clear hpn;go_enter Tryz.func136,Tryz.ntmps136;go_wp2
  go_quiet ((go_at_call 154; exact Calls.quiet_of_same (cP.o _)))
  go_wp2;go_ret;refine ⟨Ay ?_,yc (G.o _) _⟩;rw [BQ.o];unfold As.gV;rw [Cc.o];simp only [];rw [if_pos (show As.iY 1=true from rfl),if_neg (show ¬ As.gW 1=true by decide),if_neg (show ¬ As.iP 1=true by decide)];rw [PW.o.1];have s1:=FX (x ||| pn) rd 128 128 rfl PW.o.2 (by omega);rw [s1.1]
 ·have BQ:=hid (show R=As.gV 2 x rd bK dJ n from EN.o);generalize hpn:As.place' 2 n=pn at *;have Cc:=hid hpn;clear hpn;go_enter Tryz.func136,Tryz.ntmps136;go_wp2
  go_quiet ((go_at_call 154; exact Calls.quiet_of_same (cP.o _)))
  go_wp2;go_ret;refine ⟨Ay ?_,yc (G.o _) _⟩;rw [BQ.o];unfold As.gV;rw [Cc.o];simp only [];rw [if_pos (show As.iY 2=true from rfl),if_neg (show ¬ As.gW 2=true by decide),if_neg (show ¬ As.iP 2=true by decide)];rw [PW.o.1];have s1:=FX (x ||| pn) rd 128 128 rfl PW.o.2 (by omega);rw [s1.1]
 ·have BQ:=hid (show R=As.gV 3 x rd bK dJ n from EN.o);generalize hpn:As.place' 3 n=pn at *;have Cc:=hid hpn;clear hpn;go_enter Tryz.func136,Tryz.ntmps136;go_wp2
  go_quiet ((go_at_call 154; exact Calls.quiet_of_same (cP.o _)))
  go_wp2;go_ret;refine ⟨Ay ?_,yc (G.o _) _⟩;rw [BQ.o];unfold As.gV;rw [Cc.o];simp only [];rw [if_pos (show As.iY 3=true from rfl),if_pos (show As.gW 3=true from rfl),if_neg (show ¬ As.iP 3=true by decide)];rw [PW.o.1];have s1:=FX (x ||| pn) rd 128 128 rfl PW.o.2 (by omega);rw [s1.1];have s2:=FX ((x ||| pn) ||| As.dQ rd 0 5 * 128) bK 32768 32768 rfl s1.2 (by omega);rw [s2.1]
 ·have BQ:=hid (show R=As.gV 4 x rd bK dJ n from EN.o);generalize hpn:As.place' 4 n=pn at *;have Cc:=hid hpn;clear hpn;go_enter Tryz.func136,Tryz.ntmps136;go_wp2
  go_quiet ((go_at_call 154; exact Calls.quiet_of_same (cP.o _)))
  go_wp2;go_ret;refine ⟨Ay ?_,yc (G.o _) _⟩;rw [BQ.o];unfold As.gV;rw [Cc.o];simp only [];rw [if_neg (show ¬ As.iY 4=true by decide),if_pos (show As.gW 4=true from rfl),if_pos (show As.iP 4=true from rfl)];rw [PW.o.1];have s1:=FX (x ||| pn) bK 32768 32768 rfl PW.o.2 (by omega);rw [s1.1];have s2:=FX ((x ||| pn) ||| As.dQ bK 0 5 * 32768) dJ 1048576 1048576 rfl s1.2 (by omega);rw [s2.1]
 ·have BQ:=hid (show R=As.gV 5 x rd bK dJ n from EN.o);generalize hpn:As.place' 5 n=pn at *;have Cc:=hid hpn;clear hpn;go_enter Tryz.func136,Tryz.ntmps136;go_wp2
  go_quiet ((go_at_call 154; exact Calls.quiet_of_same (cP.o _)))
  go_wp2;go_ret;refine ⟨Ay ?_,yc (G.o _) _⟩;rw [BQ.o];unfold As.gV;rw [Cc.o];simp only [];rw [if_neg (show ¬ As.iY 5=true by decide),if_pos (show As.gW 5=true from rfl),if_pos (show As.iP 5=true from rfl)];rw [PW.o.1];have s1:=FX (x ||| pn) bK 32768 32768 rfl PW.o.2 (by omega);rw [s1.1];have s2:=FX ((x ||| pn) ||| As.dQ bK 0 5 * 32768) dJ 1048576 1048576 rfl s1.2 (by omega);rw [s2.1]
 ·have BQ:=hid (show R=As.gV 6 x rd bK dJ n from EN.o);generalize hpn:As.place' 6 n=pn at *;have Cc:=hid hpn;clear hpn;go_enter Tryz.func136,Tryz.ntmps136;go_wp2
  go_quiet ((go_at_call 154; exact Calls.quiet_of_same (cP.o _)))
  go_wp2;go_ret;refine ⟨Ay ?_,yc (G.o _) _⟩;rw [BQ.o];unfold As.gV;rw [Cc.o];simp only [];rw [if_pos (show As.iY 6=true from rfl),if_pos (show As.gW 6=true from rfl),if_pos (show As.iP 6=true from rfl)];rw [PW.o.1];have s1:=FX (x ||| pn) rd 128 128 rfl PW.o.2 (by omega);rw [s1.1];have s2:=FX ((x ||| pn) ||| As.dQ rd 0 5 * 128) bK 32768 32768 rfl s1.2 (by omega);rw [s2.1];have s3:=FX (((x ||| pn) ||| As.dQ rd 0 5 * 128) ||| As.dQ bK 0 5 * 32768) dJ 1048576 1048576 rfl s2.2 (by omega);rw [s3.1]
 ·have BQ:=hid (show R=As.gV 7 x rd bK dJ n from EN.o);generalize hpn:As.place' 7 n=pn at *;have Cc:=hid hpn;clear hpn;go_enter Tryz.func136,Tryz.ntmps136;go_wp2
  go_quiet ((go_at_call 154; exact Calls.quiet_of_same (cP.o _)))
  go_wp2;go_ret;refine ⟨Ay ?_,yc (G.o _) _⟩;rw [BQ.o];unfold As.gV;rw [Cc.o];simp only [];rw [if_neg (show ¬ As.iY 7=true by decide),if_neg (show ¬ As.gW 7=true by decide),if_neg (show ¬ As.iP 7=true by decide)];rw [PW.o.1]
def LX (k:Nat) (w:World) (b:Nat):Prop:=w.cell? ⟨b,k * 5+1,none⟩=some (.int .i64 ((k:Int)+1))/\w.cell? ⟨b,k * 5+2,none⟩=some (.int .i64 (FY.getD (k+1) 0))/\w.cell? ⟨b,k * 5+3,none⟩=some (.int .i64 (Gm (uP.getD (k+1) 0)))/\w.cell? ⟨b,k * 5+4,none⟩=some (.int .u8 (vH (uP.getD (k+1) 0)))
theorem XE (w:World) :
  Calls Tryz.prog 85 #[] w fun e w'=>e = .returned (.slice (some ⟨w.heap.size,0,none⟩) 25 25)/\(∀ k,k < 25->LX k w' w.heap.size)/\w.heap.size < w'.heap.size/\w.grownBy w' none:=by
 have G:=hid (fun o:Obj=>aW w o none);go_enter Tryz.func85,Tryz.ntmps85;go_wp2;go_ret;refine ⟨rfl,fun k hk=>?_,by simp,G.o _⟩;refine ⟨((yd.new w _ _).cell _).trans ?_,((yd.new w _ _).cell _).trans ?_,((yd.new w _ _).cell _).trans ?_,((yd.new w _ _).cell _).trans ?_⟩
 all_goals
  clear G;rcases (show k=0\/k=1\/k=2\/k=3\/k=4\/k=5\/k=6\/k=7\/k=8\/k=9\/k=10\/k=11\/k=12\/k=13\/k=14\/k=15\/k=16\/k=17\/k=18\/k=19\/k=20\/k=21\/k=22\/k=23\/k=24 from by omega) with rfl | rfl | rfl | rfl | rfl | rfl | rfl | rfl | rfl | rfl | rfl | rfl | rfl | rfl | rfl | rfl | rfl | rfl | rfl | rfl | rfl | rfl | rfl | rfl | rfl <;> rfl
def zl (o:Lk.Obj):Prop:=Jp o/\rD o.align/\tN o/\KV o/\KU o
def zC (o:Lk.Obj):Prop:=ou o/\(∀ y∈o.syms,y.name.length<=255)/\∀ r∈o.aj,r.off<=9223372036854775807
theorem XF (g:Nat) (o:Lk.Obj) (w:World) (ht:gD w) (h:yw w g o) (hn:zC o) :
  Calls Tryz.prog 40 #[.pointer (some ⟨g,0,none⟩)] w fun e w'=>ye e (zl o)/\w.grownBy w' none:=by
 obtain ⟨at_,ct,af,cf,ad,cd,aa,ca,gu,cs,ar,cr,hb,h1,h2,h3,h4,h5,h6⟩:=h.open;have k4:=hb.cell 4;have c1:=hid (ygh g o w h hn.1);have c2:=hid (yfj aa ca o.align w (yn.aF h4) hn.1.2.2.2.1);have c3:=hid (ygj g o w h hn.1);have HO:=hid h;have HT:=hid ht;have HN:=hid hn;clear h ht hn hb h1 h2 h3 h4 h5 h6;go_enter Tryz.func40,Tryz.ntmps40;go_wp2_with fail;refine c1.o.mono ?_;rintro e w1 ⟨t,rfl⟩;rcases t.split with ⟨rfl,p1⟩ | ⟨rfl,p1⟩ <;> clear t c1
 ·go_wp2;go_ret;exact ⟨ye.no (fun h=>p1.o h.1),World.grownBy.refl _ _⟩
 go_wp2_with fail;refine c2.o.mono ?_;rintro e w2 ⟨t,rfl⟩;rcases t.split with ⟨rfl,p2⟩ | ⟨rfl,p2⟩ <;> clear t c2
 ·go_wp2;go_ret;exact ⟨ye.no (fun h=>p2.o h.2.1),World.grownBy.refl _ _⟩
 go_wp2_with fail;refine c3.o.mono ?_;rintro e w3 ⟨t,rfl⟩;rcases t.split with ⟨rfl,p3⟩ | ⟨rfl,p3⟩ <;> clear t c3
 ·go_wp2;go_ret;exact ⟨ye.no (fun h=>p3.o h.2.2.1),World.grownBy.refl _ _⟩
 have c4:=hid (yfk g o w3 HO.o HN.o.1 p1.o.2.1 HN.o.2.1);go_wp2_with fail;refine c4.o.mono ?_;rintro e w4 ⟨t,q4⟩;have Q4:=hid q4;rcases t.split with ⟨rfl,p4⟩ | ⟨rfl,p4⟩ <;> clear t c4 q4
 ·go_wp2;go_ret;exact ⟨ye.no (fun h=>p4.o h.2.2.2.1),Q4.o⟩
 have c5:=hid (yfM g o w4 (HT.o.grown Q4.o) (HO.o.kept Q4.o) HN.o.1 p2.o p3.o HN.o.2.2);go_wp2_with fail;refine c5.o.mono ?_;rintro e w5 ⟨t,q5⟩;have Q5:=hid (ya Q4.o q5);rcases t.split with ⟨rfl,p5⟩ | ⟨rfl,p5⟩ <;> clear t c5 q5
 ·go_wp2;go_ret;exact ⟨ye.no (fun h=>p5.o h.2.2.2.2),Q5.o⟩
 go_wp2;go_ret;exact ⟨ye.yes ⟨p1.o,p2.o,p3.o,p4.o,p5.o⟩,Q5.o⟩
theorem yhP {w a c:World} {b:Nat} (h:w.grownBy a none) (k:a.grownBy c (some b)) (hb:w.heap.size<=b):w.grownBy c none :=
 ⟨k.os.trans h.os,k.tape.trans h.tape,k.output.trans h.output,Nat.le_trans h.size k.size,fun i hi _ =>
  (k.block i (Nat.lt_of_lt_of_le hi h.size) (by simp; omega)).trans (h.block i hi (by simp))⟩
theorem Xx {o:Lk.Obj} (h:Lk.vO o):zC o:=by
 obtain ⟨h1,h2,h3,h4,h5,h6,h7,h8,h9,h10,h11,h12,h13⟩:=h;refine ⟨⟨by omega,by omega,by omega,by omega,by omega,by omega⟩,fun y hy=>?_,fun r hr=>?_⟩
 ·have:=(h9 y hy).1; omega
 ·have:=(h10 r hr).2.2.1.2; omega
def dZ (op rd bK dJ m fb:Int):Value:=.agg #[.int .i64 op,.int .i64 rd,.int .i64 bK,.int .i64 dJ,.int .i64 m,.int .u8 fb]
def ylL (e:Ending) (n:Int):Prop:=∃ op rd bK dJ m fb ok,e = .returned (.tuple #[dZ op rd bK dJ m fb,.bool ok])/\Dec n op rd bK m/\(ok=true↔op≠0)/\(fb=66↔(5<=op/\op<=10))
theorem LX.grown {k:Nat} {w w':World} {b:Nat} (h:LX k w b) (hg:w.grownBy w' none):LX k w' b:=⟨yb h.1 hg,yb h.2.1 hg,yb h.2.2.1 hg,yb h.2.2.2 hg⟩
theorem ylH (b:Int) (p:Nat) (h0:0<=b) (h1:b<=1) (hp:p<=20):wrap64 (b * 2 ^ p)=b * 2 ^ p:=by
 have:(2:Int) ^ p<=1048576:=by
  have:=Nat.pow_le_pow_right (show 0 < 2 by decide) hp
  rw [show (2:Int) ^ p=((2 ^ p:Nat):Int) from by simp];omega
 have h2:(0:Int) < 2 ^ p:=Int.pow_pos (by decide);rcases (show b=0\/b=1 from by omega) with rfl | rfl
 ·rw [Int.zero_mul]; exact IntWalk.wrap64_in _ ⟨by omega,by omega⟩
 ·exact IntWalk.wrap64_in _ ⟨by omega,by omega⟩
theorem yiy {w W:World} {X:Nat} (h:w.grownBy W (some X)) (o:Nat) (v:Value):w.grownBy (W.setCell ⟨X,o,none⟩ v) (some X) :=
 ⟨h.os,h.tape,h.output,by simpa [World.setCell] using h.size,fun i hi hne=>(Below.heap_setCell W ⟨X,o,none⟩ v i (by simp at hne ⊢; omega)).trans (h.block i hi hne)⟩
theorem LQ (v:Int) (j:Nat) (m:Int) (hm:m=(j:Int)) (w:World) (hv:0<=v) (hv':v<=4294967295) (hj:j<=31) :
  Calls Tryz.prog 87 #[.int .i64 v,.int .i64 m] w fun e w'=>e = .returned (.int .i64 (v / 2 ^ j % 2))/\w'=w:=by
 subst hm; exact XY v j w hv hv' hj
theorem yR {W:World} {R X:Nat} {cs:Array Value} {t:TypeId} (h:yd W R cs t) (hne:X≠R) (o:Nat) (v:Value):yd (W.setCell ⟨X,o,none⟩ v) R cs t:=(Below.heap_setCell W ⟨X,o,none⟩ v R (by simp; omega)).trans h
theorem oZ {w W:World} {a0 a1 a2 a3 a4 a5:Value} (h:w.grownBy W none) (hB:yd W w.heap.size #[a0,a1,a2,a3,a4,a5] 102) (b0 b1 b2 b3 b4 b5:Value) :
  yd ((((((W.setCell ⟨w.heap.size,0,none⟩ b0).setCell ⟨w.heap.size,1,none⟩ b1).setCell ⟨w.heap.size,2,none⟩ b2).setCell ⟨w.heap.size,3,none⟩ b3).setCell ⟨w.heap.size,4,none⟩ b4).setCell ⟨w.heap.size,5,none⟩ b5) w.heap.size #[b0,b1,b2,b3,b4,b5] 102 /\
  w.grownBy ((((((W.setCell ⟨w.heap.size,0,none⟩ b0).setCell ⟨w.heap.size,1,none⟩ b1).setCell ⟨w.heap.size,2,none⟩ b2).setCell ⟨w.heap.size,3,none⟩ b3).setCell ⟨w.heap.size,4,none⟩ b4).setCell ⟨w.heap.size,5,none⟩ b5) none :=
 ⟨(((((hB.set 0 b0).set 1 b1).set 2 b2).set 3 b3).set 4 b4).set 5 b5,yz (yz (yz (yz (yz (yz h (Nat.le_refl _) _ _) (Nat.le_refl _) _ _) (Nat.le_refl _) _ _) (Nat.le_refl _) _ _) (Nat.le_refl _) _ _) (Nat.le_refl _) _ _⟩
theorem Dm (k:Nat) (hk:k < 25) (f:Int) (hf:uP.getD (k+1) 0=f):f=4↔(5<=(k:Int)+1/\(k:Int)+1<=10):=by
 have:∀ k,k < 25->(uP.getD (k+1) 0=4↔(4<=k/\k<=9)):=by decide
 rw [<- hf,this k hk];omega
theorem yd.drew {w:World} {g:Nat} {cs:Array Value} {t:TypeId} (h:yd w g cs t):yd w.drew g cs t:=h.drewN 1
theorem UN (form:Int) (hf:1<=form/\form<=7):wM form<=21:=by
 rcases (show form=1\/form=2\/form=3\/form=4\/form=5\/form=6\/form=7 from by omega) with rfl | rfl | rfl | rfl | rfl | rfl | rfl <;> decide
theorem UW (n:Int) (w:World) (h0:0<=n) (h1:n<=4294967295) :
  Calls Tryz.prog 57 #[.int .i64 n] w fun e w'=>ylL e n/\w.grownBy w' none:=by
 have G:=hid (fun o:Obj=>aW w o none);have cT:=hid XE;go_enter Tryz.func57,Tryz.ntmps57;go_wp2_with fail;refine (cT.o _).mono ?_;rintro e w1 ⟨rfl,htab,hlt,hg1⟩;have BR:=hid (((yd.new w _ _).grown hg1 (by simp)):yd w1 w.heap.size #[.int .i64 0,.int .i64 0,.int .i64 0,.int .i64 0,.int .i64 0,.int .u8 0] 102);have G1:=hid (ya (G.o _) hg1);generalize (w.alloc _).heap.size=TB at *;have Me:=hid htab;clear htab hg1 hlt;go_wp2
 go_loopw [5] (fun i wr=>∃ k:Nat,k<=25/\i = .int .i64 k/\(∀ j,1<=j->j < k+1->¬ Is j n)/\w1.grownBy wr none) (fun i _=>25 - (intOf i).toNat)
 case atStart=>exact ⟨0,Nat.zero_le _,rfl,fun j h1 h2=>by omega,World.grownBy.refl _ _⟩
 case round =>
  obtain ⟨k,hk1,rfl,hall,hgr⟩:=hrel;have HA:=hid hall;have HG:=hid hgr;clear hall hgr;by_cases hlt:k < 25
  ·obtain ⟨q1,q2,q3,q4⟩:=(Me.o k hlt).grown HG.o;have hfr:=TV (k+1) (by omega) (by omega);have Mi:=hid (show Is (k+1) n↔bits .and .i64 n (Gm (uP.getD (k+1) 0))=FY.getD (k+1) 0 from Iff.rfl);generalize hF:uP.getD (k+1) 0=f at *;generalize FY.getD (k+1) 0=x at *;have HF:=hid hF;clear hF;have g2:(k:Int) < 25:=by omega
   by_cases hI:Is (k+1) n
   ·have d:(bits .and .i64 n (Gm f) == x)=true:=beq_iff_eq.2 (Mi.o.1 hI);have HI:=hid hI;clear hI;go_wp2
    go_quiet (fail)
    have T2:=(Me.o k hlt).grown (yc HG.o nq);unfold LX at T2;rw [HF.o] at T2;have HG2:=hid (yc HG.o nq);clear q1 q2 q3 q4;generalize wr.drewN nq=w2 at *;obtain ⟨q1,-,-,q4⟩:=T2;have cP:=hid (fun W=>W9 f W hfr);go_wp2_with fail;refine (cP.o _).mono ?_;rintro e w3 ⟨v,rfl,hown,hg3⟩;obtain ⟨ao,cap,rfl⟩:=yi hown;have BX:=hid (((yd.new w2 _ _).grown hg3 (by simp)):yd w3 w2.heap.size #[.int .i64 ((k:Int)+1),.int .i64 0,.int .i64 0,.int .i64 0,.int .i64 0,.int .u8 (vH f)] 102);have G3:=hid (ya (ya HG2.o (aW _ _ _)) hg3);have II:=hid (yn.aF hown);have YO:=hid (show ∀ g off,ao=some ⟨g,off,none⟩->w2.heap.size < g from fun g off h=>by subst h; have:=(hown.lt g rfl).1; simp at this; omega)
    have hcap:=yZ hown;have hXs:=hid (ya G1.o HG2.o).size;obtain ⟨L1,L2,L3⟩:=Wy f hfr;rw [L1] at hcap;have HL:=hid L3;have hXR:=BX.o.lt;clear hown hg3 L3 q1 q4;have hcap1:=hcap.1;have hcap2:=hcap.2;unfold maxLen at hcap2;clear hcap;rw [L1];have IX:=hid L1;clear L1;generalize hX:w2.heap.size=X at *;have HX:=hid hX;clear hX;go_wp2
    go_loopw [9] (fun i wr=>∃ a:Nat,∃ v:Int,a<=qx f/\i = .int .i64 ((a * 2:Nat):Int)/\0<=v/\v < 2 ^ wM f/\(v=0↔Jh f n a)/\yd wr X #[.int .i64 ((k:Int)+1),.int .i64 0,.int .i64 0,.int .i64 0,.int .i64 v,.int .u8 (vH f)] 102/\w3.grownBy wr (some X)) (fun i _=>qx f * 2 - (intOf i).toNat)
    case atStart=>exact ⟨0,0,Nat.zero_le _,rfl,by omega,Int.pow_pos (by decide),⟨fun _ a ha=>absurd ha (Nat.not_lt_zero a),fun _=>rfl⟩,BX.o,World.grownBy.refl _ _⟩
    case round =>
     obtain ⟨a,v,ha,rfl,hv0,hv1,hv2,hbx,hgr⟩:=hrel;have Vl:=hid hv2;have uQ:=hid hbx;have DI:=hid hgr;clear hv2 hbx hgr;by_cases hla:a < qx f
     ·obtain ⟨e1,e2,e3,e4⟩:=HL.o a hla;obtain ⟨g',off',hao,hcell⟩:=II.o (by have:=IX.o; omega);have hne:=YO.o g' off' hao;subst hao;have s1:a * 2 < (yJ f).length:=by have:=IX.o; omega
      have s2:a * 2+1 < (yJ f).length:=by have:=IX.o; omega
      have c1:=DI.o.cell (hcell (a * 2) s1) (by simp; omega);have c2:=DI.o.cell (hcell (a * 2+1) s2) (by simp; omega);rw [show (yJ f)[a * 2]=(p8 f a:Int) from by rw [<- e1,mP,kg s1]; rfl] at c1;rw [show (yJ f)[a * 2+1]=(lV f a:Int) from by rw [<- e2,mP,kg s2]; rfl] at c2;have b4:=uQ.o.cell 4;have b4f:=uQ.o.free 4;have hXg:X≠g':=by omega
      have cB:=hid (fun W=>XY n (lV f a) W h0 h1 e4);have MO:=UN f hfr;have STEP:=hid (yiT f n v (wM f) a MO e3 hv0 hv1 Vl.o);clear hcell e1 e2 s1 s2;generalize hbb:n / 2 ^ lV f a % 2=b at *;have hb0:0<=b:=by omega
      have hb1:b<=1:=by omega
      clear hbb;generalize lV f a=q at *;generalize p8 f a=p at *;have g3:(a * 2:Int) < (qx f * 2:Int):=by omega
      have g4:((a * 2:Nat):Int)+1 < ((qx f * 2:Nat):Int):=by omega
      have g5:p<=20:=by omega
      go_wp2_with fail;refine (cB.o _).mono ?_;rintro e w4 ⟨rfl,rfl⟩;go_wp2
      go_region
      go_wp2;have F:=STEP.o _ rfl;have es:=ylH b p hb0 hb1 g5;rw [es];refine ⟨⟨a+1,bits .or .i64 v (b * 2 ^ p),by omega,by go_num,F.1,F.2.1,F.2.2,(uQ.o.set 4 _).drewN 1,yc (yiy DI.o 4 _) 1⟩,?_⟩;simp [intOf]; omega
     ·have ea:a=qx f:=by omega
      have BU:=hid (show v=0↔yj f n from by rw [Vl.o,ea]; exact yiU f n h0 h1 hfr);have cW:=hid (fun W=>ykm f W hfr);have MO:=UN f hfr;subst ea;go_wp2_with fail;refine (cW.o _).mono ?_;rintro e w4 ⟨rfl,rfl⟩;have hXlt:=uQ.o.lt;have hXw:w.heap.size < X:=by have h1:=BR.o.lt; have h2:=HG2.o.size; have h3:=HX.o; omega
      have eF:=hid ((((BR.o.grown G3.o (by simp)).grown DI.o (by simp; omega))):yd w4 w.heap.size #[.int .i64 0,.int .i64 0,.int .i64 0,.int .i64 0,.int .i64 0,.int .u8 0] 102);have GW:=hid (yhP (ya G1.o G3.o) DI.o (by omega));have x0:=uQ.o.cell 0;have x1:=uQ.o.cell 1;have x2:=uQ.o.cell 2;have x3:=uQ.o.cell 3;have x4:=uQ.o.cell 4;have y1:=uQ.o.free 1;have y2:=uQ.o.free 2;have y3:=uQ.o.free 3;have y4:=uQ.o.free 4;have z0:=eF.o.cell 0;have z1:=eF.o.cell 1;have z2:=eF.o.cell 2;have z3:=eF.o.cell 3;have z4:=eF.o.cell 4;have z5:=eF.o.cell 5;have t0:=eF.o.free 0;have t1:=eF.o.free 1;have t2:=eF.o.free 2
      have t3:=eF.o.free 3;have t4:=eF.o.free 4;have t5:=eF.o.free 5;have hne:X≠w.heap.size:=by omega
      rcases (show f=1\/f=2\/f=3\/f=4\/f=5\/f=6\/f=7 from by omega) with rfl | rfl | rfl | rfl | rfl | rfl | rfl
      ·rw [show vH 1=85 from rfl,show wM 1=20 from rfl];have x5:w4.cell? ⟨X,5,none⟩=some (.int .u8 85):=uQ.o.cell 5;go_wp2;have F:=oZ (W:=(w4.setCell ⟨X,1,none⟩ (.int .i64 (bits .and .i64 (n / 128) 31)))) (yz GW.o (by omega) _ _) (yR eF.o hne _ _) (.int .i64 ((k:Int)+1)) (.int .i64 (bits .and .i64 (n / 128) 31)) (.int .i64 0) (.int .i64 0) (.int .i64 v) (.int .u8 85);have e0:=(F.1).cell 0;have e1:=(F.1).cell 1;have e2:=(F.1).cell 2;have e3:=(F.1).cell 3;have e4:=(F.1).cell 4;have e5:=(F.1).cell 5;refine bodyPost_ret (v:=.tuple #[dZ ((k:Int)+1) (bits .and .i64 (n / 128) 31) 0 0 v 85,.bool true]) ?_ rfl ⟨⟨(k:Int)+1,(bits .and .i64 (n / 128) 31),0,0,v,85,true,rfl,.inr ⟨k+1,by omega,by omega,HI.o,HA.o,by simp,by rw [HF.o]; rfl,by rw [HF.o]; rfl,by rw [HF.o]; exact BU.o⟩,by simp; omega,by rw [<- Dm k hlt _ HF.o]; decide⟩,F.2⟩
       clear F x0 x1 x2 x3 x4 x5 y1 y2 y3 y4 z0 z1 z2 z3 z4 z5 t0 t1 t2 t3 t4 t5;simp [results,Tryz.results57,go_sem,dZ,e0,e1,e2,e3,e4,e5]
      ·rw [show vH 2=74 from rfl,show wM 2=21 from rfl];have x5:w4.cell? ⟨X,5,none⟩=some (.int .u8 74):=uQ.o.cell 5;rw [show wM 2=21 from rfl] at hv1;simp only [Int.reducePow] at hv1;have cB:=hid (fun W=>LQ v 20 20 rfl W hv0 (by omega) (by decide));by_cases hsb:v / 2 ^ 20 % 2=1
       ·have d1:(v / 2 ^ 20 % 2 == 1)=true:=beq_iff_eq.2 hsb;have DJ:=hid (show v≠0 from fun h=>by subst h; simp at hsb);clear hsb;generalize v / 2 ^ 20 % 2=sb at *;go_wp2_with fail;refine (cB.o _).mono ?_;rintro e w5 ⟨rfl,rfl⟩;go_wp2
        go_region
        go_wp2;have F:=oZ (W:=((w5.setCell ⟨X,4,none⟩ (.int .i64 (v - 2097152))).setCell ⟨X,1,none⟩ (.int .i64 (bits .and .i64 (n / 128) 31)))) (yz (yz GW.o (by omega) _ _) (by omega) _ _) (yR (yR eF.o hne _ _) hne _ _) (.int .i64 ((k:Int)+1)) (.int .i64 (bits .and .i64 (n / 128) 31)) (.int .i64 0) (.int .i64 0) (.int .i64 (v - 2097152)) (.int .u8 74);have e0:=(yd.drew F.1).cell 0;have e1:=(yd.drew F.1).cell 1;have e2:=(yd.drew F.1).cell 2;have e3:=(yd.drew F.1).cell 3;have e4:=(yd.drew F.1).cell 4;have e5:=(yd.drew F.1).cell 5;refine bodyPost_ret (v:=.tuple #[dZ ((k:Int)+1) (bits .and .i64 (n / 128) 31) 0 0 (v - 2097152) 74,.bool true]) ?_ rfl ⟨⟨(k:Int)+1,(bits .and .i64 (n / 128) 31),0,0,(v - 2097152),74,true,rfl,.inr ⟨k+1,by omega,by omega,HI.o,HA.o,by simp,by rw [HF.o]; rfl,by rw [HF.o]; rfl,by rw [HF.o]; exact ⟨fun h=>by omega,fun h=>absurd (BU.o.2 h) DJ.o⟩⟩,by simp; omega,by rw [<- Dm k hlt _ HF.o]; decide⟩,(yg F.2)⟩
        clear F x0 x1 x2 x3 x4 x5 y1 y2 y3 y4 z0 z1 z2 z3 z4 z5 t0 t1 t2 t3 t4 t5;generalize World.drew _=WF at *;simp [results,Tryz.results57,go_sem,dZ,e0,e1,e2,e3,e4,e5]
       ·have d1:(v / 2 ^ 20 % 2 == 1)=false:=beq_eq_false_iff_ne.2 hsb;clear hsb;generalize v / 2 ^ 20 % 2=sb at *;go_wp2_with fail;refine (cB.o _).mono ?_;rintro e w5 ⟨rfl,rfl⟩;go_wp2;have F:=oZ (W:=(w5.setCell ⟨X,1,none⟩ (.int .i64 (bits .and .i64 (n / 128) 31)))) (yz GW.o (by omega) _ _) (yR eF.o hne _ _) (.int .i64 ((k:Int)+1)) (.int .i64 (bits .and .i64 (n / 128) 31)) (.int .i64 0) (.int .i64 0) (.int .i64 v) (.int .u8 74);have e0:=(F.1).cell 0;have e1:=(F.1).cell 1;have e2:=(F.1).cell 2;have e3:=(F.1).cell 3;have e4:=(F.1).cell 4;have e5:=(F.1).cell 5;refine bodyPost_ret (v:=.tuple #[dZ ((k:Int)+1) (bits .and .i64 (n / 128) 31) 0 0 v 74,.bool true]) ?_ rfl ⟨⟨(k:Int)+1,(bits .and .i64 (n / 128) 31),0,0,v,74,true,rfl,.inr ⟨k+1,by omega,by omega,HI.o,HA.o,by simp,by rw [HF.o]; rfl,by rw [HF.o]; rfl,by rw [HF.o]; exact BU.o⟩,by simp; omega,by rw [<- Dm k hlt _ HF.o]; decide⟩,F.2⟩
        clear F x0 x1 x2 x3 x4 x5 y1 y2 y3 y4 z0 z1 z2 z3 z4 z5 t0 t1 t2 t3 t4 t5;simp [results,Tryz.results57,go_sem,dZ,e0,e1,e2,e3,e4,e5]
      ·rw [show vH 3=73 from rfl,show wM 3=12 from rfl];have x5:w4.cell? ⟨X,5,none⟩=some (.int .u8 73):=uQ.o.cell 5;rw [show wM 3=12 from rfl] at hv1;simp only [Int.reducePow] at hv1;have cB:=hid (fun W=>LQ v 11 11 rfl W hv0 (by omega) (by decide));by_cases hsb:v / 2 ^ 11 % 2=1
       ·have d1:(v / 2 ^ 11 % 2 == 1)=true:=beq_iff_eq.2 hsb;have DJ:=hid (show v≠0 from fun h=>by subst h; simp at hsb);clear hsb;generalize v / 2 ^ 11 % 2=sb at *;go_wp2_with fail;refine (cB.o _).mono ?_;rintro e w5 ⟨rfl,rfl⟩;go_wp2
        go_region
        go_wp2;have F:=oZ (W:=(((w5.setCell ⟨X,4,none⟩ (.int .i64 (v - 4096))).setCell ⟨X,1,none⟩ (.int .i64 (bits .and .i64 (n / 128) 31))).setCell ⟨X,2,none⟩ (.int .i64 (bits .and .i64 (n / 32768) 31)))) (yz (yz (yz GW.o (by omega) _ _) (by omega) _ _) (by omega) _ _) (yR (yR (yR eF.o hne _ _) hne _ _) hne _ _) (.int .i64 ((k:Int)+1)) (.int .i64 (bits .and .i64 (n / 128) 31)) (.int .i64 (bits .and .i64 (n / 32768) 31)) (.int .i64 0) (.int .i64 (v - 4096)) (.int .u8 73);have e0:=(yd.drew F.1).cell 0;have e1:=(yd.drew F.1).cell 1;have e2:=(yd.drew F.1).cell 2;have e3:=(yd.drew F.1).cell 3;have e4:=(yd.drew F.1).cell 4
        have e5:=(yd.drew F.1).cell 5;refine bodyPost_ret (v:=.tuple #[dZ ((k:Int)+1) (bits .and .i64 (n / 128) 31) (bits .and .i64 (n / 32768) 31) 0 (v - 4096) 73,.bool true]) ?_ rfl ⟨⟨(k:Int)+1,(bits .and .i64 (n / 128) 31),(bits .and .i64 (n / 32768) 31),0,(v - 4096),73,true,rfl,.inr ⟨k+1,by omega,by omega,HI.o,HA.o,by simp,by rw [HF.o]; rfl,by rw [HF.o]; rfl,by rw [HF.o]; exact ⟨fun h=>by omega,fun h=>absurd (BU.o.2 h) DJ.o⟩⟩,by simp; omega,by rw [<- Dm k hlt _ HF.o]; decide⟩,(yg F.2)⟩;clear F x0 x1 x2 x3 x4 x5 y1 y2 y3 y4 z0 z1 z2 z3 z4 z5 t0 t1 t2 t3 t4 t5;generalize World.drew _=WF at *
        simp [results,Tryz.results57,go_sem,dZ,e0,e1,e2,e3,e4,e5]
       ·have d1:(v / 2 ^ 11 % 2 == 1)=false:=beq_eq_false_iff_ne.2 hsb;clear hsb;generalize v / 2 ^ 11 % 2=sb at *;go_wp2_with fail;refine (cB.o _).mono ?_;rintro e w5 ⟨rfl,rfl⟩;go_wp2;have F:=oZ (W:=((w5.setCell ⟨X,1,none⟩ (.int .i64 (bits .and .i64 (n / 128) 31))).setCell ⟨X,2,none⟩ (.int .i64 (bits .and .i64 (n / 32768) 31)))) (yz (yz GW.o (by omega) _ _) (by omega) _ _) (yR (yR eF.o hne _ _) hne _ _) (.int .i64 ((k:Int)+1)) (.int .i64 (bits .and .i64 (n / 128) 31)) (.int .i64 (bits .and .i64 (n / 32768) 31)) (.int .i64 0) (.int .i64 v) (.int .u8 73);have e0:=(F.1).cell 0;have e1:=(F.1).cell 1
        have e2:=(F.1).cell 2;have e3:=(F.1).cell 3;have e4:=(F.1).cell 4;have e5:=(F.1).cell 5;refine bodyPost_ret (v:=.tuple #[dZ ((k:Int)+1) (bits .and .i64 (n / 128) 31) (bits .and .i64 (n / 32768) 31) 0 v 73,.bool true]) ?_ rfl ⟨⟨(k:Int)+1,(bits .and .i64 (n / 128) 31),(bits .and .i64 (n / 32768) 31),0,v,73,true,rfl,.inr ⟨k+1,by omega,by omega,HI.o,HA.o,by simp,by rw [HF.o]; rfl,by rw [HF.o]; rfl,by rw [HF.o]; exact BU.o⟩,by simp; omega,by rw [<- Dm k hlt _ HF.o]; decide⟩,F.2⟩;clear F x0 x1 x2 x3 x4 x5 y1 y2 y3 y4 z0 z1 z2 z3 z4 z5 t0 t1 t2 t3 t4 t5;simp [results,Tryz.results57,go_sem,dZ,e0,e1,e2,e3,e4,e5]
      ·rw [show vH 4=66 from rfl,show wM 4=13 from rfl];have x5:w4.cell? ⟨X,5,none⟩=some (.int .u8 66):=uQ.o.cell 5;rw [show wM 4=13 from rfl] at hv1;simp only [Int.reducePow] at hv1;have cB:=hid (fun W=>LQ v 12 12 rfl W hv0 (by omega) (by decide));by_cases hsb:v / 2 ^ 12 % 2=1
       ·have d1:(v / 2 ^ 12 % 2 == 1)=true:=beq_iff_eq.2 hsb;have DJ:=hid (show v≠0 from fun h=>by subst h; simp at hsb);clear hsb;generalize v / 2 ^ 12 % 2=sb at *;go_wp2_with fail;refine (cB.o _).mono ?_;rintro e w5 ⟨rfl,rfl⟩;go_wp2
        go_region
        go_wp2;have F:=oZ (W:=(((w5.setCell ⟨X,4,none⟩ (.int .i64 (v - 8192))).setCell ⟨X,2,none⟩ (.int .i64 (bits .and .i64 (n / 32768) 31))).setCell ⟨X,3,none⟩ (.int .i64 (bits .and .i64 (n / 1048576) 31)))) (yz (yz (yz GW.o (by omega) _ _) (by omega) _ _) (by omega) _ _) (yR (yR (yR eF.o hne _ _) hne _ _) hne _ _) (.int .i64 ((k:Int)+1)) (.int .i64 0) (.int .i64 (bits .and .i64 (n / 32768) 31)) (.int .i64 (bits .and .i64 (n / 1048576) 31)) (.int .i64 (v - 8192)) (.int .u8 66);have e0:=(yd.drew F.1).cell 0;have e1:=(yd.drew F.1).cell 1;have e2:=(yd.drew F.1).cell 2;have e3:=(yd.drew F.1).cell 3
        have e4:=(yd.drew F.1).cell 4;have e5:=(yd.drew F.1).cell 5;refine bodyPost_ret (v:=.tuple #[dZ ((k:Int)+1) 0 (bits .and .i64 (n / 32768) 31) (bits .and .i64 (n / 1048576) 31) (v - 8192) 66,.bool true]) ?_ rfl ⟨⟨(k:Int)+1,0,(bits .and .i64 (n / 32768) 31),(bits .and .i64 (n / 1048576) 31),(v - 8192),66,true,rfl,.inr ⟨k+1,by omega,by omega,HI.o,HA.o,by simp,by rw [HF.o]; rfl,by rw [HF.o]; rfl,by rw [HF.o]; exact ⟨fun h=>by omega,fun h=>absurd (BU.o.2 h) DJ.o⟩⟩,by simp; omega,by rw [<- Dm k hlt _ HF.o]; decide⟩,(yg F.2)⟩;clear F x0 x1 x2 x3 x4 x5 y1 y2 y3 y4 z0 z1 z2 z3 z4 z5 t0 t1 t2 t3 t4 t5
        generalize World.drew _=WF at *;simp [results,Tryz.results57,go_sem,dZ,e0,e1,e2,e3,e4,e5]
       ·have d1:(v / 2 ^ 12 % 2 == 1)=false:=beq_eq_false_iff_ne.2 hsb;clear hsb;generalize v / 2 ^ 12 % 2=sb at *;go_wp2_with fail;refine (cB.o _).mono ?_;rintro e w5 ⟨rfl,rfl⟩;go_wp2;have F:=oZ (W:=((w5.setCell ⟨X,2,none⟩ (.int .i64 (bits .and .i64 (n / 32768) 31))).setCell ⟨X,3,none⟩ (.int .i64 (bits .and .i64 (n / 1048576) 31)))) (yz (yz GW.o (by omega) _ _) (by omega) _ _) (yR (yR eF.o hne _ _) hne _ _) (.int .i64 ((k:Int)+1)) (.int .i64 0) (.int .i64 (bits .and .i64 (n / 32768) 31)) (.int .i64 (bits .and .i64 (n / 1048576) 31)) (.int .i64 v) (.int .u8 66);have e0:=(F.1).cell 0;have e1:=(F.1).cell 1
        have e2:=(F.1).cell 2;have e3:=(F.1).cell 3;have e4:=(F.1).cell 4;have e5:=(F.1).cell 5;refine bodyPost_ret (v:=.tuple #[dZ ((k:Int)+1) 0 (bits .and .i64 (n / 32768) 31) (bits .and .i64 (n / 1048576) 31) v 66,.bool true]) ?_ rfl ⟨⟨(k:Int)+1,0,(bits .and .i64 (n / 32768) 31),(bits .and .i64 (n / 1048576) 31),v,66,true,rfl,.inr ⟨k+1,by omega,by omega,HI.o,HA.o,by simp,by rw [HF.o]; rfl,by rw [HF.o]; rfl,by rw [HF.o]; exact BU.o⟩,by simp; omega,by rw [<- Dm k hlt _ HF.o]; decide⟩,F.2⟩;clear F x0 x1 x2 x3 x4 x5 y1 y2 y3 y4 z0 z1 z2 z3 z4 z5 t0 t1 t2 t3 t4 t5;simp [results,Tryz.results57,go_sem,dZ,e0,e1,e2,e3,e4,e5]
      ·rw [show vH 5=83 from rfl,show wM 5=12 from rfl];have x5:w4.cell? ⟨X,5,none⟩=some (.int .u8 83):=uQ.o.cell 5;rw [show wM 5=12 from rfl] at hv1;simp only [Int.reducePow] at hv1;have cB:=hid (fun W=>LQ v 11 11 rfl W hv0 (by omega) (by decide));by_cases hsb:v / 2 ^ 11 % 2=1
       ·have d1:(v / 2 ^ 11 % 2 == 1)=true:=beq_iff_eq.2 hsb;have DJ:=hid (show v≠0 from fun h=>by subst h; simp at hsb);clear hsb;generalize v / 2 ^ 11 % 2=sb at *;go_wp2_with fail;refine (cB.o _).mono ?_;rintro e w5 ⟨rfl,rfl⟩;go_wp2
        go_region
        go_wp2;have F:=oZ (W:=(((w5.setCell ⟨X,4,none⟩ (.int .i64 (v - 4096))).setCell ⟨X,2,none⟩ (.int .i64 (bits .and .i64 (n / 32768) 31))).setCell ⟨X,3,none⟩ (.int .i64 (bits .and .i64 (n / 1048576) 31)))) (yz (yz (yz GW.o (by omega) _ _) (by omega) _ _) (by omega) _ _) (yR (yR (yR eF.o hne _ _) hne _ _) hne _ _) (.int .i64 ((k:Int)+1)) (.int .i64 0) (.int .i64 (bits .and .i64 (n / 32768) 31)) (.int .i64 (bits .and .i64 (n / 1048576) 31)) (.int .i64 (v - 4096)) (.int .u8 83);have e0:=(yd.drew F.1).cell 0;have e1:=(yd.drew F.1).cell 1;have e2:=(yd.drew F.1).cell 2;have e3:=(yd.drew F.1).cell 3
        have e4:=(yd.drew F.1).cell 4;have e5:=(yd.drew F.1).cell 5;refine bodyPost_ret (v:=.tuple #[dZ ((k:Int)+1) 0 (bits .and .i64 (n / 32768) 31) (bits .and .i64 (n / 1048576) 31) (v - 4096) 83,.bool true]) ?_ rfl ⟨⟨(k:Int)+1,0,(bits .and .i64 (n / 32768) 31),(bits .and .i64 (n / 1048576) 31),(v - 4096),83,true,rfl,.inr ⟨k+1,by omega,by omega,HI.o,HA.o,by simp,by rw [HF.o]; rfl,by rw [HF.o]; rfl,by rw [HF.o]; exact ⟨fun h=>by omega,fun h=>absurd (BU.o.2 h) DJ.o⟩⟩,by simp; omega,by rw [<- Dm k hlt _ HF.o]; decide⟩,(yg F.2)⟩;clear F x0 x1 x2 x3 x4 x5 y1 y2 y3 y4 z0 z1 z2 z3 z4 z5 t0 t1 t2 t3 t4 t5
        generalize World.drew _=WF at *;simp [results,Tryz.results57,go_sem,dZ,e0,e1,e2,e3,e4,e5]
       ·have d1:(v / 2 ^ 11 % 2 == 1)=false:=beq_eq_false_iff_ne.2 hsb;clear hsb;generalize v / 2 ^ 11 % 2=sb at *;go_wp2_with fail;refine (cB.o _).mono ?_;rintro e w5 ⟨rfl,rfl⟩;go_wp2;have F:=oZ (W:=((w5.setCell ⟨X,2,none⟩ (.int .i64 (bits .and .i64 (n / 32768) 31))).setCell ⟨X,3,none⟩ (.int .i64 (bits .and .i64 (n / 1048576) 31)))) (yz (yz GW.o (by omega) _ _) (by omega) _ _) (yR (yR eF.o hne _ _) hne _ _) (.int .i64 ((k:Int)+1)) (.int .i64 0) (.int .i64 (bits .and .i64 (n / 32768) 31)) (.int .i64 (bits .and .i64 (n / 1048576) 31)) (.int .i64 v) (.int .u8 83);have e0:=(F.1).cell 0;have e1:=(F.1).cell 1
        have e2:=(F.1).cell 2;have e3:=(F.1).cell 3;have e4:=(F.1).cell 4;have e5:=(F.1).cell 5;refine bodyPost_ret (v:=.tuple #[dZ ((k:Int)+1) 0 (bits .and .i64 (n / 32768) 31) (bits .and .i64 (n / 1048576) 31) v 83,.bool true]) ?_ rfl ⟨⟨(k:Int)+1,0,(bits .and .i64 (n / 32768) 31),(bits .and .i64 (n / 1048576) 31),v,83,true,rfl,.inr ⟨k+1,by omega,by omega,HI.o,HA.o,by simp,by rw [HF.o]; rfl,by rw [HF.o]; rfl,by rw [HF.o]; exact BU.o⟩,by simp; omega,by rw [<- Dm k hlt _ HF.o]; decide⟩,F.2⟩;clear F x0 x1 x2 x3 x4 x5 y1 y2 y3 y4 z0 z1 z2 z3 z4 z5 t0 t1 t2 t3 t4 t5;simp [results,Tryz.results57,go_sem,dZ,e0,e1,e2,e3,e4,e5]
      ·rw [show vH 6=82 from rfl,show wM 6=12 from rfl];have x5:w4.cell? ⟨X,5,none⟩=some (.int .u8 82):=uQ.o.cell 5;rw [show wM 6=12 from rfl] at hv1;simp only [Int.reducePow] at hv1;have cB:=hid (fun W=>LQ v 11 11 rfl W hv0 (by omega) (by decide));by_cases hsb:v / 2 ^ 11 % 2=1
       ·have d1:(v / 2 ^ 11 % 2 == 1)=true:=beq_iff_eq.2 hsb;have DJ:=hid (show v≠0 from fun h=>by subst h; simp at hsb);clear hsb;generalize v / 2 ^ 11 % 2=sb at *;go_wp2_with fail;refine (cB.o _).mono ?_;rintro e w5 ⟨rfl,rfl⟩;go_wp2
        go_region
        go_wp2;have F:=oZ (W:=((((w5.setCell ⟨X,4,none⟩ (.int .i64 (v - 4096))).setCell ⟨X,1,none⟩ (.int .i64 (bits .and .i64 (n / 128) 31))).setCell ⟨X,2,none⟩ (.int .i64 (bits .and .i64 (n / 32768) 31))).setCell ⟨X,3,none⟩ (.int .i64 (bits .and .i64 (n / 1048576) 31)))) (yz (yz (yz (yz GW.o (by omega) _ _) (by omega) _ _) (by omega) _ _) (by omega) _ _) (yR (yR (yR (yR eF.o hne _ _) hne _ _) hne _ _) hne _ _) (.int .i64 ((k:Int)+1)) (.int .i64 (bits .and .i64 (n / 128) 31)) (.int .i64 (bits .and .i64 (n / 32768) 31)) (.int .i64 (bits .and .i64 (n / 1048576) 31)) (.int .i64 (v - 4096)) (.int .u8 82)
        have e0:=(yd.drew F.1).cell 0;have e1:=(yd.drew F.1).cell 1;have e2:=(yd.drew F.1).cell 2;have e3:=(yd.drew F.1).cell 3;have e4:=(yd.drew F.1).cell 4;have e5:=(yd.drew F.1).cell 5;refine bodyPost_ret (v:=.tuple #[dZ ((k:Int)+1) (bits .and .i64 (n / 128) 31) (bits .and .i64 (n / 32768) 31) (bits .and .i64 (n / 1048576) 31) (v - 4096) 82,.bool true]) ?_ rfl ⟨⟨(k:Int)+1,(bits .and .i64 (n / 128) 31),(bits .and .i64 (n / 32768) 31),(bits .and .i64 (n / 1048576) 31),(v - 4096),82,true,rfl,.inr ⟨k+1,by omega,by omega,HI.o,HA.o,by simp,by rw [HF.o]; rfl,by rw [HF.o]; rfl,by rw [HF.o]; exact ⟨fun h=>by omega,fun h=>absurd (BU.o.2 h) DJ.o⟩⟩,by simp; omega,by rw [<- Dm k hlt _ HF.o]; decide⟩,(yg F.2)⟩
        clear F x0 x1 x2 x3 x4 x5 y1 y2 y3 y4 z0 z1 z2 z3 z4 z5 t0 t1 t2 t3 t4 t5;generalize World.drew _=WF at *;simp [results,Tryz.results57,go_sem,dZ,e0,e1,e2,e3,e4,e5]
       ·have d1:(v / 2 ^ 11 % 2 == 1)=false:=beq_eq_false_iff_ne.2 hsb;clear hsb;generalize v / 2 ^ 11 % 2=sb at *;go_wp2_with fail;refine (cB.o _).mono ?_;rintro e w5 ⟨rfl,rfl⟩;go_wp2;have F:=oZ (W:=(((w5.setCell ⟨X,1,none⟩ (.int .i64 (bits .and .i64 (n / 128) 31))).setCell ⟨X,2,none⟩ (.int .i64 (bits .and .i64 (n / 32768) 31))).setCell ⟨X,3,none⟩ (.int .i64 (bits .and .i64 (n / 1048576) 31)))) (yz (yz (yz GW.o (by omega) _ _) (by omega) _ _) (by omega) _ _) (yR (yR (yR eF.o hne _ _) hne _ _) hne _ _) (.int .i64 ((k:Int)+1)) (.int .i64 (bits .and .i64 (n / 128) 31)) (.int .i64 (bits .and .i64 (n / 32768) 31)) (.int .i64 (bits .and .i64 (n / 1048576) 31)) (.int .i64 v) (.int .u8 82)
        have e0:=(F.1).cell 0;have e1:=(F.1).cell 1;have e2:=(F.1).cell 2;have e3:=(F.1).cell 3;have e4:=(F.1).cell 4;have e5:=(F.1).cell 5;refine bodyPost_ret (v:=.tuple #[dZ ((k:Int)+1) (bits .and .i64 (n / 128) 31) (bits .and .i64 (n / 32768) 31) (bits .and .i64 (n / 1048576) 31) v 82,.bool true]) ?_ rfl ⟨⟨(k:Int)+1,(bits .and .i64 (n / 128) 31),(bits .and .i64 (n / 32768) 31),(bits .and .i64 (n / 1048576) 31),v,82,true,rfl,.inr ⟨k+1,by omega,by omega,HI.o,HA.o,by simp,by rw [HF.o]; rfl,by rw [HF.o]; rfl,by rw [HF.o]; exact BU.o⟩,by simp; omega,by rw [<- Dm k hlt _ HF.o]; decide⟩,F.2⟩;clear F x0 x1 x2 x3 x4 x5 y1 y2 y3 y4 z0 z1 z2 z3 z4 z5 t0 t1 t2 t3 t4 t5
        simp [results,Tryz.results57,go_sem,dZ,e0,e1,e2,e3,e4,e5]
      ·rw [show vH 7=69 from rfl,show wM 7=12 from rfl];have x5:w4.cell? ⟨X,5,none⟩=some (.int .u8 69):=uQ.o.cell 5;rw [show wM 7=12 from rfl] at hv1;simp only [Int.reducePow] at hv1;have cB:=hid (fun W=>LQ v 11 11 rfl W hv0 (by omega) (by decide));by_cases hsb:v / 2 ^ 11 % 2=1
       ·have d1:(v / 2 ^ 11 % 2 == 1)=true:=beq_iff_eq.2 hsb;have DJ:=hid (show v≠0 from fun h=>by subst h; simp at hsb);clear hsb;generalize v / 2 ^ 11 % 2=sb at *;go_wp2_with fail;refine (cB.o _).mono ?_;rintro e w5 ⟨rfl,rfl⟩;go_wp2
        go_region
        go_wp2;have F:=oZ (W:=(w5.setCell ⟨X,4,none⟩ (.int .i64 (v - 4096)))) (yz GW.o (by omega) _ _) (yR eF.o hne _ _) (.int .i64 ((k:Int)+1)) (.int .i64 0) (.int .i64 0) (.int .i64 0) (.int .i64 (v - 4096)) (.int .u8 69);have e0:=(yd.drew F.1).cell 0;have e1:=(yd.drew F.1).cell 1;have e2:=(yd.drew F.1).cell 2;have e3:=(yd.drew F.1).cell 3;have e4:=(yd.drew F.1).cell 4;have e5:=(yd.drew F.1).cell 5;refine bodyPost_ret (v:=.tuple #[dZ ((k:Int)+1) 0 0 0 (v - 4096) 69,.bool true]) ?_ rfl ⟨⟨(k:Int)+1,0,0,0,(v - 4096),69,true,rfl,.inr ⟨k+1,by omega,by omega,HI.o,HA.o,by simp,by rw [HF.o]; rfl,by rw [HF.o]; rfl,by rw [HF.o]; exact ⟨fun h=>by omega,fun h=>absurd (BU.o.2 h) DJ.o⟩⟩,by simp; omega,by rw [<- Dm k hlt _ HF.o]; decide⟩,(yg F.2)⟩
        clear F x0 x1 x2 x3 x4 x5 y1 y2 y3 y4 z0 z1 z2 z3 z4 z5 t0 t1 t2 t3 t4 t5;generalize World.drew _=WF at *;simp [results,Tryz.results57,go_sem,dZ,e0,e1,e2,e3,e4,e5]
       ·have d1:(v / 2 ^ 11 % 2 == 1)=false:=beq_eq_false_iff_ne.2 hsb;clear hsb;generalize v / 2 ^ 11 % 2=sb at *;go_wp2_with fail;refine (cB.o _).mono ?_;rintro e w5 ⟨rfl,rfl⟩;go_wp2;have F:=oZ (W:=w5) GW.o eF.o (.int .i64 ((k:Int)+1)) (.int .i64 0) (.int .i64 0) (.int .i64 0) (.int .i64 v) (.int .u8 69);have e0:=(F.1).cell 0;have e1:=(F.1).cell 1;have e2:=(F.1).cell 2;have e3:=(F.1).cell 3;have e4:=(F.1).cell 4;have e5:=(F.1).cell 5;refine bodyPost_ret (v:=.tuple #[dZ ((k:Int)+1) 0 0 0 v 69,.bool true]) ?_ rfl ⟨⟨(k:Int)+1,0,0,0,v,69,true,rfl,.inr ⟨k+1,by omega,by omega,HI.o,HA.o,by simp,by rw [HF.o]; rfl,by rw [HF.o]; rfl,by rw [HF.o]; exact BU.o⟩,by simp; omega,by rw [<- Dm k hlt _ HF.o]; decide⟩,F.2⟩
        clear F x0 x1 x2 x3 x4 x5 y1 y2 y3 y4 z0 z1 z2 z3 z4 z5 t0 t1 t2 t3 t4 t5;simp [results,Tryz.results57,go_sem,dZ,e0,e1,e2,e3,e4,e5]
   ·have d:(bits .and .i64 n (Gm f) == x)=false:=beq_eq_false_iff_ne.2 (fun h=>hI (Mi.o.2 h));have HI:=hid hI;clear hI;go_wp2
    go_quiet (fail)
    go_wp2
    go_roundw
    case rel=>exact ⟨k+1,by omega,by go_num,fun j hj hjk=>(Nat.lt_succ_iff_lt_or_eq.1 hjk).elim (fun h=>HA.o j hj h) (fun h=>by subst h; exact HI.o),yc HG.o _⟩
    case measure=>simp [intOf]; omega
  ·have z0:=(BR.o.grown HG.o (by simp)).cell 0;have z1:=(BR.o.grown HG.o (by simp)).cell 1;have z2:=(BR.o.grown HG.o (by simp)).cell 2;have z3:=(BR.o.grown HG.o (by simp)).cell 3;have z4:=(BR.o.grown HG.o (by simp)).cell 4;have z5:=(BR.o.grown HG.o (by simp)).cell 5;have t0:=(BR.o.grown HG.o (by simp)).free 0;have t1:=(BR.o.grown HG.o (by simp)).free 1;have t2:=(BR.o.grown HG.o (by simp)).free 2;have t3:=(BR.o.grown HG.o (by simp)).free 3;have t4:=(BR.o.grown HG.o (by simp)).free 4;have t5:=(BR.o.grown HG.o (by simp)).free 5;go_wp2;have F:=oZ (W:=wr) (ya G1.o HG.o) (BR.o.grown HG.o (by simp)) (.int .i64 0) (.int .i64 0) (.int .i64 0) (.int .i64 0) (.int .i64 0) (.int .u8 0)
   have e0:=F.1.cell 0;have e1:=F.1.cell 1;have e2:=F.1.cell 2;have e3:=F.1.cell 3;have e4:=F.1.cell 4;have e5:=F.1.cell 5;refine bodyPost_ret (v:=.tuple #[dZ 0 0 0 0 0 0,.bool false]) ?_ rfl ⟨⟨0,0,0,0,0,0,false,rfl,.inl ⟨rfl,rfl,rfl,rfl,fun j h1 h2=>HA.o j h1 (by omega)⟩,by simp,by decide⟩,F.2⟩;clear F z0 z1 z2 z3 z4 z5 t0 t1 t2 t3 t4 t5;generalize World.setCell _ _ _=WF at *;simp [results,Tryz.results57,go_sem,dZ,e0,e1,e2,e3,e4,e5]
theorem yjA (v:Int) (j:Nat) (w:World) (hj:j<=31) :
  Calls Tryz.prog 87 #[.int .i64 v,.int .i64 j] w fun e w'=>e = .returned (.int .i64 (As.dQ v j 1:Nat))/\w'=w:=by
 go_enter Tryz.func87,Tryz.ntmps87;go_wp2;go_ret;refine ⟨?_,rfl⟩;have e:bits .and .i64 (v / 2 ^ j) 1=((As.dQ v j 1:Nat):Int):=by rw [Qr]; unfold As.dQ; rw [Int.pow_one]
 rw [<- e];rfl
theorem FW (a r m:Nat) (M:Int) (hM:M=(m:Int)) (ha:a < 2 ^ 40) (hm:m<=1048576) (hr:r<=31):bits .or .i64 (a:Int) ((r:Int) * M)=((a ||| As.dQ r 0 5 * m:Nat):Int)/\a ||| As.dQ r 0 5 * m < 2 ^ 40:=by
 have e:As.dQ r 0 5=r:=by unfold As.dQ; simp only [Int.pow_zero,Int.ediv_one]; omega
 have h2:r * m<=31 * 1048576:=Nat.mul_le_mul hr hm;rw [e,hM,<- Int.natCast_mul,Dk _ _ (by omega) (by omega)];exact ⟨rfl,U4 _ _ ha (by omega)⟩
theorem Qj (op rd bK dJ:Nat) (n:Int) (fb:Int) (w:World) (h1:1<=op) (h2:op<=25) (hr:rd<=31/\bK<=31/\dJ<=31) (hz:As.forms.getD op 0=2\/As.forms.getD op 0=4->n=0) :
  Calls Tryz.prog 83 #[dZ op rd bK dJ n fb] w fun e w'=>e = .returned (.int .i64 (As.enc op rd bK dJ n:Nat))/\w.grownBy w' none:=by
 have G:=hid (fun o:Obj=>aW w o none);have cT:=hid XE;have EN:=hid (show As.enc op rd bK dJ n=As.gV (As.forms.getD op 0) (As.jP.getD op 0) rd bK dJ n from rfl);have hf:=X3 op h1 h2;have hx:=XJ op h2;have TF:=hid (Um op h2);have TX:=hid (XD op h2);have HZ:=hid hz;clear hz;generalize As.enc op rd bK dJ n=R at *;unfold dZ;go_enter Tryz.func83,Tryz.ntmps83;go_wp2_with fail;refine (cT.o _).mono ?_;rintro e w1 ⟨rfl,htab,hlt,hg1⟩;have BX:=hid (((yd.new w _ _).grown hg1 (by simp)):yd w1 w.heap.size #[.int .i64 op,.int .i64 rd,.int .i64 bK,.int .i64 dJ,.int .i64 n,.int .u8 fb] 102);have G1:=hid (ya (G.o _) hg1)
 generalize (w.alloc _).heap.size=TB at *;generalize w.heap.size=X at *;have Me:=hid htab;clear htab hg1 hlt;go_wp2
 go_loopw [4,5] (fun x i wr=>∃ k:Nat,k<=25/\i = .int .i64 k/\x = .int .i64 (if k < op then 0 else (R:Int))/\w1.grownBy wr none) (fun _ i _=>25 - (intOf i).toNat)
 case atStart=>exact ⟨0,Nat.zero_le _,rfl,by rw [if_pos (by omega)],World.grownBy.refl _ _⟩
 case round =>
  obtain ⟨k,hk1,rfl,rfl,hgr⟩:=hrel;have HG:=hid hgr;clear hgr;by_cases hlt:k < 25
  ·obtain ⟨q1,q2,q3,q4⟩:=(Me.o k hlt).grown HG.o;have b0:=(BX.o.grown HG.o (by simp)).cell 0;simp only [bB,bf] at b0;have g2:(k:Int) < 25:=by omega
   by_cases hko:k+1=op
   ·subst hko;have z0:(((k:Int)+1) != ((k+1:Nat):Int))=false:=by simp
    have z1:(if k < k+1 then 0 else (R:Int))=0:=if_pos (by omega);rw [z1];clear z1;go_wp2
    go_quiet (fail)
    have T2:=(Me.o k hlt).grown (yc HG.o nq);unfold LX at T2;rw [TF.o,TX.o] at T2;have HG2:=hid (yc HG.o nq);clear q1 q2 q3 q4 b0;generalize wr.drewN nq=w2 at *;obtain ⟨-,q2,-,q4⟩:=T2;generalize As.forms.getD (k+1) 0=f at *;generalize As.jP.getD (k+1) 0=fx at *;have hfr:1<=(f:Int)/\(f:Int)<=7:=by omega
    have cP:=hid (fun W=>W9 f W hfr);go_wp2_with fail;refine (cP.o _).mono ?_;rintro e w3 ⟨v,rfl,hown,hg3⟩;obtain ⟨ao,cap,rfl⟩:=yi hown;have G3:=hid (ya HG2.o hg3);have II:=hid (yn.aF hown);have hcap:=yZ hown;obtain ⟨L1,L2,L3⟩:=Wy f hfr;rw [L1] at hcap;have HL:=hid L3;have HQ:=hid (fun i hi=>(L3 i hi).2.2.2);clear hown hg3 L3 q2 q4 HG2;have hcap1:=hcap.1;have hcap2:=hcap.2;unfold maxLen at hcap2;clear hcap;rw [L1];have IX:=hid L1;clear L1;have Vo:=hid (yjo f n fx hf HZ.o);have B3:=hid (BX.o.grown G3.o (by simp));clear HG BX;go_wp2
    go_loopw [4,8] (fun x i wr=>∃ a:Nat,a<=qx f/\i = .int .i64 ((a * 2:Nat):Int)/\x = .int .i64 (ors f n fx a:Nat)/\w3.grownBy wr none) (fun _ i _=>qx f * 2 - (intOf i).toNat)
    case atStart=>exact ⟨0,Nat.zero_le _,rfl,rfl,World.grownBy.refl _ _⟩
    case round =>
     obtain ⟨a,ha,rfl,rfl,hgr⟩:=hrel;have DI:=hid hgr;have B4:=hid (B3.o.grown hgr (by simp));clear hgr;have b4:=B4.o.cell 4;simp only [bB,yml,bf] at b4;by_cases hla:a < qx f
     ·obtain ⟨e1,e2,e3,e4⟩:=HL.o a hla;obtain ⟨g',off',hao,hcell⟩:=II.o (by have:=IX.o; omega);subst hao;have s1:a * 2 < (yJ f).length:=by have:=IX.o; omega
      have s2:a * 2+1 < (yJ f).length:=by have:=IX.o; omega
      have c1:=yb (hcell (a * 2) s1) DI.o;have c2:=yb (hcell (a * 2+1) s2) DI.o;rw [show (yJ f)[a * 2]=(p8 f a:Int) from by rw [<- e1,mP,kg s1]; rfl] at c1;rw [show (yJ f)[a * 2+1]=(lV f a:Int) from by rw [<- e2,mP,kg s2]; rfl] at c2;have hP:p8 f a<=31:=by
       have hw:=UN f hfr;omega
      have cB:=hid (fun W=>yjA n (p8 f a) W hP);have hb:=Az n (p8 f a) 1;have ol:=Yi f n fx a (by omega) (fun i hi=>HQ.o i (by omega));have OS:=hid (show ors f n fx (a+1)=ors f n fx a ||| As.dQ n (p8 f a) 1 * 2 ^ lV f a from rfl);generalize As.dQ n (p8 f a) 1=b at *;generalize ors f n fx a=cur at *;have ST:Hd (bits .or .i64 (cur:Int) (wrap64 ((b:Int) * 2 ^ lV f a))=((cur ||| b * 2 ^ lV f a:Nat):Int)):=by
       show _=_;have h2:=Nat.pow_le_pow_right (show 0 < 2 by decide) e4;have h3:b * 2 ^ lV f a<=1 * 2 ^ 31:=Nat.mul_le_mul (by omega) h2;rw [BA b (2 ^ lV f a) (2 ^ lV f a) (by simp) (by omega),Dk _ _ (by omega) (by omega)]
      clear hcell e1 e2 s1 s2;generalize lV f a=q at *;generalize p8 f a=p at *;have g3:(a * 2:Int) < (qx f * 2:Int):=by omega
      have g4:((a * 2:Nat):Int)+1 < ((qx f * 2:Nat):Int):=by omega
      go_wp2
      go_quiet ((go_at_call 87; exact Calls.quiet_of_same (cB.o _)))
      go_wp2;refine ⟨⟨a+1,by omega,by go_num,by rw [ST.o,<- OS.o],yc DI.o nq⟩,?_⟩;simp [intOf]; omega
     ·obtain rfl:a=qx f:=by omega
      have b1:=B4.o.cell 1;have b2:=B4.o.cell 2;have b3:=B4.o.cell 3;simp only [bB,yml,bf] at b1 b2 b3;have ol:=Yi f n fx (qx f) (by omega) (fun i hi=>HQ.o i hi);have CU:=hid Vo.o;generalize ors f n fx (qx f)=cur at *;generalize qx f=pn at *;have GW:=hid (ya G3.o DI.o);have zO:k+1<=25:=by omega
      clear HL IX HQ II Vo L2 B3 B4 b4 cP G3 DI;rcases (show f=1\/f=2\/f=3\/f=4\/f=5\/f=6\/f=7 from by omega) with rfl | rfl | rfl | rfl | rfl | rfl | rfl
      ·have RR:=hid (show R=As.gV 1 fx rd bK dJ n from EN.o);rw [show vH ((1:Nat):Int)=85 from rfl];clear hf hfr HZ TF TX hx;go_wp2
       go_roundw
       case rel =>
        (repeat apply Exists.intro)
        refine ⟨?_,rfl⟩;refine ⟨k+1,zO,by go_num,?_,GW.o⟩;rw [if_neg (by omega),RR.o];unfold As.gV;rw [<- CU.o];simp only [];rw [if_pos (show As.iY 1=true from rfl),if_neg (show ¬ As.gW 1=true by decide),if_neg (show ¬ As.iP 1=true by decide)];have s1:=FW (cur) rd 128 128 rfl ol (by omega) (by omega);rw [s1.1]
       case measure=>simp [intOf]; omega
      ·have RR:=hid (show R=As.gV 2 fx rd bK dJ n from EN.o);rw [show vH ((2:Nat):Int)=74 from rfl];clear hf hfr HZ TF TX hx;go_wp2
       go_roundw
       case rel =>
        (repeat apply Exists.intro)
        refine ⟨?_,rfl⟩;refine ⟨k+1,zO,by go_num,?_,GW.o⟩;rw [if_neg (by omega),RR.o];unfold As.gV;rw [<- CU.o];simp only [];rw [if_pos (show As.iY 2=true from rfl),if_neg (show ¬ As.gW 2=true by decide),if_neg (show ¬ As.iP 2=true by decide)];have s1:=FW (cur) rd 128 128 rfl ol (by omega) (by omega);rw [s1.1]
       case measure=>simp [intOf]; omega
      ·have RR:=hid (show R=As.gV 3 fx rd bK dJ n from EN.o);rw [show vH ((3:Nat):Int)=73 from rfl];clear hf hfr HZ TF TX hx;go_wp2
       go_roundw
       case rel =>
        (repeat apply Exists.intro)
        refine ⟨?_,rfl⟩;refine ⟨k+1,zO,by go_num,?_,GW.o⟩;rw [if_neg (by omega),RR.o];unfold As.gV;rw [<- CU.o];simp only [];rw [if_pos (show As.iY 3=true from rfl),if_pos (show As.gW 3=true from rfl),if_neg (show ¬ As.iP 3=true by decide)];have s1:=FW (cur) rd 128 128 rfl ol (by omega) (by omega);rw [s1.1];have s2:=FW (cur ||| As.dQ rd 0 5 * 128) bK 32768 32768 rfl s1.2 (by omega) (by omega);rw [s2.1]
       case measure=>simp [intOf]; omega
      ·have RR:=hid (show R=As.gV 4 fx rd bK dJ n from EN.o);rw [show vH ((4:Nat):Int)=66 from rfl];clear hf hfr HZ TF TX hx;go_wp2
       go_roundw
       case rel =>
        (repeat apply Exists.intro)
        refine ⟨?_,rfl⟩;refine ⟨k+1,zO,by go_num,?_,GW.o⟩;rw [if_neg (by omega),RR.o];unfold As.gV;rw [<- CU.o];simp only [];rw [if_neg (show ¬ As.iY 4=true by decide),if_pos (show As.gW 4=true from rfl),if_pos (show As.iP 4=true from rfl)];have s1:=FW (cur) bK 32768 32768 rfl ol (by omega) (by omega);rw [s1.1];have s2:=FW (cur ||| As.dQ bK 0 5 * 32768) dJ 1048576 1048576 rfl s1.2 (by omega) (by omega);rw [s2.1]
       case measure=>simp [intOf]; omega
      ·have RR:=hid (show R=As.gV 5 fx rd bK dJ n from EN.o);rw [show vH ((5:Nat):Int)=83 from rfl];clear hf hfr HZ TF TX hx;go_wp2
       go_roundw
       case rel =>
        (repeat apply Exists.intro)
        refine ⟨?_,rfl⟩;refine ⟨k+1,zO,by go_num,?_,GW.o⟩;rw [if_neg (by omega),RR.o];unfold As.gV;rw [<- CU.o];simp only [];rw [if_neg (show ¬ As.iY 5=true by decide),if_pos (show As.gW 5=true from rfl),if_pos (show As.iP 5=true from rfl)];have s1:=FW (cur) bK 32768 32768 rfl ol (by omega) (by omega);rw [s1.1];have s2:=FW (cur ||| As.dQ bK 0 5 * 32768) dJ 1048576 1048576 rfl s1.2 (by omega) (by omega);rw [s2.1]
       case measure=>simp [intOf]; omega
      ·have RR:=hid (show R=As.gV 6 fx rd bK dJ n from EN.o);rw [show vH ((6:Nat):Int)=82 from rfl];clear hf hfr HZ TF TX hx;go_wp2
       go_roundw
       case rel =>
        (repeat apply Exists.intro)
        refine ⟨?_,rfl⟩;refine ⟨k+1,zO,by go_num,?_,GW.o⟩;rw [if_neg (by omega),RR.o];unfold As.gV;rw [<- CU.o];simp only [];rw [if_pos (show As.iY 6=true from rfl),if_pos (show As.gW 6=true from rfl),if_pos (show As.iP 6=true from rfl)];have s1:=FW (cur) rd 128 128 rfl ol (by omega) (by omega);rw [s1.1];have s2:=FW (cur ||| As.dQ rd 0 5 * 128) bK 32768 32768 rfl s1.2 (by omega) (by omega);rw [s2.1];have s3:=FW (cur ||| As.dQ rd 0 5 * 128 ||| As.dQ bK 0 5 * 32768) dJ 1048576 1048576 rfl s2.2 (by omega) (by omega);rw [s3.1]
       case measure=>simp [intOf]; omega
      ·have RR:=hid (show R=As.gV 7 fx rd bK dJ n from EN.o);rw [show vH ((7:Nat):Int)=69 from rfl];clear hf hfr HZ TF TX hx;go_wp2
       go_roundw
       case rel =>
        (repeat apply Exists.intro)
        refine ⟨?_,rfl⟩;refine ⟨k+1,zO,by go_num,?_,GW.o⟩;rw [if_neg (by omega),RR.o];unfold As.gV;rw [<- CU.o];simp only [];rw [if_neg (show ¬ As.iY 7=true by decide),if_neg (show ¬ As.gW 7=true by decide),if_neg (show ¬ As.iP 7=true by decide)]
       case measure=>simp [intOf]; omega
   ·have z0:(((k:Int)+1) != (op:Int))=true:=by simp; omega
    have z1:(if k < op then 0 else (R:Int))=(if k+1 < op then 0 else (R:Int)):=by
     by_cases c:k < op
     ·rw [if_pos c,if_pos (by omega)]
     ·rw [if_neg c,if_neg (by omega)]
    rw [z1];obtain ⟨cur,hcur⟩:∃ cur,(if k+1 < op then 0 else (R:Int))=cur:=⟨_,rfl⟩
    rw [hcur];have HC:=hid hcur;clear hko z1 hcur;go_wp2
    go_quiet (fail)
    go_wp2
    go_roundw
    case rel=>exact ⟨k+1,by omega,by go_num,by rw [HC.o],yc HG.o nq⟩
    case measure=>simp [intOf]; omega
  ·obtain rfl:k=25:=by omega
   rw [if_neg (by omega)];go_wp2;go_ret;exact ⟨rfl,ya G1.o HG.o⟩
end Go.Proofs.YtnkkepfcpjllmaaGreatDoor

namespace Go.Proofs.YtnkkepfcpjllmaaGreatDoor
namespace As
def dH (v:Int):Int:=if v % 4096 < 2048 then v % 4096 else v % 4096 - 4096
def fZ (v:Int):Int:=(v - dH v) / 4096 % 1048576
def dR (op rd bK dJ:Nat) (n:Int) (st:St):St:=lay [(enc op rd bK dJ n:Int)] st
def bR (reg op rd bK dJ:Nat) (n:Int) (sym:Nat) (addend:Int) (st:St):St :=
 bG 5 sym addend [(enc 1 reg 0 0 0:Int),(enc op rd bK dJ n:Int)] (aJ (reg == 0) 7 st.op.pos st)
def bA (s:List UInt8) (op:Nat) (st:St):St :=
 let a:=register s st
 let b:=register s (sign s [44] a.2)
 let c:=register s (sign s [44] b.2)
 dR op a.1 b.1 c.1 0 c.2
def bC (s:List UInt8) (op:Nat) (st:St):St :=
 let a:=register s st
 let b:=register s (sign s [44] a.2)
 let c:=number s (-2048) 2047 (sign s [44] b.2)
 dR op a.1 b.1 0 c.1 c.2
def upper (s:List UInt8) (st:St):St :=
 let a:=register s st
 let c:=number s 0 1048575 (sign s [44] a.2)
 dR 1 a.1 0 0 c.1 c.2
def load (s:List UInt8) (st:St):St :=
 let a:=register s st
 let st1:=sign s [44] a.2
 if st1.tok.kind == 1 then
  let t:=target s st1
  bR a.1 11 a.1 a.1 0 0 t.1.1 t.1.2 t.2
 else
  let p:=place s st1
  dR 11 a.1 p.1.2 0 p.1.1 p.2
def store (s:List UInt8) (st:St):St :=
 let a:=register s st
 let st1:=sign s [44] a.2
 if st1.tok.kind == 1 then
  let t:=target s st1
  let r:=register s (sign s [44] t.2)
  bR r.1 12 0 r.1 a.1 0 t.1.1 t.1.2 r.2
 else
  let p:=place s st1
  dR 12 0 p.1.2 a.1 p.1.1 p.2
def bS (s:List UInt8) (st:St):St :=
 let a:=register s st
 let t:=target s (sign s [44] a.2)
 bR a.1 13 a.1 a.1 0 0 t.1.1 t.1.2 t.2
def bN (s:List UInt8) (st:St):St :=
 let a:=register s st
 let p:=place s (sign s [44] a.2)
 dR 4 a.1 p.1.2 0 p.1.1 p.2
def bare (st:St):St :=
 if st.op.text=[101,99,97,108,108] then dR 25 0 0 0 0 st
 else if st.op.text=[114,101,116] then dR 4 0 1 0 0 st
 else if st.op.text=[110,111,112] then dR 13 0 0 0 0 st
 else st
def branch (s:List UInt8) (op:Nat) (st:St):St :=
 let a:=register s st
 let b:=register s (sign s [44] a.2)
 let y:=symbol s (sign s [44] b.2)
 bG 2 y.1 0 [(enc op 0 a.1 b.1 0:Int)] y.2
def fE (s:List UInt8) (rd:Nat) (st:St):St :=
 let y:=symbol s st
 bG 3 y.1 0 [(enc 3 rd 0 0 0:Int)] y.2
def eX (s:List UInt8) (st:St):St :=
 let a:=register s st
 fE s a.1 (sign s [44] a.2)
def move (s:List UInt8) (st:St):St :=
 let a:=register s st
 let b:=register s (sign s [44] a.2)
 dR 13 a.1 b.1 0 0 b.2
def bZ (s:List UInt8) (st:St):St :=
 let a:=register s st
 let c:=number s (-2147483648) 2147483647 (sign s [44] a.2)
 if -2048<=c.1/\c.1<=2047 then dR 13 a.1 0 0 c.1 c.2
 else lay [(enc 1 a.1 0 0 (fZ c.1):Int),(enc 13 a.1 a.1 0 (dH c.1):Int)] c.2
def call (s:List UInt8) (st:St):St :=
 let tail:=st.op.text == [116,97,105,108]
 let y:=symbol s st
 bG 4 y.1 0 [(enc 2 (if tail then 6 else 1) 0 0 0:Int),(enc 4 (if tail then 0 else 1) (if tail then 6 else 1) 0 0:Int)] y.2
end As
end Go.Proofs.YtnkkepfcpjllmaaGreatDoor

namespace Go.Proofs.YtnkkepfcpjllmaaGreatDoor
namespace As
def dz (st:St):St :=
 if st.op.text=[46,116,101,120,116] then { st with ah:=1 }
 else if st.op.text=[46,102,97,114] then { st with ah:=2 }
 else if st.op.text=[46,100,97,116,97] then { st with ah:=3 }
 else if st.op.text=[46,98,115,115] then { st with ah:=4 }
 else st
def binding (s:List UInt8) (st:St):St:=bind s (if st.op.text=[46,103,108,111,98,108] then 1 else 2) st
def word (s:List UInt8) (st:St):St :=
 if st.tok.kind == 1 then
  let t:=target s st
  bG 1 t.1.1 t.1.2 [0] t.2
 else
  let n:=number s (-2147483648) 4294967295 st
  lay [n.1 % 4294967296] n.2
def space (s:List UInt8) (st:St):St :=
 let n:=number s 0 4800 st
 if n.1 % 4=0 then lay (List.replicate (n.1 / 4).toNat 0) n.2 else refuse 8 n.2.op.pos n.2
def gL (ah:Nat):Bool:=ah == 1 || ah == 2
def aC (k:Int) (st:St):St :=
 if (st.obj.align[st.ah - 1]?).getD 0 < k then { st with obj:={ st.obj with align:=st.obj.align.set (st.ah - 1) k } } else st
def dA (fQ:Nat) (st:St):St :=
 if gL st.ah then
  if 4 < fQ then bG 6 0 ((fQ:Int) - 4) (List.replicate (fQ / 4 - 1) 19) st else st
 else lay (List.replicate (((fQ:Int) - 4 * aA st.obj st.ah % fQ) % fQ / 4).toNat 0) st
def align (s:List UInt8) (st:St):St :=
 let n:=number s 2 4 st
 if failed n.2 then n.2 else aC n.1 (dA (2 ^ n.1.toNat) n.2)
end As
end Go.Proofs.YtnkkepfcpjllmaaGreatDoor
