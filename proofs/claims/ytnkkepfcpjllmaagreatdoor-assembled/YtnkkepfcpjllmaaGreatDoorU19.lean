
import Derived.Test.YtnkkepfcpjllmaaGreatDoorU18
import Derived.Deep.CutRange
import Derived.Deep.CutBlock
set_option maxHeartbeats 16000000
set_option maxRecDepth 100000
namespace Go.Proofs.YtnkkepfcpjllmaaGreatDoor
open Go.RowKit
structure Qt (op rd bK dJ:Nat) (n:Int):Prop where
 op1:1<=op
 op2:op<=25
 regs:rd<=31/\bK<=31/\dJ<=31
 num:As.forms.getD op 0=2\/As.forms.getD op 0=4->n=0
theorem Qa (op rd bK dJ:Nat) (n:Int) (fb:Int) (op' rd' Ae Af:Nat) (n':Int) (Pm:Int) (w:World) (h:Qt op rd bK dJ n) (h':Qt op' rd' Ae Af n') :
  Calls Tryz.prog 126 #[dZ op rd bK dJ n fb,dZ op' rd' Ae Af n' Pm] w fun e w'=>∃ b,e = .returned (.slice (some ⟨b,0,none⟩) 2 2)/\yE w' (some ⟨b,0,none⟩) 2 [(As.enc op rd bK dJ n:Int),(As.enc op' rd' Ae Af n':Int)]/\w.grownBy w' none:=by
 have cA:=hid (fun V=>Qj op rd bK dJ n fb V h.op1 h.op2 h.regs h.num);have cB:=hid (fun V=>Qj op' rd' Ae Af n' Pm V h'.op1 h'.op2 h'.regs h'.num);generalize As.enc op rd bK dJ n=a at *;generalize As.enc op' rd' Ae Af n'=b at *;clear h h';unfold dZ at *;have A1:=aW w (.cells #[.int .i64 op,.int .i64 rd,.int .i64 bK,.int .i64 dJ,.int .i64 n,.int .u8 fb] 102) none;have A2:=aW (w.alloc (.cells #[.int .i64 op,.int .i64 rd,.int .i64 bK,.int .i64 dJ,.int .i64 n,.int .u8 fb] 102)) (.cells #[.int .i64 op',.int .i64 rd',.int .i64 Ae,.int .i64 Af,.int .i64 n',.int .u8 Pm] 102) none;have G0:=hid (ya A1 A2)
 have B0:=(yd.new (w.alloc (.cells #[.int .i64 op,.int .i64 rd,.int .i64 bK,.int .i64 dJ,.int .i64 n,.int .u8 fb] 102)) #[.int .i64 op',.int .i64 rd',.int .i64 Ae,.int .i64 Af,.int .i64 n',.int .u8 Pm] 102)
 rw [show (w.alloc (.cells #[.int .i64 op,.int .i64 rd,.int .i64 bK,.int .i64 dJ,.int .i64 n,.int .u8 fb] 102)).heap.size=w.heap.size+1 by simp] at B0;have BB:=hid B0;clear A1 A2 B0;go_enter Tryz.func126,Tryz.ntmps126;go_wp2_with fail;refine (cA.o _).mono ?_;rintro e w1 ⟨rfl,hg1⟩;have G1:=hid (ya G0.o hg1);have B1:=BB.o.grown hg1 (by simp);have k0:=B1.cell 0;have k1:=B1.cell 1;have k2:=B1.cell 2;have k3:=B1.cell 3;have k4:=B1.cell 4;have k5:=B1.cell 5;simp only [bB,yml,bf] at k0 k1 k2 k3 k4 k5;clear hg1 cA B1 BB G0;go_wp2_with fail;refine (cB.o _).mono ?_;rintro e w2 ⟨rfl,hg2⟩;have G2:=hid (ya G1.o hg2)
 clear hg2 k0 k1 k2 k3 k4 k5 cB;go_wp2;go_ret;refine ⟨w2.heap.size,rfl,.inr ⟨w2.heap.size,0,#[.int .i64 a,.int .i64 b],rfl,yd.new w2 _ _,fun i hi=>?_⟩,ya G2.o (aW _ _ _)⟩;have hi2:i < 2:=hi;rcases (show i=0\/i=1 by omega) with rfl | rfl <;> rfl
theorem Ui (B m g:Nat) (ao:Option Addr) (cap:Nat) (L:List Rf.Tk) (d:Rf.Ds) (r:Nat) (G:Rf.Got) (ar:Option Addr) (nr cr:Nat) (op rd bK dJ:Nat) (fb:Int) (W:World) (h:rJ B m g ao cap L d W) (hs4:d.ah≠4) (hr:r<=31) (hi:Qt op rd bK dJ 0) :
  Calls Tryz.prog 81 #[.pointer (some ⟨m,0,none⟩),.int .i64 r,.agg #[.slice ar nr cr,.int .i64 G.num,.int .i64 G.sym,.int .i64 G.add],dZ op rd bK dJ 0 fb] W fun en W'=>en = .returned (.tuple #[])/\yO B m g ao cap L rC W (Rf.address r G (As.enc op rd bK dJ 0:Int) d) W':=by
 obtain ⟨vq,vt,vf,vd,va,vs,vr,h⟩:=h;have RS:=hid (show Rf.address r G (As.enc op rd bK dJ 0:Int) d=if r=0 then Rf.bad 7 d.op d else Rf.lay 5 G.sym G.add [(As.enc 1 r 0 0 0:Int),(As.enc op rd bK dJ 0:Int)] d from rfl);generalize Rf.address r G (As.enc op rd bK dJ 0:Int) d=X at *;have hop:=h.md.ok.op;have A1:=aW W (.cells #[.slice ar nr cr,.int .i64 G.num,.int .i64 G.sym,.int .i64 G.add] 98) none;have A2:=aW (W.alloc (.cells #[.slice ar nr cr,.int .i64 G.num,.int .i64 G.sym,.int .i64 G.add] 98)) (.cells #[.int .i64 op,.int .i64 rd,.int .i64 bK,.int .i64 dJ,.int .i64 0,.int .u8 fb] 102) none;have H:=hid (h.grown (ya A1 A2))
 have D:=hid ((h.refl (ts:=rC)).grown (ya A1 A2));have BG:=hid ((yd.new W #[.slice ar nr cr,.int .i64 G.num,.int .i64 G.sym,.int .i64 G.add] 98).grown A2 (by simp));have B0:=(yd.new (W.alloc (.cells #[.slice ar nr cr,.int .i64 G.num,.int .i64 G.sym,.int .i64 G.add] 98)) #[.int .i64 op,.int .i64 rd,.int .i64 bK,.int .i64 dJ,.int .i64 0,.int .u8 fb] 102)
 rw [show (W.alloc (.cells #[.slice ar nr cr,.int .i64 G.num,.int .i64 G.sym,.int .i64 G.add] 98)).heap.size=W.heap.size+1 by simp] at B0;have BI:=hid B0;have cB:=hid (fun V=>Qa 1 r 0 0 0 0 op rd bK dJ 0 fb V ⟨by decide,by decide,⟨hr,by decide,by decide⟩,fun _=>rfl⟩ hi);have HS:=hid hs4;have HI:=hid hi;clear h A1 A2 B0 hi hs4;unfold dZ at *;go_enter Tryz.func81,Tryz.ntmps81;by_cases h0:r=0
 ·have z0:((r:Int) == 0)=true:=by simp [h0]
  rw [if_pos h0] at RS;have c7:=yp H.o.md 7;simp only [yr,bB,yml,bf] at c7;clear h0;go_wp2_with fail;refine (yL m g _ ao cap L d 7 d.op _ H.o.md (by decide) hop).mono ?_;rintro e V4 ⟨rfl,h4⟩;have D4:=hid (D.o.after (H.o.dW (ts:=rC) h4 (yq _ _ _).2 (yq _ _ _).1 (by decide)) (fun t ht=>ht));clear h4;go_wp2
  (try simp only [Exit.inBlock,Exit.then]); refine bodyPost_ret (results_none rfl _ _ _) rfl ?_
  rw [RS.o];exact ⟨rfl,D4.o⟩
 ·have z0:((r:Int) == 0)=false:=by simp; omega
  rw [if_neg h0] at RS;have k0:=BI.o.cell 0;have k1:=BI.o.cell 1;have k2:=BI.o.cell 2;have k3:=BI.o.cell 3;have k4:=BI.o.cell 4;have k5:=BI.o.cell 5;simp only [bB,yml,bf] at k0 k1 k2 k3 k4 k5;clear h0;go_wp2_with fail;refine (cB.o _).mono ?_;rintro e V2 ⟨b,rfl,hw,hg2⟩;have D2:=hid (D.o.grown hg2);have B2:=BG.o.grown hg2 (by simp);have u0:=B2.cell 0;have u1:=B2.cell 1;have u2:=B2.cell 2;have u3:=B2.cell 3;simp only [bB,yml,bf] at u0 u1 u2 u3;have WA:=hid hw;clear hw hg2 k0 k1 k2 k3 k4 k5 cB B2 BG BI D H;go_wp2_with fail;refine (Gg B m g ao cap L d 5 G.sym G.num G.add ar nr cr (some ⟨b,0,none⟩) 2 [(As.enc 1 r 0 0 0:Int),(As.enc op rd bK dJ 0:Int)] V2 D2.o.1 HS.o WA.o (by simp)).mono ?_
  rintro e V7 ⟨rfl,h7⟩;have D7:=hid (D2.o.after h7 (fun _ x=>x));clear h7;go_wp2
  go_end0
  rw [RS.o];exact ⟨rfl,D7.o⟩
def Qo (k:Nat) (w:World) (b:Nat):Prop:=w.cell? ⟨b,k * 5,none⟩=some (.string (bs (As.names.getD (k+1) [])))/\w.cell? ⟨b,k * 5+1,none⟩=some (.int .i64 ((k:Int)+1))
theorem Qo.grown {k b:Nat} {w w':World} (h:Qo k w b) (hg:w.grownBy w' none):Qo k w' b:=⟨yb h.1 hg,yb h.2 hg⟩
theorem yiL (w:World) :
  Calls Tryz.prog 85 #[] w fun e w'=>e = .returned (.slice (some ⟨w.heap.size,0,none⟩) 25 25)/\(∀ k,k < 25->Qo k w' w.heap.size)/\w.grownBy w' none:=by
 have G:=hid (fun o:Obj=>aW w o none);go_enter Tryz.func85,Tryz.ntmps85;go_wp2;go_ret;refine ⟨rfl,fun k hk=>?_,G.o _⟩;refine ⟨((yd.new w _ _).cell _).trans ?_,((yd.new w _ _).cell _).trans ?_⟩
 all_goals
  clear G;rcases (show k=0\/k=1\/k=2\/k=3\/k=4\/k=5\/k=6\/k=7\/k=8\/k=9\/k=10\/k=11\/k=12\/k=13\/k=14\/k=15\/k=16\/k=17\/k=18\/k=19\/k=20\/k=21\/k=22\/k=23\/k=24 from by omega) with rfl | rfl | rfl | rfl | rfl | rfl | rfl | rfl | rfl | rfl | rfl | rfl | rfl | rfl | rfl | rfl | rfl | rfl | rfl | rfl | rfl | rfl | rfl | rfl | rfl <;> rfl
theorem yka (t:List UInt8) (w:World) :
  Calls Tryz.prog 82 #[.string (bs t)] w fun e w'=>e = .returned (.tuple #[.int .i64 (As.named t:Nat),.bool (decide (As.named t≠0))])/\w.grownBy w' none:=by
 have cT:=hid (yiL w);have NA:=hid UG;have NN:=hid (Uc t);generalize hX:As.named t=X at *;have HX:=hid hX;clear hX;go_enter Tryz.func82,Tryz.ntmps82;go_wp2_with fail;refine cT.o.mono ?_;rintro e w1 ⟨rfl,htab,hg1⟩;have HT:=hid htab;have G1:=hid hg1;generalize w.heap.size=TB at *;clear htab hg1 cT;go_wp2
 go_loopw [5] (fun i wr=>∃ k:Nat,k<=25/\i = .int .i64 k/\w1.grownBy wr none/\∀ j,1<=j->j < k+1->As.names.getD j []≠t) (fun i _=>25 - (intOf i).toNat)
 case atStart=>exact ⟨0,Nat.zero_le _,rfl,World.grownBy.refl _ _,fun j h1 h2=>by omega⟩
 case round =>
  obtain ⟨k,hk,rfl,hgr,hall⟩:=hrel;have HG:=hid hgr;have HA:=hid hall;clear hgr hall;by_cases hlt:k < 25
  ·obtain ⟨q0,q1⟩:=(HT.o k hlt).grown HG.o;have NK:=hid (NA.o (k+1) (by omega) (by omega));have g2:(k:Int) < 25:=by omega
   generalize hnm:As.names.getD (k+1) []=nm at *;have QC:=hid hnm;clear hnm;by_cases e1:nm=t
   ·have b1:((bs nm).toList == (bs t).toList)=true:=by rw [e1]; simp
    have E:=hid (show X=k+1 by rw [<- HX.o,<- e1]; exact NK.o);clear e1;go_wp2;go_ret2;rw [E.o];exact ⟨by simp,ya G1.o HG.o⟩
   ·have E:=hid e1;have b1:((bs nm).toList == (bs t).toList)=false:=by rw [yA,yA]; simpa using e1
    clear e1;go_wp2
    go_roundw
    case rel=>exact ⟨k+1,by omega,by go_num,HG.o,fun j hj hjk=>(Nat.lt_succ_iff_lt_or_eq.1 hjk).elim (fun h=>HA.o j hj h) (fun h=>by subst h; rw [QC.o]; exact E.o)⟩
    case measure=>simp [intOf]; omega
  ·have g2:(25:Int)<=(k:Int):=by omega
   have E:=hid (NN.o (fun j h1 h2=>HA.o j h1 (by omega)));go_wp2;go_ret2;rw [E.o];exact ⟨rfl,ya G1.o HG.o⟩
namespace Rf
def aG (G:Got) (i:Nat):Nat:=G.rs.getD i 0
def iN (w:List UInt8) (G:Got) (d:Ds):Ds :=
 if w=[99,97,108,108] then lay 4 G.sym G.add [(As.enc 2 1 0 0 0:Int),(As.enc 4 1 1 0 0:Int)] d else
 if w=[116,97,105,108] then lay 4 G.sym G.add [(As.enc 2 6 0 0 0:Int),(As.enc 4 0 6 0 0:Int)] d else
 if w=[108,97] then address (aG G 0) G (As.enc 13 (aG G 0) (aG G 0) 0 0:Int) d else
 if w=[108,105] then
  if -2048<=G.num/\G.num < 2048 then lay 0 G.sym G.add [(As.enc 13 (aG G 0) 0 0 G.num:Int)] d
  else lay 0 0 0 [(As.enc 1 (aG G 0) 0 0 (As.fZ G.num):Int),(As.enc 13 (aG G 0) (aG G 0) 0 (As.dH G.num):Int)] d
 else d
theorem Ef (r:Nat) (n:Int):As.enc 1 r 0 0 n=As.enc 1 r 0 0 (n % 1048576):=by
 have e:As.place' 1 n=As.place' 1 (n % 1048576):=by
  unfold As.place';rw [if_pos rfl,if_pos rfl];have f:As.dQ n 0 20=As.dQ (n % 1048576) 0 20:=by
   unfold As.dQ;simp only [Int.pow_zero,Int.ediv_one];rw [show (2:Int) ^ 20=1048576 from rfl,Int.emod_emod_of_dvd _ (Int.dvd_refl _)]
  rw [f]
 unfold As.enc As.gV;rw [show As.forms.getD 1 0=1 from rfl,e]
theorem EW (n:Int):bits .and .i64 (n+2048) 4095 - 2048=As.dH n:=by
 have a:=UC (n+2048);have e1:bits .and .i64 (n+2048) 4095=(n+2048) % 4096:=by rw [a]; omega
 rw [e1];unfold As.dH;split <;> omega
end Rf
theorem yhM (B m g:Nat) (ao:Option Addr) (cap:Nat) (L:List Rf.Tk) (d:Rf.Ds) (w:List UInt8) (G:Rf.Got) (rb cr:Nat) (W:World) (h:rJ B m g ao cap L d W) (hs4:d.ah≠4) (hr0:W.cell? ⟨rb,0,none⟩=some (.int .i64 (Rf.aG G 0:Nat))) (hrl:Rf.aG G 0<=31) (hn:-9999999999<=G.num/\G.num<=9999999999) :
  Calls Tryz.prog 84 #[.pointer (some ⟨m,0,none⟩),.string (bs w),.agg #[.slice (some ⟨rb,0,none⟩) 3 cr,.int .i64 G.num,.int .i64 G.sym,.int .i64 G.add]] W fun en W'=>en = .returned (.tuple #[])/\yO B m g ao cap L rC W (Rf.iN w G d) W':=by
 obtain ⟨vq,vt,vf,vd,va,vs,vr,h⟩:=h;have RS:=hid (show Rf.iN w G d=(
  if w=[99,97,108,108] then Rf.lay 4 G.sym G.add [(As.enc 2 1 0 0 0:Int),(As.enc 4 1 1 0 0:Int)] d else
  if w=[116,97,105,108] then Rf.lay 4 G.sym G.add [(As.enc 2 6 0 0 0:Int),(As.enc 4 0 6 0 0:Int)] d else
  if w=[108,97] then Rf.address (Rf.aG G 0) G (As.enc 13 (Rf.aG G 0) (Rf.aG G 0) 0 0:Int) d else
  if w=[108,105] then
   if -2048<=G.num/\G.num < 2048 then Rf.lay 0 G.sym G.add [(As.enc 13 (Rf.aG G 0) 0 0 G.num:Int)] d
   else Rf.lay 0 0 0 [(As.enc 1 (Rf.aG G 0) 0 0 (As.fZ G.num):Int),(As.enc 13 (Rf.aG G 0) (Rf.aG G 0) 0 (As.dH G.num):Int)] d
  else d) from rfl)
 generalize Rf.iN w G d=X at *;generalize Rf.aG G 0=r at *;have A1:=aW W (.cells #[.slice (some ⟨rb,0,none⟩) 3 cr,.int .i64 G.num,.int .i64 G.sym,.int .i64 G.add] 98) none;have HD:=hid ((h.refl (ts:=rC)).grown A1);have BG:=hid (yd.new W #[.slice (some ⟨rb,0,none⟩) 3 cr,.int .i64 G.num,.int .i64 G.sym,.int .i64 G.add] 98);have HS:=hid hs4;have HR:=hid hrl;have HN:=hid hn;have MC:=yb hr0 A1;have e:∀ l:List UInt8,((bs w).toList == l)=decide (w=l):=fun l=>by rw [yA,Bool.eq_iff_iff,beq_iff_eq,decide_eq_true_iff]
 have E:=hid e;clear h hr0 hs4 hrl hn A1 e;by_cases h:w=[99,97,108,108]
 ·rw [if_pos h] at RS;have d0:=E.o [99,97,108,108];rw [decide_eq_true h] at d0;clear h;have cB:=hid (fun V=>Qa 2 1 0 0 0 0 4 1 1 0 0 0 V ⟨by decide,by decide,by decide,fun _=>rfl⟩ ⟨by decide,by decide,by decide,fun _=>rfl⟩);unfold dZ at cB;go_enter Tryz.func84,Tryz.ntmps84;go_wp2_with fail;refine (cB.o _).mono ?_;rintro e V2 ⟨b,rfl,hw,hg2⟩;have D2:=hid (HD.o.grown hg2);have B2:=BG.o.grown hg2 (by simp);have u0:=B2.cell 0;have u1:=B2.cell 1;have u2:=B2.cell 2;have u3:=B2.cell 3;simp only [bB,yml,bf] at u0 u1 u2 u3;have WA:=hid hw;clear hw hg2 cB B2 BG MC;go_wp2_with fail;refine (Gg B m g ao cap L d 4 G.sym G.num G.add (some ⟨rb,0,none⟩) 3 cr (some ⟨b,0,none⟩) 2 _ V2 D2.o.1 HS.o WA.o (by simp)).mono ?_
  rintro e V7 ⟨rfl,h7⟩;have D7:=hid (D2.o.after h7 (fun _ x=>x));clear h7;go_wp2
  go_end0
  rw [RS.o];exact ⟨rfl,D7.o⟩
 have d0:=E.o [99,97,108,108];rw [if_neg h] at RS;rw [decide_eq_false h] at d0;clear h;by_cases h:w=[116,97,105,108]
 ·rw [if_pos h] at RS;have d1:=E.o [116,97,105,108];rw [decide_eq_true h] at d1;clear h;have cB:=hid (fun V=>Qa 2 6 0 0 0 0 4 0 6 0 0 0 V ⟨by decide,by decide,by decide,fun _=>rfl⟩ ⟨by decide,by decide,by decide,fun _=>rfl⟩);unfold dZ at cB;go_enter Tryz.func84,Tryz.ntmps84;go_wp2_with fail;refine (cB.o _).mono ?_;rintro e V2 ⟨b,rfl,hw,hg2⟩;have D2:=hid (HD.o.grown hg2);have B2:=BG.o.grown hg2 (by simp);have u0:=B2.cell 0;have u1:=B2.cell 1;have u2:=B2.cell 2;have u3:=B2.cell 3;simp only [bB,yml,bf] at u0 u1 u2 u3;have WA:=hid hw;clear hw hg2 cB B2 BG MC;go_wp2_with fail;refine (Gg B m g ao cap L d 4 G.sym G.num G.add (some ⟨rb,0,none⟩) 3 cr (some ⟨b,0,none⟩) 2 _ V2 D2.o.1 HS.o WA.o (by simp)).mono ?_
  rintro e V7 ⟨rfl,h7⟩;have D7:=hid (D2.o.after h7 (fun _ x=>x));clear h7;go_wp2
  go_end0
  rw [RS.o];exact ⟨rfl,D7.o⟩
 have d1:=E.o [116,97,105,108];rw [if_neg h] at RS;rw [decide_eq_false h] at d1;clear h;by_cases h:w=[108,97]
 ·rw [if_pos h] at RS;have d2:=E.o [108,97];rw [decide_eq_true h] at d2;clear h;have b0:=BG.o.cell 0;have b1:=BG.o.cell 1;have b2:=BG.o.cell 2;have b3:=BG.o.cell 3;simp only [bB,yml,bf] at b0 b1 b2 b3;have cA:=hid (fun V hV=>Ui B m g ao cap L d r G (some ⟨rb,0,none⟩) 3 cr 13 r r 0 0 V hV HS.o HR.o ⟨by decide,by decide,⟨HR.o,HR.o,by decide⟩,fun _=>rfl⟩);unfold dZ at cA;go_enter Tryz.func84,Tryz.ntmps84;go_wp2_with fail;refine (cA.o _ HD.o.1).mono ?_;rintro e V7 ⟨rfl,h7⟩;have D7:=hid (HD.o.after h7 (fun _ x=>x));clear h7;go_wp2
  go_end0
  rw [RS.o];exact ⟨rfl,D7.o⟩
 have d2:=E.o [108,97];rw [if_neg h] at RS;rw [decide_eq_false h] at d2;clear h;by_cases h:w=[108,105]
 ·rw [if_pos h] at RS;have d3:=E.o [108,105];rw [decide_eq_true h] at d3;clear h;have b0:=BG.o.cell 0;have b1:=BG.o.cell 1;have b2:=BG.o.cell 2;have b3:=BG.o.cell 3;simp only [bB,yml,bf] at b0 b1 b2 b3;by_cases hin:-2048<=G.num/\G.num < 2048
  ·rw [if_pos hin] at RS;obtain ⟨i1,i2⟩:=hin;have cW:=hid (fun V=>Qj 13 r 0 0 G.num 0 V (by decide) (by decide) ⟨HR.o,by decide,by decide⟩ (by intro q; rcases q with q | q <;> exact absurd q (by decide)));unfold dZ at cW;go_enter Tryz.func84,Tryz.ntmps84;go_wp2_with fail;refine (cW.o _).mono ?_;rintro e V2 ⟨rfl,hg2⟩;have D2:=hid (HD.o.grown hg2);have B2:=BG.o.grown hg2 (by simp);have u0:=B2.cell 0;have u1:=B2.cell 1;have u2:=B2.cell 2;have u3:=B2.cell 3;simp only [bB,yml,bf] at u0 u1 u2 u3;clear hg2 cW B2 BG MC b0 b1 b2 b3;have A3:=aW V2 (.cells #[.int .i64 (As.enc 13 r 0 0 G.num:Nat)] 3) none
   have D3:=hid (D2.o.grown A3);clear A3;go_wp2_with fail;refine (Gg B m g ao cap L d 0 G.sym G.num G.add (some ⟨rb,0,none⟩) 3 cr (some ⟨V2.heap.size,0,none⟩) 1 _ _ D3.o.1 HS.o (IB V2 _) (by simp)).mono ?_;rintro e V7 ⟨rfl,h7⟩;have D7:=hid (D3.o.after h7 (fun _ x=>x));clear h7;go_wp2
   (try simp only [Exit.inBlock,Exit.then]); refine bodyPost_ret (results_none rfl _ _ _) rfl ?_
   rw [RS.o];exact ⟨rfl,D7.o⟩
  ·rw [if_neg hin] at RS;obtain ⟨hn1,hn2⟩:=HN.o;have pl:=Rf.EW G.num;have DW:=hid (show X=Rf.lay 0 0 0 [(As.enc 1 r 0 0 ((G.num - As.dH G.num) / 4096):Int),(As.enc 13 r r 0 (As.dH G.num):Int)] d by
    rw [RS.o,Rf.Ef r ((G.num - As.dH G.num) / 4096)];rfl)
   have lb:-2048<=As.dH G.num/\As.dH G.num<=2047:=by unfold As.dH; split <;> omega
   clear RS;generalize As.dH G.num=lo at *;obtain ⟨lb1,lb2⟩:=lb;have hlo:bits .and .i64 (G.num+2048) 4095=lo+2048:=by omega
   clear pl;have cB:=hid (fun V=>Qa 1 r 0 0 ((G.num - lo) / 4096) 0 13 r r 0 lo 0 V ⟨by decide,by decide,⟨HR.o,by decide,by decide⟩,by intro q; rcases q with q | q <;> exact absurd q (by decide)⟩ ⟨by decide,by decide,⟨HR.o,HR.o,by decide⟩,by intro q; rcases q with q | q <;> exact absurd q (by decide)⟩);unfold dZ at cB;obtain ⟨g1,g2⟩ | ⟨g1,g2⟩:(decide (-2048<=G.num)=true/\decide (G.num < 2048)=false)\/(decide (-2048<=G.num)=false/\True):=by
    by_cases z:-2048<=G.num
    ·exact .inl ⟨by simp; omega,by simp; omega⟩
    ·exact .inr ⟨by simp; omega,trivial⟩
   all_goals
   clear hin;go_enter Tryz.func84,Tryz.ntmps84;go_wp2_with fail;refine (cB.o _).mono ?_;rintro e V2 ⟨b,rfl,hw,hg2⟩;have D2:=hid (HD.o.grown hg2);have WA:=hid hw;clear hw hg2 cB BG MC b0 b1 b2 b3;go_wp2_with fail;refine (Gg B m g ao cap L d 0 0 0 0 none 0 0 (some ⟨b,0,none⟩) 2 _ V2 D2.o.1 HS.o WA.o (by simp)).mono ?_;rintro e V7 ⟨rfl,h7⟩;have D7:=hid (D2.o.after h7 (fun _ x=>x));clear h7;go_wp2
   go_end0
   rw [DW.o];exact ⟨rfl,D7.o⟩
 have d3:=E.o [108,105];rw [if_neg h] at RS;rw [decide_eq_false h] at d3;clear h;go_enter Tryz.func84,Tryz.ntmps84;go_wp2
 go_end0
 rw [RS.o];exact ⟨rfl,HD.o⟩
namespace Rf
def bI (w:List UInt8) (G:Got) (d:Ds):Ds :=
 if w=[98,101,113] then lay 2 G.sym G.add [(As.enc (As.named w) (aG G 0) (aG G 0) (aG G 1) G.num:Int)] d else
 if w=[98,110,101] then lay 2 G.sym G.add [(As.enc (As.named w) (aG G 0) (aG G 0) (aG G 1) G.num:Int)] d else
 if w=[98,108,116] then lay 2 G.sym G.add [(As.enc (As.named w) (aG G 0) (aG G 0) (aG G 1) G.num:Int)] d else
 if w=[98,103,101] then lay 2 G.sym G.add [(As.enc (As.named w) (aG G 0) (aG G 0) (aG G 1) G.num:Int)] d else
 if w=[98,108,116,117] then lay 2 G.sym G.add [(As.enc (As.named w) (aG G 0) (aG G 0) (aG G 1) G.num:Int)] d else
 if w=[98,103,101,117] then lay 2 G.sym G.add [(As.enc (As.named w) (aG G 0) (aG G 0) (aG G 1) G.num:Int)] d else
 if w=[106,97,108] then lay 3 G.sym G.add [(As.enc (As.named w) (aG G 0) (aG G 1) (aG G 2) G.num:Int)] d else
 if w=[115,119] then lay 0 G.sym G.add [(As.enc (As.named w) (aG G 0) (aG G 1) (aG G 0) G.num:Int)] d else
 if w=[106] then lay 3 G.sym G.add [(As.enc 3 0 0 0 0:Int)] d else
 if w=[110,111,112] then lay 0 G.sym G.add [(As.enc 13 0 0 0 0:Int)] d else
 if w=[114,101,116] then lay 0 G.sym G.add [(As.enc 4 0 1 0 0:Int)] d else
 if w=[109,118] then lay 0 G.sym G.add [(As.enc 13 (aG G 0) (aG G 1) 0 0:Int)] d else
 if As.named w=0 then iN w G d else lay 0 G.sym G.add [(As.enc (As.named w) (aG G 0) (aG G 1) (aG G 2) G.num:Int)] d
theorem Ez (w:List UInt8):As.named w<=25:=by
 by_cases h:∃ k,1<=k/\k<=25/\As.names.getD k []=w
 ·obtain ⟨k,h1,h2,rfl⟩:=h;rw [UG k h1 h2];exact h2
 ·rw [Uc w (fun k h1 h2 e=>h ⟨k,h1,h2,e⟩)];omega
end Rf
theorem yfc (B m g:Nat) (ao:Option Addr) (cap:Nat) (L:List Rf.Tk) (d:Rf.Ds) (w:List UInt8) (G:Rf.Got) (rb cr:Nat) (W:World) (h:rJ B m g ao cap L d W) (hs4:d.ah≠4) (hrs:∀ i,i < 3->W.cell? ⟨rb,i,none⟩=some (.int .i64 (Rf.aG G i:Nat))) (hrl:∀ i,Rf.aG G i<=31) (hn:-9999999999<=G.num/\G.num<=9999999999) (hz:As.forms.getD (As.named w) 0=2\/As.forms.getD (As.named w) 0=4->G.num=0) :
  Calls Tryz.prog 56 #[.pointer (some ⟨m,0,none⟩),.string (bs w),.agg #[.slice (some ⟨rb,0,none⟩) 3 cr,.int .i64 G.num,.int .i64 G.sym,.int .i64 G.add]] W fun en W'=>en = .returned (.tuple #[])/\yO B m g ao cap L rC W (Rf.bI w G d) W':=by
 obtain ⟨vq,vt,vf,vd,va,vs,vr,h⟩:=h;have RS:=hid (show Rf.bI w G d=(
  if w=[98,101,113] then Rf.lay 2 G.sym G.add [(As.enc (As.named w) (Rf.aG G 0) (Rf.aG G 0) (Rf.aG G 1) G.num:Int)] d else
  if w=[98,110,101] then Rf.lay 2 G.sym G.add [(As.enc (As.named w) (Rf.aG G 0) (Rf.aG G 0) (Rf.aG G 1) G.num:Int)] d else
  if w=[98,108,116] then Rf.lay 2 G.sym G.add [(As.enc (As.named w) (Rf.aG G 0) (Rf.aG G 0) (Rf.aG G 1) G.num:Int)] d else
  if w=[98,103,101] then Rf.lay 2 G.sym G.add [(As.enc (As.named w) (Rf.aG G 0) (Rf.aG G 0) (Rf.aG G 1) G.num:Int)] d else
  if w=[98,108,116,117] then Rf.lay 2 G.sym G.add [(As.enc (As.named w) (Rf.aG G 0) (Rf.aG G 0) (Rf.aG G 1) G.num:Int)] d else
  if w=[98,103,101,117] then Rf.lay 2 G.sym G.add [(As.enc (As.named w) (Rf.aG G 0) (Rf.aG G 0) (Rf.aG G 1) G.num:Int)] d else
  if w=[106,97,108] then Rf.lay 3 G.sym G.add [(As.enc (As.named w) (Rf.aG G 0) (Rf.aG G 1) (Rf.aG G 2) G.num:Int)] d else
  if w=[115,119] then Rf.lay 0 G.sym G.add [(As.enc (As.named w) (Rf.aG G 0) (Rf.aG G 1) (Rf.aG G 0) G.num:Int)] d else
  if w=[106] then Rf.lay 3 G.sym G.add [(As.enc 3 0 0 0 0:Int)] d else
  if w=[110,111,112] then Rf.lay 0 G.sym G.add [(As.enc 13 0 0 0 0:Int)] d else
  if w=[114,101,116] then Rf.lay 0 G.sym G.add [(As.enc 4 0 1 0 0:Int)] d else
  if w=[109,118] then Rf.lay 0 G.sym G.add [(As.enc 13 (Rf.aG G 0) (Rf.aG G 1) 0 0:Int)] d else
  if As.named w=0 then Rf.iN w G d else Rf.lay 0 G.sym G.add [(As.enc (As.named w) (Rf.aG G 0) (Rf.aG G 1) (Rf.aG G 2) G.num:Int)] d) from rfl)
 generalize Rf.bI w G d=X at *;have cP:=hid (fun V hV hc=>yhM B m g ao cap L d w G rb cr V hV hs4 hc (hrl 0) hn);have cO:=hid (fun V=>yka w V);generalize hpl:decide (As.named w≠0)=pl at cO;have NL:=Rf.Ez w;have l0:=hrl 0;have l1:=hrl 1;have l2:=hrl 2;have r0:=hrs 0 (by decide);have r1:=hrs 1 (by decide);have r2:=hrs 2 (by decide);have HZ:=hid hz;have N1:=hid (show ∀ l:List UInt8,w=l->As.named w=As.named l from fun l e=>by rw [e]);clear hz hrs hrl;generalize hop:As.named w=op at *;have Cb:=hid hop;generalize Rf.aG G 0=a at *;generalize Rf.aG G 1=b at *;generalize Rf.aG G 2=c at *;have A1:=aW W (.cells #[.slice (some ⟨rb,0,none⟩) 3 cr,.int .i64 G.num,.int .i64 G.sym,.int .i64 G.add] 98) none
 have BG:=yd.new W #[.slice (some ⟨rb,0,none⟩) 3 cr,.int .i64 G.num,.int .i64 G.sym,.int .i64 G.add] 98;have HW:=hid h;have HS:=hid hs4;have E:=hid (fun l:List UInt8=>(show ((bs w).toList == l)=decide (w=l) by rw [yA,Bool.eq_iff_iff,beq_iff_eq,decide_eq_true_iff]));have Ga:=hid hpl;clear h hs4 hop hpl;go_enter Tryz.func56,Tryz.ntmps56;go_wp2_with fail;refine (cO.o _).mono ?_;rintro e V1 ⟨rfl,hg1⟩;have G1:=ya A1 hg1;have q0:=yb r0 G1;have q1:=yb r1 G1;have q2:=yb r2 G1;have KW:=BG.grown hg1 (by simp);have b0:=KW.cell 0;have b1:=KW.cell 1;have b2:=KW.cell 2;have b3:=KW.cell 3;simp only [bB,yml,bf] at b0 b1 b2 b3
 have AP:=hid G1;have HB1:=hid KW;have HXB:=hid G1.size;obtain ⟨gb,hgb⟩:∃ gb,W.heap.size=gb:=⟨_,rfl⟩
 rw [hgb] at b0 b1 b2 b3 HB1 ⊢;clear hgb;clear A1 BG hg1 G1 KW r0 r1 r2 cO;have n1:gb≠V1.heap.size:=by have:=Jl b0; omega
 have n2:rb≠V1.heap.size:=by have:=Jl q0; omega
 go_wp2_with fail
 go_region_held3 (fun w'=>w'.cell? ⟨gb,0,none⟩=some (.slice (some ⟨rb,0,none⟩) 3 cr)/\w'.cell? ⟨gb,1,none⟩=some (.int .i64 G.num)/\w'.cell? ⟨rb,0,none⟩=some (.int .i64 a)/\w'.cell? ⟨rb,1,none⟩=some (.int .i64 b)/\w'.cell? ⟨rb,2,none⟩=some (.int .i64 c))
  (go_keep)
  (fail)
 have GB:=hid (show yd (V1.alloc (.cells #[.int .i64 op,.int .i64 a,.int .i64 b,.int .i64 c,.int .i64 G.num,.int .u8 0] 102)).drew gb #[.slice (some ⟨rb,0,none⟩) 3 cr,.int .i64 G.num,.int .i64 G.sym,.int .i64 G.add] 98 from HB1.o.grown (yg (aW _ _ none)) (by simp));have BX:=hid (show yd (V1.alloc (.cells #[.int .i64 op,.int .i64 a,.int .i64 b,.int .i64 c,.int .i64 G.num,.int .u8 0] 102)).drew V1.heap.size #[.int .i64 op,.int .i64 a,.int .i64 b,.int .i64 c,.int .i64 G.num,.int .u8 0] 102 from (yd.new V1 _ _).drewN 1);have GV:=hid (show W.grownBy (V1.alloc (.cells #[.int .i64 op,.int .i64 a,.int .i64 b,.int .i64 c,.int .i64 G.num,.int .u8 0] 102)).drew none from ya AP.o (yg (aW _ _ none)))
 have Q0:=hid (yb q0 (yg (aW V1 (.cells #[.int .i64 op,.int .i64 a,.int .i64 b,.int .i64 c,.int .i64 G.num,.int .u8 0] 102) none)));have Q1:=hid (yb q1 (yg (aW V1 (.cells #[.int .i64 op,.int .i64 a,.int .i64 b,.int .i64 c,.int .i64 G.num,.int .u8 0] 102) none)));have Q2:=hid (yb q2 (yg (aW V1 (.cells #[.int .i64 op,.int .i64 a,.int .i64 b,.int .i64 c,.int .i64 G.num,.int .u8 0] 102) none)));clear q0 q1 q2 b0 b1 b2 b3 HB1 AP
 (try clear VG)
 generalize (V1.alloc (.cells #[.int .i64 op,.int .i64 a,.int .i64 b,.int .i64 c,.int .i64 G.num,.int .u8 0] 102)).drew=V2 at *;generalize V1.heap.size=xb at *;have q0:=Q0.o;have q1:=Q1.o;have b0:=GB.o.cell 0;have b1:=GB.o.cell 1;have b2:=GB.o.cell 2;have b3:=GB.o.cell 3;have x0:=BX.o.cell 0;have x1:=BX.o.cell 1;have x2:=BX.o.cell 2;have x3:=BX.o.cell 3;have x4:=BX.o.cell 4;have x5:=BX.o.cell 5;have y0:=BX.o.free 0;have y1:=BX.o.free 1;have y2:=BX.o.free 2;have y3:=BX.o.free 3;have y4:=BX.o.free 4;have y5:=BX.o.free 5;simp only [bB,yml,bf] at b0 b1 b2 b3 x0 x1 x2 x3 x4 x5;have hxb:W.heap.size<=xb:=HXB.o
 have PUT:=hid (fun (l:List (Nat×Value))=>(show yd (sets V2 xb l) xb (nE #[.int .i64 op,.int .i64 a,.int .i64 b,.int .i64 c,.int .i64 G.num,.int .u8 0] l) 102/\W.grownBy (sets V2 xb l) none/\yd (sets V2 xb l) gb #[.slice (some ⟨rb,0,none⟩) 3 cr,.int .i64 G.num,.int .i64 G.sym,.int .i64 G.add] 98/\(sets V2 xb l).cell? ⟨rb,0,none⟩=some (.int .i64 a) from ⟨vG l BX.o,Dv GV.o xb hxb l,GB.o.jY n1 l,(Bw V2 xb l).cell Q0.o (by simpa using n2)⟩))
 go_upto_block 0 with fail
 go_cut [7,9] from 34 to 34 (fun p k wx=>∃ (q:Bool) (kd o' a' b' c':Nat) (n':Int),p = .bool q/\k = .int .i64 kd/\yd wx xb #[.int .i64 o',.int .i64 a',.int .i64 b',.int .i64 c',.int .i64 n',.int .u8 0] 102/\W.grownBy wx none/\yd wx gb #[.slice (some ⟨rb,0,none⟩) 3 cr,.int .i64 G.num,.int .i64 G.sym,.int .i64 G.add] 98/\wx.cell? ⟨rb,0,none⟩=some (.int .i64 a)/\(q=true->Qt o' a' b' c' n'/\X=Rf.lay kd G.sym G.add [(As.enc o' a' b' c' n':Int)] d)/\(q=false->X=Rf.iN w G d))
 case first =>
  by_cases h:w=[98,101,113]
  ·rw [if_pos h] at RS;have d0:=E.o [98,101,113];rw [decide_eq_true h] at d0;have hop1:1<=op:=by rw [<- Cb.o,h]; decide
   obtain rfl:pl=true:=by rw [<- Ga.o]; simp; omega
   clear h;go_wp2_with fail;go_meet;exact ⟨true,2,op,a,a,b,G.num,rfl,rfl,(PUT.o [(2,.int .i64 a),(3,.int .i64 b)]).1,(PUT.o [(2,.int .i64 a),(3,.int .i64 b)]).2.1,(PUT.o [(2,.int .i64 a),(3,.int .i64 b)]).2.2.1,(PUT.o [(2,.int .i64 a),(3,.int .i64 b)]).2.2.2,fun _=>⟨⟨hop1,NL,⟨l0,l0,l1⟩,HZ.o⟩,RS.o⟩,fun x=>nomatch x⟩
  have d0:=E.o [98,101,113];rw [if_neg h] at RS;rw [decide_eq_false h] at d0;clear h;by_cases h:w=[98,110,101]
  ·rw [if_pos h] at RS;have d1:=E.o [98,110,101];rw [decide_eq_true h] at d1;have hop1:1<=op:=by rw [<- Cb.o,h]; decide
   obtain rfl:pl=true:=by rw [<- Ga.o]; simp; omega
   clear h;go_wp2_with fail;go_meet;exact ⟨true,2,op,a,a,b,G.num,rfl,rfl,(PUT.o [(2,.int .i64 a),(3,.int .i64 b)]).1,(PUT.o [(2,.int .i64 a),(3,.int .i64 b)]).2.1,(PUT.o [(2,.int .i64 a),(3,.int .i64 b)]).2.2.1,(PUT.o [(2,.int .i64 a),(3,.int .i64 b)]).2.2.2,fun _=>⟨⟨hop1,NL,⟨l0,l0,l1⟩,HZ.o⟩,RS.o⟩,fun x=>nomatch x⟩
  have d1:=E.o [98,110,101];rw [if_neg h] at RS;rw [decide_eq_false h] at d1;clear h;by_cases h:w=[98,108,116]
  ·rw [if_pos h] at RS;have d2:=E.o [98,108,116];rw [decide_eq_true h] at d2;have hop1:1<=op:=by rw [<- Cb.o,h]; decide
   obtain rfl:pl=true:=by rw [<- Ga.o]; simp; omega
   clear h;go_wp2_with fail;go_meet;exact ⟨true,2,op,a,a,b,G.num,rfl,rfl,(PUT.o [(2,.int .i64 a),(3,.int .i64 b)]).1,(PUT.o [(2,.int .i64 a),(3,.int .i64 b)]).2.1,(PUT.o [(2,.int .i64 a),(3,.int .i64 b)]).2.2.1,(PUT.o [(2,.int .i64 a),(3,.int .i64 b)]).2.2.2,fun _=>⟨⟨hop1,NL,⟨l0,l0,l1⟩,HZ.o⟩,RS.o⟩,fun x=>nomatch x⟩
  have d2:=E.o [98,108,116];rw [if_neg h] at RS;rw [decide_eq_false h] at d2;clear h;by_cases h:w=[98,103,101]
  ·rw [if_pos h] at RS;have d3:=E.o [98,103,101];rw [decide_eq_true h] at d3;have hop1:1<=op:=by rw [<- Cb.o,h]; decide
   obtain rfl:pl=true:=by rw [<- Ga.o]; simp; omega
   clear h;go_wp2_with fail;go_meet;exact ⟨true,2,op,a,a,b,G.num,rfl,rfl,(PUT.o [(2,.int .i64 a),(3,.int .i64 b)]).1,(PUT.o [(2,.int .i64 a),(3,.int .i64 b)]).2.1,(PUT.o [(2,.int .i64 a),(3,.int .i64 b)]).2.2.1,(PUT.o [(2,.int .i64 a),(3,.int .i64 b)]).2.2.2,fun _=>⟨⟨hop1,NL,⟨l0,l0,l1⟩,HZ.o⟩,RS.o⟩,fun x=>nomatch x⟩
  have d3:=E.o [98,103,101];rw [if_neg h] at RS;rw [decide_eq_false h] at d3;clear h;by_cases h:w=[98,108,116,117]
  ·rw [if_pos h] at RS;have d4:=E.o [98,108,116,117];rw [decide_eq_true h] at d4;have hop1:1<=op:=by rw [<- Cb.o,h]; decide
   obtain rfl:pl=true:=by rw [<- Ga.o]; simp; omega
   clear h;go_wp2_with fail;go_meet;exact ⟨true,2,op,a,a,b,G.num,rfl,rfl,(PUT.o [(2,.int .i64 a),(3,.int .i64 b)]).1,(PUT.o [(2,.int .i64 a),(3,.int .i64 b)]).2.1,(PUT.o [(2,.int .i64 a),(3,.int .i64 b)]).2.2.1,(PUT.o [(2,.int .i64 a),(3,.int .i64 b)]).2.2.2,fun _=>⟨⟨hop1,NL,⟨l0,l0,l1⟩,HZ.o⟩,RS.o⟩,fun x=>nomatch x⟩
  have d4:=E.o [98,108,116,117];rw [if_neg h] at RS;rw [decide_eq_false h] at d4;clear h;by_cases h:w=[98,103,101,117]
  ·rw [if_pos h] at RS;have d5:=E.o [98,103,101,117];rw [decide_eq_true h] at d5;have hop1:1<=op:=by rw [<- Cb.o,h]; decide
   obtain rfl:pl=true:=by rw [<- Ga.o]; simp; omega
   clear h;go_wp2_with fail;go_meet;exact ⟨true,2,op,a,a,b,G.num,rfl,rfl,(PUT.o [(2,.int .i64 a),(3,.int .i64 b)]).1,(PUT.o [(2,.int .i64 a),(3,.int .i64 b)]).2.1,(PUT.o [(2,.int .i64 a),(3,.int .i64 b)]).2.2.1,(PUT.o [(2,.int .i64 a),(3,.int .i64 b)]).2.2.2,fun _=>⟨⟨hop1,NL,⟨l0,l0,l1⟩,HZ.o⟩,RS.o⟩,fun x=>nomatch x⟩
  have d5:=E.o [98,103,101,117];rw [if_neg h] at RS;rw [decide_eq_false h] at d5;clear h;by_cases h:w=[106,97,108]
  ·rw [if_pos h] at RS;have d6:=E.o [106,97,108];rw [decide_eq_true h] at d6;have hop1:1<=op:=by rw [<- Cb.o,h]; decide
   obtain rfl:pl=true:=by rw [<- Ga.o]; simp; omega
   clear h;go_wp2_with fail;go_meet;exact ⟨true,3,op,a,b,c,G.num,rfl,rfl,(PUT.o []).1,(PUT.o []).2.1,(PUT.o []).2.2.1,(PUT.o []).2.2.2,fun _=>⟨⟨hop1,NL,⟨l0,l1,l2⟩,HZ.o⟩,RS.o⟩,fun x=>nomatch x⟩
  have d6:=E.o [106,97,108];rw [if_neg h] at RS;rw [decide_eq_false h] at d6;clear h;by_cases h:w=[115,119]
  ·rw [if_pos h] at RS;have d7:=E.o [115,119];rw [decide_eq_true h] at d7;have hop1:1<=op:=by rw [<- Cb.o,h]; decide
   obtain rfl:pl=true:=by rw [<- Ga.o]; simp; omega
   clear h;go_wp2_with fail;go_meet;exact ⟨true,0,op,a,b,a,G.num,rfl,rfl,(PUT.o [(3,.int .i64 a)]).1,(PUT.o [(3,.int .i64 a)]).2.1,(PUT.o [(3,.int .i64 a)]).2.2.1,(PUT.o [(3,.int .i64 a)]).2.2.2,fun _=>⟨⟨hop1,NL,⟨l0,l1,l0⟩,HZ.o⟩,RS.o⟩,fun x=>nomatch x⟩
  have d7:=E.o [115,119];rw [if_neg h] at RS;rw [decide_eq_false h] at d7;clear h;by_cases h:w=[106]
  ·rw [if_pos h] at RS;have d8:=E.o [106];rw [decide_eq_true h] at d8;clear h;go_wp2_with fail;go_meet;exact ⟨true,3,3,0,0,0,0,rfl,rfl,(PUT.o [(0,.int .i64 3),(1,.int .i64 0),(2,.int .i64 0),(3,.int .i64 0),(4,.int .i64 0),(5,.int .u8 0)]).1,(PUT.o [(0,.int .i64 3),(1,.int .i64 0),(2,.int .i64 0),(3,.int .i64 0),(4,.int .i64 0),(5,.int .u8 0)]).2.1,(PUT.o [(0,.int .i64 3),(1,.int .i64 0),(2,.int .i64 0),(3,.int .i64 0),(4,.int .i64 0),(5,.int .u8 0)]).2.2.1,(PUT.o [(0,.int .i64 3),(1,.int .i64 0),(2,.int .i64 0),(3,.int .i64 0),(4,.int .i64 0),(5,.int .u8 0)]).2.2.2,fun _=>⟨⟨by decide,by decide,⟨by decide,by decide,by decide⟩,fun _=>rfl⟩,RS.o⟩,fun x=>nomatch x⟩
  have d8:=E.o [106];rw [if_neg h] at RS;rw [decide_eq_false h] at d8;clear h;by_cases h:w=[110,111,112]
  ·rw [if_pos h] at RS;have d9:=E.o [110,111,112];rw [decide_eq_true h] at d9;clear h;go_wp2_with fail;go_meet;exact ⟨true,0,13,0,0,0,0,rfl,rfl,(PUT.o [(0,.int .i64 13),(1,.int .i64 0),(2,.int .i64 0),(3,.int .i64 0),(4,.int .i64 0),(5,.int .u8 0)]).1,(PUT.o [(0,.int .i64 13),(1,.int .i64 0),(2,.int .i64 0),(3,.int .i64 0),(4,.int .i64 0),(5,.int .u8 0)]).2.1,(PUT.o [(0,.int .i64 13),(1,.int .i64 0),(2,.int .i64 0),(3,.int .i64 0),(4,.int .i64 0),(5,.int .u8 0)]).2.2.1,(PUT.o [(0,.int .i64 13),(1,.int .i64 0),(2,.int .i64 0),(3,.int .i64 0),(4,.int .i64 0),(5,.int .u8 0)]).2.2.2,fun _=>⟨⟨by decide,by decide,⟨by decide,by decide,by decide⟩,fun _=>rfl⟩,RS.o⟩,fun x=>nomatch x⟩
  have d9:=E.o [110,111,112];rw [if_neg h] at RS;rw [decide_eq_false h] at d9;clear h;by_cases h:w=[114,101,116]
  ·rw [if_pos h] at RS;have JK:=E.o [114,101,116];rw [decide_eq_true h] at JK;clear h;go_wp2_with fail;go_meet;exact ⟨true,0,4,0,1,0,0,rfl,rfl,(PUT.o [(0,.int .i64 4),(1,.int .i64 0),(2,.int .i64 1),(3,.int .i64 0),(4,.int .i64 0),(5,.int .u8 0)]).1,(PUT.o [(0,.int .i64 4),(1,.int .i64 0),(2,.int .i64 1),(3,.int .i64 0),(4,.int .i64 0),(5,.int .u8 0)]).2.1,(PUT.o [(0,.int .i64 4),(1,.int .i64 0),(2,.int .i64 1),(3,.int .i64 0),(4,.int .i64 0),(5,.int .u8 0)]).2.2.1,(PUT.o [(0,.int .i64 4),(1,.int .i64 0),(2,.int .i64 1),(3,.int .i64 0),(4,.int .i64 0),(5,.int .u8 0)]).2.2.2,fun _=>⟨⟨by decide,by decide,⟨by decide,by decide,by decide⟩,fun _=>rfl⟩,RS.o⟩,fun x=>nomatch x⟩
  have JK:=E.o [114,101,116];rw [if_neg h] at RS;rw [decide_eq_false h] at JK;clear h;by_cases h:w=[109,118]
  ·rw [if_pos h] at RS;have JL:=E.o [109,118];rw [decide_eq_true h] at JL;clear h;go_wp2_with fail
   go_region_held3 (fun w'=>w'.cell? ⟨gb,0,none⟩=some (.slice (some ⟨rb,0,none⟩) 3 cr)/\w'.cell? ⟨rb,0,none⟩=some (.int .i64 a)/\w'.cell? ⟨rb,1,none⟩=some (.int .i64 b))
    (simp [World.cell?_setCell_far,n1.symm,n2.symm,b0,q0,q1])
    (fail)
   go_wp2_with fail;go_meet;exact ⟨true,0,13,a,b,0,0,rfl,rfl,(PUT.o [(0,.int .i64 13),(1,.int .i64 a),(2,.int .i64 b),(3,.int .i64 0),(4,.int .i64 0),(5,.int .u8 0)]).1.drewN 1,yg (PUT.o [(0,.int .i64 13),(1,.int .i64 a),(2,.int .i64 b),(3,.int .i64 0),(4,.int .i64 0),(5,.int .u8 0)]).2.1,(PUT.o [(0,.int .i64 13),(1,.int .i64 a),(2,.int .i64 b),(3,.int .i64 0),(4,.int .i64 0),(5,.int .u8 0)]).2.2.1.drewN 1,yb (PUT.o [(0,.int .i64 13),(1,.int .i64 a),(2,.int .i64 b),(3,.int .i64 0),(4,.int .i64 0),(5,.int .u8 0)]).2.2.2 (yg (World.grownBy.refl _ none)),fun _=>⟨⟨by decide,by decide,⟨l0,l1,by decide⟩,fun _=>rfl⟩,RS.o⟩,fun x=>nomatch x⟩
  have JL:=E.o [109,118];rw [if_neg h] at RS;rw [decide_eq_false h] at JL;clear h;by_cases h0:op=0
  ·rw [if_pos h0] at RS;obtain rfl:pl=false:=by rw [<- Ga.o]; simp [h0]
   clear h0;go_wp2_with fail;go_meet;exact ⟨false,0,op,a,b,c,G.num,rfl,rfl,BX.o,GV.o,GB.o,Q0.o,(fun x=>by cases x),fun _=>RS.o⟩
  ·rw [if_neg h0] at RS;have hop1:1<=op:=by omega
   obtain rfl:pl=true:=by rw [<- Ga.o]; simp; omega
   clear h0;go_wp2_with fail;go_meet;exact ⟨true,0,op,a,b,c,G.num,rfl,rfl,(PUT.o []).1,(PUT.o []).2.1,(PUT.o []).2.2.1,(PUT.o []).2.2.2,fun _=>⟨⟨hop1,NL,⟨l0,l1,l2⟩,HZ.o⟩,RS.o⟩,fun x=>nomatch x⟩
 case rest =>
 obtain ⟨q,kd,o',a',b',c',n',rfl,rfl,hb,hg,hgb,hr0,ht,hf⟩:=hcut;have D4:=hid ((HW.o.refl (ts:=rC)).grown hg);clear b0 b1 b2 b3 x0 x1 x2 x3 x4 x5 y0 y1 y2 y3 y4 y5 q0 q1 GV GB BX Q0 Q1 Q2 PUT;have b0:=hgb.cell 0;have b1:=hgb.cell 1;have b2:=hgb.cell 2;have b3:=hgb.cell 3;simp only [bB,yml,bf] at b0 b1 b2 b3
 cases q
 ·have RZ:=hid (hf rfl);clear ht hf hb hgb hg;go_wp2_with fail;refine (cP.o _ D4.o.1 hr0).mono ?_;rintro e V7 ⟨rfl,h7⟩;have D7:=hid (D4.o.after h7 (fun _ x=>x));clear h7;go_wp2
  go_end0
  rw [RZ.o];exact ⟨rfl,D7.o⟩
 ·obtain ⟨io,hX⟩:=ht rfl;have RZ:=hid hX;have cW:=hid (fun V=>Qj o' a' b' c' n' 0 V io.op1 io.op2 io.regs io.num);unfold dZ at cW;have x0:=hb.cell 0;have x1:=hb.cell 1;have x2:=hb.cell 2;have x3:=hb.cell 3;have x4:=hb.cell 4;have x5:=hb.cell 5;simp only [bB,yml,bf] at x0 x1 x2 x3 x4 x5;have BG:=hid hgb;clear ht hf hb hgb hg hX io hr0;go_wp2_with fail;refine (cW.o _).mono ?_;rintro e V4 ⟨rfl,hg4⟩;have B4:=BG.o.grown hg4 (by simp);have A5:=aW V4 (.cells #[.int .i64 (As.enc o' a' b' c' n':Nat)] 3) none;have D5:=hid ((D4.o.grown hg4).grown A5);have u0:=B4.cell 0;have u1:=B4.cell 1;have u2:=B4.cell 2
  have u3:=B4.cell 3;simp only [bB,yml,bf] at u0 u1 u2 u3;clear hg4 B4 A5 cW b0 b1 b2 b3 x0 x1 x2 x3 x4 x5 D4 BG;go_wp2_with fail;refine (Gg B m g ao cap L d kd G.sym G.num G.add (some ⟨rb,0,none⟩) 3 cr (some ⟨V4.heap.size,0,none⟩) 1 _ _ D5.o.1 HS.o (IB V4 _) (by simp)).mono ?_;rintro e V7 ⟨rfl,h7⟩;have D7:=hid (D5.o.after h7 (fun _ x=>x));clear h7;go_wp2
  (try simp only [Exit.inBlock,Exit.then]); refine bodyPost_ret (results_none rfl _ _ _) rfl ?_
  rw [RZ.o];exact ⟨rfl,D7.o⟩
end Go.Proofs.YtnkkepfcpjllmaaGreatDoor
