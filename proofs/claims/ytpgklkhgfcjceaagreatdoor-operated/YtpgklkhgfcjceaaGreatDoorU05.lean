
import Derived.Test.YtpgklkhgfcjceaaGreatDoorU04
set_option maxHeartbeats 16000000
set_option maxRecDepth 100000
namespace Go.Proofs.YtpgklkhgfcjceaaGreatDoor
open Go.RowKit
def gI (form n:Int):Int:=if form=1\/form=2\/form=3\/form=6 then bits .and .i64 (n / 128) 31 else 0
def bI (form n:Int):Int:=if form=3\/form=4\/form=5\/form=6 then bits .and .i64 (n / 32768) 31 else 0
def jC (form n:Int):Int:=if form=4\/form=5\/form=6 then bits .and .i64 (n / 1048576) 31 else 0
def bD (op rd au aC m:Int):Value:=.agg #[.int .i64 op,.int .i64 rd,.int .i64 au,.int .i64 aC,.int .i64 m]
def ynH (e:Ending) (op form n:Int):Prop:=∃ m,e = .returned (bD op (gI form n) (bI form n) (jC form n) m)/\(m=0↔yk form n)
theorem ymG (op form n:Int) (w:World) (h0:0<=n) (h1:n<=4294967295) (hf:1<=form/\form<=7) :
  Calls Tryz.prog 117 #[.int .i64 op,.int .i64 form,.int .i64 n] w fun e w'=>ynH e op form n/\w.grownBy w' none:=by
 have cT:=hid (fun W=>yin form n W h0 h1);have G1:=hid (fun o:Obj=>aH w o none);have G2:=hid (fun o o':Obj=>aH (w.alloc o) o' none);have Z:Hd (∀ m,(m=0↔yk form n)->∀ e,e=Ending.returned (bD op (gI form n) (bI form n) (jC form n) m)->ynH e op form n):=fun m hm e he=>⟨m,he,hm⟩
 have S:=hid (show ∀ (W:World) (a b:Nat) (cs zs:Array Value),True from fun _ _ _ _ _=>trivial);rcases (show form=1\/form=2\/form=3\/form=4\/form=5\/form=6\/form=7 from by omega) with rfl | rfl | rfl | rfl | rfl | rfl | rfl
 all_goals
  clear hf S;go_enter Tryz.func117,Tryz.ntmps117;go_wp2_with fail;refine (cT.o _).mono ?_;rintro e w1 ⟨⟨m,rfl,hm⟩,rfl⟩;have HM:=hid hm;clear hm cT;go_wp2;refine bodyPost_ret (v:=bD op (gI _ n) (bI _ n) (jC _ n) m) ?_ rfl ⟨⟨m,rfl,HM.o⟩,ya (G1.o _) (G2.o _ _)⟩;simp [results,Tryz.results117,go_sem,bD,gI,bI,jC]
def vG:List Int:=[0,1,1,2,3,4,4,4,4,4,4,3,5,3,3,3,3,3,6,6,6,6,6,6,6,7]
def FK:List Int:=[0,55,23,111,103,99,4195,16483,20579,24675,28771,8195,8227,19,8211,16403,24595,28691,51,1073741875,8243,12339,16435,24627,28723,115]
structure dV (w:World):Prop where
 form:∀ i,i < 26->w.cell? ⟨0,i,none⟩=some (.int .i64 (vG.getD i 0))
 fix:∀ i,i < 26->w.cell? ⟨1,i,none⟩=some (.int .i64 (FK.getD i 0))
theorem dV.grown {w w':World} (h:dV w) (hg:w.grownBy w' none):dV w':=⟨fun i hi=>yd (h.form i hi) hg,fun i hi=>yd (h.fix i hi) hg⟩
theorem dV.uo {w w':World} (h:dV w) {b:Nat} (hg:w.grownBy w' (some b)) (hb:3<=b):dV w' :=
 ⟨fun i hi=>hg.cell (h.form i hi) (by simp; omega),fun i hi=>hg.cell (h.fix i hi) (by simp; omega)⟩
def IZ (form:Int):Int:=if form=1\/form=2 then 127 else if form=3\/form=4\/form=5 then 28799 else if form=6 then 4261441663 else 4294967295
theorem YG (form:Int) (w:World) (hf:1<=form/\form<=7) :
  Calls Tryz.prog 116 #[.int .i64 form] w fun e w'=>e = .returned (.int .i64 (IZ form))/\w'=w:=by
 rcases (show form=1\/form=2\/form=3\/form=4\/form=5\/form=6\/form=7 from by omega) with rfl | rfl | rfl | rfl | rfl | rfl | rfl
 all_goals
  clear hf;go_enter Tryz.func116,Tryz.ntmps116;go_wp2;go_ret;exact ⟨by simp [IZ],rfl⟩
def Is (k:Nat) (n:Int):Prop:=bits .and .i64 n (IZ (vG.getD k 0))=FK.getD k 0
def Dec (n op rd au m:Int):Prop :=
 (op=0/\rd=0/\au=0/\m=0/\∀ k,1<=k->k<=25->¬ Is k n) \/
 ∃ k:Nat,1<=k/\k<=25/\Is k n/\(∀ j,1<=j->j < k->¬ Is j n)/\op=k/\rd=gI (vG.getD k 0) n/\au=bI (vG.getD k 0) n/\(m=0↔yk (vG.getD k 0) n)
def yrs (e:Ending) (n:Int):Prop:=∃ op rd au aC m,e = .returned (bD op rd au aC m)/\Dec n op rd au m
theorem UY (k:Nat) (h1:1<=k) (h2:k<=25):1<=vG.getD k 0/\vG.getD k 0<=7:=by
 have:∀ k,k < 26->1<=k->1<=vG.getD k 0/\vG.getD k 0<=7:=by decide
 exact this k (by omega) h1
theorem OX {w W:World} (h:w.grownBy W none) {b:Nat} (hb:w.heap.size<=b) (o:Nat) (v:Value):w.grownBy (W.setCell ⟨b,o,none⟩ v) none :=
 ⟨h.os,h.tape,h.output,by simpa [World.setCell] using h.size,fun i hi _=>(Below.heap_setCell W ⟨b,o,none⟩ v i (by simp; omega)).trans (h.block i hi (by simp))⟩
theorem Ij {w W:World} {a0 a1 a2 a3 a4:Value} (h:w.grownBy W none) (hB:yc W w.heap.size #[a0,a1,a2,a3,a4] 143) (b0 b1 b2 b3 b4:Value) :
  yc (((((W.setCell ⟨w.heap.size,0,none⟩ b0).setCell ⟨w.heap.size,1,none⟩ b1).setCell ⟨w.heap.size,2,none⟩ b2).setCell ⟨w.heap.size,3,none⟩ b3).setCell ⟨w.heap.size,4,none⟩ b4) w.heap.size #[b0,b1,b2,b3,b4] 143 /\
  w.grownBy (((((W.setCell ⟨w.heap.size,0,none⟩ b0).setCell ⟨w.heap.size,1,none⟩ b1).setCell ⟨w.heap.size,2,none⟩ b2).setCell ⟨w.heap.size,3,none⟩ b3).setCell ⟨w.heap.size,4,none⟩ b4) none :=
 ⟨((((hB.set 0 b0).set 1 b1).set 2 b2).set 3 b3).set 4 b4,OX (OX (OX (OX (OX h (Nat.le_refl _) _ _) (Nat.le_refl _) _ _) (Nat.le_refl _) _ _) (Nat.le_refl _) _ _) (Nat.le_refl _) _ _⟩
theorem UR (n:Int) (w:World) (ht:dV w) (h0:0<=n) (h1:n<=4294967295) :
  Calls Tryz.prog 82 #[.int .i64 n] w fun e w'=>yrs e n/\w.grownBy w' none:=by
 have HT:=hid ht;clear ht;have G:=hid (fun o:Obj=>aH w o none);go_enter Tryz.func82,Tryz.ntmps82;go_wp2
 go_loopw [3] (fun i wr=>∃ k:Nat,1<=k/\k<=26/\i = .int .i64 k/\(∀ j,1<=j->j < k->¬ Is j n)/\w.grownBy wr none/\yc wr w.heap.size #[.int .i64 0,.int .i64 0,.int .i64 0,.int .i64 0,.int .i64 0] 143) (fun i _=>26 - (intOf i).toNat)
 case atStart=>exact ⟨1,Nat.le_refl _,by omega,rfl,fun j h1 h2=>by omega,G.o _,yc.new _ _ _⟩
 case round =>
  obtain ⟨k,hk1,hk2,rfl,hall,hgr,hbk⟩:=hrel;have HA:=hid hall;have HG:=hid hgr;have HB:=hid hbk;clear hall hgr hbk;by_cases hlt:k<=25
  ·have T:=HT.o.grown HG.o;have cf:=T.form k (by omega);have cx:=T.fix k (by omega);have hfr:=UY k hk1 hlt;clear T;have Ns:=hid (show Is k n↔bits .and .i64 n (IZ (vG.getD k 0))=FK.getD k 0 from Iff.rfl);generalize hF:vG.getD k 0=f at *;generalize FK.getD k 0=x at *;have HF:=hid hF;clear hF;have cM:=hid (fun W=>YG f W hfr);have g1:(1:Int)<=(k:Int):=by omega
   have g2:(k:Int)<=25:=by omega
   by_cases hI:Is k n
   ·have d:(bits .and .i64 n (IZ f) == x)=true:=beq_iff_eq.2 (Ns.o.1 hI);have HI:=hid hI;have cF:=hid (fun W=>ymG k f n W h0 h1 hfr);clear hI;go_wp2
    go_quiet ((go_at_call 116; exact Calls.quiet_of_same (cM.o _)))
    go_wp2_with fail;refine (cF.o _).mono ?_;rintro e w2 ⟨⟨m,rfl,hm⟩,hq⟩;unfold bD;have B2:=hid ((HB.o.drewN nq).grown hq (by simp));have G2:=hid (ya (ye HG.o nq) hq);have HM:=hid hm;have k0:=B2.o.cell 0;have k1:=B2.o.cell 1;have k2:=B2.o.cell 2;have k3:=B2.o.cell 3;have k4:=B2.o.cell 4;have f0:=B2.o.free 0;have f1:=B2.o.free 1;have f2:=B2.o.free 2;have f3:=B2.o.free 3;have f4:=B2.o.free 4;clear hm hq;generalize hrd:gI f n=rd at *;generalize hr1:bI f n=r1 at *;have FY:=hid hrd;have HR1:=hid hr1;clear hrd hr1;generalize jC f n=r2 at *;go_wp2;have F:=Ij G2.o B2.o (.int .i64 k) (.int .i64 rd) (.int .i64 r1) (.int .i64 r2) (.int .i64 m)
    have e0:=F.1.cell 0;have e1:=F.1.cell 1;have e2:=F.1.cell 2;have e3:=F.1.cell 3;have e4:=F.1.cell 4;refine bodyPost_ret (v:=bD k rd r1 r2 m) ?_ rfl ⟨⟨k,rd,r1,r2,m,rfl,.inr ⟨k,hk1,hlt,HI.o,HA.o,rfl,?_,?_,?_⟩⟩,F.2⟩
    ·clear F k0 k1 k2 k3 k4 f0 f1 f2 f3 f4 B2 G2;generalize World.setCell _ _ _=WF at *;simp [results,Tryz.results82,go_sem,bD,e0,e1,e2,e3,e4]
    ·rw [HF.o,FY.o]
    ·rw [HF.o,HR1.o]
    ·rw [HF.o]; exact HM.o
   ·have d:(bits .and .i64 n (IZ f) == x)=false:=beq_eq_false_iff_ne.2 (fun h=>hI (Ns.o.2 h));have HI:=hid hI;clear hI;go_wp2
    go_quiet ((go_at_call 116; exact Calls.quiet_of_same (cM.o _)))
    go_wp2
    go_roundw
    case rel=>exact ⟨k+1,by omega,by omega,by go_num,fun j hj hjk=>(Nat.lt_succ_iff_lt_or_eq.1 hjk).elim (fun h=>HA.o j hj h) (fun h=>by subst h; exact HI.o),ye HG.o _,HB.o.drewN _⟩
    case measure=>simp [intOf]; omega
  ·have k0:=HB.o.cell 0;have k1:=HB.o.cell 1;have k2:=HB.o.cell 2;have k3:=HB.o.cell 3;have k4:=HB.o.cell 4;have f0:=HB.o.free 0;have f1:=HB.o.free 1;have f2:=HB.o.free 2;have f3:=HB.o.free 3;have f4:=HB.o.free 4;go_wp2;have F:=Ij HG.o HB.o (.int .i64 0) (.int .i64 0) (.int .i64 0) (.int .i64 0) (.int .i64 0);have e0:=F.1.cell 0;have e1:=F.1.cell 1;have e2:=F.1.cell 2;have e3:=F.1.cell 3;have e4:=F.1.cell 4;refine bodyPost_ret (v:=bD 0 0 0 0 0) ?_ rfl ⟨⟨0,0,0,0,0,rfl,.inl ⟨rfl,rfl,rfl,rfl,fun j h1 h2=>HA.o j h1 (by omega)⟩⟩,F.2⟩;clear F k0 k1 k2 k3 k4 f0 f1 f2 f3 f4;generalize World.setCell _ _ _=WF at *
   simp [results,Tryz.results82,go_sem,bD,e0,e1,e2,e3,e4]
theorem LD (a b:Int) (k:Nat) (ha:0<=a) (ha':a < 9223372036854775808) (hk:a % (2:Int) ^ k=0) (hb:0<=b) (hb':b < (2:Int) ^ k) (hb2:b < 9223372036854775808):bits .or .i64 a b=a+b:=by
 obtain ⟨x,rfl⟩:=Int.eq_ofNat_of_zero_le ha;obtain ⟨y,rfl⟩:=Int.eq_ofNat_of_zero_le hb;have e:((2 ^ k:Nat):Int)=(2:Int) ^ k:=by simp
 rw [<- e] at hb' hk;rw [Bw x y (by omega) (by omega)];have hx:x=2 ^ k * (x / 2 ^ k):=by
  have h1:x % 2 ^ k=0:=by omega
  have:=Nat.div_add_mod x (2 ^ k)
  omega
 have h:=Nat.two_pow_add_eq_or_of_lt (i:=k) (b:=y) (by omega) (x / 2 ^ k);rw [<- hx] at h;omega
namespace Mc
def v2 (n:Int):Int:=n / 2147483648 % 2 * 1048576+n / 4096 % 256 * 4096+n / 1048576 % 2 * 2048+n / 2097152 % 1024 * 2
def v4 (n:Int):Int:=n / 2147483648 % 2 * 4096+n / 128 % 2 * 2048+n / 33554432 % 64 * 32+n / 256 % 16 * 2
def v5 (n:Int):Int:=n / 33554432 % 128 * 32+n / 128 % 32
def jm (form n:Int):Int :=
 if form=1 then n / 4096 % 1048576
 else if form=2 then (if v2 n < 1048576 then v2 n else v2 n - 2097152)
 else if form=3 then (if n / 1048576 % 4096 < 2048 then n / 1048576 % 4096 else n / 1048576 % 4096 - 4096)
 else if form=4 then (if v4 n < 4096 then v4 n else v4 n - 8192)
 else if form=5 then (if v5 n < 2048 then v5 n else v5 n - 4096)
 else 0
end Mc
theorem yqe (n:Int) (h0:0<=n) (h1:n<=4294967295):t2 n=Mc.v2 n:=by
 unfold t2 Mc.v2;rw [low (n / 2147483648) 1 (by decide) 1 2 rfl rfl (by omega) (by omega),low (n / 4096) 8 (by decide) 255 256 rfl rfl (by omega) (by omega),low (n / 1048576) 1 (by decide) 1 2 rfl rfl (by omega) (by omega),low (n / 2097152) 10 (by decide) 1023 1024 rfl rfl (by omega) (by omega)];rw [IntWalk.wrap64_in (n / 2147483648 % 2 * 1048576) ⟨by omega,by omega⟩,IntWalk.wrap64_in (n / 4096 % 256 * 4096) ⟨by omega,by omega⟩,IntWalk.wrap64_in (n / 1048576 % 2 * 2048) ⟨by omega,by omega⟩,IntWalk.wrap64_in (n / 2097152 % 1024 * 2) ⟨by omega,by omega⟩];rw [LD (n / 2147483648 % 2 * 1048576) (n / 4096 % 256 * 4096) 20 (by omega) (by omega) (by simp only [Int.reducePow]; omega) (by omega) (by simp only [Int.reducePow]; omega) (by omega),
  LD (n / 2147483648 % 2 * 1048576+n / 4096 % 256 * 4096) (n / 1048576 % 2 * 2048) 12 (by omega) (by omega) (by simp only [Int.reducePow]; omega) (by omega) (by simp only [Int.reducePow]; omega) (by omega),
  LD (n / 2147483648 % 2 * 1048576+n / 4096 % 256 * 4096+n / 1048576 % 2 * 2048) (n / 2097152 % 1024 * 2) 11 (by omega) (by omega) (by simp only [Int.reducePow]; omega) (by omega) (by simp only [Int.reducePow]; omega) (by omega)]
theorem yqg (n:Int) (h0:0<=n) (h1:n<=4294967295):t4 n=Mc.v4 n:=by
 unfold t4 Mc.v4;rw [low (n / 2147483648) 1 (by decide) 1 2 rfl rfl (by omega) (by omega),low (n / 128) 1 (by decide) 1 2 rfl rfl (by omega) (by omega),low (n / 33554432) 6 (by decide) 63 64 rfl rfl (by omega) (by omega),low (n / 256) 4 (by decide) 15 16 rfl rfl (by omega) (by omega)];rw [IntWalk.wrap64_in (n / 2147483648 % 2 * 4096) ⟨by omega,by omega⟩,IntWalk.wrap64_in (n / 128 % 2 * 2048) ⟨by omega,by omega⟩,IntWalk.wrap64_in (n / 33554432 % 64 * 32) ⟨by omega,by omega⟩,IntWalk.wrap64_in (n / 256 % 16 * 2) ⟨by omega,by omega⟩];rw [LD (n / 2147483648 % 2 * 4096) (n / 128 % 2 * 2048) 12 (by omega) (by omega) (by simp only [Int.reducePow]; omega) (by omega) (by simp only [Int.reducePow]; omega) (by omega),
  LD (n / 2147483648 % 2 * 4096+n / 128 % 2 * 2048) (n / 33554432 % 64 * 32) 11 (by omega) (by omega) (by simp only [Int.reducePow]; omega) (by omega) (by simp only [Int.reducePow]; omega) (by omega),
  LD (n / 2147483648 % 2 * 4096+n / 128 % 2 * 2048+n / 33554432 % 64 * 32) (n / 256 % 16 * 2) 5 (by omega) (by omega) (by simp only [Int.reducePow]; omega) (by omega) (by simp only [Int.reducePow]; omega) (by omega)]
theorem yqh (n:Int) (h0:0<=n) (h1:n<=4294967295):t5 n=Mc.v5 n:=by
 unfold t5 Mc.v5;rw [low (n / 33554432) 7 (by decide) 127 128 rfl rfl (by omega) (by omega),low (n / 128) 5 (by decide) 31 32 rfl rfl (by omega) (by omega)];rw [IntWalk.wrap64_in (n / 33554432 % 128 * 32) ⟨by omega,by omega⟩];rw [LD (n / 33554432 % 128 * 32) (n / 128 % 32) 5 (by omega) (by omega) (by simp only [Int.reducePow]; omega) (by omega) (by simp only [Int.reducePow]; omega) (by omega)]
theorem yqf (n:Int) (h0:0<=n) (h1:n<=4294967295):t3 n=n / 1048576 % 4096:=by
 unfold t3;rw [low (n / 1048576) 12 (by decide) 4095 4096 rfl rfl (by omega) (by omega)]
theorem Rk (t v d h:Int) (e:t=v) (hl:t < h):t=if v < h then v else v - d:=by rw [e] at hl ⊢; rw [if_pos hl]
theorem Rj (t v d h:Int) (e:t=v) (hl:h<=t) (h0:0<=t) (hd:0<=d/\d<=4294967296) (h1:t<=4294967296):wrap64 (t - d)=if v < h then v else v - d:=by
 rw [IntWalk.wrap64_in _ ⟨by omega,by omega⟩,<- e,if_neg (by omega)]
theorem ygO (form n:Int) (w:World) (h0:0<=n) (h1:n<=4294967295) :
  Calls Tryz.prog 175 #[.int .i64 form,.int .i64 n] w fun e w'=>e = .returned (.int .i64 (Mc.jm form n))/\w'=w:=by
 by_cases e1:form=1
 ·subst e1;have E:=hid (show bits .and .i64 (n / 4096) 1048575=Mc.jm 1 n by rw [low (n / 4096) 20 (by decide) 1048575 1048576 rfl rfl (by omega) (by omega)]; rfl);go_enter Tryz.func175,Tryz.ntmps175;go_wp2;go_ret;exact ⟨yF E.o,rfl⟩
 by_cases e2:form=2
 ·subst e2;have T:=hid (ymt n h0 h1);have X:=hid (yqe n h0 h1);have NF:=hid (show Mc.jm 2 n=if Mc.v2 n < 1048576 then Mc.v2 n else Mc.v2 n - 2097152 from rfl);clear e1;go_enter Tryz.func175,Tryz.ntmps175;go_wp2
  ·go_ret;refine ⟨yF ?_,rfl⟩;rw [NF.o];exact Rk (t2 n) _ 2097152 1048576 X.o (by assumption)
  ·go_ret;refine ⟨yF ?_,rfl⟩;rw [NF.o];exact Rj (t2 n) _ 2097152 1048576 X.o (by assumption) T.o.1 (by decide) (by have:=T.o.2.1; omega)
 by_cases e3:form=3
 ·subst e3;have T:=hid (ymu n h0 h1);have X:=hid (yqf n h0 h1);have NF:=hid (show Mc.jm 3 n=if n / 1048576 % 4096 < 2048 then n / 1048576 % 4096 else n / 1048576 % 4096 - 4096 from rfl);clear e1 e2;go_enter Tryz.func175,Tryz.ntmps175;go_wp2
  ·go_ret;refine ⟨yF ?_,rfl⟩;rw [NF.o];exact Rk (t3 n) _ 4096 2048 X.o (by assumption)
  ·go_ret;refine ⟨yF ?_,rfl⟩;rw [NF.o];exact Rj (t3 n) _ 4096 2048 X.o (by assumption) T.o.1 (by decide) (by have:=T.o.2.1; omega)
 by_cases e4:form=4
 ·subst e4;have T:=hid (ymv n h0 h1);have X:=hid (yqg n h0 h1);have NF:=hid (show Mc.jm 4 n=if Mc.v4 n < 4096 then Mc.v4 n else Mc.v4 n - 8192 from rfl);clear e1 e2 e3;go_enter Tryz.func175,Tryz.ntmps175;go_wp2
  ·go_ret;refine ⟨yF ?_,rfl⟩;rw [NF.o];exact Rk (t4 n) _ 8192 4096 X.o (by assumption)
  ·go_ret;refine ⟨yF ?_,rfl⟩;rw [NF.o];exact Rj (t4 n) _ 8192 4096 X.o (by assumption) T.o.1 (by decide) (by have:=T.o.2.1; omega)
 by_cases e5:form=5
 ·subst e5;have T:=hid (ymw n h0 h1);have X:=hid (yqh n h0 h1);have NF:=hid (show Mc.jm 5 n=if Mc.v5 n < 2048 then Mc.v5 n else Mc.v5 n - 4096 from rfl);clear e1 e2 e3 e4;go_enter Tryz.func175,Tryz.ntmps175;go_wp2
  ·go_ret;refine ⟨yF ?_,rfl⟩;rw [NF.o];exact Rk (t5 n) _ 4096 2048 X.o (by assumption)
  ·go_ret;refine ⟨yF ?_,rfl⟩;rw [NF.o];exact Rj (t5 n) _ 4096 2048 X.o (by assumption) T.o.1 (by decide) (by have:=T.o.2.1; omega)
 have NF:=hid (show Mc.jm form n=0 by unfold Mc.jm; rw [if_neg e1,if_neg e2,if_neg e3,if_neg e4,if_neg e5]);have d1:(form == 1)=false:=by simpa using e1
 have d2:(form == 2)=false:=by simpa using e2
 have d3:(form == 3)=false:=by simpa using e3
 have d4:(form == 4)=false:=by simpa using e4
 have d5:(form == 5)=false:=by simpa using e5
 clear e1 e2 e3 e4 e5;go_enter Tryz.func175,Tryz.ntmps175;go_wp2;go_ret;exact ⟨yF NF.o.symm,rfl⟩
theorem yjO (op form n:Int) (w:World) (h0:0<=n) (h1:n<=4294967295) (hf:1<=form/\form<=7) :
  Calls Tryz.prog 117 #[.int .i64 op,.int .i64 form,.int .i64 n] w fun e w'=>e = .returned (bD op (gI form n) (bI form n) (jC form n) (Mc.jm form n))/\w.grownBy w' none:=by
 have cT:=hid (fun W=>ygO form n W h0 h1);generalize Mc.jm form n=m at *;have G1:=hid (fun o:Obj=>aH w o none);have G2:=hid (fun o o':Obj=>aH (w.alloc o) o' none);rcases (show form=1\/form=2\/form=3\/form=4\/form=5\/form=6\/form=7 from by omega) with rfl | rfl | rfl | rfl | rfl | rfl | rfl
 all_goals
  clear hf;go_enter Tryz.func117,Tryz.ntmps117;go_wp2_with fail;refine (cT.o _).mono ?_;rintro e w1 ⟨rfl,rfl⟩;clear cT;go_wp2;refine bodyPost_ret (v:=bD op (gI _ n) (bI _ n) (jC _ n) m) ?_ rfl ⟨rfl,ya (G1.o _) (G2.o _ _)⟩;simp [results,Tryz.results117,go_sem,bD,gI,bI,jC]
namespace Mc
instance (k:Nat) (n:Int):Decidable (Is k n):=by unfold Is; infer_instance
def jX (n:Int):Nat:=((List.range 26).find? fun k=>decide (1<=k) && decide (Is k n)).getD 0
theorem qB (n:Int) (k:Nat) (h1:1<=k) (h2:k<=25) (hI:Is k n) (hall:∀ j,1<=j->j < k->¬ Is j n):jX n=k:=by
 unfold jX;have h:(List.range 26).find? (fun k=>decide (1<=k) && decide (Is k n))=some k:=by
  rw [List.find?_eq_some_iff_append];refine ⟨by simp [h1,hI],List.range k,(List.range (25 - k)).map (k+1 + ·),?_,?_⟩
  ·have e:26=k+(1+(25 - k)):=by omega
   rw [e,List.range_add,List.range_add];simp [Nat.add_assoc]
  ·intro j hj;have hj':=List.mem_range.1 hj;by_cases hj1:1<=j
   ·simp [hj1,hall j hj1 hj']
   ·simp [hj1]
 rw [h];rfl
theorem Bc (n:Int) (hall:∀ j,1<=j->j<=25->¬ Is j n):jX n=0:=by
 unfold jX;have h:(List.range 26).find? (fun k=>decide (1<=k) && decide (Is k n))=none:=by
  rw [List.find?_eq_none];intro j hj;have hj':=List.mem_range.1 hj;by_cases hj1:1<=j
  ·simp [hj1,hall j hj1 (by omega)]
  ·simp [hj1]
 rw [h];rfl
def aO (n:Int):Int:=vG.getD (jX n) 0
end Mc
theorem UZ (n:Int) (w:World) (ht:dV w) (h0:0<=n) (h1:n<=4294967295) :
  Calls Tryz.prog 82 #[.int .i64 n] w fun e w'=>e = .returned (bD (Mc.jX n) (gI (Mc.aO n) n) (bI (Mc.aO n) n) (jC (Mc.aO n) n) (Mc.jm (Mc.aO n) n))/\w.grownBy w' none:=by
 have HT:=hid ht;clear ht;obtain ⟨R,hR⟩:∃ R,R=bD (Mc.jX n) (gI (Mc.aO n) n) (bI (Mc.aO n) n) (jC (Mc.aO n) n) (Mc.jm (Mc.aO n) n):=⟨_,rfl⟩
 rw [<- hR];have HR:=hid hR;clear hR;have G:=hid (fun o:Obj=>aH w o none);go_enter Tryz.func82,Tryz.ntmps82;go_wp2
 go_loopw [3] (fun i wr=>∃ k:Nat,1<=k/\k<=26/\i = .int .i64 k/\(∀ j,1<=j->j < k->¬ Is j n)/\w.grownBy wr none/\yc wr w.heap.size #[.int .i64 0,.int .i64 0,.int .i64 0,.int .i64 0,.int .i64 0] 143) (fun i _=>26 - (intOf i).toNat)
 case atStart=>exact ⟨1,Nat.le_refl _,by omega,rfl,fun j h1 h2=>by omega,G.o _,yc.new _ _ _⟩
 case round =>
  obtain ⟨k,hk1,hk2,rfl,hall,hgr,hbk⟩:=hrel;have HA:=hid hall;have HG:=hid hgr;have HB:=hid hbk;clear hall hgr hbk;by_cases hlt:k<=25
  ·have T:=HT.o.grown HG.o;have cf:=T.form k (by omega);have cx:=T.fix k (by omega);have hfr:=UY k hk1 hlt;clear T;have Ns:=hid (show Is k n↔bits .and .i64 n (IZ (vG.getD k 0))=FK.getD k 0 from Iff.rfl);generalize hF:vG.getD k 0=f at *;generalize FK.getD k 0=x at *;have HF:=hid hF;clear hF;have cM:=hid (fun W=>YG f W hfr);have g1:(1:Int)<=(k:Int):=by omega
   have g2:(k:Int)<=25:=by omega
   by_cases hI:Is k n
   ·have d:(bits .and .i64 n (IZ f) == x)=true:=beq_iff_eq.2 (Ns.o.1 hI);have HI:=hid hI;have cF:=hid (fun W=>yjO k f n W h0 h1 hfr);clear hI;go_wp2
    go_quiet ((go_at_call 116; exact Calls.quiet_of_same (cM.o _)))
    go_wp2_with fail;refine (cF.o _).mono ?_;rintro e w2 ⟨rfl,hq⟩;have OP:=hid (Mc.qB n k hk1 hlt HI.o HA.o);have FO:=hid (show Mc.aO n=f by unfold Mc.aO; rw [OP.o]; exact HF.o);unfold bD;have B2:=hid ((HB.o.drewN nq).grown hq (by simp));have G2:=hid (ya (ye HG.o nq) hq);have k0:=B2.o.cell 0;have k1:=B2.o.cell 1;have k2:=B2.o.cell 2;have k3:=B2.o.cell 3;have k4:=B2.o.cell 4;have f0:=B2.o.free 0;have f1:=B2.o.free 1;have f2:=B2.o.free 2;have f3:=B2.o.free 3;have f4:=B2.o.free 4;clear hq;have RE:=hid (show R=bD k (gI f n) (bI f n) (jC f n) (Mc.jm f n) by rw [HR.o,OP.o,FO.o]);generalize gI f n=rd at *
    generalize bI f n=r1 at *;generalize jC f n=r2 at *;generalize Mc.jm f n=m at *;go_wp2;have F:=Ij G2.o B2.o (.int .i64 k) (.int .i64 rd) (.int .i64 r1) (.int .i64 r2) (.int .i64 m);have e0:=F.1.cell 0;have e1:=F.1.cell 1;have e2:=F.1.cell 2;have e3:=F.1.cell 3;have e4:=F.1.cell 4;refine bodyPost_ret (v:=R) ?_ rfl ⟨rfl,F.2⟩;rw [RE.o];clear F k0 k1 k2 k3 k4 f0 f1 f2 f3 f4 B2 G2;generalize World.setCell _ _ _=WF at *;simp [results,Tryz.results82,go_sem,bD,e0,e1,e2,e3,e4]
   ·have d:(bits .and .i64 n (IZ f) == x)=false:=beq_eq_false_iff_ne.2 (fun h=>hI (Ns.o.2 h));have HI:=hid hI;clear hI;go_wp2
    go_quiet ((go_at_call 116; exact Calls.quiet_of_same (cM.o _)))
    go_wp2
    go_roundw
    case rel=>exact ⟨k+1,by omega,by omega,by go_num,fun j hj hjk=>(Nat.lt_succ_iff_lt_or_eq.1 hjk).elim (fun h=>HA.o j hj h) (fun h=>by subst h; exact HI.o),ye HG.o _,HB.o.drewN _⟩
    case measure=>simp [intOf]; omega
  ·have k0:=HB.o.cell 0;have k1:=HB.o.cell 1;have k2:=HB.o.cell 2;have k3:=HB.o.cell 3;have k4:=HB.o.cell 4;have f0:=HB.o.free 0;have f1:=HB.o.free 1;have f2:=HB.o.free 2;have f3:=HB.o.free 3;have f4:=HB.o.free 4;go_wp2;have F:=Ij HG.o HB.o (.int .i64 0) (.int .i64 0) (.int .i64 0) (.int .i64 0) (.int .i64 0);have e0:=F.1.cell 0;have e1:=F.1.cell 1;have e2:=F.1.cell 2;have e3:=F.1.cell 3;have e4:=F.1.cell 4;have OP:=Mc.Bc n (fun j h1 h2=>HA.o j h1 (by omega));have FO:Mc.aO n=0:=by unfold Mc.aO; rw [OP]; rfl
   have RE:R=bD 0 0 0 0 0:=by rw [HR.o,OP,FO]; rfl
   refine bodyPost_ret (v:=R) ?_ rfl ⟨rfl,F.2⟩;rw [RE];clear F k0 k1 k2 k3 k4 f0 f1 f2 f3 f4;generalize World.setCell _ _ _=WF at *;simp [results,Tryz.results82,go_sem,bD,e0,e1,e2,e3,e4]
def dW (l:List UInt8) (p:Nat):Nat->Int
 | 0=>0
 | n+1=>((l.getD p 0).toNat:Int)+256 * dW l (p+1) n
theorem Ve (l:List UInt8) (p n:Nat):0<=dW l p n/\dW l p n < (256:Int) ^ n:=by
 induction n generalizing p with
 | zero=>simp [dW]
 | succ n ih =>
  have h:=ih (p+1);have hb:(l.getD p 0).toNat < 256:=(l.getD p 0).toNat_lt;simp only [dW,Int.pow_succ];omega
namespace Im
structure eU where
 start:Int
 text:Int
 far:Int
 data:Int
 T:List Int
 F:List Int
 D:List Int
 noughts:Int
def words (l:List UInt8) (p c:Nat):List Int:=(List.range c).map fun i=>dW l (p+4 * i) 4
theorem ig (l:List UInt8) (p c:Nat):(words l p c).length=c:=by simp [words]
theorem rG (l:List UInt8) (p c:Nat):words l p (c+1)=dW l p 4 :: words l (p+4) c:=by
 unfold words;rw [List.range_succ_eq_map,List.map_cons,List.map_map]
 congr 1
 apply List.map_congr_left;intro i _;show dW l (p+4 * (i+1)) 4=dW l (p+4+4 * i) 4
 congr 1
 omega
theorem wE (l:List UInt8) (p n:Nat) (h:p+n<=l.length):Lk.num ((l.drop p).take n)=dW l p n:=by
 induction n generalizing p with
 | zero=>simp [dW,Lk.num]
 | succ n ih =>
  have hp:p < l.length:=by omega
  rw [mE hp,List.take_succ_cons];simp only [Lk.num,dW];rw [ih (p+1) (by omega),lN,jW hp];rfl
theorem iH (l:List UInt8) (n p:Nat) (h:p+n<=l.length):Lk.rdNum l n (p,false)=(dW l p n,(p+n,false)):=by
 unfold Lk.rdNum Lk.aF;simp only;rw [if_pos (by omega)];simp only;rw [wE l p n h]
theorem iZ (l:List UInt8) (n:Nat) (st:Lk.St) (hn:st.1<=l.length) (h:(Lk.rdNum l n st).2.2=false) :
  st.2=false/\st.1+n<=l.length/\Lk.rdNum l n st=(dW l st.1 n,(st.1+n,false)):=by
 have h0:=(Lk.aB l n).back h;obtain ⟨p,b⟩:=st;simp only at h0 hn;subst h0;have hp:p+n<=l.length:=by
  unfold Lk.rdNum Lk.aF at h;simp only at h;split at h
  ·omega
  ·simp at h
 exact ⟨rfl,hp,iH l n p hp⟩
theorem mJ (l:List UInt8) (c p:Nat) (h:p+4 * c<=l.length):Lk.aR l 4 c (p,false)=(words l p c,(p+4 * c,false)):=by
 induction c generalizing p with
 | zero=>rfl
 | succ c ih =>
  simp only [Lk.aR,Bool.false_eq_true,if_false];rw [iH l 4 p (by omega)];simp only;rw [ih (p+4) (by omega),rG];simp only [Prod.mk.injEq,true_and,and_true];omega
theorem pF (l:List UInt8) (c:Nat) (st:Lk.St) (hn:st.1<=l.length) (h:(Lk.aR l 4 c st).2.2=false) :
  st.2=false/\st.1+4 * c<=l.length/\Lk.aR l 4 c st=(words l st.1 c,(st.1+4 * c,false)):=by
 have h0:=(Lk.bE l 4 c).back h;obtain ⟨p,b⟩:=st;simp only at h0 hn;subst h0
 suffices hp:p+4 * c<=l.length from ⟨rfl,hp,mJ l c p hp⟩
 induction c generalizing p with
 | zero=>omega
 | succ c ih =>
  simp only [Lk.aR,Bool.false_eq_true,if_false] at h;have hb:=(Lk.bE l 4 c).back h;have k:=iZ l 4 (p,false) hn hb;rw [k.2.2] at h
  have:=ih (p+4) k.2.1 h
  omega
def oz (l:List UInt8) (st:Lk.St):eU×Lk.St :=
 let a:=Lk.rdNum l 4 st
 let b:=Lk.rdNum l 4 a.2
 let c:=Lk.rdNum l 4 b.2
 let d:=Lk.rdNum l 4 c.2
 let nt:=Lk.rdNum l 2 d.2
 let nf:=Lk.rdNum l 2 nt.2
 let nd:=Lk.rdNum l 2 nf.2
 let nb:=Lk.rdNum l 2 nd.2
 let t:=Lk.aR l 4 nt.1.toNat nb.2
 let f:=Lk.aR l 4 nf.1.toNat t.2
 let e:=Lk.aR l 4 nd.1.toNat f.2
 (⟨a.1,b.1,c.1,d.1,t.1,f.1,e.1,nb.1⟩,e.2)
def nT (l:List UInt8):Nat:=(dW l 18 2).toNat
def nF (l:List UInt8):Nat:=(dW l 20 2).toNat
def nD (l:List UInt8):Nat:=(dW l 22 2).toNat
def nB (l:List UInt8):Nat:=(dW l 24 2).toNat
theorem jO (l:List UInt8) (p:Nat):0<=dW l p 2/\dW l p 2 < 65536:=by have:=Ve l p 2; simpa using this
theorem KM (l:List UInt8):nT l<=65535/\nF l<=65535/\nD l<=65535/\nB l<=65535:=by
 have h1:=jO l 18;have h2:=jO l 20;have h3:=jO l 22;have h4:=jO l 24;unfold nT nF nD nB;omega
def fq (l:List UInt8):eU:=⟨dW l 2 4,dW l 6 4,dW l 10 4,dW l 14 4,words l 26 (nT l),words l (26+4 * nT l) (nF l),words l (26+4 * nT l+4 * nF l) (nD l),dW l 24 2⟩
def Full (l:List UInt8):Prop:=l.length=26+4 * (nT l+nF l+nD l)
theorem ze (l:List UInt8) (h:Full l):oz l (2,false)=(fq l,(l.length,false)):=by
 unfold Full at h;unfold oz;simp only;rw [iH l 4 2 (by omega)];simp only [Nat.reduceAdd];rw [iH l 4 6 (by omega)];simp only [Nat.reduceAdd];rw [iH l 4 10 (by omega)];simp only [Nat.reduceAdd];rw [iH l 4 14 (by omega)];simp only [Nat.reduceAdd];rw [iH l 2 18 (by omega)];simp only [Nat.reduceAdd];rw [iH l 2 20 (by omega)];simp only [Nat.reduceAdd];rw [iH l 2 22 (by omega)];simp only [Nat.reduceAdd];rw [iH l 2 24 (by omega)];simp only [Nat.reduceAdd];rw [show (dW l 18 2).toNat=nT l from rfl,show (dW l 20 2).toNat=nF l from rfl,show (dW l 22 2).toNat=nD l from rfl];rw [mJ l (nT l) 26 (by omega)];simp only
 rw [mJ l (nF l) _ (by omega)];simp only;rw [mJ l (nD l) _ (by omega)];simp only [fq,Prod.mk.injEq,true_and,and_true];omega
theorem zf (l:List UInt8) (h2:2<=l.length) (h:(oz l (2,false)).2=(l.length,false)):Full l:=by
 unfold oz at h;simp only at h;generalize hA:Lk.rdNum l 4 (2,false)=a at h;generalize hB:Lk.rdNum l 4 a.2=b at h;generalize hC:Lk.rdNum l 4 b.2=c at h;generalize hD:Lk.rdNum l 4 c.2=d at h;generalize hE:Lk.rdNum l 2 d.2=nt at h;generalize hF:Lk.rdNum l 2 nt.2=nf at h;generalize hG:Lk.rdNum l 2 nf.2=nd at h;generalize hH:Lk.rdNum l 2 nd.2=nb at h;generalize hI:Lk.aR l 4 nt.1.toNat nb.2=t at h;generalize hJ:Lk.aR l 4 nf.1.toNat t.2=f at h;generalize hK:Lk.aR l 4 nd.1.toNat f.2=e at h;have k11:e.2.2=false:=by rw [h]
 have k10:f.2.2=false:=(Lk.bE l 4 _).back (by rw [hK]; exact k11);have k9:t.2.2=false:=(Lk.bE l 4 _).back (by rw [hJ]; exact k10);have k8:nb.2.2=false:=(Lk.bE l 4 _).back (by rw [hI]; exact k9);have k7:nd.2.2=false:=(Lk.aB l 2).back (by rw [hH]; exact k8);have k6:nf.2.2=false:=(Lk.aB l 2).back (by rw [hG]; exact k7);have k5:nt.2.2=false:=(Lk.aB l 2).back (by rw [hF]; exact k6);have k4:d.2.2=false:=(Lk.aB l 2).back (by rw [hE]; exact k5);have k3:c.2.2=false:=(Lk.aB l 4).back (by rw [hD]; exact k4);have k2:b.2.2=false:=(Lk.aB l 4).back (by rw [hC]; exact k3);have k1:a.2.2=false:=(Lk.aB l 4).back (by rw [hB]; exact k2)
 obtain ⟨-,p1,q1⟩:=iZ l 4 (2,false) h2 (by rw [hA]; exact k1);rw [hA] at q1; subst q1;obtain ⟨-,p2,q2⟩:=iZ l 4 _ p1 (by rw [hB]; exact k2);rw [hB] at q2; subst q2;obtain ⟨-,p3,q3⟩:=iZ l 4 _ p2 (by rw [hC]; exact k3);rw [hC] at q3; subst q3;obtain ⟨-,p4,q4⟩:=iZ l 4 _ p3 (by rw [hD]; exact k4);rw [hD] at q4; subst q4;obtain ⟨-,p5,q5⟩:=iZ l 2 _ p4 (by rw [hE]; exact k5);rw [hE] at q5; subst q5;obtain ⟨-,p6,q6⟩:=iZ l 2 _ p5 (by rw [hF]; exact k6);rw [hF] at q6; subst q6;obtain ⟨-,p7,q7⟩:=iZ l 2 _ p6 (by rw [hG]; exact k7);rw [hG] at q7; subst q7;obtain ⟨-,p8,q8⟩:=iZ l 2 _ p7 (by rw [hH]; exact k8)
 rw [hH] at q8; subst q8;obtain ⟨-,p9,q9⟩:=pF l _ _ p8 (by rw [hI]; exact k9);rw [hI] at q9; subst q9;obtain ⟨-,wZ,X9⟩:=pF l _ _ p9 (by rw [hJ]; exact k10);rw [hJ] at X9; subst X9;obtain ⟨-,Eb,Ya⟩:=pF l _ _ wZ (by rw [hK]; exact k11);rw [hK] at Ya; subst Ya;simp only [Prod.mk.injEq] at h;have hh:=h.1;simp only [Nat.reduceAdd] at hh;unfold Full nT nF nD;omega
def Base (a:Int):Prop:=(4096<=a/\a < 1073741824)/\a % 16=0
def kD (a b c d:Int):Prop:=a≠b/\c≠d/\a < d/\c < b
def In (base:Int) (n:Nat) (a:Int):Prop:=base<=a/\(a - base) % 4=0/\(a - base) / 4 < n
def nC (m:eU):Prop :=
 (Base m.text/\Base m.far/\Base m.data) /\
 (m.text+4 * (m.T.length:Int)<=1073741824/\m.far+4 * (m.F.length:Int)<=1073741824/\m.data+4 * ((m.D.length:Int)+m.noughts)<=1073741824) /\
 (¬ kD m.text (m.text+4 * (m.T.length:Int)) m.far (m.far+4 * (m.F.length:Int))/\¬ kD m.text (m.text+4 * (m.T.length:Int)) m.data (m.data+4 * ((m.D.length:Int)+m.noughts)) /\
  ¬ kD m.far (m.far+4 * (m.F.length:Int)) m.data (m.data+4 * ((m.D.length:Int)+m.noughts))) /\
 (In m.text m.T.length m.start\/In m.far m.F.length m.start)
def kK (l:List UInt8):Prop:=l.take 2=[73,77]/\Full l/\nC (fq l)
end Im
theorem yjb (b:Nat) (s:ByteArray) (p:Nat) (sh:Bool) (w:World) (h:bF w b s p sh)
  (hs:s.size<=1048576) (hp:p<=s.size) (hmark:(Lk.aF (sl s) 2 (p,sh)).1≠[76,75]) :
  Calls Tryz.prog 163 #[.pointer (some ⟨b,0,none⟩)] w fun e w'=>e = .returned (.pointer none)/\w.grownBy w' (some b):=by
 have c0:=fun W h=>Le b s p 2 2 rfl sh W h hs hp (by omega)
 generalize Lk.aF (sl s) 2 (p,sh)=x0 at *;obtain ⟨mk,p0,s0⟩:=x0;simp only at hmark c0;replace c0:=hid c0;have H:=hid h;clear h;have ht:((bs mk).toList == [76,75])=false:=by rw [yJ]; simpa using hmark
 clear hmark;go_enter Tryz.func163,Tryz.ntmps163;go_wp2_with fail;refine (c0.o w H.o).mono ?_;rintro e W0 ⟨rfl,r0,q0⟩;replace r0:=hid r0;replace q0:=hid q0;go_wp2;go_ret;exact ⟨rfl,q0.o⟩
theorem UD (s:ByteArray) (w:World) :
  Calls Tryz.prog 43 #[.string s] w fun e w'=>e = .returned (.agg #[.string s,.int .i64 0,.bool false])/\w.grownBy w' none:=by
 go_enter Tryz.func43,Tryz.ntmps43;go_wp2;have B:=yc.new w #[.string s,.int .i64 0,.bool false] 83;have e0:=B.cell 0;have e1:=B.cell 1;have e2:=B.cell 2;have G:=aH w (.cells #[.string s,.int .i64 0,.bool false] 83) none;refine bodyPost_ret (v:=.agg #[.string s,.int .i64 0,.bool false]) ?_ rfl ⟨rfl,G⟩;simp [results,Tryz.results43,go_sem]
structure qF (w:World) (b g:Nat) (s:ByteArray) (p:Nat) (sh:Bool) (cs:Array Value) (rows:List Row) (W:World):Prop where
 rd:bF W b s p sh
 obj:yc W g cs 90
 rows:∀ r∈rows,r.In W (g+1)
 gr:w.grownBy W (some b)
section
variable {w W W':World} {b g:Nat} {s:ByteArray} {cs:Array Value} {rows:List Row} {p p':Nat} {sh sh':Bool}
theorem qF.begin (h:bF W b s p sh) (hg:w.grownBy W (some b)) (cs:Array Value):qF w b W.heap.size s p sh cs [] (W.alloc (.cells cs 90)) :=
 ⟨h.grown (aH W _ none) (by simp),yc.new W cs 90,(by simp),II hg (aH W _ none) (by simp)⟩
theorem qF.call (h:qF w b g s p sh cs rows W) (hb:b < g) (hr:bF W' b s p' sh') (hg:W.grownBy W' (some b)):qF w b g s p' sh' cs rows W' :=
 ⟨hr,h.obj.grown hg (by simp; omega),fun r hr=>Lc (h.rows r hr) (by omega) hg,ya h.gr hg⟩
theorem qF.row (h:qF w b g s p sh cs rows W) (hb:b < g) (hr:bF W' b s p' sh') (hg:W.grownBy W' (some b)) (r:Row) (hrow:r.In W' W.heap.size):qF w b g s p' sh' cs (r :: rows) W':=by
 have h1:=h.call hb hr hg;refine ⟨h1.rd,h1.obj,?_,h1.gr⟩;intro q hq;rcases List.mem_cons.1 hq with rfl | hq
 ·exact yZ hrow h.obj.lt
 ·exact h1.rows q hq
theorem qF.store (h:qF w b g s p sh cs rows W) (hb:b < g) (hw:w.heap.size<=g) (o:Nat) (v:Value):qF w b g s p sh (cs.setIfInBounds o v) rows (W.setCell ⟨g,o,none⟩ v) :=
 ⟨h.rd.grown (yf W g o v) (by simp; omega),h.obj.set o v,fun r hr=>ownsRow_setCell_below (h.rows r hr) (Nat.lt_succ_self g) v,II h.gr (yf W g o v) (by simp; omega)⟩
end
def nA (W:World) (g:Nat) (m:Im.eU):Prop :=
 ∃ vt vf vd,yc W g #[.int .i64 m.start,.int .i64 m.text,.int .i64 m.far,.int .i64 m.data,vt,vf,vd,.int .i64 m.noughts] 90 /\
  W.ownsRow 0 3 1 vt m.T.length (m.T.map (Value.int .i64))/\W.ownsRow 0 3 1 vf m.F.length (m.F.map (Value.int .i64))/\W.ownsRow 0 3 1 vd m.D.length (m.D.map (Value.int .i64))
theorem yja (b:Nat) (s:ByteArray) (p:Nat) (sh:Bool) (w:World) (h:bF w b s p sh)
  (hs:s.size<=1048576) (hp:p<=s.size) (hmark:(Lk.aF (sl s) 2 (p,sh)).1=[73,77]) :
  Calls Tryz.prog 44 #[.pointer (some ⟨b,0,none⟩)] w fun e w'=>∃ g,e = .returned (.pointer (some ⟨g,0,none⟩))/\w.heap.size<=g /\
   nA w' g (Im.oz (sl s) (Lk.aF (sl s) 2 (p,sh)).2).1 /\
   bF w' b s (Im.oz (sl s) (Lk.aF (sl s) 2 (p,sh)).2).2.1 (Im.oz (sl s) (Lk.aF (sl s) 2 (p,sh)).2).2.2/\w.grownBy w' (some b):=by
 have hb:=h.lt;have hlen:=yu s;have l0:=Li (sl s) 2 (p,sh) (by rw [hlen]; exact hp);have c0:=fun W h=>Le b s p 2 2 rfl sh W h hs hp (by omega)
 generalize Lk.aF (sl s) 2 (p,sh)=x0 at *;obtain ⟨mk,p0,s0⟩:=x0;simp only at hmark;subst hmark;rw [hlen] at l0;unfold Im.oz;simp only at *;have b1:=yS (sl s) 4 (p0,s0);have l1:=yE (sl s) 4 (p0,s0) (by rw [hlen]; exact l0);have c1:=fun W h=>yL b s p0 4 4 rfl s0 W h hs l0 (by omega)
 generalize Lk.rdNum (sl s) 4 (p0,s0)=x1 at *;obtain ⟨start,p1,s1⟩:=x1;rw [hlen] at l1;simp only [Int.reducePow] at *;have b2:=yS (sl s) 4 (p1,s1);have l2:=yE (sl s) 4 (p1,s1) (by rw [hlen]; exact l1);have c2:=fun W h=>yL b s p1 4 4 rfl s1 W h hs l1 (by omega)
 generalize Lk.rdNum (sl s) 4 (p1,s1)=x2 at *;obtain ⟨bt,p2,s2⟩:=x2;rw [hlen] at l2;simp only [Int.reducePow] at *;have b3:=yS (sl s) 4 (p2,s2);have l3:=yE (sl s) 4 (p2,s2) (by rw [hlen]; exact l2);have c3:=fun W h=>yL b s p2 4 4 rfl s2 W h hs l2 (by omega)
 generalize Lk.rdNum (sl s) 4 (p2,s2)=x3 at *;obtain ⟨bf,p3,s3⟩:=x3;rw [hlen] at l3;simp only [Int.reducePow] at *;have b4:=yS (sl s) 4 (p3,s3);have l4:=yE (sl s) 4 (p3,s3) (by rw [hlen]; exact l3);have c4:=fun W h=>yL b s p3 4 4 rfl s3 W h hs l3 (by omega)
 generalize Lk.rdNum (sl s) 4 (p3,s3)=x4 at *;obtain ⟨bd,p4,s4⟩:=x4;rw [hlen] at l4;simp only [Int.reducePow] at *;have b5:=yS (sl s) 2 (p4,s4);have l5:=yE (sl s) 2 (p4,s4) (by rw [hlen]; exact l4);have c5:=fun W h=>yL b s p4 2 2 rfl s4 W h hs l4 (by omega)
 generalize Lk.rdNum (sl s) 2 (p4,s4)=x5 at *;obtain ⟨nt,p5,s5⟩:=x5;rw [hlen] at l5;simp only [Int.reducePow] at *;have b6:=yS (sl s) 2 (p5,s5);have l6:=yE (sl s) 2 (p5,s5) (by rw [hlen]; exact l5);have c6:=fun W h=>yL b s p5 2 2 rfl s5 W h hs l5 (by omega)
 generalize Lk.rdNum (sl s) 2 (p5,s5)=x6 at *;obtain ⟨nf,p6,s6⟩:=x6;rw [hlen] at l6;simp only [Int.reducePow] at *;have b7:=yS (sl s) 2 (p6,s6);have l7:=yE (sl s) 2 (p6,s6) (by rw [hlen]; exact l6);have c7:=fun W h=>yL b s p6 2 2 rfl s6 W h hs l6 (by omega)
 generalize Lk.rdNum (sl s) 2 (p6,s6)=x7 at *;obtain ⟨nd,p7,s7⟩:=x7;rw [hlen] at l7;simp only [Int.reducePow] at *;have b8:=yS (sl s) 2 (p7,s7);have l8:=yE (sl s) 2 (p7,s7) (by rw [hlen]; exact l7);have c8:=fun W h=>yL b s p7 2 2 rfl s7 W h hs l7 (by omega)
 generalize Lk.rdNum (sl s) 2 (p7,s7)=x8 at *;obtain ⟨nb,p8,s8⟩:=x8;rw [hlen] at l8;simp only [Int.reducePow] at *;have l9:=Lh (sl s) 4 nt.toNat (p8,s8) (by rw [hlen]; exact l8)
 have c9:=fun W h=>K7 b s p8 nt.toNat 4 nt 4 (by omega) rfl s8 W h hs l8 (by omega) (by omega)
 generalize Lk.aR (sl s) 4 nt.toNat (p8,s8)=x9 at *;obtain ⟨tx,p9,s9⟩:=x9;rw [hlen] at l9;simp only at *;have l10:=Lh (sl s) 4 nf.toNat (p9,s9) (by rw [hlen]; exact l9)
 have c10:=fun W h=>K7 b s p9 nf.toNat 4 nf 4 (by omega) rfl s9 W h hs l9 (by omega) (by omega)
 generalize Lk.aR (sl s) 4 nf.toNat (p9,s9)=x10 at *;obtain ⟨fx,wZ,s10⟩:=x10;rw [hlen] at l10;simp only at *;have AV:=Lh (sl s) 4 nd.toNat (wZ,s10) (by rw [hlen]; exact l10)
 have c11:=fun W h=>K7 b s wZ nd.toNat 4 nd 4 (by omega) rfl s10 W h hs l10 (by omega) (by omega)
 generalize Lk.aR (sl s) 4 nd.toNat (wZ,s10)=UA at *;obtain ⟨dx,Eb,s11⟩:=UA;rw [hlen] at AV;simp only at *;replace c0:=hid c0;replace c1:=hid c1;replace c2:=hid c2;replace c3:=hid c3;replace c4:=hid c4;replace c5:=hid c5;replace c6:=hid c6;replace c7:=hid c7;replace c8:=hid c8;replace c9:=hid c9;replace c10:=hid c10;replace c11:=hid c11;have H:=hid h;clear h hlen;have ht:((bs [73,77]).toList == [73,77])=true:=by rw [yJ]; rfl
 go_enter Tryz.func44,Tryz.ntmps44;go_wp2_with fail;refine (c0.o w H.o).mono ?_;rintro e W0 ⟨rfl,r0,q0⟩;replace r0:=hid r0;replace q0:=hid q0;go_wp2_with fail;have hbg:b < W0.heap.size:=r0.o.lt;have hwg:w.heap.size<=W0.heap.size:=q0.o.size;generalize hG:W0.heap.size=g at *;refine Calls.aK (qF w b g s p0 s0 #[.int .i64 0,.int .i64 0,.int .i64 0,.int .i64 0,.slice none 0 0,.slice none 0 0,.slice none 0 0,.int .i64 0] []) (by rw [<- hG]; exact qF.begin r0.o q0.o _) ?_;clear r0 q0 hG;intro V0 h0;refine (c1.o V0 h0.rd).mono ?_;rintro e U1 ⟨rfl,r,q⟩;have S1:=hid (h0.call hbg r q);clear r q h0;have k:=S1.o.obj.cell 0
 have f:=S1.o.obj.free 0;go_wp2_with fail;refine Calls.aK (qF w b g s p1 s1 #[.int .i64 start,.int .i64 0,.int .i64 0,.int .i64 0,.slice none 0 0,.slice none 0 0,.slice none 0 0,.int .i64 0] []) (S1.o.store hbg hwg 0 _) ?_;clear k f S1 U1;intro V1 h1;refine (c2.o V1 h1.rd).mono ?_;rintro e U2 ⟨rfl,r,q⟩;have S2:=hid (h1.call hbg r q);clear r q h1;have k:=S2.o.obj.cell 1;have f:=S2.o.obj.free 1;go_wp2_with fail;refine Calls.aK (qF w b g s p2 s2 #[.int .i64 start,.int .i64 bt,.int .i64 0,.int .i64 0,.slice none 0 0,.slice none 0 0,.slice none 0 0,.int .i64 0] []) (S2.o.store hbg hwg 1 _) ?_;clear k f S2 U2
 intro V2 h2;refine (c3.o V2 h2.rd).mono ?_;rintro e U3 ⟨rfl,r,q⟩;have S3:=hid (h2.call hbg r q);clear r q h2;have k:=S3.o.obj.cell 2;have f:=S3.o.obj.free 2;go_wp2_with fail;refine Calls.aK (qF w b g s p3 s3 #[.int .i64 start,.int .i64 bt,.int .i64 bf,.int .i64 0,.slice none 0 0,.slice none 0 0,.slice none 0 0,.int .i64 0] []) (S3.o.store hbg hwg 2 _) ?_;clear k f S3 U3;intro V3 h3;refine (c4.o V3 h3.rd).mono ?_;rintro e U4 ⟨rfl,r,q⟩;have S4:=hid (h3.call hbg r q);clear r q h3;have k:=S4.o.obj.cell 3;have f:=S4.o.obj.free 3;go_wp2_with fail;refine Calls.aK (qF w b g s p4 s4 #[.int .i64 start,.int .i64 bt,.int .i64 bf,.int .i64 bd,.slice none 0 0,.slice none 0 0,.slice none 0 0,.int .i64 0] []) (S4.o.store hbg hwg 3 _) ?_
 clear k f S4 U4;intro V4 h4;refine (c5.o V4 h4.rd).mono ?_;rintro e U5 ⟨rfl,r,q⟩;have S5:=hid (h4.call hbg r q);clear r q h4;go_wp2_with fail;refine Calls.aK (qF w b g s p5 s5 #[.int .i64 start,.int .i64 bt,.int .i64 bf,.int .i64 bd,.slice none 0 0,.slice none 0 0,.slice none 0 0,.int .i64 0] []) S5.o ?_;clear S5 U5;intro V5 h5;refine (c6.o V5 h5.rd).mono ?_;rintro e U6 ⟨rfl,r,q⟩;have S6:=hid (h5.call hbg r q);clear r q h5;go_wp2_with fail;refine Calls.aK (qF w b g s p6 s6 #[.int .i64 start,.int .i64 bt,.int .i64 bf,.int .i64 bd,.slice none 0 0,.slice none 0 0,.slice none 0 0,.int .i64 0] []) S6.o ?_
 clear S6 U6;intro V6 h6;refine (c7.o V6 h6.rd).mono ?_;rintro e U7 ⟨rfl,r,q⟩;have S7:=hid (h6.call hbg r q);clear r q h6;go_wp2_with fail;refine Calls.aK (qF w b g s p7 s7 #[.int .i64 start,.int .i64 bt,.int .i64 bf,.int .i64 bd,.slice none 0 0,.slice none 0 0,.slice none 0 0,.int .i64 0] []) S7.o ?_;clear S7 U7;intro V7 h7;refine (c8.o V7 h7.rd).mono ?_;rintro e U8 ⟨rfl,r,q⟩;have S8:=hid (h7.call hbg r q);clear r q h7;have k:=S8.o.obj.cell 7;have f:=S8.o.obj.free 7;go_wp2_with fail;refine Calls.aK (qF w b g s p8 s8 #[.int .i64 start,.int .i64 bt,.int .i64 bf,.int .i64 bd,.slice none 0 0,.slice none 0 0,.slice none 0 0,.int .i64 nb] []) (S8.o.store hbg hwg 7 _) ?_
 clear k f S8 U8;intro V8 h8;refine (c9.o V8 h8.rd).mono ?_;rintro e U9 ⟨v,rfl,o,r,q⟩;obtain ⟨JR,ctx,rfl⟩:=yh o;have S9:=hid (h8.row hbg r q ⟨3,1,(.slice JR tx.length ctx),tx.length,tx.map (Value.int .i64)⟩ o);clear r q o h8;have k:=S9.o.obj.cell 4;have f:=S9.o.obj.free 4;go_wp2_with fail;refine Calls.aK (qF w b g s p9 s9 #[.int .i64 start,.int .i64 bt,.int .i64 bf,.int .i64 bd,(.slice JR tx.length ctx),.slice none 0 0,.slice none 0 0,.int .i64 nb] [⟨3,1,(.slice JR tx.length ctx),tx.length,tx.map (Value.int .i64)⟩]) (S9.o.store hbg hwg 4 _) ?_;clear k f S9 U9;intro V9 h9;refine (c10.o V9 h9.rd).mono ?_
 rintro e Tc ⟨v,rfl,o,r,q⟩;obtain ⟨Nz,NS,rfl⟩:=yh o;have rU:=hid (h9.row hbg r q ⟨3,1,(.slice Nz fx.length NS),fx.length,fx.map (Value.int .i64)⟩ o);clear r q o h9;have k:=rU.o.obj.cell 5;have f:=rU.o.obj.free 5;go_wp2_with fail;refine Calls.aK (qF w b g s wZ s10 #[.int .i64 start,.int .i64 bt,.int .i64 bf,.int .i64 bd,(.slice JR tx.length ctx),(.slice Nz fx.length NS),.slice none 0 0,.int .i64 nb] [⟨3,1,(.slice Nz fx.length NS),fx.length,fx.map (Value.int .i64)⟩,⟨3,1,(.slice JR tx.length ctx),tx.length,tx.map (Value.int .i64)⟩]) (rU.o.store hbg hwg 5 _) ?_;clear k f rU Tc;intro Nw h10;refine (c11.o Nw h10.rd).mono ?_
 rintro e Xp ⟨v,rfl,o,r,q⟩;obtain ⟨Qk,Qs,rfl⟩:=yh o;have sV:=hid (h10.row hbg r q ⟨3,1,(.slice Qk dx.length Qs),dx.length,dx.map (Value.int .i64)⟩ o);clear r q o h10;have k:=sV.o.obj.cell 6;have f:=sV.o.obj.free 6;go_wp2;go_ret;have F:=sV.o.store hbg hwg 6 (.slice Qk dx.length Qs);refine ⟨g,rfl,hwg,⟨(.slice JR tx.length ctx),(.slice Nz fx.length NS),(.slice Qk dx.length Qs),F.obj,?_,?_,?_⟩,F.rd,F.gr⟩
 ·exact yZ (F.rows ⟨3,1,(.slice JR tx.length ctx),tx.length,tx.map (Value.int .i64)⟩ (by simp)) (Nat.zero_le _)
 ·exact yZ (F.rows ⟨3,1,(.slice Nz fx.length NS),fx.length,fx.map (Value.int .i64)⟩ (by simp)) (Nat.zero_le _)
 ·exact yZ (F.rows ⟨3,1,(.slice Qk dx.length Qs),dx.length,dx.map (Value.int .i64)⟩ (by simp)) (Nat.zero_le _)
theorem yky (b:Nat) (s:ByteArray) (p:Nat) (sh:Bool) (w:World) (h:bF w b s p sh)
  (hs:s.size<=1048576) (hp:p<=s.size) (hmark:(Lk.aF (sl s) 2 (p,sh)).1≠[73,77]) :
  Calls Tryz.prog 44 #[.pointer (some ⟨b,0,none⟩)] w fun e w'=>e = .returned (.pointer none)/\w.grownBy w' (some b):=by
 have c0:=fun W h=>Le b s p 2 2 rfl sh W h hs hp (by omega)
 generalize Lk.aF (sl s) 2 (p,sh)=x0 at *;obtain ⟨mk,p0,s0⟩:=x0;simp only at hmark c0;replace c0:=hid c0;have H:=hid h;clear h;have ht:((bs mk).toList == [73,77])=false:=by rw [yJ]; simpa using hmark
 clear hmark;go_enter Tryz.func44,Tryz.ntmps44;go_wp2_with fail;refine (c0.o w H.o).mono ?_;rintro e W0 ⟨rfl,r0,q0⟩;replace r0:=hid r0;replace q0:=hid q0;go_wp2;go_ret;exact ⟨rfl,q0.o⟩
theorem QT (a:Int) (w:World) (h0:0<=a) (h1:a < 4294967296) :
  Calls Tryz.prog 80 #[.int .i64 a] w fun e w'=>yg e (Im.Base a)/\w'=w:=by
 by_cases c1:4096<=a
 ·by_cases c2:a < 1073741824
  ·by_cases c3:a % 16=0
   ·have d1:decide (4096<=a)=true:=by simpa using c1
    have d2:decide (a < 1073741824)=true:=by simpa using c2
    have d3:(a % 16 == 0)=true:=by simpa using c3
    have Q:=hid (show Im.Base a from ⟨⟨c1,c2⟩,c3⟩);clear c1 c2 c3;go_enter Tryz.func80,Tryz.ntmps80;go_wp2;go_ret;exact ⟨yg.yes Q.o,rfl⟩
   ·have d1:decide (4096<=a)=true:=by simpa using c1
    have d2:decide (a < 1073741824)=true:=by simpa using c2
    have d3:(a % 16 == 0)=false:=by simpa using c3
    have Q:=hid (show ¬ Im.Base a from fun h=>c3 h.2);clear c1 c2 c3;go_enter Tryz.func80,Tryz.ntmps80;go_wp2;go_ret;exact ⟨yg.no Q.o,rfl⟩
  ·have d1:decide (4096<=a)=true:=by simpa using c1
   have d2:decide (a < 1073741824)=false:=by simpa using c2
   have Q:=hid (show ¬ Im.Base a from fun h=>c2 h.1.2);clear c1 c2;go_enter Tryz.func80,Tryz.ntmps80;go_wp2;go_ret;exact ⟨yg.no Q.o,rfl⟩
 ·have d1:decide (4096<=a)=false:=by simpa using c1
  have Q:=hid (show ¬ Im.Base a from fun h=>c1 h.1.1);clear c1;go_enter Tryz.func80,Tryz.ntmps80;go_wp2;go_ret;exact ⟨yg.no Q.o,rfl⟩
theorem U0 (a:Int) (n:Int) (w:World) (h0:0<=a) (h1:a < 4294967296) (h2:0<=n) (h3:n<=1048576) :
  Calls Tryz.prog 111 #[.int .i64 a,.int .i64 n] w fun e w'=>e = .returned (.agg #[.int .i64 a,.int .i64 (a+4 * n)])/\w'=w.alloc (.cells #[.int .i64 a,.int .i64 (a+4 * n)] 171):=by
 have e1:IntKind.i64.wrap (4 * n)=4 * n:=IntWalk.i64_in _ ⟨by omega,by omega⟩;have e2:IntKind.i64.wrap (a+4 * n)=a+4 * n:=IntWalk.i64_in _ ⟨by omega,by omega⟩;go_enter Tryz.func111,Tryz.ntmps111;go_wp2;refine bodyPost_ret (v:=.agg #[.int .i64 a,.int .i64 (a+4 * n)]) ?_ rfl ⟨rfl,rfl⟩;simp [results,Tryz.results111,go_sem]
theorem VB (a b c d:Int) (w:World) :
  Calls Tryz.prog 112 #[.agg #[.int .i64 a,.int .i64 b],.agg #[.int .i64 c,.int .i64 d]] w fun e w'=>yg e (Im.kD a b c d)/\w.grownBy w' none:=by
 have G:=hid (ya (aH w (.cells #[.int .i64 a,.int .i64 b] 171) none) (aH _ (.cells #[.int .i64 c,.int .i64 d] 171) none));by_cases c1:a=b
 ·have Q:=hid (show ¬ Im.kD a b c d from fun h=>h.1 c1);have d1:(a == b)=true:=by simpa using c1
  clear c1;go_enter Tryz.func112,Tryz.ntmps112;go_wp2;go_ret;exact ⟨yg.no Q.o,G.o⟩
 ·by_cases c2:c=d
  ·have Q:=hid (show ¬ Im.kD a b c d from fun h=>h.2.1 c2);have d1:(a == b)=false:=by simpa using c1
   have d2:(c == d)=true:=by simpa using c2
   clear c1 c2;go_enter Tryz.func112,Tryz.ntmps112;go_wp2;go_ret;exact ⟨yg.no Q.o,G.o⟩
  ·have d1:(a == b)=false:=by simpa using c1
   have d2:(c == d)=false:=by simpa using c2
   by_cases c3:a < d
   ·have d3:decide (a < d)=true:=by simpa using c3
    have Q:=hid (show decide (c < b)=true↔Im.kD a b c d from by rw [decide_eq_true_iff]; exact ⟨fun h=>⟨c1,c2,c3,h⟩,fun h=>h.2.2.2⟩);clear c1 c2 c3;go_enter Tryz.func112,Tryz.ntmps112;go_wp2;go_ret;exact ⟨yg.of Q.o,G.o⟩
   ·have d3:decide (a < d)=false:=by simpa using c3
    have Q:=hid (show ¬ Im.kD a b c d from fun h=>c3 h.2.2.1);clear c1 c2 c3;go_enter Tryz.func112,Tryz.ntmps112;go_wp2;go_ret;exact ⟨yg.no Q.o,G.o⟩
namespace Im
def place (base:Int) (n:Nat) (a:Int):Int:=if base<=a/\(a - base) % 4=0/\(a - base) / 4 < n then (a - base) / 4 else -1
theorem Ec {base:Int} {n:Nat} {a:Int} (h:In base n a):place base n a=(a - base) / 4:=if_pos h
theorem pE {base:Int} {n:Nat} {a:Int} (h:¬ In base n a):place base n a = -1:=if_neg h
end Im
theorem Vp (ao:Option Addr) (n cap:Nat) (base a:Int) (w:World) (h0:0<=a) (h1:a < 4294967296) (h2:0<=base) (h3:base < 4294967296) :
  Calls Tryz.prog 115 #[.slice ao n cap,.int .i64 base,.int .i64 a] w fun e w'=>e = .returned (.int .i64 (Im.place base n a))/\w'=w:=by
 by_cases c1:a < base
 ·have R:=hid (Im.pE (n:=n) (show ¬ Im.In base n a from fun h=>by have:=h.1; omega));have d1:decide (a < base)=true:=by simpa using c1
  clear c1;go_enter Tryz.func115,Tryz.ntmps115;go_wp2;go_ret;rw [R.o];exact ⟨rfl,rfl⟩
 ·have d1:decide (a < base)=false:=by simpa using c1
  have e1:IntKind.i64.wrap (a - base)=a - base:=IntWalk.i64_in _ ⟨by omega,by omega⟩;have e2:(a - base).tmod 4=(a - base) % 4:=Int.tmod_eq_emod_of_nonneg (by omega);have e3:(a - base).tdiv 4=(a - base) / 4:=Int.tdiv_eq_ediv_of_nonneg (by omega);by_cases c2:(a - base) % 4=0
  ·have d2:((a - base) % 4 == 0)=true:=by simpa using c2
   by_cases c3:(a - base) / 4 < n
   ·have R:=hid (Im.Ec (show Im.In base n a from ⟨by omega,c2,c3⟩));have d3:decide ((n:Int)<=(a - base) / 4)=false:=by simp; omega
    go_enter Tryz.func115,Tryz.ntmps115;go_wp2;go_ret;rw [R.o];exact ⟨rfl,rfl⟩
   ·have R:=hid (Im.pE (show ¬ Im.In base n a from fun h=>c3 h.2.2));have d3:decide ((n:Int)<=(a - base) / 4)=true:=by simp; omega
    go_enter Tryz.func115,Tryz.ntmps115;go_wp2;go_ret;rw [R.o];exact ⟨rfl,rfl⟩
  ·have d2:((a - base) % 4 == 0)=false:=by simpa using c2
   have R:=hid (Im.pE (n:=n) (show ¬ Im.In base n a from fun h=>c2 h.2.1));go_enter Tryz.func115,Tryz.ntmps115;go_wp2;go_ret;rw [R.o];exact ⟨rfl,rfl⟩
namespace Im
def code (m:eU) (a:Int):Option Int :=
 if 0<=place m.text m.T.length a then some (m.T.getD (place m.text m.T.length a).toNat 0)
 else if 0<=place m.far m.F.length a then some (m.F.getD (place m.far m.F.length a).toNat 0) else none
theorem ko (base:Int) (n:Nat) (a:Int):place base n a = -1\/(0<=place base n a/\place base n a < n):=by
 unfold place;split
 ·right; omega
 ·left; rfl
theorem tN (base:Int) (n:Nat) (a:Int):0<=place base n a↔In base n a:=by
 unfold place In;split
 ·rename_i h; exact ⟨fun _=>h,fun _=>by omega⟩
 ·rename_i h; exact ⟨fun k=>by omega,fun k=>absurd k h⟩
theorem CW (m:eU) (a:Int):(code m a).isSome=true↔In m.text m.T.length a\/In m.far m.F.length a:=by
 unfold code;rw [<- tN,<- tN];by_cases h:0<=place m.text m.T.length a
 ·simp [h]
 ·by_cases k:0<=place m.far m.F.length a <;> simp [h,k]
structure jH (m:eU):Prop where
 start:0<=m.start/\m.start < 4294967296
 text:0<=m.text/\m.text < 4294967296
 far:0<=m.far/\m.far < 4294967296
 data:0<=m.data/\m.data < 4294967296
 lens:m.T.length<=65535/\m.F.length<=65535/\m.D.length<=65535
 noughts:0<=m.noughts/\m.noughts<=65535
end Im
theorem nA.open {W:World} {g:Nat} {m:Im.eU} (h:nA W g m):∃ at_ ct af cf ad cd,
  yc W g #[.int .i64 m.start,.int .i64 m.text,.int .i64 m.far,.int .i64 m.data,.slice at_ m.T.length ct,.slice af m.F.length cf,.slice ad m.D.length cd,.int .i64 m.noughts] 90 /\
  W.ownsRow 0 3 1 (.slice at_ m.T.length ct) m.T.length (m.T.map (Value.int .i64))/\W.ownsRow 0 3 1 (.slice af m.F.length cf) m.F.length (m.F.map (Value.int .i64)) /\
  W.ownsRow 0 3 1 (.slice ad m.D.length cd) m.D.length (m.D.map (Value.int .i64)):=by
 obtain ⟨vt,vf,vd,hb,h1,h2,h3⟩:=h;obtain ⟨at_,ct,rfl⟩:=yh h1;obtain ⟨af,cf,rfl⟩:=yh h2;obtain ⟨ad,cd,rfl⟩:=yh h3;exact ⟨at_,ct,af,cf,ad,cd,hb,h1,h2,h3⟩
theorem nA.kept {W W':World} {g:Nat} {m:Im.eU} (h:nA W g m) (hg:W.grownBy W' none):nA W' g m:=by
 obtain ⟨vt,vf,vd,hb,h1,h2,h3⟩:=h;have k:∀ {v:Value} {n:Nat} {xs:List Value},W.ownsRow 0 3 1 v n xs->W'.ownsRow 0 3 1 v n xs:=fun h=>h.kept hg (by
  cases h':Value.ownBlock _ with
  | none=>exact .inl rfl
  | some b=>right; simp)
 exact ⟨vt,vf,vd,hb.grown hg (by simp),k h1,k h2,k h3⟩
theorem Rh (g:Nat) (m:Im.eU) (a:Int) (w:World) (h:nA w g m) (ht:Im.jH m) (h0:0<=a) (h1:a < 4294967296) :
  Calls Tryz.prog 76 #[.pointer (some ⟨g,0,none⟩),.int .i64 a] w fun e w'=>e = .returned (.tuple #[.int .i64 ((Im.code m a).getD 0),.bool (Im.code m a).isSome])/\∃ n,w'=w.drewN n:=by
 obtain ⟨at_,ct,af,cf,ad,cd,hb,q1,q2,-⟩:=h.open;have hc1:=rR q1;have hc2:=rR q2;have I1:=hid (yC.aU q1);have I2:=hid (yC.aU q2);have k1:=hb.cell 1;have k2:=hb.cell 2;have k4:=hb.cell 4;have k5:=hb.cell 5;simp only [bJ,bN,bL] at k1 k2 k4 k5;have cT:=hid (fun W=>Vp at_ m.T.length ct m.text a W h0 h1 ht.text.1 ht.text.2);have cF:=hid (fun W=>Vp af m.F.length cf m.far a W h0 h1 ht.far.1 ht.far.2);obtain ⟨X,hX⟩:∃ X,X=Im.code m a:=⟨_,rfl⟩
 rw [<- hX];unfold Im.code at hX;have RX:=hid hX;have r1:=Im.ko m.text m.T.length a;have r2:=Im.ko m.far m.F.length a;have L:=hid ht.lens;clear hX h ht hb q1 q2;generalize Im.place m.text m.T.length a=i at *;generalize Im.place m.far m.F.length a=j at *;have hl1:=L.o.1;have hl2:=L.o.2.1;by_cases ci:0<=i
 ·have d1:decide (0<=i)=true:=by simpa using ci
  have hi:i.toNat < m.T.length:=by omega
  obtain ⟨sg,off,rfl,hcell⟩:=I1.o (by omega);have hck:=hcell i.toNat hi;rw [if_pos ci] at RX;have GE:=hid (show m.T.getD i.toNat 0=m.T[i.toNat] from by rw [lN,jW hi]; rfl);rw [GE.o] at RX;have g1:i < (m.T.length:Int):=by omega
  clear hcell r1 r2 cF I1 I2 L GE;generalize m.T[i.toNat]=v at *;obtain ⟨n,rfl⟩:∃ n:Nat,i=n:=⟨i.toNat,by omega⟩
  rw [Int.toNat_natCast] at hck hi;go_enter Tryz.func76,Tryz.ntmps76;go_wp2
  go_quiet ((go_at_call 115; exact Calls.quiet_of_same (cT.o _)))
  go_wp2;go_ret2;rw [RX.o];exact ⟨rfl,_,rfl⟩
 ·have d1:decide (0<=i)=false:=by simpa using ci
  rw [if_neg ci] at RX;obtain rfl:i = -1:=by omega
  clear I1 r1;by_cases cj:0<=j
  ·have d2:decide (0<=j)=true:=by simpa using cj
   have hj:j.toNat < m.F.length:=by omega
   obtain ⟨sg,off,rfl,hcell⟩:=I2.o (by omega);have hck:=hcell j.toNat hj;rw [if_pos cj] at RX;have GE:=hid (show m.F.getD j.toNat 0=m.F[j.toNat] from by rw [lN,jW hj]; rfl);rw [GE.o] at RX;have g1:j < (m.F.length:Int):=by omega
   clear hcell r2 I2 L GE;generalize m.F[j.toNat]=v at *;obtain ⟨n,rfl⟩:∃ n:Nat,j=n:=⟨j.toNat,by omega⟩
   rw [Int.toNat_natCast] at hck hj;go_enter Tryz.func76,Tryz.ntmps76;go_wp2
   go_quiet ((go_at_call 115; exact Calls.quiet_of_same (cT.o _)))
   go_wp2;have HE:=hid (show ∃ n,w.drewN nq=w.drewN n from ⟨_,rfl⟩);replace k2:(w.drewN nq).cell? ⟨g,2,none⟩=some (.int .i64 m.far):=k2;replace k5:(w.drewN nq).cell? ⟨g,5,none⟩=some (.slice (some ⟨sg,off,none⟩) m.F.length cf):=k5;replace hck:(w.drewN nq).cell? ⟨sg,off+n,none⟩=some (.int .i64 v):=hck;generalize w.drewN nq=V at *
   go_quiet ((go_at_call 115; exact Calls.quiet_of_same (cF.o _)))
   go_wp2;go_ret2;rw [RX.o];exact ⟨rfl,by obtain ⟨q,hq⟩:=HE.o; exact ⟨_,by rw [hq,World.drewN_drewN]⟩⟩
  ·have d2:decide (0<=j)=false:=by simpa using cj
   rw [if_neg cj] at RX;obtain rfl:j = -1:=by omega
   go_enter Tryz.func76,Tryz.ntmps76;go_wp2
   go_quiet ((go_at_call 115; exact Calls.quiet_of_same (cT.o _)))
   go_wp2;have HE:=hid (show ∃ n,w.drewN nq=w.drewN n from ⟨_,rfl⟩);replace k2:(w.drewN nq).cell? ⟨g,2,none⟩=some (.int .i64 m.far):=k2;replace k5:(w.drewN nq).cell? ⟨g,5,none⟩=some (.slice af m.F.length cf):=k5;generalize w.drewN nq=V at *
   go_quiet ((go_at_call 115; exact Calls.quiet_of_same (cF.o _)))
   go_wp2;go_ret2;rw [RX.o];exact ⟨rfl,by obtain ⟨q,hq⟩:=HE.o; exact ⟨_,by rw [hq,World.drewN_drewN]⟩⟩
end Go.Proofs.YtpgklkhgfcjceaaGreatDoor
