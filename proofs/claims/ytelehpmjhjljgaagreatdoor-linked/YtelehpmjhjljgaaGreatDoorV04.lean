
import Derived.Test.YtelehpmjhjljgaaGreatDoorV03
import Derived.Maps.AppendAt
set_option maxHeartbeats 16000000
set_option maxRecDepth 100000
namespace Go.Proofs.YtelehpmjhjljgaaGreatDoor
open Go.RowKit
def eY (form n:Int):Int:=if form=1\/form=2\/form=3\/form=6 then bits .and .i64 (n / 128) 31 else 0
def bE (form n:Int):Int:=if form=3\/form=4\/form=5\/form=6 then bits .and .i64 (n / 32768) 31 else 0
def iQ (form n:Int):Int:=if form=4\/form=5\/form=6 then bits .and .i64 (n / 1048576) 31 else 0
def gP (op rd dP fq m:Int):Value:=.agg #[.int .i64 op,.int .i64 rd,.int .i64 dP,.int .i64 fq,.int .i64 m]
def Zl (e:Ending) (op form n:Int):Prop:=∃ m,e = .returned (gP op (eY form n) (bE form n) (iQ form n) m)/\(m=0↔yk form n)
theorem ylf (op form n:Int) (w:World) (h0:0<=n) (h1:n<=4294967295) (hf:1<=form/\form<=7) :
  Calls Tryz.prog 143 #[.int .i64 op,.int .i64 form,.int .i64 n] w fun e w'=>Zl e op form n/\w.grownBy w' none:=by
 have cT:=hid (fun W=>yhO form n W h0 h1);have G1:=hid (fun o:Obj=>aH w o none);have G2:=hid (fun o o':Obj=>aH (w.alloc o) o' none);have Z:Hd (∀ m,(m=0↔yk form n)->∀ e,e=Ending.returned (gP op (eY form n) (bE form n) (iQ form n) m)->Zl e op form n):=fun m hm e he=>⟨m,he,hm⟩
 have S:=hid (show ∀ (W:World) (a b:Nat) (cs zs:Array Value),True from fun _ _ _ _ _=>trivial);rcases (show form=1\/form=2\/form=3\/form=4\/form=5\/form=6\/form=7 from by omega) with rfl | rfl | rfl | rfl | rfl | rfl | rfl
 all_goals
  clear hf S;go_enter Tryz.func143,Tryz.ntmps143;go_wp2_with fail;refine (cT.o _).mono ?_;rintro e w1 ⟨⟨m,rfl,hm⟩,rfl⟩;have HM:=hid hm;clear hm cT;go_wp2;refine bodyPost_ret (v:=gP op (eY _ n) (bE _ n) (iQ _ n) m) ?_ rfl ⟨⟨m,rfl,HM.o⟩,ya (G1.o _) (G2.o _ _)⟩;simp [results,Tryz.results143,go_sem,gP,eY,bE,iQ]
def mR:List Int:=[0,1,1,2,3,4,4,4,4,4,4,3,5,3,3,3,3,3,6,6,6,6,6,6,6,7]
def xu:List Int:=[0,55,23,111,103,99,4195,16483,20579,24675,28771,8195,8227,19,8211,16403,24595,28691,51,1073741875,8243,12339,16435,24627,28723,115]
structure fZ (w:World):Prop where
 form:∀ i,i < 26->w.cell? ⟨0,i,none⟩=some (.int .i64 (mR.getD i 0))
 fix:∀ i,i < 26->w.cell? ⟨1,i,none⟩=some (.int .i64 (xu.getD i 0))
theorem fZ.grown {w w':World} (h:fZ w) (hg:w.grownBy w' none):fZ w':=⟨fun i hi=>yc (h.form i hi) hg,fun i hi=>yc (h.fix i hi) hg⟩
def xw (form:Int):Int:=if form=1\/form=2 then 127 else if form=3\/form=4\/form=5 then 28799 else if form=6 then 4261441663 else 4294967295
theorem WJ (form:Int) (w:World) (hf:1<=form/\form<=7) :
  Calls Tryz.prog 142 #[.int .i64 form] w fun e w'=>e = .returned (.int .i64 (xw form))/\w'=w:=by
 rcases (show form=1\/form=2\/form=3\/form=4\/form=5\/form=6\/form=7 from by omega) with rfl | rfl | rfl | rfl | rfl | rfl | rfl
 all_goals
  clear hf;go_enter Tryz.func142,Tryz.ntmps142;go_wp2;go_ret;exact ⟨by simp [xw],rfl⟩
def Is (k:Nat) (n:Int):Prop:=bits .and .i64 n (xw (mR.getD k 0))=xu.getD k 0
def Dec (n op rd dP m:Int):Prop :=
 (op=0/\rd=0/\dP=0/\m=0/\∀ k,1<=k->k<=25->¬ Is k n) \/
 ∃ k:Nat,1<=k/\k<=25/\Is k n/\(∀ j,1<=j->j < k->¬ Is j n)/\op=k/\rd=eY (mR.getD k 0) n/\dP=bE (mR.getD k 0) n/\(m=0↔yk (mR.getD k 0) n)
def yoF (e:Ending) (n:Int):Prop:=∃ op rd dP fq m,e = .returned (gP op rd dP fq m)/\Dec n op rd dP m
theorem Ke (k:Nat) (h1:1<=k) (h2:k<=25):1<=mR.getD k 0/\mR.getD k 0<=7:=by
 have:∀ k,k < 26->1<=k->1<=mR.getD k 0/\mR.getD k 0<=7:=by decide
 exact this k (by omega) h1
theorem yB {w W:World} (h:w.grownBy W none) {b:Nat} (hb:w.heap.size<=b) (o:Nat) (v:Value):w.grownBy (W.setCell ⟨b,o,none⟩ v) none :=
 ⟨h.os,h.tape,h.output,by simpa [World.setCell] using h.size,fun i hi _=>(Below.heap_setCell W ⟨b,o,none⟩ v i (by simp; omega)).trans (h.block i hi (by simp))⟩
theorem BH {w W:World} {a0 a1 a2 a3 a4:Value} (h:w.grownBy W none) (hB:ye W w.heap.size #[a0,a1,a2,a3,a4] 195) (b0 b1 b2 b3 b4:Value) :
  ye (((((W.setCell ⟨w.heap.size,0,none⟩ b0).setCell ⟨w.heap.size,1,none⟩ b1).setCell ⟨w.heap.size,2,none⟩ b2).setCell ⟨w.heap.size,3,none⟩ b3).setCell ⟨w.heap.size,4,none⟩ b4) w.heap.size #[b0,b1,b2,b3,b4] 195 /\
  w.grownBy (((((W.setCell ⟨w.heap.size,0,none⟩ b0).setCell ⟨w.heap.size,1,none⟩ b1).setCell ⟨w.heap.size,2,none⟩ b2).setCell ⟨w.heap.size,3,none⟩ b3).setCell ⟨w.heap.size,4,none⟩ b4) none :=
 ⟨((((hB.set 0 b0).set 1 b1).set 2 b2).set 3 b3).set 4 b4,yB (yB (yB (yB (yB h (Nat.le_refl _) _ _) (Nat.le_refl _) _ _) (Nat.le_refl _) _ _) (Nat.le_refl _) _ _) (Nat.le_refl _) _ _⟩
theorem Ri (n:Int) (w:World) (ht:fZ w) (h0:0<=n) (h1:n<=4294967295) :
  Calls Tryz.prog 130 #[.int .i64 n] w fun e w'=>yoF e n/\w.grownBy w' none:=by
 have HT:=hid ht;clear ht;have G:=hid (fun o:Obj=>aH w o none);go_enter Tryz.func130,Tryz.ntmps130;go_wp2
 go_loopw [3] (fun i wr=>∃ k:Nat,1<=k/\k<=26/\i = .int .i64 k/\(∀ j,1<=j->j < k->¬ Is j n)/\w.grownBy wr none/\ye wr w.heap.size #[.int .i64 0,.int .i64 0,.int .i64 0,.int .i64 0,.int .i64 0] 195) (fun i _=>26 - (intOf i).toNat)
 case atStart=>exact ⟨1,Nat.le_refl _,by omega,rfl,fun j h1 h2=>by omega,G.o _,ye.new _ _ _⟩
 case round =>
  obtain ⟨k,hk1,hk2,rfl,hall,hgr,hbk⟩:=hrel;have HA:=hid hall;have HG:=hid hgr;have HB:=hid hbk;clear hall hgr hbk;by_cases hlt:k<=25
  ·have T:=HT.o.grown HG.o;have cf:=T.form k (by omega);have cx:=T.fix k (by omega);have hfr:=Ke k hk1 hlt;clear T;have Cw:=hid (show Is k n↔bits .and .i64 n (xw (mR.getD k 0))=xu.getD k 0 from Iff.rfl);generalize hF:mR.getD k 0=f at *;generalize xu.getD k 0=x at *;have HF:=hid hF;clear hF;have cM:=hid (fun W=>WJ f W hfr);have g1:(1:Int)<=(k:Int):=by omega
   have g2:(k:Int)<=25:=by omega
   by_cases hI:Is k n
   ·have d:(bits .and .i64 n (xw f) == x)=true:=beq_iff_eq.2 (Cw.o.1 hI);have HI:=hid hI;have cF:=hid (fun W=>ylf k f n W h0 h1 hfr);clear hI;go_wp2
    go_quiet ((go_at_call 142; exact Calls.quiet_of_same (cM.o _)))
    go_wp2_with fail;refine (cF.o _).mono ?_;rintro e w2 ⟨⟨m,rfl,hm⟩,hq⟩;unfold gP;have B2:=hid ((HB.o.drewN nq).grown hq (by simp));have G2:=hid (ya (yd HG.o nq) hq);have HM:=hid hm;have k0:=B2.o.cell 0;have k1:=B2.o.cell 1;have k2:=B2.o.cell 2;have k3:=B2.o.cell 3;have k4:=B2.o.cell 4;have f0:=B2.o.free 0;have f1:=B2.o.free 1;have f2:=B2.o.free 2;have f3:=B2.o.free 3;have f4:=B2.o.free 4;clear hm hq;generalize hrd:eY f n=rd at *;generalize hr1:bE f n=r1 at *;have Dy:=hid hrd;have HR1:=hid hr1;clear hrd hr1;generalize iQ f n=r2 at *;go_wp2;have F:=BH G2.o B2.o (.int .i64 k) (.int .i64 rd) (.int .i64 r1) (.int .i64 r2) (.int .i64 m)
    have e0:=F.1.cell 0;have e1:=F.1.cell 1;have e2:=F.1.cell 2;have e3:=F.1.cell 3;have e4:=F.1.cell 4;refine bodyPost_ret (v:=gP k rd r1 r2 m) ?_ rfl ⟨⟨k,rd,r1,r2,m,rfl,.inr ⟨k,hk1,hlt,HI.o,HA.o,rfl,?_,?_,?_⟩⟩,F.2⟩
    ·clear F k0 k1 k2 k3 k4 f0 f1 f2 f3 f4 B2 G2;generalize World.setCell _ _ _=WF at *;simp [results,Tryz.results130,go_sem,gP,e0,e1,e2,e3,e4]
    ·rw [HF.o,Dy.o]
    ·rw [HF.o,HR1.o]
    ·rw [HF.o]; exact HM.o
   ·have d:(bits .and .i64 n (xw f) == x)=false:=beq_eq_false_iff_ne.2 (fun h=>hI (Cw.o.2 h));have HI:=hid hI;clear hI;go_wp2
    go_quiet ((go_at_call 142; exact Calls.quiet_of_same (cM.o _)))
    go_wp2
    go_roundw
    case rel=>exact ⟨k+1,by omega,by omega,by go_num,fun j hj hjk=>(Nat.lt_succ_iff_lt_or_eq.1 hjk).elim (fun h=>HA.o j hj h) (fun h=>by subst h; exact HI.o),yd HG.o _,HB.o.drewN _⟩
    case measure=>simp [intOf]; omega
  ·have k0:=HB.o.cell 0;have k1:=HB.o.cell 1;have k2:=HB.o.cell 2;have k3:=HB.o.cell 3;have k4:=HB.o.cell 4;have f0:=HB.o.free 0;have f1:=HB.o.free 1;have f2:=HB.o.free 2;have f3:=HB.o.free 3;have f4:=HB.o.free 4;go_wp2;have F:=BH HG.o HB.o (.int .i64 0) (.int .i64 0) (.int .i64 0) (.int .i64 0) (.int .i64 0);have e0:=F.1.cell 0;have e1:=F.1.cell 1;have e2:=F.1.cell 2;have e3:=F.1.cell 3;have e4:=F.1.cell 4;refine bodyPost_ret (v:=gP 0 0 0 0 0) ?_ rfl ⟨⟨0,0,0,0,0,rfl,.inl ⟨rfl,rfl,rfl,rfl,fun j h1 h2=>HA.o j h1 (by omega)⟩⟩,F.2⟩;clear F k0 k1 k2 k3 k4 f0 f1 f2 f3 f4;generalize World.setCell _ _ _=WF at *
   simp [results,Tryz.results130,go_sem,gP,e0,e1,e2,e3,e4]
theorem Da (a b:Int) (k:Nat) (ha:0<=a) (ha':a < 9223372036854775808) (hk:a % (2:Int) ^ k=0) (hb:0<=b) (hb':b < (2:Int) ^ k) (hb2:b < 9223372036854775808):bits .or .i64 a b=a+b:=by
 obtain ⟨x,rfl⟩:=Int.eq_ofNat_of_zero_le ha;obtain ⟨y,rfl⟩:=Int.eq_ofNat_of_zero_le hb;have e:((2 ^ k:Nat):Int)=(2:Int) ^ k:=by simp
 rw [<- e] at hb' hk;rw [vI x y (by omega) (by omega)];have hx:x=2 ^ k * (x / 2 ^ k):=by
  have h1:x % 2 ^ k=0:=by omega
  have:=Nat.div_add_mod x (2 ^ k)
  omega
 have h:=Nat.two_pow_add_eq_or_of_lt (i:=k) (b:=y) (by omega) (x / 2 ^ k);rw [<- hx] at h;omega
namespace Mc
def v2 (n:Int):Int:=n / 2147483648 % 2 * 1048576+n / 4096 % 256 * 4096+n / 1048576 % 2 * 2048+n / 2097152 % 1024 * 2
def v4 (n:Int):Int:=n / 2147483648 % 2 * 4096+n / 128 % 2 * 2048+n / 33554432 % 64 * 32+n / 256 % 16 * 2
def v5 (n:Int):Int:=n / 33554432 % 128 * 32+n / 128 % 32
def fA (form n:Int):Int :=
 if form=1 then n / 4096 % 1048576
 else if form=2 then (if v2 n < 1048576 then v2 n else v2 n - 2097152)
 else if form=3 then (if n / 1048576 % 4096 < 2048 then n / 1048576 % 4096 else n / 1048576 % 4096 - 4096)
 else if form=4 then (if v4 n < 4096 then v4 n else v4 n - 8192)
 else if form=5 then (if v5 n < 2048 then v5 n else v5 n - 4096)
 else 0
end Mc
theorem ynP (n:Int) (h0:0<=n) (h1:n<=4294967295):t2 n=Mc.v2 n:=by
 unfold t2 Mc.v2;rw [low (n / 2147483648) 1 (by decide) 1 2 rfl rfl (by omega) (by omega),low (n / 4096) 8 (by decide) 255 256 rfl rfl (by omega) (by omega),low (n / 1048576) 1 (by decide) 1 2 rfl rfl (by omega) (by omega),low (n / 2097152) 10 (by decide) 1023 1024 rfl rfl (by omega) (by omega)];rw [IntWalk.wrap64_in (n / 2147483648 % 2 * 1048576) ⟨by omega,by omega⟩,IntWalk.wrap64_in (n / 4096 % 256 * 4096) ⟨by omega,by omega⟩,IntWalk.wrap64_in (n / 1048576 % 2 * 2048) ⟨by omega,by omega⟩,IntWalk.wrap64_in (n / 2097152 % 1024 * 2) ⟨by omega,by omega⟩];rw [Da (n / 2147483648 % 2 * 1048576) (n / 4096 % 256 * 4096) 20 (by omega) (by omega) (by simp only [Int.reducePow]; omega) (by omega) (by simp only [Int.reducePow]; omega) (by omega),
  Da (n / 2147483648 % 2 * 1048576+n / 4096 % 256 * 4096) (n / 1048576 % 2 * 2048) 12 (by omega) (by omega) (by simp only [Int.reducePow]; omega) (by omega) (by simp only [Int.reducePow]; omega) (by omega),
  Da (n / 2147483648 % 2 * 1048576+n / 4096 % 256 * 4096+n / 1048576 % 2 * 2048) (n / 2097152 % 1024 * 2) 11 (by omega) (by omega) (by simp only [Int.reducePow]; omega) (by omega) (by simp only [Int.reducePow]; omega) (by omega)]
theorem ynR (n:Int) (h0:0<=n) (h1:n<=4294967295):t4 n=Mc.v4 n:=by
 unfold t4 Mc.v4;rw [low (n / 2147483648) 1 (by decide) 1 2 rfl rfl (by omega) (by omega),low (n / 128) 1 (by decide) 1 2 rfl rfl (by omega) (by omega),low (n / 33554432) 6 (by decide) 63 64 rfl rfl (by omega) (by omega),low (n / 256) 4 (by decide) 15 16 rfl rfl (by omega) (by omega)];rw [IntWalk.wrap64_in (n / 2147483648 % 2 * 4096) ⟨by omega,by omega⟩,IntWalk.wrap64_in (n / 128 % 2 * 2048) ⟨by omega,by omega⟩,IntWalk.wrap64_in (n / 33554432 % 64 * 32) ⟨by omega,by omega⟩,IntWalk.wrap64_in (n / 256 % 16 * 2) ⟨by omega,by omega⟩];rw [Da (n / 2147483648 % 2 * 4096) (n / 128 % 2 * 2048) 12 (by omega) (by omega) (by simp only [Int.reducePow]; omega) (by omega) (by simp only [Int.reducePow]; omega) (by omega),
  Da (n / 2147483648 % 2 * 4096+n / 128 % 2 * 2048) (n / 33554432 % 64 * 32) 11 (by omega) (by omega) (by simp only [Int.reducePow]; omega) (by omega) (by simp only [Int.reducePow]; omega) (by omega),
  Da (n / 2147483648 % 2 * 4096+n / 128 % 2 * 2048+n / 33554432 % 64 * 32) (n / 256 % 16 * 2) 5 (by omega) (by omega) (by simp only [Int.reducePow]; omega) (by omega) (by simp only [Int.reducePow]; omega) (by omega)]
theorem ynS (n:Int) (h0:0<=n) (h1:n<=4294967295):t5 n=Mc.v5 n:=by
 unfold t5 Mc.v5;rw [low (n / 33554432) 7 (by decide) 127 128 rfl rfl (by omega) (by omega),low (n / 128) 5 (by decide) 31 32 rfl rfl (by omega) (by omega)];rw [IntWalk.wrap64_in (n / 33554432 % 128 * 32) ⟨by omega,by omega⟩];rw [Da (n / 33554432 % 128 * 32) (n / 128 % 32) 5 (by omega) (by omega) (by simp only [Int.reducePow]; omega) (by omega) (by simp only [Int.reducePow]; omega) (by omega)]
theorem ynQ (n:Int) (h0:0<=n) (h1:n<=4294967295):t3 n=n / 1048576 % 4096:=by
 unfold t3;rw [low (n / 1048576) 12 (by decide) 4095 4096 rfl rfl (by omega) (by omega)]
theorem Mt (t v d h:Int) (e:t=v) (hl:t < h):t=if v < h then v else v - d:=by rw [e] at hl ⊢; rw [if_pos hl]
theorem Ms (t v d h:Int) (e:t=v) (hl:h<=t) (h0:0<=t) (hd:0<=d/\d<=4294967296) (h1:t<=4294967296):wrap64 (t - d)=if v < h then v else v - d:=by
 rw [IntWalk.wrap64_in _ ⟨by omega,by omega⟩,<- e,if_neg (by omega)]
theorem ygH (form n:Int) (w:World) (h0:0<=n) (h1:n<=4294967295) :
  Calls Tryz.prog 156 #[.int .i64 form,.int .i64 n] w fun e w'=>e = .returned (.int .i64 (Mc.fA form n))/\w'=w:=by
 by_cases e1:form=1
 ·subst e1;have E:=hid (show bits .and .i64 (n / 4096) 1048575=Mc.fA 1 n by rw [low (n / 4096) 20 (by decide) 1048575 1048576 rfl rfl (by omega) (by omega)]; rfl);go_enter Tryz.func156,Tryz.ntmps156;go_wp2;go_ret;exact ⟨oJ E.o,rfl⟩
 by_cases e2:form=2
 ·subst e2;have T:=hid (Za n h0 h1);have X:=hid (ynP n h0 h1);have NF:=hid (show Mc.fA 2 n=if Mc.v2 n < 1048576 then Mc.v2 n else Mc.v2 n - 2097152 from rfl);clear e1;go_enter Tryz.func156,Tryz.ntmps156;go_wp2
  ·go_ret;refine ⟨oJ ?_,rfl⟩;rw [NF.o];exact Mt (t2 n) _ 2097152 1048576 X.o (by assumption)
  ·go_ret;refine ⟨oJ ?_,rfl⟩;rw [NF.o];exact Ms (t2 n) _ 2097152 1048576 X.o (by assumption) T.o.1 (by decide) (by have:=T.o.2.1; omega)
 by_cases e3:form=3
 ·subst e3;have T:=hid (Zb n h0 h1);have X:=hid (ynQ n h0 h1);have NF:=hid (show Mc.fA 3 n=if n / 1048576 % 4096 < 2048 then n / 1048576 % 4096 else n / 1048576 % 4096 - 4096 from rfl);clear e1 e2;go_enter Tryz.func156,Tryz.ntmps156;go_wp2
  ·go_ret;refine ⟨oJ ?_,rfl⟩;rw [NF.o];exact Mt (t3 n) _ 4096 2048 X.o (by assumption)
  ·go_ret;refine ⟨oJ ?_,rfl⟩;rw [NF.o];exact Ms (t3 n) _ 4096 2048 X.o (by assumption) T.o.1 (by decide) (by have:=T.o.2.1; omega)
 by_cases e4:form=4
 ·subst e4;have T:=hid (Zc n h0 h1);have X:=hid (ynR n h0 h1);have NF:=hid (show Mc.fA 4 n=if Mc.v4 n < 4096 then Mc.v4 n else Mc.v4 n - 8192 from rfl);clear e1 e2 e3;go_enter Tryz.func156,Tryz.ntmps156;go_wp2
  ·go_ret;refine ⟨oJ ?_,rfl⟩;rw [NF.o];exact Mt (t4 n) _ 8192 4096 X.o (by assumption)
  ·go_ret;refine ⟨oJ ?_,rfl⟩;rw [NF.o];exact Ms (t4 n) _ 8192 4096 X.o (by assumption) T.o.1 (by decide) (by have:=T.o.2.1; omega)
 by_cases e5:form=5
 ·subst e5;have T:=hid (Zd n h0 h1);have X:=hid (ynS n h0 h1);have NF:=hid (show Mc.fA 5 n=if Mc.v5 n < 2048 then Mc.v5 n else Mc.v5 n - 4096 from rfl);clear e1 e2 e3 e4;go_enter Tryz.func156,Tryz.ntmps156;go_wp2
  ·go_ret;refine ⟨oJ ?_,rfl⟩;rw [NF.o];exact Mt (t5 n) _ 4096 2048 X.o (by assumption)
  ·go_ret;refine ⟨oJ ?_,rfl⟩;rw [NF.o];exact Ms (t5 n) _ 4096 2048 X.o (by assumption) T.o.1 (by decide) (by have:=T.o.2.1; omega)
 have NF:=hid (show Mc.fA form n=0 by unfold Mc.fA; rw [if_neg e1,if_neg e2,if_neg e3,if_neg e4,if_neg e5]);have d1:(form == 1)=false:=by simpa using e1
 have d2:(form == 2)=false:=by simpa using e2
 have d3:(form == 3)=false:=by simpa using e3
 have d4:(form == 4)=false:=by simpa using e4
 have d5:(form == 5)=false:=by simpa using e5
 clear e1 e2 e3 e4 e5;go_enter Tryz.func156,Tryz.ntmps156;go_wp2;go_ret;exact ⟨oJ NF.o.symm,rfl⟩
theorem yiP (op form n:Int) (w:World) (h0:0<=n) (h1:n<=4294967295) (hf:1<=form/\form<=7) :
  Calls Tryz.prog 143 #[.int .i64 op,.int .i64 form,.int .i64 n] w fun e w'=>e = .returned (gP op (eY form n) (bE form n) (iQ form n) (Mc.fA form n))/\w.grownBy w' none:=by
 have cT:=hid (fun W=>ygH form n W h0 h1);generalize Mc.fA form n=m at *;have G1:=hid (fun o:Obj=>aH w o none);have G2:=hid (fun o o':Obj=>aH (w.alloc o) o' none);rcases (show form=1\/form=2\/form=3\/form=4\/form=5\/form=6\/form=7 from by omega) with rfl | rfl | rfl | rfl | rfl | rfl | rfl
 all_goals
  clear hf;go_enter Tryz.func143,Tryz.ntmps143;go_wp2_with fail;refine (cT.o _).mono ?_;rintro e w1 ⟨rfl,rfl⟩;clear cT;go_wp2;refine bodyPost_ret (v:=gP op (eY _ n) (bE _ n) (iQ _ n) m) ?_ rfl ⟨rfl,ya (G1.o _) (G2.o _ _)⟩;simp [results,Tryz.results143,go_sem,gP,eY,bE,iQ]
namespace Mc
instance (k:Nat) (n:Int):Decidable (Is k n):=by unfold Is; infer_instance
def jq (n:Int):Nat:=((List.range 26).find? fun k=>decide (1<=k) && decide (Is k n)).getD 0
theorem qL (n:Int) (k:Nat) (h1:1<=k) (h2:k<=25) (hI:Is k n) (hall:∀ j,1<=j->j < k->¬ Is j n):jq n=k:=by
 unfold jq;have h:(List.range 26).find? (fun k=>decide (1<=k) && decide (Is k n))=some k:=by
  rw [List.find?_eq_some_iff_append];refine ⟨by simp [h1,hI],List.range k,(List.range (25 - k)).map (k+1 + ·),?_,?_⟩
  ·have e:26=k+(1+(25 - k)):=by omega
   rw [e,List.range_add,List.range_add];simp [Nat.add_assoc]
  ·intro j hj;have hj':=List.mem_range.1 hj;by_cases hj1:1<=j
   ·simp [hj1,hall j hj1 hj']
   ·simp [hj1]
 rw [h];rfl
theorem mM (n:Int) (hall:∀ j,1<=j->j<=25->¬ Is j n):jq n=0:=by
 unfold jq;have h:(List.range 26).find? (fun k=>decide (1<=k) && decide (Is k n))=none:=by
  rw [List.find?_eq_none];intro j hj;have hj':=List.mem_range.1 hj;by_cases hj1:1<=j
  ·simp [hj1,hall j hj1 (by omega)]
  ·simp [hj1]
 rw [h];rfl
def aI (n:Int):Int:=mR.getD (jq n) 0
end Mc
theorem Xo (n:Int) (w:World) (ht:fZ w) (h0:0<=n) (h1:n<=4294967295) :
  Calls Tryz.prog 130 #[.int .i64 n] w fun e w'=>e = .returned (gP (Mc.jq n) (eY (Mc.aI n) n) (bE (Mc.aI n) n) (iQ (Mc.aI n) n) (Mc.fA (Mc.aI n) n))/\w.grownBy w' none:=by
 have HT:=hid ht;clear ht;obtain ⟨R,hR⟩:∃ R,R=gP (Mc.jq n) (eY (Mc.aI n) n) (bE (Mc.aI n) n) (iQ (Mc.aI n) n) (Mc.fA (Mc.aI n) n):=⟨_,rfl⟩
 rw [<- hR];have HR:=hid hR;clear hR;have G:=hid (fun o:Obj=>aH w o none);go_enter Tryz.func130,Tryz.ntmps130;go_wp2
 go_loopw [3] (fun i wr=>∃ k:Nat,1<=k/\k<=26/\i = .int .i64 k/\(∀ j,1<=j->j < k->¬ Is j n)/\w.grownBy wr none/\ye wr w.heap.size #[.int .i64 0,.int .i64 0,.int .i64 0,.int .i64 0,.int .i64 0] 195) (fun i _=>26 - (intOf i).toNat)
 case atStart=>exact ⟨1,Nat.le_refl _,by omega,rfl,fun j h1 h2=>by omega,G.o _,ye.new _ _ _⟩
 case round =>
  obtain ⟨k,hk1,hk2,rfl,hall,hgr,hbk⟩:=hrel;have HA:=hid hall;have HG:=hid hgr;have HB:=hid hbk;clear hall hgr hbk;by_cases hlt:k<=25
  ·have T:=HT.o.grown HG.o;have cf:=T.form k (by omega);have cx:=T.fix k (by omega);have hfr:=Ke k hk1 hlt;clear T;have Cw:=hid (show Is k n↔bits .and .i64 n (xw (mR.getD k 0))=xu.getD k 0 from Iff.rfl);generalize hF:mR.getD k 0=f at *;generalize xu.getD k 0=x at *;have HF:=hid hF;clear hF;have cM:=hid (fun W=>WJ f W hfr);have g1:(1:Int)<=(k:Int):=by omega
   have g2:(k:Int)<=25:=by omega
   by_cases hI:Is k n
   ·have d:(bits .and .i64 n (xw f) == x)=true:=beq_iff_eq.2 (Cw.o.1 hI);have HI:=hid hI;have cF:=hid (fun W=>yiP k f n W h0 h1 hfr);clear hI;go_wp2
    go_quiet ((go_at_call 142; exact Calls.quiet_of_same (cM.o _)))
    go_wp2_with fail;refine (cF.o _).mono ?_;rintro e w2 ⟨rfl,hq⟩;have OP:=hid (Mc.qL n k hk1 hlt HI.o HA.o);have FO:=hid (show Mc.aI n=f by unfold Mc.aI; rw [OP.o]; exact HF.o);unfold gP;have B2:=hid ((HB.o.drewN nq).grown hq (by simp));have G2:=hid (ya (yd HG.o nq) hq);have k0:=B2.o.cell 0;have k1:=B2.o.cell 1;have k2:=B2.o.cell 2;have k3:=B2.o.cell 3;have k4:=B2.o.cell 4;have f0:=B2.o.free 0;have f1:=B2.o.free 1;have f2:=B2.o.free 2;have f3:=B2.o.free 3;have f4:=B2.o.free 4;clear hq;have RE:=hid (show R=gP k (eY f n) (bE f n) (iQ f n) (Mc.fA f n) by rw [HR.o,OP.o,FO.o]);generalize eY f n=rd at *
    generalize bE f n=r1 at *;generalize iQ f n=r2 at *;generalize Mc.fA f n=m at *;go_wp2;have F:=BH G2.o B2.o (.int .i64 k) (.int .i64 rd) (.int .i64 r1) (.int .i64 r2) (.int .i64 m);have e0:=F.1.cell 0;have e1:=F.1.cell 1;have e2:=F.1.cell 2;have e3:=F.1.cell 3;have e4:=F.1.cell 4;refine bodyPost_ret (v:=R) ?_ rfl ⟨rfl,F.2⟩;rw [RE.o];clear F k0 k1 k2 k3 k4 f0 f1 f2 f3 f4 B2 G2;generalize World.setCell _ _ _=WF at *;simp [results,Tryz.results130,go_sem,gP,e0,e1,e2,e3,e4]
   ·have d:(bits .and .i64 n (xw f) == x)=false:=beq_eq_false_iff_ne.2 (fun h=>hI (Cw.o.2 h));have HI:=hid hI;clear hI;go_wp2
    go_quiet ((go_at_call 142; exact Calls.quiet_of_same (cM.o _)))
    go_wp2
    go_roundw
    case rel=>exact ⟨k+1,by omega,by omega,by go_num,fun j hj hjk=>(Nat.lt_succ_iff_lt_or_eq.1 hjk).elim (fun h=>HA.o j hj h) (fun h=>by subst h; exact HI.o),yd HG.o _,HB.o.drewN _⟩
    case measure=>simp [intOf]; omega
  ·have k0:=HB.o.cell 0;have k1:=HB.o.cell 1;have k2:=HB.o.cell 2;have k3:=HB.o.cell 3;have k4:=HB.o.cell 4;have f0:=HB.o.free 0;have f1:=HB.o.free 1;have f2:=HB.o.free 2;have f3:=HB.o.free 3;have f4:=HB.o.free 4;go_wp2;have F:=BH HG.o HB.o (.int .i64 0) (.int .i64 0) (.int .i64 0) (.int .i64 0) (.int .i64 0);have e0:=F.1.cell 0;have e1:=F.1.cell 1;have e2:=F.1.cell 2;have e3:=F.1.cell 3;have e4:=F.1.cell 4;have OP:=Mc.mM n (fun j h1 h2=>HA.o j h1 (by omega));have FO:Mc.aI n=0:=by unfold Mc.aI; rw [OP]; rfl
   have RE:R=gP 0 0 0 0 0:=by rw [HR.o,OP,FO]; rfl
   refine bodyPost_ret (v:=R) ?_ rfl ⟨rfl,F.2⟩;rw [RE];clear F k0 k1 k2 k3 k4 f0 f1 f2 f3 f4;generalize World.setCell _ _ _=WF at *;simp [results,Tryz.results130,go_sem,gP,e0,e1,e2,e3,e4]
def bX (l:List UInt8) (p:Nat):Nat->Int
 | 0=>0
 | n+1=>((l.getD p 0).toNat:Int)+256 * bX l (p+1) n
theorem q9 (l:List UInt8) (p n:Nat):0<=bX l p n/\bX l p n < (256:Int) ^ n:=by
 induction n generalizing p with
 | zero=>simp [bX]
 | succ n ih =>
  have h:=ih (p+1);have hb:(l.getD p 0).toNat < 256:=(l.getD p 0).toNat_lt;simp only [bX,Int.pow_succ];omega
theorem yoB (s:ByteArray) (k:Nat) (h:k < s.size):((sl s).getD k 0)=s[k]:=by
 have h':k < (sl s).length:=by rw [rz]; exact h
 rw [iJ,gy h'];rfl
theorem yjt (s:ByteArray) (k:Nat) (h:s.size<=k):((sl s).getD k 0)=0:=by
 rw [iJ,List.getElem?_eq_none (by rw [rz]; exact h)];rfl
theorem yoM (s:ByteArray) (p n:Nat) (w:World) (hs:s.size<=1048576) (hp:p<=16777216) (hn:n<=4) :
  Calls Tryz.prog 58 #[.string s,.int .i64 p,.int .i64 n] w fun e w'=>e = .returned (.int .i64 (bX (sl s) p n))/\w'=w:=by
 go_enter Tryz.func58,Tryz.ntmps58;go_wp2
 go_loop [7,8] (fun v i=>∃ k:Nat,k<=n/\i = .int .i64 ((k:Int) - 1)/\v = .int .i64 (bX (sl s) (p+k) (n - k))) (fun _ i=>(intOf i+1).toNat)
 case atStart=>exact ⟨n,Nat.le_refl _,rfl,by simp [bX]⟩
 case round =>
  obtain ⟨k,hk,rfl,rfl⟩:=hrel;have hr:=q9 (sl s) (p+k) (n - k);have hpw:=Nl (n - k) (by omega)
  cases k with
  | zero =>
   go_wp2;go_ret;exact ⟨rfl,rfl⟩
  | succ m =>
   have e1:((m+1:Nat):Int) - 1=(m:Int):=by omega
   rw [e1];have hr2:bX (sl s) (p+(m+1)) (n - (m+1)) < 4294967296:=by omega
   have hr0:=hr.1;have HS:=hid (show bX (sl s) (p+m) (n - m)=((sl s).getD (p+m) 0).toNat+256 * bX (sl s) (p+(m+1)) (n - (m+1)) from by
    have e:n - m=(n - (m+1))+1:=by omega
    rw [e];rfl)
   generalize bX (sl s) (p+(m+1)) (n - (m+1))=v at *;have d0:decide ((0:Int)<=(p:Int)+(m:Int))=true:=by simp; omega
   clear hr hpw e1;by_cases hlt:p+m < s.size
   ·have g1:(p:Int)+(m:Int) < (s.size:Int):=by omega
    have HB:=hid (yoB s (p+m) hlt);go_wp2
    go_round
    case rel =>
     refine ⟨m,by omega,rfl,?_⟩;have hb:((s[p+m]'hlt).toNat:Int) < 256:=by have:=(s[p+m]'hlt).toNat_lt; omega
     rw [HS.o,HB.o,IntWalk.wrap64_in ((s[p+m]'hlt).toNat:Int) ⟨by omega,by omega⟩,IntWalk.wrap64_in _ ⟨by omega,by omega⟩,Int.add_comm]
    case measure=>simp [intOf]
   ·have g1:(s.size:Int)<=(p:Int)+(m:Int):=by omega
    have HB:=hid (yjt s (p+m) (by omega));go_wp2
    go_round
    case rel=>exact ⟨m,by omega,rfl,by rw [HS.o,HB.o]; simp⟩
    case measure=>simp [intOf]
theorem qQ (s:ByteArray) (p n:Nat) (mp mn:Int) (hmp:mp=(p:Int)) (hmn:mn=(n:Int)) (w:World) (hs:s.size<=1048576) (hp:p<=16777216) (hn:n<=4) :
  Calls Tryz.prog 58 #[.string s,.int .i64 mp,.int .i64 mn] w fun e w'=>e = .returned (.int .i64 (bX (sl s) p n))/\w'=w:=by
 subst hmp hmn; exact yoM s p n w hs hp hn
namespace Im
structure lC where
 start:Int
 text:Int
 far:Int
 data:Int
 T:List Int
 F:List Int
 D:List Int
 noughts:Int
def Base (a:Int):Prop:=(4096<=a/\a < 1073741824)/\a % 16=0
def gG (a b c d:Int):Prop:=a≠b/\c≠d/\a < d/\c < b
def In (base:Int) (n:Nat) (a:Int):Prop:=base<=a/\(a - base) % 4=0/\(a - base) / 4 < n
end Im
theorem yiq (b:Nat) (s:ByteArray) (p:Nat) (sh:Bool) (w:World) (h:bC w b s p sh)
  (hs:s.size<=1048576) (hp:p<=s.size) (hmark:(Lk.aF (sl s) 2 (p,sh)).1≠[76,75]) :
  Calls Tryz.prog 96 #[.pointer (some ⟨b,0,none⟩)] w fun e w'=>e = .returned (.pointer none)/\w.grownBy w' (some b):=by
 have c0:=fun W h=>Kq b s p 2 2 rfl sh W h hs hp (by omega)
 generalize Lk.aF (sl s) 2 (p,sh)=x0 at *;obtain ⟨mk,p0,s0⟩:=x0;simp only at hmark c0;replace c0:=hid c0;have H:=hid h;clear h;have ht:((bs mk).toList == [76,75])=false:=by rw [qO]; simpa using hmark
 clear hmark;go_enter Tryz.func96,Tryz.ntmps96;go_wp2_with fail;refine (c0.o w H.o).mono ?_;rintro e W0 ⟨rfl,r0,q0⟩;replace r0:=hid r0;replace q0:=hid q0;go_wp2;go_ret;exact ⟨rfl,q0.o⟩
theorem WQ (s:ByteArray) (w:World) :
  Calls Tryz.prog 95 #[.string s] w fun e w'=>e = .returned (.agg #[.string s,.int .i64 0,.bool false])/\w.grownBy w' none:=by
 go_enter Tryz.func95,Tryz.ntmps95;go_wp2;have B:=ye.new w #[.string s,.int .i64 0,.bool false] 173;have e0:=B.cell 0;have e1:=B.cell 1;have e2:=B.cell 2;have G:=aH w (.cells #[.string s,.int .i64 0,.bool false] 173) none;refine bodyPost_ret (v:=.agg #[.string s,.int .i64 0,.bool false]) ?_ rfl ⟨rfl,G⟩;simp [results,Tryz.results95,go_sem]
def tO (W:World) (g:Nat) (m:Im.lC):Prop :=
 ∃ vt vf vd,ye W g #[.int .i64 m.start,.int .i64 m.text,.int .i64 m.far,.int .i64 m.data,vt,vf,vd,.int .i64 m.noughts] 117 /\
  W.ownsRow 0 3 1 vt m.T.length (m.T.map (Value.int .i64))/\W.ownsRow 0 3 1 vf m.F.length (m.F.map (Value.int .i64))/\W.ownsRow 0 3 1 vd m.D.length (m.D.map (Value.int .i64))
theorem ylk (a:Int) (w:World) (h0:0<=a) (h1:a < 4294967296) :
  Calls Tryz.prog 69 #[.int .i64 a] w fun e w'=>yg e (Im.Base a)/\w'=w:=by
 by_cases c1:4096<=a
 ·by_cases c2:a < 1073741824
  ·by_cases c3:a % 16=0
   ·have d1:decide (4096<=a)=true:=by simpa using c1
    have d2:decide (a < 1073741824)=true:=by simpa using c2
    have d3:(a % 16 == 0)=true:=by simpa using c3
    have Q:=hid (show Im.Base a from ⟨⟨c1,c2⟩,c3⟩);clear c1 c2 c3;go_enter Tryz.func69,Tryz.ntmps69;go_wp2;go_ret;exact ⟨yg.yes Q.o,rfl⟩
   ·have d1:decide (4096<=a)=true:=by simpa using c1
    have d2:decide (a < 1073741824)=true:=by simpa using c2
    have d3:(a % 16 == 0)=false:=by simpa using c3
    have Q:=hid (show ¬ Im.Base a from fun h=>c3 h.2);clear c1 c2 c3;go_enter Tryz.func69,Tryz.ntmps69;go_wp2;go_ret;exact ⟨yg.no Q.o,rfl⟩
  ·have d1:decide (4096<=a)=true:=by simpa using c1
   have d2:decide (a < 1073741824)=false:=by simpa using c2
   have Q:=hid (show ¬ Im.Base a from fun h=>c2 h.1.2);clear c1 c2;go_enter Tryz.func69,Tryz.ntmps69;go_wp2;go_ret;exact ⟨yg.no Q.o,rfl⟩
 ·have d1:decide (4096<=a)=false:=by simpa using c1
  have Q:=hid (show ¬ Im.Base a from fun h=>c1 h.1.1);clear c1;go_enter Tryz.func69,Tryz.ntmps69;go_wp2;go_ret;exact ⟨yg.no Q.o,rfl⟩
theorem QF (a:Int) (n:Int) (w:World) (h0:0<=a) (h1:a < 4294967296) (h2:0<=n) (h3:n<=1048576) :
  Calls Tryz.prog 84 #[.int .i64 a,.int .i64 n] w fun e w'=>e = .returned (.agg #[.int .i64 a,.int .i64 (a+4 * n)])/\w'=w.alloc (.cells #[.int .i64 a,.int .i64 (a+4 * n)] 157):=by
 have e1:IntKind.i64.wrap (4 * n)=4 * n:=IntWalk.i64_in _ ⟨by omega,by omega⟩;have e2:IntKind.i64.wrap (a+4 * n)=a+4 * n:=IntWalk.i64_in _ ⟨by omega,by omega⟩;go_enter Tryz.func84,Tryz.ntmps84;go_wp2;refine bodyPost_ret (v:=.agg #[.int .i64 a,.int .i64 (a+4 * n)]) ?_ rfl ⟨rfl,rfl⟩;simp [results,Tryz.results84,go_sem]
theorem RY (a b c d:Int) (w:World) :
  Calls Tryz.prog 85 #[.agg #[.int .i64 a,.int .i64 b],.agg #[.int .i64 c,.int .i64 d]] w fun e w'=>yg e (Im.gG a b c d)/\w.grownBy w' none:=by
 have G:=hid (ya (aH w (.cells #[.int .i64 a,.int .i64 b] 157) none) (aH _ (.cells #[.int .i64 c,.int .i64 d] 157) none));by_cases c1:a=b
 ·have Q:=hid (show ¬ Im.gG a b c d from fun h=>h.1 c1);have d1:(a == b)=true:=by simpa using c1
  clear c1;go_enter Tryz.func85,Tryz.ntmps85;go_wp2;go_ret;exact ⟨yg.no Q.o,G.o⟩
 ·by_cases c2:c=d
  ·have Q:=hid (show ¬ Im.gG a b c d from fun h=>h.2.1 c2);have d1:(a == b)=false:=by simpa using c1
   have d2:(c == d)=true:=by simpa using c2
   clear c1 c2;go_enter Tryz.func85,Tryz.ntmps85;go_wp2;go_ret;exact ⟨yg.no Q.o,G.o⟩
  ·have d1:(a == b)=false:=by simpa using c1
   have d2:(c == d)=false:=by simpa using c2
   by_cases c3:a < d
   ·have d3:decide (a < d)=true:=by simpa using c3
    have Q:=hid (show decide (c < b)=true↔Im.gG a b c d from by rw [decide_eq_true_iff]; exact ⟨fun h=>⟨c1,c2,c3,h⟩,fun h=>h.2.2.2⟩);clear c1 c2 c3;go_enter Tryz.func85,Tryz.ntmps85;go_wp2;go_ret;exact ⟨yg.of Q.o,G.o⟩
   ·have d3:decide (a < d)=false:=by simpa using c3
    have Q:=hid (show ¬ Im.gG a b c d from fun h=>c3 h.2.2.1);clear c1 c2 c3;go_enter Tryz.func85,Tryz.ntmps85;go_wp2;go_ret;exact ⟨yg.no Q.o,G.o⟩
namespace Im
def place (base:Int) (n:Nat) (a:Int):Int:=if base<=a/\(a - base) % 4=0/\(a - base) / 4 < n then (a - base) / 4 else -1
theorem zW {base:Int} {n:Nat} {a:Int} (h:In base n a):place base n a=(a - base) / 4:=if_pos h
theorem mO {base:Int} {n:Nat} {a:Int} (h:¬ In base n a):place base n a = -1:=if_neg h
end Im
theorem XC (ao:Option Addr) (n cap:Nat) (base a:Int) (w:World) (h0:0<=a) (h1:a < 4294967296) (h2:0<=base) (h3:base < 4294967296) :
  Calls Tryz.prog 88 #[.slice ao n cap,.int .i64 base,.int .i64 a] w fun e w'=>e = .returned (.int .i64 (Im.place base n a))/\w'=w:=by
 by_cases c1:a < base
 ·have R:=hid (Im.mO (n:=n) (show ¬ Im.In base n a from fun h=>by have:=h.1; omega));have d1:decide (a < base)=true:=by simpa using c1
  clear c1;go_enter Tryz.func88,Tryz.ntmps88;go_wp2;go_ret;rw [R.o];exact ⟨rfl,rfl⟩
 ·have d1:decide (a < base)=false:=by simpa using c1
  have e1:IntKind.i64.wrap (a - base)=a - base:=IntWalk.i64_in _ ⟨by omega,by omega⟩;have e2:(a - base).tmod 4=(a - base) % 4:=Int.tmod_eq_emod_of_nonneg (by omega);have e3:(a - base).tdiv 4=(a - base) / 4:=Int.tdiv_eq_ediv_of_nonneg (by omega);by_cases c2:(a - base) % 4=0
  ·have d2:((a - base) % 4 == 0)=true:=by simpa using c2
   by_cases c3:(a - base) / 4 < n
   ·have R:=hid (Im.zW (show Im.In base n a from ⟨by omega,c2,c3⟩));have d3:decide ((n:Int)<=(a - base) / 4)=false:=by simp; omega
    go_enter Tryz.func88,Tryz.ntmps88;go_wp2;go_ret;rw [R.o];exact ⟨rfl,rfl⟩
   ·have R:=hid (Im.mO (show ¬ Im.In base n a from fun h=>c3 h.2.2));have d3:decide ((n:Int)<=(a - base) / 4)=true:=by simp; omega
    go_enter Tryz.func88,Tryz.ntmps88;go_wp2;go_ret;rw [R.o];exact ⟨rfl,rfl⟩
  ·have d2:((a - base) % 4 == 0)=false:=by simpa using c2
   have R:=hid (Im.mO (n:=n) (show ¬ Im.In base n a from fun h=>c2 h.2.1));go_enter Tryz.func88,Tryz.ntmps88;go_wp2;go_ret;rw [R.o];exact ⟨rfl,rfl⟩
namespace Im
def code (m:lC) (a:Int):Option Int :=
 if 0<=place m.text m.T.length a then some (m.T.getD (place m.text m.T.length a).toNat 0)
 else if 0<=place m.far m.F.length a then some (m.F.getD (place m.far m.F.length a).toNat 0) else none
theorem mZ (base:Int) (n:Nat) (a:Int):place base n a = -1\/(0<=place base n a/\place base n a < n):=by
 unfold place;split
 ·right; omega
 ·left; rfl
theorem qj (base:Int) (n:Nat) (a:Int):0<=place base n a↔In base n a:=by
 unfold place In;split
 ·rename_i h; exact ⟨fun _=>h,fun _=>by omega⟩
 ·rename_i h; exact ⟨fun k=>by omega,fun k=>absurd k h⟩
theorem zw (m:lC) (a:Int):(code m a).isSome=true↔In m.text m.T.length a\/In m.far m.F.length a:=by
 unfold code;rw [<- qj,<- qj];by_cases h:0<=place m.text m.T.length a
 ·simp [h]
 ·by_cases k:0<=place m.far m.F.length a <;> simp [h,k]
structure pq (m:lC):Prop where
 start:0<=m.start/\m.start < 4294967296
 text:0<=m.text/\m.text < 4294967296
 far:0<=m.far/\m.far < 4294967296
 data:0<=m.data/\m.data < 4294967296
 lens:m.T.length<=65535/\m.F.length<=65535/\m.D.length<=65535
 noughts:0<=m.noughts/\m.noughts<=65535
end Im
theorem tO.open {W:World} {g:Nat} {m:Im.lC} (h:tO W g m):∃ at_ ct af cf ad cd,
  ye W g #[.int .i64 m.start,.int .i64 m.text,.int .i64 m.far,.int .i64 m.data,.slice at_ m.T.length ct,.slice af m.F.length cf,.slice ad m.D.length cd,.int .i64 m.noughts] 117 /\
  W.ownsRow 0 3 1 (.slice at_ m.T.length ct) m.T.length (m.T.map (Value.int .i64))/\W.ownsRow 0 3 1 (.slice af m.F.length cf) m.F.length (m.F.map (Value.int .i64)) /\
  W.ownsRow 0 3 1 (.slice ad m.D.length cd) m.D.length (m.D.map (Value.int .i64)):=by
 obtain ⟨vt,vf,vd,hb,h1,h2,h3⟩:=h;obtain ⟨at_,ct,rfl⟩:=yj h1;obtain ⟨af,cf,rfl⟩:=yj h2;obtain ⟨ad,cd,rfl⟩:=yj h3;exact ⟨at_,ct,af,cf,ad,cd,hb,h1,h2,h3⟩
theorem tO.kept {W W':World} {g:Nat} {m:Im.lC} (h:tO W g m) (hg:W.grownBy W' none):tO W' g m:=by
 obtain ⟨vt,vf,vd,hb,h1,h2,h3⟩:=h;have k:∀ {v:Value} {n:Nat} {xs:List Value},W.ownsRow 0 3 1 v n xs->W'.ownsRow 0 3 1 v n xs:=fun h=>h.kept hg (by
  cases h':Value.ownBlock _ with
  | none=>exact .inl rfl
  | some b=>right; simp)
 exact ⟨vt,vf,vd,hb.grown hg (by simp),k h1,k h2,k h3⟩
theorem ymV (g:Nat) (m:Im.lC) (a:Int) (w:World) (h:tO w g m) (ht:Im.pq m) (h0:0<=a) (h1:a < 4294967296) :
  Calls Tryz.prog 53 #[.pointer (some ⟨g,0,none⟩),.int .i64 a] w fun e w'=>e = .returned (.tuple #[.int .i64 ((Im.code m a).getD 0),.bool (Im.code m a).isSome])/\∃ n,w'=w.drewN n:=by
 obtain ⟨at_,ct,af,cf,ad,cd,hb,q1,q2,-⟩:=h.open;have hc1:=yZ q1;have hc2:=yZ q2;have I1:=hid (ym.aB q1);have I2:=hid (ym.aB q2);have k1:=hb.cell 1;have k2:=hb.cell 2;have k4:=hb.cell 4;have k5:=hb.cell 5;simp only [dH,dL,dK] at k1 k2 k4 k5;have cT:=hid (fun W=>XC at_ m.T.length ct m.text a W h0 h1 ht.text.1 ht.text.2);have cF:=hid (fun W=>XC af m.F.length cf m.far a W h0 h1 ht.far.1 ht.far.2);obtain ⟨X,hX⟩:∃ X,X=Im.code m a:=⟨_,rfl⟩
 rw [<- hX];unfold Im.code at hX;have RX:=hid hX;have r1:=Im.mZ m.text m.T.length a;have r2:=Im.mZ m.far m.F.length a;have L:=hid ht.lens;clear hX h ht hb q1 q2;generalize Im.place m.text m.T.length a=i at *;generalize Im.place m.far m.F.length a=j at *;have hl1:=L.o.1;have hl2:=L.o.2.1;by_cases ci:0<=i
 ·have d1:decide (0<=i)=true:=by simpa using ci
  have hi:i.toNat < m.T.length:=by omega
  obtain ⟨sg,off,rfl,hcell⟩:=I1.o (by omega);have hck:=hcell i.toNat hi;rw [if_pos ci] at RX;have GE:=hid (show m.T.getD i.toNat 0=m.T[i.toNat] from by rw [iJ,gy hi]; rfl);rw [GE.o] at RX;have g1:i < (m.T.length:Int):=by omega
  clear hcell r1 r2 cF I1 I2 L GE;generalize m.T[i.toNat]=v at *;obtain ⟨n,rfl⟩:∃ n:Nat,i=n:=⟨i.toNat,by omega⟩
  rw [Int.toNat_natCast] at hck hi;go_enter Tryz.func53,Tryz.ntmps53;go_wp2
  go_quiet ((go_at_call 88; exact Calls.quiet_of_same (cT.o _)))
  go_wp2;go_ret2;rw [RX.o];exact ⟨rfl,_,rfl⟩
 ·have d1:decide (0<=i)=false:=by simpa using ci
  rw [if_neg ci] at RX;obtain rfl:i = -1:=by omega
  clear I1 r1;by_cases cj:0<=j
  ·have d2:decide (0<=j)=true:=by simpa using cj
   have hj:j.toNat < m.F.length:=by omega
   obtain ⟨sg,off,rfl,hcell⟩:=I2.o (by omega);have hck:=hcell j.toNat hj;rw [if_pos cj] at RX;have GE:=hid (show m.F.getD j.toNat 0=m.F[j.toNat] from by rw [iJ,gy hj]; rfl);rw [GE.o] at RX;have g1:j < (m.F.length:Int):=by omega
   clear hcell r2 I2 L GE;generalize m.F[j.toNat]=v at *;obtain ⟨n,rfl⟩:∃ n:Nat,j=n:=⟨j.toNat,by omega⟩
   rw [Int.toNat_natCast] at hck hj;go_enter Tryz.func53,Tryz.ntmps53;go_wp2
   go_quiet ((go_at_call 88; exact Calls.quiet_of_same (cT.o _)))
   go_wp2;have HE:=hid (show ∃ n,w.drewN nq=w.drewN n from ⟨_,rfl⟩);replace k2:(w.drewN nq).cell? ⟨g,2,none⟩=some (.int .i64 m.far):=k2;replace k5:(w.drewN nq).cell? ⟨g,5,none⟩=some (.slice (some ⟨sg,off,none⟩) m.F.length cf):=k5;replace hck:(w.drewN nq).cell? ⟨sg,off+n,none⟩=some (.int .i64 v):=hck;generalize w.drewN nq=V at *
   go_quiet ((go_at_call 88; exact Calls.quiet_of_same (cF.o _)))
   go_wp2;go_ret2;rw [RX.o];exact ⟨rfl,by obtain ⟨q,hq⟩:=HE.o; exact ⟨_,by rw [hq,World.drewN_drewN]⟩⟩
  ·have d2:decide (0<=j)=false:=by simpa using cj
   rw [if_neg cj] at RX;obtain rfl:j = -1:=by omega
   go_enter Tryz.func53,Tryz.ntmps53;go_wp2
   go_quiet ((go_at_call 88; exact Calls.quiet_of_same (cT.o _)))
   go_wp2;have HE:=hid (show ∃ n,w.drewN nq=w.drewN n from ⟨_,rfl⟩);replace k2:(w.drewN nq).cell? ⟨g,2,none⟩=some (.int .i64 m.far):=k2;replace k5:(w.drewN nq).cell? ⟨g,5,none⟩=some (.slice af m.F.length cf):=k5;generalize w.drewN nq=V at *
   go_quiet ((go_at_call 88; exact Calls.quiet_of_same (cF.o _)))
   go_wp2;go_ret2;rw [RX.o];exact ⟨rfl,by obtain ⟨q,hq⟩:=HE.o; exact ⟨_,by rw [hq,World.drewN_drewN]⟩⟩
namespace Mc
def wd (x:Int):Int:=x % 4294967296
end Mc
theorem yoL (n:Int):bits .and .i64 n 4294967295=Mc.wd n:=by
 have h1:(BitVec.ofInt 64 4294967295).toNat=2 ^ 32 - 1:=by decide
 have key:(BitVec.ofInt 64 n &&& BitVec.ofInt 64 4294967295).toNat=(n % ((2 ^ 64:Nat):Int)).toNat % 2 ^ 32:=by
  rw [BitVec.toNat_and,BitVec.toNat_ofInt,h1,Nat.and_two_pow_sub_one_eq_mod]
 show IntKind.i64.wrap ((BitVec.ofInt 64 n &&& BitVec.ofInt 64 4294967295).toNat:Nat)=n % 4294967296;rw [key,IntKind.wrap_i64];omega
theorem yD {w a c:World} {row:Option Nat} (h:w.grownBy a none) (k:a.grownBy c row) (hb:∀ b,row=some b->w.heap.size<=b):w.grownBy c none :=
 ⟨k.os.trans h.os,k.tape.trans h.tape,k.output.trans h.output,Nat.le_trans h.size k.size,fun i hi _ =>
  (k.block i (Nat.lt_of_lt_of_le hi h.size) (fun e=>by have:=hb i e.symm; omega)).trans (h.block i hi (by simp))⟩
namespace Ln
structure fQ where
 mod:Option Nat
 ah:Int
 off:Int
structure Mod where
 obj:Lk.Obj
 means:List fQ
 short:List Bool
 text:List Int
 far:List Int
 data:Int
 bss:Int
def none_:fQ:=⟨none,0,0⟩
def defines (y:Lk.Sym):Bool:=!decide (y.bind=0) && !decide (y.ah=0)
def wanted (y:Lk.Sym):Bool:=decide (y.bind=1) && decide (y.ah=0)
def wants (os:List Lk.Obj) (n:List UInt8):Bool:=os.any fun o=>o.syms.any fun y=>decide (y.name=n) && wanted y
def has (os:List Lk.Obj) (n:List UInt8):Bool:=os.any fun o=>o.syms.any fun y=>decide (y.name=n) && defines y
def needs (os:List Lk.Obj) (o:Lk.Obj):Bool:=o.syms.any fun y=>defines y && (wants os y.name && !has os y.name)
def eO (n:List UInt8) (bind:Int):List Lk.Sym->Option (Int×Int)
 | []=>none
 | y :: ys=>if y.name=n/\y.bind=bind/\y.ah≠0 then some (y.ah,y.off) else eO n bind ys
def findAt (n:List UInt8) (bind:Int):Nat->List Lk.Obj->fQ
 | _,[]=>none_
 | i,o :: os=>match eO n bind o.syms with
  | some (s,f)=>⟨some i,s,f⟩
  | none=>findAt n bind (i+1) os
def find (os:List Lk.Obj) (n:List UInt8) (bind:Int):fQ:=findAt n bind 0 os
def named (os:List Lk.Obj) (n:List UInt8):fQ:=if (find os n 1).mod.isSome then find os n 1 else find os n 2
def meaning (os:List Lk.Obj) (i:Nat) (y:Lk.Sym):fQ:=if y.bind=0 then ⟨some i,y.ah,y.off⟩ else named os y.name
structure nW where
 e:Int
 at_:Int
 name:List UInt8
def ok:nW:=⟨0,0,[]⟩
def aZ (os:List Lk.Obj) (i:Nat):List Lk.Sym->Option nW
 | []=>none
 | y :: ys=>if y.bind≠1\/y.ah=0 then aZ os i ys else if (find (os.take i) y.name 1).mod.isSome then some ⟨33,i,y.name⟩ else aZ os i ys
def jF (os:List Lk.Obj):Nat->List Lk.Obj->nW
 | _,[]=>ok
 | i,o :: r=>match aZ os i o.syms with
  | some f=>f
  | none=>jF os (i+1) r
def dS (os:List Lk.Obj):nW:=jF os 0 os
def aV (os:List Lk.Obj) (i:Nat):List Lk.Sym->Option nW
 | []=>none
 | y :: ys=>if wanted y=false then aV os i ys else if (named os y.name).mod.isSome then aV os i ys else some ⟨34,i,y.name⟩
def wantedAt (os:List Lk.Obj):Nat->List Lk.Obj->nW
 | _,[]=>ok
 | i,o :: r=>match aV os i o.syms with
  | some f=>f
  | none=>wantedAt os (i+1) r
def dw (os:List Lk.Obj):nW:=wantedAt os 0 os
def pass:List (Lk.Obj×Bool)->List Lk.Obj->List (Lk.Obj×Bool)×List Lk.Obj×Bool
 | [],os=>([],os,false)
 | (o,t) :: r,os=>if t=false/\needs os o=true then ((o,true) :: (pass r (os ++ [o])).1,(pass r (os ++ [o])).2.1,true) else ((o,t) :: (pass r os).1,(pass r os).2.1,(pass r os).2.2)
def dJ:Nat->List (Lk.Obj×Bool)->List Lk.Obj->List Lk.Obj
 | 0,_,os=>os
 | k+1,ms,os=>if (pass ms os).2.2=true then dJ k (pass ms os).1 (pass ms os).2.1 else (pass ms os).2.1
def aG (ah off:Int):Nat->List Lk.Rel->Int×Lk.Rel
 | _,[]=>(0,⟨0,0,0,0,0⟩)
 | i,r :: rs=>if r.ah=ah/\r.off<=off/\off < r.off+4 * yr r then (i,r) else aG ah off (i+1) rs
def dY (sh:List Bool) (i:Int):Bool:=decide (0<=i) && sh.getD i.toNat false
def rup (a b:Int):Int:=bits .andNot .i64 (a+b - 1) (b - 1)
def stays (m:Mod) (ah off at_:Int):Bool :=
 if (aG ah off 0 m.obj.aj).2.kind=6 then !decide (rup at_ ((aG ah off 0 m.obj.aj).2.addend+4)=at_)
 else if (aG ah off 0 m.obj.aj).2.kind=4 then decide (off=(aG ah off 0 m.obj.aj).2.off) || !dY m.short (aG ah off 0 m.obj.aj).1
 else true
def aA (m:Mod) (ah:Int):Nat->List Int->Int->List Int
 | _,[],at_=>[at_]
 | i,_ :: ws,at_=>at_ :: aA m ah (i+1) ws (if stays m ah (4 * i) at_ then at_+4 else at_)
def aL (m:Mod) (ah:Int):Nat->List Int->Int->Int
 | _,[],at_=>at_
 | i,_ :: ws,at_=>aL m ah (i+1) ws (if stays m ah (4 * i) at_ then at_+4 else at_)
def aJ (o:Lk.Obj) (ah:Nat):Int:=yL (o.align.getD (ah - 1) 0)
def begin_ (m:Mod) (ah:Nat) (from_:Int):Int:=rup from_ (aJ m.obj ah)
def bU (m:Mod) (ah:Nat) (from_:Int):Int:=aL m ah 0 (yh m.obj ah) (begin_ m ah from_)
def aT (m:Mod) (ah:Nat) (from_:Int):List Int:=aA m ah 0 (yh m.obj ah) (begin_ m ah from_)
def jS (m:Mod) (t f d:Int):Mod:={ m with text:=aT m 1 t,far:=aT m 2 f,data:=rup d (aJ m.obj 3) }
def bB:List Mod->Int->Int->Int->List Mod
 | [],_,_,_=>[]
 | m :: ms,t,f,d=>jS m t f d :: bB ms (bU m 1 t) (bU m 2 f) (rup d (aJ m.obj 3)+4 * m.obj.data.length)
def bH:List Mod->Int->Int
 | [],d=>d
 | m :: ms,d=>bH ms (rup d (aJ m.obj 3)+4 * m.obj.data.length)
def bI:List Mod->Int->List Mod
 | [],_=>[]
 | m :: ms,b=>{ m with bss:=rup b (aJ m.obj 4) } :: bI ms (rup b (aJ m.obj 4)+4 * m.obj.bss)
def fM:List Mod->Int->Int
 | [],b=>b
 | m :: ms,b=>fM ms (rup b (aJ m.obj 4)+4 * m.obj.bss)
def lay (t f d:Int) (ms:List Mod):List Mod:=bI (bB ms t f d) (bH ms d)
def noughts (d:Int) (ms:List Mod):Int:=(fM ms (bH ms d) - bH ms d) / 4
def placeOf (ps:List Int) (off:Int):Int:=if off.tdiv 4 < 0 then 0 else ps.getD (off.tdiv 4).toNat 0
def address (m:Mod) (ah off:Int):Int :=
 if ah=1 then placeOf m.text off else if ah=2 then placeOf m.far off else if ah=3 then m.data+off else if ah=4 then m.bss+off else 0
def bK (ms:List Mod) (s:fQ):Int:=match s.mod with
 | none=>0
 | some i=>match ms[i]? with
  | none=>0
  | some m=>address m s.ah s.off
def target (ms:List Mod) (m:Mod) (r:Lk.Rel):Int:=if r.sym < 0\/(m.means.length:Int)<=r.sym then 0 else bK ms (m.means.getD r.sym.toNat none_)
def distance (ms:List Mod) (m:Mod) (r:Lk.Rel):Int:=target ms m r - address m r.ah r.off
def bP (ms:List Mod) (m:Mod) (r:Lk.Rel):Bool:=decide (r.kind=4) && (decide (-1015808 < distance ms m r) && decide (distance ms m r < 1015808))
def shorten (ms:List Mod):List Mod:=ms.map fun m=>{ m with short:=m.obj.aj.map (bP ms m) }
def layout (t f d:Int) (ms:List Mod):List Mod:=lay t f d (shorten (lay t f d ms))
end Ln
end Go.Proofs.YtelehpmjhjljgaaGreatDoor
