
import Derived.Test.YtpgklkhgfcjceaaGreatDoorV04
import Derived.Maps.AppendAt
set_option maxHeartbeats 16000000
set_option maxRecDepth 100000
namespace Go.Proofs.YtpgklkhgfcjceaaGreatDoor
open Go.RowKit
theorem Kg (a b:Int) (k:Nat) (ha:0<=a) (ha':a < 9223372036854775808) (hk:a % (2:Int) ^ k=0) (hb:0<=b) (hb':b < (2:Int) ^ k) (hb2:b < 9223372036854775808):bits .or .i64 a b=a+b:=by
 obtain ⟨x,rfl⟩:=Int.eq_ofNat_of_zero_le ha;obtain ⟨y,rfl⟩:=Int.eq_ofNat_of_zero_le hb;have e:((2 ^ k:Nat):Int)=(2:Int) ^ k:=by simp
 rw [<- e] at hb' hk;rw [Au x y (by omega) (by omega)];have hx:x=2 ^ k * (x / 2 ^ k):=by
  have h1:x % 2 ^ k=0:=by omega
  have:=Nat.div_add_mod x (2 ^ k)
  omega
 have h:=Nat.two_pow_add_eq_or_of_lt (i:=k) (b:=y) (by omega) (x / 2 ^ k);rw [<- hx] at h;omega
namespace Mc
def v2 (n:Int):Int:=n / 2147483648 % 2 * 1048576+n / 4096 % 256 * 4096+n / 1048576 % 2 * 2048+n / 2097152 % 1024 * 2
def v4 (n:Int):Int:=n / 2147483648 % 2 * 4096+n / 128 % 2 * 2048+n / 33554432 % 64 * 32+n / 256 % 16 * 2
def v5 (n:Int):Int:=n / 33554432 % 128 * 32+n / 128 % 32
def jq (form n:Int):Int :=
 if form=1 then n / 4096 % 1048576
 else if form=2 then (if v2 n < 1048576 then v2 n else v2 n - 2097152)
 else if form=3 then (if n / 1048576 % 4096 < 2048 then n / 1048576 % 4096 else n / 1048576 % 4096 - 4096)
 else if form=4 then (if v4 n < 4096 then v4 n else v4 n - 8192)
 else if form=5 then (if v5 n < 2048 then v5 n else v5 n - 4096)
 else 0
end Mc
theorem ypS (n:Int) (h0:0<=n) (h1:n<=4294967295):t2 n=Mc.v2 n:=by
 unfold t2 Mc.v2;rw [low (n / 2147483648) 1 (by decide) 1 2 rfl rfl (by omega) (by omega),low (n / 4096) 8 (by decide) 255 256 rfl rfl (by omega) (by omega),low (n / 1048576) 1 (by decide) 1 2 rfl rfl (by omega) (by omega),low (n / 2097152) 10 (by decide) 1023 1024 rfl rfl (by omega) (by omega)];rw [IntWalk.wrap64_in (n / 2147483648 % 2 * 1048576) ⟨by omega,by omega⟩,IntWalk.wrap64_in (n / 4096 % 256 * 4096) ⟨by omega,by omega⟩,IntWalk.wrap64_in (n / 1048576 % 2 * 2048) ⟨by omega,by omega⟩,IntWalk.wrap64_in (n / 2097152 % 1024 * 2) ⟨by omega,by omega⟩];rw [Kg (n / 2147483648 % 2 * 1048576) (n / 4096 % 256 * 4096) 20 (by omega) (by omega) (by simp only [Int.reducePow]; omega) (by omega) (by simp only [Int.reducePow]; omega) (by omega),
  Kg (n / 2147483648 % 2 * 1048576+n / 4096 % 256 * 4096) (n / 1048576 % 2 * 2048) 12 (by omega) (by omega) (by simp only [Int.reducePow]; omega) (by omega) (by simp only [Int.reducePow]; omega) (by omega),
  Kg (n / 2147483648 % 2 * 1048576+n / 4096 % 256 * 4096+n / 1048576 % 2 * 2048) (n / 2097152 % 1024 * 2) 11 (by omega) (by omega) (by simp only [Int.reducePow]; omega) (by omega) (by simp only [Int.reducePow]; omega) (by omega)]
theorem ypU (n:Int) (h0:0<=n) (h1:n<=4294967295):t4 n=Mc.v4 n:=by
 unfold t4 Mc.v4;rw [low (n / 2147483648) 1 (by decide) 1 2 rfl rfl (by omega) (by omega),low (n / 128) 1 (by decide) 1 2 rfl rfl (by omega) (by omega),low (n / 33554432) 6 (by decide) 63 64 rfl rfl (by omega) (by omega),low (n / 256) 4 (by decide) 15 16 rfl rfl (by omega) (by omega)];rw [IntWalk.wrap64_in (n / 2147483648 % 2 * 4096) ⟨by omega,by omega⟩,IntWalk.wrap64_in (n / 128 % 2 * 2048) ⟨by omega,by omega⟩,IntWalk.wrap64_in (n / 33554432 % 64 * 32) ⟨by omega,by omega⟩,IntWalk.wrap64_in (n / 256 % 16 * 2) ⟨by omega,by omega⟩];rw [Kg (n / 2147483648 % 2 * 4096) (n / 128 % 2 * 2048) 12 (by omega) (by omega) (by simp only [Int.reducePow]; omega) (by omega) (by simp only [Int.reducePow]; omega) (by omega),
  Kg (n / 2147483648 % 2 * 4096+n / 128 % 2 * 2048) (n / 33554432 % 64 * 32) 11 (by omega) (by omega) (by simp only [Int.reducePow]; omega) (by omega) (by simp only [Int.reducePow]; omega) (by omega),
  Kg (n / 2147483648 % 2 * 4096+n / 128 % 2 * 2048+n / 33554432 % 64 * 32) (n / 256 % 16 * 2) 5 (by omega) (by omega) (by simp only [Int.reducePow]; omega) (by omega) (by simp only [Int.reducePow]; omega) (by omega)]
theorem ypV (n:Int) (h0:0<=n) (h1:n<=4294967295):t5 n=Mc.v5 n:=by
 unfold t5 Mc.v5;rw [low (n / 33554432) 7 (by decide) 127 128 rfl rfl (by omega) (by omega),low (n / 128) 5 (by decide) 31 32 rfl rfl (by omega) (by omega)];rw [IntWalk.wrap64_in (n / 33554432 % 128 * 32) ⟨by omega,by omega⟩];rw [Kg (n / 33554432 % 128 * 32) (n / 128 % 32) 5 (by omega) (by omega) (by simp only [Int.reducePow]; omega) (by omega) (by simp only [Int.reducePow]; omega) (by omega)]
theorem ypT (n:Int) (h0:0<=n) (h1:n<=4294967295):t3 n=n / 1048576 % 4096:=by
 unfold t3;rw [low (n / 1048576) 12 (by decide) 4095 4096 rfl rfl (by omega) (by omega)]
theorem PG (t v d h:Int) (e:t=v) (hl:t < h):t=if v < h then v else v - d:=by rw [e] at hl ⊢; rw [if_pos hl]
theorem Pz (t v d h:Int) (e:t=v) (hl:h<=t) (h0:0<=t) (hd:0<=d/\d<=4294967296) (h1:t<=4294967296):wrap64 (t - d)=if v < h then v else v - d:=by
 rw [IntWalk.wrap64_in _ ⟨by omega,by omega⟩,<- e,if_neg (by omega)]
theorem ygI (form n:Int) (w:World) (h0:0<=n) (h1:n<=4294967295) :
  Calls Tryz.prog 175 #[.int .i64 form,.int .i64 n] w fun e w'=>e = .returned (.int .i64 (Mc.jq form n))/\w'=w:=by
 by_cases e1:form=1
 ·subst e1;have E:=hid (show bits .and .i64 (n / 4096) 1048575=Mc.jq 1 n by rw [low (n / 4096) 20 (by decide) 1048575 1048576 rfl rfl (by omega) (by omega)]; rfl);go_enter Tryz.func175,Tryz.ntmps175;go_wp2;go_ret;exact ⟨yM E.o,rfl⟩
 by_cases e2:form=2
 ·subst e2;have T:=hid (Zy n h0 h1);have X:=hid (ypS n h0 h1);have NF:=hid (show Mc.jq 2 n=if Mc.v2 n < 1048576 then Mc.v2 n else Mc.v2 n - 2097152 from rfl);clear e1;go_enter Tryz.func175,Tryz.ntmps175;go_wp2
  ·go_ret;refine ⟨yM ?_,rfl⟩;rw [NF.o];exact PG (t2 n) _ 2097152 1048576 X.o (by assumption)
  ·go_ret;refine ⟨yM ?_,rfl⟩;rw [NF.o];exact Pz (t2 n) _ 2097152 1048576 X.o (by assumption) T.o.1 (by decide) (by have:=T.o.2.1; omega)
 by_cases e3:form=3
 ·subst e3;have T:=hid (Zz n h0 h1);have X:=hid (ypT n h0 h1);have NF:=hid (show Mc.jq 3 n=if n / 1048576 % 4096 < 2048 then n / 1048576 % 4096 else n / 1048576 % 4096 - 4096 from rfl);clear e1 e2;go_enter Tryz.func175,Tryz.ntmps175;go_wp2
  ·go_ret;refine ⟨yM ?_,rfl⟩;rw [NF.o];exact PG (t3 n) _ 4096 2048 X.o (by assumption)
  ·go_ret;refine ⟨yM ?_,rfl⟩;rw [NF.o];exact Pz (t3 n) _ 4096 2048 X.o (by assumption) T.o.1 (by decide) (by have:=T.o.2.1; omega)
 by_cases e4:form=4
 ·subst e4;have T:=hid (ZA n h0 h1);have X:=hid (ypU n h0 h1);have NF:=hid (show Mc.jq 4 n=if Mc.v4 n < 4096 then Mc.v4 n else Mc.v4 n - 8192 from rfl);clear e1 e2 e3;go_enter Tryz.func175,Tryz.ntmps175;go_wp2
  ·go_ret;refine ⟨yM ?_,rfl⟩;rw [NF.o];exact PG (t4 n) _ 8192 4096 X.o (by assumption)
  ·go_ret;refine ⟨yM ?_,rfl⟩;rw [NF.o];exact Pz (t4 n) _ 8192 4096 X.o (by assumption) T.o.1 (by decide) (by have:=T.o.2.1; omega)
 by_cases e5:form=5
 ·subst e5;have T:=hid (yml n h0 h1);have X:=hid (ypV n h0 h1);have NF:=hid (show Mc.jq 5 n=if Mc.v5 n < 2048 then Mc.v5 n else Mc.v5 n - 4096 from rfl);clear e1 e2 e3 e4;go_enter Tryz.func175,Tryz.ntmps175;go_wp2
  ·go_ret;refine ⟨yM ?_,rfl⟩;rw [NF.o];exact PG (t5 n) _ 4096 2048 X.o (by assumption)
  ·go_ret;refine ⟨yM ?_,rfl⟩;rw [NF.o];exact Pz (t5 n) _ 4096 2048 X.o (by assumption) T.o.1 (by decide) (by have:=T.o.2.1; omega)
 have NF:=hid (show Mc.jq form n=0 by unfold Mc.jq; rw [if_neg e1,if_neg e2,if_neg e3,if_neg e4,if_neg e5]);have d1:(form == 1)=false:=by simpa using e1
 have d2:(form == 2)=false:=by simpa using e2
 have d3:(form == 3)=false:=by simpa using e3
 have d4:(form == 4)=false:=by simpa using e4
 have d5:(form == 5)=false:=by simpa using e5
 clear e1 e2 e3 e4 e5;go_enter Tryz.func175,Tryz.ntmps175;go_wp2;go_ret;exact ⟨yM NF.o.symm,rfl⟩
theorem yjC (op form n:Int) (w:World) (h0:0<=n) (h1:n<=4294967295) (hf:1<=form/\form<=7) :
  Calls Tryz.prog 117 #[.int .i64 op,.int .i64 form,.int .i64 n] w fun e w'=>e = .returned (bC op (gB form n) (bL form n) (jG form n) (Mc.jq form n))/\w.grownBy w' none:=by
 have cT:=hid (fun W=>ygI form n W h0 h1);generalize Mc.jq form n=m at *;have G1:=hid (fun o:Obj=>aJ w o none);have G2:=hid (fun o o':Obj=>aJ (w.alloc o) o' none);rcases (show form=1\/form=2\/form=3\/form=4\/form=5\/form=6\/form=7 from by omega) with rfl | rfl | rfl | rfl | rfl | rfl | rfl
 all_goals
  clear hf;go_enter Tryz.func117,Tryz.ntmps117;go_wp2_with fail;refine (cT.o _).mono ?_;rintro e w1 ⟨rfl,rfl⟩;clear cT;go_wp2;refine bodyPost_ret (v:=bC op (gB _ n) (bL _ n) (jG _ n) m) ?_ rfl ⟨rfl,ya (G1.o _) (G2.o _ _)⟩;simp [results,Tryz.results117,go_sem,bC,gB,bL,jG]
namespace Mc
instance (k:Nat) (n:Int):Decidable (Is k n):=by unfold Is; infer_instance
def kH (n:Int):Nat:=((List.range 26).find? fun k=>decide (1<=k) && decide (Is k n)).getD 0
theorem tJ (n:Int) (k:Nat) (h1:1<=k) (h2:k<=25) (hI:Is k n) (hall:∀ j,1<=j->j < k->¬ Is j n):kH n=k:=by
 unfold kH;have h:(List.range 26).find? (fun k=>decide (1<=k) && decide (Is k n))=some k:=by
  rw [List.find?_eq_some_iff_append];refine ⟨by simp [h1,hI],List.range k,(List.range (25 - k)).map (k+1 + ·),?_,?_⟩
  ·have e:26=k+(1+(25 - k)):=by omega
   rw [e,List.range_add,List.range_add];simp [Nat.add_assoc]
  ·intro j hj;have hj':=List.mem_range.1 hj;by_cases hj1:1<=j
   ·simp [hj1,hall j hj1 hj']
   ·simp [hj1]
 rw [h];rfl
theorem zR (n:Int) (hall:∀ j,1<=j->j<=25->¬ Is j n):kH n=0:=by
 unfold kH;have h:(List.range 26).find? (fun k=>decide (1<=k) && decide (Is k n))=none:=by
  rw [List.find?_eq_none];intro j hj;have hj':=List.mem_range.1 hj;by_cases hj1:1<=j
  ·simp [hj1,hall j hj1 (by omega)]
  ·simp [hj1]
 rw [h];rfl
def aV (n:Int):Int:=uK.getD (kH n) 0
end Mc
theorem SE (n:Int) (w:World) (ht:dQ w) (h0:0<=n) (h1:n<=4294967295) :
  Calls Tryz.prog 82 #[.int .i64 n] w fun e w'=>e = .returned (bC (Mc.kH n) (gB (Mc.aV n) n) (bL (Mc.aV n) n) (jG (Mc.aV n) n) (Mc.jq (Mc.aV n) n))/\w.grownBy w' none:=by
 have HT:=hid ht;clear ht;obtain ⟨R,hR⟩:∃ R,R=bC (Mc.kH n) (gB (Mc.aV n) n) (bL (Mc.aV n) n) (jG (Mc.aV n) n) (Mc.jq (Mc.aV n) n):=⟨_,rfl⟩
 rw [<- hR];have HR:=hid hR;clear hR;have G:=hid (fun o:Obj=>aJ w o none);go_enter Tryz.func82,Tryz.ntmps82;go_wp2
 go_loopw [3] (fun i wr=>∃ k:Nat,1<=k/\k<=26/\i = .int .i64 k/\(∀ j,1<=j->j < k->¬ Is j n)/\w.grownBy wr none/\yc wr w.heap.size #[.int .i64 0,.int .i64 0,.int .i64 0,.int .i64 0,.int .i64 0] 143) (fun i _=>26 - (intOf i).toNat)
 case atStart=>exact ⟨1,Nat.le_refl _,by omega,rfl,fun j h1 h2=>by omega,G.o _,yc.new _ _ _⟩
 case round =>
  obtain ⟨k,hk1,hk2,rfl,hall,hgr,hbk⟩:=hrel;have HA:=hid hall;have HG:=hid hgr;have HB:=hid hbk;clear hall hgr hbk;by_cases hlt:k<=25
  ·have T:=HT.o.grown HG.o;have cf:=T.form k (by omega);have cx:=T.fix k (by omega);have hfr:=Td k hk1 hlt;clear T;have LM:=hid (show Is k n↔bits .and .i64 n (Gw (uK.getD k 0))=Ed.getD k 0 from Iff.rfl);generalize hF:uK.getD k 0=f at *;generalize Ed.getD k 0=x at *;have HF:=hid hF;clear hF;have cM:=hid (fun W=>Xy f W hfr);have g1:(1:Int)<=(k:Int):=by omega
   have g2:(k:Int)<=25:=by omega
   by_cases hI:Is k n
   ·have d:(bits .and .i64 n (Gw f) == x)=true:=beq_iff_eq.2 (LM.o.1 hI);have HI:=hid hI;have cF:=hid (fun W=>yjC k f n W h0 h1 hfr);clear hI;go_wp2
    go_quiet ((go_at_call 116; exact Calls.quiet_of_same (cM.o _)))
    go_wp2_with fail;refine (cF.o _).mono ?_;rintro e w2 ⟨rfl,hq⟩;have OP:=hid (Mc.tJ n k hk1 hlt HI.o HA.o);have FO:=hid (show Mc.aV n=f by unfold Mc.aV; rw [OP.o]; exact HF.o);unfold bC;have B2:=hid ((HB.o.drewN nq).grown hq (by simp));have G2:=hid (ya (yf HG.o nq) hq);have k0:=B2.o.cell 0;have k1:=B2.o.cell 1;have k2:=B2.o.cell 2;have k3:=B2.o.cell 3;have k4:=B2.o.cell 4;have f0:=B2.o.free 0;have f1:=B2.o.free 1;have f2:=B2.o.free 2;have f3:=B2.o.free 3;have f4:=B2.o.free 4;clear hq;have RE:=hid (show R=bC k (gB f n) (bL f n) (jG f n) (Mc.jq f n) by rw [HR.o,OP.o,FO.o]);generalize gB f n=rd at *
    generalize bL f n=r1 at *;generalize jG f n=r2 at *;generalize Mc.jq f n=m at *;go_wp2;have F:=F6 G2.o B2.o (.int .i64 k) (.int .i64 rd) (.int .i64 r1) (.int .i64 r2) (.int .i64 m);have e0:=F.1.cell 0;have e1:=F.1.cell 1;have e2:=F.1.cell 2;have e3:=F.1.cell 3;have e4:=F.1.cell 4;refine bodyPost_ret (v:=R) ?_ rfl ⟨rfl,F.2⟩;rw [RE.o];clear F k0 k1 k2 k3 k4 f0 f1 f2 f3 f4 B2 G2;generalize World.setCell _ _ _=WF at *;simp [results,Tryz.results82,go_sem,bC,e0,e1,e2,e3,e4]
   ·have d:(bits .and .i64 n (Gw f) == x)=false:=beq_eq_false_iff_ne.2 (fun h=>hI (LM.o.2 h));have HI:=hid hI;clear hI;go_wp2
    go_quiet ((go_at_call 116; exact Calls.quiet_of_same (cM.o _)))
    go_wp2
    go_roundw
    case rel=>exact ⟨k+1,by omega,by omega,by go_num,fun j hj hjk=>(Nat.lt_succ_iff_lt_or_eq.1 hjk).elim (fun h=>HA.o j hj h) (fun h=>by subst h; exact HI.o),yf HG.o _,HB.o.drewN _⟩
    case measure=>simp [intOf]; omega
  ·have k0:=HB.o.cell 0;have k1:=HB.o.cell 1;have k2:=HB.o.cell 2;have k3:=HB.o.cell 3;have k4:=HB.o.cell 4;have f0:=HB.o.free 0;have f1:=HB.o.free 1;have f2:=HB.o.free 2;have f3:=HB.o.free 3;have f4:=HB.o.free 4;go_wp2;have F:=F6 HG.o HB.o (.int .i64 0) (.int .i64 0) (.int .i64 0) (.int .i64 0) (.int .i64 0);have e0:=F.1.cell 0;have e1:=F.1.cell 1;have e2:=F.1.cell 2;have e3:=F.1.cell 3;have e4:=F.1.cell 4;have OP:=Mc.zR n (fun j h1 h2=>HA.o j h1 (by omega));have FO:Mc.aV n=0:=by unfold Mc.aV; rw [OP]; rfl
   have RE:R=bC 0 0 0 0 0:=by rw [HR.o,OP,FO]; rfl
   refine bodyPost_ret (v:=R) ?_ rfl ⟨rfl,F.2⟩;rw [RE];clear F k0 k1 k2 k3 k4 f0 f1 f2 f3 f4;generalize World.setCell _ _ _=WF at *;simp [results,Tryz.results82,go_sem,bC,e0,e1,e2,e3,e4]
def dR (l:List UInt8) (p:Nat):Nat->Int
 | 0=>0
 | n+1=>((l.getD p 0).toNat:Int)+256 * dR l (p+1) n
theorem TQ (l:List UInt8) (p n:Nat):0<=dR l p n/\dR l p n < (256:Int) ^ n:=by
 induction n generalizing p with
 | zero=>simp [dR]
 | succ n ih =>
  have h:=ih (p+1);have hb:(l.getD p 0).toNat < 256:=(l.getD p 0).toNat_lt;simp only [dR,Int.pow_succ];omega
namespace Im
structure dZ where
 start:Int
 text:Int
 far:Int
 data:Int
 T:List Int
 F:List Int
 D:List Int
 noughts:Int
def words (l:List UInt8) (p c:Nat):List Int:=(List.range c).map fun i=>dR l (p+4 * i) 4
theorem gX (l:List UInt8) (p c:Nat):(words l p c).length=c:=by simp [words]
theorem qK (l:List UInt8) (p c:Nat):words l p (c+1)=dR l p 4 :: words l (p+4) c:=by
 unfold words;rw [List.range_succ_eq_map,List.map_cons,List.map_map]
 congr 1
 apply List.map_congr_left;intro i _;show dR l (p+4 * (i+1)) 4=dR l (p+4+4 * i) 4
 congr 1
 omega
theorem vE (l:List UInt8) (p n:Nat) (h:p+n<=l.length):Lk.num ((l.drop p).take n)=dR l p n:=by
 induction n generalizing p with
 | zero=>simp [dR,Lk.num]
 | succ n ih =>
  have hp:p < l.length:=by omega
  rw [lV hp,List.take_succ_cons];simp only [Lk.num,dR];rw [ih (p+1) (by omega),lC,j3 hp];rfl
theorem iF (l:List UInt8) (n p:Nat) (h:p+n<=l.length):Lk.rdNum l n (p,false)=(dR l p n,(p+n,false)):=by
 unfold Lk.rdNum Lk.aH;simp only;rw [if_pos (by omega)];simp only;rw [vE l p n h]
theorem iY (l:List UInt8) (n:Nat) (st:Lk.St) (hn:st.1<=l.length) (h:(Lk.rdNum l n st).2.2=false) :
  st.2=false/\st.1+n<=l.length/\Lk.rdNum l n st=(dR l st.1 n,(st.1+n,false)):=by
 have h0:=(Lk.aD l n).back h;obtain ⟨p,b⟩:=st;simp only at h0 hn;subst h0;have hp:p+n<=l.length:=by
  unfold Lk.rdNum Lk.aH at h;simp only at h;split at h
  ·omega
  ·simp at h
 exact ⟨rfl,hp,iF l n p hp⟩
theorem lZ (l:List UInt8) (c p:Nat) (h:p+4 * c<=l.length):Lk.aP l 4 c (p,false)=(words l p c,(p+4 * c,false)):=by
 induction c generalizing p with
 | zero=>rfl
 | succ c ih =>
  simp only [Lk.aP,Bool.false_eq_true,if_false];rw [iF l 4 p (by omega)];simp only;rw [ih (p+4) (by omega),qK];simp only [Prod.mk.injEq,true_and,and_true];omega
theorem oK (l:List UInt8) (c:Nat) (st:Lk.St) (hn:st.1<=l.length) (h:(Lk.aP l 4 c st).2.2=false) :
  st.2=false/\st.1+4 * c<=l.length/\Lk.aP l 4 c st=(words l st.1 c,(st.1+4 * c,false)):=by
 have h0:=(Lk.bE l 4 c).back h;obtain ⟨p,b⟩:=st;simp only at h0 hn;subst h0
 suffices hp:p+4 * c<=l.length from ⟨rfl,hp,lZ l c p hp⟩
 induction c generalizing p with
 | zero=>omega
 | succ c ih =>
  simp only [Lk.aP,Bool.false_eq_true,if_false] at h;have hb:=(Lk.bE l 4 c).back h;have k:=iY l 4 (p,false) hn hb;rw [k.2.2] at h
  have:=ih (p+4) k.2.1 h
  omega
def nM (l:List UInt8) (st:Lk.St):dZ×Lk.St :=
 let a:=Lk.rdNum l 4 st
 let b:=Lk.rdNum l 4 a.2
 let c:=Lk.rdNum l 4 b.2
 let d:=Lk.rdNum l 4 c.2
 let nt:=Lk.rdNum l 2 d.2
 let nf:=Lk.rdNum l 2 nt.2
 let nd:=Lk.rdNum l 2 nf.2
 let nb:=Lk.rdNum l 2 nd.2
 let t:=Lk.aP l 4 nt.1.toNat nb.2
 let f:=Lk.aP l 4 nf.1.toNat t.2
 let e:=Lk.aP l 4 nd.1.toNat f.2
 (⟨a.1,b.1,c.1,d.1,t.1,f.1,e.1,nb.1⟩,e.2)
def nT (l:List UInt8):Nat:=(dR l 18 2).toNat
def nF (l:List UInt8):Nat:=(dR l 20 2).toNat
def nD (l:List UInt8):Nat:=(dR l 22 2).toNat
def nB (l:List UInt8):Nat:=(dR l 24 2).toNat
theorem jM (l:List UInt8) (p:Nat):0<=dR l p 2/\dR l p 2 < 65536:=by have:=TQ l p 2; simpa using this
theorem Ju (l:List UInt8):nT l<=65535/\nF l<=65535/\nD l<=65535/\nB l<=65535:=by
 have h1:=jM l 18;have h2:=jM l 20;have h3:=jM l 22;have h4:=jM l 24;unfold nT nF nD nB;omega
def fA (l:List UInt8):dZ:=⟨dR l 2 4,dR l 6 4,dR l 10 4,dR l 14 4,words l 26 (nT l),words l (26+4 * nT l) (nF l),words l (26+4 * nT l+4 * nF l) (nD l),dR l 24 2⟩
def Full (l:List UInt8):Prop:=l.length=26+4 * (nT l+nF l+nD l)
theorem xw (l:List UInt8) (h:Full l):nM l (2,false)=(fA l,(l.length,false)):=by
 unfold Full at h;unfold nM;simp only;rw [iF l 4 2 (by omega)];simp only [Nat.reduceAdd];rw [iF l 4 6 (by omega)];simp only [Nat.reduceAdd];rw [iF l 4 10 (by omega)];simp only [Nat.reduceAdd];rw [iF l 4 14 (by omega)];simp only [Nat.reduceAdd];rw [iF l 2 18 (by omega)];simp only [Nat.reduceAdd];rw [iF l 2 20 (by omega)];simp only [Nat.reduceAdd];rw [iF l 2 22 (by omega)];simp only [Nat.reduceAdd];rw [iF l 2 24 (by omega)];simp only [Nat.reduceAdd];rw [show (dR l 18 2).toNat=nT l from rfl,show (dR l 20 2).toNat=nF l from rfl,show (dR l 22 2).toNat=nD l from rfl];rw [lZ l (nT l) 26 (by omega)];simp only
 rw [lZ l (nF l) _ (by omega)];simp only;rw [lZ l (nD l) _ (by omega)];simp only [fA,Prod.mk.injEq,true_and,and_true];omega
theorem xA (l:List UInt8) (h2:2<=l.length) (h:(nM l (2,false)).2=(l.length,false)):Full l:=by
 unfold nM at h;simp only at h;generalize hA:Lk.rdNum l 4 (2,false)=a at h;generalize hB:Lk.rdNum l 4 a.2=b at h;generalize hC:Lk.rdNum l 4 b.2=c at h;generalize hD:Lk.rdNum l 4 c.2=d at h;generalize hE:Lk.rdNum l 2 d.2=nt at h;generalize hF:Lk.rdNum l 2 nt.2=nf at h;generalize hG:Lk.rdNum l 2 nf.2=nd at h;generalize hH:Lk.rdNum l 2 nd.2=nb at h;generalize hI:Lk.aP l 4 nt.1.toNat nb.2=t at h;generalize hJ:Lk.aP l 4 nf.1.toNat t.2=f at h;generalize hK:Lk.aP l 4 nd.1.toNat f.2=e at h;have k11:e.2.2=false:=by rw [h]
 have k10:f.2.2=false:=(Lk.bE l 4 _).back (by rw [hK]; exact k11);have k9:t.2.2=false:=(Lk.bE l 4 _).back (by rw [hJ]; exact k10);have k8:nb.2.2=false:=(Lk.bE l 4 _).back (by rw [hI]; exact k9);have k7:nd.2.2=false:=(Lk.aD l 2).back (by rw [hH]; exact k8);have k6:nf.2.2=false:=(Lk.aD l 2).back (by rw [hG]; exact k7);have k5:nt.2.2=false:=(Lk.aD l 2).back (by rw [hF]; exact k6);have k4:d.2.2=false:=(Lk.aD l 2).back (by rw [hE]; exact k5);have k3:c.2.2=false:=(Lk.aD l 4).back (by rw [hD]; exact k4);have k2:b.2.2=false:=(Lk.aD l 4).back (by rw [hC]; exact k3);have k1:a.2.2=false:=(Lk.aD l 4).back (by rw [hB]; exact k2)
 obtain ⟨-,p1,q1⟩:=iY l 4 (2,false) h2 (by rw [hA]; exact k1);rw [hA] at q1; subst q1;obtain ⟨-,p2,q2⟩:=iY l 4 _ p1 (by rw [hB]; exact k2);rw [hB] at q2; subst q2;obtain ⟨-,p3,q3⟩:=iY l 4 _ p2 (by rw [hC]; exact k3);rw [hC] at q3; subst q3;obtain ⟨-,p4,q4⟩:=iY l 4 _ p3 (by rw [hD]; exact k4);rw [hD] at q4; subst q4;obtain ⟨-,p5,q5⟩:=iY l 2 _ p4 (by rw [hE]; exact k5);rw [hE] at q5; subst q5;obtain ⟨-,p6,q6⟩:=iY l 2 _ p5 (by rw [hF]; exact k6);rw [hF] at q6; subst q6;obtain ⟨-,p7,q7⟩:=iY l 2 _ p6 (by rw [hG]; exact k7);rw [hG] at q7; subst q7;obtain ⟨-,p8,q8⟩:=iY l 2 _ p7 (by rw [hH]; exact k8)
 rw [hH] at q8; subst q8;obtain ⟨-,p9,q9⟩:=oK l _ _ p8 (by rw [hI]; exact k9);rw [hI] at q9; subst q9;obtain ⟨-,vZ,WQ⟩:=oK l _ _ p9 (by rw [hJ]; exact k10);rw [hJ] at WQ; subst WQ;obtain ⟨-,CJ,WR⟩:=oK l _ _ vZ (by rw [hK]; exact k11);rw [hK] at WR; subst WR;simp only [Prod.mk.injEq] at h;have hh:=h.1;simp only [Nat.reduceAdd] at hh;unfold Full nT nF nD;omega
def Base (a:Int):Prop:=(4096<=a/\a < 1073741824)/\a % 16=0
def kJ (a b c d:Int):Prop:=a≠b/\c≠d/\a < d/\c < b
def In (base:Int) (n:Nat) (a:Int):Prop:=base<=a/\(a - base) % 4=0/\(a - base) / 4 < n
def lG (m:dZ):Prop :=
 (Base m.text/\Base m.far/\Base m.data) /\
 (m.text+4 * (m.T.length:Int)<=1073741824/\m.far+4 * (m.F.length:Int)<=1073741824/\m.data+4 * ((m.D.length:Int)+m.noughts)<=1073741824) /\
 (¬ kJ m.text (m.text+4 * (m.T.length:Int)) m.far (m.far+4 * (m.F.length:Int))/\¬ kJ m.text (m.text+4 * (m.T.length:Int)) m.data (m.data+4 * ((m.D.length:Int)+m.noughts)) /\
  ¬ kJ m.far (m.far+4 * (m.F.length:Int)) m.data (m.data+4 * ((m.D.length:Int)+m.noughts))) /\
 (In m.text m.T.length m.start\/In m.far m.F.length m.start)
def lH (l:List UInt8):Prop:=l.take 2=[73,77]/\Full l/\lG (fA l)
end Im
theorem yiQ (b:Nat) (s:ByteArray) (p:Nat) (sh:Bool) (w:World) (h:bF w b s p sh)
  (hs:s.size<=1048576) (hp:p<=s.size) (hmark:(Lk.aH (sl s) 2 (p,sh)).1≠[76,75]) :
  Calls Tryz.prog 163 #[.pointer (some ⟨b,0,none⟩)] w fun e w'=>e = .returned (.pointer none)/\w.grownBy w' (some b):=by
 have c0:=fun W h=>JW b s p 2 2 rfl sh W h hs hp (by omega)
 generalize Lk.aH (sl s) 2 (p,sh)=x0 at *;obtain ⟨mk,p0,s0⟩:=x0;simp only at hmark c0;replace c0:=hid c0;have H:=hid h;clear h;have ht:((bs mk).toList == [76,75])=false:=by rw [yH]; simpa using hmark
 clear hmark;go_enter Tryz.func163,Tryz.ntmps163;go_wp2_with fail;refine (c0.o w H.o).mono ?_;rintro e W0 ⟨rfl,r0,q0⟩;replace r0:=hid r0;replace q0:=hid q0;go_wp2;go_ret;exact ⟨rfl,q0.o⟩
theorem Sw (s:ByteArray) (w:World) :
  Calls Tryz.prog 43 #[.string s] w fun e w'=>e = .returned (.agg #[.string s,.int .i64 0,.bool false])/\w.grownBy w' none:=by
 go_enter Tryz.func43,Tryz.ntmps43;go_wp2;have B:=yc.new w #[.string s,.int .i64 0,.bool false] 83;have e0:=B.cell 0;have e1:=B.cell 1;have e2:=B.cell 2;have G:=aJ w (.cells #[.string s,.int .i64 0,.bool false] 83) none;refine bodyPost_ret (v:=.agg #[.string s,.int .i64 0,.bool false]) ?_ rfl ⟨rfl,G⟩;simp [results,Tryz.results43,go_sem]
structure qd (w:World) (b g:Nat) (s:ByteArray) (p:Nat) (sh:Bool) (cs:Array Value) (rows:List Row) (W:World):Prop where
 rd:bF W b s p sh
 obj:yc W g cs 90
 rows:∀ r∈rows,r.In W (g+1)
 gr:w.grownBy W (some b)
section
variable {w W W':World} {b g:Nat} {s:ByteArray} {cs:Array Value} {rows:List Row} {p p':Nat} {sh sh':Bool}
theorem qd.begin (h:bF W b s p sh) (hg:w.grownBy W (some b)) (cs:Array Value):qd w b W.heap.size s p sh cs [] (W.alloc (.cells cs 90)) :=
 ⟨h.grown (aJ W _ none) (by simp),yc.new W cs 90,(by simp),Gp hg (aJ W _ none) (by simp)⟩
theorem qd.call (h:qd w b g s p sh cs rows W) (hb:b < g) (hr:bF W' b s p' sh') (hg:W.grownBy W' (some b)):qd w b g s p' sh' cs rows W' :=
 ⟨hr,h.obj.grown hg (by simp; omega),fun r hr=>JU (h.rows r hr) (by omega) hg,ya h.gr hg⟩
theorem qd.row (h:qd w b g s p sh cs rows W) (hb:b < g) (hr:bF W' b s p' sh') (hg:W.grownBy W' (some b)) (r:Row) (hrow:r.In W' W.heap.size):qd w b g s p' sh' cs (r :: rows) W':=by
 have h1:=h.call hb hr hg;refine ⟨h1.rd,h1.obj,?_,h1.gr⟩;intro q hq;rcases List.mem_cons.1 hq with rfl | hq
 ·exact yX hrow h.obj.lt
 ·exact h1.rows q hq
theorem qd.store (h:qd w b g s p sh cs rows W) (hb:b < g) (hw:w.heap.size<=g) (o:Nat) (v:Value):qd w b g s p sh (cs.setIfInBounds o v) rows (W.setCell ⟨g,o,none⟩ v) :=
 ⟨h.rd.grown (ye W g o v) (by simp; omega),h.obj.set o v,fun r hr=>ownsRow_setCell_below (h.rows r hr) (Nat.lt_succ_self g) v,Gp h.gr (ye W g o v) (by simp; omega)⟩
end
def mQ (W:World) (g:Nat) (m:Im.dZ):Prop :=
 ∃ vt vf vd,yc W g #[.int .i64 m.start,.int .i64 m.text,.int .i64 m.far,.int .i64 m.data,vt,vf,vd,.int .i64 m.noughts] 90 /\
  W.ownsRow 0 3 1 vt m.T.length (m.T.map (Value.int .i64))/\W.ownsRow 0 3 1 vf m.F.length (m.F.map (Value.int .i64))/\W.ownsRow 0 3 1 vd m.D.length (m.D.map (Value.int .i64))
theorem yiP (b:Nat) (s:ByteArray) (p:Nat) (sh:Bool) (w:World) (h:bF w b s p sh)
  (hs:s.size<=1048576) (hp:p<=s.size) (hmark:(Lk.aH (sl s) 2 (p,sh)).1=[73,77]) :
  Calls Tryz.prog 44 #[.pointer (some ⟨b,0,none⟩)] w fun e w'=>∃ g,e = .returned (.pointer (some ⟨g,0,none⟩))/\w.heap.size<=g /\
   mQ w' g (Im.nM (sl s) (Lk.aH (sl s) 2 (p,sh)).2).1 /\
   bF w' b s (Im.nM (sl s) (Lk.aH (sl s) 2 (p,sh)).2).2.1 (Im.nM (sl s) (Lk.aH (sl s) 2 (p,sh)).2).2.2/\w.grownBy w' (some b):=by
 have hb:=h.lt;have hlen:=yq s;have l0:=JZ (sl s) 2 (p,sh) (by rw [hlen]; exact hp);have c0:=fun W h=>JW b s p 2 2 rfl sh W h hs hp (by omega)
 generalize Lk.aH (sl s) 2 (p,sh)=x0 at *;obtain ⟨mk,p0,s0⟩:=x0;simp only at hmark;subst hmark;rw [hlen] at l0;unfold Im.nM;simp only at *;have b1:=yP (sl s) 4 (p0,s0);have l1:=yC (sl s) 4 (p0,s0) (by rw [hlen]; exact l0);have c1:=fun W h=>yJ b s p0 4 4 rfl s0 W h hs l0 (by omega)
 generalize Lk.rdNum (sl s) 4 (p0,s0)=x1 at *;obtain ⟨start,p1,s1⟩:=x1;rw [hlen] at l1;simp only [Int.reducePow] at *;have b2:=yP (sl s) 4 (p1,s1);have l2:=yC (sl s) 4 (p1,s1) (by rw [hlen]; exact l1);have c2:=fun W h=>yJ b s p1 4 4 rfl s1 W h hs l1 (by omega)
 generalize Lk.rdNum (sl s) 4 (p1,s1)=x2 at *;obtain ⟨bt,p2,s2⟩:=x2;rw [hlen] at l2;simp only [Int.reducePow] at *;have b3:=yP (sl s) 4 (p2,s2);have l3:=yC (sl s) 4 (p2,s2) (by rw [hlen]; exact l2);have c3:=fun W h=>yJ b s p2 4 4 rfl s2 W h hs l2 (by omega)
 generalize Lk.rdNum (sl s) 4 (p2,s2)=x3 at *;obtain ⟨bf,p3,s3⟩:=x3;rw [hlen] at l3;simp only [Int.reducePow] at *;have b4:=yP (sl s) 4 (p3,s3);have l4:=yC (sl s) 4 (p3,s3) (by rw [hlen]; exact l3);have c4:=fun W h=>yJ b s p3 4 4 rfl s3 W h hs l3 (by omega)
 generalize Lk.rdNum (sl s) 4 (p3,s3)=x4 at *;obtain ⟨bd,p4,s4⟩:=x4;rw [hlen] at l4;simp only [Int.reducePow] at *;have b5:=yP (sl s) 2 (p4,s4);have l5:=yC (sl s) 2 (p4,s4) (by rw [hlen]; exact l4);have c5:=fun W h=>yJ b s p4 2 2 rfl s4 W h hs l4 (by omega)
 generalize Lk.rdNum (sl s) 2 (p4,s4)=x5 at *;obtain ⟨nt,p5,s5⟩:=x5;rw [hlen] at l5;simp only [Int.reducePow] at *;have b6:=yP (sl s) 2 (p5,s5);have l6:=yC (sl s) 2 (p5,s5) (by rw [hlen]; exact l5);have c6:=fun W h=>yJ b s p5 2 2 rfl s5 W h hs l5 (by omega)
 generalize Lk.rdNum (sl s) 2 (p5,s5)=x6 at *;obtain ⟨nf,p6,s6⟩:=x6;rw [hlen] at l6;simp only [Int.reducePow] at *;have b7:=yP (sl s) 2 (p6,s6);have l7:=yC (sl s) 2 (p6,s6) (by rw [hlen]; exact l6);have c7:=fun W h=>yJ b s p6 2 2 rfl s6 W h hs l6 (by omega)
 generalize Lk.rdNum (sl s) 2 (p6,s6)=x7 at *;obtain ⟨nd,p7,s7⟩:=x7;rw [hlen] at l7;simp only [Int.reducePow] at *;have b8:=yP (sl s) 2 (p7,s7);have l8:=yC (sl s) 2 (p7,s7) (by rw [hlen]; exact l7);have c8:=fun W h=>yJ b s p7 2 2 rfl s7 W h hs l7 (by omega)
 generalize Lk.rdNum (sl s) 2 (p7,s7)=x8 at *;obtain ⟨nb,p8,s8⟩:=x8;rw [hlen] at l8;simp only [Int.reducePow] at *;have l9:=JY (sl s) 4 nt.toNat (p8,s8) (by rw [hlen]; exact l8)
 have c9:=fun W h=>JL b s p8 nt.toNat 4 nt 4 (by omega) rfl s8 W h hs l8 (by omega) (by omega)
 generalize Lk.aP (sl s) 4 nt.toNat (p8,s8)=x9 at *;obtain ⟨tx,p9,s9⟩:=x9;rw [hlen] at l9;simp only at *;have l10:=JY (sl s) 4 nf.toNat (p9,s9) (by rw [hlen]; exact l9)
 have c10:=fun W h=>JL b s p9 nf.toNat 4 nf 4 (by omega) rfl s9 W h hs l9 (by omega) (by omega)
 generalize Lk.aP (sl s) 4 nf.toNat (p9,s9)=x10 at *;obtain ⟨fx,vZ,s10⟩:=x10;rw [hlen] at l10;simp only at *;have zN:=JY (sl s) 4 nd.toNat (vZ,s10) (by rw [hlen]; exact l10)
 have c11:=fun W h=>JL b s vZ nd.toNat 4 nd 4 (by omega) rfl s10 W h hs l10 (by omega) (by omega)
 generalize Lk.aP (sl s) 4 nd.toNat (vZ,s10)=Sr at *;obtain ⟨dx,CJ,s11⟩:=Sr;rw [hlen] at zN;simp only at *;replace c0:=hid c0;replace c1:=hid c1;replace c2:=hid c2;replace c3:=hid c3;replace c4:=hid c4;replace c5:=hid c5;replace c6:=hid c6;replace c7:=hid c7;replace c8:=hid c8;replace c9:=hid c9;replace c10:=hid c10;replace c11:=hid c11;have H:=hid h;clear h hlen;have ht:((bs [73,77]).toList == [73,77])=true:=by rw [yH]; rfl
 go_enter Tryz.func44,Tryz.ntmps44;go_wp2_with fail;refine (c0.o w H.o).mono ?_;rintro e W0 ⟨rfl,r0,q0⟩;replace r0:=hid r0;replace q0:=hid q0;go_wp2_with fail;have hbg:b < W0.heap.size:=r0.o.lt;have hwg:w.heap.size<=W0.heap.size:=q0.o.size;generalize hG:W0.heap.size=g at *;refine Calls.aL (qd w b g s p0 s0 #[.int .i64 0,.int .i64 0,.int .i64 0,.int .i64 0,.slice none 0 0,.slice none 0 0,.slice none 0 0,.int .i64 0] []) (by rw [<- hG]; exact qd.begin r0.o q0.o _) ?_;clear r0 q0 hG;intro V0 h0;refine (c1.o V0 h0.rd).mono ?_;rintro e U1 ⟨rfl,r,q⟩;have S1:=hid (h0.call hbg r q);clear r q h0;have k:=S1.o.obj.cell 0
 have f:=S1.o.obj.free 0;go_wp2_with fail;refine Calls.aL (qd w b g s p1 s1 #[.int .i64 start,.int .i64 0,.int .i64 0,.int .i64 0,.slice none 0 0,.slice none 0 0,.slice none 0 0,.int .i64 0] []) (S1.o.store hbg hwg 0 _) ?_;clear k f S1 U1;intro V1 h1;refine (c2.o V1 h1.rd).mono ?_;rintro e U2 ⟨rfl,r,q⟩;have S2:=hid (h1.call hbg r q);clear r q h1;have k:=S2.o.obj.cell 1;have f:=S2.o.obj.free 1;go_wp2_with fail;refine Calls.aL (qd w b g s p2 s2 #[.int .i64 start,.int .i64 bt,.int .i64 0,.int .i64 0,.slice none 0 0,.slice none 0 0,.slice none 0 0,.int .i64 0] []) (S2.o.store hbg hwg 1 _) ?_;clear k f S2 U2
 intro V2 h2;refine (c3.o V2 h2.rd).mono ?_;rintro e U3 ⟨rfl,r,q⟩;have S3:=hid (h2.call hbg r q);clear r q h2;have k:=S3.o.obj.cell 2;have f:=S3.o.obj.free 2;go_wp2_with fail;refine Calls.aL (qd w b g s p3 s3 #[.int .i64 start,.int .i64 bt,.int .i64 bf,.int .i64 0,.slice none 0 0,.slice none 0 0,.slice none 0 0,.int .i64 0] []) (S3.o.store hbg hwg 2 _) ?_;clear k f S3 U3;intro V3 h3;refine (c4.o V3 h3.rd).mono ?_;rintro e U4 ⟨rfl,r,q⟩;have S4:=hid (h3.call hbg r q);clear r q h3;have k:=S4.o.obj.cell 3;have f:=S4.o.obj.free 3;go_wp2_with fail;refine Calls.aL (qd w b g s p4 s4 #[.int .i64 start,.int .i64 bt,.int .i64 bf,.int .i64 bd,.slice none 0 0,.slice none 0 0,.slice none 0 0,.int .i64 0] []) (S4.o.store hbg hwg 3 _) ?_
 clear k f S4 U4;intro V4 h4;refine (c5.o V4 h4.rd).mono ?_;rintro e U5 ⟨rfl,r,q⟩;have S5:=hid (h4.call hbg r q);clear r q h4;go_wp2_with fail;refine Calls.aL (qd w b g s p5 s5 #[.int .i64 start,.int .i64 bt,.int .i64 bf,.int .i64 bd,.slice none 0 0,.slice none 0 0,.slice none 0 0,.int .i64 0] []) S5.o ?_;clear S5 U5;intro V5 h5;refine (c6.o V5 h5.rd).mono ?_;rintro e U6 ⟨rfl,r,q⟩;have S6:=hid (h5.call hbg r q);clear r q h5;go_wp2_with fail;refine Calls.aL (qd w b g s p6 s6 #[.int .i64 start,.int .i64 bt,.int .i64 bf,.int .i64 bd,.slice none 0 0,.slice none 0 0,.slice none 0 0,.int .i64 0] []) S6.o ?_
 clear S6 U6;intro V6 h6;refine (c7.o V6 h6.rd).mono ?_;rintro e U7 ⟨rfl,r,q⟩;have S7:=hid (h6.call hbg r q);clear r q h6;go_wp2_with fail;refine Calls.aL (qd w b g s p7 s7 #[.int .i64 start,.int .i64 bt,.int .i64 bf,.int .i64 bd,.slice none 0 0,.slice none 0 0,.slice none 0 0,.int .i64 0] []) S7.o ?_;clear S7 U7;intro V7 h7;refine (c8.o V7 h7.rd).mono ?_;rintro e U8 ⟨rfl,r,q⟩;have S8:=hid (h7.call hbg r q);clear r q h7;have k:=S8.o.obj.cell 7;have f:=S8.o.obj.free 7;go_wp2_with fail;refine Calls.aL (qd w b g s p8 s8 #[.int .i64 start,.int .i64 bt,.int .i64 bf,.int .i64 bd,.slice none 0 0,.slice none 0 0,.slice none 0 0,.int .i64 nb] []) (S8.o.store hbg hwg 7 _) ?_
 clear k f S8 U8;intro V8 h8;refine (c9.o V8 h8.rd).mono ?_;rintro e U9 ⟨v,rfl,o,r,q⟩;obtain ⟨Ir,ctx,rfl⟩:=yi o;have S9:=hid (h8.row hbg r q ⟨3,1,(.slice Ir tx.length ctx),tx.length,tx.map (Value.int .i64)⟩ o);clear r q o h8;have k:=S9.o.obj.cell 4;have f:=S9.o.obj.free 4;go_wp2_with fail;refine Calls.aL (qd w b g s p9 s9 #[.int .i64 start,.int .i64 bt,.int .i64 bf,.int .i64 bd,(.slice Ir tx.length ctx),.slice none 0 0,.slice none 0 0,.int .i64 nb] [⟨3,1,(.slice Ir tx.length ctx),tx.length,tx.map (Value.int .i64)⟩]) (S9.o.store hbg hwg 4 _) ?_;clear k f S9 U9;intro V9 h9;refine (c10.o V9 h9.rd).mono ?_
 rintro e QG ⟨v,rfl,o,r,q⟩;obtain ⟨L6,Mh,rfl⟩:=yi o;have qW:=hid (h9.row hbg r q ⟨3,1,(.slice L6 fx.length Mh),fx.length,fx.map (Value.int .i64)⟩ o);clear r q o h9;have k:=qW.o.obj.cell 5;have f:=qW.o.obj.free 5;go_wp2_with fail;refine Calls.aL (qd w b g s vZ s10 #[.int .i64 start,.int .i64 bt,.int .i64 bf,.int .i64 bd,(.slice Ir tx.length ctx),(.slice L6 fx.length Mh),.slice none 0 0,.int .i64 nb] [⟨3,1,(.slice L6 fx.length Mh),fx.length,fx.map (Value.int .i64)⟩,⟨3,1,(.slice Ir tx.length ctx),tx.length,tx.map (Value.int .i64)⟩]) (qW.o.store hbg hwg 5 _) ?_;clear k f qW QG;intro LY h10;refine (c11.o LY h10.rd).mono ?_
 rintro e VL ⟨v,rfl,o,r,q⟩;obtain ⟨Om,Oz,rfl⟩:=yi o;have rX:=hid (h10.row hbg r q ⟨3,1,(.slice Om dx.length Oz),dx.length,dx.map (Value.int .i64)⟩ o);clear r q o h10;have k:=rX.o.obj.cell 6;have f:=rX.o.obj.free 6;go_wp2;go_ret;have F:=rX.o.store hbg hwg 6 (.slice Om dx.length Oz);refine ⟨g,rfl,hwg,⟨(.slice Ir tx.length ctx),(.slice L6 fx.length Mh),(.slice Om dx.length Oz),F.obj,?_,?_,?_⟩,F.rd,F.gr⟩
 ·exact yX (F.rows ⟨3,1,(.slice Ir tx.length ctx),tx.length,tx.map (Value.int .i64)⟩ (by simp)) (Nat.zero_le _)
 ·exact yX (F.rows ⟨3,1,(.slice L6 fx.length Mh),fx.length,fx.map (Value.int .i64)⟩ (by simp)) (Nat.zero_le _)
 ·exact yX (F.rows ⟨3,1,(.slice Om dx.length Oz),dx.length,dx.map (Value.int .i64)⟩ (by simp)) (Nat.zero_le _)
theorem ykm (b:Nat) (s:ByteArray) (p:Nat) (sh:Bool) (w:World) (h:bF w b s p sh)
  (hs:s.size<=1048576) (hp:p<=s.size) (hmark:(Lk.aH (sl s) 2 (p,sh)).1≠[73,77]) :
  Calls Tryz.prog 44 #[.pointer (some ⟨b,0,none⟩)] w fun e w'=>e = .returned (.pointer none)/\w.grownBy w' (some b):=by
 have c0:=fun W h=>JW b s p 2 2 rfl sh W h hs hp (by omega)
 generalize Lk.aH (sl s) 2 (p,sh)=x0 at *;obtain ⟨mk,p0,s0⟩:=x0;simp only at hmark c0;replace c0:=hid c0;have H:=hid h;clear h;have ht:((bs mk).toList == [73,77])=false:=by rw [yH]; simpa using hmark
 clear hmark;go_enter Tryz.func44,Tryz.ntmps44;go_wp2_with fail;refine (c0.o w H.o).mono ?_;rintro e W0 ⟨rfl,r0,q0⟩;replace r0:=hid r0;replace q0:=hid q0;go_wp2;go_ret;exact ⟨rfl,q0.o⟩
theorem O8 (a:Int) (w:World) (h0:0<=a) (h1:a < 4294967296) :
  Calls Tryz.prog 80 #[.int .i64 a] w fun e w'=>yg e (Im.Base a)/\w'=w:=by
 by_cases c1:4096<=a
 ·by_cases c2:a < 1073741824
  ·by_cases c3:a % 16=0
   ·have d1:decide (4096<=a)=true:=by simpa using c1
    have d2:decide (a < 1073741824)=true:=by simpa using c2
    have d3:(a % 16 == 0)=true:=by simpa using c3
    have Q:=hid (show Im.Base a from ⟨⟨c1,c2⟩,c3⟩);clear c1 c2 c3;go_enter Tryz.func80,Tryz.ntmps80;go_wp2;go_ret;exact ⟨yg.yes Q.o,rfl⟩
   ·have d1:decide (4096<=a)=true:=by simpa using c1
    have d2:decide (a < 1073741824)=true:=by simpa using c2
    have d3:(a % 16 == 0)=false:=by simpa using c3
    have Q:=hid (show ¬ Im.Base a from fun h=>c3 h.2);clear c1 c2 c3;go_enter Tryz.func80,Tryz.ntmps80;go_wp2;go_ret;exact ⟨yg.no Q.o,rfl⟩
  ·have d1:decide (4096<=a)=true:=by simpa using c1
   have d2:decide (a < 1073741824)=false:=by simpa using c2
   have Q:=hid (show ¬ Im.Base a from fun h=>c2 h.1.2);clear c1 c2;go_enter Tryz.func80,Tryz.ntmps80;go_wp2;go_ret;exact ⟨yg.no Q.o,rfl⟩
 ·have d1:decide (4096<=a)=false:=by simpa using c1
  have Q:=hid (show ¬ Im.Base a from fun h=>c1 h.1.1);clear c1;go_enter Tryz.func80,Tryz.ntmps80;go_wp2;go_ret;exact ⟨yg.no Q.o,rfl⟩
theorem Te (a:Int) (n:Int) (w:World) (h0:0<=a) (h1:a < 4294967296) (h2:0<=n) (h3:n<=1048576) :
  Calls Tryz.prog 111 #[.int .i64 a,.int .i64 n] w fun e w'=>e = .returned (.agg #[.int .i64 a,.int .i64 (a+4 * n)])/\w'=w.alloc (.cells #[.int .i64 a,.int .i64 (a+4 * n)] 171):=by
 have e1:IntKind.i64.wrap (4 * n)=4 * n:=IntWalk.i64_in _ ⟨by omega,by omega⟩;have e2:IntKind.i64.wrap (a+4 * n)=a+4 * n:=IntWalk.i64_in _ ⟨by omega,by omega⟩;go_enter Tryz.func111,Tryz.ntmps111;go_wp2;refine bodyPost_ret (v:=.agg #[.int .i64 a,.int .i64 (a+4 * n)]) ?_ rfl ⟨rfl,rfl⟩;simp [results,Tryz.results111,go_sem]
theorem TU (a b c d:Int) (w:World) :
  Calls Tryz.prog 112 #[.agg #[.int .i64 a,.int .i64 b],.agg #[.int .i64 c,.int .i64 d]] w fun e w'=>yg e (Im.kJ a b c d)/\w.grownBy w' none:=by
 have G:=hid (ya (aJ w (.cells #[.int .i64 a,.int .i64 b] 171) none) (aJ _ (.cells #[.int .i64 c,.int .i64 d] 171) none));by_cases c1:a=b
 ·have Q:=hid (show ¬ Im.kJ a b c d from fun h=>h.1 c1);have d1:(a == b)=true:=by simpa using c1
  clear c1;go_enter Tryz.func112,Tryz.ntmps112;go_wp2;go_ret;exact ⟨yg.no Q.o,G.o⟩
 ·by_cases c2:c=d
  ·have Q:=hid (show ¬ Im.kJ a b c d from fun h=>h.2.1 c2);have d1:(a == b)=false:=by simpa using c1
   have d2:(c == d)=true:=by simpa using c2
   clear c1 c2;go_enter Tryz.func112,Tryz.ntmps112;go_wp2;go_ret;exact ⟨yg.no Q.o,G.o⟩
  ·have d1:(a == b)=false:=by simpa using c1
   have d2:(c == d)=false:=by simpa using c2
   by_cases c3:a < d
   ·have d3:decide (a < d)=true:=by simpa using c3
    have Q:=hid (show decide (c < b)=true↔Im.kJ a b c d from by rw [decide_eq_true_iff]; exact ⟨fun h=>⟨c1,c2,c3,h⟩,fun h=>h.2.2.2⟩);clear c1 c2 c3;go_enter Tryz.func112,Tryz.ntmps112;go_wp2;go_ret;exact ⟨yg.of Q.o,G.o⟩
   ·have d3:decide (a < d)=false:=by simpa using c3
    have Q:=hid (show ¬ Im.kJ a b c d from fun h=>c3 h.2.2.1);clear c1 c2 c3;go_enter Tryz.func112,Tryz.ntmps112;go_wp2;go_ret;exact ⟨yg.no Q.o,G.o⟩
namespace Im
def place (base:Int) (n:Nat) (a:Int):Int:=if base<=a/\(a - base) % 4=0/\(a - base) / 4 < n then (a - base) / 4 else -1
theorem CO {base:Int} {n:Nat} {a:Int} (h:In base n a):place base n a=(a - base) / 4:=if_pos h
theorem oJ {base:Int} {n:Nat} {a:Int} (h:¬ In base n a):place base n a = -1:=if_neg h
end Im
theorem TG (ao:Option Addr) (n cap:Nat) (base a:Int) (w:World) (h0:0<=a) (h1:a < 4294967296) (h2:0<=base) (h3:base < 4294967296) :
  Calls Tryz.prog 115 #[.slice ao n cap,.int .i64 base,.int .i64 a] w fun e w'=>e = .returned (.int .i64 (Im.place base n a))/\w'=w:=by
 by_cases c1:a < base
 ·have R:=hid (Im.oJ (n:=n) (show ¬ Im.In base n a from fun h=>by have:=h.1; omega));have d1:decide (a < base)=true:=by simpa using c1
  clear c1;go_enter Tryz.func115,Tryz.ntmps115;go_wp2;go_ret;rw [R.o];exact ⟨rfl,rfl⟩
 ·have d1:decide (a < base)=false:=by simpa using c1
  have e1:IntKind.i64.wrap (a - base)=a - base:=IntWalk.i64_in _ ⟨by omega,by omega⟩;have e2:(a - base).tmod 4=(a - base) % 4:=Int.tmod_eq_emod_of_nonneg (by omega);have e3:(a - base).tdiv 4=(a - base) / 4:=Int.tdiv_eq_ediv_of_nonneg (by omega);by_cases c2:(a - base) % 4=0
  ·have d2:((a - base) % 4 == 0)=true:=by simpa using c2
   by_cases c3:(a - base) / 4 < n
   ·have R:=hid (Im.CO (show Im.In base n a from ⟨by omega,c2,c3⟩));have d3:decide ((n:Int)<=(a - base) / 4)=false:=by simp; omega
    go_enter Tryz.func115,Tryz.ntmps115;go_wp2;go_ret;rw [R.o];exact ⟨rfl,rfl⟩
   ·have R:=hid (Im.oJ (show ¬ Im.In base n a from fun h=>c3 h.2.2));have d3:decide ((n:Int)<=(a - base) / 4)=true:=by simp; omega
    go_enter Tryz.func115,Tryz.ntmps115;go_wp2;go_ret;rw [R.o];exact ⟨rfl,rfl⟩
  ·have d2:((a - base) % 4 == 0)=false:=by simpa using c2
   have R:=hid (Im.oJ (n:=n) (show ¬ Im.In base n a from fun h=>c2 h.2.1));go_enter Tryz.func115,Tryz.ntmps115;go_wp2;go_ret;rw [R.o];exact ⟨rfl,rfl⟩
namespace Im
def code (m:dZ) (a:Int):Option Int :=
 if 0<=place m.text m.T.length a then some (m.T.getD (place m.text m.T.length a).toNat 0)
 else if 0<=place m.far m.F.length a then some (m.F.getD (place m.far m.F.length a).toNat 0) else none
theorem jW (base:Int) (n:Nat) (a:Int):place base n a = -1\/(0<=place base n a/\place base n a < n):=by
 unfold place;split
 ·right; omega
 ·left; rfl
theorem sI (base:Int) (n:Nat) (a:Int):0<=place base n a↔In base n a:=by
 unfold place In;split
 ·rename_i h; exact ⟨fun _=>h,fun _=>by omega⟩
 ·rename_i h; exact ⟨fun k=>by omega,fun k=>absurd k h⟩
theorem Bu (m:dZ) (a:Int):(code m a).isSome=true↔In m.text m.T.length a\/In m.far m.F.length a:=by
 unfold code;rw [<- sI,<- sI];by_cases h:0<=place m.text m.T.length a
 ·simp [h]
 ·by_cases k:0<=place m.far m.F.length a <;> simp [h,k]
structure jF (m:dZ):Prop where
 start:0<=m.start/\m.start < 4294967296
 text:0<=m.text/\m.text < 4294967296
 far:0<=m.far/\m.far < 4294967296
 data:0<=m.data/\m.data < 4294967296
 lens:m.T.length<=65535/\m.F.length<=65535/\m.D.length<=65535
 noughts:0<=m.noughts/\m.noughts<=65535
end Im
theorem mQ.open {W:World} {g:Nat} {m:Im.dZ} (h:mQ W g m):∃ at_ ct af cf ad cd,
  yc W g #[.int .i64 m.start,.int .i64 m.text,.int .i64 m.far,.int .i64 m.data,.slice at_ m.T.length ct,.slice af m.F.length cf,.slice ad m.D.length cd,.int .i64 m.noughts] 90 /\
  W.ownsRow 0 3 1 (.slice at_ m.T.length ct) m.T.length (m.T.map (Value.int .i64))/\W.ownsRow 0 3 1 (.slice af m.F.length cf) m.F.length (m.F.map (Value.int .i64)) /\
  W.ownsRow 0 3 1 (.slice ad m.D.length cd) m.D.length (m.D.map (Value.int .i64)):=by
 obtain ⟨vt,vf,vd,hb,h1,h2,h3⟩:=h;obtain ⟨at_,ct,rfl⟩:=yi h1;obtain ⟨af,cf,rfl⟩:=yi h2;obtain ⟨ad,cd,rfl⟩:=yi h3;exact ⟨at_,ct,af,cf,ad,cd,hb,h1,h2,h3⟩
theorem mQ.kept {W W':World} {g:Nat} {m:Im.dZ} (h:mQ W g m) (hg:W.grownBy W' none):mQ W' g m:=by
 obtain ⟨vt,vf,vd,hb,h1,h2,h3⟩:=h;have k:∀ {v:Value} {n:Nat} {xs:List Value},W.ownsRow 0 3 1 v n xs->W'.ownsRow 0 3 1 v n xs:=fun h=>h.kept hg (by
  cases h':Value.ownBlock _ with
  | none=>exact .inl rfl
  | some b=>right; simp)
 exact ⟨vt,vf,vd,hb.grown hg (by simp),k h1,k h2,k h3⟩
theorem Px (g:Nat) (m:Im.dZ) (a:Int) (w:World) (h:mQ w g m) (ht:Im.jF m) (h0:0<=a) (h1:a < 4294967296) :
  Calls Tryz.prog 76 #[.pointer (some ⟨g,0,none⟩),.int .i64 a] w fun e w'=>e = .returned (.tuple #[.int .i64 ((Im.code m a).getD 0),.bool (Im.code m a).isSome])/\∃ n,w'=w.drewN n:=by
 obtain ⟨at_,ct,af,cf,ad,cd,hb,q1,q2,-⟩:=h.open;have hc1:=qU q1;have hc2:=qU q2;have I1:=hid (yy.aO q1);have I2:=hid (yy.aO q2);have k1:=hb.cell 1;have k2:=hb.cell 2;have k4:=hb.cell 4;have k5:=hb.cell 5;simp only [bI,bN,bK] at k1 k2 k4 k5;have cT:=hid (fun W=>TG at_ m.T.length ct m.text a W h0 h1 ht.text.1 ht.text.2);have cF:=hid (fun W=>TG af m.F.length cf m.far a W h0 h1 ht.far.1 ht.far.2);obtain ⟨X,hX⟩:∃ X,X=Im.code m a:=⟨_,rfl⟩
 rw [<- hX];unfold Im.code at hX;have RX:=hid hX;have r1:=Im.jW m.text m.T.length a;have r2:=Im.jW m.far m.F.length a;have L:=hid ht.lens;clear hX h ht hb q1 q2;generalize Im.place m.text m.T.length a=i at *;generalize Im.place m.far m.F.length a=j at *;have hl1:=L.o.1;have hl2:=L.o.2.1;by_cases ci:0<=i
 ·have d1:decide (0<=i)=true:=by simpa using ci
  have hi:i.toNat < m.T.length:=by omega
  obtain ⟨sg,off,rfl,hcell⟩:=I1.o (by omega);have hck:=hcell i.toNat hi;rw [if_pos ci] at RX;have GE:=hid (show m.T.getD i.toNat 0=m.T[i.toNat] from by rw [lC,j3 hi]; rfl);rw [GE.o] at RX;have g1:i < (m.T.length:Int):=by omega
  clear hcell r1 r2 cF I1 I2 L GE;generalize m.T[i.toNat]=v at *;obtain ⟨n,rfl⟩:∃ n:Nat,i=n:=⟨i.toNat,by omega⟩
  rw [Int.toNat_natCast] at hck hi;go_enter Tryz.func76,Tryz.ntmps76;go_wp2
  go_quiet ((go_at_call 115; exact Calls.quiet_of_same (cT.o _)))
  go_wp2;go_ret2;rw [RX.o];exact ⟨rfl,_,rfl⟩
 ·have d1:decide (0<=i)=false:=by simpa using ci
  rw [if_neg ci] at RX;obtain rfl:i = -1:=by omega
  clear I1 r1;by_cases cj:0<=j
  ·have d2:decide (0<=j)=true:=by simpa using cj
   have hj:j.toNat < m.F.length:=by omega
   obtain ⟨sg,off,rfl,hcell⟩:=I2.o (by omega);have hck:=hcell j.toNat hj;rw [if_pos cj] at RX;have GE:=hid (show m.F.getD j.toNat 0=m.F[j.toNat] from by rw [lC,j3 hj]; rfl);rw [GE.o] at RX;have g1:j < (m.F.length:Int):=by omega
   clear hcell r2 I2 L GE;generalize m.F[j.toNat]=v at *;obtain ⟨n,rfl⟩:∃ n:Nat,j=n:=⟨j.toNat,by omega⟩
   rw [Int.toNat_natCast] at hck hj;go_enter Tryz.func76,Tryz.ntmps76;go_wp2
   go_quiet ((go_at_call 115; exact Calls.quiet_of_same (cT.o _)))
   go_wp2;have HE:=hid (show ∃ n,w.drewN nq=w.drewN n from ⟨_,rfl⟩);replace k2:(w.drewN nq).cell? ⟨g,2,none⟩=some (.int .i64 m.far):=k2;replace k5:(w.drewN nq).cell? ⟨g,5,none⟩=some (.slice (some ⟨sg,off,none⟩) m.F.length cf):=k5;replace hck:(w.drewN nq).cell? ⟨sg,off+n,none⟩=some (.int .i64 v):=hck;generalize w.drewN nq=V at *
   go_quiet ((go_at_call 115; exact Calls.quiet_of_same (cF.o _)))
   go_wp2;go_ret2;rw [RX.o];exact ⟨rfl,by obtain ⟨q,hq⟩:=HE.o; exact ⟨_,by rw [hq,World.drewN_drewN]⟩⟩
  ·have d2:decide (0<=j)=false:=by simpa using cj
   rw [if_neg cj] at RX;obtain rfl:j = -1:=by omega
   go_enter Tryz.func76,Tryz.ntmps76;go_wp2
   go_quiet ((go_at_call 115; exact Calls.quiet_of_same (cT.o _)))
   go_wp2;have HE:=hid (show ∃ n,w.drewN nq=w.drewN n from ⟨_,rfl⟩);replace k2:(w.drewN nq).cell? ⟨g,2,none⟩=some (.int .i64 m.far):=k2;replace k5:(w.drewN nq).cell? ⟨g,5,none⟩=some (.slice af m.F.length cf):=k5;generalize w.drewN nq=V at *
   go_quiet ((go_at_call 115; exact Calls.quiet_of_same (cF.o _)))
   go_wp2;go_ret2;rw [RX.o];exact ⟨rfl,by obtain ⟨q,hq⟩:=HE.o; exact ⟨_,by rw [hq,World.drewN_drewN]⟩⟩
namespace Mc
def wd (x:Int):Int:=x % 4294967296
def sg (x:Int):Int:=if x < 2147483648 then x else x - 4294967296
theorem gH (x:Int):0<=wd x/\wd x < 4294967296:=by unfold wd; omega
structure St where
 regs:List Int
 data:List Int
 pc:Int
 next:Int
 fM:Int
 code:Int
 o:List Int
 steps:Nat
 read:Nat
def reg (st:St) (n:Int):Int:=st.regs.getD (n % 32).toNat 0
def set (n v:Int) (st:St):St:=if n % 32=0 then st else { st with regs:=st.regs.set (n % 32).toNat (wd v) }
def holds (op a b:Int):Bool :=
 if op=5 then decide (a=b) else if op=6 then decide (a≠b) else if op=7 then decide (sg a < sg b) else if op=8 then decide (sg b<=sg a)
 else if op=9 then decide (a < b) else if op=10 then decide (b<=a) else false
def computed (op a b:Int):Int :=
 if op=18 then a+b else if op=19 then a - b else if op=20 then (if sg a < sg b then 1 else 0) else if op=21 then (if a < b then 1 else 0)
 else if op=22 then bits .xor .i64 a b else if op=23 then bits .or .i64 a b else if op=24 then bits .and .i64 a b else 0
def plain (op:Int):Int:=if op=13 then 18 else if op=14 then 20 else if op=15 then 22 else if op=16 then 23 else if op=17 then 24 else 0
def jump (rd dest:Int) (st:St):St:={ set rd (st.pc+4) st with next:=wd dest }
def branch (taken:Bool) (n:Int) (st:St):St:=if taken then { st with next:=wd (st.pc+n) } else st
def load (m:Im.dZ) (rd a:Int) (st:St):St :=
 match Im.code m a with
 | some w=>set rd w st
 | none=>if 0<=Im.place m.data st.data.length a then set rd (st.data.getD (Im.place m.data st.data.length a).toNat 0) st else { st with fM:=4 }
def store (m:Im.dZ) (a v:Int) (st:St):St :=
 if 0<=Im.place m.data st.data.length a then { st with data:=st.data.set (Im.place m.data st.data.length a).toNat v } else { st with fM:=5 }
def call (ins:List Int) (st:St):St :=
 if reg st 17=0 then { st with fM:=1,code:=sg (reg st 10) }
 else if reg st 17=1 then (if 16<=st.o.length then { st with fM:=6 } else { st with o:=st.o ++ [sg (reg st 10)] })
 else if reg st 17=2 then (if ins.length<=st.read then { st with fM:=6 } else { set 10 (ins.getD st.read 0) st with read:=st.read+1 })
 else { st with fM:=6 }
def doIt (m:Im.dZ) (ins:List Int) (op rd au aF n:Int) (st:St):St :=
 if op=0 then { st with fM:=3 }
 else if op=1 then set rd (n * 4096) st
 else if op=2 then set rd (n * 4096+st.pc) st
 else if op=3 then jump rd (st.pc+n) st
 else if op=4 then jump rd ((reg st au+n) - (reg st au+n) % 2) st
 else if 5<=op/\op<=10 then branch (holds op (reg st au) (reg st aF)) n st
 else if op=11 then load m rd (wd (reg st au+n)) st
 else if op=12 then store m (wd (reg st au+n)) (reg st aF) st
 else if 13<=op/\op<=17 then set rd (computed (plain op) (reg st au) (wd n)) st
 else if op=25 then call ins st
 else set rd (computed op (reg st au) (reg st aF)) st
def step (m:Im.dZ) (ins:List Int) (st:St):St :=
 match Im.code m st.pc with
 | none=>{ st with steps:=st.steps+1,fM:=2 }
 | some w =>
  let s:=doIt m ins (kH w) (gB (aV w) w) (bL (aV w) w) (jG (aV w) w) (jq (aV w) w) { st with steps:=st.steps+1,next:=wd (st.pc+4) }
  { s with pc:=s.next }
def steps (m:Im.dZ) (ins:List Int) (fuel:Nat):Nat->St->St
 | 0,st=>st
 | k+1,st=>if st.fM=0/\st.steps < fuel then steps m ins fuel k (step m ins st) else st
structure Ok (st:St):Prop where
 regs:st.regs.length=32
 words:∀ i,0<=st.regs.getD i 0/\st.regs.getD i 0 < 4294967296
 zero:st.regs.getD 0 0=0
 data:st.data.length<=131070
 kL:∀ i,0<=st.data.getD i 0/\st.data.getD i 0 < 4294967296
 pc:0<=st.pc/\st.pc < 4294967296
 next:0<=st.next/\st.next < 4294967296
 o:st.o.length<=16
 steps:st.steps<=65536
 read:st.read<=16
end Mc
theorem ZB (n:Int):bits .and .i64 n 4294967295=Mc.wd n:=by
 have h1:(BitVec.ofInt 64 4294967295).toNat=2 ^ 32 - 1:=by decide
 have key:(BitVec.ofInt 64 n &&& BitVec.ofInt 64 4294967295).toNat=(n % ((2 ^ 64:Nat):Int)).toNat % 2 ^ 32:=by
  rw [BitVec.toNat_and,BitVec.toNat_ofInt,h1,Nat.and_two_pow_sub_one_eq_mod]
 show IntKind.i64.wrap ((BitVec.ofInt 64 n &&& BitVec.ofInt 64 4294967295).toNat:Nat)=n % 4294967296;rw [key,IntKind.wrap_i64];omega
def jR (g:Nat) (eH:Value) (st:Mc.St) (vd vo:Value):List Value :=
 [.pointer (some ⟨g,0,none⟩),eH] ++ (st.regs.map (Value.int .i64) ++ [vd,.int .i64 st.pc,.int .i64 st.next,.int .i64 st.fM,.int .i64 st.code,vo,.int .i64 st.steps,.int .i64 st.read])
structure yw (W0:World) (b g:Nat) (eH:Value) (st:Mc.St) (vd vo:Value) (W:World):Prop where
 blk:yc W b (jR g eH st vd vo).toArray 93
 data:W.ownsRow W0.heap.size 3 1 vd st.data.length (st.data.map (Value.int .i64))
 o:W.ownsRow W0.heap.size 3 1 vo st.o.length (st.o.map (Value.int .i64))
 apart:(∀ k,vd.ownBlock=some k->k≠b)/\(∀ k,vo.ownBlock=some k->k≠b)/\∀ k,vd.ownBlock=some k->vo.ownBlock≠some k
 lo:W0.heap.size<=b
 gr:W0.grownBy W none
 ok:Mc.Ok st
theorem ypN (g:Nat) (eH:Value) (st:Mc.St) (vd vo:Value) (h:st.regs.length=32) (i:Nat) (hi:i < 32):(jR g eH st vd vo)[2+i]?=some (.int .i64 (st.regs.getD i 0)):=by
 unfold jR;rw [List.getElem?_append_right (by simp),List.getElem?_append_left (by simp; omega)];have e:2+i - [Value.pointer (some ⟨g,0,none⟩),eH].length=i:=by simp
 rw [e,List.getElem?_map,j3 (by omega),lC,j3 (by omega)];rfl
theorem YD (g:Nat) (eH:Value) (st:Mc.St) (vd vo:Value) (h:st.regs.length=32) (i:Nat):(jR g eH st vd vo)[34+i]?=[vd,.int .i64 st.pc,.int .i64 st.next,.int .i64 st.fM,.int .i64 st.code,vo,.int .i64 st.steps,.int .i64 st.read][i]?:=by
 unfold jR;rw [List.getElem?_append_right (by simp; omega),List.getElem?_append_right (by simp; omega)]
 congr 1
 simp;omega
section
variable {W0 W:World} {b g:Nat} {eH vd vo:Value} {st:Mc.St}
theorem yw.c (h:yw W0 b g eH st vd vo W):W.cell? ⟨b,0,none⟩=some (.pointer (some ⟨g,0,none⟩))/\W.cell? ⟨b,1,none⟩=some eH/\W.cell? ⟨b,34,none⟩=some vd/\W.cell? ⟨b,35,none⟩=some (.int .i64 st.pc)/\W.cell? ⟨b,36,none⟩=some (.int .i64 st.next) /\
  W.cell? ⟨b,37,none⟩=some (.int .i64 st.fM)/\W.cell? ⟨b,38,none⟩=some (.int .i64 st.code)/\W.cell? ⟨b,39,none⟩=some vo/\W.cell? ⟨b,40,none⟩=some (.int .i64 st.steps)/\W.cell? ⟨b,41,none⟩=some (.int .i64 st.read):=by
 have k:∀ i,W.cell? ⟨b,i,none⟩=(jR g eH st vd vo)[i]?:=fun i=>(h.blk.cell i).trans bI
 have t:=YD g eH st vd vo h.ok.regs;refine ⟨k 0,k 1,(k 34).trans (t 0),(k 35).trans (t 1),(k 36).trans (t 2),(k 37).trans (t 3),(k 38).trans (t 4),(k 39).trans (t 5),(k 40).trans (t 6),(k 41).trans (t 7)⟩
theorem yw.cr (h:yw W0 b g eH st vd vo W) (i:Nat) (hi:i < 32):W.cell? ⟨b,2+i,none⟩=some (.int .i64 (st.regs.getD i 0)):=((h.blk.cell (2+i)).trans bI).trans (ypN g eH st vd vo h.ok.regs i hi)
end
theorem Dz (n:Int) (w:World):Calls Tryz.prog 81 #[.int .i64 n] w fun e w'=>e = .returned (.int .i64 (Mc.wd n))/\w'=w:=by
 have E:=hid (ZB n);go_enter Tryz.func81,Tryz.ntmps81;go_wp2;go_ret;exact ⟨yM E.o,rfl⟩
theorem Tk (n:Int) (w:World) (h0:0<=n) (h1:n < 4294967296):Calls Tryz.prog 180 #[.int .i64 n] w fun e w'=>e = .returned (.int .i64 (Mc.sg n))/\w'=w:=by
 by_cases h:n < 2147483648
 ·have E:=hid (show n=Mc.sg n by unfold Mc.sg; rw [if_pos h]);go_enter Tryz.func180,Tryz.ntmps180;go_wp2;go_ret;exact ⟨yM E.o,rfl⟩
 ·have E:=hid (show n - 4294967296=Mc.sg n by unfold Mc.sg; rw [if_neg h]);have d:decide (n < 2147483648)=false:=by simpa using h
  have e1:IntKind.i64.wrap (n - 4294967296)=n - 4294967296:=IntWalk.i64_in _ ⟨by omega,by omega⟩;go_enter Tryz.func180,Tryz.ntmps180;go_wp2;go_ret;exact ⟨yM E.o,rfl⟩
theorem ZU (n:Int) (h0:0<=n) (h1:n<=4294967295):bits .and .i64 n 31=n % 32:=low n 5 (by decide) 31 32 rfl rfl h0 h1
theorem yj (W0:World) (b g:Nat) (eH:Value) (st:Mc.St) (vd vo:Value) (n:Int) (W:World) (h:yw W0 b g eH st vd vo W) (h0:0<=n) (h1:n < 32) :
  Calls Tryz.prog 118 #[.pointer (some ⟨b,0,none⟩),.int .i64 n] W fun e W'=>e = .returned (.int .i64 (Mc.reg st n))/\W'=W:=by
 obtain ⟨k,rfl⟩:=Int.eq_ofNat_of_zero_le h0;have hk:k < 32:=by omega
 have c:=h.cr k hk;have e:=ZU (k:Int) (by omega) (by omega);have e2:(k:Int) % 32=k:=by omega
 rw [e2] at e;have R:=hid (show Mc.reg st (k:Int)=st.regs.getD k 0 by unfold Mc.reg; rw [e2]; rfl);clear h e2;generalize st.regs.getD k 0=v at *;go_enter Tryz.func118,Tryz.ntmps118;go_wp2;go_ret;exact ⟨yM R.o.symm,rfl⟩
theorem Ec {W:World} {B b o:Nat} {v u:Value} {n:Nat} {xs:List Value} (h:W.ownsRow B 3 1 v n xs) (hne:∀ k,v.ownBlock=some k->k≠b):(W.setCell ⟨b,o,none⟩ u).ownsRow B 3 1 v n xs :=
 h.kept (ye W b o u) (by
  cases hv:v.ownBlock with
  | none=>exact .inl rfl
  | some k=>right; intro e; exact hne k hv (by simpa using e))
theorem yO {w a c:World} {row:Option Nat} (h:w.grownBy a none) (k:a.grownBy c row) (hb:∀ b,row=some b->w.heap.size<=b):w.grownBy c none :=
 ⟨k.os.trans h.os,k.tape.trans h.tape,k.output.trans h.output,Nat.le_trans h.size k.size,fun i hi _ =>
  (k.block i (Nat.lt_of_lt_of_le hi h.size) (fun e=>by have:=hb i e.symm; omega)).trans (h.block i hi (by simp))⟩
section
variable {W0 W W':World} {b g:Nat} {eH vd vo:Value} {st:Mc.St}
theorem yw.put (h:yw W0 b g eH st vd vo W) (o:Nat) (v:Value) (st':Mc.St) (hc:(jR g eH st vd vo).set o v=jR g eH st' vd vo) (hd:st'.data=st.data) (ho:st'.o=st.o) (hok:Mc.Ok st') :
  yw W0 b g eH st' vd vo (W.setCell ⟨b,o,none⟩ v):=by
 refine ⟨?_,by rw [hd]; exact Ec h.data h.apart.1,by rw [ho]; exact Ec h.o h.apart.2.1,h.apart,h.lo,yO h.gr (ye W b o v) (by intro k e; simp at e; have:=h.lo; omega),hok⟩
 have:=h.blk.set o v
 rw [gu,hc] at this;exact this
theorem yw.grown (h:yw W0 b g eH st vd vo W) (hg:W.grownBy W' none):yw W0 b g eH st vd vo W' :=
 ⟨h.blk.grown hg (by simp),h.data.kept hg (by cases hv:vd.ownBlock <;> simp),h.o.kept hg (by cases hv:vo.ownBlock <;> simp),h.apart,h.lo,ya h.gr hg,h.ok⟩
theorem yw.free (h:yw W0 b g eH st vd vo W) (o:Nat):W.frozen? ⟨b,o,none⟩=false:=h.blk.free o
end
theorem yly (g:Nat) (eH:Value) (st:Mc.St) (vd vo:Value) (h:st.regs.length=32) (i:Nat) (hi:i < 32) (v:Int):(jR g eH st vd vo).set (2+i) (.int .i64 v)=jR g eH { st with regs:=st.regs.set i v } vd vo:=by
 unfold jR;rw [List.set_append_right _ _ (by simp),List.set_append_left _ _ (by simp; omega)];have e:2+i - [Value.pointer (some ⟨g,0,none⟩),eH].length=i:=by simp
 rw [e,List.map_set]
theorem JQ (g:Nat) (eH:Value) (st st':Mc.St) (vd vo Na Nc:Value) (h:st.regs.length=32) (hr:st'.regs=st.regs) (i:Nat) (v:Value)
  (he:[vd,.int .i64 st.pc,.int .i64 st.next,.int .i64 st.fM,.int .i64 st.code,vo,.int .i64 st.steps,.int .i64 st.read].set i v=[Na,.int .i64 st'.pc,.int .i64 st'.next,.int .i64 st'.fM,.int .i64 st'.code,Nc,.int .i64 st'.steps,.int .i64 st'.read]) :
  (jR g eH st vd vo).set (34+i) v=jR g eH st' Na Nc:=by
 unfold jR;rw [List.set_append_right _ _ (by simp; omega),List.set_append_right _ _ (by simp; omega),hr]
 congr 2
 rw [<- he]
 congr 1
 simp;omega
theorem yqY {st:Mc.St} (h:Mc.Ok st) (i:Nat) (v:Int) (hi:i≠0):Mc.Ok { st with regs:=st.regs.set i (Mc.wd v) }:=by
 have hw:=Mc.gH v;have g:∀ j,(st.regs.set i (Mc.wd v)).getD j 0=st.regs.getD j 0\/(st.regs.set i (Mc.wd v)).getD j 0=Mc.wd v:=by
  intro j;rw [lC,lC,List.getElem?_set];split
  ·split
   ·exact .inr rfl
   ·left
    rename_i h1 h2;subst h1;rw [List.getElem?_eq_none (by omega)]
  ·exact .inl rfl
 refine ⟨by simpa using h.regs,fun j=>?_,?_,h.data,h.kL,h.pc,h.next,h.o,h.steps,h.read⟩
 ·rcases g j with e | e
  ·rw [e]; exact h.words j
  ·rw [e]; exact hw
 ·show (st.regs.set i (Mc.wd v)).getD 0 0=0;rw [lC,List.getElem?_set,if_neg hi];exact h.zero
end Go.Proofs.YtpgklkhgfcjceaaGreatDoor
