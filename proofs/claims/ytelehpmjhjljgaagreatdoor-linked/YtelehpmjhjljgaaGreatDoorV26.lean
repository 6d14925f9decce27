
import Derived.Test.YtelehpmjhjljgaaGreatDoorV25
set_option maxHeartbeats 16000000
set_option maxRecDepth 100000
namespace Go.Proofs.YtelehpmjhjljgaaGreatDoor
def ors (f n:Int) (w:Nat):Nat->Nat
 | 0=>w
 | a+1=>ors f n w a ||| As.dB n (ji f a) 1 * 2 ^ je f a
theorem Yu (n:Int) (lo c:Nat):As.dB n lo (c+1)=As.dB n lo c+As.dB n (lo+c) 1 * 2 ^ c:=by
 unfold As.dB;have hp:(0:Int) < 2 ^ c:=Int.pow_pos (by decide);have e1:n / (2:Int) ^ (lo+c)=n / 2 ^ lo / 2 ^ c:=by
  rw [Int.pow_add,Int.ediv_ediv_of_nonneg (Int.le_of_lt (Int.pow_pos (by decide)))]
 rw [e1];generalize n / (2:Int) ^ lo=m;have d1:=Int.emod_add_mul_ediv m (2 ^ c);have b1:=Int.emod_nonneg m (Int.ne_of_gt hp);have b2:=Int.emod_lt_of_pos m hp;generalize m / 2 ^ c=q at *;generalize m % 2 ^ c=r at *;have q1:q % 2=0\/q % 2=1:=by omega
 have e2:m % 2 ^ (c+1)=r+2 ^ c * (q % 2):=by
  have d2:q=2 * (q / 2)+q % 2:=by omega
  have e3:m=(r+2 ^ c * (q % 2))+2 ^ (c+1) * (q / 2):=by
   rw [<- d1,Int.pow_succ]
   conv=>lhs; rw [d2]
   rw [Int.mul_add,Int.mul_assoc];omega
  rw [e3,Int.add_mul_emod_self_left];refine Int.emod_eq_of_lt ?_ ?_
  ·rcases q1 with h | h <;> rw [h] <;> omega
  ·rw [Int.pow_succ];rcases q1 with h | h <;> rw [h] <;> omega
 rw [e2,Int.pow_one];have e4:((2 ^ c:Nat):Int)=(2:Int) ^ c:=by simp
 rcases q1 with h | h
 ·rw [h]; simp
 ·rw [h];simp only [Int.mul_one];generalize (2:Int) ^ c=P at *
  have:(1:Int).toNat=1:=rfl
  rw [this];generalize 2 ^ c=PN at *;omega
theorem YT (x b k a:Nat) (hx:x < 2 ^ a):x * 2 ^ k ||| b * 2 ^ (k+a)=(x+b * 2 ^ a) * 2 ^ k:=by
 have h:x * 2 ^ k < 2 ^ (k+a):=by
  rw [Nat.pow_add,Nat.mul_comm (2 ^ k)];exact Nat.mul_lt_mul_of_pos_right hx (Nat.pow_pos (by decide))
 rw [Nat.or_comm,Nat.mul_comm b,<- Nat.two_pow_add_eq_or_of_lt h,Nat.pow_add,Nat.add_mul,Nat.add_comm,Nat.mul_comm (2 ^ k) (2 ^ a),Nat.mul_comm b (2 ^ a),Nat.mul_assoc,Nat.mul_assoc,Nat.mul_comm (2 ^ k) b]
theorem yox (f n:Int) (k s c:Nat) (hp:∀ a,a < c->ji f (s+a)=s+a/\je f (s+a)=k+a) (w:Nat):ors f n w (s+c)=ors f n w s ||| As.dB n s c * 2 ^ k:=by
 induction c with
 | zero =>
  have:As.dB n s 0=0:=by have:=kS n s 0; omega
  rw [this];simp
 | succ c ih =>
  have h:=hp c (by omega);show ors f n w (s+c) ||| As.dB n (ji f (s+c)) 1 * 2 ^ je f (s+c)=_;rw [ih fun a ha=>hp a (by omega),h.1,h.2,Nat.or_assoc,YT _ _ _ _ (kS n s c),Yu n s c]
theorem Kj (f n:Int) (w:Nat):ors f n w 0=w:=rfl
theorem M5 (f n:Int) (k s c M:Nat) (hM:2 ^ k=M) (hp:∀ a,a < c->ji f (s+a)=s+a/\je f (s+a)=k+a) (w:Nat):ors f n w (s+c)=ors f n w s ||| As.dB n s c * M:=by
 rw [<- hM];exact yox f n k s c hp w
theorem Db (f n:Int) (k s c t M:Nat) (hM:2 ^ k=M) (hp:∀ a,a < c->ji f (s+a)=t+a/\je f (s+a)=k+a) (w:Nat):ors f n w (s+c)=ors f n w s ||| As.dB n t c * M:=by
 subst hM
 induction c with
 | zero =>
  have:As.dB n t 0=0:=by have:=kS n t 0; omega
  rw [this];simp
 | succ c ih =>
  have h:=hp c (by omega);show ors f n w (s+c) ||| As.dB n (ji f (s+c)) 1 * 2 ^ je f (s+c)=_;rw [ih fun a ha=>hp a (by omega),h.1,h.2,Nat.or_assoc,YT _ _ _ _ (kS n t c),Yu n t c]
theorem ymC (f:Nat) (n:Int) (w:Nat) (hf:1<=f/\f<=7):ors f n w (kE f)=w ||| As.place' f n:=by
 rcases (show f=1\/f=2\/f=3\/f=4\/f=5\/f=6\/f=7 by omega) with rfl | rfl | rfl | rfl | rfl | rfl | rfl
 ·have e:As.place' 1 n=As.dB n 0 20 * 4096:=by unfold As.place'; rw [if_pos rfl]
  have h:=M5 1 n 12 0 20 4096 (by decide) (by decide) w;rw [Nat.zero_add,Kj] at h;rw [e,<- h];rfl
 ·have e:As.place' 2 n=(As.dB n 20 1 * 2147483648 ||| As.dB n 1 10 * 2097152 ||| As.dB n 11 1 * 1048576 ||| As.dB n 12 8 * 4096):=by unfold As.place'; rw [if_neg (by decide),if_pos rfl]
  have h1:=Db 2 n 21 0 10 1 2097152 (by decide) (by decide) w;have h2:=Db 2 n 20 10 1 11 1048576 (by decide) (by decide) w;have h3:=Db 2 n 12 11 8 12 4096 (by decide) (by decide) w;have h4:=Db 2 n 31 19 1 20 2147483648 (by decide) (by decide) w;rw [Nat.zero_add,Kj] at h1;rw [h1] at h2;rw [show 10+1=11 from rfl] at h2;rw [h2] at h3;rw [show 11+8=19 from rfl] at h3;rw [h3] at h4;rw [e,show kE ((2:Nat):Int)=19+1 from rfl,show ((2:Nat):Int)=2 from rfl,h4]
  ac_rfl
 ·have e:As.place' 3 n=As.dB n 0 12 * 1048576:=by unfold As.place'; rw [if_neg (by decide),if_neg (by decide),if_pos rfl]
  have h:=M5 3 n 20 0 12 1048576 (by decide) (by decide) w;rw [Nat.zero_add,Kj] at h;rw [e,<- h];rfl
 ·have e:As.place' 4 n=(As.dB n 12 1 * 2147483648 ||| As.dB n 5 6 * 33554432 ||| As.dB n 1 4 * 256 ||| As.dB n 11 1 * 128):=by unfold As.place'; rw [if_neg (by decide),if_neg (by decide),if_neg (by decide),if_pos rfl]
  have h1:=Db 4 n 8 0 4 1 256 (by decide) (by decide) w;have h2:=Db 4 n 25 4 6 5 33554432 (by decide) (by decide) w;have h3:=Db 4 n 7 10 1 11 128 (by decide) (by decide) w;have h4:=Db 4 n 31 11 1 12 2147483648 (by decide) (by decide) w;rw [Nat.zero_add,Kj] at h1;rw [h1] at h2;rw [show 4+6=10 from rfl] at h2;rw [h2] at h3;rw [show 10+1=11 from rfl] at h3;rw [h3] at h4;rw [e,show kE ((4:Nat):Int)=11+1 from rfl,show ((4:Nat):Int)=4 from rfl,h4]
  ac_rfl
 ·have e:As.place' 5 n=(As.dB n 5 7 * 33554432 ||| As.dB n 0 5 * 128):=by unfold As.place'; rw [if_neg (by decide),if_neg (by decide),if_neg (by decide),if_neg (by decide),if_pos rfl]
  have h1:=M5 5 n 7 0 5 128 (by decide) (by decide) w;have h2:=M5 5 n 25 5 7 33554432 (by decide) (by decide) w;rw [Nat.zero_add,Kj] at h1;rw [h1,Nat.or_assoc,Nat.or_comm (As.dB n 0 5 * 128),<- e] at h2;rw [<- h2];rfl
 ·have e:As.place' 6 n=0:=by unfold As.place'; rw [if_neg (by decide),if_neg (by decide),if_neg (by decide),if_neg (by decide),if_neg (by decide)]
  rw [e,Nat.or_zero];rfl
 ·have e:As.place' 7 n=0:=by unfold As.place'; rw [if_neg (by decide),if_neg (by decide),if_neg (by decide),if_neg (by decide),if_neg (by decide)]
  rw [e,Nat.or_zero];rfl
theorem Zm (f n:Int) (w a:Nat) (hw:w < 2 ^ 40) (hq:∀ i,i < a->je f i<=31):ors f n w a < 2 ^ 40:=by
 induction a with
 | zero=>exact hw
 | succ a ih =>
  refine Nat.or_lt_two_pow (ih fun i hi=>hq i (by omega)) ?_;have h:=kS n (ji f a) 1;have h2:=Nat.pow_le_pow_right (show 0 < 2 by decide) (hq a (by omega));have h3:As.dB n (ji f a) 1 * 2 ^ je f a<=1 * 2 ^ 31:=Nat.mul_le_mul (by omega) h2;omega
end Go.Proofs.YtelehpmjhjljgaaGreatDoor

namespace Go.Proofs.YtelehpmjhjljgaaGreatDoor
open Go.RowKit
theorem ymU (v:Int) (j:Nat) (w:World) (hj:j<=31) :
  Calls Tryz.prog 116 #[.int .i64 v,.int .i64 j] w fun e w'=>e = .returned (.int .i64 (As.dB v j 1:Nat))/\w'=w:=by
 go_enter Tryz.func116,Tryz.ntmps116;go_wp2;go_ret;refine ⟨?_,rfl⟩;have e:bits .and .i64 (v / 2 ^ j) 1=((As.dB v j 1:Nat):Int):=by rw [Nr]; unfold As.dB; rw [Int.pow_one]
 rw [<- e];rfl
theorem zZ (a r m:Nat) (M:Int) (hM:M=(m:Int)) (ha:a < 2 ^ 40) (hm:m<=1048576) (hr:r<=31):bits .or .i64 (a:Int) ((r:Int) * M)=((a ||| As.dB r 0 5 * m:Nat):Int)/\a ||| As.dB r 0 5 * m < 2 ^ 40:=by
 have e:As.dB r 0 5=r:=by unfold As.dB; simp only [Int.pow_zero,Int.ediv_one]; omega
 have h2:r * m<=31 * 1048576:=Nat.mul_le_mul hr hm;rw [e,hM,<- Int.natCast_mul,vI _ _ (by omega) (by omega)];exact ⟨rfl,SC _ _ ha (by omega)⟩
theorem ymQ (op rd dP fq:Nat) (n:Int) (fb:Int) (w:World) (h1:1<=op) (h2:op<=25) (hr:rd<=31/\dP<=31/\fq<=31) :
  Calls Tryz.prog 93 #[dR op rd dP fq n fb] w fun e w'=>e = .returned (.int .i64 (As.enc op rd dP fq n:Nat))/\w.grownBy w' none:=by
 have G:=hid (fun o:Obj=>aH w o none);have cT:=hid Ro;have EN:=hid (show As.enc op rd dP fq n=As.gH (As.forms.getD op 0) (As.iT.getD op 0) rd dP fq n from rfl);have hf:=YR op h1 h2;have hx:=Yr op h2;have TF:=hid (Rn op h2);have TX:=hid (YA op h2);generalize As.enc op rd dP fq n=R at *;unfold dR;go_enter Tryz.func93,Tryz.ntmps93;go_wp2_with fail;refine (cT.o _).mono ?_;rintro e w1 ⟨rfl,htab,hlt,hg1⟩;have BX:=hid (((ye.new w _ _).grown hg1 (by simp)):ye w1 w.heap.size #[.int .i64 op,.int .i64 rd,.int .i64 dP,.int .i64 fq,.int .i64 n,.int .u8 fb] 167);have G1:=hid (ya (G.o _) hg1);generalize (w.alloc _).heap.size=TB at *
 generalize w.heap.size=X at *;have Ak:=hid htab;clear htab hg1 hlt;go_wp2
 go_loopw [4,5] (fun x i wr=>∃ k:Nat,k<=25/\i = .int .i64 k/\x = .int .i64 (if k < op then 0 else (R:Int))/\w1.grownBy wr none) (fun _ i _=>25 - (intOf i).toNat)
 case atStart=>exact ⟨0,Nat.zero_le _,rfl,by rw [if_pos (by omega)],World.grownBy.refl _ _⟩
 case round =>
  obtain ⟨k,hk1,rfl,rfl,hgr⟩:=hrel;have HG:=hid hgr;clear hgr;by_cases hlt:k < 25
  ·obtain ⟨q1,q2,q3,q4⟩:=(Ak.o k hlt).grown HG.o;have b0:=(BX.o.grown HG.o (by simp)).cell 0;simp only [dH,dK] at b0;have g2:(k:Int) < 25:=by omega
   by_cases hko:k+1=op
   ·subst hko;have z0:(((k:Int)+1) != ((k+1:Nat):Int))=false:=by simp
    have z1:(if k < k+1 then 0 else (R:Int))=0:=if_pos (by omega);rw [z1];clear z1;go_wp2
    go_quiet (fail)
    have T2:=(Ak.o k hlt).grown (yd HG.o nq);unfold Gn at T2;rw [TF.o,TX.o] at T2;have HG2:=hid (yd HG.o nq);clear q1 q2 q3 q4 b0;generalize wr.drewN nq=w2 at *;obtain ⟨-,q2,-,q4⟩:=T2;generalize As.forms.getD (k+1) 0=f at *;generalize As.iT.getD (k+1) 0=fx at *;have hfr:1<=(f:Int)/\(f:Int)<=7:=by omega
    have cP:=hid (fun W=>Ye f W hfr);go_wp2_with fail;refine (cP.o _).mono ?_;rintro e w3 ⟨v,rfl,hown,hg3⟩;obtain ⟨ao,cap,rfl⟩:=yj hown;have G3:=hid (ya HG2.o hg3);have II:=hid (ym.aB hown);have hcap:=yZ hown;obtain ⟨L1,L2,L3⟩:=Q8 f hfr;rw [L1] at hcap;have HL:=hid L3;have HQ:=hid (fun i hi=>(L3 i hi).2.2.2);clear hown hg3 L3 q2 q4 HG2;have hcap1:=hcap.1;have hcap2:=hcap.2;unfold maxLen at hcap2;clear hcap;rw [L1];have qD:=hid L1;clear L1;have UF:=hid (ymC f n fx hf);have B3:=hid (BX.o.grown G3.o (by simp));clear HG BX;go_wp2
    go_loopw [4,8] (fun x i wr=>∃ a:Nat,a<=kE f/\i = .int .i64 ((a * 2:Nat):Int)/\x = .int .i64 (ors f n fx a:Nat)/\w3.grownBy wr none) (fun _ i _=>kE f * 2 - (intOf i).toNat)
    case atStart=>exact ⟨0,Nat.zero_le _,rfl,rfl,World.grownBy.refl _ _⟩
    case round =>
     obtain ⟨a,ha,rfl,rfl,hgr⟩:=hrel;have zf:=hid hgr;have B4:=hid (B3.o.grown hgr (by simp));clear hgr;have b4:=B4.o.cell 4;simp only [dH,dL,dK] at b4;by_cases hla:a < kE f
     ·obtain ⟨e1,e2,e3,e4⟩:=HL.o a hla;obtain ⟨g',off',hao,hcell⟩:=II.o (by have:=qD.o; omega);subst hao;have s1:a * 2 < (yM f).length:=by have:=qD.o; omega
      have s2:a * 2+1 < (yM f).length:=by have:=qD.o; omega
      have c1:=yc (hcell (a * 2) s1) zf.o;have c2:=yc (hcell (a * 2+1) s2) zf.o;rw [show (yM f)[a * 2]=(ji f a:Int) from by rw [<- e1,iJ,gy s1]; rfl] at c1;rw [show (yM f)[a * 2+1]=(je f a:Int) from by rw [<- e2,iJ,gy s2]; rfl] at c2;have hP:ji f a<=31:=by
       have hw:=Nq f hfr;omega
      have cB:=hid (fun W=>ymU n (ji f a) W hP);have hb:=kS n (ji f a) 1;have ol:=Zm f n fx a (by omega) (fun i hi=>HQ.o i (by omega));have OS:=hid (show ors f n fx (a+1)=ors f n fx a ||| As.dB n (ji f a) 1 * 2 ^ je f a from rfl);generalize As.dB n (ji f a) 1=b at *;generalize ors f n fx a=cur at *;have ST:Hd (bits .or .i64 (cur:Int) (wrap64 ((b:Int) * 2 ^ je f a))=((cur ||| b * 2 ^ je f a:Nat):Int)):=by
       show _=_;have h2:=Nat.pow_le_pow_right (show 0 < 2 by decide) e4;have h3:b * 2 ^ je f a<=1 * 2 ^ 31:=Nat.mul_le_mul (by omega) h2;rw [vN b (2 ^ je f a) (2 ^ je f a) (by simp) (by omega),vI _ _ (by omega) (by omega)]
      clear hcell e1 e2 s1 s2;generalize je f a=q at *;generalize ji f a=p at *;have g3:(a * 2:Int) < (kE f * 2:Int):=by omega
      have g4:((a * 2:Nat):Int)+1 < ((kE f * 2:Nat):Int):=by omega
      go_wp2
      go_quiet ((go_at_call 116; exact Calls.quiet_of_same (cB.o _)))
      go_wp2;refine ⟨⟨a+1,by omega,by go_num,by rw [ST.o,<- OS.o],yd zf.o nq⟩,?_⟩;simp [intOf]; omega
     ·obtain rfl:a=kE f:=by omega
      have b1:=B4.o.cell 1;have b2:=B4.o.cell 2;have b3:=B4.o.cell 3;simp only [dH,dL,dK] at b1 b2 b3;have ol:=Zm f n fx (kE f) (by omega) (fun i hi=>HQ.o i hi);have CU:=hid UF.o;generalize ors f n fx (kE f)=cur at *;generalize kE f=pn at *;have GW:=hid (ya G3.o zf.o);have um:k+1<=25:=by omega
      clear HL qD HQ II UF L2 B3 B4 b4 cP G3 zf;rcases (show f=1\/f=2\/f=3\/f=4\/f=5\/f=6\/f=7 from by omega) with rfl | rfl | rfl | rfl | rfl | rfl | rfl
      ·have RR:=hid (show R=As.gH 1 fx rd dP fq n from EN.o);rw [show oZ ((1:Nat):Int)=85 from rfl];clear hf hfr TF TX hx;go_wp2
       go_roundw
       case rel =>
        (repeat apply Exists.intro)
        refine ⟨?_,rfl⟩;refine ⟨k+1,um,by go_num,?_,GW.o⟩;rw [if_neg (by omega),RR.o];unfold As.gH;rw [<- CU.o];simp only [];rw [if_pos (show As.iE 1=true from rfl),if_neg (show ¬ As.fV 1=true by decide),if_neg (show ¬ As.gN 1=true by decide)];have s1:=zZ (cur) rd 128 128 rfl ol (by omega) (by omega);rw [s1.1]
       case measure=>simp [intOf]; omega
      ·have RR:=hid (show R=As.gH 2 fx rd dP fq n from EN.o);rw [show oZ ((2:Nat):Int)=74 from rfl];clear hf hfr TF TX hx;go_wp2
       go_roundw
       case rel =>
        (repeat apply Exists.intro)
        refine ⟨?_,rfl⟩;refine ⟨k+1,um,by go_num,?_,GW.o⟩;rw [if_neg (by omega),RR.o];unfold As.gH;rw [<- CU.o];simp only [];rw [if_pos (show As.iE 2=true from rfl),if_neg (show ¬ As.fV 2=true by decide),if_neg (show ¬ As.gN 2=true by decide)];have s1:=zZ (cur) rd 128 128 rfl ol (by omega) (by omega);rw [s1.1]
       case measure=>simp [intOf]; omega
      ·have RR:=hid (show R=As.gH 3 fx rd dP fq n from EN.o);rw [show oZ ((3:Nat):Int)=73 from rfl];clear hf hfr TF TX hx;go_wp2
       go_roundw
       case rel =>
        (repeat apply Exists.intro)
        refine ⟨?_,rfl⟩;refine ⟨k+1,um,by go_num,?_,GW.o⟩;rw [if_neg (by omega),RR.o];unfold As.gH;rw [<- CU.o];simp only [];rw [if_pos (show As.iE 3=true from rfl),if_pos (show As.fV 3=true from rfl),if_neg (show ¬ As.gN 3=true by decide)];have s1:=zZ (cur) rd 128 128 rfl ol (by omega) (by omega);rw [s1.1];have s2:=zZ (cur ||| As.dB rd 0 5 * 128) dP 32768 32768 rfl s1.2 (by omega) (by omega);rw [s2.1]
       case measure=>simp [intOf]; omega
      ·have RR:=hid (show R=As.gH 4 fx rd dP fq n from EN.o);rw [show oZ ((4:Nat):Int)=66 from rfl];clear hf hfr TF TX hx;go_wp2
       go_roundw
       case rel =>
        (repeat apply Exists.intro)
        refine ⟨?_,rfl⟩;refine ⟨k+1,um,by go_num,?_,GW.o⟩;rw [if_neg (by omega),RR.o];unfold As.gH;rw [<- CU.o];simp only [];rw [if_neg (show ¬ As.iE 4=true by decide),if_pos (show As.fV 4=true from rfl),if_pos (show As.gN 4=true from rfl)];have s1:=zZ (cur) dP 32768 32768 rfl ol (by omega) (by omega);rw [s1.1];have s2:=zZ (cur ||| As.dB dP 0 5 * 32768) fq 1048576 1048576 rfl s1.2 (by omega) (by omega);rw [s2.1]
       case measure=>simp [intOf]; omega
      ·have RR:=hid (show R=As.gH 5 fx rd dP fq n from EN.o);rw [show oZ ((5:Nat):Int)=83 from rfl];clear hf hfr TF TX hx;go_wp2
       go_roundw
       case rel =>
        (repeat apply Exists.intro)
        refine ⟨?_,rfl⟩;refine ⟨k+1,um,by go_num,?_,GW.o⟩;rw [if_neg (by omega),RR.o];unfold As.gH;rw [<- CU.o];simp only [];rw [if_neg (show ¬ As.iE 5=true by decide),if_pos (show As.fV 5=true from rfl),if_pos (show As.gN 5=true from rfl)];have s1:=zZ (cur) dP 32768 32768 rfl ol (by omega) (by omega);rw [s1.1];have s2:=zZ (cur ||| As.dB dP 0 5 * 32768) fq 1048576 1048576 rfl s1.2 (by omega) (by omega);rw [s2.1]
       case measure=>simp [intOf]; omega
      ·have RR:=hid (show R=As.gH 6 fx rd dP fq n from EN.o);rw [show oZ ((6:Nat):Int)=82 from rfl];clear hf hfr TF TX hx;go_wp2
       go_roundw
       case rel =>
        (repeat apply Exists.intro)
        refine ⟨?_,rfl⟩;refine ⟨k+1,um,by go_num,?_,GW.o⟩;rw [if_neg (by omega),RR.o];unfold As.gH;rw [<- CU.o];simp only [];rw [if_pos (show As.iE 6=true from rfl),if_pos (show As.fV 6=true from rfl),if_pos (show As.gN 6=true from rfl)];have s1:=zZ (cur) rd 128 128 rfl ol (by omega) (by omega);rw [s1.1];have s2:=zZ (cur ||| As.dB rd 0 5 * 128) dP 32768 32768 rfl s1.2 (by omega) (by omega);rw [s2.1];have s3:=zZ (cur ||| As.dB rd 0 5 * 128 ||| As.dB dP 0 5 * 32768) fq 1048576 1048576 rfl s2.2 (by omega) (by omega);rw [s3.1]
       case measure=>simp [intOf]; omega
      ·have RR:=hid (show R=As.gH 7 fx rd dP fq n from EN.o);rw [show oZ ((7:Nat):Int)=69 from rfl];clear hf hfr TF TX hx;go_wp2
       go_roundw
       case rel =>
        (repeat apply Exists.intro)
        refine ⟨?_,rfl⟩;refine ⟨k+1,um,by go_num,?_,GW.o⟩;rw [if_neg (by omega),RR.o];unfold As.gH;rw [<- CU.o];simp only [];rw [if_neg (show ¬ As.iE 7=true by decide),if_neg (show ¬ As.fV 7=true by decide),if_neg (show ¬ As.gN 7=true by decide)]
       case measure=>simp [intOf]; omega
   ·have z0:(((k:Int)+1) != (op:Int))=true:=by simp; omega
    have z1:(if k < op then 0 else (R:Int))=(if k+1 < op then 0 else (R:Int)):=by
     by_cases c:k < op
     ·rw [if_pos c,if_pos (by omega)]
     ·rw [if_neg c,if_neg (by omega)]
    rw [z1];obtain ⟨cur,hcur⟩:∃ cur,(if k+1 < op then 0 else (R:Int))=cur:=⟨_,rfl⟩
    rw [hcur];have HC:=hid hcur;clear hko z1 hcur;go_wp2
    go_quiet (fail)
    go_wp2
    go_roundw
    case rel=>exact ⟨k+1,by omega,by go_num,by rw [HC.o],yd HG.o nq⟩
    case measure=>simp [intOf]; omega
  ·obtain rfl:k=25:=by omega
   rw [if_neg (by omega)];go_wp2;go_ret;exact ⟨rfl,ya G1.o HG.o⟩
theorem Y1 (a:Int) (w:World):Calls Tryz.prog 10 #[.int .i64 a] w fun e w'=>e = .returned (.bool (decide (4096<=a/\a < 1073741824/\a % 16=0)))/\w'=w:=by
 by_cases h1:4096<=a
 ·have d1:decide ((4096:Int)<=a)=true:=by simpa using h1
  by_cases h2:a < 1073741824
  ·have d2:decide (a < 1073741824)=true:=by simpa using h2
   have a0:0<=a:=by omega
   by_cases h3:a % 16=0
   ·have d3:(a % 16 == 0)=true:=by simpa using h3
    have R:=hid (show decide (4096<=a/\a < 1073741824/\a % 16=0)=true from decide_eq_true ⟨h1,h2,h3⟩);generalize decide (4096<=a/\a < 1073741824/\a % 16=0)=B at *;go_enter Tryz.func10,Tryz.ntmps10;go_wp2;go_ret;exact ⟨yX R.o.symm,rfl⟩
   ·have d3:(a % 16 == 0)=false:=by simpa using h3
    have R:=hid (show decide (4096<=a/\a < 1073741824/\a % 16=0)=false from decide_eq_false fun c=>h3 c.2.2);generalize decide (4096<=a/\a < 1073741824/\a % 16=0)=B at *;go_enter Tryz.func10,Tryz.ntmps10;go_wp2;go_ret;exact ⟨yX (by simpa [d3] using R.o.symm),rfl⟩
  ·have d2:decide (a < 1073741824)=false:=by simpa using h2
   have R:=hid (show decide (4096<=a/\a < 1073741824/\a % 16=0)=false from decide_eq_false fun c=>h2 c.2.1);generalize decide (4096<=a/\a < 1073741824/\a % 16=0)=B at *;go_enter Tryz.func10,Tryz.ntmps10;go_wp2;go_ret;exact ⟨yX R.o.symm,rfl⟩
 ·have d1:decide ((4096:Int)<=a)=false:=by simpa using h1
  have R:=hid (show decide (4096<=a/\a < 1073741824/\a % 16=0)=false from decide_eq_false fun c=>h1 c.1);generalize decide (4096<=a/\a < 1073741824/\a % 16=0)=B at *;go_enter Tryz.func10,Tryz.ntmps10;go_wp2;go_ret;exact ⟨yX R.o.symm,rfl⟩
theorem Yi (s a b:Int) (w:World):Calls Tryz.prog 19 #[.int .i64 s,.int .i64 a,.int .i64 b] w fun e w'=>e = .returned (.bool (decide (a<=s/\s < b)))/\w'=w:=by
 by_cases h1:a<=s
 ·have d1:decide (a<=s)=true:=by simpa using h1
  by_cases h2:s < b
  ·have d2:decide (s < b)=true:=by simpa using h2
   have R:=hid (show decide (a<=s/\s < b)=true from decide_eq_true ⟨h1,h2⟩);generalize decide (a<=s/\s < b)=B at *;go_enter Tryz.func19,Tryz.ntmps19;go_wp2;go_ret;exact ⟨yX R.o.symm,rfl⟩
  ·have d2:decide (s < b)=false:=by simpa using h2
   have R:=hid (show decide (a<=s/\s < b)=false from decide_eq_false fun c=>h2 c.2);generalize decide (a<=s/\s < b)=B at *;go_enter Tryz.func19,Tryz.ntmps19;go_wp2;go_ret;exact ⟨yX R.o.symm,rfl⟩
 ·have d1:decide (a<=s)=false:=by simpa using h1
  have R:=hid (show decide (a<=s/\s < b)=false from decide_eq_false fun c=>h1 c.1);generalize decide (a<=s/\s < b)=B at *;go_enter Tryz.func19,Tryz.ntmps19;go_wp2;go_ret;exact ⟨yX R.o.symm,rfl⟩
theorem yno (n:Int):bits .and .i64 (n+2048) 4095 - 2048=As.bR n:=by
 have a:=Sm (n+2048);have e1:bits .and .i64 (n+2048) 4095=(n+2048) % 4096:=by rw [a]; omega
 rw [e1];unfold As.bR;split <;> omega
theorem Yy (v:Int) (w:World) (h0:-4294967296<=v) (h1:v<=4294967296):Calls Tryz.prog 94 #[.int .i64 v] w fun e w'=>e = .returned (.tuple #[.int .i64 (As.dO v),.int .i64 (As.bR v)])/\w'=w:=by
 have L:=yno v;have lr:-2048<=As.bR v/\As.bR v<=2047:=by unfold As.bR; split <;> omega
 have PH:=hid (show As.dO v=(v - As.bR v) / 4096 % 1048576 from rfl);have w1:IntKind.i64.wrap (v+2048)=v+2048:=IntWalk.i64_in _ ⟨by omega,by omega⟩;have w2:IntKind.i64.wrap (bits .and .i64 (v+2048) 4095 - 2048)=As.bR v:=by rw [L]; exact IntWalk.i64_in _ ⟨by omega,by omega⟩
 have w3:IntKind.i64.wrap (v - As.bR v)=v - As.bR v:=IntWalk.i64_in _ ⟨by omega,by omega⟩;generalize As.dO v=PHV at *;go_enter Tryz.func94,Tryz.ntmps94;go_wp2;have E:=hid (show bits .and .i64 ((v - As.bR v) / 4096) 1048575=PHV by
  rw [PH.o,Ng];omega)
 go_ret2;exact ⟨by rw [<- E.o]; rfl,rfl⟩
theorem ymP (rd dP fq n:Int) (fb:Int) (w:World) :
  Calls Tryz.prog 93 #[dR 0 rd dP fq n fb] w fun e w'=>e = .returned (.int .i64 0)/\w.grownBy w' none:=by
 have G:=hid (fun o:Obj=>aH w o none);have cT:=hid Ro;unfold dR;go_enter Tryz.func93,Tryz.ntmps93;go_wp2_with fail;refine (cT.o _).mono ?_;rintro e w1 ⟨rfl,htab,hlt,hg1⟩;have BX:=hid (((ye.new w _ _).grown hg1 (by simp)):ye w1 w.heap.size #[.int .i64 0,.int .i64 rd,.int .i64 dP,.int .i64 fq,.int .i64 n,.int .u8 fb] 167);have G1:=hid (ya (G.o _) hg1);generalize (w.alloc _).heap.size=TB at *;generalize w.heap.size=X at *;have Ak:=hid htab;clear htab hg1 hlt;go_wp2
 go_loopw [4,5] (fun x i wr=>∃ k:Nat,k<=25/\i = .int .i64 k/\x = .int .i64 0/\w1.grownBy wr none) (fun _ i _=>25 - (intOf i).toNat)
 case atStart=>exact ⟨0,Nat.zero_le _,rfl,rfl,World.grownBy.refl _ _⟩
 case round =>
  obtain ⟨k,hk1,rfl,rfl,hgr⟩:=hrel;have HG:=hid hgr;clear hgr;by_cases hlt:k < 25
  ·obtain ⟨q1,q2,q3,q4⟩:=(Ak.o k hlt).grown HG.o;have b0:=(BX.o.grown HG.o (by simp)).cell 0;simp only [dH,dK] at b0;have g2:(k:Int) < 25:=by omega
   have z0:(((k:Int)+1) != (0:Int))=true:=by simp; omega
   have z1:(((k:Int)+1) == (0:Int))=false:=by simp; omega
   go_wp2
   go_quiet (fail)
   go_wp2
   go_roundw
   case rel=>exact ⟨k+1,by omega,by go_num,rfl,yd HG.o nq⟩
   case measure=>simp [intOf]; omega
  ·obtain rfl:k=25:=by omega
   go_wp2;go_ret;exact ⟨rfl,ya G1.o HG.o⟩
theorem YD (op rd dP fq:Nat) (n:Int) (fb:Int) (w:World) (h2:op<=25) (hr:rd<=31/\dP<=31/\fq<=31) :
  Calls Tryz.prog 93 #[dR op rd dP fq n fb] w fun e w'=>e = .returned (.int .i64 (Ln.encZ op rd dP fq n))/\w.grownBy w' none:=by
 by_cases h0:op=0
 ·subst h0;exact ymP rd dP fq n fb w
 ·unfold Ln.encZ;rw [if_neg h0];exact ymQ op rd dP fq n fb w (by omega) h2 hr
theorem ylX (P:Nat) (ao:Option Addr) (cap:Nat) (gl:List Nat) (os:List Lk.Obj) (ms:List Ln.Mod) (bt bf bd:Int) (es:List Int) (lF:Option Addr) (pF:Nat) (w:World) (h:Laid w P ao gl os (Dl.tab bt bf bd ms) es) (hr:Dl.lU os ms) (hsh:vO w lF gl.length ms) (i ah x:Nat) (hi:i < os.length) (hi':i < (Ln.lay bt bf bd ms).length) (s1:1<=ah) (s3:ah<=3) (hx:x < (yh os[i] ah).length) :
  Calls Tryz.prog 68 #[.slice ao gl.length cap,.pointer (some ⟨P,0,none⟩),.slice lF gl.length pF,.int .i64 i,.int .i64 ah,.int .i64 x] w fun e w'=>e = .returned (.int .i64 (Ln.linked (Ln.lay bt bf bd ms) (Ln.lay bt bf bd ms)[i] ah (4 * (x:Int)) (yh os[i] ah)[x]))/\w.grownBy w' none:=by
 have hil:i < gl.length:=by rw [h.parts.len]; exact hi
 have hgl:gl.length<=48:=by rw [h.parts.len]; exact h.parts.few
 have VK:=hid (h.parts.val os[i] (dM hi));have him:i < ms.length:=by have:=hr.len; omega
 have H:=hid h;have OB:=hid (h.parts.obj i hil hi);have WV:0<=(yh os[i] ah)[x]/\(yh os[i] ah)[x]<=4294967295:=xQ VK.o.2.2.1 ah x hx;have hxs:x<=1200:=by
  have:=EY VK.o ah
  rw [Dl.gV os[i] ah (by omega)] at this;omega
 have TS:=hid (fun (r:Lk.Rel) (sy:Nat) (hs:r.sym=(sy:Int)) (hl:sy < os[i].syms.length)=>Dl.qw (bt:=bt) (bf:=bf) (bd:=bd) hr h.parts.val i hi hi' r sy hs hl);have PS:=hid (fun (k:Nat) (hk:k < os[i].aj.length)=>Dl.oF (bt:=bt) (bf:=bf) (bd:=bd) hr h.parts.val i k hi hi' hk);have MO:=hid (show (Ln.lay bt bf bd ms)[i].obj=os[i] from (hr.lay bt bf bd).obj i hi' hi);have Uz:=hid (show (Ln.lay bt bf bd ms)[i].short=ms[i].short by
  have:((Ln.lay bt bf bd ms).map Ln.Mod.short)[i]?=(ms.map Ln.Mod.short)[i]?:=by rw [Ya]
  rw [List.getElem?_map,List.getElem?_map,gy hi',gy him] at this;simpa using this)
 obtain ⟨sg,so,hsg,hsc⟩:=hsh.row (by omega);obtain ⟨ab,cb,sl,J8,J9,Gb⟩:=hsc i him;have SH:=hid (And.intro J8 (And.intro J9 Gb));have SLL:=hid (show sl.length=os[i].aj.length by rw [Gb.1,hr.obj i him hi]);subst hsg;have cS:=hid (fun W (hg:w.grownBy W none)=>QG gl[i] os[i] W (OB.o.kept hg) VK.o.1.2.1);have cR:=hid (fun W (hg:w.grownBy W none)=>Y6 gl[i] os[i] ah x W (OB.o.kept hg) VK.o (by omega));have cT:=hid (fun (k sy:Nat) W (hg:w.grownBy W none) (hk:k < os[i].aj.length) (hs:os[i].aj[k].sym=(sy:Int)) (hl:sy < os[i].syms.length)=>QL P ao cap gl os _ es i k sy W (h.kept hg) hi hk hs hl);have cP:=hid (fun (k:Nat) W (hg:w.grownBy W none) (hk:k < os[i].aj.length)=>Rh P ao cap gl os _ es i k W (h.kept hg) hi hk)
 have LK:=hid (show Ln.linked (Ln.lay bt bf bd ms) (Ln.lay bt bf bd ms)[i] ah (4 * (x:Int)) (yh os[i] ah)[x]=Ln.jC (Ln.lay bt bf bd ms) (Ln.lay bt bf bd ms)[i] (Ln.aG ah (4 * (x:Int)) 0 os[i].aj).1 (Ln.aG ah (4 * (x:Int)) 0 os[i].aj).2 (4 * (x:Int)) (yh os[i] ah)[x] by unfold Ln.linked; rw [MO.o]);obtain ⟨g0,off,hao,hc⟩:=h.parts.ptrs (by omega);subst hao;have CK:=hid (hc i hil);obtain ⟨at_,ct,af,cf,ad,cd,wm,wD,gF,cs,ar,cr,hb,-,-,-,-,-,q6⟩:=OB.o.open;have RI:=hid (lX.aB q6);have HB:=hid hb;have wM:=VK.o.jU;generalize Ln.linked (Ln.lay bt bf bd ms) (Ln.lay bt bf bd ms)[i] ah (4 * (x:Int)) (yh os[i] ah)[x]=RES at *
 clear h hr hsh hsc J8 J9 Gb hc hb q6;have ck:=CK.o;have j1:(i:Int) < (gl.length:Int):=by omega
 have Vb:=hid (show jE os[i] (ah - 1)=yh os[i] ah by have:=Dl.gV os[i] ah (by omega); exact this);go_enter Tryz.func68,Tryz.ntmps68
 go_upto_region 3 with (go_at_call 66; refine (cS.o _ (World.grownBy.refl _ _)).mono ?_; rintro e W1 ⟨B,at2,ct2,af2,cf2,ad2,cd2,Z,rfl,hsx,hg1⟩)
 obtain ⟨ax,Pb,pJ,hin⟩:=hsx.all (ah - 1) (by omega);rw [show ah - 1+1=ah by omega,Vb.o] at pJ;rw [Vb.o] at hin;obtain ⟨ag,FW,hag,hac⟩:=hin (by omega);subst hag;have cx:=hac x hx;have Oz:=hid (And.intro pJ hac);have G1:=hid hg1;have i5:(ah:Int) < 5:=by omega
 have ixl:(x:Int) < ((yh os[i] ah).length:Int):=by omega
 clear hsx hin hac hg1 cS ck;generalize hv:(yh os[i] ah)[x]=v at *;have HV:=hid hv;clear hv
 go_upto_region 5 with (go_at_call 67; refine (cR.o _ G1.o).mono ?_; rintro e W2 ⟨rk,rj,rfl,hrs,hg2⟩)
 have G2:=hid (ya G1.o hg2);have DV:=hid (show W2.cell? ⟨B,ah,none⟩=some (.slice (some ⟨ag,FW,none⟩) (yh os[i] ah).length Pb)/\∀ q (hq:q < (yh os[i] ah).length),W2.cell? ⟨ag,FW+q,none⟩=some (.int .i64 (yh os[i] ah)[q]) from ⟨yc Oz.o.1 hg2,fun q hq=>yc (Oz.o.2 q hq) hg2⟩);clear hg2 cR pJ cx Oz;rcases hrs with ⟨hra,rfl,rfl⟩ | ⟨k,hkr,hra,rfl,zL,zK,hj0,hj1⟩
 ·have E:=hid (show RES=v by rw [LK.o,hra]; rfl);clear hra;go_wp2;go_ret;exact ⟨by rw [E.o]; rfl,G2.o⟩
 rw [hra] at LK;dsimp only at LK;obtain ⟨rg,hrg,-,hrc⟩:=RI.o.grown G2.o (by omega);subst hrg;obtain ⟨r0,r1,r2,r3,r4⟩:=hrc k hkr;have k6:=(HB.o.grown G2.o (by simp)).cell 6;simp only [dH,dL,dK] at k6;have g2:(k:Int) < (os[i].aj.length:Int):=by omega
 have RO:=hid (VK.o.rel k hkr);have Vw:=hid (fun sy W hg hs hl=>cT.o k sy W hg hkr hs hl);have O6:=hid (fun W hg=>cP.o k W hg hkr);have Ow:=hid (PS.o k hkr);have ZG:=hid (show yz os[i] os[i].aj[k]=((yh os[i] os[i].aj[k].ah).drop (os[i].aj[k].off / 4).toNat).take (yr os[i].aj[k]).toNat from rfl);clear hra hrc cT cP PS;generalize hrr:os[i].aj[k]=r at *;clear hrr;by_cases e6:r.kind=6
 ·have d6:(r.kind == 6)=true:=by simpa using e6
  have E:=hid (show RES=v by rw [LK.o]; unfold Ln.jC; rw [if_neg (by omega),if_neg (by omega),if_neg (by omega),if_neg (by omega)]);clear e6;go_wp2;go_ret;exact ⟨by rw [E.o]; rfl,G2.o⟩
 have d6:(r.kind == 6)=false:=by simpa using e6
 have hsx:0<=r.sym/\r.sym < os[i].syms.length:=by
  have:=RO.o.2.2.1
  unfold jw at this;rw [if_neg e6] at this;exact this
 obtain ⟨sy,hsy⟩:=Int.eq_ofNat_of_zero_le hsx.1;have hss:sy < os[i].syms.length:=by omega
 have TG:=hid (TS.o r sy hsy hss);have Jm:=hid (fun W hg=>Vw.o sy W hg hsy hss);have cO:=hid (fun W=>R6 v W WV.1 WV.2);have rg1:=Np (Mc.aI v) v WV.1 WV.2;have rg2:=YL (Mc.aI v) v WV.1 WV.2;have rg3:=YM (Mc.aI v) v WV.1 WV.2;have WN:=hid (fun n=>show Ln.eG v n=Ln.encZ (Mc.jq v) (eY (Mc.aI v) v).toNat (bE (Mc.aI v) v).toNat (iQ (Mc.aI v) v).toNat n from rfl);have hop:=Y3 v;unfold FK dR at cO;generalize Jr (Mc.aI v)=fb at *;generalize Mc.fA (Mc.aI v) v=nf at *;generalize eY (Mc.aI v) v=rd at *;generalize bE (Mc.aI v) v=dP at *;generalize iQ (Mc.aI v) v=fq at *;generalize Mc.jq v=op at *;obtain ⟨ra,rfl⟩:∃ a:Nat,rd=(a:Int):=⟨rd.toNat,by omega⟩
 obtain ⟨rb,rfl⟩:∃ b:Nat,dP=(b:Int):=⟨dP.toNat,by omega⟩
 obtain ⟨rc,rfl⟩:∃ c:Nat,fq=(c:Int):=⟨fq.toNat,by omega⟩
 simp only [Int.toNat_natCast] at WN;have cW:=hid (fun n fb W=>YD op ra rb rc n fb W hop ⟨by omega,by omega,by omega⟩);unfold dR at cW;have BX:=hid (ye.new W2 #[.int .i64 r.ah,.int .i64 r.off,.int .i64 r.kind,.int .i64 r.sym,.int .i64 r.addend] 83);have GX:=hid (aH W2 (.cells #[.int .i64 r.ah,.int .i64 r.off,.int .i64 r.kind,.int .i64 r.sym,.int .i64 r.addend] 83) none);have TGR:=hid (show 0<=Ln.target (Ln.lay bt bf bd ms) (Ln.lay bt bf bd ms)[i] r/\Ln.target (Ln.lay bt bf bd ms) (Ln.lay bt bf bd ms)[i] r<=2147483648 by rw [TG.o]; exact Sb H.o (i:=i) (k:=sy) ⟨hi,hss⟩);have FT:=hid (show 0<=Ln.address (Ln.lay bt bf bd ms)[i] r.ah r.off/\Ln.address (Ln.lay bt bf bd ms)[i] r.ah r.off<=2147483648 by
  rw [Ow.o];have hk:=RO.o.1;unfold yH at hk;exact H.o.rng i _ _ (by omega) (by omega))
 have Cx:=hid (show RES=(if r.kind=1 then bits .and .i64 (Ln.target (Ln.lay bt bf bd ms) (Ln.lay bt bf bd ms)[i] r+r.addend) 4294967295
  else if r.kind=2\/r.kind=3 then Ln.eG v (Ln.target (Ln.lay bt bf bd ms) (Ln.lay bt bf bd ms)[i] r - Ln.address (Ln.lay bt bf bd ms)[i] r.ah r.off)
  else if r.kind=4 then (if Ln.dY ms[i].short k then Ln.encZ 3 (eY (Mc.aI ((yz os[i] r).getD 1 0)) ((yz os[i] r).getD 1 0)).toNat 0 0 (Ln.target (Ln.lay bt bf bd ms) (Ln.lay bt bf bd ms)[i] r - Ln.address (Ln.lay bt bf bd ms)[i] r.ah r.off) else Ln.fH v (decide (4 * (x:Int)=r.off)) (Ln.target (Ln.lay bt bf bd ms) (Ln.lay bt bf bd ms)[i] r - Ln.address (Ln.lay bt bf bd ms)[i] r.ah r.off))
  else if r.kind=5 then Ln.fH v (decide (4 * (x:Int)=r.off)) (Ln.target (Ln.lay bt bf bd ms) (Ln.lay bt bf bd ms)[i] r+r.addend)
  else v) by rw [LK.o]; unfold Ln.jC Ln.iD Ln.distance; rw [MO.o,Uz.o])
 rw [<- TG.o] at Jm;rw [<- Ow.o] at O6;clear LK TG Ow MO Uz;generalize Ln.target (Ln.lay bt bf bd ms) (Ln.lay bt bf bd ms)[i] r=tg at *;generalize Ln.address (Ln.lay bt bf bd ms)[i] r.ah r.off=pg at *;have E6:=hid e6;have lu:=hid hsy;have zi:=hid zK;have Fu:=hid (And.intro hj0 hj1);have Iq:=hid zL;clear e6 hsy hsx Vw TS zK hj0 hj1 zL
 go_upto_region 8 with fail
 have G3:=hid (ya G2.o GX.o);generalize W2.alloc (.cells #[.int .i64 r.ah,.int .i64 r.off,.int .i64 r.kind,.int .i64 r.sym,.int .i64 r.addend] 83)=W3 at *;generalize W2.heap.size=X at *;clear r0 r1 r2 r3 r4 k6
 go_upto_region 9 with (go_at_call 33; refine (Jm.o _ G3.o).mono ?_; rintro e W4 ⟨rfl,hg4⟩)
 have G4:=hid (ya G3.o hg4)
 go_upto_region 10 with (go_at_call 34; refine (O6.o _ G4.o).mono ?_; rintro e W5 ⟨rfl,hg5⟩)
 have G5:=hid (ya G4.o hg5);have AU:=hid ((BX.o.grown hg4 (by simp)).grown hg5 (by simp));have DW:=hid (show W5.cell? ⟨B,ah,none⟩=some (.slice (some ⟨ag,FW,none⟩) (yh os[i] ah).length Pb)/\∀ q (hq:q < (yh os[i] ah).length),W5.cell? ⟨ag,FW+q,none⟩=some (.int .i64 (yh os[i] ah)[q]) from ⟨yc (yc (yc DV.o.1 GX.o) hg4) hg5,fun q hq=>yc (yc (yc (DV.o.2 q hq) GX.o) hg4) hg5⟩);clear hg4 hg5 Jm O6 BX GX DV G2 G3 G4
 go_upto_region 11 with (go_at_call 92; refine (cO.o _).mono ?_; rintro e W6 ⟨rfl,zH⟩)
 have BY:=hid (ye.new W6 #[.int .i64 op,.int .i64 ra,.int .i64 rb,.int .i64 rc,.int .i64 nf,.int .u8 fb] 167);have GY:=hid (aH W6 (.cells #[.int .i64 op,.int .i64 ra,.int .i64 rb,.int .i64 rc,.int .i64 nf,.int .u8 fb] 167) none);have G7:=hid (ya (ya G5.o zH) GY.o);have tC:=hid ((AU.o.grown zH (by simp)).grown GY.o (by simp));have Jc:=hid (show (W6.alloc (.cells #[.int .i64 op,.int .i64 ra,.int .i64 rb,.int .i64 rc,.int .i64 nf,.int .u8 fb] 167)).cell? ⟨B,ah,none⟩=some (.slice (some ⟨ag,FW,none⟩) (yh os[i] ah).length Pb)/\∀ q (hq:q < (yh os[i] ah).length),(W6.alloc (.cells #[.int .i64 op,.int .i64 ra,.int .i64 rb,.int .i64 rc,.int .i64 nf,.int .u8 fb] 167)).cell? ⟨ag,FW+q,none⟩=some (.int .i64 (yh os[i] ah)[q]) from ⟨yc (yc DW.o.1 zH) GY.o,fun q hq=>yc (yc (DW.o.2 q hq) zH) GY.o⟩)
 have hwY:=hid (show w.heap.size<=W6.heap.size from (ya G5.o zH).size);clear zH cO GY DW AU G5;generalize W6.alloc (.cells #[.int .i64 op,.int .i64 ra,.int .i64 rb,.int .i64 rc,.int .i64 nf,.int .u8 fb] 167)=W7 at *;generalize W6.heap.size=Y at *;have x2:W7.cell? ⟨X,2,none⟩=some (.int .i64 r.kind):=tC.o.cell 2;have x4:W7.cell? ⟨X,4,none⟩=some (.int .i64 r.addend):=tC.o.cell 4;have y4:W7.cell? ⟨Y,4,none⟩=some (.int .i64 nf):=BY.o.cell 4;have f4:=BY.o.free 4;have hyl:=BY.o.lt;have SQ:=hid RO.o.2.1;have KDO:=hid RO.o.1;have tgr:=TGR.o;have pgr:=FT.o;have YC:=hid (fun (W:World) (z n:Int) (hb:ye W Y #[.int .i64 op,.int .i64 ra,.int .i64 rb,.int .i64 rc,.int .i64 z,.int .u8 fb] 167) (hg:w.grownBy W none)=>show ye (W.setCell ⟨Y,4,none⟩ (.int .i64 n)) Y #[.int .i64 op,.int .i64 ra,.int .i64 rb,.int .i64 rc,.int .i64 n,.int .u8 fb] 167/\w.grownBy (W.setCell ⟨Y,4,none⟩ (.int .i64 n)) none from
  ⟨by simpa using hb.set 4 (.int .i64 n),yD hg (yi W Y 4 _) (by intro b e; simp at e; have:=hwY.o; omega)⟩)
 have w1:IntKind.i64.wrap (tg - pg)=tg - pg:=IntWalk.i64_in _ ⟨by omega,by omega⟩;by_cases e1:r.kind=1
 ·have hadd:-2048<=r.addend/\r.addend<=2047:=by have:=SQ.o; unfold yl at this; rw [if_pos (.inl e1)] at this; exact this
  have E:=hid (show RES=bits .and .i64 (tg+r.addend) 4294967295 by rw [Cx.o,if_pos e1]);have w2:IntKind.i64.wrap (tg+r.addend)=tg+r.addend:=IntWalk.i64_in _ ⟨by omega,by omega⟩;have w3:IntKind.i64.wrap (tg+r.addend+4294967296)=tg+r.addend+4294967296:=IntWalk.i64_in _ ⟨by omega,by omega⟩;rw [e1] at x2;clear e1 Cx;go_wp2;go_ret;exact ⟨by rw [E.o,yoL]; unfold Mc.wd; rw [show (tg+r.addend) % 4294967296=(tg+r.addend+4294967296) % 4294967296 by omega]; rfl,G7.o⟩
 by_cases e23:r.kind=2\/r.kind=3
 ·have E:=hid (show RES=Ln.encZ op ra rb rc (tg - pg) by rw [Cx.o,if_neg e1,if_pos e23,WN.o]);have YC1:=hid (YC.o W7 nf (tg - pg) BY.o G7.o);have cW1:=hid (cW.o (tg - pg) fb);rcases e23 with e2 | e2 <;> rw [e2] at x2 <;> clear e1 e2 Cx YC cW
  all_goals
   go_upto_region 17 with fail
   obtain ⟨B8,G8⟩:=YC1.o;generalize W7.setCell ⟨Y,4,none⟩ (.int .i64 (tg - pg))=W8 at *;clear x2 x4 y4 f4;have y0:W8.cell? ⟨Y,0,none⟩=some (.int .i64 op):=B8.cell 0;have y1:W8.cell? ⟨Y,1,none⟩=some (.int .i64 ra):=B8.cell 1;have y2:W8.cell? ⟨Y,2,none⟩=some (.int .i64 rb):=B8.cell 2;have y3:W8.cell? ⟨Y,3,none⟩=some (.int .i64 rc):=B8.cell 3;have y4:W8.cell? ⟨Y,4,none⟩=some (.int .i64 (tg - pg)):=B8.cell 4;have y5:W8.cell? ⟨Y,5,none⟩=some (.int .u8 fb):=B8.cell 5;go_wp2_with (go_at_call 93; refine (cW1.o _).mono ?_; rintro e W9 ⟨rfl,hg9⟩)
   go_ret;exact ⟨by rw [E.o]; rfl,ya G8 hg9⟩
 have Iu:=hid (show r.kind=4\/r.kind=5->yr r=2 from fun h=>if_pos h);by_cases e4:r.kind=4
 ·have hsp:=Iu.o (.inl e4);have Ir:=hid hsp;rw [hsp] at Fu;rw [e4] at x2;have Lf:=hid (show RES=(if Ln.dY ms[i].short k then Ln.encZ 3 (eY (Mc.aI ((yz os[i] r).getD 1 0)) ((yz os[i] r).getD 1 0)).toNat 0 0 (tg - pg) else Ln.encZ op ra rb rc (if decide (4 * (x:Int)=r.off) then As.dO (tg - pg) else As.bR (tg - pg))) by
   rw [Cx.o,if_neg e1,if_neg e23,if_pos e4];unfold Ln.fH;rw [WN.o])
  have hkl:k < sl.length:=by rw [SLL.o]; exact hkr
  have LX:=yc SH.o.1 G7.o;obtain ⟨bg,bo,hbg,hbc⟩:=SH.o.2.1.kept G7.o (by omega);subst hbg;have cbk:=hbc k hkl;have Ld:=hid (SH.o.2.2.2 k hkl);have g7:(k:Int) < (sl.length:Int):=by omega
  clear e1 e23 e4 Cx WN hsp hbc;generalize hsb:sl[k]=sb at *
  cases sb
  ·have EQ:=hid (show RES=Ln.encZ op ra rb rc (if decide (4 * (x:Int)=r.off) then As.dO (tg - pg) else As.bR (tg - pg)) by rw [Lf.o,Ld.o]; rfl);clear Lf Ld;have FZ:=hid (fun W=>Yy (tg - pg) W (by omega) (by omega));generalize As.dO (tg - pg)=hi' at *;generalize As.bR (tg - pg)=lo' at *
   go_upto_region 23 with (go_at_call 94; refine (FZ.o _).mono ?_; rintro e w' ⟨rfl,rfl⟩)
   go_upto_region 24 with fail
   obtain ⟨B8,G8⟩:=YC.o _ nf hi' BY.o G7.o;have nV:=hid B8;have Hz:=hid G8;clear B8 G8 x2 x4 y4 f4;generalize World.setCell _ ⟨Y,4,none⟩ (.int .i64 hi')=W8 at *;by_cases ej:rj=1
   ·subst ej;have E:=hid (show RES=Ln.encZ op ra rb rc lo' by rw [EQ.o,decide_eq_false (by have:=zi.o; omega),if_neg (by decide)]);have cW1:=hid (cW.o lo' fb);have y4:W8.cell? ⟨Y,4,none⟩=some (.int .i64 hi'):=nV.o.cell 4;have f4:=nV.o.free 4
    go_upto_region 26 with fail
    obtain ⟨B9,G9⟩:=YC.o W8 hi' lo' nV.o Hz.o;clear y4 f4;generalize World.setCell _ ⟨Y,4,none⟩ (.int .i64 lo')=W9 at *;have y0:W9.cell? ⟨Y,0,none⟩=some (.int .i64 op):=B9.cell 0;have y1:W9.cell? ⟨Y,1,none⟩=some (.int .i64 ra):=B9.cell 1;have y2:W9.cell? ⟨Y,2,none⟩=some (.int .i64 rb):=B9.cell 2;have y3:W9.cell? ⟨Y,3,none⟩=some (.int .i64 rc):=B9.cell 3;have y4:W9.cell? ⟨Y,4,none⟩=some (.int .i64 lo'):=B9.cell 4;have y5:W9.cell? ⟨Y,5,none⟩=some (.int .u8 fb):=B9.cell 5;clear cW YC;go_wp2_with (go_at_call 93; refine (cW1.o _).mono ?_; rintro e WA ⟨rfl,hgA⟩)
    go_ret;exact ⟨by rw [E.o]; rfl,ya G9 hgA⟩
   ·obtain rfl:rj=0:=by have:=Fu.o; omega
    have E:=hid (show RES=Ln.encZ op ra rb rc hi' by rw [EQ.o,decide_eq_true (by have:=zi.o; omega),if_pos rfl]);have cW1:=hid (cW.o hi' fb);have y0:W8.cell? ⟨Y,0,none⟩=some (.int .i64 op):=nV.o.cell 0;have y1:W8.cell? ⟨Y,1,none⟩=some (.int .i64 ra):=nV.o.cell 1;have y2:W8.cell? ⟨Y,2,none⟩=some (.int .i64 rb):=nV.o.cell 2;have y3:W8.cell? ⟨Y,3,none⟩=some (.int .i64 rc):=nV.o.cell 3;have y4:W8.cell? ⟨Y,4,none⟩=some (.int .i64 hi'):=nV.o.cell 4;have y5:W8.cell? ⟨Y,5,none⟩=some (.int .u8 fb):=nV.o.cell 5;have NQ:=hid Hz.o;clear cW YC ej;go_wp2_with (go_at_call 93; refine (cW1.o _).mono ?_; rintro e WA ⟨rfl,hgA⟩)
    go_ret;exact ⟨by rw [E.o]; rfl,ya NQ.o hgA⟩
  ·have Lg:=RO.o.2.2.2.2.1;have JH:r.off % 4=0/\0<=r.off:=⟨Lg.2.1,Lg.1⟩
   have hab:=Lg.2.2;rw [Ir.o,Iq.o] at hab;obtain ⟨q2,hq2⟩:=Int.eq_ofNat_of_zero_le (show 0<=(x:Int)+1 - rj by have:=Fu.o; omega);have hn2:(r.off / 4).toNat+1=q2:=by have:=zi.o; omega
   have Ep:q2 < (yh os[i] ah).length:=by omega
   have SL:=hid (show (yz os[i] r).getD 1 0=(yh os[i] ah)[q2] by
    rw [ZG.o,Iq.o,Ir.o,iJ,List.getElem?_take,if_pos (by decide),List.getElem?_drop,hn2,gy Ep];rfl)
   have Ll:0<=(yh os[i] ah)[q2]/\(yh os[i] ah)[q2]<=4294967295:=xQ VK.o.2.2.1 ah q2 Ep;have OY:=hid (fun W=>R6 (yh os[i] ah)[q2] W Ll.1 Ll.2);have E:=hid (show RES=Ln.encZ 3 (eY (Mc.aI (yh os[i] ah)[q2]) (yh os[i] ah)[q2]).toNat 0 0 (tg - pg) by rw [Lf.o,Ld.o,if_pos rfl,SL.o]);have rgd:=Np (Mc.aI (yh os[i] ah)[q2]) (yh os[i] ah)[q2] Ll.1 Ll.2;have cs1:=Jc.o.1;have cs2:=Jc.o.2 q2 Ep;have w4:IntKind.i64.wrap ((x:Int)+1)=(x:Int)+1:=IntWalk.i64_in _ ⟨by omega,by omega⟩;have w5:IntKind.i64.wrap ((x:Int)+1 - rj)=(q2:Int):=by rw [hq2]; exact IntWalk.i64_in _ ⟨by omega,by have:=Fu.o; omega⟩
   have i7:(q2:Int) < ((yh os[i] ah).length:Int):=by omega
   unfold FK dR at OY;clear Lf Ld SL hq2 hn2 hab JH Lg YC cW;generalize (yh os[i] ah)[q2]=v2 at *;generalize Jr (Mc.aI v2)=Jq at *;generalize Mc.fA (Mc.aI v2) v2=Qm at *;generalize eY (Mc.aI v2) v2=ql at *;generalize bE (Mc.aI v2) v2=Ev at *;generalize iQ (Mc.aI v2) v2=Ew at *;generalize (Mc.jq v2:Int)=op2 at *;obtain ⟨rd',rfl⟩:∃ a:Nat,ql=(a:Int):=⟨ql.toNat,by omega⟩
   rw [Int.toNat_natCast] at E;have cW3:=hid (fun W=>YD 3 rd' 0 0 (tg - pg) 0 W (by omega) ⟨by omega,by omega,by omega⟩);unfold dR at cW3
   go_upto_region 21 with (go_at_call 92; refine (OY.o _).mono ?_; rintro e W8 ⟨rfl,Wj⟩)
   have B9:=hid (ye.new W8 #[.int .i64 op2,.int .i64 rd',.int .i64 Ev,.int .i64 Ew,.int .i64 Qm,.int .u8 Jq] 167);have G9:=hid (ya (ya G7.o Wj) (aH W8 (.cells #[.int .i64 op2,.int .i64 rd',.int .i64 Ev,.int .i64 Ew,.int .i64 Qm,.int .u8 Jq] 167) none));clear Wj cs1 cs2 OY LX cbk x2 x4 y4 f4;generalize W8.alloc (.cells #[.int .i64 op2,.int .i64 rd',.int .i64 Ev,.int .i64 Ew,.int .i64 Qm,.int .u8 Jq] 167)=W9 at *;generalize W8.heap.size=Y2 at *;have z1:W9.cell? ⟨Y2,1,none⟩=some (.int .i64 rd'):=B9.o.cell 1;go_wp2_with (go_at_call 93; refine (cW3.o _).mono ?_; rintro e WA ⟨rfl,hgA⟩)
   go_ret;exact ⟨by rw [E.o]; rfl,ya G9.o hgA⟩
 ·have e5:r.kind=5:=by
   have:=KDO.o
   unfold yH at this
   have:=E6.o
   omega
  have hsp:=Iu.o (.inr e5);rw [hsp] at Fu;have hadd:-2048<=r.addend/\r.addend<=2047:=by have:=SQ.o; unfold yl at this; rw [if_pos (.inr e5)] at this; exact this
  have EQ:=hid (show RES=Ln.encZ op ra rb rc (if decide (4 * (x:Int)=r.off) then As.dO (tg+r.addend) else As.bR (tg+r.addend)) by
   rw [Cx.o,if_neg e1,if_neg e23,if_neg e4,if_pos e5];unfold Ln.fH;rw [WN.o])
  have w2:IntKind.i64.wrap (tg+r.addend)=tg+r.addend:=IntWalk.i64_in _ ⟨by omega,by omega⟩;rw [e5] at x2;clear e1 e23 e4 e5 Cx WN hsp;have FZ:=hid (fun W=>Yy (tg+r.addend) W (by omega) (by omega));generalize As.dO (tg+r.addend)=hi' at *;generalize As.bR (tg+r.addend)=lo' at *
  go_upto_region 28 with (go_at_call 94; refine (FZ.o _).mono ?_; rintro e w' ⟨rfl,rfl⟩)
  go_upto_region 29 with fail
  obtain ⟨B8,G8⟩:=YC.o _ nf hi' BY.o G7.o;have nV:=hid B8;have Hz:=hid G8;clear B8 G8 x2 x4 y4 f4;generalize World.setCell _ ⟨Y,4,none⟩ (.int .i64 hi')=W8 at *;by_cases ej:rj=1
  ·subst ej;have E:=hid (show RES=Ln.encZ op ra rb rc lo' by rw [EQ.o,decide_eq_false (by have:=zi.o; omega),if_neg (by decide)]);have cW1:=hid (cW.o lo' fb);have y4:W8.cell? ⟨Y,4,none⟩=some (.int .i64 hi'):=nV.o.cell 4;have f4:=nV.o.free 4
   go_upto_region 31 with fail
   obtain ⟨B9,G9⟩:=YC.o W8 hi' lo' nV.o Hz.o;clear y4 f4;generalize World.setCell _ ⟨Y,4,none⟩ (.int .i64 lo')=W9 at *;have y0:W9.cell? ⟨Y,0,none⟩=some (.int .i64 op):=B9.cell 0;have y1:W9.cell? ⟨Y,1,none⟩=some (.int .i64 ra):=B9.cell 1;have y2:W9.cell? ⟨Y,2,none⟩=some (.int .i64 rb):=B9.cell 2;have y3:W9.cell? ⟨Y,3,none⟩=some (.int .i64 rc):=B9.cell 3;have y4:W9.cell? ⟨Y,4,none⟩=some (.int .i64 lo'):=B9.cell 4;have y5:W9.cell? ⟨Y,5,none⟩=some (.int .u8 fb):=B9.cell 5;clear cW YC;go_wp2_with (go_at_call 93; refine (cW1.o _).mono ?_; rintro e WA ⟨rfl,hgA⟩)
   go_ret;exact ⟨by rw [E.o]; rfl,ya G9 hgA⟩
  ·obtain rfl:rj=0:=by have:=Fu.o; omega
   have E:=hid (show RES=Ln.encZ op ra rb rc hi' by rw [EQ.o,decide_eq_true (by have:=zi.o; omega),if_pos rfl]);have cW1:=hid (cW.o hi' fb);have y0:W8.cell? ⟨Y,0,none⟩=some (.int .i64 op):=nV.o.cell 0;have y1:W8.cell? ⟨Y,1,none⟩=some (.int .i64 ra):=nV.o.cell 1;have y2:W8.cell? ⟨Y,2,none⟩=some (.int .i64 rb):=nV.o.cell 2;have y3:W8.cell? ⟨Y,3,none⟩=some (.int .i64 rc):=nV.o.cell 3;have y4:W8.cell? ⟨Y,4,none⟩=some (.int .i64 hi'):=nV.o.cell 4;have y5:W8.cell? ⟨Y,5,none⟩=some (.int .u8 fb):=nV.o.cell 5;have NQ:=hid Hz.o;clear cW YC ej;go_wp2_with (go_at_call 93; refine (cW1.o _).mono ?_; rintro e WA ⟨rfl,hgA⟩)
   go_ret;exact ⟨by rw [E.o]; rfl,ya NQ.o hgA⟩
namespace Dl
def kg (fl:Int) (n:Nat) (pre L:List Int):Prop:=L=pre ++ List.replicate (n - pre.length) fl/\pre.length<=n
theorem kg.start (fl:Int) (n:Nat):kg fl n [] (List.replicate n fl):=⟨by simp,by simp⟩
theorem kg.len {fl:Int} {n:Nat} {pre L:List Int} (h:kg fl n pre L):L.length=n:=by
 rw [h.1,fE,List.length_replicate]
 have:=h.2
 omega
theorem kg.gap {fl:Int} {n:Nat} {pre L:List Int} (h:kg fl n pre L) (base b:Int) (hb:((b - base+3) / 4).toNat<=n):kg fl n (Ln.gB base fl b pre) L:=by
 have hl:=Kw base fl b pre;have h2:=h.2;refine ⟨?_,by omega⟩;rw [hl];unfold Ln.gB;rw [List.append_assoc,List.replicate_append_replicate,h.1]
 congr 2
 omega
theorem kg.put {fl:Int} {n:Nat} {pre L:List Int} (h:kg fl n pre L) (hp:pre.length < n) (v:Int):kg fl n (pre ++ [v]) (L.set pre.length v):=by
 refine ⟨?_,by simp; omega⟩;rw [h.1,List.set_append_right _ _ (Nat.le_refl _),Nat.sub_self,fE,o7,show n - pre.length=(n - (pre.length+1))+1 by omega,List.replicate_succ,eX,List.append_assoc];rfl
theorem kg.done {fl:Int} {n:Nat} {pre L:List Int} (h:kg fl n pre L) (hp:pre.length=n):L=pre:=by
 rw [h.1,hp,Nat.sub_self,List.replicate_zero,List.append_nil]
theorem sK (m:Ln.Mod) (s:Int):∀ (ws:List Int) (i:Nat) (a:Int) (w:Nat),w < ws.length->(Ln.aA m s i ws a).getD (w+1) 0=(Ln.aA m s i ws a).getD w 0\/(Ln.aA m s i ws a).getD (w+1) 0=(Ln.aA m s i ws a).getD w 0+4:=by
 intro ws
 induction ws with
 | nil=>intro i a w hw; exact absurd hw (Nat.not_lt_zero _)
 | cons x ws ih =>
  intro i a w hw;rw [Ln.aA]
  cases w with
  | zero =>
   have e:∀ b,(Ln.aA m s (i+1) ws b).getD 0 0=b:=fun b=>by cases ws <;> rfl
   rw [List.getD_cons_succ,e,List.getD_cons_zero];split
   ·exact .inr rfl
   ·exact .inl rfl
  | succ w =>
   rw [List.getD_cons_succ,List.getD_cons_succ];exact ih (i+1) _ w (by simpa using hw)
theorem sM (m:Ln.Mod) (s:Int) (ws:List Int) (i:Nat) (a:Int):(Ln.aA m s i ws a).getD 0 0=a:=by cases ws <;> rfl
theorem sI (m:Ln.Mod) (s:Int):∀ (ws:List Int) (i:Nat) (a:Int),(Ln.aA m s i ws a).getD ws.length 0=Ln.aL m s i ws a:=by
 intro ws
 induction ws with
 | nil=>intro i a; rfl
 | cons x ws ih =>
  intro i a;rw [Ln.aA,Ln.aL,gL,List.getD_cons_succ];exact ih _ _
theorem wY (m:Ln.Mod) (s:Int):∀ (ws:List Int) (i:Nat) (a:Int) (w:Nat),w<=ws.length->(Ln.aA m s i ws a).getD w 0<=Ln.aL m s i ws a:=by
 intro ws
 induction ws with
 | nil =>
  intro i a w hw;obtain rfl:w=0:=by simpa using hw
  exact Int.le_refl _
 | cons x ws ih =>
  intro i a w hw;rw [Ln.aA,Ln.aL]
  cases w with
  | zero =>
   rw [List.getD_cons_zero]
   have:=(om m s ws (i+1) (if Ln.stays m s (4 * i) a=true then a+4 else a)).1
   refine Int.le_trans ?_ this;split <;> omega
  | succ w =>
   rw [List.getD_cons_succ];exact ih _ _ w (by simpa using hw)
theorem qm (s:Nat):∀ (ms:List Ln.Mod) (a:Int) (i:Nat) (h:i < ms.length),(dA s ms a).getD i []=Ln.aA ms[i] s 0 (eZ ms[i].obj s) (Ln.rup (aR s (ms.take i) a) (fG ms[i] s)):=by
 intro ms
 induction ms with
 | nil=>intro a i h; exact absurd h (Nat.not_lt_zero _)
 | cons m r ih =>
  intro a i h;rw [dA]
  cases i with
  | zero=>rfl
  | succ i=>exact ih _ i (by simpa using h)
theorem sQ (s:Nat):∀ (ms:List Ln.Mod) (a:Int) (i:Nat) (h:i < ms.length),aR s (ms.take (i+1)) a=Ln.aL ms[i] s 0 (eZ ms[i].obj s) (Ln.rup (aR s (ms.take i) a) (fG ms[i] s)):=by
 intro ms
 induction ms with
 | nil=>intro a i h; exact absurd h (Nat.not_lt_zero _)
 | cons m r ih =>
  intro a i h
  cases i with
  | zero=>rfl
  | succ i=>exact ih _ i (by simpa using h)
theorem iI (s:Nat) (h1:1<=s) (h4:s<=4) (ms:List Ln.Mod) (a:Int) (hv:∀ m∈ms,yp m.obj) (h0:0<=a) (ha:a+4832 * ms.length<=1099511627776) (i:Nat):a<=aR s (ms.take i) a/\aR s (ms.take i) a<=aR s ms a/\aR s ms a<=a+4832 * ms.length:=by
 have app:∀ (l r:List Ln.Mod) (a:Int),aR s (l ++ r) a=aR s r (aR s l a):=by
  intro l
  induction l with
  | nil=>intro r a; rfl
  | cons m l ih=>intro r a; rw [List.cons_append,aR,aR,ih]
 have hl:(ms.take i).length+(ms.drop i).length=ms.length:=by rw [List.length_take,List.length_drop]; omega
 have e1:=iC s h1 h4 (ms.take i) a (fun m hm=>hv m (List.mem_of_mem_take hm)) h0 (by omega);have e2:=iC s h1 h4 (ms.drop i) (aR s (ms.take i) a) (fun m hm=>hv m (List.mem_of_mem_drop hm)) (by omega) (by omega);have e3:=iC s h1 h4 ms a hv h0 ha
 have:=app (ms.take i) (ms.drop i) a
 rw [List.take_append_drop] at this;rw [this] at e3 ⊢;omega
end Dl
end Go.Proofs.YtelehpmjhjljgaaGreatDoor
