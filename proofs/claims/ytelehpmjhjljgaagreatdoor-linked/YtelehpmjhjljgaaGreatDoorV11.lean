
import Derived.Test.YtelehpmjhjljgaaGreatDoorV10
import Derived.BigRegion
set_option maxHeartbeats 16000000
set_option maxRecDepth 100000
namespace Go.Proofs.YtelehpmjhjljgaaGreatDoor
open Go.RowKit
theorem Nr (n:Int):bits .and .i64 n 1=((n % 2).toNat:Int):=by
 have h1:(BitVec.ofInt 64 1).toNat=2 ^ 1 - 1:=by decide
 have key:(BitVec.ofInt 64 n &&& BitVec.ofInt 64 1).toNat=(n % ((2 ^ 64:Nat):Int)).toNat % 2 ^ 1:=by
  rw [BitVec.toNat_and,BitVec.toNat_ofInt,h1,Nat.and_two_pow_sub_one_eq_mod]
 show IntKind.i64.wrap ((BitVec.ofInt 64 n &&& BitVec.ofInt 64 1).toNat:Nat)=_;rw [key,IntKind.wrap_i64];omega
theorem yoG (n:Int):bits .and .i64 n 15=((n % 16).toNat:Int):=by
 have h1:(BitVec.ofInt 64 15).toNat=2 ^ 4 - 1:=by decide
 have key:(BitVec.ofInt 64 n &&& BitVec.ofInt 64 15).toNat=(n % ((2 ^ 64:Nat):Int)).toNat % 2 ^ 4:=by
  rw [BitVec.toNat_and,BitVec.toNat_ofInt,h1,Nat.and_two_pow_sub_one_eq_mod]
 show IntKind.i64.wrap ((BitVec.ofInt 64 n &&& BitVec.ofInt 64 15).toNat:Nat)=_;rw [key,IntKind.wrap_i64];omega
theorem yoH (n:Int):bits .and .i64 n 31=((n % 32).toNat:Int):=by
 have h1:(BitVec.ofInt 64 31).toNat=2 ^ 5 - 1:=by decide
 have key:(BitVec.ofInt 64 n &&& BitVec.ofInt 64 31).toNat=(n % ((2 ^ 64:Nat):Int)).toNat % 2 ^ 5:=by
  rw [BitVec.toNat_and,BitVec.toNat_ofInt,h1,Nat.and_two_pow_sub_one_eq_mod]
 show IntKind.i64.wrap ((BitVec.ofInt 64 n &&& BitVec.ofInt 64 31).toNat:Nat)=_;rw [key,IntKind.wrap_i64];omega
theorem yoI (n:Int):bits .and .i64 n 63=((n % 64).toNat:Int):=by
 have h1:(BitVec.ofInt 64 63).toNat=2 ^ 6 - 1:=by decide
 have key:(BitVec.ofInt 64 n &&& BitVec.ofInt 64 63).toNat=(n % ((2 ^ 64:Nat):Int)).toNat % 2 ^ 6:=by
  rw [BitVec.toNat_and,BitVec.toNat_ofInt,h1,Nat.and_two_pow_sub_one_eq_mod]
 show IntKind.i64.wrap ((BitVec.ofInt 64 n &&& BitVec.ofInt 64 63).toNat:Nat)=_;rw [key,IntKind.wrap_i64];omega
theorem yoJ (n:Int):bits .and .i64 n 127=((n % 128).toNat:Int):=by
 have h1:(BitVec.ofInt 64 127).toNat=2 ^ 7 - 1:=by decide
 have key:(BitVec.ofInt 64 n &&& BitVec.ofInt 64 127).toNat=(n % ((2 ^ 64:Nat):Int)).toNat % 2 ^ 7:=by
  rw [BitVec.toNat_and,BitVec.toNat_ofInt,h1,Nat.and_two_pow_sub_one_eq_mod]
 show IntKind.i64.wrap ((BitVec.ofInt 64 n &&& BitVec.ofInt 64 127).toNat:Nat)=_;rw [key,IntKind.wrap_i64];omega
theorem yoK (n:Int):bits .and .i64 n 255=((n % 256).toNat:Int):=by
 have h1:(BitVec.ofInt 64 255).toNat=2 ^ 8 - 1:=by decide
 have key:(BitVec.ofInt 64 n &&& BitVec.ofInt 64 255).toNat=(n % ((2 ^ 64:Nat):Int)).toNat % 2 ^ 8:=by
  rw [BitVec.toNat_and,BitVec.toNat_ofInt,h1,Nat.and_two_pow_sub_one_eq_mod]
 show IntKind.i64.wrap ((BitVec.ofInt 64 n &&& BitVec.ofInt 64 255).toNat:Nat)=_;rw [key,IntKind.wrap_i64];omega
theorem yoi (n:Int):bits .and .i64 n 1023=((n % 1024).toNat:Int):=by
 have h1:(BitVec.ofInt 64 1023).toNat=2 ^ 10 - 1:=by decide
 have key:(BitVec.ofInt 64 n &&& BitVec.ofInt 64 1023).toNat=(n % ((2 ^ 64:Nat):Int)).toNat % 2 ^ 10:=by
  rw [BitVec.toNat_and,BitVec.toNat_ofInt,h1,Nat.and_two_pow_sub_one_eq_mod]
 show IntKind.i64.wrap ((BitVec.ofInt 64 n &&& BitVec.ofInt 64 1023).toNat:Nat)=_;rw [key,IntKind.wrap_i64];omega
theorem Sm (n:Int):bits .and .i64 n 4095=((n % 4096).toNat:Int):=by
 have h1:(BitVec.ofInt 64 4095).toNat=2 ^ 12 - 1:=by decide
 have key:(BitVec.ofInt 64 n &&& BitVec.ofInt 64 4095).toNat=(n % ((2 ^ 64:Nat):Int)).toNat % 2 ^ 12:=by
  rw [BitVec.toNat_and,BitVec.toNat_ofInt,h1,Nat.and_two_pow_sub_one_eq_mod]
 show IntKind.i64.wrap ((BitVec.ofInt 64 n &&& BitVec.ofInt 64 4095).toNat:Nat)=_;rw [key,IntKind.wrap_i64];omega
theorem Ng (n:Int):bits .and .i64 n 1048575=((n % 1048576).toNat:Int):=by
 have h1:(BitVec.ofInt 64 1048575).toNat=2 ^ 20 - 1:=by decide
 have key:(BitVec.ofInt 64 n &&& BitVec.ofInt 64 1048575).toNat=(n % ((2 ^ 64:Nat):Int)).toNat % 2 ^ 20:=by
  rw [BitVec.toNat_and,BitVec.toNat_ofInt,h1,Nat.and_two_pow_sub_one_eq_mod]
 show IntKind.i64.wrap ((BitVec.ofInt 64 n &&& BitVec.ofInt 64 1048575).toNat:Nat)=_;rw [key,IntKind.wrap_i64];omega
theorem ynY (a:Nat) (h:a < 9223372036854775808):wrap64 (a:Int)=(a:Int):=IntWalk.wrap64_in _ ⟨by omega,by omega⟩
theorem kS (n:Int) (low count:Nat):As.dB n low count < 2 ^ count:=by
 unfold As.dB;have h:=Int.emod_lt_of_pos (n / (2:Int) ^ low) (show (0:Int) < (2:Int) ^ count from Int.pow_pos (by decide));have h2:=Int.emod_nonneg (n / (2:Int) ^ low) (show (2:Int) ^ count≠0 from Int.ne_of_gt (Int.pow_pos (by decide)));have e:((2 ^ count:Nat):Int)=(2:Int) ^ count:=by simp
 omega
theorem ymZ (n:Int):bits .and .i64 n 1048575=(As.dB n 0 20:Int):=by rw [Ng]; unfold As.dB; simp
theorem YV (n:Int):As.dB n 0 20 < 1048576:=kS n 0 20
theorem ynd (n:Int):bits .and .i64 (n / 1048576) 1=(As.dB n 20 1:Int):=by rw [Nr]; unfold As.dB; simp
theorem Y0 (n:Int):As.dB n 20 1 < 2:=kS n 20 1
theorem ync (n:Int):bits .and .i64 (n / 2) 1023=(As.dB n 1 10:Int):=by rw [yoi]; unfold As.dB; simp
theorem YZ (n:Int):As.dB n 1 10 < 1024:=kS n 1 10
theorem Yt (n:Int):bits .and .i64 (n / 2048) 1=(As.dB n 11 1:Int):=by rw [Nr]; unfold As.dB; simp
theorem Sj (n:Int):As.dB n 11 1 < 2:=kS n 11 1
theorem ynb (n:Int):bits .and .i64 (n / 4096) 255=(As.dB n 12 8:Int):=by rw [yoK]; unfold As.dB; simp
theorem YX (n:Int):As.dB n 12 8 < 256:=kS n 12 8
theorem ymY (n:Int):bits .and .i64 n 4095=(As.dB n 0 12:Int):=by rw [Sm]; unfold As.dB; simp
theorem YU (n:Int):As.dB n 0 12 < 4096:=kS n 0 12
theorem yna (n:Int):bits .and .i64 (n / 4096) 1=(As.dB n 12 1:Int):=by rw [Nr]; unfold As.dB; simp
theorem YW (n:Int):As.dB n 12 1 < 2:=kS n 12 1
theorem yoq (n:Int):bits .and .i64 (n / 32) 63=(As.dB n 5 6:Int):=by rw [yoI]; unfold As.dB; simp
theorem Zq (n:Int):As.dB n 5 6 < 64:=kS n 5 6
theorem yop (n:Int):bits .and .i64 (n / 2) 15=(As.dB n 1 4:Int):=by rw [yoG]; unfold As.dB; simp
theorem yml (n:Int):As.dB n 1 4 < 16:=kS n 1 4
theorem yor (n:Int):bits .and .i64 (n / 32) 127=(As.dB n 5 7:Int):=by rw [yoJ]; unfold As.dB; simp
theorem Zr (n:Int):As.dB n 5 7 < 128:=kS n 5 7
theorem YQ (n:Int):bits .and .i64 n 31=(As.dB n 0 5:Int):=by rw [yoH]; unfold As.dB; simp
theorem Sr (n:Int):As.dB n 0 5 < 32:=kS n 0 5
theorem ypk (a m:Nat) (h:a * m < 9223372036854775808):wrap64 ((a:Int) * (m:Int))=((a * m:Nat):Int):=by
 rw [<- Int.natCast_mul];exact ynY _ h
theorem vN (a m:Nat) (M:Int) (hM:M=(m:Int)) (h:a * m < 9223372036854775808):wrap64 ((a:Int) * M)=((a * m:Nat):Int):=by
 rw [hM]; exact ypk a m h
theorem yhc (form:Nat) (n:Int) (w:World) (hf:1<=form/\form<=7) :
  Calls Tryz.prog 144 #[.int .i64 form,.int .i64 n] w fun e w'=>e = .returned (.int .i64 (As.place' form n:Nat))/\w'=w:=by
 rcases (show form=1\/form=2\/form=3\/form=4\/form=5\/form=6\/form=7 from by omega) with rfl | rfl | rfl | rfl | rfl | rfl | rfl
 ·have E:=hid (show wrap64 (bits .and .i64 n 1048575 * 4096)=((As.place' 1 n:Nat):Int) from by
   have a:=YV n;rw [ymZ,vN _ 4096 4096 rfl (by omega)]; unfold As.place'; rw [if_pos rfl])
  go_enter Tryz.func144,Tryz.ntmps144;go_wp2;go_ret;exact ⟨oJ E.o,rfl⟩
 ·have E:=hid (show bits .or .i64 (bits .or .i64 (bits .or .i64 (wrap64 (bits .and .i64 (n / 1048576) 1 * 2147483648)) (wrap64 (bits .and .i64 (n / 2) 1023 * 2097152))) (wrap64 (bits .and .i64 (n / 2048) 1 * 1048576))) (wrap64 (bits .and .i64 (n / 4096) 255 * 4096))=((As.place' 2 n:Nat):Int) from by
   have a:=Y0 n;have b:=YZ n;have c:=Sj n;have d:=YX n;have x1:As.dB n 20 1 * 2147483648 ||| As.dB n 1 10 * 2097152 < 2 ^ 33:=Nat.or_lt_two_pow (by omega) (by omega);have x2:As.dB n 20 1 * 2147483648 ||| As.dB n 1 10 * 2097152 ||| As.dB n 11 1 * 1048576 < 2 ^ 33:=Nat.or_lt_two_pow x1 (by omega);rw [ynd,ync,Yt,ynb,vN _ 2147483648 2147483648 rfl (by omega),vN _ 2097152 2097152 rfl (by omega),vN _ 1048576 1048576 rfl (by omega),vN _ 4096 4096 rfl (by omega),vI _ _ (by omega) (by omega),vI _ _ (by omega) (by omega),vI _ _ (by omega) (by omega)]; unfold As.place'; rw [if_neg (by decide),if_pos rfl])
  go_enter Tryz.func144,Tryz.ntmps144;go_wp2;go_ret;exact ⟨oJ E.o,rfl⟩
 ·have E:=hid (show wrap64 (bits .and .i64 n 4095 * 1048576)=((As.place' 3 n:Nat):Int) from by
   have a:=YU n;rw [ymY,vN _ 1048576 1048576 rfl (by omega)]; unfold As.place'; rw [if_neg (by decide),if_neg (by decide),if_pos rfl])
  go_enter Tryz.func144,Tryz.ntmps144;go_wp2;go_ret;exact ⟨oJ E.o,rfl⟩
 ·have E:=hid (show bits .or .i64 (bits .or .i64 (bits .or .i64 (wrap64 (bits .and .i64 (n / 4096) 1 * 2147483648)) (wrap64 (bits .and .i64 (n / 32) 63 * 33554432))) (wrap64 (bits .and .i64 (n / 2) 15 * 256))) (wrap64 (bits .and .i64 (n / 2048) 1 * 128))=((As.place' 4 n:Nat):Int) from by
   have a:=YW n;have b:=Zq n;have c:=yml n;have d:=Sj n;have x1:As.dB n 12 1 * 2147483648 ||| As.dB n 5 6 * 33554432 < 2 ^ 33:=Nat.or_lt_two_pow (by omega) (by omega);have x2:As.dB n 12 1 * 2147483648 ||| As.dB n 5 6 * 33554432 ||| As.dB n 1 4 * 256 < 2 ^ 33:=Nat.or_lt_two_pow x1 (by omega);rw [yna,yoq,yop,Yt,vN _ 2147483648 2147483648 rfl (by omega),vN _ 33554432 33554432 rfl (by omega),vN _ 256 256 rfl (by omega),vN _ 128 128 rfl (by omega),vI _ _ (by omega) (by omega),vI _ _ (by omega) (by omega),vI _ _ (by omega) (by omega)]; unfold As.place'; rw [if_neg (by decide),if_neg (by decide),if_neg (by decide),if_pos rfl])
  go_enter Tryz.func144,Tryz.ntmps144;go_wp2;go_ret;exact ⟨oJ E.o,rfl⟩
 ·have E:=hid (show bits .or .i64 (wrap64 (bits .and .i64 (n / 32) 127 * 33554432)) (wrap64 (bits .and .i64 n 31 * 128))=((As.place' 5 n:Nat):Int) from by
   have a:=Zr n;have b:=Sr n;rw [yor,YQ,vN _ 33554432 33554432 rfl (by omega),vN _ 128 128 rfl (by omega),vI _ _ (by omega) (by omega)]; unfold As.place'; rw [if_neg (by decide),if_neg (by decide),if_neg (by decide),if_neg (by decide),if_pos rfl])
  go_enter Tryz.func144,Tryz.ntmps144;go_wp2;go_ret;exact ⟨oJ E.o,rfl⟩
 ·go_enter Tryz.func144,Tryz.ntmps144;go_wp2;go_ret;exact ⟨rfl,rfl⟩
 ·go_enter Tryz.func144,Tryz.ntmps144;go_wp2;go_ret;exact ⟨rfl,rfl⟩
theorem ynA (form:Nat) (n:Int):As.place' form n < 2 ^ 33:=by
 have a1:=YV n;have a2:=Y0 n;have a3:=YZ n;have a4:=Sj n;have a5:=YX n;have a6:=YU n;have a7:=YW n;have a8:=Zq n;have a9:=yml n;have Vg:=Zr n;have Vh:=Sr n;unfold As.place'
 repeat' split
 ·omega
 ·exact Nat.or_lt_two_pow (Nat.or_lt_two_pow (Nat.or_lt_two_pow (by omega) (by omega)) (by omega)) (by omega)
 ·omega
 ·exact Nat.or_lt_two_pow (Nat.or_lt_two_pow (Nat.or_lt_two_pow (by omega) (by omega)) (by omega)) (by omega)
 ·exact Nat.or_lt_two_pow (by omega) (by omega)
 ·omega
theorem Rn (k:Nat) (h:k<=25):mR.getD k 0=((As.forms.getD k 0:Nat):Int):=by
 rcases (show k=0\/k=1\/k=2\/k=3\/k=4\/k=5\/k=6\/k=7\/k=8\/k=9\/k=10\/k=11\/k=12\/k=13\/k=14\/k=15\/k=16\/k=17\/k=18\/k=19\/k=20\/k=21\/k=22\/k=23\/k=24\/k=25 by omega) with rfl | rfl | rfl | rfl | rfl | rfl | rfl | rfl | rfl | rfl | rfl | rfl | rfl | rfl | rfl | rfl | rfl | rfl | rfl | rfl | rfl | rfl | rfl | rfl | rfl | rfl <;> rfl
theorem YA (k:Nat) (h:k<=25):xu.getD k 0=((As.iT.getD k 0:Nat):Int):=by
 rcases (show k=0\/k=1\/k=2\/k=3\/k=4\/k=5\/k=6\/k=7\/k=8\/k=9\/k=10\/k=11\/k=12\/k=13\/k=14\/k=15\/k=16\/k=17\/k=18\/k=19\/k=20\/k=21\/k=22\/k=23\/k=24\/k=25 by omega) with rfl | rfl | rfl | rfl | rfl | rfl | rfl | rfl | rfl | rfl | rfl | rfl | rfl | rfl | rfl | rfl | rfl | rfl | rfl | rfl | rfl | rfl | rfl | rfl | rfl | rfl <;> rfl
theorem Yr (k:Nat) (h:k<=25):As.iT.getD k 0 < 2147483648:=by
 rcases (show k=0\/k=1\/k=2\/k=3\/k=4\/k=5\/k=6\/k=7\/k=8\/k=9\/k=10\/k=11\/k=12\/k=13\/k=14\/k=15\/k=16\/k=17\/k=18\/k=19\/k=20\/k=21\/k=22\/k=23\/k=24\/k=25 by omega) with rfl | rfl | rfl | rfl | rfl | rfl | rfl | rfl | rfl | rfl | rfl | rfl | rfl | rfl | rfl | rfl | rfl | rfl | rfl | rfl | rfl | rfl | rfl | rfl | rfl | rfl <;> decide
theorem YR (k:Nat) (h:1<=k) (h2:k<=25):1<=As.forms.getD k 0/\As.forms.getD k 0<=7:=by
 have:=Ke k h h2
 rw [Rn k h2] at this;omega
theorem SC (a b:Nat) (ha:a < 2 ^ 40) (hb:b < 2 ^ 40):a ||| b < 2 ^ 40:=Nat.or_lt_two_pow ha hb
theorem z8 (a:Nat) (r:Nat) (m:Nat) (M:Int) (hM:M=(m:Int)) (ha:a < 2 ^ 40) (hm:m<=1048576):bits .or .i64 (a:Int) (wrap64 (bits .and .i64 (r:Int) 31 * M))=((a ||| As.dB r 0 5 * m:Nat):Int)/\a ||| As.dB r 0 5 * m < 2 ^ 40:=by
 have h:=Sr (r:Int);have h2:As.dB r 0 5 * m<=31 * 1048576:=Nat.mul_le_mul (by omega) hm;rw [YQ,vN _ m M hM (by omega),vI _ _ (by omega) (by omega)];exact ⟨rfl,SC _ _ ha (by omega)⟩
def wR (op rd dP fq:Nat) (n:Int):Value:=.agg #[.int .i64 op,.int .i64 rd,.int .i64 dP,.int .i64 fq,.int .i64 n]
theorem yle (op rd dP fq:Nat) (n:Int) (w:World) (ht:fZ w) (h1:1<=op) (h2:op<=25) :
  Calls Tryz.prog 131 #[wR op rd dP fq n] w fun e w'=>e = .returned (.int .i64 (As.enc op rd dP fq n:Nat))/\w.grownBy w' none:=by
 have G:=hid (fun o:Obj=>aH w o none);have t1:=ht.form op (by omega);have t2:=ht.fix op (by omega);have hs1:0 < w.heap.size:=World.block_lt_of_cell? w ⟨0,op,none⟩ t1;have hs2:1 < w.heap.size:=World.block_lt_of_cell? w ⟨1,op,none⟩ t2;rw [Rn op h2] at t1;rw [YA op h2] at t2;have hx:=Yr op h2;have hf:=YR op h1 h2;have EN:=hid (show As.enc op rd dP fq n=As.gH (As.forms.getD op 0) (As.iT.getD op 0) rd dP fq n from rfl);generalize As.forms.getD op 0=form at *;generalize As.iT.getD op 0=x at *;generalize As.enc op rd dP fq n=R at *;have hpl:=ynA form n;have cP:=hid (fun W=>yhc form n W hf);have PW:=hid (show bits .or .i64 (x:Int) (As.place' form n:Nat)=((x ||| As.place' form n:Nat):Int)/\x ||| As.place' form n < 2 ^ 40 from ⟨vI _ _ (by omega) (by omega),SC _ _ (by omega) (by omega)⟩)
 have e0:(1:Int)<=(op:Int):=by omega
 have e1:(op:Int)<=25:=by omega
 have b1:decide ((op:Int) < 1)=false:=by simp; omega
 have b2:decide ((25:Int) < (op:Int))=false:=by simp; omega
 clear ht h1 h2;unfold wR;rcases (show form=1\/form=2\/form=3\/form=4\/form=5\/form=6\/form=7 from by omega) with rfl | rfl | rfl | rfl | rfl | rfl | rfl
 ·have qC:=hid (show R=As.gH 1 x rd dP fq n from EN.o);generalize hpn:As.place' 1 n=pn at *;have vX:=hid hpn;clear hpn;go_enter Tryz.func131,Tryz.ntmps131;go_wp2
  go_quiet ((go_at_call 144; exact Calls.quiet_of_same (cP.o _)))
  go_wp2;go_ret;refine ⟨oJ ?_,yd (G.o _) _⟩;rw [qC.o];unfold As.gH;rw [vX.o];simp only [];rw [if_pos (show As.iE 1=true from rfl),if_neg (show ¬ As.fV 1=true by decide),if_neg (show ¬ As.gN 1=true by decide)];rw [PW.o.1];have s1:=z8 (x ||| pn) rd 128 128 rfl PW.o.2 (by omega);rw [s1.1]
 ·have qC:=hid (show R=As.gH 2 x rd dP fq n from EN.o);generalize hpn:As.place' 2 n=pn at *;have vX:=hid hpn;clear hpn;go_enter Tryz.func131,Tryz.ntmps131;go_wp2
  go_quiet ((go_at_call 144; exact Calls.quiet_of_same (cP.o _)))
  go_wp2;go_ret;refine ⟨oJ ?_,yd (G.o _) _⟩;rw [qC.o];unfold As.gH;rw [vX.o];simp only [];rw [if_pos (show As.iE 2=true from rfl),if_neg (show ¬ As.fV 2=true by decide),if_neg (show ¬ As.gN 2=true by decide)];rw [PW.o.1];have s1:=z8 (x ||| pn) rd 128 128 rfl PW.o.2 (by omega);rw [s1.1]
 ·have qC:=hid (show R=As.gH 3 x rd dP fq n from EN.o);generalize hpn:As.place' 3 n=pn at *;have vX:=hid hpn;clear hpn;go_enter Tryz.func131,Tryz.ntmps131;go_wp2
  go_quiet ((go_at_call 144; exact Calls.quiet_of_same (cP.o _)))
  go_wp2;go_ret;refine ⟨oJ ?_,yd (G.o _) _⟩;rw [qC.o];unfold As.gH;rw [vX.o];simp only [];rw [if_pos (show As.iE 3=true from rfl),if_pos (show As.fV 3=true from rfl),if_neg (show ¬ As.gN 3=true by decide)];rw [PW.o.1];have s1:=z8 (x ||| pn) rd 128 128 rfl PW.o.2 (by omega);rw [s1.1];have s2:=z8 ((x ||| pn) ||| As.dB rd 0 5 * 128) dP 32768 32768 rfl s1.2 (by omega);rw [s2.1]
 ·have qC:=hid (show R=As.gH 4 x rd dP fq n from EN.o);generalize hpn:As.place' 4 n=pn at *;have vX:=hid hpn;clear hpn;go_enter Tryz.func131,Tryz.ntmps131;go_wp2
  go_quiet ((go_at_call 144; exact Calls.quiet_of_same (cP.o _)))
  go_wp2;go_ret;refine ⟨oJ ?_,yd (G.o _) _⟩;rw [qC.o];unfold As.gH;rw [vX.o];simp only [];rw [if_neg (show ¬ As.iE 4=true by decide),if_pos (show As.fV 4=true from rfl),if_pos (show As.gN 4=true from rfl)];rw [PW.o.1];have s1:=z8 (x ||| pn) dP 32768 32768 rfl PW.o.2 (by omega);rw [s1.1];have s2:=z8 ((x ||| pn) ||| As.dB dP 0 5 * 32768) fq 1048576 1048576 rfl s1.2 (by omega);rw [s2.1]
 ·have qC:=hid (show R=As.gH 5 x rd dP fq n from EN.o);generalize hpn:As.place' 5 n=pn at *;have vX:=hid hpn;clear hpn;go_enter Tryz.func131,Tryz.ntmps131;go_wp2
  go_quiet ((go_at_call 144; exact Calls.quiet_of_same (cP.o _)))
  go_wp2;go_ret;refine ⟨oJ ?_,yd (G.o _) _⟩;rw [qC.o];unfold As.gH;rw [vX.o];simp only [];rw [if_neg (show ¬ As.iE 5=true by decide),if_pos (show As.fV 5=true from rfl),if_pos (show As.gN 5=true from rfl)];rw [PW.o.1];have s1:=z8 (x ||| pn) dP 32768 32768 rfl PW.o.2 (by omega);rw [s1.1];have s2:=z8 ((x ||| pn) ||| As.dB dP 0 5 * 32768) fq 1048576 1048576 rfl s1.2 (by omega);rw [s2.1]
 ·have qC:=hid (show R=As.gH 6 x rd dP fq n from EN.o);generalize hpn:As.place' 6 n=pn at *;have vX:=hid hpn;clear hpn;go_enter Tryz.func131,Tryz.ntmps131;go_wp2
  go_quiet ((go_at_call 144; exact Calls.quiet_of_same (cP.o _)))
  go_wp2;go_ret;refine ⟨oJ ?_,yd (G.o _) _⟩;rw [qC.o];unfold As.gH;rw [vX.o];simp only [];rw [if_pos (show As.iE 6=true from rfl),if_pos (show As.fV 6=true from rfl),if_pos (show As.gN 6=true from rfl)];rw [PW.o.1];have s1:=z8 (x ||| pn) rd 128 128 rfl PW.o.2 (by omega);rw [s1.1];have s2:=z8 ((x ||| pn) ||| As.dB rd 0 5 * 128) dP 32768 32768 rfl s1.2 (by omega);rw [s2.1];have s3:=z8 (((x ||| pn) ||| As.dB rd 0 5 * 128) ||| As.dB dP 0 5 * 32768) fq 1048576 1048576 rfl s2.2 (by omega);rw [s3.1]
 ·have qC:=hid (show R=As.gH 7 x rd dP fq n from EN.o);generalize hpn:As.place' 7 n=pn at *;have vX:=hid hpn;clear hpn;go_enter Tryz.func131,Tryz.ntmps131;go_wp2
  go_quiet ((go_at_call 144; exact Calls.quiet_of_same (cP.o _)))
  go_wp2;go_ret;refine ⟨oJ ?_,yd (G.o _) _⟩;rw [qC.o];unfold As.gH;rw [vX.o];simp only [];rw [if_neg (show ¬ As.iE 7=true by decide),if_neg (show ¬ As.fV 7=true by decide),if_neg (show ¬ As.gN 7=true by decide)];rw [PW.o.1]
theorem ymD (v:Int) (w:World) (h0:-2147483648<=v) (h1:v<=2147483647) :
  Calls Tryz.prog 133 #[.int .i64 v] w fun e w'=>e = .returned (.tuple #[.int .i64 (As.dO v),.int .i64 (As.bR v)])/\w'=w:=by
 have a1:=Sm v;have r1:0<=v % 4096/\v % 4096 < 4096:=by omega
 have e1:bits .and .i64 v 4095=v % 4096:=by rw [a1]; omega
 have HH:=hid (show As.dO v=(v - As.bR v) / 4096 % 1048576 from rfl);have Fv:=hid (show As.bR v=if v % 4096 < 2048 then v % 4096 else v % 4096 - 4096 from rfl);clear a1;by_cases c:v % 4096 < 2048
 ·have EL:=hid (show As.bR v=v % 4096 by rw [Fv.o,if_pos c]);have EH:=hid (show bits .and .i64 ((v - v % 4096) / 4096) 1048575=As.dO v by rw [Ng,HH.o,EL.o]; omega);generalize As.bR v=lo at *;generalize As.dO v=hi at *;go_enter Tryz.func133,Tryz.ntmps133;go_wp2;go_ret2;exact ⟨by rw [EL.o,<- EH.o]; rfl,rfl⟩
 ·have EL:=hid (show As.bR v=v % 4096 - 4096 by rw [Fv.o,if_neg c]);have EH:=hid (show bits .and .i64 ((v - (v % 4096 - 4096)) / 4096) 1048575=As.dO v by rw [Ng,HH.o,EL.o]; omega);generalize As.bR v=lo at *;generalize As.dO v=hi at *;go_enter Tryz.func133,Tryz.ntmps133;go_wp2;go_ret2;exact ⟨by rw [EL.o,<- EH.o]; rfl,rfl⟩
theorem Rk {w wr w1:World} {row:Option Nat} (h:w.grownBy wr none) (k:wr.grownBy w1 row) (hr:∀ g,row=some g->w.heap.size<=g):w.grownBy w1 none :=
 ⟨k.os.trans h.os,k.tape.trans h.tape,k.output.trans h.output,Nat.le_trans h.size k.size,fun i hi hn =>
  (k.block i (Nat.lt_of_lt_of_le hi h.size) (fun e=>by have:=hr i e.symm; omega)).trans (h.block i hi hn)⟩
theorem yiF (n:Int) (h0:-9223372036854775808<=n) (h1:n<=9223372036854775807):bits .andNot .i64 n 3=n - n % 4:=by
 have e1:(~~~ (BitVec.ofInt 64 3)).toNat=(2 ^ 62 - 1) <<< 2:=by decide
 have key:(BitVec.ofInt 64 n &&& ~~~ (BitVec.ofInt 64 3)).toNat=(n % ((2 ^ 64:Nat):Int)).toNat / 4 * 4:=by
  rw [BitVec.toNat_and,e1,BitVec.toNat_ofInt,Gh,Nat.and_two_pow_sub_one_eq_mod,Nat.shiftRight_eq_div_pow,Nat.shiftLeft_eq];omega
 show IntKind.i64.wrap ((BitVec.ofInt 64 n &&& ~~~ (BitVec.ofInt 64 3)).toNat:Nat)=_;rw [key,IntKind.wrap_i64];omega
theorem yiE (n:Int) (h0:-9223372036854775808<=n) (h1:n<=9223372036854775807):bits .andNot .i64 n 7=n - n % 8:=by
 have e1:(~~~ (BitVec.ofInt 64 7)).toNat=(2 ^ 61 - 1) <<< 3:=by decide
 have key:(BitVec.ofInt 64 n &&& ~~~ (BitVec.ofInt 64 7)).toNat=(n % ((2 ^ 64:Nat):Int)).toNat / 8 * 8:=by
  rw [BitVec.toNat_and,e1,BitVec.toNat_ofInt,Gh,Nat.and_two_pow_sub_one_eq_mod,Nat.shiftRight_eq_div_pow,Nat.shiftLeft_eq];omega
 show IntKind.i64.wrap ((BitVec.ofInt 64 n &&& ~~~ (BitVec.ofInt 64 7)).toNat:Nat)=_;rw [key,IntKind.wrap_i64];omega
theorem yhv (n:Int) (h0:-9223372036854775808<=n) (h1:n<=9223372036854775807):bits .andNot .i64 n 15=n - n % 16:=by
 have e1:(~~~ (BitVec.ofInt 64 15)).toNat=(2 ^ 60 - 1) <<< 4:=by decide
 have key:(BitVec.ofInt 64 n &&& ~~~ (BitVec.ofInt 64 15)).toNat=(n % ((2 ^ 64:Nat):Int)).toNat / 16 * 16:=by
  rw [BitVec.toNat_and,e1,BitVec.toNat_ofInt,Gh,Nat.and_two_pow_sub_one_eq_mod,Nat.shiftRight_eq_div_pow,Nat.shiftLeft_eq];omega
 show IntKind.i64.wrap ((BitVec.ofInt 64 n &&& ~~~ (BitVec.ofInt 64 15)).toNat:Nat)=_;rw [key,IntKind.wrap_i64];omega
theorem Sy (a b:Int) (h0:0<=a) (h1:a<=1125899906842624) (hb:b=4\/b=8\/b=16):Ln.rup a b=(a+b - 1) - (a+b - 1) % b:=by
 unfold Ln.rup;rcases hb with rfl | rfl | rfl
 ·exact yiF _ (by omega) (by omega)
 ·exact yiE _ (by omega) (by omega)
 ·exact yhv _ (by omega) (by omega)
theorem ru (a b:Int) (h0:0<=a) (h1:a<=1125899906842624) (hb:b=4\/b=8\/b=16):a<=Ln.rup a b/\Ln.rup a b<=a+15/\Ln.rup a b % 4=0:=by
 rw [Sy a b h0 h1 hb];rcases hb with rfl | rfl | rfl <;> omega
theorem uT (x:Int):yL x=4\/yL x=8\/yL x=16:=by
 unfold yL;split
 ·exact .inl rfl
 ·split
  ·exact .inr (.inl rfl)
  ·exact .inr (.inr rfl)
theorem yhd (m:Ln.Mod) (ah:Int) (ws:List Int) (k:Nat) (h:k < ws.length) (at_:Int):Ln.aA m ah k (ws.drop k) at_=at_ :: Ln.aA m ah (k+1) (ws.drop (k+1)) (if Ln.stays m ah (4 * k) at_ then at_+4 else at_):=by
 rw [jg h];rfl
theorem yiN (m:Ln.Mod) (ah:Int) (ws:List Int) (k:Nat) (h:k < ws.length) (at_:Int):Ln.aL m ah k (ws.drop k) at_=Ln.aL m ah (k+1) (ws.drop (k+1)) (if Ln.stays m ah (4 * k) at_ then at_+4 else at_):=by
 rw [jg h];rfl
def SG (m:Ln.Mod) (ah:Nat) (ps:List Int):Ln.Mod:=if ah=1 then { m with text:=ps } else { m with far:=ps }
section
variable {w w3:World} {bl:List Nat} {b g B:Nat} {m:Ln.Mod} {v':Value} {ps:List Int}
theorem yN.nS (h:yN w bl b g m) (hw:w.grownBy w3 none) (hown:w3.ownsRow B 3 1 v' ps.length (ps.map (Value.int .i64))):yN (w3.setCell ⟨b,3,none⟩ v') bl b g { m with text:=ps }/\w.grownBy (w3.setCell ⟨b,3,none⟩ v') (some b)/\∃ u,w3.cell? ⟨b,3,none⟩=some u/\w3.frozen? ⟨b,3,none⟩=false:=by
 obtain ⟨u1,u2,u3,u4,q0,q1,q2,q3,q4,q5,q6,q7⟩:=h.kept hw;have gs:=yi w3 b 3 v';have R:=aW.blk q0;refine ⟨⟨u1,u2,v',u4,by simpa using q0.set 3 v',oK q1 gs R (by decide) (by decide) (by decide) (by decide),yw q2 gs R (by decide),yw q3 gs R (by decide),EJ (yw hown gs R (by decide)),yw q5 gs R (by decide),q6,q7⟩,(hw.but _).trans gs,_,q0.cell 3,q0.free 3⟩
theorem yN.uN (h:yN w bl b g m) (hw:w.grownBy w3 none) (hown:w3.ownsRow B 3 1 v' ps.length (ps.map (Value.int .i64))):yN (w3.setCell ⟨b,4,none⟩ v') bl b g { m with far:=ps }/\w.grownBy (w3.setCell ⟨b,4,none⟩ v') (some b)/\∃ u,w3.cell? ⟨b,4,none⟩=some u/\w3.frozen? ⟨b,4,none⟩=false:=by
 obtain ⟨u1,u2,u3,u4,q0,q1,q2,q3,q4,q5,q6,q7⟩:=h.kept hw;have gs:=yi w3 b 4 v';have R:=aW.blk q0;refine ⟨⟨u1,u2,u3,v',by simpa using q0.set 4 v',oK q1 gs R (by decide) (by decide) (by decide) (by decide),yw q2 gs R (by decide),yw q3 gs R (by decide),yw q4 gs R (by decide),EJ (yw hown gs R (by decide)),q6,q7⟩,(hw.but _).trans gs,_,q0.cell 4,q0.free 4⟩
end
theorem XJ (bl:List Nat) (b g n:Nat) (m:Ln.Mod) (ah:Nat) (from_:Int) (w:World) (hm:yN w bl b g m) (hn:yO n m) (hv:yp m.obj) (hs:ah=1\/ah=2) (h0:0<=from_) (h1:from_<=562949953421312) :
  Calls Tryz.prog 76 #[aP b,.int .i64 ah,.int .i64 from_] w fun e w'=>e = .returned (.int .i64 (Ln.bU m ah from_))/\w.grownBy w' (some b)/\yN w' bl b g (SG m ah (Ln.aT m ah from_)):=by
 obtain ⟨i0,hi,hz0,hz1,hz2⟩:=info_parts Tryz.fP;have HM:=hid hm;obtain ⟨v1,v2,v3,v4,q0,q1,-⟩:=hm;have k0:w.cell? ⟨b,0,none⟩=some (.pointer (some ⟨g,0,none⟩)):=q0.cell 0;have CJ:=hv.2.1;have hal:ah - 1 < m.obj.align.length:=by rw [CJ.1]; omega
 have EB:=hid (show Ln.aJ m.obj ah=yL (m.obj.align[ah - 1]'hal) by unfold Ln.aJ; rw [iJ,gy hal]; rfl);have BV:Ln.aJ m.obj ah=4\/Ln.aJ m.obj ah=8\/Ln.aJ m.obj ah=16:=uT _;have cB:=hid (Xm g m.obj ah w q1 CJ (by omega) (by omega));rw [<- EB.o] at cB;have RR:=ru from_ (Ln.aJ m.obj ah) h0 (by omega) BV;have cU:=hid (Mg from_ (Ln.aJ m.obj ah) w h0 (by omega) (by omega) (by omega));have cW:=hid (Mi g m.obj ah w q1);have hwl:(yh m.obj ah).length<=1200:=by
  have:=hv.1.1
  rcases hs with rfl | rfl
  ·exact this.1
  ·exact this.2.1
 have EP:=hid (show Ln.aT m ah from_=Ln.aA m ah 0 ((yh m.obj ah).drop 0) (Ln.rup from_ (Ln.aJ m.obj ah)) from rfl);have EE:=hid (show Ln.bU m ah from_=Ln.aL m ah 0 ((yh m.obj ah).drop 0) (Ln.rup from_ (Ln.aJ m.obj ah)) from rfl);clear EB BV;generalize Ln.rup from_ (Ln.aJ m.obj ah)=a0 at *;generalize Ln.aJ m.obj ah=bd at *;generalize Ln.aT m ah from_=PL at *;generalize Ln.bU m ah from_=PE at *;generalize yh m.obj ah=ws at *;have cS:=hid (fun (off at_:Int) W (hg:w.grownBy W none) h0 h1=>ymJ bl b g n m ah off at_ W (HM.o.kept hg) hn h0 h1);have HN:=hid hn;clear q0 q1 CJ hn hv hal;unfold aP at *;go_enter Tryz.func76,Tryz.ntmps76
 go_wp2_with fail;refine cB.o.mono ?_;rintro e w1 ⟨rfl,rfl⟩;go_wp2_with fail;refine cU.o.mono ?_;rintro e w1 ⟨rfl,rfl⟩;go_wp2_with fail;refine cW.o.mono ?_;rintro e w1 ⟨aw,cw,rfl,-,rfl⟩;clear cB cU cW;go_wp2
 go_loopw [7,8,25] (fun at_ v i wr=>∃ (k:Nat) (a:Int) (acc:List Int),k<=ws.length/\i = .int .i64 k/\at_ = .int .i64 a/\acc.length=k/\PL=acc ++ Ln.aA m ah k (ws.drop k) a/\PE=Ln.aL m ah k (ws.drop k) a/\a0<=a/\a<=a0+4 * k/\wr.ownsRow w1.heap.size 3 1 v k (acc.map (Value.int .i64))/\w1.grownBy wr none) (fun _ _ i _=>ws.length - (intOf i).toNat)
 case atStart=>exact ⟨0,a0,[],Nat.zero_le _,rfl,rfl,rfl,EP.o,EE.o,Int.le_refl _,by omega,World.ownsRow_nil _ _ _ _,World.grownBy.refl _ _⟩
 case round =>
  obtain ⟨k,a,acc,hk,rfl,rfl,hacc,hpl,hpe,ha1,ha2,hown,hgr⟩:=hrel;obtain ⟨av,cv,rfl⟩:=yj hown;have HG:=hid hgr;have hsz:=hgr.size;have K7:=hid hpl;have T9:=hid hpe;clear hgr hpl hpe EP EE;by_cases hlt:k < ws.length
  ·have hlt':(k:Int) < (ws.length:Int):=by omega
   have P2:=hid (K7.o.trans (by rw [yhd m ah ws k hlt a]));have E2:=hid (T9.o.trans (yiN m ah ws k hlt a));have w4:IntKind.i64.wrap (4 * (k:Int))=4 * k:=IntWalk.i64_in _ ⟨by omega,by omega⟩;go_wp2_with (at_builtin; refine wpList_append_own _ rfl _ _ 35 rfl w1.heap.size 3 i0 (.int .i64 0) 1 8 Tryz.underlying35 hi hz0 hz1 hz2 rfl (by decide) _ _ _ rfl (hown.alloc _) ⟨wr.heap.size,0,none⟩ 1 1 [.int .i64 a] rfl rfl (cell_one_new _ _ _) (by intro u hu; simp at hu; subst hu; rfl) (by unfold maxLen; omega) (by omega) (by simp; omega) ?_; intro v' w3 hown' hgrow _; obtain ⟨jN,cv',rfl⟩:=yj hown'; have K:=hid (Rk (ya HG.o (aH wr (.cells #[.int .i64 a] 3) none)) hgrow (fun b hb=>(hown.lt b hb).1)); have HO:=hid hown'; clear hgrow hown')
   refine (cS.o (4 * k) a w3 K.o (by omega) (by omega)).mono ?_;rintro e w5 ⟨rfl,h5⟩;have K5:=hid (ya K.o h5);have xH:=hid (HO.o.kept h5 (Decidable.em _));clear h5 HO K hown
   cases est:Ln.stays m ah (4 * k) a
   ·rw [est] at P2 E2;have P3:=hid (show PL=(acc ++ [a]) ++ Ln.aA m ah (k+1) (ws.drop (k+1)) a by rw [P2.o]; simp);have E3:=hid (show PE=Ln.aL m ah (k+1) (ws.drop (k+1)) a from E2.o);clear est P2 E2;go_wp2
    go_roundw
    case rel=>exact ⟨k+1,a,acc ++ [a],by omega,by go_num,rfl,by simp [hacc],P3.o,E3.o,by omega,by omega,by rw [List.map_append]; exact xH.o,K5.o⟩
    case measure=>simp [intOf]; omega
   ·rw [est] at P2 E2;have P3:=hid (show PL=(acc ++ [a]) ++ Ln.aA m ah (k+1) (ws.drop (k+1)) (a+4) by rw [P2.o]; simp);have E3:=hid (show PE=Ln.aL m ah (k+1) (ws.drop (k+1)) (a+4) from E2.o);have wa:IntKind.i64.wrap (a+4)=a+4:=IntWalk.i64_in _ ⟨by omega,by omega⟩;clear est P2 E2;go_wp2
    go_roundw
    case rel=>exact ⟨k+1,a+4,acc ++ [a],by omega,by go_num,rfl,by simp [hacc],P3.o,E3.o,by omega,by omega,by rw [List.map_append]; exact xH.o,K5.o⟩
    case measure=>simp [intOf]; omega
  ·obtain rfl:k=ws.length:=by omega
   have g3:decide ((ws.length:Int) < (ws.length:Int))=false:=by simp
   have P2:=hid (show PL=acc ++ [a] by rw [K7.o,List.drop_length]; rfl);have E2:=hid (show PE=a by rw [T9.o,List.drop_length]; rfl);have LP:PL.length=ws.length+1:=by rw [P2.o]; simp [hacc]
   have MP:=hid (show PL.map (Value.int .i64)=acc.map (Value.int .i64) ++ [.int .i64 a] by rw [P2.o]; simp);rcases hs with rfl | rfl
   ·have d1:((1:Int) == 1)=true:=rfl;go_wp2_with (at_builtin; refine wpList_append_own _ rfl _ _ 35 rfl w1.heap.size 3 i0 (.int .i64 0) 1 8 Tryz.underlying35 hi hz0 hz1 hz2 rfl (by decide) _ _ _ rfl (hown.alloc _) ⟨wr.heap.size,0,none⟩ 1 1 [.int .i64 a] rfl rfl (cell_one_new _ _ _) (by intro u hu; simp at hu; subst hu; rfl) (by unfold maxLen; omega) (by omega) (by simp; omega) ?_; intro v' w3 hown' hgrow _; obtain ⟨jN,cv',rfl⟩:=yj hown'; have K:=hid (Rk (ya HG.o (aH wr (.cells #[.int .i64 a] 3) none)) hgrow (fun b hb=>(hown.lt b hb).1)); obtain ⟨t1,t2,u,c3,f3⟩:=HM.o.nS (ps:=PL) K.o (by rw [LP,MP.o]; exact hown'); have T1:=hid t1; have T2:=hid t2; clear hgrow hown' t1 t2)
    go_ret;exact ⟨by rw [E2.o]; rfl,T2.o,by unfold SG; rw [if_pos rfl]; exact T1.o⟩
   ·have d1:((2:Int) == 1)=false:=rfl;go_wp2_with (at_builtin; refine wpList_append_own _ rfl _ _ 35 rfl w1.heap.size 3 i0 (.int .i64 0) 1 8 Tryz.underlying35 hi hz0 hz1 hz2 rfl (by decide) _ _ _ rfl (hown.alloc _) ⟨wr.heap.size,0,none⟩ 1 1 [.int .i64 a] rfl rfl (cell_one_new _ _ _) (by intro u hu; simp at hu; subst hu; rfl) (by unfold maxLen; omega) (by omega) (by simp; omega) ?_; intro v' w3 hown' hgrow _; obtain ⟨jN,cv',rfl⟩:=yj hown'; have K:=hid (Rk (ya HG.o (aH wr (.cells #[.int .i64 a] 3) none)) hgrow (fun b hb=>(hown.lt b hb).1)); obtain ⟨t1,t2,u,c3,f3⟩:=HM.o.uN (ps:=PL) K.o (by rw [LP,MP.o]; exact hown'); have T1:=hid t1; have T2:=hid t2; clear hgrow hown' t1 t2)
    go_ret;exact ⟨by rw [E2.o]; rfl,T2.o,by unfold SG; rw [if_neg (by decide)]; exact T1.o⟩
theorem tN (r:Lk.Rel) (w:World) (h:r.kind=6->r.addend=4\/r.addend=12) :
  Calls Tryz.prog 91 #[bY r] w fun e w'=>e = .returned (.int .i64 (yr r))/\w.grownBy w' none:=by
 have G:=hid (fun o:Obj=>aH w o none);unfold bY yr;obtain ⟨ah,off,kind,sym,addend⟩:=r;simp only at *;by_cases e4:kind=4
 ·subst e4;go_enter Tryz.func91,Tryz.ntmps91;go_wp2;go_ret;exact ⟨by simp,G.o _⟩
 by_cases e5:kind=5
 ·subst e5;clear e4;go_enter Tryz.func91,Tryz.ntmps91;go_wp2;go_ret;exact ⟨by simp,G.o _⟩
 by_cases e6:kind=6
 ·subst e6;have ha:=h rfl;clear e4 e5 h;rcases ha with rfl | rfl
  all_goals
   go_enter Tryz.func91,Tryz.ntmps91;go_wp2;go_ret;exact ⟨by simp,G.o _⟩
 have d4:(kind == 4)=false:=beq_eq_false_iff_ne.2 e4;have d5:(kind == 5)=false:=beq_eq_false_iff_ne.2 e5;have d6:(kind == 6)=false:=beq_eq_false_iff_ne.2 e6;rw [if_neg (by omega),if_neg e6];clear e4 e5 e6 h;go_enter Tryz.func91,Tryz.ntmps91;go_wp2;go_ret;exact ⟨rfl,G.o _⟩
theorem yns (s:ByteArray) (w:World) (hs:s.size<=1048576) :
  Calls Tryz.prog 112 #[.string s] w fun e w'=>yg e (tq s)/\w'=w:=by
 go_enter Tryz.func112,Tryz.ntmps112;go_wp2
 go_loop [3] (fun i=>∃ k:Nat,k<=s.size/\i = .int .i64 k/\(∀ j (hj:j < s.size),j < k->mW (s[j].toNat:Int))/\∀ h:0 < s.size,0 < k->¬ (48<=(s[0].toNat:Int)/\(s[0].toNat:Int)<=57)) (fun i=>s.size - (intOf i).toNat)
 case atStart=>exact ⟨0,Nat.zero_le _,rfl,fun j _ hj=>absurd hj (Nat.not_lt_zero j),fun _ h=>absurd h (Nat.lt_irrefl _)⟩
 case round =>
  obtain ⟨k,hk,rfl,hall,wK⟩:=hrel;have HA:=hid hall;have HF:=hid wK;clear hall wK;by_cases hlt:k < s.size
  ·have hb:(0:Int)<=(s[k].toNat:Int):=by omega
   rcases (show (s[k].toNat:Int)<=47\/(48<=(s[k].toNat:Int)/\(s[k].toNat:Int)<=57)\/(58<=(s[k].toNat:Int)/\(s[k].toNat:Int)<=94)\/(95<=(s[k].toNat:Int)/\(s[k].toNat:Int)<=95)\/(96<=(s[k].toNat:Int)/\(s[k].toNat:Int)<=96)\/(97<=(s[k].toNat:Int)/\(s[k].toNat:Int)<=122)\/123<=(s[k].toNat:Int) from by omega) with r | ⟨r1,r2⟩ | ⟨r1,r2⟩ | ⟨r1,r2⟩ | ⟨r1,r2⟩ | ⟨r1,r2⟩ | r
   ·have N:=hid (show ¬ tq s from fun h=>by have:=h.2.2.2 k hlt; unfold mW at this; omega);go_wp2
    all_goals first | (go_ret; exact ⟨yg.no N.o,rfl⟩) | (exfalso; rename_i hx; simp at hx; omega)
   ·have HC:=hid (show mW (s[k].toNat:Int) from by unfold mW; omega);by_cases hk0:k=0
    ·subst hk0;have N:=hid (show ¬ tq s from fun h=>h.2.2.1 hlt ⟨r1,r2⟩);go_wp2
     all_goals first | (go_ret; exact ⟨yg.no N.o,rfl⟩) | (exfalso; rename_i hx; simp at hx; omega)
    ·have hk1:1<=k:=by omega
     have dk:((k:Int) == 0)=false:=beq_eq_false_iff_ne.2 (by omega);clear hk0;go_wp2
     all_goals go_round
     all_goals first
      | (case rel=>exact ⟨k+1,by omega,by go_num,fun j hj hjk=>(Nat.lt_succ_iff_lt_or_eq.1 hjk).elim (fun h=>HA.o j hj h) (fun h=>by subst h; exact HC.o),fun h0 _=>HF.o h0 (by omega)⟩)
      | (case measure=>simp [intOf]; omega)
   ·have N:=hid (show ¬ tq s from fun h=>by have:=h.2.2.2 k hlt; unfold mW at this; omega);go_wp2
    all_goals first | (go_ret; exact ⟨yg.no N.o,rfl⟩) | (exfalso; rename_i hx; simp at hx; omega)
   ·have HC:=hid (show mW (s[k].toNat:Int) from by unfold mW; omega);have Oa:=hid (show ¬ (48<=(s[k].toNat:Int)/\(s[k].toNat:Int)<=57) from by omega);go_wp2
    all_goals go_round
    all_goals first
     | (case rel=>exact ⟨k+1,by omega,by go_num,fun j hj hjk=>(Nat.lt_succ_iff_lt_or_eq.1 hjk).elim (fun h=>HA.o j hj h) (fun h=>by subst h; exact HC.o),fun h0 _=>(Nat.eq_zero_or_pos k).elim (fun hk0=>by subst hk0; exact Oa.o) (fun hk0=>HF.o h0 hk0)⟩)
     | (case measure=>simp [intOf]; omega)
   ·have N:=hid (show ¬ tq s from fun h=>by have:=h.2.2.2 k hlt; unfold mW at this; omega);go_wp2
    all_goals first | (go_ret; exact ⟨yg.no N.o,rfl⟩) | (exfalso; rename_i hx; simp at hx; omega)
   ·have HC:=hid (show mW (s[k].toNat:Int) from by unfold mW; omega);have Oa:=hid (show ¬ (48<=(s[k].toNat:Int)/\(s[k].toNat:Int)<=57) from by omega);go_wp2
    all_goals go_round
    all_goals first
     | (case rel=>exact ⟨k+1,by omega,by go_num,fun j hj hjk=>(Nat.lt_succ_iff_lt_or_eq.1 hjk).elim (fun h=>HA.o j hj h) (fun h=>by subst h; exact HC.o),fun h0 _=>(Nat.eq_zero_or_pos k).elim (fun hk0=>by subst hk0; exact Oa.o) (fun hk0=>HF.o h0 hk0)⟩)
     | (case measure=>simp [intOf]; omega)
   ·have N:=hid (show ¬ tq s from fun h=>by have:=h.2.2.2 k hlt; unfold mW at this; omega);go_wp2
    all_goals first | (go_ret; exact ⟨yg.no N.o,rfl⟩) | (exfalso; rename_i hx; simp at hx; omega)
  ·by_cases c1:1<=s.size
   ·have d1:decide ((1:Int)<=(s.size:Int))=true:=by simp; omega
    go_wp2;go_ret;refine ⟨yg.of ?_,rfl⟩;rw [decide_eq_true_iff];exact ⟨fun h=>⟨c1,by omega,fun h0=>HF.o h0 (by omega),fun i hi=>HA.o i hi (by omega)⟩,fun h=>by have:=h.2.1; omega⟩
   ·have d1:decide ((1:Int)<=(s.size:Int))=false:=by simp; omega
    have N:=hid (show ¬ tq s from fun h=>by have:=h.1; omega);go_wp2;go_ret;exact ⟨yg.no N.o,rfl⟩
structure oV (W:World) (B:Nat) (o:Lk.Obj) (at_:Option Addr) (ct:Nat) (af:Option Addr) (cf:Nat) (ad:Option Addr) (cd:Nat) (Z:Nat):Prop where
 blk:ye W B #[.slice none 0 0,.slice at_ o.text.length ct,.slice af o.far.length cf,.slice ad o.data.length cd,.slice (some ⟨Z,0,none⟩) o.bss.toNat o.bss.toNat] 35
 text:ym W at_ o.text
 far:ym W af o.far
 data:ym W ad o.data
 zero:ym W (some ⟨Z,0,none⟩) (List.replicate o.bss.toNat 0)
 ct:o.text.length<=ct/\ct<=maxLen
 cf:o.far.length<=cf/\cf<=maxLen
 cd:o.data.length<=cd/\cd<=maxLen
theorem oV.grown {W W':World} {B:Nat} {o:Lk.Obj} {at_:Option Addr} {ct:Nat} {af:Option Addr} {cf:Nat} {ad:Option Addr} {cd:Nat} {Z:Nat} (h:oV W B o at_ ct af cf ad cd Z) (hg:W.grownBy W' none):oV W' B o at_ ct af cf ad cd Z :=
 ⟨h.blk.grown hg (by simp),h.text.kept (fun _ _ hv=>yc hv hg),h.far.kept (fun _ _ hv=>yc hv hg),h.data.kept (fun _ _ hv=>yc hv hg),h.zero.kept (fun _ _ hv=>yc hv hg),h.ct,h.cf,h.cd⟩
theorem QG (g:Nat) (o:Lk.Obj) (w:World) (h:yq w g o) (hz:0<=o.bss/\o.bss<=64) :
  Calls Tryz.prog 66 #[.pointer (some ⟨g,0,none⟩)] w fun e w'=>∃ B at_ ct af cf ad cd Z,e = .returned (.slice (some ⟨B,0,none⟩) 5 5)/\oV w' B o at_ ct af cf ad cd Z/\w.grownBy w' none:=by
 obtain ⟨i0,hi,hz0,hz1,hz2⟩:=info_parts Tryz.fP;obtain ⟨at_,ct,af,cf,ad,cd,aa,ca,gF,cs,ar,cr,hb,h1,h2,h3,-⟩:=h.open;have k3:=hb.cell 3;have HB:=hid hb;have I1:=hid (ym.aB h1);have I2:=hid (ym.aB h2);have I3:=hid (ym.aB h3);have C1:=hid (yZ h1);have C2:=hid (yZ h2);have C3:=hid (yZ h3);clear h hb h1 h2 h3;obtain ⟨n,hn⟩:=Int.eq_ofNat_of_zero_le hz.1;have HN:=hid hn;have aan:n<=64:=by omega
 rw [hn] at k3;clear hn hz;go_enter Tryz.func66,Tryz.ntmps66;go_wp2_with (first | (refine wpList_make_full _ rfl _ _ 35 rfl w.heap.size 3 i0 (.int .i64 0) 1 Tryz.underlying35 hi hz0 hz1 .i64 .i64 (n:Int) (n:Int) n rfl rfl rfl rfl (by rw [hz2]; omega) (by unfold maxLen; omega) (Nat.le_refl _) ?_; intro w1 hown hgrow))
 have HO:=hid hown;have HG:=hid hgrow;have hb1:=HB.o.grown hgrow (by simp);have c0:=hb1.cell 0;have c1:=hb1.cell 1;have c2:=hb1.cell 2;clear hown hgrow hb1 k3;go_wp2
 go_region
 go_wp2;go_ret;have G2:=yf (aH w1 (.cells #[.slice none 0 0,.slice at_ o.text.length ct,.slice af o.far.length cf,.slice ad o.data.length cd,.slice (some ⟨w.heap.size,0,none⟩) n n] 35) none);have e:o.bss.toNat=n:=by rw [HN.o]; simp
 have GK:=fun (a:Addr) (v:Value) (hv:w.cell? a=some v)=>yc (yc hv HG.o) G2
 refine ⟨w1.heap.size,at_,ct,af,cf,ad,cd,w.heap.size,rfl,⟨?_,I1.o.kept GK,I2.o.kept GK,I3.o.kept GK,?_,C1.o,C2.o,C3.o⟩,ya HG.o G2⟩
 ·rw [e];exact ye.new w1 _ _
 ·rw [e];have hz:ym w1 (some ⟨w.heap.size,0,none⟩) (List.replicate n 0):=by
   refine ym.aB (n:=n) (cap:=n) (base:=w.heap.size) ?_;have h:=HO.o;have e2:(madeCells (Value.int .i64 0).cells (n * 1)).toList=(List.replicate n (0:Int)).map (Value.int .i64):=by
    rw [Nat.mul_one];show (madeCells #[Value.int .i64 0] n).toList=_;rw [toList_madeCells_one];simp
   rw [e2] at h;exact h
  exact hz.kept (fun _ _ hv=>yc hv G2)
def Ky (o:Lk.Obj) (k:Nat) (h:k < o.syms.length):Prop:=Ci o o.syms[k]/\¬ ∃ j,∃ hj:j < o.syms.length,j < k/\o.syms[j].name=o.syms[k].name
theorem oV.len {W:World} {B:Nat} {o:Lk.Obj} {at_:Option Addr} {ct:Nat} {af:Option Addr} {cf:Nat} {ad:Option Addr} {cd:Nat} {Z:Nat} (h:oV W B o at_ ct af cf ad cd Z) (hz:0<=o.bss) (n:Nat) (hn:n<=4) :
  ∃ ao L cap,W.cell? ⟨B,n,none⟩=some (.slice ao L cap)/\(L:Int)=kY o n:=by
 rcases (show n=0\/n=1\/n=2\/n=3\/n=4 from by omega) with rfl | rfl | rfl | rfl | rfl
 ·exact ⟨_,_,_,h.blk.cell 0,by simp [kY,yh]⟩
 ·exact ⟨_,_,_,h.blk.cell 1,by simp [kY,yh]⟩
 ·exact ⟨_,_,_,h.blk.cell 2,by simp [kY,yh]⟩
 ·exact ⟨_,_,_,h.blk.cell 3,by simp [kY,yh]⟩
 ·exact ⟨_,_,_,h.blk.cell 4,by simp [kY]; omega⟩
theorem yiW (g B k:Nat) (o:Lk.Obj) (at_:Option Addr) (ct:Nat) (af:Option Addr) (cf:Nat) (ad:Option Addr) (cd:Nat) (Z:Nat) (w:World) (h:yq w g o) (hs:oV w B o at_ ct af cf ad cd Z) (hn:kV o) (hz:0<=o.bss/\o.bss<=64)
  (hl:∀ y∈o.syms,y.name.length<=255) (hk:k < o.syms.length) :
  Calls Tryz.prog 89 #[.pointer (some ⟨g,0,none⟩),.slice (some ⟨B,0,none⟩) 5 5,.int .i64 k] w fun e w'=>yg e (Ky o k hk)/\w.grownBy w' none:=by
 obtain ⟨_,_,_,_,_,_,_,_,gF,cs,_,_,hb,-,-,-,-,h5,-⟩:=h.open;have hns:=hn.2.2.2.2.1;obtain ⟨sg,hao,hgs,hc⟩:=yI.aB h5 (by omega);subst hao;obtain ⟨q0,q1,q2,q3⟩:=hc k hk;have HC:=hid hc;have k5:=hb.cell 5;have HB:=hid hb;have HS:=hid hs;have hnl:=hl o.syms[k] (dM hk);have hlen:0<=kY o o.syms[k].ah/\kY o o.syms[k].ah<=65535:=by
  have:=yE hn o.syms[k].ah
  unfold kY; split <;> omega
 have S0:=hid (ye.new w #[.string (bs o.syms[k].name),.int .i64 o.syms[k].bind,.int .i64 o.syms[k].ah,.int .i64 o.syms[k].off] 77);have G0:=hid (aH w (.cells #[.string (bs o.syms[k].name),.int .i64 o.syms[k].bind,.int .i64 o.syms[k].ah,.int .i64 o.syms[k].off] 77) none);have cN:=hid (fun W=>yns (bs o.syms[k].name) W (by rw [uY]; omega));have HQ:=hid (show Ky o k hk↔(tq (bs o.syms[k].name)/\(0<=o.syms[k].bind/\o.syms[k].bind<=2)/\(0<=o.syms[k].ah/\o.syms[k].ah<=4)/\¬ (o.syms[k].ah=0/\o.syms[k].bind=0)/\0<=o.syms[k].off/\o.syms[k].off % 4=0/\o.syms[k].off<=4 * kY o o.syms[k].ah)/\¬ ∃ j,∃ hj:j < o.syms.length,j < k/\o.syms[j].name=o.syms[k].name from Iff.rfl)
 have g1:(k:Int) < (o.syms.length:Int):=by omega
 clear h hs h5 hb hc hn hl;generalize Ky o k hk=Q at *;go_enter Tryz.func89,Tryz.ntmps89;go_wp2_with fail;refine (cN.o _).mono ?_;rintro e w1 ⟨t,hw1⟩;subst hw1;have s1:=S0.o.cell 1;have s2:=S0.o.cell 2;have s3:=S0.o.cell 3;rcases t.split with ⟨rfl,p1⟩ | ⟨rfl,p1⟩ <;> clear t
 ·go_wp2;go_ret;exact ⟨yg.no (fun hq=>p1.o (HQ.o.1 hq).1.1),G0.o⟩
 have no:Hd (∀ W,(¬ Q)->w.grownBy W none->yg (.returned (.bool false)) Q/\w.grownBy W none):=fun W a b=>⟨yg.no a,b⟩
 generalize hbd:o.syms[k].bind=bind at *;generalize hsc:o.syms[k].ah=ah at *;generalize hof:o.syms[k].off=off at *;have HY:=hid (show o.syms[k].bind=bind/\o.syms[k].ah=ah/\o.syms[k].off=off from ⟨hbd,hsc,hof⟩);clear hbd hsc hof;by_cases r1:bind < 0
 ·have d:decide (bind < 0)=true:=by simp; omega
  go_wp2;go_ret;exact no.o _ (fun hq=>by have:=(HQ.o.1 hq).1.2.1.1; omega) G0.o
 have d1:decide (bind < 0)=false:=by simp; omega
 by_cases r2:2 < bind
 ·have d:decide (2 < bind)=true:=by simp; omega
  go_wp2;go_ret;exact no.o _ (fun hq=>by have:=(HQ.o.1 hq).1.2.1.2; omega) G0.o
 have d2:decide (2 < bind)=false:=by simp; omega
 by_cases r3:ah < 0
 ·have d:decide (ah < 0)=true:=by simp; omega
  go_wp2;go_ret;exact no.o _ (fun hq=>by have:=(HQ.o.1 hq).1.2.2.1.1; omega) G0.o
 have d3:decide (ah < 0)=false:=by simp; omega
 by_cases r4:4 < ah
 ·have d:decide (4 < ah)=true:=by simp; omega
  go_wp2;go_ret;exact no.o _ (fun hq=>by have:=(HQ.o.1 hq).1.2.2.1.2; omega) G0.o
 have d4:decide (4 < ah)=false:=by simp; omega
 by_cases r6:off < 0
 ·have d:decide (off < 0)=true:=by simp; omega
  go_wp2;go_ret;exact no.o _ (fun hq=>by have:=(HQ.o.1 hq).1.2.2.2.2.1; omega) G0.o
 have d6:decide (off < 0)=false:=by simp; omega
 have Wp:0<=off:=by omega
 by_cases r7:off % 4=0
 rotate_left
 ·have d:(off % 4 == 0)=false:=beq_eq_false_iff_ne.2 r7;have R7:=hid r7;clear r7;go_wp2;go_ret;exact no.o _ (fun hq=>R7.o (HQ.o.1 hq).1.2.2.2.2.2.1) G0.o
 have d7:(off % 4 == 0)=true:=beq_iff_eq.2 r7;have R7:=hid r7;clear r7;obtain ⟨n,hsn⟩:=Int.eq_ofNat_of_zero_le (show 0<=ah from by omega);have JG:n<=4:=by omega
 obtain ⟨ao,L,cap,hcl,hL⟩:=(HS.o.grown (G0.o)).len hz.1 n JG;subst hsn;have hL2:kY o (n:Int)=(L:Int):=hL.symm;have HL2:=hid hL2;rw [hL2] at hlen;have hLs:L<=65535:=by omega
 clear hL hL2 hlen;have hwl:IntKind.i64.wrap (4 * (L:Int))=4 * (L:Int):=IntWalk.i64_in _ ⟨by omega,by omega⟩;have hn5:n < 5:=by omega
 by_cases r8:4 * (L:Int) < off
 ·have e1:decide (4 * (L:Int) < off)=true:=by simp; omega
  go_wp2
  go_quiet (fail)
  go_wp2;go_ret;exact no.o _ (fun hq=>by have:=(HQ.o.1 hq).1.2.2.2.2.2.2; rw [HL2.o] at this; omega) (yd G0.o _)
 have e8:decide (4 * (L:Int) < off)=false:=by simp; omega
 by_cases r5:n=0/\bind=0
 ·obtain ⟨r5a,r5b⟩:=r5;have x1:(n:Int)<=0:=by omega
  have x2:bind<=0:=by omega
  have x3:(((n:Int)) == 0)=true:=by simp; omega
  have x4:(bind == 0)=true:=by simp; omega
  have R5:=hid (show (n:Int)=0/\bind=0 from by omega);clear r5a r5b;go_wp2
  go_quiet (fail)
  go_wp2;go_ret;exact no.o _ (fun hq=>(HQ.o.1 hq).1.2.2.2.1 R5.o) (yd G0.o _)
 have R5:=hid (show ¬ ((n:Int)=0/\bind=0) from fun h=>r5 ⟨by omega,h.2⟩);have HP:=hid (show tq (bs o.syms[k].name)/\(0<=bind/\bind<=2)/\(0<=(n:Int)/\(n:Int)<=4)/\¬ ((n:Int)=0/\bind=0)/\0<=off/\off % 4=0/\off<=4 * kY o n from ⟨p1.o,⟨by omega,by omega⟩,⟨by omega,by omega⟩,R5.o,by omega,R7.o,by rw [HL2.o]; omega⟩);rcases (show (((n:Int) == 0)=false)\/((((n:Int)) == 0)=true/\(bind == 0)=false) from by
   by_cases hh:n=0
   ·exact Or.inr ⟨by simp [hh],by simp; omega⟩
   ·exact Or.inl (by simp; omega)) with x3 | ⟨x3,x4⟩ <;> clear r5
 all_goals
  go_wp2
  go_quiet (fail)
  go_wp2
  go_loopw [9] (fun i wr=>∃ j:Nat,j<=k/\i = .int .i64 j/\(∀ a (ha:a < o.syms.length),a < j->¬ o.syms[a].name=o.syms[k].name)/\w.grownBy wr none/\wr.cell? ⟨w.heap.size,0,none⟩=some (.string (bs o.syms[k].name))) (fun i _=>k - (intOf i).toNat)
  case atStart=>exact ⟨0,Nat.zero_le _,rfl,fun j _ hj=>absurd hj (Nat.not_lt_zero j),yd G0.o _,by simp⟩
  case round =>
   obtain ⟨j,hj,rfl,hall,hgr,hc0⟩:=hrel;have HA:=hid hall;have HG:=hid hgr;clear hall hgr;by_cases hlt:j < k
   ·have hb5:=(HB.o.grown HG.o (by simp)).cell 5;have hjl:j < o.syms.length:=by omega
    have hq0:=yc (HC.o j hjl).1 HG.o;have g2:(j:Int) < (k:Int):=by omega
    have g3:(j:Int) < (o.syms.length:Int):=by omega
    by_cases hnm:o.syms[j].name=o.syms[k].name
    ·have dn:((bs o.syms[j].name).toList == (bs o.syms[k].name).toList)=true:=by rw [hnm]; simp
     have HN:=hid hnm;clear hnm;go_wp2
     go_quiet (fail)
     go_wp2;go_ret;exact no.o _ (fun hq=>(HQ.o.1 hq).2 ⟨j,hjl,hlt,HN.o⟩) (yd HG.o _)
    ·have dn:((bs o.syms[j].name).toList == (bs o.syms[k].name).toList)=false:=by rw [qO,qO]; simpa using hnm
     have HN:=hid hnm;clear hnm;go_wp2
     go_quiet (fail)
     go_wp2
     all_goals first
      | (refine ⟨⟨j+1,by omega,by go_num,fun a ha hak=>(Nat.lt_succ_iff_lt_or_eq.1 hak).elim (fun h=>HA.o a ha h) (fun h=>by subst h; exact HN.o),yd HG.o _,hc0⟩,?_⟩; simp [intOf]; omega)
      | (go_roundw; all_goals first | (case rel=>exact ⟨j+1,by omega,by go_num,fun a ha hak=>(Nat.lt_succ_iff_lt_or_eq.1 hak).elim (fun h=>HA.o a ha h) (fun h=>by subst h; exact HN.o),yd HG.o _,hc0⟩) | (case measure=>simp [intOf]; omega))
   ·go_wp2;go_ret;exact ⟨yg.yes (HQ.o.2 ⟨HP.o,fun ⟨a,ha,hak,e⟩=>HA.o a ha (by omega) e⟩),HG.o⟩
theorem Zj (v:Int) (j:Nat) (w:World) (hv:0<=v) (hv':v<=4294967295) (hj:j<=31) :
  Calls Tryz.prog 116 #[.int .i64 v,.int .i64 j] w fun e w'=>e = .returned (.int .i64 (v / 2 ^ j % 2))/\w'=w:=by
 go_enter Tryz.func116,Tryz.ntmps116;go_wp2;go_ret;have h2:(0:Int) < 2 ^ j:=Int.pow_pos (by decide);have a:0<=v / 2 ^ j:=Int.ediv_nonneg hv (Int.le_of_lt h2);have b:v / 2 ^ j<=v:=Int.ediv_le_self _ hv;refine ⟨?_,rfl⟩;rw [<- low (v / 2 ^ j) 1 (by decide) 1 2 rfl rfl a (by omega)];rfl
def oZ (form:Int):Int:=if form=1 then 85 else if form=2 then 74 else if form=3 then 73 else if form=4 then 66 else if form=5 then 83 else if form=6 then 82 else 69
def qV (form:Int):Nat:=if form=1 then 20 else if form=2 then 21 else if form=4 then 13 else 12
theorem ynW (form:Int) (w:World) (hf:1<=form/\form<=7) :
  Calls Tryz.prog 117 #[.int .u8 (oZ form)] w fun e w'=>e = .returned (.int .i64 (qV form))/\w'=w:=by
 rcases (show form=1\/form=2\/form=3\/form=4\/form=5\/form=6\/form=7 from by omega) with rfl | rfl | rfl | rfl | rfl | rfl | rfl
 all_goals
  clear hf;simp only [oZ,qV,Int.reduceEq,if_true,if_false];go_enter Tryz.func117,Tryz.ntmps117;go_wp2;go_ret;exact ⟨rfl,rfl⟩
end Go.Proofs.YtelehpmjhjljgaaGreatDoor
