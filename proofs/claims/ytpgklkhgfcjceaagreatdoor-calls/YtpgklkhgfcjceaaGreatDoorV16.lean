
import Derived.Test.YtpgklkhgfcjceaaGreatDoorV15
set_option maxHeartbeats 16000000
namespace Go.Proofs.YtpgklkhgfcjceaaGreatDoor
open Go.RowKit
theorem Qr (n:Int):bits .and .i64 n 1=((n % 2).toNat:Int):=by
 have h1:(BitVec.ofInt 64 1).toNat=2 ^ 1 - 1:=by decide
 have key:(BitVec.ofInt 64 n &&& BitVec.ofInt 64 1).toNat=(n % ((2 ^ 64:Nat):Int)).toNat % 2 ^ 1:=by
  rw [BitVec.toNat_and,BitVec.toNat_ofInt,h1,Nat.and_two_pow_sub_one_eq_mod]
 show IntKind.i64.wrap ((BitVec.ofInt 64 n &&& BitVec.ofInt 64 1).toNat:Nat)=_
 rw [key,IntKind.wrap_i64]
 omega
theorem yre (n:Int):bits .and .i64 n 15=((n % 16).toNat:Int):=by
 have h1:(BitVec.ofInt 64 15).toNat=2 ^ 4 - 1:=by decide
 have key:(BitVec.ofInt 64 n &&& BitVec.ofInt 64 15).toNat=(n % ((2 ^ 64:Nat):Int)).toNat % 2 ^ 4:=by
  rw [BitVec.toNat_and,BitVec.toNat_ofInt,h1,Nat.and_two_pow_sub_one_eq_mod]
 show IntKind.i64.wrap ((BitVec.ofInt 64 n &&& BitVec.ofInt 64 15).toNat:Nat)=_
 rw [key,IntKind.wrap_i64]
 omega
theorem yrf (n:Int):bits .and .i64 n 31=((n % 32).toNat:Int):=by
 have h1:(BitVec.ofInt 64 31).toNat=2 ^ 5 - 1:=by decide
 have key:(BitVec.ofInt 64 n &&& BitVec.ofInt 64 31).toNat=(n % ((2 ^ 64:Nat):Int)).toNat % 2 ^ 5:=by
  rw [BitVec.toNat_and,BitVec.toNat_ofInt,h1,Nat.and_two_pow_sub_one_eq_mod]
 show IntKind.i64.wrap ((BitVec.ofInt 64 n &&& BitVec.ofInt 64 31).toNat:Nat)=_
 rw [key,IntKind.wrap_i64]
 omega
theorem yrg (n:Int):bits .and .i64 n 63=((n % 64).toNat:Int):=by
 have h1:(BitVec.ofInt 64 63).toNat=2 ^ 6 - 1:=by decide
 have key:(BitVec.ofInt 64 n &&& BitVec.ofInt 64 63).toNat=(n % ((2 ^ 64:Nat):Int)).toNat % 2 ^ 6:=by
  rw [BitVec.toNat_and,BitVec.toNat_ofInt,h1,Nat.and_two_pow_sub_one_eq_mod]
 show IntKind.i64.wrap ((BitVec.ofInt 64 n &&& BitVec.ofInt 64 63).toNat:Nat)=_
 rw [key,IntKind.wrap_i64]
 omega
theorem yrh (n:Int):bits .and .i64 n 127=((n % 128).toNat:Int):=by
 have h1:(BitVec.ofInt 64 127).toNat=2 ^ 7 - 1:=by decide
 have key:(BitVec.ofInt 64 n &&& BitVec.ofInt 64 127).toNat=(n % ((2 ^ 64:Nat):Int)).toNat % 2 ^ 7:=by
  rw [BitVec.toNat_and,BitVec.toNat_ofInt,h1,Nat.and_two_pow_sub_one_eq_mod]
 show IntKind.i64.wrap ((BitVec.ofInt 64 n &&& BitVec.ofInt 64 127).toNat:Nat)=_
 rw [key,IntKind.wrap_i64]
 omega
theorem yri (n:Int):bits .and .i64 n 255=((n % 256).toNat:Int):=by
 have h1:(BitVec.ofInt 64 255).toNat=2 ^ 8 - 1:=by decide
 have key:(BitVec.ofInt 64 n &&& BitVec.ofInt 64 255).toNat=(n % ((2 ^ 64:Nat):Int)).toNat % 2 ^ 8:=by
  rw [BitVec.toNat_and,BitVec.toNat_ofInt,h1,Nat.and_two_pow_sub_one_eq_mod]
 show IntKind.i64.wrap ((BitVec.ofInt 64 n &&& BitVec.ofInt 64 255).toNat:Nat)=_
 rw [key,IntKind.wrap_i64]
 omega
theorem yql (n:Int):bits .and .i64 n 1023=((n % 1024).toNat:Int):=by
 have h1:(BitVec.ofInt 64 1023).toNat=2 ^ 10 - 1:=by decide
 have key:(BitVec.ofInt 64 n &&& BitVec.ofInt 64 1023).toNat=(n % ((2 ^ 64:Nat):Int)).toNat % 2 ^ 10:=by
  rw [BitVec.toNat_and,BitVec.toNat_ofInt,h1,Nat.and_two_pow_sub_one_eq_mod]
 show IntKind.i64.wrap ((BitVec.ofInt 64 n &&& BitVec.ofInt 64 1023).toNat:Nat)=_
 rw [key,IntKind.wrap_i64]
 omega
theorem Wh (n:Int):bits .and .i64 n 4095=((n % 4096).toNat:Int):=by
 have h1:(BitVec.ofInt 64 4095).toNat=2 ^ 12 - 1:=by decide
 have key:(BitVec.ofInt 64 n &&& BitVec.ofInt 64 4095).toNat=(n % ((2 ^ 64:Nat):Int)).toNat % 2 ^ 12:=by
  rw [BitVec.toNat_and,BitVec.toNat_ofInt,h1,Nat.and_two_pow_sub_one_eq_mod]
 show IntKind.i64.wrap ((BitVec.ofInt 64 n &&& BitVec.ofInt 64 4095).toNat:Nat)=_
 rw [key,IntKind.wrap_i64]
 omega
theorem Qe (n:Int):bits .and .i64 n 1048575=((n % 1048576).toNat:Int):=by
 have h1:(BitVec.ofInt 64 1048575).toNat=2 ^ 20 - 1:=by decide
 have key:(BitVec.ofInt 64 n &&& BitVec.ofInt 64 1048575).toNat=(n % ((2 ^ 64:Nat):Int)).toNat % 2 ^ 20:=by
  rw [BitVec.toNat_and,BitVec.toNat_ofInt,h1,Nat.and_two_pow_sub_one_eq_mod]
 show IntKind.i64.wrap ((BitVec.ofInt 64 n &&& BitVec.ofInt 64 1048575).toNat:Nat)=_
 rw [key,IntKind.wrap_i64]
 omega
theorem ypY (a:Nat) (h:a < 9223372036854775808):wrap64 (a:Int)=(a:Int):=IntWalk.wrap64_in _ ⟨by omega,by omega⟩
theorem oh (n:Int) (low count:Nat):As.dQ n low count < 2 ^ count:=by
 unfold As.dQ
 have h:=Int.emod_lt_of_pos (n / (2:Int) ^ low) (show (0:Int) < (2:Int) ^ count from Int.pow_pos (by decide))
 have h2:=Int.emod_nonneg (n / (2:Int) ^ low) (show (2:Int) ^ count≠0 from Int.ne_of_gt (Int.pow_pos (by decide)))
 have e:((2 ^ count:Nat):Int)=(2:Int) ^ count:=by simp
 omega
theorem yoV (n:Int):bits .and .i64 n 1048575=(As.dQ n 0 20:Int):=by rw [Qe]; unfold As.dQ; simp
theorem Wp (n:Int):As.dQ n 0 20 < 1048576:=oh n 0 20
theorem yoZ (n:Int):bits .and .i64 (n / 1048576) 1=(As.dQ n 20 1:Int):=by rw [Qr]; unfold As.dQ; simp
theorem Wu (n:Int):As.dQ n 20 1 < 2:=oh n 20 1
theorem yoY (n:Int):bits .and .i64 (n / 2) 1023=(As.dQ n 1 10:Int):=by rw [yql]; unfold As.dQ; simp
theorem Wt (n:Int):As.dQ n 1 10 < 1024:=oh n 1 10
theorem VA (n:Int):bits .and .i64 (n / 2048) 1=(As.dQ n 11 1:Int):=by rw [Qr]; unfold As.dQ; simp
theorem Qk (n:Int):As.dQ n 11 1 < 2:=oh n 11 1
theorem yoX (n:Int):bits .and .i64 (n / 4096) 255=(As.dQ n 12 8:Int):=by rw [yri]; unfold As.dQ; simp
theorem Ws (n:Int):As.dQ n 12 8 < 256:=oh n 12 8
theorem yoU (n:Int):bits .and .i64 n 4095=(As.dQ n 0 12:Int):=by rw [Wh]; unfold As.dQ; simp
theorem Wo (n:Int):As.dQ n 0 12 < 4096:=oh n 0 12
theorem yoW (n:Int):bits .and .i64 (n / 4096) 1=(As.dQ n 12 1:Int):=by rw [Qr]; unfold As.dQ; simp
theorem Wq (n:Int):As.dQ n 12 1 < 2:=oh n 12 1
theorem yqI (n:Int):bits .and .i64 (n / 32) 63=(As.dQ n 5 6:Int):=by rw [yrg]; unfold As.dQ; simp
theorem WQ (n:Int):As.dQ n 5 6 < 64:=oh n 5 6
theorem yqH (n:Int):bits .and .i64 (n / 2) 15=(As.dQ n 1 4:Int):=by rw [yre]; unfold As.dQ; simp
theorem WO (n:Int):As.dQ n 1 4 < 16:=oh n 1 4
theorem yqJ (n:Int):bits .and .i64 (n / 32) 127=(As.dQ n 5 7:Int):=by rw [yrh]; unfold As.dQ; simp
theorem WR (n:Int):As.dQ n 5 7 < 128:=oh n 5 7
theorem Wm (n:Int):bits .and .i64 n 31=(As.dQ n 0 5:Int):=by rw [yrf]; unfold As.dQ; simp
theorem Qo (n:Int):As.dQ n 0 5 < 32:=oh n 0 5
theorem yrP (a m:Nat) (h:a * m < 9223372036854775808):wrap64 ((a:Int) * (m:Int))=((a * m:Nat):Int):=by
 rw [<- Int.natCast_mul]
 exact ypY _ h
theorem wZ (a m:Nat) (M:Int) (hM:M=(m:Int)) (h:a * m < 9223372036854775808):wrap64 ((a:Int) * M)=((a * m:Nat):Int):=by
 rw [hM]; exact yrP a m h
theorem Zn (form:Nat) (n:Int) (w:World) (hf:1<=form/\form<=7) :
  Calls Tryz.prog 217 #[.int .i64 form,.int .i64 n] w fun e w'=>e = .returned (.int .i64 (As.place' form n:Nat))/\w'=w:=by
 rcases (show form=1\/form=2\/form=3\/form=4\/form=5\/form=6\/form=7 from by omega) with rfl | rfl | rfl | rfl | rfl | rfl | rfl
 ·have E:=hid (show wrap64 (bits .and .i64 n 1048575 * 4096)=((As.place' 1 n:Nat):Int) from by
   have a:=Wp n
   rw [yoV,wZ _ 4096 4096 rfl (by omega)]; unfold As.place'; rw [if_pos rfl])
  go_enter Tryz.func217,Tryz.ntmps217
  go_wp2
  go_ret
  exact ⟨yC E.o,rfl⟩
 ·have E:=hid (show bits .or .i64 (bits .or .i64 (bits .or .i64 (wrap64 (bits .and .i64 (n / 1048576) 1 * 2147483648)) (wrap64 (bits .and .i64 (n / 2) 1023 * 2097152))) (wrap64 (bits .and .i64 (n / 2048) 1 * 1048576))) (wrap64 (bits .and .i64 (n / 4096) 255 * 4096))=((As.place' 2 n:Nat):Int) from by
   have a:=Wu n
   have b:=Wt n
   have c:=Qk n
   have d:=Ws n
   have x1:As.dQ n 20 1 * 2147483648 ||| As.dQ n 1 10 * 2097152 < 2 ^ 33:=Nat.or_lt_two_pow (by omega) (by omega)
   have x2:As.dQ n 20 1 * 2147483648 ||| As.dQ n 1 10 * 2097152 ||| As.dQ n 11 1 * 1048576 < 2 ^ 33:=Nat.or_lt_two_pow x1 (by omega)
   rw [yoZ,yoY,VA,yoX,wZ _ 2147483648 2147483648 rfl (by omega),wZ _ 2097152 2097152 rfl (by omega),wZ _ 1048576 1048576 rfl (by omega),wZ _ 4096 4096 rfl (by omega),xC _ _ (by omega) (by omega),xC _ _ (by omega) (by omega),xC _ _ (by omega) (by omega)]; unfold As.place'; rw [if_neg (by decide),if_pos rfl])
  go_enter Tryz.func217,Tryz.ntmps217
  go_wp2
  go_ret
  exact ⟨yC E.o,rfl⟩
 ·have E:=hid (show wrap64 (bits .and .i64 n 4095 * 1048576)=((As.place' 3 n:Nat):Int) from by
   have a:=Wo n
   rw [yoU,wZ _ 1048576 1048576 rfl (by omega)]; unfold As.place'; rw [if_neg (by decide),if_neg (by decide),if_pos rfl])
  go_enter Tryz.func217,Tryz.ntmps217
  go_wp2
  go_ret
  exact ⟨yC E.o,rfl⟩
 ·have E:=hid (show bits .or .i64 (bits .or .i64 (bits .or .i64 (wrap64 (bits .and .i64 (n / 4096) 1 * 2147483648)) (wrap64 (bits .and .i64 (n / 32) 63 * 33554432))) (wrap64 (bits .and .i64 (n / 2) 15 * 256))) (wrap64 (bits .and .i64 (n / 2048) 1 * 128))=((As.place' 4 n:Nat):Int) from by
   have a:=Wq n
   have b:=WQ n
   have c:=WO n
   have d:=Qk n
   have x1:As.dQ n 12 1 * 2147483648 ||| As.dQ n 5 6 * 33554432 < 2 ^ 33:=Nat.or_lt_two_pow (by omega) (by omega)
   have x2:As.dQ n 12 1 * 2147483648 ||| As.dQ n 5 6 * 33554432 ||| As.dQ n 1 4 * 256 < 2 ^ 33:=Nat.or_lt_two_pow x1 (by omega)
   rw [yoW,yqI,yqH,VA,wZ _ 2147483648 2147483648 rfl (by omega),wZ _ 33554432 33554432 rfl (by omega),wZ _ 256 256 rfl (by omega),wZ _ 128 128 rfl (by omega),xC _ _ (by omega) (by omega),xC _ _ (by omega) (by omega),xC _ _ (by omega) (by omega)]; unfold As.place'; rw [if_neg (by decide),if_neg (by decide),if_neg (by decide),if_pos rfl])
  go_enter Tryz.func217,Tryz.ntmps217
  go_wp2
  go_ret
  exact ⟨yC E.o,rfl⟩
 ·have E:=hid (show bits .or .i64 (wrap64 (bits .and .i64 (n / 32) 127 * 33554432)) (wrap64 (bits .and .i64 n 31 * 128))=((As.place' 5 n:Nat):Int) from by
   have a:=WR n
   have b:=Qo n
   rw [yqJ,Wm,wZ _ 33554432 33554432 rfl (by omega),wZ _ 128 128 rfl (by omega),xC _ _ (by omega) (by omega)]; unfold As.place'; rw [if_neg (by decide),if_neg (by decide),if_neg (by decide),if_neg (by decide),if_pos rfl])
  go_enter Tryz.func217,Tryz.ntmps217
  go_wp2
  go_ret
  exact ⟨yC E.o,rfl⟩
 ·go_enter Tryz.func217,Tryz.ntmps217
  go_wp2
  go_ret
  exact ⟨rfl,rfl⟩
 ·go_enter Tryz.func217,Tryz.ntmps217
  go_wp2
  go_ret
  exact ⟨rfl,rfl⟩
theorem ypE (form:Nat) (n:Int):As.place' form n < 2 ^ 33:=by
 have a1:=Wp n
 have a2:=Wu n
 have a3:=Wt n
 have a4:=Qk n
 have a5:=Ws n
 have a6:=Wo n
 have a7:=Wq n
 have a8:=WQ n
 have a9:=WO n
 have RH:=WR n
 have RJ:=Qo n
 unfold As.place'
 repeat' split
 ·omega
 ·exact Nat.or_lt_two_pow (Nat.or_lt_two_pow (Nat.or_lt_two_pow (by omega) (by omega)) (by omega)) (by omega)
 ·omega
 ·exact Nat.or_lt_two_pow (Nat.or_lt_two_pow (Nat.or_lt_two_pow (by omega) (by omega)) (by omega)) (by omega)
 ·exact Nat.or_lt_two_pow (by omega) (by omega)
 ·omega
theorem Vl (k:Nat) (h:k<=25):sj.getD k 0=((As.forms.getD k 0:Nat):Int):=by
 rcases (show k=0\/k=1\/k=2\/k=3\/k=4\/k=5\/k=6\/k=7\/k=8\/k=9\/k=10\/k=11\/k=12\/k=13\/k=14\/k=15\/k=16\/k=17\/k=18\/k=19\/k=20\/k=21\/k=22\/k=23\/k=24\/k=25 by omega) with rfl | rfl | rfl | rfl | rfl | rfl | rfl | rfl | rfl | rfl | rfl | rfl | rfl | rfl | rfl | rfl | rfl | rfl | rfl | rfl | rfl | rfl | rfl | rfl | rfl | rfl <;> rfl
theorem yoE (k:Nat) (h:k<=25):Bo.getD k 0=((As.jg.getD k 0:Nat):Int):=by
 rcases (show k=0\/k=1\/k=2\/k=3\/k=4\/k=5\/k=6\/k=7\/k=8\/k=9\/k=10\/k=11\/k=12\/k=13\/k=14\/k=15\/k=16\/k=17\/k=18\/k=19\/k=20\/k=21\/k=22\/k=23\/k=24\/k=25 by omega) with rfl | rfl | rfl | rfl | rfl | rfl | rfl | rfl | rfl | rfl | rfl | rfl | rfl | rfl | rfl | rfl | rfl | rfl | rfl | rfl | rfl | rfl | rfl | rfl | rfl | rfl <;> rfl
theorem yoS (k:Nat) (h:k<=25):As.jg.getD k 0 < 2147483648:=by
 rcases (show k=0\/k=1\/k=2\/k=3\/k=4\/k=5\/k=6\/k=7\/k=8\/k=9\/k=10\/k=11\/k=12\/k=13\/k=14\/k=15\/k=16\/k=17\/k=18\/k=19\/k=20\/k=21\/k=22\/k=23\/k=24\/k=25 by omega) with rfl | rfl | rfl | rfl | rfl | rfl | rfl | rfl | rfl | rfl | rfl | rfl | rfl | rfl | rfl | rfl | rfl | rfl | rfl | rfl | rfl | rfl | rfl | rfl | rfl | rfl <;> decide
theorem yqK (k:Nat) (h:1<=k) (h2:k<=25):1<=As.forms.getD k 0/\As.forms.getD k 0<=7:=by
 have:=OX k h h2
 rw [Vl k h2] at this
 omega
theorem Xl (a b:Nat) (ha:a < 2 ^ 40) (hb:b < 2 ^ 40):a ||| b < 2 ^ 40:=Nat.or_lt_two_pow ha hb
theorem Ap (a:Nat) (r:Nat) (m:Nat) (M:Int) (hM:M=(m:Int)) (ha:a < 2 ^ 40) (hm:m<=1048576):bits .or .i64 (a:Int) (wrap64 (bits .and .i64 (r:Int) 31 * M))=((a ||| As.dQ r 0 5 * m:Nat):Int)/\a ||| As.dQ r 0 5 * m < 2 ^ 40:=by
 have h:=Qo (r:Int)
 have h2:As.dQ r 0 5 * m<=31 * 1048576:=Nat.mul_le_mul (by omega) hm
 rw [Wm,wZ _ m M hM (by omega),xC _ _ (by omega) (by omega)]
 exact ⟨rfl,Xl _ _ ha (by omega)⟩
def qh (op rd au aC:Nat) (n:Int):Value:=.agg #[.int .i64 op,.int .i64 rd,.int .i64 au,.int .i64 aC,.int .i64 n]
set_option maxRecDepth 100000 in
theorem vO (op rd au aC:Nat) (n:Int) (w:World) (ht:dz w) (h1:1<=op) (h2:op<=25) :
  Calls Tryz.prog 194 #[qh op rd au aC n] w fun e w'=>e = .returned (.int .i64 (As.enc op rd au aC n:Nat))/\w.grownBy w' none:=by
 have G:=hid (fun o:Obj=>aH w o none)
 have t1:=ht.form op (by omega)
 have t2:=ht.fix op (by omega)
 have hs1:0 < w.heap.size:=World.block_lt_of_cell? w ⟨0,op,none⟩ t1
 have hs2:1 < w.heap.size:=World.block_lt_of_cell? w ⟨1,op,none⟩ t2
 rw [Vl op h2] at t1
 rw [yoE op h2] at t2
 have hx:=yoS op h2
 have hf:=yqK op h1 h2
 have EN:=hid (show As.enc op rd au aC n=As.jT (As.forms.getD op 0) (As.jg.getD op 0) rd au aC n from rfl)
 generalize As.forms.getD op 0=form at *
 generalize As.jg.getD op 0=x at *
 generalize As.enc op rd au aC n=R at *
 have hpl:=ypE form n
 have cP:=hid (fun W=>Zn form n W hf)
 have PW:=hid (show bits .or .i64 (x:Int) (As.place' form n:Nat)=((x ||| As.place' form n:Nat):Int)/\x ||| As.place' form n < 2 ^ 40 from ⟨xC _ _ (by omega) (by omega),Xl _ _ (by omega) (by omega)⟩)
 have e0:(1:Int)<=(op:Int):=by omega
 have e1:(op:Int)<=25:=by omega
 have b1:decide ((op:Int) < 1)=false:=by simp; omega
 have b2:decide ((25:Int) < (op:Int))=false:=by simp; omega
 clear ht h1 h2
 unfold qh
 rcases (show form=1\/form=2\/form=3\/form=4\/form=5\/form=6\/form=7 from by omega) with rfl | rfl | rfl | rfl | rfl | rfl | rfl
 ·have vW:=hid (show R=As.jT 1 x rd au aC n from EN.o)
  generalize hpn:As.place' 1 n=pn at *
  have vY:=hid hpn
  clear hpn
  go_enter Tryz.func194,Tryz.ntmps194
  go_wp2
  go_quiet ((go_at_call 217; exact Calls.quiet_of_same (cP.o _)))
  go_wp2
  go_ret
  refine ⟨yC ?_,ye (G.o _) _⟩
  rw [vW.o]
  unfold As.jT
  rw [vY.o]
  simp only []
  rw [if_pos (show As.jV 1=true from rfl),if_neg (show ¬ As.iU 1=true by decide),if_neg (show ¬ As.jB 1=true by decide)]
  rw [PW.o.1]
  have s1:=Ap (x ||| pn) rd 128 128 rfl PW.o.2 (by omega)
  rw [s1.1]
 ·have vW:=hid (show R=As.jT 2 x rd au aC n from EN.o)
  generalize hpn:As.place' 2 n=pn at *
  have vY:=hid hpn
  clear hpn
  go_enter Tryz.func194,Tryz.ntmps194
  go_wp2
  go_quiet ((go_at_call 217; exact Calls.quiet_of_same (cP.o _)))
  go_wp2
  go_ret
  refine ⟨yC ?_,ye (G.o _) _⟩
  rw [vW.o]
  unfold As.jT
  rw [vY.o]
  simp only []
  rw [if_pos (show As.jV 2=true from rfl),if_neg (show ¬ As.iU 2=true by decide),if_neg (show ¬ As.jB 2=true by decide)]
  rw [PW.o.1]
  have s1:=Ap (x ||| pn) rd 128 128 rfl PW.o.2 (by omega)
  rw [s1.1]
 ·have vW:=hid (show R=As.jT 3 x rd au aC n from EN.o)
  generalize hpn:As.place' 3 n=pn at *
  have vY:=hid hpn
  clear hpn
  go_enter Tryz.func194,Tryz.ntmps194
  go_wp2
  go_quiet ((go_at_call 217; exact Calls.quiet_of_same (cP.o _)))
  go_wp2
  go_ret
  refine ⟨yC ?_,ye (G.o _) _⟩
  rw [vW.o]
  unfold As.jT
  rw [vY.o]
  simp only []
  rw [if_pos (show As.jV 3=true from rfl),if_pos (show As.iU 3=true from rfl),if_neg (show ¬ As.jB 3=true by decide)]
  rw [PW.o.1]
  have s1:=Ap (x ||| pn) rd 128 128 rfl PW.o.2 (by omega)
  rw [s1.1]
  have s2:=Ap ((x ||| pn) ||| As.dQ rd 0 5 * 128) au 32768 32768 rfl s1.2 (by omega)
  rw [s2.1]
 ·have vW:=hid (show R=As.jT 4 x rd au aC n from EN.o)
  generalize hpn:As.place' 4 n=pn at *
  have vY:=hid hpn
  clear hpn
  go_enter Tryz.func194,Tryz.ntmps194
  go_wp2
  go_quiet ((go_at_call 217; exact Calls.quiet_of_same (cP.o _)))
  go_wp2
  go_ret
  refine ⟨yC ?_,ye (G.o _) _⟩
  rw [vW.o]
  unfold As.jT
  rw [vY.o]
  simp only []
  rw [if_neg (show ¬ As.jV 4=true by decide),if_pos (show As.iU 4=true from rfl),if_pos (show As.jB 4=true from rfl)]
  rw [PW.o.1]
  have s1:=Ap (x ||| pn) au 32768 32768 rfl PW.o.2 (by omega)
  rw [s1.1]
  have s2:=Ap ((x ||| pn) ||| As.dQ au 0 5 * 32768) aC 1048576 1048576 rfl s1.2 (by omega)
  rw [s2.1]
 ·have vW:=hid (show R=As.jT 5 x rd au aC n from EN.o)
  generalize hpn:As.place' 5 n=pn at *
  have vY:=hid hpn
  clear hpn
  go_enter Tryz.func194,Tryz.ntmps194
  go_wp2
  go_quiet ((go_at_call 217; exact Calls.quiet_of_same (cP.o _)))
  go_wp2
  go_ret
  refine ⟨yC ?_,ye (G.o _) _⟩
  rw [vW.o]
  unfold As.jT
  rw [vY.o]
  simp only []
  rw [if_neg (show ¬ As.jV 5=true by decide),if_pos (show As.iU 5=true from rfl),if_pos (show As.jB 5=true from rfl)]
  rw [PW.o.1]
  have s1:=Ap (x ||| pn) au 32768 32768 rfl PW.o.2 (by omega)
  rw [s1.1]
  have s2:=Ap ((x ||| pn) ||| As.dQ au 0 5 * 32768) aC 1048576 1048576 rfl s1.2 (by omega)
  rw [s2.1]
 ·have vW:=hid (show R=As.jT 6 x rd au aC n from EN.o)
  generalize hpn:As.place' 6 n=pn at *
  have vY:=hid hpn
  clear hpn
  go_enter Tryz.func194,Tryz.ntmps194
  go_wp2
  go_quiet ((go_at_call 217; exact Calls.quiet_of_same (cP.o _)))
  go_wp2
  go_ret
  refine ⟨yC ?_,ye (G.o _) _⟩
  rw [vW.o]
  unfold As.jT
  rw [vY.o]
  simp only []
  rw [if_pos (show As.jV 6=true from rfl),if_pos (show As.iU 6=true from rfl),if_pos (show As.jB 6=true from rfl)]
  rw [PW.o.1]
  have s1:=Ap (x ||| pn) rd 128 128 rfl PW.o.2 (by omega)
  rw [s1.1]
  have s2:=Ap ((x ||| pn) ||| As.dQ rd 0 5 * 128) au 32768 32768 rfl s1.2 (by omega)
  rw [s2.1]
  have s3:=Ap (((x ||| pn) ||| As.dQ rd 0 5 * 128) ||| As.dQ au 0 5 * 32768) aC 1048576 1048576 rfl s2.2 (by omega)
  rw [s3.1]
 ·have vW:=hid (show R=As.jT 7 x rd au aC n from EN.o)
  generalize hpn:As.place' 7 n=pn at *
  have vY:=hid hpn
  clear hpn
  go_enter Tryz.func194,Tryz.ntmps194
  go_wp2
  go_quiet ((go_at_call 217; exact Calls.quiet_of_same (cP.o _)))
  go_wp2
  go_ret
  refine ⟨yC ?_,ye (G.o _) _⟩
  rw [vW.o]
  unfold As.jT
  rw [vY.o]
  simp only []
  rw [if_neg (show ¬ As.jV 7=true by decide),if_neg (show ¬ As.iU 7=true by decide),if_neg (show ¬ As.jB 7=true by decide)]
  rw [PW.o.1]
theorem Pj (v:Int) (w:World) (h0:-2147483648<=v) (h1:v<=2147483647) :
  Calls Tryz.prog 197 #[.int .i64 v] w fun e w'=>e = .returned (.tuple #[.int .i64 (As.eP v),.int .i64 (As.dI v)])/\w'=w:=by
 have a1:=Wh v
 have r1:0<=v % 4096/\v % 4096 < 4096:=by omega
 have e1:bits .and .i64 v 4095=v % 4096:=by rw [a1]; omega
 have HH:=hid (show As.eP v=(v - As.dI v) / 4096 % 1048576 from rfl)
 have Gs:=hid (show As.dI v=if v % 4096 < 2048 then v % 4096 else v % 4096 - 4096 from rfl)
 clear a1
 by_cases c:v % 4096 < 2048
 ·have EL:=hid (show As.dI v=v % 4096 by rw [Gs.o,if_pos c])
  have EH:=hid (show bits .and .i64 ((v - v % 4096) / 4096) 1048575=As.eP v by rw [Qe,HH.o,EL.o]; omega)
  generalize As.dI v=lo at *
  generalize As.eP v=hi at *
  go_enter Tryz.func197,Tryz.ntmps197
  go_wp2
  go_ret2
  exact ⟨by rw [EL.o,<- EH.o]; rfl,rfl⟩
 ·have EL:=hid (show As.dI v=v % 4096 - 4096 by rw [Gs.o,if_neg c])
  have EH:=hid (show bits .and .i64 ((v - (v % 4096 - 4096)) / 4096) 1048575=As.eP v by rw [Qe,HH.o,EL.o]; omega)
  generalize As.dI v=lo at *
  generalize As.eP v=hi at *
  go_enter Tryz.func197,Tryz.ntmps197
  go_wp2
  go_ret2
  exact ⟨by rw [EL.o,<- EH.o]; rfl,rfl⟩
theorem Kj (W:World) (x:Int):pU (W.alloc (.cells #[.int .i64 x] 3)) (some ⟨W.heap.size,0,none⟩) 1 [x] :=
 .inr ⟨W.heap.size,0,_,rfl,yc.new W _ _,fun i h=>by
  have:i=0:=by simp at h; omega
  subst this; rfl⟩
theorem Ic (W:World) (x y:Int):pU (W.alloc (.cells #[.int .i64 x,.int .i64 y] 3)) (some ⟨W.heap.size,0,none⟩) 2 [x,y] :=
 .inr ⟨W.heap.size,0,_,rfl,yc.new W _ _,fun i h=>by
  rcases (show i=0\/i=1 by simp at h; omega) with rfl | rfl <;> rfl⟩
set_option maxRecDepth 100000 in
theorem Ak (B:Nat) (s:ByteArray) (b g:Nat) (st:As.St) (op rd au aC:Nat) (n:Int) (W:World) (h:yl B s b g st W) (h1:1<=op) (h2:op<=25) :
  Calls Tryz.prog 188 #[.pointer (some ⟨b,0,none⟩),qh op rd au aC n] W fun en W'=>en = .returned (.tuple #[])/\Does B s b g W (As.dw op rd au aC n st) W':=by
 have HW:=hid h
 have cE:=hid (fun V (hV:dz V)=>vO op rd au aC n V hV h1 h2)
 clear h
 unfold qh As.dw at *
 generalize As.enc op rd au aC n=x at *
 go_enter Tryz.func188,Tryz.ntmps188
 go_wp2_with fail
 refine (cE.o _ (HW.o.does.alloc _).1.tabs).mono ?_
 rintro e V ⟨rfl,hg⟩
 have D:=hid ((HW.o.does.alloc _).grown hg)
 clear hg cE
 go_wp2_with fail
 refine (Gb B s b g st _ 1 [(x:Int)] _ (D.o.alloc _).1 (Kj V x) (by simp)).mono ?_
 rintro e V2 ⟨rfl,h2⟩
 have D2:=hid ((D.o.alloc _).after h2)
 clear h2
 go_wp2
 go_end0
 exact ⟨rfl,D2.o⟩
def Gl (op rd au aC:Nat) (n:Int):Array Value:=#[.int .i64 op,.int .i64 rd,.int .i64 au,.int .i64 aC,.int .i64 n]
set_option maxRecDepth 100000 in
theorem OT (B:Nat) (s:ByteArray) (b g:Nat) (st:As.St) (reg op rd au aC:Nat) (n:Int) (sym:Nat) (addend:Int) (W:World) (h:yl B s b g st W) (h1:1<=op) (h2:op<=25) :
  Calls Tryz.prog 192 #[.pointer (some ⟨b,0,none⟩),.int .i64 reg,qh op rd au aC n,.int .i64 sym,.int .i64 addend] W fun en W'=>en = .returned (.tuple #[])/\Does B s b g W (As.fq reg op rd au aC n sym addend st) W':=by
 have HW:=hid h
 have L0:=hid ((Loc.begin h).alloc (Gl op rd au aC n) 143)
 have hpos:=h.ok.op.pos
 have cE:=hid (fun V (hV:dz V)=>vO op rd au aC n V hV h1 h2)
 have KV:=hid (fun V (hV:dz V)=>vO 1 reg 0 0 0 V hV (by omega) (by omega))
 have hbl:=h.blk.lt
 have c10:=Mt h
 have RS:=hid (show As.fq reg op rd au aC n sym addend st=As.dS 5 sym addend [(As.enc 1 reg 0 0 0:Int),(As.enc op rd au aC n:Int)] (As.aW (reg == 0) 7 st.op.pos st) from rfl)
 generalize As.fq reg op rd au aC n sym addend st=X at *
 generalize As.enc op rd au aC n=x at *
 generalize As.enc 1 reg 0 0 0=y at *
 clear h
 unfold qh at *
 have hn1:b≠W.heap.size:=by omega
 cases hr:(reg == 0)
 ·have d:((reg:Int) == 0)=false:=by simp at hr ⊢; omega
  rw [hr] at RS
  have RF:=hid (show X=As.dS 5 sym addend [(y:Int),(x:Int)] st from RS.o)
  clear RS hr
  go_enter Tryz.func192,Tryz.ntmps192
  go_wp2_with fail
  refine Calls.aJ (Loc B s b g W [(W.heap.size,Gl op rd au aC n,143)] st) L0.o ?_
  clear L0 c10
  intro V0 Gy
  have L:=hid Gy
  clear Gy
  refine (KV.o _ L.o.d.1.tabs).mono ?_
  rintro e V2 ⟨rfl,hg⟩
  have L2:=hid (L.o.grown hg)
  clear hg L KV
  have Lr:=L2.o.l (W.heap.size,Gl op rd au aC n,143) (by simp)
  have m0:=Lr.cell 0
  have m1:=Lr.cell 1
  have m2:=Lr.cell 2
  have m3:=Lr.cell 3
  have m4:=Lr.cell 4
  simp only [Gl,bC,bG,bE] at m0 m1 m2 m3 m4
  clear Lr
  go_wp2_with fail
  refine (cE.o _ L2.o.d.1.tabs).mono ?_
  rintro e V3 ⟨rfl,hg⟩
  have L3:=hid (L2.o.grown hg)
  have D3:=hid (L3.o.d.does HW.o)
  clear hg L2 cE m0 m1 m2 m3 m4 L3
  go_wp2_with fail
  refine (DW B s b g _ 5 sym addend _ 2 [(y:Int),(x:Int)] _ (D3.o.alloc _).1 (Ic V3 y x) (by simp)).mono ?_
  rintro e V4 ⟨rfl,h4⟩
  have D4:=hid ((D3.o.alloc _).after h4)
  clear h4 D3
  go_wp2
  go_end0
  rw [RF.o]
  exact ⟨rfl,D4.o⟩
 ·have d:((reg:Int) == 0)=true:=by simp at hr ⊢; omega
  rw [hr] at RS
  have RF:=hid (show X=As.dS 5 sym addend [(y:Int),(x:Int)] (As.refuse 7 st.op.pos st) from RS.o)
  clear RS hr
  go_enter Tryz.func192,Tryz.ntmps192
  go_wp2_with fail
  refine Calls.aJ (Loc B s b g W [(W.heap.size,Gl op rd au aC n,143)] st) L0.o ?_
  clear L0 c10
  intro V0 Gy
  refine (yJ B s b g st 7 st.op.pos V0 Gy.d.1 (by omega) hpos).mono ?_
  rintro e V1 ⟨rfl,hh⟩
  have L:=hid (Gy.step hh)
  clear hh Gy V0
  generalize As.refuse 7 st.op.pos st=st1 at *
  go_wp2_with fail
  refine (KV.o _ L.o.d.1.tabs).mono ?_
  rintro e V2 ⟨rfl,hg⟩
  have L2:=hid (L.o.grown hg)
  clear hg L KV
  have Lr:=L2.o.l (W.heap.size,Gl op rd au aC n,143) (by simp)
  have m0:=Lr.cell 0
  have m1:=Lr.cell 1
  have m2:=Lr.cell 2
  have m3:=Lr.cell 3
  have m4:=Lr.cell 4
  simp only [Gl,bC,bG,bE] at m0 m1 m2 m3 m4
  clear Lr
  go_wp2_with fail
  refine (cE.o _ L2.o.d.1.tabs).mono ?_
  rintro e V3 ⟨rfl,hg⟩
  have L3:=hid (L2.o.grown hg)
  have D3:=hid (L3.o.d.does HW.o)
  clear hg L2 cE m0 m1 m2 m3 m4 L3
  go_wp2_with fail
  refine (DW B s b g _ 5 sym addend _ 2 [(y:Int),(x:Int)] _ (D3.o.alloc _).1 (Ic V3 y x) (by simp)).mono ?_
  rintro e V4 ⟨rfl,h4⟩
  have D4:=hid ((D3.o.alloc _).after h4)
  clear h4 D3
  go_wp2
  go_end0
  rw [RF.o]
  exact ⟨rfl,D4.o⟩
set_option maxRecDepth 100000 in
theorem yja (B:Nat) (s:ByteArray) (b g:Nat) (st0:As.St) (op:Nat) (W:World) (h:yl B s b g st0 W) (h1:1<=op) (h2:op<=25) :
  Calls Tryz.prog 139 #[.pointer (some ⟨b,0,none⟩),.int .i64 op] W fun en W'=>en = .returned (.tuple #[])/\Does B s b g W (As.gK (sl s) op st0) W':=by
 have D0:=hid h.does
 clear h
 obtain ⟨X,hX⟩:∃ X,X=As.gK (sl s) op st0:=⟨_,rfl⟩
 rw [<- hX]
 unfold As.gK at hX
 dsimp only at hX
 have RS:=hid hX
 clear hX
 go_enter Tryz.func139,Tryz.ntmps139
 go_wp2_with fail
 refine (yP B s b g st0 _ D0.o.1).mono ?_
 rintro e V1 ⟨rfl,hh⟩
 have D1:=hid (D0.o.aO hh)
 clear hh D0
 generalize As.register (sl s) st0=R1 at *
 obtain ⟨rd,st1⟩:=R1
 dsimp only at RS D1 ⊢
 go_wp2_with fail
 refine (tJ B s b g st1 [44] _ D1.o.1).mono ?_
 rintro e V2 ⟨rfl,hh⟩
 have D2:=hid (D1.o.aO hh)
 clear hh D1
 generalize As.sign (sl s) [44] st1=st2 at *
 go_wp2_with fail
 refine (yP B s b g st2 _ D2.o.1).mono ?_
 rintro e V3 ⟨rfl,hh⟩
 have D3:=hid (D2.o.aO hh)
 clear hh D2
 generalize As.register (sl s) st2=R3 at *
 obtain ⟨au,iD⟩:=R3
 dsimp only at RS D3 ⊢
 go_wp2_with fail
 refine (tJ B s b g iD [44] _ D3.o.1).mono ?_
 rintro e V4 ⟨rfl,hh⟩
 have D4:=hid (D3.o.aO hh)
 clear hh D3
 generalize As.sign (sl s) [44] iD=qo at *
 go_wp2_with fail
 refine (yP B s b g qo _ D4.o.1).mono ?_
 rintro e V5 ⟨rfl,hh⟩
 have D5:=hid (D4.o.aO hh)
 clear hh D4
 generalize As.register (sl s) qo=R5 at *
 obtain ⟨aC,zV⟩:=R5
 dsimp only at RS D5 ⊢
 go_wp2_with fail
 refine (Ak B s b g zV op rd au aC 0 _ D5.o.1 h1 h2).mono ?_
 rintro e VF ⟨rfl,hh⟩
 have DF:=hid (D5.o.after hh)
 clear hh
 go_wp2
 go_end0
 rw [RS.o]
 exact ⟨rfl,DF.o⟩
set_option maxRecDepth 100000 in
theorem Z7 (B:Nat) (s:ByteArray) (b g:Nat) (st0:As.St) (op:Nat) (W:World) (h:yl B s b g st0 W) (h1:1<=op) (h2:op<=25) :
  Calls Tryz.prog 140 #[.pointer (some ⟨b,0,none⟩),.int .i64 op] W fun en W'=>en = .returned (.tuple #[])/\Does B s b g W (As.fO (sl s) op st0) W':=by
 have D0:=hid h.does
 clear h
 obtain ⟨X,hX⟩:∃ X,X=As.fO (sl s) op st0:=⟨_,rfl⟩
 rw [<- hX]
 unfold As.fO at hX
 dsimp only at hX
 have RS:=hid hX
 clear hX
 go_enter Tryz.func140,Tryz.ntmps140
 go_wp2_with fail
 refine (yP B s b g st0 _ D0.o.1).mono ?_
 rintro e V1 ⟨rfl,hh⟩
 have D1:=hid (D0.o.aO hh)
 clear hh D0
 generalize As.register (sl s) st0=R1 at *
 obtain ⟨rd,st1⟩:=R1
 dsimp only at RS D1 ⊢
 go_wp2_with fail
 refine (tJ B s b g st1 [44] _ D1.o.1).mono ?_
 rintro e V2 ⟨rfl,hh⟩
 have D2:=hid (D1.o.aO hh)
 clear hh D1
 generalize As.sign (sl s) [44] st1=st2 at *
 go_wp2_with fail
 refine (yP B s b g st2 _ D2.o.1).mono ?_
 rintro e V3 ⟨rfl,hh⟩
 have D3:=hid (D2.o.aO hh)
 clear hh D2
 generalize As.register (sl s) st2=R3 at *
 obtain ⟨au,iD⟩:=R3
 dsimp only at RS D3 ⊢
 go_wp2_with fail
 refine (tJ B s b g iD [44] _ D3.o.1).mono ?_
 rintro e V4 ⟨rfl,hh⟩
 have D4:=hid (D3.o.aO hh)
 clear hh D3
 generalize As.sign (sl s) [44] iD=qo at *
 go_wp2_with fail
 refine (CZ B s b g qo (-2048) 2047 _ D4.o.1).mono ?_
 rintro e V5 ⟨rfl,hh⟩
 have D5:=hid (D4.o.aO hh)
 clear hh D4
 generalize As.number (sl s) (-2048) 2047 qo=R5 at *
 obtain ⟨n,zV⟩:=R5
 dsimp only at RS D5 ⊢
 go_wp2_with fail
 refine (Ak B s b g zV op rd au 0 n _ D5.o.1 h1 h2).mono ?_
 rintro e VF ⟨rfl,hh⟩
 have DF:=hid (D5.o.after hh)
 clear hh
 go_wp2
 go_end0
 rw [RS.o]
 exact ⟨rfl,DF.o⟩
set_option maxRecDepth 100000 in
theorem yoG (B:Nat) (s:ByteArray) (b g:Nat) (st0:As.St) (W:World) (h:yl B s b g st0 W) :
  Calls Tryz.prog 141 #[.pointer (some ⟨b,0,none⟩)] W fun en W'=>en = .returned (.tuple #[])/\Does B s b g W (As.upper (sl s) st0) W':=by
 have D0:=hid h.does
 clear h
 obtain ⟨X,hX⟩:∃ X,X=As.upper (sl s) st0:=⟨_,rfl⟩
 rw [<- hX]
 unfold As.upper at hX
 dsimp only at hX
 have RS:=hid hX
 clear hX
 go_enter Tryz.func141,Tryz.ntmps141
 go_wp2_with fail
 refine (yP B s b g st0 _ D0.o.1).mono ?_
 rintro e V1 ⟨rfl,hh⟩
 have D1:=hid (D0.o.aO hh)
 clear hh D0
 generalize As.register (sl s) st0=R1 at *
 obtain ⟨rd,st1⟩:=R1
 dsimp only at RS D1 ⊢
 go_wp2_with fail
 refine (tJ B s b g st1 [44] _ D1.o.1).mono ?_
 rintro e V2 ⟨rfl,hh⟩
 have D2:=hid (D1.o.aO hh)
 clear hh D1
 generalize As.sign (sl s) [44] st1=st2 at *
 go_wp2_with fail
 refine (CZ B s b g st2 0 1048575 _ D2.o.1).mono ?_
 rintro e V3 ⟨rfl,hh⟩
 have D3:=hid (D2.o.aO hh)
 clear hh D2
 generalize As.number (sl s) 0 1048575 st2=R3 at *
 obtain ⟨n,iD⟩:=R3
 dsimp only at RS D3 ⊢
 go_wp2_with fail
 refine (Ak B s b g iD 1 rd 0 0 n _ D3.o.1 (by omega) (by omega)).mono ?_
 rintro e VF ⟨rfl,hh⟩
 have DF:=hid (D3.o.after hh)
 clear hh
 go_wp2
 go_end0
 rw [RS.o]
 exact ⟨rfl,DF.o⟩
set_option maxRecDepth 100000 in
theorem Y1 (B:Nat) (s:ByteArray) (b g:Nat) (st0:As.St) (W:World) (h:yl B s b g st0 W) :
  Calls Tryz.prog 144 #[.pointer (some ⟨b,0,none⟩)] W fun en W'=>en = .returned (.tuple #[])/\Does B s b g W (As.dR (sl s) st0) W':=by
 have D0:=hid h.does
 clear h
 obtain ⟨X,hX⟩:∃ X,X=As.dR (sl s) st0:=⟨_,rfl⟩
 rw [<- hX]
 unfold As.dR at hX
 dsimp only at hX
 have RS:=hid hX
 clear hX
 go_enter Tryz.func144,Tryz.ntmps144
 go_wp2_with fail
 refine (yP B s b g st0 _ D0.o.1).mono ?_
 rintro e V1 ⟨rfl,hh⟩
 have D1:=hid (D0.o.aO hh)
 clear hh D0
 generalize As.register (sl s) st0=R1 at *
 obtain ⟨rd,st1⟩:=R1
 dsimp only at RS D1 ⊢
 go_wp2_with fail
 refine (tJ B s b g st1 [44] _ D1.o.1).mono ?_
 rintro e V2 ⟨rfl,hh⟩
 have D2:=hid (D1.o.aO hh)
 clear hh D1
 generalize As.sign (sl s) [44] st1=st2 at *
 go_wp2_with fail
 refine (Pk B s b g st2 _ D2.o.1).mono ?_
 rintro e V3 ⟨rfl,hh⟩
 have D3:=hid (D2.o.aO hh)
 clear hh D2
 generalize As.place (sl s) st2=R3 at *
 obtain ⟨⟨n,au⟩,iD⟩:=R3
 dsimp only at RS D3 ⊢
 go_wp2_with fail
 refine (Ak B s b g iD 4 rd au 0 n _ D3.o.1 (by omega) (by omega)).mono ?_
 rintro e VF ⟨rfl,hh⟩
 have DF:=hid (D3.o.after hh)
 clear hh
 go_wp2
 go_end0
 rw [RS.o]
 exact ⟨rfl,DF.o⟩
set_option maxRecDepth 100000 in
theorem ypt (B:Nat) (s:ByteArray) (b g:Nat) (st0:As.St) (W:World) (h:yl B s b g st0 W) :
  Calls Tryz.prog 149 #[.pointer (some ⟨b,0,none⟩)] W fun en W'=>en = .returned (.tuple #[])/\Does B s b g W (As.move (sl s) st0) W':=by
 have D0:=hid h.does
 clear h
 obtain ⟨X,hX⟩:∃ X,X=As.move (sl s) st0:=⟨_,rfl⟩
 rw [<- hX]
 unfold As.move at hX
 dsimp only at hX
 have RS:=hid hX
 clear hX
 go_enter Tryz.func149,Tryz.ntmps149
 go_wp2_with fail
 refine (yP B s b g st0 _ D0.o.1).mono ?_
 rintro e V1 ⟨rfl,hh⟩
 have D1:=hid (D0.o.aO hh)
 clear hh D0
 generalize As.register (sl s) st0=R1 at *
 obtain ⟨rd,st1⟩:=R1
 dsimp only at RS D1 ⊢
 go_wp2_with fail
 refine (tJ B s b g st1 [44] _ D1.o.1).mono ?_
 rintro e V2 ⟨rfl,hh⟩
 have D2:=hid (D1.o.aO hh)
 clear hh D1
 generalize As.sign (sl s) [44] st1=st2 at *
 go_wp2_with fail
 refine (yP B s b g st2 _ D2.o.1).mono ?_
 rintro e V3 ⟨rfl,hh⟩
 have D3:=hid (D2.o.aO hh)
 clear hh D2
 generalize As.register (sl s) st2=R3 at *
 obtain ⟨au,iD⟩:=R3
 dsimp only at RS D3 ⊢
 go_wp2_with fail
 refine (Ak B s b g iD 13 rd au 0 0 _ D3.o.1 (by omega) (by omega)).mono ?_
 rintro e VF ⟨rfl,hh⟩
 have DF:=hid (D3.o.after hh)
 clear hh
 go_wp2
 go_end0
 rw [RS.o]
 exact ⟨rfl,DF.o⟩
set_option maxRecDepth 100000 in
theorem Zl (B:Nat) (s:ByteArray) (b g:Nat) (st0:As.St) (W:World) (h:yl B s b g st0 W) :
  Calls Tryz.prog 152 #[.pointer (some ⟨b,0,none⟩)] W fun en W'=>en = .returned (.tuple #[])/\Does B s b g W (As.eO (sl s) st0) W':=by
 have D0:=hid h.does
 clear h
 obtain ⟨X,hX⟩:∃ X,X=As.eO (sl s) st0:=⟨_,rfl⟩
 rw [<- hX]
 unfold As.eO at hX
 dsimp only at hX
 have RS:=hid hX
 clear hX
 go_enter Tryz.func152,Tryz.ntmps152
 go_wp2_with fail
 refine (yP B s b g st0 _ D0.o.1).mono ?_
 rintro e V1 ⟨rfl,hh⟩
 have D1:=hid (D0.o.aO hh)
 clear hh D0
 generalize As.register (sl s) st0=R1 at *
 obtain ⟨rd,st1⟩:=R1
 dsimp only at RS D1 ⊢
 go_wp2_with fail
 refine (tJ B s b g st1 [44] _ D1.o.1).mono ?_
 rintro e V2 ⟨rfl,hh⟩
 have D2:=hid (D1.o.aO hh)
 clear hh D1
 generalize As.sign (sl s) [44] st1=st2 at *
 go_wp2_with fail
 refine (LB B s b g st2 _ D2.o.1).mono ?_
 rintro e V3 ⟨rfl,hh⟩
 have D3:=hid (D2.o.after hh)
 clear hh D2
 generalize As.target (sl s) st2=R3 at *
 obtain ⟨⟨sym,add⟩,iD⟩:=R3
 dsimp only at RS D3 ⊢
 go_wp2_with fail
 refine (OT B s b g iD rd 13 rd rd 0 0 sym add _ D3.o.1 (by omega) (by omega)).mono ?_
 rintro e VF ⟨rfl,hh⟩
 have DF:=hid (D3.o.after hh)
 clear hh
 go_wp2
 go_end0
 rw [RS.o]
 exact ⟨rfl,DF.o⟩
theorem LD {B:Nat} {s:ByteArray} {b g:Nat} {st:As.St} {W:World} (h:yl B s b g st W):W.cell? ⟨b,11,none⟩=some (.string (bs st.op.text)):=by
 have c:=yL h 11
 simpa only [yE,bC,bG,bE] using c
set_option maxRecDepth 100000 in
theorem ypl (B:Nat) (s:ByteArray) (b g:Nat) (st0:As.St) (W:World) (h:yl B s b g st0 W) :
  Calls Tryz.prog 142 #[.pointer (some ⟨b,0,none⟩)] W fun en W'=>en = .returned (.tuple #[])/\Does B s b g W (As.load (sl s) st0) W':=by
 have D0:=hid h.does
 clear h
 obtain ⟨X,hX⟩:∃ X,X=As.load (sl s) st0:=⟨_,rfl⟩
 rw [<- hX]
 unfold As.load at hX
 dsimp only at hX
 have RS:=hid hX
 clear hX
 go_enter Tryz.func142,Tryz.ntmps142
 go_wp2_with fail
 refine (yP B s b g st0 _ D0.o.1).mono ?_
 rintro e V1 ⟨rfl,hh⟩
 have D1:=hid (D0.o.aO hh)
 clear hh D0
 generalize As.register (sl s) st0=R1 at *
 obtain ⟨rd,st1⟩:=R1
 dsimp only at RS D1 ⊢
 go_wp2_with fail
 refine (tJ B s b g st1 [44] _ D1.o.1).mono ?_
 rintro e V2 ⟨rfl,hh⟩
 have D2:=hid (D1.o.aO hh)
 clear hh D1
 generalize As.sign (sl s) [44] st1=st2 at *
 obtain ⟨c2,c3,c4,c5⟩:=tV D2.o.1
 cases hk:(st2.tok.kind == 1)
 ·have d:((st2.tok.kind:Int) == 1)=false:=by simp at hk ⊢; omega
  have d':((st2.tok.kind:Int) != 1)=true:=by simp at hk ⊢; omega
  rw [hk] at RS
  rw [if_neg (by simp)] at RS
  clear hk
  go_wp2_with fail
  refine (Pk B s b g st2 _ D2.o.1).mono ?_
  rintro e V3 ⟨rfl,hh⟩
  have D3:=hid (D2.o.aO hh)
  clear hh D2 c2 c3 c4 c5
  generalize As.place (sl s) st2=R3 at *
  obtain ⟨⟨n,au⟩,iD⟩:=R3
  dsimp only at RS D3 ⊢
  go_wp2_with fail
  refine (Ak B s b g iD 11 rd au 0 n _ D3.o.1 (by omega) (by omega)).mono ?_
  rintro e VF ⟨rfl,hh⟩
  have DF:=hid (D3.o.after hh)
  clear hh
  go_wp2
  first | go_end0 | ((try simp only [Exit.inBlock,Exit.then]); refine bodyPost_ret (results_none rfl _ _ _) rfl ?_)
  rw [RS.o]
  exact ⟨rfl,DF.o⟩
 ·have d:((st2.tok.kind:Int) == 1)=true:=by simp at hk ⊢; omega
  have d':((st2.tok.kind:Int) != 1)=false:=by simp at hk ⊢; omega
  rw [hk] at RS
  rw [if_pos rfl] at RS
  clear hk
  go_wp2_with fail
  refine (LB B s b g st2 _ D2.o.1).mono ?_
  rintro e V3 ⟨rfl,hh⟩
  have D3:=hid (D2.o.after hh)
  clear hh D2 c2 c3 c4 c5
  generalize As.target (sl s) st2=R3 at *
  obtain ⟨⟨sym,add⟩,iD⟩:=R3
  dsimp only at RS D3 ⊢
  go_wp2_with fail
  refine (OT B s b g iD rd 11 rd rd 0 0 sym add _ D3.o.1 (by omega) (by omega)).mono ?_
  rintro e VF ⟨rfl,hh⟩
  have DF:=hid (D3.o.after hh)
  clear hh
  go_wp2
  first | go_end0 | ((try simp only [Exit.inBlock,Exit.then]); refine bodyPost_ret (results_none rfl _ _ _) rfl ?_)
  rw [RS.o]
  exact ⟨rfl,DF.o⟩
set_option maxRecDepth 100000 in
theorem yoC (B:Nat) (s:ByteArray) (b g:Nat) (st0:As.St) (W:World) (h:yl B s b g st0 W) :
  Calls Tryz.prog 143 #[.pointer (some ⟨b,0,none⟩)] W fun en W'=>en = .returned (.tuple #[])/\Does B s b g W (As.store (sl s) st0) W':=by
 have D0:=hid h.does
 clear h
 obtain ⟨X,hX⟩:∃ X,X=As.store (sl s) st0:=⟨_,rfl⟩
 rw [<- hX]
 unfold As.store at hX
 dsimp only at hX
 have RS:=hid hX
 clear hX
 go_enter Tryz.func143,Tryz.ntmps143
 go_wp2_with fail
 refine (yP B s b g st0 _ D0.o.1).mono ?_
 rintro e V1 ⟨rfl,hh⟩
 have D1:=hid (D0.o.aO hh)
 clear hh D0
 generalize As.register (sl s) st0=R1 at *
 obtain ⟨rs,st1⟩:=R1
 dsimp only at RS D1 ⊢
 go_wp2_with fail
 refine (tJ B s b g st1 [44] _ D1.o.1).mono ?_
 rintro e V2 ⟨rfl,hh⟩
 have D2:=hid (D1.o.aO hh)
 clear hh D1
 generalize As.sign (sl s) [44] st1=st2 at *
 obtain ⟨c2,c3,c4,c5⟩:=tV D2.o.1
 cases hk:(st2.tok.kind == 1)
 ·have d:((st2.tok.kind:Int) == 1)=false:=by simp at hk ⊢; omega
  have d':((st2.tok.kind:Int) != 1)=true:=by simp at hk ⊢; omega
  rw [hk] at RS
  rw [if_neg (by simp)] at RS
  clear hk
  go_wp2_with fail
  refine (Pk B s b g st2 _ D2.o.1).mono ?_
  rintro e V3 ⟨rfl,hh⟩
  have D3:=hid (D2.o.aO hh)
  clear hh D2 c2 c3 c4 c5
  generalize As.place (sl s) st2=R3 at *
  obtain ⟨⟨n,au⟩,iD⟩:=R3
  dsimp only at RS D3 ⊢
  go_wp2_with fail
  refine (Ak B s b g iD 12 0 au rs n _ D3.o.1 (by omega) (by omega)).mono ?_
  rintro e VF ⟨rfl,hh⟩
  have DF:=hid (D3.o.after hh)
  clear hh
  go_wp2
  first | go_end0 | ((try simp only [Exit.inBlock,Exit.then]); refine bodyPost_ret (results_none rfl _ _ _) rfl ?_)
  rw [RS.o]
  exact ⟨rfl,DF.o⟩
 ·have d:((st2.tok.kind:Int) == 1)=true:=by simp at hk ⊢; omega
  have d':((st2.tok.kind:Int) != 1)=false:=by simp at hk ⊢; omega
  rw [hk] at RS
  rw [if_pos rfl] at RS
  clear hk
  go_wp2_with fail
  refine (LB B s b g st2 _ D2.o.1).mono ?_
  rintro e V3 ⟨rfl,hh⟩
  have D3:=hid (D2.o.after hh)
  clear hh D2 c2 c3 c4 c5
  generalize As.target (sl s) st2=R3 at *
  obtain ⟨⟨sym,add⟩,iD⟩:=R3
  dsimp only at RS D3 ⊢
  go_wp2_with fail
  refine (tJ B s b g iD [44] _ D3.o.1).mono ?_
  rintro e V4 ⟨rfl,hh⟩
  have D4:=hid (D3.o.aO hh)
  clear hh D3
  generalize As.sign (sl s) [44] iD=qo at *
  go_wp2_with fail
  refine (yP B s b g qo _ D4.o.1).mono ?_
  rintro e V5 ⟨rfl,hh⟩
  have D5:=hid (D4.o.aO hh)
  clear hh D4
  generalize As.register (sl s) qo=R5 at *
  obtain ⟨rt,zV⟩:=R5
  dsimp only at RS D5 ⊢
  go_wp2_with fail
  refine (OT B s b g zV rt 12 0 rt rs 0 sym add _ D5.o.1 (by omega) (by omega)).mono ?_
  rintro e VF ⟨rfl,hh⟩
  have DF:=hid (D5.o.after hh)
  clear hh
  go_wp2
  first | go_end0 | ((try simp only [Exit.inBlock,Exit.then]); refine bodyPost_ret (results_none rfl _ _ _) rfl ?_)
  rw [RS.o]
  exact ⟨rfl,DF.o⟩
set_option maxRecDepth 100000 in
theorem ymm (B:Nat) (s:ByteArray) (b g:Nat) (st0:As.St) (op:Nat) (W:World) (h:yl B s b g st0 W) (h1:1<=op) (h2:op<=25) :
  Calls Tryz.prog 146 #[.pointer (some ⟨b,0,none⟩),.int .i64 op] W fun en W'=>en = .returned (.tuple #[])/\Does B s b g W (As.branch (sl s) op st0) W':=by
 have D0:=hid h.does
 clear h
 obtain ⟨X,hX⟩:∃ X,X=As.branch (sl s) op st0:=⟨_,rfl⟩
 rw [<- hX]
 unfold As.branch at hX
 dsimp only at hX
 have RS:=hid hX
 clear hX
 go_enter Tryz.func146,Tryz.ntmps146
 go_wp2_with fail
 refine (yP B s b g st0 _ D0.o.1).mono ?_
 rintro e V1 ⟨rfl,hh⟩
 have D1:=hid (D0.o.aO hh)
 clear hh D0
 generalize As.register (sl s) st0=R1 at *
 obtain ⟨au,st1⟩:=R1
 dsimp only at RS D1 ⊢
 go_wp2_with fail
 refine (tJ B s b g st1 [44] _ D1.o.1).mono ?_
 rintro e V2 ⟨rfl,hh⟩
 have D2:=hid (D1.o.aO hh)
 clear hh D1
 generalize As.sign (sl s) [44] st1=st2 at *
 go_wp2_with fail
 refine (yP B s b g st2 _ D2.o.1).mono ?_
 rintro e V3 ⟨rfl,hh⟩
 have D3:=hid (D2.o.aO hh)
 clear hh D2
 generalize As.register (sl s) st2=R3 at *
 obtain ⟨aC,iD⟩:=R3
 dsimp only at RS D3 ⊢
 go_wp2_with fail
 refine (tJ B s b g iD [44] _ D3.o.1).mono ?_
 rintro e V4 ⟨rfl,hh⟩
 have D4:=hid (D3.o.aO hh)
 clear hh D3
 generalize As.sign (sl s) [44] iD=qo at *
 go_wp2_with fail
 refine (Ka B s b g qo _ D4.o.1).mono ?_
 rintro e V5 ⟨rfl,hh⟩
 have D5:=hid (D4.o.after hh)
 clear hh D4
 generalize As.symbol (sl s) qo=R5 at *
 obtain ⟨y,zV⟩:=R5
 dsimp only at RS D5 ⊢
 go_wp2_with fail
 refine (vO op 0 au aC 0 _ D5.o.1.tabs h1 h2).mono ?_
 rintro e V6 ⟨rfl,hg⟩
 have D6:=hid (D5.o.grown hg)
 clear hg D5
 generalize Oq:zV=zW at *
 generalize As.enc op 0 au aC 0=x at *
 clear Oq
 go_wp2_with fail
 refine (DW B s b g zW 2 y 0 _ 1 [(x:Int)] _ (D6.o.alloc _).1 (Kj V6 x) (by simp)).mono ?_
 rintro e VF ⟨rfl,hh⟩
 have DF:=hid ((D6.o.alloc _).after hh)
 clear hh
 go_wp2
 first | go_end0 | ((try simp only [Exit.inBlock,Exit.then]); refine bodyPost_ret (results_none rfl _ _ _) rfl ?_)
 rw [RS.o]
 exact ⟨rfl,DF.o⟩
set_option maxRecDepth 100000 in
theorem Uw (B:Nat) (s:ByteArray) (b g:Nat) (st0:As.St) (rd:Nat) (W:World) (h:yl B s b g st0 W) :
  Calls Tryz.prog 196 #[.pointer (some ⟨b,0,none⟩),.int .i64 rd] W fun en W'=>en = .returned (.tuple #[])/\Does B s b g W (As.iH (sl s) rd st0) W':=by
 have D0:=hid h.does
 clear h
 obtain ⟨X,hX⟩:∃ X,X=As.iH (sl s) rd st0:=⟨_,rfl⟩
 rw [<- hX]
 unfold As.iH at hX
 dsimp only at hX
 have RS:=hid hX
 clear hX
 go_enter Tryz.func196,Tryz.ntmps196
 go_wp2_with fail
 refine (Ka B s b g st0 _ D0.o.1).mono ?_
 rintro e V1 ⟨rfl,hh⟩
 have D1:=hid (D0.o.after hh)
 clear hh D0
 generalize As.symbol (sl s) st0=R1 at *
 obtain ⟨y,st1⟩:=R1
 dsimp only at RS D1 ⊢
 go_wp2_with fail
 refine (vO 3 rd 0 0 0 _ D1.o.1.tabs (by omega) (by omega)).mono ?_
 rintro e V2 ⟨rfl,hg⟩
 have D2:=hid (D1.o.grown hg)
 clear hg D1
 generalize zo:st1=st2 at *
 generalize As.enc 3 rd 0 0 0=x at *
 clear zo
 go_wp2_with fail
 refine (DW B s b g st2 3 y 0 _ 1 [(x:Int)] _ (D2.o.alloc _).1 (Kj V2 x) (by simp)).mono ?_
 rintro e VF ⟨rfl,hh⟩
 have DF:=hid ((D2.o.alloc _).after hh)
 clear hh
 go_wp2
 first | go_end0 | ((try simp only [Exit.inBlock,Exit.then]); refine bodyPost_ret (results_none rfl _ _ _) rfl ?_)
 rw [RS.o]
 exact ⟨rfl,DF.o⟩
set_option maxRecDepth 100000 in
theorem yjM (B:Nat) (s:ByteArray) (b g:Nat) (st0:As.St) (W:World) (h:yl B s b g st0 W) :
  Calls Tryz.prog 147 #[.pointer (some ⟨b,0,none⟩)] W fun en W'=>en = .returned (.tuple #[])/\Does B s b g W (As.iG (sl s) st0) W':=by
 have D0:=hid h.does
 clear h
 obtain ⟨X,hX⟩:∃ X,X=As.iG (sl s) st0:=⟨_,rfl⟩
 rw [<- hX]
 unfold As.iG at hX
 dsimp only at hX
 have RS:=hid hX
 clear hX
 go_enter Tryz.func147,Tryz.ntmps147
 go_wp2_with fail
 refine (yP B s b g st0 _ D0.o.1).mono ?_
 rintro e V1 ⟨rfl,hh⟩
 have D1:=hid (D0.o.aO hh)
 clear hh D0
 generalize As.register (sl s) st0=R1 at *
 obtain ⟨rd,st1⟩:=R1
 dsimp only at RS D1 ⊢
 go_wp2_with fail
 refine (tJ B s b g st1 [44] _ D1.o.1).mono ?_
 rintro e V2 ⟨rfl,hh⟩
 have D2:=hid (D1.o.aO hh)
 clear hh D1
 generalize As.sign (sl s) [44] st1=st2 at *
 go_wp2_with fail
 refine (Uw B s b g st2 rd _ D2.o.1).mono ?_
 rintro e VF ⟨rfl,hh⟩
 have DF:=hid (D2.o.after hh)
 clear hh
 go_wp2
 first | go_end0 | ((try simp only [Exit.inBlock,Exit.then]); refine bodyPost_ret (results_none rfl _ _ _) rfl ?_)
 rw [RS.o]
 exact ⟨rfl,DF.o⟩
theorem ypf (B:Nat) (s:ByteArray) (b g:Nat) (st0:As.St) (W:World) (h:yl B s b g st0 W) :
  Calls Tryz.prog 148 #[.pointer (some ⟨b,0,none⟩)] W fun en W'=>en = .returned (.tuple #[])/\Does B s b g W (As.iH (sl s) 0 st0) W':=by
 have c:=hid (Uw B s b g st0 0 W h)
 clear h
 go_enter Tryz.func148,Tryz.ntmps148
 go_wp2_with fail
 refine c.o.mono ?_
 rintro e VF ⟨rfl,hh⟩
 have DF:=hid hh
 clear hh
 go_wp2
 go_end0
 exact ⟨rfl,DF.o⟩
set_option maxRecDepth 100000 in
theorem Zi (B:Nat) (s:ByteArray) (b g:Nat) (st0:As.St) (W:World) (h:yl B s b g st0 W) :
  Calls Tryz.prog 150 #[.pointer (some ⟨b,0,none⟩)] W fun en W'=>en = .returned (.tuple #[])/\Does B s b g W (As.fJ (sl s) st0) W':=by
 have D0:=hid h.does
 clear h
 obtain ⟨X,hX⟩:∃ X,X=As.fJ (sl s) st0:=⟨_,rfl⟩
 rw [<- hX]
 unfold As.fJ at hX
 dsimp only at hX
 have RS:=hid hX
 clear hX
 go_enter Tryz.func150,Tryz.ntmps150
 go_wp2_with fail
 refine (yP B s b g st0 _ D0.o.1).mono ?_
 rintro e V1 ⟨rfl,hh⟩
 have D1:=hid (D0.o.aO hh)
 clear hh D0
 generalize As.register (sl s) st0=R1 at *
 obtain ⟨rd,st1⟩:=R1
 dsimp only at RS D1 ⊢
 go_wp2_with fail
 refine (tJ B s b g st1 [44] _ D1.o.1).mono ?_
 rintro e V2 ⟨rfl,hh⟩
 have D2:=hid (D1.o.aO hh)
 clear hh D1
 generalize As.sign (sl s) [44] st1=st2 at *
 have NB:=Pw (sl s) (-2147483648) 2147483647 st2 (by omega) (by omega)
 go_wp2_with fail
 refine (CZ B s b g st2 (-2147483648) 2147483647 _ D2.o.1).mono ?_
 rintro e V3 ⟨rfl,hh⟩
 have D3:=hid (D2.o.aO hh)
 clear hh D2
 generalize As.number (sl s) (-2147483648) 2147483647 st2=R3 at *
 obtain ⟨n,iD⟩:=R3
 dsimp only at RS D3 NB ⊢
 by_cases c1:-2048<=n
 ·by_cases c2:n<=2047
  ·have d1:decide (-2048<=n)=true:=by simp; omega
   have d2:decide (n<=2047)=true:=by simp; omega
   rw [if_pos ⟨c1,c2⟩] at RS
   clear c1 c2
   go_wp2_with fail
   refine (Ak B s b g iD 13 rd 0 0 n _ D3.o.1 (by omega) (by omega)).mono ?_
   rintro e VF ⟨rfl,hh⟩
   have DF:=hid (D3.o.after hh)
   clear hh
   go_wp2
   first | go_end0 | ((try simp only [Exit.inBlock,Exit.then]); refine bodyPost_ret (results_none rfl _ _ _) rfl ?_)
   rw [RS.o]
   exact ⟨rfl,DF.o⟩
  ·have d1:decide (-2048<=n)=true:=by simp; omega
   have d2:decide (n<=2047)=false:=by simp; omega
   rw [if_neg (fun k=>c2 k.2)] at RS
   clear c1 c2
   go_wp2_with fail
   refine (Pj n _ NB.1 NB.2).mono ?_
   rintro e w1 ⟨rfl,rfl⟩
   generalize As.eP n=hi at *
   generalize As.dI n=lo at *
   go_wp2_with fail
   refine (vO 1 rd 0 0 hi _ D3.o.1.tabs (by omega) (by omega)).mono ?_
   rintro e V4 ⟨rfl,hg⟩
   have D4:=hid (D3.o.grown hg)
   clear hg D3
   generalize Fa:iD=qo at *
   generalize As.enc 1 rd 0 0 hi=x at *
   clear Fa
   go_wp2_with fail
   refine (vO 13 rd rd 0 lo _ D4.o.1.tabs (by omega) (by omega)).mono ?_
   rintro e V5 ⟨rfl,hg⟩
   have D5:=hid (D4.o.grown hg)
   clear hg D4
   generalize Fb:qo=zV at *
   generalize As.enc 13 rd rd 0 lo=y at *
   clear Fb
   go_wp2_with fail
   refine (Gb B s b g zV _ 2 [(x:Int),(y:Int)] _ (D5.o.alloc _).1 (Ic V5 x y) (by simp)).mono ?_
   rintro e VF ⟨rfl,hh⟩
   have DF:=hid ((D5.o.alloc _).after hh)
   clear hh
   go_wp2
   first | go_end0 | ((try simp only [Exit.inBlock,Exit.then]); refine bodyPost_ret (results_none rfl _ _ _) rfl ?_)
   rw [RS.o]
   exact ⟨rfl,DF.o⟩
 ·have d1:decide (-2048<=n)=false:=by simp; omega
  rw [if_neg (fun k=>c1 k.1)] at RS
  clear c1
  go_wp2_with fail
  refine (Pj n _ NB.1 NB.2).mono ?_
  rintro e w1 ⟨rfl,rfl⟩
  generalize As.eP n=hi at *
  generalize As.dI n=lo at *
  go_wp2_with fail
  refine (vO 1 rd 0 0 hi _ D3.o.1.tabs (by omega) (by omega)).mono ?_
  rintro e V4 ⟨rfl,hg⟩
  have D4:=hid (D3.o.grown hg)
  clear hg D3
  generalize Fa:iD=qo at *
  generalize As.enc 1 rd 0 0 hi=x at *
  clear Fa
  go_wp2_with fail
  refine (vO 13 rd rd 0 lo _ D4.o.1.tabs (by omega) (by omega)).mono ?_
  rintro e V5 ⟨rfl,hg⟩
  have D5:=hid (D4.o.grown hg)
  clear hg D4
  generalize Fb:qo=zV at *
  generalize As.enc 13 rd rd 0 lo=y at *
  clear Fb
  go_wp2_with fail
  refine (Gb B s b g zV _ 2 [(x:Int),(y:Int)] _ (D5.o.alloc _).1 (Ic V5 x y) (by simp)).mono ?_
  rintro e VF ⟨rfl,hh⟩
  have DF:=hid ((D5.o.alloc _).after hh)
  clear hh
  go_wp2
  first | go_end0 | ((try simp only [Exit.inBlock,Exit.then]); refine bodyPost_ret (results_none rfl _ _ _) rfl ?_)
  rw [RS.o]
  exact ⟨rfl,DF.o⟩
set_option maxRecDepth 100000 in
theorem yoL (B:Nat) (s:ByteArray) (b g:Nat) (st0:As.St) (W:World) (h:yl B s b g st0 W) :
  Calls Tryz.prog 151 #[.pointer (some ⟨b,0,none⟩)] W fun en W'=>en = .returned (.tuple #[])/\Does B s b g W (As.call (sl s) st0) W':=by
 have D0:=hid h.does
 clear h
 obtain ⟨X,hX⟩:∃ X,X=As.call (sl s) st0:=⟨_,rfl⟩
 rw [<- hX]
 unfold As.call at hX
 dsimp only at hX
 have RS:=hid hX
 clear hX
 go_enter Tryz.func151,Tryz.ntmps151
 have c11:=LD D0.o.1
 cases ht:(st0.op.text == [116,97,105,108])
 ·have d:((bs st0.op.text).toList == [116,97,105,108])=false:=by rw [yG]; exact ht
  rw [ht] at RS
  simp only [Bool.false_eq_true,if_false] at RS
  clear ht
  go_wp2_with fail
  refine (Ka B s b g st0 _ D0.o.1).mono ?_
  rintro e V1 ⟨rfl,hh⟩
  have D1:=hid (D0.o.after hh)
  clear hh D0 c11
  generalize As.symbol (sl s) st0=R1 at *
  obtain ⟨y,st1⟩:=R1
  dsimp only at RS D1 ⊢
  go_wp2_with fail
  refine (vO 2 1 0 0 0 _ D1.o.1.tabs (by omega) (by omega)).mono ?_
  rintro e V2 ⟨rfl,hg⟩
  have D2:=hid (D1.o.grown hg)
  clear hg D1
  generalize zo:st1=st2 at *
  generalize As.enc 2 1 0 0 0=x at *
  clear zo
  go_wp2_with fail
  refine (vO 4 1 1 0 0 _ D2.o.1.tabs (by omega) (by omega)).mono ?_
  rintro e V3 ⟨rfl,hg⟩
  have D3:=hid (D2.o.grown hg)
  clear hg D2
  generalize EZ:st2=iD at *
  generalize As.enc 4 1 1 0 0=z at *
  clear EZ
  go_wp2_with fail
  refine (DW B s b g iD 4 y 0 _ 2 [(x:Int),(z:Int)] _ (D3.o.alloc _).1 (Ic V3 x z) (by simp)).mono ?_
  rintro e VF ⟨rfl,hh⟩
  have DF:=hid ((D3.o.alloc _).after hh)
  clear hh
  go_wp2
  first | go_end0 | ((try simp only [Exit.inBlock,Exit.then]); refine bodyPost_ret (results_none rfl _ _ _) rfl ?_)
  rw [RS.o]
  exact ⟨rfl,DF.o⟩
 ·have d:((bs st0.op.text).toList == [116,97,105,108])=true:=by rw [yG]; exact ht
  rw [ht] at RS
  simp only [if_true] at RS
  clear ht
  go_wp2_with fail
  refine (Ka B s b g st0 _ D0.o.1).mono ?_
  rintro e V1 ⟨rfl,hh⟩
  have D1:=hid (D0.o.after hh)
  clear hh D0 c11
  generalize As.symbol (sl s) st0=R1 at *
  obtain ⟨y,st1⟩:=R1
  dsimp only at RS D1 ⊢
  go_wp2_with fail
  refine (vO 2 6 0 0 0 _ D1.o.1.tabs (by omega) (by omega)).mono ?_
  rintro e V2 ⟨rfl,hg⟩
  have D2:=hid (D1.o.grown hg)
  clear hg D1
  generalize zo:st1=st2 at *
  generalize As.enc 2 6 0 0 0=x at *
  clear zo
  go_wp2_with fail
  refine (vO 4 0 6 0 0 _ D2.o.1.tabs (by omega) (by omega)).mono ?_
  rintro e V3 ⟨rfl,hg⟩
  have D3:=hid (D2.o.grown hg)
  clear hg D2
  generalize EZ:st2=iD at *
  generalize As.enc 4 0 6 0 0=z at *
  clear EZ
  go_wp2_with fail
  refine (DW B s b g iD 4 y 0 _ 2 [(x:Int),(z:Int)] _ (D3.o.alloc _).1 (Ic V3 x z) (by simp)).mono ?_
  rintro e VF ⟨rfl,hh⟩
  have DF:=hid ((D3.o.alloc _).after hh)
  clear hh
  go_wp2
  first | go_end0 | ((try simp only [Exit.inBlock,Exit.then]); refine bodyPost_ret (results_none rfl _ _ _) rfl ?_)
  rw [RS.o]
  exact ⟨rfl,DF.o⟩
set_option maxRecDepth 100000 in
theorem yoK (B:Nat) (s:ByteArray) (b g:Nat) (st0:As.St) (W:World) (h:yl B s b g st0 W) :
  Calls Tryz.prog 145 #[.pointer (some ⟨b,0,none⟩)] W fun en W'=>en = .returned (.tuple #[])/\Does B s b g W (As.bare st0) W':=by
 have D0:=hid h.does
 have c11:=LD h
 clear h
 have RS:=hid (show As.bare st0=if st0.op.text=[101,99,97,108,108] then As.dw 25 0 0 0 0 st0 else if st0.op.text=[114,101,116] then As.dw 4 0 1 0 0 st0 else if st0.op.text=[110,111,112] then As.dw 13 0 0 0 0 st0 else st0 from rfl)
 generalize As.bare st0=X at *
 have e:∀ l:List UInt8,((bs st0.op.text).toList == l)=decide (st0.op.text=l):=fun l=>by rw [yG,Bool.eq_iff_iff,beq_iff_eq,decide_eq_true_iff]
 have d1:=e [101,99,97,108,108]
 have d2:=e [114,101,116]
 have d3:=e [110,111,112]
 clear e
 by_cases h1:st0.op.text=[101,99,97,108,108]
 ·rw [if_pos h1] at RS
  rw [decide_eq_true h1] at d1
  clear h1 d2 d3
  go_enter Tryz.func145,Tryz.ntmps145
  go_wp2_with fail
  refine (Ak B s b g st0 25 0 0 0 0 _ D0.o.1 (by omega) (by omega)).mono ?_
  rintro e VF ⟨rfl,hh⟩
  have DF:=hid (D0.o.after hh)
  clear hh
  go_wp2
  first | go_end0 | ((try simp only [Exit.inBlock,Exit.then]); refine bodyPost_ret (results_none rfl _ _ _) rfl ?_)
  rw [RS.o]
  exact ⟨rfl,DF.o⟩
 rw [if_neg h1] at RS
 rw [decide_eq_false h1] at d1
 clear h1
 by_cases h2:st0.op.text=[114,101,116]
 ·rw [if_pos h2] at RS
  rw [decide_eq_true h2] at d2
  clear h2 d3
  go_enter Tryz.func145,Tryz.ntmps145
  go_wp2_with fail
  refine (Ak B s b g st0 4 0 1 0 0 _ D0.o.1 (by omega) (by omega)).mono ?_
  rintro e VF ⟨rfl,hh⟩
  have DF:=hid (D0.o.after hh)
  clear hh
  go_wp2
  first | go_end0 | ((try simp only [Exit.inBlock,Exit.then]); refine bodyPost_ret (results_none rfl _ _ _) rfl ?_)
  rw [RS.o]
  exact ⟨rfl,DF.o⟩
 rw [if_neg h2] at RS
 rw [decide_eq_false h2] at d2
 clear h2
 by_cases h3:st0.op.text=[110,111,112]
 ·rw [if_pos h3] at RS
  rw [decide_eq_true h3] at d3
  clear h3
  go_enter Tryz.func145,Tryz.ntmps145
  go_wp2_with fail
  refine (Ak B s b g st0 13 0 0 0 0 _ D0.o.1 (by omega) (by omega)).mono ?_
  rintro e VF ⟨rfl,hh⟩
  have DF:=hid (D0.o.after hh)
  clear hh
  go_wp2
  first | go_end0 | ((try simp only [Exit.inBlock,Exit.then]); refine bodyPost_ret (results_none rfl _ _ _) rfl ?_)
  rw [RS.o]
  exact ⟨rfl,DF.o⟩
 rw [if_neg h3] at RS
 rw [decide_eq_false h3] at d3
 clear h3
 go_enter Tryz.func145,Tryz.ntmps145
 go_wp2
 go_end0
 rw [RS.o]
 exact ⟨rfl,D0.o⟩
end Go.Proofs.YtpgklkhgfcjceaaGreatDoor
