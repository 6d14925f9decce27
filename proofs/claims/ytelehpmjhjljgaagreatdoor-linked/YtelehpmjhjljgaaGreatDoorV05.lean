
import Derived.Test.YtelehpmjhjljgaaGreatDoorV04
set_option maxHeartbeats 16000000
set_option maxRecDepth 100000
namespace Go.Proofs.YtelehpmjhjljgaaGreatDoor
open Go.RowKit
def yY (n:Int):Prop:=n % 128=99/\(n / 4096 % 8=0\/n / 4096 % 8=1\/n / 4096 % 8=4\/n / 4096 % 8=5\/n / 4096 % 8=6\/n / 4096 % 8=7)/\n / 33554432=0/\n / 128 % 32=0
def gW (n:Int):Prop:=n % 128=111/\n / 4096=0
def kX (Qo n:Int):Prop:=n % 128=Qo/\n / 4096=0
def kH (Qo f n:Int):Prop:=n % 128=Qo/\n / 4096 % 8=f/\n / 1048576=0
def lY (n:Int):Prop:=n % 128=35/\n / 4096 % 8=2/\n / 33554432=0/\n / 128 % 32=0
theorem JM (n:Int) (h0:0<=n) (h1:n<=4294967295):Is 1 n↔n % 128=55:=by
 show bits .and .i64 n 127=55↔_;rw [SK n h0 h1]
theorem JN (n:Int) (h0:0<=n) (h1:n<=4294967295):Is 2 n↔n % 128=23:=by
 show bits .and .i64 n 127=23↔_;rw [SK n h0 h1]
theorem JO (n:Int) (h0:0<=n) (h1:n<=4294967295):Is 3 n↔n % 128=111:=by
 show bits .and .i64 n 127=111↔_;rw [SK n h0 h1]
theorem JQ (n:Int) (h0:0<=n) (h1:n<=4294967295):Is 4 n↔n % 128+4096 * (n / 4096 % 8)=103:=by
 show bits .and .i64 n 28799=103↔_;rw [vS n h0 h1]
theorem JR (n:Int) (h0:0<=n) (h1:n<=4294967295):Is 5 n↔n % 128+4096 * (n / 4096 % 8)=99:=by
 show bits .and .i64 n 28799=99↔_;rw [vS n h0 h1]
theorem JU (n:Int) (h0:0<=n) (h1:n<=4294967295):Is 6 n↔n % 128+4096 * (n / 4096 % 8)=4195:=by
 show bits .and .i64 n 28799=4195↔_;rw [vS n h0 h1]
theorem JV (n:Int) (h0:0<=n) (h1:n<=4294967295):Is 7 n↔n % 128+4096 * (n / 4096 % 8)=16483:=by
 show bits .and .i64 n 28799=16483↔_;rw [vS n h0 h1]
theorem JW (n:Int) (h0:0<=n) (h1:n<=4294967295):Is 8 n↔n % 128+4096 * (n / 4096 % 8)=20579:=by
 show bits .and .i64 n 28799=20579↔_;rw [vS n h0 h1]
theorem JX (n:Int) (h0:0<=n) (h1:n<=4294967295):Is 9 n↔n % 128+4096 * (n / 4096 % 8)=24675:=by
 show bits .and .i64 n 28799=24675↔_;rw [vS n h0 h1]
theorem ZB (n:Int) (h0:0<=n) (h1:n<=4294967295):Is 10 n↔n % 128+4096 * (n / 4096 % 8)=28771:=by
 show bits .and .i64 n 28799=28771↔_;rw [vS n h0 h1]
theorem ZC (n:Int) (h0:0<=n) (h1:n<=4294967295):Is 11 n↔n % 128+4096 * (n / 4096 % 8)=8195:=by
 show bits .and .i64 n 28799=8195↔_;rw [vS n h0 h1]
theorem ZE (n:Int) (h0:0<=n) (h1:n<=4294967295):Is 12 n↔n % 128+4096 * (n / 4096 % 8)=8227:=by
 show bits .and .i64 n 28799=8227↔_;rw [vS n h0 h1]
theorem yoe (n:Int) (h0:0<=n) (h1:n<=4294967295):Is 13 n↔n % 128+4096 * (n / 4096 % 8)=19:=by
 show bits .and .i64 n 28799=19↔_;rw [vS n h0 h1]
theorem ypB (n:Int) (h0:0<=n) (h1:n<=4294967295):Is 14 n↔n % 128+4096 * (n / 4096 % 8)=8211:=by
 show bits .and .i64 n 28799=8211↔_;rw [vS n h0 h1]
theorem ypC (n:Int) (h0:0<=n) (h1:n<=4294967295):Is 15 n↔n % 128+4096 * (n / 4096 % 8)=16403:=by
 show bits .and .i64 n 28799=16403↔_;rw [vS n h0 h1]
theorem ypD (n:Int) (h0:0<=n) (h1:n<=4294967295):Is 16 n↔n % 128+4096 * (n / 4096 % 8)=24595:=by
 show bits .and .i64 n 28799=24595↔_;rw [vS n h0 h1]
theorem ypE (n:Int) (h0:0<=n) (h1:n<=4294967295):Is 17 n↔n % 128+4096 * (n / 4096 % 8)=28691:=by
 show bits .and .i64 n 28799=28691↔_;rw [vS n h0 h1]
theorem ypF (n:Int) (h0:0<=n) (h1:n<=4294967295):Is 18 n↔n % 128+4096 * (n / 4096 % 8)+33554432 * (n / 33554432)=51:=by
 show bits .and .i64 n 4261441663=51↔_;rw [Fe n h0 h1]
theorem ypG (n:Int) (h0:0<=n) (h1:n<=4294967295):Is 19 n↔n % 128+4096 * (n / 4096 % 8)+33554432 * (n / 33554432)=1073741875:=by
 show bits .and .i64 n 4261441663=1073741875↔_;rw [Fe n h0 h1]
theorem ypH (n:Int) (h0:0<=n) (h1:n<=4294967295):Is 20 n↔n % 128+4096 * (n / 4096 % 8)+33554432 * (n / 33554432)=8243:=by
 show bits .and .i64 n 4261441663=8243↔_;rw [Fe n h0 h1]
theorem ypI (n:Int) (h0:0<=n) (h1:n<=4294967295):Is 21 n↔n % 128+4096 * (n / 4096 % 8)+33554432 * (n / 33554432)=12339:=by
 show bits .and .i64 n 4261441663=12339↔_;rw [Fe n h0 h1]
theorem ypJ (n:Int) (h0:0<=n) (h1:n<=4294967295):Is 22 n↔n % 128+4096 * (n / 4096 % 8)+33554432 * (n / 33554432)=16435:=by
 show bits .and .i64 n 4261441663=16435↔_;rw [Fe n h0 h1]
theorem ypK (n:Int) (h0:0<=n) (h1:n<=4294967295):Is 23 n↔n % 128+4096 * (n / 4096 % 8)+33554432 * (n / 33554432)=24627:=by
 show bits .and .i64 n 4261441663=24627↔_;rw [Fe n h0 h1]
theorem ypL (n:Int) (h0:0<=n) (h1:n<=4294967295):Is 24 n↔n % 128+4096 * (n / 4096 % 8)+33554432 * (n / 33554432)=28723:=by
 show bits .and .i64 n 4261441663=28723↔_;rw [Fe n h0 h1]
theorem ypM (n:Int) (h0:0<=n) (h1:n<=4294967295):Is 25 n↔n=115:=by
 show bits .and .i64 n 4294967295=115↔_;rw [ypN n h0 h1]
def yu (n op rd dP m:Int):Prop :=
  ((5<=op/\op<=10/\m=0)↔yY n)/\((op=3/\m=0)↔gW n)/\((op=1/\m=0)↔kX 55 n)/\((op=2/\m=0)↔kX 23 n) /\
  ((op=4/\m=0)↔kH 103 0 n)/\((op=11/\m=0)↔kH 3 2 n)/\((op=12/\m=0)↔lY n)/\((op=13/\m=0)↔kH 19 0 n) /\
  ((op=1\/op=2)->rd=n / 128 % 32)/\((op=4\/op=11\/op=12\/op=13)->dP=n / 32768 % 32)
theorem yJ (n d:Int) (h0:0<=n) (h1:n<=4294967295) (hd:1<=d):bits .and .i64 (n / d) 31=n / d % 32:=by
 have a:0<=n / d:=Int.ediv_nonneg h0 (by omega);have b:n / d<=n:=Int.ediv_le_self d h0;exact low (n / d) 5 (by decide) 31 32 rfl rfl a (by omega)
theorem ypd (n:Int) (h0:0<=n) (h1:n<=4294967295) (h:∀ k,1<=k->k<=25->¬ Is k n):yu n 0 0 0 0:=by
 have i1:=h 1 (by decide) (by decide);rw [JM n h0 h1] at i1;have i2:=h 2 (by decide) (by decide);rw [JN n h0 h1] at i2;have i3:=h 3 (by decide) (by decide);rw [JO n h0 h1] at i3;have i4:=h 4 (by decide) (by decide);rw [JQ n h0 h1] at i4;have i5:=h 5 (by decide) (by decide);rw [JR n h0 h1] at i5;have i6:=h 6 (by decide) (by decide);rw [JU n h0 h1] at i6;have i7:=h 7 (by decide) (by decide);rw [JV n h0 h1] at i7;have i8:=h 8 (by decide) (by decide);rw [JW n h0 h1] at i8;have i9:=h 9 (by decide) (by decide);rw [JX n h0 h1] at i9;have i10:=h 10 (by decide) (by decide);rw [ZB n h0 h1] at i10;have i11:=h 11 (by decide) (by decide)
 rw [ZC n h0 h1] at i11;have i12:=h 12 (by decide) (by decide);rw [ZE n h0 h1] at i12;have i13:=h 13 (by decide) (by decide);rw [yoe n h0 h1] at i13;clear h;unfold yu yY gW kX kH lY;refine ⟨?_,?_,?_,?_,?_,?_,?_,?_,?_,?_⟩ <;> omega
theorem ypr (n m:Int) (h0:0<=n) (h1:n<=4294967295) (hi:Is 1 n) (_hm:m=0↔yk 1 n):yu n 1 (eY 1 n) (bE 1 n) m:=by
 rw [JM n h0 h1] at hi;have hz:yk 1 n↔n / 4096=0:=by simp [yk]
 rw [hz] at _hm;have hrd:eY 1 n=n / 128 % 32:=by rw [<- yJ n 128 h0 h1 (by decide)]; rfl
 have hrs:bE 1 n=0:=by rfl
 unfold yu yY gW kX kH lY;rw [hrd,hrs];clear hz;refine ⟨?_,?_,?_,?_,?_,?_,?_,?_,?_,?_⟩ <;> omega
theorem yps (n m:Int) (h0:0<=n) (h1:n<=4294967295) (hi:Is 2 n) (_hm:m=0↔yk 1 n):yu n 2 (eY 1 n) (bE 1 n) m:=by
 rw [JN n h0 h1] at hi;have hz:yk 1 n↔n / 4096=0:=by simp [yk]
 rw [hz] at _hm;have hrd:eY 1 n=n / 128 % 32:=by rw [<- yJ n 128 h0 h1 (by decide)]; rfl
 have hrs:bE 1 n=0:=by rfl
 unfold yu yY gW kX kH lY;rw [hrd,hrs];clear hz;refine ⟨?_,?_,?_,?_,?_,?_,?_,?_,?_,?_⟩ <;> omega
theorem ypt (n m:Int) (h0:0<=n) (h1:n<=4294967295) (hi:Is 3 n) (_hm:m=0↔yk 2 n):yu n 3 (eY 2 n) (bE 2 n) m:=by
 rw [JO n h0 h1] at hi;have hz:yk 2 n↔n / 4096=0:=by simp [yk]
 rw [hz] at _hm;have hrd:eY 2 n=n / 128 % 32:=by rw [<- yJ n 128 h0 h1 (by decide)]; rfl
 have hrs:bE 2 n=0:=by rfl
 unfold yu yY gW kX kH lY;rw [hrd,hrs];clear hz;refine ⟨?_,?_,?_,?_,?_,?_,?_,?_,?_,?_⟩ <;> omega
theorem ypu (n m:Int) (h0:0<=n) (h1:n<=4294967295) (hi:Is 4 n) (_hm:m=0↔yk 3 n):yu n 4 (eY 3 n) (bE 3 n) m:=by
 rw [JQ n h0 h1] at hi;have hz:yk 3 n↔n / 1048576=0:=by simp [yk]
 rw [hz] at _hm;have hrd:eY 3 n=n / 128 % 32:=by rw [<- yJ n 128 h0 h1 (by decide)]; rfl
 have hrs:bE 3 n=n / 32768 % 32:=by rw [<- yJ n 32768 h0 h1 (by decide)]; rfl
 unfold yu yY gW kX kH lY;rw [hrd,hrs];clear hz;refine ⟨?_,?_,?_,?_,?_,?_,?_,?_,?_,?_⟩ <;> omega
theorem ypv (n m:Int) (h0:0<=n) (h1:n<=4294967295) (hi:Is 5 n) (_hm:m=0↔yk 4 n):yu n 5 (eY 4 n) (bE 4 n) m:=by
 rw [JR n h0 h1] at hi;have hz:yk 4 n↔n / 33554432=0/\n / 128 % 32=0:=by simp [yk]
 rw [hz] at _hm;have hrd:eY 4 n=0:=by rfl
 have hrs:bE 4 n=n / 32768 % 32:=by rw [<- yJ n 32768 h0 h1 (by decide)]; rfl
 unfold yu yY gW kX kH lY;rw [hrd,hrs];clear hz;refine ⟨?_,?_,?_,?_,?_,?_,?_,?_,?_,?_⟩ <;> omega
theorem ypw (n m:Int) (h0:0<=n) (h1:n<=4294967295) (hi:Is 6 n) (_hm:m=0↔yk 4 n):yu n 6 (eY 4 n) (bE 4 n) m:=by
 rw [JU n h0 h1] at hi;have hz:yk 4 n↔n / 33554432=0/\n / 128 % 32=0:=by simp [yk]
 rw [hz] at _hm;have hrd:eY 4 n=0:=by rfl
 have hrs:bE 4 n=n / 32768 % 32:=by rw [<- yJ n 32768 h0 h1 (by decide)]; rfl
 unfold yu yY gW kX kH lY;rw [hrd,hrs];clear hz;refine ⟨?_,?_,?_,?_,?_,?_,?_,?_,?_,?_⟩ <;> omega
theorem ypx (n m:Int) (h0:0<=n) (h1:n<=4294967295) (hi:Is 7 n) (_hm:m=0↔yk 4 n):yu n 7 (eY 4 n) (bE 4 n) m:=by
 rw [JV n h0 h1] at hi;have hz:yk 4 n↔n / 33554432=0/\n / 128 % 32=0:=by simp [yk]
 rw [hz] at _hm;have hrd:eY 4 n=0:=by rfl
 have hrs:bE 4 n=n / 32768 % 32:=by rw [<- yJ n 32768 h0 h1 (by decide)]; rfl
 unfold yu yY gW kX kH lY;rw [hrd,hrs];clear hz;refine ⟨?_,?_,?_,?_,?_,?_,?_,?_,?_,?_⟩ <;> omega
theorem ypy (n m:Int) (h0:0<=n) (h1:n<=4294967295) (hi:Is 8 n) (_hm:m=0↔yk 4 n):yu n 8 (eY 4 n) (bE 4 n) m:=by
 rw [JW n h0 h1] at hi;have hz:yk 4 n↔n / 33554432=0/\n / 128 % 32=0:=by simp [yk]
 rw [hz] at _hm;have hrd:eY 4 n=0:=by rfl
 have hrs:bE 4 n=n / 32768 % 32:=by rw [<- yJ n 32768 h0 h1 (by decide)]; rfl
 unfold yu yY gW kX kH lY;rw [hrd,hrs];clear hz;refine ⟨?_,?_,?_,?_,?_,?_,?_,?_,?_,?_⟩ <;> omega
theorem ypz (n m:Int) (h0:0<=n) (h1:n<=4294967295) (hi:Is 9 n) (_hm:m=0↔yk 4 n):yu n 9 (eY 4 n) (bE 4 n) m:=by
 rw [JX n h0 h1] at hi;have hz:yk 4 n↔n / 33554432=0/\n / 128 % 32=0:=by simp [yk]
 rw [hz] at _hm;have hrd:eY 4 n=0:=by rfl
 have hrs:bE 4 n=n / 32768 % 32:=by rw [<- yJ n 32768 h0 h1 (by decide)]; rfl
 unfold yu yY gW kX kH lY;rw [hrd,hrs];clear hz;refine ⟨?_,?_,?_,?_,?_,?_,?_,?_,?_,?_⟩ <;> omega
theorem yoN (n m:Int) (h0:0<=n) (h1:n<=4294967295) (hi:Is 10 n) (_hm:m=0↔yk 4 n):yu n 10 (eY 4 n) (bE 4 n) m:=by
 rw [ZB n h0 h1] at hi;have hz:yk 4 n↔n / 33554432=0/\n / 128 % 32=0:=by simp [yk]
 rw [hz] at _hm;have hrd:eY 4 n=0:=by rfl
 have hrs:bE 4 n=n / 32768 % 32:=by rw [<- yJ n 32768 h0 h1 (by decide)]; rfl
 unfold yu yY gW kX kH lY;rw [hrd,hrs];clear hz;refine ⟨?_,?_,?_,?_,?_,?_,?_,?_,?_,?_⟩ <;> omega
theorem yoO (n m:Int) (h0:0<=n) (h1:n<=4294967295) (hi:Is 11 n) (_hm:m=0↔yk 3 n):yu n 11 (eY 3 n) (bE 3 n) m:=by
 rw [ZC n h0 h1] at hi;have hz:yk 3 n↔n / 1048576=0:=by simp [yk]
 rw [hz] at _hm;have hrd:eY 3 n=n / 128 % 32:=by rw [<- yJ n 128 h0 h1 (by decide)]; rfl
 have hrs:bE 3 n=n / 32768 % 32:=by rw [<- yJ n 32768 h0 h1 (by decide)]; rfl
 unfold yu yY gW kX kH lY;rw [hrd,hrs];clear hz;refine ⟨?_,?_,?_,?_,?_,?_,?_,?_,?_,?_⟩ <;> omega
theorem yoP (n m:Int) (h0:0<=n) (h1:n<=4294967295) (hi:Is 12 n) (_hm:m=0↔yk 5 n):yu n 12 (eY 5 n) (bE 5 n) m:=by
 rw [ZE n h0 h1] at hi;have hz:yk 5 n↔n / 33554432=0/\n / 128 % 32=0:=by simp [yk]
 rw [hz] at _hm;have hrd:eY 5 n=0:=by rfl
 have hrs:bE 5 n=n / 32768 % 32:=by rw [<- yJ n 32768 h0 h1 (by decide)]; rfl
 unfold yu yY gW kX kH lY;rw [hrd,hrs];clear hz;refine ⟨?_,?_,?_,?_,?_,?_,?_,?_,?_,?_⟩ <;> omega
theorem yoQ (n m:Int) (h0:0<=n) (h1:n<=4294967295) (hi:Is 13 n) (_hm:m=0↔yk 3 n):yu n 13 (eY 3 n) (bE 3 n) m:=by
 rw [yoe n h0 h1] at hi;have hz:yk 3 n↔n / 1048576=0:=by simp [yk]
 rw [hz] at _hm;have hrd:eY 3 n=n / 128 % 32:=by rw [<- yJ n 128 h0 h1 (by decide)]; rfl
 have hrs:bE 3 n=n / 32768 % 32:=by rw [<- yJ n 32768 h0 h1 (by decide)]; rfl
 unfold yu yY gW kX kH lY;rw [hrd,hrs];clear hz;refine ⟨?_,?_,?_,?_,?_,?_,?_,?_,?_,?_⟩ <;> omega
theorem yoR (n m:Int) (h0:0<=n) (h1:n<=4294967295) (hi:Is 14 n) (_hm:m=0↔yk 3 n):yu n 14 (eY 3 n) (bE 3 n) m:=by
 rw [ypB n h0 h1] at hi;have hz:yk 3 n↔n / 1048576=0:=by simp [yk]
 rw [hz] at _hm;have hrd:eY 3 n=n / 128 % 32:=by rw [<- yJ n 128 h0 h1 (by decide)]; rfl
 have hrs:bE 3 n=n / 32768 % 32:=by rw [<- yJ n 32768 h0 h1 (by decide)]; rfl
 unfold yu yY gW kX kH lY;rw [hrd,hrs];clear hz;refine ⟨?_,?_,?_,?_,?_,?_,?_,?_,?_,?_⟩ <;> omega
theorem yoS (n m:Int) (h0:0<=n) (h1:n<=4294967295) (hi:Is 15 n) (_hm:m=0↔yk 3 n):yu n 15 (eY 3 n) (bE 3 n) m:=by
 rw [ypC n h0 h1] at hi;have hz:yk 3 n↔n / 1048576=0:=by simp [yk]
 rw [hz] at _hm;have hrd:eY 3 n=n / 128 % 32:=by rw [<- yJ n 128 h0 h1 (by decide)]; rfl
 have hrs:bE 3 n=n / 32768 % 32:=by rw [<- yJ n 32768 h0 h1 (by decide)]; rfl
 unfold yu yY gW kX kH lY;rw [hrd,hrs];clear hz;refine ⟨?_,?_,?_,?_,?_,?_,?_,?_,?_,?_⟩ <;> omega
theorem yoT (n m:Int) (h0:0<=n) (h1:n<=4294967295) (hi:Is 16 n) (_hm:m=0↔yk 3 n):yu n 16 (eY 3 n) (bE 3 n) m:=by
 rw [ypD n h0 h1] at hi;have hz:yk 3 n↔n / 1048576=0:=by simp [yk]
 rw [hz] at _hm;have hrd:eY 3 n=n / 128 % 32:=by rw [<- yJ n 128 h0 h1 (by decide)]; rfl
 have hrs:bE 3 n=n / 32768 % 32:=by rw [<- yJ n 32768 h0 h1 (by decide)]; rfl
 unfold yu yY gW kX kH lY;rw [hrd,hrs];clear hz;refine ⟨?_,?_,?_,?_,?_,?_,?_,?_,?_,?_⟩ <;> omega
theorem yoU (n m:Int) (h0:0<=n) (h1:n<=4294967295) (hi:Is 17 n) (_hm:m=0↔yk 3 n):yu n 17 (eY 3 n) (bE 3 n) m:=by
 rw [ypE n h0 h1] at hi;have hz:yk 3 n↔n / 1048576=0:=by simp [yk]
 rw [hz] at _hm;have hrd:eY 3 n=n / 128 % 32:=by rw [<- yJ n 128 h0 h1 (by decide)]; rfl
 have hrs:bE 3 n=n / 32768 % 32:=by rw [<- yJ n 32768 h0 h1 (by decide)]; rfl
 unfold yu yY gW kX kH lY;rw [hrd,hrs];clear hz;refine ⟨?_,?_,?_,?_,?_,?_,?_,?_,?_,?_⟩ <;> omega
theorem yoV (n m:Int) (h0:0<=n) (h1:n<=4294967295) (hi:Is 18 n) (_hm:m=0↔yk 6 n):yu n 18 (eY 6 n) (bE 6 n) m:=by
 rw [ypF n h0 h1] at hi;have hz:yk 6 n↔True:=by simp [yk]
 rw [hz] at _hm;have hrd:eY 6 n=n / 128 % 32:=by rw [<- yJ n 128 h0 h1 (by decide)]; rfl
 have hrs:bE 6 n=n / 32768 % 32:=by rw [<- yJ n 32768 h0 h1 (by decide)]; rfl
 unfold yu yY gW kX kH lY;rw [hrd,hrs];simp only [iff_true] at _hm;refine ⟨?_,?_,?_,?_,?_,?_,?_,?_,?_,?_⟩ <;> omega
theorem yoW (n m:Int) (h0:0<=n) (h1:n<=4294967295) (hi:Is 19 n) (_hm:m=0↔yk 6 n):yu n 19 (eY 6 n) (bE 6 n) m:=by
 rw [ypG n h0 h1] at hi;have hz:yk 6 n↔True:=by simp [yk]
 rw [hz] at _hm;have hrd:eY 6 n=n / 128 % 32:=by rw [<- yJ n 128 h0 h1 (by decide)]; rfl
 have hrs:bE 6 n=n / 32768 % 32:=by rw [<- yJ n 32768 h0 h1 (by decide)]; rfl
 unfold yu yY gW kX kH lY;rw [hrd,hrs];simp only [iff_true] at _hm;refine ⟨?_,?_,?_,?_,?_,?_,?_,?_,?_,?_⟩ <;> omega
theorem yoX (n m:Int) (h0:0<=n) (h1:n<=4294967295) (hi:Is 20 n) (_hm:m=0↔yk 6 n):yu n 20 (eY 6 n) (bE 6 n) m:=by
 rw [ypH n h0 h1] at hi;have hz:yk 6 n↔True:=by simp [yk]
 rw [hz] at _hm;have hrd:eY 6 n=n / 128 % 32:=by rw [<- yJ n 128 h0 h1 (by decide)]; rfl
 have hrs:bE 6 n=n / 32768 % 32:=by rw [<- yJ n 32768 h0 h1 (by decide)]; rfl
 unfold yu yY gW kX kH lY;rw [hrd,hrs];simp only [iff_true] at _hm;refine ⟨?_,?_,?_,?_,?_,?_,?_,?_,?_,?_⟩ <;> omega
theorem yoY (n m:Int) (h0:0<=n) (h1:n<=4294967295) (hi:Is 21 n) (_hm:m=0↔yk 6 n):yu n 21 (eY 6 n) (bE 6 n) m:=by
 rw [ypI n h0 h1] at hi;have hz:yk 6 n↔True:=by simp [yk]
 rw [hz] at _hm;have hrd:eY 6 n=n / 128 % 32:=by rw [<- yJ n 128 h0 h1 (by decide)]; rfl
 have hrs:bE 6 n=n / 32768 % 32:=by rw [<- yJ n 32768 h0 h1 (by decide)]; rfl
 unfold yu yY gW kX kH lY;rw [hrd,hrs];simp only [iff_true] at _hm;refine ⟨?_,?_,?_,?_,?_,?_,?_,?_,?_,?_⟩ <;> omega
theorem yoZ (n m:Int) (h0:0<=n) (h1:n<=4294967295) (hi:Is 22 n) (_hm:m=0↔yk 6 n):yu n 22 (eY 6 n) (bE 6 n) m:=by
 rw [ypJ n h0 h1] at hi;have hz:yk 6 n↔True:=by simp [yk]
 rw [hz] at _hm;have hrd:eY 6 n=n / 128 % 32:=by rw [<- yJ n 128 h0 h1 (by decide)]; rfl
 have hrs:bE 6 n=n / 32768 % 32:=by rw [<- yJ n 32768 h0 h1 (by decide)]; rfl
 unfold yu yY gW kX kH lY;rw [hrd,hrs];simp only [iff_true] at _hm;refine ⟨?_,?_,?_,?_,?_,?_,?_,?_,?_,?_⟩ <;> omega
theorem ypa (n m:Int) (h0:0<=n) (h1:n<=4294967295) (hi:Is 23 n) (_hm:m=0↔yk 6 n):yu n 23 (eY 6 n) (bE 6 n) m:=by
 rw [ypK n h0 h1] at hi;have hz:yk 6 n↔True:=by simp [yk]
 rw [hz] at _hm;have hrd:eY 6 n=n / 128 % 32:=by rw [<- yJ n 128 h0 h1 (by decide)]; rfl
 have hrs:bE 6 n=n / 32768 % 32:=by rw [<- yJ n 32768 h0 h1 (by decide)]; rfl
 unfold yu yY gW kX kH lY;rw [hrd,hrs];simp only [iff_true] at _hm;refine ⟨?_,?_,?_,?_,?_,?_,?_,?_,?_,?_⟩ <;> omega
theorem ypb (n m:Int) (h0:0<=n) (h1:n<=4294967295) (hi:Is 24 n) (_hm:m=0↔yk 6 n):yu n 24 (eY 6 n) (bE 6 n) m:=by
 rw [ypL n h0 h1] at hi;have hz:yk 6 n↔True:=by simp [yk]
 rw [hz] at _hm;have hrd:eY 6 n=n / 128 % 32:=by rw [<- yJ n 128 h0 h1 (by decide)]; rfl
 have hrs:bE 6 n=n / 32768 % 32:=by rw [<- yJ n 32768 h0 h1 (by decide)]; rfl
 unfold yu yY gW kX kH lY;rw [hrd,hrs];simp only [iff_true] at _hm;refine ⟨?_,?_,?_,?_,?_,?_,?_,?_,?_,?_⟩ <;> omega
theorem ypc (n m:Int) (h0:0<=n) (h1:n<=4294967295) (hi:Is 25 n) (_hm:m=0↔yk 7 n):yu n 25 (eY 7 n) (bE 7 n) m:=by
 rw [ypM n h0 h1] at hi;have hz:yk 7 n↔True:=by simp [yk]
 rw [hz] at _hm;have hrd:eY 7 n=0:=by rfl
 have hrs:bE 7 n=0:=by rfl
 unfold yu yY gW kX kH lY;rw [hrd,hrs];simp only [iff_true] at _hm;refine ⟨?_,?_,?_,?_,?_,?_,?_,?_,?_,?_⟩ <;> omega
theorem uS (n op rd dP m:Int) (h0:0<=n) (h1:n<=4294967295) (h:Dec n op rd dP m):yu n op rd dP m:=by
 rcases h with ⟨rfl,rfl,rfl,rfl,h⟩ | ⟨k,k1,k2,hi,-,rfl,rfl,rfl,hm⟩
 ·exact ypd n h0 h1 h
 ·rcases (show k=1\/k=2\/k=3\/k=4\/k=5\/k=6\/k=7\/k=8\/k=9\/k=10\/k=11\/k=12\/k=13\/k=14\/k=15\/k=16\/k=17\/k=18\/k=19\/k=20\/k=21\/k=22\/k=23\/k=24\/k=25 from by omega) with rfl | rfl | rfl | rfl | rfl | rfl | rfl | rfl | rfl | rfl | rfl | rfl | rfl | rfl | rfl | rfl | rfl | rfl | rfl | rfl | rfl | rfl | rfl | rfl | rfl
  ·exact ypr n m h0 h1 hi hm
  ·exact yps n m h0 h1 hi hm
  ·exact ypt n m h0 h1 hi hm
  ·exact ypu n m h0 h1 hi hm
  ·exact ypv n m h0 h1 hi hm
  ·exact ypw n m h0 h1 hi hm
  ·exact ypx n m h0 h1 hi hm
  ·exact ypy n m h0 h1 hi hm
  ·exact ypz n m h0 h1 hi hm
  ·exact yoN n m h0 h1 hi hm
  ·exact yoO n m h0 h1 hi hm
  ·exact yoP n m h0 h1 hi hm
  ·exact yoQ n m h0 h1 hi hm
  ·exact yoR n m h0 h1 hi hm
  ·exact yoS n m h0 h1 hi hm
  ·exact yoT n m h0 h1 hi hm
  ·exact yoU n m h0 h1 hi hm
  ·exact yoV n m h0 h1 hi hm
  ·exact yoW n m h0 h1 hi hm
  ·exact yoX n m h0 h1 hi hm
  ·exact yoY n m h0 h1 hi hm
  ·exact yoZ n m h0 h1 hi hm
  ·exact ypa n m h0 h1 hi hm
  ·exact ypb n m h0 h1 hi hm
  ·exact ypc n m h0 h1 hi hm
def zn (xs:List Int):Prop:=∀ i (h:i < xs.length),xs[i]=19
theorem yjL (ao:Option Addr) (cap:Nat) (xs:List Int) (w:World) (h:ym w ao xs) (hn:xs.length<=65535) :
  Calls Tryz.prog 161 #[.slice ao xs.length cap] w fun e w'=>yg e (zn xs)/\w'=w:=by
 have H:=hid h;clear h;go_enter Tryz.func161,Tryz.ntmps161;go_wp2
 go_loop [7] (fun i=>∃ k:Nat,k<=xs.length/\i = .int .i64 k/\∀ j (hj:j < xs.length),j < k->xs[j]=19) (fun i=>xs.length - (intOf i).toNat)
 case atStart=>exact ⟨0,Nat.zero_le _,rfl,fun j _ hj=>absurd hj (Nat.not_lt_zero j)⟩
 case round =>
  obtain ⟨k,hk,rfl,hall⟩:=hrel;have HA:=hid hall;clear hall;by_cases hlt:k < xs.length
  ·obtain ⟨g,off,rfl,hc⟩:=H.o (by omega);have hck:=hc k hlt;clear hc;by_cases h1:xs[k]=19
   ·have HE:=hid h1;have d1:(xs[k] == 19)=true:=beq_iff_eq.2 h1;clear h1;go_wp2
    go_round
    case rel=>exact ⟨k+1,by omega,by go_num,fun j hj hjk=>(Nat.lt_succ_iff_lt_or_eq.1 hjk).elim (fun h=>HA.o j hj h) (fun h=>by subst h; exact HE.o)⟩
    case measure=>simp [intOf]; omega
   ·have N:=hid (show ¬ zn xs from fun hw=>h1 (hw k hlt));have d1:(xs[k] == 19)=false:=beq_eq_false_iff_ne.2 h1;clear h1;go_wp2;go_ret;exact ⟨yg.no N.o,rfl⟩
  ·go_wp2;go_ret;exact ⟨yg.yes fun i hi=>HA.o i hi (by omega),rfl⟩
def Ch (kind op1 rd m1 op2 rs m2:Int):Prop:=(rd≠0/\rs=rd/\m1=0/\m2=0)/\(if kind=4 then op1=2/\op2=4 else op1=1/\(op2=13\/op2=11\/op2=12))
theorem Xt (kind op1 wZ s1 t1 m1 op2 ql s2 t2 m2:Int) (w:World) :
  Calls Tryz.prog 160 #[.int .i64 kind,gP op1 wZ s1 t1 m1,gP op2 ql s2 t2 m2] w fun e w'=>yg e (Ch kind op1 wZ m1 op2 s2 m2)/\w.grownBy w' none:=by
 have G1:=hid (fun o:Obj=>aH w o none);have G2:=hid (fun o o':Obj=>aH (w.alloc o) o' none);have HQ:=hid (show Ch kind op1 wZ m1 op2 s2 m2↔(wZ≠0/\s2=wZ/\m1=0/\m2=0)/\(if kind=4 then op1=2/\op2=4 else op1=1/\(op2=13\/op2=11\/op2=12)) from Iff.rfl);generalize Ch kind op1 wZ m1 op2 s2 m2=Q at *;unfold gP;by_cases c1:wZ=0
 ·have N:=hid (show ¬ Q from fun q=>(HQ.o.1 q).1.1 c1);subst c1;clear HQ;go_enter Tryz.func160,Tryz.ntmps160;go_wp2;go_ret;exact ⟨yg.no N.o,ya (G1.o _) (G2.o _ _)⟩
 have d1:(wZ == 0)=false:=beq_eq_false_iff_ne.2 c1;by_cases c2:s2=wZ
 rotate_left
 ·have N:=hid (show ¬ Q from fun q=>c2 (HQ.o.1 q).1.2.1);have d2:(s2 != wZ)=true:=by simpa using c2
  clear HQ c1 c2;go_enter Tryz.func160,Tryz.ntmps160;go_wp2;go_ret;exact ⟨yg.no N.o,ya (G1.o _) (G2.o _ _)⟩
 subst c2;have d2:(s2 == s2)=true:=by simp
 by_cases c3:m1=0
 rotate_left
 ·have N:=hid (show ¬ Q from fun q=>c3 (HQ.o.1 q).1.2.2.1);have d3:(m1 == 0)=false:=beq_eq_false_iff_ne.2 c3;clear HQ c1 c3;go_enter Tryz.func160,Tryz.ntmps160;go_wp2;go_ret;exact ⟨yg.no N.o,ya (G1.o _) (G2.o _ _)⟩
 subst c3;by_cases c4:m2=0
 rotate_left
 ·have N:=hid (show ¬ Q from fun q=>c4 (HQ.o.1 q).1.2.2.2);have d4:(m2 == 0)=false:=beq_eq_false_iff_ne.2 c4;clear HQ c1 c4;go_enter Tryz.func160,Tryz.ntmps160;go_wp2;go_ret;exact ⟨yg.no N.o,ya (G1.o _) (G2.o _ _)⟩
 subst c4;have C1:=hid c1;clear c1;by_cases k4:kind=4
 ·subst k4;have jW:=hid (show Q↔op1=2/\op2=4 from by rw [HQ.o,if_pos rfl]; exact ⟨fun h=>h.2,fun h=>⟨⟨C1.o,rfl,rfl,rfl⟩,h⟩⟩);clear HQ;by_cases o1:op1=2
  ·subst o1;go_enter Tryz.func160,Tryz.ntmps160;go_wp2;go_ret;exact ⟨yg.of (by rw [jW.o,beq_iff_eq]; simp),ya (G1.o _) (G2.o _ _)⟩
  ·have N:=hid (show ¬ Q from fun q=>o1 (jW.o.1 q).1);have d5:(op1 == 2)=false:=beq_eq_false_iff_ne.2 o1;clear jW o1;go_enter Tryz.func160,Tryz.ntmps160;go_wp2;go_ret;exact ⟨yg.no N.o,ya (G1.o _) (G2.o _ _)⟩
 ·have jW:=hid (show Q↔op1=1/\(op2=13\/op2=11\/op2=12) from by rw [HQ.o,if_neg k4]; exact ⟨fun h=>h.2,fun h=>⟨⟨C1.o,rfl,rfl,rfl⟩,h⟩⟩);have dk:(kind == 4)=false:=beq_eq_false_iff_ne.2 k4;clear HQ k4;by_cases o1:op1=1
  rotate_left
  ·have N:=hid (show ¬ Q from fun q=>o1 (jW.o.1 q).1);have d5:(op1 == 1)=false:=beq_eq_false_iff_ne.2 o1;clear jW o1;go_enter Tryz.func160,Tryz.ntmps160;go_wp2;go_ret;exact ⟨yg.no N.o,ya (G1.o _) (G2.o _ _)⟩
  subst o1;by_cases o2:op2=13
  ·subst o2;go_enter Tryz.func160,Tryz.ntmps160;go_wp2;go_ret;exact ⟨yg.yes (by rw [jW.o]; simp),ya (G1.o _) (G2.o _ _)⟩
  have e2:(op2 == 13)=false:=beq_eq_false_iff_ne.2 o2;by_cases o3:op2=11
  ·subst o3;go_enter Tryz.func160,Tryz.ntmps160;go_wp2;go_ret;exact ⟨yg.yes (by rw [jW.o]; simp),ya (G1.o _) (G2.o _ _)⟩
  have e3:(op2 == 11)=false:=beq_eq_false_iff_ne.2 o3;have O:=hid (⟨o2,o3⟩:op2≠13/\op2≠11);clear o2 o3;go_enter Tryz.func160,Tryz.ntmps160;go_wp2;go_ret;exact ⟨yg.of (by rw [jW.o,beq_iff_eq]; have:=O.o; simp; omega),ya (G1.o _) (G2.o _ _)⟩
def Fa (kind a b:Int):Prop:=a / 128 % 32≠0/\b / 32768 % 32=a / 128 % 32/\(if kind=4 then kX 23 a/\kH 103 0 b else kX 55 a/\(kH 19 0 b\/kH 3 2 b\/lY b))
theorem MR (kind a b op1 wZ s1 m1 op2 ql s2 m2:Int) (h1:yu a op1 wZ s1 m1) (h2:yu b op2 ql s2 m2):Ch kind op1 wZ m1 op2 s2 m2↔Fa kind a b:=by
 obtain ⟨-,-,a1,a2,-,-,-,-,a9,-⟩:=h1;obtain ⟨-,-,-,-,b4,b11,b12,b13,-,b10⟩:=h2;unfold Ch Fa;rw [<- a1,<- a2,<- b4,<- b11,<- b12,<- b13];split
 ·constructor
  ·rintro ⟨⟨x1,x2,x3,x4⟩,x5,x6⟩;have y1:=a9 (.inr x5);have y2:=b10 (.inl x6);rw [<- y1,<- y2];exact ⟨x1,x2,⟨x5,x3⟩,x6,x4⟩
  ·rintro ⟨x1,x2,⟨x5,x3⟩,x6,x4⟩;have y1:=a9 (.inr x5);have y2:=b10 (.inl x6);rw [<- y1] at x1 x2;rw [<- y2] at x2;exact ⟨⟨x1,x2,x3,x4⟩,x5,x6⟩
 ·constructor
  ·rintro ⟨⟨x1,x2,x3,x4⟩,x5,x6⟩;have y1:=a9 (.inl x5);have y2:=b10 (by omega);rw [<- y1,<- y2];exact ⟨x1,x2,⟨x5,x3⟩,by omega⟩
  ·rintro ⟨x1,x2,⟨x5,x3⟩,x6⟩;have y1:=a9 (.inl x5);have y2:=b10 (by omega);rw [<- y1] at x1 x2;rw [<- y2] at x2;exact ⟨⟨x1,x2,x3,by omega⟩,x5,by omega⟩
def yv (kind:Int) (xs:List Int):Prop :=
 if kind=1 then xs.getD 0 0=0 else if kind=2 then yY (xs.getD 0 0) else if kind=3 then gW (xs.getD 0 0) else if kind=4\/kind=5 then Fa kind (xs.getD 0 0) (xs.getD 1 0) else if kind=6 then zn xs else False
theorem X5 (kind:Int) (w:World) :
  Calls Tryz.prog 154 #[.int .i64 kind,.slice none 0 0] w fun e w'=>e = .returned (.bool false)/\w'=w:=by
 go_enter Tryz.func154,Tryz.ntmps154;go_wp2;go_ret;exact ⟨rfl,rfl⟩
theorem X4 (kind:Int) (ao:Option Addr) (cap:Nat) (xs:List Int) (w:World) (ht:fZ w) (h:ym w ao xs) (hw:j6 xs) (hn:xs.length<=3) (hn1:1<=xs.length) (hk:1<=kind/\kind<=6) (h2:kind=4\/kind=5->xs.length=2) :
  Calls Tryz.prog 154 #[.int .i64 kind,.slice ao xs.length cap] w fun e w'=>yg e (yv kind xs)/\w.grownBy w' none:=by
 obtain ⟨g,off,rfl,hc⟩:=h (by omega);have hx0:=hw 0 (by omega);have hgd:xs.getD 0 0=xs[0]:=by rw [iJ,gy (by omega)]; rfl
 have q0:=hc 0 (by omega);have cD:=hid (Ri xs[0] w ht hx0.1 hx0.2);have cN:=hid (fun W (hW:ym W (some ⟨g,off,none⟩) xs)=>yjL (some ⟨g,off,none⟩) cap xs W hW (by omega));have HI:=hid h;simp only [Nat.add_zero] at q0;rcases (show kind=1\/kind=2\/kind=3\/kind=6\/kind=4\/kind=5 from by omega) with rfl | rfl | rfl | rfl | rfl | rfl
 ·have HQ:=hid (show yv 1 xs↔xs[0]=0 from by simp only [yv,if_true]; rw [hgd]);generalize yv 1 xs=Q at *;clear h2 hk h hc hw ht HI;go_enter Tryz.func154,Tryz.ntmps154;go_wp2_with fail;refine cD.o.mono ?_;rintro e w1 ⟨⟨op,rd,s1,t1,m,rfl,hd⟩,hq⟩;have q1:=yc q0 hq;unfold gP;have jX:=hid hq;clear hq q0 hd;have GA:=hid (fun ob:Obj=>aH w1 ob none);have q2:=fun ob:Obj=>yc q1 (aH w1 ob none)
  go_wp2;go_ret;exact ⟨yg.of (by rw [HQ.o,beq_iff_eq]),ya jX.o (GA.o _)⟩
 ·have HQ:=hid (show yv 2 xs↔yY xs[0] from by unfold yv; rw [if_neg (by decide),if_pos rfl,hgd]);generalize yv 2 xs=Q at *;clear h2 hk h hc hw ht HI;go_enter Tryz.func154,Tryz.ntmps154;go_wp2_with fail;refine cD.o.mono ?_;rintro e w1 ⟨⟨op,rd,s1,t1,m,rfl,hd⟩,hq⟩;have q1:=yc q0 hq;unfold gP;have jX:=hid hq;have DF:=hid (uS xs[0] op rd s1 m hx0.1 hx0.2 hd);clear hq q0 hd;have GA:=hid (fun ob:Obj=>aH w1 ob none);by_cases o1:5<=op
  ·have d1:decide (5<=op)=true:=by simpa using o1
   by_cases o2:op<=10
   ·have d2:decide (op<=10)=true:=by simpa using o2
    go_wp2;go_ret;exact ⟨yg.of (by rw [HQ.o,<- DF.o.1,beq_iff_eq]; exact ⟨fun h=>⟨o1,o2,h⟩,fun h=>h.2.2⟩),ya jX.o (GA.o _)⟩
   ·have d2:decide (op<=10)=false:=by simp; omega
    go_wp2;go_ret;exact ⟨yg.no (by rw [HQ.o,<- DF.o.1]; omega),ya jX.o (GA.o _)⟩
  ·have d1:decide (5<=op)=false:=by simp; omega
   go_wp2;go_ret;exact ⟨yg.no (by rw [HQ.o,<- DF.o.1]; omega),ya jX.o (GA.o _)⟩
 ·have HQ:=hid (show yv 3 xs↔gW xs[0] from by unfold yv; rw [if_neg (by decide),if_neg (by decide),if_pos rfl,hgd]);generalize yv 3 xs=Q at *;clear h2 hk h hc hw ht HI;go_enter Tryz.func154,Tryz.ntmps154;go_wp2_with fail;refine cD.o.mono ?_;rintro e w1 ⟨⟨op,rd,s1,t1,m,rfl,hd⟩,hq⟩;have q1:=yc q0 hq;unfold gP;have jX:=hid hq;have DF:=hid (uS xs[0] op rd s1 m hx0.1 hx0.2 hd);clear hq q0 hd;have GA:=hid (fun ob:Obj=>aH w1 ob none);by_cases o1:op=3
  ·subst o1;go_wp2;go_ret;exact ⟨yg.of (by rw [HQ.o,<- DF.o.2.1,beq_iff_eq]; simp),ya jX.o (GA.o _)⟩
  ·have d1:(op == 3)=false:=beq_eq_false_iff_ne.2 o1;have O:=hid o1;clear o1;go_wp2;go_ret;exact ⟨yg.no (by rw [HQ.o,<- DF.o.2.1]; have:=O.o; omega),ya jX.o (GA.o _)⟩
 ·have HQ:=hid (show yv 6 xs↔zn xs from by unfold yv; rw [if_neg (by decide),if_neg (by decide),if_neg (by decide),if_neg (by decide),if_pos rfl]);generalize yv 6 xs=Q at *;clear h2 hk h hc hw ht;go_enter Tryz.func154,Tryz.ntmps154;go_wp2_with fail;refine cD.o.mono ?_;rintro e w1 ⟨⟨op,rd,s1,t1,m,rfl,hd⟩,hq⟩;have q1:=yc q0 hq;unfold gP;have jX:=hid hq;have DF:=hid (uS xs[0] op rd s1 m hx0.1 hx0.2 hd);clear hq q0 hd;have GA:=hid (fun ob:Obj=>aH w1 ob none);go_wp2_with fail;refine (cN.o _ ((HI.o.kept (fun a v hv=>yc hv jX.o)).kept (fun a v hv=>yc hv (GA.o _)))).mono ?_;rintro e w2 ⟨t,rfl⟩;obtain ⟨b,rfl,hb⟩:=t
  have mX:=hid hb;clear hb;go_wp2;go_ret;exact ⟨yg.of (by rw [HQ.o]; exact mX.o),ya jX.o (GA.o _)⟩
 ·have hl2:=h2 (by omega);have hlt1:1 < xs.length:=by omega
  have hx1:=hw 1 hlt1;have hgd1:xs.getD 1 0=xs[1]'hlt1:=by rw [iJ,gy hlt1]; rfl
  have HQ:=hid (show yv 4 xs↔Fa 4 xs[0] xs[1] from by unfold yv; rw [if_neg (by decide),if_neg (by decide),if_neg (by decide),if_pos (by decide),hgd,hgd1]);have q1:=hc 1 hlt1;have D6:=hid (fun W (hW:fZ W)=>Ri xs[1] W hW hx1.1 hx1.2);have HT:=hid ht;generalize yv 4 xs=Q at *;have dl:((xs.length:Int) == 2)=true:=by rw [beq_iff_eq]; omega
  have hl3:2<=xs.length:=by omega
  have g1:(1:Int) < (xs.length:Int):=by omega
  have g2:(0:Int) < (xs.length:Int):=by omega
  clear h2 hk h hc hw ht HI cN hl2;go_enter Tryz.func154,Tryz.ntmps154;go_wp2_with fail;refine cD.o.mono ?_;rintro e w1 ⟨⟨op,rd,s1,t1,m,rfl,hd⟩,hq⟩;unfold gP;have B:=ye.new w1 #[.int .i64 op,.int .i64 rd,.int .i64 s1,.int .i64 t1,.int .i64 m] 195;have GA:=aH w1 (.cells #[.int .i64 op,.int .i64 rd,.int .i64 s1,.int .i64 t1,.int .i64 m] 195) none;have c0:Hd ((w1.alloc (.cells #[.int .i64 op,.int .i64 rd,.int .i64 s1,.int .i64 t1,.int .i64 m] 195)).drew.cell? ⟨w1.heap.size,0,none⟩=some (.int .i64 op)):=B.cell 0;have c1:Hd ((w1.alloc (.cells #[.int .i64 op,.int .i64 rd,.int .i64 s1,.int .i64 t1,.int .i64 m] 195)).drew.cell? ⟨w1.heap.size,1,none⟩=some (.int .i64 rd)):=B.cell 1
  have c2:Hd ((w1.alloc (.cells #[.int .i64 op,.int .i64 rd,.int .i64 s1,.int .i64 t1,.int .i64 m] 195)).drew.cell? ⟨w1.heap.size,2,none⟩=some (.int .i64 s1)):=B.cell 2;have c3:Hd ((w1.alloc (.cells #[.int .i64 op,.int .i64 rd,.int .i64 s1,.int .i64 t1,.int .i64 m] 195)).drew.cell? ⟨w1.heap.size,3,none⟩=some (.int .i64 t1)):=B.cell 3;have c4:Hd ((w1.alloc (.cells #[.int .i64 op,.int .i64 rd,.int .i64 s1,.int .i64 t1,.int .i64 m] 195)).drew.cell? ⟨w1.heap.size,4,none⟩=some (.int .i64 m)):=B.cell 4;have c5:Hd ((w1.alloc (.cells #[.int .i64 op,.int .i64 rd,.int .i64 s1,.int .i64 t1,.int .i64 m] 195)).drew.cell? ⟨g,off+1,none⟩=some (.int .i64 xs[1])):=yc (yc q1 hq) (yf GA)
  have hgl:g < w1.heap.size:=World.block_lt_of_cell? w1 _ (yc q1 hq);have hnew:=World.new_ne w1 ⟨g,off+1,none⟩ (yc q1 hq);have q2:=yc q1 hq;have GG:=hid (ya hq (yf GA));have DF:=hid (uS xs[0] op rd s1 m hx0.1 hx0.2 hd);clear hq q0 q1 hd B GA cD;go_wp2
  go_region_held3 (fun w'=>w'.cell? ⟨w1.heap.size,0,none⟩=some (.int .i64 op)/\w'.cell? ⟨w1.heap.size,1,none⟩=some (.int .i64 rd)/\w'.cell? ⟨w1.heap.size,2,none⟩=some (.int .i64 s1)/\w'.cell? ⟨w1.heap.size,3,none⟩=some (.int .i64 t1)/\w'.cell? ⟨w1.heap.size,4,none⟩=some (.int .i64 m)/\w'.cell? ⟨g,off+1,none⟩=some (.int .i64 xs[1]))
   (go_keep)
   (first | (go_at_call 130; refine (D6.o _ (HT.o.grown GG.o)).mono ?_; rintro e w' ⟨⟨op2,ql,s2,t2,m2,rfl,hd2⟩,hq⟩; have s0:=yc c0.o hq; have s1':=yc c1.o hq; have s2':=yc c2.o hq; have s3:=yc c3.o hq; have s4:=yc c4.o hq; have s5:=yc c5.o hq) | (go_at_call 160; refine (Xt 4 op rd s1 t1 m op2 ql s2 t2 m2 _).mono ?_; rintro e w'' ⟨⟨b,rfl,hb⟩,hq2⟩; have z0:=yc s0 hq2; have z1:=yc s1' hq2; have z2:=yc s2' hq2; have z3:=yc s3 hq2; have z4:=yc s4 hq2; have z5:=yc s5 hq2))
  have mX:=hid hb;have D2:=hid (uS xs[1] op2 ql s2 m2 hx1.1 hx1.2 hd2);have GF:=hid (ya (ya GG.o hq) hq2);clear hb hd2 hq hq2 s0 s1' s2' s3 s4 s5 z0 z1 z2 z3 z4 z5;go_wp2;go_ret;exact ⟨yg.of (by rw [HQ.o,<- MR 4 xs[0] xs[1] op rd s1 m op2 ql s2 m2 DF.o D2.o]; exact mX.o),GF.o⟩
 ·have hl2:=h2 (by omega);have hlt1:1 < xs.length:=by omega
  have hx1:=hw 1 hlt1;have hgd1:xs.getD 1 0=xs[1]'hlt1:=by rw [iJ,gy hlt1]; rfl
  have HQ:=hid (show yv 5 xs↔Fa 5 xs[0] xs[1] from by unfold yv; rw [if_neg (by decide),if_neg (by decide),if_neg (by decide),if_pos (by decide),hgd,hgd1]);have q1:=hc 1 hlt1;have D6:=hid (fun W (hW:fZ W)=>Ri xs[1] W hW hx1.1 hx1.2);have HT:=hid ht;generalize yv 5 xs=Q at *;have dl:((xs.length:Int) == 2)=true:=by rw [beq_iff_eq]; omega
  have hl3:2<=xs.length:=by omega
  have g1:(1:Int) < (xs.length:Int):=by omega
  have g2:(0:Int) < (xs.length:Int):=by omega
  clear h2 hk h hc hw ht HI cN hl2;go_enter Tryz.func154,Tryz.ntmps154;go_wp2_with fail;refine cD.o.mono ?_;rintro e w1 ⟨⟨op,rd,s1,t1,m,rfl,hd⟩,hq⟩;unfold gP;have B:=ye.new w1 #[.int .i64 op,.int .i64 rd,.int .i64 s1,.int .i64 t1,.int .i64 m] 195;have GA:=aH w1 (.cells #[.int .i64 op,.int .i64 rd,.int .i64 s1,.int .i64 t1,.int .i64 m] 195) none;have c0:Hd ((w1.alloc (.cells #[.int .i64 op,.int .i64 rd,.int .i64 s1,.int .i64 t1,.int .i64 m] 195)).drew.cell? ⟨w1.heap.size,0,none⟩=some (.int .i64 op)):=B.cell 0;have c1:Hd ((w1.alloc (.cells #[.int .i64 op,.int .i64 rd,.int .i64 s1,.int .i64 t1,.int .i64 m] 195)).drew.cell? ⟨w1.heap.size,1,none⟩=some (.int .i64 rd)):=B.cell 1
  have c2:Hd ((w1.alloc (.cells #[.int .i64 op,.int .i64 rd,.int .i64 s1,.int .i64 t1,.int .i64 m] 195)).drew.cell? ⟨w1.heap.size,2,none⟩=some (.int .i64 s1)):=B.cell 2;have c3:Hd ((w1.alloc (.cells #[.int .i64 op,.int .i64 rd,.int .i64 s1,.int .i64 t1,.int .i64 m] 195)).drew.cell? ⟨w1.heap.size,3,none⟩=some (.int .i64 t1)):=B.cell 3;have c4:Hd ((w1.alloc (.cells #[.int .i64 op,.int .i64 rd,.int .i64 s1,.int .i64 t1,.int .i64 m] 195)).drew.cell? ⟨w1.heap.size,4,none⟩=some (.int .i64 m)):=B.cell 4;have c5:Hd ((w1.alloc (.cells #[.int .i64 op,.int .i64 rd,.int .i64 s1,.int .i64 t1,.int .i64 m] 195)).drew.cell? ⟨g,off+1,none⟩=some (.int .i64 xs[1])):=yc (yc q1 hq) (yf GA)
  have hgl:g < w1.heap.size:=World.block_lt_of_cell? w1 _ (yc q1 hq);have hnew:=World.new_ne w1 ⟨g,off+1,none⟩ (yc q1 hq);have q2:=yc q1 hq;have GG:=hid (ya hq (yf GA));have DF:=hid (uS xs[0] op rd s1 m hx0.1 hx0.2 hd);clear hq q0 q1 hd B GA cD;go_wp2
  go_region_held3 (fun w'=>w'.cell? ⟨w1.heap.size,0,none⟩=some (.int .i64 op)/\w'.cell? ⟨w1.heap.size,1,none⟩=some (.int .i64 rd)/\w'.cell? ⟨w1.heap.size,2,none⟩=some (.int .i64 s1)/\w'.cell? ⟨w1.heap.size,3,none⟩=some (.int .i64 t1)/\w'.cell? ⟨w1.heap.size,4,none⟩=some (.int .i64 m)/\w'.cell? ⟨g,off+1,none⟩=some (.int .i64 xs[1]))
   (go_keep)
   (first | (go_at_call 130; refine (D6.o _ (HT.o.grown GG.o)).mono ?_; rintro e w' ⟨⟨op2,ql,s2,t2,m2,rfl,hd2⟩,hq⟩; have s0:=yc c0.o hq; have s1':=yc c1.o hq; have s2':=yc c2.o hq; have s3:=yc c3.o hq; have s4:=yc c4.o hq; have s5:=yc c5.o hq) | (go_at_call 160; refine (Xt 5 op rd s1 t1 m op2 ql s2 t2 m2 _).mono ?_; rintro e w'' ⟨⟨b,rfl,hb⟩,hq2⟩; have z0:=yc s0 hq2; have z1:=yc s1' hq2; have z2:=yc s2' hq2; have z3:=yc s3 hq2; have z4:=yc s4 hq2; have z5:=yc s5 hq2))
  have mX:=hid hb;have D2:=hid (uS xs[1] op2 ql s2 m2 hx1.1 hx1.2 hd2);have GF:=hid (ya (ya GG.o hq) hq2);clear hb hd2 hq hq2 s0 s1' s2' s3 s4 s5 z0 z1 z2 z3 z4 z5;go_wp2;go_ret;exact ⟨yg.of (by rw [HQ.o,<- MR 5 xs[0] xs[1] op rd s1 m op2 ql s2 m2 DF.o D2.o]; exact mX.o),GF.o⟩
def j4 (o:Lk.Obj) (r:Lk.Rel):Prop:=r.kind=6->r.addend+4<=yL (o.align.getD (r.ah.toNat - 1) 0)
def yV (o:Lk.Obj) (r:Lk.Rel):Prop:=yH r/\yl r/\jw o r/\j4 o r/\yA o r/\yv r.kind (yz o r)/\¬ yQ o r
theorem w9 {o:Lk.Obj} {r:Lk.Rel} (ha:yl r) (hab:yA o r) (hw:j6 (yh o r.ah)):(yz o r).length=(yr r).toNat/\j6 (yz o r)/\(yz o r).length<=3/\1<=(yz o r).length:=by
 have hs:=yC ha;obtain ⟨b1,b2,b3⟩:=hab;have hl:(yz o r).length=(yr r).toNat:=by unfold yz; simp; omega
 refine ⟨hl,?_,by omega,by omega⟩;intro i hi;have hi':(r.off / 4).toNat+i < (yh o r.ah).length:=by omega
 have e:(yz o r)[i]=(yh o r.ah)[(r.off / 4).toNat+i]:=by
  simp only [yz,List.getElem_take,List.getElem_drop]
 rw [e];exact hw _ hi'
theorem xQ {o:Lk.Obj} (h:pR o) (ah:Int):j6 (yh o ah):=by
 unfold yh;split
 ·exact h.1
 split
 ·exact h.2.1
 split
 ·exact h.2.2
 ·intro i hi; simp at hi
theorem YB {e:Ending} {P:Prop} (h:yg e P) (hp:P):e = .returned (.bool true):=by
 rcases h.split with ⟨_,q⟩ | ⟨h1,_⟩
 ·exact absurd hp q.o
 ·exact h1
theorem YG {e:Ending} {P:Prop} (h:yg e P) (hp:¬ P):e = .returned (.bool false):=by
 rcases h.split with ⟨h1,_⟩ | ⟨_,q⟩
 ·exact h1
 ·exact absurd q.o hp
theorem yhQ (g:Nat) (o:Lk.Obj) (r:Lk.Rel) (w:World) (ht:fZ w) (h:yq w g o) (hn:kV o) (hb4:oI o.align) (hw:pR o) (hr:r.off<=9223372036854775807) :
  Calls Tryz.prog 140 #[.pointer (some ⟨g,0,none⟩),bY r] w fun e w'=>yg e (yV o r)/\w.grownBy w' none:=by
 have no:Hd (∀ W,(¬ yV o r)->w.grownBy W none->yg (.returned (.bool false)) (yV o r)/\w.grownBy W none):=fun W a b=>⟨yg.no a,b⟩
 have HO:=hid h;have HT:=hid ht;have HN:=hid hn;have rG:=hid hb4;have HW:=hid hw;clear h ht hn hb4 hw;have B:=ye.new w #[.int .i64 r.ah,.int .i64 r.off,.int .i64 r.kind,.int .i64 r.sym,.int .i64 r.addend] 83;have GB:=aH w (.cells #[.int .i64 r.ah,.int .i64 r.off,.int .i64 r.kind,.int .i64 r.sym,.int .i64 r.addend] 83) none;have ZX:=hid B;have Z5:=hid GB;clear B GB;have cK:=hid (fun W=>yiy r W);have cA:=hid (fun W=>yhm r W);have cS:=hid (fun W (hW:yq W g o)=>yjE g o r W hW HN.o);have fold:bY r = .agg #[.int .i64 r.ah,.int .i64 r.off,.int .i64 r.kind,.int .i64 r.sym,.int .i64 r.addend]:=rfl;rw [fold]
 rw [fold] at cK cA cS;clear fold;go_enter Tryz.func140,Tryz.ntmps140;go_wp2_with fail;refine Calls.bG (fun W=>ye W w.heap.size #[.int .i64 r.ah,.int .i64 r.off,.int .i64 r.kind,.int .i64 r.sym,.int .i64 r.addend] 83/\w.grownBy W none) ⟨ZX.o,Z5.o⟩ ?_;rintro W1 ⟨bk1,g1⟩;refine (cK.o W1).mono ?_;rintro e W2 ⟨t,q⟩;have Cm:=bk1.grown q (by simp);have G2:=hid (ya g1 q);rcases t.split with ⟨rfl,p1⟩ | ⟨rfl,p1⟩ <;> clear t q bk1 g1
 ·clear Cm;go_wp2;go_ret;exact no.o _ (fun h=>p1.o h.1) G2.o
 have c0:=Cm.cell 0;have c1:=Cm.cell 1;have c2:=Cm.cell 2;have c3:=Cm.cell 3;have c4:=Cm.cell 4;have HB2:=hid Cm;clear Cm;go_wp2_with fail;refine (cA.o W2).mono ?_;rintro e W3 ⟨t,q⟩;have Cn:=HB2.o.grown q (by simp);have G3:=hid (ya G2.o q);clear c0 c1 c2 c3 c4;rcases t.split with ⟨rfl,p2⟩ | ⟨rfl,p2⟩ <;> clear t q
 ·clear Cn;go_wp2;go_ret;exact no.o _ (fun h=>p2.o h.2.1) G3.o
 have c0:=Cn.cell 0;have c1:=Cn.cell 1;have c2:=Cn.cell 2;have c3:=Cn.cell 3;have c4:=Cn.cell 4;have HB3:=hid Cn;clear Cn;go_wp2_with fail;refine (cS.o W3 (HO.o.kept G3.o)).mono ?_;rintro e W4 ⟨t,q⟩;have Co:=HB3.o.grown q (by simp);have G4:=hid (ya G3.o q);clear c0 c1 c2 c3 c4;rcases t.split with ⟨rfl,p3⟩ | ⟨rfl,p3⟩ <;> clear t q
 ·clear Co;go_wp2;go_ret;exact no.o _ (fun h=>p3.o h.2.2.1) G4.o
 have c0:=Co.cell 0;have c1:=Co.cell 1;have c2:=Co.cell 2;have c3:=Co.cell 3;have c4:=Co.cell 4;have Ie:=hid Co;clear Co;have kinds:=p1.o;unfold yH at kinds;by_cases Ap:r.kind=6
 ·have hs:1<=r.ah/\r.ah<=2:=by omega
  have ha:=p2.o.six Ap;obtain ⟨sn,hsn⟩:∃ sn:Nat,r.ah=(sn:Int):=⟨r.ah.toNat,by omega⟩
  have hal:=rG.o.1;have cB:=hid (fun W (hW:yq W g o)=>show Calls Tryz.prog 78 #[.pointer (some ⟨g,0,none⟩),.int .i64 r.ah] W fun e w'=>e = .returned (.int .i64 (yL (o.align.getD (r.ah.toNat - 1) 0)))/\w'=W from by
   have:=Xm g o sn W hW rG.o (by omega) (by omega)
   rw [hsn,Int.toNat_natCast,iJ,gy (by omega)];exact this)
  have BB:=hid (show j4 o r↔r.addend+4<=yL (o.align.getD (r.ah.toNat - 1) 0) from ⟨fun h=>h Ap,fun h _=>h⟩);generalize yL (o.align.getD (r.ah.toNat - 1) 0)=bd at *;have d6:(r.kind == 6)=true:=beq_iff_eq.2 Ap;have hw4:IntKind.i64.wrap (r.addend+4)=r.addend+4:=IntWalk.i64_in _ ⟨by omega,by omega⟩;have K6:=hid Ap;clear Ap kinds hsn hal;by_cases hbd:bd < r.addend+4
  ·have db:decide (bd < r.addend+4)=true:=by simpa using hbd
   go_wp2
   go_quiet ((go_at_call 78; exact Calls.quiet_of_same (cB.o _ ((HO.o.kept G4.o).drewN _))))
   go_wp2;go_ret;exact no.o _ (fun h=>by have:=BB.o.1 h.2.2.2.1; omega) (yd G4.o _)
  ·have db:decide (bd < r.addend+4)=false:=by simp; omega
   have NV:=hid (show j4 o r from BB.o.2 (by omega));go_wp2
   go_quiet ((go_at_call 78; exact Calls.quiet_of_same (cB.o _ ((HO.o.kept G4.o).drewN _))))
   go_wp2;have B5:=Ie.o.drewN nq;have G5:=hid (yd G4.o nq);have e0:Hd ((W4.drewN nq).drew.cell? ⟨w.heap.size,0,none⟩=some (.int .i64 r.ah)):=B5.cell 0;have e1:Hd ((W4.drewN nq).drew.cell? ⟨w.heap.size,1,none⟩=some (.int .i64 r.off)):=B5.cell 1;have e2:Hd ((W4.drewN nq).drew.cell? ⟨w.heap.size,2,none⟩=some (.int .i64 r.kind)):=B5.cell 2;have e3:Hd ((W4.drewN nq).drew.cell? ⟨w.heap.size,3,none⟩=some (.int .i64 r.sym)):=B5.cell 3;have e4:Hd ((W4.drewN nq).drew.cell? ⟨w.heap.size,4,none⟩=some (.int .i64 r.addend)):=B5.cell 4;have xH:Hd (yq (W4.drewN nq).drew g o):=yq.drew (HO.o.kept G5.o);have Iw:Hd (fZ (W4.drewN nq).drew):=HT.o.grown (yf G5.o)
   have G6:=hid (yf G5.o);clear B5;have hcr:=hid (show 1<=r.kind/\r.kind<=6 from by have:=p1.o; unfold yH at this; omega);by_cases hab:yA o r
   ·have wJ:=w9 p2.o hab (xQ HW.o r.ah);have hoff:0<=r.off/\r.off<=1048576:=by
     obtain ⟨x1,x2,x3⟩:=hab;have y1:=yE HN.o r.ah;have y2:=yC p2.o;omega
    have wB:=hid (fun W (hW:yq W g o)=>QB g o r W hW HN.o p2.o hab);have Bn:=hid (fun W ao cap (hW:fZ W) (hI:ym W ao (yz o r))=>show Calls Tryz.prog 154 #[.int .i64 r.kind,.slice ao (yr r).toNat cap] W fun e w'=>yg e (yv r.kind (yz o r))/\W.grownBy w' none from by
     rw [<- wJ.1];exact X4 r.kind ao cap (yz o r) W hW hI wJ.2.1 wJ.2.2.1 wJ.2.2.2 hcr.o (fun h=>by rw [wJ.1]; unfold yr; rw [if_pos h]; rfl))
    have Jl:=hid (fun W (hW:yq W g o)=>Wu g o r W hW HN.o p2.o hoff.1 hoff.2);have jI:=hid hab;unfold bY at wB Jl;clear hab wJ hoff;generalize (yr r).toNat=sp at *;by_cases hg:yv r.kind (yz o r)
    ·have tF:=hid hg;clear hg
     go_region_held3 (fun w'=>w'.cell? ⟨w.heap.size,0,none⟩=some (.int .i64 r.ah)/\w'.cell? ⟨w.heap.size,1,none⟩=some (.int .i64 r.off)/\w'.cell? ⟨w.heap.size,2,none⟩=some (.int .i64 r.kind)/\w'.cell? ⟨w.heap.size,3,none⟩=some (.int .i64 r.sym)/\w'.cell? ⟨w.heap.size,4,none⟩=some (.int .i64 r.addend))
      (go_keep)
      (first | (go_at_call 132; refine (wB.o _ xH.o).mono ?_; rintro e w5 ⟨ao,cap,rfl,hI,hq⟩; have s0:=yc e0.o hq; have s1:=yc e1.o hq; have s2:=yc e2.o hq; have s3:=yc e3.o hq; have s4:=yc e4.o hq) | (go_at_call 154; refine (Bn.o _ ao cap (Iw.o.grown hq) hI).mono ?_; rintro e w6 ⟨Bt,hq2⟩; obtain rfl:=YB Bt tF.o; have z0:=yc s0 hq2; have z1:=yc s1 hq2; have z2:=yc s2 hq2; have z3:=yc s3 hq2; have z4:=yc s4 hq2) | (go_at_call 155; refine (Jl.o _ ((xH.o.kept hq).kept hq2)).mono ?_; rintro e w7 ⟨⟨b,rfl,hb⟩,hq3⟩; have y0:=yc z0 hq3; have y1:=yc z1 hq3; have y2:=yc z2 hq3; have y3:=yc z3 hq3; have y4:=yc z4 hq3))
     have GF:=hid (ya (ya (ya G6.o hq) hq2) hq3);have mX:=hid hb;clear hb hq hq2 hq3 s0 s1 s2 s3 s4 z0 z1 z2 z3 z4 y0 y1 y2 y3 y4 hI Bt;go_wp2;go_ret;refine ⟨yg.of ?_,GF.o⟩;have hbb:=mX.o;constructor
     ·intro h;refine ⟨p1.o,p2.o,p3.o,NV.o,jI.o,tF.o,fun hwi=>?_⟩;rw [hbb.2 hwi] at h;simp at h
     ·intro h
      cases b
      ·rfl
      ·exact absurd (hbb.1 rfl) h.2.2.2.2.2.2
    ·have tF:=hid hg;clear hg;refine wp_region_held_drew (S:=(fun w'=>w'.cell? ⟨w.heap.size,0,none⟩=some (.int .i64 r.ah)/\w'.cell? ⟨w.heap.size,1,none⟩=some (.int .i64 r.off)/\w'.cell? ⟨w.heap.size,2,none⟩=some (.int .i64 r.kind)/\w'.cell? ⟨w.heap.size,3,none⟩=some (.int .i64 r.sym)/\w'.cell? ⟨w.heap.size,4,none⟩=some (.int .i64 r.addend))) (by kernel_rfl) ⟨e0.o,e1.o,e2.o,e3.o,e4.o⟩ ?_;intro hS;refine fD (i:=0) (v:=?_) rfl ?_ hS ?_
     rotate_left
     ·intro w' _; go_simp; with_reducible rfl
     refine fD (i:=1) (v:=?_) rfl ?_ hS ?_
     rotate_left
     ·intro w' hw'; obtain ⟨x0,x1,x2,x3,x4⟩:=hw'; go_simp; with_reducible rfl
     refine fD (i:=2) (v:=?_) rfl ?_ hS ?_
     rotate_left
     ·intro w' _; go_simp; with_reducible rfl
     refine fD (i:=3) (v:=?_) rfl ?_ hS ?_
     rotate_left
     ·intro w' hw'; obtain ⟨x0,x1,x2,x3,x4⟩:=hw'; go_simp; with_reducible rfl
     refine wpAnyH_ready (rs:=[4]) (by kernel_rfl) (by simp) ?_;refine AllReadyH.cons rfl (fun K hK=>?_) AllReadyH.nil;go_simp;go_wp2_with (go_at_call 132; refine (wB.o _ xH.o).mono ?_; rintro e w5 ⟨ao,cap,rfl,hI,hq⟩)
     refine hK.out _ _ ⟨yc e0.o hq,yc e1.o hq,yc e2.o hq,yc e3.o hq,yc e4.o hq⟩ (fun hS2=>?_);clear hK K;refine wpAnyH_ready (rs:=[5]) (by kernel_rfl) (by simp) ?_;refine AllReadyH.cons rfl (fun K hK=>?_) AllReadyH.nil;go_simp;go_wp2_with (go_at_call 154; refine (Bn.o _ ao cap (Iw.o.grown hq) hI).mono ?_; rintro e w6 ⟨Bt,hq2⟩; obtain rfl:=YG Bt tF.o)
     refine hK.out _ _ ⟨yc (yc e0.o hq) hq2,yc (yc e1.o hq) hq2,yc (yc e2.o hq) hq2,yc (yc e3.o hq) hq2,yc (yc e4.o hq) hq2⟩ (fun iZ=>?_);clear hK K;refine fD (i:=6) (v:=?_) rfl ?_ iZ ?_
     rotate_left
     ·intro w' _; go_simp; with_reducible rfl
     refine oU (i:=7) rfl iZ ?_;refine oU (i:=8) rfl iZ ?_;refine oU (i:=9) rfl iZ ?_;refine oU (i:=10) rfl iZ ?_;refine wpAnyH_take (i:=11) (v:=.bool false) rfl (by kernel_rfl) (by kernel_rfl) (by kernel_rfl) (fun _ _ _ h=>h) (Or.inl ⟨by kernel_rfl,fun _ _=>by kernel_rfl⟩) iZ ?_;refine wpAnyH_take (i:=12) (v:=.bool false) rfl (by kernel_rfl) (by kernel_rfl) (by kernel_rfl) (fun _ _ _ h=>h) (Or.inl ⟨by kernel_rfl,fun _ _=>by kernel_rfl⟩) iZ ?_;refine wpAnyH_done (by kernel_rfl) ?_ _;simp only [ni,mh,kT,kI,fu,fC,eX];go_wp2;go_ret;exact no.o _ (fun h=>tF.o h.2.2.2.2.2.1) (ya (ya G6.o hq) hq2)
   ·have wB:=hid (fun W (hW:yq W g o)=>Wz g o r W hW HN.o p2.o hab hr);have Bn:=hid (fun W=>X5 r.kind W);have jI:=hid hab;unfold bY at wB;clear hab;refine wp_region_held_drew (S:=(fun w'=>w'.cell? ⟨w.heap.size,0,none⟩=some (.int .i64 r.ah)/\w'.cell? ⟨w.heap.size,1,none⟩=some (.int .i64 r.off)/\w'.cell? ⟨w.heap.size,2,none⟩=some (.int .i64 r.kind)/\w'.cell? ⟨w.heap.size,3,none⟩=some (.int .i64 r.sym)/\w'.cell? ⟨w.heap.size,4,none⟩=some (.int .i64 r.addend))) (by kernel_rfl) ⟨e0.o,e1.o,e2.o,e3.o,e4.o⟩ ?_;intro hS;refine fD (i:=0) (v:=?_) rfl ?_ hS ?_
    rotate_left
    ·intro w' _; go_simp; with_reducible rfl
    refine fD (i:=1) (v:=?_) rfl ?_ hS ?_
    rotate_left
    ·intro w' hw'; obtain ⟨x0,x1,x2,x3,x4⟩:=hw'; go_simp; with_reducible rfl
    refine fD (i:=2) (v:=?_) rfl ?_ hS ?_
    rotate_left
    ·intro w' _; go_simp; with_reducible rfl
    refine fD (i:=3) (v:=?_) rfl ?_ hS ?_
    rotate_left
    ·intro w' hw'; obtain ⟨x0,x1,x2,x3,x4⟩:=hw'; go_simp; with_reducible rfl
    refine wpAnyH_ready (rs:=[4]) (by kernel_rfl) (by simp) ?_;refine AllReadyH.cons rfl (fun K hK=>?_) AllReadyH.nil;go_simp;go_wp2_with (go_at_call 132; refine (wB.o _ xH.o).mono ?_; rintro e w5 ⟨rfl,hq⟩)
    refine hK.out _ _ ⟨yc e0.o hq,yc e1.o hq,yc e2.o hq,yc e3.o hq,yc e4.o hq⟩ (fun hS2=>?_);clear hK K;refine wpAnyH_ready (rs:=[5]) (by kernel_rfl) (by simp) ?_;refine AllReadyH.cons rfl (fun K hK=>?_) AllReadyH.nil;go_simp;go_wp2_with (go_at_call 154; refine (Bn.o _).mono ?_; rintro e w6 ⟨rfl,Qg⟩)
    subst Qg;refine hK.out _ _ ⟨yc e0.o hq,yc e1.o hq,yc e2.o hq,yc e3.o hq,yc e4.o hq⟩ (fun iZ=>?_);clear hK K;refine fD (i:=6) (v:=?_) rfl ?_ iZ ?_
    rotate_left
    ·intro w' _; go_simp; with_reducible rfl
    refine oU (i:=7) rfl iZ ?_;refine oU (i:=8) rfl iZ ?_;refine oU (i:=9) rfl iZ ?_;refine oU (i:=10) rfl iZ ?_;refine wpAnyH_take (i:=11) (v:=.bool false) rfl (by kernel_rfl) (by kernel_rfl) (by kernel_rfl) (fun _ _ _ h=>h) (Or.inl ⟨by kernel_rfl,fun _ _=>by kernel_rfl⟩) iZ ?_;refine wpAnyH_take (i:=12) (v:=.bool false) rfl (by kernel_rfl) (by kernel_rfl) (by kernel_rfl) (fun _ _ _ h=>h) (Or.inl ⟨by kernel_rfl,fun _ _=>by kernel_rfl⟩) iZ ?_;refine wpAnyH_done (by kernel_rfl) ?_ _;simp only [ni,mh,kT,kI,fu,fC,eX];go_wp2;go_ret;exact no.o _ (fun h=>jI.o h.2.2.2.2.1) (ya G6.o hq)
 ·have NV:=hid (show j4 o r from fun h=>absurd h Ap);have d6:(r.kind == 6)=false:=beq_eq_false_iff_ne.2 Ap;have K6:=hid Ap;clear Ap kinds;go_wp2
  go_quiet (fail)
  go_wp2;have B5:=Ie.o.drewN nq;have G5:=hid (yd G4.o nq);have e0:Hd ((W4.drewN nq).drew.cell? ⟨w.heap.size,0,none⟩=some (.int .i64 r.ah)):=B5.cell 0;have e1:Hd ((W4.drewN nq).drew.cell? ⟨w.heap.size,1,none⟩=some (.int .i64 r.off)):=B5.cell 1;have e2:Hd ((W4.drewN nq).drew.cell? ⟨w.heap.size,2,none⟩=some (.int .i64 r.kind)):=B5.cell 2;have e3:Hd ((W4.drewN nq).drew.cell? ⟨w.heap.size,3,none⟩=some (.int .i64 r.sym)):=B5.cell 3;have e4:Hd ((W4.drewN nq).drew.cell? ⟨w.heap.size,4,none⟩=some (.int .i64 r.addend)):=B5.cell 4;have xH:Hd (yq (W4.drewN nq).drew g o):=yq.drew (HO.o.kept G5.o);have Iw:Hd (fZ (W4.drewN nq).drew):=HT.o.grown (yf G5.o)
  have G6:=hid (yf G5.o);clear B5;have hcr:=hid (show 1<=r.kind/\r.kind<=6 from by have:=p1.o; unfold yH at this; omega);by_cases hab:yA o r
  ·have wJ:=w9 p2.o hab (xQ HW.o r.ah);have hoff:0<=r.off/\r.off<=1048576:=by
    obtain ⟨x1,x2,x3⟩:=hab;have y1:=yE HN.o r.ah;have y2:=yC p2.o;omega
   have wB:=hid (fun W (hW:yq W g o)=>QB g o r W hW HN.o p2.o hab);have Bn:=hid (fun W ao cap (hW:fZ W) (hI:ym W ao (yz o r))=>show Calls Tryz.prog 154 #[.int .i64 r.kind,.slice ao (yr r).toNat cap] W fun e w'=>yg e (yv r.kind (yz o r))/\W.grownBy w' none from by
    rw [<- wJ.1];exact X4 r.kind ao cap (yz o r) W hW hI wJ.2.1 wJ.2.2.1 wJ.2.2.2 hcr.o (fun h=>by rw [wJ.1]; unfold yr; rw [if_pos h]; rfl))
   have Jl:=hid (fun W (hW:yq W g o)=>Wu g o r W hW HN.o p2.o hoff.1 hoff.2);have jI:=hid hab;unfold bY at wB Jl;clear hab wJ hoff;generalize (yr r).toNat=sp at *;by_cases hg:yv r.kind (yz o r)
   ·have tF:=hid hg;clear hg
    go_region_held3 (fun w'=>w'.cell? ⟨w.heap.size,0,none⟩=some (.int .i64 r.ah)/\w'.cell? ⟨w.heap.size,1,none⟩=some (.int .i64 r.off)/\w'.cell? ⟨w.heap.size,2,none⟩=some (.int .i64 r.kind)/\w'.cell? ⟨w.heap.size,3,none⟩=some (.int .i64 r.sym)/\w'.cell? ⟨w.heap.size,4,none⟩=some (.int .i64 r.addend))
     (go_keep)
     (first | (go_at_call 132; refine (wB.o _ xH.o).mono ?_; rintro e w5 ⟨ao,cap,rfl,hI,hq⟩; have s0:=yc e0.o hq; have s1:=yc e1.o hq; have s2:=yc e2.o hq; have s3:=yc e3.o hq; have s4:=yc e4.o hq) | (go_at_call 154; refine (Bn.o _ ao cap (Iw.o.grown hq) hI).mono ?_; rintro e w6 ⟨Bt,hq2⟩; obtain rfl:=YB Bt tF.o; have z0:=yc s0 hq2; have z1:=yc s1 hq2; have z2:=yc s2 hq2; have z3:=yc s3 hq2; have z4:=yc s4 hq2) | (go_at_call 155; refine (Jl.o _ ((xH.o.kept hq).kept hq2)).mono ?_; rintro e w7 ⟨⟨b,rfl,hb⟩,hq3⟩; have y0:=yc z0 hq3; have y1:=yc z1 hq3; have y2:=yc z2 hq3; have y3:=yc z3 hq3; have y4:=yc z4 hq3))
    have GF:=hid (ya (ya (ya G6.o hq) hq2) hq3);have mX:=hid hb;clear hb hq hq2 hq3 s0 s1 s2 s3 s4 z0 z1 z2 z3 z4 y0 y1 y2 y3 y4 hI Bt;go_wp2;go_ret;refine ⟨yg.of ?_,GF.o⟩;have hbb:=mX.o;constructor
    ·intro h;refine ⟨p1.o,p2.o,p3.o,NV.o,jI.o,tF.o,fun hwi=>?_⟩;rw [hbb.2 hwi] at h;simp at h
    ·intro h
     cases b
     ·rfl
     ·exact absurd (hbb.1 rfl) h.2.2.2.2.2.2
   ·have tF:=hid hg;clear hg;refine wp_region_held_drew (S:=(fun w'=>w'.cell? ⟨w.heap.size,0,none⟩=some (.int .i64 r.ah)/\w'.cell? ⟨w.heap.size,1,none⟩=some (.int .i64 r.off)/\w'.cell? ⟨w.heap.size,2,none⟩=some (.int .i64 r.kind)/\w'.cell? ⟨w.heap.size,3,none⟩=some (.int .i64 r.sym)/\w'.cell? ⟨w.heap.size,4,none⟩=some (.int .i64 r.addend))) (by kernel_rfl) ⟨e0.o,e1.o,e2.o,e3.o,e4.o⟩ ?_;intro hS;refine fD (i:=0) (v:=?_) rfl ?_ hS ?_
    rotate_left
    ·intro w' _; go_simp; with_reducible rfl
    refine fD (i:=1) (v:=?_) rfl ?_ hS ?_
    rotate_left
    ·intro w' hw'; obtain ⟨x0,x1,x2,x3,x4⟩:=hw'; go_simp; with_reducible rfl
    refine fD (i:=2) (v:=?_) rfl ?_ hS ?_
    rotate_left
    ·intro w' _; go_simp; with_reducible rfl
    refine fD (i:=3) (v:=?_) rfl ?_ hS ?_
    rotate_left
    ·intro w' hw'; obtain ⟨x0,x1,x2,x3,x4⟩:=hw'; go_simp; with_reducible rfl
    refine wpAnyH_ready (rs:=[4]) (by kernel_rfl) (by simp) ?_;refine AllReadyH.cons rfl (fun K hK=>?_) AllReadyH.nil;go_simp;go_wp2_with (go_at_call 132; refine (wB.o _ xH.o).mono ?_; rintro e w5 ⟨ao,cap,rfl,hI,hq⟩)
    refine hK.out _ _ ⟨yc e0.o hq,yc e1.o hq,yc e2.o hq,yc e3.o hq,yc e4.o hq⟩ (fun hS2=>?_);clear hK K;refine wpAnyH_ready (rs:=[5]) (by kernel_rfl) (by simp) ?_;refine AllReadyH.cons rfl (fun K hK=>?_) AllReadyH.nil;go_simp;go_wp2_with (go_at_call 154; refine (Bn.o _ ao cap (Iw.o.grown hq) hI).mono ?_; rintro e w6 ⟨Bt,hq2⟩; obtain rfl:=YG Bt tF.o)
    refine hK.out _ _ ⟨yc (yc e0.o hq) hq2,yc (yc e1.o hq) hq2,yc (yc e2.o hq) hq2,yc (yc e3.o hq) hq2,yc (yc e4.o hq) hq2⟩ (fun iZ=>?_);clear hK K;refine fD (i:=6) (v:=?_) rfl ?_ iZ ?_
    rotate_left
    ·intro w' _; go_simp; with_reducible rfl
    refine oU (i:=7) rfl iZ ?_;refine oU (i:=8) rfl iZ ?_;refine oU (i:=9) rfl iZ ?_;refine oU (i:=10) rfl iZ ?_;refine wpAnyH_take (i:=11) (v:=.bool false) rfl (by kernel_rfl) (by kernel_rfl) (by kernel_rfl) (fun _ _ _ h=>h) (Or.inl ⟨by kernel_rfl,fun _ _=>by kernel_rfl⟩) iZ ?_;refine wpAnyH_take (i:=12) (v:=.bool false) rfl (by kernel_rfl) (by kernel_rfl) (by kernel_rfl) (fun _ _ _ h=>h) (Or.inl ⟨by kernel_rfl,fun _ _=>by kernel_rfl⟩) iZ ?_;refine wpAnyH_done (by kernel_rfl) ?_ _;simp only [ni,mh,kT,kI,fu,fC,eX];go_wp2;go_ret;exact no.o _ (fun h=>tF.o h.2.2.2.2.2.1) (ya (ya G6.o hq) hq2)
  ·have wB:=hid (fun W (hW:yq W g o)=>Wz g o r W hW HN.o p2.o hab hr);have Bn:=hid (fun W=>X5 r.kind W);have jI:=hid hab;unfold bY at wB;clear hab;refine wp_region_held_drew (S:=(fun w'=>w'.cell? ⟨w.heap.size,0,none⟩=some (.int .i64 r.ah)/\w'.cell? ⟨w.heap.size,1,none⟩=some (.int .i64 r.off)/\w'.cell? ⟨w.heap.size,2,none⟩=some (.int .i64 r.kind)/\w'.cell? ⟨w.heap.size,3,none⟩=some (.int .i64 r.sym)/\w'.cell? ⟨w.heap.size,4,none⟩=some (.int .i64 r.addend))) (by kernel_rfl) ⟨e0.o,e1.o,e2.o,e3.o,e4.o⟩ ?_;intro hS;refine fD (i:=0) (v:=?_) rfl ?_ hS ?_
   rotate_left
   ·intro w' _; go_simp; with_reducible rfl
   refine fD (i:=1) (v:=?_) rfl ?_ hS ?_
   rotate_left
   ·intro w' hw'; obtain ⟨x0,x1,x2,x3,x4⟩:=hw'; go_simp; with_reducible rfl
   refine fD (i:=2) (v:=?_) rfl ?_ hS ?_
   rotate_left
   ·intro w' _; go_simp; with_reducible rfl
   refine fD (i:=3) (v:=?_) rfl ?_ hS ?_
   rotate_left
   ·intro w' hw'; obtain ⟨x0,x1,x2,x3,x4⟩:=hw'; go_simp; with_reducible rfl
   refine wpAnyH_ready (rs:=[4]) (by kernel_rfl) (by simp) ?_;refine AllReadyH.cons rfl (fun K hK=>?_) AllReadyH.nil;go_simp;go_wp2_with (go_at_call 132; refine (wB.o _ xH.o).mono ?_; rintro e w5 ⟨rfl,hq⟩)
   refine hK.out _ _ ⟨yc e0.o hq,yc e1.o hq,yc e2.o hq,yc e3.o hq,yc e4.o hq⟩ (fun hS2=>?_);clear hK K;refine wpAnyH_ready (rs:=[5]) (by kernel_rfl) (by simp) ?_;refine AllReadyH.cons rfl (fun K hK=>?_) AllReadyH.nil;go_simp;go_wp2_with (go_at_call 154; refine (Bn.o _).mono ?_; rintro e w6 ⟨rfl,Qg⟩)
   subst Qg;refine hK.out _ _ ⟨yc e0.o hq,yc e1.o hq,yc e2.o hq,yc e3.o hq,yc e4.o hq⟩ (fun iZ=>?_);clear hK K;refine fD (i:=6) (v:=?_) rfl ?_ iZ ?_
   rotate_left
   ·intro w' _; go_simp; with_reducible rfl
   refine oU (i:=7) rfl iZ ?_;refine oU (i:=8) rfl iZ ?_;refine oU (i:=9) rfl iZ ?_;refine oU (i:=10) rfl iZ ?_;refine wpAnyH_take (i:=11) (v:=.bool false) rfl (by kernel_rfl) (by kernel_rfl) (by kernel_rfl) (fun _ _ _ h=>h) (Or.inl ⟨by kernel_rfl,fun _ _=>by kernel_rfl⟩) iZ ?_;refine wpAnyH_take (i:=12) (v:=.bool false) rfl (by kernel_rfl) (by kernel_rfl) (by kernel_rfl) (fun _ _ _ h=>h) (Or.inl ⟨by kernel_rfl,fun _ _=>by kernel_rfl⟩) iZ ?_;refine wpAnyH_done (by kernel_rfl) ?_ _;simp only [ni,mh,kT,kI,fu,fC,eX];go_wp2;go_ret;exact no.o _ (fun h=>jI.o h.2.2.2.2.1) (ya G6.o hq)
end Go.Proofs.YtelehpmjhjljgaaGreatDoor
