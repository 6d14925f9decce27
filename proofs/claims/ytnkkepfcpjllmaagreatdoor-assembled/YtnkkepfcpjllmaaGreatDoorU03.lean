
import Derived.Test.YtnkkepfcpjllmaaGreatDoorU02
set_option maxHeartbeats 16000000
set_option maxRecDepth 100000
namespace Go.Proofs.YtnkkepfcpjllmaaGreatDoor
open Go.RowKit
def yV (n:Int):Prop:=n % 128=99/\(n / 4096 % 8=0\/n / 4096 % 8=1\/n / 4096 % 8=4\/n / 4096 % 8=5\/n / 4096 % 8=6\/n / 4096 % 8=7)/\n / 33554432=0/\n / 128 % 32=0
def iB (n:Int):Prop:=n % 128=111/\n / 4096=0
def nT (Tx n:Int):Prop:=n % 128=Tx/\n / 4096=0
def nA (Tx f n:Int):Prop:=n % 128=Tx/\n / 4096 % 8=f/\n / 1048576=0
def oz (n:Int):Prop:=n % 128=35/\n / 4096 % 8=2/\n / 33554432=0/\n / 128 % 32=0
theorem NZ (n:Int) (h0:0<=n) (h1:n<=4294967295):Is 1 n↔n % 128=55:=by
 show bits .and .i64 n 127=55↔_;rw [U2 n h0 h1]
theorem N7 (n:Int) (h0:0<=n) (h1:n<=4294967295):Is 2 n↔n % 128=23:=by
 show bits .and .i64 n 127=23↔_;rw [U2 n h0 h1]
theorem N8 (n:Int) (h0:0<=n) (h1:n<=4294967295):Is 3 n↔n % 128=111:=by
 show bits .and .i64 n 127=111↔_;rw [U2 n h0 h1]
theorem N9 (n:Int) (h0:0<=n) (h1:n<=4294967295):Is 4 n↔n % 128+4096 * (n / 4096 % 8)=103:=by
 show bits .and .i64 n 28799=103↔_;rw [BJ n h0 h1]
theorem Oa (n:Int) (h0:0<=n) (h1:n<=4294967295):Is 5 n↔n % 128+4096 * (n / 4096 % 8)=99:=by
 show bits .and .i64 n 28799=99↔_;rw [BJ n h0 h1]
theorem Ob (n:Int) (h0:0<=n) (h1:n<=4294967295):Is 6 n↔n % 128+4096 * (n / 4096 % 8)=4195:=by
 show bits .and .i64 n 28799=4195↔_;rw [BJ n h0 h1]
theorem Oc (n:Int) (h0:0<=n) (h1:n<=4294967295):Is 7 n↔n % 128+4096 * (n / 4096 % 8)=16483:=by
 show bits .and .i64 n 28799=16483↔_;rw [BJ n h0 h1]
theorem Od (n:Int) (h0:0<=n) (h1:n<=4294967295):Is 8 n↔n % 128+4096 * (n / 4096 % 8)=20579:=by
 show bits .and .i64 n 28799=20579↔_;rw [BJ n h0 h1]
theorem Oe (n:Int) (h0:0<=n) (h1:n<=4294967295):Is 9 n↔n % 128+4096 * (n / 4096 % 8)=24675:=by
 show bits .and .i64 n 28799=24675↔_;rw [BJ n h0 h1]
theorem Yo (n:Int) (h0:0<=n) (h1:n<=4294967295):Is 10 n↔n % 128+4096 * (n / 4096 % 8)=28771:=by
 show bits .and .i64 n 28799=28771↔_;rw [BJ n h0 h1]
theorem Yp (n:Int) (h0:0<=n) (h1:n<=4294967295):Is 11 n↔n % 128+4096 * (n / 4096 % 8)=8195:=by
 show bits .and .i64 n 28799=8195↔_;rw [BJ n h0 h1]
theorem Yq (n:Int) (h0:0<=n) (h1:n<=4294967295):Is 12 n↔n % 128+4096 * (n / 4096 % 8)=8227:=by
 show bits .and .i64 n 28799=8227↔_;rw [BJ n h0 h1]
theorem Yr (n:Int) (h0:0<=n) (h1:n<=4294967295):Is 13 n↔n % 128+4096 * (n / 4096 % 8)=19:=by
 show bits .and .i64 n 28799=19↔_;rw [BJ n h0 h1]
theorem ylW (n:Int) (h0:0<=n) (h1:n<=4294967295):Is 14 n↔n % 128+4096 * (n / 4096 % 8)=8211:=by
 show bits .and .i64 n 28799=8211↔_;rw [BJ n h0 h1]
theorem ylX (n:Int) (h0:0<=n) (h1:n<=4294967295):Is 15 n↔n % 128+4096 * (n / 4096 % 8)=16403:=by
 show bits .and .i64 n 28799=16403↔_;rw [BJ n h0 h1]
theorem ylY (n:Int) (h0:0<=n) (h1:n<=4294967295):Is 16 n↔n % 128+4096 * (n / 4096 % 8)=24595:=by
 show bits .and .i64 n 28799=24595↔_;rw [BJ n h0 h1]
theorem ylZ (n:Int) (h0:0<=n) (h1:n<=4294967295):Is 17 n↔n % 128+4096 * (n / 4096 % 8)=28691:=by
 show bits .and .i64 n 28799=28691↔_;rw [BJ n h0 h1]
theorem yma (n:Int) (h0:0<=n) (h1:n<=4294967295):Is 18 n↔n % 128+4096 * (n / 4096 % 8)+33554432 * (n / 33554432)=51:=by
 show bits .and .i64 n 4261441663=51↔_;rw [KS n h0 h1]
theorem ymb (n:Int) (h0:0<=n) (h1:n<=4294967295):Is 19 n↔n % 128+4096 * (n / 4096 % 8)+33554432 * (n / 33554432)=1073741875:=by
 show bits .and .i64 n 4261441663=1073741875↔_;rw [KS n h0 h1]
theorem ymc (n:Int) (h0:0<=n) (h1:n<=4294967295):Is 20 n↔n % 128+4096 * (n / 4096 % 8)+33554432 * (n / 33554432)=8243:=by
 show bits .and .i64 n 4261441663=8243↔_;rw [KS n h0 h1]
theorem ymd (n:Int) (h0:0<=n) (h1:n<=4294967295):Is 21 n↔n % 128+4096 * (n / 4096 % 8)+33554432 * (n / 33554432)=12339:=by
 show bits .and .i64 n 4261441663=12339↔_;rw [KS n h0 h1]
theorem yme (n:Int) (h0:0<=n) (h1:n<=4294967295):Is 22 n↔n % 128+4096 * (n / 4096 % 8)+33554432 * (n / 33554432)=16435:=by
 show bits .and .i64 n 4261441663=16435↔_;rw [KS n h0 h1]
theorem ymf (n:Int) (h0:0<=n) (h1:n<=4294967295):Is 23 n↔n % 128+4096 * (n / 4096 % 8)+33554432 * (n / 33554432)=24627:=by
 show bits .and .i64 n 4261441663=24627↔_;rw [KS n h0 h1]
theorem ymg (n:Int) (h0:0<=n) (h1:n<=4294967295):Is 24 n↔n % 128+4096 * (n / 4096 % 8)+33554432 * (n / 33554432)=28723:=by
 show bits .and .i64 n 4261441663=28723↔_;rw [KS n h0 h1]
theorem ymh (n:Int) (h0:0<=n) (h1:n<=4294967295):Is 25 n↔n=115:=by
 show bits .and .i64 n 4294967295=115↔_;rw [ymi n h0 h1]
def yu (n op rd bK m:Int):Prop :=
  ((5<=op/\op<=10/\m=0)↔yV n)/\((op=3/\m=0)↔iB n)/\((op=1/\m=0)↔nT 55 n)/\((op=2/\m=0)↔nT 23 n) /\
  ((op=4/\m=0)↔nA 103 0 n)/\((op=11/\m=0)↔nA 3 2 n)/\((op=12/\m=0)↔oz n)/\((op=13/\m=0)↔nA 19 0 n) /\
  ((op=1\/op=2)->rd=n / 128 % 32)/\((op=4\/op=11\/op=12\/op=13)->bK=n / 32768 % 32)
theorem yI (n d:Int) (h0:0<=n) (h1:n<=4294967295) (hd:1<=d):bits .and .i64 (n / d) 31=n / d % 32:=by
 have a:0<=n / d:=Int.ediv_nonneg h0 (by omega);have b:n / d<=n:=Int.ediv_le_self d h0;exact low (n / d) 5 (by decide) 31 32 rfl rfl a (by omega)
theorem ylD (n:Int) (h0:0<=n) (h1:n<=4294967295) (h:∀ k,1<=k->k<=25->¬ Is k n):yu n 0 0 0 0:=by
 have i1:=h 1 (by decide) (by decide);rw [NZ n h0 h1] at i1;have i2:=h 2 (by decide) (by decide);rw [N7 n h0 h1] at i2;have i3:=h 3 (by decide) (by decide);rw [N8 n h0 h1] at i3;have i4:=h 4 (by decide) (by decide);rw [N9 n h0 h1] at i4;have i5:=h 5 (by decide) (by decide);rw [Oa n h0 h1] at i5;have i6:=h 6 (by decide) (by decide);rw [Ob n h0 h1] at i6;have i7:=h 7 (by decide) (by decide);rw [Oc n h0 h1] at i7;have i8:=h 8 (by decide) (by decide);rw [Od n h0 h1] at i8;have i9:=h 9 (by decide) (by decide);rw [Oe n h0 h1] at i9;have Zx:=h 10 (by decide) (by decide);rw [Yo n h0 h1] at Zx;have i11:=h 11 (by decide) (by decide)
 rw [Yp n h0 h1] at i11;have i12:=h 12 (by decide) (by decide);rw [Yq n h0 h1] at i12;have Zy:=h 13 (by decide) (by decide);rw [Yr n h0 h1] at Zy;clear h;unfold yu yV iB nT nA oz;refine ⟨?_,?_,?_,?_,?_,?_,?_,?_,?_,?_⟩ <;> omega
theorem ylN (n m:Int) (h0:0<=n) (h1:n<=4294967295) (hi:Is 1 n) (_hm:m=0↔yj 1 n):yu n 1 (jh 1 n) (dO 1 n) m:=by
 rw [NZ n h0 h1] at hi;have hz:yj 1 n↔n / 4096=0:=by simp [yj]
 rw [hz] at _hm;have hrd:jh 1 n=n / 128 % 32:=by rw [<- yI n 128 h0 h1 (by decide)]; rfl
 have hrs:dO 1 n=0:=by rfl
 unfold yu yV iB nT nA oz;rw [hrd,hrs];clear hz;refine ⟨?_,?_,?_,?_,?_,?_,?_,?_,?_,?_⟩ <;> omega
theorem ylO (n m:Int) (h0:0<=n) (h1:n<=4294967295) (hi:Is 2 n) (_hm:m=0↔yj 1 n):yu n 2 (jh 1 n) (dO 1 n) m:=by
 rw [N7 n h0 h1] at hi;have hz:yj 1 n↔n / 4096=0:=by simp [yj]
 rw [hz] at _hm;have hrd:jh 1 n=n / 128 % 32:=by rw [<- yI n 128 h0 h1 (by decide)]; rfl
 have hrs:dO 1 n=0:=by rfl
 unfold yu yV iB nT nA oz;rw [hrd,hrs];clear hz;refine ⟨?_,?_,?_,?_,?_,?_,?_,?_,?_,?_⟩ <;> omega
theorem ylP (n m:Int) (h0:0<=n) (h1:n<=4294967295) (hi:Is 3 n) (_hm:m=0↔yj 2 n):yu n 3 (jh 2 n) (dO 2 n) m:=by
 rw [N8 n h0 h1] at hi;have hz:yj 2 n↔n / 4096=0:=by simp [yj]
 rw [hz] at _hm;have hrd:jh 2 n=n / 128 % 32:=by rw [<- yI n 128 h0 h1 (by decide)]; rfl
 have hrs:dO 2 n=0:=by rfl
 unfold yu yV iB nT nA oz;rw [hrd,hrs];clear hz;refine ⟨?_,?_,?_,?_,?_,?_,?_,?_,?_,?_⟩ <;> omega
theorem ylQ (n m:Int) (h0:0<=n) (h1:n<=4294967295) (hi:Is 4 n) (_hm:m=0↔yj 3 n):yu n 4 (jh 3 n) (dO 3 n) m:=by
 rw [N9 n h0 h1] at hi;have hz:yj 3 n↔n / 1048576=0:=by simp [yj]
 rw [hz] at _hm;have hrd:jh 3 n=n / 128 % 32:=by rw [<- yI n 128 h0 h1 (by decide)]; rfl
 have hrs:dO 3 n=n / 32768 % 32:=by rw [<- yI n 32768 h0 h1 (by decide)]; rfl
 unfold yu yV iB nT nA oz;rw [hrd,hrs];clear hz;refine ⟨?_,?_,?_,?_,?_,?_,?_,?_,?_,?_⟩ <;> omega
theorem ylR (n m:Int) (h0:0<=n) (h1:n<=4294967295) (hi:Is 5 n) (_hm:m=0↔yj 4 n):yu n 5 (jh 4 n) (dO 4 n) m:=by
 rw [Oa n h0 h1] at hi;have hz:yj 4 n↔n / 33554432=0/\n / 128 % 32=0:=by simp [yj]
 rw [hz] at _hm;have hrd:jh 4 n=0:=by rfl
 have hrs:dO 4 n=n / 32768 % 32:=by rw [<- yI n 32768 h0 h1 (by decide)]; rfl
 unfold yu yV iB nT nA oz;rw [hrd,hrs];clear hz;refine ⟨?_,?_,?_,?_,?_,?_,?_,?_,?_,?_⟩ <;> omega
theorem ylS (n m:Int) (h0:0<=n) (h1:n<=4294967295) (hi:Is 6 n) (_hm:m=0↔yj 4 n):yu n 6 (jh 4 n) (dO 4 n) m:=by
 rw [Ob n h0 h1] at hi;have hz:yj 4 n↔n / 33554432=0/\n / 128 % 32=0:=by simp [yj]
 rw [hz] at _hm;have hrd:jh 4 n=0:=by rfl
 have hrs:dO 4 n=n / 32768 % 32:=by rw [<- yI n 32768 h0 h1 (by decide)]; rfl
 unfold yu yV iB nT nA oz;rw [hrd,hrs];clear hz;refine ⟨?_,?_,?_,?_,?_,?_,?_,?_,?_,?_⟩ <;> omega
theorem ylT (n m:Int) (h0:0<=n) (h1:n<=4294967295) (hi:Is 7 n) (_hm:m=0↔yj 4 n):yu n 7 (jh 4 n) (dO 4 n) m:=by
 rw [Oc n h0 h1] at hi;have hz:yj 4 n↔n / 33554432=0/\n / 128 % 32=0:=by simp [yj]
 rw [hz] at _hm;have hrd:jh 4 n=0:=by rfl
 have hrs:dO 4 n=n / 32768 % 32:=by rw [<- yI n 32768 h0 h1 (by decide)]; rfl
 unfold yu yV iB nT nA oz;rw [hrd,hrs];clear hz;refine ⟨?_,?_,?_,?_,?_,?_,?_,?_,?_,?_⟩ <;> omega
theorem ylU (n m:Int) (h0:0<=n) (h1:n<=4294967295) (hi:Is 8 n) (_hm:m=0↔yj 4 n):yu n 8 (jh 4 n) (dO 4 n) m:=by
 rw [Od n h0 h1] at hi;have hz:yj 4 n↔n / 33554432=0/\n / 128 % 32=0:=by simp [yj]
 rw [hz] at _hm;have hrd:jh 4 n=0:=by rfl
 have hrs:dO 4 n=n / 32768 % 32:=by rw [<- yI n 32768 h0 h1 (by decide)]; rfl
 unfold yu yV iB nT nA oz;rw [hrd,hrs];clear hz;refine ⟨?_,?_,?_,?_,?_,?_,?_,?_,?_,?_⟩ <;> omega
theorem ylV (n m:Int) (h0:0<=n) (h1:n<=4294967295) (hi:Is 9 n) (_hm:m=0↔yj 4 n):yu n 9 (jh 4 n) (dO 4 n) m:=by
 rw [Oe n h0 h1] at hi;have hz:yj 4 n↔n / 33554432=0/\n / 128 % 32=0:=by simp [yj]
 rw [hz] at _hm;have hrd:jh 4 n=0:=by rfl
 have hrs:dO 4 n=n / 32768 % 32:=by rw [<- yI n 32768 h0 h1 (by decide)]; rfl
 unfold yu yV iB nT nA oz;rw [hrd,hrs];clear hz;refine ⟨?_,?_,?_,?_,?_,?_,?_,?_,?_,?_⟩ <;> omega
theorem yln (n m:Int) (h0:0<=n) (h1:n<=4294967295) (hi:Is 10 n) (_hm:m=0↔yj 4 n):yu n 10 (jh 4 n) (dO 4 n) m:=by
 rw [Yo n h0 h1] at hi;have hz:yj 4 n↔n / 33554432=0/\n / 128 % 32=0:=by simp [yj]
 rw [hz] at _hm;have hrd:jh 4 n=0:=by rfl
 have hrs:dO 4 n=n / 32768 % 32:=by rw [<- yI n 32768 h0 h1 (by decide)]; rfl
 unfold yu yV iB nT nA oz;rw [hrd,hrs];clear hz;refine ⟨?_,?_,?_,?_,?_,?_,?_,?_,?_,?_⟩ <;> omega
theorem ylo (n m:Int) (h0:0<=n) (h1:n<=4294967295) (hi:Is 11 n) (_hm:m=0↔yj 3 n):yu n 11 (jh 3 n) (dO 3 n) m:=by
 rw [Yp n h0 h1] at hi;have hz:yj 3 n↔n / 1048576=0:=by simp [yj]
 rw [hz] at _hm;have hrd:jh 3 n=n / 128 % 32:=by rw [<- yI n 128 h0 h1 (by decide)]; rfl
 have hrs:dO 3 n=n / 32768 % 32:=by rw [<- yI n 32768 h0 h1 (by decide)]; rfl
 unfold yu yV iB nT nA oz;rw [hrd,hrs];clear hz;refine ⟨?_,?_,?_,?_,?_,?_,?_,?_,?_,?_⟩ <;> omega
theorem ylp (n m:Int) (h0:0<=n) (h1:n<=4294967295) (hi:Is 12 n) (_hm:m=0↔yj 5 n):yu n 12 (jh 5 n) (dO 5 n) m:=by
 rw [Yq n h0 h1] at hi;have hz:yj 5 n↔n / 33554432=0/\n / 128 % 32=0:=by simp [yj]
 rw [hz] at _hm;have hrd:jh 5 n=0:=by rfl
 have hrs:dO 5 n=n / 32768 % 32:=by rw [<- yI n 32768 h0 h1 (by decide)]; rfl
 unfold yu yV iB nT nA oz;rw [hrd,hrs];clear hz;refine ⟨?_,?_,?_,?_,?_,?_,?_,?_,?_,?_⟩ <;> omega
theorem ylq (n m:Int) (h0:0<=n) (h1:n<=4294967295) (hi:Is 13 n) (_hm:m=0↔yj 3 n):yu n 13 (jh 3 n) (dO 3 n) m:=by
 rw [Yr n h0 h1] at hi;have hz:yj 3 n↔n / 1048576=0:=by simp [yj]
 rw [hz] at _hm;have hrd:jh 3 n=n / 128 % 32:=by rw [<- yI n 128 h0 h1 (by decide)]; rfl
 have hrs:dO 3 n=n / 32768 % 32:=by rw [<- yI n 32768 h0 h1 (by decide)]; rfl
 unfold yu yV iB nT nA oz;rw [hrd,hrs];clear hz;refine ⟨?_,?_,?_,?_,?_,?_,?_,?_,?_,?_⟩ <;> omega
theorem ylr (n m:Int) (h0:0<=n) (h1:n<=4294967295) (hi:Is 14 n) (_hm:m=0↔yj 3 n):yu n 14 (jh 3 n) (dO 3 n) m:=by
 rw [ylW n h0 h1] at hi;have hz:yj 3 n↔n / 1048576=0:=by simp [yj]
 rw [hz] at _hm;have hrd:jh 3 n=n / 128 % 32:=by rw [<- yI n 128 h0 h1 (by decide)]; rfl
 have hrs:dO 3 n=n / 32768 % 32:=by rw [<- yI n 32768 h0 h1 (by decide)]; rfl
 unfold yu yV iB nT nA oz;rw [hrd,hrs];clear hz;refine ⟨?_,?_,?_,?_,?_,?_,?_,?_,?_,?_⟩ <;> omega
theorem yls (n m:Int) (h0:0<=n) (h1:n<=4294967295) (hi:Is 15 n) (_hm:m=0↔yj 3 n):yu n 15 (jh 3 n) (dO 3 n) m:=by
 rw [ylX n h0 h1] at hi;have hz:yj 3 n↔n / 1048576=0:=by simp [yj]
 rw [hz] at _hm;have hrd:jh 3 n=n / 128 % 32:=by rw [<- yI n 128 h0 h1 (by decide)]; rfl
 have hrs:dO 3 n=n / 32768 % 32:=by rw [<- yI n 32768 h0 h1 (by decide)]; rfl
 unfold yu yV iB nT nA oz;rw [hrd,hrs];clear hz;refine ⟨?_,?_,?_,?_,?_,?_,?_,?_,?_,?_⟩ <;> omega
theorem ylt (n m:Int) (h0:0<=n) (h1:n<=4294967295) (hi:Is 16 n) (_hm:m=0↔yj 3 n):yu n 16 (jh 3 n) (dO 3 n) m:=by
 rw [ylY n h0 h1] at hi;have hz:yj 3 n↔n / 1048576=0:=by simp [yj]
 rw [hz] at _hm;have hrd:jh 3 n=n / 128 % 32:=by rw [<- yI n 128 h0 h1 (by decide)]; rfl
 have hrs:dO 3 n=n / 32768 % 32:=by rw [<- yI n 32768 h0 h1 (by decide)]; rfl
 unfold yu yV iB nT nA oz;rw [hrd,hrs];clear hz;refine ⟨?_,?_,?_,?_,?_,?_,?_,?_,?_,?_⟩ <;> omega
theorem ylu (n m:Int) (h0:0<=n) (h1:n<=4294967295) (hi:Is 17 n) (_hm:m=0↔yj 3 n):yu n 17 (jh 3 n) (dO 3 n) m:=by
 rw [ylZ n h0 h1] at hi;have hz:yj 3 n↔n / 1048576=0:=by simp [yj]
 rw [hz] at _hm;have hrd:jh 3 n=n / 128 % 32:=by rw [<- yI n 128 h0 h1 (by decide)]; rfl
 have hrs:dO 3 n=n / 32768 % 32:=by rw [<- yI n 32768 h0 h1 (by decide)]; rfl
 unfold yu yV iB nT nA oz;rw [hrd,hrs];clear hz;refine ⟨?_,?_,?_,?_,?_,?_,?_,?_,?_,?_⟩ <;> omega
theorem ylv (n m:Int) (h0:0<=n) (h1:n<=4294967295) (hi:Is 18 n) (_hm:m=0↔yj 6 n):yu n 18 (jh 6 n) (dO 6 n) m:=by
 rw [yma n h0 h1] at hi;have hz:yj 6 n↔True:=by simp [yj]
 rw [hz] at _hm;have hrd:jh 6 n=n / 128 % 32:=by rw [<- yI n 128 h0 h1 (by decide)]; rfl
 have hrs:dO 6 n=n / 32768 % 32:=by rw [<- yI n 32768 h0 h1 (by decide)]; rfl
 unfold yu yV iB nT nA oz;rw [hrd,hrs];simp only [iff_true] at _hm;refine ⟨?_,?_,?_,?_,?_,?_,?_,?_,?_,?_⟩ <;> omega
theorem ylw (n m:Int) (h0:0<=n) (h1:n<=4294967295) (hi:Is 19 n) (_hm:m=0↔yj 6 n):yu n 19 (jh 6 n) (dO 6 n) m:=by
 rw [ymb n h0 h1] at hi;have hz:yj 6 n↔True:=by simp [yj]
 rw [hz] at _hm;have hrd:jh 6 n=n / 128 % 32:=by rw [<- yI n 128 h0 h1 (by decide)]; rfl
 have hrs:dO 6 n=n / 32768 % 32:=by rw [<- yI n 32768 h0 h1 (by decide)]; rfl
 unfold yu yV iB nT nA oz;rw [hrd,hrs];simp only [iff_true] at _hm;refine ⟨?_,?_,?_,?_,?_,?_,?_,?_,?_,?_⟩ <;> omega
theorem ylx (n m:Int) (h0:0<=n) (h1:n<=4294967295) (hi:Is 20 n) (_hm:m=0↔yj 6 n):yu n 20 (jh 6 n) (dO 6 n) m:=by
 rw [ymc n h0 h1] at hi;have hz:yj 6 n↔True:=by simp [yj]
 rw [hz] at _hm;have hrd:jh 6 n=n / 128 % 32:=by rw [<- yI n 128 h0 h1 (by decide)]; rfl
 have hrs:dO 6 n=n / 32768 % 32:=by rw [<- yI n 32768 h0 h1 (by decide)]; rfl
 unfold yu yV iB nT nA oz;rw [hrd,hrs];simp only [iff_true] at _hm;refine ⟨?_,?_,?_,?_,?_,?_,?_,?_,?_,?_⟩ <;> omega
theorem yly (n m:Int) (h0:0<=n) (h1:n<=4294967295) (hi:Is 21 n) (_hm:m=0↔yj 6 n):yu n 21 (jh 6 n) (dO 6 n) m:=by
 rw [ymd n h0 h1] at hi;have hz:yj 6 n↔True:=by simp [yj]
 rw [hz] at _hm;have hrd:jh 6 n=n / 128 % 32:=by rw [<- yI n 128 h0 h1 (by decide)]; rfl
 have hrs:dO 6 n=n / 32768 % 32:=by rw [<- yI n 32768 h0 h1 (by decide)]; rfl
 unfold yu yV iB nT nA oz;rw [hrd,hrs];simp only [iff_true] at _hm;refine ⟨?_,?_,?_,?_,?_,?_,?_,?_,?_,?_⟩ <;> omega
theorem ylz (n m:Int) (h0:0<=n) (h1:n<=4294967295) (hi:Is 22 n) (_hm:m=0↔yj 6 n):yu n 22 (jh 6 n) (dO 6 n) m:=by
 rw [yme n h0 h1] at hi;have hz:yj 6 n↔True:=by simp [yj]
 rw [hz] at _hm;have hrd:jh 6 n=n / 128 % 32:=by rw [<- yI n 128 h0 h1 (by decide)]; rfl
 have hrs:dO 6 n=n / 32768 % 32:=by rw [<- yI n 32768 h0 h1 (by decide)]; rfl
 unfold yu yV iB nT nA oz;rw [hrd,hrs];simp only [iff_true] at _hm;refine ⟨?_,?_,?_,?_,?_,?_,?_,?_,?_,?_⟩ <;> omega
theorem ylA (n m:Int) (h0:0<=n) (h1:n<=4294967295) (hi:Is 23 n) (_hm:m=0↔yj 6 n):yu n 23 (jh 6 n) (dO 6 n) m:=by
 rw [ymf n h0 h1] at hi;have hz:yj 6 n↔True:=by simp [yj]
 rw [hz] at _hm;have hrd:jh 6 n=n / 128 % 32:=by rw [<- yI n 128 h0 h1 (by decide)]; rfl
 have hrs:dO 6 n=n / 32768 % 32:=by rw [<- yI n 32768 h0 h1 (by decide)]; rfl
 unfold yu yV iB nT nA oz;rw [hrd,hrs];simp only [iff_true] at _hm;refine ⟨?_,?_,?_,?_,?_,?_,?_,?_,?_,?_⟩ <;> omega
theorem ylB (n m:Int) (h0:0<=n) (h1:n<=4294967295) (hi:Is 24 n) (_hm:m=0↔yj 6 n):yu n 24 (jh 6 n) (dO 6 n) m:=by
 rw [ymg n h0 h1] at hi;have hz:yj 6 n↔True:=by simp [yj]
 rw [hz] at _hm;have hrd:jh 6 n=n / 128 % 32:=by rw [<- yI n 128 h0 h1 (by decide)]; rfl
 have hrs:dO 6 n=n / 32768 % 32:=by rw [<- yI n 32768 h0 h1 (by decide)]; rfl
 unfold yu yV iB nT nA oz;rw [hrd,hrs];simp only [iff_true] at _hm;refine ⟨?_,?_,?_,?_,?_,?_,?_,?_,?_,?_⟩ <;> omega
theorem ylC (n m:Int) (h0:0<=n) (h1:n<=4294967295) (hi:Is 25 n) (_hm:m=0↔yj 7 n):yu n 25 (jh 7 n) (dO 7 n) m:=by
 rw [ymh n h0 h1] at hi;have hz:yj 7 n↔True:=by simp [yj]
 rw [hz] at _hm;have hrd:jh 7 n=0:=by rfl
 have hrs:dO 7 n=0:=by rfl
 unfold yu yV iB nT nA oz;rw [hrd,hrs];simp only [iff_true] at _hm;refine ⟨?_,?_,?_,?_,?_,?_,?_,?_,?_,?_⟩ <;> omega
theorem Aq (n op rd bK m:Int) (h0:0<=n) (h1:n<=4294967295) (h:Dec n op rd bK m):yu n op rd bK m:=by
 rcases h with ⟨rfl,rfl,rfl,rfl,h⟩ | ⟨k,k1,k2,hi,-,rfl,rfl,rfl,hm⟩
 ·exact ylD n h0 h1 h
 ·rcases (show k=1\/k=2\/k=3\/k=4\/k=5\/k=6\/k=7\/k=8\/k=9\/k=10\/k=11\/k=12\/k=13\/k=14\/k=15\/k=16\/k=17\/k=18\/k=19\/k=20\/k=21\/k=22\/k=23\/k=24\/k=25 from by omega) with rfl | rfl | rfl | rfl | rfl | rfl | rfl | rfl | rfl | rfl | rfl | rfl | rfl | rfl | rfl | rfl | rfl | rfl | rfl | rfl | rfl | rfl | rfl | rfl | rfl
  ·exact ylN n m h0 h1 hi hm
  ·exact ylO n m h0 h1 hi hm
  ·exact ylP n m h0 h1 hi hm
  ·exact ylQ n m h0 h1 hi hm
  ·exact ylR n m h0 h1 hi hm
  ·exact ylS n m h0 h1 hi hm
  ·exact ylT n m h0 h1 hi hm
  ·exact ylU n m h0 h1 hi hm
  ·exact ylV n m h0 h1 hi hm
  ·exact yln n m h0 h1 hi hm
  ·exact ylo n m h0 h1 hi hm
  ·exact ylp n m h0 h1 hi hm
  ·exact ylq n m h0 h1 hi hm
  ·exact ylr n m h0 h1 hi hm
  ·exact yls n m h0 h1 hi hm
  ·exact ylt n m h0 h1 hi hm
  ·exact ylu n m h0 h1 hi hm
  ·exact ylv n m h0 h1 hi hm
  ·exact ylw n m h0 h1 hi hm
  ·exact ylx n m h0 h1 hi hm
  ·exact yly n m h0 h1 hi hm
  ·exact ylz n m h0 h1 hi hm
  ·exact ylA n m h0 h1 hi hm
  ·exact ylB n m h0 h1 hi hm
  ·exact ylC n m h0 h1 hi hm
def zB (xs:List Int):Prop:=∀ i (h:i < xs.length),xs[i]=19
theorem yhH (ao:Option Addr) (cap:Nat) (xs:List Int) (w:World) (h:yn w ao xs) (hn:xs.length<=65535) :
  Calls Tryz.prog 164 #[.slice ao xs.length cap] w fun e w'=>ye e (zB xs)/\w'=w:=by
 have H:=hid h;clear h;go_enter Tryz.func164,Tryz.ntmps164;go_wp2
 go_loop [7] (fun i=>∃ k:Nat,k<=xs.length/\i = .int .i64 k/\∀ j (hj:j < xs.length),j < k->xs[j]=19) (fun i=>xs.length - (intOf i).toNat)
 case atStart=>exact ⟨0,Nat.zero_le _,rfl,fun j _ hj=>absurd hj (Nat.not_lt_zero j)⟩
 case round =>
  obtain ⟨k,hk,rfl,hall⟩:=hrel;have HA:=hid hall;clear hall;by_cases hlt:k < xs.length
  ·obtain ⟨g,off,rfl,hc⟩:=H.o (by omega);have hck:=hc k hlt;clear hc;by_cases h1:xs[k]=19
   ·have HE:=hid h1;have d1:(xs[k] == 19)=true:=beq_iff_eq.2 h1;clear h1;go_wp2
    go_round
    case rel=>exact ⟨k+1,by omega,by go_num,fun j hj hjk=>(Nat.lt_succ_iff_lt_or_eq.1 hjk).elim (fun h=>HA.o j hj h) (fun h=>by subst h; exact HE.o)⟩
    case measure=>simp [intOf]; omega
   ·have N:=hid (show ¬ zB xs from fun hw=>h1 (hw k hlt));have d1:(xs[k] == 19)=false:=beq_eq_false_iff_ne.2 h1;clear h1;go_wp2;go_ret;exact ⟨ye.no N.o,rfl⟩
  ·go_wp2;go_ret;exact ⟨ye.yes fun i hi=>HA.o i hi (by omega),rfl⟩
def IE (kind op1 rd m1 op2 rs m2:Int):Prop:=(rd≠0/\rs=rd/\m1=0/\m2=0)/\(if kind=4 then op1=2/\op2=4 else op1=1/\(op2=13\/op2=11\/op2=12))
theorem WY (kind op1 CP s1 t1 m1 op2 xP s2 t2 m2:Int) (w:World) :
  Calls Tryz.prog 163 #[.int .i64 kind,lu op1 CP s1 t1 m1,lu op2 xP s2 t2 m2] w fun e w'=>ye e (IE kind op1 CP m1 op2 s2 m2)/\w.grownBy w' none:=by
 have G1:=hid (fun o:Obj=>aW w o none);have G2:=hid (fun o o':Obj=>aW (w.alloc o) o' none);have HQ:=hid (show IE kind op1 CP m1 op2 s2 m2↔(CP≠0/\s2=CP/\m1=0/\m2=0)/\(if kind=4 then op1=2/\op2=4 else op1=1/\(op2=13\/op2=11\/op2=12)) from Iff.rfl);generalize IE kind op1 CP m1 op2 s2 m2=Q at *;unfold lu;by_cases c1:CP=0
 ·have N:=hid (show ¬ Q from fun q=>(HQ.o.1 q).1.1 c1);subst c1;clear HQ;go_enter Tryz.func163,Tryz.ntmps163;go_wp2;go_ret;exact ⟨ye.no N.o,ya (G1.o _) (G2.o _ _)⟩
 have d1:(CP == 0)=false:=beq_eq_false_iff_ne.2 c1;by_cases c2:s2=CP
 rotate_left
 ·have N:=hid (show ¬ Q from fun q=>c2 (HQ.o.1 q).1.2.1);have d2:(s2 != CP)=true:=by simpa using c2
  clear HQ c1 c2;go_enter Tryz.func163,Tryz.ntmps163;go_wp2;go_ret;exact ⟨ye.no N.o,ya (G1.o _) (G2.o _ _)⟩
 subst c2;have d2:(s2 == s2)=true:=by simp
 by_cases c3:m1=0
 rotate_left
 ·have N:=hid (show ¬ Q from fun q=>c3 (HQ.o.1 q).1.2.2.1);have d3:(m1 == 0)=false:=beq_eq_false_iff_ne.2 c3;clear HQ c1 c3;go_enter Tryz.func163,Tryz.ntmps163;go_wp2;go_ret;exact ⟨ye.no N.o,ya (G1.o _) (G2.o _ _)⟩
 subst c3;by_cases c4:m2=0
 rotate_left
 ·have N:=hid (show ¬ Q from fun q=>c4 (HQ.o.1 q).1.2.2.2);have d4:(m2 == 0)=false:=beq_eq_false_iff_ne.2 c4;clear HQ c1 c4;go_enter Tryz.func163,Tryz.ntmps163;go_wp2;go_ret;exact ⟨ye.no N.o,ya (G1.o _) (G2.o _ _)⟩
 subst c4;have C1:=hid c1;clear c1;by_cases k4:kind=4
 ·subst k4;have mR:=hid (show Q↔op1=2/\op2=4 from by rw [HQ.o,if_pos rfl]; exact ⟨fun h=>h.2,fun h=>⟨⟨C1.o,rfl,rfl,rfl⟩,h⟩⟩);clear HQ;by_cases o1:op1=2
  ·subst o1;go_enter Tryz.func163,Tryz.ntmps163;go_wp2;go_ret;exact ⟨ye.of (by rw [mR.o,beq_iff_eq]; simp),ya (G1.o _) (G2.o _ _)⟩
  ·have N:=hid (show ¬ Q from fun q=>o1 (mR.o.1 q).1);have d5:(op1 == 2)=false:=beq_eq_false_iff_ne.2 o1;clear mR o1;go_enter Tryz.func163,Tryz.ntmps163;go_wp2;go_ret;exact ⟨ye.no N.o,ya (G1.o _) (G2.o _ _)⟩
 ·have mR:=hid (show Q↔op1=1/\(op2=13\/op2=11\/op2=12) from by rw [HQ.o,if_neg k4]; exact ⟨fun h=>h.2,fun h=>⟨⟨C1.o,rfl,rfl,rfl⟩,h⟩⟩);have dk:(kind == 4)=false:=beq_eq_false_iff_ne.2 k4;clear HQ k4;by_cases o1:op1=1
  rotate_left
  ·have N:=hid (show ¬ Q from fun q=>o1 (mR.o.1 q).1);have d5:(op1 == 1)=false:=beq_eq_false_iff_ne.2 o1;clear mR o1;go_enter Tryz.func163,Tryz.ntmps163;go_wp2;go_ret;exact ⟨ye.no N.o,ya (G1.o _) (G2.o _ _)⟩
  subst o1;by_cases o2:op2=13
  ·subst o2;go_enter Tryz.func163,Tryz.ntmps163;go_wp2;go_ret;exact ⟨ye.yes (by rw [mR.o]; simp),ya (G1.o _) (G2.o _ _)⟩
  have e2:(op2 == 13)=false:=beq_eq_false_iff_ne.2 o2;by_cases o3:op2=11
  ·subst o3;go_enter Tryz.func163,Tryz.ntmps163;go_wp2;go_ret;exact ⟨ye.yes (by rw [mR.o]; simp),ya (G1.o _) (G2.o _ _)⟩
  have e3:(op2 == 11)=false:=beq_eq_false_iff_ne.2 o3;have O:=hid (⟨o2,o3⟩:op2≠13/\op2≠11);clear o2 o3;go_enter Tryz.func163,Tryz.ntmps163;go_wp2;go_ret;exact ⟨ye.of (by rw [mR.o,beq_iff_eq]; have:=O.o; simp; omega),ya (G1.o _) (G2.o _ _)⟩
def zq (kind a b:Int):Prop:=a / 128 % 32≠0/\b / 32768 % 32=a / 128 % 32/\(if kind=4 then nT 23 a/\nA 103 0 b else nT 55 a/\(nA 19 0 b\/nA 3 2 b\/oz b))
theorem PY (kind a b op1 CP s1 m1 op2 xP s2 m2:Int) (h1:yu a op1 CP s1 m1) (h2:yu b op2 xP s2 m2):IE kind op1 CP m1 op2 s2 m2↔zq kind a b:=by
 obtain ⟨-,-,a1,a2,-,-,-,-,a9,-⟩:=h1;obtain ⟨-,-,-,-,b4,b11,b12,b13,-,b10⟩:=h2;unfold IE zq;rw [<- a1,<- a2,<- b4,<- b11,<- b12,<- b13];split
 ·constructor
  ·rintro ⟨⟨x1,x2,x3,x4⟩,x5,x6⟩;have y1:=a9 (.inr x5);have y2:=b10 (.inl x6);rw [<- y1,<- y2];exact ⟨x1,x2,⟨x5,x3⟩,x6,x4⟩
  ·rintro ⟨x1,x2,⟨x5,x3⟩,x6,x4⟩;have y1:=a9 (.inr x5);have y2:=b10 (.inl x6);rw [<- y1] at x1 x2;rw [<- y2] at x2;exact ⟨⟨x1,x2,x3,x4⟩,x5,x6⟩
 ·constructor
  ·rintro ⟨⟨x1,x2,x3,x4⟩,x5,x6⟩;have y1:=a9 (.inl x5);have y2:=b10 (by omega);rw [<- y1,<- y2];exact ⟨x1,x2,⟨x5,x3⟩,by omega⟩
  ·rintro ⟨x1,x2,⟨x5,x3⟩,x6⟩;have y1:=a9 (.inl x5);have y2:=b10 (by omega);rw [<- y1] at x1 x2;rw [<- y2] at x2;exact ⟨⟨x1,x2,x3,by omega⟩,x5,by omega⟩
def yt (kind:Int) (xs:List Int):Prop :=
 if kind=1 then xs.getD 0 0=0 else if kind=2 then yV (xs.getD 0 0) else if kind=3 then iB (xs.getD 0 0) else if kind=4\/kind=5 then zq kind (xs.getD 0 0) (xs.getD 1 0) else if kind=6 then zB xs else False
theorem WS (kind:Int) (w:World) :
  Calls Tryz.prog 149 #[.int .i64 kind,.slice none 0 0] w fun e w'=>e = .returned (.bool false)/\w'=w:=by
 go_enter Tryz.func149,Tryz.ntmps149;go_wp2;go_ret;exact ⟨rfl,rfl⟩
theorem WR (kind:Int) (ao:Option Addr) (cap:Nat) (xs:List Int) (w:World) (ht:gD w) (h:yn w ao xs) (hw:mO xs) (hn:xs.length<=3) (hn1:1<=xs.length) (hk:1<=kind/\kind<=6) (h2:kind=4\/kind=5->xs.length=2) :
  Calls Tryz.prog 149 #[.int .i64 kind,.slice ao xs.length cap] w fun e w'=>ye e (yt kind xs)/\w.grownBy w' none:=by
 obtain ⟨g,off,rfl,hc⟩:=h (by omega);have hx0:=hw 0 (by omega);have hgd:xs.getD 0 0=xs[0]:=by rw [mP,kg (by omega)]; rfl
 have q0:=hc 0 (by omega);have cD:=hid (TU xs[0] w ht hx0.1 hx0.2);have cN:=hid (fun W (hW:yn W (some ⟨g,off,none⟩) xs)=>yhH (some ⟨g,off,none⟩) cap xs W hW (by omega));have HI:=hid h;simp only [Nat.add_zero] at q0;rcases (show kind=1\/kind=2\/kind=3\/kind=6\/kind=4\/kind=5 from by omega) with rfl | rfl | rfl | rfl | rfl | rfl
 ·have HQ:=hid (show yt 1 xs↔xs[0]=0 from by simp only [yt,if_true]; rw [hgd]);generalize yt 1 xs=Q at *;clear h2 hk h hc hw ht HI;go_enter Tryz.func149,Tryz.ntmps149;go_wp2_with fail;refine cD.o.mono ?_;rintro e w1 ⟨⟨op,rd,s1,t1,m,rfl,hd⟩,hq⟩;have q1:=yb q0 hq;unfold lu;have nW:=hid hq;clear hq q0 hd;have GA:=hid (fun ob:Obj=>aW w1 ob none);have q2:=fun ob:Obj=>yb q1 (aW w1 ob none)
  go_wp2;go_ret;exact ⟨ye.of (by rw [HQ.o,beq_iff_eq]),ya nW.o (GA.o _)⟩
 ·have HQ:=hid (show yt 2 xs↔yV xs[0] from by unfold yt; rw [if_neg (by decide),if_pos rfl,hgd]);generalize yt 2 xs=Q at *;clear h2 hk h hc hw ht HI;go_enter Tryz.func149,Tryz.ntmps149;go_wp2_with fail;refine cD.o.mono ?_;rintro e w1 ⟨⟨op,rd,s1,t1,m,rfl,hd⟩,hq⟩;have q1:=yb q0 hq;unfold lu;have nW:=hid hq;have DF:=hid (Aq xs[0] op rd s1 m hx0.1 hx0.2 hd);clear hq q0 hd;have GA:=hid (fun ob:Obj=>aW w1 ob none);by_cases o1:5<=op
  ·have d1:decide (5<=op)=true:=by simpa using o1
   by_cases o2:op<=10
   ·have d2:decide (op<=10)=true:=by simpa using o2
    go_wp2;go_ret;exact ⟨ye.of (by rw [HQ.o,<- DF.o.1,beq_iff_eq]; exact ⟨fun h=>⟨o1,o2,h⟩,fun h=>h.2.2⟩),ya nW.o (GA.o _)⟩
   ·have d2:decide (op<=10)=false:=by simp; omega
    go_wp2;go_ret;exact ⟨ye.no (by rw [HQ.o,<- DF.o.1]; omega),ya nW.o (GA.o _)⟩
  ·have d1:decide (5<=op)=false:=by simp; omega
   go_wp2;go_ret;exact ⟨ye.no (by rw [HQ.o,<- DF.o.1]; omega),ya nW.o (GA.o _)⟩
 ·have HQ:=hid (show yt 3 xs↔iB xs[0] from by unfold yt; rw [if_neg (by decide),if_neg (by decide),if_pos rfl,hgd]);generalize yt 3 xs=Q at *;clear h2 hk h hc hw ht HI;go_enter Tryz.func149,Tryz.ntmps149;go_wp2_with fail;refine cD.o.mono ?_;rintro e w1 ⟨⟨op,rd,s1,t1,m,rfl,hd⟩,hq⟩;have q1:=yb q0 hq;unfold lu;have nW:=hid hq;have DF:=hid (Aq xs[0] op rd s1 m hx0.1 hx0.2 hd);clear hq q0 hd;have GA:=hid (fun ob:Obj=>aW w1 ob none);by_cases o1:op=3
  ·subst o1;go_wp2;go_ret;exact ⟨ye.of (by rw [HQ.o,<- DF.o.2.1,beq_iff_eq]; simp),ya nW.o (GA.o _)⟩
  ·have d1:(op == 3)=false:=beq_eq_false_iff_ne.2 o1;have O:=hid o1;clear o1;go_wp2;go_ret;exact ⟨ye.no (by rw [HQ.o,<- DF.o.2.1]; have:=O.o; omega),ya nW.o (GA.o _)⟩
 ·have HQ:=hid (show yt 6 xs↔zB xs from by unfold yt; rw [if_neg (by decide),if_neg (by decide),if_neg (by decide),if_neg (by decide),if_pos rfl]);generalize yt 6 xs=Q at *;clear h2 hk h hc hw ht;go_enter Tryz.func149,Tryz.ntmps149;go_wp2_with fail;refine cD.o.mono ?_;rintro e w1 ⟨⟨op,rd,s1,t1,m,rfl,hd⟩,hq⟩;have q1:=yb q0 hq;unfold lu;have nW:=hid hq;have DF:=hid (Aq xs[0] op rd s1 m hx0.1 hx0.2 hd);clear hq q0 hd;have GA:=hid (fun ob:Obj=>aW w1 ob none);go_wp2_with fail;refine (cN.o _ ((HI.o.kept (fun a v hv=>yb hv nW.o)).kept (fun a v hv=>yb hv (GA.o _)))).mono ?_;rintro e w2 ⟨t,rfl⟩;obtain ⟨b,rfl,hb⟩:=t
  have wN:=hid hb;clear hb;go_wp2;go_ret;exact ⟨ye.of (by rw [HQ.o]; exact wN.o),ya nW.o (GA.o _)⟩
 ·have hl2:=h2 (by omega);have hlt1:1 < xs.length:=by omega
  have hx1:=hw 1 hlt1;have hgd1:xs.getD 1 0=xs[1]'hlt1:=by rw [mP,kg hlt1]; rfl
  have HQ:=hid (show yt 4 xs↔zq 4 xs[0] xs[1] from by unfold yt; rw [if_neg (by decide),if_neg (by decide),if_neg (by decide),if_pos (by decide),hgd,hgd1]);have q1:=hc 1 hlt1;have JJ:=hid (fun W (hW:gD W)=>TU xs[1] W hW hx1.1 hx1.2);have HT:=hid ht;generalize yt 4 xs=Q at *;have dl:((xs.length:Int) == 2)=true:=by rw [beq_iff_eq]; omega
  have hl3:2<=xs.length:=by omega
  have g1:(1:Int) < (xs.length:Int):=by omega
  have g2:(0:Int) < (xs.length:Int):=by omega
  clear h2 hk h hc hw ht HI cN hl2;go_enter Tryz.func149,Tryz.ntmps149;go_wp2_with fail;refine cD.o.mono ?_;rintro e w1 ⟨⟨op,rd,s1,t1,m,rfl,hd⟩,hq⟩;unfold lu;have B:=yd.new w1 #[.int .i64 op,.int .i64 rd,.int .i64 s1,.int .i64 t1,.int .i64 m] 140;have GA:=aW w1 (.cells #[.int .i64 op,.int .i64 rd,.int .i64 s1,.int .i64 t1,.int .i64 m] 140) none;have c0:Hd ((w1.alloc (.cells #[.int .i64 op,.int .i64 rd,.int .i64 s1,.int .i64 t1,.int .i64 m] 140)).drew.cell? ⟨w1.heap.size,0,none⟩=some (.int .i64 op)):=B.cell 0;have c1:Hd ((w1.alloc (.cells #[.int .i64 op,.int .i64 rd,.int .i64 s1,.int .i64 t1,.int .i64 m] 140)).drew.cell? ⟨w1.heap.size,1,none⟩=some (.int .i64 rd)):=B.cell 1
  have c2:Hd ((w1.alloc (.cells #[.int .i64 op,.int .i64 rd,.int .i64 s1,.int .i64 t1,.int .i64 m] 140)).drew.cell? ⟨w1.heap.size,2,none⟩=some (.int .i64 s1)):=B.cell 2;have c3:Hd ((w1.alloc (.cells #[.int .i64 op,.int .i64 rd,.int .i64 s1,.int .i64 t1,.int .i64 m] 140)).drew.cell? ⟨w1.heap.size,3,none⟩=some (.int .i64 t1)):=B.cell 3;have c4:Hd ((w1.alloc (.cells #[.int .i64 op,.int .i64 rd,.int .i64 s1,.int .i64 t1,.int .i64 m] 140)).drew.cell? ⟨w1.heap.size,4,none⟩=some (.int .i64 m)):=B.cell 4;have c5:Hd ((w1.alloc (.cells #[.int .i64 op,.int .i64 rd,.int .i64 s1,.int .i64 t1,.int .i64 m] 140)).drew.cell? ⟨g,off+1,none⟩=some (.int .i64 xs[1])):=yb (yb q1 hq) (yg GA)
  have hgl:g < w1.heap.size:=World.block_lt_of_cell? w1 _ (yb q1 hq);have hnew:=World.new_ne w1 ⟨g,off+1,none⟩ (yb q1 hq);have q2:=yb q1 hq;have GG:=hid (ya hq (yg GA));have DF:=hid (Aq xs[0] op rd s1 m hx0.1 hx0.2 hd);clear hq q0 q1 hd B GA cD;go_wp2
  go_region_held3 (fun w'=>w'.cell? ⟨w1.heap.size,0,none⟩=some (.int .i64 op)/\w'.cell? ⟨w1.heap.size,1,none⟩=some (.int .i64 rd)/\w'.cell? ⟨w1.heap.size,2,none⟩=some (.int .i64 s1)/\w'.cell? ⟨w1.heap.size,3,none⟩=some (.int .i64 t1)/\w'.cell? ⟨w1.heap.size,4,none⟩=some (.int .i64 m)/\w'.cell? ⟨g,off+1,none⟩=some (.int .i64 xs[1]))
   (go_keep)
   (first | (go_at_call 161; refine (JJ.o _ (HT.o.grown GG.o)).mono ?_; rintro e w' ⟨⟨op2,xP,s2,t2,m2,rfl,hd2⟩,hq⟩; have s0:=yb c0.o hq; have s1':=yb c1.o hq; have s2':=yb c2.o hq; have s3:=yb c3.o hq; have s4:=yb c4.o hq; have s5:=yb c5.o hq) | (go_at_call 163; refine (WY 4 op rd s1 t1 m op2 xP s2 t2 m2 _).mono ?_; rintro e w'' ⟨⟨b,rfl,hb⟩,hq2⟩; have z0:=yb s0 hq2; have z1:=yb s1' hq2; have z2:=yb s2' hq2; have z3:=yb s3 hq2; have z4:=yb s4 hq2; have z5:=yb s5 hq2))
  have wN:=hid hb;have D2:=hid (Aq xs[1] op2 xP s2 m2 hx1.1 hx1.2 hd2);have GF:=hid (ya (ya GG.o hq) hq2);clear hb hd2 hq hq2 s0 s1' s2' s3 s4 s5 z0 z1 z2 z3 z4 z5;go_wp2;go_ret;exact ⟨ye.of (by rw [HQ.o,<- PY 4 xs[0] xs[1] op rd s1 m op2 xP s2 m2 DF.o D2.o]; exact wN.o),GF.o⟩
 ·have hl2:=h2 (by omega);have hlt1:1 < xs.length:=by omega
  have hx1:=hw 1 hlt1;have hgd1:xs.getD 1 0=xs[1]'hlt1:=by rw [mP,kg hlt1]; rfl
  have HQ:=hid (show yt 5 xs↔zq 5 xs[0] xs[1] from by unfold yt; rw [if_neg (by decide),if_neg (by decide),if_neg (by decide),if_pos (by decide),hgd,hgd1]);have q1:=hc 1 hlt1;have JJ:=hid (fun W (hW:gD W)=>TU xs[1] W hW hx1.1 hx1.2);have HT:=hid ht;generalize yt 5 xs=Q at *;have dl:((xs.length:Int) == 2)=true:=by rw [beq_iff_eq]; omega
  have hl3:2<=xs.length:=by omega
  have g1:(1:Int) < (xs.length:Int):=by omega
  have g2:(0:Int) < (xs.length:Int):=by omega
  clear h2 hk h hc hw ht HI cN hl2;go_enter Tryz.func149,Tryz.ntmps149;go_wp2_with fail;refine cD.o.mono ?_;rintro e w1 ⟨⟨op,rd,s1,t1,m,rfl,hd⟩,hq⟩;unfold lu;have B:=yd.new w1 #[.int .i64 op,.int .i64 rd,.int .i64 s1,.int .i64 t1,.int .i64 m] 140;have GA:=aW w1 (.cells #[.int .i64 op,.int .i64 rd,.int .i64 s1,.int .i64 t1,.int .i64 m] 140) none;have c0:Hd ((w1.alloc (.cells #[.int .i64 op,.int .i64 rd,.int .i64 s1,.int .i64 t1,.int .i64 m] 140)).drew.cell? ⟨w1.heap.size,0,none⟩=some (.int .i64 op)):=B.cell 0;have c1:Hd ((w1.alloc (.cells #[.int .i64 op,.int .i64 rd,.int .i64 s1,.int .i64 t1,.int .i64 m] 140)).drew.cell? ⟨w1.heap.size,1,none⟩=some (.int .i64 rd)):=B.cell 1
  have c2:Hd ((w1.alloc (.cells #[.int .i64 op,.int .i64 rd,.int .i64 s1,.int .i64 t1,.int .i64 m] 140)).drew.cell? ⟨w1.heap.size,2,none⟩=some (.int .i64 s1)):=B.cell 2;have c3:Hd ((w1.alloc (.cells #[.int .i64 op,.int .i64 rd,.int .i64 s1,.int .i64 t1,.int .i64 m] 140)).drew.cell? ⟨w1.heap.size,3,none⟩=some (.int .i64 t1)):=B.cell 3;have c4:Hd ((w1.alloc (.cells #[.int .i64 op,.int .i64 rd,.int .i64 s1,.int .i64 t1,.int .i64 m] 140)).drew.cell? ⟨w1.heap.size,4,none⟩=some (.int .i64 m)):=B.cell 4;have c5:Hd ((w1.alloc (.cells #[.int .i64 op,.int .i64 rd,.int .i64 s1,.int .i64 t1,.int .i64 m] 140)).drew.cell? ⟨g,off+1,none⟩=some (.int .i64 xs[1])):=yb (yb q1 hq) (yg GA)
  have hgl:g < w1.heap.size:=World.block_lt_of_cell? w1 _ (yb q1 hq);have hnew:=World.new_ne w1 ⟨g,off+1,none⟩ (yb q1 hq);have q2:=yb q1 hq;have GG:=hid (ya hq (yg GA));have DF:=hid (Aq xs[0] op rd s1 m hx0.1 hx0.2 hd);clear hq q0 q1 hd B GA cD;go_wp2
  go_region_held3 (fun w'=>w'.cell? ⟨w1.heap.size,0,none⟩=some (.int .i64 op)/\w'.cell? ⟨w1.heap.size,1,none⟩=some (.int .i64 rd)/\w'.cell? ⟨w1.heap.size,2,none⟩=some (.int .i64 s1)/\w'.cell? ⟨w1.heap.size,3,none⟩=some (.int .i64 t1)/\w'.cell? ⟨w1.heap.size,4,none⟩=some (.int .i64 m)/\w'.cell? ⟨g,off+1,none⟩=some (.int .i64 xs[1]))
   (go_keep)
   (first | (go_at_call 161; refine (JJ.o _ (HT.o.grown GG.o)).mono ?_; rintro e w' ⟨⟨op2,xP,s2,t2,m2,rfl,hd2⟩,hq⟩; have s0:=yb c0.o hq; have s1':=yb c1.o hq; have s2':=yb c2.o hq; have s3:=yb c3.o hq; have s4:=yb c4.o hq; have s5:=yb c5.o hq) | (go_at_call 163; refine (WY 5 op rd s1 t1 m op2 xP s2 t2 m2 _).mono ?_; rintro e w'' ⟨⟨b,rfl,hb⟩,hq2⟩; have z0:=yb s0 hq2; have z1:=yb s1' hq2; have z2:=yb s2' hq2; have z3:=yb s3 hq2; have z4:=yb s4 hq2; have z5:=yb s5 hq2))
  have wN:=hid hb;have D2:=hid (Aq xs[1] op2 xP s2 m2 hx1.1 hx1.2 hd2);have GF:=hid (ya (ya GG.o hq) hq2);clear hb hd2 hq hq2 s0 s1' s2' s3 s4 s5 z0 z1 z2 z3 z4 z5;go_wp2;go_ret;exact ⟨ye.of (by rw [HQ.o,<- PY 5 xs[0] xs[1] op rd s1 m op2 xP s2 m2 DF.o D2.o]; exact wN.o),GF.o⟩
def yQ (o:Lk.Obj) (r:Lk.Rel):Prop:=r.kind=6->r.addend+4<=pG (o.align.getD (r.ah.toNat - 1) 0)
def yY (o:Lk.Obj) (r:Lk.Rel):Prop:=yC r/\yk r/\yS o r/\yQ o r/\yv o r/\yt r.kind (yF o r)/\¬ yN o r
theorem Du {o:Lk.Obj} {r:Lk.Rel} (ha:yk r) (hab:yv o r) (hw:mO (ym o r.ah)):(yF o r).length=(yo r).toNat/\mO (yF o r)/\(yF o r).length<=3/\1<=(yF o r).length:=by
 have hs:=yD ha;obtain ⟨b1,b2,b3⟩:=hab;have hl:(yF o r).length=(yo r).toNat:=by unfold yF; simp; omega
 refine ⟨hl,?_,by omega,by omega⟩;intro i hi;have hi':(r.off / 4).toNat+i < (ym o r.ah).length:=by omega
 have e:(yF o r)[i]=(ym o r.ah)[(r.off / 4).toNat+i]:=by
  simp only [yF,List.getElem_take,List.getElem_drop]
 rw [e];exact hw _ hi'
theorem Gf {o:Lk.Obj} (h:tN o) (ah:Int):mO (ym o ah):=by
 unfold ym;split
 ·exact h.1
 split
 ·exact h.2.1
 split
 ·exact h.2.2
 ·intro i hi; simp at hi
theorem Un {e:Ending} {P:Prop} (h:ye e P) (hp:P):e = .returned (.bool true):=by
 rcases h.split with ⟨_,q⟩ | ⟨h1,_⟩
 ·exact absurd hp q.o
 ·exact h1
theorem XH {e:Ending} {P:Prop} (h:ye e P) (hp:¬ P):e = .returned (.bool false):=by
 rcases h.split with ⟨h1,_⟩ | ⟨_,q⟩
 ·exact h1
 ·exact absurd q.o hp
theorem ygg (g:Nat) (o:Lk.Obj) (r:Lk.Rel) (w:World) (ht:gD w) (h:yw w g o) (hn:ou o) (hb4:rD o.align) (hw:tN o) (hr:r.off<=9223372036854775807) :
  Calls Tryz.prog 123 #[.pointer (some ⟨g,0,none⟩),fM r] w fun e w'=>ye e (yY o r)/\w.grownBy w' none:=by
 have no:Hd (∀ W,(¬ yY o r)->w.grownBy W none->ye (.returned (.bool false)) (yY o r)/\w.grownBy W none):=fun W a b=>⟨ye.no a,b⟩
 have HO:=hid h;have HT:=hid ht;have HN:=hid hn;have wV:=hid hb4;have HW:=hid hw;clear h ht hn hb4 hw;have B:=yd.new w #[.int .i64 r.ah,.int .i64 r.off,.int .i64 r.kind,.int .i64 r.sym,.int .i64 r.addend] 54;have GB:=aW w (.cells #[.int .i64 r.ah,.int .i64 r.off,.int .i64 r.kind,.int .i64 r.sym,.int .i64 r.addend] 54) none;have YJ:=hid B;have YL:=hid GB;clear B GB;have cK:=hid (fun W=>ygI r W);have cA:=hid (fun W=>yfL r W);have cS:=hid (fun W (hW:yw W g o)=>yhE g o r W hW HN.o);have fold:fM r = .agg #[.int .i64 r.ah,.int .i64 r.off,.int .i64 r.kind,.int .i64 r.sym,.int .i64 r.addend]:=rfl;rw [fold]
 rw [fold] at cK cA cS;clear fold;go_enter Tryz.func123,Tryz.ntmps123;go_wp2_with fail;refine Calls.fO (fun W=>yd W w.heap.size #[.int .i64 r.ah,.int .i64 r.off,.int .i64 r.kind,.int .i64 r.sym,.int .i64 r.addend] 54/\w.grownBy W none) ⟨YJ.o,YL.o⟩ ?_;rintro W1 ⟨bk1,g1⟩;refine (cK.o W1).mono ?_;rintro e W2 ⟨t,q⟩;have IK:=bk1.grown q (by simp);have G2:=hid (ya g1 q);rcases t.split with ⟨rfl,p1⟩ | ⟨rfl,p1⟩ <;> clear t q bk1 g1
 ·clear IK;go_wp2;go_ret;exact no.o _ (fun h=>p1.o h.1) G2.o
 have c0:=IK.cell 0;have c1:=IK.cell 1;have c2:=IK.cell 2;have c3:=IK.cell 3;have c4:=IK.cell 4;have HB2:=hid IK;clear IK;go_wp2_with fail;refine (cA.o W2).mono ?_;rintro e W3 ⟨t,q⟩;have IL:=HB2.o.grown q (by simp);have G3:=hid (ya G2.o q);clear c0 c1 c2 c3 c4;rcases t.split with ⟨rfl,p2⟩ | ⟨rfl,p2⟩ <;> clear t q
 ·clear IL;go_wp2;go_ret;exact no.o _ (fun h=>p2.o h.2.1) G3.o
 have c0:=IL.cell 0;have c1:=IL.cell 1;have c2:=IL.cell 2;have c3:=IL.cell 3;have c4:=IL.cell 4;have HB3:=hid IL;clear IL;go_wp2_with fail;refine (cS.o W3 (HO.o.kept G3.o)).mono ?_;rintro e W4 ⟨t,q⟩;have IQ:=HB3.o.grown q (by simp);have G4:=hid (ya G3.o q);clear c0 c1 c2 c3 c4;rcases t.split with ⟨rfl,p3⟩ | ⟨rfl,p3⟩ <;> clear t q
 ·clear IQ;go_wp2;go_ret;exact no.o _ (fun h=>p3.o h.2.2.1) G4.o
 have c0:=IQ.cell 0;have c1:=IQ.cell 1;have c2:=IQ.cell 2;have c3:=IQ.cell 3;have c4:=IQ.cell 4;have L8:=hid IQ;clear IQ;have kinds:=p1.o;unfold yC at kinds;by_cases G9:r.kind=6
 ·have hs:1<=r.ah/\r.ah<=2:=by omega
  have ha:=p2.o.six G9;obtain ⟨sn,hsn⟩:∃ sn:Nat,r.ah=(sn:Int):=⟨r.ah.toNat,by omega⟩
  have hal:=wV.o.1;have cB:=hid (fun W (hW:yw W g o)=>show Calls Tryz.prog 148 #[.pointer (some ⟨g,0,none⟩),.int .i64 r.ah] W fun e w'=>e = .returned (.int .i64 (pG (o.align.getD (r.ah.toNat - 1) 0)))/\w'=W from by
   have:=ygQ g o sn W hW wV.o (by omega) (by omega)
   rw [hsn,Int.toNat_natCast,mP,kg (by omega)];exact this)
  have BB:=hid (show yQ o r↔r.addend+4<=pG (o.align.getD (r.ah.toNat - 1) 0) from ⟨fun h=>h G9,fun h _=>h⟩);generalize pG (o.align.getD (r.ah.toNat - 1) 0)=bd at *;have d6:(r.kind == 6)=true:=beq_iff_eq.2 G9;have hw4:IntKind.i64.wrap (r.addend+4)=r.addend+4:=IntWalk.i64_in _ ⟨by omega,by omega⟩;have K6:=hid G9;clear G9 kinds hsn hal;by_cases hbd:bd < r.addend+4
  ·have db:decide (bd < r.addend+4)=true:=by simpa using hbd
   go_wp2
   go_quiet ((go_at_call 148; exact Calls.quiet_of_same (cB.o _ ((HO.o.kept G4.o).drewN _))))
   go_wp2;go_ret;exact no.o _ (fun h=>by have:=BB.o.1 h.2.2.2.1; omega) (yc G4.o _)
  ·have db:decide (bd < r.addend+4)=false:=by simp; omega
   have Qx:=hid (show yQ o r from BB.o.2 (by omega));go_wp2
   go_quiet ((go_at_call 148; exact Calls.quiet_of_same (cB.o _ ((HO.o.kept G4.o).drewN _))))
   go_wp2;have B5:=L8.o.drewN nq;have G5:=hid (yc G4.o nq);have e0:Hd ((W4.drewN nq).drew.cell? ⟨w.heap.size,0,none⟩=some (.int .i64 r.ah)):=B5.cell 0;have e1:Hd ((W4.drewN nq).drew.cell? ⟨w.heap.size,1,none⟩=some (.int .i64 r.off)):=B5.cell 1;have e2:Hd ((W4.drewN nq).drew.cell? ⟨w.heap.size,2,none⟩=some (.int .i64 r.kind)):=B5.cell 2;have e3:Hd ((W4.drewN nq).drew.cell? ⟨w.heap.size,3,none⟩=some (.int .i64 r.sym)):=B5.cell 3;have e4:Hd ((W4.drewN nq).drew.cell? ⟨w.heap.size,4,none⟩=some (.int .i64 r.addend)):=B5.cell 4;have Gq:Hd (yw (W4.drewN nq).drew g o):=yw.drew (HO.o.kept G5.o);have Mc:Hd (gD (W4.drewN nq).drew):=HT.o.grown (yg G5.o)
   have G6:=hid (yg G5.o);clear B5;have hcr:=hid (show 1<=r.kind/\r.kind<=6 from by have:=p1.o; unfold yC at this; omega);by_cases hab:yv o r
   ·have Cv:=Du p2.o hab (Gf HW.o r.ah);have hoff:0<=r.off/\r.off<=1048576:=by
     obtain ⟨x1,x2,x3⟩:=hab;have y1:=yB HN.o r.ah;have y2:=yD p2.o;omega
    have Cq:=hid (fun W (hW:yw W g o)=>Ww g o r W hW HN.o p2.o hab);have GI:=hid (fun W ao cap (hW:gD W) (hI:yn W ao (yF o r))=>show Calls Tryz.prog 149 #[.int .i64 r.kind,.slice ao (yo r).toNat cap] W fun e w'=>ye e (yt r.kind (yF o r))/\W.grownBy w' none from by
     rw [<- Cv.1];exact WR r.kind ao cap (yF o r) W hW hI Cv.2.1 Cv.2.2.1 Cv.2.2.2 hcr.o (fun h=>by rw [Cv.1]; unfold yo; rw [if_pos h]; rfl))
    have MB:=hid (fun W (hW:yw W g o)=>Wu g o r W hW HN.o p2.o hoff.1 hoff.2);have lS:=hid hab;unfold fM at Cq MB;clear hab Cv hoff;generalize (yo r).toNat=sp at *;by_cases hg:yt r.kind (yF o r)
    ·have Dr:=hid hg;clear hg
     go_region_held3 (fun w'=>w'.cell? ⟨w.heap.size,0,none⟩=some (.int .i64 r.ah)/\w'.cell? ⟨w.heap.size,1,none⟩=some (.int .i64 r.off)/\w'.cell? ⟨w.heap.size,2,none⟩=some (.int .i64 r.kind)/\w'.cell? ⟨w.heap.size,3,none⟩=some (.int .i64 r.sym)/\w'.cell? ⟨w.heap.size,4,none⟩=some (.int .i64 r.addend))
      (go_keep)
      (first | (go_at_call 150; refine (Cq.o _ Gq.o).mono ?_; rintro e w5 ⟨ao,cap,rfl,hI,hq⟩; have s0:=yb e0.o hq; have s1:=yb e1.o hq; have s2:=yb e2.o hq; have s3:=yb e3.o hq; have s4:=yb e4.o hq) | (go_at_call 149; refine (GI.o _ ao cap (Mc.o.grown hq) hI).mono ?_; rintro e w6 ⟨Hl,hq2⟩; obtain rfl:=Un Hl Dr.o; have z0:=yb s0 hq2; have z1:=yb s1 hq2; have z2:=yb s2 hq2; have z3:=yb s3 hq2; have z4:=yb s4 hq2) | (go_at_call 151; refine (MB.o _ ((Gq.o.kept hq).kept hq2)).mono ?_; rintro e w7 ⟨⟨b,rfl,hb⟩,hq3⟩; have y0:=yb z0 hq3; have y1:=yb z1 hq3; have y2:=yb z2 hq3; have y3:=yb z3 hq3; have y4:=yb z4 hq3))
     have GF:=hid (ya (ya (ya G6.o hq) hq2) hq3);have wN:=hid hb;clear hb hq hq2 hq3 s0 s1 s2 s3 s4 z0 z1 z2 z3 z4 y0 y1 y2 y3 y4 hI Hl;go_wp2;go_ret;refine ⟨ye.of ?_,GF.o⟩;have hbb:=wN.o;constructor
     ·intro h;refine ⟨p1.o,p2.o,p3.o,Qx.o,lS.o,Dr.o,fun hwi=>?_⟩;rw [hbb.2 hwi] at h;simp at h
     ·intro h
      cases b
      ·rfl
      ·exact absurd (hbb.1 rfl) h.2.2.2.2.2.2
    ·have Dr:=hid hg;clear hg;refine wp_region_held_drew (S:=(fun w'=>w'.cell? ⟨w.heap.size,0,none⟩=some (.int .i64 r.ah)/\w'.cell? ⟨w.heap.size,1,none⟩=some (.int .i64 r.off)/\w'.cell? ⟨w.heap.size,2,none⟩=some (.int .i64 r.kind)/\w'.cell? ⟨w.heap.size,3,none⟩=some (.int .i64 r.sym)/\w'.cell? ⟨w.heap.size,4,none⟩=some (.int .i64 r.addend))) (by kernel_rfl) ⟨e0.o,e1.o,e2.o,e3.o,e4.o⟩ ?_;intro hS;refine jG (i:=0) (v:=?_) rfl ?_ hS ?_
     rotate_left
     ·intro w' _; go_simp; with_reducible rfl
     refine jG (i:=1) (v:=?_) rfl ?_ hS ?_
     rotate_left
     ·intro w' hw'; obtain ⟨x0,x1,x2,x3,x4⟩:=hw'; go_simp; with_reducible rfl
     refine jG (i:=2) (v:=?_) rfl ?_ hS ?_
     rotate_left
     ·intro w' _; go_simp; with_reducible rfl
     refine jG (i:=3) (v:=?_) rfl ?_ hS ?_
     rotate_left
     ·intro w' hw'; obtain ⟨x0,x1,x2,x3,x4⟩:=hw'; go_simp; with_reducible rfl
     refine wpAnyH_ready (rs:=[4]) (by kernel_rfl) (by simp) ?_;refine AllReadyH.cons rfl (fun K hK=>?_) AllReadyH.nil;go_simp;go_wp2_with (go_at_call 150; refine (Cq.o _ Gq.o).mono ?_; rintro e w5 ⟨ao,cap,rfl,hI,hq⟩)
     refine hK.out _ _ ⟨yb e0.o hq,yb e1.o hq,yb e2.o hq,yb e3.o hq,yb e4.o hq⟩ (fun hS2=>?_);clear hK K;refine wpAnyH_ready (rs:=[5]) (by kernel_rfl) (by simp) ?_;refine AllReadyH.cons rfl (fun K hK=>?_) AllReadyH.nil;go_simp;go_wp2_with (go_at_call 149; refine (GI.o _ ao cap (Mc.o.grown hq) hI).mono ?_; rintro e w6 ⟨Hl,hq2⟩; obtain rfl:=XH Hl Dr.o)
     refine hK.out _ _ ⟨yb (yb e0.o hq) hq2,yb (yb e1.o hq) hq2,yb (yb e2.o hq) hq2,yb (yb e3.o hq) hq2,yb (yb e4.o hq) hq2⟩ (fun lq=>?_);clear hK K;refine jG (i:=6) (v:=?_) rfl ?_ lq ?_
     rotate_left
     ·intro w' _; go_simp; with_reducible rfl
     refine zn (i:=7) rfl lq ?_;refine zn (i:=8) rfl lq ?_;refine zn (i:=9) rfl lq ?_;refine zn (i:=10) rfl lq ?_;refine wpAnyH_take (i:=11) (v:=.bool false) rfl (by kernel_rfl) (by kernel_rfl) (by kernel_rfl) (fun _ _ _ h=>h) (Or.inl ⟨by kernel_rfl,fun _ _=>by kernel_rfl⟩) lq ?_;refine wpAnyH_take (i:=12) (v:=.bool false) rfl (by kernel_rfl) (by kernel_rfl) (by kernel_rfl) (fun _ _ _ h=>h) (Or.inl ⟨by kernel_rfl,fun _ _=>by kernel_rfl⟩) lq ?_;refine wpAnyH_done (by kernel_rfl) ?_ _;simp only [oC,oF,oq,oD,iW,iR,iT];go_wp2;go_ret;exact no.o _ (fun h=>Dr.o h.2.2.2.2.2.1) (ya (ya G6.o hq) hq2)
   ·have Cq:=hid (fun W (hW:yw W g o)=>WT g o r W hW HN.o p2.o hab hr);have GI:=hid (fun W=>WS r.kind W);have lS:=hid hab;unfold fM at Cq;clear hab;refine wp_region_held_drew (S:=(fun w'=>w'.cell? ⟨w.heap.size,0,none⟩=some (.int .i64 r.ah)/\w'.cell? ⟨w.heap.size,1,none⟩=some (.int .i64 r.off)/\w'.cell? ⟨w.heap.size,2,none⟩=some (.int .i64 r.kind)/\w'.cell? ⟨w.heap.size,3,none⟩=some (.int .i64 r.sym)/\w'.cell? ⟨w.heap.size,4,none⟩=some (.int .i64 r.addend))) (by kernel_rfl) ⟨e0.o,e1.o,e2.o,e3.o,e4.o⟩ ?_;intro hS;refine jG (i:=0) (v:=?_) rfl ?_ hS ?_
    rotate_left
    ·intro w' _; go_simp; with_reducible rfl
    refine jG (i:=1) (v:=?_) rfl ?_ hS ?_
    rotate_left
    ·intro w' hw'; obtain ⟨x0,x1,x2,x3,x4⟩:=hw'; go_simp; with_reducible rfl
    refine jG (i:=2) (v:=?_) rfl ?_ hS ?_
    rotate_left
    ·intro w' _; go_simp; with_reducible rfl
    refine jG (i:=3) (v:=?_) rfl ?_ hS ?_
    rotate_left
    ·intro w' hw'; obtain ⟨x0,x1,x2,x3,x4⟩:=hw'; go_simp; with_reducible rfl
    refine wpAnyH_ready (rs:=[4]) (by kernel_rfl) (by simp) ?_;refine AllReadyH.cons rfl (fun K hK=>?_) AllReadyH.nil;go_simp;go_wp2_with (go_at_call 150; refine (Cq.o _ Gq.o).mono ?_; rintro e w5 ⟨rfl,hq⟩)
    refine hK.out _ _ ⟨yb e0.o hq,yb e1.o hq,yb e2.o hq,yb e3.o hq,yb e4.o hq⟩ (fun hS2=>?_);clear hK K;refine wpAnyH_ready (rs:=[5]) (by kernel_rfl) (by simp) ?_;refine AllReadyH.cons rfl (fun K hK=>?_) AllReadyH.nil;go_simp;go_wp2_with (go_at_call 149; refine (GI.o _).mono ?_; rintro e w6 ⟨rfl,RV⟩)
    subst RV;refine hK.out _ _ ⟨yb e0.o hq,yb e1.o hq,yb e2.o hq,yb e3.o hq,yb e4.o hq⟩ (fun lq=>?_);clear hK K;refine jG (i:=6) (v:=?_) rfl ?_ lq ?_
    rotate_left
    ·intro w' _; go_simp; with_reducible rfl
    refine zn (i:=7) rfl lq ?_;refine zn (i:=8) rfl lq ?_;refine zn (i:=9) rfl lq ?_;refine zn (i:=10) rfl lq ?_;refine wpAnyH_take (i:=11) (v:=.bool false) rfl (by kernel_rfl) (by kernel_rfl) (by kernel_rfl) (fun _ _ _ h=>h) (Or.inl ⟨by kernel_rfl,fun _ _=>by kernel_rfl⟩) lq ?_;refine wpAnyH_take (i:=12) (v:=.bool false) rfl (by kernel_rfl) (by kernel_rfl) (by kernel_rfl) (fun _ _ _ h=>h) (Or.inl ⟨by kernel_rfl,fun _ _=>by kernel_rfl⟩) lq ?_;refine wpAnyH_done (by kernel_rfl) ?_ _;simp only [oC,oF,oq,oD,iW,iR,iT];go_wp2;go_ret;exact no.o _ (fun h=>lS.o h.2.2.2.2.1) (ya G6.o hq)
 ·have Qx:=hid (show yQ o r from fun h=>absurd h G9);have d6:(r.kind == 6)=false:=beq_eq_false_iff_ne.2 G9;have K6:=hid G9;clear G9 kinds;go_wp2
  go_quiet (fail)
  go_wp2;have B5:=L8.o.drewN nq;have G5:=hid (yc G4.o nq);have e0:Hd ((W4.drewN nq).drew.cell? ⟨w.heap.size,0,none⟩=some (.int .i64 r.ah)):=B5.cell 0;have e1:Hd ((W4.drewN nq).drew.cell? ⟨w.heap.size,1,none⟩=some (.int .i64 r.off)):=B5.cell 1;have e2:Hd ((W4.drewN nq).drew.cell? ⟨w.heap.size,2,none⟩=some (.int .i64 r.kind)):=B5.cell 2;have e3:Hd ((W4.drewN nq).drew.cell? ⟨w.heap.size,3,none⟩=some (.int .i64 r.sym)):=B5.cell 3;have e4:Hd ((W4.drewN nq).drew.cell? ⟨w.heap.size,4,none⟩=some (.int .i64 r.addend)):=B5.cell 4;have Gq:Hd (yw (W4.drewN nq).drew g o):=yw.drew (HO.o.kept G5.o);have Mc:Hd (gD (W4.drewN nq).drew):=HT.o.grown (yg G5.o)
  have G6:=hid (yg G5.o);clear B5;have hcr:=hid (show 1<=r.kind/\r.kind<=6 from by have:=p1.o; unfold yC at this; omega);by_cases hab:yv o r
  ·have Cv:=Du p2.o hab (Gf HW.o r.ah);have hoff:0<=r.off/\r.off<=1048576:=by
    obtain ⟨x1,x2,x3⟩:=hab;have y1:=yB HN.o r.ah;have y2:=yD p2.o;omega
   have Cq:=hid (fun W (hW:yw W g o)=>Ww g o r W hW HN.o p2.o hab);have GI:=hid (fun W ao cap (hW:gD W) (hI:yn W ao (yF o r))=>show Calls Tryz.prog 149 #[.int .i64 r.kind,.slice ao (yo r).toNat cap] W fun e w'=>ye e (yt r.kind (yF o r))/\W.grownBy w' none from by
    rw [<- Cv.1];exact WR r.kind ao cap (yF o r) W hW hI Cv.2.1 Cv.2.2.1 Cv.2.2.2 hcr.o (fun h=>by rw [Cv.1]; unfold yo; rw [if_pos h]; rfl))
   have MB:=hid (fun W (hW:yw W g o)=>Wu g o r W hW HN.o p2.o hoff.1 hoff.2);have lS:=hid hab;unfold fM at Cq MB;clear hab Cv hoff;generalize (yo r).toNat=sp at *;by_cases hg:yt r.kind (yF o r)
   ·have Dr:=hid hg;clear hg
    go_region_held3 (fun w'=>w'.cell? ⟨w.heap.size,0,none⟩=some (.int .i64 r.ah)/\w'.cell? ⟨w.heap.size,1,none⟩=some (.int .i64 r.off)/\w'.cell? ⟨w.heap.size,2,none⟩=some (.int .i64 r.kind)/\w'.cell? ⟨w.heap.size,3,none⟩=some (.int .i64 r.sym)/\w'.cell? ⟨w.heap.size,4,none⟩=some (.int .i64 r.addend))
     (go_keep)
     (first | (go_at_call 150; refine (Cq.o _ Gq.o).mono ?_; rintro e w5 ⟨ao,cap,rfl,hI,hq⟩; have s0:=yb e0.o hq; have s1:=yb e1.o hq; have s2:=yb e2.o hq; have s3:=yb e3.o hq; have s4:=yb e4.o hq) | (go_at_call 149; refine (GI.o _ ao cap (Mc.o.grown hq) hI).mono ?_; rintro e w6 ⟨Hl,hq2⟩; obtain rfl:=Un Hl Dr.o; have z0:=yb s0 hq2; have z1:=yb s1 hq2; have z2:=yb s2 hq2; have z3:=yb s3 hq2; have z4:=yb s4 hq2) | (go_at_call 151; refine (MB.o _ ((Gq.o.kept hq).kept hq2)).mono ?_; rintro e w7 ⟨⟨b,rfl,hb⟩,hq3⟩; have y0:=yb z0 hq3; have y1:=yb z1 hq3; have y2:=yb z2 hq3; have y3:=yb z3 hq3; have y4:=yb z4 hq3))
    have GF:=hid (ya (ya (ya G6.o hq) hq2) hq3);have wN:=hid hb;clear hb hq hq2 hq3 s0 s1 s2 s3 s4 z0 z1 z2 z3 z4 y0 y1 y2 y3 y4 hI Hl;go_wp2;go_ret;refine ⟨ye.of ?_,GF.o⟩;have hbb:=wN.o;constructor
    ·intro h;refine ⟨p1.o,p2.o,p3.o,Qx.o,lS.o,Dr.o,fun hwi=>?_⟩;rw [hbb.2 hwi] at h;simp at h
    ·intro h
     cases b
     ·rfl
     ·exact absurd (hbb.1 rfl) h.2.2.2.2.2.2
   ·have Dr:=hid hg;clear hg;refine wp_region_held_drew (S:=(fun w'=>w'.cell? ⟨w.heap.size,0,none⟩=some (.int .i64 r.ah)/\w'.cell? ⟨w.heap.size,1,none⟩=some (.int .i64 r.off)/\w'.cell? ⟨w.heap.size,2,none⟩=some (.int .i64 r.kind)/\w'.cell? ⟨w.heap.size,3,none⟩=some (.int .i64 r.sym)/\w'.cell? ⟨w.heap.size,4,none⟩=some (.int .i64 r.addend))) (by kernel_rfl) ⟨e0.o,e1.o,e2.o,e3.o,e4.o⟩ ?_;intro hS;refine jG (i:=0) (v:=?_) rfl ?_ hS ?_
    rotate_left
    ·intro w' _; go_simp; with_reducible rfl
    refine jG (i:=1) (v:=?_) rfl ?_ hS ?_
    rotate_left
    ·intro w' hw'; obtain ⟨x0,x1,x2,x3,x4⟩:=hw'; go_simp; with_reducible rfl
    refine jG (i:=2) (v:=?_) rfl ?_ hS ?_
    rotate_left
    ·intro w' _; go_simp; with_reducible rfl
    refine jG (i:=3) (v:=?_) rfl ?_ hS ?_
    rotate_left
    ·intro w' hw'; obtain ⟨x0,x1,x2,x3,x4⟩:=hw'; go_simp; with_reducible rfl
    refine wpAnyH_ready (rs:=[4]) (by kernel_rfl) (by simp) ?_;refine AllReadyH.cons rfl (fun K hK=>?_) AllReadyH.nil;go_simp;go_wp2_with (go_at_call 150; refine (Cq.o _ Gq.o).mono ?_; rintro e w5 ⟨ao,cap,rfl,hI,hq⟩)
    refine hK.out _ _ ⟨yb e0.o hq,yb e1.o hq,yb e2.o hq,yb e3.o hq,yb e4.o hq⟩ (fun hS2=>?_);clear hK K;refine wpAnyH_ready (rs:=[5]) (by kernel_rfl) (by simp) ?_;refine AllReadyH.cons rfl (fun K hK=>?_) AllReadyH.nil;go_simp;go_wp2_with (go_at_call 149; refine (GI.o _ ao cap (Mc.o.grown hq) hI).mono ?_; rintro e w6 ⟨Hl,hq2⟩; obtain rfl:=XH Hl Dr.o)
    refine hK.out _ _ ⟨yb (yb e0.o hq) hq2,yb (yb e1.o hq) hq2,yb (yb e2.o hq) hq2,yb (yb e3.o hq) hq2,yb (yb e4.o hq) hq2⟩ (fun lq=>?_);clear hK K;refine jG (i:=6) (v:=?_) rfl ?_ lq ?_
    rotate_left
    ·intro w' _; go_simp; with_reducible rfl
    refine zn (i:=7) rfl lq ?_;refine zn (i:=8) rfl lq ?_;refine zn (i:=9) rfl lq ?_;refine zn (i:=10) rfl lq ?_;refine wpAnyH_take (i:=11) (v:=.bool false) rfl (by kernel_rfl) (by kernel_rfl) (by kernel_rfl) (fun _ _ _ h=>h) (Or.inl ⟨by kernel_rfl,fun _ _=>by kernel_rfl⟩) lq ?_;refine wpAnyH_take (i:=12) (v:=.bool false) rfl (by kernel_rfl) (by kernel_rfl) (by kernel_rfl) (fun _ _ _ h=>h) (Or.inl ⟨by kernel_rfl,fun _ _=>by kernel_rfl⟩) lq ?_;refine wpAnyH_done (by kernel_rfl) ?_ _;simp only [oC,oF,oq,oD,iW,iR,iT];go_wp2;go_ret;exact no.o _ (fun h=>Dr.o h.2.2.2.2.2.1) (ya (ya G6.o hq) hq2)
  ·have Cq:=hid (fun W (hW:yw W g o)=>WT g o r W hW HN.o p2.o hab hr);have GI:=hid (fun W=>WS r.kind W);have lS:=hid hab;unfold fM at Cq;clear hab;refine wp_region_held_drew (S:=(fun w'=>w'.cell? ⟨w.heap.size,0,none⟩=some (.int .i64 r.ah)/\w'.cell? ⟨w.heap.size,1,none⟩=some (.int .i64 r.off)/\w'.cell? ⟨w.heap.size,2,none⟩=some (.int .i64 r.kind)/\w'.cell? ⟨w.heap.size,3,none⟩=some (.int .i64 r.sym)/\w'.cell? ⟨w.heap.size,4,none⟩=some (.int .i64 r.addend))) (by kernel_rfl) ⟨e0.o,e1.o,e2.o,e3.o,e4.o⟩ ?_;intro hS;refine jG (i:=0) (v:=?_) rfl ?_ hS ?_
   rotate_left
   ·intro w' _; go_simp; with_reducible rfl
   refine jG (i:=1) (v:=?_) rfl ?_ hS ?_
   rotate_left
   ·intro w' hw'; obtain ⟨x0,x1,x2,x3,x4⟩:=hw'; go_simp; with_reducible rfl
   refine jG (i:=2) (v:=?_) rfl ?_ hS ?_
   rotate_left
   ·intro w' _; go_simp; with_reducible rfl
   refine jG (i:=3) (v:=?_) rfl ?_ hS ?_
   rotate_left
   ·intro w' hw'; obtain ⟨x0,x1,x2,x3,x4⟩:=hw'; go_simp; with_reducible rfl
   refine wpAnyH_ready (rs:=[4]) (by kernel_rfl) (by simp) ?_;refine AllReadyH.cons rfl (fun K hK=>?_) AllReadyH.nil;go_simp;go_wp2_with (go_at_call 150; refine (Cq.o _ Gq.o).mono ?_; rintro e w5 ⟨rfl,hq⟩)
   refine hK.out _ _ ⟨yb e0.o hq,yb e1.o hq,yb e2.o hq,yb e3.o hq,yb e4.o hq⟩ (fun hS2=>?_);clear hK K;refine wpAnyH_ready (rs:=[5]) (by kernel_rfl) (by simp) ?_;refine AllReadyH.cons rfl (fun K hK=>?_) AllReadyH.nil;go_simp;go_wp2_with (go_at_call 149; refine (GI.o _).mono ?_; rintro e w6 ⟨rfl,RV⟩)
   subst RV;refine hK.out _ _ ⟨yb e0.o hq,yb e1.o hq,yb e2.o hq,yb e3.o hq,yb e4.o hq⟩ (fun lq=>?_);clear hK K;refine jG (i:=6) (v:=?_) rfl ?_ lq ?_
   rotate_left
   ·intro w' _; go_simp; with_reducible rfl
   refine zn (i:=7) rfl lq ?_;refine zn (i:=8) rfl lq ?_;refine zn (i:=9) rfl lq ?_;refine zn (i:=10) rfl lq ?_;refine wpAnyH_take (i:=11) (v:=.bool false) rfl (by kernel_rfl) (by kernel_rfl) (by kernel_rfl) (fun _ _ _ h=>h) (Or.inl ⟨by kernel_rfl,fun _ _=>by kernel_rfl⟩) lq ?_;refine wpAnyH_take (i:=12) (v:=.bool false) rfl (by kernel_rfl) (by kernel_rfl) (by kernel_rfl) (fun _ _ _ h=>h) (Or.inl ⟨by kernel_rfl,fun _ _=>by kernel_rfl⟩) lq ?_;refine wpAnyH_done (by kernel_rfl) ?_ _;simp only [oC,oF,oq,oD,iW,iR,iT];go_wp2;go_ret;exact no.o _ (fun h=>lS.o h.2.2.2.2.1) (ya G6.o hq)
end Go.Proofs.YtnkkepfcpjllmaaGreatDoor
