
import Derived.Test.YtpgklkhgfcjceaaGreatDoorU05
set_option maxHeartbeats 16000000
set_option maxRecDepth 100000
namespace Go.Proofs.YtpgklkhgfcjceaaGreatDoor
open Go.RowKit
def yU (n:Int):Prop:=n % 128=99/\(n / 4096 % 8=0\/n / 4096 % 8=1\/n / 4096 % 8=4\/n / 4096 % 8=5\/n / 4096 % 8=6\/n / 4096 % 8=7)/\n / 33554432=0/\n / 128 % 32=0
def iP (n:Int):Prop:=n % 128=111/\n / 4096=0
def nS (Uv n:Int):Prop:=n % 128=Uv/\n / 4096=0
def yY (Uv f n:Int):Prop:=n % 128=Uv/\n / 4096 % 8=f/\n / 1048576=0
def oL (n:Int):Prop:=n % 128=35/\n / 4096 % 8=2/\n / 33554432=0/\n / 128 % 32=0
theorem Dl (n:Int) (h0:0<=n) (h1:n<=4294967295):Is 1 n↔n % 128=55:=by
 show bits .and .i64 n 127=55↔_;rw [Wq n h0 h1]
theorem GD (n:Int) (h0:0<=n) (h1:n<=4294967295):Is 2 n↔n % 128=23:=by
 show bits .and .i64 n 127=23↔_;rw [Wq n h0 h1]
theorem GH (n:Int) (h0:0<=n) (h1:n<=4294967295):Is 3 n↔n % 128=111:=by
 show bits .and .i64 n 127=111↔_;rw [Wq n h0 h1]
theorem GI (n:Int) (h0:0<=n) (h1:n<=4294967295):Is 4 n↔n % 128+4096 * (n / 4096 % 8)=103:=by
 show bits .and .i64 n 28799=103↔_;rw [Ae n h0 h1]
theorem GJ (n:Int) (h0:0<=n) (h1:n<=4294967295):Is 5 n↔n % 128+4096 * (n / 4096 % 8)=99:=by
 show bits .and .i64 n 28799=99↔_;rw [Ae n h0 h1]
theorem GL (n:Int) (h0:0<=n) (h1:n<=4294967295):Is 6 n↔n % 128+4096 * (n / 4096 % 8)=4195:=by
 show bits .and .i64 n 28799=4195↔_;rw [Ae n h0 h1]
theorem GN (n:Int) (h0:0<=n) (h1:n<=4294967295):Is 7 n↔n % 128+4096 * (n / 4096 % 8)=16483:=by
 show bits .and .i64 n 28799=16483↔_;rw [Ae n h0 h1]
theorem GU (n:Int) (h0:0<=n) (h1:n<=4294967295):Is 8 n↔n % 128+4096 * (n / 4096 % 8)=20579:=by
 show bits .and .i64 n 28799=20579↔_;rw [Ae n h0 h1]
theorem GV (n:Int) (h0:0<=n) (h1:n<=4294967295):Is 9 n↔n % 128+4096 * (n / 4096 % 8)=24675:=by
 show bits .and .i64 n 28799=24675↔_;rw [Ae n h0 h1]
theorem Sj (n:Int) (h0:0<=n) (h1:n<=4294967295):Is 10 n↔n % 128+4096 * (n / 4096 % 8)=28771:=by
 show bits .and .i64 n 28799=28771↔_;rw [Ae n h0 h1]
theorem Sk (n:Int) (h0:0<=n) (h1:n<=4294967295):Is 11 n↔n % 128+4096 * (n / 4096 % 8)=8195:=by
 show bits .and .i64 n 28799=8195↔_;rw [Ae n h0 h1]
theorem Sl (n:Int) (h0:0<=n) (h1:n<=4294967295):Is 12 n↔n % 128+4096 * (n / 4096 % 8)=8227:=by
 show bits .and .i64 n 28799=8227↔_;rw [Ae n h0 h1]
theorem Sm (n:Int) (h0:0<=n) (h1:n<=4294967295):Is 13 n↔n % 128+4096 * (n / 4096 % 8)=19:=by
 show bits .and .i64 n 28799=19↔_;rw [Ae n h0 h1]
theorem yqr (n:Int) (h0:0<=n) (h1:n<=4294967295):Is 14 n↔n % 128+4096 * (n / 4096 % 8)=8211:=by
 show bits .and .i64 n 28799=8211↔_;rw [Ae n h0 h1]
theorem yqs (n:Int) (h0:0<=n) (h1:n<=4294967295):Is 15 n↔n % 128+4096 * (n / 4096 % 8)=16403:=by
 show bits .and .i64 n 28799=16403↔_;rw [Ae n h0 h1]
theorem yqt (n:Int) (h0:0<=n) (h1:n<=4294967295):Is 16 n↔n % 128+4096 * (n / 4096 % 8)=24595:=by
 show bits .and .i64 n 28799=24595↔_;rw [Ae n h0 h1]
theorem yqu (n:Int) (h0:0<=n) (h1:n<=4294967295):Is 17 n↔n % 128+4096 * (n / 4096 % 8)=28691:=by
 show bits .and .i64 n 28799=28691↔_;rw [Ae n h0 h1]
theorem ysv (n:Int) (h0:0<=n) (h1:n<=4294967295):Is 18 n↔n % 128+4096 * (n / 4096 % 8)+33554432 * (n / 33554432)=51:=by
 show bits .and .i64 n 4261441663=51↔_;rw [LH n h0 h1]
theorem ysw (n:Int) (h0:0<=n) (h1:n<=4294967295):Is 19 n↔n % 128+4096 * (n / 4096 % 8)+33554432 * (n / 33554432)=1073741875:=by
 show bits .and .i64 n 4261441663=1073741875↔_;rw [LH n h0 h1]
theorem ysx (n:Int) (h0:0<=n) (h1:n<=4294967295):Is 20 n↔n % 128+4096 * (n / 4096 % 8)+33554432 * (n / 33554432)=8243:=by
 show bits .and .i64 n 4261441663=8243↔_;rw [LH n h0 h1]
theorem ysy (n:Int) (h0:0<=n) (h1:n<=4294967295):Is 21 n↔n % 128+4096 * (n / 4096 % 8)+33554432 * (n / 33554432)=12339:=by
 show bits .and .i64 n 4261441663=12339↔_;rw [LH n h0 h1]
theorem ysz (n:Int) (h0:0<=n) (h1:n<=4294967295):Is 22 n↔n % 128+4096 * (n / 4096 % 8)+33554432 * (n / 33554432)=16435:=by
 show bits .and .i64 n 4261441663=16435↔_;rw [LH n h0 h1]
theorem ysA (n:Int) (h0:0<=n) (h1:n<=4294967295):Is 23 n↔n % 128+4096 * (n / 4096 % 8)+33554432 * (n / 33554432)=24627:=by
 show bits .and .i64 n 4261441663=24627↔_;rw [LH n h0 h1]
theorem ysB (n:Int) (h0:0<=n) (h1:n<=4294967295):Is 24 n↔n % 128+4096 * (n / 4096 % 8)+33554432 * (n / 33554432)=28723:=by
 show bits .and .i64 n 4261441663=28723↔_;rw [LH n h0 h1]
theorem ysC (n:Int) (h0:0<=n) (h1:n<=4294967295):Is 25 n↔n=115:=by
 show bits .and .i64 n 4294967295=115↔_;rw [ysD n h0 h1]
def yq (n op rd au m:Int):Prop :=
  ((5<=op/\op<=10/\m=0)↔yU n)/\((op=3/\m=0)↔iP n)/\((op=1/\m=0)↔nS 55 n)/\((op=2/\m=0)↔nS 23 n) /\
  ((op=4/\m=0)↔yY 103 0 n)/\((op=11/\m=0)↔yY 3 2 n)/\((op=12/\m=0)↔oL n)/\((op=13/\m=0)↔yY 19 0 n) /\
  ((op=1\/op=2)->rd=n / 128 % 32)/\((op=4\/op=11\/op=12\/op=13)->au=n / 32768 % 32)
theorem yD (n d:Int) (h0:0<=n) (h1:n<=4294967295) (hd:1<=d):bits .and .i64 (n / d) 31=n / d % 32:=by
 have a:0<=n / d:=Int.ediv_nonneg h0 (by omega);have b:n / d<=n:=Int.ediv_le_self d h0;exact low (n / d) 5 (by decide) 31 32 rfl rfl a (by omega)
theorem yrP (n:Int) (h0:0<=n) (h1:n<=4294967295) (h:∀ k,1<=k->k<=25->¬ Is k n):yq n 0 0 0 0:=by
 have i1:=h 1 (by decide) (by decide);rw [Dl n h0 h1] at i1;have i2:=h 2 (by decide) (by decide);rw [GD n h0 h1] at i2;have i3:=h 3 (by decide) (by decide);rw [GH n h0 h1] at i3;have i4:=h 4 (by decide) (by decide);rw [GI n h0 h1] at i4;have i5:=h 5 (by decide) (by decide);rw [GJ n h0 h1] at i5;have i6:=h 6 (by decide) (by decide);rw [GL n h0 h1] at i6;have i7:=h 7 (by decide) (by decide);rw [GN n h0 h1] at i7;have i8:=h 8 (by decide) (by decide);rw [GU n h0 h1] at i8;have i9:=h 9 (by decide) (by decide);rw [GV n h0 h1] at i9;have i10:=h 10 (by decide) (by decide);rw [Sj n h0 h1] at i10;have i11:=h 11 (by decide) (by decide)
 rw [Sk n h0 h1] at i11;have i12:=h 12 (by decide) (by decide);rw [Sl n h0 h1] at i12;have i13:=h 13 (by decide) (by decide);rw [Sm n h0 h1] at i13;clear h;unfold yq yU iP nS yY oL;refine ⟨?_,?_,?_,?_,?_,?_,?_,?_,?_,?_⟩ <;> omega
theorem ysk (n m:Int) (h0:0<=n) (h1:n<=4294967295) (hi:Is 1 n) (_hm:m=0↔yk 1 n):yq n 1 (gI 1 n) (bI 1 n) m:=by
 rw [Dl n h0 h1] at hi;have hz:yk 1 n↔n / 4096=0:=by simp [yk]
 rw [hz] at _hm;have hrd:gI 1 n=n / 128 % 32:=by rw [<- yD n 128 h0 h1 (by decide)]; rfl
 have hrs:bI 1 n=0:=by rfl
 unfold yq yU iP nS yY oL;rw [hrd,hrs];clear hz;refine ⟨?_,?_,?_,?_,?_,?_,?_,?_,?_,?_⟩ <;> omega
theorem ysl (n m:Int) (h0:0<=n) (h1:n<=4294967295) (hi:Is 2 n) (_hm:m=0↔yk 1 n):yq n 2 (gI 1 n) (bI 1 n) m:=by
 rw [GD n h0 h1] at hi;have hz:yk 1 n↔n / 4096=0:=by simp [yk]
 rw [hz] at _hm;have hrd:gI 1 n=n / 128 % 32:=by rw [<- yD n 128 h0 h1 (by decide)]; rfl
 have hrs:bI 1 n=0:=by rfl
 unfold yq yU iP nS yY oL;rw [hrd,hrs];clear hz;refine ⟨?_,?_,?_,?_,?_,?_,?_,?_,?_,?_⟩ <;> omega
theorem ysm (n m:Int) (h0:0<=n) (h1:n<=4294967295) (hi:Is 3 n) (_hm:m=0↔yk 2 n):yq n 3 (gI 2 n) (bI 2 n) m:=by
 rw [GH n h0 h1] at hi;have hz:yk 2 n↔n / 4096=0:=by simp [yk]
 rw [hz] at _hm;have hrd:gI 2 n=n / 128 % 32:=by rw [<- yD n 128 h0 h1 (by decide)]; rfl
 have hrs:bI 2 n=0:=by rfl
 unfold yq yU iP nS yY oL;rw [hrd,hrs];clear hz;refine ⟨?_,?_,?_,?_,?_,?_,?_,?_,?_,?_⟩ <;> omega
theorem ysn (n m:Int) (h0:0<=n) (h1:n<=4294967295) (hi:Is 4 n) (_hm:m=0↔yk 3 n):yq n 4 (gI 3 n) (bI 3 n) m:=by
 rw [GI n h0 h1] at hi;have hz:yk 3 n↔n / 1048576=0:=by simp [yk]
 rw [hz] at _hm;have hrd:gI 3 n=n / 128 % 32:=by rw [<- yD n 128 h0 h1 (by decide)]; rfl
 have hrs:bI 3 n=n / 32768 % 32:=by rw [<- yD n 32768 h0 h1 (by decide)]; rfl
 unfold yq yU iP nS yY oL;rw [hrd,hrs];clear hz;refine ⟨?_,?_,?_,?_,?_,?_,?_,?_,?_,?_⟩ <;> omega
theorem yso (n m:Int) (h0:0<=n) (h1:n<=4294967295) (hi:Is 5 n) (_hm:m=0↔yk 4 n):yq n 5 (gI 4 n) (bI 4 n) m:=by
 rw [GJ n h0 h1] at hi;have hz:yk 4 n↔n / 33554432=0/\n / 128 % 32=0:=by simp [yk]
 rw [hz] at _hm;have hrd:gI 4 n=0:=by rfl
 have hrs:bI 4 n=n / 32768 % 32:=by rw [<- yD n 32768 h0 h1 (by decide)]; rfl
 unfold yq yU iP nS yY oL;rw [hrd,hrs];clear hz;refine ⟨?_,?_,?_,?_,?_,?_,?_,?_,?_,?_⟩ <;> omega
theorem ysp (n m:Int) (h0:0<=n) (h1:n<=4294967295) (hi:Is 6 n) (_hm:m=0↔yk 4 n):yq n 6 (gI 4 n) (bI 4 n) m:=by
 rw [GL n h0 h1] at hi;have hz:yk 4 n↔n / 33554432=0/\n / 128 % 32=0:=by simp [yk]
 rw [hz] at _hm;have hrd:gI 4 n=0:=by rfl
 have hrs:bI 4 n=n / 32768 % 32:=by rw [<- yD n 32768 h0 h1 (by decide)]; rfl
 unfold yq yU iP nS yY oL;rw [hrd,hrs];clear hz;refine ⟨?_,?_,?_,?_,?_,?_,?_,?_,?_,?_⟩ <;> omega
theorem ysq (n m:Int) (h0:0<=n) (h1:n<=4294967295) (hi:Is 7 n) (_hm:m=0↔yk 4 n):yq n 7 (gI 4 n) (bI 4 n) m:=by
 rw [GN n h0 h1] at hi;have hz:yk 4 n↔n / 33554432=0/\n / 128 % 32=0:=by simp [yk]
 rw [hz] at _hm;have hrd:gI 4 n=0:=by rfl
 have hrs:bI 4 n=n / 32768 % 32:=by rw [<- yD n 32768 h0 h1 (by decide)]; rfl
 unfold yq yU iP nS yY oL;rw [hrd,hrs];clear hz;refine ⟨?_,?_,?_,?_,?_,?_,?_,?_,?_,?_⟩ <;> omega
theorem ysr (n m:Int) (h0:0<=n) (h1:n<=4294967295) (hi:Is 8 n) (_hm:m=0↔yk 4 n):yq n 8 (gI 4 n) (bI 4 n) m:=by
 rw [GU n h0 h1] at hi;have hz:yk 4 n↔n / 33554432=0/\n / 128 % 32=0:=by simp [yk]
 rw [hz] at _hm;have hrd:gI 4 n=0:=by rfl
 have hrs:bI 4 n=n / 32768 % 32:=by rw [<- yD n 32768 h0 h1 (by decide)]; rfl
 unfold yq yU iP nS yY oL;rw [hrd,hrs];clear hz;refine ⟨?_,?_,?_,?_,?_,?_,?_,?_,?_,?_⟩ <;> omega
theorem yss (n m:Int) (h0:0<=n) (h1:n<=4294967295) (hi:Is 9 n) (_hm:m=0↔yk 4 n):yq n 9 (gI 4 n) (bI 4 n) m:=by
 rw [GV n h0 h1] at hi;have hz:yk 4 n↔n / 33554432=0/\n / 128 % 32=0:=by simp [yk]
 rw [hz] at _hm;have hrd:gI 4 n=0:=by rfl
 have hrs:bI 4 n=n / 32768 % 32:=by rw [<- yD n 32768 h0 h1 (by decide)]; rfl
 unfold yq yU iP nS yY oL;rw [hrd,hrs];clear hz;refine ⟨?_,?_,?_,?_,?_,?_,?_,?_,?_,?_⟩ <;> omega
theorem yrz (n m:Int) (h0:0<=n) (h1:n<=4294967295) (hi:Is 10 n) (_hm:m=0↔yk 4 n):yq n 10 (gI 4 n) (bI 4 n) m:=by
 rw [Sj n h0 h1] at hi;have hz:yk 4 n↔n / 33554432=0/\n / 128 % 32=0:=by simp [yk]
 rw [hz] at _hm;have hrd:gI 4 n=0:=by rfl
 have hrs:bI 4 n=n / 32768 % 32:=by rw [<- yD n 32768 h0 h1 (by decide)]; rfl
 unfold yq yU iP nS yY oL;rw [hrd,hrs];clear hz;refine ⟨?_,?_,?_,?_,?_,?_,?_,?_,?_,?_⟩ <;> omega
theorem yrA (n m:Int) (h0:0<=n) (h1:n<=4294967295) (hi:Is 11 n) (_hm:m=0↔yk 3 n):yq n 11 (gI 3 n) (bI 3 n) m:=by
 rw [Sk n h0 h1] at hi;have hz:yk 3 n↔n / 1048576=0:=by simp [yk]
 rw [hz] at _hm;have hrd:gI 3 n=n / 128 % 32:=by rw [<- yD n 128 h0 h1 (by decide)]; rfl
 have hrs:bI 3 n=n / 32768 % 32:=by rw [<- yD n 32768 h0 h1 (by decide)]; rfl
 unfold yq yU iP nS yY oL;rw [hrd,hrs];clear hz;refine ⟨?_,?_,?_,?_,?_,?_,?_,?_,?_,?_⟩ <;> omega
theorem yrB (n m:Int) (h0:0<=n) (h1:n<=4294967295) (hi:Is 12 n) (_hm:m=0↔yk 5 n):yq n 12 (gI 5 n) (bI 5 n) m:=by
 rw [Sl n h0 h1] at hi;have hz:yk 5 n↔n / 33554432=0/\n / 128 % 32=0:=by simp [yk]
 rw [hz] at _hm;have hrd:gI 5 n=0:=by rfl
 have hrs:bI 5 n=n / 32768 % 32:=by rw [<- yD n 32768 h0 h1 (by decide)]; rfl
 unfold yq yU iP nS yY oL;rw [hrd,hrs];clear hz;refine ⟨?_,?_,?_,?_,?_,?_,?_,?_,?_,?_⟩ <;> omega
theorem yrC (n m:Int) (h0:0<=n) (h1:n<=4294967295) (hi:Is 13 n) (_hm:m=0↔yk 3 n):yq n 13 (gI 3 n) (bI 3 n) m:=by
 rw [Sm n h0 h1] at hi;have hz:yk 3 n↔n / 1048576=0:=by simp [yk]
 rw [hz] at _hm;have hrd:gI 3 n=n / 128 % 32:=by rw [<- yD n 128 h0 h1 (by decide)]; rfl
 have hrs:bI 3 n=n / 32768 % 32:=by rw [<- yD n 32768 h0 h1 (by decide)]; rfl
 unfold yq yU iP nS yY oL;rw [hrd,hrs];clear hz;refine ⟨?_,?_,?_,?_,?_,?_,?_,?_,?_,?_⟩ <;> omega
theorem yrD (n m:Int) (h0:0<=n) (h1:n<=4294967295) (hi:Is 14 n) (_hm:m=0↔yk 3 n):yq n 14 (gI 3 n) (bI 3 n) m:=by
 rw [yqr n h0 h1] at hi;have hz:yk 3 n↔n / 1048576=0:=by simp [yk]
 rw [hz] at _hm;have hrd:gI 3 n=n / 128 % 32:=by rw [<- yD n 128 h0 h1 (by decide)]; rfl
 have hrs:bI 3 n=n / 32768 % 32:=by rw [<- yD n 32768 h0 h1 (by decide)]; rfl
 unfold yq yU iP nS yY oL;rw [hrd,hrs];clear hz;refine ⟨?_,?_,?_,?_,?_,?_,?_,?_,?_,?_⟩ <;> omega
theorem yrE (n m:Int) (h0:0<=n) (h1:n<=4294967295) (hi:Is 15 n) (_hm:m=0↔yk 3 n):yq n 15 (gI 3 n) (bI 3 n) m:=by
 rw [yqs n h0 h1] at hi;have hz:yk 3 n↔n / 1048576=0:=by simp [yk]
 rw [hz] at _hm;have hrd:gI 3 n=n / 128 % 32:=by rw [<- yD n 128 h0 h1 (by decide)]; rfl
 have hrs:bI 3 n=n / 32768 % 32:=by rw [<- yD n 32768 h0 h1 (by decide)]; rfl
 unfold yq yU iP nS yY oL;rw [hrd,hrs];clear hz;refine ⟨?_,?_,?_,?_,?_,?_,?_,?_,?_,?_⟩ <;> omega
theorem yrF (n m:Int) (h0:0<=n) (h1:n<=4294967295) (hi:Is 16 n) (_hm:m=0↔yk 3 n):yq n 16 (gI 3 n) (bI 3 n) m:=by
 rw [yqt n h0 h1] at hi;have hz:yk 3 n↔n / 1048576=0:=by simp [yk]
 rw [hz] at _hm;have hrd:gI 3 n=n / 128 % 32:=by rw [<- yD n 128 h0 h1 (by decide)]; rfl
 have hrs:bI 3 n=n / 32768 % 32:=by rw [<- yD n 32768 h0 h1 (by decide)]; rfl
 unfold yq yU iP nS yY oL;rw [hrd,hrs];clear hz;refine ⟨?_,?_,?_,?_,?_,?_,?_,?_,?_,?_⟩ <;> omega
theorem yrG (n m:Int) (h0:0<=n) (h1:n<=4294967295) (hi:Is 17 n) (_hm:m=0↔yk 3 n):yq n 17 (gI 3 n) (bI 3 n) m:=by
 rw [yqu n h0 h1] at hi;have hz:yk 3 n↔n / 1048576=0:=by simp [yk]
 rw [hz] at _hm;have hrd:gI 3 n=n / 128 % 32:=by rw [<- yD n 128 h0 h1 (by decide)]; rfl
 have hrs:bI 3 n=n / 32768 % 32:=by rw [<- yD n 32768 h0 h1 (by decide)]; rfl
 unfold yq yU iP nS yY oL;rw [hrd,hrs];clear hz;refine ⟨?_,?_,?_,?_,?_,?_,?_,?_,?_,?_⟩ <;> omega
theorem yrH (n m:Int) (h0:0<=n) (h1:n<=4294967295) (hi:Is 18 n) (_hm:m=0↔yk 6 n):yq n 18 (gI 6 n) (bI 6 n) m:=by
 rw [ysv n h0 h1] at hi;have hz:yk 6 n↔True:=by simp [yk]
 rw [hz] at _hm;have hrd:gI 6 n=n / 128 % 32:=by rw [<- yD n 128 h0 h1 (by decide)]; rfl
 have hrs:bI 6 n=n / 32768 % 32:=by rw [<- yD n 32768 h0 h1 (by decide)]; rfl
 unfold yq yU iP nS yY oL;rw [hrd,hrs];simp only [iff_true] at _hm;refine ⟨?_,?_,?_,?_,?_,?_,?_,?_,?_,?_⟩ <;> omega
theorem yrI (n m:Int) (h0:0<=n) (h1:n<=4294967295) (hi:Is 19 n) (_hm:m=0↔yk 6 n):yq n 19 (gI 6 n) (bI 6 n) m:=by
 rw [ysw n h0 h1] at hi;have hz:yk 6 n↔True:=by simp [yk]
 rw [hz] at _hm;have hrd:gI 6 n=n / 128 % 32:=by rw [<- yD n 128 h0 h1 (by decide)]; rfl
 have hrs:bI 6 n=n / 32768 % 32:=by rw [<- yD n 32768 h0 h1 (by decide)]; rfl
 unfold yq yU iP nS yY oL;rw [hrd,hrs];simp only [iff_true] at _hm;refine ⟨?_,?_,?_,?_,?_,?_,?_,?_,?_,?_⟩ <;> omega
theorem yrJ (n m:Int) (h0:0<=n) (h1:n<=4294967295) (hi:Is 20 n) (_hm:m=0↔yk 6 n):yq n 20 (gI 6 n) (bI 6 n) m:=by
 rw [ysx n h0 h1] at hi;have hz:yk 6 n↔True:=by simp [yk]
 rw [hz] at _hm;have hrd:gI 6 n=n / 128 % 32:=by rw [<- yD n 128 h0 h1 (by decide)]; rfl
 have hrs:bI 6 n=n / 32768 % 32:=by rw [<- yD n 32768 h0 h1 (by decide)]; rfl
 unfold yq yU iP nS yY oL;rw [hrd,hrs];simp only [iff_true] at _hm;refine ⟨?_,?_,?_,?_,?_,?_,?_,?_,?_,?_⟩ <;> omega
theorem yrK (n m:Int) (h0:0<=n) (h1:n<=4294967295) (hi:Is 21 n) (_hm:m=0↔yk 6 n):yq n 21 (gI 6 n) (bI 6 n) m:=by
 rw [ysy n h0 h1] at hi;have hz:yk 6 n↔True:=by simp [yk]
 rw [hz] at _hm;have hrd:gI 6 n=n / 128 % 32:=by rw [<- yD n 128 h0 h1 (by decide)]; rfl
 have hrs:bI 6 n=n / 32768 % 32:=by rw [<- yD n 32768 h0 h1 (by decide)]; rfl
 unfold yq yU iP nS yY oL;rw [hrd,hrs];simp only [iff_true] at _hm;refine ⟨?_,?_,?_,?_,?_,?_,?_,?_,?_,?_⟩ <;> omega
theorem yrL (n m:Int) (h0:0<=n) (h1:n<=4294967295) (hi:Is 22 n) (_hm:m=0↔yk 6 n):yq n 22 (gI 6 n) (bI 6 n) m:=by
 rw [ysz n h0 h1] at hi;have hz:yk 6 n↔True:=by simp [yk]
 rw [hz] at _hm;have hrd:gI 6 n=n / 128 % 32:=by rw [<- yD n 128 h0 h1 (by decide)]; rfl
 have hrs:bI 6 n=n / 32768 % 32:=by rw [<- yD n 32768 h0 h1 (by decide)]; rfl
 unfold yq yU iP nS yY oL;rw [hrd,hrs];simp only [iff_true] at _hm;refine ⟨?_,?_,?_,?_,?_,?_,?_,?_,?_,?_⟩ <;> omega
theorem yrM (n m:Int) (h0:0<=n) (h1:n<=4294967295) (hi:Is 23 n) (_hm:m=0↔yk 6 n):yq n 23 (gI 6 n) (bI 6 n) m:=by
 rw [ysA n h0 h1] at hi;have hz:yk 6 n↔True:=by simp [yk]
 rw [hz] at _hm;have hrd:gI 6 n=n / 128 % 32:=by rw [<- yD n 128 h0 h1 (by decide)]; rfl
 have hrs:bI 6 n=n / 32768 % 32:=by rw [<- yD n 32768 h0 h1 (by decide)]; rfl
 unfold yq yU iP nS yY oL;rw [hrd,hrs];simp only [iff_true] at _hm;refine ⟨?_,?_,?_,?_,?_,?_,?_,?_,?_,?_⟩ <;> omega
theorem yrN (n m:Int) (h0:0<=n) (h1:n<=4294967295) (hi:Is 24 n) (_hm:m=0↔yk 6 n):yq n 24 (gI 6 n) (bI 6 n) m:=by
 rw [ysB n h0 h1] at hi;have hz:yk 6 n↔True:=by simp [yk]
 rw [hz] at _hm;have hrd:gI 6 n=n / 128 % 32:=by rw [<- yD n 128 h0 h1 (by decide)]; rfl
 have hrs:bI 6 n=n / 32768 % 32:=by rw [<- yD n 32768 h0 h1 (by decide)]; rfl
 unfold yq yU iP nS yY oL;rw [hrd,hrs];simp only [iff_true] at _hm;refine ⟨?_,?_,?_,?_,?_,?_,?_,?_,?_,?_⟩ <;> omega
theorem yrO (n m:Int) (h0:0<=n) (h1:n<=4294967295) (hi:Is 25 n) (_hm:m=0↔yk 7 n):yq n 25 (gI 7 n) (bI 7 n) m:=by
 rw [ysC n h0 h1] at hi;have hz:yk 7 n↔True:=by simp [yk]
 rw [hz] at _hm;have hrd:gI 7 n=0:=by rfl
 have hrs:bI 7 n=0:=by rfl
 unfold yq yU iP nS yY oL;rw [hrd,hrs];simp only [iff_true] at _hm;refine ⟨?_,?_,?_,?_,?_,?_,?_,?_,?_,?_⟩ <;> omega
theorem Lg (n op rd au m:Int) (h0:0<=n) (h1:n<=4294967295) (h:Dec n op rd au m):yq n op rd au m:=by
 rcases h with ⟨rfl,rfl,rfl,rfl,h⟩ | ⟨k,k1,k2,hi,-,rfl,rfl,rfl,hm⟩
 ·exact yrP n h0 h1 h
 ·rcases (show k=1\/k=2\/k=3\/k=4\/k=5\/k=6\/k=7\/k=8\/k=9\/k=10\/k=11\/k=12\/k=13\/k=14\/k=15\/k=16\/k=17\/k=18\/k=19\/k=20\/k=21\/k=22\/k=23\/k=24\/k=25 from by omega) with rfl | rfl | rfl | rfl | rfl | rfl | rfl | rfl | rfl | rfl | rfl | rfl | rfl | rfl | rfl | rfl | rfl | rfl | rfl | rfl | rfl | rfl | rfl | rfl | rfl
  ·exact ysk n m h0 h1 hi hm
  ·exact ysl n m h0 h1 hi hm
  ·exact ysm n m h0 h1 hi hm
  ·exact ysn n m h0 h1 hi hm
  ·exact yso n m h0 h1 hi hm
  ·exact ysp n m h0 h1 hi hm
  ·exact ysq n m h0 h1 hi hm
  ·exact ysr n m h0 h1 hi hm
  ·exact yss n m h0 h1 hi hm
  ·exact yrz n m h0 h1 hi hm
  ·exact yrA n m h0 h1 hi hm
  ·exact yrB n m h0 h1 hi hm
  ·exact yrC n m h0 h1 hi hm
  ·exact yrD n m h0 h1 hi hm
  ·exact yrE n m h0 h1 hi hm
  ·exact yrF n m h0 h1 hi hm
  ·exact yrG n m h0 h1 hi hm
  ·exact yrH n m h0 h1 hi hm
  ·exact yrI n m h0 h1 hi hm
  ·exact yrJ n m h0 h1 hi hm
  ·exact yrK n m h0 h1 hi hm
  ·exact yrL n m h0 h1 hi hm
  ·exact yrM n m h0 h1 hi hm
  ·exact yrN n m h0 h1 hi hm
  ·exact yrO n m h0 h1 hi hm
def Cy (xs:List Int):Prop:=∀ i (h:i < xs.length),xs[i]=19
theorem ylf (ao:Option Addr) (cap:Nat) (xs:List Int) (w:World) (h:yC w ao xs) (hn:xs.length<=65535) :
  Calls Tryz.prog 221 #[.slice ao xs.length cap] w fun e w'=>yg e (Cy xs)/\w'=w:=by
 have H:=hid h;clear h;go_enter Tryz.func221,Tryz.ntmps221;go_wp2
 go_loop [7] (fun i=>∃ k:Nat,k<=xs.length/\i = .int .i64 k/\∀ j (hj:j < xs.length),j < k->xs[j]=19) (fun i=>xs.length - (intOf i).toNat)
 case atStart=>exact ⟨0,Nat.zero_le _,rfl,fun j _ hj=>absurd hj (Nat.not_lt_zero j)⟩
 case round =>
  obtain ⟨k,hk,rfl,hall⟩:=hrel;have HA:=hid hall;clear hall;by_cases hlt:k < xs.length
  ·obtain ⟨g,off,rfl,hc⟩:=H.o (by omega);have hck:=hc k hlt;clear hc;by_cases h1:xs[k]=19
   ·have HE:=hid h1;have d1:(xs[k] == 19)=true:=beq_iff_eq.2 h1;clear h1;go_wp2
    go_round
    case rel=>exact ⟨k+1,by omega,by go_num,fun j hj hjk=>(Nat.lt_succ_iff_lt_or_eq.1 hjk).elim (fun h=>HA.o j hj h) (fun h=>by subst h; exact HE.o)⟩
    case measure=>simp [intOf]; omega
   ·have N:=hid (show ¬ Cy xs from fun hw=>h1 (hw k hlt));have d1:(xs[k] == 19)=false:=beq_eq_false_iff_ne.2 h1;clear h1;go_wp2;go_ret;exact ⟨yg.no N.o,rfl⟩
  ·go_wp2;go_ret;exact ⟨yg.yes fun i hi=>HA.o i hi (by omega),rfl⟩
def Pv (kind op1 rd m1 op2 rs m2:Int):Prop:=(rd≠0/\rs=rd/\m1=0/\m2=0)/\(if kind=4 then op1=2/\op2=4 else op1=1/\(op2=13\/op2=11\/op2=12))
theorem Yu (kind op1 Bj s1 t1 m1 op2 Eh s2 t2 m2:Int) (w:World) :
  Calls Tryz.prog 220 #[.int .i64 kind,bD op1 Bj s1 t1 m1,bD op2 Eh s2 t2 m2] w fun e w'=>yg e (Pv kind op1 Bj m1 op2 s2 m2)/\w.grownBy w' none:=by
 have G1:=hid (fun o:Obj=>aH w o none);have G2:=hid (fun o o':Obj=>aH (w.alloc o) o' none);have HQ:=hid (show Pv kind op1 Bj m1 op2 s2 m2↔(Bj≠0/\s2=Bj/\m1=0/\m2=0)/\(if kind=4 then op1=2/\op2=4 else op1=1/\(op2=13\/op2=11\/op2=12)) from Iff.rfl);generalize Pv kind op1 Bj m1 op2 s2 m2=Q at *;unfold bD;by_cases c1:Bj=0
 ·have N:=hid (show ¬ Q from fun q=>(HQ.o.1 q).1.1 c1);subst c1;clear HQ;go_enter Tryz.func220,Tryz.ntmps220;go_wp2;go_ret;exact ⟨yg.no N.o,ya (G1.o _) (G2.o _ _)⟩
 have d1:(Bj == 0)=false:=beq_eq_false_iff_ne.2 c1;by_cases c2:s2=Bj
 rotate_left
 ·have N:=hid (show ¬ Q from fun q=>c2 (HQ.o.1 q).1.2.1);have d2:(s2 != Bj)=true:=by simpa using c2
  clear HQ c1 c2;go_enter Tryz.func220,Tryz.ntmps220;go_wp2;go_ret;exact ⟨yg.no N.o,ya (G1.o _) (G2.o _ _)⟩
 subst c2;have d2:(s2 == s2)=true:=by simp
 by_cases c3:m1=0
 rotate_left
 ·have N:=hid (show ¬ Q from fun q=>c3 (HQ.o.1 q).1.2.2.1);have d3:(m1 == 0)=false:=beq_eq_false_iff_ne.2 c3;clear HQ c1 c3;go_enter Tryz.func220,Tryz.ntmps220;go_wp2;go_ret;exact ⟨yg.no N.o,ya (G1.o _) (G2.o _ _)⟩
 subst c3;by_cases c4:m2=0
 rotate_left
 ·have N:=hid (show ¬ Q from fun q=>c4 (HQ.o.1 q).1.2.2.2);have d4:(m2 == 0)=false:=beq_eq_false_iff_ne.2 c4;clear HQ c1 c4;go_enter Tryz.func220,Tryz.ntmps220;go_wp2;go_ret;exact ⟨yg.no N.o,ya (G1.o _) (G2.o _ _)⟩
 subst c4;have C1:=hid c1;clear c1;by_cases k4:kind=4
 ·subst k4;have pO:=hid (show Q↔op1=2/\op2=4 from by rw [HQ.o,if_pos rfl]; exact ⟨fun h=>h.2,fun h=>⟨⟨C1.o,rfl,rfl,rfl⟩,h⟩⟩);clear HQ;by_cases o1:op1=2
  ·subst o1;go_enter Tryz.func220,Tryz.ntmps220;go_wp2;go_ret;exact ⟨yg.of (by rw [pO.o,beq_iff_eq]; simp),ya (G1.o _) (G2.o _ _)⟩
  ·have N:=hid (show ¬ Q from fun q=>o1 (pO.o.1 q).1);have d5:(op1 == 2)=false:=beq_eq_false_iff_ne.2 o1;clear pO o1;go_enter Tryz.func220,Tryz.ntmps220;go_wp2;go_ret;exact ⟨yg.no N.o,ya (G1.o _) (G2.o _ _)⟩
 ·have pO:=hid (show Q↔op1=1/\(op2=13\/op2=11\/op2=12) from by rw [HQ.o,if_neg k4]; exact ⟨fun h=>h.2,fun h=>⟨⟨C1.o,rfl,rfl,rfl⟩,h⟩⟩);have dk:(kind == 4)=false:=beq_eq_false_iff_ne.2 k4;clear HQ k4;by_cases o1:op1=1
  rotate_left
  ·have N:=hid (show ¬ Q from fun q=>o1 (pO.o.1 q).1);have d5:(op1 == 1)=false:=beq_eq_false_iff_ne.2 o1;clear pO o1;go_enter Tryz.func220,Tryz.ntmps220;go_wp2;go_ret;exact ⟨yg.no N.o,ya (G1.o _) (G2.o _ _)⟩
  subst o1;by_cases o2:op2=13
  ·subst o2;go_enter Tryz.func220,Tryz.ntmps220;go_wp2;go_ret;exact ⟨yg.yes (by rw [pO.o]; simp),ya (G1.o _) (G2.o _ _)⟩
  have e2:(op2 == 13)=false:=beq_eq_false_iff_ne.2 o2;by_cases o3:op2=11
  ·subst o3;go_enter Tryz.func220,Tryz.ntmps220;go_wp2;go_ret;exact ⟨yg.yes (by rw [pO.o]; simp),ya (G1.o _) (G2.o _ _)⟩
  have e3:(op2 == 11)=false:=beq_eq_false_iff_ne.2 o3;have O:=hid (⟨o2,o3⟩:op2≠13/\op2≠11);clear o2 o3;go_enter Tryz.func220,Tryz.ntmps220;go_wp2;go_ret;exact ⟨yg.of (by rw [pO.o,beq_iff_eq]; have:=O.o; simp; omega),ya (G1.o _) (G2.o _ _)⟩
def MR (kind a b:Int):Prop:=a / 128 % 32≠0/\b / 32768 % 32=a / 128 % 32/\(if kind=4 then nS 23 a/\yY 103 0 b else nS 55 a/\(yY 19 0 b\/yY 3 2 b\/oL b))
theorem Zp (kind a b op1 Bj s1 m1 op2 Eh s2 m2:Int) (h1:yq a op1 Bj s1 m1) (h2:yq b op2 Eh s2 m2):Pv kind op1 Bj m1 op2 s2 m2↔MR kind a b:=by
 obtain ⟨-,-,a1,a2,-,-,-,-,a9,-⟩:=h1;obtain ⟨-,-,-,-,b4,b11,b12,b13,-,b10⟩:=h2;unfold Pv MR;rw [<- a1,<- a2,<- b4,<- b11,<- b12,<- b13];split
 ·constructor
  ·rintro ⟨⟨x1,x2,x3,x4⟩,x5,x6⟩;have y1:=a9 (.inr x5);have y2:=b10 (.inl x6);rw [<- y1,<- y2];exact ⟨x1,x2,⟨x5,x3⟩,x6,x4⟩
  ·rintro ⟨x1,x2,⟨x5,x3⟩,x6,x4⟩;have y1:=a9 (.inr x5);have y2:=b10 (.inl x6);rw [<- y1] at x1 x2;rw [<- y2] at x2;exact ⟨⟨x1,x2,x3,x4⟩,x5,x6⟩
 ·constructor
  ·rintro ⟨⟨x1,x2,x3,x4⟩,x5,x6⟩;have y1:=a9 (.inl x5);have y2:=b10 (by omega);rw [<- y1,<- y2];exact ⟨x1,x2,⟨x5,x3⟩,by omega⟩
  ·rintro ⟨x1,x2,⟨x5,x3⟩,x6⟩;have y1:=a9 (.inl x5);have y2:=b10 (by omega);rw [<- y1] at x1 x2;rw [<- y2] at x2;exact ⟨⟨x1,x2,x3,by omega⟩,x5,by omega⟩
def pI (kind:Int) (xs:List Int):Prop :=
 if kind=1 then xs.getD 0 0=0 else if kind=2 then yU (xs.getD 0 0) else if kind=3 then iP (xs.getD 0 0) else if kind=4\/kind=5 then MR kind (xs.getD 0 0) (xs.getD 1 0) else if kind=6 then Cy xs else False
theorem YO (kind:Int) (w:World) :
  Calls Tryz.prog 206 #[.int .i64 kind,.slice none 0 0] w fun e w'=>e = .returned (.bool false)/\w'=w:=by
 go_enter Tryz.func206,Tryz.ntmps206;go_wp2;go_ret;exact ⟨rfl,rfl⟩
theorem YN (kind:Int) (ao:Option Addr) (cap:Nat) (xs:List Int) (w:World) (ht:dV w) (h:yC w ao xs) (hw:sS xs) (hn:xs.length<=3) (hn1:1<=xs.length) (hk:1<=kind/\kind<=6) (h2:kind=4\/kind=5->xs.length=2) :
  Calls Tryz.prog 206 #[.int .i64 kind,.slice ao xs.length cap] w fun e w'=>yg e (pI kind xs)/\w.grownBy w' none:=by
 obtain ⟨g,off,rfl,hc⟩:=h (by omega);have hx0:=hw 0 (by omega);have hgd:xs.getD 0 0=xs[0]:=by rw [lN,jW (by omega)]; rfl
 have q0:=hc 0 (by omega);have cD:=hid (UR xs[0] w ht hx0.1 hx0.2);have cN:=hid (fun W (hW:yC W (some ⟨g,off,none⟩) xs)=>ylf (some ⟨g,off,none⟩) cap xs W hW (by omega));have HI:=hid h;simp only [Nat.add_zero] at q0;rcases (show kind=1\/kind=2\/kind=3\/kind=6\/kind=4\/kind=5 from by omega) with rfl | rfl | rfl | rfl | rfl | rfl
 ·have HQ:=hid (show pI 1 xs↔xs[0]=0 from by simp only [pI,if_true]; rw [hgd]);generalize pI 1 xs=Q at *;clear h2 hk h hc hw ht HI;go_enter Tryz.func206,Tryz.ntmps206;go_wp2_with fail;refine cD.o.mono ?_;rintro e w1 ⟨⟨op,rd,s1,t1,m,rfl,hd⟩,hq⟩;have q1:=yd q0 hq;unfold bD;have zB:=hid hq;clear hq q0 hd;have GA:=hid (fun ob:Obj=>aH w1 ob none);have q2:=fun ob:Obj=>yd q1 (aH w1 ob none)
  go_wp2;go_ret;exact ⟨yg.of (by rw [HQ.o,beq_iff_eq]),ya zB.o (GA.o _)⟩
 ·have HQ:=hid (show pI 2 xs↔yU xs[0] from by unfold pI; rw [if_neg (by decide),if_pos rfl,hgd]);generalize pI 2 xs=Q at *;clear h2 hk h hc hw ht HI;go_enter Tryz.func206,Tryz.ntmps206;go_wp2_with fail;refine cD.o.mono ?_;rintro e w1 ⟨⟨op,rd,s1,t1,m,rfl,hd⟩,hq⟩;have q1:=yd q0 hq;unfold bD;have zB:=hid hq;have DF:=hid (Lg xs[0] op rd s1 m hx0.1 hx0.2 hd);clear hq q0 hd;have GA:=hid (fun ob:Obj=>aH w1 ob none);by_cases o1:5<=op
  ·have d1:decide (5<=op)=true:=by simpa using o1
   by_cases o2:op<=10
   ·have d2:decide (op<=10)=true:=by simpa using o2
    go_wp2;go_ret;exact ⟨yg.of (by rw [HQ.o,<- DF.o.1,beq_iff_eq]; exact ⟨fun h=>⟨o1,o2,h⟩,fun h=>h.2.2⟩),ya zB.o (GA.o _)⟩
   ·have d2:decide (op<=10)=false:=by simp; omega
    go_wp2;go_ret;exact ⟨yg.no (by rw [HQ.o,<- DF.o.1]; omega),ya zB.o (GA.o _)⟩
  ·have d1:decide (5<=op)=false:=by simp; omega
   go_wp2;go_ret;exact ⟨yg.no (by rw [HQ.o,<- DF.o.1]; omega),ya zB.o (GA.o _)⟩
 ·have HQ:=hid (show pI 3 xs↔iP xs[0] from by unfold pI; rw [if_neg (by decide),if_neg (by decide),if_pos rfl,hgd]);generalize pI 3 xs=Q at *;clear h2 hk h hc hw ht HI;go_enter Tryz.func206,Tryz.ntmps206;go_wp2_with fail;refine cD.o.mono ?_;rintro e w1 ⟨⟨op,rd,s1,t1,m,rfl,hd⟩,hq⟩;have q1:=yd q0 hq;unfold bD;have zB:=hid hq;have DF:=hid (Lg xs[0] op rd s1 m hx0.1 hx0.2 hd);clear hq q0 hd;have GA:=hid (fun ob:Obj=>aH w1 ob none);by_cases o1:op=3
  ·subst o1;go_wp2;go_ret;exact ⟨yg.of (by rw [HQ.o,<- DF.o.2.1,beq_iff_eq]; simp),ya zB.o (GA.o _)⟩
  ·have d1:(op == 3)=false:=beq_eq_false_iff_ne.2 o1;have O:=hid o1;clear o1;go_wp2;go_ret;exact ⟨yg.no (by rw [HQ.o,<- DF.o.2.1]; have:=O.o; omega),ya zB.o (GA.o _)⟩
 ·have HQ:=hid (show pI 6 xs↔Cy xs from by unfold pI; rw [if_neg (by decide),if_neg (by decide),if_neg (by decide),if_neg (by decide),if_pos rfl]);generalize pI 6 xs=Q at *;clear h2 hk h hc hw ht;go_enter Tryz.func206,Tryz.ntmps206;go_wp2_with fail;refine cD.o.mono ?_;rintro e w1 ⟨⟨op,rd,s1,t1,m,rfl,hd⟩,hq⟩;have q1:=yd q0 hq;unfold bD;have zB:=hid hq;have DF:=hid (Lg xs[0] op rd s1 m hx0.1 hx0.2 hd);clear hq q0 hd;have GA:=hid (fun ob:Obj=>aH w1 ob none);go_wp2_with fail;refine (cN.o _ ((HI.o.kept (fun a v hv=>yd hv zB.o)).kept (fun a v hv=>yd hv (GA.o _)))).mono ?_;rintro e w2 ⟨t,rfl⟩;obtain ⟨b,rfl,hb⟩:=t
  have oN:=hid hb;clear hb;go_wp2;go_ret;exact ⟨yg.of (by rw [HQ.o]; exact oN.o),ya zB.o (GA.o _)⟩
 ·have hl2:=h2 (by omega);have hlt1:1 < xs.length:=by omega
  have hx1:=hw 1 hlt1;have hgd1:xs.getD 1 0=xs[1]'hlt1:=by rw [lN,jW hlt1]; rfl
  have HQ:=hid (show pI 4 xs↔MR 4 xs[0] xs[1] from by unfold pI; rw [if_neg (by decide),if_neg (by decide),if_neg (by decide),if_pos (by decide),hgd,hgd1]);have q1:=hc 1 hlt1;have Tf:=hid (fun W (hW:dV W)=>UR xs[1] W hW hx1.1 hx1.2);have HT:=hid ht;generalize pI 4 xs=Q at *;have dl:((xs.length:Int) == 2)=true:=by rw [beq_iff_eq]; omega
  have hl3:2<=xs.length:=by omega
  have g1:(1:Int) < (xs.length:Int):=by omega
  have g2:(0:Int) < (xs.length:Int):=by omega
  clear h2 hk h hc hw ht HI cN hl2;go_enter Tryz.func206,Tryz.ntmps206;go_wp2_with fail;refine cD.o.mono ?_;rintro e w1 ⟨⟨op,rd,s1,t1,m,rfl,hd⟩,hq⟩;unfold bD;have B:=yc.new w1 #[.int .i64 op,.int .i64 rd,.int .i64 s1,.int .i64 t1,.int .i64 m] 143;have GA:=aH w1 (.cells #[.int .i64 op,.int .i64 rd,.int .i64 s1,.int .i64 t1,.int .i64 m] 143) none;have c0:Hd ((w1.alloc (.cells #[.int .i64 op,.int .i64 rd,.int .i64 s1,.int .i64 t1,.int .i64 m] 143)).drew.cell? ⟨w1.heap.size,0,none⟩=some (.int .i64 op)):=B.cell 0;have c1:Hd ((w1.alloc (.cells #[.int .i64 op,.int .i64 rd,.int .i64 s1,.int .i64 t1,.int .i64 m] 143)).drew.cell? ⟨w1.heap.size,1,none⟩=some (.int .i64 rd)):=B.cell 1
  have c2:Hd ((w1.alloc (.cells #[.int .i64 op,.int .i64 rd,.int .i64 s1,.int .i64 t1,.int .i64 m] 143)).drew.cell? ⟨w1.heap.size,2,none⟩=some (.int .i64 s1)):=B.cell 2;have c3:Hd ((w1.alloc (.cells #[.int .i64 op,.int .i64 rd,.int .i64 s1,.int .i64 t1,.int .i64 m] 143)).drew.cell? ⟨w1.heap.size,3,none⟩=some (.int .i64 t1)):=B.cell 3;have c4:Hd ((w1.alloc (.cells #[.int .i64 op,.int .i64 rd,.int .i64 s1,.int .i64 t1,.int .i64 m] 143)).drew.cell? ⟨w1.heap.size,4,none⟩=some (.int .i64 m)):=B.cell 4;have c5:Hd ((w1.alloc (.cells #[.int .i64 op,.int .i64 rd,.int .i64 s1,.int .i64 t1,.int .i64 m] 143)).drew.cell? ⟨g,off+1,none⟩=some (.int .i64 xs[1])):=yd (yd q1 hq) (yi GA)
  have hgl:g < w1.heap.size:=World.block_lt_of_cell? w1 _ (yd q1 hq);have hnew:=World.new_ne w1 ⟨g,off+1,none⟩ (yd q1 hq);have q2:=yd q1 hq;have GG:=hid (ya hq (yi GA));have DF:=hid (Lg xs[0] op rd s1 m hx0.1 hx0.2 hd);clear hq q0 q1 hd B GA cD;go_wp2
  go_region_held3 (fun w'=>w'.cell? ⟨w1.heap.size,0,none⟩=some (.int .i64 op)/\w'.cell? ⟨w1.heap.size,1,none⟩=some (.int .i64 rd)/\w'.cell? ⟨w1.heap.size,2,none⟩=some (.int .i64 s1)/\w'.cell? ⟨w1.heap.size,3,none⟩=some (.int .i64 t1)/\w'.cell? ⟨w1.heap.size,4,none⟩=some (.int .i64 m)/\w'.cell? ⟨g,off+1,none⟩=some (.int .i64 xs[1]))
   (go_keep)
   (first | (go_at_call 82; refine (Tf.o _ (HT.o.grown GG.o)).mono ?_; rintro e w' ⟨⟨op2,Eh,s2,t2,m2,rfl,hd2⟩,hq⟩; have s0:=yd c0.o hq; have s1':=yd c1.o hq; have s2':=yd c2.o hq; have s3:=yd c3.o hq; have s4:=yd c4.o hq; have s5:=yd c5.o hq) | (go_at_call 220; refine (Yu 4 op rd s1 t1 m op2 Eh s2 t2 m2 _).mono ?_; rintro e w'' ⟨⟨b,rfl,hb⟩,hq2⟩; have z0:=yd s0 hq2; have z1:=yd s1' hq2; have z2:=yd s2' hq2; have z3:=yd s3 hq2; have z4:=yd s4 hq2; have z5:=yd s5 hq2))
  have oN:=hid hb;have D2:=hid (Lg xs[1] op2 Eh s2 m2 hx1.1 hx1.2 hd2);have GF:=hid (ya (ya GG.o hq) hq2);clear hb hd2 hq hq2 s0 s1' s2' s3 s4 s5 z0 z1 z2 z3 z4 z5;go_wp2;go_ret;exact ⟨yg.of (by rw [HQ.o,<- Zp 4 xs[0] xs[1] op rd s1 m op2 Eh s2 m2 DF.o D2.o]; exact oN.o),GF.o⟩
 ·have hl2:=h2 (by omega);have hlt1:1 < xs.length:=by omega
  have hx1:=hw 1 hlt1;have hgd1:xs.getD 1 0=xs[1]'hlt1:=by rw [lN,jW hlt1]; rfl
  have HQ:=hid (show pI 5 xs↔MR 5 xs[0] xs[1] from by unfold pI; rw [if_neg (by decide),if_neg (by decide),if_neg (by decide),if_pos (by decide),hgd,hgd1]);have q1:=hc 1 hlt1;have Tf:=hid (fun W (hW:dV W)=>UR xs[1] W hW hx1.1 hx1.2);have HT:=hid ht;generalize pI 5 xs=Q at *;have dl:((xs.length:Int) == 2)=true:=by rw [beq_iff_eq]; omega
  have hl3:2<=xs.length:=by omega
  have g1:(1:Int) < (xs.length:Int):=by omega
  have g2:(0:Int) < (xs.length:Int):=by omega
  clear h2 hk h hc hw ht HI cN hl2;go_enter Tryz.func206,Tryz.ntmps206;go_wp2_with fail;refine cD.o.mono ?_;rintro e w1 ⟨⟨op,rd,s1,t1,m,rfl,hd⟩,hq⟩;unfold bD;have B:=yc.new w1 #[.int .i64 op,.int .i64 rd,.int .i64 s1,.int .i64 t1,.int .i64 m] 143;have GA:=aH w1 (.cells #[.int .i64 op,.int .i64 rd,.int .i64 s1,.int .i64 t1,.int .i64 m] 143) none;have c0:Hd ((w1.alloc (.cells #[.int .i64 op,.int .i64 rd,.int .i64 s1,.int .i64 t1,.int .i64 m] 143)).drew.cell? ⟨w1.heap.size,0,none⟩=some (.int .i64 op)):=B.cell 0;have c1:Hd ((w1.alloc (.cells #[.int .i64 op,.int .i64 rd,.int .i64 s1,.int .i64 t1,.int .i64 m] 143)).drew.cell? ⟨w1.heap.size,1,none⟩=some (.int .i64 rd)):=B.cell 1
  have c2:Hd ((w1.alloc (.cells #[.int .i64 op,.int .i64 rd,.int .i64 s1,.int .i64 t1,.int .i64 m] 143)).drew.cell? ⟨w1.heap.size,2,none⟩=some (.int .i64 s1)):=B.cell 2;have c3:Hd ((w1.alloc (.cells #[.int .i64 op,.int .i64 rd,.int .i64 s1,.int .i64 t1,.int .i64 m] 143)).drew.cell? ⟨w1.heap.size,3,none⟩=some (.int .i64 t1)):=B.cell 3;have c4:Hd ((w1.alloc (.cells #[.int .i64 op,.int .i64 rd,.int .i64 s1,.int .i64 t1,.int .i64 m] 143)).drew.cell? ⟨w1.heap.size,4,none⟩=some (.int .i64 m)):=B.cell 4;have c5:Hd ((w1.alloc (.cells #[.int .i64 op,.int .i64 rd,.int .i64 s1,.int .i64 t1,.int .i64 m] 143)).drew.cell? ⟨g,off+1,none⟩=some (.int .i64 xs[1])):=yd (yd q1 hq) (yi GA)
  have hgl:g < w1.heap.size:=World.block_lt_of_cell? w1 _ (yd q1 hq);have hnew:=World.new_ne w1 ⟨g,off+1,none⟩ (yd q1 hq);have q2:=yd q1 hq;have GG:=hid (ya hq (yi GA));have DF:=hid (Lg xs[0] op rd s1 m hx0.1 hx0.2 hd);clear hq q0 q1 hd B GA cD;go_wp2
  go_region_held3 (fun w'=>w'.cell? ⟨w1.heap.size,0,none⟩=some (.int .i64 op)/\w'.cell? ⟨w1.heap.size,1,none⟩=some (.int .i64 rd)/\w'.cell? ⟨w1.heap.size,2,none⟩=some (.int .i64 s1)/\w'.cell? ⟨w1.heap.size,3,none⟩=some (.int .i64 t1)/\w'.cell? ⟨w1.heap.size,4,none⟩=some (.int .i64 m)/\w'.cell? ⟨g,off+1,none⟩=some (.int .i64 xs[1]))
   (go_keep)
   (first | (go_at_call 82; refine (Tf.o _ (HT.o.grown GG.o)).mono ?_; rintro e w' ⟨⟨op2,Eh,s2,t2,m2,rfl,hd2⟩,hq⟩; have s0:=yd c0.o hq; have s1':=yd c1.o hq; have s2':=yd c2.o hq; have s3:=yd c3.o hq; have s4:=yd c4.o hq; have s5:=yd c5.o hq) | (go_at_call 220; refine (Yu 5 op rd s1 t1 m op2 Eh s2 t2 m2 _).mono ?_; rintro e w'' ⟨⟨b,rfl,hb⟩,hq2⟩; have z0:=yd s0 hq2; have z1:=yd s1' hq2; have z2:=yd s2' hq2; have z3:=yd s3 hq2; have z4:=yd s4 hq2; have z5:=yd s5 hq2))
  have oN:=hid hb;have D2:=hid (Lg xs[1] op2 Eh s2 m2 hx1.1 hx1.2 hd2);have GF:=hid (ya (ya GG.o hq) hq2);clear hb hd2 hq hq2 s0 s1' s2' s3 s4 s5 z0 z1 z2 z3 z4 z5;go_wp2;go_ret;exact ⟨yg.of (by rw [HQ.o,<- Zp 5 xs[0] xs[1] op rd s1 m op2 Eh s2 m2 DF.o D2.o]; exact oN.o),GF.o⟩
def MK (o:Lk.Obj) (r:Lk.Rel):Prop:=r.kind=6->r.addend+4<=zA (o.align.getD (r.ah.toNat - 1) 0)
def IY (o:Lk.Obj) (r:Lk.Rel):Prop:=FP r/\sP r/\Lx o r/\MK o r/\ET o r/\pI r.kind (yR o r)/\¬ ME o r
theorem Va {o:Lk.Obj} {r:Lk.Rel} (ha:sP r) (hab:ET o r) (hw:sS (yw o r.ah)):(yR o r).length=(mX r).toNat/\sS (yR o r)/\(yR o r).length<=3/\1<=(yR o r).length:=by
 have hs:=EM ha;obtain ⟨b1,b2,b3⟩:=hab;have hl:(yR o r).length=(mX r).toNat:=by unfold yR; simp; omega
 refine ⟨hl,?_,by omega,by omega⟩;intro i hi;have hi':(r.off / 4).toNat+i < (yw o r.ah).length:=by omega
 have e:(yR o r)[i]=(yw o r.ah)[(r.off / 4).toNat+i]:=by
  simp only [yR,List.getElem_take,List.getElem_drop]
 rw [e];exact hw _ hi'
theorem YK {o:Lk.Obj} (h:JD o) (ah:Int):sS (yw o ah):=by
 unfold yw;split
 ·exact h.1
 split
 ·exact h.2.1
 split
 ·exact h.2.2
 ·intro i hi; simp at hi
theorem Vm {e:Ending} {P:Prop} (h:yg e P) (hp:P):e = .returned (.bool true):=by
 rcases h.split with ⟨_,q⟩ | ⟨h1,_⟩
 ·exact absurd hp q.o
 ·exact h1
theorem Z6 {e:Ending} {P:Prop} (h:yg e P) (hp:¬ P):e = .returned (.bool false):=by
 rcases h.split with ⟨h1,_⟩ | ⟨_,q⟩
 ·exact h1
 ·exact absurd q.o hp
theorem yiq (g:Nat) (o:Lk.Obj) (r:Lk.Rel) (w:World) (ht:dV w) (h:yv w g o) (hn:wU o) (hb4:Co o.align) (hw:JD o) (hr:r.off<=9223372036854775807) :
  Calls Tryz.prog 161 #[.pointer (some ⟨g,0,none⟩),fT r] w fun e w'=>yg e (IY o r)/\w.grownBy w' none:=by
 have no:Hd (∀ W,(¬ IY o r)->w.grownBy W none->yg (.returned (.bool false)) (IY o r)/\w.grownBy W none):=fun W a b=>⟨yg.no a,b⟩
 have HO:=hid h;have HT:=hid ht;have HN:=hid hn;have PG:=hid hb4;have HW:=hid hw;clear h ht hn hb4 hw;have B:=yc.new w #[.int .i64 r.ah,.int .i64 r.off,.int .i64 r.kind,.int .i64 r.sym,.int .i64 r.addend] 102;have GB:=aH w (.cells #[.int .i64 r.ah,.int .i64 r.off,.int .i64 r.kind,.int .i64 r.sym,.int .i64 r.addend] 102) none;have HBk:=hid B;have HGB:=hid GB;clear B GB;have cK:=hid (fun W=>yjk r W);have cA:=hid (fun W=>yhC r W);have cS:=hid (fun W (hW:yv W g o)=>ykW g o r W hW HN.o);have fold:fT r = .agg #[.int .i64 r.ah,.int .i64 r.off,.int .i64 r.kind,.int .i64 r.sym,.int .i64 r.addend]:=rfl;rw [fold]
 rw [fold] at cK cA cS;clear fold;go_enter Tryz.func161,Tryz.ntmps161;go_wp2_with fail;refine Calls.aK (fun W=>yc W w.heap.size #[.int .i64 r.ah,.int .i64 r.off,.int .i64 r.kind,.int .i64 r.sym,.int .i64 r.addend] 102/\w.grownBy W none) ⟨HBk.o,HGB.o⟩ ?_;rintro W1 ⟨bk1,g1⟩;refine (cK.o W1).mono ?_;rintro e W2 ⟨t,q⟩;have I5:=bk1.grown q (by simp);have G2:=hid (ya g1 q);rcases t.split with ⟨rfl,p1⟩ | ⟨rfl,p1⟩ <;> clear t q bk1 g1
 ·clear I5;go_wp2;go_ret;exact no.o _ (fun h=>p1.o h.1) G2.o
 have c0:=I5.cell 0;have c1:=I5.cell 1;have c2:=I5.cell 2;have c3:=I5.cell 3;have c4:=I5.cell 4;have HB2:=hid I5;clear I5;go_wp2_with fail;refine (cA.o W2).mono ?_;rintro e W3 ⟨t,q⟩;have I9:=HB2.o.grown q (by simp);have G3:=hid (ya G2.o q);clear c0 c1 c2 c3 c4;rcases t.split with ⟨rfl,p2⟩ | ⟨rfl,p2⟩ <;> clear t q
 ·clear I9;go_wp2;go_ret;exact no.o _ (fun h=>p2.o h.2.1) G3.o
 have c0:=I9.cell 0;have c1:=I9.cell 1;have c2:=I9.cell 2;have c3:=I9.cell 3;have c4:=I9.cell 4;have HB3:=hid I9;clear I9;go_wp2_with fail;refine (cS.o W3 (HO.o.kept G3.o)).mono ?_;rintro e W4 ⟨t,q⟩;have Ja:=HB3.o.grown q (by simp);have G4:=hid (ya G3.o q);clear c0 c1 c2 c3 c4;rcases t.split with ⟨rfl,p3⟩ | ⟨rfl,p3⟩ <;> clear t q
 ·clear Ja;go_wp2;go_ret;exact no.o _ (fun h=>p3.o h.2.2.1) G4.o
 have c0:=Ja.cell 0;have c1:=Ja.cell 1;have c2:=Ja.cell 2;have c3:=Ja.cell 3;have c4:=Ja.cell 4;have Na:=hid Ja;clear Ja;have kinds:=p1.o;unfold FP at kinds;by_cases Gx:r.kind=6
 ·have hs:1<=r.ah/\r.ah<=2:=by omega
  have ha:=p2.o.six Gx;obtain ⟨sn,hsn⟩:∃ sn:Nat,r.ah=(sn:Int):=⟨r.ah.toNat,by omega⟩
  have hal:=PG.o.1;have cB:=hid (fun W (hW:yv W g o)=>show Calls Tryz.prog 106 #[.pointer (some ⟨g,0,none⟩),.int .i64 r.ah] W fun e w'=>e = .returned (.int .i64 (zA (o.align.getD (r.ah.toNat - 1) 0)))/\w'=W from by
   have:=Yo g o sn W hW PG.o (by omega) (by omega)
   rw [hsn,Int.toNat_natCast,lN,jW (by omega)];exact this)
  have BB:=hid (show MK o r↔r.addend+4<=zA (o.align.getD (r.ah.toNat - 1) 0) from ⟨fun h=>h Gx,fun h _=>h⟩);generalize zA (o.align.getD (r.ah.toNat - 1) 0)=bd at *;have d6:(r.kind == 6)=true:=beq_iff_eq.2 Gx;have hw4:IntKind.i64.wrap (r.addend+4)=r.addend+4:=IntWalk.i64_in _ ⟨by omega,by omega⟩;have K6:=hid Gx;clear Gx kinds hsn hal;by_cases hbd:bd < r.addend+4
  ·have db:decide (bd < r.addend+4)=true:=by simpa using hbd
   go_wp2
   go_quiet ((go_at_call 106; exact Calls.quiet_of_same (cB.o _ ((HO.o.kept G4.o).drewN _))))
   go_wp2;go_ret;exact no.o _ (fun h=>by have:=BB.o.1 h.2.2.2.1; omega) (ye G4.o _)
  ·have db:decide (bd < r.addend+4)=false:=by simp; omega
   have SC:=hid (show MK o r from BB.o.2 (by omega));go_wp2
   go_quiet ((go_at_call 106; exact Calls.quiet_of_same (cB.o _ ((HO.o.kept G4.o).drewN _))))
   go_wp2;have B5:=Na.o.drewN nq;have G5:=hid (ye G4.o nq);have e0:Hd ((W4.drewN nq).drew.cell? ⟨w.heap.size,0,none⟩=some (.int .i64 r.ah)):=B5.cell 0;have e1:Hd ((W4.drewN nq).drew.cell? ⟨w.heap.size,1,none⟩=some (.int .i64 r.off)):=B5.cell 1;have e2:Hd ((W4.drewN nq).drew.cell? ⟨w.heap.size,2,none⟩=some (.int .i64 r.kind)):=B5.cell 2;have e3:Hd ((W4.drewN nq).drew.cell? ⟨w.heap.size,3,none⟩=some (.int .i64 r.sym)):=B5.cell 3;have e4:Hd ((W4.drewN nq).drew.cell? ⟨w.heap.size,4,none⟩=some (.int .i64 r.addend)):=B5.cell 4;have BZ:Hd (yv (W4.drewN nq).drew g o):=yv.drew (HO.o.kept G5.o);have Np:Hd (dV (W4.drewN nq).drew):=HT.o.grown (yi G5.o)
   have G6:=hid (yi G5.o);clear B5;have hcr:=hid (show 1<=r.kind/\r.kind<=6 from by have:=p1.o; unfold FP at this; omega);by_cases hab:ET o r
   ·have AA:=Va p2.o hab (YK HW.o r.ah);have hoff:0<=r.off/\r.off<=1048576:=by
     obtain ⟨x1,x2,x3⟩:=hab;have y1:=K9 HN.o r.ah;have y2:=EM p2.o;omega
    have Au:=hid (fun W (hW:yv W g o)=>UJ g o r W hW HN.o p2.o hab);have Gf:=hid (fun W ao cap (hW:dV W) (hI:yC W ao (yR o r))=>show Calls Tryz.prog 206 #[.int .i64 r.kind,.slice ao (mX r).toNat cap] W fun e w'=>yg e (pI r.kind (yR o r))/\W.grownBy w' none from by
     rw [<- AA.1];exact YN r.kind ao cap (yR o r) W hW hI AA.2.1 AA.2.2.1 AA.2.2.2 hcr.o (fun h=>by rw [AA.1]; unfold mX; rw [if_pos h]; rfl))
    have NR:=hid (fun W (hW:yv W g o)=>Yl g o r W hW HN.o p2.o hoff.1 hoff.2);have JH:=hid hab;unfold fT at Au NR;clear hab AA hoff;generalize (mX r).toNat=sp at *;by_cases hg:pI r.kind (yR o r)
    ·have BS:=hid hg;clear hg
     go_region_held3 (fun w'=>w'.cell? ⟨w.heap.size,0,none⟩=some (.int .i64 r.ah)/\w'.cell? ⟨w.heap.size,1,none⟩=some (.int .i64 r.off)/\w'.cell? ⟨w.heap.size,2,none⟩=some (.int .i64 r.kind)/\w'.cell? ⟨w.heap.size,3,none⟩=some (.int .i64 r.sym)/\w'.cell? ⟨w.heap.size,4,none⟩=some (.int .i64 r.addend))
      (go_keep)
      (first | (go_at_call 207; refine (Au.o _ BZ.o).mono ?_; rintro e w5 ⟨ao,cap,rfl,hI,hq⟩; have s0:=yd e0.o hq; have s1:=yd e1.o hq; have s2:=yd e2.o hq; have s3:=yd e3.o hq; have s4:=yd e4.o hq) | (go_at_call 206; refine (Gf.o _ ao cap (Np.o.grown hq) hI).mono ?_; rintro e w6 ⟨Gy,hq2⟩; obtain rfl:=Vm Gy BS.o; have z0:=yd s0 hq2; have z1:=yd s1 hq2; have z2:=yd s2 hq2; have z3:=yd s3 hq2; have z4:=yd s4 hq2) | (go_at_call 208; refine (NR.o _ ((BZ.o.kept hq).kept hq2)).mono ?_; rintro e w7 ⟨⟨b,rfl,hb⟩,hq3⟩; have y0:=yd z0 hq3; have y1:=yd z1 hq3; have y2:=yd z2 hq3; have y3:=yd z3 hq3; have y4:=yd z4 hq3))
     have GF:=hid (ya (ya (ya G6.o hq) hq2) hq3);have oN:=hid hb;clear hb hq hq2 hq3 s0 s1 s2 s3 s4 z0 z1 z2 z3 z4 y0 y1 y2 y3 y4 hI Gy;go_wp2;go_ret;refine ⟨yg.of ?_,GF.o⟩;have hbb:=oN.o;constructor
     ·intro h;refine ⟨p1.o,p2.o,p3.o,SC.o,JH.o,BS.o,fun hwi=>?_⟩;rw [hbb.2 hwi] at h;simp at h
     ·intro h
      cases b
      ·rfl
      ·exact absurd (hbb.1 rfl) h.2.2.2.2.2.2
    ·have BS:=hid hg;clear hg;refine wp_region_held_drew (S:=(fun w'=>w'.cell? ⟨w.heap.size,0,none⟩=some (.int .i64 r.ah)/\w'.cell? ⟨w.heap.size,1,none⟩=some (.int .i64 r.off)/\w'.cell? ⟨w.heap.size,2,none⟩=some (.int .i64 r.kind)/\w'.cell? ⟨w.heap.size,3,none⟩=some (.int .i64 r.sym)/\w'.cell? ⟨w.heap.size,4,none⟩=some (.int .i64 r.addend))) (by kernel_rfl) ⟨e0.o,e1.o,e2.o,e3.o,e4.o⟩ ?_;intro hS;refine aW (i:=0) (v:=?_) rfl ?_ hS ?_
     rotate_left
     ·intro w' _; go_simp; with_reducible rfl
     refine aW (i:=1) (v:=?_) rfl ?_ hS ?_
     rotate_left
     ·intro w' hw'; obtain ⟨x0,x1,x2,x3,x4⟩:=hw'; go_simp; with_reducible rfl
     refine aW (i:=2) (v:=?_) rfl ?_ hS ?_
     rotate_left
     ·intro w' _; go_simp; with_reducible rfl
     refine aW (i:=3) (v:=?_) rfl ?_ hS ?_
     rotate_left
     ·intro w' hw'; obtain ⟨x0,x1,x2,x3,x4⟩:=hw'; go_simp; with_reducible rfl
     refine wpAnyH_ready (rs:=[4]) (by kernel_rfl) (by simp) ?_;refine AllReadyH.cons rfl (fun K hK=>?_) AllReadyH.nil;go_simp;go_wp2_with (go_at_call 207; refine (Au.o _ BZ.o).mono ?_; rintro e w5 ⟨ao,cap,rfl,hI,hq⟩)
     refine hK.out _ _ ⟨yd e0.o hq,yd e1.o hq,yd e2.o hq,yd e3.o hq,yd e4.o hq⟩ (fun hS2=>?_);clear hK K;refine wpAnyH_ready (rs:=[5]) (by kernel_rfl) (by simp) ?_;refine AllReadyH.cons rfl (fun K hK=>?_) AllReadyH.nil;go_simp;go_wp2_with (go_at_call 206; refine (Gf.o _ ao cap (Np.o.grown hq) hI).mono ?_; rintro e w6 ⟨Gy,hq2⟩; obtain rfl:=Z6 Gy BS.o)
     refine hK.out _ _ ⟨yd (yd e0.o hq) hq2,yd (yd e1.o hq) hq2,yd (yd e2.o hq) hq2,yd (yd e3.o hq) hq2,yd (yd e4.o hq) hq2⟩ (fun je=>?_);clear hK K;refine aW (i:=6) (v:=?_) rfl ?_ je ?_
     rotate_left
     ·intro w' _; go_simp; with_reducible rfl
     refine rO (i:=7) rfl je ?_;refine rO (i:=8) rfl je ?_;refine rO (i:=9) rfl je ?_;refine rO (i:=10) rfl je ?_;refine wpAnyH_take (i:=11) (v:=.bool false) rfl (by kernel_rfl) (by kernel_rfl) (by kernel_rfl) (fun _ _ _ h=>h) (Or.inl ⟨by kernel_rfl,fun _ _=>by kernel_rfl⟩) je ?_;refine wpAnyH_take (i:=12) (v:=.bool false) rfl (by kernel_rfl) (by kernel_rfl) (by kernel_rfl) (fun _ _ _ h=>h) (Or.inl ⟨by kernel_rfl,fun _ _=>by kernel_rfl⟩) je ?_;refine wpAnyH_done (by kernel_rfl) ?_ _;simp only [tX,qE,qc,qx,gH,gF,gG];go_wp2;go_ret;exact no.o _ (fun h=>BS.o h.2.2.2.2.2.1) (ya (ya G6.o hq) hq2)
   ·have Au:=hid (fun W (hW:yv W g o)=>Yz g o r W hW HN.o p2.o hab hr);have Gf:=hid (fun W=>YO r.kind W);have JH:=hid hab;unfold fT at Au;clear hab;refine wp_region_held_drew (S:=(fun w'=>w'.cell? ⟨w.heap.size,0,none⟩=some (.int .i64 r.ah)/\w'.cell? ⟨w.heap.size,1,none⟩=some (.int .i64 r.off)/\w'.cell? ⟨w.heap.size,2,none⟩=some (.int .i64 r.kind)/\w'.cell? ⟨w.heap.size,3,none⟩=some (.int .i64 r.sym)/\w'.cell? ⟨w.heap.size,4,none⟩=some (.int .i64 r.addend))) (by kernel_rfl) ⟨e0.o,e1.o,e2.o,e3.o,e4.o⟩ ?_;intro hS;refine aW (i:=0) (v:=?_) rfl ?_ hS ?_
    rotate_left
    ·intro w' _; go_simp; with_reducible rfl
    refine aW (i:=1) (v:=?_) rfl ?_ hS ?_
    rotate_left
    ·intro w' hw'; obtain ⟨x0,x1,x2,x3,x4⟩:=hw'; go_simp; with_reducible rfl
    refine aW (i:=2) (v:=?_) rfl ?_ hS ?_
    rotate_left
    ·intro w' _; go_simp; with_reducible rfl
    refine aW (i:=3) (v:=?_) rfl ?_ hS ?_
    rotate_left
    ·intro w' hw'; obtain ⟨x0,x1,x2,x3,x4⟩:=hw'; go_simp; with_reducible rfl
    refine wpAnyH_ready (rs:=[4]) (by kernel_rfl) (by simp) ?_;refine AllReadyH.cons rfl (fun K hK=>?_) AllReadyH.nil;go_simp;go_wp2_with (go_at_call 207; refine (Au.o _ BZ.o).mono ?_; rintro e w5 ⟨rfl,hq⟩)
    refine hK.out _ _ ⟨yd e0.o hq,yd e1.o hq,yd e2.o hq,yd e3.o hq,yd e4.o hq⟩ (fun hS2=>?_);clear hK K;refine wpAnyH_ready (rs:=[5]) (by kernel_rfl) (by simp) ?_;refine AllReadyH.cons rfl (fun K hK=>?_) AllReadyH.nil;go_simp;go_wp2_with (go_at_call 206; refine (Gf.o _).mono ?_; rintro e w6 ⟨rfl,Ul⟩)
    subst Ul;refine hK.out _ _ ⟨yd e0.o hq,yd e1.o hq,yd e2.o hq,yd e3.o hq,yd e4.o hq⟩ (fun je=>?_);clear hK K;refine aW (i:=6) (v:=?_) rfl ?_ je ?_
    rotate_left
    ·intro w' _; go_simp; with_reducible rfl
    refine rO (i:=7) rfl je ?_;refine rO (i:=8) rfl je ?_;refine rO (i:=9) rfl je ?_;refine rO (i:=10) rfl je ?_;refine wpAnyH_take (i:=11) (v:=.bool false) rfl (by kernel_rfl) (by kernel_rfl) (by kernel_rfl) (fun _ _ _ h=>h) (Or.inl ⟨by kernel_rfl,fun _ _=>by kernel_rfl⟩) je ?_;refine wpAnyH_take (i:=12) (v:=.bool false) rfl (by kernel_rfl) (by kernel_rfl) (by kernel_rfl) (fun _ _ _ h=>h) (Or.inl ⟨by kernel_rfl,fun _ _=>by kernel_rfl⟩) je ?_;refine wpAnyH_done (by kernel_rfl) ?_ _;simp only [tX,qE,qc,qx,gH,gF,gG];go_wp2;go_ret;exact no.o _ (fun h=>JH.o h.2.2.2.2.1) (ya G6.o hq)
 ·have SC:=hid (show MK o r from fun h=>absurd h Gx);have d6:(r.kind == 6)=false:=beq_eq_false_iff_ne.2 Gx;have K6:=hid Gx;clear Gx kinds;go_wp2
  go_quiet (fail)
  go_wp2;have B5:=Na.o.drewN nq;have G5:=hid (ye G4.o nq);have e0:Hd ((W4.drewN nq).drew.cell? ⟨w.heap.size,0,none⟩=some (.int .i64 r.ah)):=B5.cell 0;have e1:Hd ((W4.drewN nq).drew.cell? ⟨w.heap.size,1,none⟩=some (.int .i64 r.off)):=B5.cell 1;have e2:Hd ((W4.drewN nq).drew.cell? ⟨w.heap.size,2,none⟩=some (.int .i64 r.kind)):=B5.cell 2;have e3:Hd ((W4.drewN nq).drew.cell? ⟨w.heap.size,3,none⟩=some (.int .i64 r.sym)):=B5.cell 3;have e4:Hd ((W4.drewN nq).drew.cell? ⟨w.heap.size,4,none⟩=some (.int .i64 r.addend)):=B5.cell 4;have BZ:Hd (yv (W4.drewN nq).drew g o):=yv.drew (HO.o.kept G5.o);have Np:Hd (dV (W4.drewN nq).drew):=HT.o.grown (yi G5.o)
  have G6:=hid (yi G5.o);clear B5;have hcr:=hid (show 1<=r.kind/\r.kind<=6 from by have:=p1.o; unfold FP at this; omega);by_cases hab:ET o r
  ·have AA:=Va p2.o hab (YK HW.o r.ah);have hoff:0<=r.off/\r.off<=1048576:=by
    obtain ⟨x1,x2,x3⟩:=hab;have y1:=K9 HN.o r.ah;have y2:=EM p2.o;omega
   have Au:=hid (fun W (hW:yv W g o)=>UJ g o r W hW HN.o p2.o hab);have Gf:=hid (fun W ao cap (hW:dV W) (hI:yC W ao (yR o r))=>show Calls Tryz.prog 206 #[.int .i64 r.kind,.slice ao (mX r).toNat cap] W fun e w'=>yg e (pI r.kind (yR o r))/\W.grownBy w' none from by
    rw [<- AA.1];exact YN r.kind ao cap (yR o r) W hW hI AA.2.1 AA.2.2.1 AA.2.2.2 hcr.o (fun h=>by rw [AA.1]; unfold mX; rw [if_pos h]; rfl))
   have NR:=hid (fun W (hW:yv W g o)=>Yl g o r W hW HN.o p2.o hoff.1 hoff.2);have JH:=hid hab;unfold fT at Au NR;clear hab AA hoff;generalize (mX r).toNat=sp at *;by_cases hg:pI r.kind (yR o r)
   ·have BS:=hid hg;clear hg
    go_region_held3 (fun w'=>w'.cell? ⟨w.heap.size,0,none⟩=some (.int .i64 r.ah)/\w'.cell? ⟨w.heap.size,1,none⟩=some (.int .i64 r.off)/\w'.cell? ⟨w.heap.size,2,none⟩=some (.int .i64 r.kind)/\w'.cell? ⟨w.heap.size,3,none⟩=some (.int .i64 r.sym)/\w'.cell? ⟨w.heap.size,4,none⟩=some (.int .i64 r.addend))
     (go_keep)
     (first | (go_at_call 207; refine (Au.o _ BZ.o).mono ?_; rintro e w5 ⟨ao,cap,rfl,hI,hq⟩; have s0:=yd e0.o hq; have s1:=yd e1.o hq; have s2:=yd e2.o hq; have s3:=yd e3.o hq; have s4:=yd e4.o hq) | (go_at_call 206; refine (Gf.o _ ao cap (Np.o.grown hq) hI).mono ?_; rintro e w6 ⟨Gy,hq2⟩; obtain rfl:=Vm Gy BS.o; have z0:=yd s0 hq2; have z1:=yd s1 hq2; have z2:=yd s2 hq2; have z3:=yd s3 hq2; have z4:=yd s4 hq2) | (go_at_call 208; refine (NR.o _ ((BZ.o.kept hq).kept hq2)).mono ?_; rintro e w7 ⟨⟨b,rfl,hb⟩,hq3⟩; have y0:=yd z0 hq3; have y1:=yd z1 hq3; have y2:=yd z2 hq3; have y3:=yd z3 hq3; have y4:=yd z4 hq3))
    have GF:=hid (ya (ya (ya G6.o hq) hq2) hq3);have oN:=hid hb;clear hb hq hq2 hq3 s0 s1 s2 s3 s4 z0 z1 z2 z3 z4 y0 y1 y2 y3 y4 hI Gy;go_wp2;go_ret;refine ⟨yg.of ?_,GF.o⟩;have hbb:=oN.o;constructor
    ·intro h;refine ⟨p1.o,p2.o,p3.o,SC.o,JH.o,BS.o,fun hwi=>?_⟩;rw [hbb.2 hwi] at h;simp at h
    ·intro h
     cases b
     ·rfl
     ·exact absurd (hbb.1 rfl) h.2.2.2.2.2.2
   ·have BS:=hid hg;clear hg;refine wp_region_held_drew (S:=(fun w'=>w'.cell? ⟨w.heap.size,0,none⟩=some (.int .i64 r.ah)/\w'.cell? ⟨w.heap.size,1,none⟩=some (.int .i64 r.off)/\w'.cell? ⟨w.heap.size,2,none⟩=some (.int .i64 r.kind)/\w'.cell? ⟨w.heap.size,3,none⟩=some (.int .i64 r.sym)/\w'.cell? ⟨w.heap.size,4,none⟩=some (.int .i64 r.addend))) (by kernel_rfl) ⟨e0.o,e1.o,e2.o,e3.o,e4.o⟩ ?_;intro hS;refine aW (i:=0) (v:=?_) rfl ?_ hS ?_
    rotate_left
    ·intro w' _; go_simp; with_reducible rfl
    refine aW (i:=1) (v:=?_) rfl ?_ hS ?_
    rotate_left
    ·intro w' hw'; obtain ⟨x0,x1,x2,x3,x4⟩:=hw'; go_simp; with_reducible rfl
    refine aW (i:=2) (v:=?_) rfl ?_ hS ?_
    rotate_left
    ·intro w' _; go_simp; with_reducible rfl
    refine aW (i:=3) (v:=?_) rfl ?_ hS ?_
    rotate_left
    ·intro w' hw'; obtain ⟨x0,x1,x2,x3,x4⟩:=hw'; go_simp; with_reducible rfl
    refine wpAnyH_ready (rs:=[4]) (by kernel_rfl) (by simp) ?_;refine AllReadyH.cons rfl (fun K hK=>?_) AllReadyH.nil;go_simp;go_wp2_with (go_at_call 207; refine (Au.o _ BZ.o).mono ?_; rintro e w5 ⟨ao,cap,rfl,hI,hq⟩)
    refine hK.out _ _ ⟨yd e0.o hq,yd e1.o hq,yd e2.o hq,yd e3.o hq,yd e4.o hq⟩ (fun hS2=>?_);clear hK K;refine wpAnyH_ready (rs:=[5]) (by kernel_rfl) (by simp) ?_;refine AllReadyH.cons rfl (fun K hK=>?_) AllReadyH.nil;go_simp;go_wp2_with (go_at_call 206; refine (Gf.o _ ao cap (Np.o.grown hq) hI).mono ?_; rintro e w6 ⟨Gy,hq2⟩; obtain rfl:=Z6 Gy BS.o)
    refine hK.out _ _ ⟨yd (yd e0.o hq) hq2,yd (yd e1.o hq) hq2,yd (yd e2.o hq) hq2,yd (yd e3.o hq) hq2,yd (yd e4.o hq) hq2⟩ (fun je=>?_);clear hK K;refine aW (i:=6) (v:=?_) rfl ?_ je ?_
    rotate_left
    ·intro w' _; go_simp; with_reducible rfl
    refine rO (i:=7) rfl je ?_;refine rO (i:=8) rfl je ?_;refine rO (i:=9) rfl je ?_;refine rO (i:=10) rfl je ?_;refine wpAnyH_take (i:=11) (v:=.bool false) rfl (by kernel_rfl) (by kernel_rfl) (by kernel_rfl) (fun _ _ _ h=>h) (Or.inl ⟨by kernel_rfl,fun _ _=>by kernel_rfl⟩) je ?_;refine wpAnyH_take (i:=12) (v:=.bool false) rfl (by kernel_rfl) (by kernel_rfl) (by kernel_rfl) (fun _ _ _ h=>h) (Or.inl ⟨by kernel_rfl,fun _ _=>by kernel_rfl⟩) je ?_;refine wpAnyH_done (by kernel_rfl) ?_ _;simp only [tX,qE,qc,qx,gH,gF,gG];go_wp2;go_ret;exact no.o _ (fun h=>BS.o h.2.2.2.2.2.1) (ya (ya G6.o hq) hq2)
  ·have Au:=hid (fun W (hW:yv W g o)=>Yz g o r W hW HN.o p2.o hab hr);have Gf:=hid (fun W=>YO r.kind W);have JH:=hid hab;unfold fT at Au;clear hab;refine wp_region_held_drew (S:=(fun w'=>w'.cell? ⟨w.heap.size,0,none⟩=some (.int .i64 r.ah)/\w'.cell? ⟨w.heap.size,1,none⟩=some (.int .i64 r.off)/\w'.cell? ⟨w.heap.size,2,none⟩=some (.int .i64 r.kind)/\w'.cell? ⟨w.heap.size,3,none⟩=some (.int .i64 r.sym)/\w'.cell? ⟨w.heap.size,4,none⟩=some (.int .i64 r.addend))) (by kernel_rfl) ⟨e0.o,e1.o,e2.o,e3.o,e4.o⟩ ?_;intro hS;refine aW (i:=0) (v:=?_) rfl ?_ hS ?_
   rotate_left
   ·intro w' _; go_simp; with_reducible rfl
   refine aW (i:=1) (v:=?_) rfl ?_ hS ?_
   rotate_left
   ·intro w' hw'; obtain ⟨x0,x1,x2,x3,x4⟩:=hw'; go_simp; with_reducible rfl
   refine aW (i:=2) (v:=?_) rfl ?_ hS ?_
   rotate_left
   ·intro w' _; go_simp; with_reducible rfl
   refine aW (i:=3) (v:=?_) rfl ?_ hS ?_
   rotate_left
   ·intro w' hw'; obtain ⟨x0,x1,x2,x3,x4⟩:=hw'; go_simp; with_reducible rfl
   refine wpAnyH_ready (rs:=[4]) (by kernel_rfl) (by simp) ?_;refine AllReadyH.cons rfl (fun K hK=>?_) AllReadyH.nil;go_simp;go_wp2_with (go_at_call 207; refine (Au.o _ BZ.o).mono ?_; rintro e w5 ⟨rfl,hq⟩)
   refine hK.out _ _ ⟨yd e0.o hq,yd e1.o hq,yd e2.o hq,yd e3.o hq,yd e4.o hq⟩ (fun hS2=>?_);clear hK K;refine wpAnyH_ready (rs:=[5]) (by kernel_rfl) (by simp) ?_;refine AllReadyH.cons rfl (fun K hK=>?_) AllReadyH.nil;go_simp;go_wp2_with (go_at_call 206; refine (Gf.o _).mono ?_; rintro e w6 ⟨rfl,Ul⟩)
   subst Ul;refine hK.out _ _ ⟨yd e0.o hq,yd e1.o hq,yd e2.o hq,yd e3.o hq,yd e4.o hq⟩ (fun je=>?_);clear hK K;refine aW (i:=6) (v:=?_) rfl ?_ je ?_
   rotate_left
   ·intro w' _; go_simp; with_reducible rfl
   refine rO (i:=7) rfl je ?_;refine rO (i:=8) rfl je ?_;refine rO (i:=9) rfl je ?_;refine rO (i:=10) rfl je ?_;refine wpAnyH_take (i:=11) (v:=.bool false) rfl (by kernel_rfl) (by kernel_rfl) (by kernel_rfl) (fun _ _ _ h=>h) (Or.inl ⟨by kernel_rfl,fun _ _=>by kernel_rfl⟩) je ?_;refine wpAnyH_take (i:=12) (v:=.bool false) rfl (by kernel_rfl) (by kernel_rfl) (by kernel_rfl) (fun _ _ _ h=>h) (Or.inl ⟨by kernel_rfl,fun _ _=>by kernel_rfl⟩) je ?_;refine wpAnyH_done (by kernel_rfl) ?_ _;simp only [tX,qE,qc,qx,gH,gF,gG];go_wp2;go_ret;exact no.o _ (fun h=>JH.o h.2.2.2.2.1) (ya G6.o hq)
end Go.Proofs.YtpgklkhgfcjceaaGreatDoor
