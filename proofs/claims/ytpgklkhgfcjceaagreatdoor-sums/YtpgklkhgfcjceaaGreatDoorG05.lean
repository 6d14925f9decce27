/- Walks over package image: checks, words at addresses. -/
/- Walks over package image: the word of code at an address. -/
/- The machine, as functions; the machine in memory. -/
/- Linking, as plain functions. -/
/- What Decode's answer says of a word: the plain side. -/
/- Walks over package object's checks: whether words go with a relocation. -/
import Derived.Test.YtpgklkhgfcjceaaGreatDoorG04
import Derived.Test.YtpgklkhgfcjceaaGreatDoorG02
import Derived.Maps.AppendAt
import Derived.Test.YtpgklkhgfcjceaaGreatDoorG01
import Derived.Test.YtpgklkhgfcjceaaGreatDoorG03
namespace Go.Proofs.YtpgklkhgfcjceaaGreatDoor
open Go.RowKit
set_option maxHeartbeats 1000000 in
theorem ydI (a:Int) (w:World) (h0:0<=a) (h1:a < 4294967296) :
  Calls Tryz.prog 80 #[.int .i64 a] w fun e w'=>yg e (Im.Base a)/\w'=w:=by
 by_cases c1:4096<=a
 ·by_cases c2:a < 1073741824
  ·by_cases c3:a % 16=0
   ·have d1:decide (4096<=a)=true:=by simpa using c1
    have d2:decide (a < 1073741824)=true:=by simpa using c2
    have d3:(a % 16 == 0)=true:=by simpa using c3
    have Q:=hid (show Im.Base a from ⟨⟨c1,c2⟩,c3⟩)
    clear c1 c2 c3
    go_enter Tryz.func80,Tryz.ntmps80
    go_wp2
    go_ret
    exact ⟨yg.yes Q.out,rfl⟩
   ·have d1:decide (4096<=a)=true:=by simpa using c1
    have d2:decide (a < 1073741824)=true:=by simpa using c2
    have d3:(a % 16 == 0)=false:=by simpa using c3
    have Q:=hid (show ¬ Im.Base a from fun h=>c3 h.2)
    clear c1 c2 c3
    go_enter Tryz.func80,Tryz.ntmps80
    go_wp2
    go_ret
    exact ⟨yg.no Q.out,rfl⟩
  ·have d1:decide (4096<=a)=true:=by simpa using c1
   have d2:decide (a < 1073741824)=false:=by simpa using c2
   have Q:=hid (show ¬ Im.Base a from fun h=>c2 h.1.2)
   clear c1 c2
   go_enter Tryz.func80,Tryz.ntmps80
   go_wp2
   go_ret
   exact ⟨yg.no Q.out,rfl⟩
 ·have d1:decide (4096<=a)=false:=by simpa using c1
  have Q:=hid (show ¬ Im.Base a from fun h=>c1 h.1.1)
  clear c1
  go_enter Tryz.func80,Tryz.ntmps80
  go_wp2
  go_ret
  exact ⟨yg.no Q.out,rfl⟩
set_option maxHeartbeats 1000000 in
theorem ydW (a:Int) (n:Int) (w:World) (h0:0<=a) (h1:a < 4294967296) (h2:0<=n) (h3:n<=1048576) :
  Calls Tryz.prog 111 #[.int .i64 a,.int .i64 n] w fun e w'=>e = .returned (.agg #[.int .i64 a,.int .i64 (a+4 * n)])/\w'=w.alloc (.cells #[.int .i64 a,.int .i64 (a+4 * n)] 171):=by
 have e1:IntKind.i64.wrap (4 * n)=4 * n:=IntWalk.i64_in _ ⟨by omega,by omega⟩
 have e2:IntKind.i64.wrap (a+4 * n)=a+4 * n:=IntWalk.i64_in _ ⟨by omega,by omega⟩
 go_enter Tryz.func111,Tryz.ntmps111
 go_wp2
 refine bodyPost_ret (v:=.agg #[.int .i64 a,.int .i64 (a+4 * n)]) ?_ rfl ⟨rfl,rfl⟩
 simp [results,Tryz.results111,go_sem]
set_option maxHeartbeats 2000000 in
theorem ygx (a b c d:Int) (w:World) :
  Calls Tryz.prog 112 #[.agg #[.int .i64 a,.int .i64 b],.agg #[.int .i64 c,.int .i64 d]] w fun e w'=>yg e (Im.Meet a b c d)/\w.grownBy w' none:=by
 have G:=hid (ya (ysp w (.cells #[.int .i64 a,.int .i64 b] 171) none) (ysp _ (.cells #[.int .i64 c,.int .i64 d] 171) none))
 by_cases c1:a=b
 ·have Q:=hid (show ¬ Im.Meet a b c d from fun h=>h.1 c1)
  have d1:(a == b)=true:=by simpa using c1
  clear c1
  go_enter Tryz.func112,Tryz.ntmps112
  go_wp2
  go_ret
  exact ⟨yg.no Q.out,G.out⟩
 ·by_cases c2:c=d
  ·have Q:=hid (show ¬ Im.Meet a b c d from fun h=>h.2.1 c2)
   have d1:(a == b)=false:=by simpa using c1
   have d2:(c == d)=true:=by simpa using c2
   clear c1 c2
   go_enter Tryz.func112,Tryz.ntmps112
   go_wp2
   go_ret
   exact ⟨yg.no Q.out,G.out⟩
  ·have d1:(a == b)=false:=by simpa using c1
   have d2:(c == d)=false:=by simpa using c2
   by_cases c3:a < d
   ·have d3:decide (a < d)=true:=by simpa using c3
    have Q:=hid (show decide (c < b)=true↔Im.Meet a b c d from by rw [decide_eq_true_iff]; exact ⟨fun h=>⟨c1,c2,c3,h⟩,fun h=>h.2.2.2⟩)
    clear c1 c2 c3
    go_enter Tryz.func112,Tryz.ntmps112
    go_wp2
    go_ret
    exact ⟨yg.of Q.out,G.out⟩
   ·have d3:decide (a < d)=false:=by simpa using c3
    have Q:=hid (show ¬ Im.Meet a b c d from fun h=>c3 h.2.2.1)
    clear c1 c2 c3
    go_enter Tryz.func112,Tryz.ntmps112
    go_wp2
    go_ret
    exact ⟨yg.no Q.out,G.out⟩
namespace Im
def place (base:Int) (n:Nat) (a:Int):Int:=if base<=a/\(a - base) % 4=0/\(a - base) / 4 < n then (a - base) / 4 else -1
theorem place_in {base:Int} {n:Nat} {a:Int} (h:In base n a):place base n a=(a - base) / 4:=if_pos h
theorem place_out {base:Int} {n:Nat} {a:Int} (h:¬ In base n a):place base n a = -1:=if_neg h
end Im
set_option maxHeartbeats 2000000 in
theorem yeQ (ao:Option Addr) (n cap:Nat) (base a:Int) (w:World) (h0:0<=a) (h1:a < 4294967296) (h2:0<=base) (h3:base < 4294967296) :
  Calls Tryz.prog 115 #[.slice ao n cap,.int .i64 base,.int .i64 a] w fun e w'=>e = .returned (.int .i64 (Im.place base n a))/\w'=w:=by
 by_cases c1:a < base
 ·have R:=hid (Im.place_out (n:=n) (show ¬ Im.In base n a from fun h=>by have:=h.1; omega))
  have d1:decide (a < base)=true:=by simpa using c1
  clear c1
  go_enter Tryz.func115,Tryz.ntmps115
  go_wp2
  go_ret
  rw [R.out]
  exact ⟨rfl,rfl⟩
 ·have d1:decide (a < base)=false:=by simpa using c1
  have e1:IntKind.i64.wrap (a - base)=a - base:=IntWalk.i64_in _ ⟨by omega,by omega⟩
  have e2:(a - base).tmod 4=(a - base) % 4:=Int.tmod_eq_emod_of_nonneg (by omega)
  have e3:(a - base).tdiv 4=(a - base) / 4:=Int.tdiv_eq_ediv_of_nonneg (by omega)
  by_cases c2:(a - base) % 4=0
  ·have d2:((a - base) % 4 == 0)=true:=by simpa using c2
   by_cases c3:(a - base) / 4 < n
   ·have R:=hid (Im.place_in (show Im.In base n a from ⟨by omega,c2,c3⟩))
    have d3:decide ((n:Int)<=(a - base) / 4)=false:=by simp; omega
    go_enter Tryz.func115,Tryz.ntmps115
    go_wp2
    go_ret
    rw [R.out]
    exact ⟨rfl,rfl⟩
   ·have R:=hid (Im.place_out (show ¬ Im.In base n a from fun h=>c3 h.2.2))
    have d3:decide ((n:Int)<=(a - base) / 4)=true:=by simp; omega
    go_enter Tryz.func115,Tryz.ntmps115
    go_wp2
    go_ret
    rw [R.out]
    exact ⟨rfl,rfl⟩
  ·have d2:((a - base) % 4 == 0)=false:=by simpa using c2
   have R:=hid (Im.place_out (n:=n) (show ¬ Im.In base n a from fun h=>c2 h.2.1))
   go_enter Tryz.func115,Tryz.ntmps115
   go_wp2
   go_ret
   rw [R.out]
   exact ⟨rfl,rfl⟩
namespace Im
def code (m:Img) (a:Int):Option Int :=
 if 0<=place m.text m.T.length a then some (m.T.getD (place m.text m.T.length a).toNat 0)
 else if 0<=place m.far m.F.length a then some (m.F.getD (place m.far m.F.length a).toNat 0) else none
theorem place_range (base:Int) (n:Nat) (a:Int):place base n a = -1\/(0<=place base n a/\place base n a < n):=by
 unfold place
 split
 ·right; omega
 ·left; rfl
theorem place_iff (base:Int) (n:Nat) (a:Int):0<=place base n a↔In base n a:=by
 unfold place In
 split
 ·rename_i h; exact ⟨fun _=>h,fun _=>by omega⟩
 ·rename_i h; exact ⟨fun k=>by omega,fun k=>absurd k h⟩
theorem code_iff (m:Img) (a:Int):(code m a).isSome=true↔In m.text m.T.length a\/In m.far m.F.length a:=by
 unfold code
 rw [<- place_iff,<- place_iff]
 by_cases h:0<=place m.text m.T.length a
 ·simp [h]
 ·by_cases k:0<=place m.far m.F.length a <;> simp [h,k]
structure Tame (m:Img):Prop where
 start:0<=m.start/\m.start < 4294967296
 text:0<=m.text/\m.text < 4294967296
 far:0<=m.far/\m.far < 4294967296
 data:0<=m.data/\m.data < 4294967296
 lens:m.T.length<=65535/\m.F.length<=65535/\m.D.length<=65535
 noughts:0<=m.noughts/\m.noughts<=65535
end Im
theorem yah.open {W:World} {g:Nat} {m:Im.Img} (h:yah W g m):∃ at_ ct af cf ad cd,
  yc W g #[.int .i64 m.start,.int .i64 m.text,.int .i64 m.far,.int .i64 m.data,.slice at_ m.T.length ct,.slice af m.F.length cf,.slice ad m.D.length cd,.int .i64 m.noughts] 90 /\
  W.ownsRow 0 3 1 (.slice at_ m.T.length ct) m.T.length (m.T.map (Value.int .i64))/\W.ownsRow 0 3 1 (.slice af m.F.length cf) m.F.length (m.F.map (Value.int .i64)) /\
  W.ownsRow 0 3 1 (.slice ad m.D.length cd) m.D.length (m.D.map (Value.int .i64)):=by
 obtain ⟨vt,vf,vd,hb,h1,h2,h3⟩:=h
 obtain ⟨at_,ct,rfl⟩:=yh h1
 obtain ⟨af,cf,rfl⟩:=yh h2
 obtain ⟨ad,cd,rfl⟩:=yh h3
 exact ⟨at_,ct,af,cf,ad,cd,hb,h1,h2,h3⟩
theorem yah.kept {W W':World} {g:Nat} {m:Im.Img} (h:yah W g m) (hg:W.grownBy W' none):yah W' g m:=by
 obtain ⟨vt,vf,vd,hb,h1,h2,h3⟩:=h
 have k:∀ {v:Value} {n:Nat} {xs:List Value},W.ownsRow 0 3 1 v n xs->W'.ownsRow 0 3 1 v n xs:=fun h=>h.kept hg (by
  cases h':Value.ownBlock _ with
  | none=>exact .inl rfl
  | some b=>right; simp)
 exact ⟨vt,vf,vd,hb.grown hg (by simp),k h1,k h2,k h3⟩
set_option maxHeartbeats 4000000 in
theorem yeM (g:Nat) (m:Im.Img) (a:Int) (w:World) (h:yah w g m) (ht:Im.Tame m) (h0:0<=a) (h1:a < 4294967296) :
  Calls Tryz.prog 76 #[.pointer (some ⟨g,0,none⟩),.int .i64 a] w fun e w'=>e = .returned (.tuple #[.int .i64 ((Im.code m a).getD 0),.bool (Im.code m a).isSome])/\∃ n,w'=w.drewN n:=by
 obtain ⟨at_,ct,af,cf,ad,cd,hb,q1,q2,-⟩:=h.open
 have hc1:=yak q1
 have hc2:=yak q2
 have I1:=hid (yz.of_own q1)
 have I2:=hid (yz.of_own q2)
 have k1:=hb.cell 1
 have k2:=hb.cell 2
 have k4:=hb.cell 4
 have k5:=hb.cell 5
 simp only [ysk,ysl,ysj] at k1 k2 k4 k5
 have cT:=hid (fun W=>yeQ at_ m.T.length ct m.text a W h0 h1 ht.text.1 ht.text.2)
 have cF:=hid (fun W=>yeQ af m.F.length cf m.far a W h0 h1 ht.far.1 ht.far.2)
 obtain ⟨X,hX⟩:∃ X,X=Im.code m a:=⟨_,rfl⟩
 rw [<- hX]
 unfold Im.code at hX
 have RX:=hid hX
 have r1:=Im.place_range m.text m.T.length a
 have r2:=Im.place_range m.far m.F.length a
 have L:=hid ht.lens
 clear hX h ht hb q1 q2
 generalize Im.place m.text m.T.length a=i at *
 generalize Im.place m.far m.F.length a=j at *
 have hl1:=L.out.1
 have hl2:=L.out.2.1
 by_cases ci:0<=i
 ·have d1:decide (0<=i)=true:=by simpa using ci
  have hi:i.toNat < m.T.length:=by omega
  obtain ⟨sg,off,rfl,hcell⟩:=I1.out (by omega)
  have hck:=hcell i.toNat hi
  rw [if_pos ci] at RX
  have GE:=hid (show m.T.getD i.toNat 0=m.T[i.toNat] from by rw [ysB,yst hi]; rfl)
  rw [GE.out] at RX
  have g1:i < (m.T.length:Int):=by omega
  clear hcell r1 r2 cF I1 I2 L GE
  generalize m.T[i.toNat]=v at *
  obtain ⟨n,rfl⟩:∃ n:Nat,i=n:=⟨i.toNat,by omega⟩
  rw [Int.toNat_natCast] at hck hi
  go_enter Tryz.func76,Tryz.ntmps76
  go_wp2
  go_quiet ((go_at_call 115; exact Calls.quiet_of_same (cT.out _)))
  go_wp2
  go_ret2
  rw [RX.out]
  exact ⟨rfl,_,rfl⟩
 ·have d1:decide (0<=i)=false:=by simpa using ci
  rw [if_neg ci] at RX
  obtain rfl:i = -1:=by omega
  clear I1 r1
  by_cases cj:0<=j
  ·have d2:decide (0<=j)=true:=by simpa using cj
   have hj:j.toNat < m.F.length:=by omega
   obtain ⟨sg,off,rfl,hcell⟩:=I2.out (by omega)
   have hck:=hcell j.toNat hj
   rw [if_pos cj] at RX
   have GE:=hid (show m.F.getD j.toNat 0=m.F[j.toNat] from by rw [ysB,yst hj]; rfl)
   rw [GE.out] at RX
   have g1:j < (m.F.length:Int):=by omega
   clear hcell r2 I2 L GE
   generalize m.F[j.toNat]=v at *
   obtain ⟨n,rfl⟩:∃ n:Nat,j=n:=⟨j.toNat,by omega⟩
   rw [Int.toNat_natCast] at hck hj
   go_enter Tryz.func76,Tryz.ntmps76
   go_wp2
   go_quiet ((go_at_call 115; exact Calls.quiet_of_same (cT.out _)))
   go_wp2
   have HE:=hid (show ∃ n,w.drewN nq=w.drewN n from ⟨_,rfl⟩)
   replace k2:(w.drewN nq).cell? ⟨g,2,none⟩=some (.int .i64 m.far):=k2
   replace k5:(w.drewN nq).cell? ⟨g,5,none⟩=some (.slice (some ⟨sg,off,none⟩) m.F.length cf):=k5
   replace hck:(w.drewN nq).cell? ⟨sg,off+n,none⟩=some (.int .i64 v):=hck
   generalize w.drewN nq=V at *
   go_quiet ((go_at_call 115; exact Calls.quiet_of_same (cF.out _)))
   go_wp2
   go_ret2
   rw [RX.out]
   exact ⟨rfl,by obtain ⟨q,hq⟩:=HE.out; exact ⟨_,by rw [hq,World.drewN_drewN]⟩⟩
  ·have d2:decide (0<=j)=false:=by simpa using cj
   rw [if_neg cj] at RX
   obtain rfl:j = -1:=by omega
   go_enter Tryz.func76,Tryz.ntmps76
   go_wp2
   go_quiet ((go_at_call 115; exact Calls.quiet_of_same (cT.out _)))
   go_wp2
   have HE:=hid (show ∃ n,w.drewN nq=w.drewN n from ⟨_,rfl⟩)
   replace k2:(w.drewN nq).cell? ⟨g,2,none⟩=some (.int .i64 m.far):=k2
   replace k5:(w.drewN nq).cell? ⟨g,5,none⟩=some (.slice af m.F.length cf):=k5
   generalize w.drewN nq=V at *
   go_quiet ((go_at_call 115; exact Calls.quiet_of_same (cF.out _)))
   go_wp2
   go_ret2
   rw [RX.out]
   exact ⟨rfl,by obtain ⟨q,hq⟩:=HE.out; exact ⟨_,by rw [hq,World.drewN_drewN]⟩⟩
namespace Mc
def wd (x:Int):Int:=x % 4294967296
def sg (x:Int):Int:=if x < 2147483648 then x else x - 4294967296
theorem wd_range (x:Int):0<=wd x/\wd x < 4294967296:=by unfold wd; omega
structure St where
 regs:List Int
 data:List Int
 pc:Int
 next:Int
 ende:Int
 code:Int
 out:List Int
 steps:Nat
 read:Nat
def reg (st:St) (n:Int):Int:=st.regs.getD (n % 32).toNat 0
def set (n v:Int) (st:St):St:=if n % 32=0 then st else { st with regs:=st.regs.set (n % 32).toNat (wd v) }
def holds (op a b:Int):Bool :=
 if op=5 then decide (a=b) else if op=6 then decide (a≠b) else if op=7 then decide (sg a < sg b) else if op=8 then decide (sg b<=sg a)
 else if op=9 then decide (a < b) else if op=10 then decide (b<=a) else false
def computed (op a b:Int):Int :=
 if op=18 then a+b else if op=19 then a - b else if op=20 then (if sg a < sg b then 1 else 0) else if op=21 then (if a < b then 1 else 0)
 else if op=22 then bits .xor .i64 a b else if op=23 then bits .or .i64 a b else if op=24 then bits .and .i64 a b else 0
def plain (op:Int):Int:=if op=13 then 18 else if op=14 then 20 else if op=15 then 22 else if op=16 then 23 else if op=17 then 24 else 0
def jump (rd dest:Int) (st:St):St:={ set rd (st.pc+4) st with next:=wd dest }
def branch (taken:Bool) (n:Int) (st:St):St:=if taken then { st with next:=wd (st.pc+n) } else st
def load (m:Im.Img) (rd a:Int) (st:St):St :=
 match Im.code m a with
 | some w=>set rd w st
 | none=>if 0<=Im.place m.data st.data.length a then set rd (st.data.getD (Im.place m.data st.data.length a).toNat 0) st else { st with ende:=4 }
def store (m:Im.Img) (a v:Int) (st:St):St :=
 if 0<=Im.place m.data st.data.length a then { st with data:=st.data.set (Im.place m.data st.data.length a).toNat v } else { st with ende:=5 }
def call (ins:List Int) (st:St):St :=
 if reg st 17=0 then { st with ende:=1,code:=sg (reg st 10) }
 else if reg st 17=1 then (if 16<=st.out.length then { st with ende:=6 } else { st with out:=st.out ++ [sg (reg st 10)] })
 else if reg st 17=2 then (if ins.length<=st.read then { st with ende:=6 } else { set 10 (ins.getD st.read 0) st with read:=st.read+1 })
 else { st with ende:=6 }
def doIt (m:Im.Img) (ins:List Int) (op rd rs1 rs2 n:Int) (st:St):St :=
 if op=0 then { st with ende:=3 }
 else if op=1 then set rd (n * 4096) st
 else if op=2 then set rd (n * 4096+st.pc) st
 else if op=3 then jump rd (st.pc+n) st
 else if op=4 then jump rd ((reg st rs1+n) - (reg st rs1+n) % 2) st
 else if 5<=op/\op<=10 then branch (holds op (reg st rs1) (reg st rs2)) n st
 else if op=11 then load m rd (wd (reg st rs1+n)) st
 else if op=12 then store m (wd (reg st rs1+n)) (reg st rs2) st
 else if 13<=op/\op<=17 then set rd (computed (plain op) (reg st rs1) (wd n)) st
 else if op=25 then call ins st
 else set rd (computed op (reg st rs1) (reg st rs2)) st
def step (m:Im.Img) (ins:List Int) (st:St):St :=
 match Im.code m st.pc with
 | none=>{ st with steps:=st.steps+1,ende:=2 }
 | some w =>
  let s:=doIt m ins (opOf w) (rdF (formOf w) w) (rs1F (formOf w) w) (rs2F (formOf w) w) (numF (formOf w) w) { st with steps:=st.steps+1,next:=wd (st.pc+4) }
  { s with pc:=s.next }
def steps (m:Im.Img) (ins:List Int) (fuel:Nat):Nat->St->St
 | 0,st=>st
 | k+1,st=>if st.ende=0/\st.steps < fuel then steps m ins fuel k (step m ins st) else st
structure Ok (st:St):Prop where
 regs:st.regs.length=32
 words:∀ i,0<=st.regs.getD i 0/\st.regs.getD i 0 < 4294967296
 zero:st.regs.getD 0 0=0
 data:st.data.length<=131070
 dwords:∀ i,0<=st.data.getD i 0/\st.data.getD i 0 < 4294967296
 pc:0<=st.pc/\st.pc < 4294967296
 next:0<=st.next/\st.next < 4294967296
 out:st.out.length<=16
 steps:st.steps<=65536
 read:st.read<=16
end Mc
theorem ynl (n:Int):bits .and .i64 n 4294967295=Mc.wd n:=by
 have h1:(BitVec.ofInt 64 4294967295).toNat=2 ^ 32 - 1:=by decide
 have key:(BitVec.ofInt 64 n &&& BitVec.ofInt 64 4294967295).toNat=(n % ((2 ^ 64:Nat):Int)).toNat % 2 ^ 32:=by
  rw [BitVec.toNat_and,BitVec.toNat_ofInt,h1,Nat.and_two_pow_sub_one_eq_mod]
 show IntKind.i64.wrap ((BitVec.ofInt 64 n &&& BitVec.ofInt 64 4294967295).toNat:Nat)=n % 4294967296
 rw [key,IntKind.wrap_i64]
 omega
def runL (g:Nat) (vin:Value) (st:Mc.St) (vd vo:Value):List Value :=
 [.pointer (some ⟨g,0,none⟩),vin] ++ (st.regs.map (Value.int .i64) ++ [vd,.int .i64 st.pc,.int .i64 st.next,.int .i64 st.ende,.int .i64 st.code,vo,.int .i64 st.steps,.int .i64 st.read])
structure yu (W0:World) (b g:Nat) (vin:Value) (st:Mc.St) (vd vo:Value) (W:World):Prop where
 blk:yc W b (runL g vin st vd vo).toArray 93
 data:W.ownsRow W0.heap.size 3 1 vd st.data.length (st.data.map (Value.int .i64))
 out:W.ownsRow W0.heap.size 3 1 vo st.out.length (st.out.map (Value.int .i64))
 apart:(∀ k,vd.ownBlock=some k->k≠b)/\(∀ k,vo.ownBlock=some k->k≠b)/\∀ k,vd.ownBlock=some k->vo.ownBlock≠some k
 lo:W0.heap.size<=b
 gr:W0.grownBy W none
 ok:Mc.Ok st
theorem ypy (g:Nat) (vin:Value) (st:Mc.St) (vd vo:Value) (h:st.regs.length=32) (i:Nat) (hi:i < 32):(runL g vin st vd vo)[2+i]?=some (.int .i64 (st.regs.getD i 0)):=by
 unfold runL
 rw [List.getElem?_append_right (by simp),List.getElem?_append_left (by simp; omega)]
 have e:2+i - [Value.pointer (some ⟨g,0,none⟩),vin].length=i:=by simp
 rw [e,List.getElem?_map,yst (by omega),ysB,yst (by omega)]
 rfl
theorem yiq (g:Nat) (vin:Value) (st:Mc.St) (vd vo:Value) (h:st.regs.length=32) (i:Nat):(runL g vin st vd vo)[34+i]?=[vd,.int .i64 st.pc,.int .i64 st.next,.int .i64 st.ende,.int .i64 st.code,vo,.int .i64 st.steps,.int .i64 st.read][i]?:=by
 unfold runL
 rw [List.getElem?_append_right (by simp; omega),List.getElem?_append_right (by simp; omega)]
 congr 1
 simp
 omega
section
variable {W0 W:World} {b g:Nat} {vin vd vo:Value} {st:Mc.St}
theorem yu.c (h:yu W0 b g vin st vd vo W):W.cell? ⟨b,0,none⟩=some (.pointer (some ⟨g,0,none⟩))/\W.cell? ⟨b,1,none⟩=some vin/\W.cell? ⟨b,34,none⟩=some vd/\W.cell? ⟨b,35,none⟩=some (.int .i64 st.pc)/\W.cell? ⟨b,36,none⟩=some (.int .i64 st.next) /\
  W.cell? ⟨b,37,none⟩=some (.int .i64 st.ende)/\W.cell? ⟨b,38,none⟩=some (.int .i64 st.code)/\W.cell? ⟨b,39,none⟩=some vo/\W.cell? ⟨b,40,none⟩=some (.int .i64 st.steps)/\W.cell? ⟨b,41,none⟩=some (.int .i64 st.read):=by
 have k:∀ i,W.cell? ⟨b,i,none⟩=(runL g vin st vd vo)[i]?:=fun i=>(h.blk.cell i).trans ysk
 have t:=yiq g vin st vd vo h.ok.regs
 refine ⟨k 0,k 1,(k 34).trans (t 0),(k 35).trans (t 1),(k 36).trans (t 2),(k 37).trans (t 3),(k 38).trans (t 4),(k 39).trans (t 5),(k 40).trans (t 6),(k 41).trans (t 7)⟩
theorem yu.cr (h:yu W0 b g vin st vd vo W) (i:Nat) (hi:i < 32):W.cell? ⟨b,2+i,none⟩=some (.int .i64 (st.regs.getD i 0)):=((h.blk.cell (2+i)).trans ysk).trans (ypy g vin st vd vo h.ok.regs i hi)
end
set_option maxHeartbeats 400000 in
theorem ybb (n:Int) (w:World):Calls Tryz.prog 81 #[.int .i64 n] w fun e w'=>e = .returned (.int .i64 (Mc.wd n))/\w'=w:=by
 have E:=hid (ynl n)
 go_enter Tryz.func81,Tryz.ntmps81
 go_wp2
 go_ret
 exact ⟨yC E.out,rfl⟩
set_option maxHeartbeats 400000 in
theorem yep (n:Int) (w:World) (h0:0<=n) (h1:n < 4294967296):Calls Tryz.prog 180 #[.int .i64 n] w fun e w'=>e = .returned (.int .i64 (Mc.sg n))/\w'=w:=by
 by_cases h:n < 2147483648
 ·have E:=hid (show n=Mc.sg n by unfold Mc.sg; rw [if_pos h])
  go_enter Tryz.func180,Tryz.ntmps180
  go_wp2
  go_ret
  exact ⟨yC E.out,rfl⟩
 ·have E:=hid (show n - 4294967296=Mc.sg n by unfold Mc.sg; rw [if_neg h])
  have d:decide (n < 2147483648)=false:=by simpa using h
  have e1:IntKind.i64.wrap (n - 4294967296)=n - 4294967296:=IntWalk.i64_in _ ⟨by omega,by omega⟩
  go_enter Tryz.func180,Tryz.ntmps180
  go_wp2
  go_ret
  exact ⟨yC E.out,rfl⟩
theorem ypO (n:Int) (h0:0<=n) (h1:n<=4294967295):bits .and .i64 n 31=n % 32:=low n 5 (by decide) 31 32 rfl rfl h0 h1
set_option maxHeartbeats 1000000 in
theorem yj (W0:World) (b g:Nat) (vin:Value) (st:Mc.St) (vd vo:Value) (n:Int) (W:World) (h:yu W0 b g vin st vd vo W) (h0:0<=n) (h1:n < 32) :
  Calls Tryz.prog 118 #[.pointer (some ⟨b,0,none⟩),.int .i64 n] W fun e W'=>e = .returned (.int .i64 (Mc.reg st n))/\W'=W:=by
 obtain ⟨k,rfl⟩:=Int.eq_ofNat_of_zero_le h0
 have hk:k < 32:=by omega
 have c:=h.cr k hk
 have e:=ypO (k:Int) (by omega) (by omega)
 have e2:(k:Int) % 32=k:=by omega
 rw [e2] at e
 have R:=hid (show Mc.reg st (k:Int)=st.regs.getD k 0 by unfold Mc.reg; rw [e2]; rfl)
 clear h e2
 generalize st.regs.getD k 0=v at *
 go_enter Tryz.func118,Tryz.ntmps118
 go_wp2
 go_ret
 exact ⟨yC R.out.symm,rfl⟩
theorem ybo {W:World} {B b o:Nat} {v u:Value} {n:Nat} {xs:List Value} (h:W.ownsRow B 3 1 v n xs) (hne:∀ k,v.ownBlock=some k->k≠b):(W.setCell ⟨b,o,none⟩ u).ownsRow B 3 1 v n xs :=
 h.kept (yf W b o u) (by
  cases hv:v.ownBlock with
  | none=>exact .inl rfl
  | some k=>right; intro e; exact hne k hv (by simpa using e))
theorem yN {w a c:World} {row:Option Nat} (h:w.grownBy a none) (k:a.grownBy c row) (hb:∀ b,row=some b->w.heap.size<=b):w.grownBy c none :=
 ⟨k.os.trans h.os,k.tape.trans h.tape,k.output.trans h.output,Nat.le_trans h.size k.size,fun i hi _ =>
  (k.block i (Nat.lt_of_lt_of_le hi h.size) (fun e=>by have:=hb i e.symm; omega)).trans (h.block i hi (by simp))⟩
section
variable {W0 W W':World} {b g:Nat} {vin vd vo:Value} {st:Mc.St}
theorem yu.put (h:yu W0 b g vin st vd vo W) (o:Nat) (v:Value) (st':Mc.St) (hc:(runL g vin st vd vo).set o v=runL g vin st' vd vo) (hd:st'.data=st.data) (ho:st'.out=st.out) (hok:Mc.Ok st') :
  yu W0 b g vin st' vd vo (W.setCell ⟨b,o,none⟩ v):=by
 refine ⟨?_,by rw [hd]; exact ybo h.data h.apart.1,by rw [ho]; exact ybo h.out h.apart.2.1,h.apart,h.lo,yN h.gr (yf W b o v) (by intro k e; simp at e; have:=h.lo; omega),hok⟩
 have:=h.blk.set o v
 rw [yso,hc] at this
 exact this
theorem yu.grown (h:yu W0 b g vin st vd vo W) (hg:W.grownBy W' none):yu W0 b g vin st vd vo W' :=
 ⟨h.blk.grown hg (by simp),h.data.kept hg (by cases hv:vd.ownBlock <;> simp),h.out.kept hg (by cases hv:vo.ownBlock <;> simp),h.apart,h.lo,ya h.gr hg,h.ok⟩
theorem yu.free (h:yu W0 b g vin st vd vo W) (o:Nat):W.frozen? ⟨b,o,none⟩=false:=h.blk.free o
end
theorem ylj (g:Nat) (vin:Value) (st:Mc.St) (vd vo:Value) (h:st.regs.length=32) (i:Nat) (hi:i < 32) (v:Int):(runL g vin st vd vo).set (2+i) (.int .i64 v)=runL g vin { st with regs:=st.regs.set i v } vd vo:=by
 unfold runL
 rw [List.set_append_right _ _ (by simp),List.set_append_left _ _ (by simp; omega)]
 have e:2+i - [Value.pointer (some ⟨g,0,none⟩),vin].length=i:=by simp
 rw [e,List.map_set]
theorem ybq (g:Nat) (vin:Value) (st st':Mc.St) (vd vo vd' vo':Value) (h:st.regs.length=32) (hr:st'.regs=st.regs) (i:Nat) (v:Value)
  (he:[vd,.int .i64 st.pc,.int .i64 st.next,.int .i64 st.ende,.int .i64 st.code,vo,.int .i64 st.steps,.int .i64 st.read].set i v=[vd',.int .i64 st'.pc,.int .i64 st'.next,.int .i64 st'.ende,.int .i64 st'.code,vo',.int .i64 st'.steps,.int .i64 st'.read]) :
  (runL g vin st vd vo).set (34+i) v=runL g vin st' vd' vo':=by
 unfold runL
 rw [List.set_append_right _ _ (by simp; omega),List.set_append_right _ _ (by simp; omega),hr]
 congr 2
 rw [<- he]
 congr 1
 simp
 omega
theorem yqO {st:Mc.St} (h:Mc.Ok st) (i:Nat) (v:Int) (hi:i≠0):Mc.Ok { st with regs:=st.regs.set i (Mc.wd v) }:=by
 have hw:=Mc.wd_range v
 have g:∀ j,(st.regs.set i (Mc.wd v)).getD j 0=st.regs.getD j 0\/(st.regs.set i (Mc.wd v)).getD j 0=Mc.wd v:=by
  intro j
  rw [ysB,ysB,List.getElem?_set]
  split
  ·split
   ·exact .inr rfl
   ·left
    rename_i h1 h2
    subst h1
    rw [List.getElem?_eq_none (by omega)]
  ·exact .inl rfl
 refine ⟨by simpa using h.regs,fun j=>?_,?_,h.data,h.dwords,h.pc,h.next,h.out,h.steps,h.read⟩
 ·rcases g j with e | e
  ·rw [e]; exact h.words j
  ·rw [e]; exact hw
 ·show (st.regs.set i (Mc.wd v)).getD 0 0=0
  rw [ysB,List.getElem?_set,if_neg hi]
  exact h.zero
namespace Ln
structure Spot where
 mod:Option Nat
 sect:Int
 off:Int
structure Mod where
 obj:Lk.Obj
 means:List Spot
 short:List Bool
 text:List Int
 far:List Int
 data:Int
 bss:Int
def none_:Spot:=⟨none,0,0⟩
def defines (y:Lk.Sym):Bool:=!decide (y.bind=0) && !decide (y.sect=0)
def wanted (y:Lk.Sym):Bool:=decide (y.bind=1) && decide (y.sect=0)
def wants (os:List Lk.Obj) (n:List UInt8):Bool:=os.any fun o=>o.syms.any fun y=>decide (y.name=n) && wanted y
def has (os:List Lk.Obj) (n:List UInt8):Bool:=os.any fun o=>o.syms.any fun y=>decide (y.name=n) && defines y
def needs (os:List Lk.Obj) (o:Lk.Obj):Bool:=o.syms.any fun y=>defines y && (wants os y.name && !has os y.name)
def findIn (n:List UInt8) (bind:Int):List Lk.Sym->Option (Int×Int)
 | []=>none
 | y :: ys=>if y.name=n/\y.bind=bind/\y.sect≠0 then some (y.sect,y.off) else findIn n bind ys
def findAt (n:List UInt8) (bind:Int):Nat->List Lk.Obj->Spot
 | _,[]=>none_
 | i,o :: os=>match findIn n bind o.syms with
  | some (s,f)=>⟨some i,s,f⟩
  | none=>findAt n bind (i+1) os
def find (os:List Lk.Obj) (n:List UInt8) (bind:Int):Spot:=findAt n bind 0 os
def named (os:List Lk.Obj) (n:List UInt8):Spot:=if (find os n 1).mod.isSome then find os n 1 else find os n 2
def meaning (os:List Lk.Obj) (i:Nat) (y:Lk.Sym):Spot:=if y.bind=0 then ⟨some i,y.sect,y.off⟩ else named os y.name
structure Flt where
 e:Int
 at_:Int
 name:List UInt8
def ok:Flt:=⟨0,0,[]⟩
def twiceIn (os:List Lk.Obj) (i:Nat):List Lk.Sym->Option Flt
 | []=>none
 | y :: ys=>if y.bind≠1\/y.sect=0 then twiceIn os i ys else if (find (os.take i) y.name 1).mod.isSome then some ⟨33,i,y.name⟩ else twiceIn os i ys
def twiceAt (os:List Lk.Obj):Nat->List Lk.Obj->Flt
 | _,[]=>ok
 | i,o :: r=>match twiceIn os i o.syms with
  | some f=>f
  | none=>twiceAt os (i+1) r
def checkTwice (os:List Lk.Obj):Flt:=twiceAt os 0 os
def wantedIn (os:List Lk.Obj) (i:Nat):List Lk.Sym->Option Flt
 | []=>none
 | y :: ys=>if wanted y=false then wantedIn os i ys else if (named os y.name).mod.isSome then wantedIn os i ys else some ⟨34,i,y.name⟩
def wantedAt (os:List Lk.Obj):Nat->List Lk.Obj->Flt
 | _,[]=>ok
 | i,o :: r=>match wantedIn os i o.syms with
  | some f=>f
  | none=>wantedAt os (i+1) r
def checkWanted (os:List Lk.Obj):Flt:=wantedAt os 0 os
def pass:List (Lk.Obj×Bool)->List Lk.Obj->List (Lk.Obj×Bool)×List Lk.Obj×Bool
 | [],os=>([],os,false)
 | (o,t) :: r,os=>if t=false/\needs os o=true then ((o,true) :: (pass r (os ++ [o])).1,(pass r (os ++ [o])).2.1,true) else ((o,t) :: (pass r os).1,(pass r os).2.1,(pass r os).2.2)
def takeArch:Nat->List (Lk.Obj×Bool)->List Lk.Obj->List Lk.Obj
 | 0,_,os=>os
 | k+1,ms,os=>if (pass ms os).2.2=true then takeArch k (pass ms os).1 (pass ms os).2.1 else (pass ms os).2.1
def relocAt (sect off:Int):Nat->List Lk.Rel->Int×Lk.Rel
 | _,[]=>(0,⟨0,0,0,0,0⟩)
 | i,r :: rs=>if r.sect=sect/\r.off<=off/\off < r.off+4 * yau r then (i,r) else relocAt sect off (i+1) rs
def isShort (sh:List Bool) (i:Int):Bool:=decide (0<=i) && sh.getD i.toNat false
def rup (a b:Int):Int:=bits .andNot .i64 (a+b - 1) (b - 1)
def stays (m:Mod) (sect off at_:Int):Bool :=
 if (relocAt sect off 0 m.obj.rels).2.kind=6 then !decide (rup at_ ((relocAt sect off 0 m.obj.rels).2.addend+4)=at_)
 else if (relocAt sect off 0 m.obj.rels).2.kind=4 then decide (off=(relocAt sect off 0 m.obj.rels).2.off) || !isShort m.short (relocAt sect off 0 m.obj.rels).1
 else true
def placesFrom (m:Mod) (sect:Int):Nat->List Int->Int->List Int
 | _,[],at_=>[at_]
 | i,_ :: ws,at_=>at_ :: placesFrom m sect (i+1) ws (if stays m sect (4 * i) at_ then at_+4 else at_)
def endFrom (m:Mod) (sect:Int):Nat->List Int->Int->Int
 | _,[],at_=>at_
 | i,_ :: ws,at_=>endFrom m sect (i+1) ws (if stays m sect (4 * i) at_ then at_+4 else at_)
def border (o:Lk.Obj) (sect:Nat):Int:=yaW (o.align.getD (sect - 1) 0)
def begin_ (m:Mod) (sect:Nat) (from_:Int):Int:=rup from_ (border m.obj sect)
def layEnd (m:Mod) (sect:Nat) (from_:Int):Int:=endFrom m sect 0 (yw m.obj sect) (begin_ m sect from_)
def layPlaces (m:Mod) (sect:Nat) (from_:Int):List Int:=placesFrom m sect 0 (yw m.obj sect) (begin_ m sect from_)
def layOne (m:Mod) (t f d:Int):Mod:={ m with text:=layPlaces m 1 t,far:=layPlaces m 2 f,data:=rup d (border m.obj 3) }
def layMods:List Mod->Int->Int->Int->List Mod
 | [],_,_,_=>[]
 | m :: ms,t,f,d=>layOne m t f d :: layMods ms (layEnd m 1 t) (layEnd m 2 f) (rup d (border m.obj 3)+4 * m.obj.data.length)
def dataEnd:List Mod->Int->Int
 | [],d=>d
 | m :: ms,d=>dataEnd ms (rup d (border m.obj 3)+4 * m.obj.data.length)
def layBss:List Mod->Int->List Mod
 | [],_=>[]
 | m :: ms,b=>{ m with bss:=rup b (border m.obj 4) } :: layBss ms (rup b (border m.obj 4)+4 * m.obj.bss)
def bssEnd:List Mod->Int->Int
 | [],b=>b
 | m :: ms,b=>bssEnd ms (rup b (border m.obj 4)+4 * m.obj.bss)
def lay (t f d:Int) (ms:List Mod):List Mod:=layBss (layMods ms t f d) (dataEnd ms d)
def noughts (d:Int) (ms:List Mod):Int:=(bssEnd ms (dataEnd ms d) - dataEnd ms d) / 4
def placeOf (ps:List Int) (off:Int):Int:=if off.tdiv 4 < 0 then 0 else ps.getD (off.tdiv 4).toNat 0
def address (m:Mod) (sect off:Int):Int :=
 if sect=1 then placeOf m.text off else if sect=2 then placeOf m.far off else if sect=3 then m.data+off else if sect=4 then m.bss+off else 0
def spotAddr (ms:List Mod) (s:Spot):Int:=match s.mod with
 | none=>0
 | some i=>match ms[i]? with
  | none=>0
  | some m=>address m s.sect s.off
def target (ms:List Mod) (m:Mod) (r:Lk.Rel):Int:=if r.sym < 0\/(m.means.length:Int)<=r.sym then 0 else spotAddr ms (m.means.getD r.sym.toNat none_)
def distance (ms:List Mod) (m:Mod) (r:Lk.Rel):Int:=target ms m r - address m r.sect r.off
def shortOne (ms:List Mod) (m:Mod) (r:Lk.Rel):Bool:=decide (r.kind=4) && (decide (-1015808 < distance ms m r) && decide (distance ms m r < 1015808))
def shorten (ms:List Mod):List Mod:=ms.map fun m=>{ m with short:=m.obj.rels.map (shortOne ms m) }
def layout (t f d:Int) (ms:List Mod):List Mod:=lay t f d (shorten (lay t f d ms))
end Ln
def yQ (n:Int):Prop:=n % 128=99/\(n / 4096 % 8=0\/n / 4096 % 8=1\/n / 4096 % 8=4\/n / 4096 % 8=5\/n / 4096 % 8=6\/n / 4096 % 8=7)/\n / 33554432=0/\n / 128 % 32=0
def Jal0 (n:Int):Prop:=n % 128=111/\n / 4096=0
def yX (opc n:Int):Prop:=n % 128=opc/\n / 4096=0
def yV (opc f n:Int):Prop:=n % 128=opc/\n / 4096 % 8=f/\n / 1048576=0
def yad (n:Int):Prop:=n % 128=35/\n / 4096 % 8=2/\n / 33554432=0/\n / 128 % 32=0
theorem is_1 (n:Int) (h0:0<=n) (h1:n<=4294967295):Is 1 n↔n % 128=55:=by
 show bits .and .i64 n 127=55↔_
 rw [ymF n h0 h1]
theorem is_2 (n:Int) (h0:0<=n) (h1:n<=4294967295):Is 2 n↔n % 128=23:=by
 show bits .and .i64 n 127=23↔_
 rw [ymF n h0 h1]
theorem is_3 (n:Int) (h0:0<=n) (h1:n<=4294967295):Is 3 n↔n % 128=111:=by
 show bits .and .i64 n 127=111↔_
 rw [ymF n h0 h1]
theorem is_4 (n:Int) (h0:0<=n) (h1:n<=4294967295):Is 4 n↔n % 128+4096 * (n / 4096 % 8)=103:=by
 show bits .and .i64 n 28799=103↔_
 rw [ycg n h0 h1]
theorem is_5 (n:Int) (h0:0<=n) (h1:n<=4294967295):Is 5 n↔n % 128+4096 * (n / 4096 % 8)=99:=by
 show bits .and .i64 n 28799=99↔_
 rw [ycg n h0 h1]
theorem is_6 (n:Int) (h0:0<=n) (h1:n<=4294967295):Is 6 n↔n % 128+4096 * (n / 4096 % 8)=4195:=by
 show bits .and .i64 n 28799=4195↔_
 rw [ycg n h0 h1]
theorem is_7 (n:Int) (h0:0<=n) (h1:n<=4294967295):Is 7 n↔n % 128+4096 * (n / 4096 % 8)=16483:=by
 show bits .and .i64 n 28799=16483↔_
 rw [ycg n h0 h1]
theorem is_8 (n:Int) (h0:0<=n) (h1:n<=4294967295):Is 8 n↔n % 128+4096 * (n / 4096 % 8)=20579:=by
 show bits .and .i64 n 28799=20579↔_
 rw [ycg n h0 h1]
theorem is_9 (n:Int) (h0:0<=n) (h1:n<=4294967295):Is 9 n↔n % 128+4096 * (n / 4096 % 8)=24675:=by
 show bits .and .i64 n 28799=24675↔_
 rw [ycg n h0 h1]
theorem ypQ (n:Int) (h0:0<=n) (h1:n<=4294967295):Is 10 n↔n % 128+4096 * (n / 4096 % 8)=28771:=by
 show bits .and .i64 n 28799=28771↔_
 rw [ycg n h0 h1]
theorem ypR (n:Int) (h0:0<=n) (h1:n<=4294967295):Is 11 n↔n % 128+4096 * (n / 4096 % 8)=8195:=by
 show bits .and .i64 n 28799=8195↔_
 rw [ycg n h0 h1]
theorem ypS (n:Int) (h0:0<=n) (h1:n<=4294967295):Is 12 n↔n % 128+4096 * (n / 4096 % 8)=8227:=by
 show bits .and .i64 n 28799=8227↔_
 rw [ycg n h0 h1]
theorem ypT (n:Int) (h0:0<=n) (h1:n<=4294967295):Is 13 n↔n % 128+4096 * (n / 4096 % 8)=19:=by
 show bits .and .i64 n 28799=19↔_
 rw [ycg n h0 h1]
theorem yrS (n:Int) (h0:0<=n) (h1:n<=4294967295):Is 14 n↔n % 128+4096 * (n / 4096 % 8)=8211:=by
 show bits .and .i64 n 28799=8211↔_
 rw [ycg n h0 h1]
theorem yrT (n:Int) (h0:0<=n) (h1:n<=4294967295):Is 15 n↔n % 128+4096 * (n / 4096 % 8)=16403:=by
 show bits .and .i64 n 28799=16403↔_
 rw [ycg n h0 h1]
theorem yrU (n:Int) (h0:0<=n) (h1:n<=4294967295):Is 16 n↔n % 128+4096 * (n / 4096 % 8)=24595:=by
 show bits .and .i64 n 28799=24595↔_
 rw [ycg n h0 h1]
theorem yrV (n:Int) (h0:0<=n) (h1:n<=4294967295):Is 17 n↔n % 128+4096 * (n / 4096 % 8)=28691:=by
 show bits .and .i64 n 28799=28691↔_
 rw [ycg n h0 h1]
theorem yrW (n:Int) (h0:0<=n) (h1:n<=4294967295):Is 18 n↔n % 128+4096 * (n / 4096 % 8)+33554432 * (n / 33554432)=51:=by
 show bits .and .i64 n 4261441663=51↔_
 rw [yeU n h0 h1]
theorem yrX (n:Int) (h0:0<=n) (h1:n<=4294967295):Is 19 n↔n % 128+4096 * (n / 4096 % 8)+33554432 * (n / 33554432)=1073741875:=by
 show bits .and .i64 n 4261441663=1073741875↔_
 rw [yeU n h0 h1]
theorem yrY (n:Int) (h0:0<=n) (h1:n<=4294967295):Is 20 n↔n % 128+4096 * (n / 4096 % 8)+33554432 * (n / 33554432)=8243:=by
 show bits .and .i64 n 4261441663=8243↔_
 rw [yeU n h0 h1]
theorem yrZ (n:Int) (h0:0<=n) (h1:n<=4294967295):Is 21 n↔n % 128+4096 * (n / 4096 % 8)+33554432 * (n / 33554432)=12339:=by
 show bits .and .i64 n 4261441663=12339↔_
 rw [yeU n h0 h1]
theorem ysa (n:Int) (h0:0<=n) (h1:n<=4294967295):Is 22 n↔n % 128+4096 * (n / 4096 % 8)+33554432 * (n / 33554432)=16435:=by
 show bits .and .i64 n 4261441663=16435↔_
 rw [yeU n h0 h1]
theorem ysb (n:Int) (h0:0<=n) (h1:n<=4294967295):Is 23 n↔n % 128+4096 * (n / 4096 % 8)+33554432 * (n / 33554432)=24627:=by
 show bits .and .i64 n 4261441663=24627↔_
 rw [yeU n h0 h1]
theorem ysc (n:Int) (h0:0<=n) (h1:n<=4294967295):Is 24 n↔n % 128+4096 * (n / 4096 % 8)+33554432 * (n / 33554432)=28723:=by
 show bits .and .i64 n 4261441663=28723↔_
 rw [yeU n h0 h1]
theorem ysd (n:Int) (h0:0<=n) (h1:n<=4294967295):Is 25 n↔n=115:=by
 show bits .and .i64 n 4294967295=115↔_
 rw [yse n h0 h1]
def yp (n op rd rs1 m:Int):Prop :=
  ((5<=op/\op<=10/\m=0)↔yQ n)/\((op=3/\m=0)↔Jal0 n)/\((op=1/\m=0)↔yX 55 n)/\((op=2/\m=0)↔yX 23 n) /\
  ((op=4/\m=0)↔yV 103 0 n)/\((op=11/\m=0)↔yV 3 2 n)/\((op=12/\m=0)↔yad n)/\((op=13/\m=0)↔yV 19 0 n) /\
  ((op=1\/op=2)->rd=n / 128 % 32)/\((op=4\/op=11\/op=12\/op=13)->rs1=n / 32768 % 32)
theorem yB (n d:Int) (h0:0<=n) (h1:n<=4294967295) (hd:1<=d):bits .and .i64 (n / d) 31=n / d % 32:=by
 have a:0<=n / d:=Int.ediv_nonneg h0 (by omega)
 have b:n / d<=n:=Int.ediv_le_self d h0
 exact low (n / d) 5 (by decide) 31 32 rfl rfl a (by omega)
theorem yrm (n:Int) (h0:0<=n) (h1:n<=4294967295) (h:∀ k,1<=k->k<=25->¬ Is k n):yp n 0 0 0 0:=by
 have i1:=h 1 (by decide) (by decide)
 rw [is_1 n h0 h1] at i1
 have i2:=h 2 (by decide) (by decide)
 rw [is_2 n h0 h1] at i2
 have i3:=h 3 (by decide) (by decide)
 rw [is_3 n h0 h1] at i3
 have i4:=h 4 (by decide) (by decide)
 rw [is_4 n h0 h1] at i4
 have i5:=h 5 (by decide) (by decide)
 rw [is_5 n h0 h1] at i5
 have i6:=h 6 (by decide) (by decide)
 rw [is_6 n h0 h1] at i6
 have i7:=h 7 (by decide) (by decide)
 rw [is_7 n h0 h1] at i7
 have i8:=h 8 (by decide) (by decide)
 rw [is_8 n h0 h1] at i8
 have i9:=h 9 (by decide) (by decide)
 rw [is_9 n h0 h1] at i9
 have i10:=h 10 (by decide) (by decide)
 rw [ypQ n h0 h1] at i10
 have i11:=h 11 (by decide) (by decide)
 rw [ypR n h0 h1] at i11
 have i12:=h 12 (by decide) (by decide)
 rw [ypS n h0 h1] at i12
 have i13:=h 13 (by decide) (by decide)
 rw [ypT n h0 h1] at i13
 clear h
 unfold yp yQ Jal0 yX yV yad
 refine ⟨?_,?_,?_,?_,?_,?_,?_,?_,?_,?_⟩ <;> omega
theorem yrH (n m:Int) (h0:0<=n) (h1:n<=4294967295) (hi:Is 1 n) (_hm:m=0↔yk 1 n):yp n 1 (rdF 1 n) (rs1F 1 n) m:=by
 rw [is_1 n h0 h1] at hi
 have hz:yk 1 n↔n / 4096=0:=by simp [yk]
 rw [hz] at _hm
 have hrd:rdF 1 n=n / 128 % 32:=by rw [<- yB n 128 h0 h1 (by decide)]; rfl
 have hrs:rs1F 1 n=0:=by rfl
 unfold yp yQ Jal0 yX yV yad
 rw [hrd,hrs]
 clear hz
 refine ⟨?_,?_,?_,?_,?_,?_,?_,?_,?_,?_⟩ <;> omega
theorem yrI (n m:Int) (h0:0<=n) (h1:n<=4294967295) (hi:Is 2 n) (_hm:m=0↔yk 1 n):yp n 2 (rdF 1 n) (rs1F 1 n) m:=by
 rw [is_2 n h0 h1] at hi
 have hz:yk 1 n↔n / 4096=0:=by simp [yk]
 rw [hz] at _hm
 have hrd:rdF 1 n=n / 128 % 32:=by rw [<- yB n 128 h0 h1 (by decide)]; rfl
 have hrs:rs1F 1 n=0:=by rfl
 unfold yp yQ Jal0 yX yV yad
 rw [hrd,hrs]
 clear hz
 refine ⟨?_,?_,?_,?_,?_,?_,?_,?_,?_,?_⟩ <;> omega
theorem yrJ (n m:Int) (h0:0<=n) (h1:n<=4294967295) (hi:Is 3 n) (_hm:m=0↔yk 2 n):yp n 3 (rdF 2 n) (rs1F 2 n) m:=by
 rw [is_3 n h0 h1] at hi
 have hz:yk 2 n↔n / 4096=0:=by simp [yk]
 rw [hz] at _hm
 have hrd:rdF 2 n=n / 128 % 32:=by rw [<- yB n 128 h0 h1 (by decide)]; rfl
 have hrs:rs1F 2 n=0:=by rfl
 unfold yp yQ Jal0 yX yV yad
 rw [hrd,hrs]
 clear hz
 refine ⟨?_,?_,?_,?_,?_,?_,?_,?_,?_,?_⟩ <;> omega
theorem yrK (n m:Int) (h0:0<=n) (h1:n<=4294967295) (hi:Is 4 n) (_hm:m=0↔yk 3 n):yp n 4 (rdF 3 n) (rs1F 3 n) m:=by
 rw [is_4 n h0 h1] at hi
 have hz:yk 3 n↔n / 1048576=0:=by simp [yk]
 rw [hz] at _hm
 have hrd:rdF 3 n=n / 128 % 32:=by rw [<- yB n 128 h0 h1 (by decide)]; rfl
 have hrs:rs1F 3 n=n / 32768 % 32:=by rw [<- yB n 32768 h0 h1 (by decide)]; rfl
 unfold yp yQ Jal0 yX yV yad
 rw [hrd,hrs]
 clear hz
 refine ⟨?_,?_,?_,?_,?_,?_,?_,?_,?_,?_⟩ <;> omega
theorem yrL (n m:Int) (h0:0<=n) (h1:n<=4294967295) (hi:Is 5 n) (_hm:m=0↔yk 4 n):yp n 5 (rdF 4 n) (rs1F 4 n) m:=by
 rw [is_5 n h0 h1] at hi
 have hz:yk 4 n↔n / 33554432=0/\n / 128 % 32=0:=by simp [yk]
 rw [hz] at _hm
 have hrd:rdF 4 n=0:=by rfl
 have hrs:rs1F 4 n=n / 32768 % 32:=by rw [<- yB n 32768 h0 h1 (by decide)]; rfl
 unfold yp yQ Jal0 yX yV yad
 rw [hrd,hrs]
 clear hz
 refine ⟨?_,?_,?_,?_,?_,?_,?_,?_,?_,?_⟩ <;> omega
theorem yrM (n m:Int) (h0:0<=n) (h1:n<=4294967295) (hi:Is 6 n) (_hm:m=0↔yk 4 n):yp n 6 (rdF 4 n) (rs1F 4 n) m:=by
 rw [is_6 n h0 h1] at hi
 have hz:yk 4 n↔n / 33554432=0/\n / 128 % 32=0:=by simp [yk]
 rw [hz] at _hm
 have hrd:rdF 4 n=0:=by rfl
 have hrs:rs1F 4 n=n / 32768 % 32:=by rw [<- yB n 32768 h0 h1 (by decide)]; rfl
 unfold yp yQ Jal0 yX yV yad
 rw [hrd,hrs]
 clear hz
 refine ⟨?_,?_,?_,?_,?_,?_,?_,?_,?_,?_⟩ <;> omega
theorem yrN (n m:Int) (h0:0<=n) (h1:n<=4294967295) (hi:Is 7 n) (_hm:m=0↔yk 4 n):yp n 7 (rdF 4 n) (rs1F 4 n) m:=by
 rw [is_7 n h0 h1] at hi
 have hz:yk 4 n↔n / 33554432=0/\n / 128 % 32=0:=by simp [yk]
 rw [hz] at _hm
 have hrd:rdF 4 n=0:=by rfl
 have hrs:rs1F 4 n=n / 32768 % 32:=by rw [<- yB n 32768 h0 h1 (by decide)]; rfl
 unfold yp yQ Jal0 yX yV yad
 rw [hrd,hrs]
 clear hz
 refine ⟨?_,?_,?_,?_,?_,?_,?_,?_,?_,?_⟩ <;> omega
theorem yrO (n m:Int) (h0:0<=n) (h1:n<=4294967295) (hi:Is 8 n) (_hm:m=0↔yk 4 n):yp n 8 (rdF 4 n) (rs1F 4 n) m:=by
 rw [is_8 n h0 h1] at hi
 have hz:yk 4 n↔n / 33554432=0/\n / 128 % 32=0:=by simp [yk]
 rw [hz] at _hm
 have hrd:rdF 4 n=0:=by rfl
 have hrs:rs1F 4 n=n / 32768 % 32:=by rw [<- yB n 32768 h0 h1 (by decide)]; rfl
 unfold yp yQ Jal0 yX yV yad
 rw [hrd,hrs]
 clear hz
 refine ⟨?_,?_,?_,?_,?_,?_,?_,?_,?_,?_⟩ <;> omega
theorem yrP (n m:Int) (h0:0<=n) (h1:n<=4294967295) (hi:Is 9 n) (_hm:m=0↔yk 4 n):yp n 9 (rdF 4 n) (rs1F 4 n) m:=by
 rw [is_9 n h0 h1] at hi
 have hz:yk 4 n↔n / 33554432=0/\n / 128 % 32=0:=by simp [yk]
 rw [hz] at _hm
 have hrd:rdF 4 n=0:=by rfl
 have hrs:rs1F 4 n=n / 32768 % 32:=by rw [<- yB n 32768 h0 h1 (by decide)]; rfl
 unfold yp yQ Jal0 yX yV yad
 rw [hrd,hrs]
 clear hz
 refine ⟨?_,?_,?_,?_,?_,?_,?_,?_,?_,?_⟩ <;> omega
theorem yqW (n m:Int) (h0:0<=n) (h1:n<=4294967295) (hi:Is 10 n) (_hm:m=0↔yk 4 n):yp n 10 (rdF 4 n) (rs1F 4 n) m:=by
 rw [ypQ n h0 h1] at hi
 have hz:yk 4 n↔n / 33554432=0/\n / 128 % 32=0:=by simp [yk]
 rw [hz] at _hm
 have hrd:rdF 4 n=0:=by rfl
 have hrs:rs1F 4 n=n / 32768 % 32:=by rw [<- yB n 32768 h0 h1 (by decide)]; rfl
 unfold yp yQ Jal0 yX yV yad
 rw [hrd,hrs]
 clear hz
 refine ⟨?_,?_,?_,?_,?_,?_,?_,?_,?_,?_⟩ <;> omega
theorem yqX (n m:Int) (h0:0<=n) (h1:n<=4294967295) (hi:Is 11 n) (_hm:m=0↔yk 3 n):yp n 11 (rdF 3 n) (rs1F 3 n) m:=by
 rw [ypR n h0 h1] at hi
 have hz:yk 3 n↔n / 1048576=0:=by simp [yk]
 rw [hz] at _hm
 have hrd:rdF 3 n=n / 128 % 32:=by rw [<- yB n 128 h0 h1 (by decide)]; rfl
 have hrs:rs1F 3 n=n / 32768 % 32:=by rw [<- yB n 32768 h0 h1 (by decide)]; rfl
 unfold yp yQ Jal0 yX yV yad
 rw [hrd,hrs]
 clear hz
 refine ⟨?_,?_,?_,?_,?_,?_,?_,?_,?_,?_⟩ <;> omega
theorem yqY (n m:Int) (h0:0<=n) (h1:n<=4294967295) (hi:Is 12 n) (_hm:m=0↔yk 5 n):yp n 12 (rdF 5 n) (rs1F 5 n) m:=by
 rw [ypS n h0 h1] at hi
 have hz:yk 5 n↔n / 33554432=0/\n / 128 % 32=0:=by simp [yk]
 rw [hz] at _hm
 have hrd:rdF 5 n=0:=by rfl
 have hrs:rs1F 5 n=n / 32768 % 32:=by rw [<- yB n 32768 h0 h1 (by decide)]; rfl
 unfold yp yQ Jal0 yX yV yad
 rw [hrd,hrs]
 clear hz
 refine ⟨?_,?_,?_,?_,?_,?_,?_,?_,?_,?_⟩ <;> omega
theorem yqZ (n m:Int) (h0:0<=n) (h1:n<=4294967295) (hi:Is 13 n) (_hm:m=0↔yk 3 n):yp n 13 (rdF 3 n) (rs1F 3 n) m:=by
 rw [ypT n h0 h1] at hi
 have hz:yk 3 n↔n / 1048576=0:=by simp [yk]
 rw [hz] at _hm
 have hrd:rdF 3 n=n / 128 % 32:=by rw [<- yB n 128 h0 h1 (by decide)]; rfl
 have hrs:rs1F 3 n=n / 32768 % 32:=by rw [<- yB n 32768 h0 h1 (by decide)]; rfl
 unfold yp yQ Jal0 yX yV yad
 rw [hrd,hrs]
 clear hz
 refine ⟨?_,?_,?_,?_,?_,?_,?_,?_,?_,?_⟩ <;> omega
theorem yra (n m:Int) (h0:0<=n) (h1:n<=4294967295) (hi:Is 14 n) (_hm:m=0↔yk 3 n):yp n 14 (rdF 3 n) (rs1F 3 n) m:=by
 rw [yrS n h0 h1] at hi
 have hz:yk 3 n↔n / 1048576=0:=by simp [yk]
 rw [hz] at _hm
 have hrd:rdF 3 n=n / 128 % 32:=by rw [<- yB n 128 h0 h1 (by decide)]; rfl
 have hrs:rs1F 3 n=n / 32768 % 32:=by rw [<- yB n 32768 h0 h1 (by decide)]; rfl
 unfold yp yQ Jal0 yX yV yad
 rw [hrd,hrs]
 clear hz
 refine ⟨?_,?_,?_,?_,?_,?_,?_,?_,?_,?_⟩ <;> omega
theorem yrb (n m:Int) (h0:0<=n) (h1:n<=4294967295) (hi:Is 15 n) (_hm:m=0↔yk 3 n):yp n 15 (rdF 3 n) (rs1F 3 n) m:=by
 rw [yrT n h0 h1] at hi
 have hz:yk 3 n↔n / 1048576=0:=by simp [yk]
 rw [hz] at _hm
 have hrd:rdF 3 n=n / 128 % 32:=by rw [<- yB n 128 h0 h1 (by decide)]; rfl
 have hrs:rs1F 3 n=n / 32768 % 32:=by rw [<- yB n 32768 h0 h1 (by decide)]; rfl
 unfold yp yQ Jal0 yX yV yad
 rw [hrd,hrs]
 clear hz
 refine ⟨?_,?_,?_,?_,?_,?_,?_,?_,?_,?_⟩ <;> omega
theorem yrc (n m:Int) (h0:0<=n) (h1:n<=4294967295) (hi:Is 16 n) (_hm:m=0↔yk 3 n):yp n 16 (rdF 3 n) (rs1F 3 n) m:=by
 rw [yrU n h0 h1] at hi
 have hz:yk 3 n↔n / 1048576=0:=by simp [yk]
 rw [hz] at _hm
 have hrd:rdF 3 n=n / 128 % 32:=by rw [<- yB n 128 h0 h1 (by decide)]; rfl
 have hrs:rs1F 3 n=n / 32768 % 32:=by rw [<- yB n 32768 h0 h1 (by decide)]; rfl
 unfold yp yQ Jal0 yX yV yad
 rw [hrd,hrs]
 clear hz
 refine ⟨?_,?_,?_,?_,?_,?_,?_,?_,?_,?_⟩ <;> omega
theorem yrd (n m:Int) (h0:0<=n) (h1:n<=4294967295) (hi:Is 17 n) (_hm:m=0↔yk 3 n):yp n 17 (rdF 3 n) (rs1F 3 n) m:=by
 rw [yrV n h0 h1] at hi
 have hz:yk 3 n↔n / 1048576=0:=by simp [yk]
 rw [hz] at _hm
 have hrd:rdF 3 n=n / 128 % 32:=by rw [<- yB n 128 h0 h1 (by decide)]; rfl
 have hrs:rs1F 3 n=n / 32768 % 32:=by rw [<- yB n 32768 h0 h1 (by decide)]; rfl
 unfold yp yQ Jal0 yX yV yad
 rw [hrd,hrs]
 clear hz
 refine ⟨?_,?_,?_,?_,?_,?_,?_,?_,?_,?_⟩ <;> omega
theorem yre (n m:Int) (h0:0<=n) (h1:n<=4294967295) (hi:Is 18 n) (_hm:m=0↔yk 6 n):yp n 18 (rdF 6 n) (rs1F 6 n) m:=by
 rw [yrW n h0 h1] at hi
 have hz:yk 6 n↔True:=by simp [yk]
 rw [hz] at _hm
 have hrd:rdF 6 n=n / 128 % 32:=by rw [<- yB n 128 h0 h1 (by decide)]; rfl
 have hrs:rs1F 6 n=n / 32768 % 32:=by rw [<- yB n 32768 h0 h1 (by decide)]; rfl
 unfold yp yQ Jal0 yX yV yad
 rw [hrd,hrs]
 simp only [iff_true] at _hm
 refine ⟨?_,?_,?_,?_,?_,?_,?_,?_,?_,?_⟩ <;> omega
theorem yrf (n m:Int) (h0:0<=n) (h1:n<=4294967295) (hi:Is 19 n) (_hm:m=0↔yk 6 n):yp n 19 (rdF 6 n) (rs1F 6 n) m:=by
 rw [yrX n h0 h1] at hi
 have hz:yk 6 n↔True:=by simp [yk]
 rw [hz] at _hm
 have hrd:rdF 6 n=n / 128 % 32:=by rw [<- yB n 128 h0 h1 (by decide)]; rfl
 have hrs:rs1F 6 n=n / 32768 % 32:=by rw [<- yB n 32768 h0 h1 (by decide)]; rfl
 unfold yp yQ Jal0 yX yV yad
 rw [hrd,hrs]
 simp only [iff_true] at _hm
 refine ⟨?_,?_,?_,?_,?_,?_,?_,?_,?_,?_⟩ <;> omega
theorem yrg (n m:Int) (h0:0<=n) (h1:n<=4294967295) (hi:Is 20 n) (_hm:m=0↔yk 6 n):yp n 20 (rdF 6 n) (rs1F 6 n) m:=by
 rw [yrY n h0 h1] at hi
 have hz:yk 6 n↔True:=by simp [yk]
 rw [hz] at _hm
 have hrd:rdF 6 n=n / 128 % 32:=by rw [<- yB n 128 h0 h1 (by decide)]; rfl
 have hrs:rs1F 6 n=n / 32768 % 32:=by rw [<- yB n 32768 h0 h1 (by decide)]; rfl
 unfold yp yQ Jal0 yX yV yad
 rw [hrd,hrs]
 simp only [iff_true] at _hm
 refine ⟨?_,?_,?_,?_,?_,?_,?_,?_,?_,?_⟩ <;> omega
theorem yrh (n m:Int) (h0:0<=n) (h1:n<=4294967295) (hi:Is 21 n) (_hm:m=0↔yk 6 n):yp n 21 (rdF 6 n) (rs1F 6 n) m:=by
 rw [yrZ n h0 h1] at hi
 have hz:yk 6 n↔True:=by simp [yk]
 rw [hz] at _hm
 have hrd:rdF 6 n=n / 128 % 32:=by rw [<- yB n 128 h0 h1 (by decide)]; rfl
 have hrs:rs1F 6 n=n / 32768 % 32:=by rw [<- yB n 32768 h0 h1 (by decide)]; rfl
 unfold yp yQ Jal0 yX yV yad
 rw [hrd,hrs]
 simp only [iff_true] at _hm
 refine ⟨?_,?_,?_,?_,?_,?_,?_,?_,?_,?_⟩ <;> omega
theorem yri (n m:Int) (h0:0<=n) (h1:n<=4294967295) (hi:Is 22 n) (_hm:m=0↔yk 6 n):yp n 22 (rdF 6 n) (rs1F 6 n) m:=by
 rw [ysa n h0 h1] at hi
 have hz:yk 6 n↔True:=by simp [yk]
 rw [hz] at _hm
 have hrd:rdF 6 n=n / 128 % 32:=by rw [<- yB n 128 h0 h1 (by decide)]; rfl
 have hrs:rs1F 6 n=n / 32768 % 32:=by rw [<- yB n 32768 h0 h1 (by decide)]; rfl
 unfold yp yQ Jal0 yX yV yad
 rw [hrd,hrs]
 simp only [iff_true] at _hm
 refine ⟨?_,?_,?_,?_,?_,?_,?_,?_,?_,?_⟩ <;> omega
theorem yrj (n m:Int) (h0:0<=n) (h1:n<=4294967295) (hi:Is 23 n) (_hm:m=0↔yk 6 n):yp n 23 (rdF 6 n) (rs1F 6 n) m:=by
 rw [ysb n h0 h1] at hi
 have hz:yk 6 n↔True:=by simp [yk]
 rw [hz] at _hm
 have hrd:rdF 6 n=n / 128 % 32:=by rw [<- yB n 128 h0 h1 (by decide)]; rfl
 have hrs:rs1F 6 n=n / 32768 % 32:=by rw [<- yB n 32768 h0 h1 (by decide)]; rfl
 unfold yp yQ Jal0 yX yV yad
 rw [hrd,hrs]
 simp only [iff_true] at _hm
 refine ⟨?_,?_,?_,?_,?_,?_,?_,?_,?_,?_⟩ <;> omega
theorem yrk (n m:Int) (h0:0<=n) (h1:n<=4294967295) (hi:Is 24 n) (_hm:m=0↔yk 6 n):yp n 24 (rdF 6 n) (rs1F 6 n) m:=by
 rw [ysc n h0 h1] at hi
 have hz:yk 6 n↔True:=by simp [yk]
 rw [hz] at _hm
 have hrd:rdF 6 n=n / 128 % 32:=by rw [<- yB n 128 h0 h1 (by decide)]; rfl
 have hrs:rs1F 6 n=n / 32768 % 32:=by rw [<- yB n 32768 h0 h1 (by decide)]; rfl
 unfold yp yQ Jal0 yX yV yad
 rw [hrd,hrs]
 simp only [iff_true] at _hm
 refine ⟨?_,?_,?_,?_,?_,?_,?_,?_,?_,?_⟩ <;> omega
theorem yrl (n m:Int) (h0:0<=n) (h1:n<=4294967295) (hi:Is 25 n) (_hm:m=0↔yk 7 n):yp n 25 (rdF 7 n) (rs1F 7 n) m:=by
 rw [ysd n h0 h1] at hi
 have hz:yk 7 n↔True:=by simp [yk]
 rw [hz] at _hm
 have hrd:rdF 7 n=0:=by rfl
 have hrs:rs1F 7 n=0:=by rfl
 unfold yp yQ Jal0 yX yV yad
 rw [hrd,hrs]
 simp only [iff_true] at _hm
 refine ⟨?_,?_,?_,?_,?_,?_,?_,?_,?_,?_⟩ <;> omega
theorem yck (n op rd rs1 m:Int) (h0:0<=n) (h1:n<=4294967295) (h:Dec n op rd rs1 m):yp n op rd rs1 m:=by
 rcases h with ⟨rfl,rfl,rfl,rfl,h⟩ | ⟨k,k1,k2,hi,-,rfl,rfl,rfl,hm⟩
 ·exact yrm n h0 h1 h
 ·rcases (show k=1\/k=2\/k=3\/k=4\/k=5\/k=6\/k=7\/k=8\/k=9\/k=10\/k=11\/k=12\/k=13\/k=14\/k=15\/k=16\/k=17\/k=18\/k=19\/k=20\/k=21\/k=22\/k=23\/k=24\/k=25 from by omega) with rfl | rfl | rfl | rfl | rfl | rfl | rfl | rfl | rfl | rfl | rfl | rfl | rfl | rfl | rfl | rfl | rfl | rfl | rfl | rfl | rfl | rfl | rfl | rfl | rfl
  ·exact yrH n m h0 h1 hi hm
  ·exact yrI n m h0 h1 hi hm
  ·exact yrJ n m h0 h1 hi hm
  ·exact yrK n m h0 h1 hi hm
  ·exact yrL n m h0 h1 hi hm
  ·exact yrM n m h0 h1 hi hm
  ·exact yrN n m h0 h1 hi hm
  ·exact yrO n m h0 h1 hi hm
  ·exact yrP n m h0 h1 hi hm
  ·exact yqW n m h0 h1 hi hm
  ·exact yqX n m h0 h1 hi hm
  ·exact yqY n m h0 h1 hi hm
  ·exact yqZ n m h0 h1 hi hm
  ·exact yra n m h0 h1 hi hm
  ·exact yrb n m h0 h1 hi hm
  ·exact yrc n m h0 h1 hi hm
  ·exact yrd n m h0 h1 hi hm
  ·exact yre n m h0 h1 hi hm
  ·exact yrf n m h0 h1 hi hm
  ·exact yrg n m h0 h1 hi hm
  ·exact yrh n m h0 h1 hi hm
  ·exact yri n m h0 h1 hi hm
  ·exact yrj n m h0 h1 hi hm
  ·exact yrk n m h0 h1 hi hm
  ·exact yrl n m h0 h1 hi hm
def Nops (xs:List Int):Prop:=∀ i (h:i < xs.length),xs[i]=19
set_option maxHeartbeats 400000 in
theorem ykE (ao:Option Addr) (cap:Nat) (xs:List Int) (w:World) (h:yz w ao xs) (hn:xs.length<=65535) :
  Calls Tryz.prog 221 #[.slice ao xs.length cap] w fun e w'=>yg e (Nops xs)/\w'=w:=by
 have H:=hid h
 clear h
 go_enter Tryz.func221,Tryz.ntmps221
 go_wp2
 go_loop [7] (fun i=>∃ k:Nat,k<=xs.length/\i = .int .i64 k/\∀ j (hj:j < xs.length),j < k->xs[j]=19) (fun i=>xs.length - (intOf i).toNat)
 case atStart=>exact ⟨0,Nat.zero_le _,rfl,fun j _ hj=>absurd hj (Nat.not_lt_zero j)⟩
 case round =>
  obtain ⟨k,hk,rfl,hall⟩:=hrel
  have HA:=hid hall
  clear hall
  by_cases hlt:k < xs.length
  ·obtain ⟨g,off,rfl,hc⟩:=H.out (by omega)
   have hck:=hc k hlt
   clear hc
   by_cases h1:xs[k]=19
   ·have HE:=hid h1
    have d1:(xs[k] == 19)=true:=beq_iff_eq.2 h1
    clear h1
    go_wp2
    go_round
    case rel=>exact ⟨k+1,by omega,by go_num,fun j hj hjk=>(Nat.lt_succ_iff_lt_or_eq.1 hjk).elim (fun h=>HA.out j hj h) (fun h=>by subst h; exact HE.out)⟩
    case measure=>simp [intOf]; omega
   ·have N:=hid (show ¬ Nops xs from fun hw=>h1 (hw k hlt))
    have d1:(xs[k] == 19)=false:=beq_eq_false_iff_ne.2 h1
    clear h1
    go_wp2
    go_ret
    exact ⟨yg.no N.out,rfl⟩
  ·go_wp2
   go_ret
   exact ⟨yg.yes fun i hi=>HA.out i hi (by omega),rfl⟩
def ygG (kind op1 rd m1 op2 rs m2:Int):Prop:=(rd≠0/\rs=rd/\m1=0/\m2=0)/\(if kind=4 then op1=2/\op2=4 else op1=1/\(op2=13\/op2=11\/op2=12))
set_option maxHeartbeats 4000000 in
theorem yfz (kind op1 rd1 s1 t1 m1 op2 rd2 s2 t2 m2:Int) (w:World) :
  Calls Tryz.prog 220 #[.int .i64 kind,insV op1 rd1 s1 t1 m1,insV op2 rd2 s2 t2 m2] w fun e w'=>yg e (ygG kind op1 rd1 m1 op2 s2 m2)/\w.grownBy w' none:=by
 have G1:=hid (fun o:Obj=>ysp w o none)
 have G2:=hid (fun o o':Obj=>ysp (w.alloc o) o' none)
 have HQ:=hid (show ygG kind op1 rd1 m1 op2 s2 m2↔(rd1≠0/\s2=rd1/\m1=0/\m2=0)/\(if kind=4 then op1=2/\op2=4 else op1=1/\(op2=13\/op2=11\/op2=12)) from Iff.rfl)
 generalize ygG kind op1 rd1 m1 op2 s2 m2=Q at *
 unfold insV
 by_cases c1:rd1=0
 ·have N:=hid (show ¬ Q from fun q=>(HQ.out.1 q).1.1 c1)
  subst c1
  clear HQ
  go_enter Tryz.func220,Tryz.ntmps220
  go_wp2
  go_ret
  exact ⟨yg.no N.out,ya (G1.out _) (G2.out _ _)⟩
 have d1:(rd1 == 0)=false:=beq_eq_false_iff_ne.2 c1
 by_cases c2:s2=rd1
 rotate_left
 ·have N:=hid (show ¬ Q from fun q=>c2 (HQ.out.1 q).1.2.1)
  have d2:(s2 != rd1)=true:=by simpa using c2
  clear HQ c1 c2
  go_enter Tryz.func220,Tryz.ntmps220
  go_wp2
  go_ret
  exact ⟨yg.no N.out,ya (G1.out _) (G2.out _ _)⟩
 subst c2
 have d2:(s2 == s2)=true:=by simp
 by_cases c3:m1=0
 rotate_left
 ·have N:=hid (show ¬ Q from fun q=>c3 (HQ.out.1 q).1.2.2.1)
  have d3:(m1 == 0)=false:=beq_eq_false_iff_ne.2 c3
  clear HQ c1 c3
  go_enter Tryz.func220,Tryz.ntmps220
  go_wp2
  go_ret
  exact ⟨yg.no N.out,ya (G1.out _) (G2.out _ _)⟩
 subst c3
 by_cases c4:m2=0
 rotate_left
 ·have N:=hid (show ¬ Q from fun q=>c4 (HQ.out.1 q).1.2.2.2)
  have d4:(m2 == 0)=false:=beq_eq_false_iff_ne.2 c4
  clear HQ c1 c4
  go_enter Tryz.func220,Tryz.ntmps220
  go_wp2
  go_ret
  exact ⟨yg.no N.out,ya (G1.out _) (G2.out _ _)⟩
 subst c4
 have C1:=hid c1
 clear c1
 by_cases k4:kind=4
 ·subst k4
  have HQ2:=hid (show Q↔op1=2/\op2=4 from by rw [HQ.out,if_pos rfl]; exact ⟨fun h=>h.2,fun h=>⟨⟨C1.out,rfl,rfl,rfl⟩,h⟩⟩)
  clear HQ
  by_cases o1:op1=2
  ·subst o1
   go_enter Tryz.func220,Tryz.ntmps220
   go_wp2
   go_ret
   exact ⟨yg.of (by rw [HQ2.out,beq_iff_eq]; simp),ya (G1.out _) (G2.out _ _)⟩
  ·have N:=hid (show ¬ Q from fun q=>o1 (HQ2.out.1 q).1)
   have d5:(op1 == 2)=false:=beq_eq_false_iff_ne.2 o1
   clear HQ2 o1
   go_enter Tryz.func220,Tryz.ntmps220
   go_wp2
   go_ret
   exact ⟨yg.no N.out,ya (G1.out _) (G2.out _ _)⟩
 ·have HQ2:=hid (show Q↔op1=1/\(op2=13\/op2=11\/op2=12) from by rw [HQ.out,if_neg k4]; exact ⟨fun h=>h.2,fun h=>⟨⟨C1.out,rfl,rfl,rfl⟩,h⟩⟩)
  have dk:(kind == 4)=false:=beq_eq_false_iff_ne.2 k4
  clear HQ k4
  by_cases o1:op1=1
  rotate_left
  ·have N:=hid (show ¬ Q from fun q=>o1 (HQ2.out.1 q).1)
   have d5:(op1 == 1)=false:=beq_eq_false_iff_ne.2 o1
   clear HQ2 o1
   go_enter Tryz.func220,Tryz.ntmps220
   go_wp2
   go_ret
   exact ⟨yg.no N.out,ya (G1.out _) (G2.out _ _)⟩
  subst o1
  by_cases o2:op2=13
  ·subst o2
   go_enter Tryz.func220,Tryz.ntmps220
   go_wp2
   go_ret
   exact ⟨yg.yes (by rw [HQ2.out]; simp),ya (G1.out _) (G2.out _ _)⟩
  have e2:(op2 == 13)=false:=beq_eq_false_iff_ne.2 o2
  by_cases o3:op2=11
  ·subst o3
   go_enter Tryz.func220,Tryz.ntmps220
   go_wp2
   go_ret
   exact ⟨yg.yes (by rw [HQ2.out]; simp),ya (G1.out _) (G2.out _ _)⟩
  have e3:(op2 == 11)=false:=beq_eq_false_iff_ne.2 o3
  have O:=hid (⟨o2,o3⟩:op2≠13/\op2≠11)
  clear o2 o3
  go_enter Tryz.func220,Tryz.ntmps220
  go_wp2
  go_ret
  exact ⟨yg.of (by rw [HQ2.out,beq_iff_eq]; have:=O.out; simp; omega),ya (G1.out _) (G2.out _ _)⟩
def yfN (kind a b:Int):Prop:=a / 128 % 32≠0/\b / 32768 % 32=a / 128 % 32/\(if kind=4 then yX 23 a/\yV 103 0 b else yX 55 a/\(yV 19 0 b\/yV 3 2 b\/yad b))
theorem yhc (kind a b op1 rd1 s1 m1 op2 rd2 s2 m2:Int) (h1:yp a op1 rd1 s1 m1) (h2:yp b op2 rd2 s2 m2):ygG kind op1 rd1 m1 op2 s2 m2↔yfN kind a b:=by
 obtain ⟨-,-,a1,a2,-,-,-,-,a9,-⟩:=h1
 obtain ⟨-,-,-,-,b4,b11,b12,b13,-,b10⟩:=h2
 unfold ygG yfN
 rw [<- a1,<- a2,<- b4,<- b11,<- b12,<- b13]
 split
 ·constructor
  ·rintro ⟨⟨x1,x2,x3,x4⟩,x5,x6⟩
   have y1:=a9 (.inr x5)
   have y2:=b10 (.inl x6)
   rw [<- y1,<- y2]
   exact ⟨x1,x2,⟨x5,x3⟩,x6,x4⟩
  ·rintro ⟨x1,x2,⟨x5,x3⟩,x6,x4⟩
   have y1:=a9 (.inr x5)
   have y2:=b10 (.inl x6)
   rw [<- y1] at x1 x2
   rw [<- y2] at x2
   exact ⟨⟨x1,x2,x3,x4⟩,x5,x6⟩
 ·constructor
  ·rintro ⟨⟨x1,x2,x3,x4⟩,x5,x6⟩
   have y1:=a9 (.inl x5)
   have y2:=b10 (by omega)
   rw [<- y1,<- y2]
   exact ⟨x1,x2,⟨x5,x3⟩,by omega⟩
  ·rintro ⟨x1,x2,⟨x5,x3⟩,x6⟩
   have y1:=a9 (.inl x5)
   have y2:=b10 (by omega)
   rw [<- y1] at x1 x2
   rw [<- y2] at x2
   exact ⟨⟨x1,x2,x3,by omega⟩,x5,by omega⟩
def yaA (kind:Int) (xs:List Int):Prop :=
 if kind=1 then xs.getD 0 0=0 else if kind=2 then yQ (xs.getD 0 0) else if kind=3 then Jal0 (xs.getD 0 0) else if kind=4\/kind=5 then yfN kind (xs.getD 0 0) (xs.getD 1 0) else if kind=6 then Nops xs else False
end Go.Proofs.YtpgklkhgfcjceaaGreatDoor
