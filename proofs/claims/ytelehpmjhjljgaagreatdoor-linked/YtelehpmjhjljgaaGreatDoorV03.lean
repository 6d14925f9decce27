
import Derived.Test.YtelehpmjhjljgaaGreatDoorV02
import Derived.Deep.RegionHeld3
import Derived.Laws.BitsAllLaws
import Derived.WalkKit
set_option maxHeartbeats 16000000
set_option maxRecDepth 100000
namespace Go.Proofs.YtelehpmjhjljgaaGreatDoor
open Go.RowKit
def kY (o:Lk.Obj) (ah:Int):Int:=if ah=4 then o.bss else (yh o ah).length
theorem yE {o:Lk.Obj} (h:kV o) (ah:Int):(yh o ah).length<=65535:=by
 obtain ⟨n1,n2,n3,n4,n5,n6⟩:=h;unfold yh;split
 ·exact n1
 split
 ·exact n2
 split
 ·exact n3
 ·simp
theorem QZ (g:Nat) (o:Lk.Obj) (ah:Int) (w:World) (h:yq w g o) (hn:kV o) (hz:0<=o.bss/\o.bss<=64) :
  Calls Tryz.prog 79 #[.pointer (some ⟨g,0,none⟩),.int .i64 ah] w fun e w'=>e = .returned (.int .i64 (4 * kY o ah))/\w'=w:=by
 have c:=hid (Mi g o ah w h);have hl:=yE hn ah;obtain ⟨at_,ct,af,cf,ad,cd,aa,ca,gF,cs,ar,cr,hb,-⟩:=h.open;have k3:=hb.cell 3;clear h hb hn;unfold kY;by_cases e1:ah=4
 ·subst e1;obtain ⟨z1,z2⟩:=hz;go_enter Tryz.func79,Tryz.ntmps79;go_wp2;go_ret;exact ⟨by simp,rfl⟩
 ·rw [if_neg e1];have d1:(ah == 4)=false:=beq_eq_false_iff_ne.2 e1;clear e1;generalize yh o ah=ws at *;go_enter Tryz.func79,Tryz.ntmps79;go_wp2_with fail;refine c.o.mono ?_;rintro e w1 ⟨ao,cap,rfl,-,rfl⟩;go_wp2;go_ret;exact ⟨rfl,rfl⟩
def mW (c:Int):Prop:=c=95\/(48<=c/\c<=57)\/(97<=c/\c<=122)
def tq (s:ByteArray):Prop:=1<=s.size/\s.size<=6/\(∀ h:0 < s.size,¬ (48<=(s[0].toNat:Int)/\(s[0].toNat:Int)<=57))/\∀ i (h:i < s.size),mW (s[i].toNat:Int)
theorem yke (c:Int) (w:World) (h0:0<=c) :
  Calls Tryz.prog 158 #[.int .u8 c] w fun e w'=>yg e (mW c)/\w'=w:=by
 rcases (show c<=47\/(48<=c/\c<=57)\/(58<=c/\c<=94)\/(95<=c/\c<=95)\/(96<=c/\c<=96)\/(97<=c/\c<=122)\/123<=c from by omega) with r | ⟨r1,r2⟩ | ⟨r1,r2⟩ | ⟨r1,r2⟩ | ⟨r1,r2⟩ | ⟨r1,r2⟩ | r
 ·have N:=hid (show ¬ mW c from fun h=>by unfold mW at h; omega);have d1:decide (97<=c)=false:=by simp; omega
  have d2:(c == 95)=false:=by simp; omega
  have cD:=hid (Kh c w (by omega));go_enter Tryz.func158,Tryz.ntmps158;go_wp2_with fail;refine cD.o.mono ?_;rintro e w1 ⟨rfl,rfl⟩;go_wp2;go_ret;exact ⟨yg.no N.o,rfl⟩
 ·have N:=hid (show mW c from by unfold mW; omega);have d1:decide (97<=c)=false:=by simp; omega
  have d2:(c == 95)=false:=by simp; omega
  have cD:=hid (Xl c w r1 r2);go_enter Tryz.func158,Tryz.ntmps158;go_wp2_with fail;refine cD.o.mono ?_;rintro e w1 ⟨rfl,rfl⟩;go_wp2;go_ret;exact ⟨yg.yes N.o,rfl⟩
 ·have N:=hid (show ¬ mW c from fun h=>by unfold mW at h; omega);have d1:decide (97<=c)=false:=by simp; omega
  have d2:(c == 95)=false:=by simp; omega
  have cD:=hid (Kh c w (by omega));go_enter Tryz.func158,Tryz.ntmps158;go_wp2_with fail;refine cD.o.mono ?_;rintro e w1 ⟨rfl,rfl⟩;go_wp2;go_ret;exact ⟨yg.no N.o,rfl⟩
 ·obtain rfl:c=95:=by omega
  go_enter Tryz.func158,Tryz.ntmps158;go_wp2;go_ret;exact ⟨yg.yes (by unfold mW; omega),rfl⟩
 ·obtain rfl:c=96:=by omega
  have cD:=hid (Kh 96 w (by omega));go_enter Tryz.func158,Tryz.ntmps158;go_wp2_with fail;refine cD.o.mono ?_;rintro e w1 ⟨rfl,rfl⟩;go_wp2;go_ret;exact ⟨yg.no (fun h=>by unfold mW at h; omega),rfl⟩
 ·have N:=hid (show mW c from by unfold mW; omega);have d1:decide (97<=c)=true:=by simp; omega
  have d2:decide (c<=122)=true:=by simp; omega
  go_enter Tryz.func158,Tryz.ntmps158;go_wp2;go_ret;exact ⟨yg.yes N.o,rfl⟩
 ·have N:=hid (show ¬ mW c from fun h=>by unfold mW at h; omega);have d1:decide (97<=c)=true:=by simp; omega
  have d3:decide (c<=122)=false:=by simp; omega
  have d2:(c == 95)=false:=by simp; omega
  have cD:=hid (Kh c w (by omega));go_enter Tryz.func158,Tryz.ntmps158;go_wp2_with fail;refine cD.o.mono ?_;rintro e w1 ⟨rfl,rfl⟩;go_wp2;go_ret;exact ⟨yg.no N.o,rfl⟩
theorem yll (s:ByteArray) (w:World) (hs:s.size<=1048576) :
  Calls Tryz.prog 150 #[.string s] w fun e w'=>yg e (tq s)/\w'=w:=by
 by_cases c1:s.size < 1
 ·have N:=hid (show ¬ tq s from fun h=>by have:=h.1; omega);have D:decide ((s.size:Int) < 1)=true:=by simp; omega
  go_enter Tryz.func150,Tryz.ntmps150;go_wp2;go_ret;exact ⟨yg.no N.o,rfl⟩
 by_cases c2:6 < s.size
 ·have N:=hid (show ¬ tq s from fun h=>by have:=h.2.1; omega);have D1:decide ((s.size:Int) < 1)=false:=by simp; omega
  have D:decide ((6:Int) < (s.size:Int))=true:=by simp; omega
  go_enter Tryz.func150,Tryz.ntmps150;go_wp2;go_ret;exact ⟨yg.no N.o,rfl⟩
 have D1:decide ((s.size:Int) < 1)=false:=by simp; omega
 have D2:decide ((6:Int) < (s.size:Int))=false:=by simp; omega
 have h0:0 < s.size:=by omega
 by_cases c3:48<=(s[0].toNat:Int)/\(s[0].toNat:Int)<=57
 ·have N:=hid (show ¬ tq s from fun h=>h.2.2.1 h0 c3);have cD:=hid (fun w=>Xl (s[0].toNat:Int) w c3.1 c3.2);clear c3;go_enter Tryz.func150,Tryz.ntmps150;go_wp2_with fail;refine (cD.o _).mono ?_;rintro e w1 ⟨rfl,rfl⟩;go_wp2;go_ret;exact ⟨yg.no N.o,rfl⟩
 have C3:=hid c3;have cD:=hid (fun w=>Kh (s[0].toNat:Int) w (by omega));clear c3;go_enter Tryz.func150,Tryz.ntmps150;go_wp2_with fail;refine (cD.o _).mono ?_;rintro e w1 ⟨rfl,rfl⟩;go_wp2_with fail
 go_loop [3] (fun i=>∃ k:Nat,k<=s.size/\i = .int .i64 k/\∀ j (hj:j < s.size),j < k->mW (s[j].toNat:Int)) (fun i=>s.size - (intOf i).toNat)
 case atStart=>exact ⟨0,Nat.zero_le _,rfl,fun j _ hj=>absurd hj (Nat.not_lt_zero j)⟩
 case round =>
  obtain ⟨k,hk,rfl,hall⟩:=hrel;have HA:=hid hall;clear hall;by_cases hlt:k < s.size
  ·have cM:=hid (fun w=>yke (s[k].toNat:Int) w (by omega));go_wp2_with fail;refine (cM.o _).mono ?_;rintro e w1 ⟨t1,rfl⟩;rcases t1.split with ⟨rfl,p1⟩ | ⟨rfl,p1⟩ <;> clear t1 cM
   ·have N:=hid (show ¬ tq s from fun h=>p1.o (h.2.2.2 k hlt));go_wp2;go_ret;exact ⟨yg.no N.o,rfl⟩
   ·go_wp2
    go_round
    case rel=>exact ⟨k+1,by omega,by go_num,fun j hj hjk=>(Nat.lt_succ_iff_lt_or_eq.1 hjk).elim (fun h=>HA.o j hj h) (fun h=>by subst h; exact p1.o)⟩
    case measure=>simp [intOf]; omega
  ·go_wp2;go_ret;exact ⟨yg.yes ⟨by omega,by omega,fun _=>C3.o,fun i hi=>HA.o i hi (by omega)⟩,rfl⟩
def yI (w:World) (ao:Option Addr) (ys:List Lk.Sym):Prop :=
 0 < ys.length->∃ g,ao=some ⟨g,0,none⟩/\g < w.heap.size/\∀ i (h:i < ys.length),w.cell? ⟨g,i * 4,none⟩=some (.string (bs ys[i].name))/\w.cell? ⟨g,i * 4+1,none⟩=some (.int .i64 ys[i].bind) /\
  w.cell? ⟨g,i * 4+2,none⟩=some (.int .i64 ys[i].ah)/\w.cell? ⟨g,i * 4+3,none⟩=some (.int .i64 ys[i].off)
theorem Nc {α:Type} (f:α->List Value) (size:Nat) (hf:∀ x,(f x).length=size) (l:List α) (i j:Nat) (hi:i < l.length) (hj:j < size):(l.flatMap f)[i * size+j]?=(f l[i])[j]?:=by
 induction l generalizing i with
 | nil=>simp at hi
 | cons x t ih =>
  rw [List.flatMap_cons]
  cases i with
  | zero =>
   rw [List.getElem?_append_left (by rw [hf]; omega)];simp
  | succ i =>
   rw [List.getElem?_append_right (by rw [hf,Nat.succ_mul]; omega),hf]
   have:(i+1) * size+j - size=i * size+j:=by rw [Nat.succ_mul]; omega
   rw [this,ih i (by simpa using hi)];simp
theorem yI.aB {w:World} {base:Nat} {ao:Option Addr} {n cap:Nat} {ys:List Lk.Sym} (h:w.ownsRow base 77 4 (.slice ao n cap) n (ys.flatMap iO)):yI w ao ys:=by
 intro h0;have hl:(ys.flatMap iO).length=ys.length * 4:=by
  clear h h0
  induction ys with
  | nil=>rfl
  | cons y t ih=>rw [List.flatMap_cons,fE,ih]; simp [iO]; omega
 have hn:ys.length=n:=by have:=h.1; omega
 have hlt:=h.lt;rcases h.2 with ⟨h1,h2⟩ | ⟨g,cap',cur,hv,_⟩
 ·simp at h1; omega
 ·simp only [Value.slice.injEq] at hv;obtain ⟨rfl,_,rfl⟩:=hv;refine ⟨g,rfl,(hlt g rfl).2,fun i hi=>?_⟩;have q:=fun j (hj:j < 4)=>(h.cellAt (i * 4+j) (by omega)).trans (Nc iO 4 (fun _=>rfl) ys i j hi hj)
  exact ⟨q 0 (by omega),q 1 (by omega),q 2 (by omega),q 3 (by omega)⟩
theorem yI.grown {w w':World} {ao:Option Addr} {ys:List Lk.Sym} (h:yI w ao ys) (hg:w.grownBy w' none):yI w' ao ys:=by
 intro h0;obtain ⟨g,h1,h2,h3⟩:=h h0;refine ⟨g,h1,Nat.lt_of_lt_of_le h2 hg.size,fun i hi=>?_⟩;obtain ⟨a,b,c,d⟩:=h3 i hi;exact ⟨hg.cell a (by simp),hg.cell b (by simp),hg.cell c (by simp),hg.cell d (by simp)⟩
theorem ymq (ao:Option Addr) (cap:Nat) (ys:List Lk.Sym) (nm:List UInt8) (w:World) (h:yI w ao ys) (hn:ys.length<=65535) :
  Calls Tryz.prog 139 #[.slice ao ys.length cap,.string (bs nm)] w fun e w'=>yg e (∃ i,∃ h:i < ys.length,ys[i].name=nm)/\w.grownBy w' none:=by
 have H:=hid h;clear h;go_enter Tryz.func139,Tryz.ntmps139;go_wp2
 go_loopw [9] (fun i wr=>∃ k:Nat,k<=ys.length/\i = .int .i64 k/\(∀ j (hj:j < ys.length),j < k->ys[j].name≠nm)/\w.grownBy wr none) (fun i _=>ys.length - (intOf i).toNat)
 case atStart=>exact ⟨0,Nat.zero_le _,rfl,fun j _ hj=>absurd hj (Nat.not_lt_zero j),World.grownBy.refl _ _⟩
 case round =>
  obtain ⟨k,hk,rfl,hall,hgr⟩:=hrel;have HA:=hid hall;have HG:=hid hgr;clear hall hgr;by_cases hlt:k < ys.length
  ·obtain ⟨g,rfl,hgs,hc⟩:=H.o.grown HG.o (by omega);obtain ⟨k0,k1,k2,k3⟩:=hc k hlt;clear hc;by_cases e1:ys[k].name=nm
   ·have E:=hid e1;have b1:((bs ys[k].name).toList == (bs nm).toList)=true:=by rw [e1]; simp
    clear e1;go_wp2;go_ret;exact ⟨yg.yes ⟨k,hlt,E.o⟩,ya HG.o (aH _ _ _)⟩
   ·have E:=hid e1;have b1:((bs ys[k].name).toList == (bs nm).toList)=false:=by rw [qO,qO]; simpa using e1
    clear e1;go_wp2
    go_roundw
    case rel=>exact ⟨k+1,by omega,by go_num,fun j hj hjk=>(Nat.lt_succ_iff_lt_or_eq.1 hjk).elim (fun h=>HA.o j hj h) (fun h=>by subst h; exact E.o),ya HG.o (aH _ _ _)⟩
    case measure=>simp [intOf]; omega
  ·go_wp2;go_ret;exact ⟨yg.no (fun ⟨i,hi,h⟩=>HA.o i hi (by omega) h),HG.o⟩
def Ci (o:Lk.Obj) (y:Lk.Sym):Prop :=
 tq (bs y.name)/\(0<=y.bind/\y.bind<=2)/\(0<=y.ah/\y.ah<=4)/\¬ (y.ah=0/\y.bind=0)/\0<=y.off/\y.off % 4=0/\y.off<=4 * kY o y.ah
theorem yq.drewN {W:World} {g:Nat} {o:Lk.Obj} (h:yq W g o) (n:Nat):yq (W.drewN n) g o:=h.kept (yd (World.grownBy.refl _ _) n)
theorem Wx (g:Nat) (o:Lk.Obj) (y:Lk.Sym) (w:World) (h:yq w g o) (hn:kV o) (hz:0<=o.bss/\o.bss<=64) (hl:y.name.length<=255) :
  Calls Tryz.prog 138 #[.pointer (some ⟨g,0,none⟩),.agg #[.string (bs y.name),.int .i64 y.bind,.int .i64 y.ah,.int .i64 y.off]] w fun e w'=>yg e (Ci o y)/\w.grownBy w' none:=by
 have hlen:0<=kY o y.ah/\kY o y.ah<=65535:=by
  have:=yE hn y.ah
  unfold kY; split <;> omega
 have cL:=hid (fun W (h:yq W g o)=>QZ g o y.ah W h hn hz);have cN:=hid (fun W=>yll (bs y.name) W (by rw [uY]; omega));have H:=hid h;have HQ:=hid (show Ci o y↔tq (bs y.name)/\(0<=y.bind/\y.bind<=2)/\(0<=y.ah/\y.ah<=4)/\¬ (y.ah=0/\y.bind=0)/\0<=y.off/\y.off % 4=0/\y.off<=4 * kY o y.ah from Iff.rfl);clear h hn hz hl;generalize Ci o y=Q at *;generalize kY o y.ah=L at *;generalize bs y.name=nm at *;generalize tq nm=P at *;obtain ⟨_,bind,ah,off⟩:=y;simp only at *;have G:=hid (fun o:Obj=>aH w o none);have no:Hd (∀ W,(¬ Q)->w.grownBy W none->yg (.returned (.bool false)) Q/\w.grownBy W none):=fun W a b=>⟨yg.no a,b⟩
 go_enter Tryz.func138,Tryz.ntmps138;go_wp2_with fail;refine (cN.o _).mono ?_;rintro e w1 ⟨t,rfl⟩;rcases t.split with ⟨rfl,p1⟩ | ⟨rfl,p1⟩ <;> clear t
 ·go_wp2;go_ret;exact no.o _ (fun hq=>p1.o (HQ.o.1 hq).1) (G.o _)
 by_cases r1:bind < 0
 ·have d:decide (bind < 0)=true:=by simp; omega
  go_wp2;go_ret;exact no.o _ (fun hq=>by have:=(HQ.o.1 hq).2.1.1; omega) (G.o _)
 have d1:decide (bind < 0)=false:=by simp; omega
 by_cases r2:2 < bind
 ·have d:decide (2 < bind)=true:=by simp; omega
  go_wp2;go_ret;exact no.o _ (fun hq=>by have:=(HQ.o.1 hq).2.1.2; omega) (G.o _)
 have d2:decide (2 < bind)=false:=by simp; omega
 by_cases r3:ah < 0
 ·have d:decide (ah < 0)=true:=by simp; omega
  go_wp2;go_ret;exact no.o _ (fun hq=>by have:=(HQ.o.1 hq).2.2.1.1; omega) (G.o _)
 have d3:decide (ah < 0)=false:=by simp; omega
 by_cases r4:4 < ah
 ·have d:decide (4 < ah)=true:=by simp; omega
  go_wp2;go_ret;exact no.o _ (fun hq=>by have:=(HQ.o.1 hq).2.2.1.2; omega) (G.o _)
 have d4:decide (4 < ah)=false:=by simp; omega
 by_cases r5:ah=0/\bind=0
 ·have q1:ah<=0:=by omega
  have q2:bind<=0:=by omega
  have R5:=hid r5;clear r5;go_wp2;go_ret;exact no.o _ (fun hq=>(HQ.o.1 hq).2.2.2.1 R5.o) (G.o _)
 have R5:=hid r5;rcases (show 1<=ah\/(ah=0/\1<=bind) from by omega) with q1 | ⟨rfl,q2⟩ <;> clear r5
 all_goals
  by_cases r6:off < 0
  ·have d:decide (0<=off)=false:=by simp; omega
   go_wp2
   go_quiet (fail)
   go_wp2;go_ret;exact no.o _ (fun hq=>by have:=(HQ.o.1 hq).2.2.2.2.1; omega) (yd (G.o _) _)
  have d6:decide (0<=off)=true:=by simp; omega
  have Wp:0<=off:=by omega
  by_cases r7:off % 4=0
  rotate_left
  ·have d:(off % 4 == 0)=false:=beq_eq_false_iff_ne.2 r7;have R7:=hid r7;clear r7;go_wp2
   go_quiet (fail)
   go_wp2;go_ret;exact no.o _ (fun hq=>R7.o (HQ.o.1 hq).2.2.2.2.2.1) (yd (G.o _) _)
  have d7:(off % 4 == 0)=true:=beq_iff_eq.2 r7;have R7:=hid r7;clear r7;go_wp2
  go_quiet ((go_at_call 79; exact Calls.quiet_of_same (cL.o _ ((H.o.kept (G.o _)).drewN _))))
  go_wp2;go_ret;refine ⟨yg.of ?_,yd (G.o _) _⟩;rw [HQ.o,decide_eq_true_iff];exact ⟨fun h=>⟨p1.o,⟨by omega,by omega⟩,⟨by omega,by omega⟩,R5.o,Wp,R7.o,h⟩,fun h=>h.2.2.2.2.2.2⟩
def Ku (o:Lk.Obj):Prop:=∀ i (h:i < o.syms.length),Ci o o.syms[i]/\¬ ∃ j,∃ hj:j < o.syms.length,j < i/\o.syms[j].name=o.syms[i].name
theorem yho (g:Nat) (o:Lk.Obj) (y:Lk.Sym) (w:World) (h:yq w g o) (hn:kV o) (hz:0<=o.bss/\o.bss<=64) (hl:y.name.length<=255) (hy:Ci o y) :
  Calls Tryz.prog 138 #[.pointer (some ⟨g,0,none⟩),.agg #[.string (bs y.name),.int .i64 y.bind,.int .i64 y.ah,.int .i64 y.off]] w fun e w'=>e = .returned (.bool true)/\w.grownBy w' none :=
 (Wx g o y w h hn hz hl).mono fun e w' ⟨t,k⟩=>by
  rcases t.split with ⟨_,p⟩ | ⟨rfl,_⟩
  ·exact absurd hy p.o
  ·exact ⟨rfl,k⟩
theorem yhS (g:Nat) (o:Lk.Obj) (y:Lk.Sym) (w:World) (h:yq w g o) (hn:kV o) (hz:0<=o.bss/\o.bss<=64) (hl:y.name.length<=255) (hy:¬ Ci o y) :
  Calls Tryz.prog 138 #[.pointer (some ⟨g,0,none⟩),.agg #[.string (bs y.name),.int .i64 y.bind,.int .i64 y.ah,.int .i64 y.off]] w fun e w'=>e = .returned (.bool false)/\w.grownBy w' none :=
 (Wx g o y w h hn hz hl).mono fun e w' ⟨t,k⟩=>by
  rcases t.split with ⟨rfl,_⟩ | ⟨_,p⟩
  ·exact ⟨rfl,k⟩
  ·exact absurd p.o hy
theorem ylI (ys:List Lk.Sym) (k:Nat) (hk:k < ys.length) (nm:List UInt8):(∃ i,∃ h:i < (ys.take k).length,(ys.take k)[i].name=nm)↔∃ j,∃ hj:j < ys.length,j < k/\ys[j].name=nm:=by
 constructor
 ·rintro ⟨i,h,e⟩;simp only [List.length_take] at h;refine ⟨i,by omega,by omega,?_⟩;rw [List.getElem_take] at e;exact e
 ·rintro ⟨j,hj,hk',e⟩;refine ⟨j,by simp; omega,?_⟩;rw [List.getElem_take];exact e
theorem yI.take {w:World} {ao:Option Addr} {ys:List Lk.Sym} (h:yI w ao ys) (k:Nat):yI w ao (ys.take k):=by
 intro h0;simp only [List.length_take] at h0;obtain ⟨g,h1,h2,h3⟩:=h (by omega);refine ⟨g,h1,h2,fun i hi=>?_⟩;have hi':i < ys.length:=by simp at hi; omega
 have:=h3 i hi'
 simpa [List.getElem_take] using this
theorem XG (ao:Option Addr) (cap k:Nat) (ys:List Lk.Sym) (nm:List UInt8) (w:World) (h:yI w ao ys) (hn:ys.length<=65535) (hk:k < ys.length) :
  Calls Tryz.prog 139 #[.slice ao k cap,.string (bs nm)] w fun e w'=>yg e (∃ j,∃ hj:j < ys.length,j < k/\ys[j].name=nm)/\w.grownBy w' none:=by
 have hl:(ys.take k).length=k:=by simp; omega
 have c:=(ymq ao cap (ys.take k) nm w (h.take k) (by omega)).mono fun e w' (hh:_/\_)=>(⟨hh.1.iff (ylI ys k hk nm),hh.2⟩:yg e (∃ j,∃ hj:j < ys.length,j < k/\ys[j].name=nm)/\w.grownBy w' none)
 rw [hl] at c;exact c
theorem ymr (ao:Option Addr) (cap k:Nat) (ys:List Lk.Sym) (nm:List UInt8) (w:World) (h:yI w ao ys) (hn:ys.length<=65535) (hk:k < ys.length) (hy:∃ j,∃ hj:j < ys.length,j < k/\ys[j].name=nm) :
  Calls Tryz.prog 139 #[.slice ao k cap,.string (bs nm)] w fun e w'=>e = .returned (.bool true)/\w.grownBy w' none :=
 (XG ao cap k ys nm w h hn hk).mono fun e w' ⟨t,q⟩=>by
  rcases t.split with ⟨_,p⟩ | ⟨rfl,_⟩
  ·exact absurd hy p.o
  ·exact ⟨rfl,q⟩
theorem ynt (ao:Option Addr) (cap k:Nat) (ys:List Lk.Sym) (nm:List UInt8) (w:World) (h:yI w ao ys) (hn:ys.length<=65535) (hk:k < ys.length) (hy:¬ ∃ j,∃ hj:j < ys.length,j < k/\ys[j].name=nm) :
  Calls Tryz.prog 139 #[.slice ao k cap,.string (bs nm)] w fun e w'=>e = .returned (.bool false)/\w.grownBy w' none :=
 (XG ao cap k ys nm w h hn hk).mono fun e w' ⟨t,q⟩=>by
  rcases t.split with ⟨rfl,_⟩ | ⟨_,p⟩
  ·exact ⟨rfl,q⟩
  ·exact absurd p.o hy
theorem yq.drew {W:World} {g:Nat} {o:Lk.Obj} (h:yq W g o):yq W.drew g o:=h.kept ⟨rfl,rfl,rfl,Nat.le_refl _,fun _ _ _=>rfl⟩
theorem ni (t:Array Value) (ds:List Deferred) (i:Tmp) (v:Value):Act.put ⟨t,ds⟩ (some i) v=⟨t.setIfInBounds i v,ds⟩:=rfl
theorem yf {a b:World} {row:Option Nat} (h:a.grownBy b row):a.grownBy b.drew row:=⟨h.os,h.tape,h.output,h.size,h.block⟩
theorem yc {w w':World} {a:Addr} {v:Value} (h:w.cell? a=some v) (hg:w.grownBy w' none):w'.cell? a=some v:=hg.cell h (by simp)
theorem ygJ (g:Nat) (o:Lk.Obj) (w:World) (h:yq w g o) (hn:kV o) (hz:0<=o.bss/\o.bss<=64) (hl:∀ y∈o.syms,y.name.length<=255) :
  Calls Tryz.prog 124 #[.pointer (some ⟨g,0,none⟩)] w fun e w'=>yg e (Ku o)/\w.grownBy w' none:=by
 obtain ⟨at_,ct,af,cf,ad,cd,aa,ca,gF,cs,ar,cr,hb,h1,h2,h3,h4,h5,h6⟩:=h.open;have k5:=hb.cell 5;have S:=hid (yI.aB h5);have hcap:=yZ h5;have hns:=hn.2.2.2.2.1;have HZ:=hid hz;have HL:=hid hl;have HO:=hid h;have HN:=hid hn;have HB:=hid hb;have hgw:=hb.lt;clear h hn hl hb h1 h2 h3 h4 h5 h6 hz;have hcap1:=hcap.1;have hcap2:=hcap.2;unfold maxLen at hcap2;clear hcap;go_enter Tryz.func124,Tryz.ntmps124;go_wp2
 go_loopw [10] (fun i wr=>∃ k:Nat,k<=o.syms.length/\i = .int .i64 k/\(∀ i (h:i < o.syms.length),i < k->Ci o o.syms[i]/\¬ ∃ j,∃ hj:j < o.syms.length,j < i/\o.syms[j].name=o.syms[i].name)/\w.grownBy wr none) (fun i _=>o.syms.length - (intOf i).toNat)
 case atStart=>exact ⟨0,Nat.zero_le _,rfl,fun j _ hj=>absurd hj (Nat.not_lt_zero j),World.grownBy.refl _ _⟩
 case round =>
  obtain ⟨k,hk,rfl,hall,hgr⟩:=hrel;have HA:=hid hall;have HG:=hid hgr;clear hall hgr;by_cases hlt:k < o.syms.length
  ·obtain ⟨sg,hao,hgs,hc⟩:=S.o.grown HG.o (by omega);have jV:=hid hao;subst hao;obtain ⟨q0,q1,q2,q3⟩:=hc k hlt;clear hc;have hl:=HL.o o.syms[k] (dM hlt);have hgl:g < wr.heap.size:=(HB.o.grown HG.o (by simp)).lt;have hgc:=(HB.o.grown HG.o (by simp)).cell 5;have hne:=World.new_ne wr ⟨g,5,none⟩ (by simpa using hgc);have hgrow:=aH wr (.cells #[.string (bs o.syms[k].name),.int .i64 o.syms[k].bind,.int .i64 o.syms[k].ah,.int .i64 o.syms[k].off] 77) none;have hblk:=ye.new wr #[.string (bs o.syms[k].name),.int .i64 o.syms[k].bind,.int .i64 o.syms[k].ah,.int .i64 o.syms[k].off] 77;have c0:Hd (((wr.alloc (.cells #[.string (bs o.syms[k].name),.int .i64 o.syms[k].bind,.int .i64 o.syms[k].ah,.int .i64 o.syms[k].off] 77)).drew).cell? ⟨wr.heap.size,0,none⟩=some (.string (bs o.syms[k].name))):=hblk.cell 0
   have c1:Hd (((wr.alloc (.cells #[.string (bs o.syms[k].name),.int .i64 o.syms[k].bind,.int .i64 o.syms[k].ah,.int .i64 o.syms[k].off] 77)).drew).cell? ⟨wr.heap.size,1,none⟩=some (.int .i64 o.syms[k].bind)):=hblk.cell 1;have c2:Hd (((wr.alloc (.cells #[.string (bs o.syms[k].name),.int .i64 o.syms[k].bind,.int .i64 o.syms[k].ah,.int .i64 o.syms[k].off] 77)).drew).cell? ⟨wr.heap.size,2,none⟩=some (.int .i64 o.syms[k].ah)):=hblk.cell 2;have c3:Hd (((wr.alloc (.cells #[.string (bs o.syms[k].name),.int .i64 o.syms[k].bind,.int .i64 o.syms[k].ah,.int .i64 o.syms[k].off] 77)).drew).cell? ⟨wr.heap.size,3,none⟩=some (.int .i64 o.syms[k].off)):=hblk.cell 3
   have c4:Hd (((wr.alloc (.cells #[.string (bs o.syms[k].name),.int .i64 o.syms[k].bind,.int .i64 o.syms[k].ah,.int .i64 o.syms[k].off] 77)).drew).cell? ⟨g,5,none⟩=some (.slice (some ⟨sg,0,none⟩) o.syms.length cs)):=yc (show wr.cell? ⟨g,5,none⟩=some (.slice (some ⟨sg,0,none⟩) o.syms.length cs) from by simpa using hgc) (yf hgrow);clear hgrow hblk;have hk1:(0:Int)<=(k:Int):=by omega
   have hk2:(k:Int)<=(cs:Int):=by omega
   by_cases hS:Ci o o.syms[k]
   ·have cV:=hid (fun W (hW:yq W g o)=>yho g o o.syms[k] W hW HN.o HZ.o hl hS);have HS:=hid hS;clear hS;by_cases hN:∃ j,∃ hj:j < o.syms.length,j < k/\o.syms[j].name=o.syms[k].name
    ·have cN:=hid (fun W (hW:yI W (some ⟨sg,0,none⟩) o.syms)=>ymr (some ⟨sg,0,none⟩) cs k o.syms o.syms[k].name W hW hns hlt hN);have NN:=hid hN;clear hN;go_wp2
     go_region_held3 (fun w'=>w'.cell? ⟨wr.heap.size,0,none⟩=some (.string (bs o.syms[k].name))/\w'.cell? ⟨wr.heap.size,1,none⟩=some (.int .i64 o.syms[k].bind)/\w'.cell? ⟨wr.heap.size,2,none⟩=some (.int .i64 o.syms[k].ah)/\w'.cell? ⟨wr.heap.size,3,none⟩=some (.int .i64 o.syms[k].off)/\w'.cell? ⟨g,5,none⟩=some (.slice (some ⟨sg,0,none⟩) o.syms.length cs))
      (go_keep)
      (first | (go_at_call 138; refine (cV.o _ (yq.drew (yq.kept (HO.o.kept HG.o) (aH _ _ _)))).mono ?_; rintro e w' ⟨rfl,hq⟩; have s0:=yc c0.o hq; have s1:=yc c1.o hq; have s2:=yc c2.o hq; have s3:=yc c3.o hq; have s4:=yc c4.o hq) | (go_at_call 139; refine (cN.o _ ?_).mono ?_; (exact ((S.o.grown HG.o).grown (yf (aH _ _ _))).grown hq); rintro e w'' ⟨rfl,hq2⟩; have z0:=yc s0 hq2; have z1:=yc s1 hq2; have z2:=yc s2 hq2; have z3:=yc s3 hq2; have z4:=yc s4 hq2))
     go_wp2;go_ret;exact ⟨yg.no (fun hp=>(hp k hlt).2 NN.o),ya (ya HG.o (ya (yf (aH _ _ _)) hq)) hq2⟩
    ·have cN:=hid (fun W (hW:yI W (some ⟨sg,0,none⟩) o.syms)=>ynt (some ⟨sg,0,none⟩) cs k o.syms o.syms[k].name W hW hns hlt hN);have NN:=hid hN;clear hN;go_wp2
     go_region_held3 (fun w'=>w'.cell? ⟨wr.heap.size,0,none⟩=some (.string (bs o.syms[k].name))/\w'.cell? ⟨wr.heap.size,1,none⟩=some (.int .i64 o.syms[k].bind)/\w'.cell? ⟨wr.heap.size,2,none⟩=some (.int .i64 o.syms[k].ah)/\w'.cell? ⟨wr.heap.size,3,none⟩=some (.int .i64 o.syms[k].off)/\w'.cell? ⟨g,5,none⟩=some (.slice (some ⟨sg,0,none⟩) o.syms.length cs))
      (go_keep)
      (first | (go_at_call 138; refine (cV.o _ (yq.drew (yq.kept (HO.o.kept HG.o) (aH _ _ _)))).mono ?_; rintro e w' ⟨rfl,hq⟩; have s0:=yc c0.o hq; have s1:=yc c1.o hq; have s2:=yc c2.o hq; have s3:=yc c3.o hq; have s4:=yc c4.o hq) | (go_at_call 139; refine (cN.o _ ?_).mono ?_; (exact ((S.o.grown HG.o).grown (yf (aH _ _ _))).grown hq); rintro e w'' ⟨rfl,hq2⟩; have z0:=yc s0 hq2; have z1:=yc s1 hq2; have z2:=yc s2 hq2; have z3:=yc s3 hq2; have z4:=yc s4 hq2))
     go_wp2
     go_roundw
     case rel=>exact ⟨k+1,by omega,by go_num,fun j hj hjk=>(Nat.lt_succ_iff_lt_or_eq.1 hjk).elim (fun h=>HA.o j hj h) (fun h=>by subst h; exact ⟨HS.o,NN.o⟩),ya (ya HG.o (ya (yf (aH _ _ _)) hq)) hq2⟩
     case measure=>simp [intOf]; omega
   ·have cV:=hid (fun W (hW:yq W g o)=>yhS g o o.syms[k] W hW HN.o HZ.o hl hS);have HS:=hid hS;clear hS;go_wp2;refine wp_region_any (by kernel_rfl) ?_
    change wpAny _ Region.Mode.any _ _ _ _ _ (World.drew (wr.alloc _))
    refine wpAny_take (i:=0) (v:=?_) rfl (by kernel_rfl) (by kernel_rfl) (by kernel_rfl) (fun _ _ _ h=>h) (Or.inl ⟨by rfl,?_⟩) ?_
    rotate_left
    ·intro w; go_simp; with_reducible rfl
    refine wpAny_ready (rs:=[1]) (by kernel_rfl) (by simp) ?_;refine AllReady.cons rfl (fun K hK=>?_) AllReady.nil;go_simp;refine hK _ _ ?_;clear hK K;refine wpAny_ready (rs:=[2]) (by kernel_rfl) (by simp) ?_;refine AllReady.cons rfl (fun K hK=>?_) AllReady.nil;go_simp;go_wp2_with (go_at_call 138; refine (cV.o _ ?_).mono ?_; (exact (yq.drew (yq.kept (HO.o.kept HG.o) (aH _ _ _)))); rintro e w' ⟨rfl,hq⟩)
    refine wpAny_take (i:=3) (v:=?_) rfl (by kernel_rfl) (by kernel_rfl) (by kernel_rfl) (fun _ _ _ h=>h) (Or.inl ⟨by rfl,?_⟩) ?_
    rotate_left
    ·intro w; go_simp; with_reducible rfl
    refine wpAny_take (i:=4) (v:=?_) rfl (by kernel_rfl) (by kernel_rfl) (by kernel_rfl) (fun _ _ _ h=>h) (Or.inl ⟨by rfl,?_⟩) ?_
    rotate_left
    ·intro w; go_simp; with_reducible rfl
    refine wpAny_take (i:=5) (v:=undef) rfl (by kernel_rfl) (by kernel_rfl) (by kernel_rfl) (fun _ _ _ h=>h) (Or.inr ⟨by kernel_rfl,rfl⟩) ?_;refine wpAny_take (i:=6) (v:=undef) rfl (by kernel_rfl) (by kernel_rfl) (by kernel_rfl) (fun _ _ _ h=>h) (Or.inr ⟨by kernel_rfl,rfl⟩) ?_;refine wpAny_take (i:=7) (v:=undef) rfl (by kernel_rfl) (by kernel_rfl) (by kernel_rfl) (fun _ _ _ h=>h) (Or.inr ⟨by kernel_rfl,rfl⟩) ?_;refine wpAny_take (i:=8) (v:=undef) rfl (by kernel_rfl) (by kernel_rfl) (by kernel_rfl) (fun _ _ _ h=>h) (Or.inr ⟨by kernel_rfl,rfl⟩) ?_;refine wpAny_take (i:=9) (v:=undef) rfl (by kernel_rfl) (by kernel_rfl) (by kernel_rfl) (fun _ _ _ h=>h) (Or.inr ⟨by kernel_rfl,rfl⟩) ?_
    refine wpAny_take (i:=10) (v:=undef) rfl (by kernel_rfl) (by kernel_rfl) (by kernel_rfl) (fun _ _ _ h=>h) (Or.inr ⟨by kernel_rfl,rfl⟩) ?_;refine wpAny_take (i:=11) (v:=undef) rfl (by kernel_rfl) (by kernel_rfl) (by kernel_rfl) (fun _ _ _ h=>h) (Or.inr ⟨by kernel_rfl,rfl⟩) ?_;refine wpAny_take (i:=12) (v:=undef) rfl (by kernel_rfl) (by kernel_rfl) (by kernel_rfl) (fun _ _ _ h=>h) (Or.inr ⟨by kernel_rfl,rfl⟩) ?_;refine wpAny_take (i:=13) (v:=undef) rfl (by kernel_rfl) (by kernel_rfl) (by kernel_rfl) (fun _ _ _ h=>h) (Or.inr ⟨by kernel_rfl,rfl⟩) ?_;refine wpAny_take (i:=14) (v:=.bool true) rfl (by kernel_rfl) (by kernel_rfl) (by kernel_rfl) (fun _ _ _ h=>h) (Or.inl ⟨by kernel_rfl,fun _=>by kernel_rfl⟩) ?_
    refine wpAny_done (by kernel_rfl) ?_ _;simp only [ni,mh,kT,kI,fu,fC,eX];go_wp2;go_ret;exact ⟨yg.no (fun hp=>HS.o (hp k hlt).1),ya HG.o (ya (yf (aH _ _ _)) hq)⟩
  ·go_wp2;go_ret;exact ⟨yg.yes fun i hi=>HA.o i hi (by omega),HG.o⟩
def yH (r:Lk.Rel):Prop:=((r.ah=1\/r.ah=2)/\1<=r.kind/\r.kind<=6)\/(r.ah=3/\r.kind=1)
def yl (r:Lk.Rel):Prop:=if r.kind=1\/r.kind=5 then -2048<=r.addend/\r.addend<=2047 else if r.kind=6 then r.addend=4\/r.addend=12 else r.addend=0
def jw (o:Lk.Obj) (r:Lk.Rel):Prop:=if r.kind=6 then r.sym=0 else 0<=r.sym/\r.sym < o.syms.length
def yr (r:Lk.Rel):Int:=if r.kind=4\/r.kind=5 then 2 else if r.kind=6 then r.addend / 4 else 1
def bY (r:Lk.Rel):Value:=.agg #[.int .i64 r.ah,.int .i64 r.off,.int .i64 r.kind,.int .i64 r.sym,.int .i64 r.addend]
theorem yC {r:Lk.Rel} (h:yl r):1<=yr r/\yr r<=3:=by
 unfold yl at h;unfold yr;split
 ·omega
 ·split
  ·rename_i h1 h2;rw [if_neg (by omega),if_pos h2] at h;omega
  ·omega
theorem yiy (r:Lk.Rel) (w:World) :
  Calls Tryz.prog 151 #[bY r] w fun e w'=>yg e (yH r)/\w.grownBy w' none:=by
 have G:=hid (fun o:Obj=>aH w o none);have HQ:=hid (show yH r↔((r.ah=1\/r.ah=2)/\1<=r.kind/\r.kind<=6)\/(r.ah=3/\r.kind=1) from Iff.rfl);unfold bY;generalize yH r=Q at *;obtain ⟨ah,off,kind,sym,addend⟩:=r;simp only at *;by_cases e1:ah=1
 ·subst e1;by_cases c1:1<=kind
  ·have d1:decide (1<=kind)=true:=by simpa using c1
   go_enter Tryz.func151,Tryz.ntmps151;go_wp2;go_ret;exact ⟨yg.of (by rw [HQ.o,decide_eq_true_iff]; simp; omega),G.o _⟩
  ·have d1:decide (1<=kind)=false:=by simp; omega
   go_enter Tryz.func151,Tryz.ntmps151;go_wp2;go_ret;exact ⟨yg.no (by rw [HQ.o]; omega),G.o _⟩
 have d1:(ah == 1)=false:=beq_eq_false_iff_ne.2 e1;by_cases e2:ah=2
 ·subst e2;clear e1;by_cases c1:1<=kind
  ·have d1:decide (1<=kind)=true:=by simpa using c1
   go_enter Tryz.func151,Tryz.ntmps151;go_wp2;go_ret;exact ⟨yg.of (by rw [HQ.o,decide_eq_true_iff]; simp; omega),G.o _⟩
  ·have d1:decide (1<=kind)=false:=by simp; omega
   go_enter Tryz.func151,Tryz.ntmps151;go_wp2;go_ret;exact ⟨yg.no (by rw [HQ.o]; omega),G.o _⟩
 have d2:(ah == 2)=false:=beq_eq_false_iff_ne.2 e2;by_cases e3:ah=3
 ·subst e3;clear e1 e2;go_enter Tryz.func151,Tryz.ntmps151;go_wp2;go_ret;exact ⟨yg.of (by rw [HQ.o,beq_iff_eq]; simp),G.o _⟩
 have d3:(ah == 3)=false:=beq_eq_false_iff_ne.2 e3;have E:=hid (⟨e1,e2,e3⟩:ah≠1/\ah≠2/\ah≠3);clear e1 e2 e3;go_enter Tryz.func151,Tryz.ntmps151;go_wp2;go_ret;exact ⟨yg.no (by rw [HQ.o]; have:=E.o; omega),G.o _⟩
theorem yhm (r:Lk.Rel) (w:World) :
  Calls Tryz.prog 152 #[bY r] w fun e w'=>yg e (yl r)/\w.grownBy w' none:=by
 have G:=hid (fun o:Obj=>aH w o none);have HQ:=hid (show yl r↔if r.kind=1\/r.kind=5 then -2048<=r.addend/\r.addend<=2047 else if r.kind=6 then r.addend=4\/r.addend=12 else r.addend=0 from Iff.rfl);unfold bY;generalize yl r=Q at *;obtain ⟨ah,off,kind,sym,addend⟩:=r;simp only at *;by_cases e1:kind=1\/kind=5
 ·have jW:=hid (show Q↔-2048<=addend/\addend<=2047 from by rw [HQ.o,if_pos e1]);clear HQ;by_cases c1:-2048<=addend
  ·have d1:decide (-2048<=addend)=true:=by simpa using c1
   rcases e1 with rfl | rfl
   all_goals
    go_enter Tryz.func152,Tryz.ntmps152;go_wp2;go_ret;exact ⟨yg.of (by rw [jW.o,decide_eq_true_iff]; omega),G.o _⟩
  ·have d1:decide (-2048<=addend)=false:=by simp; omega
   rcases e1 with rfl | rfl
   all_goals
    go_enter Tryz.func152,Tryz.ntmps152;go_wp2;go_ret;exact ⟨yg.no (by rw [jW.o]; omega),G.o _⟩
 by_cases e6:kind=6
 ·subst e6;have jW:=hid (show Q↔addend=4\/addend=12 from by rw [HQ.o,if_neg (by omega),if_pos rfl]);clear HQ e1;by_cases c1:addend=4
  ·subst c1;go_enter Tryz.func152,Tryz.ntmps152;go_wp2;go_ret;exact ⟨yg.yes (by rw [jW.o]; simp),G.o _⟩
  ·have d1:(addend == 4)=false:=beq_eq_false_iff_ne.2 c1;have C1:=hid c1;clear c1;go_enter Tryz.func152,Tryz.ntmps152;go_wp2;go_ret;exact ⟨yg.of (by rw [jW.o,beq_iff_eq]; have:=C1.o; omega),G.o _⟩
 ·have jW:=hid (show Q↔addend=0 from by rw [HQ.o,if_neg e1,if_neg e6]);have d1:(kind == 1)=false:=beq_eq_false_iff_ne.2 (by omega);have d5:(kind == 5)=false:=beq_eq_false_iff_ne.2 (by omega);have d6:(kind == 6)=false:=beq_eq_false_iff_ne.2 (by omega);clear HQ e1 e6;go_enter Tryz.func152,Tryz.ntmps152;go_wp2;go_ret;exact ⟨yg.of (by rw [jW.o,beq_iff_eq]),G.o _⟩
theorem Ko (r:Lk.Rel) (w:World) (h:r.kind=6->r.addend=4\/r.addend=12) :
  Calls Tryz.prog 129 #[bY r] w fun e w'=>e = .returned (.int .i64 (yr r))/\w.grownBy w' none:=by
 have G:=hid (fun o:Obj=>aH w o none);unfold bY yr;obtain ⟨ah,off,kind,sym,addend⟩:=r;simp only at *;by_cases e4:kind=4
 ·subst e4;go_enter Tryz.func129,Tryz.ntmps129;go_wp2;go_ret;exact ⟨by simp,G.o _⟩
 by_cases e5:kind=5
 ·subst e5;clear e4;go_enter Tryz.func129,Tryz.ntmps129;go_wp2;go_ret;exact ⟨by simp,G.o _⟩
 by_cases e6:kind=6
 ·subst e6;have ha:=h rfl;clear e4 e5 h;rcases ha with rfl | rfl
  all_goals
   go_enter Tryz.func129,Tryz.ntmps129;go_wp2;go_ret;exact ⟨by simp,G.o _⟩
 have d4:(kind == 4)=false:=beq_eq_false_iff_ne.2 e4;have d5:(kind == 5)=false:=beq_eq_false_iff_ne.2 e5;have d6:(kind == 6)=false:=beq_eq_false_iff_ne.2 e6;rw [if_neg (by omega),if_neg e6];clear e4 e5 e6 h;go_enter Tryz.func129,Tryz.ntmps129;go_wp2;go_ret;exact ⟨rfl,G.o _⟩
theorem yl.six {r:Lk.Rel} (h:yl r) (h6:r.kind=6):r.addend=4\/r.addend=12:=by
 unfold yl at h;rw [if_neg (by omega),if_pos h6] at h;exact h
theorem yjE (g:Nat) (o:Lk.Obj) (r:Lk.Rel) (w:World) (h:yq w g o) (hn:kV o) :
  Calls Tryz.prog 153 #[.pointer (some ⟨g,0,none⟩),bY r] w fun e w'=>yg e (jw o r)/\w.grownBy w' none:=by
 have G:=hid (fun o:Obj=>aH w o none);have HQ:=hid (show jw o r↔if r.kind=6 then r.sym=0 else 0<=r.sym/\r.sym < o.syms.length from Iff.rfl);obtain ⟨at_,ct,af,cf,ad,cd,aa,ca,gF,cs,ar,cr,hb,-⟩:=h.open;have k5:=fun ob:Obj=>(hb.grown (aH w ob none) (by simp)).cell 5
 have hns:=hn.2.2.2.2.1;clear h hb hn;unfold bY;generalize jw o r=Q at *;generalize o.syms.length=n at *;obtain ⟨ah,off,kind,sym,addend⟩:=r;simp only at *;have k5':=k5 (.cells #[.int .i64 ah,.int .i64 off,.int .i64 kind,.int .i64 sym,.int .i64 addend] 83);clear k5;by_cases e6:kind=6
 ·subst e6;have jW:=hid (show Q↔sym=0 from by rw [HQ.o,if_pos rfl]);clear HQ;go_enter Tryz.func153,Tryz.ntmps153;go_wp2;go_ret;exact ⟨yg.of (by rw [jW.o,beq_iff_eq]),G.o _⟩
 have jW:=hid (show Q↔0<=sym/\sym < n from by rw [HQ.o,if_neg e6]);have d6:(kind == 6)=false:=beq_eq_false_iff_ne.2 e6;clear HQ e6;by_cases c1:0<=sym
 ·have d1:decide (0<=sym)=true:=by simpa using c1
  go_enter Tryz.func153,Tryz.ntmps153;go_wp2
  go_quiet (fail)
  go_wp2;go_ret;exact ⟨yg.of (by rw [jW.o,decide_eq_true_iff]; omega),yd (G.o _) _⟩
 ·have d1:decide (0<=sym)=false:=by simp; omega
  go_enter Tryz.func153,Tryz.ntmps153;go_wp2
  go_quiet (fail)
  go_wp2;go_ret;exact ⟨yg.no (by rw [jW.o]; omega),yd (G.o _) _⟩
def yL (x:Int):Int:=if x=2 then 4 else if x=3 then 8 else 16
theorem Xm (g:Nat) (o:Lk.Obj) (ah:Nat) (w:World) (h:yq w g o) (hb4:oI o.align) (h1:1<=ah) (h3:ah<=3) :
  Calls Tryz.prog 78 #[.pointer (some ⟨g,0,none⟩),.int .i64 ah] w fun e w'=>e = .returned (.int .i64 (yL (o.align[ah - 1]'(by have:=hb4.1; omega))))/\w'=w:=by
 obtain ⟨at_,ct,af,cf,ad,cd,aa,ca,gF,cs,ar,cr,hb,-,-,-,q4,-⟩:=h.open;have hl:=hb4.1;have hr:=hb4.2 (ah - 1) (by omega);obtain ⟨ga,off,rfl,hc⟩:=ym.aB q4 (by omega);have hck:=hc (ah - 1) (by omega);have k4:=hb.cell 4;clear h hb hc q4;have g1:(1:Int)<=(ah:Int):=by omega
 have g2:(ah:Int)<=3:=by omega
 have HL:=hid hl;have hl4:4<=o.align.length:=by omega
 have hl5:o.align.length<=4:=by omega
 have hpf:ah - 1 < o.align.length:=by omega
 have hk:w.cell? ⟨ga,off+(ah - 1),none⟩=some (.int .i64 (o.align[ah - 1]'hpf)):=hck;clear hck;show Calls _ _ _ _ fun e w'=>e = .returned (.int .i64 (yL (o.align[ah - 1]'hpf)))/\w'=w
 replace hr:2<=o.align[ah - 1]'hpf/\o.align[ah - 1]'hpf<=4:=hr;generalize o.align[ah - 1]'hpf=x at *;generalize o.align.length=n at *;rcases (show x=2\/x=3\/x=4 from by omega) with rfl | rfl | rfl
 all_goals
  clear hr HL hb4;go_enter Tryz.func78,Tryz.ntmps78;go_wp2;go_ret;exact ⟨by simp [yL],rfl⟩
def oL (a r:Lk.Rel):Prop:=if r.ah=a.ah then a.off+4 * yr a<=r.off else a.ah < r.ah
theorem yjV (a r:Lk.Rel) (w:World) (h:yl a) (h0:0<=a.off) (h1:a.off<=1048576) :
  Calls Tryz.prog 141 #[bY a,bY r] w fun e w'=>yg e (oL a r)/\w.grownBy w' none:=by
 have hsp:=yC h;have cS:=hid (fun W=>Ko a W h.six);have HQ:=hid (show oL a r↔if r.ah=a.ah then a.off+4 * yr a<=r.off else a.ah < r.ah from Iff.rfl);have G1:=hid (fun o:Obj=>aH w o none);have G2:=hid (fun o o':Obj=>aH (w.alloc o) o' none);generalize oL a r=Q at *;generalize yr a=sp at *;obtain ⟨gF,ao,ak,ay,aa⟩:=a;obtain ⟨rs,ro,rk,ry,ra⟩:=r;unfold bY at *;simp only at *;clear h;by_cases e1:rs=gF
 ·subst e1;have jW:=hid (show Q↔ao+4 * sp<=ro from by rw [HQ.o,if_pos rfl]);clear HQ;have d1:(rs == rs)=true:=by simp
  go_enter Tryz.func141,Tryz.ntmps141;go_wp2;have B1:=(ye.new w #[.int .i64 rs,.int .i64 ao,.int .i64 ak,.int .i64 ay,.int .i64 aa] 83).grown (yf (aH _ (.cells #[.int .i64 rs,.int .i64 ro,.int .i64 rk,.int .i64 ry,.int .i64 ra] 83) none)) (by simp);have c0:=hid (B1.cell 0);have c1:=hid (B1.cell 1);have c2:=hid (B1.cell 2);have c3:=hid (B1.cell 3);have c4:=hid (B1.cell 4);have OT:(((w.alloc (.cells #[.int .i64 rs,.int .i64 ao,.int .i64 ak,.int .i64 ay,.int .i64 aa] 83)).alloc (.cells #[.int .i64 rs,.int .i64 ro,.int .i64 rk,.int .i64 ry,.int .i64 ra] 83)).drew).cell? ⟨w.heap.size+1,1,none⟩=some (.int .i64 ro):=by simp
  have c5:=hid OT;clear OT;clear B1
  go_region_held3 (fun w'=>w'.cell? ⟨w.heap.size,0,none⟩=some (.int .i64 rs)/\w'.cell? ⟨w.heap.size,1,none⟩=some (.int .i64 ao)/\w'.cell? ⟨w.heap.size,2,none⟩=some (.int .i64 ak)/\w'.cell? ⟨w.heap.size,3,none⟩=some (.int .i64 ay)/\w'.cell? ⟨w.heap.size,4,none⟩=some (.int .i64 aa)/\w'.cell? ⟨w.heap.size+1,1,none⟩=some (.int .i64 ro))
   (go_keep)
   (first | (go_at_call 129; refine (cS.o _).mono ?_; rintro e w' ⟨rfl,hq⟩; have s0:=yc c0.o hq; have s1:=yc c1.o hq; have s2:=yc c2.o hq; have s3:=yc c3.o hq; have s4:=yc c4.o hq; have s5:=yc c5.o hq))
  go_wp2;go_ret;exact ⟨yg.of (by rw [jW.o,decide_eq_true_iff,IntWalk.i64_in (4 * sp) ⟨by omega,by omega⟩,IntWalk.i64_in _ ⟨by omega,by omega⟩]),ya (ya (G1.o _) (yf (G2.o _ _))) hq⟩
 ·have jW:=hid (show Q↔gF < rs from by rw [HQ.o,if_neg e1]);have d1:(rs == gF)=false:=beq_eq_false_iff_ne.2 e1;clear HQ e1;go_enter Tryz.func141,Tryz.ntmps141;go_wp2;go_ret;exact ⟨yg.of (by rw [jW.o,decide_eq_true_iff]),ya (G1.o _) (G2.o _ _)⟩
def yA (o:Lk.Obj) (r:Lk.Rel):Prop:=0<=r.off/\r.off % 4=0/\r.off / 4+yr r<=(yh o r.ah).length
def yz (o:Lk.Obj) (r:Lk.Rel):List Int:=((yh o r.ah).drop (r.off / 4).toNat).take (yr r).toNat
theorem QB (g:Nat) (o:Lk.Obj) (r:Lk.Rel) (w:World) (h:yq w g o) (hn:kV o) (ha:yl r) (hab:yA o r) :
  Calls Tryz.prog 132 #[.pointer (some ⟨g,0,none⟩),bY r] w fun e w'=>∃ ao cap,e = .returned (.slice ao (yr r).toNat cap)/\ym w' ao (yz o r)/\w.grownBy w' none:=by
 obtain ⟨b1,b2,b3⟩:=hab;have hsp:=yC ha;have cS:=hid (fun W=>Ko r W ha.six);have cW:=hid (fun W (hW:yq W g o)=>Mi g o r.ah W hW);have hsm:=yE hn r.ah;have G:=hid (fun ob:Obj=>aH w ob none);have H:=hid h;unfold yz;clear h hn ha;generalize yr r=sp at *;obtain ⟨n,rfl⟩:=Int.eq_ofNat_of_zero_le (show 0<=sp from by omega);generalize yh o r.ah=ws at *;obtain ⟨ah,off,kind,sym,addend⟩:=r;unfold bY at *;simp only at *;obtain ⟨k,hk⟩:∃ k:Nat,off=4 * (k:Int):=⟨(off / 4).toNat,by omega⟩
 have e1:off / 4=(k:Int):=by omega
 have e2:(off / 4).toNat=k:=by omega
 rw [e2,Int.toNat_natCast];rw [e1] at b3;have NY:=hid e1;clear e1 e2;subst hk;clear b1 b2;have hkn:k+n<=ws.length:=by omega
 have hn1:1<=n:=by omega
 have hn3:n<=3:=by omega
 clear b3 hsp;go_enter Tryz.func132,Tryz.ntmps132;go_wp2_with fail;refine (cW.o _ (H.o.kept (G.o _))).mono ?_;rintro e w1 ⟨ao,cap,rfl,⟨hI,hc1,hc2⟩,hw1⟩;have B:=ye.new w #[.int .i64 ah,.int .i64 (4 * (k:Int)),.int .i64 kind,.int .i64 sym,.int .i64 addend] 83;have GG:=G.o (.cells #[.int .i64 ah,.int .i64 (4 * (k:Int)),.int .i64 kind,.int .i64 sym,.int .i64 addend] 83);rw [<- hw1] at hI B GG;clear hw1;unfold maxLen at hc2;obtain ⟨g',off',rfl,hcell⟩:=hI (by omega);have HI:=hid hcell;have k0:=B.cell 0;have k1:=B.cell 1;have k2:=B.cell 2;have k3:=B.cell 3;have k4:=B.cell 4;have HB:=hid B;have Du:=hid GG
 clear B GG hI hcell;go_wp2_with fail;refine (cS.o _).mono ?_;rintro e w2 ⟨rfl,hq⟩;have m1:=yc k1 hq;have HQ:=hid hq;clear k0 k1 k2 k3 k4 hq HB;go_wp2;go_ret;refine ⟨some ⟨g',off'+k,none⟩,cap - k,?_,?_,ya Du.o HQ.o⟩
 ·show Ending.returned (.slice (some ⟨g',off'+k,none⟩) (k+n - k) (cap - k))=_;rw [Nat.add_sub_cancel_left]
 ·intro _;refine ⟨g',off'+k,rfl,fun i hi=>?_⟩;have hi':k+i < ws.length:=by simp at hi; omega
  have:=yc (HI.o (k+i) hi') HQ.o
  rw [Nat.add_assoc,this];simp
theorem Wz (g:Nat) (o:Lk.Obj) (r:Lk.Rel) (w:World) (h:yq w g o) (hn:kV o) (ha:yl r) (hab:¬ yA o r) (hr:r.off<=9223372036854775807) :
  Calls Tryz.prog 132 #[.pointer (some ⟨g,0,none⟩),bY r] w fun e w'=>e = .returned (.slice none 0 0)/\w.grownBy w' none:=by
 have hsp:=yC ha;have cS:=hid (fun W=>Ko r W ha.six);have cW:=hid (fun W (hW:yq W g o)=>Mi g o r.ah W hW);have hsm:=yE hn r.ah;have G:=hid (fun ob:Obj=>aH w ob none);have H:=hid h;unfold yA at hab;clear h hn ha;generalize yr r=sp at *;generalize yh o r.ah=ws at *;obtain ⟨ah,off,kind,sym,addend⟩:=r;unfold bY at *;simp only at *;have D1:decide (sp < 1)=false:=by simp; omega
 go_enter Tryz.func132,Tryz.ntmps132;go_wp2_with fail;refine (cW.o _ (H.o.kept (G.o _))).mono ?_;rintro e w1 ⟨ao,cap,rfl,-,hw1⟩;have B:=ye.new w #[.int .i64 ah,.int .i64 off,.int .i64 kind,.int .i64 sym,.int .i64 addend] 83;have GG:=G.o (.cells #[.int .i64 ah,.int .i64 off,.int .i64 kind,.int .i64 sym,.int .i64 addend] 83);rw [<- hw1] at B GG;clear hw1;have k0:=B.cell 0;have k1:=B.cell 1;have k2:=B.cell 2;have k3:=B.cell 3;have k4:=B.cell 4;have Du:=hid GG;clear B GG;go_wp2_with fail;refine (cS.o _).mono ?_;rintro e w2 ⟨rfl,hq⟩;have m1:=yc k1 hq;have HQ:=hid hq;clear k0 k1 k2 k3 k4 hq;by_cases b1:off < 0
 ·have d1:decide (off < 0)=true:=by simpa using b1
  clear hab;go_wp2;go_ret;exact ⟨rfl,ya Du.o HQ.o⟩
 have b1':0<=off:=by omega
 have d1:decide (off < 0)=false:=by simp; omega
 by_cases b2:off % 4=0
 ·have d2:(off % 4 == 0)=true:=by simpa using b2
  have b3:(ws.length:Int) - sp < off / 4:=by omega
  clear hab b2;go_wp2;go_ret;exact ⟨rfl,ya Du.o HQ.o⟩
 ·have d2:(off % 4 == 0)=false:=by simpa using b2
  clear hab b2;go_wp2;go_ret;exact ⟨rfl,ya Du.o HQ.o⟩
def yQ (o:Lk.Obj) (r:Lk.Rel):Prop:=∃ i,∃ h:i < o.syms.length,o.syms[i].ah=r.ah/\r.off < o.syms[i].off/\o.syms[i].off < r.off+4 * yr r
theorem Wu (g:Nat) (o:Lk.Obj) (r:Lk.Rel) (w:World) (h:yq w g o) (hn:kV o) (ha:yl r) (h0:0<=r.off) (h1:r.off<=1048576) :
  Calls Tryz.prog 155 #[.pointer (some ⟨g,0,none⟩),bY r] w fun e w'=>yg e (yQ o r)/\w.grownBy w' none:=by
 have hsp:=yC ha;have cS:=hid (fun W=>Ko r W ha.six);obtain ⟨at_,ct,af,cf,ad,cd,aa,ca,gF,cs,ar,cr,hb,-,-,-,-,q5,-⟩:=h.open;have S:=hid (yI.aB q5);have HB:=hid hb;have hns:=hn.2.2.2.2.1;have G:=hid (fun ob:Obj=>aH w ob none);have HQ:=hid (show yQ o r↔∃ i,∃ h:i < o.syms.length,o.syms[i].ah=r.ah/\r.off < o.syms[i].off/\o.syms[i].off < r.off+4 * yr r from Iff.rfl);clear h hb hn ha q5;generalize yQ o r=Q at *;generalize yr r=sp at *;generalize o.syms=ys at *;obtain ⟨ah,off,kind,sym,addend⟩:=r;unfold bY at *;simp only at *;have B:=ye.new w #[.int .i64 ah,.int .i64 off,.int .i64 kind,.int .i64 sym,.int .i64 addend] 83
 have c0:=hid (show (w.alloc (.cells #[.int .i64 ah,.int .i64 off,.int .i64 kind,.int .i64 sym,.int .i64 addend] 83)).drew.cell? ⟨w.heap.size,0,none⟩=some (.int .i64 ah) from B.cell 0);have c1:=hid (show (w.alloc (.cells #[.int .i64 ah,.int .i64 off,.int .i64 kind,.int .i64 sym,.int .i64 addend] 83)).drew.cell? ⟨w.heap.size,1,none⟩=some (.int .i64 off) from B.cell 1);have c2:=hid (show (w.alloc (.cells #[.int .i64 ah,.int .i64 off,.int .i64 kind,.int .i64 sym,.int .i64 addend] 83)).drew.cell? ⟨w.heap.size,2,none⟩=some (.int .i64 kind) from B.cell 2);have c3:=hid (show (w.alloc (.cells #[.int .i64 ah,.int .i64 off,.int .i64 kind,.int .i64 sym,.int .i64 addend] 83)).drew.cell? ⟨w.heap.size,3,none⟩=some (.int .i64 sym) from B.cell 3)
 have c4:=hid (show (w.alloc (.cells #[.int .i64 ah,.int .i64 off,.int .i64 kind,.int .i64 sym,.int .i64 addend] 83)).drew.cell? ⟨w.heap.size,4,none⟩=some (.int .i64 addend) from B.cell 4);have mX:=hid B;clear B;have hw4:IntKind.i64.wrap (4 * sp)=4 * sp:=IntWalk.i64_in _ ⟨by omega,by omega⟩;have hw5:IntKind.i64.wrap (off+4 * sp)=off+4 * sp:=IntWalk.i64_in _ ⟨by omega,by omega⟩;go_enter Tryz.func155,Tryz.ntmps155;go_wp2
 go_region_held3 (fun w'=>w'.cell? ⟨w.heap.size,0,none⟩=some (.int .i64 ah)/\w'.cell? ⟨w.heap.size,1,none⟩=some (.int .i64 off)/\w'.cell? ⟨w.heap.size,2,none⟩=some (.int .i64 kind)/\w'.cell? ⟨w.heap.size,3,none⟩=some (.int .i64 sym)/\w'.cell? ⟨w.heap.size,4,none⟩=some (.int .i64 addend))
  (go_keep)
  (first | (go_at_call 129; refine (cS.o _).mono ?_; rintro e w' ⟨rfl,hq⟩; have s0:=yc c0.o hq; have s1:=yc c1.o hq; have s2:=yc c2.o hq; have s3:=yc c3.o hq; have s4:=yc c4.o hq))
 have GW:=hid (ya (yf (G.o (.cells #[.int .i64 ah,.int .i64 off,.int .i64 kind,.int .i64 sym,.int .i64 addend] 83))) hq);have k5:=(HB.o.grown GW.o (by simp)).cell 5;have HR:=hid (mX.o.grown (ya (yf (World.grownBy.refl _ _)) hq) (by simp));clear hq s0 s1 s2 s3 s4 hw4 hw5 c0 c1 c2 c3 c4;go_wp2
 go_loopw [19] (fun i wr=>∃ k:Nat,k<=ys.length/\i = .int .i64 k/\(∀ j (hj:j < ys.length),j < k->¬ (ys[j].ah=ah/\off < ys[j].off/\ys[j].off < off+4 * sp))/\w'.grownBy wr none) (fun i _=>ys.length - (intOf i).toNat)
 case atStart=>exact ⟨0,Nat.zero_le _,rfl,fun j _ hj=>absurd hj (Nat.not_lt_zero j),World.grownBy.refl _ _⟩
 case round =>
  obtain ⟨k,hk,rfl,hall,hgr⟩:=hrel;have HA:=hid hall;have HG:=hid hgr;clear hall hgr;by_cases hlt:k < ys.length
  ·obtain ⟨sg,hao,hgs,hc⟩:=(S.o.grown GW.o).grown HG.o (by omega);subst hao;obtain ⟨q0,q1,q2,q3⟩:=hc k hlt;have RB:=HR.o.grown HG.o (by simp);have hne:=RB.lt;have r0:=RB.cell 0;have r1:=RB.cell 1;have hnn:w.heap.size≠wr.heap.size:=by omega
   clear hc RB;have GA:=hid (fun ob:Obj=>aH wr ob none);by_cases e1:ys[k].ah=ah
   ·have d1:(ys[k].ah == ah)=true:=beq_iff_eq.2 e1;by_cases e2:off < ys[k].off
    ·have d2:decide (off < ys[k].off)=true:=by simpa using e2
     by_cases e3:ys[k].off < off+4 * sp
     ·have d3:decide (ys[k].off < off+4 * sp)=true:=by simpa using e3
      have N:=hid (show Q from HQ.o.2 ⟨k,hlt,e1,e2,e3⟩);clear e1;go_wp2;go_ret;exact ⟨yg.yes N.o,ya (ya GW.o HG.o) (GA.o _)⟩
     ·have d3:decide (ys[k].off < off+4 * sp)=false:=by simp; omega
      have N:=hid (show ¬ (ys[k].ah=ah/\off < ys[k].off/\ys[k].off < off+4 * sp) from fun h=>e3 h.2.2);clear e1 e3;go_wp2
      go_roundw
      case rel=>exact ⟨k+1,by omega,by go_num,fun j hj hjk=>(Nat.lt_succ_iff_lt_or_eq.1 hjk).elim (fun h=>HA.o j hj h) (fun h=>by subst h; exact N.o),ya HG.o (GA.o _)⟩
      case measure=>simp [intOf]; omega
    ·have d2:decide (off < ys[k].off)=false:=by simp; omega
     have N:=hid (show ¬ (ys[k].ah=ah/\off < ys[k].off/\ys[k].off < off+4 * sp) from fun h=>e2 h.2.1);clear e1 e2;go_wp2
     go_roundw
     case rel=>exact ⟨k+1,by omega,by go_num,fun j hj hjk=>(Nat.lt_succ_iff_lt_or_eq.1 hjk).elim (fun h=>HA.o j hj h) (fun h=>by subst h; exact N.o),ya HG.o (GA.o _)⟩
     case measure=>simp [intOf]; omega
   ·have d1:(ys[k].ah == ah)=false:=beq_eq_false_iff_ne.2 e1;have N:=hid (show ¬ (ys[k].ah=ah/\off < ys[k].off/\ys[k].off < off+4 * sp) from fun h=>e1 h.1);clear e1;go_wp2
    go_roundw
    case rel=>exact ⟨k+1,by omega,by go_num,fun j hj hjk=>(Nat.lt_succ_iff_lt_or_eq.1 hjk).elim (fun h=>HA.o j hj h) (fun h=>by subst h; exact N.o),ya HG.o (GA.o _)⟩
    case measure=>simp [intOf]; omega
  ·go_wp2;go_ret;exact ⟨yg.no (fun hq=>by obtain ⟨i,hi,hh⟩:=HQ.o.1 hq; exact HA.o i hi (by omega) hh),ya GW.o HG.o⟩
theorem QM (a b:Nat) (ha:a < 9223372036854775808) (hb:b < 9223372036854775808):bits .and .i64 (a:Int) (b:Int)=((a &&& b:Nat):Int):=by
 have hx:a &&& b < 2 ^ 63:=Nat.and_lt_two_pow _ (by omega);show IntKind.i64.wrap ((BitVec.ofInt 64 (a:Int) &&& BitVec.ofInt 64 (b:Int)).toNat:Int)=_;rw [BitVec.toNat_and,ofInt_u64 a (by omega),ofInt_u64 b (by omega)];exact IntWalk.i64_in _ ⟨by omega,by omega⟩
theorem vI (a b:Nat) (ha:a < 9223372036854775808) (hb:b < 9223372036854775808):bits .or .i64 (a:Int) (b:Int)=((a ||| b:Nat):Int):=by
 have hx:a ||| b < 2 ^ 63:=Nat.or_lt_two_pow (by omega) (by omega);show IntKind.i64.wrap ((BitVec.ofInt 64 (a:Int) ||| BitVec.ofInt 64 (b:Int)).toNat:Int)=_;rw [BitVec.toNat_or,ofInt_u64 a (by omega),ofInt_u64 b (by omega)];exact IntWalk.i64_in _ ⟨by omega,by omega⟩
theorem Sl (n:Int) (k:Nat) (hk:k<=40) (m:Int) (hm:m=(2:Int) ^ k - 1) (h0:0<=n) (h1:n<=4294967295):bits .and .i64 n m=n % (2:Int) ^ k:=by
 obtain ⟨a,rfl⟩:=Int.eq_ofNat_of_zero_le h0;have hp:0 < 2 ^ k:=Nat.two_pow_pos k;have hq:2 ^ k<=2 ^ 40:=Nat.pow_le_pow_right (by decide) hk;have e:m=((2 ^ k - 1:Nat):Int):=by
  rw [hm,Int.natCast_sub hp];simp
 rw [e,QM a _ (by omega) (by omega),Nat.and_two_pow_sub_one_eq_mod];simp
theorem or_zero (a b:Int) (ha:0<=a) (ha':a < 9223372036854775808) (hb:0<=b) (hb':b < 9223372036854775808):0<=bits .or .i64 a b/\(bits .or .i64 a b=0↔a=0/\b=0):=by
 obtain ⟨x,rfl⟩:=Int.eq_ofNat_of_zero_le ha;obtain ⟨y,rfl⟩:=Int.eq_ofNat_of_zero_le hb;rw [vI x y (by omega) (by omega)];refine ⟨by omega,?_⟩;constructor
 ·intro h;have h':x ||| y=0:=by omega
  have hx:x<=x ||| y:=Nat.left_le_or;have hy:y<=x ||| y:=Nat.right_le_or;omega
 ·rintro ⟨h1,h2⟩
  have:x=0:=by omega
  have:y=0:=by omega
  subst x y;simp
theorem Dc (a b:Int) (k:Nat) (hk:k<=60) (ha:0<=a) (ha':a < (2:Int) ^ k) (hb:0<=b) (hb':b < (2:Int) ^ k):bits .or .i64 a b < (2:Int) ^ k:=by
 obtain ⟨x,rfl⟩:=Int.eq_ofNat_of_zero_le ha;obtain ⟨y,rfl⟩:=Int.eq_ofNat_of_zero_le hb;have e:((2 ^ k:Nat):Int)=(2:Int) ^ k:=by simp
 rw [<- e] at ha' hb' ⊢;have hq:2 ^ k<=2 ^ 60:=Nat.pow_le_pow_right (by decide) hk
 have:=Nat.or_lt_two_pow (x:=x) (y:=y) (n:=k) (by omega) (by omega)
 rw [vI x y (by omega) (by omega)];omega
theorem Gh (a b:Nat) (k:Nat):a &&& (b <<< k)=((a >>> k) &&& b) <<< k:=by
 apply Nat.eq_of_testBit_eq;intro i;simp only [Nat.testBit_and,Nat.testBit_shiftLeft,Nat.testBit_shiftRight];by_cases h:k<=i
 ·simp [h]
 ·simp [h]
theorem Sw (a b k:Nat) (h:a < 2 ^ k):a ||| (b <<< k)=a+b * 2 ^ k:=by
 rw [Nat.or_comm,<- Nat.shiftLeft_add_eq_or_of_lt h,Nat.shiftLeft_eq];omega
theorem vS (n:Int) (h0:0<=n) (h1:n<=4294967295):bits .and .i64 n 28799=n % 128+4096 * (n / 4096 % 8):=by
 obtain ⟨a,rfl⟩:=Int.eq_ofNat_of_zero_le h0;have e:(28799:Int)=((127 ||| (7 <<< 12):Nat):Int):=by decide
 rw [e,QM a _ (by omega) (by decide),Nat.and_or_distrib_left,Gh];have e1:a &&& 127=a % 128:=Nat.and_two_pow_sub_one_eq_mod a 7;have e2:(a >>> 12) &&& 7=a / 4096 % 8:=by rw [Nat.shiftRight_eq_div_pow]; exact Nat.and_two_pow_sub_one_eq_mod _ 3
 rw [e1,e2,Sw _ _ 12 (by omega)];omega
theorem Fe (n:Int) (h0:0<=n) (h1:n<=4294967295):bits .and .i64 n 4261441663=n % 128+4096 * (n / 4096 % 8)+33554432 * (n / 33554432):=by
 obtain ⟨a,rfl⟩:=Int.eq_ofNat_of_zero_le h0;have e:(4261441663:Int)=(((127 ||| (7 <<< 12)) ||| (127 <<< 25):Nat):Int):=by decide
 rw [e,QM a _ (by omega) (by decide),Nat.and_or_distrib_left,Nat.and_or_distrib_left,Gh,Gh];have e1:a &&& 127=a % 128:=Nat.and_two_pow_sub_one_eq_mod a 7;have e2:(a >>> 12) &&& 7=a / 4096 % 8:=by rw [Nat.shiftRight_eq_div_pow]; exact Nat.and_two_pow_sub_one_eq_mod _ 3
 have e3:(a >>> 25) &&& 127=a / 33554432 % 128:=by rw [Nat.shiftRight_eq_div_pow]; exact Nat.and_two_pow_sub_one_eq_mod _ 7
 rw [e1,e2,e3,Sw _ _ 12 (by omega),Sw _ _ 25 (by omega)];omega
theorem SK (n:Int) (h0:0<=n) (h1:n<=4294967295):bits .and .i64 n 127=n % 128:=Sl n 7 (by decide) 127 rfl h0 h1
theorem ypN (n:Int) (h0:0<=n) (h1:n<=4294967295):bits .and .i64 n 4294967295=n:=by
 rw [Sl n 32 (by decide) 4294967295 rfl h0 h1];simp only [Int.reducePow];omega
def xq (e:Ending) (P:Prop):Prop:=∃ v,e = .returned (.int .i64 v)/\(v=0↔P)
theorem xq.of {P:Prop} {v:Int} (h:v=0↔P):xq (.returned (.int .i64 v)) P:=⟨v,rfl,h⟩
def yk (form n:Int):Prop :=
 if form=1\/form=2 then n / 4096=0 else if form=3 then n / 1048576=0 else if form=4\/form=5 then n / 33554432=0/\n / 128 % 32=0 else True
theorem low (n:Int) (k:Nat) (hk:k<=32) (m d:Int) (hm:m=(2:Int) ^ k - 1) (hd:d=(2:Int) ^ k) (h0:0<=n) (h1:n<=4294967295):bits .and .i64 n m=n % d:=by
 rw [hd]; exact Sl n k (by omega) m hm h0 h1
theorem yoC (n:Int) (h0:0<=n) (h1:n<=4294967295):bits .and .i64 (n / 4096) 1048575=0↔yk 1 n:=by
 rw [low (n / 4096) 20 (by decide) 1048575 1048576 rfl rfl (by omega) (by omega)];unfold yk;rw [if_pos (.inl rfl)];omega
def t2 (n:Int):Int:=bits .or .i64 (bits .or .i64 (bits .or .i64 (wrap64 (bits .and .i64 (n / 2147483648) 1 * 1048576)) (wrap64 (bits .and .i64 (n / 4096) 255 * 4096))) (wrap64 (bits .and .i64 (n / 1048576) 1 * 2048))) (wrap64 (bits .and .i64 (n / 2097152) 1023 * 2))
theorem Za (n:Int) (h0:0<=n) (h1:n<=4294967295):0<=t2 n/\t2 n < 2097152/\(t2 n=0↔yk 2 n):=by
 unfold t2;rw [low (n / 2147483648) 1 (by decide) 1 2 rfl rfl (by omega) (by omega),low (n / 4096) 8 (by decide) 255 256 rfl rfl (by omega) (by omega),low (n / 1048576) 1 (by decide) 1 2 rfl rfl (by omega) (by omega),low (n / 2097152) 10 (by decide) 1023 1024 rfl rfl (by omega) (by omega)];rw [IntWalk.wrap64_in (n / 2147483648 % 2 * 1048576) ⟨by omega,by omega⟩,IntWalk.wrap64_in (n / 4096 % 256 * 4096) ⟨by omega,by omega⟩,IntWalk.wrap64_in (n / 1048576 % 2 * 2048) ⟨by omega,by omega⟩,IntWalk.wrap64_in (n / 2097152 % 1024 * 2) ⟨by omega,by omega⟩];have a1:=or_zero (n / 2147483648 % 2 * 1048576) (n / 4096 % 256 * 4096) (by omega) (by omega) (by omega) (by omega)
 have l1:=Dc (n / 2147483648 % 2 * 1048576) (n / 4096 % 256 * 4096) 21 (by decide) (by omega) (by simp only [Int.reducePow]; omega) (by omega) (by simp only [Int.reducePow]; omega);generalize bits .or .i64 (n / 2147483648 % 2 * 1048576) (n / 4096 % 256 * 4096)=x1 at *;simp only [Int.reducePow] at l1;have a2:=or_zero x1 (n / 1048576 % 2 * 2048) (by omega) (by omega) (by omega) (by omega);have l2:=Dc x1 (n / 1048576 % 2 * 2048) 21 (by decide) (by omega) (by simp only [Int.reducePow]; omega) (by omega) (by simp only [Int.reducePow]; omega);generalize bits .or .i64 x1 (n / 1048576 % 2 * 2048)=x2 at *
 simp only [Int.reducePow] at l2;have a3:=or_zero x2 (n / 2097152 % 1024 * 2) (by omega) (by omega) (by omega) (by omega);have l3:=Dc x2 (n / 2097152 % 1024 * 2) 21 (by decide) (by omega) (by simp only [Int.reducePow]; omega) (by omega) (by simp only [Int.reducePow]; omega);simp only [Int.reducePow] at l3;refine ⟨a3.1,l3,?_⟩;rw [a3.2,a2.2,a1.2];unfold yk;rw [if_pos (.inr rfl)];omega
def t3 (n:Int):Int:=bits .and .i64 (n / 1048576) 4095
theorem Zb (n:Int) (h0:0<=n) (h1:n<=4294967295):0<=t3 n/\t3 n < 4096/\(t3 n=0↔yk 3 n):=by
 unfold t3;rw [low (n / 1048576) 12 (by decide) 4095 4096 rfl rfl (by omega) (by omega)];unfold yk;rw [if_neg (by decide),if_pos rfl];omega
def t4 (n:Int):Int:=bits .or .i64 (bits .or .i64 (bits .or .i64 (wrap64 (bits .and .i64 (n / 2147483648) 1 * 4096)) (wrap64 (bits .and .i64 (n / 128) 1 * 2048))) (wrap64 (bits .and .i64 (n / 33554432) 63 * 32))) (wrap64 (bits .and .i64 (n / 256) 15 * 2))
theorem Zc (n:Int) (h0:0<=n) (h1:n<=4294967295):0<=t4 n/\t4 n < 8192/\(t4 n=0↔yk 4 n):=by
 unfold t4;rw [low (n / 2147483648) 1 (by decide) 1 2 rfl rfl (by omega) (by omega),low (n / 128) 1 (by decide) 1 2 rfl rfl (by omega) (by omega),low (n / 33554432) 6 (by decide) 63 64 rfl rfl (by omega) (by omega),low (n / 256) 4 (by decide) 15 16 rfl rfl (by omega) (by omega)];rw [IntWalk.wrap64_in (n / 2147483648 % 2 * 4096) ⟨by omega,by omega⟩,IntWalk.wrap64_in (n / 128 % 2 * 2048) ⟨by omega,by omega⟩,IntWalk.wrap64_in (n / 33554432 % 64 * 32) ⟨by omega,by omega⟩,IntWalk.wrap64_in (n / 256 % 16 * 2) ⟨by omega,by omega⟩];have a1:=or_zero (n / 2147483648 % 2 * 4096) (n / 128 % 2 * 2048) (by omega) (by omega) (by omega) (by omega)
 have l1:=Dc (n / 2147483648 % 2 * 4096) (n / 128 % 2 * 2048) 13 (by decide) (by omega) (by simp only [Int.reducePow]; omega) (by omega) (by simp only [Int.reducePow]; omega);generalize bits .or .i64 (n / 2147483648 % 2 * 4096) (n / 128 % 2 * 2048)=x1 at *;simp only [Int.reducePow] at l1;have a2:=or_zero x1 (n / 33554432 % 64 * 32) (by omega) (by omega) (by omega) (by omega);have l2:=Dc x1 (n / 33554432 % 64 * 32) 13 (by decide) (by omega) (by simp only [Int.reducePow]; omega) (by omega) (by simp only [Int.reducePow]; omega);generalize bits .or .i64 x1 (n / 33554432 % 64 * 32)=x2 at *;simp only [Int.reducePow] at l2
 have a3:=or_zero x2 (n / 256 % 16 * 2) (by omega) (by omega) (by omega) (by omega);have l3:=Dc x2 (n / 256 % 16 * 2) 13 (by decide) (by omega) (by simp only [Int.reducePow]; omega) (by omega) (by simp only [Int.reducePow]; omega);simp only [Int.reducePow] at l3;refine ⟨a3.1,l3,?_⟩;rw [a3.2,a2.2,a1.2];unfold yk;rw [if_neg (by decide),if_neg (by decide),if_pos (.inl rfl)];omega
def t5 (n:Int):Int:=bits .or .i64 (wrap64 (bits .and .i64 (n / 33554432) 127 * 32)) (bits .and .i64 (n / 128) 31)
theorem Zd (n:Int) (h0:0<=n) (h1:n<=4294967295):0<=t5 n/\t5 n < 4096/\(t5 n=0↔yk 5 n):=by
 unfold t5;rw [low (n / 33554432) 7 (by decide) 127 128 rfl rfl (by omega) (by omega),low (n / 128) 5 (by decide) 31 32 rfl rfl (by omega) (by omega)];rw [IntWalk.wrap64_in (n / 33554432 % 128 * 32) ⟨by omega,by omega⟩];have a1:=or_zero (n / 33554432 % 128 * 32) (n / 128 % 32) (by omega) (by omega) (by omega) (by omega);have l1:=Dc (n / 33554432 % 128 * 32) (n / 128 % 32) 12 (by decide) (by omega) (by simp only [Int.reducePow]; omega) (by omega) (by simp only [Int.reducePow]; omega);simp only [Int.reducePow] at l1;refine ⟨a1.1,l1,?_⟩;rw [a1.2];unfold yk;rw [if_neg (by decide),if_neg (by decide),if_pos (.inr rfl)]
 omega
theorem MH (t d:Int) (P:Prop) (_h0:0<=t) (h1:t < d) (hd:d<=4294967296) (h:t=0↔P) (hge:1<=t):wrap64 (t - d)=0↔P:=by
 rw [IntWalk.wrap64_in _ ⟨by omega,by omega⟩,<- h];omega
theorem yhO (form n:Int) (w:World) (h0:0<=n) (h1:n<=4294967295) :
  Calls Tryz.prog 156 #[.int .i64 form,.int .i64 n] w fun e w'=>xq e (yk form n)/\w'=w:=by
 by_cases e1:form=1
 ·subst e1;go_enter Tryz.func156,Tryz.ntmps156;go_wp2;go_ret;exact ⟨xq.of (yoC n h0 h1),rfl⟩
 by_cases e2:form=2
 ·subst e2;have T:=hid (Za n h0 h1);clear e1;go_enter Tryz.func156,Tryz.ntmps156;go_wp2
  ·go_ret;exact ⟨xq.of T.o.2.2,rfl⟩
  ·rename_i hx;go_ret;refine ⟨xq.of (MH (t2 n) 2097152 _ T.o.1 T.o.2.1 (by decide) T.o.2.2 ?_),rfl⟩
   have:(1048576:Int)<=t2 n:=by assumption
   omega
 by_cases e3:form=3
 ·subst e3;have T:=hid (Zb n h0 h1);clear e1 e2;go_enter Tryz.func156,Tryz.ntmps156;go_wp2
  ·go_ret;exact ⟨xq.of T.o.2.2,rfl⟩
  ·go_ret;refine ⟨xq.of (MH (t3 n) 4096 _ T.o.1 T.o.2.1 (by decide) T.o.2.2 ?_),rfl⟩
   have:(2048:Int)<=t3 n:=by assumption
   omega
 by_cases e4:form=4
 ·subst e4;have T:=hid (Zc n h0 h1);clear e1 e2 e3;go_enter Tryz.func156,Tryz.ntmps156;go_wp2
  ·go_ret;exact ⟨xq.of T.o.2.2,rfl⟩
  ·go_ret;refine ⟨xq.of (MH (t4 n) 8192 _ T.o.1 T.o.2.1 (by decide) T.o.2.2 ?_),rfl⟩
   have:(4096:Int)<=t4 n:=by assumption
   omega
 by_cases e5:form=5
 ·subst e5;have T:=hid (Zd n h0 h1);clear e1 e2 e3 e4;go_enter Tryz.func156,Tryz.ntmps156;go_wp2
  ·go_ret;exact ⟨xq.of T.o.2.2,rfl⟩
  ·go_ret;refine ⟨xq.of (MH (t5 n) 4096 _ T.o.1 T.o.2.1 (by decide) T.o.2.2 ?_),rfl⟩
   have:(2048:Int)<=t5 n:=by assumption
   omega
 have T:=hid (show yk form n from by unfold yk; rw [if_neg (by omega),if_neg e3,if_neg (by omega)]; trivial);have d1:(form == 1)=false:=beq_eq_false_iff_ne.2 e1;have d2:(form == 2)=false:=beq_eq_false_iff_ne.2 e2;have d3:(form == 3)=false:=beq_eq_false_iff_ne.2 e3;have d4:(form == 4)=false:=beq_eq_false_iff_ne.2 e4;have d5:(form == 5)=false:=beq_eq_false_iff_ne.2 e5;clear e1 e2 e3 e4 e5;go_enter Tryz.func156,Tryz.ntmps156;go_wp2;go_ret;exact ⟨xq.of ⟨fun _=>T.o,fun _=>rfl⟩,rfl⟩
end Go.Proofs.YtelehpmjhjljgaaGreatDoor
