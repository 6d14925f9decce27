
import Derived.Test.YtnkkepfcpjllmaaGreatDoorU28
import Derived.Lib.AppendStr
import Derived.Test.YtnkkepfcpjllmaaGreatDoorCards
import Derived.Test.YtnkkepfcpjllmaaGreatDoorTie
set_option maxHeartbeats 16000000
set_option maxRecDepth 100000
namespace Go.Proofs.YtnkkepfcpjllmaaGreatDoor
open Go.RowKit
def p9 (o:Lk.Obj) (n:Nat):List Int:=if n=3 then List.replicate o.bss.toNat 0 else ym o ((n:Int)+1)
theorem tV.all {W:World} {B:Nat} {o:Lk.Obj} {at_:Option Addr} {ct:Nat} {af:Option Addr} {cf:Nat} {ad:Option Addr} {cd:Nat} {Z:Nat} (h:tV W B o at_ ct af cf ad cd Z) (n:Nat) (hn:n<=3) :
  ∃ ao cap,W.cell? ⟨B,n+1,none⟩=some (.slice ao (p9 o n).length cap)/\yn W ao (p9 o n):=by
 rcases (show n=0\/n=1\/n=2\/n=3 from by omega) with rfl | rfl | rfl | rfl
 ·exact ⟨_,_,h.blk.cell 1,h.text⟩
 ·exact ⟨_,_,h.blk.cell 2,h.far⟩
 ·exact ⟨_,_,h.blk.cell 3,h.data⟩
 ·have e:p9 o 3=List.replicate o.bss.toNat 0:=rfl;rw [e,List.length_replicate];exact ⟨_,_,h.blk.cell 4,h.zero⟩
theorem ygL {o:Lk.Obj} (h:tN o) (n:Nat) (hn:n<=3):mO (p9 o n):=by
 rcases (show n=0\/n=1\/n=2\/n=3 from by omega) with rfl | rfl | rfl | rfl
 ·exact h.1
 ·exact h.2.1
 ·exact h.2.2
 ·intro i hi;have e:p9 o 3=List.replicate o.bss.toNat 0:=rfl;simp [e]
theorem yhI {o:Lk.Obj} (h:∀ n,n < 4->mO (p9 o n)):tN o:=⟨h 0 (by omega),h 1 (by omega),h 2 (by omega)⟩
theorem yiK {o:Lk.Obj} (h:ou o) (hz:o.bss<=64) (n:Nat):(p9 o n).length<=65535:=by
 unfold p9;split
 ·simp; omega
 ·exact yB h _
theorem yhk (g:Nat) (o:Lk.Obj) (w:World) (h:yw w g o) (hn:zC o) :
  Calls Tryz.prog 8 #[.pointer (some ⟨g,0,none⟩)] w fun e w'=>ye e (zl o)/\w.grownBy w' none:=by
 obtain ⟨at_,ct,af,cf,ad,cd,aa,ca,gu,cs,ar,cr,hb,h1,h2,h3,h4,h5,h6⟩:=h.open;have HB:=hid hb;have HO:=hid h;have HN:=hid hn;have Vf:=hid (yn.aF h4);obtain ⟨n1,n2,n3,n4,n5,n6⟩:=hn.1;have k0:=hb.cell 0;have k1:=hb.cell 1;have k2:=hb.cell 2;have k3:=hb.cell 3;have k4:=hb.cell 4;have k5:=hb.cell 5;have k6:=hb.cell 6;have HQ:=hid (show zl o↔Jp o/\rD o.align/\tN o/\KV o/\KU o from Iff.rfl);have HZ:=hid (show Jp o↔(o.text.length<=1200/\o.far.length<=1200/\o.data.length<=64)/\(0<=o.bss/\o.bss<=64)/\o.syms.length<=16/\o.aj.length<=32 from Iff.rfl);generalize zl o=Q at *;have no:Hd (∀ W,(¬ Q)->w.grownBy W none->ye (.returned (.bool false)) Q/\w.grownBy W none):=fun W a b=>⟨ye.no a,b⟩
 have RF:=hid (World.grownBy.refl w none);clear h hn hb h1 h2 h3 h4 h5 h6;go_enter Tryz.func8,Tryz.ntmps8;by_cases c:1200 < o.text.length
 ·have d:decide (1200 < (o.text.length:Int))=true:=by simp; omega
  go_wp2;go_ret;exact no.o _ (fun hq=>by have:=HZ.o.1 (HQ.o.1 hq).1; omega) RF.o
 have d0:decide (1200 < (o.text.length:Int))=false:=by simp; omega
 have c0:¬ (1200 < o.text.length):=c;clear c;by_cases c:1200 < o.far.length
 ·have d:decide (1200 < (o.far.length:Int))=true:=by simp; omega
  go_wp2;go_ret;exact no.o _ (fun hq=>by have:=HZ.o.1 (HQ.o.1 hq).1; omega) RF.o
 have d1:decide (1200 < (o.far.length:Int))=false:=by simp; omega
 have c1:¬ (1200 < o.far.length):=c;clear c;by_cases c:64 < o.data.length
 ·have d:decide (64 < (o.data.length:Int))=true:=by simp; omega
  go_wp2;go_ret;exact no.o _ (fun hq=>by have:=HZ.o.1 (HQ.o.1 hq).1; omega) RF.o
 have d2:decide (64 < (o.data.length:Int))=false:=by simp; omega
 have c2:¬ (64 < o.data.length):=c;clear c;by_cases c:o.bss < 0
 ·have d:decide (o.bss < 0)=true:=by simp; omega
  go_wp2;go_ret;exact no.o _ (fun hq=>by have:=HZ.o.1 (HQ.o.1 hq).1; omega) RF.o
 have d3:decide (o.bss < 0)=false:=by simp; omega
 have c3:¬ (o.bss < 0):=c;clear c;by_cases c:64 < o.bss
 ·have d:decide (64 < o.bss)=true:=by simp; omega
  go_wp2;go_ret;exact no.o _ (fun hq=>by have:=HZ.o.1 (HQ.o.1 hq).1; omega) RF.o
 have d4:decide (64 < o.bss)=false:=by simp; omega
 have c4:¬ (64 < o.bss):=c;clear c;by_cases c:o.align.length=4
 rotate_left
 ·have d:((o.align.length:Int) == 4)=false:=by rw [beq_eq_false_iff_ne]; omega
  have d':((o.align.length:Int) != 4)=true:=by simp only [bne,d,Bool.not_false]
  have CC:=hid c;clear c;go_wp2;go_ret;exact no.o _ (fun hq=>CC.o (HQ.o.1 hq).2.1.1) RF.o
 have d5:((o.align.length:Int) == 4)=true:=by rw [beq_iff_eq]; omega
 have d5':((o.align.length:Int) != 4)=false:=by simp only [bne,d5,Bool.not_true]
 have C4:=hid c;clear c;by_cases c:16 < o.syms.length
 ·have d:decide (16 < (o.syms.length:Int))=true:=by simp; omega
  go_wp2;go_ret;exact no.o _ (fun hq=>by have:=HZ.o.1 (HQ.o.1 hq).1; omega) RF.o
 have d6:decide (16 < (o.syms.length:Int))=false:=by simp; omega
 have c6:¬ (16 < o.syms.length):=c;clear c;by_cases c:32 < o.aj.length
 ·have d:decide (32 < (o.aj.length:Int))=true:=by simp; omega
  go_wp2;go_ret;exact no.o _ (fun hq=>by have:=HZ.o.1 (HQ.o.1 hq).1; omega) RF.o
 have d7:decide (32 < (o.aj.length:Int))=false:=by simp; omega
 have c7:¬ (32 < o.aj.length):=c;clear c;have SZ:=hid (HZ.o.2 ⟨⟨by omega,by omega,by omega⟩,⟨by omega,by omega⟩,by omega,by omega⟩);have cS:=hid (yhC g o w HO.o ⟨by omega,by omega⟩);go_wp2_with fail;refine cS.o.mono ?_;rintro e w1 ⟨B,sat,sct,saf,scf,sad,scd,Z,rfl,zP,hq1⟩;have HS:=hid zP;have G1:=hid hq1;have A1:=hid (Vf.o.kept (fun a v hv=>yb hv hq1));have b4:=yb k4 hq1;have b5:=yb k5 hq1;have b6:=yb k6 hq1;clear zP hq1 k0 k1 k2 k3 k4 k5 k6 cS Vf;have Za:=hid (fun n=>yiK HN.o.1 (show o.bss<=64 from by omega) n);clear n1 n2 n3 n4;go_wp2
 go_loop [4] (fun i=>∃ n:Nat,n<=4/\i = .int .i64 ((n:Int)+1)/\(∀ j (hj:j < o.align.length),j < n->2<=o.align[j]/\o.align[j]<=4)/\∀ j,j < n->mO (p9 o j)) (fun i=>5 - (intOf i).toNat)
 case atStart=>exact ⟨0,Nat.zero_le _,rfl,fun j _ hj=>absurd hj (Nat.not_lt_zero j),fun j hj=>absurd hj (Nat.not_lt_zero j)⟩
 case round =>
  obtain ⟨n,Na,rfl,hal,hwo⟩:=hrel;have gB:=hid hal;have Vm:=hid hwo;clear hal hwo;by_cases hlt:n < 4
  ·have hlt':(n:Int)+1 < 5:=by omega
   have hln:n < o.align.length:=by have:=C4.o; omega
   have hli:(n:Int) < (o.align.length:Int):=by omega
   obtain ⟨ga,uw,uh,hca⟩:=A1.o (by omega);subst uh;have ca:=hca n hln;clear hca;have qV:=hid (show rD o.align->2<=o.align[n]/\o.align[n]<=4 from fun h=>h.2 n hln);have YH:=hid (show 2<=o.align[n]/\o.align[n]<=4->∀ j (hj:j < o.align.length),j < n+1->2<=o.align[j]/\o.align[j]<=4 from fun h j hj hjk=>(Nat.lt_succ_iff_lt_or_eq.1 hjk).elim (fun h=>gB.o j hj h) (fun e=>by subst e; exact h));generalize o.align[n]=av at *;by_cases c:av < 2
   ·have d:decide (av < 2)=true:=by simp; omega
    go_wp2;go_ret;exact no.o _ (fun hq=>by have:=qV.o (HQ.o.1 hq).2.1; omega) G1.o
   have e1:decide (av < 2)=false:=by simp; omega
   by_cases cc:4 < av
   ·have d:decide (4 < av)=true:=by simp; omega
    go_wp2;go_ret;exact no.o _ (fun hq=>by have:=qV.o (HQ.o.1 hq).2.1; omega) G1.o
   have e2:decide (4 < av)=false:=by simp; omega
   have Qw:=hid (YH.o ⟨by omega,by omega⟩);clear c cc;obtain ⟨Jd,aZ,s1,s2⟩:=HS.o.all n (by omega);have HS2:=hid s2;have Vn:=hid (show tN o->mO (p9 o n) from fun h=>ygL h n (by omega));have YZ:=hid (show mO (p9 o n)->∀ j,j < n+1->mO (p9 o j) from fun h j hjk=>(Nat.lt_succ_iff_lt_or_eq.1 hjk).elim (fun h=>Vm.o j h) (fun e=>by subst e; exact h));have hsz:=Za.o n;clear s2;generalize p9 o n=ws at *;go_wp2
   go_loop [5] (fun i=>∃ a:Nat,a<=ws.length/\i = .int .i64 a/\∀ j (hj:j < ws.length),j < a->0<=ws[j]/\ws[j]<=4294967295) (fun i=>ws.length - (intOf i).toNat)
   case atStart=>exact ⟨0,Nat.zero_le _,rfl,fun j _ hj=>absurd hj (Nat.not_lt_zero j)⟩
   case round =>
    obtain ⟨a,ha,rfl,hall⟩:=hrel;have Dz:=hid hall;clear hall;by_cases hla:a < ws.length
    ·have Zu:(a:Int) < (ws.length:Int):=by omega
     obtain ⟨gs,uy,hss,hcs⟩:=HS2.o (by omega);subst hss;have cw:=hcs a hla;clear hcs;have HX:=hid (show mO ws->0<=ws[a]/\ws[a]<=4294967295 from fun h=>h a hla);have HY:=hid (show 0<=ws[a]/\ws[a]<=4294967295->∀ j (hj:j < ws.length),j < a+1->0<=ws[j]/\ws[j]<=4294967295 from fun h j hj hjk=>(Nat.lt_succ_iff_lt_or_eq.1 hjk).elim (fun h=>Dz.o j hj h) (fun e=>by subst e; exact h));generalize ws[a]=x at *;by_cases c:x < 0
     ·have d:decide (x < 0)=true:=by simp; omega
      go_wp2;go_ret;exact no.o _ (fun hq=>by have:=HX.o (Vn.o (HQ.o.1 hq).2.2.1); omega) G1.o
     have f1:decide (x < 0)=false:=by simp; omega
     by_cases cc:4294967296<=x
     ·have d:decide (4294967296<=x)=true:=by simp; omega
      go_wp2;go_ret;exact no.o _ (fun hq=>by have:=HX.o (Vn.o (HQ.o.1 hq).2.2.1); omega) G1.o
     have f2:decide (4294967296<=x)=false:=by simp; omega
     have Y4:=hid (HY.o ⟨by omega,by omega⟩);clear c cc;go_wp2
     go_round
     case rel=>exact ⟨a+1,by omega,by go_num,Y4.o⟩
     case measure=>simp [intOf]; omega
    ·have O7:=hid (YZ.o (fun j hj=>Dz.o j hj (by omega)));go_wp2
     go_round
     case rel=>exact ⟨n+1,by omega,by go_num,Qw.o,O7.o⟩
     case measure=>simp [intOf]; omega
  ·have oG:=hid (show rD o.align from ⟨C4.o,fun i hi=>gB.o i hi (by have:=C4.o; omega)⟩);have O7:=hid (yhI (fun j hj=>Vm.o j (by omega)));have hge:¬ ((n:Int)+1 < 5):=by omega
   clear hlt;go_wp2
   go_loopw [6] (fun i wr=>∃ k:Nat,k<=o.syms.length/\i = .int .i64 k/\(∀ j (hj:j < o.syms.length),j < k->OV o j hj)/\w1.grownBy wr none) (fun i _=>o.syms.length - (intOf i).toNat)
   case atStart=>exact ⟨0,Nat.zero_le _,rfl,fun j _ hj=>absurd hj (Nat.not_lt_zero j),World.grownBy.refl _ _⟩
   case round =>
    obtain ⟨k,hk,rfl,hall,hgr⟩:=hrel;have Dz:=hid hall;have HG:=hid (ya G1.o hgr);have Qz:=hid hgr;have b5:=yb b5 hgr;have b6:=yb b6 hgr;clear hall hgr;by_cases hlt:k < o.syms.length
    ·have hlt':(k:Int) < (o.syms.length:Int):=by omega
     have cI:=hid (yhl g B k o _ _ _ _ _ _ _ wr (HO.o.kept HG.o) (HS.o.grown Qz.o) HN.o.1 SZ.o.2.1 HN.o.2.1 hlt);go_wp2_with fail;refine cI.o.mono ?_;rintro e w2 ⟨t,q2⟩;have Q2:=hid (ya HG.o q2);have Q3:=hid (ya Qz.o q2);rcases t.split with ⟨rfl,p1⟩ | ⟨rfl,p1⟩ <;> clear t cI q2
     ·have CC:=hid (show ¬ KV o from fun h=>p1.o (h k hlt));clear p1;go_wp2;go_ret;exact no.o _ (fun hq=>CC.o (HQ.o.1 hq).2.2.2.1) Q2.o
     ·have HY:=hid (show ∀ j (hj:j < o.syms.length),j < k+1->OV o j hj from fun j hj hjk=>(Nat.lt_succ_iff_lt_or_eq.1 hjk).elim (fun h=>Dz.o j hj h) (fun e=>by subst e; exact p1.o));clear p1;go_wp2
      go_roundw
      case rel=>exact ⟨k+1,by omega,by go_num,HY.o,Q3.o⟩
      case measure=>simp [intOf]; omega
    ·have pI:=hid (show KV o from fun i hi=>Dz.o i hi (by omega));have Zq:¬ ((k:Int) < (o.syms.length:Int)):=by omega
     obtain ⟨wo,hwo⟩:∃ wo:World,wo=wr:=⟨_,rfl⟩
     subst hwo;clear hlt;go_wp2
     go_loopw [8] (fun i wr=>∃ k:Nat,k<=o.aj.length/\i = .int .i64 k/\(∀ j (hj:j < o.aj.length),j < k->nD o j hj)/\wo.grownBy wr none) (fun i _=>o.aj.length - (intOf i).toNat)
     case atStart=>exact ⟨0,Nat.zero_le _,rfl,fun j _ hj=>absurd hj (Nat.not_lt_zero j),World.grownBy.refl _ _⟩
     case round =>
      obtain ⟨m,hm,rfl,hall,hgr⟩:=hrel;have Ju:=hid hall;have HH:=hid (ya HG.o hgr);have YN:=hid (ya Qz.o hgr);have YM:=hid hgr;have b6:=yb b6 hgr;clear hall hgr;by_cases hlt:m < o.aj.length
      ·have hlt':(m:Int) < (o.aj.length:Int):=by omega
       have cI:=hid (yhQ m g B o _ _ _ _ _ _ _ wr (HO.o.kept HH.o) (HS.o.grown YN.o) HN.o.1 oG.o O7.o HN.o.2.2 hlt (fun j hj hjm=>(Ju.o j hj (by omega)).1));go_wp2_with fail;refine cI.o.mono ?_;rintro e w2 ⟨t,q2⟩;have Q2:=hid (ya HH.o q2);have Q3:=hid (ya YM.o q2);rcases t.split with ⟨rfl,p1⟩ | ⟨rfl,p1⟩ <;> clear t cI q2
       ·have CC:=hid (show ¬ KU o from fun h=>p1.o (h m hlt));clear p1;go_wp2;go_ret;exact no.o _ (fun hq=>CC.o (HQ.o.1 hq).2.2.2.2) Q2.o
       ·have HY:=hid (show ∀ j (hj:j < o.aj.length),j < m+1->nD o j hj from fun j hj hjk=>(Nat.lt_succ_iff_lt_or_eq.1 hjk).elim (fun h=>Ju.o j hj h) (fun e=>by subst e; exact p1.o));clear p1;go_wp2
        go_roundw
        case rel=>exact ⟨m+1,by omega,by go_num,HY.o,Q3.o⟩
        case measure=>simp [intOf]; omega
      ·have YV:=hid (show KU o from fun i hi=>Ju.o i hi (by omega));have Zr:¬ ((m:Int) < (o.aj.length:Int)):=by omega
       clear hlt;go_wp2;go_ret;exact ⟨ye.yes (HQ.o.2 ⟨SZ.o,oG.o,O7.o,pI.o,YV.o⟩),HH.o⟩
theorem ylM (W:World) (x:Int):(convert 76 9 (.slice (some ⟨W.heap.size,0,none⟩) 1 1)).run Tryz.prog (W.alloc (.cells #[.int .u8 x] 5)) = .ok (.string (strOfNums [x])) (W.alloc (.cells #[.int .u8 x] 5)) :=
 run_convert_bytes_arg (P:=Tryz.prog) _ 76 5 Tryz.underlying76 Tryz.underlying5 W.heap.size 0 1 1 [x] rfl (fun i hi=>by
  have e:i=0:=by omega
  subst e;exact (yd.new W #[.int .u8 x] 5).cell 0) 9 Tryz.underlying9
theorem ykJ (v:Int) (k:Nat):Lk.le v (k+1)=Lk.le v k ++ [UInt8.ofNat (v / (256:Int) ^ k % 256).toNat]:=by
 induction k generalizing v with
 | zero=>simp [Lk.le]
 | succ k ih =>
  have h:=ih (v / 256);have e:v / 256 / (256:Int) ^ k=v / (256:Int) ^ (k+1):=by
   rw [Int.ediv_ediv_of_nonneg (by decide),Int.pow_succ,Int.mul_comm]
  rw [e] at h;show UInt8.ofNat (v % 256).toNat :: Lk.le (v / 256) (k+1)=(UInt8.ofNat (v % 256).toNat :: Lk.le (v / 256) k) ++ _;rw [h];rfl
theorem uO (a b:List UInt8):bs a ++ bs b=bs (a ++ b):=by
 apply ByteArray.ext;simp [bs]
theorem Qn (v x:Int) (k:Nat) (hx:x=v / (256:Int) ^ k % 256):bs (Lk.le v k) ++ strOfNums [x]=bs (Lk.le v (k+1)):=by
 subst hx;rw [ykJ,<- uO];rfl
theorem ylE (v:Int) (n:Nat) (w:World) (hn:n<=4) :
  Calls Tryz.prog 13 #[.int .i64 v,.int .i64 n] w fun e w'=>e = .returned (.string (bs (Lk.le v n)))/\w.grownBy w' none:=by
 have hcv:=ylM;go_enter Tryz.func13,Tryz.ntmps13;go_wp2
 go_loopw [5,6] (fun t i wr=>∃ k:Nat,k<=n/\i = .int .i64 k/\t = .string (bs (Lk.le v k))/\w.grownBy wr none) (fun _ i _=>n - (intOf i).toNat)
 case atStart=>exact ⟨0,Nat.zero_le _,rfl,rfl,World.grownBy.refl _ _⟩
 case round =>
  obtain ⟨k,hk,rfl,rfl,hgr⟩:=hrel;have HG:=hid hgr;clear hgr;by_cases hlt:k < n
  ·rcases (show k=0\/k=1\/k=2\/k=3 from by omega) with rfl | rfl | rfl | rfl
   ·have HS:=hid (Qn v (v % 256) 0 (by simp));go_wp2
    go_roundw
    case rel=>exact ⟨1,by omega,rfl,by rw [<- HS.o],ya HG.o (aW _ _ _)⟩
    case measure=>simp [intOf]; omega
   ·have HS:=hid (Qn v (v / 256 % 256) 1 (by simp));go_wp2
    go_roundw
    case rel=>exact ⟨2,by omega,rfl,by rw [<- HS.o],ya HG.o (aW _ _ _)⟩
    case measure=>simp [intOf]; omega
   ·have HS:=hid (Qn v (v / 65536 % 256) 2 (by simp));go_wp2
    go_roundw
    case rel=>exact ⟨3,by omega,rfl,by rw [<- HS.o],ya HG.o (aW _ _ _)⟩
    case measure=>simp [intOf]; omega
   ·have HS:=hid (Qn v (v / 16777216 % 256) 3 (by simp));go_wp2
    go_roundw
    case rel=>exact ⟨4,by omega,rfl,by rw [<- HS.o],ya HG.o (aW _ _ _)⟩
    case measure=>simp [intOf]; omega
  ·have e:k=n:=by omega
   subst e;go_wp2;go_ret;exact ⟨rfl,HG.o⟩
theorem yjs (l:List UInt8):Lib.strCells (bs l)=uT l:=by
 simp [Lib.strCells,uT,bs]
theorem yit (a b:List UInt8):uT (a ++ b)=uT a ++ uT b:=by simp [uT]
theorem zm (v:Int) (n:Nat) (mn:Int) (hmn:mn=(n:Int)) (w:World) (hn:n<=4) :
  Calls Tryz.prog 13 #[.int .i64 v,.int .i64 mn] w fun e w'=>e = .returned (.string (bs (Lk.le v n)))/\w.grownBy w' none:=by
 subst hmn; exact ylE v n w hn
theorem Uu (ao:Option Addr) (cap:Nat) (xs:List Int) (w:World) (hI:yn w ao xs) (hn:xs.length<=65535) :
  Calls Tryz.prog 14 #[.slice ao xs.length cap] w fun e w'=>e = .returned (.string (bs (Lk.nums xs 4)))/\w.grownBy w' none:=by
 obtain ⟨i0,hi,hz0,hz1,hz2⟩:=info_parts Tryz.zQ;have HI:=hid hI;clear hI;go_enter Tryz.func14,Tryz.ntmps14;go_wp2
 go_loopw [3,4] (fun v i wr=>∃ k:Nat,k<=xs.length/\i = .int .i64 k/\(∃ acc:List UInt8,acc=Lk.nums (xs.take k) 4/\wr.ownsRow w.heap.size 5 1 v acc.length (uT acc))/\w.grownBy wr none) (fun _ i _=>xs.length - (intOf i).toNat)
 case atStart=>exact ⟨0,Nat.zero_le _,rfl,⟨[],by simp [Lk.nums],World.ownsRow_nil _ _ _ _⟩,World.grownBy.refl _ _⟩
 case round =>
  obtain ⟨k,hk,rfl,hacc,hgr⟩:=hrel;have HG:=hid hgr;have HC:=hid hacc;clear hgr hacc;by_cases hlt:k < xs.length
  ·obtain ⟨acc,hae,hown⟩:=HC.o;obtain ⟨g,off,hao,hc⟩:=(HI.o.kept (fun a v hv=>yb hv HG.o)) (by omega)
   subst hao;have hck:=hc k hlt;have cL:=hid (fun W=>zm xs[k] 4 4 rfl W (by omega));have hal:acc.length<=262140:=by rw [hae,FU,List.length_take_of_le (by omega)]; omega
   have AJ:=hid hae;clear hc hae HC;go_wp2_with fail;refine (cL.o _).mono ?_;rintro e w2 ⟨rfl,hq⟩;have G2:=hid (ya HG.o hq);have hown2:=hown.kept hq (by cases Value.ownBlock _ <;> simp);have hsz:=(ya HG.o hq).size;have hbl:(bs (Lk.le xs[k] 4)).size=4:=by rw [zw,Lk.bn]
   have YI:=hid hbl;have hb2:(bs (Lk.le xs[k] 4)).size<=4:=by omega
   clear hown hq hbl;go_wp2_with (at_builtin; refine Lib.wpList_append_own_string _ rfl _ _ 76 9 rfl w.heap.size 5 i0 Tryz.underlying76 Tryz.underlying9 hi hz0 hz1 hz2 _ acc.length (uT acc) rfl hown2 (bs (Lk.le xs[k] 4)) rfl (by unfold maxLen; omega) (by omega) (by omega) ?_; intro v' w3 hown' hgrow _)
   rw [yjs,YI.o] at hown';have G3:=hid (show w.grownBy w3 none from ⟨hgrow.os.trans G2.o.os,hgrow.tape.trans G2.o.tape,hgrow.output.trans G2.o.output,Nat.le_trans G2.o.size hgrow.size,fun i hi' _ =>
    (hgrow.block i (by omega) (fun e=>by have:=(hown2.lt i e.symm).1; omega)).trans (G2.o.block i hi' (by simp))⟩)
   have HOW:=hid hown';clear hgrow hown2 hown';go_wp2
   go_roundw
   case rel =>
    refine ⟨k+1,by omega,by go_num,⟨acc ++ Lk.le xs[k] 4,?_,?_⟩,G3.o⟩
    ·rw [AJ.o,Uw xs k 4 hlt]
    ·rw [iA,Lk.bn,yit]; exact HOW.o
   case measure=>simp [intOf]; omega
  ·obtain ⟨acc,hae,hown⟩:=HC.o;rw [List.take_of_length_le (show xs.length<=k by omega)] at hae;subst hae;obtain ⟨eP,cap',hv⟩:=yi hown;subst hv;have hr:=WL hown;clear HC;go_wp2;go_ret;exact ⟨rfl,HG.o⟩
theorem yjd (b:List UInt8):(⟨#[76,75]⟩:ByteArray) ++ bs b=bs ([76,75] ++ b):=uO [76,75] b
theorem ykl (y:Lk.Sym) (h:y.name.length<=255):(Lk.lJ y).length<=260:=by
 simp only [Lk.lJ,iA,Lk.bn];omega
theorem zu (v:Int) (n:Nat) (hn:n<=4):(bs (Lk.le v n)).size<=4:=by rw [zw,Lk.bn]; exact hn
theorem IG (l:List UInt8) (k:Nat) (h:l.length<=k):(bs l).size<=k:=by rw [zw]; exact h
theorem yiV (g:Nat) (o:Lk.Obj) (w:World) (h:yw w g o) (hn:ou o) (ha:o.align.length=4) (hz:o.syms.length<=16/\o.aj.length<=32) (hl:∀ y∈o.syms,y.name.length<=255) :
  Calls Tryz.prog 7 #[.pointer (some ⟨g,0,none⟩)] w fun e w'=>e = .returned (.string (bs (Lk.uq o)))/\w.grownBy w' none:=by
 obtain ⟨at_,ct,af,cf,ad,cd,aa,ca,gu,cs,ar,cr,hb,h1,h2,h3,h4,h5,h6⟩:=h.open;have HB:=hid hb;have I1:=hid (yn.aF h1);have I2:=hid (yn.aF h2);have I3:=hid (yn.aF h3);have I4:=hid (yn.aF h4);have I5:=hid (nS.aF h5);have I6:=hid (wK.aF h6);have k0:=hb.cell 0;obtain ⟨m1,m2,m3,m4,m5,m6⟩:=hn;have HA:=hid ha;have HL:=hid hl;have ha4:4<=o.align.length:=by omega
 have ha5:o.align.length<=4:=by omega
 clear h hb h1 h2 h3 h4 h5 h6 hl ha;have z1:=zu o.text.length 2 (by decide);have z2:=zu o.far.length 2 (by decide);have z3:=zu o.data.length 2 (by decide);have z4:=zu o.bss 2 (by decide);go_enter Tryz.func7,Tryz.ntmps7;go_wp2_with fail;refine (zm (o.text.length:Int) 2 2 rfl w (by omega)).mono ?_;rintro e w1 ⟨rfl,q1⟩;have k1:=(HB.o.grown q1 (by simp)).cell 1;have Q1:=hid q1;clear q1 k0;go_wp2_with fail;refine (zm (o.far.length:Int) 2 2 rfl w1 (by omega)).mono ?_;rintro e w2 ⟨rfl,q2⟩;have Q2:=hid (ya Q1.o q2);have k2:=(HB.o.grown Q2.o (by simp)).cell 2;clear q2 k1 Q1;go_wp2_with fail;refine (zm (o.data.length:Int) 2 2 rfl w2 (by omega)).mono ?_
 rintro e w3 ⟨rfl,q3⟩;have Q3:=hid (ya Q2.o q3);have k3:=(HB.o.grown Q3.o (by simp)).cell 3;clear q3 k2 Q2;go_wp2_with fail;refine (zm o.bss 2 2 rfl w3 (by omega)).mono ?_;rintro e w4 ⟨rfl,q4⟩;have Q4:=hid (ya Q3.o q4);clear q4 k3 Q3;go_wp2;obtain ⟨p1,hp1⟩:∃ p1,p1=[76,75] ++ (Lk.le o.text.length 2 ++ (Lk.le o.far.length 2 ++ (Lk.le o.data.length 2 ++ Lk.le o.bss 2))):=⟨_,rfl⟩
 have Vh:=hid hp1;have hl1:p1.length<=10:=by rw [hp1]; simp [Lk.bn]
 clear hp1
 go_loopw [3,8] (fun t i wr=>∃ n:Nat,n<=4/\i = .int .i64 n/\(∃ acc:List UInt8,t = .string (bs acc)/\acc=p1 ++ Lk.nums (o.align.take n) 1)/\w.grownBy wr none) (fun _ i _=>4 - (intOf i).toNat)
 case atStart =>
  refine ⟨0,Nat.zero_le _,rfl,⟨p1,?_,by simp [Lk.nums]⟩,Q4.o⟩;rw [Vh.o,yjd,uO,uO,uO];simp
 case round =>
  obtain ⟨n,Na,rfl,hacc,hgr⟩:=hrel;obtain ⟨acc,hte,hae⟩:=hacc;subst hte;have HG:=hid hgr;have AJ:=hid hae;clear hgr hae;have B:=HB.o.grown HG.o (by simp);by_cases hlt:n < 4
  ·obtain ⟨ga,off,hao,hc⟩:=(I4.o.kept (fun a v hv=>yb hv HG.o)) (by omega)
   subst hao;have hck:=hc n (by omega);have k4:=B.cell 4;have hlt2:n < o.align.length:=by omega
   have g1:(n:Int) < 4:=by omega
   have g2:(n:Int) < (o.align.length:Int):=by omega
   have cL:=hid (fun W=>zm (o.align[n]'hlt2) 1 1 rfl W (by omega));clear hc B;go_wp2_with fail;refine (cL.o _).mono ?_;rintro e w5 ⟨rfl,q5⟩;have Q5:=hid (ya HG.o q5);clear q5;have y1:=IG acc 14 (by rw [AJ.o,iA,FU,List.length_take]; omega);have y2:=zu (o.align[n]'hlt2) 1 (by decide);go_wp2
   go_roundw
   case rel=>exact ⟨n+1,by omega,by go_num,⟨acc ++ Lk.le (o.align[n]'hlt2) 1,by rw [<- uO],by rw [AJ.o,Uw o.align n 1 hlt2,List.append_assoc]⟩,Q5.o⟩
   case measure=>simp [intOf]; omega
  ·have hae:=AJ.o;rw [List.take_of_length_le (show o.align.length<=n by omega)] at hae;have YP:=hid hae;have hl2:acc.length<=14:=by rw [hae,iA,FU]; omega
   have k5:=B.cell 5;have g1:(4:Int)<=(n:Int):=by omega
   clear hae AJ B;go_wp2_with fail;refine (zm (o.syms.length:Int) 1 1 rfl wr (by omega)).mono ?_;rintro e w6 ⟨rfl,q6⟩;have Q6:=hid (ya HG.o q6);have k6:=(HB.o.grown Q6.o (by simp)).cell 6;clear q6 k5;go_wp2_with fail;refine (zm (o.aj.length:Int) 1 1 rfl w6 (by omega)).mono ?_;rintro e w7 ⟨rfl,q7⟩;have Q7:=hid (ya Q6.o q7);clear q7 k6;have y1:=IG acc 14 hl2;have y2:=zu o.syms.length 1 (by decide);have y3:=zu o.aj.length 1 (by decide);go_wp2;obtain ⟨p3,hp3⟩:∃ p3,p3=acc ++ (Lk.le o.syms.length 1 ++ Lk.le o.aj.length 1):=⟨_,rfl⟩
   have Vi:=hid hp3;have hl3:p3.length<=16:=by rw [hp3,iA,iA,Lk.bn,Lk.bn]; omega
   clear hp3
   go_loopw [3,9] (fun t i wr=>∃ n:Nat,n<=o.syms.length/\i = .int .i64 n/\(∃ acc:List UInt8,t = .string (bs acc)/\acc=p3 ++ (o.syms.take n).flatMap Lk.lJ)/\w.grownBy wr none) (fun _ i _=>o.syms.length - (intOf i).toNat)
   case atStart =>
    refine ⟨0,Nat.zero_le _,rfl,⟨p3,?_,by simp⟩,Q7.o⟩;rw [Vi.o,uO,uO];simp
   case round =>
    obtain ⟨n,Na,rfl,hacc,hgr⟩:=hrel;obtain ⟨acc,hte,hae⟩:=hacc;subst hte;have HG:=hid hgr;have AJ:=hid hae;have hla:acc.length<=4176:=by
     have:=P8 Lk.lJ 260 n o.syms (fun y hy=>ykl y (HL.o y hy))
     rw [hae,iA];omega
    clear hgr hae;have B:=HB.o.grown HG.o (by simp);have kk:=B.cell 5;by_cases hlt:n < o.syms.length
    ·obtain ⟨sg,hao,hgs,hc⟩:=(I5.o.grown HG.o) (by omega)
     subst hao;obtain ⟨q0,q1,q2,q3⟩:=hc n hlt;have S0:=hid (yd.new wr #[.string (bs o.syms[n].name),.int .i64 o.syms[n].bind,.int .i64 o.syms[n].ah,.int .i64 o.syms[n].off] 50);have G0:=hid (ya HG.o (aW wr (.cells #[.string (bs o.syms[n].name),.int .i64 o.syms[n].bind,.int .i64 o.syms[n].ah,.int .i64 o.syms[n].off] 50) none));clear hc B;go_wp2_with fail;refine (zm ((bs o.syms[n].name).size:Int) 1 1 rfl (wr.alloc (.cells #[.string (bs o.syms[n].name),.int .i64 o.syms[n].bind,.int .i64 o.syms[n].ah,.int .i64 o.syms[n].off] 50)) (by omega)).mono ?_;rintro e v1 ⟨rfl,r1⟩;have S1:=hid (S0.o.grown r1 (by simp))
     have G1:=hid (ya G0.o r1);clear r1;have c11:=S1.o.cell 1;go_wp2_with fail;refine (zm o.syms[n].bind 1 1 rfl v1 (by omega)).mono ?_;rintro e v2 ⟨rfl,r2⟩;have S2:=hid (S1.o.grown r2 (by simp));have G2:=hid (ya G1.o r2);clear r2;have c22:=S2.o.cell 2;go_wp2_with fail;refine (zm o.syms[n].ah 1 1 rfl v2 (by omega)).mono ?_;rintro e v3 ⟨rfl,r3⟩;have S3:=hid (S2.o.grown r3 (by simp));have G3:=hid (ya G2.o r3);clear r3;have Gb:=S3.o.cell 3;go_wp2_with fail;refine (zm o.syms[n].off 2 2 rfl v3 (by omega)).mono ?_;rintro e v4 ⟨rfl,r4⟩;have S4:=hid (S3.o.grown r4 (by simp));have G4:=hid (ya G3.o r4);clear r4
     have c40:=S4.o.cell 0;have x0:=IG acc 4176 hla;have x1:=zu ((bs o.syms[n].name).size:Int) 1 (by decide);have x2:=zu o.syms[n].bind 1 (by decide);have x3:=zu o.syms[n].ah 1 (by decide);have x4:=zu o.syms[n].off 2 (by decide);have xn:=IG o.syms[n].name 255 (HL.o _ (lM hlt));have YW:=hid (zw o.syms[n].name);go_wp2
     go_roundw
     case rel =>
      refine ⟨n+1,by omega,by go_num,⟨acc ++ Lk.lJ o.syms[n],?_,by rw [AJ.o,Qi Lk.lJ o.syms n hlt,List.append_assoc]⟩,G4.o⟩;rw [uO,uO,uO,uO,uO,YW.o];simp [Lk.lJ]
     case measure=>simp [intOf]; omega
    ·have hae:=AJ.o;rw [List.take_of_length_le (show o.syms.length<=n by omega)] at hae;have YQ:=hid hae;clear hae AJ;have B2:=HB.o.grown HG.o (by simp);go_wp2;obtain ⟨p4,Rz⟩:∃ p4,p4=acc:=⟨_,rfl⟩
     have Vj:=hid Rz;have hl4:p4.length<=4176:=by rw [Rz]; exact hla
     clear Rz
     go_loopw [3,11] (fun t i wr=>∃ n:Nat,n<=o.aj.length/\i = .int .i64 n/\(∃ acc:List UInt8,t = .string (bs acc)/\acc=p4 ++ (o.aj.take n).flatMap Lk.mI)/\w.grownBy wr none) (fun _ i _=>o.aj.length - (intOf i).toNat)
     case atStart =>
      exact ⟨0,Nat.zero_le _,rfl,⟨p4,by rw [Vj.o],by simp⟩,HG.o⟩
     case round =>
      obtain ⟨n,Na,rfl,hacc,hgr⟩:=hrel;obtain ⟨acc,hte,hae⟩:=hacc;subst hte;have HG:=hid hgr;have AJ:=hid hae;have hla:acc.length<=4400:=by
       have:=P8 Lk.mI 7 n o.aj (fun y hy=>UL y)
       rw [hae,iA];omega
      clear hgr hae;have B:=HB.o.grown HG.o (by simp);have kk:=B.cell 6;by_cases hlt:n < o.aj.length
      ·obtain ⟨sg,hao,hgs,hc⟩:=(I6.o.grown HG.o) (by omega)
       subst hao;obtain ⟨q0,q1,q2,q3,q4⟩:=hc n hlt;have S0:=hid (yd.new wr #[.int .i64 o.aj[n].ah,.int .i64 o.aj[n].off,.int .i64 o.aj[n].kind,.int .i64 o.aj[n].sym,.int .i64 o.aj[n].addend] 54);have G0:=hid (ya HG.o (aW wr (.cells #[.int .i64 o.aj[n].ah,.int .i64 o.aj[n].off,.int .i64 o.aj[n].kind,.int .i64 o.aj[n].sym,.int .i64 o.aj[n].addend] 54) none));clear hc B;have x0:=IG acc 4400 hla;have x1:=zu o.aj[n].ah 1 (by decide);have x2:=zu o.aj[n].kind 1 (by decide);have x3:=zu o.aj[n].off 2 (by decide);have x4:=zu o.aj[n].sym 1 (by decide);have x5:=zu o.aj[n].addend 2 (by decide);go_wp2_with fail
       refine (zm o.aj[n].ah 1 1 rfl (wr.alloc (.cells #[.int .i64 o.aj[n].ah,.int .i64 o.aj[n].off,.int .i64 o.aj[n].kind,.int .i64 o.aj[n].sym,.int .i64 o.aj[n].addend] 54)) (by omega)).mono ?_;rintro e v1 ⟨rfl,r1⟩;have S1:=hid (S0.o.grown r1 (by simp));have G1:=hid (ya G0.o r1);clear r1;have c12:=S1.o.cell 2;go_wp2_with fail;refine (zm o.aj[n].kind 1 1 rfl v1 (by omega)).mono ?_;rintro e v2 ⟨rfl,r2⟩;have S2:=hid (S1.o.grown r2 (by simp));have G2:=hid (ya G1.o r2);clear r2;have c21:=S2.o.cell 1;go_wp2_with fail;refine (zm o.aj[n].off 2 2 rfl v2 (by omega)).mono ?_;rintro e v3 ⟨rfl,r3⟩;have S3:=hid (S2.o.grown r3 (by simp))
       have G3:=hid (ya G2.o r3);clear r3;have Gb:=S3.o.cell 3;go_wp2_with fail;refine (zm o.aj[n].sym 1 1 rfl v3 (by omega)).mono ?_;rintro e v4 ⟨rfl,r4⟩;have S4:=hid (S3.o.grown r4 (by simp));have G4:=hid (ya G3.o r4);clear r4;have c44:=S4.o.cell 4;go_wp2_with fail;refine (zm o.aj[n].addend 2 2 rfl v4 (by omega)).mono ?_;rintro e v5 ⟨rfl,r5⟩;have S5:=hid (S4.o.grown r5 (by simp));have G5:=hid (ya G4.o r5);clear r5;go_wp2
       go_roundw
       case rel =>
        refine ⟨n+1,by omega,by go_num,⟨acc ++ Lk.mI o.aj[n],?_,by rw [AJ.o,Qi Lk.mI o.aj n hlt,List.append_assoc]⟩,G5.o⟩;rw [uO,uO,uO,uO,uO];simp [Lk.mI]
       case measure=>simp [intOf]; omega
      ·have hae:=AJ.o;rw [List.take_of_length_le (show o.aj.length<=n by omega)] at hae;have YR:=hid hae;clear hae AJ;have kA:=(HB.o.grown HG.o (by simp)).cell 0;go_wp2_with fail;refine (Uu at_ ct o.text wr (I1.o.kept (fun a v hv=>yb hv HG.o)) (by omega)).mono ?_;rintro e u1 ⟨rfl,r1⟩;have F1:=hid (ya HG.o r1);have kA1:=(HB.o.grown F1.o (by simp)).cell 1;clear r1;go_wp2_with fail;refine (Uu af cf o.far u1 (I2.o.kept (fun a v hv=>yb hv F1.o)) (by omega)).mono ?_;rintro e u2 ⟨rfl,r2⟩;have F2:=hid (ya F1.o r2);have kA2:=(HB.o.grown F2.o (by simp)).cell 2;clear r2;go_wp2_with fail;refine (Uu ad cd o.data u2 (I3.o.kept (fun a v hv=>yb hv F2.o)) (by omega)).mono ?_
       rintro e u3 ⟨rfl,r3⟩;have F3:=hid (ya F2.o r3);clear r3;have x0:=IG acc 4400 (by omega);have x1:=IG (Lk.nums o.text 4) 262140 (by rw [FU]; omega);have x2:=IG (Lk.nums o.far 4) 262140 (by rw [FU]; omega);have x3:=IG (Lk.nums o.data 4) 262140 (by rw [FU]; omega);go_wp2;go_ret;refine ⟨ykP ?_,F3.o⟩;rw [uO,uO,uO]
       congr 1
       rw [YR.o,Vj.o,YQ.o,Vi.o,YP.o,Vh.o];simp [Lk.uq]
theorem ykO (s:List UInt8) (h:(Rf.bV s).1.1=0):Rf.Cu (Rf.eD s (s.length+1) 0 Rf.gQ).obj=(As.assemble s).2:=by
 have h1:=(Rf.nH s).1;rw [h] at h1;by_cases c:1000 < s.length
 ·unfold Rf.bV at h;rw [if_pos c] at h
  cases h
 ·obtain ⟨r1,r2,r3⟩:=Rf.uZ s (s.length+1) 0 Rf.gQ As.start ⟨rfl,rfl,rfl,rfl,rfl,by decide,by decide,by decide,rfl⟩ rfl (Nat.zero_le _) As.tF;have hd:(Rf.eD s (s.length+1) 0 Rf.gQ).fe=0:=by
   unfold Rf.bV at h;rw [if_neg c] at h;exact h
  have e:=r3 hd;have iv:=(As.Bl s (s.length+1) As.start As.Bo).iv (r1.trans hd);have e2:(As.assemble s).2=As.finish (As.lines s (s.length+1) As.start).obj:=by unfold As.assemble; rw [if_neg c]
  rw [e2,e];rw [e] at iv;unfold Rf.Cu As.finish;rw [Rf.vK _ (fun r hr=>by
   have k:=(iv.aj r hr).kind;unfold yC at k;omega)]
theorem yiN {o:Lk.Obj} (h:zl o):zC o:=Xx (Xd h)
theorem yfo (s:ByteArray) (w:World) (ht:gD w) (hN:pQ w) (hB:3<=w.heap.size) :
  Calls Tryz.prog 4 #[.string s] w fun e w'=>(∃ v,e = .returned (.tuple #[v,.bool true]))/\w.grownBy w' none:=by
 have cA:=hid (yfg s w ht hN hB);have HT:=hid ht;have SL:=hid (yx s);clear ht hN;go_enter Tryz.func4,Tryz.ntmps4;go_wp2_with fail;refine cA.o.mono ?_;rintro e V ⟨⟨t,fe,fa,rfl,told⟩,hg⟩;have TO:=hid told;have A1:=aW V (.cells #[.int .i64 fe,.int .i64 fa,.string ⟨#[]⟩] 27) none;have G1:=hid (ya hg A1);have BF:=hid (yd.new V #[.int .i64 fe,.int .i64 fa,.string ⟨#[]⟩] 27);have hz:=(ya hg A1).size;have cR:=hid (yfF s (V.alloc (.cells #[.int .i64 fe,.int .i64 fa,.string ⟨#[]⟩] 27)) (HT.o.grown G1.o) (by omega));clear told hg A1 cA;unfold qE;go_wp2_with fail;refine cR.o.mono ?_;rintro e V2 ⟨⟨Lb,fa2,vo,rfl,e1,e2,e3⟩,hg2⟩
 have SA:=Rf.nH (sl s);unfold qE;have A2:=aW V2 (.cells #[.int .i64 Lb,.int .i64 fa2,.string ⟨#[]⟩] 27) none;have G2:=hid (ya G1.o (ya hg2 A2));have B1:=hid (BF.o.grown (ya hg2 A2) (by simp));have B2:=hid (yd.new V2 #[.int .i64 Lb,.int .i64 fa2,.string ⟨#[]⟩] 27);have x0:=B1.o.cell 0;have x1:=B1.o.cell 1;have x2:=B1.o.cell 2;simp only [bB,yml,bf] at x0 x1 x2;by_cases h0:(As.assemble (sl s)).1.1=0
 ·have V0:=hid (As.Ck (sl s) h0);have hd0:(Rf.bV (sl s)).1.1=0:=SA.1.trans h0;obtain ⟨MR,go,rfl,uj⟩:=e3 (e1.trans hd0);have hT:t=Lk.uq (As.assemble (sl s)).2/\fe=0/\fa=0:=by
   rcases TO.o with ⟨y,-⟩ | ⟨-,-,y,z,z2⟩ | ⟨-,y,-⟩
   ·exact absurd h0 y
   ·exact ⟨y,z,z2⟩
   ·exact absurd V0.o y
  obtain ⟨hT1,hfe,hfa⟩:=hT;obtain rfl:Lb=fe:=(e1.trans hd0).trans hfe.symm;obtain rfl:fa2=fa:=MR.trans hfa.symm;have d1:((Lb:Int) != 0)=false:=by simp [hfe]
  have RO:=ykO (sl s) hd0;rw [RO] at uj;have OB:=hid (uj.kept A2);have EB:=hid hT1;clear SA e1 e2 e3 TO hg2 A2 hd0 RO uj cR hT1 hfe hfa MR;generalize (As.assemble (sl s)).2=o at *;have TM:=hid (yiN V0.o);have cB:=hid (fun W (hW:yw W go o)=>yiV go o W hW TM.o.1 V0.o.2.1.1 ⟨V0.o.1.2.2.1,V0.o.1.2.2.2⟩ TM.o.2.1);have cI:=hid (fun W (hW:yw W go o)=>yhk go o W hW TM.o);go_wp2_with fail;refine (cB.o _ OB.o).mono ?_;rintro e V4 ⟨rfl,hg4⟩;have G4:=hid (ya G2.o hg4);have Y6:=hid (OB.o.kept hg4);clear hg4 cB OB;go_wp2_with fail;refine (cI.o _ Y6.o).mono ?_;rintro e V5 ⟨t5,hg5⟩;obtain rfl:=Xb (x:=true) t5 (by simp; exact V0.o)
  have G5:=hid (ya G4.o hg5);have eq:((bs t).toList == (bs (Lk.uq o)).toList)=true:=by rw [EB.o]; simp
  clear hg5 t5 cI;go_wp2;go_ret2;exact ⟨⟨_,rfl⟩,G5.o⟩
 ·have hd0:¬ (Rf.bV (sl s)).1.1=0:=fun x=>h0 (SA.1.symm.trans x)
  have hf2:Lb≠0:=by rw [e1]; exact hd0
  obtain ⟨y1,rfl⟩:=e2 hf2;have y2:=SA.2.1 hd0;have hT:t=[]/\fe=Lb/\fa=fa2:=by
   rcases TO.o with ⟨-,a,b,c⟩ | ⟨y,-⟩ | ⟨y,-⟩
   ·exact ⟨a,by rw [b,e1,SA.1],by rw [c,y1,y2]⟩
   ·exact absurd y h0
   ·exact absurd y h0
  obtain ⟨rfl,rfl,rfl⟩:=hT;have d1:((fe:Int) != 0)=true:=by simp; omega
  have b2:(bs ([]:List UInt8)).toList.isEmpty=true:=by rw [yA]; rfl
  clear SA e1 e2 e3 TO hg2 A2 hd0 y1 y2 cR hf2;go_wp2;go_ret2;exact ⟨⟨_,rfl⟩,G2.o⟩
theorem yfa (s:ByteArray) (w:World) (ht:gD w) (hN:pQ w) (hB:3<=w.heap.size) :
  Calls Tryz.prog 3 #[.string s] w fun e w'=>e = .returned (.bool true)/\w.grownBy w' none:=by
 have cA:=hid (yfo s w ht hN hB);clear ht hN;by_cases hl:1048576 < s.size
 ·have d:decide (1048576 < (s.size:Int))=true:=by simp; omega
  go_enter Tryz.func3,Tryz.ntmps3;go_wp2;go_ret;exact ⟨rfl,World.grownBy.refl _ _⟩
 ·have d:decide (1048576 < (s.size:Int))=false:=by simp; omega
  go_enter Tryz.func3,Tryz.ntmps3;go_wp2_with fail;refine cA.o.mono ?_;rintro e V ⟨⟨v,rfl⟩,hg⟩;have G:=hid hg;clear hg;go_wp2;go_ret;exact ⟨rfl,G.o⟩
end Go.Proofs.YtnkkepfcpjllmaaGreatDoor

namespace Go.Proofs.YtnkkepfcpjllmaaGreatDoor
open Go.ChangeShapes Go.WideShapes Go.ChangeAt Go.RowKit
theorem yej (H:Type) (enc:TypeId×Value->H) (W:World) (base:Nat) (args:Array Value) (ds gs:List (DataW H)) (before:List MemPlace)
  (hval:∀ (j:Nat) t v,Tryz.f3.params[j]?=some t->args[j]?=some v->Value.okWide Tryz.prog W .any base t v)
  (hW:DataW.Whole enc Tryz.prog Tryz.f3.params.toList Rows.assembledSpec.vars false W args.toList ds gs before) (hL:laidMetH Tryz.prog Rows.assembledRow.laid W) :
  Calls Tryz.prog 3 args W fun e W'=>∃ v,e = .returned v/\Rows.assembledSpec.post enc Tryz.prog Tryz.f3 false true false false W args v W':=by
 have hW':=hW;obtain ⟨p,q,VD,hV,rfl,hfz,hnd⟩:=hW;have hA:DataW.TrodAll enc Tryz.prog W 0 (fun _=>true) true Tryz.f3.params.toList args.toList ds p:=VD;rw [Tryz.params3] at hA hval;obtain ⟨v0,TJ,d0,ds0,p0,q0,hargs,rfl,rfl,h0,r0⟩:=trodAll_cons hA;obtain ⟨rfl,rfl,rfl⟩:=trodAll_nil r0;obtain rfl:args = #[v0]:=by cases args; simp_all
 obtain ⟨rfl,rfl⟩:=trodVars_none hV;have hv:Value.okWide Tryz.prog W .any base 9 v0:=hval 0 9 v0 rfl rfl;obtain ⟨s,rfl,rfl,rfl,hs⟩:=ChangeMaps.open_string (t:=9) Tryz.underlying9 hv h0;clear VD;simp only [List.append_nil] at hW';obtain ⟨hT,hN,hB⟩:=ygG hL;refine (yfa s W hT hN hB).mono fun e W' ⟨he,hg⟩=>?_
 subst he;exact ⟨_,rfl,_,_,_,[],[],[],hW',trodAll_cons_mk (shut_bool Tryz.underlying4 _) trodAll_mk0,trodAll_cons_mk (ChangeMaps.shut_string Tryz.underlying9 hs) trodAll_mk0,rfl,ygE hg _,fun h=>by cases h⟩
theorem yjQ (os:Os):laidMet Tryz.prog Rows.assembledRow.laid ((Ut os).forCall (fun _ _=>0) ⟨#[],#[.string ⟨#[]⟩],[]⟩).memory :=
 laidMet_of_run' 8 (by kernel_rfl) (by kernel_rfl)
theorem ygJ (os:Os) {H:Type} (enc:TypeId×Value->H):∃ places,DataW.whole enc Tryz.prog ((Ut os).forCall (fun _ _=>0) ⟨#[],#[.string ⟨#[]⟩],[]⟩).memory Tryz.f3.params.toList Rows.assembledSpec.vars false #[Value.string ⟨#[]⟩].toList 8=some ([.lit (.string [])],[],places) :=
 ⟨[],by kernel_rfl⟩
theorem yfb (os:Os) (started:os.Started) (H:Type) (enc:TypeId×Value->H) (F:Stop.Interp) :
  ReturnsInHanded {} Tryz.checked os 3 .any ((OpenSpec.ofChange Rows.assembledSpec).preRow enc Tryz.prog Tryz.f3 Rows.assembledRow.domain false Rows.assembledRow.laid) (((OpenSpec.ofChange Rows.assembledSpec).at F).post enc Tryz.prog Tryz.f3 false true false false):=by
 obtain ⟨places,hx⟩:=ygJ os enc;refine returnsInHanded_of_row (C:=Tryz.checked) (s:=OpenSpec.ofChange Rows.assembledSpec) yhS started (by kernel_rfl) Tryz.func3
  (witness_row_at (enc:=enc) (C:=Tryz.checked) false (Ut os) #[.string ⟨#[]⟩] rfl (by kernel_rfl) (by kernel_rfl) (by kernel_rfl)
   (OpenSpec.preRow_of_cond 8 hx (by kernel_rfl) (fun k hk=>by cases hk) (by kernel_rfl) (yjQ os))) ?_
 intro W base args ds gs before hval hW _ _ _ hL _ _;exact yej H enc W base args ds gs before hval hW hL
theorem yfU:Rows.AssembledSaid :=
 OpenClaim.holds_of_cond 3 Tryz.f3 rfl rfl rfl rfl rfl rfl rfl ⟨rfl,rfl,rfl,rfl,rfl⟩ rfl rfl rfl rfl rfl (by kernel_rfl) Tryz.func3 (by kernel_rfl)
  (of_decide_eq_true (by kernel_rfl)) (by unfold Func.isWrapper; first | (rw [if_pos (by decide +kernel)]; kernel_rfl) | (rw [if_neg (by decide +kernel)]; exact ⟨rfl,rfl⟩))
  (fun os started H enc _ F=>by rw [OpenClaim.pre_eq_preRow]; exact yfb os started H enc F)
theorem yfp (f : FuncId) (fn : Func) (hf : Tryz.pinned.checked.prog.funcNamed "linker/linkerlaw.Assembled" = some f) (hfn : Tryz.pinned.checked.prog.funcs[f]? = some fn) :
  false=Tryz.pinned.checked.prog.looks []/\∀ (j:Nat) t,fn.params[j]?=some t->Tryz.pinned.checked.prog.wantsStandIn t=false:=by
 obtain rfl : f = 3 := Option.some.inj ((show Tryz.prog.funcNamed "linker/linkerlaw.Assembled" = some 3 by kernel_rfl).symm.trans hf) |>.symm
 obtain rfl:fn=Tryz.f3:=(Option.some.inj (Tryz.func3.symm.trans hfn)).symm;refine ⟨by kernel_rfl,fun j t ht=>?_⟩;rw [Tryz.params3] at ht;obtain rfl:t=9:=by simpa using Array.mem_of_getElem? ht
 exact (show Tryz.prog.wantsStandIn 9=false by kernel_rfl)
theorem assembled_card:Rows.AssembledCardSaid :=
 Claim7.holds_tied_plain_at .later [] _ _ _ _ yfU (fun _ h=>by cases h) (by kernel_rfl) (fun _ h=>by cases h) assembled_row_tie rfl ⟨rfl,rfl⟩ (by kernel_rfl) rfl yfp (by kernel_rfl)
end Go.Proofs.YtnkkepfcpjllmaaGreatDoor
