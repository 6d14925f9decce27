
import Derived.Test.YtelehpmjhjljgaaGreatDoorV17
import Derived.Lib.AppendStr
set_option maxHeartbeats 16000000
set_option maxRecDepth 100000
namespace Go.Proofs.YtelehpmjhjljgaaGreatDoor
open Go.RowKit
def jE (o:Lk.Obj) (n:Nat):List Int:=if n=3 then List.replicate o.bss.toNat 0 else yh o ((n:Int)+1)
theorem oV.all {W:World} {B:Nat} {o:Lk.Obj} {at_:Option Addr} {ct:Nat} {af:Option Addr} {cf:Nat} {ad:Option Addr} {cd:Nat} {Z:Nat} (h:oV W B o at_ ct af cf ad cd Z) (n:Nat) (hn:n<=3) :
  ∃ ao cap,W.cell? ⟨B,n+1,none⟩=some (.slice ao (jE o n).length cap)/\ym W ao (jE o n):=by
 rcases (show n=0\/n=1\/n=2\/n=3 from by omega) with rfl | rfl | rfl | rfl
 ·exact ⟨_,_,h.blk.cell 1,h.text⟩
 ·exact ⟨_,_,h.blk.cell 2,h.far⟩
 ·exact ⟨_,_,h.blk.cell 3,h.data⟩
 ·have e:jE o 3=List.replicate o.bss.toNat 0:=rfl;rw [e,List.length_replicate];exact ⟨_,_,h.blk.cell 4,h.zero⟩
theorem yiD {o:Lk.Obj} (h:pR o) (n:Nat) (hn:n<=3):j6 (jE o n):=by
 rcases (show n=0\/n=1\/n=2\/n=3 from by omega) with rfl | rfl | rfl | rfl
 ·exact h.1
 ·exact h.2.1
 ·exact h.2.2
 ·intro i hi;have e:jE o 3=List.replicate o.bss.toNat 0:=rfl;simp [e]
theorem yjM {o:Lk.Obj} (h:∀ n,n < 4->j6 (jE o n)):pR o:=⟨h 0 (by omega),h 1 (by omega),h 2 (by omega)⟩
theorem ylE {o:Lk.Obj} (h:kV o) (hz:o.bss<=64) (n:Nat):(jE o n).length<=65535:=by
 unfold jE;split
 ·simp; omega
 ·exact yE h _
theorem yiV (g:Nat) (o:Lk.Obj) (w:World) (h:yq w g o) (hn:pq o) :
  Calls Tryz.prog 61 #[.pointer (some ⟨g,0,none⟩)] w fun e w'=>yg e (yp o)/\w.grownBy w' none:=by
 obtain ⟨at_,ct,af,cf,ad,cd,aa,ca,gF,cs,ar,cr,hb,h1,h2,h3,h4,h5,h6⟩:=h.open;have HB:=hid hb;have HO:=hid h;have HN:=hid hn;have Tv:=hid (ym.aB h4);obtain ⟨n1,n2,n3,n4,n5,n6⟩:=hn.1;have k0:=hb.cell 0;have k1:=hb.cell 1;have k2:=hb.cell 2;have k3:=hb.cell 3;have k4:=hb.cell 4;have k5:=hb.cell 5;have k6:=hb.cell 6;have HQ:=hid (show yp o↔Fb o/\oI o.align/\pR o/\Ku o/\Kt o from Iff.rfl);have HZ:=hid (show Fb o↔(o.text.length<=1200/\o.far.length<=1200/\o.data.length<=64)/\(0<=o.bss/\o.bss<=64)/\o.syms.length<=16/\o.aj.length<=32 from Iff.rfl);generalize yp o=Q at *;have no:Hd (∀ W,(¬ Q)->w.grownBy W none->yg (.returned (.bool false)) Q/\w.grownBy W none):=fun W a b=>⟨yg.no a,b⟩
 have RF:=hid (World.grownBy.refl w none);clear h hn hb h1 h2 h3 h4 h5 h6;go_enter Tryz.func61,Tryz.ntmps61;by_cases c:1200 < o.text.length
 ·have d:decide (1200 < (o.text.length:Int))=true:=by simp; omega
  go_wp2;go_ret;exact no.o _ (fun hq=>by have:=HZ.o.1 (HQ.o.1 hq).1; omega) RF.o
 have d0:decide (1200 < (o.text.length:Int))=false:=by simp; omega
 have c0:¬ (1200 < o.text.length):=c;clear c;by_cases c:1200 < o.far.length
 ·have d:decide (1200 < (o.far.length:Int))=true:=by simp; omega
  go_wp2;go_ret;exact no.o _ (fun hq=>by have:=HZ.o.1 (HQ.o.1 hq).1; omega) RF.o
 have d1:decide (1200 < (o.far.length:Int))=false:=by simp; omega
 have c1:¬ (1200 < o.far.length):=c;clear c;by_cases c:64 < o.data.length
 ·have d:decide (64 < (o.data.length:Int))=true:=by simp; omega
  go_wp2;go_ret;exact no.o _ (fun hq=>by have:=HZ.o.1 (HQ.o.1 hq).1; omega) RF.o
 have d2:decide (64 < (o.data.length:Int))=false:=by simp; omega
 have c2:¬ (64 < o.data.length):=c;clear c;by_cases c:o.bss < 0
 ·have d:decide (o.bss < 0)=true:=by simp; omega
  go_wp2;go_ret;exact no.o _ (fun hq=>by have:=HZ.o.1 (HQ.o.1 hq).1; omega) RF.o
 have d3:decide (o.bss < 0)=false:=by simp; omega
 have c3:¬ (o.bss < 0):=c;clear c;by_cases c:64 < o.bss
 ·have d:decide (64 < o.bss)=true:=by simp; omega
  go_wp2;go_ret;exact no.o _ (fun hq=>by have:=HZ.o.1 (HQ.o.1 hq).1; omega) RF.o
 have d4:decide (64 < o.bss)=false:=by simp; omega
 have c4:¬ (64 < o.bss):=c;clear c;by_cases c:o.align.length=4
 rotate_left
 ·have d:((o.align.length:Int) == 4)=false:=by rw [beq_eq_false_iff_ne]; omega
  have d':((o.align.length:Int) != 4)=true:=by simp only [bne,d,Bool.not_false]
  have CC:=hid c;clear c;go_wp2;go_ret;exact no.o _ (fun hq=>CC.o (HQ.o.1 hq).2.1.1) RF.o
 have d5:((o.align.length:Int) == 4)=true:=by rw [beq_iff_eq]; omega
 have d5':((o.align.length:Int) != 4)=false:=by simp only [bne,d5,Bool.not_true]
 have C4:=hid c;clear c;by_cases c:16 < o.syms.length
 ·have d:decide (16 < (o.syms.length:Int))=true:=by simp; omega
  go_wp2;go_ret;exact no.o _ (fun hq=>by have:=HZ.o.1 (HQ.o.1 hq).1; omega) RF.o
 have d6:decide (16 < (o.syms.length:Int))=false:=by simp; omega
 have c6:¬ (16 < o.syms.length):=c;clear c;by_cases c:32 < o.aj.length
 ·have d:decide (32 < (o.aj.length:Int))=true:=by simp; omega
  go_wp2;go_ret;exact no.o _ (fun hq=>by have:=HZ.o.1 (HQ.o.1 hq).1; omega) RF.o
 have d7:decide (32 < (o.aj.length:Int))=false:=by simp; omega
 have c7:¬ (32 < o.aj.length):=c;clear c;have SZ:=hid (HZ.o.2 ⟨⟨by omega,by omega,by omega⟩,⟨by omega,by omega⟩,by omega,by omega⟩);have cS:=hid (QG g o w HO.o ⟨by omega,by omega⟩);go_wp2_with fail;refine cS.o.mono ?_;rintro e w1 ⟨B,sat,sct,saf,scf,sad,scd,Z,rfl,pJ,hq1⟩;have HS:=hid pJ;have G1:=hid hq1;have A1:=hid (Tv.o.kept (fun a v hv=>yc hv hq1));have b4:=yc k4 hq1;have b5:=yc k5 hq1;have b6:=yc k6 hq1;clear pJ hq1 k0 k1 k2 k3 k4 k5 k6 cS Tv;have SMW:=hid (fun n=>ylE HN.o.1 (show o.bss<=64 from by omega) n);clear n1 n2 n3 n4;go_wp2
 go_loop [4] (fun i=>∃ n:Nat,n<=4/\i = .int .i64 ((n:Int)+1)/\(∀ j (hj:j < o.align.length),j < n->2<=o.align[j]/\o.align[j]<=4)/\∀ j,j < n->j6 (jE o j)) (fun i=>5 - (intOf i).toNat)
 case atStart=>exact ⟨0,Nat.zero_le _,rfl,fun j _ hj=>absurd hj (Nat.not_lt_zero j),fun j hj=>absurd hj (Nat.not_lt_zero j)⟩
 case round =>
  obtain ⟨n,JG,rfl,hal,hwo⟩:=hrel;have eu:=hid hal;have Ul:=hid hwo;clear hal hwo;by_cases hlt:n < 4
  ·have hlt':(n:Int)+1 < 5:=by omega
   have hln:n < o.align.length:=by have:=C4.o; omega
   have hli:(n:Int) < (o.align.length:Int):=by omega
   obtain ⟨ga,pO,pI,hca⟩:=A1.o (by omega);subst pI;have ca:=hca n hln;clear hca;have nL:=hid (show oI o.align->2<=o.align[n]/\o.align[n]<=4 from fun h=>h.2 n hln);have NR:=hid (show 2<=o.align[n]/\o.align[n]<=4->∀ j (hj:j < o.align.length),j < n+1->2<=o.align[j]/\o.align[j]<=4 from fun h j hj hjk=>(Nat.lt_succ_iff_lt_or_eq.1 hjk).elim (fun h=>eu.o j hj h) (fun e=>by subst e; exact h));generalize o.align[n]=av at *;by_cases c:av < 2
   ·have d:decide (av < 2)=true:=by simp; omega
    go_wp2;go_ret;exact no.o _ (fun hq=>by have:=nL.o (HQ.o.1 hq).2.1; omega) G1.o
   have e1:decide (av < 2)=false:=by simp; omega
   by_cases cc:4 < av
   ·have d:decide (4 < av)=true:=by simp; omega
    go_wp2;go_ret;exact no.o _ (fun hq=>by have:=nL.o (HQ.o.1 hq).2.1; omega) G1.o
   have e2:decide (4 < av)=false:=by simp; omega
   have NT:=hid (NR.o ⟨by omega,by omega⟩);clear c cc;obtain ⟨CW,aS,s1,s2⟩:=HS.o.all n (by omega);have HS2:=hid s2;have Lb:=hid (show pR o->j6 (jE o n) from fun h=>yiD h n (by omega));have HWN:=hid (show j6 (jE o n)->∀ j,j < n+1->j6 (jE o j) from fun h j hjk=>(Nat.lt_succ_iff_lt_or_eq.1 hjk).elim (fun h=>Ul.o j h) (fun e=>by subst e; exact h));have hsz:=SMW.o n;clear s2;generalize jE o n=ws at *;go_wp2
   go_loop [5] (fun i=>∃ a:Nat,a<=ws.length/\i = .int .i64 a/\∀ j (hj:j < ws.length),j < a->0<=ws[j]/\ws[j]<=4294967295) (fun i=>ws.length - (intOf i).toNat)
   case atStart=>exact ⟨0,Nat.zero_le _,rfl,fun j _ hj=>absurd hj (Nat.not_lt_zero j)⟩
   case round =>
    obtain ⟨a,ha,rfl,hall⟩:=hrel;have nX:=hid hall;clear hall;by_cases hla:a < ws.length
    ·have aam:(a:Int) < (ws.length:Int):=by omega
     obtain ⟨gs,aaq,hss,hcs⟩:=HS2.o (by omega);subst hss;have cw:=hcs a hla;clear hcs;have HX:=hid (show j6 ws->0<=ws[a]/\ws[a]<=4294967295 from fun h=>h a hla);have HY:=hid (show 0<=ws[a]/\ws[a]<=4294967295->∀ j (hj:j < ws.length),j < a+1->0<=ws[j]/\ws[j]<=4294967295 from fun h j hj hjk=>(Nat.lt_succ_iff_lt_or_eq.1 hjk).elim (fun h=>nX.o j hj h) (fun e=>by subst e; exact h));generalize ws[a]=x at *;by_cases c:x < 0
     ·have d:decide (x < 0)=true:=by simp; omega
      go_wp2;go_ret;exact no.o _ (fun hq=>by have:=HX.o (Lb.o (HQ.o.1 hq).2.2.1); omega) G1.o
     have f1:decide (x < 0)=false:=by simp; omega
     by_cases cc:4294967296<=x
     ·have d:decide (4294967296<=x)=true:=by simp; omega
      go_wp2;go_ret;exact no.o _ (fun hq=>by have:=HX.o (Lb.o (HQ.o.1 hq).2.2.1); omega) G1.o
     have f2:decide (4294967296<=x)=false:=by simp; omega
     have HYY:=hid (HY.o ⟨by omega,by omega⟩);clear c cc;go_wp2
     go_round
     case rel=>exact ⟨a+1,by omega,by go_num,HYY.o⟩
     case measure=>simp [intOf]; omega
    ·have Lc:=hid (HWN.o (fun j hj=>nX.o j hj (by omega)));go_wp2
     go_round
     case rel=>exact ⟨n+1,by omega,by go_num,NT.o,Lc.o⟩
     case measure=>simp [intOf]; omega
  ·have kZ:=hid (show oI o.align from ⟨C4.o,fun i hi=>eu.o i hi (by have:=C4.o; omega)⟩);have Lc:=hid (yjM (fun j hj=>Ul.o j (by omega)));have hge:¬ ((n:Int)+1 < 5):=by omega
   clear hlt;go_wp2
   go_loopw [6] (fun i wr=>∃ k:Nat,k<=o.syms.length/\i = .int .i64 k/\(∀ j (hj:j < o.syms.length),j < k->Ky o j hj)/\w1.grownBy wr none) (fun i _=>o.syms.length - (intOf i).toNat)
   case atStart=>exact ⟨0,Nat.zero_le _,rfl,fun j _ hj=>absurd hj (Nat.not_lt_zero j),World.grownBy.refl _ _⟩
   case round =>
    obtain ⟨k,hk,rfl,hall,hgr⟩:=hrel;have nX:=hid hall;have HG:=hid (ya G1.o hgr);have N7:=hid hgr;have b5:=yc b5 hgr;have b6:=yc b6 hgr;clear hall hgr;by_cases hlt:k < o.syms.length
    ·have hlt':(k:Int) < (o.syms.length:Int):=by omega
     have cI:=hid (yiW g B k o _ _ _ _ _ _ _ wr (HO.o.kept HG.o) (HS.o.grown N7.o) HN.o.1 SZ.o.2.1 HN.o.2.1 hlt);go_wp2_with fail;refine cI.o.mono ?_;rintro e w2 ⟨t,q2⟩;have Q2:=hid (ya HG.o q2);have Q3:=hid (ya N7.o q2);rcases t.split with ⟨rfl,p1⟩ | ⟨rfl,p1⟩ <;> clear t cI q2
     ·have CC:=hid (show ¬ Ku o from fun h=>p1.o (h k hlt));clear p1;go_wp2;go_ret;exact no.o _ (fun hq=>CC.o (HQ.o.1 hq).2.2.2.1) Q2.o
     ·have HY:=hid (show ∀ j (hj:j < o.syms.length),j < k+1->Ky o j hj from fun j hj hjk=>(Nat.lt_succ_iff_lt_or_eq.1 hjk).elim (fun h=>nX.o j hj h) (fun e=>by subst e; exact p1.o));clear p1;go_wp2
      go_roundw
      case rel=>exact ⟨k+1,by omega,by go_num,HY.o,Q3.o⟩
      case measure=>simp [intOf]; omega
    ·have lu:=hid (show Ku o from fun i hi=>nX.o i hi (by omega));have aai:¬ ((k:Int) < (o.syms.length:Int)):=by omega
     obtain ⟨wo,hwo⟩:∃ wo:World,wo=wr:=⟨_,rfl⟩
     subst hwo;clear hlt;go_wp2
     go_loopw [8] (fun i wr=>∃ k:Nat,k<=o.aj.length/\i = .int .i64 k/\(∀ j (hj:j < o.aj.length),j < k->kD o j hj)/\wo.grownBy wr none) (fun i _=>o.aj.length - (intOf i).toNat)
     case atStart=>exact ⟨0,Nat.zero_le _,rfl,fun j _ hj=>absurd hj (Nat.not_lt_zero j),World.grownBy.refl _ _⟩
     case round =>
      obtain ⟨m,hm,rfl,hall,hgr⟩:=hrel;have Dq:=hid hall;have HH:=hid (ya HG.o hgr);have Z7:=hid (ya N7.o hgr);have Z6:=hid hgr;have b6:=yc b6 hgr;clear hall hgr;by_cases hlt:m < o.aj.length
      ·have hlt':(m:Int) < (o.aj.length:Int):=by omega
       have cI:=hid (yjX m g B o _ _ _ _ _ _ _ wr (HO.o.kept HH.o) (HS.o.grown Z7.o) HN.o.1 kZ.o Lc.o HN.o.2.2 hlt (fun j hj hjm=>(Dq.o j hj (by omega)).1));go_wp2_with fail;refine cI.o.mono ?_;rintro e w2 ⟨t,q2⟩;have Q2:=hid (ya HH.o q2);have Q3:=hid (ya Z6.o q2);rcases t.split with ⟨rfl,p1⟩ | ⟨rfl,p1⟩ <;> clear t cI q2
       ·have CC:=hid (show ¬ Kt o from fun h=>p1.o (h m hlt));clear p1;go_wp2;go_ret;exact no.o _ (fun hq=>CC.o (HQ.o.1 hq).2.2.2.2) Q2.o
       ·have HY:=hid (show ∀ j (hj:j < o.aj.length),j < m+1->kD o j hj from fun j hj hjk=>(Nat.lt_succ_iff_lt_or_eq.1 hjk).elim (fun h=>Dq.o j hj h) (fun e=>by subst e; exact p1.o));clear p1;go_wp2
        go_roundw
        case rel=>exact ⟨m+1,by omega,by go_num,HY.o,Q3.o⟩
        case measure=>simp [intOf]; omega
      ·have HRY:=hid (show Kt o from fun i hi=>Dq.o i hi (by omega));have aaj:¬ ((m:Int) < (o.aj.length:Int)):=by omega
       clear hlt;go_wp2;go_ret;exact ⟨yg.yes (HQ.o.2 ⟨SZ.o,kZ.o,Lc.o,lu.o,HRY.o⟩),HH.o⟩
def Kv (w:World) (ao:Option Addr) (xs:List Bool):Prop :=
 0 < xs.length->∃ g off,ao=some ⟨g,off,none⟩/\∀ i (h:i < xs.length),w.cell? ⟨g,off+i,none⟩=some (.bool xs[i])
theorem Kv.kept {w w':World} {ao:Option Addr} {xs:List Bool} (h:Kv w ao xs) (hg:w.grownBy w' none):Kv w' ao xs:=by
 intro hp;obtain ⟨g,off,e,hc⟩:=h hp;exact ⟨g,off,e,fun i hi=>yc (hc i hi) hg⟩
def eZ (o:Lk.Obj) (ah:Nat):List Int:=jE o (ah - 1)
theorem EY {o:Lk.Obj} (h:yp o) (ah:Nat):(eZ o ah).length<=1200:=by
 have h1:=h.1;unfold Fb at h1;unfold eZ jE yh;split
 ·rw [List.length_replicate]; omega
 ·split
  ·omega
  ·split
   ·omega
   ·split
    ·omega
    ·simp
def Zi (m:Ln.Mod) (sl:List Bool):Prop:=sl.length=m.obj.aj.length/\∀ i (h:i < sl.length),Ln.dY m.short i=sl[i]
theorem Kr {w:World} {b b':Nat} {e:TypeId} {size:Nat} {v:Value} {n:Nat} {xs:List Value} (h:w.ownsRow b e size v n xs) (hb:b'<=b):w.ownsRow b' e size v n xs:=by
 refine ⟨h.1,?_⟩;rcases h.2 with q | ⟨g,cap,cur,h1,h2,h3⟩
 ·exact .inl q
 ·exact .inr ⟨g,cap,cur,h1,Nat.le_trans hb h2,h3⟩
theorem ykl (m:Ln.Mod) (ah:Int) (ws:List Int) (j:Nat) (h:j < ws.length) (c:Int):Ln.aA m ah j (ws.drop j) c=c :: Ln.aA m ah (j+1) (ws.drop (j+1)) (if Ln.stays m ah (4 * j) c then c+4 else c):=by
 rw [jg h,Ln.aA]
theorem ylZ (m:Ln.Mod) (ah:Int) (ws:List Int) (j:Nat) (h:j < ws.length) (c:Int):Ln.aL m ah j (ws.drop j) c=Ln.aL m ah (j+1) (ws.drop (j+1)) (if Ln.stays m ah (4 * j) c then c+4 else c):=by
 rw [jg h,Ln.aL]
theorem yoA (c b:Int) (h0:0<=c) (h1:c<=1125899906842624) (hb:b=8\/b=16):Ln.rup c b=c↔c % b=0:=by
 have:=Sy c b h0 h1 (by omega)
 rcases hb with rfl | rfl <;> omega
theorem ynU (g:Nat) (m:Ln.Mod) (ah:Nat) (a:Int) (ab:Option Addr) (cb:Nat) (sl:List Bool) (w:World) (ho:yq w g m.obj) (hv:yp m.obj) (hs1:1<=ah) (hs4:ah<=4) (h0:0<=a) (h1:a<=1099511627776) (hb:Kv w ab sl) (hsl:Zi m sl) :
  Calls Tryz.prog 36 #[.pointer (some ⟨g,0,none⟩),.int .i64 ah,.int .i64 a,.slice ab sl.length cb] w fun e w'=>∃ v,e = .returned (.tuple #[v,.int .i64 (Ln.aL m ah 0 (eZ m.obj ah) a)]) /\
   w'.ownsRow w.heap.size 3 1 v ((eZ m.obj ah).length+1) ((Ln.aA m ah 0 (eZ m.obj ah) a).map (Value.int .i64))/\w.grownBy w' none:=by
 obtain ⟨i0,hi,hz0,hz1,hz2⟩:=info_parts Tryz.fP;have HO:=hid ho;have HV:=hid hv;have Ag:=hid hb;have HSL:=hid hsl;have cS:=hid (fun W (hg:w.grownBy W none)=>QG g m.obj W (ho.kept hg) hv.1.2.1);have cR:=hid (fun (x:Nat) W (hg:w.grownBy W none) (hx:x<=65535)=>Y6 g m.obj ah x W (ho.kept hg) hv hx);obtain ⟨at_,ct,af,cf,ad,cd,aa,ca,gF,cs,ar,cr,hbk,-,-,-,-,-,q6⟩:=ho.open;have RI:=hid (lX.aB q6);have HB:=hid hbk;have hlen:=EY hv ah;have wM:=hv.jU;have Wn:sl.length<=32:=by have:=hsl.1; omega
 clear ho hv hb hsl hbk q6;obtain ⟨ws,hws⟩:∃ ws,ws=eZ m.obj ah:=⟨_,rfl⟩
 rw [<- hws];rw [<- hws] at hlen;have Lb:=hid hws;clear hws;have PT:=hid (show Ln.aA m ah 0 ws a=Ln.aA m ah 0 (ws.drop 0) a from rfl);have ET:=hid (show Ln.aL m ah 0 ws a=Ln.aL m ah 0 (ws.drop 0) a from rfl);generalize Ln.aA m ah 0 ws a=PL at *;generalize Ln.aL m ah 0 ws a=EN at *;go_enter Tryz.func36,Tryz.ntmps36
 go_upto_region 2 with (go_at_call 66; refine (cS.o _ (World.grownBy.refl _ _)).mono ?_; rintro e W1 ⟨B,at2,ct2,af2,cf2,ad2,cd2,Z,rfl,hsc,hg1⟩)
 obtain ⟨ao,cp,pJ,-⟩:=hsc.all (ah - 1) (by omega);rw [show ah - 1+1=ah by omega] at pJ;have Oh:=hid (show W1.cell? ⟨B,ah,none⟩=some (.slice ao ws.length cp) by rw [Lb.o]; exact pJ);have G1:=hid hg1;clear hsc pJ hg1 cS;have hsi:(ah:Int) < 5:=by omega
 go_wp2
 go_loopw [2,11,12] (fun av v i wr=>∃ (j:Nat) (acc:List Int) (c:Int),j<=ws.length/\i = .int .i64 j/\av = .int .i64 c/\acc.length=j/\(0<=c/\c<=a+4 * j)/\PL=acc ++ Ln.aA m ah j (ws.drop j) c/\EN=Ln.aL m ah j (ws.drop j) c/\wr.ownsRow W1.heap.size 3 1 v acc.length (acc.map (Value.int .i64))/\W1.grownBy wr none) (fun _ _ i _=>ws.length - (intOf i).toNat)
 case atStart=>exact ⟨0,[],a,Nat.zero_le _,rfl,rfl,rfl,⟨by omega,by omega⟩,PT.o,ET.o,World.ownsRow_nil _ _ _ _,World.grownBy.refl _ _⟩
 case round =>
  clear PT ET;obtain ⟨j,acc,c,hj,rfl,rfl,hal,⟨c0,c1⟩,hp,he,hown,hgr⟩:=hrel;have HP:=hid hp;have HE:=hid he;have OW:=hid hown;have HG:=hid hgr;have eu:=hid hal;obtain ⟨av,cv,rfl⟩:=yj hown;clear hp he hown hgr;have aaf:acc.length<=1200:=by omega
  have hsw:W1.heap.size<=wr.heap.size:=HG.o.size;have Pf:=yc Oh.o HG.o;clear hal;by_cases hlt:j < ws.length
  ·have g1:(j:Int) < (ws.length:Int):=by omega
   have PS:=hid (ykl m ah ws j hlt c);have ES:=hid (ylZ m ah ws j hlt c);have ST:=hid (show Ln.stays m ah (4 * (j:Int)) c=if (Ln.aG ah (4 * (j:Int)) 0 m.obj.aj).2.kind=6 then !decide (Ln.rup c ((Ln.aG ah (4 * (j:Int)) 0 m.obj.aj).2.addend+4)=c)
    else if (Ln.aG ah (4 * (j:Int)) 0 m.obj.aj).2.kind=4 then decide (4 * (j:Int)=(Ln.aG ah (4 * (j:Int)) 0 m.obj.aj).2.off) || !Ln.dY m.short (Ln.aG ah (4 * (j:Int)) 0 m.obj.aj).1
    else true from rfl)
   generalize Ln.stays m ah (4 * (j:Int)) c=st at *
   go_upto_region 7 with (at_builtin; refine wpList_append_own_at _ rfl _ _ 35 rfl W1.heap.size 3 i0 (.int .i64 0) 1 8 Tryz.underlying35 hi hz0 hz1 hz2 rfl (by decide) _ _ _ rfl (OW.o.alloc _) ⟨wr.heap.size,0,none⟩ 1 1 [.int .i64 c] rfl rfl (C9 _ _ _) (by intro u hu; simp at hu; rcases hu with rfl; rfl) (by unfold maxLen; omega) (by omega) (by simp; omega) ?_; intro v' w3 hown' hgrow _ hat; have N3:=hid (yD (ya HG.o (aH _ _ none)) hgrow (fun b hb=>(OW.o.lt b hb).1)); have O3:=hid (show w3.ownsRow W1.heap.size 3 1 v' (acc ++ [c]).length ((acc ++ [c]).map (Value.int .i64)) by rw [fE,List.map_append]; simpa using hown'); obtain ⟨jN,cv',rfl⟩:=yj hown'; clear hgrow hown' hat)
   have PX:=hid (fun (s:Bool) (h:st=s)=>show PL=(acc ++ [c]) ++ Ln.aA m ah (j+1) (ws.drop (j+1)) (if s then c+4 else c)/\EN=Ln.aL m ah (j+1) (ws.drop (j+1)) (if s then c+4 else c) by
    subst h;refine ⟨?_,?_⟩
    ·rw [HP.o,PS.o]; simp
    ·rw [HE.o,ES.o])
   have hx:j<=65535:=by omega
   have GT:=hid (ya G1.o N3.o);clear Pf PS ES HP HE OW HG
   go_upto_region 8 with (go_at_call 67; refine (cR.o j _ GT.o hx).mono ?_; rintro e W4 ⟨rk,rj,rfl,hrs,hg4⟩)
   have O4:=hid (sU O3.o hg4);have G4:=hid (ya N3.o hg4);have GW:=hid (ya GT.o hg4);clear hg4 O3 N3 GT;rcases hrs with ⟨hra,rfl,rfl⟩ | ⟨i,hir,hra,rfl,zL,zK,hj0,hj1⟩
   ·have xI:=hid (show st=true by rw [ST.o,hra]; rfl);clear hra;have E1:=hid (PX.o true (by exact xI.o));go_wp2
    go_roundw
    case rel=>exact ⟨j+1,acc ++ [c],c+4,by omega,by go_num,by go_num,by rw [fE,o7,eu.o],⟨by omega,by omega⟩,E1.o.1,E1.o.2,O4.o,G4.o⟩
    case measure=>simp [intOf]; omega
   ·rw [hra] at ST;dsimp only at ST;have JD:i < sl.length:=by have:=HSL.o.1; omega
    obtain ⟨rg,hrg,-,hrc⟩:=RI.o.grown GW.o (by omega);subst hrg;obtain ⟨-,-,r2,-,r4⟩:=hrc i hir;have k6:=(HB.o.grown GW.o (by simp)).cell 6;simp only [dH,dL,dK] at k6;obtain ⟨bg,bo,hbg,hbc⟩:=Ag.o.kept GW.o (by omega);subst hbg;have cb4:=hbc i JD;have hshort:=hid (HSL.o.2 i JD);have hadd:=hid ((HV.o.rel i hir).2.1);have h2k:=hid (show m.obj.aj[i].kind=4->yr m.obj.aj[i]=2 from fun h=>by unfold yr; rw [if_pos (.inl h)]);have g2:(i:Int) < (m.obj.aj.length:Int):=by omega
    have g3:(i:Int) < (sl.length:Int):=by omega
    clear hra hrc hbc;generalize m.obj.aj[i]=r at *;generalize sl[i]=sb at *;by_cases e4:r.kind=4
    ·have xI:=hid (show st=(decide (4 * (j:Int)=r.off) || !sb) by rw [ST.o,if_neg (by omega),if_pos e4,hshort.o]);have hsp:=h2k.o e4;have d1:(r.kind == 4)=true:=by simpa using e4
     have d3:(r.kind == 6)=false:=by simp; omega
     by_cases ej:rj=1
     ·subst ej;have hno:(decide (4 * (j:Int)=r.off))=false:=by simp; omega
      rw [hno,Bool.false_or] at xI;clear e4 hno hadd h2k
      cases sb
      ·have E1:=hid (PX.o true (by exact xI.o));go_wp2
       go_roundw
       case rel=>exact ⟨j+1,acc ++ [c],c+4,by omega,by go_num,by go_num,by rw [fE,o7,eu.o],⟨by omega,by omega⟩,E1.o.1,E1.o.2,O4.o,G4.o⟩
       case measure=>simp [intOf]; omega
      ·have E1:=hid (PX.o false (by exact xI.o));go_wp2
       go_roundw
       case rel=>exact ⟨j+1,acc ++ [c],c,by omega,by go_num,by go_num,by rw [fE,o7,eu.o],⟨by omega,by omega⟩,E1.o.1,E1.o.2,O4.o,G4.o⟩
       case measure=>simp [intOf]; omega
     ·have ej0:rj=0:=by omega
      subst ej0;have hye:(decide (4 * (j:Int)=r.off))=true:=by simp; omega
      rw [hye,Bool.true_or] at xI;clear e4 hye hadd h2k ej;have E1:=hid (PX.o true (by exact xI.o));go_wp2
      go_roundw
      case rel=>exact ⟨j+1,acc ++ [c],c+4,by omega,by go_num,by go_num,by rw [fE,o7,eu.o],⟨by omega,by omega⟩,E1.o.1,E1.o.2,O4.o,G4.o⟩
      case measure=>simp [intOf]; omega
    ·have d1:(r.kind == 4)=false:=by simpa using e4
     by_cases e6:r.kind=6
     ·have had:r.addend=4\/r.addend=12:=hadd.o.six e6;have d3:(r.kind == 6)=true:=by simpa using e6
      have xI:=hid (show st = !decide (Ln.rup c (r.addend+4)=c) by rw [ST.o,if_pos e6]);have RF:=hid (yoA c (r.addend+4) c0 (by omega) (by omega));have w4:IntKind.i64.wrap (r.addend+4)=r.addend+4:=IntWalk.i64_in _ ⟨by omega,by omega⟩;have nz:¬ r.addend+4=0:=by omega
      have nz2:(r.addend+4 == 0)=false:=by simp; omega
      clear e4 e6 hadd h2k;by_cases ec:c % (r.addend+4)=0
      ·have d5:(c % (r.addend+4) == 0)=true:=by simpa using ec
       have d6:(c % (r.addend+4) != 0)=false:=by simpa using ec
       have OD:=hid (show st=false by rw [xI.o,decide_eq_true (RF.o.2 ec)]; rfl);clear ec;have E1:=hid (PX.o false (by exact OD.o));go_wp2
       go_roundw
       case rel=>exact ⟨j+1,acc ++ [c],c,by omega,by go_num,by go_num,by rw [fE,o7,eu.o],⟨by omega,by omega⟩,E1.o.1,E1.o.2,O4.o,G4.o⟩
       case measure=>simp [intOf]; omega
      ·have d5:(c % (r.addend+4) == 0)=false:=by simpa using ec
       have d6:(c % (r.addend+4) != 0)=true:=by simpa using ec
       have OD:=hid (show st=true by rw [xI.o,decide_eq_false (fun h=>ec (RF.o.1 h))]; rfl);clear ec;have E1:=hid (PX.o true (by exact OD.o));go_wp2
       go_roundw
       case rel=>exact ⟨j+1,acc ++ [c],c+4,by omega,by go_num,by go_num,by rw [fE,o7,eu.o],⟨by omega,by omega⟩,E1.o.1,E1.o.2,O4.o,G4.o⟩
       case measure=>simp [intOf]; omega
     ·have d3:(r.kind == 6)=false:=by simpa using e6
      have xI:=hid (show st=true by rw [ST.o,if_neg e6,if_neg e4]);clear e4 e6 hadd h2k;have E1:=hid (PX.o true (by exact xI.o));go_wp2
      go_roundw
      case rel=>exact ⟨j+1,acc ++ [c],c+4,by omega,by go_num,by go_num,by rw [fE,o7,eu.o],⟨by omega,by omega⟩,E1.o.1,E1.o.2,O4.o,G4.o⟩
      case measure=>simp [intOf]; omega
  ·obtain rfl:j=ws.length:=by omega
   have EP:=hid (show PL=acc ++ [c] by rw [HP.o,List.drop_length]; rfl);have EE:=hid (show EN=c by rw [HE.o,List.drop_length]; rfl);have g3:decide ((ws.length:Int) < (ws.length:Int))=false:=by simp
   go_wp2_with (at_builtin; refine wpList_append_own_at _ rfl _ _ 35 rfl W1.heap.size 3 i0 (.int .i64 0) 1 8 Tryz.underlying35 hi hz0 hz1 hz2 rfl (by decide) _ _ _ rfl (OW.o.alloc _) ⟨wr.heap.size,0,none⟩ 1 1 [.int .i64 c] rfl rfl (C9 _ _ _) (by intro u hu; simp at hu; rcases hu with rfl; rfl) (by unfold maxLen; omega) (by omega) (by simp; omega) ?_; intro v' w3 hown' hgrow _ hat; have N3:=hid (yD (ya HG.o (aH _ _ none)) hgrow (fun b hb=>(OW.o.lt b hb).1)); have O3:=hid (show w3.ownsRow W1.heap.size 3 1 v' (ws.length+1) ((acc ++ [c]).map (Value.int .i64)) by rw [List.map_append,<- eu.o]; simpa using hown'); obtain ⟨jN,cv',rfl⟩:=yj hown'; clear hgrow hown' hat)
   go_ret2;exact ⟨.slice jN (acc.length+1) cv',by rw [EE.o]; rfl,by rw [EP.o]; exact Kr O3.o G1.o.size,ya G1.o N3.o⟩
theorem ypq (W:World) (x:Int):(convert 121 9 (.slice (some ⟨W.heap.size,0,none⟩) 1 1)).run Tryz.prog (W.alloc (.cells #[.int .u8 x] 5)) = .ok (.string (strOfNums [x])) (W.alloc (.cells #[.int .u8 x] 5)) :=
 run_convert_bytes_arg (P:=Tryz.prog) _ 121 5 Tryz.underlying121 Tryz.underlying5 W.heap.size 0 1 1 [x] rfl (fun i hi=>by
  have e:i=0:=by omega
  subst e;exact (ye.new W #[.int .u8 x] 5).cell 0) 9 Tryz.underlying9
theorem you (v:Int) (k:Nat):Lk.le v (k+1)=Lk.le v k ++ [UInt8.ofNat (v / (256:Int) ^ k % 256).toNat]:=by
 induction k generalizing v with
 | zero=>simp [Lk.le]
 | succ k ih =>
  have h:=ih (v / 256);have e:v / 256 / (256:Int) ^ k=v / (256:Int) ^ (k+1):=by
   rw [Int.ediv_ediv_of_nonneg (by decide),Int.pow_succ,Int.mul_comm]
  rw [e] at h;show UInt8.ofNat (v % 256).toNat :: Lk.le (v / 256) (k+1)=(UInt8.ofNat (v % 256).toNat :: Lk.le (v / 256) k) ++ _;rw [h];rfl
theorem yT (a b:List UInt8):bs a ++ bs b=bs (a ++ b):=by
 apply ByteArray.ext;simp [bs]
theorem Nk (v x:Int) (k:Nat) (hx:x=v / (256:Int) ^ k % 256):bs (Lk.le v k) ++ strOfNums [x]=bs (Lk.le v (k+1)):=by
 subst hx;rw [you,<- yT];rfl
theorem Cc (v:Int) (n:Nat) (w:World) (hn:n<=4) :
  Calls Tryz.prog 38 #[.int .i64 v,.int .i64 n] w fun e w'=>e = .returned (.string (bs (Lk.le v n)))/\w.grownBy w' none:=by
 have hcv:=ypq;go_enter Tryz.func38,Tryz.ntmps38;go_wp2
 go_loopw [5,6] (fun t i wr=>∃ k:Nat,k<=n/\i = .int .i64 k/\t = .string (bs (Lk.le v k))/\w.grownBy wr none) (fun _ i _=>n - (intOf i).toNat)
 case atStart=>exact ⟨0,Nat.zero_le _,rfl,rfl,World.grownBy.refl _ _⟩
 case round =>
  obtain ⟨k,hk,rfl,rfl,hgr⟩:=hrel;have HG:=hid hgr;clear hgr;by_cases hlt:k < n
  ·rcases (show k=0\/k=1\/k=2\/k=3 from by omega) with rfl | rfl | rfl | rfl
   ·have HS:=hid (Nk v (v % 256) 0 (by simp));go_wp2
    go_roundw
    case rel=>exact ⟨1,by omega,rfl,by rw [<- HS.o],ya HG.o (aH _ _ _)⟩
    case measure=>simp [intOf]; omega
   ·have HS:=hid (Nk v (v / 256 % 256) 1 (by simp));go_wp2
    go_roundw
    case rel=>exact ⟨2,by omega,rfl,by rw [<- HS.o],ya HG.o (aH _ _ _)⟩
    case measure=>simp [intOf]; omega
   ·have HS:=hid (Nk v (v / 65536 % 256) 2 (by simp));go_wp2
    go_roundw
    case rel=>exact ⟨3,by omega,rfl,by rw [<- HS.o],ya HG.o (aH _ _ _)⟩
    case measure=>simp [intOf]; omega
   ·have HS:=hid (Nk v (v / 16777216 % 256) 3 (by simp));go_wp2
    go_roundw
    case rel=>exact ⟨4,by omega,rfl,by rw [<- HS.o],ya HG.o (aH _ _ _)⟩
    case measure=>simp [intOf]; omega
  ·have e:k=n:=by omega
   subst e;go_wp2;go_ret;exact ⟨rfl,HG.o⟩
theorem ymK (l:List UInt8):Lib.strCells (bs l)=qc l:=by
 simp [Lib.strCells,qc,bs]
theorem yla (a b:List UInt8):qc (a ++ b)=qc a ++ qc b:=by simp [qc]
theorem qR (v:Int) (n:Nat) (mn:Int) (hmn:mn=(n:Int)) (w:World) (hn:n<=4) :
  Calls Tryz.prog 38 #[.int .i64 v,.int .i64 mn] w fun e w'=>e = .returned (.string (bs (Lk.le v n)))/\w.grownBy w' none:=by
 subst hmn; exact Cc v n w hn
theorem Gf (ao:Option Addr) (cap:Nat) (xs:List Int) (w:World) (hI:ym w ao xs) (hn:xs.length<=65535) :
  Calls Tryz.prog 39 #[.slice ao xs.length cap] w fun e w'=>e = .returned (.string (bs (Lk.nums xs 4)))/\w.grownBy w' none:=by
 obtain ⟨i0,hi,hz0,hz1,hz2⟩:=info_parts Tryz.uy;have HI:=hid hI;clear hI;go_enter Tryz.func39,Tryz.ntmps39;go_wp2
 go_loopw [3,4] (fun v i wr=>∃ k:Nat,k<=xs.length/\i = .int .i64 k/\(∃ acc:List UInt8,acc=Lk.nums (xs.take k) 4/\wr.ownsRow w.heap.size 5 1 v acc.length (qc acc))/\w.grownBy wr none) (fun _ i _=>xs.length - (intOf i).toNat)
 case atStart=>exact ⟨0,Nat.zero_le _,rfl,⟨[],by simp [Lk.nums],World.ownsRow_nil _ _ _ _⟩,World.grownBy.refl _ _⟩
 case round =>
  obtain ⟨k,hk,rfl,hacc,hgr⟩:=hrel;have HG:=hid hgr;have HC:=hid hacc;clear hgr hacc;by_cases hlt:k < xs.length
  ·obtain ⟨acc,hae,hown⟩:=HC.o;obtain ⟨g,off,hao,hc⟩:=(HI.o.kept (fun a v hv=>yc hv HG.o)) (by omega)
   subst hao;have hck:=hc k hlt;have cL:=hid (fun W=>qR xs[k] 4 4 rfl W (by omega));have hal:acc.length<=262140:=by rw [hae,xg,List.length_take_of_le (by omega)]; omega
   have rF:=hid hae;clear hc hae HC;go_wp2_with fail;refine (cL.o _).mono ?_;rintro e w2 ⟨rfl,hq⟩;have G2:=hid (ya HG.o hq);have hown2:=hown.kept hq (by cases Value.ownBlock _ <;> simp);have hsz:=(ya HG.o hq).size;have hbl:(bs (Lk.le xs[k] 4)).size=4:=by rw [uY,Lk.aD]
   have Ag:=hid hbl;have hb2:(bs (Lk.le xs[k] 4)).size<=4:=by omega
   clear hown hq hbl;go_wp2_with (at_builtin; refine Lib.wpList_append_own_string _ rfl _ _ 121 9 rfl w.heap.size 5 i0 Tryz.underlying121 Tryz.underlying9 hi hz0 hz1 hz2 _ acc.length (qc acc) rfl hown2 (bs (Lk.le xs[k] 4)) rfl (by unfold maxLen; omega) (by omega) (by omega) ?_; intro v' w3 hown' hgrow _)
   rw [ymK,Ag.o] at hown';have G3:=hid (show w.grownBy w3 none from ⟨hgrow.os.trans G2.o.os,hgrow.tape.trans G2.o.tape,hgrow.output.trans G2.o.output,Nat.le_trans G2.o.size hgrow.size,fun i hi' _ =>
    (hgrow.block i (by omega) (fun e=>by have:=(hown2.lt i e.symm).1; omega)).trans (G2.o.block i hi' (by simp))⟩)
   have HOW:=hid hown';clear hgrow hown2 hown';go_wp2
   go_roundw
   case rel =>
    refine ⟨k+1,by omega,by go_num,⟨acc ++ Lk.le xs[k] 4,?_,?_⟩,G3.o⟩
    ·rw [rF.o,Rx xs k 4 hlt]
    ·rw [fE,Lk.aD,yla]; exact HOW.o
   case measure=>simp [intOf]; omega
  ·obtain ⟨acc,hae,hown⟩:=HC.o;rw [List.take_of_length_le (show xs.length<=k by omega)] at hae;subst hae;obtain ⟨Jg,cap',hv⟩:=yj hown;subst hv;have hr:=XM hown;clear HC;go_wp2;go_ret;exact ⟨rfl,HG.o⟩
theorem Yz {α:Type} (f:α->List UInt8) (ys:List α) (k:Nat) (h:k < ys.length):(ys.take (k+1)).flatMap f=(ys.take k).flatMap f ++ f ys[k]:=by
 rw [List.take_succ_eq_append_getElem h,List.flatMap_append];simp
theorem yoo {α:Type} (f:α->List UInt8) (c:Nat) (ys:List α) (hf:∀ y∈ys,(f y).length<=c):(ys.flatMap f).length<=ys.length * c:=by
 induction ys with
 | nil=>simp
 | cons y t ih =>
  have h1:=hf y (by simp);have h2:=ih (fun z hz=>hf z (by simp [hz]));rw [List.flatMap_cons,fE,gL,Nat.succ_mul];omega
theorem Xq {α:Type} (f:α->List UInt8) (c k:Nat) (ys:List α) (hf:∀ y∈ys,(f y).length<=c):((ys.take k).flatMap f).length<=ys.length * c:=by
 have h1:=yoo f c (ys.take k) (fun y hy=>hf y (List.mem_of_mem_take hy));have h2:(ys.take k).length * c<=ys.length * c:=Nat.mul_le_mul_right c (by simp; omega);omega
theorem yoz (r:Lk.Rel):(Lk.iG r).length<=7:=by
 simp only [Lk.iG,fE,Lk.aD];omega
theorem ymk (b:List UInt8):(⟨#[76,75]⟩:ByteArray) ++ bs b=bs ([76,75] ++ b):=yT [76,75] b
theorem ynO (y:Lk.Sym) (h:y.name.length<=255):(Lk.iN y).length<=260:=by
 simp only [Lk.iN,fE,Lk.aD];omega
theorem nu (v:Int) (n:Nat) (hn:n<=4):(bs (Lk.le v n)).size<=4:=by rw [uY,Lk.aD]; exact hn
theorem vR (l:List UInt8) (k:Nat) (h:l.length<=k):(bs l).size<=k:=by rw [uY]; exact h
theorem ylV (g:Nat) (o:Lk.Obj) (w:World) (h:yq w g o) (hn:kV o) (ha:o.align.length=4) (hz:o.syms.length<=16/\o.aj.length<=32) (hl:∀ y∈o.syms,y.name.length<=255) :
  Calls Tryz.prog 62 #[.pointer (some ⟨g,0,none⟩)] w fun e w'=>e = .returned (.string (bs (Lk.kP o)))/\w.grownBy w' none:=by
 obtain ⟨at_,ct,af,cf,ad,cd,aa,ca,gF,cs,ar,cr,hb,h1,h2,h3,h4,h5,h6⟩:=h.open;have HB:=hid hb;have I1:=hid (ym.aB h1);have I2:=hid (ym.aB h2);have I3:=hid (ym.aB h3);have I4:=hid (ym.aB h4);have I5:=hid (yI.aB h5);have I6:=hid (lX.aB h6);have k0:=hb.cell 0;obtain ⟨m1,m2,m3,m4,m5,m6⟩:=hn;have HA:=hid ha;have HL:=hid hl;have ha4:4<=o.align.length:=by omega
 have ha5:o.align.length<=4:=by omega
 clear h hb h1 h2 h3 h4 h5 h6 hl ha;have z1:=nu o.text.length 2 (by decide);have z2:=nu o.far.length 2 (by decide);have z3:=nu o.data.length 2 (by decide);have z4:=nu o.bss 2 (by decide);go_enter Tryz.func62,Tryz.ntmps62;go_wp2_with fail;refine (qR (o.text.length:Int) 2 2 rfl w (by omega)).mono ?_;rintro e w1 ⟨rfl,q1⟩;have k1:=(HB.o.grown q1 (by simp)).cell 1;have Q1:=hid q1;clear q1 k0;go_wp2_with fail;refine (qR (o.far.length:Int) 2 2 rfl w1 (by omega)).mono ?_;rintro e w2 ⟨rfl,q2⟩;have Q2:=hid (ya Q1.o q2);have k2:=(HB.o.grown Q2.o (by simp)).cell 2;clear q2 k1 Q1;go_wp2_with fail;refine (qR (o.data.length:Int) 2 2 rfl w2 (by omega)).mono ?_
 rintro e w3 ⟨rfl,q3⟩;have Q3:=hid (ya Q2.o q3);have k3:=(HB.o.grown Q3.o (by simp)).cell 3;clear q3 k2 Q2;go_wp2_with fail;refine (qR o.bss 2 2 rfl w3 (by omega)).mono ?_;rintro e w4 ⟨rfl,q4⟩;have Q4:=hid (ya Q3.o q4);clear q4 k3 Q3;go_wp2;obtain ⟨p1,hp1⟩:∃ p1,p1=[76,75] ++ (Lk.le o.text.length 2 ++ (Lk.le o.far.length 2 ++ (Lk.le o.data.length 2 ++ Lk.le o.bss 2))):=⟨_,rfl⟩
 have zh:=hid hp1;have hl1:p1.length<=10:=by rw [hp1]; simp [Lk.aD]
 clear hp1
 go_loopw [3,8] (fun t i wr=>∃ n:Nat,n<=4/\i = .int .i64 n/\(∃ acc:List UInt8,t = .string (bs acc)/\acc=p1 ++ Lk.nums (o.align.take n) 1)/\w.grownBy wr none) (fun _ i _=>4 - (intOf i).toNat)
 case atStart =>
  refine ⟨0,Nat.zero_le _,rfl,⟨p1,?_,by simp [Lk.nums]⟩,Q4.o⟩;rw [zh.o,ymk,yT,yT,yT];simp
 case round =>
  obtain ⟨n,JG,rfl,hacc,hgr⟩:=hrel;obtain ⟨acc,hte,hae⟩:=hacc;subst hte;have HG:=hid hgr;have rF:=hid hae;clear hgr hae;have B:=HB.o.grown HG.o (by simp);by_cases hlt:n < 4
  ·obtain ⟨ga,off,hao,hc⟩:=(I4.o.kept (fun a v hv=>yc hv HG.o)) (by omega)
   subst hao;have hck:=hc n (by omega);have k4:=B.cell 4;have hlt2:n < o.align.length:=by omega
   have g1:(n:Int) < 4:=by omega
   have g2:(n:Int) < (o.align.length:Int):=by omega
   have cL:=hid (fun W=>qR (o.align[n]'hlt2) 1 1 rfl W (by omega));clear hc B;go_wp2_with fail;refine (cL.o _).mono ?_;rintro e w5 ⟨rfl,q5⟩;have Q5:=hid (ya HG.o q5);clear q5;have y1:=vR acc 14 (by rw [rF.o,fE,xg,List.length_take]; omega);have y2:=nu (o.align[n]'hlt2) 1 (by decide);go_wp2
   go_roundw
   case rel=>exact ⟨n+1,by omega,by go_num,⟨acc ++ Lk.le (o.align[n]'hlt2) 1,by rw [<- yT],by rw [rF.o,Rx o.align n 1 hlt2,List.append_assoc]⟩,Q5.o⟩
   case measure=>simp [intOf]; omega
  ·have hae:=rF.o;rw [List.take_of_length_le (show o.align.length<=n by omega)] at hae;have qE:=hid hae;have hl2:acc.length<=14:=by rw [hae,fE,xg]; omega
   have k5:=B.cell 5;have g1:(4:Int)<=(n:Int):=by omega
   clear hae rF B;go_wp2_with fail;refine (qR (o.syms.length:Int) 1 1 rfl wr (by omega)).mono ?_;rintro e w6 ⟨rfl,q6⟩;have Q6:=hid (ya HG.o q6);have k6:=(HB.o.grown Q6.o (by simp)).cell 6;clear q6 k5;go_wp2_with fail;refine (qR (o.aj.length:Int) 1 1 rfl w6 (by omega)).mono ?_;rintro e w7 ⟨rfl,q7⟩;have Q7:=hid (ya Q6.o q7);clear q7 k6;have y1:=vR acc 14 hl2;have y2:=nu o.syms.length 1 (by decide);have y3:=nu o.aj.length 1 (by decide);go_wp2;obtain ⟨p3,hp3⟩:∃ p3,p3=acc ++ (Lk.le o.syms.length 1 ++ Lk.le o.aj.length 1):=⟨_,rfl⟩
   have TV:=hid hp3;have hl3:p3.length<=16:=by rw [hp3,fE,fE,Lk.aD,Lk.aD]; omega
   clear hp3
   go_loopw [3,9] (fun t i wr=>∃ n:Nat,n<=o.syms.length/\i = .int .i64 n/\(∃ acc:List UInt8,t = .string (bs acc)/\acc=p3 ++ (o.syms.take n).flatMap Lk.iN)/\w.grownBy wr none) (fun _ i _=>o.syms.length - (intOf i).toNat)
   case atStart =>
    refine ⟨0,Nat.zero_le _,rfl,⟨p3,?_,by simp⟩,Q7.o⟩;rw [TV.o,yT,yT];simp
   case round =>
    obtain ⟨n,JG,rfl,hacc,hgr⟩:=hrel;obtain ⟨acc,hte,hae⟩:=hacc;subst hte;have HG:=hid hgr;have rF:=hid hae;have hla:acc.length<=4176:=by
     have:=Xq Lk.iN 260 n o.syms (fun y hy=>ynO y (HL.o y hy))
     rw [hae,fE];omega
    clear hgr hae;have B:=HB.o.grown HG.o (by simp);have kk:=B.cell 5;by_cases hlt:n < o.syms.length
    ·obtain ⟨sg,hao,hgs,hc⟩:=(I5.o.grown HG.o) (by omega)
     subst hao;obtain ⟨q0,q1,q2,q3⟩:=hc n hlt;have S0:=hid (ye.new wr #[.string (bs o.syms[n].name),.int .i64 o.syms[n].bind,.int .i64 o.syms[n].ah,.int .i64 o.syms[n].off] 77);have G0:=hid (ya HG.o (aH wr (.cells #[.string (bs o.syms[n].name),.int .i64 o.syms[n].bind,.int .i64 o.syms[n].ah,.int .i64 o.syms[n].off] 77) none));clear hc B;go_wp2_with fail;refine (qR ((bs o.syms[n].name).size:Int) 1 1 rfl (wr.alloc (.cells #[.string (bs o.syms[n].name),.int .i64 o.syms[n].bind,.int .i64 o.syms[n].ah,.int .i64 o.syms[n].off] 77)) (by omega)).mono ?_;rintro e v1 ⟨rfl,r1⟩;have S1:=hid (S0.o.grown r1 (by simp))
     have G1:=hid (ya G0.o r1);clear r1;have c11:=S1.o.cell 1;go_wp2_with fail;refine (qR o.syms[n].bind 1 1 rfl v1 (by omega)).mono ?_;rintro e v2 ⟨rfl,r2⟩;have S2:=hid (S1.o.grown r2 (by simp));have G2:=hid (ya G1.o r2);clear r2;have c22:=S2.o.cell 2;go_wp2_with fail;refine (qR o.syms[n].ah 1 1 rfl v2 (by omega)).mono ?_;rintro e v3 ⟨rfl,r3⟩;have S3:=hid (S2.o.grown r3 (by simp));have G3:=hid (ya G2.o r3);clear r3;have c33:=S3.o.cell 3;go_wp2_with fail;refine (qR o.syms[n].off 2 2 rfl v3 (by omega)).mono ?_;rintro e v4 ⟨rfl,r4⟩;have S4:=hid (S3.o.grown r4 (by simp));have G4:=hid (ya G3.o r4)
     clear r4;have c40:=S4.o.cell 0;have x0:=vR acc 4176 hla;have x1:=nu ((bs o.syms[n].name).size:Int) 1 (by decide);have x2:=nu o.syms[n].bind 1 (by decide);have x3:=nu o.syms[n].ah 1 (by decide);have x4:=nu o.syms[n].off 2 (by decide);have xn:=vR o.syms[n].name 255 (HL.o _ (dM hlt));have Fy:=hid (uY o.syms[n].name);go_wp2
     go_roundw
     case rel =>
      refine ⟨n+1,by omega,by go_num,⟨acc ++ Lk.iN o.syms[n],?_,by rw [rF.o,Yz Lk.iN o.syms n hlt,List.append_assoc]⟩,G4.o⟩;rw [yT,yT,yT,yT,yT,Fy.o];simp [Lk.iN]
     case measure=>simp [intOf]; omega
    ·have hae:=rF.o;rw [List.take_of_length_le (show o.syms.length<=n by omega)] at hae;have HP4:=hid hae;clear hae rF;have B2:=HB.o.grown HG.o (by simp);go_wp2;obtain ⟨p4,Qb⟩:∃ p4,p4=acc:=⟨_,rfl⟩
     have TW:=hid Qb;have hl4:p4.length<=4176:=by rw [Qb]; exact hla
     clear Qb
     go_loopw [3,11] (fun t i wr=>∃ n:Nat,n<=o.aj.length/\i = .int .i64 n/\(∃ acc:List UInt8,t = .string (bs acc)/\acc=p4 ++ (o.aj.take n).flatMap Lk.iG)/\w.grownBy wr none) (fun _ i _=>o.aj.length - (intOf i).toNat)
     case atStart =>
      exact ⟨0,Nat.zero_le _,rfl,⟨p4,by rw [TW.o],by simp⟩,HG.o⟩
     case round =>
      obtain ⟨n,JG,rfl,hacc,hgr⟩:=hrel;obtain ⟨acc,hte,hae⟩:=hacc;subst hte;have HG:=hid hgr;have rF:=hid hae;have hla:acc.length<=4400:=by
       have:=Xq Lk.iG 7 n o.aj (fun y hy=>yoz y)
       rw [hae,fE];omega
      clear hgr hae;have B:=HB.o.grown HG.o (by simp);have kk:=B.cell 6;by_cases hlt:n < o.aj.length
      ·obtain ⟨sg,hao,hgs,hc⟩:=(I6.o.grown HG.o) (by omega)
       subst hao;obtain ⟨q0,q1,q2,q3,q4⟩:=hc n hlt;have S0:=hid (ye.new wr #[.int .i64 o.aj[n].ah,.int .i64 o.aj[n].off,.int .i64 o.aj[n].kind,.int .i64 o.aj[n].sym,.int .i64 o.aj[n].addend] 83);have G0:=hid (ya HG.o (aH wr (.cells #[.int .i64 o.aj[n].ah,.int .i64 o.aj[n].off,.int .i64 o.aj[n].kind,.int .i64 o.aj[n].sym,.int .i64 o.aj[n].addend] 83) none));clear hc B;have x0:=vR acc 4400 hla;have x1:=nu o.aj[n].ah 1 (by decide);have x2:=nu o.aj[n].kind 1 (by decide);have x3:=nu o.aj[n].off 2 (by decide);have x4:=nu o.aj[n].sym 1 (by decide);have x5:=nu o.aj[n].addend 2 (by decide);go_wp2_with fail
       refine (qR o.aj[n].ah 1 1 rfl (wr.alloc (.cells #[.int .i64 o.aj[n].ah,.int .i64 o.aj[n].off,.int .i64 o.aj[n].kind,.int .i64 o.aj[n].sym,.int .i64 o.aj[n].addend] 83)) (by omega)).mono ?_;rintro e v1 ⟨rfl,r1⟩;have S1:=hid (S0.o.grown r1 (by simp));have G1:=hid (ya G0.o r1);clear r1;have c12:=S1.o.cell 2;go_wp2_with fail;refine (qR o.aj[n].kind 1 1 rfl v1 (by omega)).mono ?_;rintro e v2 ⟨rfl,r2⟩;have S2:=hid (S1.o.grown r2 (by simp));have G2:=hid (ya G1.o r2);clear r2;have c21:=S2.o.cell 1;go_wp2_with fail;refine (qR o.aj[n].off 2 2 rfl v2 (by omega)).mono ?_;rintro e v3 ⟨rfl,r3⟩;have S3:=hid (S2.o.grown r3 (by simp))
       have G3:=hid (ya G2.o r3);clear r3;have c33:=S3.o.cell 3;go_wp2_with fail;refine (qR o.aj[n].sym 1 1 rfl v3 (by omega)).mono ?_;rintro e v4 ⟨rfl,r4⟩;have S4:=hid (S3.o.grown r4 (by simp));have G4:=hid (ya G3.o r4);clear r4;have c44:=S4.o.cell 4;go_wp2_with fail;refine (qR o.aj[n].addend 2 2 rfl v4 (by omega)).mono ?_;rintro e v5 ⟨rfl,r5⟩;have S5:=hid (S4.o.grown r5 (by simp));have G5:=hid (ya G4.o r5);clear r5;go_wp2
       go_roundw
       case rel =>
        refine ⟨n+1,by omega,by go_num,⟨acc ++ Lk.iG o.aj[n],?_,by rw [rF.o,Yz Lk.iG o.aj n hlt,List.append_assoc]⟩,G5.o⟩;rw [yT,yT,yT,yT,yT];simp [Lk.iG]
       case measure=>simp [intOf]; omega
      ·have hae:=rF.o;rw [List.take_of_length_le (show o.aj.length<=n by omega)] at hae;have HP6:=hid hae;clear hae rF;have kA:=(HB.o.grown HG.o (by simp)).cell 0;go_wp2_with fail;refine (Gf at_ ct o.text wr (I1.o.kept (fun a v hv=>yc hv HG.o)) (by omega)).mono ?_;rintro e u1 ⟨rfl,r1⟩;have F1:=hid (ya HG.o r1);have kA1:=(HB.o.grown F1.o (by simp)).cell 1;clear r1;go_wp2_with fail;refine (Gf af cf o.far u1 (I2.o.kept (fun a v hv=>yc hv F1.o)) (by omega)).mono ?_;rintro e u2 ⟨rfl,r2⟩;have F2:=hid (ya F1.o r2);have kA2:=(HB.o.grown F2.o (by simp)).cell 2;clear r2;go_wp2_with fail;refine (Gf ad cd o.data u2 (I3.o.kept (fun a v hv=>yc hv F2.o)) (by omega)).mono ?_
       rintro e u3 ⟨rfl,r3⟩;have F3:=hid (ya F2.o r3);clear r3;have x0:=vR acc 4400 (by omega);have x1:=vR (Lk.nums o.text 4) 262140 (by rw [xg]; omega);have x2:=vR (Lk.nums o.far 4) 262140 (by rw [xg]; omega);have x3:=vR (Lk.nums o.data 4) 262140 (by rw [xg]; omega);go_wp2;go_ret;refine ⟨EM ?_,F3.o⟩;rw [yT,yT,yT]
       congr 1
       rw [HP6.o,TW.o,HP4.o,TV.o,qE.o,zh.o];simp [Lk.kP]
end Go.Proofs.YtelehpmjhjljgaaGreatDoor
