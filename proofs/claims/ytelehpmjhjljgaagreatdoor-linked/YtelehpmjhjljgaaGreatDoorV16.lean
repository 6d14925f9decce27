
import Derived.Test.YtelehpmjhjljgaaGreatDoorV13
set_option maxHeartbeats 16000000
set_option maxRecDepth 100000
namespace Go.Proofs.YtelehpmjhjljgaaGreatDoor
open Go.RowKit
theorem yfj (g B j:Nat) (o:Lk.Obj) (at_:Option Addr) (ct:Nat) (af:Option Addr) (cf:Nat) (ad:Option Addr) (cd:Nat) (Z:Nat) (w:World) (h:yq w g o) (hs:oV w B o at_ ct af cf ad cd Z) (hn:kV o) (hb4:oI o.align) (hw:pR o)
  (hgr:∀ r∈o.aj,r.off<=9223372036854775807) (hk:(j+1) < o.aj.length) (eP:yV o (o.aj[j]'(by omega))) (hpre:(1<=(o.aj[j+1]'hk).ah/\(o.aj[j+1]'hk).ah<=3)/\0<=(o.aj[j+1]'hk).off/\(o.aj[j+1]'hk).off % 4=0) (hkd:2<=(o.aj[j+1]'hk).kind/\(o.aj[j+1]'hk).kind<=4) :
  Calls Tryz.prog 90 #[.pointer (some ⟨g,0,none⟩),.slice (some ⟨B,0,none⟩) 5 5,.int .i64 ((j+1:Nat):Int)] w fun e w'=>yg e (kD o (j+1) hk)/\w.grownBy w' none:=by
 have cZ:=hid hpre;have gM:=hid hkd;clear hpre hkd;obtain ⟨_,_,_,_,_,_,aa,ca,gF,cs,ar,cr,hb,-,-,-,h4,h5,h6⟩:=h.open;have hnr:=hn.2.2.2.2.2;have hns:=hn.2.2.2.2.1;obtain ⟨rg,hao,hgs,hc⟩:=lX.aB h6 (by omega);subst hao;obtain ⟨q0,q1,q2,q3,q4⟩:=hc (j+1) hk;have k6:=hb.cell 6;have S:=hid (yI.aB h5);have qI:=hb4.1;obtain ⟨ga,pO,pI,hca⟩:=ym.aB h4 (by omega);subst pI;have xC:=hid hca;have rG:=hid hb4;have iU:=yZ h4;have HB:=hid hb;have HS:=hid hs;have HW:=hid hw;have hsm:=hid (fun ah=>yE hn ah);have f3:=hgr _ (dM hk);have hkj:j < o.aj.length:=by omega
 have HP:=hid (hc j hkj);have hpa:=eP.2.1;have LB:0<=(o.aj[j]'hkj).off/\(o.aj[j]'hkj).off<=1048576:=by
  have h1:=eP.2.2.2.2.1;have h2:=yE hn (o.aj[j]'hkj).ah;have h3:=yC hpa;unfold yA at h1;omega
 have HQ:=hid (show kD o (j+1) hk↔yV o (o.aj[j+1]'hk)/\oL (o.aj[j]'hkj) (o.aj[j+1]'hk) from ⟨fun h=>⟨h.1,h.2 (Nat.succ_pos j)⟩,fun h=>⟨h.1,fun _=>h.2⟩⟩);generalize kD o (j+1) hk=Q at *;generalize o.aj[j]'hkj=p at *;have Br:=yC hpa;have cP:=hid (fun W=>tN p W hpa.six);have u7:=hid (fun r=>show oL p r↔if r.ah=p.ah then p.off+4 * yr p<=r.off else p.ah < r.ah from Iff.rfl);generalize oL p=FP at *;generalize yr p=kF at *;obtain ⟨dF,gJ,jH,nG,nE⟩:=p;unfold bY at cP;simp only at *;have g1:(j:Int)+1 < (o.aj.length:Int):=by omega
 have g2:(j:Int) < (o.aj.length:Int):=by omega
 clear eP hpa;generalize o.aj[(j+1)]'hk=r at *;have nK:=hid (fun (a:yl r) (b:yA o r) (c:j6 (yh o r.ah))=>w9 a b c);have cC:=hid (fun W (a:yl r)=>tN r W a.six);have qF:=hid (fun (a:yl r)=>yC a);have jI:=hid (show yA o r↔0<=r.off/\r.off % 4=0/\r.off / 4+yr r<=(yh o r.ah).length from Iff.rfl);have bL:=hid (show yz o r=((yh o r.ah).drop (r.off / 4).toNat).take (yr r).toNat from rfl);have jA:=hid (show yQ o r↔∃ i,∃ h:i < o.syms.length,o.syms[i].ah=r.ah/\r.off < o.syms[i].off/\o.syms[i].off < r.off+4 * yr r from Iff.rfl);have jh:=hid (show jw o r↔if r.kind=6 then r.sym=0 else 0<=r.sym/\r.sym < o.syms.length from Iff.rfl)
 have nL:=hid (show j4 o r↔(r.kind=6->r.addend+4<=yL (o.align.getD (r.ah.toNat - 1) 0)) from Iff.rfl);have kJ:=hid (show yH r↔((r.ah=1\/r.ah=2)/\1<=r.kind/\r.kind<=6)\/(r.ah=3/\r.kind=1) from Iff.rfl);have jV:=hid (show yl r↔if r.kind=1\/r.kind=5 then -2048<=r.addend/\r.addend<=2047 else if r.kind=6 then r.addend=4\/r.addend=12 else r.addend=0 from Iff.rfl);have bS:=hid (show yV o r↔yH r/\yl r/\jw o r/\j4 o r/\yA o r/\yv r.kind (yz o r)/\¬ yQ o r from Iff.rfl);have pW:=hid (u7.o r);generalize FP r=FQ at *;clear u7;generalize yV o r=RO at *;generalize jw o r=SI at *;generalize j4 o r=BO at *;generalize yH r=KO at *
 generalize yl r=AO at *;generalize yA o r=AB at *;generalize yQ o r=WI at *;generalize yz o r=ab at *;have nM:=hid (show r.kind=4\/r.kind=5->yr r=2 from fun h=>if_pos h);generalize yr r=sp at *;unfold bY at cC;obtain ⟨ah,off,kind,sym,addend⟩:=r;simp only at *;have no:Hd (∀ W,(¬ Q)->w.grownBy W none->yg (.returned (.bool false)) Q/\w.grownBy W none):=fun W a b=>⟨yg.no a,b⟩
 have B0:=ye.new w #[.int .i64 ah,.int .i64 off,.int .i64 kind,.int .i64 sym,.int .i64 addend] 83;have HB0:=hid B0;have G0:=hid (aH w (.cells #[.int .i64 ah,.int .i64 off,.int .i64 kind,.int .i64 sym,.int .i64 addend] 83) none);clear h hs hn h4 h5 h6 hb hb4 hw hgr hca hc B0;go_enter Tryz.func90,Tryz.ntmps90;by_cases c:ah < 1
 ·have d:decide (ah < 1)=true:=by simp; omega
  have:=cZ.o
  have:=gM.o
  omega
 have n0:decide (ah < 1)=false:=by simp; omega
 have m0:¬ (ah < 1):=c;clear c;by_cases c:3 < ah
 ·have d:decide (3 < ah)=true:=by simp; omega
  have:=cZ.o
  have:=gM.o
  omega
 have n1:decide (3 < ah)=false:=by simp; omega
 have m1:¬ (3 < ah):=c;clear c;by_cases c:kind < 1
 ·have d:decide (kind < 1)=true:=by simp; omega
  have:=cZ.o
  have:=gM.o
  omega
 have n2:decide (kind < 1)=false:=by simp; omega
 have m2:¬ (kind < 1):=c;clear c;by_cases c:6 < kind
 ·have d:decide (6 < kind)=true:=by simp; omega
  have:=cZ.o
  have:=gM.o
  omega
 have n3:decide (6 < kind)=false:=by simp; omega
 have m3:¬ (6 < kind):=c;clear c;by_cases c:off < 0
 ·have d:decide (off < 0)=true:=by simp; omega
  have:=cZ.o
  have:=gM.o
  omega
 have n4:decide (off < 0)=false:=by simp; omega
 have m4:¬ (off < 0):=c;clear c;have m5:0<=off:=by omega
 by_cases c:off % 4=0
 rotate_left
 ·have d:(off % 4 == 0)=false:=beq_eq_false_iff_ne.2 c;have CC:=hid c;clear c
  have:=cZ.o
  have:=gM.o
  have:=CC.o
  omega
 have n5:(off % 4 == 0)=true:=beq_iff_eq.2 c;have C5:=hid c;obtain ⟨q,hq4⟩:∃ q:Nat,off=4 * (q:Int):=⟨(off / 4).toNat,by omega⟩
 have iV:off / 4=(q:Int):=by omega
 have jJ:=hid iV;have oN:=hid hq4;clear c hq4 iV;obtain ⟨n,hsn⟩:∃ n:Nat,ah=(n:Int)+1:=⟨(ah - 1).toNat,by omega⟩
 have hn2:n<=2:=by omega
 subst hsn;clear m0 m1;obtain ⟨CW,aS,s1,s2,s3,s4⟩:=(HS.o.grown G0.o).sec n hn2;unfold maxLen at s3;have s5:=hsm.o ((n:Int)+1);have kK:=hid s4;clear s4;have oO:=hid (xQ HW.o ((n:Int)+1));generalize yh o ((n:Int)+1)=ws at *;obtain ⟨hk1,hk2⟩:=gM.o
 ·have k1:(kind == 1)=false:=beq_eq_false_iff_ne.2 (by omega);have k5:(kind == 5)=false:=beq_eq_false_iff_ne.2 (by omega);have k6':(kind == 6)=false:=beq_eq_false_iff_ne.2 (by omega);have tT:=hid (show AO↔addend=0 from by rw [jV.o,if_neg (by omega),if_neg (by omega)]);by_cases c:addend < 0
  ·have d:decide (addend < 0)=true:=by simp; omega
   have CC:=hid (show ¬ AO from fun h=>by rw [tT.o] at h; omega);go_wp2;go_ret;exact no.o _ (fun h=>CC.o (bS.o.1 (HQ.o.1 h).1).2.1) G0.o
  have a1:decide (addend < 0)=false:=by simp; omega
  have e1:¬ (addend < 0):=c;clear c;by_cases c:0 < addend
  ·have d:decide (0 < addend)=true:=by simp; omega
   have CC:=hid (show ¬ AO from fun h=>by rw [tT.o] at h; omega);go_wp2;go_ret;exact no.o _ (fun h=>CC.o (bS.o.1 (HQ.o.1 h).1).2.1) G0.o
  have a2:decide (0 < addend)=false:=by simp; omega
  have e2:¬ (0 < addend):=c;clear c;have HA:=hid (tT.o.2 (by omega));have hsp:=qF.o HA.o;have qY:=hid (fun W=>cC.o W HA.o);go_wp2_with fail;refine (qY.o _).mono ?_;rintro e w2 ⟨rfl,hq2⟩;have BR:=hid (HB0.o.grown hq2 (by simp));have G2:=hid (ya G0.o hq2);have t1:=yc s1 hq2;have nZ:=hid (kK.o.kept (fun a v hv=>yc hv hq2));have c0:=BR.o.cell 0;have c1:=BR.o.cell 1;have c2:=BR.o.cell 2;have c3:=BR.o.cell 3;have c4:=BR.o.cell 4;have b4:=(HB.o.grown G2.o (by simp)).cell 4;have b5:=(HB.o.grown G2.o (by simp)).cell 5;have b6:=(HB.o.grown G2.o (by simp)).cell 6;clear hq2 s1 q0 q1 q2 q3 q4 k6;have bW:=BR.o.lt
  have HA2:=hid HA.o;by_cases r1:(ws.length:Int) < off / 4+sp
  ·have d:decide ((ws.length:Int) < off / 4+sp)=true:=by simp; omega
   have CC:=hid (show ¬ AB from fun h=>by have:=(jI.o.1 h).2.2; omega);go_wp2
   go_quiet (fail)
   go_wp2;go_ret;exact no.o _ (fun h=>CC.o (bS.o.1 (HQ.o.1 h).1).2.2.2.2.1) (yd G2.o nq)
  have D8:decide ((ws.length:Int) < off / 4+sp)=false:=by simp; omega
  have fK:=hid (jI.o.2 ⟨m5,C5.o,by omega⟩);by_cases r2:n=2
  ·have tY:((n:Int)+1 == 3)=true:=by simp; omega
   have CC:=hid (show ¬ KO from fun h=>by have:=kJ.o.1 h; omega);clear r2;go_wp2
   go_quiet (fail)
   go_wp2;go_ret;exact no.o _ (fun h=>CC.o (bS.o.1 (HQ.o.1 h).1).1) (yd G2.o nq)
  have tY:((n:Int)+1 == 3)=false:=by simp; omega
  have oM:=hid (kJ.o.2 (by omega));go_wp2
  go_quiet (fail)
  have fF:=hid (BR.o.drewN nq);have G3:=hid (yd G2.o nq);have t3:=yc t1 (yd (World.grownBy.refl w2 none) nq);have nC:=hid (nZ.o.kept (fun a v hv=>yc hv (yd (World.grownBy.refl w2 none) nq)));clear c0 c1 c2 c3 c4 b4 b5 b6 t1 nZ BR G2 bW;generalize w2.drewN nq=w3 at *;have bW:=fF.o.lt;have u0:=yc HP.o.1 G3.o;have u1:=yc HP.o.2.1 G3.o;have u2:=yc HP.o.2.2.1 G3.o;have u3:=yc HP.o.2.2.2.1 G3.o;have u4:=yc HP.o.2.2.2.2 G3.o;have b6:=(HB.o.grown G3.o (by simp)).cell 6;have BP:=hid (ye.new w3 #[.int .i64 dF,.int .i64 gJ,.int .i64 jH,.int .i64 nG,.int .i64 nE] 83);have GP:=hid (aH w3 (.cells #[.int .i64 dF,.int .i64 gJ,.int .i64 jH,.int .i64 nG,.int .i64 nE] 83) none)
  go_wp2_with fail;refine (cP.o _).mono ?_;rintro e w4 ⟨rfl,hq4⟩;have GQ:=hid (ya GP.o hq4);have y8:=hid (BP.o.grown hq4 (by simp));have bZ:=hid (fF.o.grown GQ.o (by simp));have G4:=hid (ya G3.o GQ.o);have t4:=yc t3 GQ.o;have oh:=hid (nC.o.kept (fun a v hv=>yc hv GQ.o));have c0:=bZ.o.cell 0;have c1:=bZ.o.cell 1;have p0:=y8.o.cell 0;have p1:=y8.o.cell 1;clear hq4 u0 u1 u2 u3 u4 t3 nC b6 fF G3 GQ BP GP bW;have bW:=bZ.o.lt;have Qx:IntKind.i64.wrap (4 * kF)=4 * kF:=IntWalk.i64_in _ ⟨by omega,by omega⟩;have Qy:IntKind.i64.wrap (gJ+4 * kF)=gJ+4 * kF:=IntWalk.i64_in _ ⟨by omega,by omega⟩;by_cases r5:(n:Int)+1 < dF
  ·have d:decide ((n:Int)+1 < dF)=true:=by simp; omega
   have CC:=hid (show ¬ FQ from fun h=>by rw [pW.o,if_neg (by omega)] at h; omega);go_wp2;go_ret;exact no.o _ (fun h=>CC.o (HQ.o.1 h).2) G4.o
  have Pg:decide ((n:Int)+1 < dF)=false:=by simp; omega
  by_cases r6:(n:Int)+1=dF
  rotate_left
  ·have D9:((n:Int)+1 == dF)=false:=beq_eq_false_iff_ne.2 r6;have rJ:=hid (show FQ from by rw [pW.o,if_neg (by omega)]; omega);clear r6;have c0:=bZ.o.cell 0;have c1:=bZ.o.cell 1;have c2:=bZ.o.cell 2;have c3:=bZ.o.cell 3;have c4:=bZ.o.cell 4;have b4:=(HB.o.grown G4.o (by simp)).cell 4;have b5:=(HB.o.grown G4.o (by simp)).cell 5;by_cases r8:sym < 0
   ·have d:decide (sym < 0)=true:=by simp; omega
    have CC:=hid (show ¬ SI from fun h=>by have h2:=jh.o.1 h; first | omega | (rw [if_neg (by omega)] at h2; omega) | (simp at h2; omega));go_wp2
    go_quiet (fail)
    go_wp2;go_ret;exact no.o _ (fun h=>CC.o (bS.o.1 (HQ.o.1 h).1).2.2.1) (yd G4.o nq)
   have vw:decide (sym < 0)=false:=by simp; omega
   by_cases r9:(o.syms.length:Int)<=sym
   ·have d:decide ((o.syms.length:Int)<=sym)=true:=by simp; omega
    have CC:=hid (show ¬ SI from fun h=>by have h2:=jh.o.1 h; first | omega | (rw [if_neg (by omega)] at h2; omega) | (simp at h2; omega));go_wp2
    go_quiet (fail)
    go_wp2;go_ret;exact no.o _ (fun h=>CC.o (bS.o.1 (HQ.o.1 h).1).2.2.1) (yd G4.o nq)
   have CG:decide ((o.syms.length:Int)<=sym)=false:=by simp; omega
   have lu:=hid (show SI from jh.o.2 (by first | (rw [if_neg (by omega)]; omega) | (simp; omega)));have kZ:=hid (show BO from nL.o.2 (fun h=>by exfalso; omega));go_wp2
   go_quiet (fail)
   have gK:=hid (bZ.o.drewN nq);have G5:=hid (yd G4.o nq);have t5:=yc t4 (yd (World.grownBy.refl w4 none) nq);have lD:=hid (oh.o.kept (fun a v hv=>yc hv (yd (World.grownBy.refl w4 none) nq)));clear c0 c1 c2 c3 c4 b4 b5 t4 oh bZ G4 bW;generalize w4.drewN nq=w5 at *;have bW:=gK.o.lt;have b5:=(HB.o.grown G5.o (by simp)).cell 5;go_wp2;have S5:=hid (S.o.grown G5.o);have vH:IntKind.i64.wrap (4 * sp)=4 * sp:=IntWalk.i64_in _ ⟨by omega,by omega⟩;have lS:IntKind.i64.wrap (off+4 * sp)=off+4 * sp:=IntWalk.i64_in _ ⟨by omega,by omega⟩
   go_loopw [13] (fun i wr=>∃ a:Nat,a<=o.syms.length/\i = .int .i64 a/\(∀ b (hb:b < o.syms.length),b < a->¬ (o.syms[b].ah=(n:Int)+1/\off < o.syms[b].off/\o.syms[b].off < off+4 * sp))/\w5.grownBy wr none) (fun i _=>o.syms.length - (intOf i).toNat)
   case atStart=>exact ⟨0,Nat.zero_le _,rfl,fun j _ hj=>absurd hj (Nat.not_lt_zero j),World.grownBy.refl _ _⟩
   case round =>
    obtain ⟨a,ha,rfl,hall,hgr⟩:=hrel;have eu:=hid hall;have HG:=hid hgr;clear hall hgr;have fO:=hid (gK.o.grown HG.o (by simp));have c0:=fO.o.cell 0;have c1:=fO.o.cell 1;have oQ:=fO.o.lt;have hnn:w.heap.size≠wr.heap.size:=by omega
    have b5:=(HB.o.grown (ya G5.o HG.o) (by simp)).cell 5;have GA:=hid (fun ob:Obj=>aH wr ob none);by_cases hlt:a < o.syms.length
    ·obtain ⟨sg,hso,lJ,hcs⟩:=S5.o.grown HG.o (by omega);subst hso;obtain ⟨y0,y1,y2,y3⟩:=hcs a hlt;clear hcs;have g3:(a:Int) < (o.syms.length:Int):=by omega
     by_cases x1:o.syms[a].ah=(n:Int)+1
     ·have z1:(o.syms[a].ah == (n:Int)+1)=true:=beq_iff_eq.2 x1;by_cases x2:off < o.syms[a].off
      ·have z2:decide (off < o.syms[a].off)=true:=by simpa using x2
       by_cases x3:o.syms[a].off < off+4 * sp
       ·have z3:decide (o.syms[a].off < off+4 * sp)=true:=by simpa using x3
        have CC:=hid (show WI from jA.o.2 ⟨a,hlt,x1,x2,x3⟩);clear x1;go_wp2;go_ret;exact no.o _ (fun h=>(bS.o.1 (HQ.o.1 h).1).2.2.2.2.2.2 CC.o) (ya (ya G5.o HG.o) (GA.o _))
       ·have z3:decide (o.syms[a].off < off+4 * sp)=false:=by simp; omega
        have CC:=hid (show ¬ (o.syms[a].ah=(n:Int)+1/\off < o.syms[a].off/\o.syms[a].off < off+4 * sp) from fun h=>x3 h.2.2);clear x1 x3;go_wp2
        go_roundw
        case rel=>exact ⟨a+1,by omega,by go_num,fun j hj hjk=>(Nat.lt_succ_iff_lt_or_eq.1 hjk).elim (fun h=>eu.o j hj h) (fun h=>by subst h; exact CC.o),ya HG.o (GA.o _)⟩
        case measure=>simp [intOf]; omega
      ·have z2:decide (off < o.syms[a].off)=false:=by simp; omega
       have CC:=hid (show ¬ (o.syms[a].ah=(n:Int)+1/\off < o.syms[a].off/\o.syms[a].off < off+4 * sp) from fun h=>x2 h.2.1);clear x1 x2;go_wp2
       go_roundw
       case rel=>exact ⟨a+1,by omega,by go_num,fun j hj hjk=>(Nat.lt_succ_iff_lt_or_eq.1 hjk).elim (fun h=>eu.o j hj h) (fun h=>by subst h; exact CC.o),ya HG.o (GA.o _)⟩
       case measure=>simp [intOf]; omega
     ·have z1:(o.syms[a].ah == (n:Int)+1)=false:=beq_eq_false_iff_ne.2 x1;have CC:=hid (show ¬ (o.syms[a].ah=(n:Int)+1/\off < o.syms[a].off/\o.syms[a].off < off+4 * sp) from fun h=>x1 h.1);clear x1;go_wp2
      go_roundw
      case rel=>exact ⟨a+1,by omega,by go_num,fun j hj hjk=>(Nat.lt_succ_iff_lt_or_eq.1 hjk).elim (fun h=>eu.o j hj h) (fun h=>by subst h; exact CC.o),ya HG.o (GA.o _)⟩
      case measure=>simp [intOf]; omega
    ·have NW:=hid (show ¬ WI from fun h=>by obtain ⟨i,hi,hh⟩:=jA.o.1 h; exact eu.o i hi (by omega) hh);obtain ⟨m,hm⟩:=Int.eq_ofNat_of_zero_le (show 0<=sp from by omega);obtain ⟨ag,aO,hsa,hcl⟩:=lD.o (by omega);subst hsa;have AF:=nK.o HA2.o fK.o oO.o;rw [bL.o] at AF;have hoff:off=4 * (q:Int):=oN.o;have hqq:(off / 4).toNat=q:=by have:=jJ.o; omega
     rw [hqq,hm,Int.toNat_natCast] at AF;rw [hqq,hm,Int.toNat_natCast] at bL;have c2:=fO.o.cell 2;have t6:=yc t5 HG.o;have m1:1<=m:=by omega
     have m3:m<=3:=by omega
     have hqm:q+m<=ws.length:=by have:=jJ.o; omega
     have IW:=hid (show ym wr (some ⟨ag,aO+q,none⟩) ((ws.drop q).take m) from fun _=>⟨ag,aO+q,rfl,fun i hi=>by
      have hi':q+i < ws.length:=by simp at hi; omega
      have:=yc (hcl (q+i) hi') HG.o
      rw [Nat.add_assoc,this];simp⟩)
     have dX:=hid (nM.o);have cG:=hid (fun W (hW:ym W (some ⟨ag,aO+q,none⟩) ((ws.drop q).take m))=>uW kind (some ⟨ag,aO+q,none⟩) (aS - q) ((ws.drop q).take m) W hW AF.2.1 AF.2.2.1 AF.2.2.2 (by omega) (fun h=>by have:=dX.o (by first | exact h | simp); have:=AF.1; omega));rw [show ((ws.drop q).take m).length=m from AF.1] at cG;have lq:=hid (show yv kind ((ws.drop q).take m)↔Q from ⟨fun h=>HQ.o.2 ⟨bS.o.2 ⟨oM.o,HA2.o,lu.o,kZ.o,fK.o,by rw [bL.o]; exact h,NW.o⟩,rJ.o⟩,fun h=>by have:=(bS.o.1 (HQ.o.1 h).1).2.2.2.2.2.1; rw [bL.o] at this; exact this⟩);generalize yv kind ((ws.drop q).take m)=GP at *;subst hoff
     subst hm;have k0:Hd (wr.drew.cell? ⟨w.heap.size,0,none⟩=some (.int .i64 ((n:Int)+1))):=c0;have k1:Hd (wr.drew.cell? ⟨w.heap.size,1,none⟩=some (.int .i64 (4 * (q:Int)))):=c1;have k2:Hd (wr.drew.cell? ⟨w.heap.size,2,none⟩=some (.int .i64 kind)):=c2;have k3:Hd (wr.drew.cell? ⟨B,n+1,none⟩=some (.slice (some ⟨ag,aO,none⟩) ws.length aS)):=t6;have i1:(0:Int)<=(n:Int)+1:=by omega
     have i2:(n:Int)+1 < 5:=by omega
     have i3:(0:Int)<=(q:Int):=by omega
     have i4:(q:Int)<=(q:Int)+(m:Int):=by omega
     have i5:(q:Int)+(m:Int)<=(aS:Int):=by omega
     have i6:IntKind.i64.wrap ((q:Int)+(m:Int))=(q:Int)+(m:Int):=IntWalk.i64_in _ ⟨by omega,by omega⟩;have j1:IntKind.i64.wrap (q:Int)=(q:Int):=IntWalk.i64_in _ ⟨by omega,by omega⟩;have vD:¬ aS=q:=by omega
     have j2:max ((q:Int)+(m:Int)) 0=(q:Int)+(m:Int):=by omega
     have i7:(0:Int)<=(q:Int)+(m:Int):=by omega
     go_wp2;refine wp_region_held_drew (S:=(fun w'=>w'.cell? ⟨w.heap.size,0,none⟩=some (.int .i64 ((n:Int)+1))/\w'.cell? ⟨w.heap.size,1,none⟩=some (.int .i64 (4 * (q:Int)))/\w'.cell? ⟨w.heap.size,2,none⟩=some (.int .i64 kind)/\w'.cell? ⟨B,n+1,none⟩=some (.slice (some ⟨ag,aO,none⟩) ws.length aS))) (by kernel_rfl) ⟨k0.o,k1.o,k2.o,k3.o⟩ ?_;intro hS
     iterate 15
      refine yU (v:=?_) rfl (by kernel_rfl) (fun _ _ _ h=>h) hS ?_ ?_
      rotate_left
      ·intro w' hw'; obtain ⟨x0,x1,x2,x3⟩:=hw'; go_simp; with_reducible rfl
     refine wpAnyH_take (i:=15) (v:=.slice (some ⟨ag,aO+q,none⟩) m (aS - q)) rfl (by kernel_rfl) (by kernel_rfl) (by kernel_rfl) (fun _ _ _ h=>h) (Or.inl ⟨by kernel_rfl,?_⟩) hS ?_
     ·intro w' hw'; obtain ⟨x0,x1,x2,x3⟩:=hw'; go_simp;omega
     refine wpAnyH_ready (rs:=[16]) (by kernel_rfl) (by simp) ?_;refine AllReadyH.cons rfl (fun K hK=>?_) AllReadyH.nil;go_simp;go_wp2_with (go_at_call 113; refine (cG.o _ ?_).mono ?_; (exact IW.o.kept (fun a v hv=>yc hv (yf (World.grownBy.refl wr none)))); rintro e w' ⟨⟨bb,rfl,hbb⟩,hq⟩)
     refine hK.out _ _ ⟨yc k0.o hq,yc k1.o hq,yc k2.o hq,yc k3.o hq⟩ (fun hS2=>?_);clear hK K;refine fD (i:=17) (v:=?_) rfl ?_ hS2 ?_
     rotate_left
     ·intro w' hw'; go_simp; with_reducible rfl
     refine wpAnyH_done (by kernel_rfl) ?_ _;simp only [ni,mh,kT,kI,fu,fC,eX];go_wp2;go_ret;exact ⟨yg.of (hbb.trans lq.o),ya (ya G5.o HG.o) (ya (yf (World.grownBy.refl _ _)) hq)⟩
  have D9:((n:Int)+1 == dF)=true:=beq_iff_eq.2 r6;by_cases r7:off < gJ+4 * kF
  ·have d:decide (off < gJ+4 * kF)=true:=by simp; omega
   have CC:=hid (show ¬ FQ from fun h=>by rw [pW.o,if_pos (by omega)] at h; omega);clear r6;go_wp2;go_ret;exact no.o _ (fun h=>CC.o (HQ.o.1 h).2) G4.o
  have Ph:decide (off < gJ+4 * kF)=false:=by simp; omega
  have rJ:=hid (show FQ from by rw [pW.o,if_pos (by omega)]; omega);clear r6;have c0:=bZ.o.cell 0;have c1:=bZ.o.cell 1;have c2:=bZ.o.cell 2;have c3:=bZ.o.cell 3;have c4:=bZ.o.cell 4;have b4:=(HB.o.grown G4.o (by simp)).cell 4;have b5:=(HB.o.grown G4.o (by simp)).cell 5;by_cases r8:sym < 0
  ·have d:decide (sym < 0)=true:=by simp; omega
   have CC:=hid (show ¬ SI from fun h=>by have h2:=jh.o.1 h; first | omega | (rw [if_neg (by omega)] at h2; omega) | (simp at h2; omega));go_wp2
   go_quiet (fail)
   go_wp2;go_ret;exact no.o _ (fun h=>CC.o (bS.o.1 (HQ.o.1 h).1).2.2.1) (yd G4.o nq)
  have vw:decide (sym < 0)=false:=by simp; omega
  by_cases r9:(o.syms.length:Int)<=sym
  ·have d:decide ((o.syms.length:Int)<=sym)=true:=by simp; omega
   have CC:=hid (show ¬ SI from fun h=>by have h2:=jh.o.1 h; first | omega | (rw [if_neg (by omega)] at h2; omega) | (simp at h2; omega));go_wp2
   go_quiet (fail)
   go_wp2;go_ret;exact no.o _ (fun h=>CC.o (bS.o.1 (HQ.o.1 h).1).2.2.1) (yd G4.o nq)
  have CG:decide ((o.syms.length:Int)<=sym)=false:=by simp; omega
  have lu:=hid (show SI from jh.o.2 (by first | (rw [if_neg (by omega)]; omega) | (simp; omega)));have kZ:=hid (show BO from nL.o.2 (fun h=>by exfalso; omega));go_wp2
  go_quiet (fail)
  have gK:=hid (bZ.o.drewN nq);have G5:=hid (yd G4.o nq);have t5:=yc t4 (yd (World.grownBy.refl w4 none) nq);have lD:=hid (oh.o.kept (fun a v hv=>yc hv (yd (World.grownBy.refl w4 none) nq)));clear c0 c1 c2 c3 c4 b4 b5 t4 oh bZ G4 bW;generalize w4.drewN nq=w5 at *;have bW:=gK.o.lt;have b5:=(HB.o.grown G5.o (by simp)).cell 5;go_wp2;have S5:=hid (S.o.grown G5.o);have vH:IntKind.i64.wrap (4 * sp)=4 * sp:=IntWalk.i64_in _ ⟨by omega,by omega⟩;have lS:IntKind.i64.wrap (off+4 * sp)=off+4 * sp:=IntWalk.i64_in _ ⟨by omega,by omega⟩
  go_loopw [13] (fun i wr=>∃ a:Nat,a<=o.syms.length/\i = .int .i64 a/\(∀ b (hb:b < o.syms.length),b < a->¬ (o.syms[b].ah=(n:Int)+1/\off < o.syms[b].off/\o.syms[b].off < off+4 * sp))/\w5.grownBy wr none) (fun i _=>o.syms.length - (intOf i).toNat)
  case atStart=>exact ⟨0,Nat.zero_le _,rfl,fun j _ hj=>absurd hj (Nat.not_lt_zero j),World.grownBy.refl _ _⟩
  case round =>
   obtain ⟨a,ha,rfl,hall,hgr⟩:=hrel;have eu:=hid hall;have HG:=hid hgr;clear hall hgr;have fO:=hid (gK.o.grown HG.o (by simp));have c0:=fO.o.cell 0;have c1:=fO.o.cell 1;have oQ:=fO.o.lt;have hnn:w.heap.size≠wr.heap.size:=by omega
   have b5:=(HB.o.grown (ya G5.o HG.o) (by simp)).cell 5;have GA:=hid (fun ob:Obj=>aH wr ob none);by_cases hlt:a < o.syms.length
   ·obtain ⟨sg,hso,lJ,hcs⟩:=S5.o.grown HG.o (by omega);subst hso;obtain ⟨y0,y1,y2,y3⟩:=hcs a hlt;clear hcs;have g3:(a:Int) < (o.syms.length:Int):=by omega
    by_cases x1:o.syms[a].ah=(n:Int)+1
    ·have z1:(o.syms[a].ah == (n:Int)+1)=true:=beq_iff_eq.2 x1;by_cases x2:off < o.syms[a].off
     ·have z2:decide (off < o.syms[a].off)=true:=by simpa using x2
      by_cases x3:o.syms[a].off < off+4 * sp
      ·have z3:decide (o.syms[a].off < off+4 * sp)=true:=by simpa using x3
       have CC:=hid (show WI from jA.o.2 ⟨a,hlt,x1,x2,x3⟩);clear x1;go_wp2;go_ret;exact no.o _ (fun h=>(bS.o.1 (HQ.o.1 h).1).2.2.2.2.2.2 CC.o) (ya (ya G5.o HG.o) (GA.o _))
      ·have z3:decide (o.syms[a].off < off+4 * sp)=false:=by simp; omega
       have CC:=hid (show ¬ (o.syms[a].ah=(n:Int)+1/\off < o.syms[a].off/\o.syms[a].off < off+4 * sp) from fun h=>x3 h.2.2);clear x1 x3;go_wp2
       go_roundw
       case rel=>exact ⟨a+1,by omega,by go_num,fun j hj hjk=>(Nat.lt_succ_iff_lt_or_eq.1 hjk).elim (fun h=>eu.o j hj h) (fun h=>by subst h; exact CC.o),ya HG.o (GA.o _)⟩
       case measure=>simp [intOf]; omega
     ·have z2:decide (off < o.syms[a].off)=false:=by simp; omega
      have CC:=hid (show ¬ (o.syms[a].ah=(n:Int)+1/\off < o.syms[a].off/\o.syms[a].off < off+4 * sp) from fun h=>x2 h.2.1);clear x1 x2;go_wp2
      go_roundw
      case rel=>exact ⟨a+1,by omega,by go_num,fun j hj hjk=>(Nat.lt_succ_iff_lt_or_eq.1 hjk).elim (fun h=>eu.o j hj h) (fun h=>by subst h; exact CC.o),ya HG.o (GA.o _)⟩
      case measure=>simp [intOf]; omega
    ·have z1:(o.syms[a].ah == (n:Int)+1)=false:=beq_eq_false_iff_ne.2 x1;have CC:=hid (show ¬ (o.syms[a].ah=(n:Int)+1/\off < o.syms[a].off/\o.syms[a].off < off+4 * sp) from fun h=>x1 h.1);clear x1;go_wp2
     go_roundw
     case rel=>exact ⟨a+1,by omega,by go_num,fun j hj hjk=>(Nat.lt_succ_iff_lt_or_eq.1 hjk).elim (fun h=>eu.o j hj h) (fun h=>by subst h; exact CC.o),ya HG.o (GA.o _)⟩
     case measure=>simp [intOf]; omega
   ·have NW:=hid (show ¬ WI from fun h=>by obtain ⟨i,hi,hh⟩:=jA.o.1 h; exact eu.o i hi (by omega) hh);obtain ⟨m,hm⟩:=Int.eq_ofNat_of_zero_le (show 0<=sp from by omega);obtain ⟨ag,aO,hsa,hcl⟩:=lD.o (by omega);subst hsa;have AF:=nK.o HA2.o fK.o oO.o;rw [bL.o] at AF;have hoff:off=4 * (q:Int):=oN.o;have hqq:(off / 4).toNat=q:=by have:=jJ.o; omega
    rw [hqq,hm,Int.toNat_natCast] at AF;rw [hqq,hm,Int.toNat_natCast] at bL;have c2:=fO.o.cell 2;have t6:=yc t5 HG.o;have m1:1<=m:=by omega
    have m3:m<=3:=by omega
    have hqm:q+m<=ws.length:=by have:=jJ.o; omega
    have IW:=hid (show ym wr (some ⟨ag,aO+q,none⟩) ((ws.drop q).take m) from fun _=>⟨ag,aO+q,rfl,fun i hi=>by
     have hi':q+i < ws.length:=by simp at hi; omega
     have:=yc (hcl (q+i) hi') HG.o
     rw [Nat.add_assoc,this];simp⟩)
    have dX:=hid (nM.o);have cG:=hid (fun W (hW:ym W (some ⟨ag,aO+q,none⟩) ((ws.drop q).take m))=>uW kind (some ⟨ag,aO+q,none⟩) (aS - q) ((ws.drop q).take m) W hW AF.2.1 AF.2.2.1 AF.2.2.2 (by omega) (fun h=>by have:=dX.o (by first | exact h | simp); have:=AF.1; omega));rw [show ((ws.drop q).take m).length=m from AF.1] at cG;have lq:=hid (show yv kind ((ws.drop q).take m)↔Q from ⟨fun h=>HQ.o.2 ⟨bS.o.2 ⟨oM.o,HA2.o,lu.o,kZ.o,fK.o,by rw [bL.o]; exact h,NW.o⟩,rJ.o⟩,fun h=>by have:=(bS.o.1 (HQ.o.1 h).1).2.2.2.2.2.1; rw [bL.o] at this; exact this⟩);generalize yv kind ((ws.drop q).take m)=GP at *;subst hoff
    subst hm;have k0:Hd (wr.drew.cell? ⟨w.heap.size,0,none⟩=some (.int .i64 ((n:Int)+1))):=c0;have k1:Hd (wr.drew.cell? ⟨w.heap.size,1,none⟩=some (.int .i64 (4 * (q:Int)))):=c1;have k2:Hd (wr.drew.cell? ⟨w.heap.size,2,none⟩=some (.int .i64 kind)):=c2;have k3:Hd (wr.drew.cell? ⟨B,n+1,none⟩=some (.slice (some ⟨ag,aO,none⟩) ws.length aS)):=t6;have i1:(0:Int)<=(n:Int)+1:=by omega
    have i2:(n:Int)+1 < 5:=by omega
    have i3:(0:Int)<=(q:Int):=by omega
    have i4:(q:Int)<=(q:Int)+(m:Int):=by omega
    have i5:(q:Int)+(m:Int)<=(aS:Int):=by omega
    have i6:IntKind.i64.wrap ((q:Int)+(m:Int))=(q:Int)+(m:Int):=IntWalk.i64_in _ ⟨by omega,by omega⟩;have j1:IntKind.i64.wrap (q:Int)=(q:Int):=IntWalk.i64_in _ ⟨by omega,by omega⟩;have vD:¬ aS=q:=by omega
    have j2:max ((q:Int)+(m:Int)) 0=(q:Int)+(m:Int):=by omega
    have i7:(0:Int)<=(q:Int)+(m:Int):=by omega
    go_wp2;refine wp_region_held_drew (S:=(fun w'=>w'.cell? ⟨w.heap.size,0,none⟩=some (.int .i64 ((n:Int)+1))/\w'.cell? ⟨w.heap.size,1,none⟩=some (.int .i64 (4 * (q:Int)))/\w'.cell? ⟨w.heap.size,2,none⟩=some (.int .i64 kind)/\w'.cell? ⟨B,n+1,none⟩=some (.slice (some ⟨ag,aO,none⟩) ws.length aS))) (by kernel_rfl) ⟨k0.o,k1.o,k2.o,k3.o⟩ ?_;intro hS
    iterate 15
     refine yU (v:=?_) rfl (by kernel_rfl) (fun _ _ _ h=>h) hS ?_ ?_
     rotate_left
     ·intro w' hw'; obtain ⟨x0,x1,x2,x3⟩:=hw'; go_simp; with_reducible rfl
    refine wpAnyH_take (i:=15) (v:=.slice (some ⟨ag,aO+q,none⟩) m (aS - q)) rfl (by kernel_rfl) (by kernel_rfl) (by kernel_rfl) (fun _ _ _ h=>h) (Or.inl ⟨by kernel_rfl,?_⟩) hS ?_
    ·intro w' hw'; obtain ⟨x0,x1,x2,x3⟩:=hw'; go_simp;omega
    refine wpAnyH_ready (rs:=[16]) (by kernel_rfl) (by simp) ?_;refine AllReadyH.cons rfl (fun K hK=>?_) AllReadyH.nil;go_simp;go_wp2_with (go_at_call 113; refine (cG.o _ ?_).mono ?_; (exact IW.o.kept (fun a v hv=>yc hv (yf (World.grownBy.refl wr none)))); rintro e w' ⟨⟨bb,rfl,hbb⟩,hq⟩)
    refine hK.out _ _ ⟨yc k0.o hq,yc k1.o hq,yc k2.o hq,yc k3.o hq⟩ (fun hS2=>?_);clear hK K;refine fD (i:=17) (v:=?_) rfl ?_ hS2 ?_
    rotate_left
    ·intro w' hw'; go_simp; with_reducible rfl
    refine wpAnyH_done (by kernel_rfl) ?_ _;simp only [ni,mh,kT,kI,fu,fC,eX];go_wp2;go_ret;exact ⟨yg.of (hbb.trans lq.o),ya (ya G5.o HG.o) (ya (yf (World.grownBy.refl _ _)) hq)⟩
end Go.Proofs.YtelehpmjhjljgaaGreatDoor
