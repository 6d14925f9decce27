
import Derived.Test.YtnkkepfcpjllmaaGreatDoorU24
set_option maxHeartbeats 16000000
set_option maxRecDepth 100000
namespace Go.Proofs.YtnkkepfcpjllmaaGreatDoor
open Go.RowKit
theorem yeh (g B:Nat) (o:Lk.Obj) (at_:Option Addr) (ct:Nat) (af:Option Addr) (cf:Nat) (ad:Option Addr) (cd:Nat) (Z:Nat) (w:World) (h:yw w g o) (hs:tV w B o at_ ct af cf ad cd Z) (hn:ou o) (hb4:rD o.align) (hw:tN o)
  (hgr:∀ r∈o.aj,r.off<=9223372036854775807) (hk:0 < o.aj.length) (hpre:(1<=(o.aj[0]'hk).ah/\(o.aj[0]'hk).ah<=3)/\0<=(o.aj[0]'hk).off/\(o.aj[0]'hk).off % 4=0) (hkd:(o.aj[0]'hk).kind=6) :
  Calls Tryz.prog 17 #[.pointer (some ⟨g,0,none⟩),.slice (some ⟨B,0,none⟩) 5 5,.int .i64 0] w fun e w'=>ye e (nD o 0 hk)/\w.grownBy w' none:=by
 have dF:=hid hpre;have iO:=hid hkd;clear hpre hkd;obtain ⟨_,_,_,_,_,_,aa,ca,gu,cs,ar,cr,hb,-,-,-,h4,h5,h6⟩:=h.open;have hnr:=hn.2.2.2.2.2;have hns:=hn.2.2.2.2.1;obtain ⟨rg,hao,hgs,hc⟩:=wK.aF h6 (by omega);subst hao;obtain ⟨q0,q1,q2,q3,q4⟩:=hc 0 hk;simp only [Nat.zero_mul,Nat.zero_add] at q0 q1 q2 q3 q4;have k6:=hb.cell 6;have S:=hid (nS.aF h5);have vQ:=hb4.1;obtain ⟨ga,uw,uh,hca⟩:=yn.aF h4 (by omega);subst uh;have Dq:=hid hca;have wV:=hid hb4;have jQ:=yZ h4;have HB:=hid hb;have HS:=hid hs;have HW:=hid hw;have hsm:=hid (fun ah=>yB hn ah);have f3:=hgr _ (lM hk);have HQ:=hid (show nD o 0 hk↔yY o (o.aj[0]'hk) from ⟨fun h=>h.1,fun h=>⟨h,fun h=>absurd h (Nat.lt_irrefl _)⟩⟩)
 generalize nD o 0 hk=Q at *;have g1:(0:Int) < (o.aj.length:Int):=by omega
 generalize o.aj[0]'hk=r at *;have qU:=hid (fun (a:yk r) (b:yv o r) (c:mO (ym o r.ah))=>Du a b c);have cC:=hid (fun W (a:yk r)=>Ao r W a.six);have wY:=hid (fun (a:yk r)=>yD a);have lS:=hid (show yv o r↔0<=r.off/\r.off % 4=0/\r.off / 4+yo r<=(ym o r.ah).length from Iff.rfl);have bU:=hid (show yF o r=((ym o r.ah).drop (r.off / 4).toNat).take (yo r).toNat from rfl);have lg:=hid (show yN o r↔∃ i,∃ h:i < o.syms.length,o.syms[i].ah=r.ah/\r.off < o.syms[i].off/\o.syms[i].off < r.off+4 * yo r from Iff.rfl);have kM:=hid (show yS o r↔if r.kind=6 then r.sym=0 else 0<=r.sym/\r.sym < o.syms.length from Iff.rfl)
 have qV:=hid (show yQ o r↔(r.kind=6->r.addend+4<=pG (o.align.getD (r.ah.toNat - 1) 0)) from Iff.rfl);have nV:=hid (show yC r↔((r.ah=1\/r.ah=2)/\1<=r.kind/\r.kind<=6)\/(r.ah=3/\r.kind=1) from Iff.rfl);have mQ:=hid (show yk r↔if r.kind=1\/r.kind=5 then -2048<=r.addend/\r.addend<=2047 else if r.kind=6 then r.addend=4\/r.addend=12 else r.addend=0 from Iff.rfl);have dB:=hid (show yY o r↔yC r/\yk r/\yS o r/\yQ o r/\yv o r/\yt r.kind (yF o r)/\¬ yN o r from Iff.rfl);generalize yY o r=RO at *;generalize yS o r=SI at *;generalize yQ o r=BO at *;generalize yC r=KO at *;generalize yk r=AO at *;generalize yv o r=AB at *
 generalize yN o r=WI at *;generalize yF o r=ab at *;have qW:=hid (show r.kind=4\/r.kind=5->yo r=2 from fun h=>if_pos h);generalize yo r=sp at *;unfold fM at cC;obtain ⟨ah,off,kind,sym,addend⟩:=r;simp only at *;have no:Hd (∀ W,(¬ Q)->w.grownBy W none->ye (.returned (.bool false)) Q/\w.grownBy W none):=fun W a b=>⟨ye.no a,b⟩
 have B0:=yd.new w #[.int .i64 ah,.int .i64 off,.int .i64 kind,.int .i64 sym,.int .i64 addend] 54;have HB0:=hid B0;have G0:=hid (aW w (.cells #[.int .i64 ah,.int .i64 off,.int .i64 kind,.int .i64 sym,.int .i64 addend] 54) none);clear h hs hn h4 h5 h6 hb hb4 hw hgr hca hc B0;go_enter Tryz.func17,Tryz.ntmps17;by_cases c:ah < 1
 ·have d:decide (ah < 1)=true:=by simp; omega
  have:=dF.o
  have:=iO.o
  omega
 have n0:decide (ah < 1)=false:=by simp; omega
 have m0:¬ (ah < 1):=c;clear c;by_cases c:3 < ah
 ·have d:decide (3 < ah)=true:=by simp; omega
  have:=dF.o
  have:=iO.o
  omega
 have n1:decide (3 < ah)=false:=by simp; omega
 have m1:¬ (3 < ah):=c;clear c;by_cases c:kind < 1
 ·have d:decide (kind < 1)=true:=by simp; omega
  have:=dF.o
  have:=iO.o
  omega
 have n2:decide (kind < 1)=false:=by simp; omega
 have m2:¬ (kind < 1):=c;clear c;by_cases c:6 < kind
 ·have d:decide (6 < kind)=true:=by simp; omega
  have:=dF.o
  have:=iO.o
  omega
 have n3:decide (6 < kind)=false:=by simp; omega
 have m3:¬ (6 < kind):=c;clear c;by_cases c:off < 0
 ·have d:decide (off < 0)=true:=by simp; omega
  have:=dF.o
  have:=iO.o
  omega
 have n4:decide (off < 0)=false:=by simp; omega
 have m4:¬ (off < 0):=c;clear c;have m5:0<=off:=by omega
 by_cases c:off % 4=0
 rotate_left
 ·have d:(off % 4 == 0)=false:=beq_eq_false_iff_ne.2 c;have CC:=hid c;clear c
  have:=dF.o
  have:=iO.o
  have:=CC.o
  omega
 have n5:(off % 4 == 0)=true:=beq_iff_eq.2 c;have C5:=hid c;obtain ⟨q,hq4⟩:∃ q:Nat,off=4 * (q:Int):=⟨(off / 4).toNat,by omega⟩
 have jR:off / 4=(q:Int):=by omega
 have lT:=hid jR;have tQ:=hid hq4;clear c hq4 jR;obtain ⟨n,hsn⟩:∃ n:Nat,ah=(n:Int)+1:=⟨(ah - 1).toNat,by omega⟩
 have hn2:n<=2:=by omega
 subst hsn;clear m0 m1;obtain ⟨Jd,aZ,s1,s2,s3,s4⟩:=(HS.o.grown G0.o).sec n hn2;unfold maxLen at s3;have s5:=hsm.o ((n:Int)+1);have nX:=hid s4;clear s4;have tT:=hid (Gf HW.o ((n:Int)+1));generalize ym o ((n:Int)+1)=ws at *;have hkd:=iO.o
 ·subst hkd;by_cases c:addend < 4
  ·have d:decide (addend < 4)=true:=by simp; omega
   have CC:=hid (show ¬ AO from fun h=>by rw [mQ.o] at h; simp at h; omega);go_wp2;go_ret;exact no.o _ (fun h=>CC.o (dB.o.1 (HQ.o.1 h)).2.1) G0.o
  have a1:decide (addend < 4)=false:=by simp; omega
  have e1:¬ (addend < 4):=c;clear c;by_cases c:12 < addend
  ·have d:decide (12 < addend)=true:=by simp; omega
   have CC:=hid (show ¬ AO from fun h=>by rw [mQ.o] at h; simp at h; omega);go_wp2;go_ret;exact no.o _ (fun h=>CC.o (dB.o.1 (HQ.o.1 h)).2.1) G0.o
  have a2:decide (12 < addend)=false:=by simp; omega
  have e2:¬ (12 < addend):=c;clear c;by_cases c:addend=8
  ·have d:(addend == 8)=true:=by simp; omega
   have CC:=hid (show ¬ AO from fun h=>by rw [mQ.o] at h; simp at h; omega);clear c;go_wp2;go_ret;exact no.o _ (fun h=>CC.o (dB.o.1 (HQ.o.1 h)).2.1) G0.o
  have a3:(addend == 8)=false:=by simp; omega
  have e3:¬ (addend=8):=c;clear c;by_cases c:addend % 4=0
  rotate_left
  ·have d:(addend % 4 == 0)=false:=beq_eq_false_iff_ne.2 c;have CC:=hid (show ¬ AO from fun h=>by rw [mQ.o] at h; simp at h; omega);clear c;go_wp2;go_ret;exact no.o _ (fun h=>CC.o (dB.o.1 (HQ.o.1 h)).2.1) G0.o
  have a4:(addend % 4 == 0)=true:=beq_iff_eq.2 c;have Jw:=hid (show addend=4\/addend=12 from by omega);have HA:=hid (mQ.o.2 (by simp; omega));clear c;have hsp:=wY.o HA.o;have zJ:=hid (fun W=>cC.o W HA.o);go_wp2_with fail;refine (zJ.o _).mono ?_;rintro e w2 ⟨rfl,hq2⟩;have BR:=hid (HB0.o.grown hq2 (by simp));have G2:=hid (ya G0.o hq2);have t1:=yb s1 hq2;have rM:=hid (nX.o.kept (fun a v hv=>yb hv hq2));have c0:=BR.o.cell 0;have c1:=BR.o.cell 1;have c2:=BR.o.cell 2;have c3:=BR.o.cell 3;have c4:=BR.o.cell 4;have b4:=(HB.o.grown G2.o (by simp)).cell 4;have b5:=(HB.o.grown G2.o (by simp)).cell 5;have b6:=(HB.o.grown G2.o (by simp)).cell 6
  clear hq2 s1 q0 q1 q2 q3 q4 k6;have dI:=BR.o.lt;have HA2:=hid HA.o;by_cases r1:(ws.length:Int) < off / 4+sp
  ·have d:decide ((ws.length:Int) < off / 4+sp)=true:=by simp; omega
   have CC:=hid (show ¬ AB from fun h=>by have:=(lS.o.1 h).2.2; omega);go_wp2
   go_quiet (fail)
   go_wp2;go_ret;exact no.o _ (fun h=>CC.o (dB.o.1 (HQ.o.1 h)).2.2.2.2.1) (yc G2.o nq)
  have Ed:decide ((ws.length:Int) < off / 4+sp)=false:=by simp; omega
  have gK:=hid (lS.o.2 ⟨m5,C5.o,by omega⟩);by_cases r2:n=2
  ·have vL:((n:Int)+1 == 3)=true:=by simp; omega
   have CC:=hid (show ¬ KO from fun h=>by have:=nV.o.1 h; omega);clear r2;go_wp2
   go_quiet (fail)
   go_wp2;go_ret;exact no.o _ (fun h=>CC.o (dB.o.1 (HQ.o.1 h)).1) (yc G2.o nq)
  have vL:((n:Int)+1 == 3)=false:=by simp; omega
  have tO:=hid (nV.o.2 (by omega));go_wp2
  go_quiet (fail)
  have jB:=hid (BR.o.drewN nq);have G3:=hid (yc G2.o nq);have t3:=yb t1 (yc (World.grownBy.refl w2 none) nq);have qG:=hid (rM.o.kept (fun a v hv=>yb hv (yc (World.grownBy.refl w2 none) nq)));clear c0 c1 c2 c3 c4 b4 b5 b6 t1 rM BR G2 dI;generalize w2.drewN nq=w3 at *;have dI:=jB.o.lt;have c0:=jB.o.cell 0;have c1:=jB.o.cell 1;have c2:=jB.o.cell 2;have c3:=jB.o.cell 3;have c4:=jB.o.cell 4;have b4:=(HB.o.grown G3.o (by simp)).cell 4;have b5:=(HB.o.grown G3.o (by simp)).cell 5;by_cases r8:sym=0
  rotate_left
  ·have d:(sym == 0)=false:=beq_eq_false_iff_ne.2 r8;have d':(sym != 0)=true:=by simp [bne,d]
   have CC:=hid (show ¬ SI from fun h=>by have h2:=kM.o.1 h; simp at h2; exact r8 h2);clear r8;go_wp2
   go_quiet (fail)
   go_wp2;go_ret;exact no.o _ (fun h=>CC.o (dB.o.1 (HQ.o.1 h)).2.2.1) (yc G3.o nq)
  have wP:(sym == 0)=true:=beq_iff_eq.2 r8;have MH:(sym != 0)=false:=by simp [bne,wP]
  have pI:=hid (show SI from kM.o.2 (by simp; exact r8));clear r8;have hln:n < o.align.length:=by omega
  have MQ:=wV.o.2 n hln;have ca:=yb (Dq.o n hln) G3.o;have wW:=hid (show BO↔addend+4<=pG (o.align[n]'hln) from by
   rw [qV.o,show ((n:Int)+1).toNat - 1=n from by omega,show o.align.getD n 0=o.align[n]'hln from by rw [mP,kg hln]; rfl];exact ⟨fun h=>h (by simp),fun h _=>h⟩)
  generalize o.align[n]'hln=av at *;have i8:(n:Int) < 4:=by omega
  have Em:=jQ.1;clear jQ;by_cases r9:av=2\/(av=3/\addend=12)
  ·have CC:=hid (show ¬ BO from by rw [wW.o]; unfold pG; rcases r9 with rfl | ⟨rfl,rfl⟩ <;> simp <;> omega);rcases (show (av=2/\4<=addend)\/(av=3/\12<=addend) from by omega) with ⟨hv,hv2⟩ | ⟨hv,hv2⟩ <;> clear r9 <;> subst hv
   ·have d:decide ((4:Int) < addend+4)=true:=by simp; omega
    go_wp2
    go_quiet (fail)
    go_wp2;go_ret;exact no.o _ (fun h=>CC.o (dB.o.1 (HQ.o.1 h)).2.2.2.1) (yc G3.o nq)
   ·have d:decide ((8:Int) < addend+4)=true:=by simp; omega
    go_wp2
    go_quiet (fail)
    go_wp2;go_ret;exact no.o _ (fun h=>CC.o (dB.o.1 (HQ.o.1 h)).2.2.2.1) (yc G3.o nq)
  have oG:=hid (show BO from by rw [wW.o]; rcases (show (av=3/\addend<=4)\/(av=4/\addend<=12) from by have:=Jw.o; omega) with ⟨rfl,h⟩ | ⟨rfl,h⟩ <;> simp [pG] <;> omega);rcases (show (av=3/\addend<=4)\/(av=4/\addend<=12) from by have:=Jw.o; omega) with ⟨hv,hv2⟩ | ⟨hv,hv2⟩ <;> clear r9 <;> subst hv
  ·have d:decide ((8:Int) < addend+4)=false:=by simp; omega
   go_wp2
   go_quiet (fail)
   have ku:=hid (jB.o.drewN nq);have G5:=hid (yc G3.o nq);have t5:=yb t3 (yc (World.grownBy.refl w3 none) nq);have oI:=hid (qG.o.kept (fun a v hv=>yb hv (yc (World.grownBy.refl w3 none) nq)));clear c0 c1 c2 c3 c4 b4 b5 t3 qG jB G3 dI;generalize w3.drewN nq=w5 at *;have dI:=ku.o.lt;have b5:=(HB.o.grown G5.o (by simp)).cell 5;go_wp2;have S5:=hid (S.o.grown G5.o);have Bv:IntKind.i64.wrap (4 * sp)=4 * sp:=IntWalk.i64_in _ ⟨by omega,by omega⟩;have pF:IntKind.i64.wrap (off+4 * sp)=off+4 * sp:=IntWalk.i64_in _ ⟨by omega,by omega⟩
   go_loopw [13] (fun i wr=>∃ a:Nat,a<=o.syms.length/\i = .int .i64 a/\(∀ b (hb:b < o.syms.length),b < a->¬ (o.syms[b].ah=(n:Int)+1/\off < o.syms[b].off/\o.syms[b].off < off+4 * sp))/\w5.grownBy wr none) (fun i _=>o.syms.length - (intOf i).toNat)
   case atStart=>exact ⟨0,Nat.zero_le _,rfl,fun j _ hj=>absurd hj (Nat.not_lt_zero j),World.grownBy.refl _ _⟩
   case round =>
    obtain ⟨a,ha,rfl,hall,hgr⟩:=hrel;have gB:=hid hall;have HG:=hid hgr;clear hall hgr;have gT:=hid (ku.o.grown HG.o (by simp));have c0:=gT.o.cell 0;have c1:=gT.o.cell 1;have AV:=gT.o.lt;have hnn:w.heap.size≠wr.heap.size:=by omega
    have b5:=(HB.o.grown (ya G5.o HG.o) (by simp)).cell 5;have GA:=hid (fun ob:Obj=>aW wr ob none);by_cases hlt:a < o.syms.length
    ·obtain ⟨sg,hso,oK,hcs⟩:=S5.o.grown HG.o (by omega);subst hso;obtain ⟨y0,y1,y2,y3⟩:=hcs a hlt;clear hcs;have g3:(a:Int) < (o.syms.length:Int):=by omega
     by_cases x1:o.syms[a].ah=(n:Int)+1
     ·have z1:(o.syms[a].ah == (n:Int)+1)=true:=beq_iff_eq.2 x1;by_cases x2:off < o.syms[a].off
      ·have z2:decide (off < o.syms[a].off)=true:=by simpa using x2
       by_cases x3:o.syms[a].off < off+4 * sp
       ·have z3:decide (o.syms[a].off < off+4 * sp)=true:=by simpa using x3
        have CC:=hid (show WI from lg.o.2 ⟨a,hlt,x1,x2,x3⟩);clear x1;go_wp2;go_ret;exact no.o _ (fun h=>(dB.o.1 (HQ.o.1 h)).2.2.2.2.2.2 CC.o) (ya (ya G5.o HG.o) (GA.o _))
       ·have z3:decide (o.syms[a].off < off+4 * sp)=false:=by simp; omega
        have CC:=hid (show ¬ (o.syms[a].ah=(n:Int)+1/\off < o.syms[a].off/\o.syms[a].off < off+4 * sp) from fun h=>x3 h.2.2);clear x1 x3;go_wp2
        go_roundw
        case rel=>exact ⟨a+1,by omega,by go_num,fun j hj hjk=>(Nat.lt_succ_iff_lt_or_eq.1 hjk).elim (fun h=>gB.o j hj h) (fun h=>by subst h; exact CC.o),ya HG.o (GA.o _)⟩
        case measure=>simp [intOf]; omega
      ·have z2:decide (off < o.syms[a].off)=false:=by simp; omega
       have CC:=hid (show ¬ (o.syms[a].ah=(n:Int)+1/\off < o.syms[a].off/\o.syms[a].off < off+4 * sp) from fun h=>x2 h.2.1);clear x1 x2;go_wp2
       go_roundw
       case rel=>exact ⟨a+1,by omega,by go_num,fun j hj hjk=>(Nat.lt_succ_iff_lt_or_eq.1 hjk).elim (fun h=>gB.o j hj h) (fun h=>by subst h; exact CC.o),ya HG.o (GA.o _)⟩
       case measure=>simp [intOf]; omega
     ·have z1:(o.syms[a].ah == (n:Int)+1)=false:=beq_eq_false_iff_ne.2 x1;have CC:=hid (show ¬ (o.syms[a].ah=(n:Int)+1/\off < o.syms[a].off/\o.syms[a].off < off+4 * sp) from fun h=>x1 h.1);clear x1;go_wp2
      go_roundw
      case rel=>exact ⟨a+1,by omega,by go_num,fun j hj hjk=>(Nat.lt_succ_iff_lt_or_eq.1 hjk).elim (fun h=>gB.o j hj h) (fun h=>by subst h; exact CC.o),ya HG.o (GA.o _)⟩
      case measure=>simp [intOf]; omega
    ·have NW:=hid (show ¬ WI from fun h=>by obtain ⟨i,hi,hh⟩:=lg.o.1 h; exact gB.o i hi (by omega) hh);obtain ⟨m,hm⟩:=Int.eq_ofNat_of_zero_le (show 0<=sp from by omega);obtain ⟨ag,aM,hsa,hcl⟩:=oI.o (by omega);subst hsa;have AF:=qU.o HA2.o gK.o tT.o;rw [bU.o] at AF;have hoff:off=4 * (q:Int):=tQ.o;have hqq:(off / 4).toNat=q:=by have:=lT.o; omega
     rw [hqq,hm,Int.toNat_natCast] at AF;rw [hqq,hm,Int.toNat_natCast] at bU;have c2:=gT.o.cell 2;have t6:=yb t5 HG.o;have m1:1<=m:=by omega
     have m3:m<=3:=by omega
     have hqm:q+m<=ws.length:=by have:=lT.o; omega
     have IW:=hid (show yn wr (some ⟨ag,aM+q,none⟩) ((ws.drop q).take m) from fun _=>⟨ag,aM+q,rfl,fun i hi=>by
      have hi':q+i < ws.length:=by simp at hi; omega
      have:=yb (hcl (q+i) hi') HG.o
      rw [Nat.add_assoc,this];simp⟩)
     have fD:=hid (qW.o);have cG:=hid (fun W (hW:yn W (some ⟨ag,aM+q,none⟩) ((ws.drop q).take m))=>Ar 6 (some ⟨ag,aM+q,none⟩) (aZ - q) ((ws.drop q).take m) W hW AF.2.1 AF.2.2.1 AF.2.2.2 (by omega) (fun h=>by have:=fD.o (by first | exact h | simp); have:=AF.1; omega));rw [show ((ws.drop q).take m).length=m from AF.1] at cG;have oH:=hid (show yt 6 ((ws.drop q).take m)↔Q from ⟨fun h=>HQ.o.2 (dB.o.2 ⟨tO.o,HA2.o,pI.o,oG.o,gK.o,by rw [bU.o]; exact h,NW.o⟩),fun h=>by have:=(dB.o.1 (HQ.o.1 h)).2.2.2.2.2.1; rw [bU.o] at this; exact this⟩);generalize yt 6 ((ws.drop q).take m)=GP at *;subst hoff;subst hm
     have k0:Hd (wr.drew.cell? ⟨w.heap.size,0,none⟩=some (.int .i64 ((n:Int)+1))):=c0;have k1:Hd (wr.drew.cell? ⟨w.heap.size,1,none⟩=some (.int .i64 (4 * (q:Int)))):=c1;have k2:Hd (wr.drew.cell? ⟨w.heap.size,2,none⟩=some (.int .i64 6)):=c2;have k3:Hd (wr.drew.cell? ⟨B,n+1,none⟩=some (.slice (some ⟨ag,aM,none⟩) ws.length aZ)):=t6;have i1:(0:Int)<=(n:Int)+1:=by omega
     have i2:(n:Int)+1 < 5:=by omega
     have i3:(0:Int)<=(q:Int):=by omega
     have i4:(q:Int)<=(q:Int)+(m:Int):=by omega
     have i5:(q:Int)+(m:Int)<=(aZ:Int):=by omega
     have i6:IntKind.i64.wrap ((q:Int)+(m:Int))=(q:Int)+(m:Int):=IntWalk.i64_in _ ⟨by omega,by omega⟩;have j1:IntKind.i64.wrap (q:Int)=(q:Int):=IntWalk.i64_in _ ⟨by omega,by omega⟩;have AX:¬ aZ=q:=by omega
     have j2:max ((q:Int)+(m:Int)) 0=(q:Int)+(m:Int):=by omega
     have i7:(0:Int)<=(q:Int)+(m:Int):=by omega
     go_wp2;refine wp_region_held_drew (S:=(fun w'=>w'.cell? ⟨w.heap.size,0,none⟩=some (.int .i64 ((n:Int)+1))/\w'.cell? ⟨w.heap.size,1,none⟩=some (.int .i64 (4 * (q:Int)))/\w'.cell? ⟨w.heap.size,2,none⟩=some (.int .i64 6)/\w'.cell? ⟨B,n+1,none⟩=some (.slice (some ⟨ag,aM,none⟩) ws.length aZ))) (by kernel_rfl) ⟨k0.o,k1.o,k2.o,k3.o⟩ ?_;intro hS
     iterate 15
      refine yH (v:=?_) rfl (by kernel_rfl) (fun _ _ _ h=>h) hS ?_ ?_
      rotate_left
      ·intro w' hw'; obtain ⟨x0,x1,x2,x3⟩:=hw'; go_simp; with_reducible rfl
     refine wpAnyH_take (i:=15) (v:=.slice (some ⟨ag,aM+q,none⟩) m (aZ - q)) rfl (by kernel_rfl) (by kernel_rfl) (by kernel_rfl) (fun _ _ _ h=>h) (Or.inl ⟨by kernel_rfl,?_⟩) hS ?_
     ·intro w' hw'; obtain ⟨x0,x1,x2,x3⟩:=hw'; go_simp;omega
     refine wpAnyH_ready (rs:=[16]) (by kernel_rfl) (by simp) ?_;refine AllReadyH.cons rfl (fun K hK=>?_) AllReadyH.nil;go_simp;go_wp2_with (go_at_call 32; refine (cG.o _ ?_).mono ?_; (exact IW.o.kept (fun a v hv=>yb hv (yg (World.grownBy.refl wr none)))); rintro e w' ⟨⟨bb,rfl,hbb⟩,hq⟩)
     refine hK.out _ _ ⟨yb k0.o hq,yb k1.o hq,yb k2.o hq,yb k3.o hq⟩ (fun hS2=>?_);clear hK K;refine jG (i:=17) (v:=?_) rfl ?_ hS2 ?_
     rotate_left
     ·intro w' hw'; go_simp; with_reducible rfl
     refine wpAnyH_done (by kernel_rfl) ?_ _;simp only [oC,oF,oq,oD,iW,iR,iT];go_wp2;go_ret;exact ⟨ye.of (hbb.trans oH.o),ya (ya G5.o HG.o) (ya (yg (World.grownBy.refl _ _)) hq)⟩
  have d:decide ((16:Int) < addend+4)=false:=by simp; omega
  go_wp2
  go_quiet (fail)
  have ku:=hid (jB.o.drewN nq);have G5:=hid (yc G3.o nq);have t5:=yb t3 (yc (World.grownBy.refl w3 none) nq);have oI:=hid (qG.o.kept (fun a v hv=>yb hv (yc (World.grownBy.refl w3 none) nq)));clear c0 c1 c2 c3 c4 b4 b5 t3 qG jB G3 dI;generalize w3.drewN nq=w5 at *;have dI:=ku.o.lt;have b5:=(HB.o.grown G5.o (by simp)).cell 5;go_wp2;have S5:=hid (S.o.grown G5.o);have Bv:IntKind.i64.wrap (4 * sp)=4 * sp:=IntWalk.i64_in _ ⟨by omega,by omega⟩;have pF:IntKind.i64.wrap (off+4 * sp)=off+4 * sp:=IntWalk.i64_in _ ⟨by omega,by omega⟩
  go_loopw [13] (fun i wr=>∃ a:Nat,a<=o.syms.length/\i = .int .i64 a/\(∀ b (hb:b < o.syms.length),b < a->¬ (o.syms[b].ah=(n:Int)+1/\off < o.syms[b].off/\o.syms[b].off < off+4 * sp))/\w5.grownBy wr none) (fun i _=>o.syms.length - (intOf i).toNat)
  case atStart=>exact ⟨0,Nat.zero_le _,rfl,fun j _ hj=>absurd hj (Nat.not_lt_zero j),World.grownBy.refl _ _⟩
  case round =>
   obtain ⟨a,ha,rfl,hall,hgr⟩:=hrel;have gB:=hid hall;have HG:=hid hgr;clear hall hgr;have gT:=hid (ku.o.grown HG.o (by simp));have c0:=gT.o.cell 0;have c1:=gT.o.cell 1;have AV:=gT.o.lt;have hnn:w.heap.size≠wr.heap.size:=by omega
   have b5:=(HB.o.grown (ya G5.o HG.o) (by simp)).cell 5;have GA:=hid (fun ob:Obj=>aW wr ob none);by_cases hlt:a < o.syms.length
   ·obtain ⟨sg,hso,oK,hcs⟩:=S5.o.grown HG.o (by omega);subst hso;obtain ⟨y0,y1,y2,y3⟩:=hcs a hlt;clear hcs;have g3:(a:Int) < (o.syms.length:Int):=by omega
    by_cases x1:o.syms[a].ah=(n:Int)+1
    ·have z1:(o.syms[a].ah == (n:Int)+1)=true:=beq_iff_eq.2 x1;by_cases x2:off < o.syms[a].off
     ·have z2:decide (off < o.syms[a].off)=true:=by simpa using x2
      by_cases x3:o.syms[a].off < off+4 * sp
      ·have z3:decide (o.syms[a].off < off+4 * sp)=true:=by simpa using x3
       have CC:=hid (show WI from lg.o.2 ⟨a,hlt,x1,x2,x3⟩);clear x1;go_wp2;go_ret;exact no.o _ (fun h=>(dB.o.1 (HQ.o.1 h)).2.2.2.2.2.2 CC.o) (ya (ya G5.o HG.o) (GA.o _))
      ·have z3:decide (o.syms[a].off < off+4 * sp)=false:=by simp; omega
       have CC:=hid (show ¬ (o.syms[a].ah=(n:Int)+1/\off < o.syms[a].off/\o.syms[a].off < off+4 * sp) from fun h=>x3 h.2.2);clear x1 x3;go_wp2
       go_roundw
       case rel=>exact ⟨a+1,by omega,by go_num,fun j hj hjk=>(Nat.lt_succ_iff_lt_or_eq.1 hjk).elim (fun h=>gB.o j hj h) (fun h=>by subst h; exact CC.o),ya HG.o (GA.o _)⟩
       case measure=>simp [intOf]; omega
     ·have z2:decide (off < o.syms[a].off)=false:=by simp; omega
      have CC:=hid (show ¬ (o.syms[a].ah=(n:Int)+1/\off < o.syms[a].off/\o.syms[a].off < off+4 * sp) from fun h=>x2 h.2.1);clear x1 x2;go_wp2
      go_roundw
      case rel=>exact ⟨a+1,by omega,by go_num,fun j hj hjk=>(Nat.lt_succ_iff_lt_or_eq.1 hjk).elim (fun h=>gB.o j hj h) (fun h=>by subst h; exact CC.o),ya HG.o (GA.o _)⟩
      case measure=>simp [intOf]; omega
    ·have z1:(o.syms[a].ah == (n:Int)+1)=false:=beq_eq_false_iff_ne.2 x1;have CC:=hid (show ¬ (o.syms[a].ah=(n:Int)+1/\off < o.syms[a].off/\o.syms[a].off < off+4 * sp) from fun h=>x1 h.1);clear x1;go_wp2
     go_roundw
     case rel=>exact ⟨a+1,by omega,by go_num,fun j hj hjk=>(Nat.lt_succ_iff_lt_or_eq.1 hjk).elim (fun h=>gB.o j hj h) (fun h=>by subst h; exact CC.o),ya HG.o (GA.o _)⟩
     case measure=>simp [intOf]; omega
   ·have NW:=hid (show ¬ WI from fun h=>by obtain ⟨i,hi,hh⟩:=lg.o.1 h; exact gB.o i hi (by omega) hh);obtain ⟨m,hm⟩:=Int.eq_ofNat_of_zero_le (show 0<=sp from by omega);obtain ⟨ag,aM,hsa,hcl⟩:=oI.o (by omega);subst hsa;have AF:=qU.o HA2.o gK.o tT.o;rw [bU.o] at AF;have hoff:off=4 * (q:Int):=tQ.o;have hqq:(off / 4).toNat=q:=by have:=lT.o; omega
    rw [hqq,hm,Int.toNat_natCast] at AF;rw [hqq,hm,Int.toNat_natCast] at bU;have c2:=gT.o.cell 2;have t6:=yb t5 HG.o;have m1:1<=m:=by omega
    have m3:m<=3:=by omega
    have hqm:q+m<=ws.length:=by have:=lT.o; omega
    have IW:=hid (show yn wr (some ⟨ag,aM+q,none⟩) ((ws.drop q).take m) from fun _=>⟨ag,aM+q,rfl,fun i hi=>by
     have hi':q+i < ws.length:=by simp at hi; omega
     have:=yb (hcl (q+i) hi') HG.o
     rw [Nat.add_assoc,this];simp⟩)
    have fD:=hid (qW.o);have cG:=hid (fun W (hW:yn W (some ⟨ag,aM+q,none⟩) ((ws.drop q).take m))=>Ar 6 (some ⟨ag,aM+q,none⟩) (aZ - q) ((ws.drop q).take m) W hW AF.2.1 AF.2.2.1 AF.2.2.2 (by omega) (fun h=>by have:=fD.o (by first | exact h | simp); have:=AF.1; omega));rw [show ((ws.drop q).take m).length=m from AF.1] at cG;have oH:=hid (show yt 6 ((ws.drop q).take m)↔Q from ⟨fun h=>HQ.o.2 (dB.o.2 ⟨tO.o,HA2.o,pI.o,oG.o,gK.o,by rw [bU.o]; exact h,NW.o⟩),fun h=>by have:=(dB.o.1 (HQ.o.1 h)).2.2.2.2.2.1; rw [bU.o] at this; exact this⟩);generalize yt 6 ((ws.drop q).take m)=GP at *;subst hoff;subst hm;have k0:Hd (wr.drew.cell? ⟨w.heap.size,0,none⟩=some (.int .i64 ((n:Int)+1))):=c0
    have k1:Hd (wr.drew.cell? ⟨w.heap.size,1,none⟩=some (.int .i64 (4 * (q:Int)))):=c1;have k2:Hd (wr.drew.cell? ⟨w.heap.size,2,none⟩=some (.int .i64 6)):=c2;have k3:Hd (wr.drew.cell? ⟨B,n+1,none⟩=some (.slice (some ⟨ag,aM,none⟩) ws.length aZ)):=t6;have i1:(0:Int)<=(n:Int)+1:=by omega
    have i2:(n:Int)+1 < 5:=by omega
    have i3:(0:Int)<=(q:Int):=by omega
    have i4:(q:Int)<=(q:Int)+(m:Int):=by omega
    have i5:(q:Int)+(m:Int)<=(aZ:Int):=by omega
    have i6:IntKind.i64.wrap ((q:Int)+(m:Int))=(q:Int)+(m:Int):=IntWalk.i64_in _ ⟨by omega,by omega⟩;have j1:IntKind.i64.wrap (q:Int)=(q:Int):=IntWalk.i64_in _ ⟨by omega,by omega⟩;have AX:¬ aZ=q:=by omega
    have j2:max ((q:Int)+(m:Int)) 0=(q:Int)+(m:Int):=by omega
    have i7:(0:Int)<=(q:Int)+(m:Int):=by omega
    go_wp2;refine wp_region_held_drew (S:=(fun w'=>w'.cell? ⟨w.heap.size,0,none⟩=some (.int .i64 ((n:Int)+1))/\w'.cell? ⟨w.heap.size,1,none⟩=some (.int .i64 (4 * (q:Int)))/\w'.cell? ⟨w.heap.size,2,none⟩=some (.int .i64 6)/\w'.cell? ⟨B,n+1,none⟩=some (.slice (some ⟨ag,aM,none⟩) ws.length aZ))) (by kernel_rfl) ⟨k0.o,k1.o,k2.o,k3.o⟩ ?_;intro hS
    iterate 15
     refine yH (v:=?_) rfl (by kernel_rfl) (fun _ _ _ h=>h) hS ?_ ?_
     rotate_left
     ·intro w' hw'; obtain ⟨x0,x1,x2,x3⟩:=hw'; go_simp; with_reducible rfl
    refine wpAnyH_take (i:=15) (v:=.slice (some ⟨ag,aM+q,none⟩) m (aZ - q)) rfl (by kernel_rfl) (by kernel_rfl) (by kernel_rfl) (fun _ _ _ h=>h) (Or.inl ⟨by kernel_rfl,?_⟩) hS ?_
    ·intro w' hw'; obtain ⟨x0,x1,x2,x3⟩:=hw'; go_simp;omega
    refine wpAnyH_ready (rs:=[16]) (by kernel_rfl) (by simp) ?_;refine AllReadyH.cons rfl (fun K hK=>?_) AllReadyH.nil;go_simp;go_wp2_with (go_at_call 32; refine (cG.o _ ?_).mono ?_; (exact IW.o.kept (fun a v hv=>yb hv (yg (World.grownBy.refl wr none)))); rintro e w' ⟨⟨bb,rfl,hbb⟩,hq⟩)
    refine hK.out _ _ ⟨yb k0.o hq,yb k1.o hq,yb k2.o hq,yb k3.o hq⟩ (fun hS2=>?_);clear hK K;refine jG (i:=17) (v:=?_) rfl ?_ hS2 ?_
    rotate_left
    ·intro w' hw'; go_simp; with_reducible rfl
    refine wpAnyH_done (by kernel_rfl) ?_ _;simp only [oC,oF,oq,oD,iW,iR,iT];go_wp2;go_ret;exact ⟨ye.of (hbb.trans oH.o),ya (ya G5.o HG.o) (ya (yg (World.grownBy.refl _ _)) hq)⟩
theorem yfd (g B:Nat) (o:Lk.Obj) (at_:Option Addr) (ct:Nat) (af:Option Addr) (cf:Nat) (ad:Option Addr) (cd:Nat) (Z:Nat) (w:World) (h:yw w g o) (hs:tV w B o at_ ct af cf ad cd Z) (hn:ou o) (hb4:rD o.align) (hw:tN o)
  (hgr:∀ r∈o.aj,r.off<=9223372036854775807) (hk:0 < o.aj.length) (hpre:¬ (((1<=(o.aj[0]'hk).ah/\(o.aj[0]'hk).ah<=3)/\0<=(o.aj[0]'hk).off/\(o.aj[0]'hk).off % 4=0)/\1<=(o.aj[0]'hk).kind/\(o.aj[0]'hk).kind<=6)) :
  Calls Tryz.prog 17 #[.pointer (some ⟨g,0,none⟩),.slice (some ⟨B,0,none⟩) 5 5,.int .i64 0] w fun e w'=>ye e (nD o 0 hk)/\w.grownBy w' none:=by
 have dF:=hid hpre;clear hpre;obtain ⟨_,_,_,_,_,_,aa,ca,gu,cs,ar,cr,hb,-,-,-,h4,h5,h6⟩:=h.open;have hnr:=hn.2.2.2.2.2;have hns:=hn.2.2.2.2.1;obtain ⟨rg,hao,hgs,hc⟩:=wK.aF h6 (by omega);subst hao;obtain ⟨q0,q1,q2,q3,q4⟩:=hc 0 hk;simp only [Nat.zero_mul,Nat.zero_add] at q0 q1 q2 q3 q4;have k6:=hb.cell 6;have S:=hid (nS.aF h5);have vQ:=hb4.1;obtain ⟨ga,uw,uh,hca⟩:=yn.aF h4 (by omega);subst uh;have Dq:=hid hca;have wV:=hid hb4;have jQ:=yZ h4;have HB:=hid hb;have HS:=hid hs;have HW:=hid hw;have hsm:=hid (fun ah=>yB hn ah);have f3:=hgr _ (lM hk);have HQ:=hid (show nD o 0 hk↔yY o (o.aj[0]'hk) from ⟨fun h=>h.1,fun h=>⟨h,fun h=>absurd h (Nat.lt_irrefl _)⟩⟩)
 generalize nD o 0 hk=Q at *;have g1:(0:Int) < (o.aj.length:Int):=by omega
 generalize o.aj[0]'hk=r at *;have qU:=hid (fun (a:yk r) (b:yv o r) (c:mO (ym o r.ah))=>Du a b c);have cC:=hid (fun W (a:yk r)=>Ao r W a.six);have wY:=hid (fun (a:yk r)=>yD a);have lS:=hid (show yv o r↔0<=r.off/\r.off % 4=0/\r.off / 4+yo r<=(ym o r.ah).length from Iff.rfl);have bU:=hid (show yF o r=((ym o r.ah).drop (r.off / 4).toNat).take (yo r).toNat from rfl);have lg:=hid (show yN o r↔∃ i,∃ h:i < o.syms.length,o.syms[i].ah=r.ah/\r.off < o.syms[i].off/\o.syms[i].off < r.off+4 * yo r from Iff.rfl);have kM:=hid (show yS o r↔if r.kind=6 then r.sym=0 else 0<=r.sym/\r.sym < o.syms.length from Iff.rfl)
 have qV:=hid (show yQ o r↔(r.kind=6->r.addend+4<=pG (o.align.getD (r.ah.toNat - 1) 0)) from Iff.rfl);have nV:=hid (show yC r↔((r.ah=1\/r.ah=2)/\1<=r.kind/\r.kind<=6)\/(r.ah=3/\r.kind=1) from Iff.rfl);have mQ:=hid (show yk r↔if r.kind=1\/r.kind=5 then -2048<=r.addend/\r.addend<=2047 else if r.kind=6 then r.addend=4\/r.addend=12 else r.addend=0 from Iff.rfl);have dB:=hid (show yY o r↔yC r/\yk r/\yS o r/\yQ o r/\yv o r/\yt r.kind (yF o r)/\¬ yN o r from Iff.rfl);generalize yY o r=RO at *;generalize yS o r=SI at *;generalize yQ o r=BO at *;generalize yC r=KO at *;generalize yk r=AO at *;generalize yv o r=AB at *
 generalize yN o r=WI at *;generalize yF o r=ab at *;have qW:=hid (show r.kind=4\/r.kind=5->yo r=2 from fun h=>if_pos h);generalize yo r=sp at *;unfold fM at cC;obtain ⟨ah,off,kind,sym,addend⟩:=r;simp only at *;have no:Hd (∀ W,(¬ Q)->w.grownBy W none->ye (.returned (.bool false)) Q/\w.grownBy W none):=fun W a b=>⟨ye.no a,b⟩
 have B0:=yd.new w #[.int .i64 ah,.int .i64 off,.int .i64 kind,.int .i64 sym,.int .i64 addend] 54;have HB0:=hid B0;have G0:=hid (aW w (.cells #[.int .i64 ah,.int .i64 off,.int .i64 kind,.int .i64 sym,.int .i64 addend] 54) none);clear h hs hn h4 h5 h6 hb hb4 hw hgr hca hc B0;go_enter Tryz.func17,Tryz.ntmps17;by_cases c:ah < 1
 ·have d:decide (ah < 1)=true:=by simp; omega
  go_wp2;go_ret;exact no.o _ (fun h=>by have h2:=dB.o.1 (HQ.o.1 h); have h3:=nV.o.1 h2.1; omega) G0.o
 have n0:decide (ah < 1)=false:=by simp; omega
 have m0:¬ (ah < 1):=c;clear c;by_cases c:3 < ah
 ·have d:decide (3 < ah)=true:=by simp; omega
  go_wp2;go_ret;exact no.o _ (fun h=>by have h2:=dB.o.1 (HQ.o.1 h); have h3:=nV.o.1 h2.1; omega) G0.o
 have n1:decide (3 < ah)=false:=by simp; omega
 have m1:¬ (3 < ah):=c;clear c;by_cases c:kind < 1
 ·have d:decide (kind < 1)=true:=by simp; omega
  go_wp2;go_ret;exact no.o _ (fun h=>by have h2:=dB.o.1 (HQ.o.1 h); have h3:=nV.o.1 h2.1; omega) G0.o
 have n2:decide (kind < 1)=false:=by simp; omega
 have m2:¬ (kind < 1):=c;clear c;by_cases c:6 < kind
 ·have d:decide (6 < kind)=true:=by simp; omega
  go_wp2;go_ret;exact no.o _ (fun h=>by have h2:=dB.o.1 (HQ.o.1 h); have h3:=nV.o.1 h2.1; omega) G0.o
 have n3:decide (6 < kind)=false:=by simp; omega
 have m3:¬ (6 < kind):=c;clear c;by_cases c:off < 0
 ·have d:decide (off < 0)=true:=by simp; omega
  go_wp2;go_ret;exact no.o _ (fun h=>by have h2:=dB.o.1 (HQ.o.1 h); have h3:=lS.o.1 h2.2.2.2.2.1; omega) G0.o
 have n4:decide (off < 0)=false:=by simp; omega
 have m4:¬ (off < 0):=c;clear c;have m5:0<=off:=by omega
 by_cases c:off % 4=0
 rotate_left
 ·have d:(off % 4 == 0)=false:=beq_eq_false_iff_ne.2 c;have CC:=hid c;clear c;go_wp2;go_ret;exact no.o _ (fun h=>by have h2:=dB.o.1 (HQ.o.1 h); exact CC.o (lS.o.1 h2.2.2.2.2.1).2.1) G0.o
 have n5:(off % 4 == 0)=true:=beq_iff_eq.2 c;have C5:=hid c;exact absurd ⟨⟨⟨by omega,by omega⟩,m5,C5.o⟩,by omega,by omega⟩ dF.o
theorem yeM (g B j:Nat) (o:Lk.Obj) (at_:Option Addr) (ct:Nat) (af:Option Addr) (cf:Nat) (ad:Option Addr) (cd:Nat) (Z:Nat) (w:World) (h:yw w g o) (hs:tV w B o at_ ct af cf ad cd Z) (hn:ou o) (hb4:rD o.align) (hw:tN o)
  (hgr:∀ r∈o.aj,r.off<=9223372036854775807) (hk:(j+1) < o.aj.length) (fT:yY o (o.aj[j]'(by omega))) (hpre:(1<=(o.aj[j+1]'hk).ah/\(o.aj[j+1]'hk).ah<=3)/\0<=(o.aj[j+1]'hk).off/\(o.aj[j+1]'hk).off % 4=0) (hkd:(o.aj[j+1]'hk).kind=1) :
  Calls Tryz.prog 17 #[.pointer (some ⟨g,0,none⟩),.slice (some ⟨B,0,none⟩) 5 5,.int .i64 ((j+1:Nat):Int)] w fun e w'=>ye e (nD o (j+1) hk)/\w.grownBy w' none:=by
 have dF:=hid hpre;have iO:=hid hkd;clear hpre hkd;obtain ⟨_,_,_,_,_,_,aa,ca,gu,cs,ar,cr,hb,-,-,-,h4,h5,h6⟩:=h.open;have hnr:=hn.2.2.2.2.2;have hns:=hn.2.2.2.2.1;obtain ⟨rg,hao,hgs,hc⟩:=wK.aF h6 (by omega);subst hao;obtain ⟨q0,q1,q2,q3,q4⟩:=hc (j+1) hk;have k6:=hb.cell 6;have S:=hid (nS.aF h5);have vQ:=hb4.1;obtain ⟨ga,uw,uh,hca⟩:=yn.aF h4 (by omega);subst uh;have Dq:=hid hca;have wV:=hid hb4;have jQ:=yZ h4;have HB:=hid hb;have HS:=hid hs;have HW:=hid hw;have hsm:=hid (fun ah=>yB hn ah);have f3:=hgr _ (lM hk);have hkj:j < o.aj.length:=by omega
 have HP:=hid (hc j hkj);have hpa:=fT.2.1;have Pn:0<=(o.aj[j]'hkj).off/\(o.aj[j]'hkj).off<=1048576:=by
  have h1:=fT.2.2.2.2.1;have h2:=yB hn (o.aj[j]'hkj).ah;have h3:=yD hpa;unfold yv at h1;omega
 have HQ:=hid (show nD o (j+1) hk↔yY o (o.aj[j+1]'hk)/\yT (o.aj[j]'hkj) (o.aj[j+1]'hk) from ⟨fun h=>⟨h.1,h.2 (Nat.succ_pos j)⟩,fun h=>⟨h.1,fun _=>h.2⟩⟩);generalize nD o (j+1) hk=Q at *;generalize o.aj[j]'hkj=p at *;have Hf:=yD hpa;have cP:=hid (fun W=>Ao p W hpa.six);have AL:=hid (fun r=>show yT p r↔if r.ah=p.ah then p.off+4 * yo p<=r.off else p.ah < r.ah from Iff.rfl);generalize yT p=FP at *;generalize yo p=nQ at *;obtain ⟨dS,iK,lQ,qN,qM⟩:=p;unfold fM at cP;simp only at *;have g1:(j:Int)+1 < (o.aj.length:Int):=by omega
 have g2:(j:Int) < (o.aj.length:Int):=by omega
 clear fT hpa;generalize o.aj[(j+1)]'hk=r at *;have qU:=hid (fun (a:yk r) (b:yv o r) (c:mO (ym o r.ah))=>Du a b c);have cC:=hid (fun W (a:yk r)=>Ao r W a.six);have wY:=hid (fun (a:yk r)=>yD a);have lS:=hid (show yv o r↔0<=r.off/\r.off % 4=0/\r.off / 4+yo r<=(ym o r.ah).length from Iff.rfl);have bU:=hid (show yF o r=((ym o r.ah).drop (r.off / 4).toNat).take (yo r).toNat from rfl);have lg:=hid (show yN o r↔∃ i,∃ h:i < o.syms.length,o.syms[i].ah=r.ah/\r.off < o.syms[i].off/\o.syms[i].off < r.off+4 * yo r from Iff.rfl);have kM:=hid (show yS o r↔if r.kind=6 then r.sym=0 else 0<=r.sym/\r.sym < o.syms.length from Iff.rfl)
 have qV:=hid (show yQ o r↔(r.kind=6->r.addend+4<=pG (o.align.getD (r.ah.toNat - 1) 0)) from Iff.rfl);have nV:=hid (show yC r↔((r.ah=1\/r.ah=2)/\1<=r.kind/\r.kind<=6)\/(r.ah=3/\r.kind=1) from Iff.rfl);have mQ:=hid (show yk r↔if r.kind=1\/r.kind=5 then -2048<=r.addend/\r.addend<=2047 else if r.kind=6 then r.addend=4\/r.addend=12 else r.addend=0 from Iff.rfl);have dB:=hid (show yY o r↔yC r/\yk r/\yS o r/\yQ o r/\yv o r/\yt r.kind (yF o r)/\¬ yN o r from Iff.rfl);have uR:=hid (AL.o r);generalize FP r=FQ at *;clear AL;generalize yY o r=RO at *;generalize yS o r=SI at *;generalize yQ o r=BO at *;generalize yC r=KO at *
 generalize yk r=AO at *;generalize yv o r=AB at *;generalize yN o r=WI at *;generalize yF o r=ab at *;have qW:=hid (show r.kind=4\/r.kind=5->yo r=2 from fun h=>if_pos h);generalize yo r=sp at *;unfold fM at cC;obtain ⟨ah,off,kind,sym,addend⟩:=r;simp only at *;have no:Hd (∀ W,(¬ Q)->w.grownBy W none->ye (.returned (.bool false)) Q/\w.grownBy W none):=fun W a b=>⟨ye.no a,b⟩
 have B0:=yd.new w #[.int .i64 ah,.int .i64 off,.int .i64 kind,.int .i64 sym,.int .i64 addend] 54;have HB0:=hid B0;have G0:=hid (aW w (.cells #[.int .i64 ah,.int .i64 off,.int .i64 kind,.int .i64 sym,.int .i64 addend] 54) none);clear h hs hn h4 h5 h6 hb hb4 hw hgr hca hc B0;go_enter Tryz.func17,Tryz.ntmps17;by_cases c:ah < 1
 ·have d:decide (ah < 1)=true:=by simp; omega
  have:=dF.o
  have:=iO.o
  omega
 have n0:decide (ah < 1)=false:=by simp; omega
 have m0:¬ (ah < 1):=c;clear c;by_cases c:3 < ah
 ·have d:decide (3 < ah)=true:=by simp; omega
  have:=dF.o
  have:=iO.o
  omega
 have n1:decide (3 < ah)=false:=by simp; omega
 have m1:¬ (3 < ah):=c;clear c;by_cases c:kind < 1
 ·have d:decide (kind < 1)=true:=by simp; omega
  have:=dF.o
  have:=iO.o
  omega
 have n2:decide (kind < 1)=false:=by simp; omega
 have m2:¬ (kind < 1):=c;clear c;by_cases c:6 < kind
 ·have d:decide (6 < kind)=true:=by simp; omega
  have:=dF.o
  have:=iO.o
  omega
 have n3:decide (6 < kind)=false:=by simp; omega
 have m3:¬ (6 < kind):=c;clear c;by_cases c:off < 0
 ·have d:decide (off < 0)=true:=by simp; omega
  have:=dF.o
  have:=iO.o
  omega
 have n4:decide (off < 0)=false:=by simp; omega
 have m4:¬ (off < 0):=c;clear c;have m5:0<=off:=by omega
 by_cases c:off % 4=0
 rotate_left
 ·have d:(off % 4 == 0)=false:=beq_eq_false_iff_ne.2 c;have CC:=hid c;clear c
  have:=dF.o
  have:=iO.o
  have:=CC.o
  omega
 have n5:(off % 4 == 0)=true:=beq_iff_eq.2 c;have C5:=hid c;obtain ⟨q,hq4⟩:∃ q:Nat,off=4 * (q:Int):=⟨(off / 4).toNat,by omega⟩
 have jR:off / 4=(q:Int):=by omega
 have lT:=hid jR;have tQ:=hid hq4;clear c hq4 jR;obtain ⟨n,hsn⟩:∃ n:Nat,ah=(n:Int)+1:=⟨(ah - 1).toNat,by omega⟩
 have hn2:n<=2:=by omega
 subst hsn;clear m0 m1;obtain ⟨Jd,aZ,s1,s2,s3,s4⟩:=(HS.o.grown G0.o).sec n hn2;unfold maxLen at s3;have s5:=hsm.o ((n:Int)+1);have nX:=hid s4;clear s4;have tT:=hid (Gf HW.o ((n:Int)+1));generalize ym o ((n:Int)+1)=ws at *;have hkd:=iO.o
 ·subst hkd;by_cases c:addend < -2048
  ·have d:decide (addend < -2048)=true:=by simp; omega
   have CC:=hid (show ¬ AO from fun h=>by rw [mQ.o] at h; simp at h; omega);go_wp2;go_ret;exact no.o _ (fun h=>CC.o (dB.o.1 (HQ.o.1 h).1).2.1) G0.o
  have a1:decide (addend < -2048)=false:=by simp; omega
  have e1:¬ (addend < -2048):=c;clear c;by_cases c:2047 < addend
  ·have d:decide (2047 < addend)=true:=by simp; omega
   have CC:=hid (show ¬ AO from fun h=>by rw [mQ.o] at h; simp at h; omega);go_wp2;go_ret;exact no.o _ (fun h=>CC.o (dB.o.1 (HQ.o.1 h).1).2.1) G0.o
  have a2:decide (2047 < addend)=false:=by simp; omega
  have e2:¬ (2047 < addend):=c;clear c;have HA:=hid (mQ.o.2 (by simp; omega));have hsp:=wY.o HA.o;have zJ:=hid (fun W=>cC.o W HA.o);go_wp2_with fail;refine (zJ.o _).mono ?_;rintro e w2 ⟨rfl,hq2⟩;have BR:=hid (HB0.o.grown hq2 (by simp));have G2:=hid (ya G0.o hq2);have t1:=yb s1 hq2;have rM:=hid (nX.o.kept (fun a v hv=>yb hv hq2));have c0:=BR.o.cell 0;have c1:=BR.o.cell 1;have c2:=BR.o.cell 2;have c3:=BR.o.cell 3;have c4:=BR.o.cell 4;have b4:=(HB.o.grown G2.o (by simp)).cell 4;have b5:=(HB.o.grown G2.o (by simp)).cell 5;have b6:=(HB.o.grown G2.o (by simp)).cell 6;clear hq2 s1 q0 q1 q2 q3 q4 k6;have dI:=BR.o.lt
  have HA2:=hid HA.o;by_cases r1:(ws.length:Int) < off / 4+sp
  ·have d:decide ((ws.length:Int) < off / 4+sp)=true:=by simp; omega
   have CC:=hid (show ¬ AB from fun h=>by have:=(lS.o.1 h).2.2; omega);go_wp2
   go_quiet (fail)
   go_wp2;go_ret;exact no.o _ (fun h=>CC.o (dB.o.1 (HQ.o.1 h).1).2.2.2.2.1) (yc G2.o nq)
  have Ed:decide ((ws.length:Int) < off / 4+sp)=false:=by simp; omega
  have gK:=hid (lS.o.2 ⟨m5,C5.o,by omega⟩);have tO:=hid (nV.o.2 (by simp; omega));rcases (show ((n:Int)+1 == 3)=true\/((n:Int)+1 == 3)=false from by cases ((n:Int)+1 == 3) <;> simp) with vL | vL
  all_goals
   go_wp2
   go_quiet (fail)
   have jB:=hid (BR.o.drewN nq);have G3:=hid (yc G2.o nq);have t3:=yb t1 (yc (World.grownBy.refl w2 none) nq);have qG:=hid (rM.o.kept (fun a v hv=>yb hv (yc (World.grownBy.refl w2 none) nq)));clear c0 c1 c2 c3 c4 b4 b5 b6 t1 rM BR G2 dI;generalize w2.drewN nq=w3 at *;have dI:=jB.o.lt;have u0:=yb HP.o.1 G3.o;have u1:=yb HP.o.2.1 G3.o;have u2:=yb HP.o.2.2.1 G3.o;have u3:=yb HP.o.2.2.2.1 G3.o;have u4:=yb HP.o.2.2.2.2 G3.o;have b6:=(HB.o.grown G3.o (by simp)).cell 6;have BP:=hid (yd.new w3 #[.int .i64 dS,.int .i64 iK,.int .i64 lQ,.int .i64 qN,.int .i64 qM] 54);have GP:=hid (aW w3 (.cells #[.int .i64 dS,.int .i64 iK,.int .i64 lQ,.int .i64 qN,.int .i64 qM] 54) none)
   go_wp2_with fail;refine (cP.o _).mono ?_;rintro e w4 ⟨rfl,hq4⟩;have GQ:=hid (ya GP.o hq4);have Dx:=hid (BP.o.grown hq4 (by simp));have eF:=hid (jB.o.grown GQ.o (by simp));have G4:=hid (ya G3.o GQ.o);have t4:=yb t3 GQ.o;have rO:=hid (qG.o.kept (fun a v hv=>yb hv GQ.o));have c0:=eF.o.cell 0;have c1:=eF.o.cell 1;have p0:=Dx.o.cell 0;have p1:=Dx.o.cell 1;clear hq4 u0 u1 u2 u3 u4 t3 qG b6 jB G3 GQ BP GP dI;have dI:=eF.o.lt;have TN:IntKind.i64.wrap (4 * nQ)=4 * nQ:=IntWalk.i64_in _ ⟨by omega,by omega⟩;have TQ:IntKind.i64.wrap (iK+4 * nQ)=iK+4 * nQ:=IntWalk.i64_in _ ⟨by omega,by omega⟩;by_cases r5:(n:Int)+1 < dS
   ·have d:decide ((n:Int)+1 < dS)=true:=by simp; omega
    have CC:=hid (show ¬ FQ from fun h=>by rw [uR.o,if_neg (by omega)] at h; omega);go_wp2;go_ret;exact no.o _ (fun h=>CC.o (HQ.o.1 h).2) G4.o
   have JM:decide ((n:Int)+1 < dS)=false:=by simp; omega
   by_cases r6:(n:Int)+1=dS
   rotate_left
   ·have Ee:((n:Int)+1 == dS)=false:=beq_eq_false_iff_ne.2 r6;have wX:=hid (show FQ from by rw [uR.o,if_neg (by omega)]; omega);clear r6;have c0:=eF.o.cell 0;have c1:=eF.o.cell 1;have c2:=eF.o.cell 2;have c3:=eF.o.cell 3;have c4:=eF.o.cell 4;have b4:=(HB.o.grown G4.o (by simp)).cell 4;have b5:=(HB.o.grown G4.o (by simp)).cell 5;by_cases r8:sym < 0
    ·have d:decide (sym < 0)=true:=by simp; omega
     have CC:=hid (show ¬ SI from fun h=>by have h2:=kM.o.1 h; first | omega | (rw [if_neg (by omega)] at h2; omega) | (simp at h2; omega));go_wp2
     go_quiet (fail)
     go_wp2;go_ret;exact no.o _ (fun h=>CC.o (dB.o.1 (HQ.o.1 h).1).2.2.1) (yc G4.o nq)
    have wP:decide (sym < 0)=false:=by simp; omega
    by_cases r9:(o.syms.length:Int)<=sym
    ·have d:decide ((o.syms.length:Int)<=sym)=true:=by simp; omega
     have CC:=hid (show ¬ SI from fun h=>by have h2:=kM.o.1 h; first | omega | (rw [if_neg (by omega)] at h2; omega) | (simp at h2; omega));go_wp2
     go_quiet (fail)
     go_wp2;go_ret;exact no.o _ (fun h=>CC.o (dB.o.1 (HQ.o.1 h).1).2.2.1) (yc G4.o nq)
    have Dt:decide ((o.syms.length:Int)<=sym)=false:=by simp; omega
    have pI:=hid (show SI from kM.o.2 (by first | (rw [if_neg (by omega)]; omega) | (simp; omega)));have oG:=hid (show BO from qV.o.2 (fun h=>by exfalso; omega));go_wp2
    go_quiet (fail)
    have ku:=hid (eF.o.drewN nq);have G5:=hid (yc G4.o nq);have t5:=yb t4 (yc (World.grownBy.refl w4 none) nq);have oI:=hid (rO.o.kept (fun a v hv=>yb hv (yc (World.grownBy.refl w4 none) nq)));clear c0 c1 c2 c3 c4 b4 b5 t4 rO eF G4 dI;generalize w4.drewN nq=w5 at *;have dI:=ku.o.lt;have b5:=(HB.o.grown G5.o (by simp)).cell 5;go_wp2;have S5:=hid (S.o.grown G5.o);have Bv:IntKind.i64.wrap (4 * sp)=4 * sp:=IntWalk.i64_in _ ⟨by omega,by omega⟩;have pF:IntKind.i64.wrap (off+4 * sp)=off+4 * sp:=IntWalk.i64_in _ ⟨by omega,by omega⟩
    go_loopw [13] (fun i wr=>∃ a:Nat,a<=o.syms.length/\i = .int .i64 a/\(∀ b (hb:b < o.syms.length),b < a->¬ (o.syms[b].ah=(n:Int)+1/\off < o.syms[b].off/\o.syms[b].off < off+4 * sp))/\w5.grownBy wr none) (fun i _=>o.syms.length - (intOf i).toNat)
    case atStart=>exact ⟨0,Nat.zero_le _,rfl,fun j _ hj=>absurd hj (Nat.not_lt_zero j),World.grownBy.refl _ _⟩
    case round =>
     obtain ⟨a,ha,rfl,hall,hgr⟩:=hrel;have gB:=hid hall;have HG:=hid hgr;clear hall hgr;have gT:=hid (ku.o.grown HG.o (by simp));have c0:=gT.o.cell 0;have c1:=gT.o.cell 1;have AV:=gT.o.lt;have hnn:w.heap.size≠wr.heap.size:=by omega
     have b5:=(HB.o.grown (ya G5.o HG.o) (by simp)).cell 5;have GA:=hid (fun ob:Obj=>aW wr ob none);by_cases hlt:a < o.syms.length
     ·obtain ⟨sg,hso,oK,hcs⟩:=S5.o.grown HG.o (by omega);subst hso;obtain ⟨y0,y1,y2,y3⟩:=hcs a hlt;clear hcs;have g3:(a:Int) < (o.syms.length:Int):=by omega
      by_cases x1:o.syms[a].ah=(n:Int)+1
      ·have z1:(o.syms[a].ah == (n:Int)+1)=true:=beq_iff_eq.2 x1;by_cases x2:off < o.syms[a].off
       ·have z2:decide (off < o.syms[a].off)=true:=by simpa using x2
        by_cases x3:o.syms[a].off < off+4 * sp
        ·have z3:decide (o.syms[a].off < off+4 * sp)=true:=by simpa using x3
         have CC:=hid (show WI from lg.o.2 ⟨a,hlt,x1,x2,x3⟩);clear x1;go_wp2;go_ret;exact no.o _ (fun h=>(dB.o.1 (HQ.o.1 h).1).2.2.2.2.2.2 CC.o) (ya (ya G5.o HG.o) (GA.o _))
        ·have z3:decide (o.syms[a].off < off+4 * sp)=false:=by simp; omega
         have CC:=hid (show ¬ (o.syms[a].ah=(n:Int)+1/\off < o.syms[a].off/\o.syms[a].off < off+4 * sp) from fun h=>x3 h.2.2);clear x1 x3;go_wp2
         go_roundw
         case rel=>exact ⟨a+1,by omega,by go_num,fun j hj hjk=>(Nat.lt_succ_iff_lt_or_eq.1 hjk).elim (fun h=>gB.o j hj h) (fun h=>by subst h; exact CC.o),ya HG.o (GA.o _)⟩
         case measure=>simp [intOf]; omega
       ·have z2:decide (off < o.syms[a].off)=false:=by simp; omega
        have CC:=hid (show ¬ (o.syms[a].ah=(n:Int)+1/\off < o.syms[a].off/\o.syms[a].off < off+4 * sp) from fun h=>x2 h.2.1);clear x1 x2;go_wp2
        go_roundw
        case rel=>exact ⟨a+1,by omega,by go_num,fun j hj hjk=>(Nat.lt_succ_iff_lt_or_eq.1 hjk).elim (fun h=>gB.o j hj h) (fun h=>by subst h; exact CC.o),ya HG.o (GA.o _)⟩
        case measure=>simp [intOf]; omega
      ·have z1:(o.syms[a].ah == (n:Int)+1)=false:=beq_eq_false_iff_ne.2 x1;have CC:=hid (show ¬ (o.syms[a].ah=(n:Int)+1/\off < o.syms[a].off/\o.syms[a].off < off+4 * sp) from fun h=>x1 h.1);clear x1;go_wp2
       go_roundw
       case rel=>exact ⟨a+1,by omega,by go_num,fun j hj hjk=>(Nat.lt_succ_iff_lt_or_eq.1 hjk).elim (fun h=>gB.o j hj h) (fun h=>by subst h; exact CC.o),ya HG.o (GA.o _)⟩
       case measure=>simp [intOf]; omega
     ·have NW:=hid (show ¬ WI from fun h=>by obtain ⟨i,hi,hh⟩:=lg.o.1 h; exact gB.o i hi (by omega) hh);obtain ⟨m,hm⟩:=Int.eq_ofNat_of_zero_le (show 0<=sp from by omega);obtain ⟨ag,aM,hsa,hcl⟩:=oI.o (by omega);subst hsa;have AF:=qU.o HA2.o gK.o tT.o;rw [bU.o] at AF;have hoff:off=4 * (q:Int):=tQ.o;have hqq:(off / 4).toNat=q:=by have:=lT.o; omega
      rw [hqq,hm,Int.toNat_natCast] at AF;rw [hqq,hm,Int.toNat_natCast] at bU;have c2:=gT.o.cell 2;have t6:=yb t5 HG.o;have m1:1<=m:=by omega
      have m3:m<=3:=by omega
      have hqm:q+m<=ws.length:=by have:=lT.o; omega
      have IW:=hid (show yn wr (some ⟨ag,aM+q,none⟩) ((ws.drop q).take m) from fun _=>⟨ag,aM+q,rfl,fun i hi=>by
       have hi':q+i < ws.length:=by simp at hi; omega
       have:=yb (hcl (q+i) hi') HG.o
       rw [Nat.add_assoc,this];simp⟩)
      have fD:=hid (qW.o);have cG:=hid (fun W (hW:yn W (some ⟨ag,aM+q,none⟩) ((ws.drop q).take m))=>Ar 1 (some ⟨ag,aM+q,none⟩) (aZ - q) ((ws.drop q).take m) W hW AF.2.1 AF.2.2.1 AF.2.2.2 (by omega) (fun h=>by have:=fD.o (by first | exact h | simp); have:=AF.1; omega));rw [show ((ws.drop q).take m).length=m from AF.1] at cG;have oH:=hid (show yt 1 ((ws.drop q).take m)↔Q from ⟨fun h=>HQ.o.2 ⟨dB.o.2 ⟨tO.o,HA2.o,pI.o,oG.o,gK.o,by rw [bU.o]; exact h,NW.o⟩,wX.o⟩,fun h=>by have:=(dB.o.1 (HQ.o.1 h).1).2.2.2.2.2.1; rw [bU.o] at this; exact this⟩);generalize yt 1 ((ws.drop q).take m)=GP at *;subst hoff;subst hm
      have k0:Hd (wr.drew.cell? ⟨w.heap.size,0,none⟩=some (.int .i64 ((n:Int)+1))):=c0;have k1:Hd (wr.drew.cell? ⟨w.heap.size,1,none⟩=some (.int .i64 (4 * (q:Int)))):=c1;have k2:Hd (wr.drew.cell? ⟨w.heap.size,2,none⟩=some (.int .i64 1)):=c2;have k3:Hd (wr.drew.cell? ⟨B,n+1,none⟩=some (.slice (some ⟨ag,aM,none⟩) ws.length aZ)):=t6;have i1:(0:Int)<=(n:Int)+1:=by omega
      have i2:(n:Int)+1 < 5:=by omega
      have i3:(0:Int)<=(q:Int):=by omega
      have i4:(q:Int)<=(q:Int)+(m:Int):=by omega
      have i5:(q:Int)+(m:Int)<=(aZ:Int):=by omega
      have i6:IntKind.i64.wrap ((q:Int)+(m:Int))=(q:Int)+(m:Int):=IntWalk.i64_in _ ⟨by omega,by omega⟩;have j1:IntKind.i64.wrap (q:Int)=(q:Int):=IntWalk.i64_in _ ⟨by omega,by omega⟩;have AX:¬ aZ=q:=by omega
      have j2:max ((q:Int)+(m:Int)) 0=(q:Int)+(m:Int):=by omega
      have i7:(0:Int)<=(q:Int)+(m:Int):=by omega
      go_wp2;refine wp_region_held_drew (S:=(fun w'=>w'.cell? ⟨w.heap.size,0,none⟩=some (.int .i64 ((n:Int)+1))/\w'.cell? ⟨w.heap.size,1,none⟩=some (.int .i64 (4 * (q:Int)))/\w'.cell? ⟨w.heap.size,2,none⟩=some (.int .i64 1)/\w'.cell? ⟨B,n+1,none⟩=some (.slice (some ⟨ag,aM,none⟩) ws.length aZ))) (by kernel_rfl) ⟨k0.o,k1.o,k2.o,k3.o⟩ ?_;intro hS
      iterate 15
       refine yH (v:=?_) rfl (by kernel_rfl) (fun _ _ _ h=>h) hS ?_ ?_
       rotate_left
       ·intro w' hw'; obtain ⟨x0,x1,x2,x3⟩:=hw'; go_simp; with_reducible rfl
      refine wpAnyH_take (i:=15) (v:=.slice (some ⟨ag,aM+q,none⟩) m (aZ - q)) rfl (by kernel_rfl) (by kernel_rfl) (by kernel_rfl) (fun _ _ _ h=>h) (Or.inl ⟨by kernel_rfl,?_⟩) hS ?_
      ·intro w' hw'; obtain ⟨x0,x1,x2,x3⟩:=hw'; go_simp;omega
      refine wpAnyH_ready (rs:=[16]) (by kernel_rfl) (by simp) ?_;refine AllReadyH.cons rfl (fun K hK=>?_) AllReadyH.nil;go_simp;go_wp2_with (go_at_call 32; refine (cG.o _ ?_).mono ?_; (exact IW.o.kept (fun a v hv=>yb hv (yg (World.grownBy.refl wr none)))); rintro e w' ⟨⟨bb,rfl,hbb⟩,hq⟩)
      refine hK.out _ _ ⟨yb k0.o hq,yb k1.o hq,yb k2.o hq,yb k3.o hq⟩ (fun hS2=>?_);clear hK K;refine jG (i:=17) (v:=?_) rfl ?_ hS2 ?_
      rotate_left
      ·intro w' hw'; go_simp; with_reducible rfl
      refine wpAnyH_done (by kernel_rfl) ?_ _;simp only [oC,oF,oq,oD,iW,iR,iT];go_wp2;go_ret;exact ⟨ye.of (hbb.trans oH.o),ya (ya G5.o HG.o) (ya (yg (World.grownBy.refl _ _)) hq)⟩
   have Ee:((n:Int)+1 == dS)=true:=beq_iff_eq.2 r6;by_cases r7:off < iK+4 * nQ
   ·have d:decide (off < iK+4 * nQ)=true:=by simp; omega
    have CC:=hid (show ¬ FQ from fun h=>by rw [uR.o,if_pos (by omega)] at h; omega);clear r6;go_wp2;go_ret;exact no.o _ (fun h=>CC.o (HQ.o.1 h).2) G4.o
   have JN:decide (off < iK+4 * nQ)=false:=by simp; omega
   have wX:=hid (show FQ from by rw [uR.o,if_pos (by omega)]; omega);clear r6;have c0:=eF.o.cell 0;have c1:=eF.o.cell 1;have c2:=eF.o.cell 2;have c3:=eF.o.cell 3;have c4:=eF.o.cell 4;have b4:=(HB.o.grown G4.o (by simp)).cell 4;have b5:=(HB.o.grown G4.o (by simp)).cell 5;by_cases r8:sym < 0
   ·have d:decide (sym < 0)=true:=by simp; omega
    have CC:=hid (show ¬ SI from fun h=>by have h2:=kM.o.1 h; first | omega | (rw [if_neg (by omega)] at h2; omega) | (simp at h2; omega));go_wp2
    go_quiet (fail)
    go_wp2;go_ret;exact no.o _ (fun h=>CC.o (dB.o.1 (HQ.o.1 h).1).2.2.1) (yc G4.o nq)
   have wP:decide (sym < 0)=false:=by simp; omega
   by_cases r9:(o.syms.length:Int)<=sym
   ·have d:decide ((o.syms.length:Int)<=sym)=true:=by simp; omega
    have CC:=hid (show ¬ SI from fun h=>by have h2:=kM.o.1 h; first | omega | (rw [if_neg (by omega)] at h2; omega) | (simp at h2; omega));go_wp2
    go_quiet (fail)
    go_wp2;go_ret;exact no.o _ (fun h=>CC.o (dB.o.1 (HQ.o.1 h).1).2.2.1) (yc G4.o nq)
   have Dt:decide ((o.syms.length:Int)<=sym)=false:=by simp; omega
   have pI:=hid (show SI from kM.o.2 (by first | (rw [if_neg (by omega)]; omega) | (simp; omega)));have oG:=hid (show BO from qV.o.2 (fun h=>by exfalso; omega));go_wp2
   go_quiet (fail)
   have ku:=hid (eF.o.drewN nq);have G5:=hid (yc G4.o nq);have t5:=yb t4 (yc (World.grownBy.refl w4 none) nq);have oI:=hid (rO.o.kept (fun a v hv=>yb hv (yc (World.grownBy.refl w4 none) nq)));clear c0 c1 c2 c3 c4 b4 b5 t4 rO eF G4 dI;generalize w4.drewN nq=w5 at *;have dI:=ku.o.lt;have b5:=(HB.o.grown G5.o (by simp)).cell 5;go_wp2;have S5:=hid (S.o.grown G5.o);have Bv:IntKind.i64.wrap (4 * sp)=4 * sp:=IntWalk.i64_in _ ⟨by omega,by omega⟩;have pF:IntKind.i64.wrap (off+4 * sp)=off+4 * sp:=IntWalk.i64_in _ ⟨by omega,by omega⟩
   go_loopw [13] (fun i wr=>∃ a:Nat,a<=o.syms.length/\i = .int .i64 a/\(∀ b (hb:b < o.syms.length),b < a->¬ (o.syms[b].ah=(n:Int)+1/\off < o.syms[b].off/\o.syms[b].off < off+4 * sp))/\w5.grownBy wr none) (fun i _=>o.syms.length - (intOf i).toNat)
   case atStart=>exact ⟨0,Nat.zero_le _,rfl,fun j _ hj=>absurd hj (Nat.not_lt_zero j),World.grownBy.refl _ _⟩
   case round =>
    obtain ⟨a,ha,rfl,hall,hgr⟩:=hrel;have gB:=hid hall;have HG:=hid hgr;clear hall hgr;have gT:=hid (ku.o.grown HG.o (by simp));have c0:=gT.o.cell 0;have c1:=gT.o.cell 1;have AV:=gT.o.lt;have hnn:w.heap.size≠wr.heap.size:=by omega
    have b5:=(HB.o.grown (ya G5.o HG.o) (by simp)).cell 5;have GA:=hid (fun ob:Obj=>aW wr ob none);by_cases hlt:a < o.syms.length
    ·obtain ⟨sg,hso,oK,hcs⟩:=S5.o.grown HG.o (by omega);subst hso;obtain ⟨y0,y1,y2,y3⟩:=hcs a hlt;clear hcs;have g3:(a:Int) < (o.syms.length:Int):=by omega
     by_cases x1:o.syms[a].ah=(n:Int)+1
     ·have z1:(o.syms[a].ah == (n:Int)+1)=true:=beq_iff_eq.2 x1;by_cases x2:off < o.syms[a].off
      ·have z2:decide (off < o.syms[a].off)=true:=by simpa using x2
       by_cases x3:o.syms[a].off < off+4 * sp
       ·have z3:decide (o.syms[a].off < off+4 * sp)=true:=by simpa using x3
        have CC:=hid (show WI from lg.o.2 ⟨a,hlt,x1,x2,x3⟩);clear x1;go_wp2;go_ret;exact no.o _ (fun h=>(dB.o.1 (HQ.o.1 h).1).2.2.2.2.2.2 CC.o) (ya (ya G5.o HG.o) (GA.o _))
       ·have z3:decide (o.syms[a].off < off+4 * sp)=false:=by simp; omega
        have CC:=hid (show ¬ (o.syms[a].ah=(n:Int)+1/\off < o.syms[a].off/\o.syms[a].off < off+4 * sp) from fun h=>x3 h.2.2);clear x1 x3;go_wp2
        go_roundw
        case rel=>exact ⟨a+1,by omega,by go_num,fun j hj hjk=>(Nat.lt_succ_iff_lt_or_eq.1 hjk).elim (fun h=>gB.o j hj h) (fun h=>by subst h; exact CC.o),ya HG.o (GA.o _)⟩
        case measure=>simp [intOf]; omega
      ·have z2:decide (off < o.syms[a].off)=false:=by simp; omega
       have CC:=hid (show ¬ (o.syms[a].ah=(n:Int)+1/\off < o.syms[a].off/\o.syms[a].off < off+4 * sp) from fun h=>x2 h.2.1);clear x1 x2;go_wp2
       go_roundw
       case rel=>exact ⟨a+1,by omega,by go_num,fun j hj hjk=>(Nat.lt_succ_iff_lt_or_eq.1 hjk).elim (fun h=>gB.o j hj h) (fun h=>by subst h; exact CC.o),ya HG.o (GA.o _)⟩
       case measure=>simp [intOf]; omega
     ·have z1:(o.syms[a].ah == (n:Int)+1)=false:=beq_eq_false_iff_ne.2 x1;have CC:=hid (show ¬ (o.syms[a].ah=(n:Int)+1/\off < o.syms[a].off/\o.syms[a].off < off+4 * sp) from fun h=>x1 h.1);clear x1;go_wp2
      go_roundw
      case rel=>exact ⟨a+1,by omega,by go_num,fun j hj hjk=>(Nat.lt_succ_iff_lt_or_eq.1 hjk).elim (fun h=>gB.o j hj h) (fun h=>by subst h; exact CC.o),ya HG.o (GA.o _)⟩
      case measure=>simp [intOf]; omega
    ·have NW:=hid (show ¬ WI from fun h=>by obtain ⟨i,hi,hh⟩:=lg.o.1 h; exact gB.o i hi (by omega) hh);obtain ⟨m,hm⟩:=Int.eq_ofNat_of_zero_le (show 0<=sp from by omega);obtain ⟨ag,aM,hsa,hcl⟩:=oI.o (by omega);subst hsa;have AF:=qU.o HA2.o gK.o tT.o;rw [bU.o] at AF;have hoff:off=4 * (q:Int):=tQ.o;have hqq:(off / 4).toNat=q:=by have:=lT.o; omega
     rw [hqq,hm,Int.toNat_natCast] at AF;rw [hqq,hm,Int.toNat_natCast] at bU;have c2:=gT.o.cell 2;have t6:=yb t5 HG.o;have m1:1<=m:=by omega
     have m3:m<=3:=by omega
     have hqm:q+m<=ws.length:=by have:=lT.o; omega
     have IW:=hid (show yn wr (some ⟨ag,aM+q,none⟩) ((ws.drop q).take m) from fun _=>⟨ag,aM+q,rfl,fun i hi=>by
      have hi':q+i < ws.length:=by simp at hi; omega
      have:=yb (hcl (q+i) hi') HG.o
      rw [Nat.add_assoc,this];simp⟩)
     have fD:=hid (qW.o);have cG:=hid (fun W (hW:yn W (some ⟨ag,aM+q,none⟩) ((ws.drop q).take m))=>Ar 1 (some ⟨ag,aM+q,none⟩) (aZ - q) ((ws.drop q).take m) W hW AF.2.1 AF.2.2.1 AF.2.2.2 (by omega) (fun h=>by have:=fD.o (by first | exact h | simp); have:=AF.1; omega));rw [show ((ws.drop q).take m).length=m from AF.1] at cG;have oH:=hid (show yt 1 ((ws.drop q).take m)↔Q from ⟨fun h=>HQ.o.2 ⟨dB.o.2 ⟨tO.o,HA2.o,pI.o,oG.o,gK.o,by rw [bU.o]; exact h,NW.o⟩,wX.o⟩,fun h=>by have:=(dB.o.1 (HQ.o.1 h).1).2.2.2.2.2.1; rw [bU.o] at this; exact this⟩);generalize yt 1 ((ws.drop q).take m)=GP at *;subst hoff;subst hm
     have k0:Hd (wr.drew.cell? ⟨w.heap.size,0,none⟩=some (.int .i64 ((n:Int)+1))):=c0;have k1:Hd (wr.drew.cell? ⟨w.heap.size,1,none⟩=some (.int .i64 (4 * (q:Int)))):=c1;have k2:Hd (wr.drew.cell? ⟨w.heap.size,2,none⟩=some (.int .i64 1)):=c2;have k3:Hd (wr.drew.cell? ⟨B,n+1,none⟩=some (.slice (some ⟨ag,aM,none⟩) ws.length aZ)):=t6;have i1:(0:Int)<=(n:Int)+1:=by omega
     have i2:(n:Int)+1 < 5:=by omega
     have i3:(0:Int)<=(q:Int):=by omega
     have i4:(q:Int)<=(q:Int)+(m:Int):=by omega
     have i5:(q:Int)+(m:Int)<=(aZ:Int):=by omega
     have i6:IntKind.i64.wrap ((q:Int)+(m:Int))=(q:Int)+(m:Int):=IntWalk.i64_in _ ⟨by omega,by omega⟩;have j1:IntKind.i64.wrap (q:Int)=(q:Int):=IntWalk.i64_in _ ⟨by omega,by omega⟩;have AX:¬ aZ=q:=by omega
     have j2:max ((q:Int)+(m:Int)) 0=(q:Int)+(m:Int):=by omega
     have i7:(0:Int)<=(q:Int)+(m:Int):=by omega
     go_wp2;refine wp_region_held_drew (S:=(fun w'=>w'.cell? ⟨w.heap.size,0,none⟩=some (.int .i64 ((n:Int)+1))/\w'.cell? ⟨w.heap.size,1,none⟩=some (.int .i64 (4 * (q:Int)))/\w'.cell? ⟨w.heap.size,2,none⟩=some (.int .i64 1)/\w'.cell? ⟨B,n+1,none⟩=some (.slice (some ⟨ag,aM,none⟩) ws.length aZ))) (by kernel_rfl) ⟨k0.o,k1.o,k2.o,k3.o⟩ ?_;intro hS
     iterate 15
      refine yH (v:=?_) rfl (by kernel_rfl) (fun _ _ _ h=>h) hS ?_ ?_
      rotate_left
      ·intro w' hw'; obtain ⟨x0,x1,x2,x3⟩:=hw'; go_simp; with_reducible rfl
     refine wpAnyH_take (i:=15) (v:=.slice (some ⟨ag,aM+q,none⟩) m (aZ - q)) rfl (by kernel_rfl) (by kernel_rfl) (by kernel_rfl) (fun _ _ _ h=>h) (Or.inl ⟨by kernel_rfl,?_⟩) hS ?_
     ·intro w' hw'; obtain ⟨x0,x1,x2,x3⟩:=hw'; go_simp;omega
     refine wpAnyH_ready (rs:=[16]) (by kernel_rfl) (by simp) ?_;refine AllReadyH.cons rfl (fun K hK=>?_) AllReadyH.nil;go_simp;go_wp2_with (go_at_call 32; refine (cG.o _ ?_).mono ?_; (exact IW.o.kept (fun a v hv=>yb hv (yg (World.grownBy.refl wr none)))); rintro e w' ⟨⟨bb,rfl,hbb⟩,hq⟩)
     refine hK.out _ _ ⟨yb k0.o hq,yb k1.o hq,yb k2.o hq,yb k3.o hq⟩ (fun hS2=>?_);clear hK K;refine jG (i:=17) (v:=?_) rfl ?_ hS2 ?_
     rotate_left
     ·intro w' hw'; go_simp; with_reducible rfl
     refine wpAnyH_done (by kernel_rfl) ?_ _;simp only [oC,oF,oq,oD,iW,iR,iT];go_wp2;go_ret;exact ⟨ye.of (hbb.trans oH.o),ya (ya G5.o HG.o) (ya (yg (World.grownBy.refl _ _)) hq)⟩
end Go.Proofs.YtnkkepfcpjllmaaGreatDoor
