
import Derived.Test.YtpgklkhgfcjceaaGreatDoorV06
set_option maxHeartbeats 16000000
set_option maxRecDepth 100000
namespace Go.Proofs.YtpgklkhgfcjceaaGreatDoor
open Go.RowKit
def KY (o:Lk.Obj) (r:Lk.Rel):Prop:=r.kind=6->r.addend+4<=xJ (o.align.getD (r.ah.toNat - 1) 0)
def Gv (o:Lk.Obj) (r:Lk.Rel):Prop:=Eh r/\rU r/\Ka o r/\KY o r/\Ee o r/\pq r.kind (yV o r)/\¬ KT o r
theorem yet {o:Lk.Obj} {r:Lk.Rel} (ha:rU r) (hab:Ee o r) (hw:qL (yx o r.ah)):(yV o r).length=(nX r).toNat/\qL (yV o r)/\(yV o r).length<=3/\1<=(yV o r).length:=by
 have hs:=Dt ha;obtain ⟨b1,b2,b3⟩:=hab;have hl:(yV o r).length=(nX r).toNat:=by unfold yV; simp; omega
 refine ⟨hl,?_,by omega,by omega⟩;intro i hi;have hi':(r.off / 4).toNat+i < (yx o r.ah).length:=by omega
 have e:(yV o r)[i]=(yx o r.ah)[(r.off / 4).toNat+i]:=by
  simp only [yV,List.getElem_take,List.getElem_drop]
 rw [e];exact hw _ hi'
theorem XC {o:Lk.Obj} (h:Ic o) (ah:Int):qL (yx o ah):=by
 unfold yx;split
 ·exact h.1
 split
 ·exact h.2.1
 split
 ·exact h.2.2
 ·intro i hi; simp at hi
theorem TA {e:Ending} {P:Prop} (h:yg e P) (hp:P):e = .returned (.bool true):=by
 rcases h.split with ⟨_,q⟩ | ⟨h1,_⟩
 ·exact absurd hp q.o
 ·exact h1
theorem YV {e:Ending} {P:Prop} (h:yg e P) (hp:¬ P):e = .returned (.bool false):=by
 rcases h.split with ⟨h1,_⟩ | ⟨_,q⟩
 ·exact h1
 ·exact absurd q.o hp
theorem yih (g:Nat) (o:Lk.Obj) (r:Lk.Rel) (w:World) (ht:dQ w) (h:yu w g o) (hn:vS o) (hb4:AJ o.align) (hw:Ic o) (hr:r.off<=9223372036854775807) :
  Calls Tryz.prog 161 #[.pointer (some ⟨g,0,none⟩),fK r] w fun e w'=>yg e (Gv o r)/\w.grownBy w' none:=by
 have no:Hd (∀ W,(¬ Gv o r)->w.grownBy W none->yg (.returned (.bool false)) (Gv o r)/\w.grownBy W none):=fun W a b=>⟨yg.no a,b⟩
 have HO:=hid h;have HT:=hid ht;have HN:=hid hn;have NU:=hid hb4;have HW:=hid hw;clear h ht hn hb4 hw;have B:=yc.new w #[.int .i64 r.ah,.int .i64 r.off,.int .i64 r.kind,.int .i64 r.sym,.int .i64 r.addend] 102;have GB:=aJ w (.cells #[.int .i64 r.ah,.int .i64 r.off,.int .i64 r.kind,.int .i64 r.sym,.int .i64 r.addend] 102) none;have HBk:=hid B;have HGB:=hid GB;clear B GB;have cK:=hid (fun W=>yjb r W);have cA:=hid (fun W=>yhu r W);have cS:=hid (fun W (hW:yu W g o)=>ykL g o r W hW HN.o);have fold:fK r = .agg #[.int .i64 r.ah,.int .i64 r.off,.int .i64 r.kind,.int .i64 r.sym,.int .i64 r.addend]:=rfl;rw [fold]
 rw [fold] at cK cA cS;clear fold;go_enter Tryz.func161,Tryz.ntmps161;go_wp2_with fail;refine Calls.aL (fun W=>yc W w.heap.size #[.int .i64 r.ah,.int .i64 r.off,.int .i64 r.kind,.int .i64 r.sym,.int .i64 r.addend] 102/\w.grownBy W none) ⟨HBk.o,HGB.o⟩ ?_;rintro W1 ⟨bk1,g1⟩;refine (cK.o W1).mono ?_;rintro e W2 ⟨t,q⟩;have Gy:=bk1.grown q (by simp);have G2:=hid (ya g1 q);rcases t.split with ⟨rfl,p1⟩ | ⟨rfl,p1⟩ <;> clear t q bk1 g1
 ·clear Gy;go_wp2;go_ret;exact no.o _ (fun h=>p1.o h.1) G2.o
 have c0:=Gy.cell 0;have c1:=Gy.cell 1;have c2:=Gy.cell 2;have c3:=Gy.cell 3;have c4:=Gy.cell 4;have HB2:=hid Gy;clear Gy;go_wp2_with fail;refine (cA.o W2).mono ?_;rintro e W3 ⟨t,q⟩;have Gz:=HB2.o.grown q (by simp);have G3:=hid (ya G2.o q);clear c0 c1 c2 c3 c4;rcases t.split with ⟨rfl,p2⟩ | ⟨rfl,p2⟩ <;> clear t q
 ·clear Gz;go_wp2;go_ret;exact no.o _ (fun h=>p2.o h.2.1) G3.o
 have c0:=Gz.cell 0;have c1:=Gz.cell 1;have c2:=Gz.cell 2;have c3:=Gz.cell 3;have c4:=Gz.cell 4;have HB3:=hid Gz;clear Gz;go_wp2_with fail;refine (cS.o W3 (HO.o.kept G3.o)).mono ?_;rintro e W4 ⟨t,q⟩;have GH:=HB3.o.grown q (by simp);have G4:=hid (ya G3.o q);clear c0 c1 c2 c3 c4;rcases t.split with ⟨rfl,p3⟩ | ⟨rfl,p3⟩ <;> clear t q
 ·clear GH;go_wp2;go_ret;exact no.o _ (fun h=>p3.o h.2.2.1) G4.o
 have c0:=GH.cell 0;have c1:=GH.cell 1;have c2:=GH.cell 2;have c3:=GH.cell 3;have c4:=GH.cell 4;have Li:=hid GH;clear GH;have kinds:=p1.o;unfold Eh at kinds;by_cases Fp:r.kind=6
 ·have hs:1<=r.ah/\r.ah<=2:=by omega
  have ha:=p2.o.six Fp;obtain ⟨sn,hsn⟩:∃ sn:Nat,r.ah=(sn:Int):=⟨r.ah.toNat,by omega⟩
  have hal:=NU.o.1;have cB:=hid (fun W (hW:yu W g o)=>show Calls Tryz.prog 106 #[.pointer (some ⟨g,0,none⟩),.int .i64 r.ah] W fun e w'=>e = .returned (.int .i64 (xJ (o.align.getD (r.ah.toNat - 1) 0)))/\w'=W from by
   have:=Xh g o sn W hW NU.o (by omega) (by omega)
   rw [hsn,Int.toNat_natCast,lC,j3 (by omega)];exact this)
  have BB:=hid (show KY o r↔r.addend+4<=xJ (o.align.getD (r.ah.toNat - 1) 0) from ⟨fun h=>h Fp,fun h _=>h⟩);generalize xJ (o.align.getD (r.ah.toNat - 1) 0)=bd at *;have d6:(r.kind == 6)=true:=beq_iff_eq.2 Fp;have hw4:IntKind.i64.wrap (r.addend+4)=r.addend+4:=IntWalk.i64_in _ ⟨by omega,by omega⟩;have K6:=hid Fp;clear Fp kinds hsn hal;by_cases hbd:bd < r.addend+4
  ·have db:decide (bd < r.addend+4)=true:=by simpa using hbd
   go_wp2
   go_quiet ((go_at_call 106; exact Calls.quiet_of_same (cB.o _ ((HO.o.kept G4.o).drewN _))))
   go_wp2;go_ret;exact no.o _ (fun h=>by have:=BB.o.1 h.2.2.2.1; omega) (yf G4.o _)
  ·have db:decide (bd < r.addend+4)=false:=by simp; omega
   have Qw:=hid (show KY o r from BB.o.2 (by omega));go_wp2
   go_quiet ((go_at_call 106; exact Calls.quiet_of_same (cB.o _ ((HO.o.kept G4.o).drewN _))))
   go_wp2;have B5:=Li.o.drewN nq;have G5:=hid (yf G4.o nq);have e0:Hd ((W4.drewN nq).drew.cell? ⟨w.heap.size,0,none⟩=some (.int .i64 r.ah)):=B5.cell 0;have e1:Hd ((W4.drewN nq).drew.cell? ⟨w.heap.size,1,none⟩=some (.int .i64 r.off)):=B5.cell 1;have e2:Hd ((W4.drewN nq).drew.cell? ⟨w.heap.size,2,none⟩=some (.int .i64 r.kind)):=B5.cell 2;have e3:Hd ((W4.drewN nq).drew.cell? ⟨w.heap.size,3,none⟩=some (.int .i64 r.sym)):=B5.cell 3;have e4:Hd ((W4.drewN nq).drew.cell? ⟨w.heap.size,4,none⟩=some (.int .i64 r.addend)):=B5.cell 4;have Al:Hd (yu (W4.drewN nq).drew g o):=yu.drew (HO.o.kept G5.o);have LG:Hd (dQ (W4.drewN nq).drew):=HT.o.grown (yh G5.o)
   have G6:=hid (yh G5.o);clear B5;have hcr:=hid (show 1<=r.kind/\r.kind<=6 from by have:=p1.o; unfold Eh at this; omega);by_cases hab:Ee o r
   ·have zK:=yet p2.o hab (XC HW.o r.ah);have hoff:0<=r.off/\r.off<=1048576:=by
     obtain ⟨x1,x2,x3⟩:=hab;have y1:=JO HN.o r.ah;have y2:=Dt p2.o;omega
    have zF:=hid (fun W (hW:yu W g o)=>SH g o r W hW HN.o p2.o hab);have EU:=hid (fun W ao cap (hW:dQ W) (hI:yy W ao (yV o r))=>show Calls Tryz.prog 206 #[.int .i64 r.kind,.slice ao (nX r).toNat cap] W fun e w'=>yg e (pq r.kind (yV o r))/\W.grownBy w' none from by
     rw [<- zK.1];exact X9 r.kind ao cap (yV o r) W hW hI zK.2.1 zK.2.2.1 zK.2.2.2 hcr.o (fun h=>by rw [zK.1]; unfold nX; rw [if_pos h]; rfl))
    have Mg:=hid (fun W (hW:yu W g o)=>Xd g o r W hW HN.o p2.o hoff.1 hoff.2);have Ig:=hid hab;unfold fK at zF Mg;clear hab zK hoff;generalize (nX r).toNat=sp at *;by_cases hg:pq r.kind (yV o r)
    ·have Ak:=hid hg;clear hg
     go_region_held3 (fun w'=>w'.cell? ⟨w.heap.size,0,none⟩=some (.int .i64 r.ah)/\w'.cell? ⟨w.heap.size,1,none⟩=some (.int .i64 r.off)/\w'.cell? ⟨w.heap.size,2,none⟩=some (.int .i64 r.kind)/\w'.cell? ⟨w.heap.size,3,none⟩=some (.int .i64 r.sym)/\w'.cell? ⟨w.heap.size,4,none⟩=some (.int .i64 r.addend))
      (go_keep)
      (first | (go_at_call 207; refine (zF.o _ Al.o).mono ?_; rintro e w5 ⟨ao,cap,rfl,hI,hq⟩; have s0:=yd e0.o hq; have s1:=yd e1.o hq; have s2:=yd e2.o hq; have s3:=yd e3.o hq; have s4:=yd e4.o hq) | (go_at_call 206; refine (EU.o _ ao cap (LG.o.grown hq) hI).mono ?_; rintro e w6 ⟨Fq,hq2⟩; obtain rfl:=TA Fq Ak.o; have z0:=yd s0 hq2; have z1:=yd s1 hq2; have z2:=yd s2 hq2; have z3:=yd s3 hq2; have z4:=yd s4 hq2) | (go_at_call 208; refine (Mg.o _ ((Al.o.kept hq).kept hq2)).mono ?_; rintro e w7 ⟨⟨b,rfl,hb⟩,hq3⟩; have y0:=yd z0 hq3; have y1:=yd z1 hq3; have y2:=yd z2 hq3; have y3:=yd z3 hq3; have y4:=yd z4 hq3))
     have GF:=hid (ya (ya (ya G6.o hq) hq2) hq3);have nY:=hid hb;clear hb hq hq2 hq3 s0 s1 s2 s3 s4 z0 z1 z2 z3 z4 y0 y1 y2 y3 y4 hI Fq;go_wp2;go_ret;refine ⟨yg.of ?_,GF.o⟩;have hbb:=nY.o;constructor
     ·intro h;refine ⟨p1.o,p2.o,p3.o,Qw.o,Ig.o,Ak.o,fun hwi=>?_⟩;rw [hbb.2 hwi] at h;simp at h
     ·intro h
      cases b
      ·rfl
      ·exact absurd (hbb.1 rfl) h.2.2.2.2.2.2
    ·have Ak:=hid hg;clear hg;refine wp_region_held_drew (S:=(fun w'=>w'.cell? ⟨w.heap.size,0,none⟩=some (.int .i64 r.ah)/\w'.cell? ⟨w.heap.size,1,none⟩=some (.int .i64 r.off)/\w'.cell? ⟨w.heap.size,2,none⟩=some (.int .i64 r.kind)/\w'.cell? ⟨w.heap.size,3,none⟩=some (.int .i64 r.sym)/\w'.cell? ⟨w.heap.size,4,none⟩=some (.int .i64 r.addend))) (by kernel_rfl) ⟨e0.o,e1.o,e2.o,e3.o,e4.o⟩ ?_;intro hS;refine aU (i:=0) (v:=?_) rfl ?_ hS ?_
     rotate_left
     ·intro w' _; go_simp; with_reducible rfl
     refine aU (i:=1) (v:=?_) rfl ?_ hS ?_
     rotate_left
     ·intro w' hw'; obtain ⟨x0,x1,x2,x3,x4⟩:=hw'; go_simp; with_reducible rfl
     refine aU (i:=2) (v:=?_) rfl ?_ hS ?_
     rotate_left
     ·intro w' _; go_simp; with_reducible rfl
     refine aU (i:=3) (v:=?_) rfl ?_ hS ?_
     rotate_left
     ·intro w' hw'; obtain ⟨x0,x1,x2,x3,x4⟩:=hw'; go_simp; with_reducible rfl
     refine wpAnyH_ready (rs:=[4]) (by kernel_rfl) (by simp) ?_;refine AllReadyH.cons rfl (fun K hK=>?_) AllReadyH.nil;go_simp;go_wp2_with (go_at_call 207; refine (zF.o _ Al.o).mono ?_; rintro e w5 ⟨ao,cap,rfl,hI,hq⟩)
     refine hK.out _ _ ⟨yd e0.o hq,yd e1.o hq,yd e2.o hq,yd e3.o hq,yd e4.o hq⟩ (fun hS2=>?_);clear hK K;refine wpAnyH_ready (rs:=[5]) (by kernel_rfl) (by simp) ?_;refine AllReadyH.cons rfl (fun K hK=>?_) AllReadyH.nil;go_simp;go_wp2_with (go_at_call 206; refine (EU.o _ ao cap (LG.o.grown hq) hI).mono ?_; rintro e w6 ⟨Fq,hq2⟩; obtain rfl:=YV Fq Ak.o)
     refine hK.out _ _ ⟨yd (yd e0.o hq) hq2,yd (yd e1.o hq) hq2,yd (yd e2.o hq) hq2,yd (yd e3.o hq) hq2,yd (yd e4.o hq) hq2⟩ (fun je=>?_);clear hK K;refine aU (i:=6) (v:=?_) rfl ?_ je ?_
     rotate_left
     ·intro w' _; go_simp; with_reducible rfl
     refine qP (i:=7) rfl je ?_;refine qP (i:=8) rfl je ?_;refine qP (i:=9) rfl je ?_;refine qP (i:=10) rfl je ?_;refine wpAnyH_take (i:=11) (v:=.bool false) rfl (by kernel_rfl) (by kernel_rfl) (by kernel_rfl) (fun _ _ _ h=>h) (Or.inl ⟨by kernel_rfl,fun _ _=>by kernel_rfl⟩) je ?_;refine wpAnyH_take (i:=12) (v:=.bool false) rfl (by kernel_rfl) (by kernel_rfl) (by kernel_rfl) (fun _ _ _ h=>h) (Or.inl ⟨by kernel_rfl,fun _ _=>by kernel_rfl⟩) je ?_;refine wpAnyH_done (by kernel_rfl) ?_ _;simp only [sN,qc,pz,pU,gu,fZ,gq];go_wp2;go_ret;exact no.o _ (fun h=>Ak.o h.2.2.2.2.2.1) (ya (ya G6.o hq) hq2)
   ·have zF:=hid (fun W (hW:yu W g o)=>Xr g o r W hW HN.o p2.o hab hr);have EU:=hid (fun W=>Ya r.kind W);have Ig:=hid hab;unfold fK at zF;clear hab;refine wp_region_held_drew (S:=(fun w'=>w'.cell? ⟨w.heap.size,0,none⟩=some (.int .i64 r.ah)/\w'.cell? ⟨w.heap.size,1,none⟩=some (.int .i64 r.off)/\w'.cell? ⟨w.heap.size,2,none⟩=some (.int .i64 r.kind)/\w'.cell? ⟨w.heap.size,3,none⟩=some (.int .i64 r.sym)/\w'.cell? ⟨w.heap.size,4,none⟩=some (.int .i64 r.addend))) (by kernel_rfl) ⟨e0.o,e1.o,e2.o,e3.o,e4.o⟩ ?_;intro hS;refine aU (i:=0) (v:=?_) rfl ?_ hS ?_
    rotate_left
    ·intro w' _; go_simp; with_reducible rfl
    refine aU (i:=1) (v:=?_) rfl ?_ hS ?_
    rotate_left
    ·intro w' hw'; obtain ⟨x0,x1,x2,x3,x4⟩:=hw'; go_simp; with_reducible rfl
    refine aU (i:=2) (v:=?_) rfl ?_ hS ?_
    rotate_left
    ·intro w' _; go_simp; with_reducible rfl
    refine aU (i:=3) (v:=?_) rfl ?_ hS ?_
    rotate_left
    ·intro w' hw'; obtain ⟨x0,x1,x2,x3,x4⟩:=hw'; go_simp; with_reducible rfl
    refine wpAnyH_ready (rs:=[4]) (by kernel_rfl) (by simp) ?_;refine AllReadyH.cons rfl (fun K hK=>?_) AllReadyH.nil;go_simp;go_wp2_with (go_at_call 207; refine (zF.o _ Al.o).mono ?_; rintro e w5 ⟨rfl,hq⟩)
    refine hK.out _ _ ⟨yd e0.o hq,yd e1.o hq,yd e2.o hq,yd e3.o hq,yd e4.o hq⟩ (fun hS2=>?_);clear hK K;refine wpAnyH_ready (rs:=[5]) (by kernel_rfl) (by simp) ?_;refine AllReadyH.cons rfl (fun K hK=>?_) AllReadyH.nil;go_simp;go_wp2_with (go_at_call 206; refine (EU.o _).mono ?_; rintro e w6 ⟨rfl,R8⟩)
    subst R8;refine hK.out _ _ ⟨yd e0.o hq,yd e1.o hq,yd e2.o hq,yd e3.o hq,yd e4.o hq⟩ (fun je=>?_);clear hK K;refine aU (i:=6) (v:=?_) rfl ?_ je ?_
    rotate_left
    ·intro w' _; go_simp; with_reducible rfl
    refine qP (i:=7) rfl je ?_;refine qP (i:=8) rfl je ?_;refine qP (i:=9) rfl je ?_;refine qP (i:=10) rfl je ?_;refine wpAnyH_take (i:=11) (v:=.bool false) rfl (by kernel_rfl) (by kernel_rfl) (by kernel_rfl) (fun _ _ _ h=>h) (Or.inl ⟨by kernel_rfl,fun _ _=>by kernel_rfl⟩) je ?_;refine wpAnyH_take (i:=12) (v:=.bool false) rfl (by kernel_rfl) (by kernel_rfl) (by kernel_rfl) (fun _ _ _ h=>h) (Or.inl ⟨by kernel_rfl,fun _ _=>by kernel_rfl⟩) je ?_;refine wpAnyH_done (by kernel_rfl) ?_ _;simp only [sN,qc,pz,pU,gu,fZ,gq];go_wp2;go_ret;exact no.o _ (fun h=>Ig.o h.2.2.2.2.1) (ya G6.o hq)
 ·have Qw:=hid (show KY o r from fun h=>absurd h Fp);have d6:(r.kind == 6)=false:=beq_eq_false_iff_ne.2 Fp;have K6:=hid Fp;clear Fp kinds;go_wp2
  go_quiet (fail)
  go_wp2;have B5:=Li.o.drewN nq;have G5:=hid (yf G4.o nq);have e0:Hd ((W4.drewN nq).drew.cell? ⟨w.heap.size,0,none⟩=some (.int .i64 r.ah)):=B5.cell 0;have e1:Hd ((W4.drewN nq).drew.cell? ⟨w.heap.size,1,none⟩=some (.int .i64 r.off)):=B5.cell 1;have e2:Hd ((W4.drewN nq).drew.cell? ⟨w.heap.size,2,none⟩=some (.int .i64 r.kind)):=B5.cell 2;have e3:Hd ((W4.drewN nq).drew.cell? ⟨w.heap.size,3,none⟩=some (.int .i64 r.sym)):=B5.cell 3;have e4:Hd ((W4.drewN nq).drew.cell? ⟨w.heap.size,4,none⟩=some (.int .i64 r.addend)):=B5.cell 4;have Al:Hd (yu (W4.drewN nq).drew g o):=yu.drew (HO.o.kept G5.o);have LG:Hd (dQ (W4.drewN nq).drew):=HT.o.grown (yh G5.o)
  have G6:=hid (yh G5.o);clear B5;have hcr:=hid (show 1<=r.kind/\r.kind<=6 from by have:=p1.o; unfold Eh at this; omega);by_cases hab:Ee o r
  ·have zK:=yet p2.o hab (XC HW.o r.ah);have hoff:0<=r.off/\r.off<=1048576:=by
    obtain ⟨x1,x2,x3⟩:=hab;have y1:=JO HN.o r.ah;have y2:=Dt p2.o;omega
   have zF:=hid (fun W (hW:yu W g o)=>SH g o r W hW HN.o p2.o hab);have EU:=hid (fun W ao cap (hW:dQ W) (hI:yy W ao (yV o r))=>show Calls Tryz.prog 206 #[.int .i64 r.kind,.slice ao (nX r).toNat cap] W fun e w'=>yg e (pq r.kind (yV o r))/\W.grownBy w' none from by
    rw [<- zK.1];exact X9 r.kind ao cap (yV o r) W hW hI zK.2.1 zK.2.2.1 zK.2.2.2 hcr.o (fun h=>by rw [zK.1]; unfold nX; rw [if_pos h]; rfl))
   have Mg:=hid (fun W (hW:yu W g o)=>Xd g o r W hW HN.o p2.o hoff.1 hoff.2);have Ig:=hid hab;unfold fK at zF Mg;clear hab zK hoff;generalize (nX r).toNat=sp at *;by_cases hg:pq r.kind (yV o r)
   ·have Ak:=hid hg;clear hg
    go_region_held3 (fun w'=>w'.cell? ⟨w.heap.size,0,none⟩=some (.int .i64 r.ah)/\w'.cell? ⟨w.heap.size,1,none⟩=some (.int .i64 r.off)/\w'.cell? ⟨w.heap.size,2,none⟩=some (.int .i64 r.kind)/\w'.cell? ⟨w.heap.size,3,none⟩=some (.int .i64 r.sym)/\w'.cell? ⟨w.heap.size,4,none⟩=some (.int .i64 r.addend))
     (go_keep)
     (first | (go_at_call 207; refine (zF.o _ Al.o).mono ?_; rintro e w5 ⟨ao,cap,rfl,hI,hq⟩; have s0:=yd e0.o hq; have s1:=yd e1.o hq; have s2:=yd e2.o hq; have s3:=yd e3.o hq; have s4:=yd e4.o hq) | (go_at_call 206; refine (EU.o _ ao cap (LG.o.grown hq) hI).mono ?_; rintro e w6 ⟨Fq,hq2⟩; obtain rfl:=TA Fq Ak.o; have z0:=yd s0 hq2; have z1:=yd s1 hq2; have z2:=yd s2 hq2; have z3:=yd s3 hq2; have z4:=yd s4 hq2) | (go_at_call 208; refine (Mg.o _ ((Al.o.kept hq).kept hq2)).mono ?_; rintro e w7 ⟨⟨b,rfl,hb⟩,hq3⟩; have y0:=yd z0 hq3; have y1:=yd z1 hq3; have y2:=yd z2 hq3; have y3:=yd z3 hq3; have y4:=yd z4 hq3))
    have GF:=hid (ya (ya (ya G6.o hq) hq2) hq3);have nY:=hid hb;clear hb hq hq2 hq3 s0 s1 s2 s3 s4 z0 z1 z2 z3 z4 y0 y1 y2 y3 y4 hI Fq;go_wp2;go_ret;refine ⟨yg.of ?_,GF.o⟩;have hbb:=nY.o;constructor
    ·intro h;refine ⟨p1.o,p2.o,p3.o,Qw.o,Ig.o,Ak.o,fun hwi=>?_⟩;rw [hbb.2 hwi] at h;simp at h
    ·intro h
     cases b
     ·rfl
     ·exact absurd (hbb.1 rfl) h.2.2.2.2.2.2
   ·have Ak:=hid hg;clear hg;refine wp_region_held_drew (S:=(fun w'=>w'.cell? ⟨w.heap.size,0,none⟩=some (.int .i64 r.ah)/\w'.cell? ⟨w.heap.size,1,none⟩=some (.int .i64 r.off)/\w'.cell? ⟨w.heap.size,2,none⟩=some (.int .i64 r.kind)/\w'.cell? ⟨w.heap.size,3,none⟩=some (.int .i64 r.sym)/\w'.cell? ⟨w.heap.size,4,none⟩=some (.int .i64 r.addend))) (by kernel_rfl) ⟨e0.o,e1.o,e2.o,e3.o,e4.o⟩ ?_;intro hS;refine aU (i:=0) (v:=?_) rfl ?_ hS ?_
    rotate_left
    ·intro w' _; go_simp; with_reducible rfl
    refine aU (i:=1) (v:=?_) rfl ?_ hS ?_
    rotate_left
    ·intro w' hw'; obtain ⟨x0,x1,x2,x3,x4⟩:=hw'; go_simp; with_reducible rfl
    refine aU (i:=2) (v:=?_) rfl ?_ hS ?_
    rotate_left
    ·intro w' _; go_simp; with_reducible rfl
    refine aU (i:=3) (v:=?_) rfl ?_ hS ?_
    rotate_left
    ·intro w' hw'; obtain ⟨x0,x1,x2,x3,x4⟩:=hw'; go_simp; with_reducible rfl
    refine wpAnyH_ready (rs:=[4]) (by kernel_rfl) (by simp) ?_;refine AllReadyH.cons rfl (fun K hK=>?_) AllReadyH.nil;go_simp;go_wp2_with (go_at_call 207; refine (zF.o _ Al.o).mono ?_; rintro e w5 ⟨ao,cap,rfl,hI,hq⟩)
    refine hK.out _ _ ⟨yd e0.o hq,yd e1.o hq,yd e2.o hq,yd e3.o hq,yd e4.o hq⟩ (fun hS2=>?_);clear hK K;refine wpAnyH_ready (rs:=[5]) (by kernel_rfl) (by simp) ?_;refine AllReadyH.cons rfl (fun K hK=>?_) AllReadyH.nil;go_simp;go_wp2_with (go_at_call 206; refine (EU.o _ ao cap (LG.o.grown hq) hI).mono ?_; rintro e w6 ⟨Fq,hq2⟩; obtain rfl:=YV Fq Ak.o)
    refine hK.out _ _ ⟨yd (yd e0.o hq) hq2,yd (yd e1.o hq) hq2,yd (yd e2.o hq) hq2,yd (yd e3.o hq) hq2,yd (yd e4.o hq) hq2⟩ (fun je=>?_);clear hK K;refine aU (i:=6) (v:=?_) rfl ?_ je ?_
    rotate_left
    ·intro w' _; go_simp; with_reducible rfl
    refine qP (i:=7) rfl je ?_;refine qP (i:=8) rfl je ?_;refine qP (i:=9) rfl je ?_;refine qP (i:=10) rfl je ?_;refine wpAnyH_take (i:=11) (v:=.bool false) rfl (by kernel_rfl) (by kernel_rfl) (by kernel_rfl) (fun _ _ _ h=>h) (Or.inl ⟨by kernel_rfl,fun _ _=>by kernel_rfl⟩) je ?_;refine wpAnyH_take (i:=12) (v:=.bool false) rfl (by kernel_rfl) (by kernel_rfl) (by kernel_rfl) (fun _ _ _ h=>h) (Or.inl ⟨by kernel_rfl,fun _ _=>by kernel_rfl⟩) je ?_;refine wpAnyH_done (by kernel_rfl) ?_ _;simp only [sN,qc,pz,pU,gu,fZ,gq];go_wp2;go_ret;exact no.o _ (fun h=>Ak.o h.2.2.2.2.2.1) (ya (ya G6.o hq) hq2)
  ·have zF:=hid (fun W (hW:yu W g o)=>Xr g o r W hW HN.o p2.o hab hr);have EU:=hid (fun W=>Ya r.kind W);have Ig:=hid hab;unfold fK at zF;clear hab;refine wp_region_held_drew (S:=(fun w'=>w'.cell? ⟨w.heap.size,0,none⟩=some (.int .i64 r.ah)/\w'.cell? ⟨w.heap.size,1,none⟩=some (.int .i64 r.off)/\w'.cell? ⟨w.heap.size,2,none⟩=some (.int .i64 r.kind)/\w'.cell? ⟨w.heap.size,3,none⟩=some (.int .i64 r.sym)/\w'.cell? ⟨w.heap.size,4,none⟩=some (.int .i64 r.addend))) (by kernel_rfl) ⟨e0.o,e1.o,e2.o,e3.o,e4.o⟩ ?_;intro hS;refine aU (i:=0) (v:=?_) rfl ?_ hS ?_
   rotate_left
   ·intro w' _; go_simp; with_reducible rfl
   refine aU (i:=1) (v:=?_) rfl ?_ hS ?_
   rotate_left
   ·intro w' hw'; obtain ⟨x0,x1,x2,x3,x4⟩:=hw'; go_simp; with_reducible rfl
   refine aU (i:=2) (v:=?_) rfl ?_ hS ?_
   rotate_left
   ·intro w' _; go_simp; with_reducible rfl
   refine aU (i:=3) (v:=?_) rfl ?_ hS ?_
   rotate_left
   ·intro w' hw'; obtain ⟨x0,x1,x2,x3,x4⟩:=hw'; go_simp; with_reducible rfl
   refine wpAnyH_ready (rs:=[4]) (by kernel_rfl) (by simp) ?_;refine AllReadyH.cons rfl (fun K hK=>?_) AllReadyH.nil;go_simp;go_wp2_with (go_at_call 207; refine (zF.o _ Al.o).mono ?_; rintro e w5 ⟨rfl,hq⟩)
   refine hK.out _ _ ⟨yd e0.o hq,yd e1.o hq,yd e2.o hq,yd e3.o hq,yd e4.o hq⟩ (fun hS2=>?_);clear hK K;refine wpAnyH_ready (rs:=[5]) (by kernel_rfl) (by simp) ?_;refine AllReadyH.cons rfl (fun K hK=>?_) AllReadyH.nil;go_simp;go_wp2_with (go_at_call 206; refine (EU.o _).mono ?_; rintro e w6 ⟨rfl,R8⟩)
   subst R8;refine hK.out _ _ ⟨yd e0.o hq,yd e1.o hq,yd e2.o hq,yd e3.o hq,yd e4.o hq⟩ (fun je=>?_);clear hK K;refine aU (i:=6) (v:=?_) rfl ?_ je ?_
   rotate_left
   ·intro w' _; go_simp; with_reducible rfl
   refine qP (i:=7) rfl je ?_;refine qP (i:=8) rfl je ?_;refine qP (i:=9) rfl je ?_;refine qP (i:=10) rfl je ?_;refine wpAnyH_take (i:=11) (v:=.bool false) rfl (by kernel_rfl) (by kernel_rfl) (by kernel_rfl) (fun _ _ _ h=>h) (Or.inl ⟨by kernel_rfl,fun _ _=>by kernel_rfl⟩) je ?_;refine wpAnyH_take (i:=12) (v:=.bool false) rfl (by kernel_rfl) (by kernel_rfl) (by kernel_rfl) (fun _ _ _ h=>h) (Or.inl ⟨by kernel_rfl,fun _ _=>by kernel_rfl⟩) je ?_;refine wpAnyH_done (by kernel_rfl) ?_ _;simp only [sN,qc,pz,pU,gu,fZ,gq];go_wp2;go_ret;exact no.o _ (fun h=>Ig.o h.2.2.2.2.1) (ya G6.o hq)
def DN (w:World) (ao:Option Addr) (ys:List Lk.Rel):Prop :=
 0 < ys.length->∃ g,ao=some ⟨g,0,none⟩/\g < w.heap.size/\∀ i (h:i < ys.length),w.cell? ⟨g,i * 5,none⟩=some (.int .i64 ys[i].ah)/\w.cell? ⟨g,i * 5+1,none⟩=some (.int .i64 ys[i].off) /\
  w.cell? ⟨g,i * 5+2,none⟩=some (.int .i64 ys[i].kind)/\w.cell? ⟨g,i * 5+3,none⟩=some (.int .i64 ys[i].sym)/\w.cell? ⟨g,i * 5+4,none⟩=some (.int .i64 ys[i].addend)
theorem DN.aO {w:World} {base:Nat} {ao:Option Addr} {n cap:Nat} {ys:List Lk.Rel} (h:w.ownsRow base 102 5 (.slice ao n cap) n (ys.flatMap iN)):DN w ao ys:=by
 intro h0;have hl:(ys.flatMap iN).length=ys.length * 5:=by
  clear h h0
  induction ys with
  | nil=>rfl
  | cons y t ih=>rw [List.flatMap_cons,eZ,ih]; simp [iN]; omega
 have hn:ys.length=n:=by have:=h.1; omega
 have hlt:=h.lt;rcases h.2 with ⟨h1,h2⟩ | ⟨g,cap',cur,hv,_⟩
 ·simp at h1; omega
 ·simp only [Value.slice.injEq] at hv;obtain ⟨rfl,_,rfl⟩:=hv;refine ⟨g,rfl,(hlt g rfl).2,fun i hi=>?_⟩;have q:=fun j (hj:j < 5)=>(h.cellAt (i * 5+j) (by omega)).trans (KW iN 5 (fun _=>rfl) ys i j hi hj)
  exact ⟨q 0 (by omega),q 1 (by omega),q 2 (by omega),q 3 (by omega),q 4 (by omega)⟩
theorem DN.grown {w w':World} {ao:Option Addr} {ys:List Lk.Rel} (h:DN w ao ys) (hg:w.grownBy w' none):DN w' ao ys:=by
 intro h0;obtain ⟨g,h1,h2,h3⟩:=h h0;refine ⟨g,h1,Nat.lt_of_lt_of_le h2 hg.size,fun i hi=>?_⟩;obtain ⟨a,b,c,d,e⟩:=h3 i hi;exact ⟨yd a hg,yd b hg,yd c hg,yd d hg,yd e hg⟩
def NP (o:Lk.Obj):Prop:=∀ i (h:i < o.aj.length),Gv o o.aj[i]/\(∀ _:0 < i,Gr (o.aj[i - 1]'(by omega)) o.aj[i])
theorem yhv (g:Nat) (o:Lk.Obj) (w:World) (ht:dQ w) (h:yu w g o) (hn:vS o) (hb4:AJ o.align) (hw:Ic o) (hr:∀ r∈o.aj,r.off<=9223372036854775807) :
  Calls Tryz.prog 97 #[.pointer (some ⟨g,0,none⟩)] w fun e w'=>yg e (NP o)/\w.grownBy w' none:=by
 obtain ⟨at_,ct,af,cf,ad,cd,aa,ca,gy,cs,ar,cr,hb,h1,h2,h3,h4,h5,h6⟩:=h.open;have k6:=hb.cell 6;have S:=hid (DN.aO h6);have hns:=hn.2.2.2.2.2;have HB:=hid hb;have HO:=hid h;have HN:=hid hn;have HT:=hid ht;have NU:=hid hb4;have HW:=hid hw;have HR:=hid hr;clear h hn hb h1 h2 h3 h4 h5 h6 ht hb4 hw hr;go_enter Tryz.func97,Tryz.ntmps97;go_wp2
 go_loopw [10] (fun i wr=>∃ k:Nat,k<=o.aj.length/\i = .int .i64 k/\(∀ i (h:i < o.aj.length),i < k->Gv o o.aj[i]/\(∀ _:0 < i,Gr (o.aj[i - 1]'(by omega)) o.aj[i]))/\w.grownBy wr none) (fun i _=>o.aj.length - (intOf i).toNat)
 case atStart=>exact ⟨0,Nat.zero_le _,rfl,fun j _ hj=>absurd hj (Nat.not_lt_zero j),World.grownBy.refl _ _⟩
 case round =>
  obtain ⟨k,hk,rfl,hall,hgr⟩:=hrel;have HA:=hid hall;have HG:=hid hgr;clear hall hgr;by_cases hlt:k < o.aj.length
  ·obtain ⟨sg,hao,hgs,hc⟩:=S.o.grown HG.o (by omega);subst hao;obtain ⟨q0,q1,q2,q3,q4⟩:=hc k hlt;have HC:=hid hc;clear hc;have cV:=hid (fun W (hT:dQ W) (hW:yu W g o)=>yih g o o.aj[k] W hT hW HN.o NU.o HW.o (HR.o _ (iq hlt)));unfold fK at cV;have B1:=hid (yc.new wr #[.int .i64 o.aj[k].ah,.int .i64 o.aj[k].off,.int .i64 o.aj[k].kind,.int .i64 o.aj[k].sym,.int .i64 o.aj[k].addend] 102);have GA:=hid (aJ wr (.cells #[.int .i64 o.aj[k].ah,.int .i64 o.aj[k].off,.int .i64 o.aj[k].kind,.int .i64 o.aj[k].sym,.int .i64 o.aj[k].addend] 102) none);go_wp2_with fail;refine (cV.o _ (HT.o.grown (ya HG.o GA.o)) (HO.o.kept (ya HG.o GA.o))).mono ?_
   rintro e W2 ⟨t,q⟩;have G2:=hid (ya (ya HG.o GA.o) q);have B2:=hid (B1.o.grown q (by simp));have GQ:=hid (ya GA.o q);rcases t.split with ⟨rfl,p1⟩ | ⟨rfl,p1⟩ <;> clear t q
   ·go_wp2;go_ret;exact ⟨yg.no (fun h=>p1.o (h k hlt).1),G2.o⟩
   by_cases hk0:k=0
   ·subst hk0;have d0:decide ((0:Int) < 0)=false:=by simp
    go_wp2
    go_quiet (fail)
    go_wp2
    go_roundw
    case rel=>exact ⟨1,by omega,rfl,fun j hj hjk=>by
     have:j=0:=by omega
     subst this;exact ⟨p1.o,fun h=>by omega⟩,yf G2.o _⟩
    case measure=>simp [intOf]; omega
   ·have hk1:1<=k:=by omega
    have hpl:k - 1 < o.aj.length:=by omega
    have uZ:=(HA.o (k - 1) hpl (by omega)).1;have hoff:0<=(o.aj[k - 1]'hpl).off/\(o.aj[k - 1]'hpl).off<=1048576:=by
     obtain ⟨x1,x2,x3⟩:=uZ.2.2.2.2.1;have y1:=JO HN.o (o.aj[k - 1]'hpl).ah;have y2:=Dt uZ.2.1;omega
    have cF:=hid (fun W=>ylc (o.aj[k - 1]'hpl) o.aj[k] W uZ.2.1 hoff.1 hoff.2);have hcc:=HC.o (k - 1) hpl;generalize hpr:o.aj[k - 1]'hpl=pr at *;have Vp:=hid hpr;clear hpr;obtain ⟨r0,r1,r2,r3,r4⟩:=hcc;unfold fK at cF;have m6:=(HB.o.grown G2.o (by simp)).cell 6;have n0:=yd r0 GQ.o;have n1:=yd r1 GQ.o;have n2:=yd r2 GQ.o;have n3:=yd r3 GQ.o;have n4:=yd r4 GQ.o;have c0:=B2.o.cell 0;have c1:=B2.o.cell 1;have c2:=B2.o.cell 2;have c3:=B2.o.cell 3;have c4:=B2.o.cell 4;have M6:Hd (W2.drew.cell? ⟨g,6,none⟩=some (.slice (some ⟨sg,0,none⟩) o.aj.length cr)):=m6;have N0:Hd (W2.drew.cell? ⟨sg,(k - 1) * 5,none⟩=some (.int .i64 pr.ah)):=n0
    have N1:Hd (W2.drew.cell? ⟨sg,(k - 1) * 5+1,none⟩=some (.int .i64 pr.off)):=n1;have N2:Hd (W2.drew.cell? ⟨sg,(k - 1) * 5+2,none⟩=some (.int .i64 pr.kind)):=n2;have N3:Hd (W2.drew.cell? ⟨sg,(k - 1) * 5+3,none⟩=some (.int .i64 pr.sym)):=n3;have N4:Hd (W2.drew.cell? ⟨sg,(k - 1) * 5+4,none⟩=some (.int .i64 pr.addend)):=n4;have C0:Hd (W2.drew.cell? ⟨wr.heap.size,0,none⟩=some (.int .i64 o.aj[k].ah)):=c0;have C1:Hd (W2.drew.cell? ⟨wr.heap.size,1,none⟩=some (.int .i64 o.aj[k].off)):=c1;have C2:Hd (W2.drew.cell? ⟨wr.heap.size,2,none⟩=some (.int .i64 o.aj[k].kind)):=c2;have C3:Hd (W2.drew.cell? ⟨wr.heap.size,3,none⟩=some (.int .i64 o.aj[k].sym)):=c3
    have C4:Hd (W2.drew.cell? ⟨wr.heap.size,4,none⟩=some (.int .i64 o.aj[k].addend)):=c4;have hk2:0 < k:=by omega
    have d00:decide (0 < k)=true:=by simpa using hk2
    have d0:decide ((0:Int) < (k:Int))=true:=by simp; omega
    have g1:(1:Int)<=(k:Int):=by omega
    have g2:(k:Int) - 1 < (o.aj.length:Int):=by omega
    have g3:(0:Int)<=(k:Int) - 1:=by omega
    have hwk:IntKind.i64.wrap ((k:Int) - 1)=(k:Int) - 1:=IntWalk.i64_in _ ⟨by omega,by omega⟩;have HP:=hid uZ;clear uZ hoff q0 q1 q2 q3 q4 r0 r1 r2 r3 r4 hk0;go_wp2
    go_region_held3 (fun w'=>w'.cell? ⟨g,6,none⟩=some (.slice (some ⟨sg,0,none⟩) o.aj.length cr)/\w'.cell? ⟨wr.heap.size,0,none⟩=some (.int .i64 o.aj[k].ah)/\w'.cell? ⟨wr.heap.size,1,none⟩=some (.int .i64 o.aj[k].off)/\w'.cell? ⟨wr.heap.size,2,none⟩=some (.int .i64 o.aj[k].kind)/\w'.cell? ⟨wr.heap.size,3,none⟩=some (.int .i64 o.aj[k].sym)/\w'.cell? ⟨wr.heap.size,4,none⟩=some (.int .i64 o.aj[k].addend)/\w'.cell? ⟨sg,(k - 1) * 5,none⟩=some (.int .i64 pr.ah)/\w'.cell? ⟨sg,(k - 1) * 5+1,none⟩=some (.int .i64 pr.off)/\w'.cell? ⟨sg,(k - 1) * 5+2,none⟩=some (.int .i64 pr.kind)/\w'.cell? ⟨sg,(k - 1) * 5+3,none⟩=some (.int .i64 pr.sym)/\w'.cell? ⟨sg,(k - 1) * 5+4,none⟩=some (.int .i64 pr.addend))
     (go_keep)
     (first | (go_at_call 162; refine (cF.o _).mono ?_; rintro e w5 ⟨⟨b,rfl,hb⟩,hq⟩; have s6:=yd M6.o hq; have s0:=yd C0.o hq; have s1:=yd C1.o hq; have s2:=yd C2.o hq; have s3:=yd C3.o hq; have s4:=yd C4.o hq; have t0:=yd N0.o hq; have t1:=yd N1.o hq; have t2:=yd N2.o hq; have t3:=yd N3.o hq; have t4:=yd N4.o hq))
    have nY:=hid hb;have GF:=hid (ya (yh G2.o) hq);clear hb hq s6 s0 s1 s2 s3 s4 t0 t1 t2 t3 t4 c0 c1 c2 c3 c4 n0 n1 n2 n3 n4 m6
    cases b
    ·have NF:=hid (show ¬ Gr pr o.aj[k] from fun h=>by have:=nY.o.2 h; simp at this);clear nY;go_wp2;go_ret;exact ⟨yg.no (fun h=>NF.o (Vp.o ▸ (h k hlt).2 hk2)),GF.o⟩
    ·have YF:=hid (show Gr pr o.aj[k] from nY.o.1 rfl);clear nY;go_wp2
     go_roundw
     case rel=>exact ⟨k+1,by omega,by go_num,fun j hj hjk=>(Nat.lt_succ_iff_lt_or_eq.1 hjk).elim (fun h=>HA.o j hj h) (fun h=>by subst h; exact ⟨p1.o,fun _=>by rw [Vp.o]; exact YF.o⟩),GF.o⟩
     case measure=>simp [intOf]; omega
  ·go_wp2;go_ret;exact ⟨yg.yes fun i hi=>HA.o i hi (by omega),HG.o⟩
def yv (o:Lk.Obj):Prop:=J9 o/\AJ o.align/\Ic o/\NQ o/\NP o
def jF (o:Lk.Obj):Prop:=vS o/\(∀ y∈o.syms,y.name.length<=255)/\∀ r∈o.aj,r.off<=9223372036854775807
theorem TD (g:Nat) (o:Lk.Obj) (w:World) (ht:dQ w) (h:yu w g o) (hn:jF o) :
  Calls Tryz.prog 56 #[.pointer (some ⟨g,0,none⟩)] w fun e w'=>yg e (yv o)/\w.grownBy w' none:=by
 obtain ⟨at_,ct,af,cf,ad,cd,aa,ca,gy,cs,ar,cr,hb,h1,h2,h3,h4,h5,h6⟩:=h.open;have k4:=hb.cell 4;have c1:=hid (yii g o w h hn.1);have c2:=hid (ygJ aa ca o.align w (yy.aO h4) hn.1.2.2.2.1);have c3:=hid (yik g o w h hn.1);have HO:=hid h;have HT:=hid ht;have HN:=hid hn;clear h ht hn hb h1 h2 h3 h4 h5 h6;go_enter Tryz.func56,Tryz.ntmps56;go_wp2_with fail;refine c1.o.mono ?_;rintro e w1 ⟨t,rfl⟩;rcases t.split with ⟨rfl,p1⟩ | ⟨rfl,p1⟩ <;> clear t c1
 ·go_wp2;go_ret;exact ⟨yg.no (fun h=>p1.o h.1),World.grownBy.refl _ _⟩
 go_wp2_with fail;refine c2.o.mono ?_;rintro e w2 ⟨t,rfl⟩;rcases t.split with ⟨rfl,p2⟩ | ⟨rfl,p2⟩ <;> clear t c2
 ·go_wp2;go_ret;exact ⟨yg.no (fun h=>p2.o h.2.1),World.grownBy.refl _ _⟩
 go_wp2_with fail;refine c3.o.mono ?_;rintro e w3 ⟨t,rfl⟩;rcases t.split with ⟨rfl,p3⟩ | ⟨rfl,p3⟩ <;> clear t c3
 ·go_wp2;go_ret;exact ⟨yg.no (fun h=>p3.o h.2.2.1),World.grownBy.refl _ _⟩
 have c4:=hid (ygK g o w3 HO.o HN.o.1 p1.o.2.1 HN.o.2.1);go_wp2_with fail;refine c4.o.mono ?_;rintro e w4 ⟨t,q4⟩;have Q4:=hid q4;rcases t.split with ⟨rfl,p4⟩ | ⟨rfl,p4⟩ <;> clear t c4 q4
 ·go_wp2;go_ret;exact ⟨yg.no (fun h=>p4.o h.2.2.2.1),Q4.o⟩
 have c5:=hid (yhv g o w4 (HT.o.grown Q4.o) (HO.o.kept Q4.o) HN.o.1 p2.o p3.o HN.o.2.2);go_wp2_with fail;refine c5.o.mono ?_;rintro e w5 ⟨t,q5⟩;have Q5:=hid (ya Q4.o q5);rcases t.split with ⟨rfl,p5⟩ | ⟨rfl,p5⟩ <;> clear t c5 q5
 ·go_wp2;go_ret;exact ⟨yg.no (fun h=>p5.o h.2.2.2.2),Q5.o⟩
 go_wp2;go_ret;exact ⟨yg.yes ⟨p1.o,p2.o,p3.o,p4.o,p5.o⟩,Q5.o⟩
theorem JM {w a c:World} {b:Nat} (h:w.grownBy a none) (k:a.grownBy c (some b)) (hb:w.heap.size<=b):w.grownBy c none :=
 ⟨k.os.trans h.os,k.tape.trans h.tape,k.output.trans h.output,Nat.le_trans h.size k.size,fun i hi _ =>
  (k.block i (Nat.lt_of_lt_of_le hi h.size) (by simp; omega)).trans (h.block i hi (by simp))⟩
theorem Nn {o:Lk.Obj} (h:Lk.lX o):jF o:=by
 obtain ⟨h1,h2,h3,h4,h5,h6,h7,h8,h9,h10,h11,h12,Mv⟩:=h;refine ⟨⟨by omega,by omega,by omega,by omega,by omega,by omega⟩,fun y hy=>?_,fun r hr=>?_⟩
 ·have:=(h9 y hy).1; omega
 ·have:=(h10 r hr).2.2.1.2; omega
def yqh (w:World) (s:ByteArray) (e:Ending) (w':World):Prop :=
 (∃ o g,Lk.gW (sl s)=some o/\yv o/\e = .returned (.tuple #[.pointer (some ⟨g,0,none⟩),.int .i64 0])/\yu w' g o/\w.heap.size<=g) \/
 ((∀ o,Lk.gW (sl s)=some o->¬ yv o)/\e = .returned (.tuple #[.pointer none,.int .i64 20]))
theorem TY (s:ByteArray) (w:World) (ht:dQ w) (hs:s.size<=1048576) :
  Calls Tryz.prog 98 #[.string s] w fun e w'=>yqh w s e w'/\w.grownBy w' none:=by
 have HT:=hid ht;clear ht;go_enter Tryz.func98,Tryz.ntmps98;go_wp2_with fail;refine (Sw s w).mono ?_;rintro e W1 ⟨rfl,g1⟩;have R:bF (W1.alloc (.cells #[.string s,.int .i64 0,.bool false] 83)) W1.heap.size s 0 false:=heap_alloc_new W1 _;have HR:=hid R;have G1:=hid g1;have GA:=hid (aJ W1 (.cells #[.string s,.int .i64 0,.bool false] 83) none);have hz:=hid g1.size;clear R g1;by_cases hm:(Lk.aH (sl s) 2 (0,false)).1=[76,75]
 ·have cR:=hid (yhW W1.heap.size s 0 false _ HR.o hs (Nat.zero_le _) hm);have hro:=hid (show Lk.gW (sl s)=if (Lk.iM (sl s) (Lk.aH (sl s) 2 (0,false)).2).2=((sl s).length,false) then some (Lk.iM (sl s) (Lk.aH (sl s) 2 (0,false)).2).1 else none from by unfold Lk.gW; rw [if_pos hm]);generalize Lk.iM (sl s) (Lk.aH (sl s) 2 (0,false)).2=X at *;obtain ⟨o,p',s'⟩:=X;simp only at cR hro;clear hm;go_wp2_with fail;refine cR.o.mono ?_;rintro e W2 ⟨g,rfl,hg,sW,hrd,hgr⟩;have Lx:=hid sW;have Er:=hid hrd;have GR:=hid hgr;have Ih:=hid hg;clear sW hrd hgr hg cR;have cD:=hid (TS W1.heap.size s p' s' W2 Er.o);go_wp2_with fail
  refine cD.o.mono ?_;rintro e W3 ⟨rfl,kd,rfl⟩;have GF:=hid (yf (JM (ya G1.o GA.o) GR.o hz.o) kd);clear cD;have hsz:=yq s;by_cases hd:s'=false/\p'=s.size
  ·obtain ⟨rfl,rfl⟩:=hd;have zM:Lk.gW (sl s)=some o:=by rw [hro.o,if_pos (by rw [hsz])]
   have Oc:=hid zM;have hgood:=((Lk.jX (sl s) o).1 zM).1;have cV:=hid (TD g o (W2.drewN kd) (HT.o.grown GF.o) (Lx.o.drewN kd) (Nn hgood));have dd:(!false && decide (s.size=s.size))=true:=by simp
   clear zM hgood hsz hro;go_wp2_with fail;refine cV.o.mono ?_;rintro e W4 ⟨t,q⟩;have GQ:=hid (ya GF.o q);have Qy:=hid ((Lx.o.drewN kd).kept q);rcases t.split with ⟨rfl,pv⟩ | ⟨rfl,pv⟩ <;> clear t q cV
   ·go_wp2;go_ret2;exact ⟨.inr ⟨fun o' ho'=>by have h1:=Oc.o.symm.trans ho'; simp only [Option.some.injEq] at h1; subst h1; exact pv.o,rfl⟩,GQ.o⟩
   ·go_wp2;go_ret2;refine ⟨.inl ⟨o,g,Oc.o,pv.o,rfl,Qy.o,?_⟩,GQ.o⟩;have h1:=Ih.o;have h2:=hz.o;simp at h1;omega
  ·have zM:Lk.gW (sl s)=none:=by
    rw [hro.o,if_neg];intro h;simp only [Prod.mk.injEq] at h;exact hd ⟨h.2,by rw [<- hsz]; exact h.1⟩
   have Oc:=hid zM;have dd:(!s' && decide (p'=s.size))=false:=by
    cases s'
    ·simp at hd ⊢; exact hd
    ·rfl
   clear zM hro hsz hd;go_wp2;go_ret2;exact ⟨.inr ⟨fun o' ho'=>by have h1:=Oc.o.symm.trans ho'; simp at h1,rfl⟩,GF.o⟩
 ·have cR:=hid (yiQ W1.heap.size s 0 false _ HR.o hs (Nat.zero_le _) hm);have hro:=hid (show Lk.gW (sl s)=none from by unfold Lk.gW; rw [if_neg hm]);clear hm;go_wp2_with fail;refine cR.o.mono ?_;rintro e W2 ⟨rfl,hgr⟩;have GR:=hid hgr;clear hgr cR;go_wp2;go_ret2;exact ⟨.inr ⟨fun o' ho'=>by have h1:=hro.o.symm.trans ho'; simp at h1,rfl⟩,JM (ya G1.o GA.o) GR.o hz.o⟩
def qI (y:Lk.Sym):Value:=.agg #[.string (bs y.name),.int .i64 y.bind,.int .i64 y.ah,.int .i64 y.off]
def Qf (w:World) (ao:Option Addr) (bl:List Nat):Prop :=
 0 < bl.length->∃ g off,ao=some ⟨g,off,none⟩/\∀ i (h:i < bl.length),w.cell? ⟨g,off+i,none⟩=some (.pointer (some ⟨bl[i],0,none⟩))
def Ew (w:World) (b:Nat) (o:Lk.Obj):Prop:=∃ g,w.cell? ⟨b,0,none⟩=some (.pointer (some ⟨g,0,none⟩))/\yu w g o
structure uH (w:World) (ao:Option Addr) (bl:List Nat) (os:List Lk.Obj):Prop where
 ptrs:Qf w ao bl
 len:bl.length=os.length
 mod:∀ i (h:i < bl.length) (h':i < os.length),Ew w bl[i] os[i]
 few:os.length<=4096
 syms:∀ o∈os,o.syms.length<=65535
theorem Ew.kept {w w':World} {b:Nat} {o:Lk.Obj} (h:Ew w b o) (hg:w.grownBy w' none):Ew w' b o:=by
 obtain ⟨g,h1,h2⟩:=h;exact ⟨g,yd h1 hg,h2.kept hg⟩
theorem Qf.kept {w w':World} {ao:Option Addr} {bl:List Nat} (h:Qf w ao bl) (hg:w.grownBy w' none):Qf w' ao bl:=by
 intro hp;obtain ⟨g,off,e,hc⟩:=h hp;exact ⟨g,off,e,fun i hi=>yd (hc i hi) hg⟩
theorem uH.kept {w w':World} {ao:Option Addr} {bl:List Nat} {os:List Lk.Obj} (h:uH w ao bl os) (hg:w.grownBy w' none):uH w' ao bl os :=
 ⟨h.ptrs.kept hg,h.len,fun i h1 h2=>(h.mod i h1 h2).kept hg,h.few,h.syms⟩
theorem uH.take {w:World} {ao:Option Addr} {bl:List Nat} {os:List Lk.Obj} (h:uH w ao bl os) (k:Nat):uH w ao (bl.take k) (os.take k):=by
 refine ⟨?_,by rw [List.length_take,List.length_take,h.len],fun i h1 h2=>?_,?_,fun o ho=>h.syms o (List.mem_of_mem_take ho)⟩
 ·intro hp;have hp2:0 < bl.length:=by rw [List.length_take] at hp; omega
  obtain ⟨g,off,e,hc⟩:=h.ptrs hp2;refine ⟨g,off,e,fun i hi=>?_⟩;rw [List.length_take] at hi;rw [List.getElem_take];exact hc i (by omega)
 ·rw [List.length_take] at h1 h2;rw [List.getElem_take,List.getElem_take];exact h.mod i (by omega) (by omega)
 ·have:=h.few; rw [List.length_take]; omega
def nH (bl:List Nat) (m:Option Nat):Option Addr:=m.bind fun i=>bl[i]?.map fun b=>⟨b,0,none⟩
def oL (bl:List Nat) (s:Ln.gM):Value:=.agg #[.pointer (nH bl s.mod),.int .i64 s.ah,.int .i64 s.off]
theorem Av {a b:Bool} (h:a=b):Ending.returned (.bool a) = .returned (.bool b):=by rw [h]
theorem Yn (y:Lk.Sym) (w:World):Calls Tryz.prog 103 #[qI y] w fun e w'=>e = .returned (.bool (Ln.wanted y))/\w.grownBy w' none:=by
 unfold qI;by_cases h1:y.bind=1
 ·have d1:(y.bind == 1)=true:=by simpa using h1
  by_cases h2:y.ah=0
  ·have R:=hid (show Ln.wanted y=true by unfold Ln.wanted; rw [decide_eq_true h1,decide_eq_true h2]; rfl);have d2:(y.ah == 0)=true:=by simpa using h2
   clear h1 h2;go_enter Tryz.func103,Tryz.ntmps103;go_wp2;go_ret;exact ⟨Av R.o.symm,aJ _ _ _⟩
  ·have R:=hid (show Ln.wanted y=false by unfold Ln.wanted; rw [decide_eq_false h2]; simp);have d2:(y.ah == 0)=false:=by simpa using h2
   clear h1 h2;go_enter Tryz.func103,Tryz.ntmps103;go_wp2;go_ret;exact ⟨Av R.o.symm,aJ _ _ _⟩
 ·have R:=hid (show Ln.wanted y=false by unfold Ln.wanted; rw [decide_eq_false h1]; simp);have d1:(y.bind == 1)=false:=by simpa using h1
  clear h1;go_enter Tryz.func103,Tryz.ntmps103;go_wp2;go_ret;exact ⟨Av R.o.symm,aJ _ _ _⟩
theorem XM (y:Lk.Sym) (w:World):Calls Tryz.prog 212 #[qI y] w fun e w'=>e = .returned (.bool (Ln.defines y))/\w.grownBy w' none:=by
 obtain ⟨n,b,s,o⟩:=y;unfold qI;dsimp only;by_cases h1:b=0
 ·subst h1;have R:=hid (show Ln.defines ⟨n,0,s,o⟩=false from rfl);go_enter Tryz.func212,Tryz.ntmps212;go_wp2;go_ret;exact ⟨Av R.o.symm,aJ _ _ _⟩
 ·by_cases h2:s=0
  ·subst h2;have R:=hid (show Ln.defines ⟨n,b,0,o⟩=false by unfold Ln.defines; simp);go_enter Tryz.func212,Tryz.ntmps212;go_wp2;go_ret;exact ⟨Av R.o.symm,aJ _ _ _⟩
  ·have R:=hid (show Ln.defines ⟨n,b,s,o⟩=true by unfold Ln.defines; rw [decide_eq_false h1,decide_eq_false h2]; rfl);go_enter Tryz.func212,Tryz.ntmps212;go_wp2;go_ret;exact ⟨Av ((show (b != 0 && s != 0)=true by simp [h1,h2]).trans R.o.symm),aJ _ _ _⟩
theorem ykZ (n:List UInt8) (bind:Int) (os:List Lk.Obj) (k:Nat) (h:k < os.length):Ln.findAt n bind k (os.drop k)=match Ln.gP n bind os[k].syms with | some (s,f)=>⟨some k,s,f⟩ | none=>Ln.findAt n bind (k+1) (os.drop (k+1)):=by
 rw [lV h,Ln.findAt]
 cases Ln.gP n bind os[k].syms <;> rfl
theorem yla (n:List UInt8) (bind:Int) (ys:List Lk.Sym) (k:Nat) (h:k < ys.length):Ln.gP n bind (ys.drop k)=if ys[k].name=n/\ys[k].bind=bind/\ys[k].ah≠0 then some (ys[k].ah,ys[k].off) else Ln.gP n bind (ys.drop (k+1)):=by
 rw [lV h,Ln.gP]
theorem yz {w V:World} (h:w.grownBy V none) (r:Nat) (hr:w.heap.size<=r) (a b c:Value):w.grownBy (((V.setCell ⟨r,0,none⟩ a).setCell ⟨r,1,none⟩ b).setCell ⟨r,2,none⟩ c) none :=
 yO (yO (yO h (ye V r 0 a) (by intro k e; simp at e; omega)) (ye _ r 1 b) (by intro k e; simp at e; omega)) (ye _ r 2 c) (by intro k e; simp at e; omega)
theorem YI (ao:Option Addr) (cap:Nat) (bl:List Nat) (os:List Lk.Obj) (nm:List UInt8) (bind:Int) (w:World) (h:uH w ao bl os) :
  Calls Tryz.prog 102 #[.slice ao bl.length cap,.string (bs nm),.int .i64 bind] w fun e w'=>e = .returned (oL bl (Ln.find os nm bind))/\w.grownBy w' none:=by
 have H:=hid h;have MB:=h.few;have HL:=hid h.len;have G0:=hid (aJ w (.cells #[.pointer none,.int .i64 0,.int .i64 0] 123) none);have B0:=hid (yc.new w #[.pointer none,.int .i64 0,.int .i64 0] 123);have hbl:bl.length<=4096:=by rw [h.len]; exact MB
 clear h;go_enter Tryz.func102,Tryz.ntmps102;go_wp2;generalize w.alloc (.cells #[.pointer none,.int .i64 0,.int .i64 0] 123)=W1 at *
 go_loopw [13] (fun i wr=>∃ k:Nat,k<=bl.length/\i = .int .i64 k/\Ln.find os nm bind=Ln.findAt nm bind k (os.drop k)/\W1.grownBy wr none) (fun i _=>bl.length - (intOf i).toNat)
 case atStart=>exact ⟨0,Nat.zero_le _,rfl,rfl,World.grownBy.refl _ _⟩
 case round =>
  obtain ⟨k,hk,rfl,hf,hgr⟩:=hrel;have HF:=hid hf;have HG:=hid hgr;clear hf hgr;by_cases hlt:k < bl.length
  ·have hko:k < os.length:=by rw [<- HL.o]; exact hlt
   have MI:=H.o.kept (ya G0.o HG.o);obtain ⟨g0,off,hao,hc⟩:=MI.ptrs (by omega);subst hao;obtain ⟨og,hm0,oz⟩:=MI.mod k hlt hko;have ck:=hc k hlt;obtain ⟨at_,ct,af,cf,ad,cd,aa,ca,gy,cs,ar,cr,hb,-,-,-,-,q5,-⟩:=oz.open;have S:=hid (nZ.aO q5);have k5:=hb.cell 5;simp only [bI,bN,bK] at k5;have hns:=MI.syms os[k] (iq hko);have FD:=hid (ykZ nm bind os k hko);clear hc oz hb q5 MI;generalize os[k].syms=ys at *;generalize hbk:bl[k]=bk at *;have Aj:=hid hbk;clear hbk;have g1:(k:Int) < (bl.length:Int):=by omega
   obtain ⟨U,hU⟩:∃ U:World,U=wr:=⟨_,rfl⟩
   subst hU;go_wp2
   go_loopw [25] (fun i wr=>∃ j:Nat,j<=ys.length/\i = .int .i64 j/\Ln.gP nm bind ys=Ln.gP nm bind (ys.drop j)/\U.grownBy wr none) (fun i _=>ys.length - (intOf i).toNat)
   case atStart=>exact ⟨0,Nat.zero_le _,rfl,rfl,World.grownBy.refl _ _⟩
   case round =>
    obtain ⟨j,hj,rfl,hf2,iD⟩:=hrel;have mW:=hid hf2;have HG2:=hid iD;clear hf2 iD ck hm0 k5;by_cases hlt2:j < ys.length
    ·obtain ⟨sg,hsg,hgs,hcs⟩:=S.o.grown HG2.o (by omega);subst hsg;obtain ⟨q0,q1,q2,q3⟩:=hcs j hlt2;clear hcs;have g2:(j:Int) < (ys.length:Int):=by omega
     have FI:=hid (yla nm bind ys j hlt2);generalize ys[j]=y at *;have GA:=hid (fun ob:Obj=>aJ wr ob none);have NX:=hid (fun (hn:¬ (y.name=nm/\y.bind=bind/\y.ah≠0))=>show Ln.gP nm bind ys=Ln.gP nm bind (ys.drop (j+1)) by rw [mW.o,FI.o,if_neg hn]);by_cases e1:y.name=nm
     ·have b1:((bs y.name).toList == (bs nm).toList)=true:=by rw [e1]; simp
      by_cases e2:y.bind=bind
      ·have b2:(y.bind == bind)=true:=by simpa using e2
       by_cases e3:y.ah=0
       ·have b3:(y.ah == 0)=true:=by simpa using e3
        have E:=hid (NX.o (fun h=>h.2.2 e3));clear e1 e2 e3;go_wp2
        go_roundw
        case rel=>exact ⟨j+1,by omega,by go_num,E.o,ya HG2.o (GA.o _)⟩
        case measure=>simp [intOf]; omega
       ·have b3:(y.ah == 0)=false:=by simpa using e3
        have E:=hid (show Ln.find os nm bind=⟨some k,y.ah,y.off⟩ by rw [HF.o,FD.o,mW.o,FI.o,if_pos ⟨e1,e2,e3⟩]);have BR:=hid (B0.o.grown (ya HG.o HG2.o) (by simp));have hRl:=BR.o.lt;have z0:=BR.o.cell 0;have z1:=BR.o.cell 1;have z2:=BR.o.cell 2;simp only [bI,bN,bK] at z0 z1 z2;have f0:=BR.o.free 0;have f1:=BR.o.free 1;have f2:=BR.o.free 2;have hRn:w.heap.size≠wr.heap.size:=by omega
        have PO:=hid (show nH bl (some k)=some ⟨bk,0,none⟩ by unfold nH; rw [Option.bind_some,j3 hlt,Option.map_some,Aj.o]);clear e1 e2;go_wp2;have F:=(((BR.o.set 0 (.pointer (some ⟨bk,0,none⟩))).set 1 (.int .i64 y.ah)).set 2 (.int .i64 y.off)).grown (aJ _ (.cells #[.string (bs y.name),.int .i64 y.bind,.int .i64 y.ah,.int .i64 y.off] 100) none) (by simp);have h0:=F.cell 0;have h1:=F.cell 1;have h2:=F.cell 2;simp only [gu,fZ,gq,bI,bN,bK] at h0 h1 h2;refine bodyPost_ret (v:=oL bl ⟨some k,y.ah,y.off⟩) ?_ rfl ⟨by rw [E.o],ya (yz (ya G0.o (ya HG.o HG2.o)) _ (Nat.le_refl _) _ _ _) (aJ _ _ none)⟩;clear F z0 z1 z2 f0 f1 f2 q0 q1 q2 q3
        generalize World.alloc _ _=WF at *;simp [results,Tryz.results102,go_sem,oL,PO.o,h0,h1,h2]
      ·have b2:(y.bind == bind)=false:=by simpa using e2
       have E:=hid (NX.o (fun h=>e2 h.2.1));clear e1 e2;go_wp2
       go_roundw
       case rel=>exact ⟨j+1,by omega,by go_num,E.o,ya HG2.o (GA.o _)⟩
       case measure=>simp [intOf]; omega
     ·have b1:((bs y.name).toList == (bs nm).toList)=false:=by rw [yH,yH]; simpa using e1
      have E:=hid (NX.o (fun h=>e1 h.1));clear e1;go_wp2
      go_roundw
      case rel=>exact ⟨j+1,by omega,by go_num,E.o,ya HG2.o (GA.o _)⟩
      case measure=>simp [intOf]; omega
    ·obtain rfl:j=ys.length:=by omega
     have E:=hid (show Ln.gP nm bind ys=none by rw [mW.o,List.drop_length]; rfl);have g3:decide ((ys.length:Int) < (ys.length:Int))=false:=by simp
     go_wp2
     go_roundw
     case rel=>exact ⟨k+1,by omega,by go_num,by rw [HF.o,FD.o,E.o],ya HG.o HG2.o⟩
     case measure=>simp [intOf]; omega
  ·obtain rfl:k=bl.length:=by omega
   have E:=hid (show Ln.find os nm bind=Ln.none_ by rw [HF.o,HL.o,List.drop_length]; rfl);have g3:decide ((bl.length:Int) < (bl.length:Int))=false:=by simp
   have BR:=hid (B0.o.grown HG.o (by simp));have z0:=BR.o.cell 0;have z1:=BR.o.cell 1;have z2:=BR.o.cell 2;simp only [bI,bN,bK] at z0 z1 z2;have f0:=BR.o.free 0;have f1:=BR.o.free 1;have f2:=BR.o.free 2;go_wp2;have F:=((BR.o.set 0 (.pointer none)).set 1 (.int .i64 0)).set 2 (.int .i64 0);have h0:=F.cell 0;have h1:=F.cell 1;have h2:=F.cell 2;simp only [gu,fZ,gq,bI,bN,bK] at h0 h1 h2;refine bodyPost_ret (v:=oL bl Ln.none_) ?_ rfl ⟨by rw [E.o],yz (ya G0.o HG.o) _ (Nat.le_refl _) _ _ _⟩;clear F z0 z1 z2 f0 f1 f2;generalize World.setCell _ _ _=WF at *;simp [results,Tryz.results102,go_sem,oL,nH,Ln.none_,h0,h1,h2]
theorem ynq (os:List Lk.Obj) (nm:List UInt8) (k:Nat) (h:k < os.length):((os.drop k).any fun o=>o.syms.any fun y=>decide (y.name=nm) && Ln.wanted y)=((os[k].syms.any fun y=>decide (y.name=nm) && Ln.wanted y) || (os.drop (k+1)).any fun o=>o.syms.any fun y=>decide (y.name=nm) && Ln.wanted y):=by
 rw [lV h,List.any_cons]
theorem ypX (ys:List Lk.Sym) (nm:List UInt8) (k:Nat) (h:k < ys.length):((ys.drop k).any fun y=>decide (y.name=nm) && Ln.wanted y)=((decide (ys[k].name=nm) && Ln.wanted ys[k]) || (ys.drop (k+1)).any fun y=>decide (y.name=nm) && Ln.wanted y):=by
 rw [lV h,List.any_cons]
theorem yoK (P:Nat) (ao:Option Addr) (cap:Nat) (bl:List Nat) (os:List Lk.Obj) (nm:List UInt8) (w:World) (hp:w.cell? ⟨P,3,none⟩=some (.slice ao bl.length cap)) (h:uH w ao bl os) :
  Calls Tryz.prog 213 #[.pointer (some ⟨P,0,none⟩),.string (bs nm)] w fun e w'=>e = .returned (.bool (Ln.wants os nm))/\w.grownBy w' none:=by
 have H:=hid h;have HL:=hid h.len;have hbl:bl.length<=4096:=by rw [h.len]; exact h.few
 have cC:=hid (fun y W=>Yn y W);unfold qI at cC;clear h;go_enter Tryz.func213,Tryz.ntmps213;go_wp2
 go_loopw [14] (fun i wr=>∃ k:Nat,k<=bl.length/\i = .int .i64 k/\Ln.wants os nm=((os.drop k).any fun o=>o.syms.any fun y=>decide (y.name=nm) && Ln.wanted y)/\w.grownBy wr none) (fun i _=>bl.length - (intOf i).toNat)
 case atStart=>exact ⟨0,Nat.zero_le _,rfl,rfl,World.grownBy.refl _ _⟩
 case round =>
  obtain ⟨k,hk,rfl,hf,hgr⟩:=hrel;have HF:=hid hf;have HG:=hid hgr;clear hf hgr;by_cases hlt:k < bl.length
  ·have hko:k < os.length:=by rw [<- HL.o]; exact hlt
   have MI:=H.o.kept HG.o;obtain ⟨g0,off,hao,hc⟩:=MI.ptrs (by omega);subst hao;obtain ⟨og,hm0,oz⟩:=MI.mod k hlt hko;have ck:=hc k hlt;obtain ⟨at_,ct,af,cf,ad,cd,aa,ca,gy,cs,ar,cr,hb,-,-,-,-,q5,-⟩:=oz.open;have S:=hid (nZ.aO q5);have k5:=hb.cell 5;simp only [bI,bN,bK] at k5;have hns:=MI.syms os[k] (iq hko);have FD:=hid (ynq os nm k hko);clear hc oz hb q5 MI;generalize os[k].syms=ys at *;generalize bl[k]=bk at *;have g1:(k:Int) < (bl.length:Int):=by omega
   obtain ⟨U,hU⟩:∃ U:World,U=wr:=⟨_,rfl⟩
   subst hU;go_wp2
   go_loopw [26] (fun i wr=>∃ j:Nat,j<=ys.length/\i = .int .i64 j/\(ys.any fun y=>decide (y.name=nm) && Ln.wanted y)=((ys.drop j).any fun y=>decide (y.name=nm) && Ln.wanted y)/\U.grownBy wr none) (fun i _=>ys.length - (intOf i).toNat)
   case atStart=>exact ⟨0,Nat.zero_le _,rfl,rfl,World.grownBy.refl _ _⟩
   case round =>
    obtain ⟨j,hj,rfl,hf2,iD⟩:=hrel;have mW:=hid hf2;have HG2:=hid iD;clear hf2 iD ck hm0 k5;by_cases hlt2:j < ys.length
    ·obtain ⟨sg,hsg,hgs,hcs⟩:=S.o.grown HG2.o (by omega);subst hsg;obtain ⟨q0,q1,q2,q3⟩:=hcs j hlt2;clear hcs;have g2:(j:Int) < (ys.length:Int):=by omega
     have FI:=hid (ypX ys nm j hlt2);generalize ys[j]=y at *;have cY:=hid (cC.o y);have GA:=hid (fun ob:Obj=>aJ wr ob none);by_cases e1:y.name=nm
     ·have b1:((bs y.name).toList == (bs nm).toList)=true:=by rw [e1]; simp
      cases e2:Ln.wanted y
      ·have E:=hid (show (ys.any fun y=>decide (y.name=nm) && Ln.wanted y)=((ys.drop (j+1)).any fun y=>decide (y.name=nm) && Ln.wanted y) by rw [mW.o,FI.o,e2]; simp);rw [e2] at cY;clear e1 e2;go_wp2_with fail;refine (cY.o _).mono ?_;rintro e W5 ⟨rfl,h5⟩;have G5:=hid (ya HG2.o (ya (GA.o _) h5));clear h5;go_wp2
       go_roundw
       case rel=>exact ⟨j+1,by omega,by go_num,E.o,G5.o⟩
       case measure=>simp [intOf]; omega
      ·have E:=hid (show Ln.wants os nm=true by rw [HF.o,FD.o,mW.o,FI.o,e2,decide_eq_true e1]; simp);rw [e2] at cY;clear e1 e2;go_wp2_with fail;refine (cY.o _).mono ?_;rintro e W5 ⟨rfl,h5⟩;have G5:=hid (ya HG2.o (ya (GA.o _) h5));clear h5;go_wp2;go_ret;exact ⟨Av E.o.symm,ya HG.o G5.o⟩
     ·have b1:((bs y.name).toList == (bs nm).toList)=false:=by rw [yH,yH]; simpa using e1
      have E:=hid (show (ys.any fun y=>decide (y.name=nm) && Ln.wanted y)=((ys.drop (j+1)).any fun y=>decide (y.name=nm) && Ln.wanted y) by rw [mW.o,FI.o,decide_eq_false e1]; simp);clear e1;go_wp2
      go_roundw
      case rel=>exact ⟨j+1,by omega,by go_num,E.o,ya HG2.o (GA.o _)⟩
      case measure=>simp [intOf]; omega
    ·obtain rfl:j=ys.length:=by omega
     have E:=hid (show (ys.any fun y=>decide (y.name=nm) && Ln.wanted y)=false by rw [mW.o,List.drop_length]; rfl);have g3:decide ((ys.length:Int) < (ys.length:Int))=false:=by simp
     go_wp2
     go_roundw
     case rel=>exact ⟨k+1,by omega,by go_num,by rw [HF.o,FD.o,E.o,Bool.false_or],ya HG.o HG2.o⟩
     case measure=>simp [intOf]; omega
  ·obtain rfl:k=bl.length:=by omega
   have E:=hid (show Ln.wants os nm=false by rw [HF.o,HL.o,List.drop_length]; rfl);have g3:decide ((bl.length:Int) < (bl.length:Int))=false:=by simp
   go_wp2;go_ret;exact ⟨Av E.o.symm,HG.o⟩
theorem ypi (os:List Lk.Obj) (nm:List UInt8) (k:Nat) (h:k < os.length):((os.drop k).any fun o=>o.syms.any fun y=>decide (y.name=nm) && Ln.defines y)=((os[k].syms.any fun y=>decide (y.name=nm) && Ln.defines y) || (os.drop (k+1)).any fun o=>o.syms.any fun y=>decide (y.name=nm) && Ln.defines y):=by
 rw [lV h,List.any_cons]
theorem yrF (ys:List Lk.Sym) (nm:List UInt8) (k:Nat) (h:k < ys.length):((ys.drop k).any fun y=>decide (y.name=nm) && Ln.defines y)=((decide (ys[k].name=nm) && Ln.defines ys[k]) || (ys.drop (k+1)).any fun y=>decide (y.name=nm) && Ln.defines y):=by
 rw [lV h,List.any_cons]
theorem yqI (P:Nat) (ao:Option Addr) (cap:Nat) (bl:List Nat) (os:List Lk.Obj) (nm:List UInt8) (w:World) (hp:w.cell? ⟨P,3,none⟩=some (.slice ao bl.length cap)) (h:uH w ao bl os) :
  Calls Tryz.prog 214 #[.pointer (some ⟨P,0,none⟩),.string (bs nm)] w fun e w'=>e = .returned (.bool (Ln.has os nm))/\w.grownBy w' none:=by
 have H:=hid h;have HL:=hid h.len;have hbl:bl.length<=4096:=by rw [h.len]; exact h.few
 have cC:=hid (fun y W=>XM y W);unfold qI at cC;clear h;go_enter Tryz.func214,Tryz.ntmps214;go_wp2
 go_loopw [14] (fun i wr=>∃ k:Nat,k<=bl.length/\i = .int .i64 k/\Ln.has os nm=((os.drop k).any fun o=>o.syms.any fun y=>decide (y.name=nm) && Ln.defines y)/\w.grownBy wr none) (fun i _=>bl.length - (intOf i).toNat)
 case atStart=>exact ⟨0,Nat.zero_le _,rfl,rfl,World.grownBy.refl _ _⟩
 case round =>
  obtain ⟨k,hk,rfl,hf,hgr⟩:=hrel;have HF:=hid hf;have HG:=hid hgr;clear hf hgr;by_cases hlt:k < bl.length
  ·have hko:k < os.length:=by rw [<- HL.o]; exact hlt
   have MI:=H.o.kept HG.o;obtain ⟨g0,off,hao,hc⟩:=MI.ptrs (by omega);subst hao;obtain ⟨og,hm0,oz⟩:=MI.mod k hlt hko;have ck:=hc k hlt;obtain ⟨at_,ct,af,cf,ad,cd,aa,ca,gy,cs,ar,cr,hb,-,-,-,-,q5,-⟩:=oz.open;have S:=hid (nZ.aO q5);have k5:=hb.cell 5;simp only [bI,bN,bK] at k5;have hns:=MI.syms os[k] (iq hko);have FD:=hid (ypi os nm k hko);clear hc oz hb q5 MI;generalize os[k].syms=ys at *;generalize bl[k]=bk at *;have g1:(k:Int) < (bl.length:Int):=by omega
   obtain ⟨U,hU⟩:∃ U:World,U=wr:=⟨_,rfl⟩
   subst hU;go_wp2
   go_loopw [26] (fun i wr=>∃ j:Nat,j<=ys.length/\i = .int .i64 j/\(ys.any fun y=>decide (y.name=nm) && Ln.defines y)=((ys.drop j).any fun y=>decide (y.name=nm) && Ln.defines y)/\U.grownBy wr none) (fun i _=>ys.length - (intOf i).toNat)
   case atStart=>exact ⟨0,Nat.zero_le _,rfl,rfl,World.grownBy.refl _ _⟩
   case round =>
    obtain ⟨j,hj,rfl,hf2,iD⟩:=hrel;have mW:=hid hf2;have HG2:=hid iD;clear hf2 iD ck hm0 k5;by_cases hlt2:j < ys.length
    ·obtain ⟨sg,hsg,hgs,hcs⟩:=S.o.grown HG2.o (by omega);subst hsg;obtain ⟨q0,q1,q2,q3⟩:=hcs j hlt2;clear hcs;have g2:(j:Int) < (ys.length:Int):=by omega
     have FI:=hid (yrF ys nm j hlt2);generalize ys[j]=y at *;have cY:=hid (cC.o y);have GA:=hid (fun ob:Obj=>aJ wr ob none);by_cases e1:y.name=nm
     ·have b1:((bs y.name).toList == (bs nm).toList)=true:=by rw [e1]; simp
      cases e2:Ln.defines y
      ·have E:=hid (show (ys.any fun y=>decide (y.name=nm) && Ln.defines y)=((ys.drop (j+1)).any fun y=>decide (y.name=nm) && Ln.defines y) by rw [mW.o,FI.o,e2]; simp);rw [e2] at cY;clear e1 e2;go_wp2_with fail;refine (cY.o _).mono ?_;rintro e W5 ⟨rfl,h5⟩;have G5:=hid (ya HG2.o (ya (GA.o _) h5));clear h5;go_wp2
       go_roundw
       case rel=>exact ⟨j+1,by omega,by go_num,E.o,G5.o⟩
       case measure=>simp [intOf]; omega
      ·have E:=hid (show Ln.has os nm=true by rw [HF.o,FD.o,mW.o,FI.o,e2,decide_eq_true e1]; simp);rw [e2] at cY;clear e1 e2;go_wp2_with fail;refine (cY.o _).mono ?_;rintro e W5 ⟨rfl,h5⟩;have G5:=hid (ya HG2.o (ya (GA.o _) h5));clear h5;go_wp2;go_ret;exact ⟨Av E.o.symm,ya HG.o G5.o⟩
     ·have b1:((bs y.name).toList == (bs nm).toList)=false:=by rw [yH,yH]; simpa using e1
      have E:=hid (show (ys.any fun y=>decide (y.name=nm) && Ln.defines y)=((ys.drop (j+1)).any fun y=>decide (y.name=nm) && Ln.defines y) by rw [mW.o,FI.o,decide_eq_false e1]; simp);clear e1;go_wp2
      go_roundw
      case rel=>exact ⟨j+1,by omega,by go_num,E.o,ya HG2.o (GA.o _)⟩
      case measure=>simp [intOf]; omega
    ·obtain rfl:j=ys.length:=by omega
     have E:=hid (show (ys.any fun y=>decide (y.name=nm) && Ln.defines y)=false by rw [mW.o,List.drop_length]; rfl);have g3:decide ((ys.length:Int) < (ys.length:Int))=false:=by simp
     go_wp2
     go_roundw
     case rel=>exact ⟨k+1,by omega,by go_num,by rw [HF.o,FD.o,E.o,Bool.false_or],ya HG.o HG2.o⟩
     case measure=>simp [intOf]; omega
  ·obtain rfl:k=bl.length:=by omega
   have E:=hid (show Ln.has os nm=false by rw [HF.o,HL.o,List.drop_length]; rfl);have g3:decide ((bl.length:Int) < (bl.length:Int))=false:=by simp
   go_wp2;go_ret;exact ⟨Av E.o.symm,HG.o⟩
end Go.Proofs.YtpgklkhgfcjceaaGreatDoor
