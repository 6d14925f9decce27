
import Derived.Test.YtelehpmjhjljgaaGreatDoorV05
import Derived.Deep.CutRange
import Derived.Deep.RegionHeld3
set_option maxHeartbeats 16000000
set_option maxRecDepth 100000
namespace Go.Proofs.YtelehpmjhjljgaaGreatDoor
open Go.RowKit
def lX (w:World) (ao:Option Addr) (ys:List Lk.Rel):Prop :=
 0 < ys.length->∃ g,ao=some ⟨g,0,none⟩/\g < w.heap.size/\∀ i (h:i < ys.length),w.cell? ⟨g,i * 5,none⟩=some (.int .i64 ys[i].ah)/\w.cell? ⟨g,i * 5+1,none⟩=some (.int .i64 ys[i].off) /\
  w.cell? ⟨g,i * 5+2,none⟩=some (.int .i64 ys[i].kind)/\w.cell? ⟨g,i * 5+3,none⟩=some (.int .i64 ys[i].sym)/\w.cell? ⟨g,i * 5+4,none⟩=some (.int .i64 ys[i].addend)
theorem lX.aB {w:World} {base:Nat} {ao:Option Addr} {n cap:Nat} {ys:List Lk.Rel} (h:w.ownsRow base 83 5 (.slice ao n cap) n (ys.flatMap iH)):lX w ao ys:=by
 intro h0;have hl:(ys.flatMap iH).length=ys.length * 5:=by
  clear h h0
  induction ys with
  | nil=>rfl
  | cons y t ih=>rw [List.flatMap_cons,fE,ih]; simp [iH]; omega
 have hn:ys.length=n:=by have:=h.1; omega
 have hlt:=h.lt;rcases h.2 with ⟨h1,h2⟩ | ⟨g,cap',cur,hv,_⟩
 ·simp at h1; omega
 ·simp only [Value.slice.injEq] at hv;obtain ⟨rfl,_,rfl⟩:=hv;refine ⟨g,rfl,(hlt g rfl).2,fun i hi=>?_⟩;have q:=fun j (hj:j < 5)=>(h.cellAt (i * 5+j) (by omega)).trans (Nc iH 5 (fun _=>rfl) ys i j hi hj)
  exact ⟨q 0 (by omega),q 1 (by omega),q 2 (by omega),q 3 (by omega),q 4 (by omega)⟩
theorem lX.grown {w w':World} {ao:Option Addr} {ys:List Lk.Rel} (h:lX w ao ys) (hg:w.grownBy w' none):lX w' ao ys:=by
 intro h0;obtain ⟨g,h1,h2,h3⟩:=h h0;refine ⟨g,h1,Nat.lt_of_lt_of_le h2 hg.size,fun i hi=>?_⟩;obtain ⟨a,b,c,d,e⟩:=h3 i hi;exact ⟨yc a hg,yc b hg,yc c hg,yc d hg,yc e hg⟩
def Kt (o:Lk.Obj):Prop:=∀ i (h:i < o.aj.length),yV o o.aj[i]/\(∀ _:0 < i,oL (o.aj[i - 1]'(by omega)) o.aj[i])
theorem yhn (g:Nat) (o:Lk.Obj) (w:World) (ht:fZ w) (h:yq w g o) (hn:kV o) (hb4:oI o.align) (hw:pR o) (hr:∀ r∈o.aj,r.off<=9223372036854775807) :
  Calls Tryz.prog 125 #[.pointer (some ⟨g,0,none⟩)] w fun e w'=>yg e (Kt o)/\w.grownBy w' none:=by
 obtain ⟨at_,ct,af,cf,ad,cd,aa,ca,gF,cs,ar,cr,hb,h1,h2,h3,h4,h5,h6⟩:=h.open;have k6:=hb.cell 6;have S:=hid (lX.aB h6);have hns:=hn.2.2.2.2.2;have HB:=hid hb;have HO:=hid h;have HN:=hid hn;have HT:=hid ht;have rG:=hid hb4;have HW:=hid hw;have HR:=hid hr;clear h hn hb h1 h2 h3 h4 h5 h6 ht hb4 hw hr;go_enter Tryz.func125,Tryz.ntmps125;go_wp2
 go_loopw [10] (fun i wr=>∃ k:Nat,k<=o.aj.length/\i = .int .i64 k/\(∀ i (h:i < o.aj.length),i < k->yV o o.aj[i]/\(∀ _:0 < i,oL (o.aj[i - 1]'(by omega)) o.aj[i]))/\w.grownBy wr none) (fun i _=>o.aj.length - (intOf i).toNat)
 case atStart=>exact ⟨0,Nat.zero_le _,rfl,fun j _ hj=>absurd hj (Nat.not_lt_zero j),World.grownBy.refl _ _⟩
 case round =>
  obtain ⟨k,hk,rfl,hall,hgr⟩:=hrel;have HA:=hid hall;have HG:=hid hgr;clear hall hgr;by_cases hlt:k < o.aj.length
  ·obtain ⟨sg,hao,hgs,hc⟩:=S.o.grown HG.o (by omega);subst hao;obtain ⟨q0,q1,q2,q3,q4⟩:=hc k hlt;have HC:=hid hc;clear hc;have cV:=hid (fun W (hT:fZ W) (hW:yq W g o)=>yhQ g o o.aj[k] W hT hW HN.o rG.o HW.o (HR.o _ (dM hlt)));unfold bY at cV;have B1:=hid (ye.new wr #[.int .i64 o.aj[k].ah,.int .i64 o.aj[k].off,.int .i64 o.aj[k].kind,.int .i64 o.aj[k].sym,.int .i64 o.aj[k].addend] 83);have GA:=hid (aH wr (.cells #[.int .i64 o.aj[k].ah,.int .i64 o.aj[k].off,.int .i64 o.aj[k].kind,.int .i64 o.aj[k].sym,.int .i64 o.aj[k].addend] 83) none);go_wp2_with fail;refine (cV.o _ (HT.o.grown (ya HG.o GA.o)) (HO.o.kept (ya HG.o GA.o))).mono ?_
   rintro e W2 ⟨t,q⟩;have G2:=hid (ya (ya HG.o GA.o) q);have B2:=hid (B1.o.grown q (by simp));have GQ:=hid (ya GA.o q);rcases t.split with ⟨rfl,p1⟩ | ⟨rfl,p1⟩ <;> clear t q
   ·go_wp2;go_ret;exact ⟨yg.no (fun h=>p1.o (h k hlt).1),G2.o⟩
   by_cases hk0:k=0
   ·subst hk0;have d0:decide ((0:Int) < 0)=false:=by simp
    go_wp2
    go_quiet (fail)
    go_wp2
    go_roundw
    case rel=>exact ⟨1,by omega,rfl,fun j hj hjk=>by
     have:j=0:=by omega
     subst this;exact ⟨p1.o,fun h=>by omega⟩,yd G2.o _⟩
    case measure=>simp [intOf]; omega
   ·have hk1:1<=k:=by omega
    have hpl:k - 1 < o.aj.length:=by omega
    have eP:=(HA.o (k - 1) hpl (by omega)).1;have hoff:0<=(o.aj[k - 1]'hpl).off/\(o.aj[k - 1]'hpl).off<=1048576:=by
     obtain ⟨x1,x2,x3⟩:=eP.2.2.2.2.1;have y1:=yE HN.o (o.aj[k - 1]'hpl).ah;have y2:=yC eP.2.1;omega
    have cF:=hid (fun W=>yjV (o.aj[k - 1]'hpl) o.aj[k] W eP.2.1 hoff.1 hoff.2);have hcc:=HC.o (k - 1) hpl;generalize hpr:o.aj[k - 1]'hpl=pr at *;have Ua:=hid hpr;clear hpr;obtain ⟨r0,r1,r2,r3,r4⟩:=hcc;unfold bY at cF;have m6:=(HB.o.grown G2.o (by simp)).cell 6;have n0:=yc r0 GQ.o;have n1:=yc r1 GQ.o;have n2:=yc r2 GQ.o;have n3:=yc r3 GQ.o;have n4:=yc r4 GQ.o;have c0:=B2.o.cell 0;have c1:=B2.o.cell 1;have c2:=B2.o.cell 2;have c3:=B2.o.cell 3;have c4:=B2.o.cell 4;have M6:Hd (W2.drew.cell? ⟨g,6,none⟩=some (.slice (some ⟨sg,0,none⟩) o.aj.length cr)):=m6;have N0:Hd (W2.drew.cell? ⟨sg,(k - 1) * 5,none⟩=some (.int .i64 pr.ah)):=n0
    have N1:Hd (W2.drew.cell? ⟨sg,(k - 1) * 5+1,none⟩=some (.int .i64 pr.off)):=n1;have N2:Hd (W2.drew.cell? ⟨sg,(k - 1) * 5+2,none⟩=some (.int .i64 pr.kind)):=n2;have N3:Hd (W2.drew.cell? ⟨sg,(k - 1) * 5+3,none⟩=some (.int .i64 pr.sym)):=n3;have N4:Hd (W2.drew.cell? ⟨sg,(k - 1) * 5+4,none⟩=some (.int .i64 pr.addend)):=n4;have C0:Hd (W2.drew.cell? ⟨wr.heap.size,0,none⟩=some (.int .i64 o.aj[k].ah)):=c0;have C1:Hd (W2.drew.cell? ⟨wr.heap.size,1,none⟩=some (.int .i64 o.aj[k].off)):=c1;have C2:Hd (W2.drew.cell? ⟨wr.heap.size,2,none⟩=some (.int .i64 o.aj[k].kind)):=c2;have C3:Hd (W2.drew.cell? ⟨wr.heap.size,3,none⟩=some (.int .i64 o.aj[k].sym)):=c3
    have C4:Hd (W2.drew.cell? ⟨wr.heap.size,4,none⟩=some (.int .i64 o.aj[k].addend)):=c4;have hk2:0 < k:=by omega
    have d00:decide (0 < k)=true:=by simpa using hk2
    have d0:decide ((0:Int) < (k:Int))=true:=by simp; omega
    have g1:(1:Int)<=(k:Int):=by omega
    have g2:(k:Int) - 1 < (o.aj.length:Int):=by omega
    have g3:(0:Int)<=(k:Int) - 1:=by omega
    have hwk:IntKind.i64.wrap ((k:Int) - 1)=(k:Int) - 1:=IntWalk.i64_in _ ⟨by omega,by omega⟩;have HP:=hid eP;clear eP hoff q0 q1 q2 q3 q4 r0 r1 r2 r3 r4 hk0;go_wp2
    go_region_held3 (fun w'=>w'.cell? ⟨g,6,none⟩=some (.slice (some ⟨sg,0,none⟩) o.aj.length cr)/\w'.cell? ⟨wr.heap.size,0,none⟩=some (.int .i64 o.aj[k].ah)/\w'.cell? ⟨wr.heap.size,1,none⟩=some (.int .i64 o.aj[k].off)/\w'.cell? ⟨wr.heap.size,2,none⟩=some (.int .i64 o.aj[k].kind)/\w'.cell? ⟨wr.heap.size,3,none⟩=some (.int .i64 o.aj[k].sym)/\w'.cell? ⟨wr.heap.size,4,none⟩=some (.int .i64 o.aj[k].addend)/\w'.cell? ⟨sg,(k - 1) * 5,none⟩=some (.int .i64 pr.ah)/\w'.cell? ⟨sg,(k - 1) * 5+1,none⟩=some (.int .i64 pr.off)/\w'.cell? ⟨sg,(k - 1) * 5+2,none⟩=some (.int .i64 pr.kind)/\w'.cell? ⟨sg,(k - 1) * 5+3,none⟩=some (.int .i64 pr.sym)/\w'.cell? ⟨sg,(k - 1) * 5+4,none⟩=some (.int .i64 pr.addend))
     (go_keep)
     (first | (go_at_call 141; refine (cF.o _).mono ?_; rintro e w5 ⟨⟨b,rfl,hb⟩,hq⟩; have s6:=yc M6.o hq; have s0:=yc C0.o hq; have s1:=yc C1.o hq; have s2:=yc C2.o hq; have s3:=yc C3.o hq; have s4:=yc C4.o hq; have t0:=yc N0.o hq; have t1:=yc N1.o hq; have t2:=yc N2.o hq; have t3:=yc N3.o hq; have t4:=yc N4.o hq))
    have mX:=hid hb;have GF:=hid (ya (yf G2.o) hq);clear hb hq s6 s0 s1 s2 s3 s4 t0 t1 t2 t3 t4 c0 c1 c2 c3 c4 n0 n1 n2 n3 n4 m6
    cases b
    ·have NF:=hid (show ¬ oL pr o.aj[k] from fun h=>by have:=mX.o.2 h; simp at this);clear mX;go_wp2;go_ret;exact ⟨yg.no (fun h=>NF.o (Ua.o ▸ (h k hlt).2 hk2)),GF.o⟩
    ·have YF:=hid (show oL pr o.aj[k] from mX.o.1 rfl);clear mX;go_wp2
     go_roundw
     case rel=>exact ⟨k+1,by omega,by go_num,fun j hj hjk=>(Nat.lt_succ_iff_lt_or_eq.1 hjk).elim (fun h=>HA.o j hj h) (fun h=>by subst h; exact ⟨p1.o,fun _=>by rw [Ua.o]; exact YF.o⟩),GF.o⟩
     case measure=>simp [intOf]; omega
  ·go_wp2;go_ret;exact ⟨yg.yes fun i hi=>HA.o i hi (by omega),HG.o⟩
def yp (o:Lk.Obj):Prop:=Fb o/\oI o.align/\pR o/\Ku o/\Kt o
def pq (o:Lk.Obj):Prop:=kV o/\(∀ y∈o.syms,y.name.length<=255)/\∀ r∈o.aj,r.off<=9223372036854775807
theorem ymM (g:Nat) (o:Lk.Obj) (w:World) (ht:fZ w) (h:yq w g o) (hn:pq o) :
  Calls Tryz.prog 98 #[.pointer (some ⟨g,0,none⟩)] w fun e w'=>yg e (yp o)/\w.grownBy w' none:=by
 obtain ⟨at_,ct,af,cf,ad,cd,aa,ca,gF,cs,ar,cr,hb,h1,h2,h3,h4,h5,h6⟩:=h.open;have k4:=hb.cell 4;have c1:=hid (yhR g o w h hn.1);have c2:=hid (ygI aa ca o.align w (ym.aB h4) hn.1.2.2.2.1);have c3:=hid (yhT g o w h hn.1);have HO:=hid h;have HT:=hid ht;have HN:=hid hn;clear h ht hn hb h1 h2 h3 h4 h5 h6;go_enter Tryz.func98,Tryz.ntmps98;go_wp2_with fail;refine c1.o.mono ?_;rintro e w1 ⟨t,rfl⟩;rcases t.split with ⟨rfl,p1⟩ | ⟨rfl,p1⟩ <;> clear t c1
 ·go_wp2;go_ret;exact ⟨yg.no (fun h=>p1.o h.1),World.grownBy.refl _ _⟩
 go_wp2_with fail;refine c2.o.mono ?_;rintro e w2 ⟨t,rfl⟩;rcases t.split with ⟨rfl,p2⟩ | ⟨rfl,p2⟩ <;> clear t c2
 ·go_wp2;go_ret;exact ⟨yg.no (fun h=>p2.o h.2.1),World.grownBy.refl _ _⟩
 go_wp2_with fail;refine c3.o.mono ?_;rintro e w3 ⟨t,rfl⟩;rcases t.split with ⟨rfl,p3⟩ | ⟨rfl,p3⟩ <;> clear t c3
 ·go_wp2;go_ret;exact ⟨yg.no (fun h=>p3.o h.2.2.1),World.grownBy.refl _ _⟩
 have c4:=hid (ygJ g o w3 HO.o HN.o.1 p1.o.2.1 HN.o.2.1);go_wp2_with fail;refine c4.o.mono ?_;rintro e w4 ⟨t,q4⟩;have Q4:=hid q4;rcases t.split with ⟨rfl,p4⟩ | ⟨rfl,p4⟩ <;> clear t c4 q4
 ·go_wp2;go_ret;exact ⟨yg.no (fun h=>p4.o h.2.2.2.1),Q4.o⟩
 have c5:=hid (yhn g o w4 (HT.o.grown Q4.o) (HO.o.kept Q4.o) HN.o.1 p2.o p3.o HN.o.2.2);go_wp2_with fail;refine c5.o.mono ?_;rintro e w5 ⟨t,q5⟩;have Q5:=hid (ya Q4.o q5);rcases t.split with ⟨rfl,p5⟩ | ⟨rfl,p5⟩ <;> clear t c5 q5
 ·go_wp2;go_ret;exact ⟨yg.no (fun h=>p5.o h.2.2.2.2),Q5.o⟩
 go_wp2;go_ret;exact ⟨yg.yes ⟨p1.o,p2.o,p3.o,p4.o,p5.o⟩,Q5.o⟩
theorem Aa {w a c:World} {b:Nat} (h:w.grownBy a none) (k:a.grownBy c (some b)) (hb:w.heap.size<=b):w.grownBy c none :=
 ⟨k.os.trans h.os,k.tape.trans h.tape,k.output.trans h.output,Nat.le_trans h.size k.size,fun i hi _ =>
  (k.block i (Nat.lt_of_lt_of_le hi h.size) (by simp; omega)).trans (h.block i hi (by simp))⟩
theorem Mw {o:Lk.Obj} (h:Lk.lI o):pq o:=by
 obtain ⟨h1,h2,h3,h4,h5,h6,h7,h8,h9,h10,h11,h12,Ju⟩:=h;refine ⟨⟨by omega,by omega,by omega,by omega,by omega,by omega⟩,fun y hy=>?_,fun r hr=>?_⟩
 ·have:=(h9 y hy).1; omega
 ·have:=(h10 r hr).2.2.1.2; omega
def yog (w:World) (s:ByteArray) (e:Ending) (w':World):Prop :=
 (∃ o g,Lk.gu (sl s)=some o/\yp o/\e = .returned (.tuple #[.pointer (some ⟨g,0,none⟩),.int .i64 0])/\yq w' g o/\w.heap.size<=g) \/
 ((∀ o,Lk.gu (sl s)=some o->¬ yp o)/\e = .returned (.tuple #[.pointer none,.int .i64 20]))
theorem R8 (s:ByteArray) (w:World) (ht:fZ w) (hs:s.size<=1048576) :
  Calls Tryz.prog 70 #[.string s] w fun e w'=>yog w s e w'/\w.grownBy w' none:=by
 have HT:=hid ht;clear ht;go_enter Tryz.func70,Tryz.ntmps70;go_wp2_with fail;refine (WQ s w).mono ?_;rintro e W1 ⟨rfl,g1⟩;have R:bC (W1.alloc (.cells #[.string s,.int .i64 0,.bool false] 173)) W1.heap.size s 0 false:=heap_alloc_new W1 _;have HR:=hid R;have G1:=hid g1;have GA:=hid (aH W1 (.cells #[.string s,.int .i64 0,.bool false] 173) none);have hz:=hid g1.size;clear R g1;by_cases hm:(Lk.aF (sl s) 2 (0,false)).1=[76,75]
 ·have cR:=hid (yhG W1.heap.size s 0 false _ HR.o hs (Nat.zero_le _) hm);have hro:=hid (show Lk.gu (sl s)=if (Lk.gQ (sl s) (Lk.aF (sl s) 2 (0,false)).2).2=((sl s).length,false) then some (Lk.gQ (sl s) (Lk.aF (sl s) 2 (0,false)).2).1 else none from by unfold Lk.gu; rw [if_pos hm]);generalize Lk.gQ (sl s) (Lk.aF (sl s) 2 (0,false)).2=X at *;obtain ⟨o,p',s'⟩:=X;simp only at cR hro;clear hm;go_wp2_with fail;refine cR.o.mono ?_;rintro e W2 ⟨g,rfl,hg,zJ,hrd,hgr⟩;have Cu:=hid zJ;have Dy:=hid hrd;have GR:=hid hgr;have Du:=hid hg;clear zJ hrd hgr hg cR;have cD:=hid (Yp W1.heap.size s p' s' W2 Dy.o);go_wp2_with fail
  refine cD.o.mono ?_;rintro e W3 ⟨rfl,kd,rfl⟩;have GF:=hid (yd (Aa (ya G1.o GA.o) GR.o hz.o) kd);clear cD;have hsz:=rz s;by_cases hd:s'=false/\p'=s.size
  ·obtain ⟨rfl,rfl⟩:=hd;have wN:Lk.gu (sl s)=some o:=by rw [hro.o,if_pos (by rw [hsz])]
   have bS:=hid wN;have hgood:=((Lk.jT (sl s) o).1 wN).1;have cV:=hid (ymM g o (W2.drewN kd) (HT.o.grown GF.o) (Cu.o.drewN kd) (Mw hgood));have dd:(!false && decide (s.size=s.size))=true:=by simp
   clear wN hgood hsz hro;go_wp2_with fail;refine cV.o.mono ?_;rintro e W4 ⟨t,q⟩;have GQ:=hid (ya GF.o q);have HO4:=hid ((Cu.o.drewN kd).kept q);rcases t.split with ⟨rfl,pv⟩ | ⟨rfl,pv⟩ <;> clear t q cV
   ·go_wp2;go_ret2;exact ⟨.inr ⟨fun o' ho'=>by have h1:=bS.o.symm.trans ho'; simp only [Option.some.injEq] at h1; subst h1; exact pv.o,rfl⟩,GQ.o⟩
   ·go_wp2;go_ret2;refine ⟨.inl ⟨o,g,bS.o,pv.o,rfl,HO4.o,?_⟩,GQ.o⟩;have h1:=Du.o;have h2:=hz.o;simp at h1;omega
  ·have wN:Lk.gu (sl s)=none:=by
    rw [hro.o,if_neg];intro h;simp only [Prod.mk.injEq] at h;exact hd ⟨h.2,by rw [<- hsz]; exact h.1⟩
   have bS:=hid wN;have dd:(!s' && decide (p'=s.size))=false:=by
    cases s'
    ·simp at hd ⊢; exact hd
    ·rfl
   clear wN hro hsz hd;go_wp2;go_ret2;exact ⟨.inr ⟨fun o' ho'=>by have h1:=bS.o.symm.trans ho'; simp at h1,rfl⟩,GF.o⟩
 ·have cR:=hid (yiq W1.heap.size s 0 false _ HR.o hs (Nat.zero_le _) hm);have hro:=hid (show Lk.gu (sl s)=none from by unfold Lk.gu; rw [if_neg hm]);clear hm;go_wp2_with fail;refine cR.o.mono ?_;rintro e W2 ⟨rfl,hgr⟩;have GR:=hid hgr;clear hgr cR;go_wp2;go_ret2;exact ⟨.inr ⟨fun o' ho'=>by have h1:=hro.o.symm.trans ho'; simp at h1,rfl⟩,Aa (ya G1.o GA.o) GR.o hz.o⟩
def oH (y:Lk.Sym):Value:=.agg #[.string (bs y.name),.int .i64 y.bind,.int .i64 y.ah,.int .i64 y.off]
def Gr (w:World) (ao:Option Addr) (bl:List Nat):Prop :=
 0 < bl.length->∃ g off,ao=some ⟨g,off,none⟩/\∀ i (h:i < bl.length),w.cell? ⟨g,off+i,none⟩=some (.pointer (some ⟨bl[i],0,none⟩))
def Bc (w:World) (b:Nat) (o:Lk.Obj):Prop:=∃ g,w.cell? ⟨b,0,none⟩=some (.pointer (some ⟨g,0,none⟩))/\yq w g o
structure rD (w:World) (ao:Option Addr) (bl:List Nat) (os:List Lk.Obj):Prop where
 ptrs:Gr w ao bl
 len:bl.length=os.length
 mod:∀ i (h:i < bl.length) (h':i < os.length),Bc w bl[i] os[i]
 few:os.length<=4096
 syms:∀ o∈os,o.syms.length<=65535
theorem Bc.kept {w w':World} {b:Nat} {o:Lk.Obj} (h:Bc w b o) (hg:w.grownBy w' none):Bc w' b o:=by
 obtain ⟨g,h1,h2⟩:=h;exact ⟨g,yc h1 hg,h2.kept hg⟩
theorem Gr.kept {w w':World} {ao:Option Addr} {bl:List Nat} (h:Gr w ao bl) (hg:w.grownBy w' none):Gr w' ao bl:=by
 intro hp;obtain ⟨g,off,e,hc⟩:=h hp;exact ⟨g,off,e,fun i hi=>yc (hc i hi) hg⟩
theorem rD.kept {w w':World} {ao:Option Addr} {bl:List Nat} {os:List Lk.Obj} (h:rD w ao bl os) (hg:w.grownBy w' none):rD w' ao bl os :=
 ⟨h.ptrs.kept hg,h.len,fun i h1 h2=>(h.mod i h1 h2).kept hg,h.few,h.syms⟩
theorem rD.take {w:World} {ao:Option Addr} {bl:List Nat} {os:List Lk.Obj} (h:rD w ao bl os) (k:Nat):rD w ao (bl.take k) (os.take k):=by
 refine ⟨?_,by rw [List.length_take,List.length_take,h.len],fun i h1 h2=>?_,?_,fun o ho=>h.syms o (List.mem_of_mem_take ho)⟩
 ·intro hp;have hp2:0 < bl.length:=by rw [List.length_take] at hp; omega
  obtain ⟨g,off,e,hc⟩:=h.ptrs hp2;refine ⟨g,off,e,fun i hi=>?_⟩;rw [List.length_take] at hi;rw [List.getElem_take];exact hc i (by omega)
 ·rw [List.length_take] at h1 h2;rw [List.getElem_take,List.getElem_take];exact h.mod i (by omega) (by omega)
 ·have:=h.few; rw [List.length_take]; omega
def kW (bl:List Nat) (m:Option Nat):Option Addr:=m.bind fun i=>bl[i]?.map fun b=>⟨b,0,none⟩
def mU (bl:List Nat) (s:Ln.fQ):Value:=.agg #[.pointer (kW bl s.mod),.int .i64 s.ah,.int .i64 s.off]
theorem yX {a b:Bool} (h:a=b):Ending.returned (.bool a) = .returned (.bool b):=by rw [h]
theorem Yh (y:Lk.Sym) (w:World):Calls Tryz.prog 75 #[oH y] w fun e w'=>e = .returned (.bool (Ln.wanted y))/\w.grownBy w' none:=by
 unfold oH;by_cases h1:y.bind=1
 ·have d1:(y.bind == 1)=true:=by simpa using h1
  by_cases h2:y.ah=0
  ·have R:=hid (show Ln.wanted y=true by unfold Ln.wanted; rw [decide_eq_true h1,decide_eq_true h2]; rfl);have d2:(y.ah == 0)=true:=by simpa using h2
   clear h1 h2;go_enter Tryz.func75,Tryz.ntmps75;go_wp2;go_ret;exact ⟨yX R.o.symm,aH _ _ _⟩
  ·have R:=hid (show Ln.wanted y=false by unfold Ln.wanted; rw [decide_eq_false h2]; simp);have d2:(y.ah == 0)=false:=by simpa using h2
   clear h1 h2;go_enter Tryz.func75,Tryz.ntmps75;go_wp2;go_ret;exact ⟨yX R.o.symm,aH _ _ _⟩
 ·have R:=hid (show Ln.wanted y=false by unfold Ln.wanted; rw [decide_eq_false h1]; simp);have d1:(y.bind == 1)=false:=by simpa using h1
  clear h1;go_enter Tryz.func75,Tryz.ntmps75;go_wp2;go_ret;exact ⟨yX R.o.symm,aH _ _ _⟩
theorem Xj (y:Lk.Sym) (w:World):Calls Tryz.prog 126 #[oH y] w fun e w'=>e = .returned (.bool (Ln.defines y))/\w.grownBy w' none:=by
 obtain ⟨n,b,s,o⟩:=y;unfold oH;dsimp only;by_cases h1:b=0
 ·subst h1;have R:=hid (show Ln.defines ⟨n,0,s,o⟩=false from rfl);go_enter Tryz.func126,Tryz.ntmps126;go_wp2;go_ret;exact ⟨yX R.o.symm,aH _ _ _⟩
 ·by_cases h2:s=0
  ·subst h2;have R:=hid (show Ln.defines ⟨n,b,0,o⟩=false by unfold Ln.defines; simp);go_enter Tryz.func126,Tryz.ntmps126;go_wp2;go_ret;exact ⟨yX R.o.symm,aH _ _ _⟩
  ·have R:=hid (show Ln.defines ⟨n,b,s,o⟩=true by unfold Ln.defines; rw [decide_eq_false h1,decide_eq_false h2]; rfl);go_enter Tryz.func126,Tryz.ntmps126;go_wp2;go_ret;exact ⟨yX ((show (b != 0 && s != 0)=true by simp [h1,h2]).trans R.o.symm),aH _ _ _⟩
namespace Dl
def iK (n:List UInt8) (y:Lk.Sym):Bool:=decide (y.name=n) && (decide (0 < y.bind) && decide (0 < y.ah))
def gives (o:Lk.Obj) (n:List UInt8):Bool:=o.syms.any (iK n)
def qK (n:List UInt8) (b:Int) (y:Lk.Sym):Bool:=decide (y.name=n) && (decide (y.bind=b) && decide (0 < y.ah))
def gU (n:List UInt8) (b:Int) (i:Nat):Nat->List Lk.Sym->List (Nat×Nat)
 | _,[]=>[]
 | k,y :: ys=>if qK n b y then (i,k) :: gU n b i (k+1) ys else gU n b i (k+1) ys
def dW (n:List UInt8) (b:Int):Nat->List Lk.Obj->List (Nat×Nat)
 | _,[]=>[]
 | i,o :: os=>gU n b i 0 o.syms ++ dW n b (i+1) os
def bT (os:List Lk.Obj) (n:List UInt8) (b:Int):List (Nat×Nat):=dW n b 0 os
theorem uh (n:List UInt8) (b:Int) (i k:Nat) (ys:List Lk.Sym) (h:k < ys.length):gU n b i k (ys.drop k)=if qK n b ys[k] then (i,k) :: gU n b i (k+1) (ys.drop (k+1)) else gU n b i (k+1) (ys.drop (k+1)):=by
 rw [jg h,gU]
theorem uf (n:List UInt8) (b:Int) (i:Nat) (os:List Lk.Obj) (h:i < os.length):dW n b i (os.drop i)=gU n b i 0 os[i].syms ++ dW n b (i+1) (os.drop (i+1)):=by
 rw [jg h,dW]
theorem wH (n:List UInt8) (b:Int) (i:Nat):∀ (ys:List Lk.Sym) (k:Nat),(gU n b i k ys).length<=ys.length:=by
 intro ys
 induction ys with
 | nil=>intro k; exact Nat.le_refl _
 | cons y ys ih =>
  intro k
  have:=ih (k+1)
  rw [gU];split <;> simp only [gL] <;> omega
theorem qg (n:List UInt8) (b:Int):∀ (os:List Lk.Obj) (i:Nat),(∀ o∈os,o.syms.length<=16)->(dW n b i os).length<=16 * os.length:=by
 intro os
 induction os with
 | nil=>intro i _; exact Nat.le_refl _
 | cons o os ih =>
  intro i h;have h1:=ih (i+1) fun x hx=>h x (List.mem_cons_of_mem _ hx)
  have h2:=wH n b i o.syms 0;have h3:=h o List.mem_cons_self;rw [dW,fE,gL];omega
end Dl
structure qx (w:World) (ao:Option Addr) (gl:List Nat) (os:List Lk.Obj):Prop where
 ptrs:Gr w ao gl
 len:gl.length=os.length
 obj:∀ i (h:i < gl.length) (h':i < os.length),yq w gl[i] os[i]
 few:os.length<=48
 val:∀ o∈os,yp o
theorem qx.kept {w w':World} {ao:Option Addr} {gl:List Nat} {os:List Lk.Obj} (h:qx w ao gl os) (hg:w.grownBy w' none):qx w' ao gl os :=
 ⟨h.ptrs.kept hg,h.len,fun i h1 h2=>(h.obj i h1 h2).kept hg,h.few,h.val⟩
theorem yp.gT {o:Lk.Obj} (h:yp o):o.syms.length<=16:=h.1.2.2.1
theorem yp.jU {o:Lk.Obj} (h:yp o):o.aj.length<=32:=h.1.2.2.2
theorem X9 (g:Nat) (o:Lk.Obj) (nm:List UInt8) (w:World) (ho:yq w g o) (hns:o.syms.length<=65535) :
  Calls Tryz.prog 65 #[.pointer (some ⟨g,0,none⟩),.string (bs nm)] w fun e w'=>e = .returned (.bool (Dl.gives o nm))/\w.grownBy w' none:=by
 obtain ⟨at_,ct,af,cf,ad,cd,aa,ca,gF,cs,ar,cr,hb,-,-,-,-,q5,-⟩:=ho.open;have S:=hid (yI.aB q5);have HB:=hid hb;have ND:=hid (show Dl.gives o nm=o.syms.any (Dl.iK nm) from rfl);clear ho hb q5;generalize Dl.gives o nm=N at *;generalize o.syms=ys at *;go_enter Tryz.func65,Tryz.ntmps65;go_wp2
 go_loopw [5] (fun i wr=>∃ j:Nat,j<=ys.length/\i = .int .i64 j/\N=(ys.drop j).any (Dl.iK nm)/\w.grownBy wr none) (fun i _=>ys.length - (intOf i).toNat)
 case atStart=>exact ⟨0,Nat.zero_le _,rfl,ND.o,World.grownBy.refl _ _⟩
 case round =>
  obtain ⟨j,hj,rfl,hf2,dN⟩:=hrel;have iq:=hid hf2;have HG2:=hid dN;clear hf2 dN;have k5:=(HB.o.grown HG2.o (by simp)).cell 5;simp only [dH,dL,dK] at k5;by_cases hlt2:j < ys.length
  ·obtain ⟨sg,hsg,hgs,hcs⟩:=S.o.grown HG2.o (by omega);subst hsg;obtain ⟨q0,q1,q2,q3⟩:=hcs j hlt2;clear hcs;have g2:(j:Int) < (ys.length:Int):=by omega
   have FI:=hid (show N=(Dl.iK nm ys[j] || (ys.drop (j+1)).any (Dl.iK nm)) by rw [iq.o,jg hlt2,List.any_cons]);generalize ys[j]=y at *;have NX:=hid (fun (h:¬ (y.name=nm/\0 < y.bind/\0 < y.ah))=>show N=(ys.drop (j+1)).any (Dl.iK nm) by
    rw [FI.o,show Dl.iK nm y=false by unfold Dl.iK; simpa using fun a b=>Classical.byContradiction fun c=>h ⟨a,b,by omega⟩];rfl)
   by_cases e1:y.name=nm
   ·have b1:((bs y.name).toList == (bs nm).toList)=true:=by rw [e1]; simp
    by_cases e2:0 < y.bind
    ·have b2:decide (0 < y.bind)=true:=by simpa using e2
     by_cases e3:0 < y.ah
     ·have b3:decide (0 < y.ah)=true:=by simpa using e3
      have E:=hid (show N=true by rw [FI.o,show Dl.iK nm y=true by unfold Dl.iK; simp [e1,e2,e3]]; rfl);clear e1 e2 e3 NX;go_wp2;go_ret;exact ⟨yX E.o.symm,HG2.o⟩
     ·have b3:decide (0 < y.ah)=false:=by simpa using e3
      have E:=hid (NX.o fun h=>e3 h.2.2);clear e1 e2 e3 NX;go_wp2
      go_roundw
      case rel=>exact ⟨j+1,by omega,by go_num,E.o,HG2.o⟩
      case measure=>simp [intOf]; omega
    ·have b2:decide (0 < y.bind)=false:=by simpa using e2
     have E:=hid (NX.o fun h=>e2 h.2.1);clear e1 e2 NX;go_wp2
     go_roundw
     case rel=>exact ⟨j+1,by omega,by go_num,E.o,HG2.o⟩
     case measure=>simp [intOf]; omega
   ·have b1:((bs y.name).toList == (bs nm).toList)=false:=by rw [qO,qO]; simpa using e1
    have E:=hid (NX.o fun h=>e1 h.1);clear e1 NX;go_wp2
    go_roundw
    case rel=>exact ⟨j+1,by omega,by go_num,E.o,HG2.o⟩
    case measure=>simp [intOf]; omega
  ·obtain rfl:j=ys.length:=by omega
   have E:=hid (show N=false by rw [iq.o,List.drop_length]; rfl);have g3:decide ((ys.length:Int) < (ys.length:Int))=false:=by simp
   go_wp2;go_ret;exact ⟨yX E.o.symm,HG2.o⟩
theorem Tryz.qJ:(Tryz.prog.info? 51).map (fun i=>(i.zero,i.size,i.bytes))=some (some (.agg #[.int .i64 0,.int .i64 0]),2,16):=by kernel_rfl
def jD (p:Nat×Nat):List Value:=[.int .i64 p.1,.int .i64 p.2]
theorem C9 (W:World) (cs:Array Value) (t:TypeId):∀ j u,cs.toList[j]?=some u->(W.alloc (.cells cs t)).cell? ((⟨W.heap.size,0,none⟩:Addr).add j)=some u :=
 World.news_of_block (heap_alloc_new W (.cells cs t))
theorem Kg (ao:Option Addr) (cap:Nat) (gl:List Nat) (os:List Lk.Obj) (nm:List UInt8) (bind:Int) (w:World) (h:qx w ao gl os) :
  Calls Tryz.prog 30 #[.slice ao gl.length cap,.string (bs nm),.int .i64 bind] w fun e w'=>∃ v,e = .returned v/\w'.ownsRow w.heap.size 51 2 v (Dl.bT os nm bind).length ((Dl.bT os nm bind).flatMap jD)/\w.grownBy w' none:=by
 obtain ⟨i2,hi2,hx0,hx1,hx2⟩:=info_parts Tryz.qJ;have H:=hid h;have HL:=hid h.len;have hgl:gl.length<=48:=by rw [h.len]; exact h.few
 have GD:=hid (show Dl.bT os nm bind=Dl.dW nm bind 0 (os.drop 0) from rfl);have hG:(Dl.bT os nm bind).length<=768:=by
  have:=Dl.qg nm bind os 0 fun o ho=>(h.val o ho).gT
  have:=h.few
  unfold Dl.bT;omega
 clear h;generalize Dl.bT os nm bind=GS at *;go_enter Tryz.func30,Tryz.ntmps30;go_wp2
 go_loopw [7,8] (fun v i wr=>∃ (k:Nat) (acc:List (Nat×Nat)),k<=gl.length/\i = .int .i64 k/\GS=acc ++ Dl.dW nm bind k (os.drop k)/\wr.ownsRow w.heap.size 51 2 v acc.length (acc.flatMap jD)/\w.grownBy wr none) (fun _ i _=>gl.length - (intOf i).toNat)
 case atStart=>exact ⟨0,[],Nat.zero_le _,rfl,GD.o,World.ownsRow_nil _ _ _ _,World.grownBy.refl _ _⟩
 case round =>
  obtain ⟨k,acc,hk,rfl,hf,hown,hgr⟩:=hrel;have HF:=hid hf;have HG:=hid hgr;have OW:=hid hown;obtain ⟨aa,ca,rfl⟩:=yj hown;clear hf hgr hown;by_cases hlt:k < gl.length
  ·have hko:k < os.length:=by rw [<- HL.o]; exact hlt
   obtain ⟨g0,off,hao,hc⟩:=H.o.ptrs (by omega);subst hao;have CK:=hid (hc k hlt);obtain ⟨at_,ct,af,cf,ad,cd,wm,wD,gF,cs,ar,cr,hb,-,-,-,-,q5,-⟩:=(H.o.obj k hlt hko).open;have S:=hid (yI.aB q5);have HB:=hid hb;have hns:=(H.o.val os[k] (dM hko)).gT;have FD:=hid (Dl.uf nm bind k os hko);clear hc hb q5;generalize os[k].syms=ys at *;generalize gl[k]=bk at *;have g1:(k:Int) < (gl.length:Int):=by omega
   go_wp2
   go_loopw [7,9] (fun v i wr=>∃ (j:Nat) (ac:List (Nat×Nat)),j<=ys.length/\i = .int .i64 j/\GS=ac ++ (Dl.gU nm bind k j (ys.drop j) ++ Dl.dW nm bind (k+1) (os.drop (k+1)))/\wr.ownsRow w.heap.size 51 2 v ac.length (ac.flatMap jD)/\w.grownBy wr none) (fun _ i _=>ys.length - (intOf i).toNat)
   case atStart=>exact ⟨0,acc,Nat.zero_le _,rfl,by rw [HF.o,FD.o]; rfl,OW.o,HG.o⟩
   case round =>
    obtain ⟨j,ac,hj,rfl,hf2,hown2,dN⟩:=hrel;have iq:=hid hf2;have HG2:=hid dN;have FJ:=hid hown2;obtain ⟨ab,cb,rfl⟩:=yj hown2;clear hf2 dN hown2;have ck:=yc CK.o HG2.o;have k5:=(HB.o.grown HG2.o (by simp)).cell 5;simp only [dH,dL,dK] at k5;by_cases hlt2:j < ys.length
    ·obtain ⟨sg,hsg,hgs,hcs⟩:=S.o.grown HG2.o (by omega);subst hsg;obtain ⟨q0,q1,q2,q3⟩:=hcs j hlt2;clear hcs;have g2:(j:Int) < (ys.length:Int):=by omega
     have FI:=hid (Dl.uh nm bind k j ys hlt2);generalize ys[j]=y at *;have GA:=hid (aH wr (.cells #[.string (bs y.name),.int .i64 y.bind,.int .i64 y.ah,.int .i64 y.off] 77) none);have NX:=hid (fun (h:¬ (y.name=nm/\y.bind=bind/\0 < y.ah))=>show GS=ac ++ (Dl.gU nm bind k (j+1) (ys.drop (j+1)) ++ Dl.dW nm bind (k+1) (os.drop (k+1))) by
      rw [iq.o,FI.o,if_neg (by unfold Dl.qK; simpa using fun a b=>Classical.byContradiction fun c=>h ⟨a,b,by omega⟩)])
     have al:ac.length+1<=768\/¬ (y.name=nm/\y.bind=bind/\0 < y.ah):=by
      refine Classical.byContradiction fun hc=>?_
      have hy:y.name=nm/\y.bind=bind/\0 < y.ah:=Classical.byContradiction fun hc2=>hc (.inr hc2)
      have h3:=congrArg List.length iq.o;rw [FI.o,if_pos (by unfold Dl.qK; simp [hy]),fE,fE,gL] at h3;omega
     have OA:=hid (FJ.o.alloc (.cells #[.string (bs y.name),.int .i64 y.bind,.int .i64 y.ah,.int .i64 y.off] 77));have GW:=hid (ya HG2.o GA.o);by_cases e1:y.name=nm
     ·have b1:((bs y.name).toList == (bs nm).toList)=true:=by rw [e1]; simp
      by_cases e2:y.bind=bind
      ·have b2:(y.bind == bind)=true:=by simpa using e2
       by_cases e3:0 < y.ah
       ·have b3:decide (0 < y.ah)=true:=by simpa using e3
        have E:=hid (show GS=(ac ++ [(k,j)]) ++ (Dl.gU nm bind k (j+1) (ys.drop (j+1)) ++ Dl.dW nm bind (k+1) (os.drop (k+1))) by
         rw [iq.o,FI.o,if_pos (by unfold Dl.qK; simp [e1,e2,e3])];simp)
        have al':ac.length+1<=768:=al.resolve_right fun h=>h ⟨e1,e2,e3⟩
        have hsw:=GW.o.size;clear e1 e2 e3 NX al;have BX:=hid (ye.new wr #[.string (bs y.name),.int .i64 y.bind,.int .i64 y.ah,.int .i64 y.off] 77)
        go_upto_region 9 with fail
        generalize wr.alloc (.cells #[.string (bs y.name),.int .i64 y.bind,.int .i64 y.ah,.int .i64 y.off] 77)=W1 at *;generalize wr.heap.size=X at *;have x0:W1.cell? ⟨X,0,none⟩=some (.string (bs y.name)):=BX.o.cell 0;have x1:W1.cell? ⟨X,1,none⟩=some (.int .i64 y.bind):=BX.o.cell 1;have x2:W1.cell? ⟨X,2,none⟩=some (.int .i64 y.ah):=BX.o.cell 2;clear BX GA HG2;go_wp2_with (at_builtin; refine wpList_append_own_at _ rfl _ _ 78 rfl w.heap.size 51 i2 (.agg #[.int .i64 0,.int .i64 0]) 2 16 Tryz.underlying78 hi2 hx0 hx1 hx2 rfl (by decide) _ _ _ rfl (OA.o.alloc _) ⟨W1.heap.size,0,none⟩ 1 1 (jD (k,j)) rfl rfl (C9 _ _ _) (by intro u hu; simp [jD] at hu; rcases hu with rfl | rfl <;> rfl) (by unfold maxLen; omega) (by omega) (by simp; omega) ?_; intro v' w3 hown' hgrow _ hat; have N3:=hid (yD (ya GW.o (aH _ _ none)) hgrow (fun b hb=>(OA.o.lt b hb).1)); have O3:=hid (show w3.ownsRow w.heap.size 51 2 v' (ac ++ [(k,j)]).length ((ac ++ [(k,j)]).flatMap jD) by rw [fE,List.flatMap_append]; simpa using hown'); obtain ⟨jN,cv',rfl⟩:=yj hown'; clear hgrow hown' hat)
        go_roundw
        case rel=>exact ⟨j+1,ac ++ [(k,j)],by omega,by go_num,E.o,O3.o,N3.o⟩
        case measure=>simp [intOf]; omega
       ·have b3:decide (0 < y.ah)=false:=by simpa using e3
        have E:=hid (NX.o fun h=>e3 h.2.2);clear e1 e2 e3 NX;go_wp2
        go_roundw
        case rel=>exact ⟨j+1,ac,by omega,by go_num,E.o,OA.o,GW.o⟩
        case measure=>simp [intOf]; omega
      ·have b2:(y.bind == bind)=false:=by simpa using e2
       have E:=hid (NX.o fun h=>e2 h.2.1);clear e1 e2 NX;go_wp2
       go_roundw
       case rel=>exact ⟨j+1,ac,by omega,by go_num,E.o,OA.o,GW.o⟩
       case measure=>simp [intOf]; omega
     ·have b1:((bs y.name).toList == (bs nm).toList)=false:=by rw [qO,qO]; simpa using e1
      have E:=hid (NX.o fun h=>e1 h.1);clear e1 NX;go_wp2
      go_roundw
      case rel=>exact ⟨j+1,ac,by omega,by go_num,E.o,OA.o,GW.o⟩
      case measure=>simp [intOf]; omega
    ·obtain rfl:j=ys.length:=by omega
     have E:=hid (show GS=ac ++ Dl.dW nm bind (k+1) (os.drop (k+1)) by rw [iq.o,List.drop_length]; rfl);have g3:decide ((ys.length:Int) < (ys.length:Int))=false:=by simp
     go_wp2
     go_roundw
     case rel=>exact ⟨k+1,ac,by omega,by go_num,E.o,FJ.o,HG2.o⟩
     case measure=>simp [intOf]; omega
  ·obtain rfl:k=gl.length:=by omega
   have E:=hid (show GS=acc by rw [HF.o,HL.o,List.drop_length]; simp [Dl.dW]);have g3:decide ((gl.length:Int) < (gl.length:Int))=false:=by simp
   go_wp2;go_ret;exact ⟨_,rfl,by rw [E.o]; exact OW.o,HG.o⟩
theorem yjT (n:List UInt8) (bind:Int) (os:List Lk.Obj) (k:Nat) (h:k < os.length):Ln.findAt n bind k (os.drop k)=match Ln.eO n bind os[k].syms with | some (s,f)=>⟨some k,s,f⟩ | none=>Ln.findAt n bind (k+1) (os.drop (k+1)):=by
 rw [jg h,Ln.findAt]
 cases Ln.eO n bind os[k].syms <;> rfl
theorem yjU (n:List UInt8) (bind:Int) (ys:List Lk.Sym) (k:Nat) (h:k < ys.length):Ln.eO n bind (ys.drop k)=if ys[k].name=n/\ys[k].bind=bind/\ys[k].ah≠0 then some (ys[k].ah,ys[k].off) else Ln.eO n bind (ys.drop (k+1)):=by
 rw [jg h,Ln.eO]
theorem yx {w V:World} (h:w.grownBy V none) (r:Nat) (hr:w.heap.size<=r) (a b c:Value):w.grownBy (((V.setCell ⟨r,0,none⟩ a).setCell ⟨r,1,none⟩ b).setCell ⟨r,2,none⟩ c) none :=
 yD (yD (yD h (yi V r 0 a) (by intro k e; simp at e; omega)) (yi _ r 1 b) (by intro k e; simp at e; omega)) (yi _ r 2 c) (by intro k e; simp at e; omega)
theorem Yq (ao:Option Addr) (cap:Nat) (bl:List Nat) (os:List Lk.Obj) (nm:List UInt8) (bind:Int) (w:World) (h:rD w ao bl os) :
  Calls Tryz.prog 74 #[.slice ao bl.length cap,.string (bs nm),.int .i64 bind] w fun e w'=>e = .returned (mU bl (Ln.find os nm bind))/\w.grownBy w' none:=by
 have H:=hid h;have JA:=h.few;have HL:=hid h.len;have G0:=hid (aH w (.cells #[.pointer none,.int .i64 0,.int .i64 0] 103) none);have B0:=hid (ye.new w #[.pointer none,.int .i64 0,.int .i64 0] 103);have hbl:bl.length<=4096:=by rw [h.len]; exact JA
 clear h;go_enter Tryz.func74,Tryz.ntmps74;go_wp2;generalize w.alloc (.cells #[.pointer none,.int .i64 0,.int .i64 0] 103)=W1 at *
 go_loopw [13] (fun i wr=>∃ k:Nat,k<=bl.length/\i = .int .i64 k/\Ln.find os nm bind=Ln.findAt nm bind k (os.drop k)/\W1.grownBy wr none) (fun i _=>bl.length - (intOf i).toNat)
 case atStart=>exact ⟨0,Nat.zero_le _,rfl,rfl,World.grownBy.refl _ _⟩
 case round =>
  obtain ⟨k,hk,rfl,hf,hgr⟩:=hrel;have HF:=hid hf;have HG:=hid hgr;clear hf hgr;by_cases hlt:k < bl.length
  ·have hko:k < os.length:=by rw [<- HL.o]; exact hlt
   have MI:=H.o.kept (ya G0.o HG.o);obtain ⟨g0,off,hao,hc⟩:=MI.ptrs (by omega);subst hao;obtain ⟨og,hm0,lV⟩:=MI.mod k hlt hko;have ck:=hc k hlt;obtain ⟨at_,ct,af,cf,ad,cd,aa,ca,gF,cs,ar,cr,hb,-,-,-,-,q5,-⟩:=lV.open;have S:=hid (yI.aB q5);have k5:=hb.cell 5;simp only [dH,dL,dK] at k5;have hns:=MI.syms os[k] (dM hko);have FD:=hid (yjT nm bind os k hko);clear hc lV hb q5 MI;generalize os[k].syms=ys at *;generalize hbk:bl[k]=bk at *;have xB:=hid hbk;clear hbk;have g1:(k:Int) < (bl.length:Int):=by omega
   obtain ⟨U,hU⟩:∃ U:World,U=wr:=⟨_,rfl⟩
   subst hU;go_wp2
   go_loopw [25] (fun i wr=>∃ j:Nat,j<=ys.length/\i = .int .i64 j/\Ln.eO nm bind ys=Ln.eO nm bind (ys.drop j)/\U.grownBy wr none) (fun i _=>ys.length - (intOf i).toNat)
   case atStart=>exact ⟨0,Nat.zero_le _,rfl,rfl,World.grownBy.refl _ _⟩
   case round =>
    obtain ⟨j,hj,rfl,hf2,dN⟩:=hrel;have iq:=hid hf2;have HG2:=hid dN;clear hf2 dN ck hm0 k5;by_cases hlt2:j < ys.length
    ·obtain ⟨sg,hsg,hgs,hcs⟩:=S.o.grown HG2.o (by omega);subst hsg;obtain ⟨q0,q1,q2,q3⟩:=hcs j hlt2;clear hcs;have g2:(j:Int) < (ys.length:Int):=by omega
     have FI:=hid (yjU nm bind ys j hlt2);generalize ys[j]=y at *;have GA:=hid (fun ob:Obj=>aH wr ob none);have NX:=hid (fun (hn:¬ (y.name=nm/\y.bind=bind/\y.ah≠0))=>show Ln.eO nm bind ys=Ln.eO nm bind (ys.drop (j+1)) by rw [iq.o,FI.o,if_neg hn]);by_cases e1:y.name=nm
     ·have b1:((bs y.name).toList == (bs nm).toList)=true:=by rw [e1]; simp
      by_cases e2:y.bind=bind
      ·have b2:(y.bind == bind)=true:=by simpa using e2
       by_cases e3:y.ah=0
       ·have b3:(y.ah == 0)=true:=by simpa using e3
        have E:=hid (NX.o (fun h=>h.2.2 e3));clear e1 e2 e3;go_wp2
        go_roundw
        case rel=>exact ⟨j+1,by omega,by go_num,E.o,ya HG2.o (GA.o _)⟩
        case measure=>simp [intOf]; omega
       ·have b3:(y.ah == 0)=false:=by simpa using e3
        have E:=hid (show Ln.find os nm bind=⟨some k,y.ah,y.off⟩ by rw [HF.o,FD.o,iq.o,FI.o,if_pos ⟨e1,e2,e3⟩]);have BR:=hid (B0.o.grown (ya HG.o HG2.o) (by simp));have hRl:=BR.o.lt;have z0:=BR.o.cell 0;have z1:=BR.o.cell 1;have z2:=BR.o.cell 2;simp only [dH,dL,dK] at z0 z1 z2;have f0:=BR.o.free 0;have f1:=BR.o.free 1;have f2:=BR.o.free 2;have VU:w.heap.size≠wr.heap.size:=by omega
        have PO:=hid (show kW bl (some k)=some ⟨bk,0,none⟩ by unfold kW; rw [Option.bind_some,gy hlt,Option.map_some,xB.o]);clear e1 e2;go_wp2;have F:=(((BR.o.set 0 (.pointer (some ⟨bk,0,none⟩))).set 1 (.int .i64 y.ah)).set 2 (.int .i64 y.off)).grown (aH _ (.cells #[.string (bs y.name),.int .i64 y.bind,.int .i64 y.ah,.int .i64 y.off] 77) none) (by simp);have h0:=F.cell 0;have h1:=F.cell 1;have h2:=F.cell 2;simp only [fu,fC,eX,dH,dL,dK] at h0 h1 h2;refine bodyPost_ret (v:=mU bl ⟨some k,y.ah,y.off⟩) ?_ rfl ⟨by rw [E.o],ya (yx (ya G0.o (ya HG.o HG2.o)) _ (Nat.le_refl _) _ _ _) (aH _ _ none)⟩;clear F z0 z1 z2 f0 f1 f2 q0 q1 q2 q3
        generalize World.alloc _ _=WF at *;simp [results,Tryz.results74,go_sem,mU,PO.o,h0,h1,h2]
      ·have b2:(y.bind == bind)=false:=by simpa using e2
       have E:=hid (NX.o (fun h=>e2 h.2.1));clear e1 e2;go_wp2
       go_roundw
       case rel=>exact ⟨j+1,by omega,by go_num,E.o,ya HG2.o (GA.o _)⟩
       case measure=>simp [intOf]; omega
     ·have b1:((bs y.name).toList == (bs nm).toList)=false:=by rw [qO,qO]; simpa using e1
      have E:=hid (NX.o (fun h=>e1 h.1));clear e1;go_wp2
      go_roundw
      case rel=>exact ⟨j+1,by omega,by go_num,E.o,ya HG2.o (GA.o _)⟩
      case measure=>simp [intOf]; omega
    ·obtain rfl:j=ys.length:=by omega
     have E:=hid (show Ln.eO nm bind ys=none by rw [iq.o,List.drop_length]; rfl);have g3:decide ((ys.length:Int) < (ys.length:Int))=false:=by simp
     go_wp2
     go_roundw
     case rel=>exact ⟨k+1,by omega,by go_num,by rw [HF.o,FD.o,E.o],ya HG.o HG2.o⟩
     case measure=>simp [intOf]; omega
  ·obtain rfl:k=bl.length:=by omega
   have E:=hid (show Ln.find os nm bind=Ln.none_ by rw [HF.o,HL.o,List.drop_length]; rfl);have g3:decide ((bl.length:Int) < (bl.length:Int))=false:=by simp
   have BR:=hid (B0.o.grown HG.o (by simp));have z0:=BR.o.cell 0;have z1:=BR.o.cell 1;have z2:=BR.o.cell 2;simp only [dH,dL,dK] at z0 z1 z2;have f0:=BR.o.free 0;have f1:=BR.o.free 1;have f2:=BR.o.free 2;go_wp2;have F:=((BR.o.set 0 (.pointer none)).set 1 (.int .i64 0)).set 2 (.int .i64 0);have h0:=F.cell 0;have h1:=F.cell 1;have h2:=F.cell 2;simp only [fu,fC,eX,dH,dL,dK] at h0 h1 h2;refine bodyPost_ret (v:=mU bl Ln.none_) ?_ rfl ⟨by rw [E.o],yx (ya G0.o HG.o) _ (Nat.le_refl _) _ _ _⟩;clear F z0 z1 z2 f0 f1 f2;generalize World.setCell _ _ _=WF at *;simp [results,Tryz.results74,go_sem,mU,kW,Ln.none_,h0,h1,h2]
theorem ylN (os:List Lk.Obj) (nm:List UInt8) (k:Nat) (h:k < os.length):((os.drop k).any fun o=>o.syms.any fun y=>decide (y.name=nm) && Ln.wanted y)=((os[k].syms.any fun y=>decide (y.name=nm) && Ln.wanted y) || (os.drop (k+1)).any fun o=>o.syms.any fun y=>decide (y.name=nm) && Ln.wanted y):=by
 rw [jg h,List.any_cons]
theorem ynV (ys:List Lk.Sym) (nm:List UInt8) (k:Nat) (h:k < ys.length):((ys.drop k).any fun y=>decide (y.name=nm) && Ln.wanted y)=((decide (ys[k].name=nm) && Ln.wanted ys[k]) || (ys.drop (k+1)).any fun y=>decide (y.name=nm) && Ln.wanted y):=by
 rw [jg h,List.any_cons]
theorem ymO (P:Nat) (ao:Option Addr) (cap:Nat) (bl:List Nat) (os:List Lk.Obj) (nm:List UInt8) (w:World) (hp:w.cell? ⟨P,3,none⟩=some (.slice ao bl.length cap)) (h:rD w ao bl os) :
  Calls Tryz.prog 127 #[.pointer (some ⟨P,0,none⟩),.string (bs nm)] w fun e w'=>e = .returned (.bool (Ln.wants os nm))/\w.grownBy w' none:=by
 have H:=hid h;have HL:=hid h.len;have hbl:bl.length<=4096:=by rw [h.len]; exact h.few
 have cC:=hid (fun y W=>Yh y W);unfold oH at cC;clear h;go_enter Tryz.func127,Tryz.ntmps127;go_wp2
 go_loopw [14] (fun i wr=>∃ k:Nat,k<=bl.length/\i = .int .i64 k/\Ln.wants os nm=((os.drop k).any fun o=>o.syms.any fun y=>decide (y.name=nm) && Ln.wanted y)/\w.grownBy wr none) (fun i _=>bl.length - (intOf i).toNat)
 case atStart=>exact ⟨0,Nat.zero_le _,rfl,rfl,World.grownBy.refl _ _⟩
 case round =>
  obtain ⟨k,hk,rfl,hf,hgr⟩:=hrel;have HF:=hid hf;have HG:=hid hgr;clear hf hgr;by_cases hlt:k < bl.length
  ·have hko:k < os.length:=by rw [<- HL.o]; exact hlt
   have MI:=H.o.kept HG.o;obtain ⟨g0,off,hao,hc⟩:=MI.ptrs (by omega);subst hao;obtain ⟨og,hm0,lV⟩:=MI.mod k hlt hko;have ck:=hc k hlt;obtain ⟨at_,ct,af,cf,ad,cd,aa,ca,gF,cs,ar,cr,hb,-,-,-,-,q5,-⟩:=lV.open;have S:=hid (yI.aB q5);have k5:=hb.cell 5;simp only [dH,dL,dK] at k5;have hns:=MI.syms os[k] (dM hko);have FD:=hid (ylN os nm k hko);clear hc lV hb q5 MI;generalize os[k].syms=ys at *;generalize bl[k]=bk at *;have g1:(k:Int) < (bl.length:Int):=by omega
   obtain ⟨U,hU⟩:∃ U:World,U=wr:=⟨_,rfl⟩
   subst hU;go_wp2
   go_loopw [26] (fun i wr=>∃ j:Nat,j<=ys.length/\i = .int .i64 j/\(ys.any fun y=>decide (y.name=nm) && Ln.wanted y)=((ys.drop j).any fun y=>decide (y.name=nm) && Ln.wanted y)/\U.grownBy wr none) (fun i _=>ys.length - (intOf i).toNat)
   case atStart=>exact ⟨0,Nat.zero_le _,rfl,rfl,World.grownBy.refl _ _⟩
   case round =>
    obtain ⟨j,hj,rfl,hf2,dN⟩:=hrel;have iq:=hid hf2;have HG2:=hid dN;clear hf2 dN ck hm0 k5;by_cases hlt2:j < ys.length
    ·obtain ⟨sg,hsg,hgs,hcs⟩:=S.o.grown HG2.o (by omega);subst hsg;obtain ⟨q0,q1,q2,q3⟩:=hcs j hlt2;clear hcs;have g2:(j:Int) < (ys.length:Int):=by omega
     have FI:=hid (ynV ys nm j hlt2);generalize ys[j]=y at *;have cY:=hid (cC.o y);have GA:=hid (fun ob:Obj=>aH wr ob none);by_cases e1:y.name=nm
     ·have b1:((bs y.name).toList == (bs nm).toList)=true:=by rw [e1]; simp
      cases e2:Ln.wanted y
      ·have E:=hid (show (ys.any fun y=>decide (y.name=nm) && Ln.wanted y)=((ys.drop (j+1)).any fun y=>decide (y.name=nm) && Ln.wanted y) by rw [iq.o,FI.o,e2]; simp);rw [e2] at cY;clear e1 e2;go_wp2_with fail;refine (cY.o _).mono ?_;rintro e W5 ⟨rfl,h5⟩;have G5:=hid (ya HG2.o (ya (GA.o _) h5));clear h5;go_wp2
       go_roundw
       case rel=>exact ⟨j+1,by omega,by go_num,E.o,G5.o⟩
       case measure=>simp [intOf]; omega
      ·have E:=hid (show Ln.wants os nm=true by rw [HF.o,FD.o,iq.o,FI.o,e2,decide_eq_true e1]; simp);rw [e2] at cY;clear e1 e2;go_wp2_with fail;refine (cY.o _).mono ?_;rintro e W5 ⟨rfl,h5⟩;have G5:=hid (ya HG2.o (ya (GA.o _) h5));clear h5;go_wp2;go_ret;exact ⟨yX E.o.symm,ya HG.o G5.o⟩
     ·have b1:((bs y.name).toList == (bs nm).toList)=false:=by rw [qO,qO]; simpa using e1
      have E:=hid (show (ys.any fun y=>decide (y.name=nm) && Ln.wanted y)=((ys.drop (j+1)).any fun y=>decide (y.name=nm) && Ln.wanted y) by rw [iq.o,FI.o,decide_eq_false e1]; simp);clear e1;go_wp2
      go_roundw
      case rel=>exact ⟨j+1,by omega,by go_num,E.o,ya HG2.o (GA.o _)⟩
      case measure=>simp [intOf]; omega
    ·obtain rfl:j=ys.length:=by omega
     have E:=hid (show (ys.any fun y=>decide (y.name=nm) && Ln.wanted y)=false by rw [iq.o,List.drop_length]; rfl);have g3:decide ((ys.length:Int) < (ys.length:Int))=false:=by simp
     go_wp2
     go_roundw
     case rel=>exact ⟨k+1,by omega,by go_num,by rw [HF.o,FD.o,E.o,Bool.false_or],ya HG.o HG2.o⟩
     case measure=>simp [intOf]; omega
  ·obtain rfl:k=bl.length:=by omega
   have E:=hid (show Ln.wants os nm=false by rw [HF.o,HL.o,List.drop_length]; rfl);have g3:decide ((bl.length:Int) < (bl.length:Int))=false:=by simp
   go_wp2;go_ret;exact ⟨yX E.o.symm,HG.o⟩
theorem ynh (os:List Lk.Obj) (nm:List UInt8) (k:Nat) (h:k < os.length):((os.drop k).any fun o=>o.syms.any fun y=>decide (y.name=nm) && Ln.defines y)=((os[k].syms.any fun y=>decide (y.name=nm) && Ln.defines y) || (os.drop (k+1)).any fun o=>o.syms.any fun y=>decide (y.name=nm) && Ln.defines y):=by
 rw [jg h,List.any_cons]
theorem yph (ys:List Lk.Sym) (nm:List UInt8) (k:Nat) (h:k < ys.length):((ys.drop k).any fun y=>decide (y.name=nm) && Ln.defines y)=((decide (ys[k].name=nm) && Ln.defines ys[k]) || (ys.drop (k+1)).any fun y=>decide (y.name=nm) && Ln.defines y):=by
 rw [jg h,List.any_cons]
theorem yos (P:Nat) (ao:Option Addr) (cap:Nat) (bl:List Nat) (os:List Lk.Obj) (nm:List UInt8) (w:World) (hp:w.cell? ⟨P,3,none⟩=some (.slice ao bl.length cap)) (h:rD w ao bl os) :
  Calls Tryz.prog 128 #[.pointer (some ⟨P,0,none⟩),.string (bs nm)] w fun e w'=>e = .returned (.bool (Ln.has os nm))/\w.grownBy w' none:=by
 have H:=hid h;have HL:=hid h.len;have hbl:bl.length<=4096:=by rw [h.len]; exact h.few
 have cC:=hid (fun y W=>Xj y W);unfold oH at cC;clear h;go_enter Tryz.func128,Tryz.ntmps128;go_wp2
 go_loopw [14] (fun i wr=>∃ k:Nat,k<=bl.length/\i = .int .i64 k/\Ln.has os nm=((os.drop k).any fun o=>o.syms.any fun y=>decide (y.name=nm) && Ln.defines y)/\w.grownBy wr none) (fun i _=>bl.length - (intOf i).toNat)
 case atStart=>exact ⟨0,Nat.zero_le _,rfl,rfl,World.grownBy.refl _ _⟩
 case round =>
  obtain ⟨k,hk,rfl,hf,hgr⟩:=hrel;have HF:=hid hf;have HG:=hid hgr;clear hf hgr;by_cases hlt:k < bl.length
  ·have hko:k < os.length:=by rw [<- HL.o]; exact hlt
   have MI:=H.o.kept HG.o;obtain ⟨g0,off,hao,hc⟩:=MI.ptrs (by omega);subst hao;obtain ⟨og,hm0,lV⟩:=MI.mod k hlt hko;have ck:=hc k hlt;obtain ⟨at_,ct,af,cf,ad,cd,aa,ca,gF,cs,ar,cr,hb,-,-,-,-,q5,-⟩:=lV.open;have S:=hid (yI.aB q5);have k5:=hb.cell 5;simp only [dH,dL,dK] at k5;have hns:=MI.syms os[k] (dM hko);have FD:=hid (ynh os nm k hko);clear hc lV hb q5 MI;generalize os[k].syms=ys at *;generalize bl[k]=bk at *;have g1:(k:Int) < (bl.length:Int):=by omega
   obtain ⟨U,hU⟩:∃ U:World,U=wr:=⟨_,rfl⟩
   subst hU;go_wp2
   go_loopw [26] (fun i wr=>∃ j:Nat,j<=ys.length/\i = .int .i64 j/\(ys.any fun y=>decide (y.name=nm) && Ln.defines y)=((ys.drop j).any fun y=>decide (y.name=nm) && Ln.defines y)/\U.grownBy wr none) (fun i _=>ys.length - (intOf i).toNat)
   case atStart=>exact ⟨0,Nat.zero_le _,rfl,rfl,World.grownBy.refl _ _⟩
   case round =>
    obtain ⟨j,hj,rfl,hf2,dN⟩:=hrel;have iq:=hid hf2;have HG2:=hid dN;clear hf2 dN ck hm0 k5;by_cases hlt2:j < ys.length
    ·obtain ⟨sg,hsg,hgs,hcs⟩:=S.o.grown HG2.o (by omega);subst hsg;obtain ⟨q0,q1,q2,q3⟩:=hcs j hlt2;clear hcs;have g2:(j:Int) < (ys.length:Int):=by omega
     have FI:=hid (yph ys nm j hlt2);generalize ys[j]=y at *;have cY:=hid (cC.o y);have GA:=hid (fun ob:Obj=>aH wr ob none);by_cases e1:y.name=nm
     ·have b1:((bs y.name).toList == (bs nm).toList)=true:=by rw [e1]; simp
      cases e2:Ln.defines y
      ·have E:=hid (show (ys.any fun y=>decide (y.name=nm) && Ln.defines y)=((ys.drop (j+1)).any fun y=>decide (y.name=nm) && Ln.defines y) by rw [iq.o,FI.o,e2]; simp);rw [e2] at cY;clear e1 e2;go_wp2_with fail;refine (cY.o _).mono ?_;rintro e W5 ⟨rfl,h5⟩;have G5:=hid (ya HG2.o (ya (GA.o _) h5));clear h5;go_wp2
       go_roundw
       case rel=>exact ⟨j+1,by omega,by go_num,E.o,G5.o⟩
       case measure=>simp [intOf]; omega
      ·have E:=hid (show Ln.has os nm=true by rw [HF.o,FD.o,iq.o,FI.o,e2,decide_eq_true e1]; simp);rw [e2] at cY;clear e1 e2;go_wp2_with fail;refine (cY.o _).mono ?_;rintro e W5 ⟨rfl,h5⟩;have G5:=hid (ya HG2.o (ya (GA.o _) h5));clear h5;go_wp2;go_ret;exact ⟨yX E.o.symm,ya HG.o G5.o⟩
     ·have b1:((bs y.name).toList == (bs nm).toList)=false:=by rw [qO,qO]; simpa using e1
      have E:=hid (show (ys.any fun y=>decide (y.name=nm) && Ln.defines y)=((ys.drop (j+1)).any fun y=>decide (y.name=nm) && Ln.defines y) by rw [iq.o,FI.o,decide_eq_false e1]; simp);clear e1;go_wp2
      go_roundw
      case rel=>exact ⟨j+1,by omega,by go_num,E.o,ya HG2.o (GA.o _)⟩
      case measure=>simp [intOf]; omega
    ·obtain rfl:j=ys.length:=by omega
     have E:=hid (show (ys.any fun y=>decide (y.name=nm) && Ln.defines y)=false by rw [iq.o,List.drop_length]; rfl);have g3:decide ((ys.length:Int) < (ys.length:Int))=false:=by simp
     go_wp2
     go_roundw
     case rel=>exact ⟨k+1,by omega,by go_num,by rw [HF.o,FD.o,E.o,Bool.false_or],ya HG.o HG2.o⟩
     case measure=>simp [intOf]; omega
  ·obtain rfl:k=bl.length:=by omega
   have E:=hid (show Ln.has os nm=false by rw [HF.o,HL.o,List.drop_length]; rfl);have g3:decide ((bl.length:Int) < (bl.length:Int))=false:=by simp
   go_wp2;go_ret;exact ⟨yX E.o.symm,HG.o⟩
theorem ymt (P:Nat) (ao:Option Addr) (cap:Nat) (bl:List Nat) (os:List Lk.Obj) (og:Nat) (o:Lk.Obj) (w:World) (hp:w.cell? ⟨P,3,none⟩=some (.slice ao bl.length cap)) (h:rD w ao bl os) (ho:yq w og o) (hns:o.syms.length<=65535) :
  Calls Tryz.prog 103 #[.pointer (some ⟨P,0,none⟩),.pointer (some ⟨og,0,none⟩)] w fun e w'=>e = .returned (.bool (Ln.needs os o))/\w.grownBy w' none:=by
 have cD:=hid (fun y W=>Xj y W);have cW:=hid (fun nm W (hg:w.grownBy W none)=>ymO P ao cap bl os nm W (yc hp hg) (h.kept hg));have cH:=hid (fun nm W (hg:w.grownBy W none)=>yos P ao cap bl os nm W (yc hp hg) (h.kept hg));unfold oH at cD;obtain ⟨at_,ct,af,cf,ad,cd,aa,ca,gF,cs,ar,cr,hb,-,-,-,-,q5,-⟩:=ho.open;have S:=hid (yI.aB q5);have k5:=hb.cell 5;simp only [dH,dL,dK] at k5;have ND:=hid (show Ln.needs os o=o.syms.any fun y=>Ln.defines y && (Ln.wants os y.name && !Ln.has os y.name) from rfl);clear h ho hb q5 hp;generalize Ln.needs os o=N at *;generalize o.syms=ys at *;go_enter Tryz.func103,Tryz.ntmps103
 go_wp2
 go_loopw [12] (fun i wr=>∃ j:Nat,j<=ys.length/\i = .int .i64 j/\N=((ys.drop j).any fun y=>Ln.defines y && (Ln.wants os y.name && !Ln.has os y.name))/\w.grownBy wr none) (fun i _=>ys.length - (intOf i).toNat)
 case atStart=>exact ⟨0,Nat.zero_le _,rfl,ND.o,World.grownBy.refl _ _⟩
 case round =>
  obtain ⟨j,hj,rfl,hf2,dN⟩:=hrel;have iq:=hid hf2;have HG2:=hid dN;clear hf2 dN k5;by_cases hlt2:j < ys.length
  ·obtain ⟨sg,hsg,hgs,hcs⟩:=S.o.grown HG2.o (by omega);subst hsg;obtain ⟨q0,q1,q2,q3⟩:=hcs j hlt2;clear hcs;have g2:(j:Int) < (ys.length:Int):=by omega
   have FI:=hid (show N=((Ln.defines ys[j] && (Ln.wants os ys[j].name && !Ln.has os ys[j].name)) || (ys.drop (j+1)).any fun y=>Ln.defines y && (Ln.wants os y.name && !Ln.has os y.name)) by rw [iq.o,jg hlt2,List.any_cons]);generalize ys[j]=y at *;have cY:=hid (cD.o y);have Vx:=hid (cW.o y.name);have Vq:=hid (cH.o y.name);have BX:=hid (ye.new wr #[.string (bs y.name),.int .i64 y.bind,.int .i64 y.ah,.int .i64 y.off] 77);have GA:=hid (aH wr (.cells #[.string (bs y.name),.int .i64 y.bind,.int .i64 y.ah,.int .i64 y.off] 77) none);have GW:=hid (ya HG2.o GA.o);go_wp2_with fail;refine (cY.o _).mono ?_;rintro e W5 ⟨rfl,h5⟩
   have G5:=hid (ya GW.o h5);have B5:=hid (BX.o.grown h5 (by simp));clear h5 cY q0 q1 q2 q3;have x0:W5.cell? ⟨wr.heap.size,0,none⟩=some (.string (bs y.name)):=B5.o.cell 0
   cases e1:Ln.defines y
   ·have E:=hid (show N=((ys.drop (j+1)).any fun y=>Ln.defines y && (Ln.wants os y.name && !Ln.has os y.name)) by rw [FI.o,e1]; simp);clear e1;go_wp2
    go_roundw
    case rel=>exact ⟨j+1,by omega,by go_num,E.o,G5.o⟩
    case measure=>simp [intOf]; omega
   ·have E1:=hid e1;clear e1;go_wp2_with fail;refine (Vx.o _ G5.o).mono ?_;rintro e W6 ⟨rfl,h6⟩;have G6:=hid (ya G5.o h6);have B6:=hid (B5.o.grown h6 (by simp));clear h6 Vx x0;have x0:W6.cell? ⟨wr.heap.size,0,none⟩=some (.string (bs y.name)):=B6.o.cell 0
    cases e2:Ln.wants os y.name
    ·have E:=hid (show N=((ys.drop (j+1)).any fun y=>Ln.defines y && (Ln.wants os y.name && !Ln.has os y.name)) by rw [FI.o,e2]; simp);clear e2;go_wp2
     go_roundw
     case rel=>exact ⟨j+1,by omega,by go_num,E.o,G6.o⟩
     case measure=>simp [intOf]; omega
    ·have E2:=hid e2;clear e2;go_wp2_with fail;refine (Vq.o _ G6.o).mono ?_;rintro e W7 ⟨rfl,h7⟩;have G7:=hid (ya G6.o h7);clear h7 Vq x0
     cases e3:Ln.has os y.name
     ·have E:=hid (show N=true by rw [FI.o,E1.o,E2.o,e3]; simp);clear e3;go_wp2;go_ret;exact ⟨yX E.o.symm,G7.o⟩
     ·have E:=hid (show N=((ys.drop (j+1)).any fun y=>Ln.defines y && (Ln.wants os y.name && !Ln.has os y.name)) by rw [FI.o,e3]; simp);clear e3;go_wp2
      go_roundw
      case rel=>exact ⟨j+1,by omega,by go_num,E.o,G7.o⟩
      case measure=>simp [intOf]; omega
  ·obtain rfl:j=ys.length:=by omega
   have E:=hid (show N=false by rw [iq.o,List.drop_length]; rfl);have g3:decide ((ys.length:Int) < (ys.length:Int))=false:=by simp
   go_wp2;go_ret;exact ⟨yX E.o.symm,HG2.o⟩
theorem ymd (n:List UInt8) (bind:Int):∀ (os:List Lk.Obj) (k i:Nat),(Ln.findAt n bind k os).mod=some i->k<=i/\i < k+os.length:=by
 intro os
 induction os with
 | nil=>intro k i h; cases h
 | cons o os ih =>
  intro k i h;rw [Ln.findAt] at h
  cases hf:Ln.eO n bind o.syms with
  | none =>
   rw [hf] at h
   have:=ih (k+1) i h
   simp only [gL];omega
  | some p =>
   rw [hf] at h;simp only [Option.some.injEq] at h;simp only [gL];omega
theorem Ni (os:List Lk.Obj) (n:List UInt8) (bind:Int) (i:Nat) (h:(Ln.find os n bind).mod=some i):i < os.length:=by
 have:=ymd n bind os 0 i h
 omega
theorem Ki {bl:List Nat} {i:Nat} (h:i < bl.length):kW bl (some i)=some ⟨bl[i],0,none⟩:=by
 unfold kW;rw [Option.bind_some,gy h,Option.map_some]
theorem Rl (P:Nat) (ao:Option Addr) (cap:Nat) (bl:List Nat) (os:List Lk.Obj) (nm:List UInt8) (w:World) (hp:w.cell? ⟨P,3,none⟩=some (.slice ao bl.length cap)) (h:rD w ao bl os) :
  Calls Tryz.prog 44 #[.pointer (some ⟨P,0,none⟩),.string (bs nm)] w fun e w'=>e = .returned (mU bl (Ln.named os nm))/\w.grownBy w' none:=by
 have cF:=hid (fun bind W (hg:w.grownBy W none)=>Yq ao cap bl os nm bind W (h.kept hg));have HP:=hid hp;have hP:=World.block_lt_of_cell? w _ hp;have FL:=hid (fun i (hi:(Ln.find os nm 1).mod=some i)=>show i < bl.length by rw [h.len]; exact Ni os nm 1 i hi);have c1:=hid (cF.o 1);have c2:=hid (cF.o 2);have NM:=hid (show Ln.named os nm=if (Ln.find os nm 1).mod.isSome then Ln.find os nm 1 else Ln.find os nm 2 from rfl);clear hp h cF;generalize Ln.named os nm=N at *;generalize Ln.find os nm 2=F2 at *;generalize Ln.find os nm 1=F1 at *;obtain ⟨m1,s1,o1⟩:=F1;dsimp only at NM FL;have G0:=hid (aH w (.cells #[.pointer none,.int .i64 0,.int .i64 0] 103) none)
 have B0:=hid (ye.new w #[.pointer none,.int .i64 0,.int .i64 0] 103);have c3:=yc HP.o G0.o;unfold mU at c1;dsimp only at c1;go_enter Tryz.func44,Tryz.ntmps44;go_wp2_with fail;refine (c1.o _ G0.o).mono ?_;rintro e W1 ⟨rfl,h1⟩;have G1:=hid (ya G0.o h1);have B1:=hid (B0.o.grown h1 (by simp));clear h1 c1 c3;have hlt:=B1.o.lt;have z0:W1.cell? ⟨w.heap.size,0,none⟩=some (.pointer none):=B1.o.cell 0;have z1:W1.cell? ⟨w.heap.size,1,none⟩=some (.int .i64 0):=B1.o.cell 1;have z2:W1.cell? ⟨w.heap.size,2,none⟩=some (.int .i64 0):=B1.o.cell 2;have f0:=B1.o.free 0;have f1:=B1.o.free 1;have f2:=B1.o.free 2
 cases m1 with
 | some i =>
  have hi:=FL.o i rfl;have PO:=hid (Ki hi);rw [PO.o];generalize bl[i]=bi at *;go_wp2;have F:=(((B1.o.set 0 (.pointer (some ⟨bi,0,none⟩))).set 1 (.int .i64 s1)).set 2 (.int .i64 o1)).grown (aH _ (.cells #[.pointer (some ⟨bi,0,none⟩),.int .i64 s1,.int .i64 o1] 103) none) (by simp);have h0:=F.cell 0;have h1:=F.cell 1;have h2:=F.cell 2;simp only [fu,fC,eX,dH,dL,dK] at h0 h1 h2;refine bodyPost_ret (v:=mU bl ⟨some i,s1,o1⟩) ?_ rfl ⟨by rw [NM.o]; rfl,ya (yx G1.o _ (Nat.le_refl _) _ _ _) (aH _ _ none)⟩;clear F z0 z1 z2 f0 f1 f2;generalize World.alloc _ _=WF at *;simp [results,Tryz.results44,go_sem,mU,PO.o,h0,h1,h2]
 | none =>
  rw [show kW bl none=none from rfl];have c3:=yc HP.o (ya G1.o (aH W1 (.cells #[.pointer none,.int .i64 s1,.int .i64 o1] 103) none));go_wp2_with fail;refine (c2.o _ (ya G1.o (aH _ _ none))).mono ?_;rintro e W2 ⟨rfl,h2⟩;have G2:=hid (ya (ya G1.o (aH _ _ none)) h2);have B2:=hid ((B1.o.grown (aH _ _ none) (by simp)).grown h2 (by simp));clear h2 c2 c3 z0 z1 z2 f0 f1 f2;have z0:W2.cell? ⟨w.heap.size,0,none⟩=some (.pointer none):=B2.o.cell 0;have z1:W2.cell? ⟨w.heap.size,1,none⟩=some (.int .i64 0):=B2.o.cell 1;have z2:W2.cell? ⟨w.heap.size,2,none⟩=some (.int .i64 0):=B2.o.cell 2;have f0:=B2.o.free 0
  have f1:=B2.o.free 1;have f2:=B2.o.free 2;unfold mU;obtain ⟨m2,s2,o2⟩:=F2;dsimp only;generalize hq:kW bl m2=q at *;have HQ:=hid hq;clear hq;go_wp2;have F:=((B2.o.set 0 (.pointer q)).set 1 (.int .i64 s2)).set 2 (.int .i64 o2);have h0:=F.cell 0;have h1:=F.cell 1;have h2:=F.cell 2;simp only [fu,fC,eX,dH,dL,dK] at h0 h1 h2;refine bodyPost_ret (v:=mU bl ⟨m2,s2,o2⟩) ?_ rfl ⟨by rw [NM.o]; rfl,yx G2.o _ (Nat.le_refl _) _ _ _⟩;clear F z0 z1 z2 f0 f1 f2;generalize World.setCell _ _ _=WF at *;simp [results,Tryz.results44,go_sem,mU,HQ.o,h0,h1,h2]
theorem ykf (P:Nat) (ao:Option Addr) (cap:Nat) (bl:List Nat) (os:List Lk.Obj) (i:Nat) (hi:i < bl.length) (y:Lk.Sym) (w:World) (hp:w.cell? ⟨P,3,none⟩=some (.slice ao bl.length cap)) (h:rD w ao bl os) :
  Calls Tryz.prog 43 #[.pointer (some ⟨P,0,none⟩),.pointer (some ⟨bl[i],0,none⟩),oH y] w fun e w'=>e = .returned (mU bl (Ln.meaning os i y))/\w.grownBy w' none:=by
 obtain ⟨n,b,s,o⟩:=y;have cN:=hid (fun W (hg:w.grownBy W none)=>Rl P ao cap bl os n W (yc hp hg) (h.kept hg));have PO:=hid (Ki hi);have SZ:=hid (show (w.alloc (.cells #[.string (bs n),.int .i64 b,.int .i64 s,.int .i64 o] 77)).heap.size=w.heap.size+1 from Array.size_push _);have A0:=hid (aH w (.cells #[.string (bs n),.int .i64 b,.int .i64 s,.int .i64 o] 77) none);have A1:=hid (aH (w.alloc (.cells #[.string (bs n),.int .i64 b,.int .i64 s,.int .i64 o] 77)) (.cells #[.pointer none,.int .i64 0,.int .i64 0] 103) none);have B0:=hid (ye.new (w.alloc (.cells #[.string (bs n),.int .i64 b,.int .i64 s,.int .i64 o] 77)) #[.pointer none,.int .i64 0,.int .i64 0] 103)
 rw [SZ.o] at B0;clear h hp;unfold oH;dsimp only;by_cases hb:b=0
 ·subst hb;have NM:=hid (show Ln.meaning os i ⟨n,0,s,o⟩=⟨some i,s,o⟩ from rfl);go_enter Tryz.func43,Tryz.ntmps43;go_wp2;refine bodyPost_ret (v:=mU bl ⟨some i,s,o⟩) ?_ rfl ⟨by rw [NM.o],ya (aH _ _ none) (aH _ _ none)⟩;simp [results,Tryz.results43,go_sem,mU,PO.o]
 ·have NM:=hid (show Ln.meaning os i ⟨n,b,s,o⟩=Ln.named os n from if_neg hb);have d1:(b == 0)=false:=by simpa using hb
  generalize Ln.named os n=N at *;go_enter Tryz.func43,Tryz.ntmps43;go_wp2_with fail;refine (cN.o _ (ya A0.o A1.o)).mono ?_;rintro e W2 ⟨rfl,h2⟩;have G2:=hid (ya (ya A0.o A1.o) h2);have B2:=hid (B0.o.grown h2 (by simp));clear h2 cN;have z0:W2.cell? ⟨w.heap.size+1,0,none⟩=some (.pointer none):=B2.o.cell 0;have z1:W2.cell? ⟨w.heap.size+1,1,none⟩=some (.int .i64 0):=B2.o.cell 1;have z2:W2.cell? ⟨w.heap.size+1,2,none⟩=some (.int .i64 0):=B2.o.cell 2;have f0:=B2.o.free 0;have f1:=B2.o.free 1;have f2:=B2.o.free 2;unfold mU;obtain ⟨m2,s2,o2⟩:=N;dsimp only;generalize hq:kW bl m2=q at *;have HQ:=hid hq
  clear hq;go_wp2;have F:=((B2.o.set 0 (.pointer q)).set 1 (.int .i64 s2)).set 2 (.int .i64 o2);have h0:=F.cell 0;have h1:=F.cell 1;have h2:=F.cell 2;simp only [fu,fC,eX,dH,dL,dK] at h0 h1 h2;refine bodyPost_ret (v:=mU bl ⟨m2,s2,o2⟩) ?_ rfl ⟨by rw [NM.o],yx G2.o _ (by omega) _ _ _⟩;clear F z0 z1 z2 f0 f1 f2;generalize World.setCell _ _ _=WF at *;simp [results,Tryz.results43,go_sem,mU,HQ.o,h0,h1,h2]
end Go.Proofs.YtelehpmjhjljgaaGreatDoor
