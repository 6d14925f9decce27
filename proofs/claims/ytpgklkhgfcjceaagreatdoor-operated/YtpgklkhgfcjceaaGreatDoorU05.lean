
import Derived.Test.YtpgklkhgfcjceaaGreatDoorU04
import Derived.Laws.BitsAllLaws
import Derived.WalkKit
set_option maxHeartbeats 16000000
set_option maxRecDepth 100000
namespace Go.Proofs.YtpgklkhgfcjceaaGreatDoor
open Go.RowKit
def FP (r:Lk.Rel):Prop:=((r.ah=1\/r.ah=2)/\1<=r.kind/\r.kind<=6)\/(r.ah=3/\r.kind=1)
def sP (r:Lk.Rel):Prop:=if r.kind=1\/r.kind=5 then -2048<=r.addend/\r.addend<=2047 else if r.kind=6 then r.addend=4\/r.addend=12 else r.addend=0
def Lx (o:Lk.Obj) (r:Lk.Rel):Prop:=if r.kind=6 then r.sym=0 else 0<=r.sym/\r.sym < o.syms.length
def mX (r:Lk.Rel):Int:=if r.kind=4\/r.kind=5 then 2 else if r.kind=6 then r.addend / 4 else 1
def fT (r:Lk.Rel):Value:=.agg #[.int .i64 r.ah,.int .i64 r.off,.int .i64 r.kind,.int .i64 r.sym,.int .i64 r.addend]
theorem EM {r:Lk.Rel} (h:sP r):1<=mX r/\mX r<=3:=by
 unfold sP at h;unfold mX;split
 ·omega
 ·split
  ·rename_i h1 h2;rw [if_neg (by omega),if_pos h2] at h;omega
  ·omega
theorem yjk (r:Lk.Rel) (w:World) :
  Calls Tryz.prog 203 #[fT r] w fun e w'=>yg e (FP r)/\w.grownBy w' none:=by
 have G:=hid (fun o:Obj=>aH w o none);have HQ:=hid (show FP r↔((r.ah=1\/r.ah=2)/\1<=r.kind/\r.kind<=6)\/(r.ah=3/\r.kind=1) from Iff.rfl);unfold fT;generalize FP r=Q at *;obtain ⟨ah,off,kind,sym,addend⟩:=r;simp only at *;by_cases e1:ah=1
 ·subst e1;by_cases c1:1<=kind
  ·have d1:decide (1<=kind)=true:=by simpa using c1
   go_enter Tryz.func203,Tryz.ntmps203;go_wp2;go_ret;exact ⟨yg.of (by rw [HQ.o,decide_eq_true_iff]; simp; omega),G.o _⟩
  ·have d1:decide (1<=kind)=false:=by simp; omega
   go_enter Tryz.func203,Tryz.ntmps203;go_wp2;go_ret;exact ⟨yg.no (by rw [HQ.o]; omega),G.o _⟩
 have d1:(ah == 1)=false:=beq_eq_false_iff_ne.2 e1;by_cases e2:ah=2
 ·subst e2;clear e1;by_cases c1:1<=kind
  ·have d1:decide (1<=kind)=true:=by simpa using c1
   go_enter Tryz.func203,Tryz.ntmps203;go_wp2;go_ret;exact ⟨yg.of (by rw [HQ.o,decide_eq_true_iff]; simp; omega),G.o _⟩
  ·have d1:decide (1<=kind)=false:=by simp; omega
   go_enter Tryz.func203,Tryz.ntmps203;go_wp2;go_ret;exact ⟨yg.no (by rw [HQ.o]; omega),G.o _⟩
 have d2:(ah == 2)=false:=beq_eq_false_iff_ne.2 e2;by_cases e3:ah=3
 ·subst e3;clear e1 e2;go_enter Tryz.func203,Tryz.ntmps203;go_wp2;go_ret;exact ⟨yg.of (by rw [HQ.o,beq_iff_eq]; simp),G.o _⟩
 have d3:(ah == 3)=false:=beq_eq_false_iff_ne.2 e3;have E:=hid (⟨e1,e2,e3⟩:ah≠1/\ah≠2/\ah≠3);clear e1 e2 e3;go_enter Tryz.func203,Tryz.ntmps203;go_wp2;go_ret;exact ⟨yg.no (by rw [HQ.o]; have:=E.o; omega),G.o _⟩
theorem yhC (r:Lk.Rel) (w:World) :
  Calls Tryz.prog 204 #[fT r] w fun e w'=>yg e (sP r)/\w.grownBy w' none:=by
 have G:=hid (fun o:Obj=>aH w o none);have HQ:=hid (show sP r↔if r.kind=1\/r.kind=5 then -2048<=r.addend/\r.addend<=2047 else if r.kind=6 then r.addend=4\/r.addend=12 else r.addend=0 from Iff.rfl);unfold fT;generalize sP r=Q at *;obtain ⟨ah,off,kind,sym,addend⟩:=r;simp only at *;by_cases e1:kind=1\/kind=5
 ·have pO:=hid (show Q↔-2048<=addend/\addend<=2047 from by rw [HQ.o,if_pos e1]);clear HQ;by_cases c1:-2048<=addend
  ·have d1:decide (-2048<=addend)=true:=by simpa using c1
   rcases e1 with rfl | rfl
   all_goals
    go_enter Tryz.func204,Tryz.ntmps204;go_wp2;go_ret;exact ⟨yg.of (by rw [pO.o,decide_eq_true_iff]; omega),G.o _⟩
  ·have d1:decide (-2048<=addend)=false:=by simp; omega
   rcases e1 with rfl | rfl
   all_goals
    go_enter Tryz.func204,Tryz.ntmps204;go_wp2;go_ret;exact ⟨yg.no (by rw [pO.o]; omega),G.o _⟩
 by_cases e6:kind=6
 ·subst e6;have pO:=hid (show Q↔addend=4\/addend=12 from by rw [HQ.o,if_neg (by omega),if_pos rfl]);clear HQ e1;by_cases c1:addend=4
  ·subst c1;go_enter Tryz.func204,Tryz.ntmps204;go_wp2;go_ret;exact ⟨yg.yes (by rw [pO.o]; simp),G.o _⟩
  ·have d1:(addend == 4)=false:=beq_eq_false_iff_ne.2 c1;have C1:=hid c1;clear c1;go_enter Tryz.func204,Tryz.ntmps204;go_wp2;go_ret;exact ⟨yg.of (by rw [pO.o,beq_iff_eq]; have:=C1.o; omega),G.o _⟩
 ·have pO:=hid (show Q↔addend=0 from by rw [HQ.o,if_neg e1,if_neg e6]);have d1:(kind == 1)=false:=beq_eq_false_iff_ne.2 (by omega);have d5:(kind == 5)=false:=beq_eq_false_iff_ne.2 (by omega);have d6:(kind == 6)=false:=beq_eq_false_iff_ne.2 (by omega);clear HQ e1 e6;go_enter Tryz.func204,Tryz.ntmps204;go_wp2;go_ret;exact ⟨yg.of (by rw [pO.o,beq_iff_eq]),G.o _⟩
theorem Pk (r:Lk.Rel) (w:World) (h:r.kind=6->r.addend=4\/r.addend=12) :
  Calls Tryz.prog 209 #[fT r] w fun e w'=>e = .returned (.int .i64 (mX r))/\w.grownBy w' none:=by
 have G:=hid (fun o:Obj=>aH w o none);unfold fT mX;obtain ⟨ah,off,kind,sym,addend⟩:=r;simp only at *;by_cases e4:kind=4
 ·subst e4;go_enter Tryz.func209,Tryz.ntmps209;go_wp2;go_ret;exact ⟨by simp,G.o _⟩
 by_cases e5:kind=5
 ·subst e5;clear e4;go_enter Tryz.func209,Tryz.ntmps209;go_wp2;go_ret;exact ⟨by simp,G.o _⟩
 by_cases e6:kind=6
 ·subst e6;have ha:=h rfl;clear e4 e5 h;rcases ha with rfl | rfl
  all_goals
   go_enter Tryz.func209,Tryz.ntmps209;go_wp2;go_ret;exact ⟨by simp,G.o _⟩
 have d4:(kind == 4)=false:=beq_eq_false_iff_ne.2 e4;have d5:(kind == 5)=false:=beq_eq_false_iff_ne.2 e5;have d6:(kind == 6)=false:=beq_eq_false_iff_ne.2 e6;rw [if_neg (by omega),if_neg e6];clear e4 e5 e6 h;go_enter Tryz.func209,Tryz.ntmps209;go_wp2;go_ret;exact ⟨rfl,G.o _⟩
theorem sP.six {r:Lk.Rel} (h:sP r) (h6:r.kind=6):r.addend=4\/r.addend=12:=by
 unfold sP at h;rw [if_neg (by omega),if_pos h6] at h;exact h
theorem ykW (g:Nat) (o:Lk.Obj) (r:Lk.Rel) (w:World) (h:yv w g o) (hn:wU o) :
  Calls Tryz.prog 205 #[.pointer (some ⟨g,0,none⟩),fT r] w fun e w'=>yg e (Lx o r)/\w.grownBy w' none:=by
 have G:=hid (fun o:Obj=>aH w o none);have HQ:=hid (show Lx o r↔if r.kind=6 then r.sym=0 else 0<=r.sym/\r.sym < o.syms.length from Iff.rfl);obtain ⟨at_,ct,af,cf,ad,cd,aa,ca,gJ,cs,ar,cr,hb,-⟩:=h.open;have k5:=fun ob:Obj=>(hb.grown (aH w ob none) (by simp)).cell 5
 have hns:=hn.2.2.2.2.1;clear h hb hn;unfold fT;generalize Lx o r=Q at *;generalize o.syms.length=n at *;obtain ⟨ah,off,kind,sym,addend⟩:=r;simp only at *;have k5':=k5 (.cells #[.int .i64 ah,.int .i64 off,.int .i64 kind,.int .i64 sym,.int .i64 addend] 102);clear k5;by_cases e6:kind=6
 ·subst e6;have pO:=hid (show Q↔sym=0 from by rw [HQ.o,if_pos rfl]);clear HQ;go_enter Tryz.func205,Tryz.ntmps205;go_wp2;go_ret;exact ⟨yg.of (by rw [pO.o,beq_iff_eq]),G.o _⟩
 have pO:=hid (show Q↔0<=sym/\sym < n from by rw [HQ.o,if_neg e6]);have d6:(kind == 6)=false:=beq_eq_false_iff_ne.2 e6;clear HQ e6;by_cases c1:0<=sym
 ·have d1:decide (0<=sym)=true:=by simpa using c1
  go_enter Tryz.func205,Tryz.ntmps205;go_wp2
  go_quiet (fail)
  go_wp2;go_ret;exact ⟨yg.of (by rw [pO.o,decide_eq_true_iff]; omega),ye (G.o _) _⟩
 ·have d1:decide (0<=sym)=false:=by simp; omega
  go_enter Tryz.func205,Tryz.ntmps205;go_wp2
  go_quiet (fail)
  go_wp2;go_ret;exact ⟨yg.no (by rw [pO.o]; omega),ye (G.o _) _⟩
def zA (x:Int):Int:=if x=2 then 4 else if x=3 then 8 else 16
theorem Yo (g:Nat) (o:Lk.Obj) (ah:Nat) (w:World) (h:yv w g o) (hb4:Co o.align) (h1:1<=ah) (h3:ah<=3) :
  Calls Tryz.prog 106 #[.pointer (some ⟨g,0,none⟩),.int .i64 ah] w fun e w'=>e = .returned (.int .i64 (zA (o.align[ah - 1]'(by have:=hb4.1; omega))))/\w'=w:=by
 obtain ⟨at_,ct,af,cf,ad,cd,aa,ca,gJ,cs,ar,cr,hb,-,-,-,q4,-⟩:=h.open;have hl:=hb4.1;have hr:=hb4.2 (ah - 1) (by omega);obtain ⟨ga,off,rfl,hc⟩:=yC.aU q4 (by omega);have hck:=hc (ah - 1) (by omega);have k4:=hb.cell 4;clear h hb hc q4;have g1:(1:Int)<=(ah:Int):=by omega
 have g2:(ah:Int)<=3:=by omega
 have HL:=hid hl;have hl4:4<=o.align.length:=by omega
 have hl5:o.align.length<=4:=by omega
 have hpf:ah - 1 < o.align.length:=by omega
 have hk:w.cell? ⟨ga,off+(ah - 1),none⟩=some (.int .i64 (o.align[ah - 1]'hpf)):=hck;clear hck;show Calls _ _ _ _ fun e w'=>e = .returned (.int .i64 (zA (o.align[ah - 1]'hpf)))/\w'=w
 replace hr:2<=o.align[ah - 1]'hpf/\o.align[ah - 1]'hpf<=4:=hr;generalize o.align[ah - 1]'hpf=x at *;generalize o.align.length=n at *;rcases (show x=2\/x=3\/x=4 from by omega) with rfl | rfl | rfl
 all_goals
  clear hr HL hb4;go_enter Tryz.func106,Tryz.ntmps106;go_wp2;go_ret;exact ⟨by simp [zA],rfl⟩
def IK (a r:Lk.Rel):Prop:=if r.ah=a.ah then a.off+4 * mX a<=r.off else a.ah < r.ah
theorem yln (a r:Lk.Rel) (w:World) (h:sP a) (h0:0<=a.off) (h1:a.off<=1048576) :
  Calls Tryz.prog 162 #[fT a,fT r] w fun e w'=>yg e (IK a r)/\w.grownBy w' none:=by
 have hsp:=EM h;have cS:=hid (fun W=>Pk a W h.six);have HQ:=hid (show IK a r↔if r.ah=a.ah then a.off+4 * mX a<=r.off else a.ah < r.ah from Iff.rfl);have G1:=hid (fun o:Obj=>aH w o none);have G2:=hid (fun o o':Obj=>aH (w.alloc o) o' none);generalize IK a r=Q at *;generalize mX a=sp at *;obtain ⟨gJ,ao,ak,ay,aa⟩:=a;obtain ⟨rs,ro,rk,ry,ra⟩:=r;unfold fT at *;simp only at *;clear h;by_cases e1:rs=gJ
 ·subst e1;have pO:=hid (show Q↔ao+4 * sp<=ro from by rw [HQ.o,if_pos rfl]);clear HQ;have d1:(rs == rs)=true:=by simp
  go_enter Tryz.func162,Tryz.ntmps162;go_wp2;have B1:=(yc.new w #[.int .i64 rs,.int .i64 ao,.int .i64 ak,.int .i64 ay,.int .i64 aa] 102).grown (yi (aH _ (.cells #[.int .i64 rs,.int .i64 ro,.int .i64 rk,.int .i64 ry,.int .i64 ra] 102) none)) (by simp);have c0:=hid (B1.cell 0);have c1:=hid (B1.cell 1);have c2:=hid (B1.cell 2);have c3:=hid (B1.cell 3);have c4:=hid (B1.cell 4);have Xv:(((w.alloc (.cells #[.int .i64 rs,.int .i64 ao,.int .i64 ak,.int .i64 ay,.int .i64 aa] 102)).alloc (.cells #[.int .i64 rs,.int .i64 ro,.int .i64 rk,.int .i64 ry,.int .i64 ra] 102)).drew).cell? ⟨w.heap.size+1,1,none⟩=some (.int .i64 ro):=by simp
  have c5:=hid Xv;clear Xv;clear B1
  go_region_held3 (fun w'=>w'.cell? ⟨w.heap.size,0,none⟩=some (.int .i64 rs)/\w'.cell? ⟨w.heap.size,1,none⟩=some (.int .i64 ao)/\w'.cell? ⟨w.heap.size,2,none⟩=some (.int .i64 ak)/\w'.cell? ⟨w.heap.size,3,none⟩=some (.int .i64 ay)/\w'.cell? ⟨w.heap.size,4,none⟩=some (.int .i64 aa)/\w'.cell? ⟨w.heap.size+1,1,none⟩=some (.int .i64 ro))
   (go_keep)
   (first | (go_at_call 209; refine (cS.o _).mono ?_; rintro e w' ⟨rfl,hq⟩; have s0:=yd c0.o hq; have s1:=yd c1.o hq; have s2:=yd c2.o hq; have s3:=yd c3.o hq; have s4:=yd c4.o hq; have s5:=yd c5.o hq))
  go_wp2;go_ret;exact ⟨yg.of (by rw [pO.o,decide_eq_true_iff,IntWalk.i64_in (4 * sp) ⟨by omega,by omega⟩,IntWalk.i64_in _ ⟨by omega,by omega⟩]),ya (ya (G1.o _) (yi (G2.o _ _))) hq⟩
 ·have pO:=hid (show Q↔gJ < rs from by rw [HQ.o,if_neg e1]);have d1:(rs == gJ)=false:=beq_eq_false_iff_ne.2 e1;clear HQ e1;go_enter Tryz.func162,Tryz.ntmps162;go_wp2;go_ret;exact ⟨yg.of (by rw [pO.o,decide_eq_true_iff]),ya (G1.o _) (G2.o _ _)⟩
def ET (o:Lk.Obj) (r:Lk.Rel):Prop:=0<=r.off/\r.off % 4=0/\r.off / 4+mX r<=(yw o r.ah).length
def yR (o:Lk.Obj) (r:Lk.Rel):List Int:=((yw o r.ah).drop (r.off / 4).toNat).take (mX r).toNat
theorem UJ (g:Nat) (o:Lk.Obj) (r:Lk.Rel) (w:World) (h:yv w g o) (hn:wU o) (ha:sP r) (hab:ET o r) :
  Calls Tryz.prog 207 #[.pointer (some ⟨g,0,none⟩),fT r] w fun e w'=>∃ ao cap,e = .returned (.slice ao (mX r).toNat cap)/\yC w' ao (yR o r)/\w.grownBy w' none:=by
 obtain ⟨b1,b2,b3⟩:=hab;have hsp:=EM ha;have cS:=hid (fun W=>Pk r W ha.six);have cW:=hid (fun W (hW:yv W g o)=>QK g o r.ah W hW);have hsm:=K9 hn r.ah;have G:=hid (fun ob:Obj=>aH w ob none);have H:=hid h;unfold yR;clear h hn ha;generalize mX r=sp at *;obtain ⟨n,rfl⟩:=Int.eq_ofNat_of_zero_le (show 0<=sp from by omega);generalize yw o r.ah=ws at *;obtain ⟨ah,off,kind,sym,addend⟩:=r;unfold fT at *;simp only at *;obtain ⟨k,hk⟩:∃ k:Nat,off=4 * (k:Int):=⟨(off / 4).toNat,by omega⟩
 have e1:off / 4=(k:Int):=by omega
 have e2:(off / 4).toNat=k:=by omega
 rw [e2,Int.toNat_natCast];rw [e1] at b3;have HE1:=hid e1;clear e1 e2;subst hk;clear b1 b2;have hkn:k+n<=ws.length:=by omega
 have hn1:1<=n:=by omega
 have hn3:n<=3:=by omega
 clear b3 hsp;go_enter Tryz.func207,Tryz.ntmps207;go_wp2_with fail;refine (cW.o _ (H.o.kept (G.o _))).mono ?_;rintro e w1 ⟨ao,cap,rfl,⟨hI,hc1,hc2⟩,hw1⟩;have B:=yc.new w #[.int .i64 ah,.int .i64 (4 * (k:Int)),.int .i64 kind,.int .i64 sym,.int .i64 addend] 102;have GG:=G.o (.cells #[.int .i64 ah,.int .i64 (4 * (k:Int)),.int .i64 kind,.int .i64 sym,.int .i64 addend] 102);rw [<- hw1] at hI B GG;clear hw1;unfold maxLen at hc2;obtain ⟨g',off',rfl,hcell⟩:=hI (by omega);have HI:=hid hcell;have k0:=B.cell 0;have k1:=B.cell 1;have k2:=B.cell 2;have k3:=B.cell 3;have k4:=B.cell 4;have HB:=hid B;have JI:=hid GG
 clear B GG hI hcell;go_wp2_with fail;refine (cS.o _).mono ?_;rintro e w2 ⟨rfl,hq⟩;have m1:=yd k1 hq;have HQ:=hid hq;clear k0 k1 k2 k3 k4 hq HB;go_wp2;go_ret;refine ⟨some ⟨g',off'+k,none⟩,cap - k,?_,?_,ya JI.o HQ.o⟩
 ·show Ending.returned (.slice (some ⟨g',off'+k,none⟩) (k+n - k) (cap - k))=_;rw [Nat.add_sub_cancel_left]
 ·intro _;refine ⟨g',off'+k,rfl,fun i hi=>?_⟩;have hi':k+i < ws.length:=by simp at hi; omega
  have:=yd (HI.o (k+i) hi') HQ.o
  rw [Nat.add_assoc,this];simp
theorem Yz (g:Nat) (o:Lk.Obj) (r:Lk.Rel) (w:World) (h:yv w g o) (hn:wU o) (ha:sP r) (hab:¬ ET o r) (hr:r.off<=9223372036854775807) :
  Calls Tryz.prog 207 #[.pointer (some ⟨g,0,none⟩),fT r] w fun e w'=>e = .returned (.slice none 0 0)/\w.grownBy w' none:=by
 have hsp:=EM ha;have cS:=hid (fun W=>Pk r W ha.six);have cW:=hid (fun W (hW:yv W g o)=>QK g o r.ah W hW);have hsm:=K9 hn r.ah;have G:=hid (fun ob:Obj=>aH w ob none);have H:=hid h;unfold ET at hab;clear h hn ha;generalize mX r=sp at *;generalize yw o r.ah=ws at *;obtain ⟨ah,off,kind,sym,addend⟩:=r;unfold fT at *;simp only at *;have D1:decide (sp < 1)=false:=by simp; omega
 go_enter Tryz.func207,Tryz.ntmps207;go_wp2_with fail;refine (cW.o _ (H.o.kept (G.o _))).mono ?_;rintro e w1 ⟨ao,cap,rfl,-,hw1⟩;have B:=yc.new w #[.int .i64 ah,.int .i64 off,.int .i64 kind,.int .i64 sym,.int .i64 addend] 102;have GG:=G.o (.cells #[.int .i64 ah,.int .i64 off,.int .i64 kind,.int .i64 sym,.int .i64 addend] 102);rw [<- hw1] at B GG;clear hw1;have k0:=B.cell 0;have k1:=B.cell 1;have k2:=B.cell 2;have k3:=B.cell 3;have k4:=B.cell 4;have JI:=hid GG;clear B GG;go_wp2_with fail;refine (cS.o _).mono ?_;rintro e w2 ⟨rfl,hq⟩;have m1:=yd k1 hq;have HQ:=hid hq;clear k0 k1 k2 k3 k4 hq;by_cases b1:off < 0
 ·have d1:decide (off < 0)=true:=by simpa using b1
  clear hab;go_wp2;go_ret;exact ⟨rfl,ya JI.o HQ.o⟩
 have b1':0<=off:=by omega
 have d1:decide (off < 0)=false:=by simp; omega
 by_cases b2:off % 4=0
 ·have d2:(off % 4 == 0)=true:=by simpa using b2
  have b3:(ws.length:Int) - sp < off / 4:=by omega
  clear hab b2;go_wp2;go_ret;exact ⟨rfl,ya JI.o HQ.o⟩
 ·have d2:(off % 4 == 0)=false:=by simpa using b2
  clear hab b2;go_wp2;go_ret;exact ⟨rfl,ya JI.o HQ.o⟩
def ME (o:Lk.Obj) (r:Lk.Rel):Prop:=∃ i,∃ h:i < o.syms.length,o.syms[i].ah=r.ah/\r.off < o.syms[i].off/\o.syms[i].off < r.off+4 * mX r
theorem Yl (g:Nat) (o:Lk.Obj) (r:Lk.Rel) (w:World) (h:yv w g o) (hn:wU o) (ha:sP r) (h0:0<=r.off) (h1:r.off<=1048576) :
  Calls Tryz.prog 208 #[.pointer (some ⟨g,0,none⟩),fT r] w fun e w'=>yg e (ME o r)/\w.grownBy w' none:=by
 have hsp:=EM ha;have cS:=hid (fun W=>Pk r W ha.six);obtain ⟨at_,ct,af,cf,ad,cd,aa,ca,gJ,cs,ar,cr,hb,-,-,-,-,q5,-⟩:=h.open;have S:=hid (oO.aU q5);have HB:=hid hb;have hns:=hn.2.2.2.2.1;have G:=hid (fun ob:Obj=>aH w ob none);have HQ:=hid (show ME o r↔∃ i,∃ h:i < o.syms.length,o.syms[i].ah=r.ah/\r.off < o.syms[i].off/\o.syms[i].off < r.off+4 * mX r from Iff.rfl);clear h hb hn ha q5;generalize ME o r=Q at *;generalize mX r=sp at *;generalize o.syms=ys at *;obtain ⟨ah,off,kind,sym,addend⟩:=r;unfold fT at *;simp only at *;have B:=yc.new w #[.int .i64 ah,.int .i64 off,.int .i64 kind,.int .i64 sym,.int .i64 addend] 102
 have c0:=hid (show (w.alloc (.cells #[.int .i64 ah,.int .i64 off,.int .i64 kind,.int .i64 sym,.int .i64 addend] 102)).drew.cell? ⟨w.heap.size,0,none⟩=some (.int .i64 ah) from B.cell 0);have c1:=hid (show (w.alloc (.cells #[.int .i64 ah,.int .i64 off,.int .i64 kind,.int .i64 sym,.int .i64 addend] 102)).drew.cell? ⟨w.heap.size,1,none⟩=some (.int .i64 off) from B.cell 1);have c2:=hid (show (w.alloc (.cells #[.int .i64 ah,.int .i64 off,.int .i64 kind,.int .i64 sym,.int .i64 addend] 102)).drew.cell? ⟨w.heap.size,2,none⟩=some (.int .i64 kind) from B.cell 2);have c3:=hid (show (w.alloc (.cells #[.int .i64 ah,.int .i64 off,.int .i64 kind,.int .i64 sym,.int .i64 addend] 102)).drew.cell? ⟨w.heap.size,3,none⟩=some (.int .i64 sym) from B.cell 3)
 have c4:=hid (show (w.alloc (.cells #[.int .i64 ah,.int .i64 off,.int .i64 kind,.int .i64 sym,.int .i64 addend] 102)).drew.cell? ⟨w.heap.size,4,none⟩=some (.int .i64 addend) from B.cell 4);have oN:=hid B;clear B;have hw4:IntKind.i64.wrap (4 * sp)=4 * sp:=IntWalk.i64_in _ ⟨by omega,by omega⟩;have hw5:IntKind.i64.wrap (off+4 * sp)=off+4 * sp:=IntWalk.i64_in _ ⟨by omega,by omega⟩;go_enter Tryz.func208,Tryz.ntmps208;go_wp2
 go_region_held3 (fun w'=>w'.cell? ⟨w.heap.size,0,none⟩=some (.int .i64 ah)/\w'.cell? ⟨w.heap.size,1,none⟩=some (.int .i64 off)/\w'.cell? ⟨w.heap.size,2,none⟩=some (.int .i64 kind)/\w'.cell? ⟨w.heap.size,3,none⟩=some (.int .i64 sym)/\w'.cell? ⟨w.heap.size,4,none⟩=some (.int .i64 addend))
  (go_keep)
  (first | (go_at_call 209; refine (cS.o _).mono ?_; rintro e w' ⟨rfl,hq⟩; have s0:=yd c0.o hq; have s1:=yd c1.o hq; have s2:=yd c2.o hq; have s3:=yd c3.o hq; have s4:=yd c4.o hq))
 have GW:=hid (ya (yi (G.o (.cells #[.int .i64 ah,.int .i64 off,.int .i64 kind,.int .i64 sym,.int .i64 addend] 102))) hq);have k5:=(HB.o.grown GW.o (by simp)).cell 5;have HR:=hid (oN.o.grown (ya (yi (World.grownBy.refl _ _)) hq) (by simp));clear hq s0 s1 s2 s3 s4 hw4 hw5 c0 c1 c2 c3 c4;go_wp2
 go_loopw [19] (fun i wr=>∃ k:Nat,k<=ys.length/\i = .int .i64 k/\(∀ j (hj:j < ys.length),j < k->¬ (ys[j].ah=ah/\off < ys[j].off/\ys[j].off < off+4 * sp))/\w'.grownBy wr none) (fun i _=>ys.length - (intOf i).toNat)
 case atStart=>exact ⟨0,Nat.zero_le _,rfl,fun j _ hj=>absurd hj (Nat.not_lt_zero j),World.grownBy.refl _ _⟩
 case round =>
  obtain ⟨k,hk,rfl,hall,hgr⟩:=hrel;have HA:=hid hall;have HG:=hid hgr;clear hall hgr;by_cases hlt:k < ys.length
  ·obtain ⟨sg,hao,hgs,hc⟩:=(S.o.grown GW.o).grown HG.o (by omega);subst hao;obtain ⟨q0,q1,q2,q3⟩:=hc k hlt;have RB:=HR.o.grown HG.o (by simp);have hne:=RB.lt;have r0:=RB.cell 0;have r1:=RB.cell 1;have hnn:w.heap.size≠wr.heap.size:=by omega
   clear hc RB;have GA:=hid (fun ob:Obj=>aH wr ob none);by_cases e1:ys[k].ah=ah
   ·have d1:(ys[k].ah == ah)=true:=beq_iff_eq.2 e1;by_cases e2:off < ys[k].off
    ·have d2:decide (off < ys[k].off)=true:=by simpa using e2
     by_cases e3:ys[k].off < off+4 * sp
     ·have d3:decide (ys[k].off < off+4 * sp)=true:=by simpa using e3
      have N:=hid (show Q from HQ.o.2 ⟨k,hlt,e1,e2,e3⟩);clear e1;go_wp2;go_ret;exact ⟨yg.yes N.o,ya (ya GW.o HG.o) (GA.o _)⟩
     ·have d3:decide (ys[k].off < off+4 * sp)=false:=by simp; omega
      have N:=hid (show ¬ (ys[k].ah=ah/\off < ys[k].off/\ys[k].off < off+4 * sp) from fun h=>e3 h.2.2);clear e1 e3;go_wp2
      go_roundw
      case rel=>exact ⟨k+1,by omega,by go_num,fun j hj hjk=>(Nat.lt_succ_iff_lt_or_eq.1 hjk).elim (fun h=>HA.o j hj h) (fun h=>by subst h; exact N.o),ya HG.o (GA.o _)⟩
      case measure=>simp [intOf]; omega
    ·have d2:decide (off < ys[k].off)=false:=by simp; omega
     have N:=hid (show ¬ (ys[k].ah=ah/\off < ys[k].off/\ys[k].off < off+4 * sp) from fun h=>e2 h.2.1);clear e1 e2;go_wp2
     go_roundw
     case rel=>exact ⟨k+1,by omega,by go_num,fun j hj hjk=>(Nat.lt_succ_iff_lt_or_eq.1 hjk).elim (fun h=>HA.o j hj h) (fun h=>by subst h; exact N.o),ya HG.o (GA.o _)⟩
     case measure=>simp [intOf]; omega
   ·have d1:(ys[k].ah == ah)=false:=beq_eq_false_iff_ne.2 e1;have N:=hid (show ¬ (ys[k].ah=ah/\off < ys[k].off/\ys[k].off < off+4 * sp) from fun h=>e1 h.1);clear e1;go_wp2
    go_roundw
    case rel=>exact ⟨k+1,by omega,by go_num,fun j hj hjk=>(Nat.lt_succ_iff_lt_or_eq.1 hjk).elim (fun h=>HA.o j hj h) (fun h=>by subst h; exact N.o),ya HG.o (GA.o _)⟩
    case measure=>simp [intOf]; omega
  ·go_wp2;go_ret;exact ⟨yg.no (fun hq=>by obtain ⟨i,hi,hh⟩:=HQ.o.1 hq; exact HA.o i hi (by omega) hh),ya GW.o HG.o⟩
theorem OL (a b:Nat) (ha:a < 9223372036854775808) (hb:b < 9223372036854775808):bits .and .i64 (a:Int) (b:Int)=((a &&& b:Nat):Int):=by
 have hx:a &&& b < 2 ^ 63:=Nat.and_lt_two_pow _ (by omega);show IntKind.i64.wrap ((BitVec.ofInt 64 (a:Int) &&& BitVec.ofInt 64 (b:Int)).toNat:Int)=_;rw [BitVec.toNat_and,ofInt_u64 a (by omega),ofInt_u64 b (by omega)];exact IntWalk.i64_in _ ⟨by omega,by omega⟩
theorem Bw (a b:Nat) (ha:a < 9223372036854775808) (hb:b < 9223372036854775808):bits .or .i64 (a:Int) (b:Int)=((a ||| b:Nat):Int):=by
 have hx:a ||| b < 2 ^ 63:=Nat.or_lt_two_pow (by omega) (by omega);show IntKind.i64.wrap ((BitVec.ofInt 64 (a:Int) ||| BitVec.ofInt 64 (b:Int)).toNat:Int)=_;rw [BitVec.toNat_or,ofInt_u64 a (by omega),ofInt_u64 b (by omega)];exact IntWalk.i64_in _ ⟨by omega,by omega⟩
theorem VI (n:Int) (k:Nat) (hk:k<=40) (m:Int) (hm:m=(2:Int) ^ k - 1) (h0:0<=n) (h1:n<=4294967295):bits .and .i64 n m=n % (2:Int) ^ k:=by
 obtain ⟨a,rfl⟩:=Int.eq_ofNat_of_zero_le h0;have hp:0 < 2 ^ k:=Nat.two_pow_pos k;have hq:2 ^ k<=2 ^ 40:=Nat.pow_le_pow_right (by decide) hk;have e:m=((2 ^ k - 1:Nat):Int):=by
  rw [hm,Int.natCast_sub hp];simp
 rw [e,OL a _ (by omega) (by omega),Nat.and_two_pow_sub_one_eq_mod];simp
theorem Lp (a b:Int) (ha:0<=a) (ha':a < 9223372036854775808) (hb:0<=b) (hb':b < 9223372036854775808):0<=bits .or .i64 a b/\(bits .or .i64 a b=0↔a=0/\b=0):=by
 obtain ⟨x,rfl⟩:=Int.eq_ofNat_of_zero_le ha;obtain ⟨y,rfl⟩:=Int.eq_ofNat_of_zero_le hb;rw [Bw x y (by omega) (by omega)];refine ⟨by omega,?_⟩;constructor
 ·intro h;have h':x ||| y=0:=by omega
  have hx:x<=x ||| y:=Nat.left_le_or;have hy:y<=x ||| y:=Nat.right_le_or;omega
 ·rintro ⟨h1,h2⟩
  have:x=0:=by omega
  have:y=0:=by omega
  subst x y;simp
theorem LK (a b:Int) (k:Nat) (hk:k<=60) (ha:0<=a) (ha':a < (2:Int) ^ k) (hb:0<=b) (hb':b < (2:Int) ^ k):bits .or .i64 a b < (2:Int) ^ k:=by
 obtain ⟨x,rfl⟩:=Int.eq_ofNat_of_zero_le ha;obtain ⟨y,rfl⟩:=Int.eq_ofNat_of_zero_le hb;have e:((2 ^ k:Nat):Int)=(2:Int) ^ k:=by simp
 rw [<- e] at ha' hb' ⊢;have hq:2 ^ k<=2 ^ 60:=Nat.pow_le_pow_right (by decide) hk
 have:=Nat.or_lt_two_pow (x:=x) (y:=y) (n:=k) (by omega) (by omega)
 rw [Bw x y (by omega) (by omega)];omega
theorem Lb (a b:Nat) (k:Nat):a &&& (b <<< k)=((a >>> k) &&& b) <<< k:=by
 apply Nat.eq_of_testBit_eq;intro i;simp only [Nat.testBit_and,Nat.testBit_shiftLeft,Nat.testBit_shiftRight];by_cases h:k<=i
 ·simp [h]
 ·simp [h]
theorem Wj (a b k:Nat) (h:a < 2 ^ k):a ||| (b <<< k)=a+b * 2 ^ k:=by
 rw [Nat.or_comm,<- Nat.shiftLeft_add_eq_or_of_lt h,Nat.shiftLeft_eq];omega
theorem Ae (n:Int) (h0:0<=n) (h1:n<=4294967295):bits .and .i64 n 28799=n % 128+4096 * (n / 4096 % 8):=by
 obtain ⟨a,rfl⟩:=Int.eq_ofNat_of_zero_le h0;have e:(28799:Int)=((127 ||| (7 <<< 12):Nat):Int):=by decide
 rw [e,OL a _ (by omega) (by decide),Nat.and_or_distrib_left,Lb];have e1:a &&& 127=a % 128:=Nat.and_two_pow_sub_one_eq_mod a 7;have e2:(a >>> 12) &&& 7=a / 4096 % 8:=by rw [Nat.shiftRight_eq_div_pow]; exact Nat.and_two_pow_sub_one_eq_mod _ 3
 rw [e1,e2,Wj _ _ 12 (by omega)];omega
theorem LH (n:Int) (h0:0<=n) (h1:n<=4294967295):bits .and .i64 n 4261441663=n % 128+4096 * (n / 4096 % 8)+33554432 * (n / 33554432):=by
 obtain ⟨a,rfl⟩:=Int.eq_ofNat_of_zero_le h0;have e:(4261441663:Int)=(((127 ||| (7 <<< 12)) ||| (127 <<< 25):Nat):Int):=by decide
 rw [e,OL a _ (by omega) (by decide),Nat.and_or_distrib_left,Nat.and_or_distrib_left,Lb,Lb];have e1:a &&& 127=a % 128:=Nat.and_two_pow_sub_one_eq_mod a 7;have e2:(a >>> 12) &&& 7=a / 4096 % 8:=by rw [Nat.shiftRight_eq_div_pow]; exact Nat.and_two_pow_sub_one_eq_mod _ 3
 have e3:(a >>> 25) &&& 127=a / 33554432 % 128:=by rw [Nat.shiftRight_eq_div_pow]; exact Nat.and_two_pow_sub_one_eq_mod _ 7
 rw [e1,e2,e3,Wj _ _ 12 (by omega),Wj _ _ 25 (by omega)];omega
theorem Wq (n:Int) (h0:0<=n) (h1:n<=4294967295):bits .and .i64 n 127=n % 128:=VI n 7 (by decide) 127 rfl h0 h1
theorem ysD (n:Int) (h0:0<=n) (h1:n<=4294967295):bits .and .i64 n 4294967295=n:=by
 rw [VI n 32 (by decide) 4294967295 rfl h0 h1];simp only [Int.reducePow];omega
def BG (e:Ending) (P:Prop):Prop:=∃ v,e = .returned (.int .i64 v)/\(v=0↔P)
theorem BG.of {P:Prop} {v:Int} (h:v=0↔P):BG (.returned (.int .i64 v)) P:=⟨v,rfl,h⟩
def yk (form n:Int):Prop :=
 if form=1\/form=2 then n / 4096=0 else if form=3 then n / 1048576=0 else if form=4\/form=5 then n / 33554432=0/\n / 128 % 32=0 else True
theorem low (n:Int) (k:Nat) (hk:k<=32) (m d:Int) (hm:m=(2:Int) ^ k - 1) (hd:d=(2:Int) ^ k) (h0:0<=n) (h1:n<=4294967295):bits .and .i64 n m=n % d:=by
 rw [hd]; exact VI n k (by omega) m hm h0 h1
theorem yri (n:Int) (h0:0<=n) (h1:n<=4294967295):bits .and .i64 (n / 4096) 1048575=0↔yk 1 n:=by
 rw [low (n / 4096) 20 (by decide) 1048575 1048576 rfl rfl (by omega) (by omega)];unfold yk;rw [if_pos (.inl rfl)];omega
def t2 (n:Int):Int:=bits .or .i64 (bits .or .i64 (bits .or .i64 (wrap64 (bits .and .i64 (n / 2147483648) 1 * 1048576)) (wrap64 (bits .and .i64 (n / 4096) 255 * 4096))) (wrap64 (bits .and .i64 (n / 1048576) 1 * 2048))) (wrap64 (bits .and .i64 (n / 2097152) 1023 * 2))
theorem ymt (n:Int) (h0:0<=n) (h1:n<=4294967295):0<=t2 n/\t2 n < 2097152/\(t2 n=0↔yk 2 n):=by
 unfold t2;rw [low (n / 2147483648) 1 (by decide) 1 2 rfl rfl (by omega) (by omega),low (n / 4096) 8 (by decide) 255 256 rfl rfl (by omega) (by omega),low (n / 1048576) 1 (by decide) 1 2 rfl rfl (by omega) (by omega),low (n / 2097152) 10 (by decide) 1023 1024 rfl rfl (by omega) (by omega)];rw [IntWalk.wrap64_in (n / 2147483648 % 2 * 1048576) ⟨by omega,by omega⟩,IntWalk.wrap64_in (n / 4096 % 256 * 4096) ⟨by omega,by omega⟩,IntWalk.wrap64_in (n / 1048576 % 2 * 2048) ⟨by omega,by omega⟩,IntWalk.wrap64_in (n / 2097152 % 1024 * 2) ⟨by omega,by omega⟩];have a1:=Lp (n / 2147483648 % 2 * 1048576) (n / 4096 % 256 * 4096) (by omega) (by omega) (by omega) (by omega)
 have l1:=LK (n / 2147483648 % 2 * 1048576) (n / 4096 % 256 * 4096) 21 (by decide) (by omega) (by simp only [Int.reducePow]; omega) (by omega) (by simp only [Int.reducePow]; omega);generalize bits .or .i64 (n / 2147483648 % 2 * 1048576) (n / 4096 % 256 * 4096)=x1 at *;simp only [Int.reducePow] at l1;have a2:=Lp x1 (n / 1048576 % 2 * 2048) (by omega) (by omega) (by omega) (by omega);have l2:=LK x1 (n / 1048576 % 2 * 2048) 21 (by decide) (by omega) (by simp only [Int.reducePow]; omega) (by omega) (by simp only [Int.reducePow]; omega);generalize bits .or .i64 x1 (n / 1048576 % 2 * 2048)=x2 at *;simp only [Int.reducePow] at l2
 have a3:=Lp x2 (n / 2097152 % 1024 * 2) (by omega) (by omega) (by omega) (by omega);have l3:=LK x2 (n / 2097152 % 1024 * 2) 21 (by decide) (by omega) (by simp only [Int.reducePow]; omega) (by omega) (by simp only [Int.reducePow]; omega);simp only [Int.reducePow] at l3;refine ⟨a3.1,l3,?_⟩;rw [a3.2,a2.2,a1.2];unfold yk;rw [if_pos (.inr rfl)];omega
def t3 (n:Int):Int:=bits .and .i64 (n / 1048576) 4095
theorem ymu (n:Int) (h0:0<=n) (h1:n<=4294967295):0<=t3 n/\t3 n < 4096/\(t3 n=0↔yk 3 n):=by
 unfold t3;rw [low (n / 1048576) 12 (by decide) 4095 4096 rfl rfl (by omega) (by omega)];unfold yk;rw [if_neg (by decide),if_pos rfl];omega
def t4 (n:Int):Int:=bits .or .i64 (bits .or .i64 (bits .or .i64 (wrap64 (bits .and .i64 (n / 2147483648) 1 * 4096)) (wrap64 (bits .and .i64 (n / 128) 1 * 2048))) (wrap64 (bits .and .i64 (n / 33554432) 63 * 32))) (wrap64 (bits .and .i64 (n / 256) 15 * 2))
theorem ymv (n:Int) (h0:0<=n) (h1:n<=4294967295):0<=t4 n/\t4 n < 8192/\(t4 n=0↔yk 4 n):=by
 unfold t4;rw [low (n / 2147483648) 1 (by decide) 1 2 rfl rfl (by omega) (by omega),low (n / 128) 1 (by decide) 1 2 rfl rfl (by omega) (by omega),low (n / 33554432) 6 (by decide) 63 64 rfl rfl (by omega) (by omega),low (n / 256) 4 (by decide) 15 16 rfl rfl (by omega) (by omega)];rw [IntWalk.wrap64_in (n / 2147483648 % 2 * 4096) ⟨by omega,by omega⟩,IntWalk.wrap64_in (n / 128 % 2 * 2048) ⟨by omega,by omega⟩,IntWalk.wrap64_in (n / 33554432 % 64 * 32) ⟨by omega,by omega⟩,IntWalk.wrap64_in (n / 256 % 16 * 2) ⟨by omega,by omega⟩];have a1:=Lp (n / 2147483648 % 2 * 4096) (n / 128 % 2 * 2048) (by omega) (by omega) (by omega) (by omega)
 have l1:=LK (n / 2147483648 % 2 * 4096) (n / 128 % 2 * 2048) 13 (by decide) (by omega) (by simp only [Int.reducePow]; omega) (by omega) (by simp only [Int.reducePow]; omega);generalize bits .or .i64 (n / 2147483648 % 2 * 4096) (n / 128 % 2 * 2048)=x1 at *;simp only [Int.reducePow] at l1;have a2:=Lp x1 (n / 33554432 % 64 * 32) (by omega) (by omega) (by omega) (by omega);have l2:=LK x1 (n / 33554432 % 64 * 32) 13 (by decide) (by omega) (by simp only [Int.reducePow]; omega) (by omega) (by simp only [Int.reducePow]; omega);generalize bits .or .i64 x1 (n / 33554432 % 64 * 32)=x2 at *;simp only [Int.reducePow] at l2
 have a3:=Lp x2 (n / 256 % 16 * 2) (by omega) (by omega) (by omega) (by omega);have l3:=LK x2 (n / 256 % 16 * 2) 13 (by decide) (by omega) (by simp only [Int.reducePow]; omega) (by omega) (by simp only [Int.reducePow]; omega);simp only [Int.reducePow] at l3;refine ⟨a3.1,l3,?_⟩;rw [a3.2,a2.2,a1.2];unfold yk;rw [if_neg (by decide),if_neg (by decide),if_pos (.inl rfl)];omega
def t5 (n:Int):Int:=bits .or .i64 (wrap64 (bits .and .i64 (n / 33554432) 127 * 32)) (bits .and .i64 (n / 128) 31)
theorem ymw (n:Int) (h0:0<=n) (h1:n<=4294967295):0<=t5 n/\t5 n < 4096/\(t5 n=0↔yk 5 n):=by
 unfold t5;rw [low (n / 33554432) 7 (by decide) 127 128 rfl rfl (by omega) (by omega),low (n / 128) 5 (by decide) 31 32 rfl rfl (by omega) (by omega)];rw [IntWalk.wrap64_in (n / 33554432 % 128 * 32) ⟨by omega,by omega⟩];have a1:=Lp (n / 33554432 % 128 * 32) (n / 128 % 32) (by omega) (by omega) (by omega) (by omega);have l1:=LK (n / 33554432 % 128 * 32) (n / 128 % 32) 12 (by decide) (by omega) (by simp only [Int.reducePow]; omega) (by omega) (by simp only [Int.reducePow]; omega);simp only [Int.reducePow] at l1;refine ⟨a1.1,l1,?_⟩;rw [a1.2];unfold yk;rw [if_neg (by decide),if_neg (by decide),if_pos (.inr rfl)]
 omega
theorem QU (t d:Int) (P:Prop) (_h0:0<=t) (h1:t < d) (hd:d<=4294967296) (h:t=0↔P) (hge:1<=t):wrap64 (t - d)=0↔P:=by
 rw [IntWalk.wrap64_in _ ⟨by omega,by omega⟩,<- h];omega
theorem yin (form n:Int) (w:World) (h0:0<=n) (h1:n<=4294967295) :
  Calls Tryz.prog 175 #[.int .i64 form,.int .i64 n] w fun e w'=>BG e (yk form n)/\w'=w:=by
 by_cases e1:form=1
 ·subst e1;go_enter Tryz.func175,Tryz.ntmps175;go_wp2;go_ret;exact ⟨BG.of (yri n h0 h1),rfl⟩
 by_cases e2:form=2
 ·subst e2;have T:=hid (ymt n h0 h1);clear e1;go_enter Tryz.func175,Tryz.ntmps175;go_wp2
  ·go_ret;exact ⟨BG.of T.o.2.2,rfl⟩
  ·rename_i hx;go_ret;refine ⟨BG.of (QU (t2 n) 2097152 _ T.o.1 T.o.2.1 (by decide) T.o.2.2 ?_),rfl⟩
   have:(1048576:Int)<=t2 n:=by assumption
   omega
 by_cases e3:form=3
 ·subst e3;have T:=hid (ymu n h0 h1);clear e1 e2;go_enter Tryz.func175,Tryz.ntmps175;go_wp2
  ·go_ret;exact ⟨BG.of T.o.2.2,rfl⟩
  ·go_ret;refine ⟨BG.of (QU (t3 n) 4096 _ T.o.1 T.o.2.1 (by decide) T.o.2.2 ?_),rfl⟩
   have:(2048:Int)<=t3 n:=by assumption
   omega
 by_cases e4:form=4
 ·subst e4;have T:=hid (ymv n h0 h1);clear e1 e2 e3;go_enter Tryz.func175,Tryz.ntmps175;go_wp2
  ·go_ret;exact ⟨BG.of T.o.2.2,rfl⟩
  ·go_ret;refine ⟨BG.of (QU (t4 n) 8192 _ T.o.1 T.o.2.1 (by decide) T.o.2.2 ?_),rfl⟩
   have:(4096:Int)<=t4 n:=by assumption
   omega
 by_cases e5:form=5
 ·subst e5;have T:=hid (ymw n h0 h1);clear e1 e2 e3 e4;go_enter Tryz.func175,Tryz.ntmps175;go_wp2
  ·go_ret;exact ⟨BG.of T.o.2.2,rfl⟩
  ·go_ret;refine ⟨BG.of (QU (t5 n) 4096 _ T.o.1 T.o.2.1 (by decide) T.o.2.2 ?_),rfl⟩
   have:(2048:Int)<=t5 n:=by assumption
   omega
 have T:=hid (show yk form n from by unfold yk; rw [if_neg (by omega),if_neg e3,if_neg (by omega)]; trivial);have d1:(form == 1)=false:=beq_eq_false_iff_ne.2 e1;have d2:(form == 2)=false:=beq_eq_false_iff_ne.2 e2;have d3:(form == 3)=false:=beq_eq_false_iff_ne.2 e3;have d4:(form == 4)=false:=beq_eq_false_iff_ne.2 e4;have d5:(form == 5)=false:=beq_eq_false_iff_ne.2 e5;clear e1 e2 e3 e4 e5;go_enter Tryz.func175,Tryz.ntmps175;go_wp2;go_ret;exact ⟨BG.of ⟨fun _=>T.o,fun _=>rfl⟩,rfl⟩
def gI (form n:Int):Int:=if form=1\/form=2\/form=3\/form=6 then bits .and .i64 (n / 128) 31 else 0
def bI (form n:Int):Int:=if form=3\/form=4\/form=5\/form=6 then bits .and .i64 (n / 32768) 31 else 0
def jC (form n:Int):Int:=if form=4\/form=5\/form=6 then bits .and .i64 (n / 1048576) 31 else 0
def bD (op rd au aC m:Int):Value:=.agg #[.int .i64 op,.int .i64 rd,.int .i64 au,.int .i64 aC,.int .i64 m]
def ynH (e:Ending) (op form n:Int):Prop:=∃ m,e = .returned (bD op (gI form n) (bI form n) (jC form n) m)/\(m=0↔yk form n)
theorem ymG (op form n:Int) (w:World) (h0:0<=n) (h1:n<=4294967295) (hf:1<=form/\form<=7) :
  Calls Tryz.prog 117 #[.int .i64 op,.int .i64 form,.int .i64 n] w fun e w'=>ynH e op form n/\w.grownBy w' none:=by
 have cT:=hid (fun W=>yin form n W h0 h1);have G1:=hid (fun o:Obj=>aH w o none);have G2:=hid (fun o o':Obj=>aH (w.alloc o) o' none);have Z:Hd (∀ m,(m=0↔yk form n)->∀ e,e=Ending.returned (bD op (gI form n) (bI form n) (jC form n) m)->ynH e op form n):=fun m hm e he=>⟨m,he,hm⟩
 have S:=hid (show ∀ (W:World) (a b:Nat) (cs zs:Array Value),True from fun _ _ _ _ _=>trivial);rcases (show form=1\/form=2\/form=3\/form=4\/form=5\/form=6\/form=7 from by omega) with rfl | rfl | rfl | rfl | rfl | rfl | rfl
 all_goals
  clear hf S;go_enter Tryz.func117,Tryz.ntmps117;go_wp2_with fail;refine (cT.o _).mono ?_;rintro e w1 ⟨⟨m,rfl,hm⟩,rfl⟩;have HM:=hid hm;clear hm cT;go_wp2;refine bodyPost_ret (v:=bD op (gI _ n) (bI _ n) (jC _ n) m) ?_ rfl ⟨⟨m,rfl,HM.o⟩,ya (G1.o _) (G2.o _ _)⟩;simp [results,Tryz.results117,go_sem,bD,gI,bI,jC]
def vG:List Int:=[0,1,1,2,3,4,4,4,4,4,4,3,5,3,3,3,3,3,6,6,6,6,6,6,6,7]
def FK:List Int:=[0,55,23,111,103,99,4195,16483,20579,24675,28771,8195,8227,19,8211,16403,24595,28691,51,1073741875,8243,12339,16435,24627,28723,115]
structure dV (w:World):Prop where
 form:∀ i,i < 26->w.cell? ⟨0,i,none⟩=some (.int .i64 (vG.getD i 0))
 fix:∀ i,i < 26->w.cell? ⟨1,i,none⟩=some (.int .i64 (FK.getD i 0))
theorem dV.grown {w w':World} (h:dV w) (hg:w.grownBy w' none):dV w':=⟨fun i hi=>yd (h.form i hi) hg,fun i hi=>yd (h.fix i hi) hg⟩
theorem dV.uo {w w':World} (h:dV w) {b:Nat} (hg:w.grownBy w' (some b)) (hb:3<=b):dV w' :=
 ⟨fun i hi=>hg.cell (h.form i hi) (by simp; omega),fun i hi=>hg.cell (h.fix i hi) (by simp; omega)⟩
def IZ (form:Int):Int:=if form=1\/form=2 then 127 else if form=3\/form=4\/form=5 then 28799 else if form=6 then 4261441663 else 4294967295
theorem YG (form:Int) (w:World) (hf:1<=form/\form<=7) :
  Calls Tryz.prog 116 #[.int .i64 form] w fun e w'=>e = .returned (.int .i64 (IZ form))/\w'=w:=by
 rcases (show form=1\/form=2\/form=3\/form=4\/form=5\/form=6\/form=7 from by omega) with rfl | rfl | rfl | rfl | rfl | rfl | rfl
 all_goals
  clear hf;go_enter Tryz.func116,Tryz.ntmps116;go_wp2;go_ret;exact ⟨by simp [IZ],rfl⟩
def Is (k:Nat) (n:Int):Prop:=bits .and .i64 n (IZ (vG.getD k 0))=FK.getD k 0
def Dec (n op rd au m:Int):Prop :=
 (op=0/\rd=0/\au=0/\m=0/\∀ k,1<=k->k<=25->¬ Is k n) \/
 ∃ k:Nat,1<=k/\k<=25/\Is k n/\(∀ j,1<=j->j < k->¬ Is j n)/\op=k/\rd=gI (vG.getD k 0) n/\au=bI (vG.getD k 0) n/\(m=0↔yk (vG.getD k 0) n)
def yrs (e:Ending) (n:Int):Prop:=∃ op rd au aC m,e = .returned (bD op rd au aC m)/\Dec n op rd au m
theorem UY (k:Nat) (h1:1<=k) (h2:k<=25):1<=vG.getD k 0/\vG.getD k 0<=7:=by
 have:∀ k,k < 26->1<=k->1<=vG.getD k 0/\vG.getD k 0<=7:=by decide
 exact this k (by omega) h1
theorem OX {w W:World} (h:w.grownBy W none) {b:Nat} (hb:w.heap.size<=b) (o:Nat) (v:Value):w.grownBy (W.setCell ⟨b,o,none⟩ v) none :=
 ⟨h.os,h.tape,h.output,by simpa [World.setCell] using h.size,fun i hi _=>(Below.heap_setCell W ⟨b,o,none⟩ v i (by simp; omega)).trans (h.block i hi (by simp))⟩
theorem Ij {w W:World} {a0 a1 a2 a3 a4:Value} (h:w.grownBy W none) (hB:yc W w.heap.size #[a0,a1,a2,a3,a4] 143) (b0 b1 b2 b3 b4:Value) :
  yc (((((W.setCell ⟨w.heap.size,0,none⟩ b0).setCell ⟨w.heap.size,1,none⟩ b1).setCell ⟨w.heap.size,2,none⟩ b2).setCell ⟨w.heap.size,3,none⟩ b3).setCell ⟨w.heap.size,4,none⟩ b4) w.heap.size #[b0,b1,b2,b3,b4] 143 /\
  w.grownBy (((((W.setCell ⟨w.heap.size,0,none⟩ b0).setCell ⟨w.heap.size,1,none⟩ b1).setCell ⟨w.heap.size,2,none⟩ b2).setCell ⟨w.heap.size,3,none⟩ b3).setCell ⟨w.heap.size,4,none⟩ b4) none :=
 ⟨((((hB.set 0 b0).set 1 b1).set 2 b2).set 3 b3).set 4 b4,OX (OX (OX (OX (OX h (Nat.le_refl _) _ _) (Nat.le_refl _) _ _) (Nat.le_refl _) _ _) (Nat.le_refl _) _ _) (Nat.le_refl _) _ _⟩
theorem UR (n:Int) (w:World) (ht:dV w) (h0:0<=n) (h1:n<=4294967295) :
  Calls Tryz.prog 82 #[.int .i64 n] w fun e w'=>yrs e n/\w.grownBy w' none:=by
 have HT:=hid ht;clear ht;have G:=hid (fun o:Obj=>aH w o none);go_enter Tryz.func82,Tryz.ntmps82;go_wp2
 go_loopw [3] (fun i wr=>∃ k:Nat,1<=k/\k<=26/\i = .int .i64 k/\(∀ j,1<=j->j < k->¬ Is j n)/\w.grownBy wr none/\yc wr w.heap.size #[.int .i64 0,.int .i64 0,.int .i64 0,.int .i64 0,.int .i64 0] 143) (fun i _=>26 - (intOf i).toNat)
 case atStart=>exact ⟨1,Nat.le_refl _,by omega,rfl,fun j h1 h2=>by omega,G.o _,yc.new _ _ _⟩
 case round =>
  obtain ⟨k,hk1,hk2,rfl,hall,hgr,hbk⟩:=hrel;have HA:=hid hall;have HG:=hid hgr;have HB:=hid hbk;clear hall hgr hbk;by_cases hlt:k<=25
  ·have T:=HT.o.grown HG.o;have cf:=T.form k (by omega);have cx:=T.fix k (by omega);have hfr:=UY k hk1 hlt;clear T;have Ns:=hid (show Is k n↔bits .and .i64 n (IZ (vG.getD k 0))=FK.getD k 0 from Iff.rfl);generalize hF:vG.getD k 0=f at *;generalize FK.getD k 0=x at *;have HF:=hid hF;clear hF;have cM:=hid (fun W=>YG f W hfr);have g1:(1:Int)<=(k:Int):=by omega
   have g2:(k:Int)<=25:=by omega
   by_cases hI:Is k n
   ·have d:(bits .and .i64 n (IZ f) == x)=true:=beq_iff_eq.2 (Ns.o.1 hI);have HI:=hid hI;have cF:=hid (fun W=>ymG k f n W h0 h1 hfr);clear hI;go_wp2
    go_quiet ((go_at_call 116; exact Calls.quiet_of_same (cM.o _)))
    go_wp2_with fail;refine (cF.o _).mono ?_;rintro e w2 ⟨⟨m,rfl,hm⟩,hq⟩;unfold bD;have B2:=hid ((HB.o.drewN nq).grown hq (by simp));have G2:=hid (ya (ye HG.o nq) hq);have HM:=hid hm;have k0:=B2.o.cell 0;have k1:=B2.o.cell 1;have k2:=B2.o.cell 2;have k3:=B2.o.cell 3;have k4:=B2.o.cell 4;have f0:=B2.o.free 0;have f1:=B2.o.free 1;have f2:=B2.o.free 2;have f3:=B2.o.free 3;have f4:=B2.o.free 4;clear hm hq;generalize hrd:gI f n=rd at *;generalize hr1:bI f n=r1 at *;have FY:=hid hrd;have HR1:=hid hr1;clear hrd hr1;generalize jC f n=r2 at *;go_wp2;have F:=Ij G2.o B2.o (.int .i64 k) (.int .i64 rd) (.int .i64 r1) (.int .i64 r2) (.int .i64 m)
    have e0:=F.1.cell 0;have e1:=F.1.cell 1;have e2:=F.1.cell 2;have e3:=F.1.cell 3;have e4:=F.1.cell 4;refine bodyPost_ret (v:=bD k rd r1 r2 m) ?_ rfl ⟨⟨k,rd,r1,r2,m,rfl,.inr ⟨k,hk1,hlt,HI.o,HA.o,rfl,?_,?_,?_⟩⟩,F.2⟩
    ·clear F k0 k1 k2 k3 k4 f0 f1 f2 f3 f4 B2 G2;generalize World.setCell _ _ _=WF at *;simp [results,Tryz.results82,go_sem,bD,e0,e1,e2,e3,e4]
    ·rw [HF.o,FY.o]
    ·rw [HF.o,HR1.o]
    ·rw [HF.o]; exact HM.o
   ·have d:(bits .and .i64 n (IZ f) == x)=false:=beq_eq_false_iff_ne.2 (fun h=>hI (Ns.o.2 h));have HI:=hid hI;clear hI;go_wp2
    go_quiet ((go_at_call 116; exact Calls.quiet_of_same (cM.o _)))
    go_wp2
    go_roundw
    case rel=>exact ⟨k+1,by omega,by omega,by go_num,fun j hj hjk=>(Nat.lt_succ_iff_lt_or_eq.1 hjk).elim (fun h=>HA.o j hj h) (fun h=>by subst h; exact HI.o),ye HG.o _,HB.o.drewN _⟩
    case measure=>simp [intOf]; omega
  ·have k0:=HB.o.cell 0;have k1:=HB.o.cell 1;have k2:=HB.o.cell 2;have k3:=HB.o.cell 3;have k4:=HB.o.cell 4;have f0:=HB.o.free 0;have f1:=HB.o.free 1;have f2:=HB.o.free 2;have f3:=HB.o.free 3;have f4:=HB.o.free 4;go_wp2;have F:=Ij HG.o HB.o (.int .i64 0) (.int .i64 0) (.int .i64 0) (.int .i64 0) (.int .i64 0);have e0:=F.1.cell 0;have e1:=F.1.cell 1;have e2:=F.1.cell 2;have e3:=F.1.cell 3;have e4:=F.1.cell 4;refine bodyPost_ret (v:=bD 0 0 0 0 0) ?_ rfl ⟨⟨0,0,0,0,0,rfl,.inl ⟨rfl,rfl,rfl,rfl,fun j h1 h2=>HA.o j h1 (by omega)⟩⟩,F.2⟩;clear F k0 k1 k2 k3 k4 f0 f1 f2 f3 f4;generalize World.setCell _ _ _=WF at *
   simp [results,Tryz.results82,go_sem,bD,e0,e1,e2,e3,e4]
theorem LD (a b:Int) (k:Nat) (ha:0<=a) (ha':a < 9223372036854775808) (hk:a % (2:Int) ^ k=0) (hb:0<=b) (hb':b < (2:Int) ^ k) (hb2:b < 9223372036854775808):bits .or .i64 a b=a+b:=by
 obtain ⟨x,rfl⟩:=Int.eq_ofNat_of_zero_le ha;obtain ⟨y,rfl⟩:=Int.eq_ofNat_of_zero_le hb;have e:((2 ^ k:Nat):Int)=(2:Int) ^ k:=by simp
 rw [<- e] at hb' hk;rw [Bw x y (by omega) (by omega)];have hx:x=2 ^ k * (x / 2 ^ k):=by
  have h1:x % 2 ^ k=0:=by omega
  have:=Nat.div_add_mod x (2 ^ k)
  omega
 have h:=Nat.two_pow_add_eq_or_of_lt (i:=k) (b:=y) (by omega) (x / 2 ^ k);rw [<- hx] at h;omega
namespace Mc
def v2 (n:Int):Int:=n / 2147483648 % 2 * 1048576+n / 4096 % 256 * 4096+n / 1048576 % 2 * 2048+n / 2097152 % 1024 * 2
def v4 (n:Int):Int:=n / 2147483648 % 2 * 4096+n / 128 % 2 * 2048+n / 33554432 % 64 * 32+n / 256 % 16 * 2
def v5 (n:Int):Int:=n / 33554432 % 128 * 32+n / 128 % 32
def jm (form n:Int):Int :=
 if form=1 then n / 4096 % 1048576
 else if form=2 then (if v2 n < 1048576 then v2 n else v2 n - 2097152)
 else if form=3 then (if n / 1048576 % 4096 < 2048 then n / 1048576 % 4096 else n / 1048576 % 4096 - 4096)
 else if form=4 then (if v4 n < 4096 then v4 n else v4 n - 8192)
 else if form=5 then (if v5 n < 2048 then v5 n else v5 n - 4096)
 else 0
end Mc
theorem yqe (n:Int) (h0:0<=n) (h1:n<=4294967295):t2 n=Mc.v2 n:=by
 unfold t2 Mc.v2;rw [low (n / 2147483648) 1 (by decide) 1 2 rfl rfl (by omega) (by omega),low (n / 4096) 8 (by decide) 255 256 rfl rfl (by omega) (by omega),low (n / 1048576) 1 (by decide) 1 2 rfl rfl (by omega) (by omega),low (n / 2097152) 10 (by decide) 1023 1024 rfl rfl (by omega) (by omega)];rw [IntWalk.wrap64_in (n / 2147483648 % 2 * 1048576) ⟨by omega,by omega⟩,IntWalk.wrap64_in (n / 4096 % 256 * 4096) ⟨by omega,by omega⟩,IntWalk.wrap64_in (n / 1048576 % 2 * 2048) ⟨by omega,by omega⟩,IntWalk.wrap64_in (n / 2097152 % 1024 * 2) ⟨by omega,by omega⟩];rw [LD (n / 2147483648 % 2 * 1048576) (n / 4096 % 256 * 4096) 20 (by omega) (by omega) (by simp only [Int.reducePow]; omega) (by omega) (by simp only [Int.reducePow]; omega) (by omega),
  LD (n / 2147483648 % 2 * 1048576+n / 4096 % 256 * 4096) (n / 1048576 % 2 * 2048) 12 (by omega) (by omega) (by simp only [Int.reducePow]; omega) (by omega) (by simp only [Int.reducePow]; omega) (by omega),
  LD (n / 2147483648 % 2 * 1048576+n / 4096 % 256 * 4096+n / 1048576 % 2 * 2048) (n / 2097152 % 1024 * 2) 11 (by omega) (by omega) (by simp only [Int.reducePow]; omega) (by omega) (by simp only [Int.reducePow]; omega) (by omega)]
theorem yqg (n:Int) (h0:0<=n) (h1:n<=4294967295):t4 n=Mc.v4 n:=by
 unfold t4 Mc.v4;rw [low (n / 2147483648) 1 (by decide) 1 2 rfl rfl (by omega) (by omega),low (n / 128) 1 (by decide) 1 2 rfl rfl (by omega) (by omega),low (n / 33554432) 6 (by decide) 63 64 rfl rfl (by omega) (by omega),low (n / 256) 4 (by decide) 15 16 rfl rfl (by omega) (by omega)];rw [IntWalk.wrap64_in (n / 2147483648 % 2 * 4096) ⟨by omega,by omega⟩,IntWalk.wrap64_in (n / 128 % 2 * 2048) ⟨by omega,by omega⟩,IntWalk.wrap64_in (n / 33554432 % 64 * 32) ⟨by omega,by omega⟩,IntWalk.wrap64_in (n / 256 % 16 * 2) ⟨by omega,by omega⟩];rw [LD (n / 2147483648 % 2 * 4096) (n / 128 % 2 * 2048) 12 (by omega) (by omega) (by simp only [Int.reducePow]; omega) (by omega) (by simp only [Int.reducePow]; omega) (by omega),
  LD (n / 2147483648 % 2 * 4096+n / 128 % 2 * 2048) (n / 33554432 % 64 * 32) 11 (by omega) (by omega) (by simp only [Int.reducePow]; omega) (by omega) (by simp only [Int.reducePow]; omega) (by omega),
  LD (n / 2147483648 % 2 * 4096+n / 128 % 2 * 2048+n / 33554432 % 64 * 32) (n / 256 % 16 * 2) 5 (by omega) (by omega) (by simp only [Int.reducePow]; omega) (by omega) (by simp only [Int.reducePow]; omega) (by omega)]
theorem yqh (n:Int) (h0:0<=n) (h1:n<=4294967295):t5 n=Mc.v5 n:=by
 unfold t5 Mc.v5;rw [low (n / 33554432) 7 (by decide) 127 128 rfl rfl (by omega) (by omega),low (n / 128) 5 (by decide) 31 32 rfl rfl (by omega) (by omega)];rw [IntWalk.wrap64_in (n / 33554432 % 128 * 32) ⟨by omega,by omega⟩];rw [LD (n / 33554432 % 128 * 32) (n / 128 % 32) 5 (by omega) (by omega) (by simp only [Int.reducePow]; omega) (by omega) (by simp only [Int.reducePow]; omega) (by omega)]
theorem yqf (n:Int) (h0:0<=n) (h1:n<=4294967295):t3 n=n / 1048576 % 4096:=by
 unfold t3;rw [low (n / 1048576) 12 (by decide) 4095 4096 rfl rfl (by omega) (by omega)]
theorem Rk (t v d h:Int) (e:t=v) (hl:t < h):t=if v < h then v else v - d:=by rw [e] at hl ⊢; rw [if_pos hl]
theorem Rj (t v d h:Int) (e:t=v) (hl:h<=t) (h0:0<=t) (hd:0<=d/\d<=4294967296) (h1:t<=4294967296):wrap64 (t - d)=if v < h then v else v - d:=by
 rw [IntWalk.wrap64_in _ ⟨by omega,by omega⟩,<- e,if_neg (by omega)]
theorem ygO (form n:Int) (w:World) (h0:0<=n) (h1:n<=4294967295) :
  Calls Tryz.prog 175 #[.int .i64 form,.int .i64 n] w fun e w'=>e = .returned (.int .i64 (Mc.jm form n))/\w'=w:=by
 by_cases e1:form=1
 ·subst e1;have E:=hid (show bits .and .i64 (n / 4096) 1048575=Mc.jm 1 n by rw [low (n / 4096) 20 (by decide) 1048575 1048576 rfl rfl (by omega) (by omega)]; rfl);go_enter Tryz.func175,Tryz.ntmps175;go_wp2;go_ret;exact ⟨yF E.o,rfl⟩
 by_cases e2:form=2
 ·subst e2;have T:=hid (ymt n h0 h1);have X:=hid (yqe n h0 h1);have NF:=hid (show Mc.jm 2 n=if Mc.v2 n < 1048576 then Mc.v2 n else Mc.v2 n - 2097152 from rfl);clear e1;go_enter Tryz.func175,Tryz.ntmps175;go_wp2
  ·go_ret;refine ⟨yF ?_,rfl⟩;rw [NF.o];exact Rk (t2 n) _ 2097152 1048576 X.o (by assumption)
  ·go_ret;refine ⟨yF ?_,rfl⟩;rw [NF.o];exact Rj (t2 n) _ 2097152 1048576 X.o (by assumption) T.o.1 (by decide) (by have:=T.o.2.1; omega)
 by_cases e3:form=3
 ·subst e3;have T:=hid (ymu n h0 h1);have X:=hid (yqf n h0 h1);have NF:=hid (show Mc.jm 3 n=if n / 1048576 % 4096 < 2048 then n / 1048576 % 4096 else n / 1048576 % 4096 - 4096 from rfl);clear e1 e2;go_enter Tryz.func175,Tryz.ntmps175;go_wp2
  ·go_ret;refine ⟨yF ?_,rfl⟩;rw [NF.o];exact Rk (t3 n) _ 4096 2048 X.o (by assumption)
  ·go_ret;refine ⟨yF ?_,rfl⟩;rw [NF.o];exact Rj (t3 n) _ 4096 2048 X.o (by assumption) T.o.1 (by decide) (by have:=T.o.2.1; omega)
 by_cases e4:form=4
 ·subst e4;have T:=hid (ymv n h0 h1);have X:=hid (yqg n h0 h1);have NF:=hid (show Mc.jm 4 n=if Mc.v4 n < 4096 then Mc.v4 n else Mc.v4 n - 8192 from rfl);clear e1 e2 e3;go_enter Tryz.func175,Tryz.ntmps175;go_wp2
  ·go_ret;refine ⟨yF ?_,rfl⟩;rw [NF.o];exact Rk (t4 n) _ 8192 4096 X.o (by assumption)
  ·go_ret;refine ⟨yF ?_,rfl⟩;rw [NF.o];exact Rj (t4 n) _ 8192 4096 X.o (by assumption) T.o.1 (by decide) (by have:=T.o.2.1; omega)
 by_cases e5:form=5
 ·subst e5;have T:=hid (ymw n h0 h1);have X:=hid (yqh n h0 h1);have NF:=hid (show Mc.jm 5 n=if Mc.v5 n < 2048 then Mc.v5 n else Mc.v5 n - 4096 from rfl);clear e1 e2 e3 e4;go_enter Tryz.func175,Tryz.ntmps175;go_wp2
  ·go_ret;refine ⟨yF ?_,rfl⟩;rw [NF.o];exact Rk (t5 n) _ 4096 2048 X.o (by assumption)
  ·go_ret;refine ⟨yF ?_,rfl⟩;rw [NF.o];exact Rj (t5 n) _ 4096 2048 X.o (by assumption) T.o.1 (by decide) (by have:=T.o.2.1; omega)
 have NF:=hid (show Mc.jm form n=0 by unfold Mc.jm; rw [if_neg e1,if_neg e2,if_neg e3,if_neg e4,if_neg e5]);have d1:(form == 1)=false:=by simpa using e1
 have d2:(form == 2)=false:=by simpa using e2
 have d3:(form == 3)=false:=by simpa using e3
 have d4:(form == 4)=false:=by simpa using e4
 have d5:(form == 5)=false:=by simpa using e5
 clear e1 e2 e3 e4 e5;go_enter Tryz.func175,Tryz.ntmps175;go_wp2;go_ret;exact ⟨yF NF.o.symm,rfl⟩
theorem yjO (op form n:Int) (w:World) (h0:0<=n) (h1:n<=4294967295) (hf:1<=form/\form<=7) :
  Calls Tryz.prog 117 #[.int .i64 op,.int .i64 form,.int .i64 n] w fun e w'=>e = .returned (bD op (gI form n) (bI form n) (jC form n) (Mc.jm form n))/\w.grownBy w' none:=by
 have cT:=hid (fun W=>ygO form n W h0 h1);generalize Mc.jm form n=m at *;have G1:=hid (fun o:Obj=>aH w o none);have G2:=hid (fun o o':Obj=>aH (w.alloc o) o' none);rcases (show form=1\/form=2\/form=3\/form=4\/form=5\/form=6\/form=7 from by omega) with rfl | rfl | rfl | rfl | rfl | rfl | rfl
 all_goals
  clear hf;go_enter Tryz.func117,Tryz.ntmps117;go_wp2_with fail;refine (cT.o _).mono ?_;rintro e w1 ⟨rfl,rfl⟩;clear cT;go_wp2;refine bodyPost_ret (v:=bD op (gI _ n) (bI _ n) (jC _ n) m) ?_ rfl ⟨rfl,ya (G1.o _) (G2.o _ _)⟩;simp [results,Tryz.results117,go_sem,bD,gI,bI,jC]
namespace Mc
instance (k:Nat) (n:Int):Decidable (Is k n):=by unfold Is; infer_instance
def jX (n:Int):Nat:=((List.range 26).find? fun k=>decide (1<=k) && decide (Is k n)).getD 0
theorem qB (n:Int) (k:Nat) (h1:1<=k) (h2:k<=25) (hI:Is k n) (hall:∀ j,1<=j->j < k->¬ Is j n):jX n=k:=by
 unfold jX;have h:(List.range 26).find? (fun k=>decide (1<=k) && decide (Is k n))=some k:=by
  rw [List.find?_eq_some_iff_append];refine ⟨by simp [h1,hI],List.range k,(List.range (25 - k)).map (k+1 + ·),?_,?_⟩
  ·have e:26=k+(1+(25 - k)):=by omega
   rw [e,List.range_add,List.range_add];simp [Nat.add_assoc]
  ·intro j hj;have hj':=List.mem_range.1 hj;by_cases hj1:1<=j
   ·simp [hj1,hall j hj1 hj']
   ·simp [hj1]
 rw [h];rfl
theorem Bc (n:Int) (hall:∀ j,1<=j->j<=25->¬ Is j n):jX n=0:=by
 unfold jX;have h:(List.range 26).find? (fun k=>decide (1<=k) && decide (Is k n))=none:=by
  rw [List.find?_eq_none];intro j hj;have hj':=List.mem_range.1 hj;by_cases hj1:1<=j
  ·simp [hj1,hall j hj1 (by omega)]
  ·simp [hj1]
 rw [h];rfl
def aO (n:Int):Int:=vG.getD (jX n) 0
end Mc
theorem UZ (n:Int) (w:World) (ht:dV w) (h0:0<=n) (h1:n<=4294967295) :
  Calls Tryz.prog 82 #[.int .i64 n] w fun e w'=>e = .returned (bD (Mc.jX n) (gI (Mc.aO n) n) (bI (Mc.aO n) n) (jC (Mc.aO n) n) (Mc.jm (Mc.aO n) n))/\w.grownBy w' none:=by
 have HT:=hid ht;clear ht;obtain ⟨R,hR⟩:∃ R,R=bD (Mc.jX n) (gI (Mc.aO n) n) (bI (Mc.aO n) n) (jC (Mc.aO n) n) (Mc.jm (Mc.aO n) n):=⟨_,rfl⟩
 rw [<- hR];have HR:=hid hR;clear hR;have G:=hid (fun o:Obj=>aH w o none);go_enter Tryz.func82,Tryz.ntmps82;go_wp2
 go_loopw [3] (fun i wr=>∃ k:Nat,1<=k/\k<=26/\i = .int .i64 k/\(∀ j,1<=j->j < k->¬ Is j n)/\w.grownBy wr none/\yc wr w.heap.size #[.int .i64 0,.int .i64 0,.int .i64 0,.int .i64 0,.int .i64 0] 143) (fun i _=>26 - (intOf i).toNat)
 case atStart=>exact ⟨1,Nat.le_refl _,by omega,rfl,fun j h1 h2=>by omega,G.o _,yc.new _ _ _⟩
 case round =>
  obtain ⟨k,hk1,hk2,rfl,hall,hgr,hbk⟩:=hrel;have HA:=hid hall;have HG:=hid hgr;have HB:=hid hbk;clear hall hgr hbk;by_cases hlt:k<=25
  ·have T:=HT.o.grown HG.o;have cf:=T.form k (by omega);have cx:=T.fix k (by omega);have hfr:=UY k hk1 hlt;clear T;have Ns:=hid (show Is k n↔bits .and .i64 n (IZ (vG.getD k 0))=FK.getD k 0 from Iff.rfl);generalize hF:vG.getD k 0=f at *;generalize FK.getD k 0=x at *;have HF:=hid hF;clear hF;have cM:=hid (fun W=>YG f W hfr);have g1:(1:Int)<=(k:Int):=by omega
   have g2:(k:Int)<=25:=by omega
   by_cases hI:Is k n
   ·have d:(bits .and .i64 n (IZ f) == x)=true:=beq_iff_eq.2 (Ns.o.1 hI);have HI:=hid hI;have cF:=hid (fun W=>yjO k f n W h0 h1 hfr);clear hI;go_wp2
    go_quiet ((go_at_call 116; exact Calls.quiet_of_same (cM.o _)))
    go_wp2_with fail;refine (cF.o _).mono ?_;rintro e w2 ⟨rfl,hq⟩;have OP:=hid (Mc.qB n k hk1 hlt HI.o HA.o);have FO:=hid (show Mc.aO n=f by unfold Mc.aO; rw [OP.o]; exact HF.o);unfold bD;have B2:=hid ((HB.o.drewN nq).grown hq (by simp));have G2:=hid (ya (ye HG.o nq) hq);have k0:=B2.o.cell 0;have k1:=B2.o.cell 1;have k2:=B2.o.cell 2;have k3:=B2.o.cell 3;have k4:=B2.o.cell 4;have f0:=B2.o.free 0;have f1:=B2.o.free 1;have f2:=B2.o.free 2;have f3:=B2.o.free 3;have f4:=B2.o.free 4;clear hq;have RE:=hid (show R=bD k (gI f n) (bI f n) (jC f n) (Mc.jm f n) by rw [HR.o,OP.o,FO.o]);generalize gI f n=rd at *
    generalize bI f n=r1 at *;generalize jC f n=r2 at *;generalize Mc.jm f n=m at *;go_wp2;have F:=Ij G2.o B2.o (.int .i64 k) (.int .i64 rd) (.int .i64 r1) (.int .i64 r2) (.int .i64 m);have e0:=F.1.cell 0;have e1:=F.1.cell 1;have e2:=F.1.cell 2;have e3:=F.1.cell 3;have e4:=F.1.cell 4;refine bodyPost_ret (v:=R) ?_ rfl ⟨rfl,F.2⟩;rw [RE.o];clear F k0 k1 k2 k3 k4 f0 f1 f2 f3 f4 B2 G2;generalize World.setCell _ _ _=WF at *;simp [results,Tryz.results82,go_sem,bD,e0,e1,e2,e3,e4]
   ·have d:(bits .and .i64 n (IZ f) == x)=false:=beq_eq_false_iff_ne.2 (fun h=>hI (Ns.o.2 h));have HI:=hid hI;clear hI;go_wp2
    go_quiet ((go_at_call 116; exact Calls.quiet_of_same (cM.o _)))
    go_wp2
    go_roundw
    case rel=>exact ⟨k+1,by omega,by omega,by go_num,fun j hj hjk=>(Nat.lt_succ_iff_lt_or_eq.1 hjk).elim (fun h=>HA.o j hj h) (fun h=>by subst h; exact HI.o),ye HG.o _,HB.o.drewN _⟩
    case measure=>simp [intOf]; omega
  ·have k0:=HB.o.cell 0;have k1:=HB.o.cell 1;have k2:=HB.o.cell 2;have k3:=HB.o.cell 3;have k4:=HB.o.cell 4;have f0:=HB.o.free 0;have f1:=HB.o.free 1;have f2:=HB.o.free 2;have f3:=HB.o.free 3;have f4:=HB.o.free 4;go_wp2;have F:=Ij HG.o HB.o (.int .i64 0) (.int .i64 0) (.int .i64 0) (.int .i64 0) (.int .i64 0);have e0:=F.1.cell 0;have e1:=F.1.cell 1;have e2:=F.1.cell 2;have e3:=F.1.cell 3;have e4:=F.1.cell 4;have OP:=Mc.Bc n (fun j h1 h2=>HA.o j h1 (by omega));have FO:Mc.aO n=0:=by unfold Mc.aO; rw [OP]; rfl
   have RE:R=bD 0 0 0 0 0:=by rw [HR.o,OP,FO]; rfl
   refine bodyPost_ret (v:=R) ?_ rfl ⟨rfl,F.2⟩;rw [RE];clear F k0 k1 k2 k3 k4 f0 f1 f2 f3 f4;generalize World.setCell _ _ _=WF at *;simp [results,Tryz.results82,go_sem,bD,e0,e1,e2,e3,e4]
def dW (l:List UInt8) (p:Nat):Nat->Int
 | 0=>0
 | n+1=>((l.getD p 0).toNat:Int)+256 * dW l (p+1) n
theorem Ve (l:List UInt8) (p n:Nat):0<=dW l p n/\dW l p n < (256:Int) ^ n:=by
 induction n generalizing p with
 | zero=>simp [dW]
 | succ n ih =>
  have h:=ih (p+1);have hb:(l.getD p 0).toNat < 256:=(l.getD p 0).toNat_lt;simp only [dW,Int.pow_succ];omega
end Go.Proofs.YtpgklkhgfcjceaaGreatDoor
