
import Derived.Test.YtnkkepfcpjllmaaGreatDoorU01
import Derived.Laws.BitsAllLaws
import Derived.WalkKit
import Derived.Deep.RegionLaw
import Derived.Deep.AppendLies
set_option maxHeartbeats 16000000
set_option maxRecDepth 100000
namespace Go.Proofs.YtnkkepfcpjllmaaGreatDoor
open Go.RowKit
def yT (a r:Lk.Rel):Prop:=if r.ah=a.ah then a.off+4 * yo a<=r.off else a.ah < r.ah
theorem yhO (a r:Lk.Rel) (w:World) (h:yk a) (h0:0<=a.off) (h1:a.off<=1048576) :
  Calls Tryz.prog 124 #[fM a,fM r] w fun e w'=>ye e (yT a r)/\w.grownBy w' none:=by
 have hsp:=yD h;have cS:=hid (fun W=>Qp a W h.six);have HQ:=hid (show yT a r↔if r.ah=a.ah then a.off+4 * yo a<=r.off else a.ah < r.ah from Iff.rfl);have G1:=hid (fun o:Obj=>aW w o none);have G2:=hid (fun o o':Obj=>aW (w.alloc o) o' none);generalize yT a r=Q at *;generalize yo a=sp at *;obtain ⟨gu,ao,ak,ay,aa⟩:=a;obtain ⟨rs,ro,rk,ry,ra⟩:=r;unfold fM at *;simp only at *;clear h;by_cases e1:rs=gu
 ·subst e1;have mR:=hid (show Q↔ao+4 * sp<=ro from by rw [HQ.o,if_pos rfl]);clear HQ;have d1:(rs == rs)=true:=by simp
  go_enter Tryz.func124,Tryz.ntmps124;go_wp2;have B1:=(yd.new w #[.int .i64 rs,.int .i64 ao,.int .i64 ak,.int .i64 ay,.int .i64 aa] 54).grown (yg (aW _ (.cells #[.int .i64 rs,.int .i64 ro,.int .i64 rk,.int .i64 ry,.int .i64 ra] 54) none)) (by simp);have c0:=hid (B1.cell 0);have c1:=hid (B1.cell 1);have c2:=hid (B1.cell 2);have c3:=hid (B1.cell 3);have c4:=hid (B1.cell 4);have Vz:(((w.alloc (.cells #[.int .i64 rs,.int .i64 ao,.int .i64 ak,.int .i64 ay,.int .i64 aa] 54)).alloc (.cells #[.int .i64 rs,.int .i64 ro,.int .i64 rk,.int .i64 ry,.int .i64 ra] 54)).drew).cell? ⟨w.heap.size+1,1,none⟩=some (.int .i64 ro):=by simp
  have c5:=hid Vz;clear Vz;clear B1
  go_region_held3 (fun w'=>w'.cell? ⟨w.heap.size,0,none⟩=some (.int .i64 rs)/\w'.cell? ⟨w.heap.size,1,none⟩=some (.int .i64 ao)/\w'.cell? ⟨w.heap.size,2,none⟩=some (.int .i64 ak)/\w'.cell? ⟨w.heap.size,3,none⟩=some (.int .i64 ay)/\w'.cell? ⟨w.heap.size,4,none⟩=some (.int .i64 aa)/\w'.cell? ⟨w.heap.size+1,1,none⟩=some (.int .i64 ro))
   (go_keep)
   (first | (go_at_call 152; refine (cS.o _).mono ?_; rintro e w' ⟨rfl,hq⟩; have s0:=yb c0.o hq; have s1:=yb c1.o hq; have s2:=yb c2.o hq; have s3:=yb c3.o hq; have s4:=yb c4.o hq; have s5:=yb c5.o hq))
  go_wp2;go_ret;exact ⟨ye.of (by rw [mR.o,decide_eq_true_iff,IntWalk.i64_in (4 * sp) ⟨by omega,by omega⟩,IntWalk.i64_in _ ⟨by omega,by omega⟩]),ya (ya (G1.o _) (yg (G2.o _ _))) hq⟩
 ·have mR:=hid (show Q↔gu < rs from by rw [HQ.o,if_neg e1]);have d1:(rs == gu)=false:=beq_eq_false_iff_ne.2 e1;clear HQ e1;go_enter Tryz.func124,Tryz.ntmps124;go_wp2;go_ret;exact ⟨ye.of (by rw [mR.o,decide_eq_true_iff]),ya (G1.o _) (G2.o _ _)⟩
def yv (o:Lk.Obj) (r:Lk.Rel):Prop:=0<=r.off/\r.off % 4=0/\r.off / 4+yo r<=(ym o r.ah).length
def yF (o:Lk.Obj) (r:Lk.Rel):List Int:=((ym o r.ah).drop (r.off / 4).toNat).take (yo r).toNat
theorem Ww (g:Nat) (o:Lk.Obj) (r:Lk.Rel) (w:World) (h:yw w g o) (hn:ou o) (ha:yk r) (hab:yv o r) :
  Calls Tryz.prog 150 #[.pointer (some ⟨g,0,none⟩),fM r] w fun e w'=>∃ ao cap,e = .returned (.slice ao (yo r).toNat cap)/\yn w' ao (yF o r)/\w.grownBy w' none:=by
 obtain ⟨b1,b2,b3⟩:=hab;have hsp:=yD ha;have cS:=hid (fun W=>Qp r W ha.six);have cW:=hid (fun W (hW:yw W g o)=>Ul g o r.ah W hW);have hsm:=yB hn r.ah;have G:=hid (fun ob:Obj=>aW w ob none);have H:=hid h;unfold yF;clear h hn ha;generalize yo r=sp at *;obtain ⟨n,rfl⟩:=Int.eq_ofNat_of_zero_le (show 0<=sp from by omega);generalize ym o r.ah=ws at *;obtain ⟨ah,off,kind,sym,addend⟩:=r;unfold fM at *;simp only at *;obtain ⟨k,hk⟩:∃ k:Nat,off=4 * (k:Int):=⟨(off / 4).toNat,by omega⟩
 have e1:off / 4=(k:Int):=by omega
 have e2:(off / 4).toNat=k:=by omega
 rw [e2,Int.toNat_natCast];rw [e1] at b3;have HE1:=hid e1;clear e1 e2;subst hk;clear b1 b2;have hkn:k+n<=ws.length:=by omega
 have hn1:1<=n:=by omega
 have hn3:n<=3:=by omega
 clear b3 hsp;go_enter Tryz.func150,Tryz.ntmps150;go_wp2_with fail;refine (cW.o _ (H.o.kept (G.o _))).mono ?_;rintro e w1 ⟨ao,cap,rfl,⟨hI,hc1,hc2⟩,hw1⟩;have B:=yd.new w #[.int .i64 ah,.int .i64 (4 * (k:Int)),.int .i64 kind,.int .i64 sym,.int .i64 addend] 54;have GG:=G.o (.cells #[.int .i64 ah,.int .i64 (4 * (k:Int)),.int .i64 kind,.int .i64 sym,.int .i64 addend] 54);rw [<- hw1] at hI B GG;clear hw1;unfold maxLen at hc2;obtain ⟨g',off',rfl,hcell⟩:=hI (by omega);have HI:=hid hcell;have k0:=B.cell 0;have k1:=B.cell 1;have k2:=B.cell 2;have k3:=B.cell 3;have k4:=B.cell 4;have HB:=hid B;have L9:=hid GG
 clear B GG hI hcell;go_wp2_with fail;refine (cS.o _).mono ?_;rintro e w2 ⟨rfl,hq⟩;have m1:=yb k1 hq;have HQ:=hid hq;clear k0 k1 k2 k3 k4 hq HB;go_wp2;go_ret;refine ⟨some ⟨g',off'+k,none⟩,cap - k,?_,?_,ya L9.o HQ.o⟩
 ·show Ending.returned (.slice (some ⟨g',off'+k,none⟩) (k+n - k) (cap - k))=_;rw [Nat.add_sub_cancel_left]
 ·intro _;refine ⟨g',off'+k,rfl,fun i hi=>?_⟩;have hi':k+i < ws.length:=by simp at hi; omega
  have:=yb (HI.o (k+i) hi') HQ.o
  rw [Nat.add_assoc,this];simp
theorem WT (g:Nat) (o:Lk.Obj) (r:Lk.Rel) (w:World) (h:yw w g o) (hn:ou o) (ha:yk r) (hab:¬ yv o r) (hr:r.off<=9223372036854775807) :
  Calls Tryz.prog 150 #[.pointer (some ⟨g,0,none⟩),fM r] w fun e w'=>e = .returned (.slice none 0 0)/\w.grownBy w' none:=by
 have hsp:=yD ha;have cS:=hid (fun W=>Qp r W ha.six);have cW:=hid (fun W (hW:yw W g o)=>Ul g o r.ah W hW);have hsm:=yB hn r.ah;have G:=hid (fun ob:Obj=>aW w ob none);have H:=hid h;unfold yv at hab;clear h hn ha;generalize yo r=sp at *;generalize ym o r.ah=ws at *;obtain ⟨ah,off,kind,sym,addend⟩:=r;unfold fM at *;simp only at *;have D1:decide (sp < 1)=false:=by simp; omega
 go_enter Tryz.func150,Tryz.ntmps150;go_wp2_with fail;refine (cW.o _ (H.o.kept (G.o _))).mono ?_;rintro e w1 ⟨ao,cap,rfl,-,hw1⟩;have B:=yd.new w #[.int .i64 ah,.int .i64 off,.int .i64 kind,.int .i64 sym,.int .i64 addend] 54;have GG:=G.o (.cells #[.int .i64 ah,.int .i64 off,.int .i64 kind,.int .i64 sym,.int .i64 addend] 54);rw [<- hw1] at B GG;clear hw1;have k0:=B.cell 0;have k1:=B.cell 1;have k2:=B.cell 2;have k3:=B.cell 3;have k4:=B.cell 4;have L9:=hid GG;clear B GG;go_wp2_with fail;refine (cS.o _).mono ?_;rintro e w2 ⟨rfl,hq⟩;have m1:=yb k1 hq;have HQ:=hid hq;clear k0 k1 k2 k3 k4 hq;by_cases b1:off < 0
 ·have d1:decide (off < 0)=true:=by simpa using b1
  clear hab;go_wp2;go_ret;exact ⟨rfl,ya L9.o HQ.o⟩
 have b1':0<=off:=by omega
 have d1:decide (off < 0)=false:=by simp; omega
 by_cases b2:off % 4=0
 ·have d2:(off % 4 == 0)=true:=by simpa using b2
  have b3:(ws.length:Int) - sp < off / 4:=by omega
  clear hab b2;go_wp2;go_ret;exact ⟨rfl,ya L9.o HQ.o⟩
 ·have d2:(off % 4 == 0)=false:=by simpa using b2
  clear hab b2;go_wp2;go_ret;exact ⟨rfl,ya L9.o HQ.o⟩
def yN (o:Lk.Obj) (r:Lk.Rel):Prop:=∃ i,∃ h:i < o.syms.length,o.syms[i].ah=r.ah/\r.off < o.syms[i].off/\o.syms[i].off < r.off+4 * yo r
theorem Wu (g:Nat) (o:Lk.Obj) (r:Lk.Rel) (w:World) (h:yw w g o) (hn:ou o) (ha:yk r) (h0:0<=r.off) (h1:r.off<=1048576) :
  Calls Tryz.prog 151 #[.pointer (some ⟨g,0,none⟩),fM r] w fun e w'=>ye e (yN o r)/\w.grownBy w' none:=by
 have hsp:=yD ha;have cS:=hid (fun W=>Qp r W ha.six);obtain ⟨at_,ct,af,cf,ad,cd,aa,ca,gu,cs,ar,cr,hb,-,-,-,-,q5,-⟩:=h.open;have S:=hid (nS.aF q5);have HB:=hid hb;have hns:=hn.2.2.2.2.1;have G:=hid (fun ob:Obj=>aW w ob none);have HQ:=hid (show yN o r↔∃ i,∃ h:i < o.syms.length,o.syms[i].ah=r.ah/\r.off < o.syms[i].off/\o.syms[i].off < r.off+4 * yo r from Iff.rfl);clear h hb hn ha q5;generalize yN o r=Q at *;generalize yo r=sp at *;generalize o.syms=ys at *;obtain ⟨ah,off,kind,sym,addend⟩:=r;unfold fM at *;simp only at *;have B:=yd.new w #[.int .i64 ah,.int .i64 off,.int .i64 kind,.int .i64 sym,.int .i64 addend] 54
 have c0:=hid (show (w.alloc (.cells #[.int .i64 ah,.int .i64 off,.int .i64 kind,.int .i64 sym,.int .i64 addend] 54)).drew.cell? ⟨w.heap.size,0,none⟩=some (.int .i64 ah) from B.cell 0);have c1:=hid (show (w.alloc (.cells #[.int .i64 ah,.int .i64 off,.int .i64 kind,.int .i64 sym,.int .i64 addend] 54)).drew.cell? ⟨w.heap.size,1,none⟩=some (.int .i64 off) from B.cell 1);have c2:=hid (show (w.alloc (.cells #[.int .i64 ah,.int .i64 off,.int .i64 kind,.int .i64 sym,.int .i64 addend] 54)).drew.cell? ⟨w.heap.size,2,none⟩=some (.int .i64 kind) from B.cell 2);have c3:=hid (show (w.alloc (.cells #[.int .i64 ah,.int .i64 off,.int .i64 kind,.int .i64 sym,.int .i64 addend] 54)).drew.cell? ⟨w.heap.size,3,none⟩=some (.int .i64 sym) from B.cell 3)
 have c4:=hid (show (w.alloc (.cells #[.int .i64 ah,.int .i64 off,.int .i64 kind,.int .i64 sym,.int .i64 addend] 54)).drew.cell? ⟨w.heap.size,4,none⟩=some (.int .i64 addend) from B.cell 4);have wN:=hid B;clear B;have hw4:IntKind.i64.wrap (4 * sp)=4 * sp:=IntWalk.i64_in _ ⟨by omega,by omega⟩;have Zw:IntKind.i64.wrap (off+4 * sp)=off+4 * sp:=IntWalk.i64_in _ ⟨by omega,by omega⟩;go_enter Tryz.func151,Tryz.ntmps151;go_wp2
 go_region_held3 (fun w'=>w'.cell? ⟨w.heap.size,0,none⟩=some (.int .i64 ah)/\w'.cell? ⟨w.heap.size,1,none⟩=some (.int .i64 off)/\w'.cell? ⟨w.heap.size,2,none⟩=some (.int .i64 kind)/\w'.cell? ⟨w.heap.size,3,none⟩=some (.int .i64 sym)/\w'.cell? ⟨w.heap.size,4,none⟩=some (.int .i64 addend))
  (go_keep)
  (first | (go_at_call 152; refine (cS.o _).mono ?_; rintro e w' ⟨rfl,hq⟩; have s0:=yb c0.o hq; have s1:=yb c1.o hq; have s2:=yb c2.o hq; have s3:=yb c3.o hq; have s4:=yb c4.o hq))
 have GW:=hid (ya (yg (G.o (.cells #[.int .i64 ah,.int .i64 off,.int .i64 kind,.int .i64 sym,.int .i64 addend] 54))) hq);have k5:=(HB.o.grown GW.o (by simp)).cell 5;have HR:=hid (wN.o.grown (ya (yg (World.grownBy.refl _ _)) hq) (by simp));clear hq s0 s1 s2 s3 s4 hw4 Zw c0 c1 c2 c3 c4;go_wp2
 go_loopw [19] (fun i wr=>∃ k:Nat,k<=ys.length/\i = .int .i64 k/\(∀ j (hj:j < ys.length),j < k->¬ (ys[j].ah=ah/\off < ys[j].off/\ys[j].off < off+4 * sp))/\w'.grownBy wr none) (fun i _=>ys.length - (intOf i).toNat)
 case atStart=>exact ⟨0,Nat.zero_le _,rfl,fun j _ hj=>absurd hj (Nat.not_lt_zero j),World.grownBy.refl _ _⟩
 case round =>
  obtain ⟨k,hk,rfl,hall,hgr⟩:=hrel;have HA:=hid hall;have HG:=hid hgr;clear hall hgr;by_cases hlt:k < ys.length
  ·obtain ⟨sg,hao,hgs,hc⟩:=(S.o.grown GW.o).grown HG.o (by omega);subst hao;obtain ⟨q0,q1,q2,q3⟩:=hc k hlt;have RB:=HR.o.grown HG.o (by simp);have hne:=RB.lt;have r0:=RB.cell 0;have r1:=RB.cell 1;have hnn:w.heap.size≠wr.heap.size:=by omega
   clear hc RB;have GA:=hid (fun ob:Obj=>aW wr ob none);by_cases e1:ys[k].ah=ah
   ·have d1:(ys[k].ah == ah)=true:=beq_iff_eq.2 e1;by_cases e2:off < ys[k].off
    ·have d2:decide (off < ys[k].off)=true:=by simpa using e2
     by_cases e3:ys[k].off < off+4 * sp
     ·have d3:decide (ys[k].off < off+4 * sp)=true:=by simpa using e3
      have N:=hid (show Q from HQ.o.2 ⟨k,hlt,e1,e2,e3⟩);clear e1;go_wp2;go_ret;exact ⟨ye.yes N.o,ya (ya GW.o HG.o) (GA.o _)⟩
     ·have d3:decide (ys[k].off < off+4 * sp)=false:=by simp; omega
      have N:=hid (show ¬ (ys[k].ah=ah/\off < ys[k].off/\ys[k].off < off+4 * sp) from fun h=>e3 h.2.2);clear e1 e3;go_wp2
      go_roundw
      case rel=>exact ⟨k+1,by omega,by go_num,fun j hj hjk=>(Nat.lt_succ_iff_lt_or_eq.1 hjk).elim (fun h=>HA.o j hj h) (fun h=>by subst h; exact N.o),ya HG.o (GA.o _)⟩
      case measure=>simp [intOf]; omega
    ·have d2:decide (off < ys[k].off)=false:=by simp; omega
     have N:=hid (show ¬ (ys[k].ah=ah/\off < ys[k].off/\ys[k].off < off+4 * sp) from fun h=>e2 h.2.1);clear e1 e2;go_wp2
     go_roundw
     case rel=>exact ⟨k+1,by omega,by go_num,fun j hj hjk=>(Nat.lt_succ_iff_lt_or_eq.1 hjk).elim (fun h=>HA.o j hj h) (fun h=>by subst h; exact N.o),ya HG.o (GA.o _)⟩
     case measure=>simp [intOf]; omega
   ·have d1:(ys[k].ah == ah)=false:=beq_eq_false_iff_ne.2 e1;have N:=hid (show ¬ (ys[k].ah=ah/\off < ys[k].off/\ys[k].off < off+4 * sp) from fun h=>e1 h.1);clear e1;go_wp2
    go_roundw
    case rel=>exact ⟨k+1,by omega,by go_num,fun j hj hjk=>(Nat.lt_succ_iff_lt_or_eq.1 hjk).elim (fun h=>HA.o j hj h) (fun h=>by subst h; exact N.o),ya HG.o (GA.o _)⟩
    case measure=>simp [intOf]; omega
  ·go_wp2;go_ret;exact ⟨ye.no (fun hq=>by obtain ⟨i,hi,hh⟩:=HQ.o.1 hq; exact HA.o i hi (by omega) hh),ya GW.o HG.o⟩
theorem Uj (a b:Nat) (ha:a < 9223372036854775808) (hb:b < 9223372036854775808):bits .and .i64 (a:Int) (b:Int)=((a &&& b:Nat):Int):=by
 have hx:a &&& b < 2 ^ 63:=Nat.and_lt_two_pow _ (by omega);show IntKind.i64.wrap ((BitVec.ofInt 64 (a:Int) &&& BitVec.ofInt 64 (b:Int)).toNat:Int)=_;rw [BitVec.toNat_and,ofInt_u64 a (by omega),ofInt_u64 b (by omega)];exact IntWalk.i64_in _ ⟨by omega,by omega⟩
theorem Dk (a b:Nat) (ha:a < 9223372036854775808) (hb:b < 9223372036854775808):bits .or .i64 (a:Int) (b:Int)=((a ||| b:Nat):Int):=by
 have hx:a ||| b < 2 ^ 63:=Nat.or_lt_two_pow (by omega) (by omega);show IntKind.i64.wrap ((BitVec.ofInt 64 (a:Int) ||| BitVec.ofInt 64 (b:Int)).toNat:Int)=_;rw [BitVec.toNat_or,ofInt_u64 a (by omega),ofInt_u64 b (by omega)];exact IntWalk.i64_in _ ⟨by omega,by omega⟩
theorem UA (n:Int) (k:Nat) (hk:k<=40) (m:Int) (hm:m=(2:Int) ^ k - 1) (h0:0<=n) (h1:n<=4294967295):bits .and .i64 n m=n % (2:Int) ^ k:=by
 obtain ⟨a,rfl⟩:=Int.eq_ofNat_of_zero_le h0;have hp:0 < 2 ^ k:=Nat.two_pow_pos k;have hq:2 ^ k<=2 ^ 40:=Nat.pow_le_pow_right (by decide) hk;have e:m=((2 ^ k - 1:Nat):Int):=by
  rw [hm,Int.natCast_sub hp];simp
 rw [e,Uj a _ (by omega) (by omega),Nat.and_two_pow_sub_one_eq_mod];simp
theorem or_zero (a b:Int) (ha:0<=a) (ha':a < 9223372036854775808) (hb:0<=b) (hb':b < 9223372036854775808):0<=bits .or .i64 a b/\(bits .or .i64 a b=0↔a=0/\b=0):=by
 obtain ⟨x,rfl⟩:=Int.eq_ofNat_of_zero_le ha;obtain ⟨y,rfl⟩:=Int.eq_ofNat_of_zero_le hb;rw [Dk x y (by omega) (by omega)];refine ⟨by omega,?_⟩;constructor
 ·intro h;have h':x ||| y=0:=by omega
  have hx:x<=x ||| y:=Nat.left_le_or;have hy:y<=x ||| y:=Nat.right_le_or;omega
 ·rintro ⟨h1,h2⟩
  have:x=0:=by omega
  have:y=0:=by omega
  subst x y;simp
theorem Jq (a b:Int) (k:Nat) (hk:k<=60) (ha:0<=a) (ha':a < (2:Int) ^ k) (hb:0<=b) (hb':b < (2:Int) ^ k):bits .or .i64 a b < (2:Int) ^ k:=by
 obtain ⟨x,rfl⟩:=Int.eq_ofNat_of_zero_le ha;obtain ⟨y,rfl⟩:=Int.eq_ofNat_of_zero_le hb;have e:((2 ^ k:Nat):Int)=(2:Int) ^ k:=by simp
 rw [<- e] at ha' hb' ⊢;have hq:2 ^ k<=2 ^ 60:=Nat.pow_le_pow_right (by decide) hk
 have:=Nat.or_lt_two_pow (x:=x) (y:=y) (n:=k) (by omega) (by omega)
 rw [Dk x y (by omega) (by omega)];omega
theorem Uq (a b:Nat) (k:Nat):a &&& (b <<< k)=((a >>> k) &&& b) <<< k:=by
 apply Nat.eq_of_testBit_eq;intro i;simp only [Nat.testBit_and,Nat.testBit_shiftLeft,Nat.testBit_shiftRight];by_cases h:k<=i
 ·simp [h]
 ·simp [h]
theorem UZ (a b k:Nat) (h:a < 2 ^ k):a ||| (b <<< k)=a+b * 2 ^ k:=by
 rw [Nat.or_comm,<- Nat.shiftLeft_add_eq_or_of_lt h,Nat.shiftLeft_eq];omega
theorem BJ (n:Int) (h0:0<=n) (h1:n<=4294967295):bits .and .i64 n 28799=n % 128+4096 * (n / 4096 % 8):=by
 obtain ⟨a,rfl⟩:=Int.eq_ofNat_of_zero_le h0;have e:(28799:Int)=((127 ||| (7 <<< 12):Nat):Int):=by decide
 rw [e,Uj a _ (by omega) (by decide),Nat.and_or_distrib_left,Uq];have e1:a &&& 127=a % 128:=Nat.and_two_pow_sub_one_eq_mod a 7;have e2:(a >>> 12) &&& 7=a / 4096 % 8:=by rw [Nat.shiftRight_eq_div_pow]; exact Nat.and_two_pow_sub_one_eq_mod _ 3
 rw [e1,e2,UZ _ _ 12 (by omega)];omega
theorem KS (n:Int) (h0:0<=n) (h1:n<=4294967295):bits .and .i64 n 4261441663=n % 128+4096 * (n / 4096 % 8)+33554432 * (n / 33554432):=by
 obtain ⟨a,rfl⟩:=Int.eq_ofNat_of_zero_le h0;have e:(4261441663:Int)=(((127 ||| (7 <<< 12)) ||| (127 <<< 25):Nat):Int):=by decide
 rw [e,Uj a _ (by omega) (by decide),Nat.and_or_distrib_left,Nat.and_or_distrib_left,Uq,Uq];have e1:a &&& 127=a % 128:=Nat.and_two_pow_sub_one_eq_mod a 7;have e2:(a >>> 12) &&& 7=a / 4096 % 8:=by rw [Nat.shiftRight_eq_div_pow]; exact Nat.and_two_pow_sub_one_eq_mod _ 3
 have e3:(a >>> 25) &&& 127=a / 33554432 % 128:=by rw [Nat.shiftRight_eq_div_pow]; exact Nat.and_two_pow_sub_one_eq_mod _ 7
 rw [e1,e2,e3,UZ _ _ 12 (by omega),UZ _ _ 25 (by omega)];omega
theorem U2 (n:Int) (h0:0<=n) (h1:n<=4294967295):bits .and .i64 n 127=n % 128:=UA n 7 (by decide) 127 rfl h0 h1
theorem ymi (n:Int) (h0:0<=n) (h1:n<=4294967295):bits .and .i64 n 4294967295=n:=by
 rw [UA n 32 (by decide) 4294967295 rfl h0 h1];simp only [Int.reducePow];omega
theorem Tryz.zQ:(Tryz.prog.info? 5).map (fun i=>(i.zero,i.size,i.bytes))=some (some (.int .u8 0),1,1):=by kernel_rfl
def uT (l:List UInt8):List Value:=l.map fun c=>.int .u8 c.toNat
def iH (W:World) (b:Nat) (l:List UInt8):Prop :=
 ∃ ao cap,yd W b #[.slice ao l.length cap] 83/\W.ownsRow (b+1) 5 1 (.slice ao l.length cap) l.length (uT l)
theorem ykp (W:World):iH (W.alloc (.cells #[.slice none 0 0] 83)) W.heap.size [] :=
 ⟨none,0,yd.new W _ _,World.ownsRow_nil _ _ _ _⟩
theorem yiA (n:Int):bits .and .i64 n 255=n % 256:=by
 have Rh:(BitVec.ofInt 64 255).toNat=2 ^ 8 - 1:=by decide
 have key:(BitVec.ofInt 64 n &&& BitVec.ofInt 64 255).toNat=(n % ((2 ^ 64:Nat):Int)).toNat % 2 ^ 8:=by
  rw [BitVec.toNat_and,BitVec.toNat_ofInt,Rh,Nat.and_two_pow_sub_one_eq_mod]
 show IntKind.i64.wrap ((BitVec.ofInt 64 n &&& BitVec.ofInt 64 255).toNat:Nat)=n % 256;rw [key,IntKind.wrap_i64];omega
def Ew (x:Int):UInt8:=UInt8.ofNat (x % 256).toNat
theorem yjT (x:Int):((Ew x).toNat:Int)=bits .and .i64 x 255 % 256:=by
 rw [yiA];unfold Ew;rw [UInt8.toNat_ofNat'];omega
theorem yjU {w:World} {base:Nat} {v:Value} {n:Nat} {xs:List Value} {x:Int} (h:w.ownsRow base 5 1 v n (xs ++ [.int .u8 (bits .and .i64 x 255 % 256)])):w.ownsRow base 5 1 v n (xs ++ [.int .u8 (Ew x).toNat]):=by
 rw [yjT]; exact h
def IC (b:Nat) (w w':World):Prop:=∀ k cs t,k≠b->t≠5->yd w k cs t->yd w' k cs t
theorem IC.refl (b:Nat) (w:World):IC b w w:=fun _ _ _ _ _ h=>h
theorem IC.trans {b:Nat} {x y z:World} (h:IC b x y) (k:IC b y z):IC b x z:=fun i cs t hi ht hb=>k i cs t hi ht (h i cs t hi ht hb)
def Wk (b:Nat) (w w':World):Prop:=Below b w w'/\IC b w w'
theorem Wk.refl (b:Nat) (w:World):Wk b w w:=⟨Below.refl _ _,IC.refl _ _⟩
theorem Wk.trans {b:Nat} {x y z:World} (h:Wk b x y) (k:Wk b y z):Wk b x z:=⟨h.1.trans k.1,h.2.trans k.2⟩
theorem Wk.alloc {b:Nat} {x y:World} (h:Wk b x y) (hb:b<=y.heap.size) (o:Obj):Wk b x (y.alloc o) :=
 ⟨h.1.alloc hb o,h.2.trans fun _ _ _ _ _ hk=>hk.grown (aW y o none) (by simp)⟩
theorem yjP {wr w1:World} {b:Nat} {o:Obj} {base:Nat} {v0:Value} {n:Nat} {xs:List Value} (hown:wr.ownsRow base 5 1 v0 n xs) (hg:(wr.alloc o).grownBy w1 v0.ownBlock) (v:Value):IC b wr (w1.setCell ⟨b,0,none⟩ v):=by
 intro k cs t hk ht hb;have h1:=hb.grown (aW wr o none) (by simp);have h2:yd w1 k cs t:=h1.grown hg (by
  rcases hown.2 with ⟨rfl,_⟩ | ⟨g,cap,cur,rfl,_,hh,_⟩
  ·simp [Value.ownBlock]
  ·intro e;simp only [Value.ownBlock,Option.some.injEq] at e;subst e;unfold yd at hb;rw [hb] at hh;simp only [Option.some.injEq,Obj.cells.injEq] at hh;exact ht hh.2.1)
 exact h2.grown (yy w1 b 0 v) (by simpa using hk)
theorem UO {w wr w1:World} {b:Nat} {l:List UInt8} {ao:Option Addr} {cap:Nat} {o:Obj} {v:Value} {c:UInt8} (hb:yd wr b #[.slice ao l.length cap] 83) (hwk:Wk b w wr) (hown0:wr.ownsRow (b+1) 5 1 (.slice ao l.length cap) l.length (uT l))
  (hg:(wr.alloc o).grownBy w1 (Value.ownBlock (.slice ao l.length cap))) (hrow:∀ g,Value.ownBlock (.slice ao l.length cap)=some g->b+1<=g) (hown:w1.ownsRow (b+1) 5 1 v (l.length+1) (uT l ++ [.int .u8 c.toNat])) :
  iH (w1.setCell ⟨b,0,none⟩ v) b (l ++ [c])/\Wk b w (w1.setCell ⟨b,0,none⟩ v):=by
 have hkt:=yjP (b:=b) hown0 hg v;have hB1:yd w1 b #[.slice ao l.length cap] 83:=(hb.grown (aW wr o none) (by simp)).grown hg (fun e=>by have:=hrow b e.symm; omega);obtain ⟨eP,cap',rfl⟩:=yi hown;have hlen:(l ++ [c]).length=l.length+1:=by simp
 refine ⟨⟨eP,cap',?_,?_⟩,?_⟩
 ·rw [hlen];exact hB1.set 0 _
 ·have e:uT (l ++ [c])=uT l ++ [.int .u8 c.toNat]:=by simp [uT]
  rw [hlen,e];exact ownsRow_setCell_below hown (Nat.lt_succ_self b) _
 ·refine ⟨?_,hwk.2.trans hkt⟩;exact ((hwk.1.alloc (Nat.le_of_lt hb.lt) o).grown hg (by have:=hb.lt; simp; omega) (fun g hg=>by have:=hrow g hg; omega)).setCell (Nat.le_refl b) _
theorem LY {wr w1:World} {b:Nat} {cs:Array Value} {t:TypeId} {o:Obj} {row:Option Nat} (hb:yd wr b cs t) (hg:(wr.alloc o).grownBy w1 row) (hrow:∀ g,row=some g->b+1<=g):yd w1 b cs t :=
 (hb.grown (aW wr o none) (by simp)).grown hg (fun e=>by have:=hrow b e.symm; omega)
theorem WQ (b:Nat) (n:Int) (size:Nat) (l:List UInt8) (w:World) (h:iH w b l) (hl:l.length<=16777216) (hs:size<=4) (hn0:-1099511627776<=n) (hn1:n<=1099511627776) :
  Calls Tryz.prog 42 #[.pointer (some ⟨b,0,none⟩),.int .i64 n,.int .i64 size] w fun e w'=>e = .returned (.tuple #[])/\iH w' b (l ++ Lk.le n size)/\Wk b w w':=by
 obtain ⟨i0,hi,hz0,hz1,hz2⟩:=info_parts Tryz.zQ;have H:=hid h;clear h;go_enter Tryz.func42,Tryz.ntmps42;go_wp2
 go_loopw [1,6] (fun m i wr=>∃ (k:Nat) (x:Int),k<=size/\i = .int .i64 k/\m = .int .i64 x/\-1099511627776<=x/\x<=1099511627776/\(∃ acc:List UInt8,acc.length=l.length+k/\iH wr b acc/\l ++ Lk.le n size=acc ++ Lk.le x (size - k))/\Wk b w wr) (fun _ i _=>size - (intOf i).toNat)
 case atStart=>exact ⟨0,n,Nat.zero_le _,rfl,rfl,hn0,hn1,⟨l,rfl,H.o,by simp⟩,Wk.refl _ _⟩
 case round =>
  obtain ⟨k,x,hk,rfl,rfl,hx0,hx1,hdone,hbel⟩:=hrel;have HD:=hid hdone;have HB:=hid hbel;clear hdone hbel;by_cases hlt:k < size
  ·obtain ⟨acc,hdl,hw,hle⟩:=HD.o;obtain ⟨ao,cap,hblk,hown⟩:=hw;have c0:=hblk.cell 0;have f0:=hblk.free 0;have hbl:=hblk.lt;have F9:=hid hblk;have O5:=hid hle;have O4:=hid hdl;have Rt:acc.length<=16777220:=by omega
   have hrow:=hid (show ∀ g,Value.ownBlock (.slice ao acc.length cap)=some g->b+1<=g from fun g hg=>(hown.lt g hg).1);clear hblk hle hdl HD;go_wp2_with (at_builtin; refine wpList_append_own _ rfl _ _ 76 rfl (b+1) 5 i0 (.int .u8 0) 1 1 Tryz.underlying76 hi hz0 hz1 hz2 rfl (by decide) (.slice ao acc.length cap) acc.length (uT acc) rfl (hown.alloc _) ⟨wr.heap.size,0,none⟩ 1 1 [.int .u8 (bits .and .i64 x 255 % 256)] rfl rfl (cell_one_new _ _ _) (by intro u hu; simp at hu; subst hu; rfl) (by unfold maxLen; omega) (by omega) (by simp; omega) ?_; intro v' w3 hown' hgrow _; obtain ⟨eP,cap',rfl⟩:=yi hown'; have m0:=(LY F9.o hgrow hrow.o).cell 0; have n0:=(LY F9.o hgrow hrow.o).free 0; have P:=hid (UO F9.o HB.o hown hgrow hrow.o (yjU hown')); clear hown' hgrow hown c0 f0)
   go_roundw
   case rel =>
    refine ⟨k+1,x / 256,by omega,by go_num,rfl,by omega,by omega,⟨acc ++ [Ew x],?_,P.o.1,?_⟩,P.o.2⟩
    ·have:=O4.o; simp; omega
    ·have e:size - k=(size - (k+1))+1:=by omega
     rw [O5.o,e];simp [Lk.le,Ew]
   case measure=>simp [intOf]; omega
  ·go_wp2
   go_end0
   obtain ⟨acc,hdl,hw,hle⟩:=HD.o;have e:size - k=0:=by omega
   rw [e] at hle;simp only [Lk.le,List.append_nil] at hle;rw [hle];exact ⟨rfl,hw,HB.o⟩
theorem Yb (s:ByteArray) (k:Nat) (h:k < s.size):(sl s).take (k+1)=(sl s).take k ++ [s[k]]:=by
 have h':k < s.data.toList.length:=by rw [Array.length_toList]; exact h
 unfold sl;rw [List.take_succ_eq_append_getElem h'];rfl
theorem XG (b:Nat) (s:ByteArray) (l:List UInt8) (w:World) (h:iH w b l) (hl:l.length<=16777216) (hs:s.size<=1048576) :
  Calls Tryz.prog 41 #[.pointer (some ⟨b,0,none⟩),.string s] w fun e w'=>e = .returned (.tuple #[])/\iH w' b (l ++ sl s)/\Wk b w w':=by
 obtain ⟨i0,hi,hz0,hz1,hz2⟩:=info_parts Tryz.zQ;have H:=hid h;clear h;go_enter Tryz.func41,Tryz.ntmps41;go_wp2
 go_loopw [4] (fun i wr=>∃ (k:Nat),k<=s.size/\i = .int .i64 k/\(∃ acc:List UInt8,acc.length=l.length+k/\iH wr b acc/\l ++ (sl s).take k=acc)/\Wk b w wr) (fun i _=>s.size - (intOf i).toNat)
 case atStart=>exact ⟨0,Nat.zero_le _,rfl,⟨l,rfl,H.o,by simp⟩,Wk.refl _ _⟩
 case round =>
  obtain ⟨k,hk,rfl,hdone,hbel⟩:=hrel;have HD:=hid hdone;have HB:=hid hbel;clear hdone hbel;by_cases hlt:k < s.size
  ·obtain ⟨acc,hdl,hw,hle⟩:=HD.o;obtain ⟨ao,cap,hblk,hown⟩:=hw;have c0:=hblk.cell 0;have f0:=hblk.free 0;have hbl:=hblk.lt;have F9:=hid hblk;have O5:=hid hle;have O4:=hid hdl;have Rt:acc.length<=33554432:=by omega
   have hrow:=hid (show ∀ g,Value.ownBlock (.slice ao acc.length cap)=some g->b+1<=g from fun g hg=>(hown.lt g hg).1);have HOW:=hid hown;have hne:=World.new_ne wr ⟨b,0,none⟩ (by simpa using c0);have g1:(0:Int)<=(k:Int):=by omega
   have g2:(k:Int) < (s.size:Int):=by omega
   have hA:Hd ((wr.alloc (.cells #[.int .u8 s[k].toNat] 5)).drew.ownsRow (b+1) 5 1 (.slice ao acc.length cap) acc.length (uT acc)):=(hown.alloc _).drew;have hN:Hd (∀ j u,[Value.int .u8 s[k].toNat][j]?=some u->(wr.alloc (.cells #[.int .u8 s[k].toNat] 5)).drew.cell? ((⟨wr.heap.size,0,none⟩:Addr).add j)=some u):=World.news_of_block (heap_alloc_new wr (.cells #[.int .u8 s[k].toNat] 5));have mh:Hd (∀ u∈[Value.int .u8 (s[k].toNat:Int)],u.oneCell'=true):=by intro u hu; simp at hu; subst hu; rfl
   have h63:Hd (acc.length+1<=maxLen):=by show _<=_; unfold maxLen; omega
   have hby:Hd ((acc.length+1) * 1<=140737488355328):=by show _<=_; omega
   have hbs:Hd (b+1<=(wr.alloc (.cells #[.int .u8 s[k].toNat] 5)).drew.heap.size):=by show _<=_; simp; omega
   have VE:Hd ((wr.alloc (.cells #[.int .u8 s[k].toNat] 5)).drew.heap.size=wr.heap.size+1):=by show _=_; simp
   clear hblk hle hdl HD hown;go_wp2;refine wp_region_any (by kernel_rfl) ?_
   change wpAny _ Region.Mode.any _ _ _ _ _ wr.drew
   refine wpAny_take (i:=0) (v:=?_) rfl (by kernel_rfl) (by kernel_rfl) (by kernel_rfl) (fun _ _ _ h=>h) (Or.inl ⟨by kernel_rfl,?_⟩) ?_
   rotate_left
   ·intro w; go_simp; with_reducible rfl
   refine wpAny_take (i:=1) (v:=?_) rfl (by kernel_rfl) (by kernel_rfl) (by kernel_rfl) (fun _ _ _ h=>h) (Or.inl ⟨by kernel_rfl,?_⟩) ?_
   rotate_left
   ·intro w; go_simp; with_reducible rfl
   refine wpAny_take (i:=2) (v:=?_) rfl (by kernel_rfl) (by kernel_rfl) (by kernel_rfl) (fun _ _ _ h=>h) (Or.inl ⟨by kernel_rfl,?_⟩) ?_
   rotate_left
   ·intro w; go_simp; with_reducible rfl
   refine wpAny_take (i:=3) (v:=?_) rfl (by kernel_rfl) (by kernel_rfl) (by kernel_rfl) (fun _ _ _ h=>h) (Or.inl ⟨by kernel_rfl,?_⟩) ?_
   rotate_left
   ·intro w; go_simp; with_reducible rfl
   refine wpAny_take (i:=5) (v:=?_) rfl (by kernel_rfl) (by kernel_rfl) (by kernel_rfl) (fun _ _ _ h=>h) (Or.inl ⟨by kernel_rfl,?_⟩) ?_
   rotate_left
   ·intro w; go_simp; with_reducible rfl
   refine wpAny_take (i:=6) (v:=?_) rfl (by kernel_rfl) (by kernel_rfl) (by kernel_rfl) (fun _ _ _ h=>h) (Or.inl ⟨by kernel_rfl,?_⟩) ?_
   rotate_left
   ·intro w; go_simp; with_reducible rfl
   refine wpAny_take (i:=7) (v:=?_) rfl (by kernel_rfl) (by kernel_rfl) (by kernel_rfl) (fun _ _ _ h=>h) (Or.inl ⟨by kernel_rfl,?_⟩) ?_
   rotate_left
   ·intro w; go_simp; with_reducible rfl
   refine wpAny_ready (rs:=[4,8]) (by kernel_rfl) (by simp) ?_;refine AllReady.cons rfl (fun K hK=>?_) (AllReady.cons rfl (fun K hK=>?_) AllReady.nil)
   ·go_simp;refine hK _ _ ?_;clear hK K;refine wpAny_ready (rs:=[8]) (by kernel_rfl) (by simp) ?_;refine AllReady.cons rfl (fun K hK=>?_) AllReady.nil;go_simp;refine hK _ _ ?_;clear hK K;refine wpAny_ready (rs:=[9]) (by kernel_rfl) (by simp) ?_;refine AllReady.cons rfl (fun K hK=>?_) AllReady.nil;rw [if_pos (by kernel_rfl)];refine wp_append_own _ (.tmp 15) (.tmp 19) 76 rfl (b+1) 5 i0 (.int .u8 0) 1 1 Tryz.underlying76 hi hz0 hz1 hz2 rfl (by decide) (.slice ao acc.length cap) acc.length (uT acc) (by kernel_rfl) hA.o ⟨wr.heap.size,0,none⟩ 1 1 [.int .u8 s[k].toNat] (by kernel_rfl) rfl hN.o mh.o h63.o hby.o hbs.o ?_
    intro v' w3 hown' hgrow _;obtain ⟨eP,cap',rfl⟩:=yi hown';have gd:(wr.alloc (.cells #[.int .u8 s[k].toNat] 5)).grownBy w3 (Value.ownBlock (.slice ao acc.length cap)):=⟨hgrow.os,hgrow.tape,hgrow.output,hgrow.size,hgrow.block⟩
    have m0:=(LY F9.o gd hrow.o).cell 0;have n0:=(LY F9.o gd hrow.o).free 0;have P:=hid (UO F9.o HB.o HOW.o gd hrow.o hown');clear hown' hgrow gd;refine hK _ _ ?_;clear hK K;refine wpAny_take (i:=10) (v:=?_) rfl (by kernel_rfl) (by kernel_rfl) (by kernel_rfl) (fun _ _ _ h=>h) (Or.inl ⟨by kernel_rfl,?_⟩) ?_
    rotate_left
    ·intro w; go_simp; with_reducible rfl
    refine wpAny_take (i:=11) (v:=?_) rfl (by kernel_rfl) (by kernel_rfl) (by kernel_rfl) (fun _ _ _ h=>h) (Or.inl ⟨by kernel_rfl,?_⟩) ?_
    rotate_left
    ·intro w; go_simp; with_reducible rfl
    refine wpAny_ready (rs:=[12]) (by kernel_rfl) (by simp) ?_;refine AllReady.cons rfl (fun K hK=>?_) AllReady.nil;go_simp;refine hK _ _ ?_;clear hK K;refine wpAny_done (by kernel_rfl) ?_ _;clear hA hN mh h63 hby hbs VE c0 f0 hne;go_wp2
    go_roundw
    case rel =>
     refine ⟨k+1,by omega,by go_num,⟨acc ++ [s[k]],?_,P.o.1,?_⟩,P.o.2⟩
     ·have:=O4.o; simp; omega
     ·rw [<- O5.o,List.append_assoc,Yb s k hlt]
    case measure=>simp [intOf]; omega
   ·go_simp;refine hK _ _ ?_;clear hK K;refine wpAny_ready (rs:=[4]) (by kernel_rfl) (by simp) ?_;refine AllReady.cons rfl (fun K hK=>?_) AllReady.nil;go_simp;refine hK _ _ ?_;clear hK K;refine wpAny_ready (rs:=[9]) (by kernel_rfl) (by simp) ?_;refine AllReady.cons rfl (fun K hK=>?_) AllReady.nil;rw [if_pos (by kernel_rfl)];refine wp_append_own _ (.tmp 15) (.tmp 19) 76 rfl (b+1) 5 i0 (.int .u8 0) 1 1 Tryz.underlying76 hi hz0 hz1 hz2 rfl (by decide) (.slice ao acc.length cap) acc.length (uT acc) (by kernel_rfl) hA.o ⟨wr.heap.size,0,none⟩ 1 1 [.int .u8 s[k].toNat] (by kernel_rfl) rfl hN.o mh.o h63.o hby.o hbs.o ?_
    intro v' w3 hown' hgrow _;obtain ⟨eP,cap',rfl⟩:=yi hown';have gd:(wr.alloc (.cells #[.int .u8 s[k].toNat] 5)).grownBy w3 (Value.ownBlock (.slice ao acc.length cap)):=⟨hgrow.os,hgrow.tape,hgrow.output,hgrow.size,hgrow.block⟩
    have m0:=(LY F9.o gd hrow.o).cell 0;have n0:=(LY F9.o gd hrow.o).free 0;have P:=hid (UO F9.o HB.o HOW.o gd hrow.o hown');clear hown' hgrow gd;refine hK _ _ ?_;clear hK K;refine wpAny_take (i:=10) (v:=?_) rfl (by kernel_rfl) (by kernel_rfl) (by kernel_rfl) (fun _ _ _ h=>h) (Or.inl ⟨by kernel_rfl,?_⟩) ?_
    rotate_left
    ·intro w; go_simp; with_reducible rfl
    refine wpAny_take (i:=11) (v:=?_) rfl (by kernel_rfl) (by kernel_rfl) (by kernel_rfl) (fun _ _ _ h=>h) (Or.inl ⟨by kernel_rfl,?_⟩) ?_
    rotate_left
    ·intro w; go_simp; with_reducible rfl
    refine wpAny_ready (rs:=[12]) (by kernel_rfl) (by simp) ?_;refine AllReady.cons rfl (fun K hK=>?_) AllReady.nil;go_simp;refine hK _ _ ?_;clear hK K;refine wpAny_done (by kernel_rfl) ?_ _;clear hA hN mh h63 hby hbs VE c0 f0 hne;go_wp2
    go_roundw
    case rel =>
     refine ⟨k+1,by omega,by go_num,⟨acc ++ [s[k]],?_,P.o.1,?_⟩,P.o.2⟩
     ·have:=O4.o; simp; omega
     ·rw [<- O5.o,List.append_assoc,Yb s k hlt]
    case measure=>simp [intOf]; omega
  ·go_wp2
   go_end0
   obtain ⟨acc,hdl,hw,hle⟩:=HD.o;rw [List.take_of_length_le (by rw [yx]; omega)] at hle;rw [hle];exact ⟨rfl,hw,HB.o⟩
theorem ykk (l:List UInt8):strOfNums (l.map fun c=>(c.toNat:Int))=bs l:=by
 unfold strOfNums bs;rw [List.map_map,List.map_congr_left (g:=id) (fun c _=>by simp),List.map_id]
theorem WL {w:World} {base:Nat} {ao:Option Addr} {cap:Nat} {l:List UInt8} (h:w.ownsRow base 5 1 (.slice ao l.length cap) l.length (uT l)) :
  (convert 76 9 (.slice ao l.length cap)).run Tryz.prog w = .ok (.string (bs l)) w:=by
 rcases h.2 with ⟨h1,h2⟩ | ⟨g,cap',cur,hv,_⟩
 ·simp only [Value.slice.injEq] at h1;obtain ⟨rfl,h3,rfl⟩:=h1
  have:l=[]:=List.length_eq_zero_iff.1 h3
  subst this;exact run_convert_bytes_nil w 76 5 Tryz.underlying76 Tryz.underlying5 _ _ 9 Tryz.underlying9
 ·simp only [Value.slice.injEq] at hv;obtain ⟨rfl,_,rfl⟩:=hv
  have:=run_convert_bytes_arg (P:=Tryz.prog) w 76 5 Tryz.underlying76 Tryz.underlying5 g 0 l.length cap (l.map fun c=>(c.toNat:Int)) (by simp) (fun i hi=>by
   have q:=h.cellAt i (by omega);rw [Nat.zero_add,q];simp [uT,hi]) 9 Tryz.underlying9
  rw [ykk] at this;exact this
theorem yiO (b:Nat) (l:List UInt8) (w:World) (h:iH w b l) :
  Calls Tryz.prog 46 #[.pointer (some ⟨b,0,none⟩)] w fun e w'=>e = .returned (.string (bs l))/\w'=w:=by
 obtain ⟨ao,cap,hblk,hown⟩:=h;have c0:=hblk.cell 0;have hr:=WL hown;clear hblk hown;go_enter Tryz.func46,Tryz.ntmps46;go_wp2;go_ret;exact ⟨rfl,rfl⟩
def Dl (e:Ending) (P:Prop):Prop:=∃ v,e = .returned (.int .i64 v)/\(v=0↔P)
theorem Dl.of {P:Prop} {v:Int} (h:v=0↔P):Dl (.returned (.int .i64 v)) P:=⟨v,rfl,h⟩
def yj (form n:Int):Prop :=
 if form=1\/form=2 then n / 4096=0 else if form=3 then n / 1048576=0 else if form=4\/form=5 then n / 33554432=0/\n / 128 % 32=0 else True
theorem low (n:Int) (k:Nat) (hk:k<=32) (m d:Int) (hm:m=(2:Int) ^ k - 1) (hd:d=(2:Int) ^ k) (h0:0<=n) (h1:n<=4294967295):bits .and .i64 n m=n % d:=by
 rw [hd]; exact UA n k (by omega) m hm h0 h1
theorem ykS (n:Int) (h0:0<=n) (h1:n<=4294967295):bits .and .i64 (n / 4096) 1048575=0↔yj 1 n:=by
 rw [low (n / 4096) 20 (by decide) 1048575 1048576 rfl rfl (by omega) (by omega)];unfold yj;rw [if_pos (.inl rfl)];omega
def t2 (n:Int):Int:=bits .or .i64 (bits .or .i64 (bits .or .i64 (wrap64 (bits .and .i64 (n / 2147483648) 1 * 1048576)) (wrap64 (bits .and .i64 (n / 4096) 255 * 4096))) (wrap64 (bits .and .i64 (n / 1048576) 1 * 2048))) (wrap64 (bits .and .i64 (n / 2097152) 1023 * 2))
theorem ykT (n:Int) (h0:0<=n) (h1:n<=4294967295):0<=t2 n/\t2 n < 2097152/\(t2 n=0↔yj 2 n):=by
 unfold t2;rw [low (n / 2147483648) 1 (by decide) 1 2 rfl rfl (by omega) (by omega),low (n / 4096) 8 (by decide) 255 256 rfl rfl (by omega) (by omega),low (n / 1048576) 1 (by decide) 1 2 rfl rfl (by omega) (by omega),low (n / 2097152) 10 (by decide) 1023 1024 rfl rfl (by omega) (by omega)];rw [IntWalk.wrap64_in (n / 2147483648 % 2 * 1048576) ⟨by omega,by omega⟩,IntWalk.wrap64_in (n / 4096 % 256 * 4096) ⟨by omega,by omega⟩,IntWalk.wrap64_in (n / 1048576 % 2 * 2048) ⟨by omega,by omega⟩,IntWalk.wrap64_in (n / 2097152 % 1024 * 2) ⟨by omega,by omega⟩];have a1:=or_zero (n / 2147483648 % 2 * 1048576) (n / 4096 % 256 * 4096) (by omega) (by omega) (by omega) (by omega)
 have l1:=Jq (n / 2147483648 % 2 * 1048576) (n / 4096 % 256 * 4096) 21 (by decide) (by omega) (by simp only [Int.reducePow]; omega) (by omega) (by simp only [Int.reducePow]; omega);generalize bits .or .i64 (n / 2147483648 % 2 * 1048576) (n / 4096 % 256 * 4096)=x1 at *;simp only [Int.reducePow] at l1;have a2:=or_zero x1 (n / 1048576 % 2 * 2048) (by omega) (by omega) (by omega) (by omega);have l2:=Jq x1 (n / 1048576 % 2 * 2048) 21 (by decide) (by omega) (by simp only [Int.reducePow]; omega) (by omega) (by simp only [Int.reducePow]; omega);generalize bits .or .i64 x1 (n / 1048576 % 2 * 2048)=x2 at *
 simp only [Int.reducePow] at l2;have a3:=or_zero x2 (n / 2097152 % 1024 * 2) (by omega) (by omega) (by omega) (by omega);have l3:=Jq x2 (n / 2097152 % 1024 * 2) 21 (by decide) (by omega) (by simp only [Int.reducePow]; omega) (by omega) (by simp only [Int.reducePow]; omega);simp only [Int.reducePow] at l3;refine ⟨a3.1,l3,?_⟩;rw [a3.2,a2.2,a1.2];unfold yj;rw [if_pos (.inr rfl)];omega
def t3 (n:Int):Int:=bits .and .i64 (n / 1048576) 4095
theorem ykU (n:Int) (h0:0<=n) (h1:n<=4294967295):0<=t3 n/\t3 n < 4096/\(t3 n=0↔yj 3 n):=by
 unfold t3;rw [low (n / 1048576) 12 (by decide) 4095 4096 rfl rfl (by omega) (by omega)];unfold yj;rw [if_neg (by decide),if_pos rfl];omega
def t4 (n:Int):Int:=bits .or .i64 (bits .or .i64 (bits .or .i64 (wrap64 (bits .and .i64 (n / 2147483648) 1 * 4096)) (wrap64 (bits .and .i64 (n / 128) 1 * 2048))) (wrap64 (bits .and .i64 (n / 33554432) 63 * 32))) (wrap64 (bits .and .i64 (n / 256) 15 * 2))
theorem ykV (n:Int) (h0:0<=n) (h1:n<=4294967295):0<=t4 n/\t4 n < 8192/\(t4 n=0↔yj 4 n):=by
 unfold t4;rw [low (n / 2147483648) 1 (by decide) 1 2 rfl rfl (by omega) (by omega),low (n / 128) 1 (by decide) 1 2 rfl rfl (by omega) (by omega),low (n / 33554432) 6 (by decide) 63 64 rfl rfl (by omega) (by omega),low (n / 256) 4 (by decide) 15 16 rfl rfl (by omega) (by omega)];rw [IntWalk.wrap64_in (n / 2147483648 % 2 * 4096) ⟨by omega,by omega⟩,IntWalk.wrap64_in (n / 128 % 2 * 2048) ⟨by omega,by omega⟩,IntWalk.wrap64_in (n / 33554432 % 64 * 32) ⟨by omega,by omega⟩,IntWalk.wrap64_in (n / 256 % 16 * 2) ⟨by omega,by omega⟩];have a1:=or_zero (n / 2147483648 % 2 * 4096) (n / 128 % 2 * 2048) (by omega) (by omega) (by omega) (by omega)
 have l1:=Jq (n / 2147483648 % 2 * 4096) (n / 128 % 2 * 2048) 13 (by decide) (by omega) (by simp only [Int.reducePow]; omega) (by omega) (by simp only [Int.reducePow]; omega);generalize bits .or .i64 (n / 2147483648 % 2 * 4096) (n / 128 % 2 * 2048)=x1 at *;simp only [Int.reducePow] at l1;have a2:=or_zero x1 (n / 33554432 % 64 * 32) (by omega) (by omega) (by omega) (by omega);have l2:=Jq x1 (n / 33554432 % 64 * 32) 13 (by decide) (by omega) (by simp only [Int.reducePow]; omega) (by omega) (by simp only [Int.reducePow]; omega);generalize bits .or .i64 x1 (n / 33554432 % 64 * 32)=x2 at *;simp only [Int.reducePow] at l2
 have a3:=or_zero x2 (n / 256 % 16 * 2) (by omega) (by omega) (by omega) (by omega);have l3:=Jq x2 (n / 256 % 16 * 2) 13 (by decide) (by omega) (by simp only [Int.reducePow]; omega) (by omega) (by simp only [Int.reducePow]; omega);simp only [Int.reducePow] at l3;refine ⟨a3.1,l3,?_⟩;rw [a3.2,a2.2,a1.2];unfold yj;rw [if_neg (by decide),if_neg (by decide),if_pos (.inl rfl)];omega
def t5 (n:Int):Int:=bits .or .i64 (wrap64 (bits .and .i64 (n / 33554432) 127 * 32)) (bits .and .i64 (n / 128) 31)
theorem ykW (n:Int) (h0:0<=n) (h1:n<=4294967295):0<=t5 n/\t5 n < 4096/\(t5 n=0↔yj 5 n):=by
 unfold t5;rw [low (n / 33554432) 7 (by decide) 127 128 rfl rfl (by omega) (by omega),low (n / 128) 5 (by decide) 31 32 rfl rfl (by omega) (by omega)];rw [IntWalk.wrap64_in (n / 33554432 % 128 * 32) ⟨by omega,by omega⟩];have a1:=or_zero (n / 33554432 % 128 * 32) (n / 128 % 32) (by omega) (by omega) (by omega) (by omega);have l1:=Jq (n / 33554432 % 128 * 32) (n / 128 % 32) 12 (by decide) (by omega) (by simp only [Int.reducePow]; omega) (by omega) (by simp only [Int.reducePow]; omega);simp only [Int.reducePow] at l1;refine ⟨a1.1,l1,?_⟩;rw [a1.2];unfold yj;rw [if_neg (by decide),if_neg (by decide),if_pos (.inr rfl)]
 omega
theorem PX (t d:Int) (P:Prop) (_h0:0<=t) (h1:t < d) (hd:d<=4294967296) (h:t=0↔P) (hge:1<=t):wrap64 (t - d)=0↔P:=by
 rw [IntWalk.wrap64_in _ ⟨by omega,by omega⟩,<- h];omega
theorem yge (form n:Int) (w:World) (h0:0<=n) (h1:n<=4294967295) :
  Calls Tryz.prog 167 #[.int .i64 form,.int .i64 n] w fun e w'=>Dl e (yj form n)/\w'=w:=by
 by_cases e1:form=1
 ·subst e1;go_enter Tryz.func167,Tryz.ntmps167;go_wp2;go_ret;exact ⟨Dl.of (ykS n h0 h1),rfl⟩
 by_cases e2:form=2
 ·subst e2;have T:=hid (ykT n h0 h1);clear e1;go_enter Tryz.func167,Tryz.ntmps167;go_wp2
  ·go_ret;exact ⟨Dl.of T.o.2.2,rfl⟩
  ·rename_i hx;go_ret;refine ⟨Dl.of (PX (t2 n) 2097152 _ T.o.1 T.o.2.1 (by decide) T.o.2.2 ?_),rfl⟩
   have:(1048576:Int)<=t2 n:=by assumption
   omega
 by_cases e3:form=3
 ·subst e3;have T:=hid (ykU n h0 h1);clear e1 e2;go_enter Tryz.func167,Tryz.ntmps167;go_wp2
  ·go_ret;exact ⟨Dl.of T.o.2.2,rfl⟩
  ·go_ret;refine ⟨Dl.of (PX (t3 n) 4096 _ T.o.1 T.o.2.1 (by decide) T.o.2.2 ?_),rfl⟩
   have:(2048:Int)<=t3 n:=by assumption
   omega
 by_cases e4:form=4
 ·subst e4;have T:=hid (ykV n h0 h1);clear e1 e2 e3;go_enter Tryz.func167,Tryz.ntmps167;go_wp2
  ·go_ret;exact ⟨Dl.of T.o.2.2,rfl⟩
  ·go_ret;refine ⟨Dl.of (PX (t4 n) 8192 _ T.o.1 T.o.2.1 (by decide) T.o.2.2 ?_),rfl⟩
   have:(4096:Int)<=t4 n:=by assumption
   omega
 by_cases e5:form=5
 ·subst e5;have T:=hid (ykW n h0 h1);clear e1 e2 e3 e4;go_enter Tryz.func167,Tryz.ntmps167;go_wp2
  ·go_ret;exact ⟨Dl.of T.o.2.2,rfl⟩
  ·go_ret;refine ⟨Dl.of (PX (t5 n) 4096 _ T.o.1 T.o.2.1 (by decide) T.o.2.2 ?_),rfl⟩
   have:(2048:Int)<=t5 n:=by assumption
   omega
 have T:=hid (show yj form n from by unfold yj; rw [if_neg (by omega),if_neg e3,if_neg (by omega)]; trivial);have d1:(form == 1)=false:=beq_eq_false_iff_ne.2 e1;have d2:(form == 2)=false:=beq_eq_false_iff_ne.2 e2;have d3:(form == 3)=false:=beq_eq_false_iff_ne.2 e3;have d4:(form == 4)=false:=beq_eq_false_iff_ne.2 e4;have d5:(form == 5)=false:=beq_eq_false_iff_ne.2 e5;clear e1 e2 e3 e4 e5;go_enter Tryz.func167,Tryz.ntmps167;go_wp2;go_ret;exact ⟨Dl.of ⟨fun _=>T.o,fun _=>rfl⟩,rfl⟩
def jh (form n:Int):Int:=if form=1\/form=2\/form=3\/form=6 then bits .and .i64 (n / 128) 31 else 0
def dO (form n:Int):Int:=if form=3\/form=4\/form=5\/form=6 then bits .and .i64 (n / 32768) 31 else 0
def Fe (form n:Int):Int:=if form=4\/form=5\/form=6 then bits .and .i64 (n / 1048576) 31 else 0
def lu (op rd bK dJ m:Int):Value:=.agg #[.int .i64 op,.int .i64 rd,.int .i64 bK,.int .i64 dJ,.int .i64 m]
def XV (e:Ending) (op form n:Int):Prop:=∃ m,e = .returned (lu op (jh form n) (dO form n) (Fe form n) m)/\(m=0↔yj form n)
theorem yix (op form n:Int) (w:World) (h0:0<=n) (h1:n<=4294967295) (hf:1<=form/\form<=7) :
  Calls Tryz.prog 166 #[.int .i64 op,.int .i64 form,.int .i64 n] w fun e w'=>XV e op form n/\w.grownBy w' none:=by
 have cT:=hid (fun W=>yge form n W h0 h1);have G1:=hid (fun o:Obj=>aW w o none);have G2:=hid (fun o o':Obj=>aW (w.alloc o) o' none);have Z:Hd (∀ m,(m=0↔yj form n)->∀ e,e=Ending.returned (lu op (jh form n) (dO form n) (Fe form n) m)->XV e op form n):=fun m hm e he=>⟨m,he,hm⟩
 have S:=hid (show ∀ (W:World) (a b:Nat) (cs zs:Array Value),True from fun _ _ _ _ _=>trivial);rcases (show form=1\/form=2\/form=3\/form=4\/form=5\/form=6\/form=7 from by omega) with rfl | rfl | rfl | rfl | rfl | rfl | rfl
 all_goals
  clear hf S;go_enter Tryz.func166,Tryz.ntmps166;go_wp2_with fail;refine (cT.o _).mono ?_;rintro e w1 ⟨⟨m,rfl,hm⟩,rfl⟩;have HM:=hid hm;clear hm cT;go_wp2;refine bodyPost_ret (v:=lu op (jh _ n) (dO _ n) (Fe _ n) m) ?_ rfl ⟨⟨m,rfl,HM.o⟩,ya (G1.o _) (G2.o _ _)⟩;simp [results,Tryz.results166,go_sem,lu,jh,dO,Fe]
def uP:List Int:=[0,1,1,2,3,4,4,4,4,4,4,3,5,3,3,3,3,3,6,6,6,6,6,6,6,7]
def FY:List Int:=[0,55,23,111,103,99,4195,16483,20579,24675,28771,8195,8227,19,8211,16403,24595,28691,51,1073741875,8243,12339,16435,24627,28723,115]
structure gD (w:World):Prop where
 form:∀ i,i < 26->w.cell? ⟨1,i,none⟩=some (.int .i64 (uP.getD i 0))
 fix:∀ i,i < 26->w.cell? ⟨2,i,none⟩=some (.int .i64 (FY.getD i 0))
theorem gD.grown {w w':World} (h:gD w) (hg:w.grownBy w' none):gD w':=⟨fun i hi=>yb (h.form i hi) hg,fun i hi=>yb (h.fix i hi) hg⟩
theorem gD.qZ {w w':World} (h:gD w) {b:Nat} (hg:w.grownBy w' (some b)) (hb:3<=b):gD w' :=
 ⟨fun i hi=>hg.cell (h.form i hi) (by simp; omega),fun i hi=>hg.cell (h.fix i hi) (by simp; omega)⟩
def Gm (form:Int):Int:=if form=1\/form=2 then 127 else if form=3\/form=4\/form=5 then 28799 else if form=6 then 4261441663 else 4294967295
theorem ygD (form:Int) (w:World) (hf:1<=form/\form<=7) :
  Calls Tryz.prog 165 #[.int .i64 form] w fun e w'=>e = .returned (.int .i64 (Gm form))/\w'=w:=by
 rcases (show form=1\/form=2\/form=3\/form=4\/form=5\/form=6\/form=7 from by omega) with rfl | rfl | rfl | rfl | rfl | rfl | rfl
 all_goals
  clear hf;go_enter Tryz.func165,Tryz.ntmps165;go_wp2;go_ret;exact ⟨by simp [Gm],rfl⟩
def Is (k:Nat) (n:Int):Prop:=bits .and .i64 n (Gm (uP.getD k 0))=FY.getD k 0
def Dec (n op rd bK m:Int):Prop :=
 (op=0/\rd=0/\bK=0/\m=0/\∀ k,1<=k->k<=25->¬ Is k n) \/
 ∃ k:Nat,1<=k/\k<=25/\Is k n/\(∀ j,1<=j->j < k->¬ Is j n)/\op=k/\rd=jh (uP.getD k 0) n/\bK=dO (uP.getD k 0) n/\(m=0↔yj (uP.getD k 0) n)
def ylf (e:Ending) (n:Int):Prop:=∃ op rd bK dJ m,e = .returned (lu op rd bK dJ m)/\Dec n op rd bK m
theorem TV (k:Nat) (h1:1<=k) (h2:k<=25):1<=uP.getD k 0/\uP.getD k 0<=7:=by
 have:∀ k,k < 26->1<=k->1<=uP.getD k 0/\uP.getD k 0<=7:=by decide
 exact this k (by omega) h1
theorem yz {w W:World} (h:w.grownBy W none) {b:Nat} (hb:w.heap.size<=b) (o:Nat) (v:Value):w.grownBy (W.setCell ⟨b,o,none⟩ v) none :=
 ⟨h.os,h.tape,h.output,by simpa [World.setCell] using h.size,fun i hi _=>(Below.heap_setCell W ⟨b,o,none⟩ v i (by simp; omega)).trans (h.block i hi (by simp))⟩
theorem Oj {w W:World} {a0 a1 a2 a3 a4:Value} (h:w.grownBy W none) (hB:yd W w.heap.size #[a0,a1,a2,a3,a4] 140) (b0 b1 b2 b3 b4:Value) :
  yd (((((W.setCell ⟨w.heap.size,0,none⟩ b0).setCell ⟨w.heap.size,1,none⟩ b1).setCell ⟨w.heap.size,2,none⟩ b2).setCell ⟨w.heap.size,3,none⟩ b3).setCell ⟨w.heap.size,4,none⟩ b4) w.heap.size #[b0,b1,b2,b3,b4] 140 /\
  w.grownBy (((((W.setCell ⟨w.heap.size,0,none⟩ b0).setCell ⟨w.heap.size,1,none⟩ b1).setCell ⟨w.heap.size,2,none⟩ b2).setCell ⟨w.heap.size,3,none⟩ b3).setCell ⟨w.heap.size,4,none⟩ b4) none :=
 ⟨((((hB.set 0 b0).set 1 b1).set 2 b2).set 3 b3).set 4 b4,yz (yz (yz (yz (yz h (Nat.le_refl _) _ _) (Nat.le_refl _) _ _) (Nat.le_refl _) _ _) (Nat.le_refl _) _ _) (Nat.le_refl _) _ _⟩
theorem TU (n:Int) (w:World) (ht:gD w) (h0:0<=n) (h1:n<=4294967295) :
  Calls Tryz.prog 161 #[.int .i64 n] w fun e w'=>ylf e n/\w.grownBy w' none:=by
 have HT:=hid ht;clear ht;have G:=hid (fun o:Obj=>aW w o none);go_enter Tryz.func161,Tryz.ntmps161;go_wp2
 go_loopw [3] (fun i wr=>∃ k:Nat,1<=k/\k<=26/\i = .int .i64 k/\(∀ j,1<=j->j < k->¬ Is j n)/\w.grownBy wr none/\yd wr w.heap.size #[.int .i64 0,.int .i64 0,.int .i64 0,.int .i64 0,.int .i64 0] 140) (fun i _=>26 - (intOf i).toNat)
 case atStart=>exact ⟨1,Nat.le_refl _,by omega,rfl,fun j h1 h2=>by omega,G.o _,yd.new _ _ _⟩
 case round =>
  obtain ⟨k,hk1,hk2,rfl,hall,hgr,hbk⟩:=hrel;have HA:=hid hall;have HG:=hid hgr;have HB:=hid hbk;clear hall hgr hbk;by_cases hlt:k<=25
  ·have T:=HT.o.grown HG.o;have cf:=T.form k (by omega);have cx:=T.fix k (by omega);have hfr:=TV k hk1 hlt;clear T;have Mi:=hid (show Is k n↔bits .and .i64 n (Gm (uP.getD k 0))=FY.getD k 0 from Iff.rfl);generalize hF:uP.getD k 0=f at *;generalize FY.getD k 0=x at *;have HF:=hid hF;clear hF;have cM:=hid (fun W=>ygD f W hfr);have g1:(1:Int)<=(k:Int):=by omega
   have g2:(k:Int)<=25:=by omega
   by_cases hI:Is k n
   ·have d:(bits .and .i64 n (Gm f) == x)=true:=beq_iff_eq.2 (Mi.o.1 hI);have HI:=hid hI;have cF:=hid (fun W=>yix k f n W h0 h1 hfr);clear hI;go_wp2
    go_quiet ((go_at_call 165; exact Calls.quiet_of_same (cM.o _)))
    go_wp2_with fail;refine (cF.o _).mono ?_;rintro e w2 ⟨⟨m,rfl,hm⟩,hq⟩;unfold lu;have B2:=hid ((HB.o.drewN nq).grown hq (by simp));have G2:=hid (ya (yc HG.o nq) hq);have HM:=hid hm;have k0:=B2.o.cell 0;have k1:=B2.o.cell 1;have k2:=B2.o.cell 2;have k3:=B2.o.cell 3;have k4:=B2.o.cell 4;have f0:=B2.o.free 0;have f1:=B2.o.free 1;have f2:=B2.o.free 2;have f3:=B2.o.free 3;have f4:=B2.o.free 4;clear hm hq;generalize hrd:jh f n=rd at *;generalize hr1:dO f n=r1 at *;have YT:=hid hrd;have HR1:=hid hr1;clear hrd hr1;generalize Fe f n=r2 at *;go_wp2;have F:=Oj G2.o B2.o (.int .i64 k) (.int .i64 rd) (.int .i64 r1) (.int .i64 r2) (.int .i64 m)
    have e0:=F.1.cell 0;have e1:=F.1.cell 1;have e2:=F.1.cell 2;have e3:=F.1.cell 3;have e4:=F.1.cell 4;refine bodyPost_ret (v:=lu k rd r1 r2 m) ?_ rfl ⟨⟨k,rd,r1,r2,m,rfl,.inr ⟨k,hk1,hlt,HI.o,HA.o,rfl,?_,?_,?_⟩⟩,F.2⟩
    ·clear F k0 k1 k2 k3 k4 f0 f1 f2 f3 f4 B2 G2;generalize World.setCell _ _ _=WF at *;simp [results,Tryz.results161,go_sem,lu,e0,e1,e2,e3,e4]
    ·rw [HF.o,YT.o]
    ·rw [HF.o,HR1.o]
    ·rw [HF.o]; exact HM.o
   ·have d:(bits .and .i64 n (Gm f) == x)=false:=beq_eq_false_iff_ne.2 (fun h=>hI (Mi.o.2 h));have HI:=hid hI;clear hI;go_wp2
    go_quiet ((go_at_call 165; exact Calls.quiet_of_same (cM.o _)))
    go_wp2
    go_roundw
    case rel=>exact ⟨k+1,by omega,by omega,by go_num,fun j hj hjk=>(Nat.lt_succ_iff_lt_or_eq.1 hjk).elim (fun h=>HA.o j hj h) (fun h=>by subst h; exact HI.o),yc HG.o _,HB.o.drewN _⟩
    case measure=>simp [intOf]; omega
  ·have k0:=HB.o.cell 0;have k1:=HB.o.cell 1;have k2:=HB.o.cell 2;have k3:=HB.o.cell 3;have k4:=HB.o.cell 4;have f0:=HB.o.free 0;have f1:=HB.o.free 1;have f2:=HB.o.free 2;have f3:=HB.o.free 3;have f4:=HB.o.free 4;go_wp2;have F:=Oj HG.o HB.o (.int .i64 0) (.int .i64 0) (.int .i64 0) (.int .i64 0) (.int .i64 0);have e0:=F.1.cell 0;have e1:=F.1.cell 1;have e2:=F.1.cell 2;have e3:=F.1.cell 3;have e4:=F.1.cell 4;refine bodyPost_ret (v:=lu 0 0 0 0 0) ?_ rfl ⟨⟨0,0,0,0,0,rfl,.inl ⟨rfl,rfl,rfl,rfl,fun j h1 h2=>HA.o j h1 (by omega)⟩⟩,F.2⟩;clear F k0 k1 k2 k3 k4 f0 f1 f2 f3 f4;generalize World.setCell _ _ _=WF at *
   simp [results,Tryz.results161,go_sem,lu,e0,e1,e2,e3,e4]
end Go.Proofs.YtnkkepfcpjllmaaGreatDoor
