
import Derived.Deep.CutRange
import Derived.Test.YtpgklkhgfcjceaaGreatDoorV13
import Derived.Laws.AppendOwnNone
set_option maxHeartbeats 16000000
set_option maxRecDepth 100000
namespace Go.Proofs.YtpgklkhgfcjceaaGreatDoor
open Go.RowKit
theorem ypO (n v:Int) (st:Mc.St):(Mc.set n v st).read=st.read:=by unfold Mc.set; split <;> rfl
theorem yoh (W0:World) (b g:Nat) (ai:Option Addr) (ci:Nat) (ins:List Int) (st:Mc.St) (vd vo:Value) (W:World) (h:yw W0 b g (.slice ai ins.length ci) st vd vo W) (hin:yy W0 ai ins) (hl:ins.length<=16) :
  Calls Tryz.prog 184 #[.pointer (some ⟨b,0,none⟩)] W fun e W'=>e = .returned (.tuple #[])/\lU W0 b g (.slice ai ins.length ci) (if ins.length<=st.read then { st with fM:=6 } else { Mc.set 10 (ins.getD st.read 0) st with read:=st.read+1 }) W':=by
 have H:=hid h;have c1:=h.c.2.1;have DZ:=h.c.2.2.2.2.2.2.2.2.2;by_cases hle:ins.length<=st.read
 ·rw [if_pos hle];have d:decide ((ins.length:Int)<=(st.read:Int))=true:=by simp; omega
  clear h;go_enter Tryz.func184,Tryz.ntmps184;go_wp2
  go_quiet (fail)
  have H1:=hid (H.o.grown (yf (World.grownBy.refl _ none) nq));clear c1 DZ;generalize W.drewN nq=V at *;have c:=H1.o.c.2.2.2.2.2.1;have f:=H1.o.free 37;go_wp2
  (try simp only [Exit.inBlock,Exit.then]); refine bodyPost_ret (results_none rfl _ _ _) rfl ?_
  exact ⟨rfl,_,_,H1.o.kS 6⟩
 ·rw [if_neg hle];have d:decide ((ins.length:Int)<=(st.read:Int))=false:=by simp; omega
  obtain ⟨sg,off,rfl,hcells⟩:=hin.kept (fun a v e=>yd e h.gr) (by omega);have ck:=hcells st.read (by omega);have GE:=hid (show ins.getD st.read 0=ins[st.read]'(by omega) by rw [lC,j3 (by omega)]; rfl);rw [GE.o];generalize ins[st.read]'(by omega)=v at *;have CK:=hid ck;have cS:=hid (fun W hW=>AA W0 b g (.slice (some ⟨sg,off,none⟩) ins.length ci) st vd vo 10 v W hW (by decide) (by decide));have hz:(st.read:Int) < (ins.length:Int):=by omega
  clear h hcells ck GE hin;go_enter Tryz.func184,Tryz.ntmps184;go_wp2
  go_quiet (fail)
  go_wp2;have H1:=hid (H.o.grown (yf (World.grownBy.refl _ none) nq));have ck:(W.drewN nq).cell? ⟨sg,off+st.read,none⟩=some (.int .i64 v):=CK.o;clear c1 DZ H CK;generalize W.drewN nq=V at *;have c1:=H1.o.c.2.1;have DZ:=H1.o.c.2.2.2.2.2.2.2.2.2;have H2:Hd (yw W0 b g (.slice (some ⟨sg,off,none⟩) ins.length ci) st vd vo V.drew):=H1.o.grown (yf (World.grownBy.refl _ none) 1)
  go_region_with (go_at_call 119; refine (cS.o _ H2.o).mono ?_; rintro e w' ⟨rfl,h3⟩)
  all_goals
   have H3:=hid h3;clear h3 c1 DZ ck H2 H1;have DZ:=H3.o.c.2.2.2.2.2.2.2.2.2;rw [ypO] at DZ;have f41:=H3.o.free 41;go_wp2
   go_end0
   refine ⟨rfl,vd,vo,?_⟩;exact H3.o.F9 (st.read+1) (by omega)
theorem yof (W0:World) (b g:Nat) (ai:Option Addr) (ci:Nat) (ins:List Int) (st:Mc.St) (vd vo:Value) (W:World) (h:yw W0 b g (.slice ai ins.length ci) st vd vo W) (hin:yy W0 ai ins) (hl:ins.length<=16) :
  Calls Tryz.prog 127 #[.pointer (some ⟨b,0,none⟩)] W fun e W'=>e = .returned (.tuple #[])/\lU W0 b g (.slice ai ins.length ci) (Mc.call ins st) W':=by
 have H:=hid h;have OH:=hid (fun W hW=>yj W0 b g (.slice ai ins.length ci) st vd vo 17 W hW (by decide) (by decide));have r10:=hid (fun W hW=>yj W0 b g (.slice ai ins.length ci) st vd vo 10 W hW (by decide) (by decide));have rE:Hd (∀ W,yw W0 b g (.slice ai ins.length ci) { st with fM:=1 } vd vo W->Calls Tryz.prog 118 #[.pointer (some ⟨b,0,none⟩),.int .i64 10] W fun e W'=>e = .returned (.int .i64 (Mc.reg st 10))/\W'=W) :=
  fun W hW=>yj W0 b g (.slice ai ins.length ci) { st with fM:=1 } vd vo 10 W hW (by decide) (by decide)
 have rr:=ym h.ok 10;have sG:=hid (fun W=>Tk (Mc.reg st 10) W rr.1 rr.2);have pR:=hid (fun x W hW=>yoz W0 b g (.slice ai ins.length ci) st vd vo x W hW);have rD:=hid (fun W hW=>yoh W0 b g ai ci ins st vd vo W hW hin hl);obtain ⟨X,hX⟩:∃ X,X=Mc.call ins st:=⟨_,rfl⟩
 rw [<- hX];unfold Mc.call at hX;have RX:=hid hX;clear h hX hin rr;generalize Mc.reg st 17=q at *;generalize Mc.reg st 10=x at *;by_cases q0:q=0
 ·subst q0;rw [if_pos rfl] at RX;have c37:=H.o.c.2.2.2.2.2.1;have f37:=H.o.free 37;go_enter Tryz.func127,Tryz.ntmps127;go_wp2_with fail;refine (OH.o _ H.o).mono ?_;rintro e V ⟨rfl,hV⟩;subst hV;have H1:=hid (H.o.kS 1);go_wp2_with fail;refine (rE.o _ H1.o).mono ?_;rintro e V2 ⟨rfl,hV⟩;subst hV;go_wp2_with fail;refine (sG.o _).mono ?_;rintro e V3 ⟨rfl,hV⟩;have H2:=hid H1.o;rw [<- hV] at H2;clear hV H1 c37 f37 H;have Oq:=H2.o.c.2.2.2.2.2.2.1;have f38:=H2.o.free 38;go_wp2
  go_end0
  rw [RX.o];exact ⟨rfl,_,_,H2.o.F7 _⟩
 rw [if_neg q0] at RX;have d0:(q == 0)=false:=by simpa using q0
 by_cases q1:q=1
 ·subst q1;rw [if_pos rfl] at RX;go_enter Tryz.func127,Tryz.ntmps127;go_wp2_with fail;refine (OH.o _ H.o).mono ?_;rintro e V ⟨rfl,hV⟩;subst hV;go_wp2_with fail;refine (r10.o _ H.o).mono ?_;rintro e V2 ⟨rfl,hV⟩;subst hV;go_wp2_with fail;refine (sG.o _).mono ?_;rintro e V3 ⟨rfl,hV⟩;subst hV;go_wp2_with fail;refine (pR.o _ _ H.o).mono ?_;rintro e V4 ⟨rfl,h4⟩;have H4:=hid h4;clear h4;go_wp2
  go_end0
  rw [RX.o];exact ⟨rfl,H4.o⟩
 rw [if_neg q1] at RX;have d1:(q == 1)=false:=by simpa using q1
 by_cases q2:q=2
 ·subst q2;rw [if_pos rfl] at RX;go_enter Tryz.func127,Tryz.ntmps127;go_wp2_with fail;refine (OH.o _ H.o).mono ?_;rintro e V ⟨rfl,hV⟩;subst hV;go_wp2_with fail;refine (rD.o _ H.o).mono ?_;rintro e V4 ⟨rfl,h4⟩;have H4:=hid h4;clear h4;go_wp2
  go_end0
  rw [RX.o];exact ⟨rfl,H4.o⟩
 rw [if_neg q2] at RX;have d2:(q == 2)=false:=by simpa using q2
 have c37:=H.o.c.2.2.2.2.2.1;have f37:=H.o.free 37;clear q0 q1 q2;go_enter Tryz.func127,Tryz.ntmps127;go_wp2_with fail;refine (OH.o _ H.o).mono ?_;rintro e V ⟨rfl,hV⟩;subst hV;go_wp2
 go_end0
 rw [RX.o];exact ⟨rfl,_,_,H.o.kS 6⟩
theorem ymn (n:Int) (h0:-9223372036854775808<=n) (h1:n<=9223372036854775807):bits .andNot .i64 n 1=n - n % 2:=by
 have e1:(~~~ (BitVec.ofInt 64 1)).toNat=(2 ^ 63 - 1) <<< 1:=by decide
 have key:(BitVec.ofInt 64 n &&& ~~~ (BitVec.ofInt 64 1)).toNat=(n % ((2 ^ 64:Nat):Int)).toNat / 2 * 2:=by
  rw [BitVec.toNat_and,e1,BitVec.toNat_ofInt,JR,Nat.and_two_pow_sub_one_eq_mod,Nat.shiftRight_eq_div_pow,Nat.shiftLeft_eq];omega
 show IntKind.i64.wrap ((BitVec.ofInt 64 n &&& ~~~ (BitVec.ofInt 64 1)).toNat:Nat)=_;rw [key,IntKind.wrap_i64];omega
structure nW (W0:World) (b g:Nat) (ai:Option Addr) (ci:Nat) (ins:List Int) (st:Mc.St) (vd vo:Value) (m:Im.dZ) (rd au aF n:Int) (W:World):Prop where
 h:yw W0 b g (.slice ai ins.length ci) st vd vo W
 img:mQ W0 g m
 JD:Im.jF m
 inp:yy W0 ai ins
 few:ins.length<=16
 hrd:0<=rd/\rd < 32
 aak:0<=au/\au < 32
 aal:0<=aF/\aF < 32
 hn:-2147483648<=n/\n<=2147483647
theorem jo (W:World) (a b c d e:Value):(W.alloc (.cells #[a,b,c,d,e] 143)).cell? ⟨W.heap.size,0,none⟩=some a/\(W.alloc (.cells #[a,b,c,d,e] 143)).cell? ⟨W.heap.size,1,none⟩=some b/\(W.alloc (.cells #[a,b,c,d,e] 143)).cell? ⟨W.heap.size,2,none⟩=some c /\
  (W.alloc (.cells #[a,b,c,d,e] 143)).cell? ⟨W.heap.size,3,none⟩=some d/\(W.alloc (.cells #[a,b,c,d,e] 143)).cell? ⟨W.heap.size,4,none⟩=some e:=by
 have B:=yc.new W #[a,b,c,d,e] 143;exact ⟨B.cell 0,B.cell 1,B.cell 2,B.cell 3,B.cell 4⟩
theorem yqv (W0:World) (b g:Nat) (ai:Option Addr) (ci:Nat) (ins:List Int) (st:Mc.St) (vd vo:Value) (m:Im.dZ) (op rd au aF n:Int) (W:World) (hpre:nW W0 b g ai ci ins st vd vo m rd au aF n W) (hop:op=0) :
  Calls Tryz.prog 83 #[.pointer (some ⟨b,0,none⟩),bC op rd au aF n] W fun e W'=>e = .returned (.tuple #[])/\lU W0 b g (.slice ai ins.length ci) (Mc.doIt m ins op rd au aF n st) W':=by
 obtain ⟨h,hI,hT,hin,hl,d0,s1,s2,hn⟩:=hpre;have HA:=hid (h.grown (aJ W (.cells #[.int .i64 op,.int .i64 rd,.int .i64 au,.int .i64 aF,.int .i64 n] 143) none));have NE:=hid (show W.heap.size≠b from fun e=>by have:=h.blk.lt; omega);have IC:=hid (jo W (.int .i64 op) (.int .i64 rd) (.int .i64 au) (.int .i64 aF) (.int .i64 n));have r1:=hid (fun W hW=>yj W0 b g (.slice ai ins.length ci) st vd vo au W hW s1.1 s1.2);have r2:=hid (fun W hW=>yj W0 b g (.slice ai ins.length ci) st vd vo aF W hW s2.1 s2.2);have q1:=ym h.ok au;have q2:=ym h.ok aF;have hp:=h.ok.pc;obtain ⟨X,hX⟩:∃ X,X=Mc.doIt m ins op rd au aF n st:=⟨_,rfl⟩
 rw [<- hX];have RX:=hid hX;clear hX;unfold bC;subst hop;replace RX:=hid (show X={ st with fM:=3 } from RX.o);clear h hI hT hin;go_enter Tryz.func83,Tryz.ntmps83;go_wp2_with fail;generalize W.alloc (.cells #[.int .i64 0,.int .i64 rd,.int .i64 au,.int .i64 aF,.int .i64 n] 143)=V at *;generalize W.heap.size=ib at *;obtain ⟨i0,i1,i2,i3,i4⟩:=IC.o;refine (r1.o _ HA.o).mono ?_;rintro e V1 ⟨rfl,hV⟩;subst hV;go_wp2_with fail;refine (r2.o _ HA.o).mono ?_;rintro e V1 ⟨rfl,hV⟩;subst hV;have c37:=HA.o.c.2.2.2.2.2.1;have f37:=HA.o.free 37;go_wp2
 go_end0
 rw [RX.o];exact ⟨rfl,_,_,HA.o.kS 3⟩
theorem yrD (W0:World) (b g:Nat) (ai:Option Addr) (ci:Nat) (ins:List Int) (st:Mc.St) (vd vo:Value) (m:Im.dZ) (op rd au aF n:Int) (W:World) (hpre:nW W0 b g ai ci ins st vd vo m rd au aF n W) (hop:op=1) :
  Calls Tryz.prog 83 #[.pointer (some ⟨b,0,none⟩),bC op rd au aF n] W fun e W'=>e = .returned (.tuple #[])/\lU W0 b g (.slice ai ins.length ci) (Mc.doIt m ins op rd au aF n st) W':=by
 obtain ⟨h,hI,hT,hin,hl,d0,s1,s2,hn⟩:=hpre;have HA:=hid (h.grown (aJ W (.cells #[.int .i64 op,.int .i64 rd,.int .i64 au,.int .i64 aF,.int .i64 n] 143) none));have NE:=hid (show W.heap.size≠b from fun e=>by have:=h.blk.lt; omega);have IC:=hid (jo W (.int .i64 op) (.int .i64 rd) (.int .i64 au) (.int .i64 aF) (.int .i64 n));have r1:=hid (fun W hW=>yj W0 b g (.slice ai ins.length ci) st vd vo au W hW s1.1 s1.2);have r2:=hid (fun W hW=>yj W0 b g (.slice ai ins.length ci) st vd vo aF W hW s2.1 s2.2);have q1:=ym h.ok au;have q2:=ym h.ok aF;have hp:=h.ok.pc;obtain ⟨X,hX⟩:∃ X,X=Mc.doIt m ins op rd au aF n st:=⟨_,rfl⟩
 rw [<- hX];have RX:=hid hX;clear hX;unfold bC;subst hop;replace RX:=hid (show X=Mc.set rd (n * 4096) st from RX.o);have x:IntKind.i64.wrap (n * 4096)=n * 4096:=IntWalk.i64_in _ ⟨by omega,by omega⟩;have cS:=hid (fun W hW=>AA W0 b g (.slice ai ins.length ci) st vd vo rd (n * 4096) W hW d0.1 d0.2);clear h hI hT hin;go_enter Tryz.func83,Tryz.ntmps83;go_wp2_with fail;generalize W.alloc (.cells #[.int .i64 1,.int .i64 rd,.int .i64 au,.int .i64 aF,.int .i64 n] 143)=V at *;generalize W.heap.size=ib at *;obtain ⟨i0,i1,i2,i3,i4⟩:=IC.o;refine (r1.o _ HA.o).mono ?_;rintro e V1 ⟨rfl,hV⟩;subst hV;go_wp2_with fail
 refine (r2.o _ HA.o).mono ?_;rintro e V1 ⟨rfl,hV⟩;subst hV;go_wp2_with fail;refine (cS.o _ HA.o).mono ?_;rintro e V2 ⟨rfl,h2⟩;have H2:=hid h2;clear h2;go_wp2
 go_end0
 rw [RX.o];exact ⟨rfl,_,_,H2.o⟩
theorem yqu (W0:World) (b g:Nat) (ai:Option Addr) (ci:Nat) (ins:List Int) (st:Mc.St) (vd vo:Value) (m:Im.dZ) (op rd au aF n:Int) (W:World) (hpre:nW W0 b g ai ci ins st vd vo m rd au aF n W) (hop:op=4) :
  Calls Tryz.prog 83 #[.pointer (some ⟨b,0,none⟩),bC op rd au aF n] W fun e W'=>e = .returned (.tuple #[])/\lU W0 b g (.slice ai ins.length ci) (Mc.doIt m ins op rd au aF n st) W':=by
 obtain ⟨h,hI,hT,hin,hl,d0,s1,s2,hn⟩:=hpre;have HA:=hid (h.grown (aJ W (.cells #[.int .i64 op,.int .i64 rd,.int .i64 au,.int .i64 aF,.int .i64 n] 143) none));have NE:=hid (show W.heap.size≠b from fun e=>by have:=h.blk.lt; omega);have IC:=hid (jo W (.int .i64 op) (.int .i64 rd) (.int .i64 au) (.int .i64 aF) (.int .i64 n));have r1:=hid (fun W hW=>yj W0 b g (.slice ai ins.length ci) st vd vo au W hW s1.1 s1.2);have r2:=hid (fun W hW=>yj W0 b g (.slice ai ins.length ci) st vd vo aF W hW s2.1 s2.2);have q1:=ym h.ok au;have q2:=ym h.ok aF;have hp:=h.ok.pc;obtain ⟨X,hX⟩:∃ X,X=Mc.doIt m ins op rd au aF n st:=⟨_,rfl⟩
 rw [<- hX];have RX:=hid hX;clear hX;unfold bC;subst hop;replace RX:=hid (show X=Mc.jump rd ((Mc.reg st au+n) - (Mc.reg st au+n) % 2) st from RX.o);generalize Mc.reg st au=a at *;have x:IntKind.i64.wrap (a+n)=a+n:=IntWalk.i64_in _ ⟨by omega,by omega⟩;have y:bits .andNot .i64 (a+n) 1=(a+n) - (a+n) % 2:=ymn _ (by omega) (by omega);have cJ:=hid (fun W hW=>Yy W0 b g (.slice ai ins.length ci) st vd vo rd ((a+n) - (a+n) % 2) W hW d0.1 d0.2);clear h hI hT hin;go_enter Tryz.func83,Tryz.ntmps83;go_wp2_with fail;generalize W.alloc (.cells #[.int .i64 4,.int .i64 rd,.int .i64 au,.int .i64 aF,.int .i64 n] 143)=V at *
 generalize W.heap.size=ib at *;obtain ⟨i0,i1,i2,i3,i4⟩:=IC.o;refine (r1.o _ HA.o).mono ?_;rintro e V1 ⟨rfl,hV⟩;subst hV;go_wp2_with fail;refine (r2.o _ HA.o).mono ?_;rintro e V1 ⟨rfl,hV⟩;subst hV;go_wp2_with fail;refine (cJ.o _ HA.o).mono ?_;rintro e V2 ⟨rfl,h2⟩;have H2:=hid h2;clear h2;go_wp2
 go_end0
 rw [RX.o];exact ⟨rfl,_,_,H2.o⟩
theorem ysb (W0:World) (b g:Nat) (ai:Option Addr) (ci:Nat) (ins:List Int) (st:Mc.St) (vd vo:Value) (m:Im.dZ) (op rd au aF n:Int) (W:World) (hpre:nW W0 b g ai ci ins st vd vo m rd au aF n W) (hop:op=12) :
  Calls Tryz.prog 83 #[.pointer (some ⟨b,0,none⟩),bC op rd au aF n] W fun e W'=>e = .returned (.tuple #[])/\lU W0 b g (.slice ai ins.length ci) (Mc.doIt m ins op rd au aF n st) W':=by
 obtain ⟨h,hI,hT,hin,hl,d0,s1,s2,hn⟩:=hpre;have HA:=hid (h.grown (aJ W (.cells #[.int .i64 op,.int .i64 rd,.int .i64 au,.int .i64 aF,.int .i64 n] 143) none));have NE:=hid (show W.heap.size≠b from fun e=>by have:=h.blk.lt; omega);have IC:=hid (jo W (.int .i64 op) (.int .i64 rd) (.int .i64 au) (.int .i64 aF) (.int .i64 n));have r1:=hid (fun W hW=>yj W0 b g (.slice ai ins.length ci) st vd vo au W hW s1.1 s1.2);have r2:=hid (fun W hW=>yj W0 b g (.slice ai ins.length ci) st vd vo aF W hW s2.1 s2.2);have q1:=ym h.ok au;have q2:=ym h.ok aF;have hp:=h.ok.pc;obtain ⟨X,hX⟩:∃ X,X=Mc.doIt m ins op rd au aF n st:=⟨_,rfl⟩
 rw [<- hX];have RX:=hid hX;clear hX;unfold bC;subst hop;replace RX:=hid (show X=Mc.store m (Mc.wd (Mc.reg st au+n)) (Mc.reg st aF) st from RX.o);generalize Mc.reg st au=a at *;generalize Mc.reg st aF=bb at *;have x:IntKind.i64.wrap (a+n)=a+n:=IntWalk.i64_in _ ⟨by omega,by omega⟩;have cW:=hid (fun W=>Dz (a+n) W);have wr:=Mc.gH (a+n);have cT:=hid (fun W hW=>ymU W0 b g (.slice ai ins.length ci) st vd vo m (Mc.wd (a+n)) bb W hW hI hT wr.1 wr.2 q2);clear h hI hT hin;go_enter Tryz.func83,Tryz.ntmps83;go_wp2_with fail;generalize W.alloc (.cells #[.int .i64 12,.int .i64 rd,.int .i64 au,.int .i64 aF,.int .i64 n] 143)=V at *
 generalize W.heap.size=ib at *;obtain ⟨i0,i1,i2,i3,i4⟩:=IC.o;refine (r1.o _ HA.o).mono ?_;rintro e V1 ⟨rfl,hV⟩;subst hV;go_wp2_with fail;refine (r2.o _ HA.o).mono ?_;rintro e V1 ⟨rfl,hV⟩;subst hV;go_wp2_with fail;refine (cW.o _).mono ?_;rintro e V2 ⟨rfl,hV⟩;subst hV;go_wp2_with fail;refine (cT.o _ HA.o).mono ?_;rintro e V2 ⟨rfl,h2⟩;have H2:=hid h2;clear h2;go_wp2
 go_end0
 rw [RX.o];exact ⟨rfl,H2.o⟩
theorem yoV (W0:World) (b g:Nat) (ai:Option Addr) (ci:Nat) (ins:List Int) (st:Mc.St) (vd vo:Value) (m:Im.dZ) (op rd au aF n:Int) (W:World) (hpre:nW W0 b g ai ci ins st vd vo m rd au aF n W) (hop:op=25) :
  Calls Tryz.prog 83 #[.pointer (some ⟨b,0,none⟩),bC op rd au aF n] W fun e W'=>e = .returned (.tuple #[])/\lU W0 b g (.slice ai ins.length ci) (Mc.doIt m ins op rd au aF n st) W':=by
 obtain ⟨h,hI,hT,hin,hl,d0,s1,s2,hn⟩:=hpre;have HA:=hid (h.grown (aJ W (.cells #[.int .i64 op,.int .i64 rd,.int .i64 au,.int .i64 aF,.int .i64 n] 143) none));have NE:=hid (show W.heap.size≠b from fun e=>by have:=h.blk.lt; omega);have IC:=hid (jo W (.int .i64 op) (.int .i64 rd) (.int .i64 au) (.int .i64 aF) (.int .i64 n));have r1:=hid (fun W hW=>yj W0 b g (.slice ai ins.length ci) st vd vo au W hW s1.1 s1.2);have r2:=hid (fun W hW=>yj W0 b g (.slice ai ins.length ci) st vd vo aF W hW s2.1 s2.2);have q1:=ym h.ok au;have q2:=ym h.ok aF;have hp:=h.ok.pc;obtain ⟨X,hX⟩:∃ X,X=Mc.doIt m ins op rd au aF n st:=⟨_,rfl⟩
 rw [<- hX];have RX:=hid hX;clear hX;unfold bC;subst hop;replace RX:=hid (show X=Mc.call ins st from RX.o);have cC:=hid (fun W hW=>yof W0 b g ai ci ins st vd vo W hW hin hl);clear h hI hT hin;go_enter Tryz.func83,Tryz.ntmps83;go_wp2_with fail;generalize W.alloc (.cells #[.int .i64 25,.int .i64 rd,.int .i64 au,.int .i64 aF,.int .i64 n] 143)=V at *;generalize W.heap.size=ib at *;obtain ⟨i0,i1,i2,i3,i4⟩:=IC.o;refine (r1.o _ HA.o).mono ?_;rintro e V1 ⟨rfl,hV⟩;subst hV;go_wp2_with fail;refine (r2.o _ HA.o).mono ?_;rintro e V1 ⟨rfl,hV⟩;subst hV;go_wp2_with fail;refine (cC.o _ HA.o).mono ?_;rintro e V2 ⟨rfl,h2⟩
 have H2:=hid h2;clear h2;go_wp2
 go_end0
 rw [RX.o];exact ⟨rfl,H2.o⟩
theorem TJ (s:List UInt8) (lo hi:Int) (st:As.St) (h0:lo<=0) (h1:0<=hi):lo<=(As.number s lo hi st).1/\(As.number s lo hi st).1<=hi:=by
 have key:∀ neg pos st,lo<=(As.aS s neg pos lo hi st).1/\(As.aS s neg pos lo hi st).1<=hi:=by
  intro neg pos st;unfold As.aS;generalize (if neg then -(st.tok.n:Int) else (st.tok.n:Int))=x;split
  ·by_cases h:x < lo\/hi < x
   ·rw [if_pos h]; exact ⟨h0,h1⟩
   ·rw [if_neg h]; simp only; omega
  ·exact ⟨h0,h1⟩
 unfold As.number;split
 ·exact key _ _ _
 ·exact key _ _ _
theorem YP (s:List UInt8) (st:As.St) (h:xL st.tok):xL (As.name s st).1:=by
 unfold As.name;split
 ·exact h
 ·exact KN
theorem Nv (B:Nat) (s:ByteArray) (b g:Nat) (st:As.St) (W:World) (h:yl B s b g st W) :
  Calls Tryz.prog 193 #[.pointer (some ⟨b,0,none⟩)] W fun en W'=>en = .returned (.int .i64 (As.symbol (sl s) st).1)/\Does B s b g W (As.symbol (sl s) st).2 W':=by
 have HW:=hid h;have cN:=hid (YO B s b g st W h);have HT:=hid (YP (sl s) st h.ok.tok);clear h;have RS:=hid (show As.symbol (sl s) st=((As.aK (As.name (sl s) st).1 (As.name (sl s) st).2).1.1,(As.aK (As.name (sl s) st).1 (As.name (sl s) st).2).2) from rfl);generalize As.symbol (sl s) st=X at *;generalize As.name (sl s) st=R at *;obtain ⟨t,st1⟩:=R;simp only at HT RS cN;go_enter Tryz.func193,Tryz.ntmps193;go_wp2_with fail;refine cN.o.mono ?_;rintro e V ⟨rfl,h1⟩;have D1:=hid (h1.does HW.o);clear h1 cN;unfold fV;go_wp2_with fail;refine (SF B s b g st1 t _ (D1.o.alloc _).1 HT.o).mono ?_;rintro e V2 ⟨rfl,h2⟩
 have D2:=hid ((D1.o.alloc _).after h2);clear h2 D1;unfold Qm;go_wp2;go_ret;rw [RS.o];exact ⟨rfl,D2.o⟩
theorem Pg (B:Nat) (s:ByteArray) (b g:Nat) (st:As.St) (W:World) (h:yl B s b g st W) :
  Calls Tryz.prog 191 #[.pointer (some ⟨b,0,none⟩)] W fun en W'=>en = .returned (.tuple #[.int .i64 (As.target (sl s) st).1.1,.int .i64 (As.target (sl s) st).1.2])/\Does B s b g W (As.target (sl s) st).2 W':=by
 have cN:=hid (Nv B s b g st W h);clear h;have RS:=hid (show As.target (sl s) st=if (As.symbol (sl s) st).2.tok.is [43] then (((As.symbol (sl s) st).1,(As.number (sl s) 0 2047 (As.advance (sl s) (As.symbol (sl s) st).2)).1),(As.number (sl s) 0 2047 (As.advance (sl s) (As.symbol (sl s) st).2)).2)
  else if (As.symbol (sl s) st).2.tok.is [45] then (((As.symbol (sl s) st).1,-(As.number (sl s) 0 2048 (As.advance (sl s) (As.symbol (sl s) st).2)).1),(As.number (sl s) 0 2048 (As.advance (sl s) (As.symbol (sl s) st).2)).2)
  else (((As.symbol (sl s) st).1,0),(As.symbol (sl s) st).2) from rfl)
 generalize As.target (sl s) st=X at *;generalize As.symbol (sl s) st=R at *;obtain ⟨i,st1⟩:=R;simp only at RS cN;go_enter Tryz.func191,Tryz.ntmps191;go_wp2_with fail;refine cN.o.mono ?_;rintro e V ⟨rfl,h1⟩;have D1:=hid h1;clear h1 cN;obtain ⟨c2,c3,c4,c5⟩:=wm D1.o.1;go_wp2_with fail;refine (Nr st1.tok [43] V).mono ?_;rintro e V1 ⟨rfl,hg⟩;have D2:=hid (D1.o.grown hg);clear hg D1 c2 c3 c4 c5
 cases hp:st1.tok.is [43]
 ·rw [hp,if_neg (by simp)] at RS;clear hp;obtain ⟨c2,c3,c4,c5⟩:=wm D2.o.1;go_wp2_with fail;refine (Nr st1.tok [45] V1).mono ?_;rintro e V2 ⟨rfl,hg⟩;have D3:=hid (D2.o.grown hg);clear hg D2 c2 c3 c4 c5
  cases hm:st1.tok.is [45]
  ·rw [hm,if_neg (by simp)] at RS;clear hm;go_wp2;go_ret2;rw [RS.o];exact ⟨rfl,D3.o⟩
  ·rw [hm,if_pos rfl] at RS;clear hm;go_wp2_with fail;refine (Dq B s b g st1 V2 D3.o.1).mono ?_;rintro e V3 ⟨rfl,h3⟩;have D4:=hid (D3.o.aN h3);clear h3 D3;generalize As.advance (sl s) st1=st2 at *;go_wp2_with fail;refine (Gn B s b g st2 0 2048 V3 D4.o.1).mono ?_;rintro e V4 ⟨rfl,h4⟩;have D5:=hid (D4.o.aN h4);clear h4 D4;have NB:=TJ (sl s) 0 2048 st2 (by omega) (by omega);generalize As.number (sl s) 0 2048 st2=R4 at *;obtain ⟨nn,rM⟩:=R4;simp only at NB RS D5 ⊢;go_wp2;go_ret2;rw [RS.o];exact ⟨rfl,D5.o⟩
 ·rw [hp,if_pos rfl] at RS;clear hp;go_wp2_with fail;refine (Dq B s b g st1 V1 D2.o.1).mono ?_;rintro e V3 ⟨rfl,h3⟩;have D4:=hid (D2.o.aN h3);clear h3 D2;generalize As.advance (sl s) st1=st2 at *;go_wp2_with fail;refine (Gn B s b g st2 0 2047 V3 D4.o.1).mono ?_;rintro e V4 ⟨rfl,h4⟩;have D5:=hid (D4.o.aN h4);clear h4 D4;generalize As.number (sl s) 0 2047 st2=R4 at *;obtain ⟨nn,rM⟩:=R4;simp only at RS D5 ⊢;go_wp2;go_ret2;rw [RS.o];exact ⟨rfl,D5.o⟩
theorem Tw (B:Nat) (s:ByteArray) (b g:Nat) (st:As.St) (W:World) (h:yl B s b g st W) :
  Calls Tryz.prog 190 #[.pointer (some ⟨b,0,none⟩)] W fun en W'=>en = .returned (.tuple #[.int .i64 (As.place (sl s) st).1.1,.int .i64 (As.place (sl s) st).1.2])/\yS B s b g W (As.place (sl s) st).2 W':=by
 have cN:=hid (Gn B s b g st (-2048) 2047 W h);clear h;have RS:=hid (show As.place (sl s) st=(((As.number (sl s) (-2048) 2047 st).1,(As.register (sl s) (As.sign (sl s) [40] (As.number (sl s) (-2048) 2047 st).2)).1),As.sign (sl s) [41] (As.register (sl s) (As.sign (sl s) [40] (As.number (sl s) (-2048) 2047 st).2)).2) from rfl);generalize As.place (sl s) st=X at *;generalize As.number (sl s) (-2048) 2047 st=R at *;obtain ⟨nn,st1⟩:=R;simp only at RS cN;go_enter Tryz.func190,Tryz.ntmps190;go_wp2_with fail;refine cN.o.mono ?_;rintro e V ⟨rfl,h1⟩;have D1:=hid h1;clear h1 cN;go_wp2_with fail;refine (vR B s b g st1 [40] V D1.o.1).mono ?_
 rintro e V1 ⟨rfl,h1⟩;have D2:=hid (D1.o.after h1);clear h1 D1;generalize As.sign (sl s) [40] st1=st2 at *;go_wp2_with fail;refine (yQ B s b g st2 V1 D2.o.1).mono ?_;rintro e V2 ⟨rfl,h1⟩;have D3:=hid (D2.o.after h1);clear h1 D2;generalize As.register (sl s) st2=R2 at *;obtain ⟨rg,iU⟩:=R2;simp only at RS D3 ⊢;go_wp2_with fail;refine (vR B s b g iU [41] V2 D3.o.1).mono ?_;rintro e V3 ⟨rfl,h1⟩;have D4:=hid (D3.o.after h1);clear h1 D3;go_wp2;go_ret2;rw [RS.o];exact ⟨rfl,D4.o⟩
def qR (W:World) (ao:Option Addr) (cap:Nat) (ws:List Int):Prop :=
 (ao=none/\cap=0/\ws=[])\/∃ wg off cs,ao=some ⟨wg,off,none⟩/\yc W wg cs 3/\∀ i (h:i < ws.length),cs[off+i]?=some (.int .i64 ws[i])
theorem qR.kept {W W':World} {ao:Option Addr} {cap:Nat} {ws:List Int} (h:qR W ao cap ws) (hk:∀ k cs,yc W k cs 3->ao.map (·.block)=some k->yc W' k cs 3):qR W' ao cap ws:=by
 rcases h with h | ⟨wg,off,cs,rfl,h1,h2⟩
 ·exact .inl h
 ·exact .inr ⟨wg,off,cs,rfl,hk wg cs h1 rfl,h2⟩
theorem qR.grown {W W':World} {ao:Option Addr} {cap:Nat} {ws:List Int} (h:qR W ao cap ws) (hg:W.grownBy W' none):qR W' ao cap ws:=h.kept fun _ _ hb _=>hb.grown hg (by simp)
theorem SG {P:Program} (w:World) {o:Oper} {a:Act} {K:Act->World->Prop} {Q:Exit->Act->World->Prop} (s x:Operand) (t:TypeId)
  (ho:o.op = .call { callee:=.builtin .append,args:=#[s,x],argTypes:=#[t,t] })
  (base:Nat) (i:TypeInfo) (ht:P.underlying t=some (.slice 3)) (hi:P.info? 3=some i) (hz:i.zero=some (.int .i64 0))
  (hsize:i.size=1) (hby:i.bytes=8)
  (v:Value) (n:Nat) (xs:List Value) (hs:a.eval s=v) (hown:w.ownsRow base 3 1 v n xs)
  (ao:Option Addr) (cap:Nat) (ws:List Int) (hx:a.eval x = .slice ao ws.length cap) (hw:qR w ao cap ws)
  (h63:n+ws.length<=65535) (hbase:base<=w.heap.size)
  (h:∀ v' w',w'.ownsRow base 3 1 v' (n+ws.length) (xs ++ ws.map (Value.int .i64))->w.grownBy w' v.ownBlock->(v'.ownBlock=v.ownBlock\/v'.ownBlock=some w.heap.size)->K (a.put o.dst v') w'):o.wp P a w K Q:=by
 rcases hw with ⟨rfl,rfl,rfl⟩ | ⟨wg,off,cs,rfl,hb,hc⟩
 ·have hrun:=run_append_owned_none (P:=P) (w:=w) base t o.type 3 i 1 ht hi v n xs hown;have hx':a.eval x = .slice none 0 0:=hx;have h':=h v w (by simpa using hown) ⟨rfl,rfl,rfl,Nat.le_refl _,fun _ _ _=>rfl⟩ (.inl rfl);unfold Oper.wp;simp [execOp,ho,resolve,invoke,builtin,hs,hx',hrun,Result.andThen];exact h'
 ·refine Du w s x t ho base 3 i (.int .i64 0) 1 8 ht hi hz hsize hby rfl (by decide) v n xs hs hown ⟨wg,off,none⟩ ws.length cap (ws.map (Value.int .i64)) hx (by simp) ?_ (by intro u hu; simp at hu; obtain ⟨y,_,rfl⟩:=hu; rfl) (by unfold maxLen; omega) (by omega) hbase (fun v' w' h1 h2 _ h4=>h v' w' h1 h2 h4);intro j u hu;rw [List.getElem?_map,Option.map_eq_some_iff] at hu;obtain ⟨y,hy,rfl⟩:=hu;obtain ⟨hj,rfl⟩:=List.getElem?_eq_some_iff.1 hy
  have:=hb.cell (off+j)
  rw [hc j hj] at this;have e:(⟨wg,off,none⟩:Addr).add j=⟨wg,off+j,none⟩:=by
   unfold Addr.add;by_cases h0:j=0
   ·subst h0; simp
   ·simp [h0]
  rw [e];exact this
theorem yl.Hg {B:Nat} {s:ByteArray} {b g:Nat} {st:As.St} {W:World} (h:yl B s b g st W):yu W g st.obj:=by
 obtain ⟨vt,vf,vd,va,vs,vr,ho⟩:=h.own;exact ⟨vt,vf,vd,va,vs,vr,ho.blk,yX ho.text (Nat.zero_le _),yX ho.far (Nat.zero_le _),yX ho.data (Nat.zero_le _),yX ho.align (Nat.zero_le _),yX ho.syms (Nat.zero_le _),yX ho.aj (Nat.zero_le _)⟩
theorem jE.small {s:ByteArray} {st:As.St} (h:jE s st):vS st.obj:=⟨by have:=h.text; omega,by have:=h.far; omega,by have:=h.data; omega,by have:=h.align; omega,by have:=h.syms; omega,by have:=h.aj; omega⟩
theorem yoC (o:Lk.Obj) (ah:Nat):xM o (ah:Int)=As.bM o ah:=by
 unfold xM As.bM yx;by_cases h4:ah=4
 ·rw [if_pos (by omega),if_pos h4]
 by_cases h1:ah=1
 ·rw [if_neg (by omega),if_neg h4,if_pos (by omega),if_pos h1]
 by_cases h2:ah=2
 ·rw [if_neg (by omega),if_neg h4,if_neg (by omega),if_neg h1,if_pos (by omega),if_pos h2]
 by_cases h3:ah=3
 ·rw [if_neg (by omega),if_neg h4,if_neg (by omega),if_neg h1,if_neg (by omega),if_neg h2,if_pos (by omega),if_pos h3]
 ·rw [if_neg (by omega),if_neg h4,if_neg (by omega),if_neg h1,if_neg (by omega),if_neg h2,if_neg (by omega),if_neg h3]; rfl
theorem TL {s:ByteArray} {st:As.St} (h:jE s st):0<=As.bM st.obj st.ah/\As.bM st.obj st.ah<=1200:=by
 have h1:=h.text;have h2:=h.far;have h3:=h.data;have h4:=h.bss;unfold As.bM
 repeat' split
 all_goals omega
theorem KR (B:Nat) (s:ByteArray) (b g:Nat) (st:As.St) (W:World) (h:yl B s b g st W) :
  Calls Tryz.prog 87 #[.pointer (some ⟨g,0,none⟩),.int .i64 st.ah] W fun e W'=>e = .returned (.int .i64 (4 * As.bM st.obj st.ah))/\W'=W:=by
 rw [<- yoC];exact Ph g st.obj st.ah W h.Hg h.ok.small h.ok.bss
theorem yob (B:Nat) (s:ByteArray) (b g:Nat) (st:As.St) (W:World) (h:yl B s b g st W) :
  Calls Tryz.prog 218 #[.pointer (some ⟨b,0,none⟩)] W fun e W'=>e = .returned (.int .i64 (As.limit st.ah))/\W'=W:=by
 have c:=vQ h;have hs:=h.ok.ah;clear h;generalize st.ah=ah at *;rcases (show ah=1\/ah=2\/ah=3\/ah=4 by omega) with rfl | rfl | rfl | rfl
 all_goals
  go_enter Tryz.func218,Tryz.ntmps218;go_wp2;go_ret;exact ⟨rfl,rfl⟩
theorem Qd {B:Nat} {s:ByteArray} {b g:Nat} {st:As.St} {W:World} (h:yl B s b g st W):W.cell? ⟨b,10,none⟩=some (.int .i64 st.op.pos):=by
 have c:=yL h 10;simpa only [yE,bI,bN,bK] using c
section
variable {B:Nat} {s:ByteArray} {b g:Nat} {V W':World} {st:As.St} {vt vf vd va vs vr v':Value}
theorem yl.newText (h:yl B s b g st V) (ho:rT B V b g st.obj vt vf vd va vs vr) (n:nG B V W' b g vt v') (xs:List Int) (hxs:xs.length<=1200)
  (hblk:yc W' g #[v',vf,vd,.int .i64 st.obj.bss,va,vs,vr] 71) (hown:W'.ownsRow B 3 1 v' xs.length (xs.map (Value.int .i64))):Does B s b g V { st with obj:={ st.obj with text:=xs } } W':=by
 refine n.does h ho (i:=2) rfl (by omega) ⟨v',vf,vd,va,vs,vr,hblk,hown,?_,?_,?_,?_,?_,n.apart ho h.blk.lt (i:=2) rfl⟩ rfl (h.ok.xq _ hxs h.ok.far h.ok.data h.ok.bss h.ok.align h.ok.syms h.ok.aj) (Ib ho.text (by simp))
 ·exact n.row ho (i:=2) (j:=3) rfl rfl (by omega) (by omega) ho.far
 ·exact n.row ho (i:=2) (j:=4) rfl rfl (by omega) (by omega) ho.data
 ·exact n.row ho (i:=2) (j:=5) rfl rfl (by omega) (by omega) ho.align
 ·exact n.row ho (i:=2) (j:=6) rfl rfl (by omega) (by omega) ho.syms
 ·exact n.row ho (i:=2) (j:=7) rfl rfl (by omega) (by omega) ho.aj
theorem yl.Jw (h:yl B s b g st V) (ho:rT B V b g st.obj vt vf vd va vs vr) (n:nG B V W' b g vf v') (xs:List Int) (hxs:xs.length<=1200)
  (hblk:yc W' g #[vt,v',vd,.int .i64 st.obj.bss,va,vs,vr] 71) (hown:W'.ownsRow B 3 1 v' xs.length (xs.map (Value.int .i64))):Does B s b g V { st with obj:={ st.obj with far:=xs } } W':=by
 refine n.does h ho (i:=3) rfl (by omega) ⟨vt,v',vd,va,vs,vr,hblk,?_,hown,?_,?_,?_,?_,n.apart ho h.blk.lt (i:=3) rfl⟩ rfl (h.ok.xq _ h.ok.text hxs h.ok.data h.ok.bss h.ok.align h.ok.syms h.ok.aj) (Ib ho.far (by simp))
 ·exact n.row ho (i:=3) (j:=2) rfl rfl (by omega) (by omega) ho.text
 ·exact n.row ho (i:=3) (j:=4) rfl rfl (by omega) (by omega) ho.data
 ·exact n.row ho (i:=3) (j:=5) rfl rfl (by omega) (by omega) ho.align
 ·exact n.row ho (i:=3) (j:=6) rfl rfl (by omega) (by omega) ho.syms
 ·exact n.row ho (i:=3) (j:=7) rfl rfl (by omega) (by omega) ho.aj
theorem yl.FZ (h:yl B s b g st V) (ho:rT B V b g st.obj vt vf vd va vs vr) (n:nG B V W' b g vd v') (xs:List Int) (hxs:xs.length<=64)
  (hblk:yc W' g #[vt,vf,v',.int .i64 st.obj.bss,va,vs,vr] 71) (hown:W'.ownsRow B 3 1 v' xs.length (xs.map (Value.int .i64))):Does B s b g V { st with obj:={ st.obj with data:=xs } } W':=by
 refine n.does h ho (i:=4) rfl (by omega) ⟨vt,vf,v',va,vs,vr,hblk,?_,?_,hown,?_,?_,?_,n.apart ho h.blk.lt (i:=4) rfl⟩ rfl (h.ok.xq _ h.ok.text h.ok.far hxs h.ok.bss h.ok.align h.ok.syms h.ok.aj) (Ib ho.data (by simp))
 ·exact n.row ho (i:=4) (j:=2) rfl rfl (by omega) (by omega) ho.text
 ·exact n.row ho (i:=4) (j:=3) rfl rfl (by omega) (by omega) ho.far
 ·exact n.row ho (i:=4) (j:=5) rfl rfl (by omega) (by omega) ho.align
 ·exact n.row ho (i:=4) (j:=6) rfl rfl (by omega) (by omega) ho.syms
 ·exact n.row ho (i:=4) (j:=7) rfl rfl (by omega) (by omega) ho.aj
theorem nG.app0 {v:Value} {w3:World} {off:Nat} (hg:V.grownBy w3 v.ownBlock) (hat:v'.ownBlock=v.ownBlock\/v'.ownBlock=some V.heap.size):nG B V (w3.setCell ⟨g,off,none⟩ v') b g v v':=by
 have gs:=ye w3 g off v';refine ⟨fun k hk hne hkg=>?_,fun k hk=>?_,?_,?_,?_,?_⟩
 ·rw [gs.block k (by have:=hg.size; omega) (by simpa using hkg),hg.block k hk hne]
 ·rcases hat with e | e
  ·exact .inl (by rw [<- e]; exact hk)
  ·rw [e] at hk;simp at hk;exact .inr (by omega)
 ·rw [gs.os,hg.os]
 ·rw [gs.tape,hg.tape]
 ·rw [gs.output,hg.output]
 ·have:=gs.size; have:=hg.size; omega
end
theorem yl.Jv {B:Nat} {s:ByteArray} {b g:Nat} {V:World} {st:As.St} {vt vf vd va vs vr:Value} (h:yl B s b g st V) (ho:rT B V b g st.obj vt vf vd va vs vr) (n:Int) (hn:0<=n/\n<=64) :
  Does B s b g V { st with obj:={ st.obj with bss:=n } } (V.setCell ⟨g,3,none⟩ (.int .i64 n)):=by
 have gs:=ye V g 3 (.int .i64 n);have nr:nG B V (V.setCell ⟨g,3,none⟩ (.int .i64 n)) b g (jw g) (jw g):=⟨fun k hk _ hkg=>gs.block k hk (by simpa using hkg),fun k hk=>.inl hk,gs.os,gs.tape,gs.output,gs.size⟩
 have nb:=ho.blk.set 3 (.int .i64 n);have hlo:=h.lo;have row:∀ {e:TypeId} {size m:Nat} {u:Value} {xs:List Value} {j:Nat},[jw b,jw g,vt,vf,vd,va,vs,vr][j]?=some u->1≠j->V.ownsRow B e size u m xs->(V.setCell ⟨g,3,none⟩ (.int .i64 n)).ownsRow B e size u m xs:=fun hj hne hu =>
  Nl hu fun k hk=>gs.block k (hu.lt k hk).2 (fun e=>ho.apart.ne (i:=1) rfl hj hne k (by simpa [jw,Value.ownBlock] using e.symm) hk)
 have low:Below B V (V.setCell ⟨g,3,none⟩ (.int .i64 n)):=(Below.refl B V).grown gs h.size (by intro k hk; simp at hk; omega);refine ⟨⟨h.blk.grown gs (by simpa using hlo.2.2.2),⟨vt,vf,vd,va,vs,vr,by simpa using nb,row (j:=2) rfl (by omega) ho.text,row (j:=3) rfl (by omega) ho.far,row (j:=4) rfl (by omega) ho.data,row (j:=5) rfl (by omega) ho.align,row (j:=6) rfl (by omega) ho.syms,row (j:=7) rfl (by omega) ho.aj,ho.apart⟩,h.lo,h.ok.xq _ h.ok.text h.ok.far h.ok.data hn h.ok.align h.ok.syms h.ok.aj,h.tabs.sV gs (by omega)⟩,low,?_⟩;intro k cs t h1 h2 _ _ _ hb;refine hb.grown gs ?_;intro e;obtain rfl:k=g:=by simpa using e
 have:=hb.symm.trans ho.blk
 simp at this;exact h2 this.2
theorem OW (e pos:Nat) (st:As.St) (he:e≠0):As.failed (As.refuse e pos st)=true:=by
 unfold As.refuse;split
 ·rename_i h; exact h
 ·unfold As.failed; simp [he]
theorem J3 (B:Nat) (s:ByteArray) (b g:Nat) (st1:As.St) (ao:Option Addr) (cap:Nat) (ws:List Int) (W:World) (h:yl B s b g st1 W) (hw:qR W ao cap ws) (hn:ws.length<=4096) :
  Calls Tryz.prog 198 #[.pointer (some ⟨b,0,none⟩),.slice ao ws.length cap] W fun en W'=>en = .returned (.tuple #[])/\Does B s b g W (As.lay ws st1) W':=by
 obtain ⟨i0,hi,hz0,hz1,hz2⟩:=info_parts Tryz.kN;have HW:=hid h;have A8:=hid hw;have c13:=vQ h;have c14:=uq h;have hsb:=TL h.ok;have hpos:=h.ok.op.pos;have HD0:=hid (fun n=>h.jU.drewN n);have cL:=hid (fun V hV=>KR B s b g st1 V hV);have cM:=hid (fun V hV=>yob B s b g st1 V hV);have cF:=hid (fun V hV=>D9 B s b g st1 V hV);have hlim:64<=As.limit st1.ah/\As.limit st1.ah<=1200:=by unfold As.limit; repeat' split <;> omega
 have RS:=hid (show As.lay ws st1=if 4 * As.limit st1.ah < 4 * As.bM st1.obj st1.ah+4 * (ws.length:Int) then As.refuse 13 st1.op.pos st1 else if As.failed st1 then st1 else { st1 with obj:=As.bn st1.obj st1.ah ws } from rfl);have WO:=h.ok.ah;generalize As.lay ws st1=X at *;generalize hq:As.bM st1.obj st1.ah=q at *;generalize hl:As.limit st1.ah=lim at *;have HQ:=hid hq;have HL:=hid hl;clear h hw hq hl;go_enter Tryz.func198,Tryz.ntmps198;go_wp2
 go_quiet ((go_at_call 87; exact Calls.quiet_of_same (cL.o _ (HD0.o _).1)))
 go_wp2_with fail;refine (cM.o _ (HD0.o _).1).mono ?_;rintro e w1 ⟨rfl,rfl⟩;have D0:=hid ((HD0.o nq).does HW.o);have uN:=hid (A8.o.grown (yf (World.grownBy.refl _ _) nq));clear HD0 c13 c14 cL cM A8;generalize W.drewN nq=V1 at *;by_cases hov:4 * lim < 4 * q+4 * (ws.length:Int)
 ·have D1:decide (4 * lim < 4 * q+4 * (ws.length:Int))=true:=by simp; omega
  rw [if_pos hov] at RS;have c10:=Qd D0.o.1;clear hov;go_wp2_with fail;refine (yK B s b g st1 13 st1.op.pos V1 D0.o.1 (by omega) hpos).mono ?_;rintro e V2 ⟨rfl,h2⟩;have D2:=hid (D0.o.aN h2);have Ol:=hid (show As.failed (As.refuse 13 st1.op.pos st1)=true from OW _ _ _ (by omega));clear h2 c10;go_wp2_with fail;refine (D9 B s b g _ V2 D2.o.1).mono ?_;rintro e w2 ⟨rfl,rfl⟩;rw [Ol.o];go_wp2
  (try simp only [Exit.inBlock,Exit.then]); refine bodyPost_ret (results_none rfl _ _ _) rfl ?_
  rw [RS.o];exact ⟨rfl,D2.o⟩
 ·have D1:decide (4 * lim < 4 * q+4 * (ws.length:Int))=false:=by simp; omega
  rw [if_neg hov] at RS;have ROOM:=hid (show As.bM st1.obj st1.ah+ws.length<=As.limit st1.ah by rw [HQ.o,HL.o]; omega);clear hov;go_wp2_with fail;refine (cF.o V1 D0.o.1).mono ?_;rintro e w2 ⟨rfl,rfl⟩;clear cF;have D:=hid D0.o;clear D0
  cases hf:As.failed st1
  ·rw [hf,if_neg (by simp)] at RS;have RX:=hid RS.o;clear hf RS;rcases (show st1.ah=1\/st1.ah=2\/st1.ah=3\/st1.ah=4 by omega) with es | es | es | es
   all_goals
    have ES:=hid es;clear es
   ·obtain ⟨vt,vf,vd,va,vs,vr,ho⟩:=D.o.1.own;obtain ⟨kY,cap0,rfl⟩:=yi ho.text;have HO:=hid ho;have hlen:st1.obj.text.length+ws.length<=1200:=by have:=ROOM.o; unfold As.limit As.bM at this; simp [ES.o] at this; omega
    have g0:=ho.blk.cell 0;simp only [bI,bK] at g0;have c14:=uq D.o.1;have hA:Hd (w2.drew.ownsRow B 3 1 (.slice kY st1.obj.text.length cap0) st1.obj.text.length (st1.obj.text.map (Value.int .i64))):=ho.text.drew;have Mw:Hd (qR w2.drew ao cap ws):=uN.o.grown (yh (World.grownBy.refl _ _));have hbs:Hd (B<=w2.drew.heap.size):=D.o.1.size;have hb0:Hd (some b≠Value.ownBlock (.slice kY st1.obj.text.length cap0)):=fun e=>ho.apart.ne (i:=0) (j:=2) rfl rfl (by omega) b rfl e.symm
    have hg0:Hd (some g≠Value.ownBlock (.slice kY st1.obj.text.length cap0)):=fun e=>ho.apart.ne (i:=1) (j:=2) rfl rfl (by omega) g rfl e.symm
    have KB:Hd (∀ w3,w2.grownBy w3 (Value.ownBlock (.slice kY st1.obj.text.length cap0))->w3.cell? ⟨b,14,none⟩=some (.pointer (some ⟨g,0,none⟩))):=fun w3 h=>h.cell c14 hb0.o
    have KG:Hd (∀ w3,w2.grownBy w3 (Value.ownBlock (.slice kY st1.obj.text.length cap0))->yc w3 g #[.slice kY st1.obj.text.length cap0,vf,vd,.int .i64 st1.obj.bss,va,vs,vr] 71):=fun w3 h=>HO.o.blk.grown h hg0.o
    have FIN:Hd (∀ w3 fJ cap',w2.grownBy w3 (Value.ownBlock (.slice kY st1.obj.text.length cap0))->(Value.ownBlock (.slice fJ (st1.obj.text.length+ws.length) cap')=Value.ownBlock (.slice kY st1.obj.text.length cap0)\/Value.ownBlock (.slice fJ (st1.obj.text.length+ws.length) cap')=some w2.heap.size)->w3.ownsRow B 3 1 (.slice fJ (st1.obj.text.length+ws.length) cap') (st1.obj.text.length+ws.length) (st1.obj.text.map (Value.int .i64) ++ ws.map (Value.int .i64)) ->
      Does B s b g W X (w3.setCell ⟨g,0,none⟩ (.slice fJ (st1.obj.text.length+ws.length) cap'))/\(w3.setCell ⟨g,0,none⟩ (.slice fJ (st1.obj.text.length+ws.length) cap')).cell? ⟨b,14,none⟩=some (.pointer (some ⟨g,0,none⟩))):=fun w3 fJ cap' gd hat hown=>by
     have nr:nG B w2 (w3.setCell ⟨g,0,none⟩ (.slice fJ (st1.obj.text.length+ws.length) cap')) b g (.slice kY st1.obj.text.length cap0) (.slice fJ (st1.obj.text.length+ws.length) cap'):=nG.app0 gd hat
     have nb:=(KG.o w3 gd).set 0 (.slice fJ (st1.obj.text.length+ws.length) cap');have gs:=ye w3 g 0 (.slice fJ (st1.obj.text.length+ws.length) cap');refine ⟨?_,gs.cell (KB.o w3 gd) (by simpa using fun e=>D.o.1.lo.2.2.2 e)⟩;rw [show X={ st1 with obj:={ st1.obj with text:=st1.obj.text ++ ws } } from by rw [RX.o]; unfold As.bn; simp [ES.o]];refine D.o.after (D.o.1.newText HO.o nr (st1.obj.text ++ ws) (by rw [eZ]; exact hlen) (by simpa using nb) ?_);rw [eZ,List.map_append];exact KA hown (fun k hk=>by
      rcases hat with h1 | h1
      ·rw [h1] at hk;exact fun e=>hg0.o (by rw [e,hk])
      ·rw [h1] at hk;simp at hk
       have:=HO.o.blk.lt
       omega)
    have hsc:=hid (show w2.cell? ⟨b,13,none⟩=some (.int .i64 1) from by have:=vQ D.o.1; rw [ES.o] at this; exact this);have hsc2:=hsc.o;clear ho;go_wp2;clear hsc2;refine wp_region_held_drew (S:=(fun w'=>w'.cell? ⟨b,14,none⟩=some (.pointer (some ⟨g,0,none⟩)))) (by kernel_rfl) c14 ?_;intro hS;refine aU (i:=0) (v:=?_) rfl ?_ hS ?_
    rotate_left
    ·intro w' hw'; have x0:=hw'; go_simp; with_reducible rfl
    refine aU (i:=1) (v:=?_) rfl ?_ hS ?_
    rotate_left
    ·intro w' hw'; have x0:=hw'; go_simp; with_reducible rfl
    refine aU (i:=2) (v:=?_) rfl ?_ hS ?_
    rotate_left
    ·intro w' hw'; have x0:=hw'; go_simp; with_reducible rfl
    refine aU (i:=3) (v:=?_) rfl ?_ hS ?_
    rotate_left
    ·intro w' hw'; have x0:=hw'; go_simp; with_reducible rfl
    refine aU (i:=4) (v:=?_) rfl ?_ hS ?_
    rotate_left
    ·intro w' hw'; have x0:=hw'; go_simp; with_reducible rfl
    refine aU (i:=5) (v:=?_) rfl ?_ hS ?_
    rotate_left
    ·intro w' hw'; have x0:=hw'; go_simp; with_reducible rfl
    refine aU (i:=6) (v:=?_) rfl ?_ hS ?_
    rotate_left
    ·intro w' hw'; have x0:=hw'; go_simp; with_reducible rfl
    refine aU (i:=7) (v:=?_) rfl ?_ hS ?_
    rotate_left
    ·intro w' hw'; have x0:=hw'; go_simp; with_reducible rfl
    refine aU (i:=8) (v:=?_) rfl ?_ hS ?_
    rotate_left
    ·intro w' hw'; have x0:=hw'; go_simp; with_reducible rfl
    refine aU (i:=9) (v:=?_) rfl ?_ hS ?_
    rotate_left
    ·intro w' hw'; have x0:=hw'; go_simp; with_reducible rfl
    refine aU (i:=11) (v:=?_) rfl ?_ hS ?_
    rotate_left
    ·intro w' hw'; have x0:=hw'; go_simp; with_reducible rfl
    refine wpAnyH_ready (rs:=[10]) (by kernel_rfl) (by simp) ?_;refine AllReadyH.cons rfl (fun K hK=>?_) AllReadyH.nil;go_simp;refine hK.out _ _ hS (fun hS2=>?_);clear hK K;refine wpAnyH_ready (rs:=[12]) (by kernel_rfl) (by simp) ?_;refine AllReadyH.cons rfl (fun K hK=>?_) AllReadyH.nil;rw [if_pos (by kernel_rfl)];refine SG _ (.tmp 48) (.tmp 49) 35 rfl B i0 Tryz.underlying35 hi hz0 hz1 hz2 (.slice kY st1.obj.text.length cap0) st1.obj.text.length (st1.obj.text.map (Value.int .i64)) (by kernel_rfl) hA.o ao cap ws (by kernel_rfl) Mw.o (by omega) hbs.o ?_;intro v' w3 hown' hgrow hat
    obtain ⟨fJ,cap',rfl⟩:=yi hown';have gd:w2.grownBy w3 (Value.ownBlock (.slice kY st1.obj.text.length cap0)):=⟨hgrow.os,hgrow.tape,hgrow.output,hgrow.size,hgrow.block⟩
    have jP:Value.ownBlock (.slice fJ (st1.obj.text.length+ws.length) cap')=Value.ownBlock (.slice kY st1.obj.text.length cap0)\/Value.ownBlock (.slice fJ (st1.obj.text.length+ws.length) cap')=some w2.heap.size:=hat
    have F:=hid (FIN.o _ _ _ gd jP hown');have n14:=KB.o _ gd;have ng:=KG.o _ gd;have m5:=ng.cell 0;have f5:=ng.free 0;simp only [bI,bK] at m5;clear hown' hgrow gd hat jP ng;refine hK.out _ _ n14 (fun jh=>?_);clear hK K;refine aU (i:=13) (v:=?_) rfl ?_ jh ?_
    rotate_left
    ·intro w' hw'; have x0:=hw'; go_simp; with_reducible rfl
    refine aU (i:=14) (v:=?_) rfl ?_ jh ?_
    rotate_left
    ·intro w' hw'; have x0:=hw'; go_simp; with_reducible rfl
    refine wpAnyH_ready (rs:=[15]) (by kernel_rfl) (by simp) ?_;refine AllReadyH.cons rfl (fun K hK=>?_) AllReadyH.nil;go_simp;refine hK.out _ _ F.o.2 (fun hS5=>?_);clear hK K;refine wpAnyH_done (by kernel_rfl) ?_ _
    try simp only [sN,qc,pz,pU,gu,fZ,gq]
    clear hA hbs c14 g0 n14 m5 f5 jh hS5 hS hS2;go_wp2
    go_end0
    exact ⟨rfl,F.o.1⟩
   ·obtain ⟨vt,vf,vd,va,vs,vr,ho⟩:=D.o.1.own;obtain ⟨kY,cap0,rfl⟩:=yi ho.far;have HO:=hid ho;have hlen:st1.obj.far.length+ws.length<=1200:=by have:=ROOM.o; unfold As.limit As.bM at this; simp [ES.o] at this; omega
    have g0:=ho.blk.cell 1;simp only [bI,bN,bK] at g0;have c14:=uq D.o.1;have hA:Hd (w2.drew.ownsRow B 3 1 (.slice kY st1.obj.far.length cap0) st1.obj.far.length (st1.obj.far.map (Value.int .i64))):=ho.far.drew;have Mw:Hd (qR w2.drew ao cap ws):=uN.o.grown (yh (World.grownBy.refl _ _));have hbs:Hd (B<=w2.drew.heap.size):=D.o.1.size;have hb0:Hd (some b≠Value.ownBlock (.slice kY st1.obj.far.length cap0)):=fun e=>ho.apart.ne (i:=0) (j:=3) rfl rfl (by omega) b rfl e.symm
    have hg0:Hd (some g≠Value.ownBlock (.slice kY st1.obj.far.length cap0)):=fun e=>ho.apart.ne (i:=1) (j:=3) rfl rfl (by omega) g rfl e.symm
    have KB:Hd (∀ w3,w2.grownBy w3 (Value.ownBlock (.slice kY st1.obj.far.length cap0))->w3.cell? ⟨b,14,none⟩=some (.pointer (some ⟨g,0,none⟩))):=fun w3 h=>h.cell c14 hb0.o
    have KG:Hd (∀ w3,w2.grownBy w3 (Value.ownBlock (.slice kY st1.obj.far.length cap0))->yc w3 g #[vt,.slice kY st1.obj.far.length cap0,vd,.int .i64 st1.obj.bss,va,vs,vr] 71):=fun w3 h=>HO.o.blk.grown h hg0.o
    have FIN:Hd (∀ w3 fJ cap',w2.grownBy w3 (Value.ownBlock (.slice kY st1.obj.far.length cap0))->(Value.ownBlock (.slice fJ (st1.obj.far.length+ws.length) cap')=Value.ownBlock (.slice kY st1.obj.far.length cap0)\/Value.ownBlock (.slice fJ (st1.obj.far.length+ws.length) cap')=some w2.heap.size)->w3.ownsRow B 3 1 (.slice fJ (st1.obj.far.length+ws.length) cap') (st1.obj.far.length+ws.length) (st1.obj.far.map (Value.int .i64) ++ ws.map (Value.int .i64)) ->
      Does B s b g W X (w3.setCell ⟨g,1,none⟩ (.slice fJ (st1.obj.far.length+ws.length) cap'))/\(w3.setCell ⟨g,1,none⟩ (.slice fJ (st1.obj.far.length+ws.length) cap')).cell? ⟨b,14,none⟩=some (.pointer (some ⟨g,0,none⟩))):=fun w3 fJ cap' gd hat hown=>by
     have nr:nG B w2 (w3.setCell ⟨g,1,none⟩ (.slice fJ (st1.obj.far.length+ws.length) cap')) b g (.slice kY st1.obj.far.length cap0) (.slice fJ (st1.obj.far.length+ws.length) cap'):=nG.app0 gd hat
     have nb:=(KG.o w3 gd).set 1 (.slice fJ (st1.obj.far.length+ws.length) cap');have gs:=ye w3 g 1 (.slice fJ (st1.obj.far.length+ws.length) cap');refine ⟨?_,gs.cell (KB.o w3 gd) (by simpa using fun e=>D.o.1.lo.2.2.2 e)⟩;rw [show X={ st1 with obj:={ st1.obj with far:=st1.obj.far ++ ws } } from by rw [RX.o]; unfold As.bn; simp [ES.o]];refine D.o.after (D.o.1.Jw HO.o nr (st1.obj.far ++ ws) (by rw [eZ]; exact hlen) (by simpa using nb) ?_);rw [eZ,List.map_append];exact KA hown (fun k hk=>by
      rcases hat with h1 | h1
      ·rw [h1] at hk;exact fun e=>hg0.o (by rw [e,hk])
      ·rw [h1] at hk;simp at hk
       have:=HO.o.blk.lt
       omega)
    have hsc:=hid (show w2.cell? ⟨b,13,none⟩=some (.int .i64 2) from by have:=vQ D.o.1; rw [ES.o] at this; exact this);have hsc2:=hsc.o;clear ho;go_wp2;clear hsc2;refine wp_region_held_drew (S:=(fun w'=>w'.cell? ⟨b,14,none⟩=some (.pointer (some ⟨g,0,none⟩)))) (by kernel_rfl) c14 ?_;intro hS;refine aU (i:=0) (v:=?_) rfl ?_ hS ?_
    rotate_left
    ·intro w' hw'; have x0:=hw'; go_simp; with_reducible rfl
    refine aU (i:=1) (v:=?_) rfl ?_ hS ?_
    rotate_left
    ·intro w' hw'; have x0:=hw'; go_simp; with_reducible rfl
    refine aU (i:=2) (v:=?_) rfl ?_ hS ?_
    rotate_left
    ·intro w' hw'; have x0:=hw'; go_simp; with_reducible rfl
    refine aU (i:=3) (v:=?_) rfl ?_ hS ?_
    rotate_left
    ·intro w' hw'; have x0:=hw'; go_simp; with_reducible rfl
    refine aU (i:=4) (v:=?_) rfl ?_ hS ?_
    rotate_left
    ·intro w' hw'; have x0:=hw'; go_simp; with_reducible rfl
    refine aU (i:=5) (v:=?_) rfl ?_ hS ?_
    rotate_left
    ·intro w' hw'; have x0:=hw'; go_simp; with_reducible rfl
    refine aU (i:=6) (v:=?_) rfl ?_ hS ?_
    rotate_left
    ·intro w' hw'; have x0:=hw'; go_simp; with_reducible rfl
    refine aU (i:=7) (v:=?_) rfl ?_ hS ?_
    rotate_left
    ·intro w' hw'; have x0:=hw'; go_simp; with_reducible rfl
    refine aU (i:=8) (v:=?_) rfl ?_ hS ?_
    rotate_left
    ·intro w' hw'; have x0:=hw'; go_simp; with_reducible rfl
    refine aU (i:=9) (v:=?_) rfl ?_ hS ?_
    rotate_left
    ·intro w' hw'; have x0:=hw'; go_simp; with_reducible rfl
    refine aU (i:=11) (v:=?_) rfl ?_ hS ?_
    rotate_left
    ·intro w' hw'; have x0:=hw'; go_simp; with_reducible rfl
    refine wpAnyH_ready (rs:=[10]) (by kernel_rfl) (by simp) ?_;refine AllReadyH.cons rfl (fun K hK=>?_) AllReadyH.nil;go_simp;refine hK.out _ _ hS (fun hS2=>?_);clear hK K;refine wpAnyH_ready (rs:=[12]) (by kernel_rfl) (by simp) ?_;refine AllReadyH.cons rfl (fun K hK=>?_) AllReadyH.nil;rw [if_pos (by kernel_rfl)];refine SG _ (.tmp 65) (.tmp 66) 35 rfl B i0 Tryz.underlying35 hi hz0 hz1 hz2 (.slice kY st1.obj.far.length cap0) st1.obj.far.length (st1.obj.far.map (Value.int .i64)) (by kernel_rfl) hA.o ao cap ws (by kernel_rfl) Mw.o (by omega) hbs.o ?_;intro v' w3 hown' hgrow hat
    obtain ⟨fJ,cap',rfl⟩:=yi hown';have gd:w2.grownBy w3 (Value.ownBlock (.slice kY st1.obj.far.length cap0)):=⟨hgrow.os,hgrow.tape,hgrow.output,hgrow.size,hgrow.block⟩
    have jP:Value.ownBlock (.slice fJ (st1.obj.far.length+ws.length) cap')=Value.ownBlock (.slice kY st1.obj.far.length cap0)\/Value.ownBlock (.slice fJ (st1.obj.far.length+ws.length) cap')=some w2.heap.size:=hat
    have F:=hid (FIN.o _ _ _ gd jP hown');have n14:=KB.o _ gd;have ng:=KG.o _ gd;have m5:=ng.cell 1;have f5:=ng.free 1;simp only [bI,bN,bK] at m5;clear hown' hgrow gd hat jP ng;refine hK.out _ _ n14 (fun jh=>?_);clear hK K;refine aU (i:=13) (v:=?_) rfl ?_ jh ?_
    rotate_left
    ·intro w' hw'; have x0:=hw'; go_simp; with_reducible rfl
    refine aU (i:=14) (v:=?_) rfl ?_ jh ?_
    rotate_left
    ·intro w' hw'; have x0:=hw'; go_simp; with_reducible rfl
    refine wpAnyH_ready (rs:=[15]) (by kernel_rfl) (by simp) ?_;refine AllReadyH.cons rfl (fun K hK=>?_) AllReadyH.nil;go_simp;refine hK.out _ _ F.o.2 (fun hS5=>?_);clear hK K;refine wpAnyH_done (by kernel_rfl) ?_ _
    try simp only [sN,qc,pz,pU,gu,fZ,gq]
    clear hA hbs c14 g0 n14 m5 f5 jh hS5 hS hS2;go_wp2
    go_end0
    exact ⟨rfl,F.o.1⟩
   ·obtain ⟨vt,vf,vd,va,vs,vr,ho⟩:=D.o.1.own;obtain ⟨kY,cap0,rfl⟩:=yi ho.data;have HO:=hid ho;have hlen:st1.obj.data.length+ws.length<=64:=by have:=ROOM.o; unfold As.limit As.bM at this; simp [ES.o] at this; omega
    have g0:=ho.blk.cell 2;simp only [bI,bN,bK] at g0;have c14:=uq D.o.1;have hA:Hd (w2.drew.ownsRow B 3 1 (.slice kY st1.obj.data.length cap0) st1.obj.data.length (st1.obj.data.map (Value.int .i64))):=ho.data.drew;have Mw:Hd (qR w2.drew ao cap ws):=uN.o.grown (yh (World.grownBy.refl _ _));have hbs:Hd (B<=w2.drew.heap.size):=D.o.1.size;have hb0:Hd (some b≠Value.ownBlock (.slice kY st1.obj.data.length cap0)):=fun e=>ho.apart.ne (i:=0) (j:=4) rfl rfl (by omega) b rfl e.symm
    have hg0:Hd (some g≠Value.ownBlock (.slice kY st1.obj.data.length cap0)):=fun e=>ho.apart.ne (i:=1) (j:=4) rfl rfl (by omega) g rfl e.symm
    have KB:Hd (∀ w3,w2.grownBy w3 (Value.ownBlock (.slice kY st1.obj.data.length cap0))->w3.cell? ⟨b,14,none⟩=some (.pointer (some ⟨g,0,none⟩))):=fun w3 h=>h.cell c14 hb0.o
    have KG:Hd (∀ w3,w2.grownBy w3 (Value.ownBlock (.slice kY st1.obj.data.length cap0))->yc w3 g #[vt,vf,.slice kY st1.obj.data.length cap0,.int .i64 st1.obj.bss,va,vs,vr] 71):=fun w3 h=>HO.o.blk.grown h hg0.o
    have FIN:Hd (∀ w3 fJ cap',w2.grownBy w3 (Value.ownBlock (.slice kY st1.obj.data.length cap0))->(Value.ownBlock (.slice fJ (st1.obj.data.length+ws.length) cap')=Value.ownBlock (.slice kY st1.obj.data.length cap0)\/Value.ownBlock (.slice fJ (st1.obj.data.length+ws.length) cap')=some w2.heap.size)->w3.ownsRow B 3 1 (.slice fJ (st1.obj.data.length+ws.length) cap') (st1.obj.data.length+ws.length) (st1.obj.data.map (Value.int .i64) ++ ws.map (Value.int .i64)) ->
      Does B s b g W X (w3.setCell ⟨g,2,none⟩ (.slice fJ (st1.obj.data.length+ws.length) cap'))/\(w3.setCell ⟨g,2,none⟩ (.slice fJ (st1.obj.data.length+ws.length) cap')).cell? ⟨b,14,none⟩=some (.pointer (some ⟨g,0,none⟩))):=fun w3 fJ cap' gd hat hown=>by
     have nr:nG B w2 (w3.setCell ⟨g,2,none⟩ (.slice fJ (st1.obj.data.length+ws.length) cap')) b g (.slice kY st1.obj.data.length cap0) (.slice fJ (st1.obj.data.length+ws.length) cap'):=nG.app0 gd hat
     have nb:=(KG.o w3 gd).set 2 (.slice fJ (st1.obj.data.length+ws.length) cap');have gs:=ye w3 g 2 (.slice fJ (st1.obj.data.length+ws.length) cap');refine ⟨?_,gs.cell (KB.o w3 gd) (by simpa using fun e=>D.o.1.lo.2.2.2 e)⟩;rw [show X={ st1 with obj:={ st1.obj with data:=st1.obj.data ++ ws } } from by rw [RX.o]; unfold As.bn; simp [ES.o]];refine D.o.after (D.o.1.FZ HO.o nr (st1.obj.data ++ ws) (by rw [eZ]; exact hlen) (by simpa using nb) ?_);rw [eZ,List.map_append];exact KA hown (fun k hk=>by
      rcases hat with h1 | h1
      ·rw [h1] at hk;exact fun e=>hg0.o (by rw [e,hk])
      ·rw [h1] at hk;simp at hk
       have:=HO.o.blk.lt
       omega)
    have hsc:=hid (show w2.cell? ⟨b,13,none⟩=some (.int .i64 3) from by have:=vQ D.o.1; rw [ES.o] at this; exact this);have hsc2:=hsc.o;clear ho;go_wp2;clear hsc2;refine wp_region_held_drew (S:=(fun w'=>w'.cell? ⟨b,14,none⟩=some (.pointer (some ⟨g,0,none⟩)))) (by kernel_rfl) c14 ?_;intro hS;refine aU (i:=0) (v:=?_) rfl ?_ hS ?_
    rotate_left
    ·intro w' hw'; have x0:=hw'; go_simp; with_reducible rfl
    refine aU (i:=1) (v:=?_) rfl ?_ hS ?_
    rotate_left
    ·intro w' hw'; have x0:=hw'; go_simp; with_reducible rfl
    refine aU (i:=2) (v:=?_) rfl ?_ hS ?_
    rotate_left
    ·intro w' hw'; have x0:=hw'; go_simp; with_reducible rfl
    refine aU (i:=3) (v:=?_) rfl ?_ hS ?_
    rotate_left
    ·intro w' hw'; have x0:=hw'; go_simp; with_reducible rfl
    refine aU (i:=4) (v:=?_) rfl ?_ hS ?_
    rotate_left
    ·intro w' hw'; have x0:=hw'; go_simp; with_reducible rfl
    refine aU (i:=5) (v:=?_) rfl ?_ hS ?_
    rotate_left
    ·intro w' hw'; have x0:=hw'; go_simp; with_reducible rfl
    refine aU (i:=6) (v:=?_) rfl ?_ hS ?_
    rotate_left
    ·intro w' hw'; have x0:=hw'; go_simp; with_reducible rfl
    refine aU (i:=7) (v:=?_) rfl ?_ hS ?_
    rotate_left
    ·intro w' hw'; have x0:=hw'; go_simp; with_reducible rfl
    refine aU (i:=8) (v:=?_) rfl ?_ hS ?_
    rotate_left
    ·intro w' hw'; have x0:=hw'; go_simp; with_reducible rfl
    refine aU (i:=9) (v:=?_) rfl ?_ hS ?_
    rotate_left
    ·intro w' hw'; have x0:=hw'; go_simp; with_reducible rfl
    refine aU (i:=11) (v:=?_) rfl ?_ hS ?_
    rotate_left
    ·intro w' hw'; have x0:=hw'; go_simp; with_reducible rfl
    refine wpAnyH_ready (rs:=[10]) (by kernel_rfl) (by simp) ?_;refine AllReadyH.cons rfl (fun K hK=>?_) AllReadyH.nil;go_simp;refine hK.out _ _ hS (fun hS2=>?_);clear hK K;refine wpAnyH_ready (rs:=[12]) (by kernel_rfl) (by simp) ?_;refine AllReadyH.cons rfl (fun K hK=>?_) AllReadyH.nil;rw [if_pos (by kernel_rfl)];refine SG _ (.tmp 82) (.tmp 83) 35 rfl B i0 Tryz.underlying35 hi hz0 hz1 hz2 (.slice kY st1.obj.data.length cap0) st1.obj.data.length (st1.obj.data.map (Value.int .i64)) (by kernel_rfl) hA.o ao cap ws (by kernel_rfl) Mw.o (by omega) hbs.o ?_;intro v' w3 hown' hgrow hat
    obtain ⟨fJ,cap',rfl⟩:=yi hown';have gd:w2.grownBy w3 (Value.ownBlock (.slice kY st1.obj.data.length cap0)):=⟨hgrow.os,hgrow.tape,hgrow.output,hgrow.size,hgrow.block⟩
    have jP:Value.ownBlock (.slice fJ (st1.obj.data.length+ws.length) cap')=Value.ownBlock (.slice kY st1.obj.data.length cap0)\/Value.ownBlock (.slice fJ (st1.obj.data.length+ws.length) cap')=some w2.heap.size:=hat
    have F:=hid (FIN.o _ _ _ gd jP hown');have n14:=KB.o _ gd;have ng:=KG.o _ gd;have m5:=ng.cell 2;have f5:=ng.free 2;simp only [bI,bN,bK] at m5;clear hown' hgrow gd hat jP ng;refine hK.out _ _ n14 (fun jh=>?_);clear hK K;refine aU (i:=13) (v:=?_) rfl ?_ jh ?_
    rotate_left
    ·intro w' hw'; have x0:=hw'; go_simp; with_reducible rfl
    refine aU (i:=14) (v:=?_) rfl ?_ jh ?_
    rotate_left
    ·intro w' hw'; have x0:=hw'; go_simp; with_reducible rfl
    refine wpAnyH_ready (rs:=[15]) (by kernel_rfl) (by simp) ?_;refine AllReadyH.cons rfl (fun K hK=>?_) AllReadyH.nil;go_simp;refine hK.out _ _ F.o.2 (fun hS5=>?_);clear hK K;refine wpAnyH_done (by kernel_rfl) ?_ _
    try simp only [sN,qc,pz,pU,gu,fZ,gq]
    clear hA hbs c14 g0 n14 m5 f5 jh hS5 hS hS2;go_wp2
    go_end0
    exact ⟨rfl,F.o.1⟩
   ·obtain ⟨vt,vf,vd,va,vs,vr,ho⟩:=D.o.1.own;have HO:=hid ho;have hlen:st1.obj.bss+ws.length<=64:=by have:=ROOM.o; unfold As.limit As.bM at this; simp [ES.o] at this; omega
    have hb1:=D.o.1.ok.bss;have g0:=ho.blk.cell 3;have f0:=ho.blk.free 3;simp only [bI,bN,bK] at g0;have c14:=uq D.o.1;have hsc2:w2.cell? ⟨b,13,none⟩=some (.int .i64 4):=by have:=vQ D.o.1; rw [ES.o] at this; exact this
    have RX2:=hid (show X={ st1 with obj:={ st1.obj with bss:=st1.obj.bss+ws.length } } from by rw [RX.o]; unfold As.bn; simp [ES.o]);clear ho;go_wp2
    go_end0
    rw [RX2.o];exact ⟨rfl,D.o.after (D.o.1.Jv HO.o _ ⟨by omega,by omega⟩)⟩
  ·rw [hf,if_pos rfl] at RS;clear hf;go_wp2
   (try simp only [Exit.inBlock,Exit.then]); refine bodyPost_ret (results_none rfl _ _ _) rfl ?_
   rw [RS.o];exact ⟨rfl,D.o⟩
end Go.Proofs.YtpgklkhgfcjceaaGreatDoor
