
import Derived.Deep.RegionHeld3
import Derived.Test.YtpgklkhgfcjceaaGreatDoorV24
set_option maxHeartbeats 16000000
set_option maxRecDepth 100000
namespace Go.Proofs.YtpgklkhgfcjceaaGreatDoor
open Go.RowKit
theorem yoU (W0:World) (b g:Nat) (ai:Option Addr) (ci:Nat) (ins:List Int) (st:Mc.St) (vd vo:Value) (m:Im.dZ) (op rd au aF n:Int) (W:World) (hpre:nW W0 b g ai ci ins st vd vo m rd au aF n W) (hop:op=2) :
  Calls Tryz.prog 83 #[.pointer (some ⟨b,0,none⟩),bC op rd au aF n] W fun e W'=>e = .returned (.tuple #[])/\lU W0 b g (.slice ai ins.length ci) (Mc.doIt m ins op rd au aF n st) W':=by
 obtain ⟨h,hI,hT,hin,hl,d0,s1,s2,hn⟩:=hpre;have HA:=hid (h.grown (aJ W (.cells #[.int .i64 op,.int .i64 rd,.int .i64 au,.int .i64 aF,.int .i64 n] 143) none));have NE:=hid (show W.heap.size≠b from fun e=>by have:=h.blk.lt; omega);have IC:=hid (jo W (.int .i64 op) (.int .i64 rd) (.int .i64 au) (.int .i64 aF) (.int .i64 n));have r1:=hid (fun W hW=>yj W0 b g (.slice ai ins.length ci) st vd vo au W hW s1.1 s1.2);have r2:=hid (fun W hW=>yj W0 b g (.slice ai ins.length ci) st vd vo aF W hW s2.1 s2.2);have q1:=ym h.ok au;have q2:=ym h.ok aF;have hp:=h.ok.pc;obtain ⟨X,hX⟩:∃ X,X=Mc.doIt m ins op rd au aF n st:=⟨_,rfl⟩
 rw [<- hX];have RX:=hid hX;clear hX;unfold bC;subst hop;replace RX:=hid (show X=Mc.set rd (n * 4096+st.pc) st from RX.o);have x:IntKind.i64.wrap (n * 4096)=n * 4096:=IntWalk.i64_in _ ⟨by omega,by omega⟩;have y:IntKind.i64.wrap (n * 4096+st.pc)=n * 4096+st.pc:=IntWalk.i64_in _ ⟨by omega,by omega⟩;have cS:=hid (fun W hW=>AA W0 b g (.slice ai ins.length ci) st vd vo rd (n * 4096+st.pc) W hW d0.1 d0.2);clear h hI hT hin;go_enter Tryz.func83,Tryz.ntmps83;go_wp2_with fail;generalize W.alloc (.cells #[.int .i64 2,.int .i64 rd,.int .i64 au,.int .i64 aF,.int .i64 n] 143)=V at *;generalize W.heap.size=ib at *
 obtain ⟨i0,i1,i2,i3,i4⟩:=IC.o;refine (r1.o _ HA.o).mono ?_;rintro e V1 ⟨rfl,hV⟩;subst hV;go_wp2_with fail;refine (r2.o _ HA.o).mono ?_;rintro e V1 ⟨rfl,hV⟩;subst hV;have HD:=hid (HA.o.grown (yf (World.grownBy.refl _ none) 1));have pE:=HA.o.c.2.2.2.1;go_wp2
 go_region_with (first | (go_at_call 119; refine (cS.o _ HD.o).mono ?_; rintro e w' ⟨rfl,h2⟩))
 all_goals
  have H2:=hid h2;clear h2;go_wp2
  go_end0
  rw [RX.o];exact ⟨rfl,_,_,H2.o⟩
theorem yrC (W0:World) (b g:Nat) (ai:Option Addr) (ci:Nat) (ins:List Int) (st:Mc.St) (vd vo:Value) (m:Im.dZ) (op rd au aF n:Int) (W:World) (hpre:nW W0 b g ai ci ins st vd vo m rd au aF n W) (hop:op=3) :
  Calls Tryz.prog 83 #[.pointer (some ⟨b,0,none⟩),bC op rd au aF n] W fun e W'=>e = .returned (.tuple #[])/\lU W0 b g (.slice ai ins.length ci) (Mc.doIt m ins op rd au aF n st) W':=by
 obtain ⟨h,hI,hT,hin,hl,d0,s1,s2,hn⟩:=hpre;have HA:=hid (h.grown (aJ W (.cells #[.int .i64 op,.int .i64 rd,.int .i64 au,.int .i64 aF,.int .i64 n] 143) none));have NE:=hid (show W.heap.size≠b from fun e=>by have:=h.blk.lt; omega);have IC:=hid (jo W (.int .i64 op) (.int .i64 rd) (.int .i64 au) (.int .i64 aF) (.int .i64 n));have r1:=hid (fun W hW=>yj W0 b g (.slice ai ins.length ci) st vd vo au W hW s1.1 s1.2);have r2:=hid (fun W hW=>yj W0 b g (.slice ai ins.length ci) st vd vo aF W hW s2.1 s2.2);have q1:=ym h.ok au;have q2:=ym h.ok aF;have hp:=h.ok.pc;obtain ⟨X,hX⟩:∃ X,X=Mc.doIt m ins op rd au aF n st:=⟨_,rfl⟩
 rw [<- hX];have RX:=hid hX;clear hX;unfold bC;subst hop;replace RX:=hid (show X=Mc.jump rd (st.pc+n) st from RX.o);have y:IntKind.i64.wrap (st.pc+n)=st.pc+n:=IntWalk.i64_in _ ⟨by omega,by omega⟩;have cJ:=hid (fun W hW=>Yy W0 b g (.slice ai ins.length ci) st vd vo rd (st.pc+n) W hW d0.1 d0.2);clear h hI hT hin;go_enter Tryz.func83,Tryz.ntmps83;go_wp2_with fail;generalize W.alloc (.cells #[.int .i64 3,.int .i64 rd,.int .i64 au,.int .i64 aF,.int .i64 n] 143)=V at *;generalize W.heap.size=ib at *;obtain ⟨i0,i1,i2,i3,i4⟩:=IC.o;refine (r1.o _ HA.o).mono ?_;rintro e V1 ⟨rfl,hV⟩;subst hV;go_wp2_with fail
 refine (r2.o _ HA.o).mono ?_;rintro e V1 ⟨rfl,hV⟩;subst hV;have HD:=hid (HA.o.grown (yf (World.grownBy.refl _ none) 1));have pE:=HA.o.c.2.2.2.1;go_wp2
 go_region_with (first | (go_at_call 120; refine (cJ.o _ HD.o).mono ?_; rintro e w' ⟨rfl,h2⟩))
 all_goals
  have H2:=hid h2;clear h2;go_wp2
  go_end0
  rw [RX.o];exact ⟨rfl,_,_,H2.o⟩
theorem ysa (W0:World) (b g:Nat) (ai:Option Addr) (ci:Nat) (ins:List Int) (st:Mc.St) (vd vo:Value) (m:Im.dZ) (op rd au aF n:Int) (W:World) (hpre:nW W0 b g ai ci ins st vd vo m rd au aF n W) (hop:op=11) :
  Calls Tryz.prog 83 #[.pointer (some ⟨b,0,none⟩),bC op rd au aF n] W fun e W'=>e = .returned (.tuple #[])/\lU W0 b g (.slice ai ins.length ci) (Mc.doIt m ins op rd au aF n st) W':=by
 obtain ⟨h,hI,hT,hin,hl,d0,s1,s2,hn⟩:=hpre;have HA:=hid (h.grown (aJ W (.cells #[.int .i64 op,.int .i64 rd,.int .i64 au,.int .i64 aF,.int .i64 n] 143) none));have NE:=hid (show W.heap.size≠b from fun e=>by have:=h.blk.lt; omega);have IC:=hid (jo W (.int .i64 op) (.int .i64 rd) (.int .i64 au) (.int .i64 aF) (.int .i64 n));have r1:=hid (fun W hW=>yj W0 b g (.slice ai ins.length ci) st vd vo au W hW s1.1 s1.2);have r2:=hid (fun W hW=>yj W0 b g (.slice ai ins.length ci) st vd vo aF W hW s2.1 s2.2);have q1:=ym h.ok au;have q2:=ym h.ok aF;have hp:=h.ok.pc;obtain ⟨X,hX⟩:∃ X,X=Mc.doIt m ins op rd au aF n st:=⟨_,rfl⟩
 rw [<- hX];have RX:=hid hX;clear hX;unfold bC;subst hop;replace RX:=hid (show X=Mc.load m rd (Mc.wd (Mc.reg st au+n)) st from RX.o);generalize Mc.reg st au=a at *;have x:IntKind.i64.wrap (a+n)=a+n:=IntWalk.i64_in _ ⟨by omega,by omega⟩;have cW:=hid (fun W=>Dz (a+n) W);have wr:=Mc.gH (a+n);have cL:=hid (fun W hW=>yog W0 b g (.slice ai ins.length ci) st vd vo m rd (Mc.wd (a+n)) W hW hI hT wr.1 wr.2 d0.1 d0.2);clear h hI hT hin;go_enter Tryz.func83,Tryz.ntmps83;go_wp2_with fail;generalize W.alloc (.cells #[.int .i64 11,.int .i64 rd,.int .i64 au,.int .i64 aF,.int .i64 n] 143)=V at *;generalize W.heap.size=ib at *
 obtain ⟨i0,i1,i2,i3,i4⟩:=IC.o;refine (r1.o _ HA.o).mono ?_;rintro e V1 ⟨rfl,hV⟩;subst hV;go_wp2_with fail;refine (r2.o _ HA.o).mono ?_;rintro e V1 ⟨rfl,hV⟩;subst hV;have HD:=hid (HA.o.grown (yf (World.grownBy.refl _ none) 1));have pE:=HA.o.c.2.2.2.1;go_wp2
 go_region_with (first | (go_at_call 81; refine (cW.o _).mono ?_; rintro e w' ⟨rfl,rfl⟩) | (go_at_call 123; refine (cL.o _ HD.o).mono ?_; rintro e w' ⟨rfl,h2⟩))
 all_goals
  have H2:=hid h2;clear h2;go_wp2
  go_end0
  rw [RX.o];exact ⟨rfl,H2.o⟩
theorem yrx (W0:World) (b g:Nat) (ai:Option Addr) (ci:Nat) (ins:List Int) (st:Mc.St) (vd vo:Value) (m:Im.dZ) (op rd au aF n:Int) (W:World) (hpre:nW W0 b g ai ci ins st vd vo m rd au aF n W) (hop:op=5) :
  Calls Tryz.prog 83 #[.pointer (some ⟨b,0,none⟩),bC op rd au aF n] W fun e W'=>e = .returned (.tuple #[])/\lU W0 b g (.slice ai ins.length ci) (Mc.doIt m ins op rd au aF n st) W':=by
 obtain ⟨h,hI,hT,hin,hl,d0,s1,s2,hn⟩:=hpre;have HA:=hid (h.grown (aJ W (.cells #[.int .i64 op,.int .i64 rd,.int .i64 au,.int .i64 aF,.int .i64 n] 143) none));have NE:=hid (show W.heap.size≠b from fun e=>by have:=h.blk.lt; omega);have IC:=hid (jo W (.int .i64 op) (.int .i64 rd) (.int .i64 au) (.int .i64 aF) (.int .i64 n));have r1:=hid (fun W hW=>yj W0 b g (.slice ai ins.length ci) st vd vo au W hW s1.1 s1.2);have r2:=hid (fun W hW=>yj W0 b g (.slice ai ins.length ci) st vd vo aF W hW s2.1 s2.2);have q1:=ym h.ok au;have q2:=ym h.ok aF;have hp:=h.ok.pc;obtain ⟨X,hX⟩:∃ X,X=Mc.doIt m ins op rd au aF n st:=⟨_,rfl⟩
 rw [<- hX];have RX:=hid hX;clear hX;unfold bC;subst hop;replace RX:=hid (show X=Mc.branch (Mc.holds 5 (Mc.reg st au) (Mc.reg st aF)) n st from RX.o);generalize Mc.reg st au=a at *;generalize Mc.reg st aF=bb at *;have cH:=hid (fun W=>Ht 5 a bb W q1.1 q1.2 q2.1 q2.2 (by omega));have cB:=hid (fun t W hW=>KO W0 b g (.slice ai ins.length ci) st vd vo t n W hW (by omega) (by omega));clear h hI hT hin;go_enter Tryz.func83,Tryz.ntmps83;go_wp2_with fail;generalize W.alloc (.cells #[.int .i64 5,.int .i64 rd,.int .i64 au,.int .i64 aF,.int .i64 n] 143)=V at *;generalize W.heap.size=ib at *;obtain ⟨i0,i1,i2,i3,i4⟩:=IC.o
 refine (r1.o _ HA.o).mono ?_;rintro e V1 ⟨rfl,hV⟩;subst hV;go_wp2_with fail;refine (r2.o _ HA.o).mono ?_;rintro e V1 ⟨rfl,hV⟩;subst hV;have HD:=hid (HA.o.grown (yf (World.grownBy.refl _ none) 1));have pE:=HA.o.c.2.2.2.1;go_wp2
 go_region_with (first | (go_at_call 122; refine (cH.o _).mono ?_; rintro e w' ⟨rfl,rfl⟩) | (go_at_call 121; refine (cB.o _ _ HD.o).mono ?_; rintro e w' ⟨rfl,h2⟩))
 all_goals
  have H2:=hid h2;clear h2;go_wp2
  go_end0
  rw [RX.o];exact ⟨rfl,_,_,H2.o⟩
theorem yry (W0:World) (b g:Nat) (ai:Option Addr) (ci:Nat) (ins:List Int) (st:Mc.St) (vd vo:Value) (m:Im.dZ) (op rd au aF n:Int) (W:World) (hpre:nW W0 b g ai ci ins st vd vo m rd au aF n W) (hop:op=6) :
  Calls Tryz.prog 83 #[.pointer (some ⟨b,0,none⟩),bC op rd au aF n] W fun e W'=>e = .returned (.tuple #[])/\lU W0 b g (.slice ai ins.length ci) (Mc.doIt m ins op rd au aF n st) W':=by
 obtain ⟨h,hI,hT,hin,hl,d0,s1,s2,hn⟩:=hpre;have HA:=hid (h.grown (aJ W (.cells #[.int .i64 op,.int .i64 rd,.int .i64 au,.int .i64 aF,.int .i64 n] 143) none));have NE:=hid (show W.heap.size≠b from fun e=>by have:=h.blk.lt; omega);have IC:=hid (jo W (.int .i64 op) (.int .i64 rd) (.int .i64 au) (.int .i64 aF) (.int .i64 n));have r1:=hid (fun W hW=>yj W0 b g (.slice ai ins.length ci) st vd vo au W hW s1.1 s1.2);have r2:=hid (fun W hW=>yj W0 b g (.slice ai ins.length ci) st vd vo aF W hW s2.1 s2.2);have q1:=ym h.ok au;have q2:=ym h.ok aF;have hp:=h.ok.pc;obtain ⟨X,hX⟩:∃ X,X=Mc.doIt m ins op rd au aF n st:=⟨_,rfl⟩
 rw [<- hX];have RX:=hid hX;clear hX;unfold bC;subst hop;replace RX:=hid (show X=Mc.branch (Mc.holds 6 (Mc.reg st au) (Mc.reg st aF)) n st from RX.o);generalize Mc.reg st au=a at *;generalize Mc.reg st aF=bb at *;have cH:=hid (fun W=>Ht 6 a bb W q1.1 q1.2 q2.1 q2.2 (by omega));have cB:=hid (fun t W hW=>KO W0 b g (.slice ai ins.length ci) st vd vo t n W hW (by omega) (by omega));clear h hI hT hin;go_enter Tryz.func83,Tryz.ntmps83;go_wp2_with fail;generalize W.alloc (.cells #[.int .i64 6,.int .i64 rd,.int .i64 au,.int .i64 aF,.int .i64 n] 143)=V at *;generalize W.heap.size=ib at *;obtain ⟨i0,i1,i2,i3,i4⟩:=IC.o
 refine (r1.o _ HA.o).mono ?_;rintro e V1 ⟨rfl,hV⟩;subst hV;go_wp2_with fail;refine (r2.o _ HA.o).mono ?_;rintro e V1 ⟨rfl,hV⟩;subst hV;have HD:=hid (HA.o.grown (yf (World.grownBy.refl _ none) 1));have pE:=HA.o.c.2.2.2.1;go_wp2
 go_region_with (first | (go_at_call 122; refine (cH.o _).mono ?_; rintro e w' ⟨rfl,rfl⟩) | (go_at_call 121; refine (cB.o _ _ HD.o).mono ?_; rintro e w' ⟨rfl,h2⟩))
 all_goals
  have H2:=hid h2;clear h2;go_wp2
  go_end0
  rw [RX.o];exact ⟨rfl,_,_,H2.o⟩
theorem yrz (W0:World) (b g:Nat) (ai:Option Addr) (ci:Nat) (ins:List Int) (st:Mc.St) (vd vo:Value) (m:Im.dZ) (op rd au aF n:Int) (W:World) (hpre:nW W0 b g ai ci ins st vd vo m rd au aF n W) (hop:op=7) :
  Calls Tryz.prog 83 #[.pointer (some ⟨b,0,none⟩),bC op rd au aF n] W fun e W'=>e = .returned (.tuple #[])/\lU W0 b g (.slice ai ins.length ci) (Mc.doIt m ins op rd au aF n st) W':=by
 obtain ⟨h,hI,hT,hin,hl,d0,s1,s2,hn⟩:=hpre;have HA:=hid (h.grown (aJ W (.cells #[.int .i64 op,.int .i64 rd,.int .i64 au,.int .i64 aF,.int .i64 n] 143) none));have NE:=hid (show W.heap.size≠b from fun e=>by have:=h.blk.lt; omega);have IC:=hid (jo W (.int .i64 op) (.int .i64 rd) (.int .i64 au) (.int .i64 aF) (.int .i64 n));have r1:=hid (fun W hW=>yj W0 b g (.slice ai ins.length ci) st vd vo au W hW s1.1 s1.2);have r2:=hid (fun W hW=>yj W0 b g (.slice ai ins.length ci) st vd vo aF W hW s2.1 s2.2);have q1:=ym h.ok au;have q2:=ym h.ok aF;have hp:=h.ok.pc;obtain ⟨X,hX⟩:∃ X,X=Mc.doIt m ins op rd au aF n st:=⟨_,rfl⟩
 rw [<- hX];have RX:=hid hX;clear hX;unfold bC;subst hop;replace RX:=hid (show X=Mc.branch (Mc.holds 7 (Mc.reg st au) (Mc.reg st aF)) n st from RX.o);generalize Mc.reg st au=a at *;generalize Mc.reg st aF=bb at *;have cH:=hid (fun W=>Ht 7 a bb W q1.1 q1.2 q2.1 q2.2 (by omega));have cB:=hid (fun t W hW=>KO W0 b g (.slice ai ins.length ci) st vd vo t n W hW (by omega) (by omega));clear h hI hT hin;go_enter Tryz.func83,Tryz.ntmps83;go_wp2_with fail;generalize W.alloc (.cells #[.int .i64 7,.int .i64 rd,.int .i64 au,.int .i64 aF,.int .i64 n] 143)=V at *;generalize W.heap.size=ib at *;obtain ⟨i0,i1,i2,i3,i4⟩:=IC.o
 refine (r1.o _ HA.o).mono ?_;rintro e V1 ⟨rfl,hV⟩;subst hV;go_wp2_with fail;refine (r2.o _ HA.o).mono ?_;rintro e V1 ⟨rfl,hV⟩;subst hV;have HD:=hid (HA.o.grown (yf (World.grownBy.refl _ none) 1));have pE:=HA.o.c.2.2.2.1;go_wp2
 go_region_with (first | (go_at_call 122; refine (cH.o _).mono ?_; rintro e w' ⟨rfl,rfl⟩) | (go_at_call 121; refine (cB.o _ _ HD.o).mono ?_; rintro e w' ⟨rfl,h2⟩))
 all_goals
  have H2:=hid h2;clear h2;go_wp2
  go_end0
  rw [RX.o];exact ⟨rfl,_,_,H2.o⟩
theorem yrA (W0:World) (b g:Nat) (ai:Option Addr) (ci:Nat) (ins:List Int) (st:Mc.St) (vd vo:Value) (m:Im.dZ) (op rd au aF n:Int) (W:World) (hpre:nW W0 b g ai ci ins st vd vo m rd au aF n W) (hop:op=8) :
  Calls Tryz.prog 83 #[.pointer (some ⟨b,0,none⟩),bC op rd au aF n] W fun e W'=>e = .returned (.tuple #[])/\lU W0 b g (.slice ai ins.length ci) (Mc.doIt m ins op rd au aF n st) W':=by
 obtain ⟨h,hI,hT,hin,hl,d0,s1,s2,hn⟩:=hpre;have HA:=hid (h.grown (aJ W (.cells #[.int .i64 op,.int .i64 rd,.int .i64 au,.int .i64 aF,.int .i64 n] 143) none));have NE:=hid (show W.heap.size≠b from fun e=>by have:=h.blk.lt; omega);have IC:=hid (jo W (.int .i64 op) (.int .i64 rd) (.int .i64 au) (.int .i64 aF) (.int .i64 n));have r1:=hid (fun W hW=>yj W0 b g (.slice ai ins.length ci) st vd vo au W hW s1.1 s1.2);have r2:=hid (fun W hW=>yj W0 b g (.slice ai ins.length ci) st vd vo aF W hW s2.1 s2.2);have q1:=ym h.ok au;have q2:=ym h.ok aF;have hp:=h.ok.pc;obtain ⟨X,hX⟩:∃ X,X=Mc.doIt m ins op rd au aF n st:=⟨_,rfl⟩
 rw [<- hX];have RX:=hid hX;clear hX;unfold bC;subst hop;replace RX:=hid (show X=Mc.branch (Mc.holds 8 (Mc.reg st au) (Mc.reg st aF)) n st from RX.o);generalize Mc.reg st au=a at *;generalize Mc.reg st aF=bb at *;have cH:=hid (fun W=>Ht 8 a bb W q1.1 q1.2 q2.1 q2.2 (by omega));have cB:=hid (fun t W hW=>KO W0 b g (.slice ai ins.length ci) st vd vo t n W hW (by omega) (by omega));clear h hI hT hin;go_enter Tryz.func83,Tryz.ntmps83;go_wp2_with fail;generalize W.alloc (.cells #[.int .i64 8,.int .i64 rd,.int .i64 au,.int .i64 aF,.int .i64 n] 143)=V at *;generalize W.heap.size=ib at *;obtain ⟨i0,i1,i2,i3,i4⟩:=IC.o
 refine (r1.o _ HA.o).mono ?_;rintro e V1 ⟨rfl,hV⟩;subst hV;go_wp2_with fail;refine (r2.o _ HA.o).mono ?_;rintro e V1 ⟨rfl,hV⟩;subst hV;have HD:=hid (HA.o.grown (yf (World.grownBy.refl _ none) 1));have pE:=HA.o.c.2.2.2.1;go_wp2
 go_region_with (first | (go_at_call 122; refine (cH.o _).mono ?_; rintro e w' ⟨rfl,rfl⟩) | (go_at_call 121; refine (cB.o _ _ HD.o).mono ?_; rintro e w' ⟨rfl,h2⟩))
 all_goals
  have H2:=hid h2;clear h2;go_wp2
  go_end0
  rw [RX.o];exact ⟨rfl,_,_,H2.o⟩
theorem yrB (W0:World) (b g:Nat) (ai:Option Addr) (ci:Nat) (ins:List Int) (st:Mc.St) (vd vo:Value) (m:Im.dZ) (op rd au aF n:Int) (W:World) (hpre:nW W0 b g ai ci ins st vd vo m rd au aF n W) (hop:op=9) :
  Calls Tryz.prog 83 #[.pointer (some ⟨b,0,none⟩),bC op rd au aF n] W fun e W'=>e = .returned (.tuple #[])/\lU W0 b g (.slice ai ins.length ci) (Mc.doIt m ins op rd au aF n st) W':=by
 obtain ⟨h,hI,hT,hin,hl,d0,s1,s2,hn⟩:=hpre;have HA:=hid (h.grown (aJ W (.cells #[.int .i64 op,.int .i64 rd,.int .i64 au,.int .i64 aF,.int .i64 n] 143) none));have NE:=hid (show W.heap.size≠b from fun e=>by have:=h.blk.lt; omega);have IC:=hid (jo W (.int .i64 op) (.int .i64 rd) (.int .i64 au) (.int .i64 aF) (.int .i64 n));have r1:=hid (fun W hW=>yj W0 b g (.slice ai ins.length ci) st vd vo au W hW s1.1 s1.2);have r2:=hid (fun W hW=>yj W0 b g (.slice ai ins.length ci) st vd vo aF W hW s2.1 s2.2);have q1:=ym h.ok au;have q2:=ym h.ok aF;have hp:=h.ok.pc;obtain ⟨X,hX⟩:∃ X,X=Mc.doIt m ins op rd au aF n st:=⟨_,rfl⟩
 rw [<- hX];have RX:=hid hX;clear hX;unfold bC;subst hop;replace RX:=hid (show X=Mc.branch (Mc.holds 9 (Mc.reg st au) (Mc.reg st aF)) n st from RX.o);generalize Mc.reg st au=a at *;generalize Mc.reg st aF=bb at *;have cH:=hid (fun W=>Ht 9 a bb W q1.1 q1.2 q2.1 q2.2 (by omega));have cB:=hid (fun t W hW=>KO W0 b g (.slice ai ins.length ci) st vd vo t n W hW (by omega) (by omega));clear h hI hT hin;go_enter Tryz.func83,Tryz.ntmps83;go_wp2_with fail;generalize W.alloc (.cells #[.int .i64 9,.int .i64 rd,.int .i64 au,.int .i64 aF,.int .i64 n] 143)=V at *;generalize W.heap.size=ib at *;obtain ⟨i0,i1,i2,i3,i4⟩:=IC.o
 refine (r1.o _ HA.o).mono ?_;rintro e V1 ⟨rfl,hV⟩;subst hV;go_wp2_with fail;refine (r2.o _ HA.o).mono ?_;rintro e V1 ⟨rfl,hV⟩;subst hV;have HD:=hid (HA.o.grown (yf (World.grownBy.refl _ none) 1));have pE:=HA.o.c.2.2.2.1;go_wp2
 go_region_with (first | (go_at_call 122; refine (cH.o _).mono ?_; rintro e w' ⟨rfl,rfl⟩) | (go_at_call 121; refine (cB.o _ _ HD.o).mono ?_; rintro e w' ⟨rfl,h2⟩))
 all_goals
  have H2:=hid h2;clear h2;go_wp2
  go_end0
  rw [RX.o];exact ⟨rfl,_,_,H2.o⟩
theorem yqo (W0:World) (b g:Nat) (ai:Option Addr) (ci:Nat) (ins:List Int) (st:Mc.St) (vd vo:Value) (m:Im.dZ) (op rd au aF n:Int) (W:World) (hpre:nW W0 b g ai ci ins st vd vo m rd au aF n W) (hop:op=10) :
  Calls Tryz.prog 83 #[.pointer (some ⟨b,0,none⟩),bC op rd au aF n] W fun e W'=>e = .returned (.tuple #[])/\lU W0 b g (.slice ai ins.length ci) (Mc.doIt m ins op rd au aF n st) W':=by
 obtain ⟨h,hI,hT,hin,hl,d0,s1,s2,hn⟩:=hpre;have HA:=hid (h.grown (aJ W (.cells #[.int .i64 op,.int .i64 rd,.int .i64 au,.int .i64 aF,.int .i64 n] 143) none));have NE:=hid (show W.heap.size≠b from fun e=>by have:=h.blk.lt; omega);have IC:=hid (jo W (.int .i64 op) (.int .i64 rd) (.int .i64 au) (.int .i64 aF) (.int .i64 n));have r1:=hid (fun W hW=>yj W0 b g (.slice ai ins.length ci) st vd vo au W hW s1.1 s1.2);have r2:=hid (fun W hW=>yj W0 b g (.slice ai ins.length ci) st vd vo aF W hW s2.1 s2.2);have q1:=ym h.ok au;have q2:=ym h.ok aF;have hp:=h.ok.pc;obtain ⟨X,hX⟩:∃ X,X=Mc.doIt m ins op rd au aF n st:=⟨_,rfl⟩
 rw [<- hX];have RX:=hid hX;clear hX;unfold bC;subst hop;replace RX:=hid (show X=Mc.branch (Mc.holds 10 (Mc.reg st au) (Mc.reg st aF)) n st from RX.o);generalize Mc.reg st au=a at *;generalize Mc.reg st aF=bb at *;have cH:=hid (fun W=>Ht 10 a bb W q1.1 q1.2 q2.1 q2.2 (by omega));have cB:=hid (fun t W hW=>KO W0 b g (.slice ai ins.length ci) st vd vo t n W hW (by omega) (by omega));clear h hI hT hin;go_enter Tryz.func83,Tryz.ntmps83;go_wp2_with fail;generalize W.alloc (.cells #[.int .i64 10,.int .i64 rd,.int .i64 au,.int .i64 aF,.int .i64 n] 143)=V at *;generalize W.heap.size=ib at *;obtain ⟨i0,i1,i2,i3,i4⟩:=IC.o
 refine (r1.o _ HA.o).mono ?_;rintro e V1 ⟨rfl,hV⟩;subst hV;go_wp2_with fail;refine (r2.o _ HA.o).mono ?_;rintro e V1 ⟨rfl,hV⟩;subst hV;have HD:=hid (HA.o.grown (yf (World.grownBy.refl _ none) 1));have pE:=HA.o.c.2.2.2.1;go_wp2
 go_region_with (first | (go_at_call 122; refine (cH.o _).mono ?_; rintro e w' ⟨rfl,rfl⟩) | (go_at_call 121; refine (cB.o _ _ HD.o).mono ?_; rintro e w' ⟨rfl,h2⟩))
 all_goals
  have H2:=hid h2;clear h2;go_wp2
  go_end0
  rw [RX.o];exact ⟨rfl,_,_,H2.o⟩
theorem yqp (W0:World) (b g:Nat) (ai:Option Addr) (ci:Nat) (ins:List Int) (st:Mc.St) (vd vo:Value) (m:Im.dZ) (op rd au aF n:Int) (W:World) (hpre:nW W0 b g ai ci ins st vd vo m rd au aF n W) (hop:op=13) :
  Calls Tryz.prog 83 #[.pointer (some ⟨b,0,none⟩),bC op rd au aF n] W fun e W'=>e = .returned (.tuple #[])/\lU W0 b g (.slice ai ins.length ci) (Mc.doIt m ins op rd au aF n st) W':=by
 obtain ⟨h,hI,hT,hin,hl,d0,s1,s2,hn⟩:=hpre;have HA:=hid (h.grown (aJ W (.cells #[.int .i64 op,.int .i64 rd,.int .i64 au,.int .i64 aF,.int .i64 n] 143) none));have NE:=hid (show W.heap.size≠b from fun e=>by have:=h.blk.lt; omega);have IC:=hid (jo W (.int .i64 op) (.int .i64 rd) (.int .i64 au) (.int .i64 aF) (.int .i64 n));have r1:=hid (fun W hW=>yj W0 b g (.slice ai ins.length ci) st vd vo au W hW s1.1 s1.2);have r2:=hid (fun W hW=>yj W0 b g (.slice ai ins.length ci) st vd vo aF W hW s2.1 s2.2);have q1:=ym h.ok au;have q2:=ym h.ok aF;have hp:=h.ok.pc;obtain ⟨X,hX⟩:∃ X,X=Mc.doIt m ins op rd au aF n st:=⟨_,rfl⟩
 rw [<- hX];have RX:=hid hX;clear hX;unfold bC;subst hop;replace RX:=hid (show X=Mc.set rd (Mc.computed 18 (Mc.reg st au) (Mc.wd n)) st from RX.o);generalize Mc.reg st au=a at *;have wr:=Mc.gH n;have cP:=hid (fun W=>Nt 13 W);replace cP:Hd (∀ W,Calls Tryz.prog 126 #[.int .i64 13] W fun e w'=>e = .returned (.int .i64 18)/\w'=W):=cP.o;have cW:=hid (fun W=>Dz n W);have cC:=hid (fun W=>Ay 18 a (Mc.wd n) W q1.1 q1.2 wr.1 wr.2 (by omega));have cS:=hid (fun v W hW=>KL W0 b g (.slice ai ins.length ci) st vd vo rd v W hW d0.1 d0.2);clear h hI hT hin;go_enter Tryz.func83,Tryz.ntmps83;go_wp2_with fail;generalize W.alloc (.cells #[.int .i64 13,.int .i64 rd,.int .i64 au,.int .i64 aF,.int .i64 n] 143)=V at *
 generalize W.heap.size=ib at *;obtain ⟨i0,i1,i2,i3,i4⟩:=IC.o;refine (r1.o _ HA.o).mono ?_;rintro e V1 ⟨rfl,hV⟩;subst hV;go_wp2_with fail;refine (r2.o _ HA.o).mono ?_;rintro e V1 ⟨rfl,hV⟩;subst hV;have HD:=hid (HA.o.grown (yf (World.grownBy.refl _ none) 1));have pE:=HA.o.c.2.2.2.1;have hib:ib≠b:=NE.o;have KI:=hid (fun (j:Nat) (x:Value) (W':World) (hg:(V1.drew).grownBy W' (some b)) (hx:V1.cell? ⟨ib,j,none⟩=some x)=>hg.cell (a:=⟨ib,j,none⟩) (show V1.drew.cell? ⟨ib,j,none⟩=some x from hx) (by simp; omega));have J0:=hid i0;have J1:=hid i1;have J4:=hid i4;go_wp2
 go_region_held3 (fun w'=>w'.cell? ⟨ib,0,none⟩=some (.int .i64 13)/\w'.cell? ⟨ib,1,none⟩=some (.int .i64 rd)/\w'.cell? ⟨ib,4,none⟩=some (.int .i64 n))
  (go_keep)
  (first | (go_at_call 126; refine (cP.o _).mono ?_; rintro e w' ⟨rfl,rfl⟩) | (go_at_call 81; refine (cW.o _).mono ?_; rintro e w' ⟨rfl,rfl⟩) | (go_at_call 125; refine (cC.o _).mono ?_; rintro e w' ⟨rfl,rfl⟩) | (go_at_call 119; refine (cS.o _ _ HD.o).mono ?_; rintro e w' ⟨rfl,h2,hq⟩; have j0:=KI.o 0 _ _ hq J0.o; have j1:=KI.o 1 _ _ hq J1.o; have j4:=KI.o 4 _ _ hq J4.o))
 all_goals
  have H2:=hid h2;clear h2;go_wp2
  go_end0
  rw [RX.o];exact ⟨rfl,_,_,H2.o⟩
theorem yqq (W0:World) (b g:Nat) (ai:Option Addr) (ci:Nat) (ins:List Int) (st:Mc.St) (vd vo:Value) (m:Im.dZ) (op rd au aF n:Int) (W:World) (hpre:nW W0 b g ai ci ins st vd vo m rd au aF n W) (hop:op=14) :
  Calls Tryz.prog 83 #[.pointer (some ⟨b,0,none⟩),bC op rd au aF n] W fun e W'=>e = .returned (.tuple #[])/\lU W0 b g (.slice ai ins.length ci) (Mc.doIt m ins op rd au aF n st) W':=by
 obtain ⟨h,hI,hT,hin,hl,d0,s1,s2,hn⟩:=hpre;have HA:=hid (h.grown (aJ W (.cells #[.int .i64 op,.int .i64 rd,.int .i64 au,.int .i64 aF,.int .i64 n] 143) none));have NE:=hid (show W.heap.size≠b from fun e=>by have:=h.blk.lt; omega);have IC:=hid (jo W (.int .i64 op) (.int .i64 rd) (.int .i64 au) (.int .i64 aF) (.int .i64 n));have r1:=hid (fun W hW=>yj W0 b g (.slice ai ins.length ci) st vd vo au W hW s1.1 s1.2);have r2:=hid (fun W hW=>yj W0 b g (.slice ai ins.length ci) st vd vo aF W hW s2.1 s2.2);have q1:=ym h.ok au;have q2:=ym h.ok aF;have hp:=h.ok.pc;obtain ⟨X,hX⟩:∃ X,X=Mc.doIt m ins op rd au aF n st:=⟨_,rfl⟩
 rw [<- hX];have RX:=hid hX;clear hX;unfold bC;subst hop;replace RX:=hid (show X=Mc.set rd (Mc.computed 20 (Mc.reg st au) (Mc.wd n)) st from RX.o);generalize Mc.reg st au=a at *;have wr:=Mc.gH n;have cP:=hid (fun W=>Nt 14 W);replace cP:Hd (∀ W,Calls Tryz.prog 126 #[.int .i64 14] W fun e w'=>e = .returned (.int .i64 20)/\w'=W):=cP.o;have cW:=hid (fun W=>Dz n W);have cC:=hid (fun W=>Ay 20 a (Mc.wd n) W q1.1 q1.2 wr.1 wr.2 (by omega));have cS:=hid (fun v W hW=>KL W0 b g (.slice ai ins.length ci) st vd vo rd v W hW d0.1 d0.2);clear h hI hT hin;go_enter Tryz.func83,Tryz.ntmps83;go_wp2_with fail;generalize W.alloc (.cells #[.int .i64 14,.int .i64 rd,.int .i64 au,.int .i64 aF,.int .i64 n] 143)=V at *
 generalize W.heap.size=ib at *;obtain ⟨i0,i1,i2,i3,i4⟩:=IC.o;refine (r1.o _ HA.o).mono ?_;rintro e V1 ⟨rfl,hV⟩;subst hV;go_wp2_with fail;refine (r2.o _ HA.o).mono ?_;rintro e V1 ⟨rfl,hV⟩;subst hV;have HD:=hid (HA.o.grown (yf (World.grownBy.refl _ none) 1));have pE:=HA.o.c.2.2.2.1;have hib:ib≠b:=NE.o;have KI:=hid (fun (j:Nat) (x:Value) (W':World) (hg:(V1.drew).grownBy W' (some b)) (hx:V1.cell? ⟨ib,j,none⟩=some x)=>hg.cell (a:=⟨ib,j,none⟩) (show V1.drew.cell? ⟨ib,j,none⟩=some x from hx) (by simp; omega));have J0:=hid i0;have J1:=hid i1;have J4:=hid i4;go_wp2
 go_region_held3 (fun w'=>w'.cell? ⟨ib,0,none⟩=some (.int .i64 14)/\w'.cell? ⟨ib,1,none⟩=some (.int .i64 rd)/\w'.cell? ⟨ib,4,none⟩=some (.int .i64 n))
  (go_keep)
  (first | (go_at_call 126; refine (cP.o _).mono ?_; rintro e w' ⟨rfl,rfl⟩) | (go_at_call 81; refine (cW.o _).mono ?_; rintro e w' ⟨rfl,rfl⟩) | (go_at_call 125; refine (cC.o _).mono ?_; rintro e w' ⟨rfl,rfl⟩) | (go_at_call 119; refine (cS.o _ _ HD.o).mono ?_; rintro e w' ⟨rfl,h2,hq⟩; have j0:=KI.o 0 _ _ hq J0.o; have j1:=KI.o 1 _ _ hq J1.o; have j4:=KI.o 4 _ _ hq J4.o))
 all_goals
  have H2:=hid h2;clear h2;go_wp2
  go_end0
  rw [RX.o];exact ⟨rfl,_,_,H2.o⟩
theorem yqr (W0:World) (b g:Nat) (ai:Option Addr) (ci:Nat) (ins:List Int) (st:Mc.St) (vd vo:Value) (m:Im.dZ) (op rd au aF n:Int) (W:World) (hpre:nW W0 b g ai ci ins st vd vo m rd au aF n W) (hop:op=15) :
  Calls Tryz.prog 83 #[.pointer (some ⟨b,0,none⟩),bC op rd au aF n] W fun e W'=>e = .returned (.tuple #[])/\lU W0 b g (.slice ai ins.length ci) (Mc.doIt m ins op rd au aF n st) W':=by
 obtain ⟨h,hI,hT,hin,hl,d0,s1,s2,hn⟩:=hpre;have HA:=hid (h.grown (aJ W (.cells #[.int .i64 op,.int .i64 rd,.int .i64 au,.int .i64 aF,.int .i64 n] 143) none));have NE:=hid (show W.heap.size≠b from fun e=>by have:=h.blk.lt; omega);have IC:=hid (jo W (.int .i64 op) (.int .i64 rd) (.int .i64 au) (.int .i64 aF) (.int .i64 n));have r1:=hid (fun W hW=>yj W0 b g (.slice ai ins.length ci) st vd vo au W hW s1.1 s1.2);have r2:=hid (fun W hW=>yj W0 b g (.slice ai ins.length ci) st vd vo aF W hW s2.1 s2.2);have q1:=ym h.ok au;have q2:=ym h.ok aF;have hp:=h.ok.pc;obtain ⟨X,hX⟩:∃ X,X=Mc.doIt m ins op rd au aF n st:=⟨_,rfl⟩
 rw [<- hX];have RX:=hid hX;clear hX;unfold bC;subst hop;replace RX:=hid (show X=Mc.set rd (Mc.computed 22 (Mc.reg st au) (Mc.wd n)) st from RX.o);generalize Mc.reg st au=a at *;have wr:=Mc.gH n;have cP:=hid (fun W=>Nt 15 W);replace cP:Hd (∀ W,Calls Tryz.prog 126 #[.int .i64 15] W fun e w'=>e = .returned (.int .i64 22)/\w'=W):=cP.o;have cW:=hid (fun W=>Dz n W);have cC:=hid (fun W=>Ay 22 a (Mc.wd n) W q1.1 q1.2 wr.1 wr.2 (by omega));have cS:=hid (fun v W hW=>KL W0 b g (.slice ai ins.length ci) st vd vo rd v W hW d0.1 d0.2);clear h hI hT hin;go_enter Tryz.func83,Tryz.ntmps83;go_wp2_with fail;generalize W.alloc (.cells #[.int .i64 15,.int .i64 rd,.int .i64 au,.int .i64 aF,.int .i64 n] 143)=V at *
 generalize W.heap.size=ib at *;obtain ⟨i0,i1,i2,i3,i4⟩:=IC.o;refine (r1.o _ HA.o).mono ?_;rintro e V1 ⟨rfl,hV⟩;subst hV;go_wp2_with fail;refine (r2.o _ HA.o).mono ?_;rintro e V1 ⟨rfl,hV⟩;subst hV;have HD:=hid (HA.o.grown (yf (World.grownBy.refl _ none) 1));have pE:=HA.o.c.2.2.2.1;have hib:ib≠b:=NE.o;have KI:=hid (fun (j:Nat) (x:Value) (W':World) (hg:(V1.drew).grownBy W' (some b)) (hx:V1.cell? ⟨ib,j,none⟩=some x)=>hg.cell (a:=⟨ib,j,none⟩) (show V1.drew.cell? ⟨ib,j,none⟩=some x from hx) (by simp; omega));have J0:=hid i0;have J1:=hid i1;have J4:=hid i4;go_wp2
 go_region_held3 (fun w'=>w'.cell? ⟨ib,0,none⟩=some (.int .i64 15)/\w'.cell? ⟨ib,1,none⟩=some (.int .i64 rd)/\w'.cell? ⟨ib,4,none⟩=some (.int .i64 n))
  (go_keep)
  (first | (go_at_call 126; refine (cP.o _).mono ?_; rintro e w' ⟨rfl,rfl⟩) | (go_at_call 81; refine (cW.o _).mono ?_; rintro e w' ⟨rfl,rfl⟩) | (go_at_call 125; refine (cC.o _).mono ?_; rintro e w' ⟨rfl,rfl⟩) | (go_at_call 119; refine (cS.o _ _ HD.o).mono ?_; rintro e w' ⟨rfl,h2,hq⟩; have j0:=KI.o 0 _ _ hq J0.o; have j1:=KI.o 1 _ _ hq J1.o; have j4:=KI.o 4 _ _ hq J4.o))
 all_goals
  have H2:=hid h2;clear h2;go_wp2
  go_end0
  rw [RX.o];exact ⟨rfl,_,_,H2.o⟩
theorem yqs (W0:World) (b g:Nat) (ai:Option Addr) (ci:Nat) (ins:List Int) (st:Mc.St) (vd vo:Value) (m:Im.dZ) (op rd au aF n:Int) (W:World) (hpre:nW W0 b g ai ci ins st vd vo m rd au aF n W) (hop:op=16) :
  Calls Tryz.prog 83 #[.pointer (some ⟨b,0,none⟩),bC op rd au aF n] W fun e W'=>e = .returned (.tuple #[])/\lU W0 b g (.slice ai ins.length ci) (Mc.doIt m ins op rd au aF n st) W':=by
 obtain ⟨h,hI,hT,hin,hl,d0,s1,s2,hn⟩:=hpre;have HA:=hid (h.grown (aJ W (.cells #[.int .i64 op,.int .i64 rd,.int .i64 au,.int .i64 aF,.int .i64 n] 143) none));have NE:=hid (show W.heap.size≠b from fun e=>by have:=h.blk.lt; omega);have IC:=hid (jo W (.int .i64 op) (.int .i64 rd) (.int .i64 au) (.int .i64 aF) (.int .i64 n));have r1:=hid (fun W hW=>yj W0 b g (.slice ai ins.length ci) st vd vo au W hW s1.1 s1.2);have r2:=hid (fun W hW=>yj W0 b g (.slice ai ins.length ci) st vd vo aF W hW s2.1 s2.2);have q1:=ym h.ok au;have q2:=ym h.ok aF;have hp:=h.ok.pc;obtain ⟨X,hX⟩:∃ X,X=Mc.doIt m ins op rd au aF n st:=⟨_,rfl⟩
 rw [<- hX];have RX:=hid hX;clear hX;unfold bC;subst hop;replace RX:=hid (show X=Mc.set rd (Mc.computed 23 (Mc.reg st au) (Mc.wd n)) st from RX.o);generalize Mc.reg st au=a at *;have wr:=Mc.gH n;have cP:=hid (fun W=>Nt 16 W);replace cP:Hd (∀ W,Calls Tryz.prog 126 #[.int .i64 16] W fun e w'=>e = .returned (.int .i64 23)/\w'=W):=cP.o;have cW:=hid (fun W=>Dz n W);have cC:=hid (fun W=>Ay 23 a (Mc.wd n) W q1.1 q1.2 wr.1 wr.2 (by omega));have cS:=hid (fun v W hW=>KL W0 b g (.slice ai ins.length ci) st vd vo rd v W hW d0.1 d0.2);clear h hI hT hin;go_enter Tryz.func83,Tryz.ntmps83;go_wp2_with fail;generalize W.alloc (.cells #[.int .i64 16,.int .i64 rd,.int .i64 au,.int .i64 aF,.int .i64 n] 143)=V at *
 generalize W.heap.size=ib at *;obtain ⟨i0,i1,i2,i3,i4⟩:=IC.o;refine (r1.o _ HA.o).mono ?_;rintro e V1 ⟨rfl,hV⟩;subst hV;go_wp2_with fail;refine (r2.o _ HA.o).mono ?_;rintro e V1 ⟨rfl,hV⟩;subst hV;have HD:=hid (HA.o.grown (yf (World.grownBy.refl _ none) 1));have pE:=HA.o.c.2.2.2.1;have hib:ib≠b:=NE.o;have KI:=hid (fun (j:Nat) (x:Value) (W':World) (hg:(V1.drew).grownBy W' (some b)) (hx:V1.cell? ⟨ib,j,none⟩=some x)=>hg.cell (a:=⟨ib,j,none⟩) (show V1.drew.cell? ⟨ib,j,none⟩=some x from hx) (by simp; omega));have J0:=hid i0;have J1:=hid i1;have J4:=hid i4;go_wp2
 go_region_held3 (fun w'=>w'.cell? ⟨ib,0,none⟩=some (.int .i64 16)/\w'.cell? ⟨ib,1,none⟩=some (.int .i64 rd)/\w'.cell? ⟨ib,4,none⟩=some (.int .i64 n))
  (go_keep)
  (first | (go_at_call 126; refine (cP.o _).mono ?_; rintro e w' ⟨rfl,rfl⟩) | (go_at_call 81; refine (cW.o _).mono ?_; rintro e w' ⟨rfl,rfl⟩) | (go_at_call 125; refine (cC.o _).mono ?_; rintro e w' ⟨rfl,rfl⟩) | (go_at_call 119; refine (cS.o _ _ HD.o).mono ?_; rintro e w' ⟨rfl,h2,hq⟩; have j0:=KI.o 0 _ _ hq J0.o; have j1:=KI.o 1 _ _ hq J1.o; have j4:=KI.o 4 _ _ hq J4.o))
 all_goals
  have H2:=hid h2;clear h2;go_wp2
  go_end0
  rw [RX.o];exact ⟨rfl,_,_,H2.o⟩
theorem yqt (W0:World) (b g:Nat) (ai:Option Addr) (ci:Nat) (ins:List Int) (st:Mc.St) (vd vo:Value) (m:Im.dZ) (op rd au aF n:Int) (W:World) (hpre:nW W0 b g ai ci ins st vd vo m rd au aF n W) (hop:op=17) :
  Calls Tryz.prog 83 #[.pointer (some ⟨b,0,none⟩),bC op rd au aF n] W fun e W'=>e = .returned (.tuple #[])/\lU W0 b g (.slice ai ins.length ci) (Mc.doIt m ins op rd au aF n st) W':=by
 obtain ⟨h,hI,hT,hin,hl,d0,s1,s2,hn⟩:=hpre;have HA:=hid (h.grown (aJ W (.cells #[.int .i64 op,.int .i64 rd,.int .i64 au,.int .i64 aF,.int .i64 n] 143) none));have NE:=hid (show W.heap.size≠b from fun e=>by have:=h.blk.lt; omega);have IC:=hid (jo W (.int .i64 op) (.int .i64 rd) (.int .i64 au) (.int .i64 aF) (.int .i64 n));have r1:=hid (fun W hW=>yj W0 b g (.slice ai ins.length ci) st vd vo au W hW s1.1 s1.2);have r2:=hid (fun W hW=>yj W0 b g (.slice ai ins.length ci) st vd vo aF W hW s2.1 s2.2);have q1:=ym h.ok au;have q2:=ym h.ok aF;have hp:=h.ok.pc;obtain ⟨X,hX⟩:∃ X,X=Mc.doIt m ins op rd au aF n st:=⟨_,rfl⟩
 rw [<- hX];have RX:=hid hX;clear hX;unfold bC;subst hop;replace RX:=hid (show X=Mc.set rd (Mc.computed 24 (Mc.reg st au) (Mc.wd n)) st from RX.o);generalize Mc.reg st au=a at *;have wr:=Mc.gH n;have cP:=hid (fun W=>Nt 17 W);replace cP:Hd (∀ W,Calls Tryz.prog 126 #[.int .i64 17] W fun e w'=>e = .returned (.int .i64 24)/\w'=W):=cP.o;have cW:=hid (fun W=>Dz n W);have cC:=hid (fun W=>Ay 24 a (Mc.wd n) W q1.1 q1.2 wr.1 wr.2 (by omega));have cS:=hid (fun v W hW=>KL W0 b g (.slice ai ins.length ci) st vd vo rd v W hW d0.1 d0.2);clear h hI hT hin;go_enter Tryz.func83,Tryz.ntmps83;go_wp2_with fail;generalize W.alloc (.cells #[.int .i64 17,.int .i64 rd,.int .i64 au,.int .i64 aF,.int .i64 n] 143)=V at *
 generalize W.heap.size=ib at *;obtain ⟨i0,i1,i2,i3,i4⟩:=IC.o;refine (r1.o _ HA.o).mono ?_;rintro e V1 ⟨rfl,hV⟩;subst hV;go_wp2_with fail;refine (r2.o _ HA.o).mono ?_;rintro e V1 ⟨rfl,hV⟩;subst hV;have HD:=hid (HA.o.grown (yf (World.grownBy.refl _ none) 1));have pE:=HA.o.c.2.2.2.1;have hib:ib≠b:=NE.o;have KI:=hid (fun (j:Nat) (x:Value) (W':World) (hg:(V1.drew).grownBy W' (some b)) (hx:V1.cell? ⟨ib,j,none⟩=some x)=>hg.cell (a:=⟨ib,j,none⟩) (show V1.drew.cell? ⟨ib,j,none⟩=some x from hx) (by simp; omega));have J0:=hid i0;have J1:=hid i1;have J4:=hid i4;go_wp2
 go_region_held3 (fun w'=>w'.cell? ⟨ib,0,none⟩=some (.int .i64 17)/\w'.cell? ⟨ib,1,none⟩=some (.int .i64 rd)/\w'.cell? ⟨ib,4,none⟩=some (.int .i64 n))
  (go_keep)
  (first | (go_at_call 126; refine (cP.o _).mono ?_; rintro e w' ⟨rfl,rfl⟩) | (go_at_call 81; refine (cW.o _).mono ?_; rintro e w' ⟨rfl,rfl⟩) | (go_at_call 125; refine (cC.o _).mono ?_; rintro e w' ⟨rfl,rfl⟩) | (go_at_call 119; refine (cS.o _ _ HD.o).mono ?_; rintro e w' ⟨rfl,h2,hq⟩; have j0:=KI.o 0 _ _ hq J0.o; have j1:=KI.o 1 _ _ hq J1.o; have j4:=KI.o 4 _ _ hq J4.o))
 all_goals
  have H2:=hid h2;clear h2;go_wp2
  go_end0
  rw [RX.o];exact ⟨rfl,_,_,H2.o⟩
theorem yqw (W0:World) (b g:Nat) (ai:Option Addr) (ci:Nat) (ins:List Int) (st:Mc.St) (vd vo:Value) (m:Im.dZ) (op rd au aF n:Int) (W:World) (hpre:nW W0 b g ai ci ins st vd vo m rd au aF n W) (hop:op=18) :
  Calls Tryz.prog 83 #[.pointer (some ⟨b,0,none⟩),bC op rd au aF n] W fun e W'=>e = .returned (.tuple #[])/\lU W0 b g (.slice ai ins.length ci) (Mc.doIt m ins op rd au aF n st) W':=by
 obtain ⟨h,hI,hT,hin,hl,d0,s1,s2,hn⟩:=hpre;have HA:=hid (h.grown (aJ W (.cells #[.int .i64 op,.int .i64 rd,.int .i64 au,.int .i64 aF,.int .i64 n] 143) none));have NE:=hid (show W.heap.size≠b from fun e=>by have:=h.blk.lt; omega);have IC:=hid (jo W (.int .i64 op) (.int .i64 rd) (.int .i64 au) (.int .i64 aF) (.int .i64 n));have r1:=hid (fun W hW=>yj W0 b g (.slice ai ins.length ci) st vd vo au W hW s1.1 s1.2);have r2:=hid (fun W hW=>yj W0 b g (.slice ai ins.length ci) st vd vo aF W hW s2.1 s2.2);have q1:=ym h.ok au;have q2:=ym h.ok aF;have hp:=h.ok.pc;obtain ⟨X,hX⟩:∃ X,X=Mc.doIt m ins op rd au aF n st:=⟨_,rfl⟩
 rw [<- hX];have RX:=hid hX;clear hX;unfold bC;subst hop;replace RX:=hid (show X=Mc.set rd (Mc.computed 18 (Mc.reg st au) (Mc.reg st aF)) st from RX.o);generalize Mc.reg st au=a at *;generalize Mc.reg st aF=bb at *;have cC:=hid (fun W=>Ay 18 a bb W q1.1 q1.2 q2.1 q2.2 (by omega));have cS:=hid (fun v W hW=>AA W0 b g (.slice ai ins.length ci) st vd vo rd v W hW d0.1 d0.2);clear h hI hT hin;go_enter Tryz.func83,Tryz.ntmps83;go_wp2_with fail;generalize W.alloc (.cells #[.int .i64 18,.int .i64 rd,.int .i64 au,.int .i64 aF,.int .i64 n] 143)=V at *;generalize W.heap.size=ib at *;obtain ⟨i0,i1,i2,i3,i4⟩:=IC.o
 refine (r1.o _ HA.o).mono ?_;rintro e V1 ⟨rfl,hV⟩;subst hV;go_wp2_with fail;refine (r2.o _ HA.o).mono ?_;rintro e V1 ⟨rfl,hV⟩;subst hV;have HD:=hid (HA.o.grown (yf (World.grownBy.refl _ none) 1));have pE:=HA.o.c.2.2.2.1;go_wp2
 go_region_with (first | (go_at_call 125; refine (cC.o _).mono ?_; rintro e w' ⟨rfl,rfl⟩) | (go_at_call 119; refine (cS.o _ _ HD.o).mono ?_; rintro e w' ⟨rfl,h2⟩))
 all_goals
  have H2:=hid h2;clear h2;go_wp2
  go_end0
  rw [RX.o];exact ⟨rfl,_,_,H2.o⟩
theorem yqx (W0:World) (b g:Nat) (ai:Option Addr) (ci:Nat) (ins:List Int) (st:Mc.St) (vd vo:Value) (m:Im.dZ) (op rd au aF n:Int) (W:World) (hpre:nW W0 b g ai ci ins st vd vo m rd au aF n W) (hop:op=19) :
  Calls Tryz.prog 83 #[.pointer (some ⟨b,0,none⟩),bC op rd au aF n] W fun e W'=>e = .returned (.tuple #[])/\lU W0 b g (.slice ai ins.length ci) (Mc.doIt m ins op rd au aF n st) W':=by
 obtain ⟨h,hI,hT,hin,hl,d0,s1,s2,hn⟩:=hpre;have HA:=hid (h.grown (aJ W (.cells #[.int .i64 op,.int .i64 rd,.int .i64 au,.int .i64 aF,.int .i64 n] 143) none));have NE:=hid (show W.heap.size≠b from fun e=>by have:=h.blk.lt; omega);have IC:=hid (jo W (.int .i64 op) (.int .i64 rd) (.int .i64 au) (.int .i64 aF) (.int .i64 n));have r1:=hid (fun W hW=>yj W0 b g (.slice ai ins.length ci) st vd vo au W hW s1.1 s1.2);have r2:=hid (fun W hW=>yj W0 b g (.slice ai ins.length ci) st vd vo aF W hW s2.1 s2.2);have q1:=ym h.ok au;have q2:=ym h.ok aF;have hp:=h.ok.pc;obtain ⟨X,hX⟩:∃ X,X=Mc.doIt m ins op rd au aF n st:=⟨_,rfl⟩
 rw [<- hX];have RX:=hid hX;clear hX;unfold bC;subst hop;replace RX:=hid (show X=Mc.set rd (Mc.computed 19 (Mc.reg st au) (Mc.reg st aF)) st from RX.o);generalize Mc.reg st au=a at *;generalize Mc.reg st aF=bb at *;have cC:=hid (fun W=>Ay 19 a bb W q1.1 q1.2 q2.1 q2.2 (by omega));have cS:=hid (fun v W hW=>AA W0 b g (.slice ai ins.length ci) st vd vo rd v W hW d0.1 d0.2);clear h hI hT hin;go_enter Tryz.func83,Tryz.ntmps83;go_wp2_with fail;generalize W.alloc (.cells #[.int .i64 19,.int .i64 rd,.int .i64 au,.int .i64 aF,.int .i64 n] 143)=V at *;generalize W.heap.size=ib at *;obtain ⟨i0,i1,i2,i3,i4⟩:=IC.o
 refine (r1.o _ HA.o).mono ?_;rintro e V1 ⟨rfl,hV⟩;subst hV;go_wp2_with fail;refine (r2.o _ HA.o).mono ?_;rintro e V1 ⟨rfl,hV⟩;subst hV;have HD:=hid (HA.o.grown (yf (World.grownBy.refl _ none) 1));have pE:=HA.o.c.2.2.2.1;go_wp2
 go_region_with (first | (go_at_call 125; refine (cC.o _).mono ?_; rintro e w' ⟨rfl,rfl⟩) | (go_at_call 119; refine (cS.o _ _ HD.o).mono ?_; rintro e w' ⟨rfl,h2⟩))
 all_goals
  have H2:=hid h2;clear h2;go_wp2
  go_end0
  rw [RX.o];exact ⟨rfl,_,_,H2.o⟩
theorem yqy (W0:World) (b g:Nat) (ai:Option Addr) (ci:Nat) (ins:List Int) (st:Mc.St) (vd vo:Value) (m:Im.dZ) (op rd au aF n:Int) (W:World) (hpre:nW W0 b g ai ci ins st vd vo m rd au aF n W) (hop:op=20) :
  Calls Tryz.prog 83 #[.pointer (some ⟨b,0,none⟩),bC op rd au aF n] W fun e W'=>e = .returned (.tuple #[])/\lU W0 b g (.slice ai ins.length ci) (Mc.doIt m ins op rd au aF n st) W':=by
 obtain ⟨h,hI,hT,hin,hl,d0,s1,s2,hn⟩:=hpre;have HA:=hid (h.grown (aJ W (.cells #[.int .i64 op,.int .i64 rd,.int .i64 au,.int .i64 aF,.int .i64 n] 143) none));have NE:=hid (show W.heap.size≠b from fun e=>by have:=h.blk.lt; omega);have IC:=hid (jo W (.int .i64 op) (.int .i64 rd) (.int .i64 au) (.int .i64 aF) (.int .i64 n));have r1:=hid (fun W hW=>yj W0 b g (.slice ai ins.length ci) st vd vo au W hW s1.1 s1.2);have r2:=hid (fun W hW=>yj W0 b g (.slice ai ins.length ci) st vd vo aF W hW s2.1 s2.2);have q1:=ym h.ok au;have q2:=ym h.ok aF;have hp:=h.ok.pc;obtain ⟨X,hX⟩:∃ X,X=Mc.doIt m ins op rd au aF n st:=⟨_,rfl⟩
 rw [<- hX];have RX:=hid hX;clear hX;unfold bC;subst hop;replace RX:=hid (show X=Mc.set rd (Mc.computed 20 (Mc.reg st au) (Mc.reg st aF)) st from RX.o);generalize Mc.reg st au=a at *;generalize Mc.reg st aF=bb at *;have cC:=hid (fun W=>Ay 20 a bb W q1.1 q1.2 q2.1 q2.2 (by omega));have cS:=hid (fun v W hW=>AA W0 b g (.slice ai ins.length ci) st vd vo rd v W hW d0.1 d0.2);clear h hI hT hin;go_enter Tryz.func83,Tryz.ntmps83;go_wp2_with fail;generalize W.alloc (.cells #[.int .i64 20,.int .i64 rd,.int .i64 au,.int .i64 aF,.int .i64 n] 143)=V at *;generalize W.heap.size=ib at *;obtain ⟨i0,i1,i2,i3,i4⟩:=IC.o
 refine (r1.o _ HA.o).mono ?_;rintro e V1 ⟨rfl,hV⟩;subst hV;go_wp2_with fail;refine (r2.o _ HA.o).mono ?_;rintro e V1 ⟨rfl,hV⟩;subst hV;have HD:=hid (HA.o.grown (yf (World.grownBy.refl _ none) 1));have pE:=HA.o.c.2.2.2.1;go_wp2
 go_region_with (first | (go_at_call 125; refine (cC.o _).mono ?_; rintro e w' ⟨rfl,rfl⟩) | (go_at_call 119; refine (cS.o _ _ HD.o).mono ?_; rintro e w' ⟨rfl,h2⟩))
 all_goals
  have H2:=hid h2;clear h2;go_wp2
  go_end0
  rw [RX.o];exact ⟨rfl,_,_,H2.o⟩
theorem yqz (W0:World) (b g:Nat) (ai:Option Addr) (ci:Nat) (ins:List Int) (st:Mc.St) (vd vo:Value) (m:Im.dZ) (op rd au aF n:Int) (W:World) (hpre:nW W0 b g ai ci ins st vd vo m rd au aF n W) (hop:op=21) :
  Calls Tryz.prog 83 #[.pointer (some ⟨b,0,none⟩),bC op rd au aF n] W fun e W'=>e = .returned (.tuple #[])/\lU W0 b g (.slice ai ins.length ci) (Mc.doIt m ins op rd au aF n st) W':=by
 obtain ⟨h,hI,hT,hin,hl,d0,s1,s2,hn⟩:=hpre;have HA:=hid (h.grown (aJ W (.cells #[.int .i64 op,.int .i64 rd,.int .i64 au,.int .i64 aF,.int .i64 n] 143) none));have NE:=hid (show W.heap.size≠b from fun e=>by have:=h.blk.lt; omega);have IC:=hid (jo W (.int .i64 op) (.int .i64 rd) (.int .i64 au) (.int .i64 aF) (.int .i64 n));have r1:=hid (fun W hW=>yj W0 b g (.slice ai ins.length ci) st vd vo au W hW s1.1 s1.2);have r2:=hid (fun W hW=>yj W0 b g (.slice ai ins.length ci) st vd vo aF W hW s2.1 s2.2);have q1:=ym h.ok au;have q2:=ym h.ok aF;have hp:=h.ok.pc;obtain ⟨X,hX⟩:∃ X,X=Mc.doIt m ins op rd au aF n st:=⟨_,rfl⟩
 rw [<- hX];have RX:=hid hX;clear hX;unfold bC;subst hop;replace RX:=hid (show X=Mc.set rd (Mc.computed 21 (Mc.reg st au) (Mc.reg st aF)) st from RX.o);generalize Mc.reg st au=a at *;generalize Mc.reg st aF=bb at *;have cC:=hid (fun W=>Ay 21 a bb W q1.1 q1.2 q2.1 q2.2 (by omega));have cS:=hid (fun v W hW=>AA W0 b g (.slice ai ins.length ci) st vd vo rd v W hW d0.1 d0.2);clear h hI hT hin;go_enter Tryz.func83,Tryz.ntmps83;go_wp2_with fail;generalize W.alloc (.cells #[.int .i64 21,.int .i64 rd,.int .i64 au,.int .i64 aF,.int .i64 n] 143)=V at *;generalize W.heap.size=ib at *;obtain ⟨i0,i1,i2,i3,i4⟩:=IC.o
 refine (r1.o _ HA.o).mono ?_;rintro e V1 ⟨rfl,hV⟩;subst hV;go_wp2_with fail;refine (r2.o _ HA.o).mono ?_;rintro e V1 ⟨rfl,hV⟩;subst hV;have HD:=hid (HA.o.grown (yf (World.grownBy.refl _ none) 1));have pE:=HA.o.c.2.2.2.1;go_wp2
 go_region_with (first | (go_at_call 125; refine (cC.o _).mono ?_; rintro e w' ⟨rfl,rfl⟩) | (go_at_call 119; refine (cS.o _ _ HD.o).mono ?_; rintro e w' ⟨rfl,h2⟩))
 all_goals
  have H2:=hid h2;clear h2;go_wp2
  go_end0
  rw [RX.o];exact ⟨rfl,_,_,H2.o⟩
theorem yqA (W0:World) (b g:Nat) (ai:Option Addr) (ci:Nat) (ins:List Int) (st:Mc.St) (vd vo:Value) (m:Im.dZ) (op rd au aF n:Int) (W:World) (hpre:nW W0 b g ai ci ins st vd vo m rd au aF n W) (hop:op=22) :
  Calls Tryz.prog 83 #[.pointer (some ⟨b,0,none⟩),bC op rd au aF n] W fun e W'=>e = .returned (.tuple #[])/\lU W0 b g (.slice ai ins.length ci) (Mc.doIt m ins op rd au aF n st) W':=by
 obtain ⟨h,hI,hT,hin,hl,d0,s1,s2,hn⟩:=hpre;have HA:=hid (h.grown (aJ W (.cells #[.int .i64 op,.int .i64 rd,.int .i64 au,.int .i64 aF,.int .i64 n] 143) none));have NE:=hid (show W.heap.size≠b from fun e=>by have:=h.blk.lt; omega);have IC:=hid (jo W (.int .i64 op) (.int .i64 rd) (.int .i64 au) (.int .i64 aF) (.int .i64 n));have r1:=hid (fun W hW=>yj W0 b g (.slice ai ins.length ci) st vd vo au W hW s1.1 s1.2);have r2:=hid (fun W hW=>yj W0 b g (.slice ai ins.length ci) st vd vo aF W hW s2.1 s2.2);have q1:=ym h.ok au;have q2:=ym h.ok aF;have hp:=h.ok.pc;obtain ⟨X,hX⟩:∃ X,X=Mc.doIt m ins op rd au aF n st:=⟨_,rfl⟩
 rw [<- hX];have RX:=hid hX;clear hX;unfold bC;subst hop;replace RX:=hid (show X=Mc.set rd (Mc.computed 22 (Mc.reg st au) (Mc.reg st aF)) st from RX.o);generalize Mc.reg st au=a at *;generalize Mc.reg st aF=bb at *;have cC:=hid (fun W=>Ay 22 a bb W q1.1 q1.2 q2.1 q2.2 (by omega));have cS:=hid (fun v W hW=>AA W0 b g (.slice ai ins.length ci) st vd vo rd v W hW d0.1 d0.2);clear h hI hT hin;go_enter Tryz.func83,Tryz.ntmps83;go_wp2_with fail;generalize W.alloc (.cells #[.int .i64 22,.int .i64 rd,.int .i64 au,.int .i64 aF,.int .i64 n] 143)=V at *;generalize W.heap.size=ib at *;obtain ⟨i0,i1,i2,i3,i4⟩:=IC.o
 refine (r1.o _ HA.o).mono ?_;rintro e V1 ⟨rfl,hV⟩;subst hV;go_wp2_with fail;refine (r2.o _ HA.o).mono ?_;rintro e V1 ⟨rfl,hV⟩;subst hV;have HD:=hid (HA.o.grown (yf (World.grownBy.refl _ none) 1));have pE:=HA.o.c.2.2.2.1;go_wp2
 go_region_with (first | (go_at_call 125; refine (cC.o _).mono ?_; rintro e w' ⟨rfl,rfl⟩) | (go_at_call 119; refine (cS.o _ _ HD.o).mono ?_; rintro e w' ⟨rfl,h2⟩))
 all_goals
  have H2:=hid h2;clear h2;go_wp2
  go_end0
  rw [RX.o];exact ⟨rfl,_,_,H2.o⟩
theorem yqB (W0:World) (b g:Nat) (ai:Option Addr) (ci:Nat) (ins:List Int) (st:Mc.St) (vd vo:Value) (m:Im.dZ) (op rd au aF n:Int) (W:World) (hpre:nW W0 b g ai ci ins st vd vo m rd au aF n W) (hop:op=23) :
  Calls Tryz.prog 83 #[.pointer (some ⟨b,0,none⟩),bC op rd au aF n] W fun e W'=>e = .returned (.tuple #[])/\lU W0 b g (.slice ai ins.length ci) (Mc.doIt m ins op rd au aF n st) W':=by
 obtain ⟨h,hI,hT,hin,hl,d0,s1,s2,hn⟩:=hpre;have HA:=hid (h.grown (aJ W (.cells #[.int .i64 op,.int .i64 rd,.int .i64 au,.int .i64 aF,.int .i64 n] 143) none));have NE:=hid (show W.heap.size≠b from fun e=>by have:=h.blk.lt; omega);have IC:=hid (jo W (.int .i64 op) (.int .i64 rd) (.int .i64 au) (.int .i64 aF) (.int .i64 n));have r1:=hid (fun W hW=>yj W0 b g (.slice ai ins.length ci) st vd vo au W hW s1.1 s1.2);have r2:=hid (fun W hW=>yj W0 b g (.slice ai ins.length ci) st vd vo aF W hW s2.1 s2.2);have q1:=ym h.ok au;have q2:=ym h.ok aF;have hp:=h.ok.pc;obtain ⟨X,hX⟩:∃ X,X=Mc.doIt m ins op rd au aF n st:=⟨_,rfl⟩
 rw [<- hX];have RX:=hid hX;clear hX;unfold bC;subst hop;replace RX:=hid (show X=Mc.set rd (Mc.computed 23 (Mc.reg st au) (Mc.reg st aF)) st from RX.o);generalize Mc.reg st au=a at *;generalize Mc.reg st aF=bb at *;have cC:=hid (fun W=>Ay 23 a bb W q1.1 q1.2 q2.1 q2.2 (by omega));have cS:=hid (fun v W hW=>AA W0 b g (.slice ai ins.length ci) st vd vo rd v W hW d0.1 d0.2);clear h hI hT hin;go_enter Tryz.func83,Tryz.ntmps83;go_wp2_with fail;generalize W.alloc (.cells #[.int .i64 23,.int .i64 rd,.int .i64 au,.int .i64 aF,.int .i64 n] 143)=V at *;generalize W.heap.size=ib at *;obtain ⟨i0,i1,i2,i3,i4⟩:=IC.o
 refine (r1.o _ HA.o).mono ?_;rintro e V1 ⟨rfl,hV⟩;subst hV;go_wp2_with fail;refine (r2.o _ HA.o).mono ?_;rintro e V1 ⟨rfl,hV⟩;subst hV;have HD:=hid (HA.o.grown (yf (World.grownBy.refl _ none) 1));have pE:=HA.o.c.2.2.2.1;go_wp2
 go_region_with (first | (go_at_call 125; refine (cC.o _).mono ?_; rintro e w' ⟨rfl,rfl⟩) | (go_at_call 119; refine (cS.o _ _ HD.o).mono ?_; rintro e w' ⟨rfl,h2⟩))
 all_goals
  have H2:=hid h2;clear h2;go_wp2
  go_end0
  rw [RX.o];exact ⟨rfl,_,_,H2.o⟩
theorem yqC (W0:World) (b g:Nat) (ai:Option Addr) (ci:Nat) (ins:List Int) (st:Mc.St) (vd vo:Value) (m:Im.dZ) (op rd au aF n:Int) (W:World) (hpre:nW W0 b g ai ci ins st vd vo m rd au aF n W) (hop:op=24) :
  Calls Tryz.prog 83 #[.pointer (some ⟨b,0,none⟩),bC op rd au aF n] W fun e W'=>e = .returned (.tuple #[])/\lU W0 b g (.slice ai ins.length ci) (Mc.doIt m ins op rd au aF n st) W':=by
 obtain ⟨h,hI,hT,hin,hl,d0,s1,s2,hn⟩:=hpre;have HA:=hid (h.grown (aJ W (.cells #[.int .i64 op,.int .i64 rd,.int .i64 au,.int .i64 aF,.int .i64 n] 143) none));have NE:=hid (show W.heap.size≠b from fun e=>by have:=h.blk.lt; omega);have IC:=hid (jo W (.int .i64 op) (.int .i64 rd) (.int .i64 au) (.int .i64 aF) (.int .i64 n));have r1:=hid (fun W hW=>yj W0 b g (.slice ai ins.length ci) st vd vo au W hW s1.1 s1.2);have r2:=hid (fun W hW=>yj W0 b g (.slice ai ins.length ci) st vd vo aF W hW s2.1 s2.2);have q1:=ym h.ok au;have q2:=ym h.ok aF;have hp:=h.ok.pc;obtain ⟨X,hX⟩:∃ X,X=Mc.doIt m ins op rd au aF n st:=⟨_,rfl⟩
 rw [<- hX];have RX:=hid hX;clear hX;unfold bC;subst hop;replace RX:=hid (show X=Mc.set rd (Mc.computed 24 (Mc.reg st au) (Mc.reg st aF)) st from RX.o);generalize Mc.reg st au=a at *;generalize Mc.reg st aF=bb at *;have cC:=hid (fun W=>Ay 24 a bb W q1.1 q1.2 q2.1 q2.2 (by omega));have cS:=hid (fun v W hW=>AA W0 b g (.slice ai ins.length ci) st vd vo rd v W hW d0.1 d0.2);clear h hI hT hin;go_enter Tryz.func83,Tryz.ntmps83;go_wp2_with fail;generalize W.alloc (.cells #[.int .i64 24,.int .i64 rd,.int .i64 au,.int .i64 aF,.int .i64 n] 143)=V at *;generalize W.heap.size=ib at *;obtain ⟨i0,i1,i2,i3,i4⟩:=IC.o
 refine (r1.o _ HA.o).mono ?_;rintro e V1 ⟨rfl,hV⟩;subst hV;go_wp2_with fail;refine (r2.o _ HA.o).mono ?_;rintro e V1 ⟨rfl,hV⟩;subst hV;have HD:=hid (HA.o.grown (yf (World.grownBy.refl _ none) 1));have pE:=HA.o.c.2.2.2.1;go_wp2
 go_region_with (first | (go_at_call 125; refine (cC.o _).mono ?_; rintro e w' ⟨rfl,rfl⟩) | (go_at_call 119; refine (cS.o _ _ HD.o).mono ?_; rintro e w' ⟨rfl,h2⟩))
 all_goals
  have H2:=hid h2;clear h2;go_wp2
  go_end0
  rw [RX.o];exact ⟨rfl,_,_,H2.o⟩
theorem yrw (W0:World) (b g:Nat) (ai:Option Addr) (ci:Nat) (ins:List Int) (st:Mc.St) (vd vo:Value) (m:Im.dZ) (op rd au aF n:Int) (W:World) (hpre:nW W0 b g ai ci ins st vd vo m rd au aF n W) (hop:0<=op/\op<=25) :
  Calls Tryz.prog 83 #[.pointer (some ⟨b,0,none⟩),bC op rd au aF n] W fun e W'=>e = .returned (.tuple #[])/\lU W0 b g (.slice ai ins.length ci) (Mc.doIt m ins op rd au aF n st) W':=by
 rcases (show op=0\/op=1\/op=2\/op=3\/op=4\/op=5\/op=6\/op=7\/op=8\/op=9\/op=10\/op=11\/op=12\/op=13\/op=14\/op=15\/op=16\/op=17\/op=18\/op=19\/op=20\/op=21\/op=22\/op=23\/op=24\/op=25 by omega) with
  e | e | e | e | e | e | e | e | e | e | e | e | e | e | e | e | e | e | e | e | e | e | e | e | e | e
 ·exact yqv W0 b g ai ci ins st vd vo m op rd au aF n W hpre e
 ·exact yrD W0 b g ai ci ins st vd vo m op rd au aF n W hpre e
 ·exact yoU W0 b g ai ci ins st vd vo m op rd au aF n W hpre e
 ·exact yrC W0 b g ai ci ins st vd vo m op rd au aF n W hpre e
 ·exact yqu W0 b g ai ci ins st vd vo m op rd au aF n W hpre e
 ·exact yrx W0 b g ai ci ins st vd vo m op rd au aF n W hpre e
 ·exact yry W0 b g ai ci ins st vd vo m op rd au aF n W hpre e
 ·exact yrz W0 b g ai ci ins st vd vo m op rd au aF n W hpre e
 ·exact yrA W0 b g ai ci ins st vd vo m op rd au aF n W hpre e
 ·exact yrB W0 b g ai ci ins st vd vo m op rd au aF n W hpre e
 ·exact yqo W0 b g ai ci ins st vd vo m op rd au aF n W hpre e
 ·exact ysa W0 b g ai ci ins st vd vo m op rd au aF n W hpre e
 ·exact ysb W0 b g ai ci ins st vd vo m op rd au aF n W hpre e
 ·exact yqp W0 b g ai ci ins st vd vo m op rd au aF n W hpre e
 ·exact yqq W0 b g ai ci ins st vd vo m op rd au aF n W hpre e
 ·exact yqr W0 b g ai ci ins st vd vo m op rd au aF n W hpre e
 ·exact yqs W0 b g ai ci ins st vd vo m op rd au aF n W hpre e
 ·exact yqt W0 b g ai ci ins st vd vo m op rd au aF n W hpre e
 ·exact yqw W0 b g ai ci ins st vd vo m op rd au aF n W hpre e
 ·exact yqx W0 b g ai ci ins st vd vo m op rd au aF n W hpre e
 ·exact yqy W0 b g ai ci ins st vd vo m op rd au aF n W hpre e
 ·exact yqz W0 b g ai ci ins st vd vo m op rd au aF n W hpre e
 ·exact yqA W0 b g ai ci ins st vd vo m op rd au aF n W hpre e
 ·exact yqB W0 b g ai ci ins st vd vo m op rd au aF n W hpre e
 ·exact yqC W0 b g ai ci ins st vd vo m op rd au aF n W hpre e
 ·exact yoV W0 b g ai ci ins st vd vo m op rd au aF n W hpre e
def mP:Value:=.agg #[.int .i64 0,.int .i64 0,.slice none 0 0,.int .i64 0,.int .i64 0]
theorem yqL (g:Nat) (ai:Option Addr) (n ci:Nat) (fuel:Int) (w:World) (hl:16 < n) :
  Calls Tryz.prog 30 #[.pointer (some ⟨g,0,none⟩),.slice ai n ci,.int .i64 fuel] w fun e w'=>e = .returned (.tuple #[mP,.int .i64 40])/\w.grownBy w' none:=by
 have d1:decide ((16:Int) < (n:Int))=true:=by simp; omega
 go_enter Tryz.func30,Tryz.ntmps30;go_wp2;refine bodyPost_ret (v:=.tuple #[mP,.int .i64 40]) ?_ rfl ⟨rfl,aJ w (.cells mO 37) none⟩;simp [results,Tryz.results30,go_sem,mP]
theorem yoi (g:Nat) (ai:Option Addr) (n ci:Nat) (fuel:Int) (w:World) (hl:n<=16) (hf:fuel < 0\/65536 < fuel) :
  Calls Tryz.prog 30 #[.pointer (some ⟨g,0,none⟩),.slice ai n ci,.int .i64 fuel] w fun e w'=>e = .returned (.tuple #[mP,.int .i64 41])/\w.grownBy w' none:=by
 have d1:decide ((16:Int) < (n:Int))=false:=by simp; omega
 by_cases h0:fuel < 0
 ·have d2:decide (fuel < 0)=true:=by simpa using h0
  clear hf h0;go_enter Tryz.func30,Tryz.ntmps30;go_wp2;refine bodyPost_ret (v:=.tuple #[mP,.int .i64 41]) ?_ rfl ⟨rfl,aJ w (.cells mO 37) none⟩;simp [results,Tryz.results30,go_sem,mP]
 ·have d2:decide (fuel < 0)=false:=by simpa using h0
  have d3:decide ((65536:Int) < fuel)=true:=by simp; omega
  clear hf h0;go_enter Tryz.func30,Tryz.ntmps30;go_wp2;refine bodyPost_ret (v:=.tuple #[mP,.int .i64 41]) ?_ rfl ⟨rfl,aJ w (.cells mO 37) none⟩;simp [results,Tryz.results30,go_sem,mP]
def Zb (W0:World) (m:Im.dZ) (ins:List Int) (fuel:Int) (e:Ending) (w':World):Prop :=
 (16 < ins.length/\e = .returned (.tuple #[mP,.int .i64 40])) \/
 (ins.length<=16/\(fuel < 0\/65536 < fuel)/\e = .returned (.tuple #[mP,.int .i64 41])) \/
 (ins.length<=16/\0<=fuel/\fuel<=65536/\ZM W0 (Mc.run m ins fuel.toNat) e w')
theorem yoj (g:Nat) (m:Im.dZ) (ai:Option Addr) (ci:Nat) (ins:List Int) (fuel:Int) (w:World) (hI:mQ w g m) (hT:Im.jF m) (hD:∀ i,0<=m.D.getD i 0/\m.D.getD i 0 < 4294967296) (hW:Im.uP m) (hin:yy w ai ins) (ht:dQ w) :
  Calls Tryz.prog 30 #[.pointer (some ⟨g,0,none⟩),.slice ai ins.length ci,.int .i64 fuel] w fun e w'=>Zb w m ins fuel e w'/\w.grownBy w' none:=by
 by_cases hl:16 < ins.length
 ·exact (yqL g ai ins.length ci fuel w hl).mono fun e w' k=>⟨.inl ⟨hl,k.1⟩,k.2⟩
 by_cases hf:fuel < 0\/65536 < fuel
 ·exact (yoi g ai ins.length ci fuel w (by omega) hf).mono fun e w' k=>⟨.inr (.inl ⟨by omega,hf,k.1⟩),k.2⟩
 ·obtain ⟨k,rfl⟩:=Int.eq_ofNat_of_zero_le (show 0<=fuel by omega);exact (ypr g m ai ci ins k w hI hT hD (by omega) (by omega) hW hin ht (fun W0 b st vd vo op rd au aF n W=>yrw W0 b g ai ci ins st vd vo m op rd au aF n W)).mono fun e w' q=>⟨.inr (.inr ⟨by omega,by omega,by omega,q.1⟩),q.2⟩
end Go.Proofs.YtpgklkhgfcjceaaGreatDoor
