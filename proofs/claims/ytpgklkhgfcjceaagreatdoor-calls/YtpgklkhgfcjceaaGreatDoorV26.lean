
import Derived.Test.YtpgklkhgfcjceaaGreatDoorV25
set_option maxHeartbeats 16000000
namespace Go.Proofs.YtpgklkhgfcjceaaGreatDoor
open Go.RowKit
set_option maxRecDepth 100000 in
theorem yqx (W0:World) (b g:Nat) (ai:Option Addr) (ci:Nat) (ins:List Int) (st:Mc.St) (vd vo:Value) (m:Im.dK) (op rd au aC n:Int) (W:World) (hpre:mR W0 b g ai ci ins st vd vo m rd au aC n W) (hop:op=18) :
  Calls Tryz.prog 83 #[.pointer (some ⟨b,0,none⟩),aX op rd au aC n] W fun e W'=>e = .returned (.tuple #[])/\kN W0 b g (.slice ai ins.length ci) (Mc.doIt m ins op rd au aC n st) W':=by
 obtain ⟨h,hI,hT,hin,hl,d0,s1,s2,hn⟩:=hpre
 have HA:=hid (h.grown (aH W (.cells #[.int .i64 op,.int .i64 rd,.int .i64 au,.int .i64 aC,.int .i64 n] 143) none))
 have NE:=hid (show W.heap.size≠b from fun e=>by have:=h.blk.lt; omega)
 have IC:=hid (je W (.int .i64 op) (.int .i64 rd) (.int .i64 au) (.int .i64 aC) (.int .i64 n))
 have r1:=hid (fun W hW=>yj W0 b g (.slice ai ins.length ci) st vd vo au W hW s1.1 s1.2)
 have r2:=hid (fun W hW=>yj W0 b g (.slice ai ins.length ci) st vd vo aC W hW s2.1 s2.2)
 have q1:=ym h.ok au
 have q2:=ym h.ok aC
 have hp:=h.ok.pc
 obtain ⟨X,hX⟩:∃ X,X=Mc.doIt m ins op rd au aC n st:=⟨_,rfl⟩
 rw [<- hX]
 have RX:=hid hX
 clear hX
 unfold aX
 subst hop
 replace RX:=hid (show X=Mc.set rd (Mc.computed 18 (Mc.reg st au) (Mc.reg st aC)) st from RX.o)
 generalize Mc.reg st au=a at *
 generalize Mc.reg st aC=bb at *
 have cC:=hid (fun W=>xG 18 a bb W q1.1 q1.2 q2.1 q2.2 (by omega))
 have cS:=hid (fun v W hW=>xJ W0 b g (.slice ai ins.length ci) st vd vo rd v W hW d0.1 d0.2)
 clear h hI hT hin
 go_enter Tryz.func83,Tryz.ntmps83
 go_wp2_with fail
 generalize W.alloc (.cells #[.int .i64 18,.int .i64 rd,.int .i64 au,.int .i64 aC,.int .i64 n] 143)=V at *
 generalize W.heap.size=ib at *
 obtain ⟨i0,i1,i2,i3,i4⟩:=IC.o
 refine (r1.o _ HA.o).mono ?_
 rintro e V1 ⟨rfl,hV⟩
 subst hV
 go_wp2_with fail
 refine (r2.o _ HA.o).mono ?_
 rintro e V1 ⟨rfl,hV⟩
 subst hV
 have HD:=hid (HA.o.grown (ye (World.grownBy.refl _ none) 1))
 have nS:=HA.o.c.2.2.2.1
 go_wp2
 go_region_with (first | (go_at_call 125; refine (cC.o _).mono ?_; rintro e w' ⟨rfl,rfl⟩) | (go_at_call 119; refine (cS.o _ _ HD.o).mono ?_; rintro e w' ⟨rfl,h2⟩))
 all_goals
  have H2:=hid h2
  clear h2
  go_wp2
  go_end0
  rw [RX.o]
  exact ⟨rfl,_,_,H2.o⟩
set_option maxRecDepth 100000 in
theorem yqy (W0:World) (b g:Nat) (ai:Option Addr) (ci:Nat) (ins:List Int) (st:Mc.St) (vd vo:Value) (m:Im.dK) (op rd au aC n:Int) (W:World) (hpre:mR W0 b g ai ci ins st vd vo m rd au aC n W) (hop:op=19) :
  Calls Tryz.prog 83 #[.pointer (some ⟨b,0,none⟩),aX op rd au aC n] W fun e W'=>e = .returned (.tuple #[])/\kN W0 b g (.slice ai ins.length ci) (Mc.doIt m ins op rd au aC n st) W':=by
 obtain ⟨h,hI,hT,hin,hl,d0,s1,s2,hn⟩:=hpre
 have HA:=hid (h.grown (aH W (.cells #[.int .i64 op,.int .i64 rd,.int .i64 au,.int .i64 aC,.int .i64 n] 143) none))
 have NE:=hid (show W.heap.size≠b from fun e=>by have:=h.blk.lt; omega)
 have IC:=hid (je W (.int .i64 op) (.int .i64 rd) (.int .i64 au) (.int .i64 aC) (.int .i64 n))
 have r1:=hid (fun W hW=>yj W0 b g (.slice ai ins.length ci) st vd vo au W hW s1.1 s1.2)
 have r2:=hid (fun W hW=>yj W0 b g (.slice ai ins.length ci) st vd vo aC W hW s2.1 s2.2)
 have q1:=ym h.ok au
 have q2:=ym h.ok aC
 have hp:=h.ok.pc
 obtain ⟨X,hX⟩:∃ X,X=Mc.doIt m ins op rd au aC n st:=⟨_,rfl⟩
 rw [<- hX]
 have RX:=hid hX
 clear hX
 unfold aX
 subst hop
 replace RX:=hid (show X=Mc.set rd (Mc.computed 19 (Mc.reg st au) (Mc.reg st aC)) st from RX.o)
 generalize Mc.reg st au=a at *
 generalize Mc.reg st aC=bb at *
 have cC:=hid (fun W=>xG 19 a bb W q1.1 q1.2 q2.1 q2.2 (by omega))
 have cS:=hid (fun v W hW=>xJ W0 b g (.slice ai ins.length ci) st vd vo rd v W hW d0.1 d0.2)
 clear h hI hT hin
 go_enter Tryz.func83,Tryz.ntmps83
 go_wp2_with fail
 generalize W.alloc (.cells #[.int .i64 19,.int .i64 rd,.int .i64 au,.int .i64 aC,.int .i64 n] 143)=V at *
 generalize W.heap.size=ib at *
 obtain ⟨i0,i1,i2,i3,i4⟩:=IC.o
 refine (r1.o _ HA.o).mono ?_
 rintro e V1 ⟨rfl,hV⟩
 subst hV
 go_wp2_with fail
 refine (r2.o _ HA.o).mono ?_
 rintro e V1 ⟨rfl,hV⟩
 subst hV
 have HD:=hid (HA.o.grown (ye (World.grownBy.refl _ none) 1))
 have nS:=HA.o.c.2.2.2.1
 go_wp2
 go_region_with (first | (go_at_call 125; refine (cC.o _).mono ?_; rintro e w' ⟨rfl,rfl⟩) | (go_at_call 119; refine (cS.o _ _ HD.o).mono ?_; rintro e w' ⟨rfl,h2⟩))
 all_goals
  have H2:=hid h2
  clear h2
  go_wp2
  go_end0
  rw [RX.o]
  exact ⟨rfl,_,_,H2.o⟩
set_option maxRecDepth 100000 in
theorem yqz (W0:World) (b g:Nat) (ai:Option Addr) (ci:Nat) (ins:List Int) (st:Mc.St) (vd vo:Value) (m:Im.dK) (op rd au aC n:Int) (W:World) (hpre:mR W0 b g ai ci ins st vd vo m rd au aC n W) (hop:op=20) :
  Calls Tryz.prog 83 #[.pointer (some ⟨b,0,none⟩),aX op rd au aC n] W fun e W'=>e = .returned (.tuple #[])/\kN W0 b g (.slice ai ins.length ci) (Mc.doIt m ins op rd au aC n st) W':=by
 obtain ⟨h,hI,hT,hin,hl,d0,s1,s2,hn⟩:=hpre
 have HA:=hid (h.grown (aH W (.cells #[.int .i64 op,.int .i64 rd,.int .i64 au,.int .i64 aC,.int .i64 n] 143) none))
 have NE:=hid (show W.heap.size≠b from fun e=>by have:=h.blk.lt; omega)
 have IC:=hid (je W (.int .i64 op) (.int .i64 rd) (.int .i64 au) (.int .i64 aC) (.int .i64 n))
 have r1:=hid (fun W hW=>yj W0 b g (.slice ai ins.length ci) st vd vo au W hW s1.1 s1.2)
 have r2:=hid (fun W hW=>yj W0 b g (.slice ai ins.length ci) st vd vo aC W hW s2.1 s2.2)
 have q1:=ym h.ok au
 have q2:=ym h.ok aC
 have hp:=h.ok.pc
 obtain ⟨X,hX⟩:∃ X,X=Mc.doIt m ins op rd au aC n st:=⟨_,rfl⟩
 rw [<- hX]
 have RX:=hid hX
 clear hX
 unfold aX
 subst hop
 replace RX:=hid (show X=Mc.set rd (Mc.computed 20 (Mc.reg st au) (Mc.reg st aC)) st from RX.o)
 generalize Mc.reg st au=a at *
 generalize Mc.reg st aC=bb at *
 have cC:=hid (fun W=>xG 20 a bb W q1.1 q1.2 q2.1 q2.2 (by omega))
 have cS:=hid (fun v W hW=>xJ W0 b g (.slice ai ins.length ci) st vd vo rd v W hW d0.1 d0.2)
 clear h hI hT hin
 go_enter Tryz.func83,Tryz.ntmps83
 go_wp2_with fail
 generalize W.alloc (.cells #[.int .i64 20,.int .i64 rd,.int .i64 au,.int .i64 aC,.int .i64 n] 143)=V at *
 generalize W.heap.size=ib at *
 obtain ⟨i0,i1,i2,i3,i4⟩:=IC.o
 refine (r1.o _ HA.o).mono ?_
 rintro e V1 ⟨rfl,hV⟩
 subst hV
 go_wp2_with fail
 refine (r2.o _ HA.o).mono ?_
 rintro e V1 ⟨rfl,hV⟩
 subst hV
 have HD:=hid (HA.o.grown (ye (World.grownBy.refl _ none) 1))
 have nS:=HA.o.c.2.2.2.1
 go_wp2
 go_region_with (first | (go_at_call 125; refine (cC.o _).mono ?_; rintro e w' ⟨rfl,rfl⟩) | (go_at_call 119; refine (cS.o _ _ HD.o).mono ?_; rintro e w' ⟨rfl,h2⟩))
 all_goals
  have H2:=hid h2
  clear h2
  go_wp2
  go_end0
  rw [RX.o]
  exact ⟨rfl,_,_,H2.o⟩
set_option maxRecDepth 100000 in
theorem yqA (W0:World) (b g:Nat) (ai:Option Addr) (ci:Nat) (ins:List Int) (st:Mc.St) (vd vo:Value) (m:Im.dK) (op rd au aC n:Int) (W:World) (hpre:mR W0 b g ai ci ins st vd vo m rd au aC n W) (hop:op=21) :
  Calls Tryz.prog 83 #[.pointer (some ⟨b,0,none⟩),aX op rd au aC n] W fun e W'=>e = .returned (.tuple #[])/\kN W0 b g (.slice ai ins.length ci) (Mc.doIt m ins op rd au aC n st) W':=by
 obtain ⟨h,hI,hT,hin,hl,d0,s1,s2,hn⟩:=hpre
 have HA:=hid (h.grown (aH W (.cells #[.int .i64 op,.int .i64 rd,.int .i64 au,.int .i64 aC,.int .i64 n] 143) none))
 have NE:=hid (show W.heap.size≠b from fun e=>by have:=h.blk.lt; omega)
 have IC:=hid (je W (.int .i64 op) (.int .i64 rd) (.int .i64 au) (.int .i64 aC) (.int .i64 n))
 have r1:=hid (fun W hW=>yj W0 b g (.slice ai ins.length ci) st vd vo au W hW s1.1 s1.2)
 have r2:=hid (fun W hW=>yj W0 b g (.slice ai ins.length ci) st vd vo aC W hW s2.1 s2.2)
 have q1:=ym h.ok au
 have q2:=ym h.ok aC
 have hp:=h.ok.pc
 obtain ⟨X,hX⟩:∃ X,X=Mc.doIt m ins op rd au aC n st:=⟨_,rfl⟩
 rw [<- hX]
 have RX:=hid hX
 clear hX
 unfold aX
 subst hop
 replace RX:=hid (show X=Mc.set rd (Mc.computed 21 (Mc.reg st au) (Mc.reg st aC)) st from RX.o)
 generalize Mc.reg st au=a at *
 generalize Mc.reg st aC=bb at *
 have cC:=hid (fun W=>xG 21 a bb W q1.1 q1.2 q2.1 q2.2 (by omega))
 have cS:=hid (fun v W hW=>xJ W0 b g (.slice ai ins.length ci) st vd vo rd v W hW d0.1 d0.2)
 clear h hI hT hin
 go_enter Tryz.func83,Tryz.ntmps83
 go_wp2_with fail
 generalize W.alloc (.cells #[.int .i64 21,.int .i64 rd,.int .i64 au,.int .i64 aC,.int .i64 n] 143)=V at *
 generalize W.heap.size=ib at *
 obtain ⟨i0,i1,i2,i3,i4⟩:=IC.o
 refine (r1.o _ HA.o).mono ?_
 rintro e V1 ⟨rfl,hV⟩
 subst hV
 go_wp2_with fail
 refine (r2.o _ HA.o).mono ?_
 rintro e V1 ⟨rfl,hV⟩
 subst hV
 have HD:=hid (HA.o.grown (ye (World.grownBy.refl _ none) 1))
 have nS:=HA.o.c.2.2.2.1
 go_wp2
 go_region_with (first | (go_at_call 125; refine (cC.o _).mono ?_; rintro e w' ⟨rfl,rfl⟩) | (go_at_call 119; refine (cS.o _ _ HD.o).mono ?_; rintro e w' ⟨rfl,h2⟩))
 all_goals
  have H2:=hid h2
  clear h2
  go_wp2
  go_end0
  rw [RX.o]
  exact ⟨rfl,_,_,H2.o⟩
set_option maxRecDepth 100000 in
theorem yqB (W0:World) (b g:Nat) (ai:Option Addr) (ci:Nat) (ins:List Int) (st:Mc.St) (vd vo:Value) (m:Im.dK) (op rd au aC n:Int) (W:World) (hpre:mR W0 b g ai ci ins st vd vo m rd au aC n W) (hop:op=22) :
  Calls Tryz.prog 83 #[.pointer (some ⟨b,0,none⟩),aX op rd au aC n] W fun e W'=>e = .returned (.tuple #[])/\kN W0 b g (.slice ai ins.length ci) (Mc.doIt m ins op rd au aC n st) W':=by
 obtain ⟨h,hI,hT,hin,hl,d0,s1,s2,hn⟩:=hpre
 have HA:=hid (h.grown (aH W (.cells #[.int .i64 op,.int .i64 rd,.int .i64 au,.int .i64 aC,.int .i64 n] 143) none))
 have NE:=hid (show W.heap.size≠b from fun e=>by have:=h.blk.lt; omega)
 have IC:=hid (je W (.int .i64 op) (.int .i64 rd) (.int .i64 au) (.int .i64 aC) (.int .i64 n))
 have r1:=hid (fun W hW=>yj W0 b g (.slice ai ins.length ci) st vd vo au W hW s1.1 s1.2)
 have r2:=hid (fun W hW=>yj W0 b g (.slice ai ins.length ci) st vd vo aC W hW s2.1 s2.2)
 have q1:=ym h.ok au
 have q2:=ym h.ok aC
 have hp:=h.ok.pc
 obtain ⟨X,hX⟩:∃ X,X=Mc.doIt m ins op rd au aC n st:=⟨_,rfl⟩
 rw [<- hX]
 have RX:=hid hX
 clear hX
 unfold aX
 subst hop
 replace RX:=hid (show X=Mc.set rd (Mc.computed 22 (Mc.reg st au) (Mc.reg st aC)) st from RX.o)
 generalize Mc.reg st au=a at *
 generalize Mc.reg st aC=bb at *
 have cC:=hid (fun W=>xG 22 a bb W q1.1 q1.2 q2.1 q2.2 (by omega))
 have cS:=hid (fun v W hW=>xJ W0 b g (.slice ai ins.length ci) st vd vo rd v W hW d0.1 d0.2)
 clear h hI hT hin
 go_enter Tryz.func83,Tryz.ntmps83
 go_wp2_with fail
 generalize W.alloc (.cells #[.int .i64 22,.int .i64 rd,.int .i64 au,.int .i64 aC,.int .i64 n] 143)=V at *
 generalize W.heap.size=ib at *
 obtain ⟨i0,i1,i2,i3,i4⟩:=IC.o
 refine (r1.o _ HA.o).mono ?_
 rintro e V1 ⟨rfl,hV⟩
 subst hV
 go_wp2_with fail
 refine (r2.o _ HA.o).mono ?_
 rintro e V1 ⟨rfl,hV⟩
 subst hV
 have HD:=hid (HA.o.grown (ye (World.grownBy.refl _ none) 1))
 have nS:=HA.o.c.2.2.2.1
 go_wp2
 go_region_with (first | (go_at_call 125; refine (cC.o _).mono ?_; rintro e w' ⟨rfl,rfl⟩) | (go_at_call 119; refine (cS.o _ _ HD.o).mono ?_; rintro e w' ⟨rfl,h2⟩))
 all_goals
  have H2:=hid h2
  clear h2
  go_wp2
  go_end0
  rw [RX.o]
  exact ⟨rfl,_,_,H2.o⟩
set_option maxRecDepth 100000 in
theorem yqC (W0:World) (b g:Nat) (ai:Option Addr) (ci:Nat) (ins:List Int) (st:Mc.St) (vd vo:Value) (m:Im.dK) (op rd au aC n:Int) (W:World) (hpre:mR W0 b g ai ci ins st vd vo m rd au aC n W) (hop:op=23) :
  Calls Tryz.prog 83 #[.pointer (some ⟨b,0,none⟩),aX op rd au aC n] W fun e W'=>e = .returned (.tuple #[])/\kN W0 b g (.slice ai ins.length ci) (Mc.doIt m ins op rd au aC n st) W':=by
 obtain ⟨h,hI,hT,hin,hl,d0,s1,s2,hn⟩:=hpre
 have HA:=hid (h.grown (aH W (.cells #[.int .i64 op,.int .i64 rd,.int .i64 au,.int .i64 aC,.int .i64 n] 143) none))
 have NE:=hid (show W.heap.size≠b from fun e=>by have:=h.blk.lt; omega)
 have IC:=hid (je W (.int .i64 op) (.int .i64 rd) (.int .i64 au) (.int .i64 aC) (.int .i64 n))
 have r1:=hid (fun W hW=>yj W0 b g (.slice ai ins.length ci) st vd vo au W hW s1.1 s1.2)
 have r2:=hid (fun W hW=>yj W0 b g (.slice ai ins.length ci) st vd vo aC W hW s2.1 s2.2)
 have q1:=ym h.ok au
 have q2:=ym h.ok aC
 have hp:=h.ok.pc
 obtain ⟨X,hX⟩:∃ X,X=Mc.doIt m ins op rd au aC n st:=⟨_,rfl⟩
 rw [<- hX]
 have RX:=hid hX
 clear hX
 unfold aX
 subst hop
 replace RX:=hid (show X=Mc.set rd (Mc.computed 23 (Mc.reg st au) (Mc.reg st aC)) st from RX.o)
 generalize Mc.reg st au=a at *
 generalize Mc.reg st aC=bb at *
 have cC:=hid (fun W=>xG 23 a bb W q1.1 q1.2 q2.1 q2.2 (by omega))
 have cS:=hid (fun v W hW=>xJ W0 b g (.slice ai ins.length ci) st vd vo rd v W hW d0.1 d0.2)
 clear h hI hT hin
 go_enter Tryz.func83,Tryz.ntmps83
 go_wp2_with fail
 generalize W.alloc (.cells #[.int .i64 23,.int .i64 rd,.int .i64 au,.int .i64 aC,.int .i64 n] 143)=V at *
 generalize W.heap.size=ib at *
 obtain ⟨i0,i1,i2,i3,i4⟩:=IC.o
 refine (r1.o _ HA.o).mono ?_
 rintro e V1 ⟨rfl,hV⟩
 subst hV
 go_wp2_with fail
 refine (r2.o _ HA.o).mono ?_
 rintro e V1 ⟨rfl,hV⟩
 subst hV
 have HD:=hid (HA.o.grown (ye (World.grownBy.refl _ none) 1))
 have nS:=HA.o.c.2.2.2.1
 go_wp2
 go_region_with (first | (go_at_call 125; refine (cC.o _).mono ?_; rintro e w' ⟨rfl,rfl⟩) | (go_at_call 119; refine (cS.o _ _ HD.o).mono ?_; rintro e w' ⟨rfl,h2⟩))
 all_goals
  have H2:=hid h2
  clear h2
  go_wp2
  go_end0
  rw [RX.o]
  exact ⟨rfl,_,_,H2.o⟩
set_option maxRecDepth 100000 in
theorem yqD (W0:World) (b g:Nat) (ai:Option Addr) (ci:Nat) (ins:List Int) (st:Mc.St) (vd vo:Value) (m:Im.dK) (op rd au aC n:Int) (W:World) (hpre:mR W0 b g ai ci ins st vd vo m rd au aC n W) (hop:op=24) :
  Calls Tryz.prog 83 #[.pointer (some ⟨b,0,none⟩),aX op rd au aC n] W fun e W'=>e = .returned (.tuple #[])/\kN W0 b g (.slice ai ins.length ci) (Mc.doIt m ins op rd au aC n st) W':=by
 obtain ⟨h,hI,hT,hin,hl,d0,s1,s2,hn⟩:=hpre
 have HA:=hid (h.grown (aH W (.cells #[.int .i64 op,.int .i64 rd,.int .i64 au,.int .i64 aC,.int .i64 n] 143) none))
 have NE:=hid (show W.heap.size≠b from fun e=>by have:=h.blk.lt; omega)
 have IC:=hid (je W (.int .i64 op) (.int .i64 rd) (.int .i64 au) (.int .i64 aC) (.int .i64 n))
 have r1:=hid (fun W hW=>yj W0 b g (.slice ai ins.length ci) st vd vo au W hW s1.1 s1.2)
 have r2:=hid (fun W hW=>yj W0 b g (.slice ai ins.length ci) st vd vo aC W hW s2.1 s2.2)
 have q1:=ym h.ok au
 have q2:=ym h.ok aC
 have hp:=h.ok.pc
 obtain ⟨X,hX⟩:∃ X,X=Mc.doIt m ins op rd au aC n st:=⟨_,rfl⟩
 rw [<- hX]
 have RX:=hid hX
 clear hX
 unfold aX
 subst hop
 replace RX:=hid (show X=Mc.set rd (Mc.computed 24 (Mc.reg st au) (Mc.reg st aC)) st from RX.o)
 generalize Mc.reg st au=a at *
 generalize Mc.reg st aC=bb at *
 have cC:=hid (fun W=>xG 24 a bb W q1.1 q1.2 q2.1 q2.2 (by omega))
 have cS:=hid (fun v W hW=>xJ W0 b g (.slice ai ins.length ci) st vd vo rd v W hW d0.1 d0.2)
 clear h hI hT hin
 go_enter Tryz.func83,Tryz.ntmps83
 go_wp2_with fail
 generalize W.alloc (.cells #[.int .i64 24,.int .i64 rd,.int .i64 au,.int .i64 aC,.int .i64 n] 143)=V at *
 generalize W.heap.size=ib at *
 obtain ⟨i0,i1,i2,i3,i4⟩:=IC.o
 refine (r1.o _ HA.o).mono ?_
 rintro e V1 ⟨rfl,hV⟩
 subst hV
 go_wp2_with fail
 refine (r2.o _ HA.o).mono ?_
 rintro e V1 ⟨rfl,hV⟩
 subst hV
 have HD:=hid (HA.o.grown (ye (World.grownBy.refl _ none) 1))
 have nS:=HA.o.c.2.2.2.1
 go_wp2
 go_region_with (first | (go_at_call 125; refine (cC.o _).mono ?_; rintro e w' ⟨rfl,rfl⟩) | (go_at_call 119; refine (cS.o _ _ HD.o).mono ?_; rintro e w' ⟨rfl,h2⟩))
 all_goals
  have H2:=hid h2
  clear h2
  go_wp2
  go_end0
  rw [RX.o]
  exact ⟨rfl,_,_,H2.o⟩
theorem yrD (W0:World) (b g:Nat) (ai:Option Addr) (ci:Nat) (ins:List Int) (st:Mc.St) (vd vo:Value) (m:Im.dK) (op rd au aC n:Int) (W:World) (hpre:mR W0 b g ai ci ins st vd vo m rd au aC n W) (hop:0<=op/\op<=25) :
  Calls Tryz.prog 83 #[.pointer (some ⟨b,0,none⟩),aX op rd au aC n] W fun e W'=>e = .returned (.tuple #[])/\kN W0 b g (.slice ai ins.length ci) (Mc.doIt m ins op rd au aC n st) W':=by
 rcases (show op=0\/op=1\/op=2\/op=3\/op=4\/op=5\/op=6\/op=7\/op=8\/op=9\/op=10\/op=11\/op=12\/op=13\/op=14\/op=15\/op=16\/op=17\/op=18\/op=19\/op=20\/op=21\/op=22\/op=23\/op=24\/op=25 by omega) with
  e | e | e | e | e | e | e | e | e | e | e | e | e | e | e | e | e | e | e | e | e | e | e | e | e | e
 ·exact yqw W0 b g ai ci ins st vd vo m op rd au aC n W hpre e
 ·exact yrJ W0 b g ai ci ins st vd vo m op rd au aC n W hpre e
 ·exact oL W0 b g ai ci ins st vd vo m op rd au aC n W hpre e
 ·exact um W0 b g ai ci ins st vd vo m op rd au aC n W hpre e
 ·exact qU W0 b g ai ci ins st vd vo m op rd au aC n W hpre e
 ·exact yrE W0 b g ai ci ins st vd vo m op rd au aC n W hpre e
 ·exact yrF W0 b g ai ci ins st vd vo m op rd au aC n W hpre e
 ·exact yrG W0 b g ai ci ins st vd vo m op rd au aC n W hpre e
 ·exact yrH W0 b g ai ci ins st vd vo m op rd au aC n W hpre e
 ·exact yrI W0 b g ai ci ins st vd vo m op rd au aC n W hpre e
 ·exact yqq W0 b g ai ci ins st vd vo m op rd au aC n W hpre e
 ·exact yse W0 b g ai ci ins st vd vo m op rd au aC n W hpre e
 ·exact ysf W0 b g ai ci ins st vd vo m op rd au aC n W hpre e
 ·exact yqr W0 b g ai ci ins st vd vo m op rd au aC n W hpre e
 ·exact yqs W0 b g ai ci ins st vd vo m op rd au aC n W hpre e
 ·exact yqt W0 b g ai ci ins st vd vo m op rd au aC n W hpre e
 ·exact yqu W0 b g ai ci ins st vd vo m op rd au aC n W hpre e
 ·exact yqv W0 b g ai ci ins st vd vo m op rd au aC n W hpre e
 ·exact yqx W0 b g ai ci ins st vd vo m op rd au aC n W hpre e
 ·exact yqy W0 b g ai ci ins st vd vo m op rd au aC n W hpre e
 ·exact yqz W0 b g ai ci ins st vd vo m op rd au aC n W hpre e
 ·exact yqA W0 b g ai ci ins st vd vo m op rd au aC n W hpre e
 ·exact yqB W0 b g ai ci ins st vd vo m op rd au aC n W hpre e
 ·exact yqC W0 b g ai ci ins st vd vo m op rd au aC n W hpre e
 ·exact yqD W0 b g ai ci ins st vd vo m op rd au aC n W hpre e
 ·exact yoQ W0 b g ai ci ins st vd vo m op rd au aC n W hpre e
def lI:Value:=.agg #[.int .i64 0,.int .i64 0,.slice none 0 0,.int .i64 0,.int .i64 0]
set_option maxRecDepth 100000 in
theorem yqO (g:Nat) (ai:Option Addr) (n ci:Nat) (fuel:Int) (w:World) (hl:16 < n) :
  Calls Tryz.prog 30 #[.pointer (some ⟨g,0,none⟩),.slice ai n ci,.int .i64 fuel] w fun e w'=>e = .returned (.tuple #[lI,.int .i64 40])/\w.grownBy w' none:=by
 have d1:decide ((16:Int) < (n:Int))=true:=by simp; omega
 go_enter Tryz.func30,Tryz.ntmps30
 go_wp2
 refine bodyPost_ret (v:=.tuple #[lI,.int .i64 40]) ?_ rfl ⟨rfl,aH w (.cells lH 37) none⟩
 simp [results,Tryz.results30,go_sem,lI]
set_option maxRecDepth 100000 in
theorem yoa (g:Nat) (ai:Option Addr) (n ci:Nat) (fuel:Int) (w:World) (hl:n<=16) (hf:fuel < 0\/65536 < fuel) :
  Calls Tryz.prog 30 #[.pointer (some ⟨g,0,none⟩),.slice ai n ci,.int .i64 fuel] w fun e w'=>e = .returned (.tuple #[lI,.int .i64 41])/\w.grownBy w' none:=by
 have d1:decide ((16:Int) < (n:Int))=false:=by simp; omega
 by_cases h0:fuel < 0
 ·have d2:decide (fuel < 0)=true:=by simpa using h0
  clear hf h0
  go_enter Tryz.func30,Tryz.ntmps30
  go_wp2
  refine bodyPost_ret (v:=.tuple #[lI,.int .i64 41]) ?_ rfl ⟨rfl,aH w (.cells lH 37) none⟩
  simp [results,Tryz.results30,go_sem,lI]
 ·have d2:decide (fuel < 0)=false:=by simpa using h0
  have d3:decide ((65536:Int) < fuel)=true:=by simp; omega
  clear hf h0
  go_enter Tryz.func30,Tryz.ntmps30
  go_wp2
  refine bodyPost_ret (v:=.tuple #[lI,.int .i64 41]) ?_ rfl ⟨rfl,aH w (.cells lH 37) none⟩
  simp [results,Tryz.results30,go_sem,lI]
def Wd (W0:World) (m:Im.dK) (ins:List Int) (fuel:Int) (e:Ending) (w':World):Prop :=
 (16 < ins.length/\e = .returned (.tuple #[lI,.int .i64 40])) \/
 (ins.length<=16/\(fuel < 0\/65536 < fuel)/\e = .returned (.tuple #[lI,.int .i64 41])) \/
 (ins.length<=16/\0<=fuel/\fuel<=65536/\WW W0 (Mc.run m ins fuel.toNat) e w')
theorem yob (g:Nat) (m:Im.dK) (ai:Option Addr) (ci:Nat) (ins:List Int) (fuel:Int) (w:World) (hI:lJ w g m) (hT:Im.jo m) (hD:∀ i,0<=m.D.getD i 0/\m.D.getD i 0 < 4294967296) (hW:Im.sH m) (hin:yz w ai ins) (ht:dz w) :
  Calls Tryz.prog 30 #[.pointer (some ⟨g,0,none⟩),.slice ai ins.length ci,.int .i64 fuel] w fun e w'=>Wd w m ins fuel e w'/\w.grownBy w' none:=by
 by_cases hl:16 < ins.length
 ·exact (yqO g ai ins.length ci fuel w hl).mono fun e w' k=>⟨.inl ⟨hl,k.1⟩,k.2⟩
 by_cases hf:fuel < 0\/65536 < fuel
 ·exact (yoa g ai ins.length ci fuel w (by omega) hf).mono fun e w' k=>⟨.inr (.inl ⟨by omega,hf,k.1⟩),k.2⟩
 ·obtain ⟨k,rfl⟩:=Int.eq_ofNat_of_zero_le (show 0<=fuel by omega)
  exact (ypo g m ai ci ins k w hI hT hD (by omega) (by omega) hW hin ht (fun W0 b st vd vo op rd au aC n W=>yrD W0 b g ai ci ins st vd vo m op rd au aC n W)).mono fun e w' q=>⟨.inr (.inr ⟨by omega,by omega,by omega,q.1⟩),q.2⟩
set_option maxRecDepth 100000 in
theorem yjS (x g:Nat) (m:Im.dK) (ai:Option Addr) (ci:Nat) (ins:List Int) (fuel:Int) (w:World) (hx:w.cell? ⟨x,0,none⟩=some (.pointer (some ⟨g,0,none⟩))) (hI:lJ w g m) (hT:Im.jo m) (hD:∀ i,0<=m.D.getD i 0/\m.D.getD i 0 < 4294967296) (hW:Im.sH m) (hin:yz w ai ins) (ht:dz w) :
  Calls Tryz.prog 25 #[.pointer (some ⟨x,0,none⟩),.slice ai ins.length ci,.int .i64 fuel] w fun e w'=>Wd w m ins fuel e w'/\w.grownBy w' none:=by
 have G0:=hid (aH w (.cells lH 37) none)
 have R0:=hid (yc.new w lH 37)
 have hsz:(w.alloc (.cells lH 37)).heap.size=w.heap.size+1:=Array.size_push _
 have SZ:=hid hsz
 have c0:=yd hx G0.o
 have cR:=hid (yob g m ai ci ins fuel (w.alloc (.cells lH 37)) (hI.kept G0.o) hT hD hW (hin.kept (fun a v e=>yd e G0.o)) (ht.grown G0.o))
 unfold lH at G0 R0 c0 cR SZ
 clear hx hI hin ht hsz
 go_enter Tryz.func25,Tryz.ntmps25
 go_wp2_with fail
 refine cR.o.mono ?_
 rintro e V ⟨ht,hg⟩
 have G1:=hid (ya G0.o hg)
 have RV:=hid (R0.o.grown hg (by simp))
 have x0:=RV.o.cell 0
 have x1:=RV.o.cell 1
 have x2:=RV.o.cell 2
 have x3:=RV.o.cell 3
 have x4:=RV.o.cell 4
 simp only [bC,bG,bE] at x0 x1 x2 x3 x4
 have y0:=RV.o.free 0
 have y1:=RV.o.free 1
 have y2:=RV.o.free 2
 have y3:=RV.o.free 3
 have y4:=RV.o.free 4
 clear hg cR c0
 rcases ht with ⟨h1,rfl⟩ | ⟨h1,h2,rfl⟩ | ⟨h1,h2,h3,vo,rfl,ho⟩
 ·have H1:=hid h1
  clear h1
  unfold lI
  go_wp2
  have RF:=Kc (w:=w) (.int .i64 0) (.int .i64 0) (.slice none 0 0) (.int .i64 0) (.int .i64 0) RV.o (Nat.le_refl _) G1.o (World.ownsRow_nil V 0 3 1) (by simp [Value.ownBlock])
  have h0:=RF.1.cell 0
  have h1:=RF.1.cell 1
  have h2:=RF.1.cell 2
  have h3:=RF.1.cell 3
  have h4:=RF.1.cell 4
  simp only [bC,bG,bE] at h0 h1 h2 h3 h4
  refine bodyPost_ret (v:=.tuple #[lI,.int .i64 40]) ?_ rfl ⟨.inl ⟨H1.o,rfl⟩,RF.2.1⟩
  clear RF x0 x1 x2 x3 x4 y0 y1 y2 y3 y4
  generalize World.setCell _ _ _=WF at *
  simp [results,Tryz.results25,go_sem,lI,h0,h1,h2,h3,h4]
 ·have H1:=hid h1
  have H2:=hid h2
  clear h1 h2
  unfold lI
  go_wp2
  have RF:=Kc (w:=w) (.int .i64 0) (.int .i64 0) (.slice none 0 0) (.int .i64 0) (.int .i64 0) RV.o (Nat.le_refl _) G1.o (World.ownsRow_nil V 0 3 1) (by simp [Value.ownBlock])
  have h0:=RF.1.cell 0
  have h1:=RF.1.cell 1
  have h2:=RF.1.cell 2
  have h3:=RF.1.cell 3
  have h4:=RF.1.cell 4
  simp only [bC,bG,bE] at h0 h1 h2 h3 h4
  refine bodyPost_ret (v:=.tuple #[lI,.int .i64 41]) ?_ rfl ⟨.inr (.inl ⟨H1.o,H2.o,rfl⟩),RF.2.1⟩
  clear RF x0 x1 x2 x3 x4 y0 y1 y2 y3 y4
  generalize World.setCell _ _ _=WF at *
  simp [results,Tryz.results25,go_sem,lI,h0,h1,h2,h3,h4]
 ·have H1:=hid (And.intro h1 (And.intro h2 h3))
  clear h1 h2 h3
  obtain ⟨ao,co,rfl⟩:=yh ho
  have HO:=hid ho
  clear ho
  go_wp2
  have RF:=Kc (w:=w) (.int .i64 (Mc.run m ins fuel.toNat).dG) (.int .i64 (Mc.run m ins fuel.toNat).code) (.slice ao (Mc.run m ins fuel.toNat).o.length co) (.int .i64 (Mc.run m ins fuel.toNat).steps) (.int .i64 (Mc.run m ins fuel.toNat).read) RV.o (Nat.le_refl _) G1.o HO.o (fun j e=>by have:=(HO.o.lt j e).1; have:=SZ.o; omega)
  have h0:=RF.1.cell 0
  have h1:=RF.1.cell 1
  have h2:=RF.1.cell 2
  have h3:=RF.1.cell 3
  have h4:=RF.1.cell 4
  simp only [bC,bG,bE] at h0 h1 h2 h3 h4
  refine bodyPost_ret (v:=.tuple #[.agg #[.int .i64 (Mc.run m ins fuel.toNat).dG,.int .i64 (Mc.run m ins fuel.toNat).code,.slice ao (Mc.run m ins fuel.toNat).o.length co,.int .i64 (Mc.run m ins fuel.toNat).steps,.int .i64 (Mc.run m ins fuel.toNat).read],.int .i64 0]) ?_ rfl ⟨.inr (.inr ⟨H1.o.1,H1.o.2.1,H1.o.2.2,_,rfl,yW RF.2.2 (Nat.le_trans (Nat.le_succ _) (Nat.le_of_eq SZ.o.symm))⟩),RF.2.1⟩
  clear RF x0 x1 x2 x3 x4 y0 y1 y2 y3 y4
  generalize World.setCell _ _ _=WF at *
  simp [results,Tryz.results25,go_sem,h0,h1,h2,h3,h4]
instance (m:Im.dK):Decidable (Im.lK m):=by unfold Im.lK Im.Base Im.jM Im.In; infer_instance
instance (l:List UInt8):Decidable (Im.jG l):=by unfold Im.jG Im.Full; infer_instance
def Gg (os:List Lk.Obj) (bt bf bd:Int) (ins:List Int) (out:List Int) (code:Int):Prop :=
 Ko (Ln.eH os bt bf bd).2 0 0 []/\Im.jG (Ln.eH os bt bf bd).1/\(Mc.run (Im.dV (Ln.eH os bt bf bd).1) ins 5000).dG=1/\(Mc.run (Im.dV (Ln.eH os bt bf bd).1) ins 5000).code=code/\(Mc.run (Im.dV (Ln.eH os bt bf bd).1) ins 5000).o=out
instance (os:List Lk.Obj) (bt bf bd:Int) (ins:List Int) (out:List Int) (code:Int):Decidable (Gg os bt bf bd ins out code):=by unfold Gg; infer_instance
namespace Im
theorem wu (a l:List UInt8) (p n:Nat):dA (a ++ l) (a.length+p) n=dA l p n:=by
 induction n generalizing p with
 | zero=>rfl
 | succ n ih =>
  have g:(a ++ l).getD (a.length+p) 0=l.getD p 0:=by rw [jY,jY,List.getElem?_append_right (by omega),Nat.add_sub_cancel_left]
  unfold dA
  rw [Nat.add_assoc,ih (p+1),g]
theorem El (v:Int) (n:Nat) (b:List UInt8) (h0:0<=v) (h1:v < (256:Int) ^ n):dA (Lk.le v n ++ b) 0 n=v:=by
 have hl:=Lk.aA v n
 rw [<- sU _ 0 n (by rw [fu]; omega),List.drop_zero,List.take_append_of_le_length (by omega),List.take_of_length_le (by omega)]
 exact Lk.zN v n h0 h1
theorem jZ (a b:List UInt8) (v:Int) (n p:Nat) (hp:a.length=p) (h0:0<=v) (h1:v < (256:Int) ^ n):dA (a ++ (Lk.le v n ++ b)) p n=v:=by
 have:=wu a (Lk.le v n ++ b) 0 n
 rw [Nat.add_zero,hp] at this
 rw [this,El v n b h0 h1]
theorem kr (xs:List Int):(Lk.nums xs 4).length=4 * xs.length:=by
 induction xs with
 | nil=>rfl
 | cons x xs ih =>
  have e:Lk.nums (x :: xs) 4=Lk.le x 4 ++ Lk.nums xs 4:=rfl
  rw [e,fu,Lk.aA,ih,iE]
  omega
theorem pI (xs:List Int):∀ (a b:List UInt8) (p:Nat),a.length=p->(∀ x∈xs,0<=x/\x < 4294967296)->words (a ++ (Lk.nums xs 4 ++ b)) p xs.length=xs:=by
 induction xs with
 | nil=>intro a b p _ _; rfl
 | cons x xs ih =>
  intro a b p hp hx
  have e:Lk.nums (x :: xs) 4=Lk.le x 4 ++ Lk.nums xs 4:=rfl
  have h:=hx x List.mem_cons_self
  rw [iE,pJ,e,List.append_assoc,jZ a (Lk.nums xs 4 ++ b) x 4 p hp h.1 (by simpa using h.2)]
  congr 1
  have q:=ih (a ++ Lk.le x 4) b (p+4) (by rw [fu,Lk.aA,hp]) (fun y hy=>hx y (List.mem_cons_of_mem _ hy))
  rw [List.append_assoc] at q
  exact q
structure Fit (m:dK):Prop where
 start:0<=m.start/\m.start < 4294967296
 text:0<=m.text/\m.text < 4294967296
 far:0<=m.far/\m.far < 4294967296
 data:0<=m.data/\m.data < 4294967296
 lT:m.T.length<=65535
 lF:m.F.length<=65535
 lD:m.D.length<=65535
 no:0<=m.noughts/\m.noughts<=65535
 T:∀ x∈m.T,0<=x/\x < 4294967296
 F:∀ x∈m.F,0<=x/\x < 4294967296
 D:∀ x∈m.D,0<=x/\x < 4294967296
theorem uh (m:dK) (h:Fit m):dV (bytes m)=m/\Full (bytes m)/\(bytes m).take 2=[73,77]/\(bytes m).length=26+4 * (m.T.length+m.F.length+m.D.length):=by
 obtain ⟨st,tx,fr,da,T,F,D,no⟩:=m
 obtain ⟨hs,ht,hf,hd,lT,lF,lD,hn,hT,hF,hD⟩:=h
 simp only at hs ht hf hd lT lF lD hn hT hF hD
 have E:bytes ⟨st,tx,fr,da,T,F,D,no⟩=[73,77] ++ (Lk.le st 4 ++ (Lk.le tx 4 ++ (Lk.le fr 4 ++ (Lk.le da 4 ++ (Lk.le (T.length:Int) 2 ++ (Lk.le (F.length:Int) 2 ++ (Lk.le (D.length:Int) 2 ++ (Lk.le no 2 ++ (Lk.nums T 4 ++ (Lk.nums F 4 ++ (Lk.nums D 4 ++ []))))))))))):=by
  unfold bytes
  simp only [List.append_assoc,List.append_nil]
 have L:(bytes ⟨st,tx,fr,da,T,F,D,no⟩).length=26+4 * (T.length+F.length+D.length):=by
  rw [E]
  simp only [fu,Lk.aA,kr,iE,List.length_nil]
  omega
 have two:(256:Int) ^ 2=65536:=by decide
 have four:(256:Int) ^ 4=4294967296:=by decide
 have q1:dA (bytes ⟨st,tx,fr,da,T,F,D,no⟩) 2 4=st:=by rw [E]; exact jZ [73,77] _ st 4 2 rfl hs.1 (by omega)
 have q2:dA (bytes ⟨st,tx,fr,da,T,F,D,no⟩) 6 4=tx:=by
  rw [E,<- List.append_assoc]
  exact jZ _ _ tx 4 6 (by simp [Lk.aA]) ht.1 (by omega)
 have q3:dA (bytes ⟨st,tx,fr,da,T,F,D,no⟩) 10 4=fr:=by
  rw [E,<- List.append_assoc,<- List.append_assoc]
  exact jZ _ _ fr 4 10 (by simp [Lk.aA]) hf.1 (by omega)
 have q4:dA (bytes ⟨st,tx,fr,da,T,F,D,no⟩) 14 4=da:=by
  rw [E,<- List.append_assoc,<- List.append_assoc,<- List.append_assoc]
  exact jZ _ _ da 4 14 (by simp [Lk.aA]) hd.1 (by omega)
 have q5:dA (bytes ⟨st,tx,fr,da,T,F,D,no⟩) 18 2=T.length:=by
  rw [E,<- List.append_assoc,<- List.append_assoc,<- List.append_assoc,<- List.append_assoc]
  exact jZ _ _ _ 2 18 (by simp [Lk.aA]) (by omega) (by omega)
 have q6:dA (bytes ⟨st,tx,fr,da,T,F,D,no⟩) 20 2=F.length:=by
  rw [E,<- List.append_assoc,<- List.append_assoc,<- List.append_assoc,<- List.append_assoc,<- List.append_assoc]
  exact jZ _ _ _ 2 20 (by simp [Lk.aA]) (by omega) (by omega)
 have q7:dA (bytes ⟨st,tx,fr,da,T,F,D,no⟩) 22 2=D.length:=by
  rw [E,<- List.append_assoc,<- List.append_assoc,<- List.append_assoc,<- List.append_assoc,<- List.append_assoc,<- List.append_assoc]
  exact jZ _ _ _ 2 22 (by simp [Lk.aA]) (by omega) (by omega)
 have q8:dA (bytes ⟨st,tx,fr,da,T,F,D,no⟩) 24 2=no:=by
  rw [E,<- List.append_assoc,<- List.append_assoc,<- List.append_assoc,<- List.append_assoc,<- List.append_assoc,<- List.append_assoc,<- List.append_assoc]
  exact jZ _ _ _ 2 24 (by simp [Lk.aA]) hn.1 (by omega)
 have nt:nT (bytes ⟨st,tx,fr,da,T,F,D,no⟩)=T.length:=by unfold nT; rw [q5]; omega
 have nf:nF (bytes ⟨st,tx,fr,da,T,F,D,no⟩)=F.length:=by unfold nF; rw [q6]; omega
 have nd:nD (bytes ⟨st,tx,fr,da,T,F,D,no⟩)=D.length:=by unfold nD; rw [q7]; omega
 have w1:words (bytes ⟨st,tx,fr,da,T,F,D,no⟩) 26 T.length=T:=by
  rw [E,<- List.append_assoc,<- List.append_assoc,<- List.append_assoc,<- List.append_assoc,<- List.append_assoc,<- List.append_assoc,<- List.append_assoc,<- List.append_assoc]
  exact pI T _ _ 26 (by simp [Lk.aA]) hT
 have w2:words (bytes ⟨st,tx,fr,da,T,F,D,no⟩) (26+4 * T.length) F.length=F:=by
  rw [E,<- List.append_assoc,<- List.append_assoc,<- List.append_assoc,<- List.append_assoc,<- List.append_assoc,<- List.append_assoc,<- List.append_assoc,<- List.append_assoc,<- List.append_assoc]
  exact pI F _ _ _ (by simp [Lk.aA,kr]; omega) hF
 have w3:words (bytes ⟨st,tx,fr,da,T,F,D,no⟩) (26+4 * T.length+4 * F.length) D.length=D:=by
  rw [E,<- List.append_assoc,<- List.append_assoc,<- List.append_assoc,<- List.append_assoc,<- List.append_assoc,<- List.append_assoc,<- List.append_assoc,<- List.append_assoc,<- List.append_assoc,<- List.append_assoc]
  exact pI D _ _ _ (by simp [Lk.aA,kr]; omega) hD
 refine ⟨?_,?_,?_,L⟩
 ·unfold dV
  rw [nt,nf,nd,q1,q2,q3,q4,q8,w1,w2,w3]
 ·unfold Full
  rw [L,nt,nf,nd]
 ·rw [E]
  rfl
end Im
theorem Bf (a b k M:Nat) (hM:M=2 ^ k) (h:b < M):a * M ||| b=a * M+b:=by
 subst hM
 have:=Nat.two_pow_add_eq_or_of_lt (i:=k) (b:=b) h a
 rw [Nat.mul_comm a]
 exact this.symm
theorem ymU (A B C D E:Nat):(A ||| B) ||| C ||| D ||| E=C ||| (E ||| (A ||| (D ||| B))):=by
 apply Nat.eq_of_testBit_eq
 intro i
 simp only [Nat.testBit_or]
 cases A.testBit i <;> cases B.testBit i <;> cases C.testBit i <;> cases D.testBit i <;> cases E.testBit i <;> rfl
theorem glue (a b M N P k:Nat) (hk:P=2 ^ k) (hP:P=N * M) (hM:0 < M) (hb:b < N):a * P ||| b * M=(a * N+b) * M:=by
 rw [Bf a (b * M) k P hk (by rw [hP]; exact Nat.mul_lt_mul_of_pos_right hb hM),hP,Nat.add_mul,Nat.mul_assoc]
theorem GU (n:Int) (low count:Nat):As.dQ n low count < 2 ^ count:=by
 unfold As.dQ
 have hp:(0:Int) < (2:Int) ^ count:=Int.pow_pos (by omega)
 have h1:=Int.emod_lt_of_pos (n / (2:Int) ^ low) hp
 have h0:=Int.emod_nonneg (n / (2:Int) ^ low) (Int.ne_of_gt hp)
 have e:((2 ^ count:Nat):Int)=(2:Int) ^ count:=by simp
 omega
theorem FT (n:Int) (low count:Nat):((As.dQ n low count:Nat):Int)=(n / (2:Int) ^ low) % (2:Int) ^ count:=by
 unfold As.dQ
 have hp:(0:Int) < (2:Int) ^ count:=Int.pow_pos (by omega)
 have h0:=Int.emod_nonneg (n / (2:Int) ^ low) (Int.ne_of_gt hp)
 omega
theorem Lp (r:Nat) (h:r < 32):As.dQ (r:Int) 0 5=r:=by
 have:=FT (r:Int) 0 5
 simp only [Int.reducePow,Int.ediv_one] at this
 omega
namespace Mc
structure Says (w:Int) (op:Nat) (rd au aC n:Int):Prop where
 lo:0<=w
 hi:w<=4294967295
 op:jq w=op
 rd:fI (aK w) w=rd
 au:bA (aK w) w=au
 aC:jd (aK w) w=aC
 n:iJ (aK w) w=n
end Mc
theorem QD (n:Int) (form:Int) (h0:0<=n) (h1:n<=4294967295) (hf:form=1\/form=2\/form=3\/form=6):fI form n=n / 128 % 32:=by
 unfold fI
 rw [if_pos (by omega),yA n 128 h0 h1 (by omega)]
theorem yrO (n:Int) (form:Int) (h0:0<=n) (h1:n<=4294967295) (hf:form=3\/form=4\/form=5\/form=6):bA form n=n / 32768 % 32:=by
 unfold bA
 rw [if_pos (by omega),yA n 32768 h0 h1 (by omega)]
theorem yqG (op rd:Nat) (d:Int) (fx:Nat) (ho:As.forms.getD op 0=2) (hx:As.jg.getD op 0=fx):As.enc op rd 0 0 d=(fx ||| (As.dQ d 20 1 * 2147483648 ||| As.dQ d 1 10 * 2097152 ||| As.dQ d 11 1 * 1048576 ||| As.dQ d 12 8 * 4096)) ||| As.dQ (rd:Int) 0 5 * 128:=by
 have p:As.place' 2 d=As.dQ d 20 1 * 2147483648 ||| As.dQ d 1 10 * 2097152 ||| As.dQ d 11 1 * 1048576 ||| As.dQ d 12 8 * 4096:=by
  unfold As.place'
  rw [if_neg (by decide),if_pos rfl]
 have a1:As.jV 2=true:=by decide
 have a2:As.iU 2=false:=by decide
 have a3:As.jB 2=false:=by decide
 unfold As.enc
 rw [ho,hx]
 unfold As.jT
 simp only [a1,a2,a3,if_true,Bool.false_eq_true,if_false,p]
theorem yqR (n:Int):Mc.iJ 2 n=if Mc.v2 n < 1048576 then Mc.v2 n else Mc.v2 n - 2097152:=by
 unfold Mc.iJ
 rw [if_neg (by decide),if_pos rfl]
theorem yom (n:Int):Mc.iJ 3 n=if n / 1048576 % 4096 < 2048 then n / 1048576 % 4096 else n / 1048576 % 4096 - 4096:=by
 unfold Mc.iJ
 rw [if_neg (by decide),if_neg (by decide),if_pos rfl]
theorem yqQ (n:Int):Mc.iJ 1 n=n / 4096 % 1048576:=by
 unfold Mc.iJ
 rw [if_pos rfl]
theorem Xd (form n:Int) (h:form=1\/form=2):bA form n=0:=by
 unfold bA
 rw [if_neg (by omega)]
theorem Qx (form n:Int) (h:form=1\/form=2\/form=3):jd form n=0:=by
 unfold jd
 rw [if_neg (by omega)]
theorem yqp (x1 x2 x3 x4 K:Int) (hK:K=x1+256 * x2+512 * x3+524288 * x4) (r1:0<=x1/\x1 < 256) (r2:0<=x2/\x2 < 2) (r3:0<=x3/\x3 < 1024) (r4:0<=x4/\x4 < 2):K % 256=x1/\K / 256 % 2=x2/\K / 512 % 1024=x3/\K / 524288 % 2=x4:=by
 have a:K / 256=x2+2 * x3+2048 * x4:=by omega
 have b:K / 512=x3+1024 * x4:=by omega
 have c:K / 524288=x4:=by omega
 rw [a,b,c]
 clear a b c
 refine ⟨by omega,by omega,by omega,by omega⟩
theorem yqF (rd:Nat) (d:Int) (h:rd < 32):(As.enc 3 rd 0 0 d:Int)=111+128 * rd+4096 * (d / 4096 % 256)+1048576 * (d / 2048 % 2)+2097152 * (d / 2 % 1024)+2147483648 * (d / 1048576 % 2):=by
 have e:=yqG 3 rd d 111 (by decide) (by decide)
 have f1:=GU d 20 1
 have f2:=GU d 1 10
 have f3:=GU d 11 1
 have f4:=GU d 12 8
 have g1:=FT d 20 1
 have g2:=FT d 1 10
 have g3:=FT d 11 1
 have g4:=FT d 12 8
 simp only [Int.reducePow,Nat.reducePow] at f1 f2 f3 f4 g1 g2 g3 g4
 rw [Lp rd h] at e
 generalize As.dQ d 20 1=a at *
 generalize As.dQ d 1 10=b at *
 generalize As.dQ d 11 1=c at *
 generalize As.dQ d 12 8=x at *
 have o1:a * 2147483648 ||| b * 2097152=(a * 1024+b) * 2097152:=glue a b 2097152 1024 2147483648 31 (by decide) (by decide) (by decide) (by omega)
 have o2:(a * 1024+b) * 2097152 ||| c * 1048576=((a * 1024+b) * 2+c) * 1048576:=glue (a * 1024+b) c 1048576 2 2097152 21 (by decide) (by decide) (by decide) (by omega)
 have o3:((a * 1024+b) * 2+c) * 1048576 ||| x * 4096=(((a * 1024+b) * 2+c) * 256+x) * 4096:=glue ((a * 1024+b) * 2+c) x 4096 256 1048576 20 (by decide) (by decide) (by decide) (by omega)
 have o5:111 ||| rd * 128=rd * 128+111:=by rw [Nat.or_comm]; exact Bf rd 111 7 128 (by decide) (by omega)
 rw [o1,o2,o3,Nat.or_comm 111,Nat.or_assoc,o5] at e
 obtain ⟨K,hK⟩:∃ K,((a * 1024+b) * 2+c) * 256+x=K:=⟨_,rfl⟩
 rw [hK] at e
 have o6:K * 4096 ||| (rd * 128+111)=K * 4096+(rd * 128+111):=Bf K (rd * 128+111) 12 4096 (by decide) (by omega)
 rw [o6] at e
 omega
theorem ypK (rd:Nat) (d:Int) (h:rd < 32) (h0:-1048576<=d) (h1:d < 1048576) (h2:d % 2=0):Mc.Says (As.enc 3 rd 0 0 d) 3 rd 0 0 d:=by
 have e:=yqF rd d h
 generalize ((As.enc 3 rd 0 0 d:Nat):Int)=w at *
 obtain ⟨x1,hx1⟩:∃ x,d / 4096 % 256=x:=⟨_,rfl⟩
 obtain ⟨x2,hx2⟩:∃ x,d / 2048 % 2=x:=⟨_,rfl⟩
 obtain ⟨x3,hx3⟩:∃ x,d / 2 % 1024=x:=⟨_,rfl⟩
 obtain ⟨x4,hx4⟩:∃ x,d / 1048576 % 2=x:=⟨_,rfl⟩
 rw [hx1,hx2,hx3,hx4] at e
 have r1:0<=x1/\x1 < 256:=by omega
 have r2:0<=x2/\x2 < 2:=by omega
 have r3:0<=x3/\x3 < 1024:=by omega
 have r4:0<=x4/\x4 < 2:=by omega
 have sum:x4 * 1048576+x1 * 4096+x2 * 2048+x3 * 2=d % 2097152:=by omega
 clear hx1 hx2 hx3 hx4
 have w0:0<=w:=by omega
 have w1:w<=4294967295:=by omega
 have m:w % 128=111:=by omega
 have o:Mc.jq w=3:=Mc.ow w 3 (by omega) (by omega) ((Cr w w0 w1).2 m) (fun j hj1 hj2=>by
  rcases (show j=1\/j=2 by omega) with rfl | rfl
  ·rw [zy w w0 w1]; omega
  ·rw [zA w w0 w1]; omega)
 have f:Mc.aK w=2:=by unfold Mc.aK; rw [o]; rfl
 refine ⟨w0,w1,o,?_,?_,?_,?_⟩
 ·rw [f,QD w 2 w0 w1 (by omega)]; omega
 ·rw [f,Xd 2 w (by omega)]
 ·rw [f,Qx 2 w (by omega)]
 ·rw [f,yqR]
  have k0:w / 4096=x1+256 * x2+512 * x3+524288 * x4:=by omega
  have k1:w / 1048576=w / 4096 / 256:=by omega
  have k2:w / 2097152=w / 4096 / 512:=by omega
  have k3:w / 2147483648=w / 4096 / 524288:=by omega
  obtain ⟨y1,y2,y3,y4⟩:=yqp x1 x2 x3 x4 (w / 4096) k0 r1 r2 r3 r4
  rw [<- k1] at y2
  rw [<- k2] at y3
  rw [<- k3] at y4
  have q:Mc.v2 w=d % 2097152:=by unfold Mc.v2; rw [y1,y2,y3,y4]; exact sum
  rw [q]
  split <;> omega
theorem ynB (rd:Nat) (n:Int) (h:rd < 32):(As.enc 2 rd 0 0 n:Int)=23+128 * rd+4096 * (n % 1048576):=by
 have e:As.enc 2 rd 0 0 n=(23 ||| As.dQ n 0 20 * 4096) ||| As.dQ (rd:Int) 0 5 * 128:=by
  have p:As.place' 1 n=As.dQ n 0 20 * 4096:=by unfold As.place'; rw [if_pos rfl]
  have a1:As.jV 1=true:=by decide
  have a2:As.iU 1=false:=by decide
  have a3:As.jB 1=false:=by decide
  have ho:As.forms.getD 2 0=1:=by decide
  have hx:As.jg.getD 2 0=23:=by decide
  unfold As.enc
  rw [ho,hx]
  unfold As.jT
  simp only [a1,a2,a3,if_true,Bool.false_eq_true,if_false,p]
 have f1:=GU n 0 20
 have g1:=FT n 0 20
 simp only [Int.reducePow,Nat.reducePow,Int.ediv_one] at f1 g1
 rw [Lp rd h] at e
 generalize As.dQ n 0 20=a at *
 have o5:23 ||| rd * 128=rd * 128+23:=by rw [Nat.or_comm]; exact Bf rd 23 7 128 (by decide) (by omega)
 have o6:a * 4096 ||| (rd * 128+23)=a * 4096+(rd * 128+23):=Bf a (rd * 128+23) 12 4096 (by decide) (by omega)
 rw [Nat.or_comm 23,Nat.or_assoc,o5,o6] at e
 omega
theorem ymZ (rd:Nat) (n:Int) (h:rd < 32):Mc.Says (As.enc 2 rd 0 0 n) 2 rd 0 0 (n % 1048576):=by
 have e:=ynB rd n h
 generalize ((As.enc 2 rd 0 0 n:Nat):Int)=w at *
 have w0:0<=w:=by omega
 have w1:w<=4294967295:=by omega
 have o:Mc.jq w=2:=Mc.ow w 2 (by omega) (by omega) ((zA w w0 w1).2 (by omega)) (fun j hj1 hj2=>by
  obtain rfl:j=1:=by omega
  rw [zy w w0 w1]; omega)
 have f:Mc.aK w=1:=by unfold Mc.aK; rw [o]; rfl
 refine ⟨w0,w1,o,?_,?_,?_,?_⟩
 ·rw [f,QD w 1 w0 w1 (by omega)]; omega
 ·rw [f,Xd 1 w (by omega)]
 ·rw [f,Qx 1 w (by omega)]
 ·rw [f,yqQ]
  omega
theorem ynC (op rd au:Nat) (n:Int) (fx:Nat) (ho:As.forms.getD op 0=3) (hx:As.jg.getD op 0=fx) (hl:fx % 128+4096 * (fx / 4096)=fx) (hl2:fx < 32768) (h:rd < 32) (h1:au < 32):(As.enc op rd au 0 n:Int)=fx+128 * rd+32768 * au+1048576 * (n % 4096):=by
 have e:As.enc op rd au 0 n=(fx ||| As.dQ n 0 12 * 1048576) ||| As.dQ (rd:Int) 0 5 * 128 ||| As.dQ (au:Int) 0 5 * 32768:=by
  have p:As.place' 3 n=As.dQ n 0 12 * 1048576:=by unfold As.place'; rw [if_neg (by decide),if_neg (by decide),if_pos rfl]
  have a1:As.jV 3=true:=by decide
  have a2:As.iU 3=true:=by decide
  have a3:As.jB 3=false:=by decide
  unfold As.enc
  rw [ho,hx]
  unfold As.jT
  simp only [a1,a2,a3,if_true,Bool.false_eq_true,if_false,p]
 have f1:=GU n 0 12
 have g1:=FT n 0 12
 simp only [Int.reducePow,Nat.reducePow,Int.ediv_one] at f1 g1
 rw [Lp rd h,Lp au h1] at e
 generalize As.dQ n 0 12=a at *
 obtain ⟨u,v,hu,hv⟩:∃ u v:Nat,u < 128/\fx=v * 4096+u:=⟨fx % 128,fx / 4096,by omega,by omega⟩
 have o1:fx=v * 4096 ||| u:=by rw [hv]; exact (Bf v u 12 4096 (by decide) (by omega)).symm
 have o5:rd * 128 ||| u=rd * 128+u:=Bf rd u 7 128 (by decide) (by omega)
 have o6:v * 4096 ||| (rd * 128+u)=v * 4096+(rd * 128+u):=Bf v (rd * 128+u) 12 4096 (by decide) (by omega)
 have o7:au * 32768 ||| (v * 4096+(rd * 128+u))=au * 32768+(v * 4096+(rd * 128+u)):=Bf au _ 15 32768 (by decide) (by omega)
 have o8:a * 1048576 ||| (au * 32768+(v * 4096+(rd * 128+u)))=a * 1048576+(au * 32768+(v * 4096+(rd * 128+u))):=Bf a _ 20 1048576 (by decide) (by omega)
 have s:As.enc op rd au 0 n=a * 1048576 ||| (au * 32768 ||| (v * 4096 ||| (rd * 128 ||| u))):=by
  rw [e,o1]
  exact ymU _ _ _ _ _
 rw [o5,o6,o7,o8] at s
 omega
theorem yoy (rd au:Nat) (n:Int) (h:rd < 32) (h1:au < 32) (h2:-2048<=n) (h3:n < 2048):Mc.Says (As.enc 4 rd au 0 n) 4 rd au 0 n:=by
 have e:=ynC 4 rd au n 103 (by decide) (by decide) (by decide) (by omega) h h1
 generalize ((As.enc 4 rd au 0 n:Nat):Int)=w at *
 have w0:0<=w:=by omega
 have w1:w<=4294967295:=by omega
 have o:Mc.jq w=4:=Mc.ow w 4 (by omega) (by omega) ((Fg w w0 w1).2 (by omega)) (fun j hj1 hj2=>by
  rcases (show j=1\/j=2\/j=3 by omega) with rfl | rfl | rfl
  ·rw [zy w w0 w1]; omega
  ·rw [zA w w0 w1]; omega
  ·rw [Cr w w0 w1]; omega)
 have f:Mc.aK w=3:=by unfold Mc.aK; rw [o]; rfl
 refine ⟨w0,w1,o,?_,?_,?_,?_⟩
 ·rw [f,QD w 3 w0 w1 (by omega)]; omega
 ·rw [f,yrO w 3 w0 w1 (by omega)]; omega
 ·rw [f,Qx 3 w (by omega)]
 ·rw [f,yom]
  split <;> omega
namespace Ln
def cn (st:Nat->Bool):Nat->Nat
 | 0=>0
 | n+1=>cn st n+if st n then 1 else 0
theorem qK (m:Mod) (ah:Int) (st:Nat->Bool) (b:Int):∀ (ws:List Int) (i:Nat),(∀ n,n < ws.length->∀ a,stays m ah (4 * ((i+n:Nat):Int)) a=st (i+n)) ->
  (∀ n,n<=ws.length->(aL m ah i ws (b+4 * (cn st i:Int))).getD n 0=b+4 * (cn st (i+n):Int))/\(aL m ah i ws (b+4 * (cn st i:Int))).length=ws.length+1/\bR m ah i ws (b+4 * (cn st i:Int))=b+4 * (cn st (i+ws.length):Int):=by
 intro ws
 induction ws with
 | nil =>
  intro i _
  refine ⟨fun n hn=>?_,rfl,rfl⟩
  obtain rfl:n=0:=by simpa using hn
  rfl
 | cons w ws ih =>
  intro i h
  have h0:=h 0 (by simp)
  have e:(if stays m ah (4 * (i:Int)) (b+4 * (cn st i:Int)) then b+4 * (cn st i:Int)+4 else b+4 * (cn st i:Int))=b+4 * (cn st (i+1):Int):=by
   have:=h0 (b+4 * (cn st i:Int))
   rw [Nat.add_zero] at this
   rw [this]
   have c:cn st (i+1)=cn st i+if st i then 1 else 0:=rfl
   rw [c]
   cases st i <;> simp <;> omega
  have q:=ih (i+1) (fun n hn a=>by
   have:=h (n+1) (by simpa using hn) a
   rw [show i+(n+1)=i+1+n by omega] at this
   exact this)
  have p1:aL m ah i (w :: ws) (b+4 * (cn st i:Int))=(b+4 * (cn st i:Int)) :: aL m ah (i+1) ws (b+4 * (cn st (i+1):Int)):=by rw [<- e]; rfl
  have p2:bR m ah i (w :: ws) (b+4 * (cn st i:Int))=bR m ah (i+1) ws (b+4 * (cn st (i+1):Int)):=by rw [<- e]; rfl
  rw [p1,p2]
  refine ⟨fun n hn=>?_,?_,?_⟩
  ·cases n with
   | zero=>rfl
   | succ n =>
    have:=q.1 n (by simpa using hn)
    rw [show i+(n+1)=i+1+n by omega]
    exact this
  ·rw [iE,q.2.1,iE]
  ·rw [q.2.2,iE,show i+(ws.length+1)=i+1+ws.length by omega]
theorem qD (st:Nat->Bool) (n:Nat):cn st n<=n:=by
 induction n with
 | zero=>exact Nat.le_refl _
 | succ n ih =>
  unfold cn
  split <;> omega
theorem qP (st:Nat->Bool) (i n:Nat):cn st i<=cn st (i+n):=by
 induction n with
 | zero=>exact Nat.le_refl _
 | succ n ih =>
  have c:cn st (i+(n+1))=cn st (i+n)+if st (i+n) then 1 else 0:=rfl
  omega
theorem kK (ms:List Mod) (m:Mod) (ah:Int) (st:Nat->Bool) (b:Int):∀ (ws:List Int) (i:Nat),(∀ n,n<=ws.length->address m ah (4 * ((i+n:Nat):Int))=b+4 * (cn st (i+n):Int)) ->
  (aI ms m ah i ws).length=cn st (i+ws.length) - cn st i/\∀ n (hn:n < ws.length),st (i+n)=true->(aI ms m ah i ws)[cn st (i+n) - cn st i]?=some (linked ms m ah (4 * ((i+n:Nat):Int)) ws[n]):=by
 intro ws
 induction ws with
 | nil=>intro i _; exact ⟨by simp [aI],fun n hn=>by simp at hn⟩
 | cons w ws ih =>
  intro i h
  have h0:=h 0 (by simp)
  have h1:=h 1 (by simp)
  rw [Nat.add_zero] at h0
  have q:=ih (i+1) (fun n hn=>by
   have:=h (n+1) (by simpa using hn)
   rw [show i+(n+1)=i+1+n by omega] at this
   exact this)
  have c:cn st (i+1)=cn st i+if st i then 1 else 0:=rfl
  have e4:4 * (i:Int)+4=4 * ((i+1:Nat):Int):=by omega
  have mo:=qP st (i+1) ws.length
  have il:i+(w :: ws).length=i+1+ws.length:=by rw [iE]; omega
  by_cases s:st i=true
  ·rw [s,if_pos rfl] at c
   have a:aI ms m ah i (w :: ws)=linked ms m ah (4 * (i:Int)) w :: aI ms m ah (i+1) ws:=by
    show (if address m ah (4 * (i:Int)) < address m ah (4 * (i:Int)+4) then _ else _)=_
    rw [if_pos]
    rw [e4,h0,h1,c]
    omega
   rw [a]
   refine ⟨?_,fun n hn hs=>?_⟩
   ·rw [iE,q.1,il]
    omega
   ·cases n with
    | zero =>
     have z:cn st (i+0) - cn st i=0:=Nat.sub_self _
     rw [z]
     rfl
    | succ n =>
     have m2:=qP st (i+1) n
     have:=q.2 n (by simpa using hn) (by rw [show i+1+n=i+(n+1) by omega]; exact hs)
     rw [show i+(n+1)=i+1+n by omega,show cn st (i+1+n) - cn st i=(cn st (i+1+n) - cn st (i+1))+1 by omega,bG,this]
     rfl
  ·rw [if_neg s] at c
   have a:aI ms m ah i (w :: ws)=aI ms m ah (i+1) ws:=by
    show (if address m ah (4 * (i:Int)) < address m ah (4 * (i:Int)+4) then _ else _)=_
    rw [if_neg]
    rw [e4,h0,h1,c]
    omega
   rw [a]
   refine ⟨?_,fun n hn hs=>?_⟩
   ·rw [q.1,il]
    omega
   ·cases n with
    | zero=>exact absurd hs s
    | succ n =>
     have:=q.2 n (by simpa using hn) (by rw [show i+1+n=i+(n+1) by omega]; exact hs)
     rw [show i+(n+1)=i+1+n by omega,show cn st (i+1+n) - cn st i=cn st (i+1+n) - cn st (i+1) by omega,this]
     rfl
theorem ku (ps:List Int) (n:Nat):placeOf ps (4 * (n:Int))=ps.getD n 0:=by
 have e:Int.tdiv (4 * (n:Int)) 4=n:=by rw [Int.tdiv_eq_ediv_of_nonneg (by omega)]; omega
 unfold placeOf
 rw [e,if_neg (by omega)]
 rfl
theorem kM (a:Int) (h0:0<=a) (h1:a<=1125899906842624) (h4:a % 4=0):rup a 4=a:=by
 rw [Xe a 4 h0 h1 (.inl rfl)]
 omega
end Ln
namespace Bd
def head:List UInt8:=[46,103,108,111,98,108,32,95,115,116,97,114,116,10,95,115,116,97,114,116,58,32,108,105,32,120,49,48,44,48,10]
def call:List UInt8:=[99,97,108,108,32,102,10]
def aF:List UInt8:=[46,97,108,105,103,110,32,51,10,97,100,100,105,32,120,49,48,44,120,49,48,44,49,48,48,10]
def over:List UInt8:=[106,32,111,118,101,114,10,46,97,108,105,103,110,32,52,10,111,118,101,114,58,32,108,97,32,120,49,49,44,111,118,101,114,10,97,110,100,105,32,120,49,49,44,120,49,49,44,49,53,10,97,100,100,32,120,49,48,44,120,49,48,44,120,49,49,10]
def finish:List UInt8:=[108,105,32,120,49,55,44,49,10,101,99,97,108,108,10,108,105,32,120,49,48,44,48,10,108,105,32,120,49,55,44,48,10,101,99,97,108,108,10]
def far:List UInt8:=[46,102,97,114,10]
def text (j:Nat):Nat->List UInt8
 | 0=>head
 | i+1=>if i % 4=j then text j i ++ call ++ aF else text j i ++ call
def main (k j:Nat) (f:Bool):List UInt8:=if f then far ++ (text j k ++ over) ++ finish else (text j k ++ over) ++ finish
def want (j k:Nat):Nat->Int
 | 0=>k
 | i+1=>if i % 4=j then want j k i+100 else want j k i
def one:List UInt8:=[110,111,112,10,46,102,97,114,10,110,111,112,10]
def three:List UInt8:=[102,58,32,97,100,100,105,32,120,49,48,44,120,49,48,44,49,10,114,101,116,10,46,103,108,111,98,108,32,102,10]
end Bd
def Kr (t:List UInt8):Bool:=decide ((As.assemble t).1.1=0) && Qt (As.assemble t).2
def WT (k j:Nat) (f:Bool):Prop:=Kr (Bd.main k j f)=true/\Gg (Ln.bD [(false,[(As.assemble Bd.one).2]),(false,[(As.assemble (Bd.main k j f)).2]),(false,[(As.assemble Bd.three).2])]) 4096 65536 131072 [] [Bd.want j k k] 0
instance (k j:Nat) (f:Bool):Decidable (WT k j f):=by unfold WT; infer_instance
namespace Ca
def calls (k:Nat):List UInt8:=(List.replicate k ([99,97,108,108,32,102,10]:List UInt8)).flatten
def main (k:Nat):List UInt8:=[46,103,108,111,98,108,32,95,115,116,97,114,116,10,95,115,116,97,114,116,58,32,108,105,32,120,49,48,44,48,10] ++ calls k ++ [108,105,32,120,49,55,44,49,10,101,99,97,108,108,10,108,105,32,120,49,48,44,48,10,108,105,32,120,49,55,44,48,10,101,99,97,108,108,10]
def far:List UInt8:=[46,102,97,114,10,46,103,108,111,98,108,32,102,10,102,58,32,97,100,100,105,32,120,49,48,44,120,49,48,44,49,10,114,101,116,10]
def cu (k:Nat):Lk.Obj:=(As.assemble (main k)).2
def kG:Lk.Obj:=(As.assemble far).2
def ws (k:Nat):List Int:=1299 :: ((List.replicate k ([151,32999]:List Int)).flatten ++ [1050771,115,1299,2195,115])
def Gz (r:Lk.Rel):Int×Int×Int×Int×Int:=(r.ah,r.off,r.kind,r.sym,r.addend)
def rel (i:Nat):Lk.Rel:=⟨1,4+8 * (i:Int),4,1,0⟩
def obs (k:Nat):List Lk.Obj:=[cu k,kG]
def Ng (k:Nat):Prop:=((cu k).text=ws k/\(cu k).far=[]/\(cu k).data=[]/\(cu k).bss=0/\(cu k).align=[2,2,2,2])/\(cu k).aj.map Gz=(List.range k).map (fun i=>Gz (rel i))
def Nh (k:Nat):Prop:=(Ln.bJ (obs k)).e=0/\((Ln.named (obs k) Ln.dU).mod=some 0/\(Ln.named (obs k) Ln.dU).ah=1/\(Ln.named (obs k) Ln.dU).off=0)
def Ni (k:Nat):Prop:=k=0\/(((cu k).syms.map (Ln.meaning (obs k) 0)).length=2/\(((cu k).syms.map (Ln.meaning (obs k) 0)).getD 1 Ln.none_).mod=some 1/\(((cu k).syms.map (Ln.meaning (obs k) 0)).getD 1 Ln.none_).ah=2/\(((cu k).syms.map (Ln.meaning (obs k) 0)).getD 1 Ln.none_).off=0)
def Nj (k:Nat):Prop:=∀ n,n < 2 * k+6->((Ln.aM 1 (4 * (n:Int)) 0 (cu k).aj).1=if n=0\/2 * k < n then 0 else ((n - 1) / 2:Nat))/\Gz (Ln.aM 1 (4 * (n:Int)) 0 (cu k).aj).2=if n=0\/2 * k < n then (0,0,0,0,0) else Gz (rel ((n - 1) / 2))
def Nk (k:Nat):Prop:=∀ i,i < k->(yT (cu k) (rel i)).getD 1 0=32999
instance (k:Nat):Decidable (Ng k):=by unfold Ng; infer_instance
instance (k:Nat):Decidable (Nh k):=by unfold Nh; infer_instance
instance (k:Nat):Decidable (Ni k):=by unfold Ni; infer_instance
instance (k:Nat):Decidable (Nj k):=by unfold Nj; infer_instance
instance (k:Nat):Decidable (Nk k):=by unfold Nk; infer_instance
end Ca
theorem Qg:∀ k,k < 20->Kr (Ca.main k)=true:=by decide +kernel
theorem Qf:Kr Ca.far=true:=by decide +kernel
theorem HY:∀ k,k < 20->Ca.Ng k:=by decide +kernel
theorem WZ:∀ k,k < 20->Ca.Nh k:=by decide +kernel
theorem yrk:∀ k,k < 20->Ca.Ni k:=by decide +kernel
theorem Xa:∀ k,k < 20->Ca.Nj k:=by decide +kernel
theorem yrl:∀ k,k < 20->Ca.Nk k:=by decide +kernel
theorem Hz:(Ca.kG.text=[]/\Ca.kG.far=[1377555,32871]/\Ca.kG.data=[]/\Ca.kG.bss=0/\Ca.kG.align=[2,2,2,2])/\Ca.kG.aj.length=0:=by decide +kernel
namespace Ca
def vL (t:Int×Int×Int×Int×Int):Lk.Rel:=⟨t.1,t.2.1,t.2.2.1,t.2.2.2.1,t.2.2.2.2⟩
theorem vI (k:Nat) (h:k < 20):(cu k).aj=(List.range k).map rel:=by
 have h1:=congrArg (List.map vL) (HY k h).2
 rw [List.map_map,List.map_map] at h1
 have e:(vL ∘ Gz)=id:=rfl
 rw [e,List.map_id] at h1
 exact h1
def st (s:List Bool) (k n:Nat):Bool:=if n=0\/2 * k < n then true else if n % 2=1 then true else !(s.getD (n / 2 - 1) false)
theorem wS {r:Lk.Rel} {a b c d e:Int} (h:Gz r=(a,b,c,d,e)):r=⟨a,b,c,d,e⟩:=by
 have:=congrArg vL h
 exact this
theorem y5 (k:Nat) (h:k < 20) (n:Nat) (hn:n < 2 * k+6) (c:n=0\/2 * k < n):Ln.aM 1 (4 * (n:Int)) 0 (cu k).aj=(0,⟨0,0,0,0,0⟩):=by
 obtain ⟨h1,h2⟩:=Xa k h n hn
 rw [if_pos c] at h1 h2
 have:=wS h2
 generalize Ln.aM 1 (4 * (n:Int)) 0 (cu k).aj=q at *
 obtain ⟨i,r⟩:=q
 simp only at h1 this
 rw [h1,this]
 rfl
theorem uX (k:Nat) (h:k < 20) (n:Nat) (hn:n < 2 * k+6) (c:¬ (n=0\/2 * k < n)):Ln.aM 1 (4 * (n:Int)) 0 (cu k).aj=((((n - 1) / 2:Nat):Int),rel ((n - 1) / 2)):=by
 obtain ⟨h1,h2⟩:=Xa k h n hn
 rw [if_neg c] at h1 h2
 have:=congrArg vL h2
 generalize Ln.aM 1 (4 * (n:Int)) 0 (cu k).aj=q at *
 obtain ⟨i,r⟩:=q
 have e:r=rel ((n - 1) / 2):=this
 simp only at h1
 rw [h1,e]
theorem zZ (m:Ln.Mod) (k:Nat) (h:k < 20) (hm:m.obj=cu k) (n:Nat) (hn:n < 2 * k+6) (a:Int):Ln.stays m 1 (4 * (n:Int)) a=st m.short k n:=by
 unfold Ln.stays st
 rw [hm]
 by_cases c:n=0\/2 * k < n
 ·rw [y5 k h n hn c,if_pos c]
  rfl
 ·rw [uX k h n hn c,if_neg c]
  show (decide (4 * (n:Int)=4+8 * (((n - 1) / 2:Nat):Int)) || !Ln.bY m.short (((n - 1) / 2:Nat):Int))=_
  by_cases p:n % 2=1
  ·rw [if_pos p,decide_eq_true (by omega)]
   rfl
  ·rw [if_neg p,decide_eq_false (by omega)]
   unfold Ln.bY
   rw [decide_eq_true (by omega),Int.toNat_natCast,show (n - 1) / 2=n / 2 - 1 by omega]
   rfl
theorem iy (k:Nat):(ws k).length=2 * k+6:=by
 unfold ws
 simp
 omega
theorem qZ:kG.aj=[]:=List.length_eq_zero_iff.1 Hz.2
structure Laid (k:Nat) (F:Int) (s:List Bool) (A B:Ln.Mod):Prop where
 mJ:A.obj=cu k
 zL:A.means=(cu k).syms.map (Ln.meaning (obs k) 0)
 rH:A.short=s
 JL:∀ n,n<=2 * k+6->A.text.getD n 0=4096+4 * (Ln.cn (st s k) n:Int)
 N7:A.far.getD 0 0=F
 Jh:A.data=16777216
 iY:B.obj=kG
 JM:B.text.getD 0 0=4096+4 * (Ln.cn (st s k) (2 * k+6):Int)
 N8:∀ n,n<=2->B.far.getD n 0=F+4 * (n:Int)
 Ji:B.data=16777216
theorem y9 (n:Nat):Ln.cn (fun _=>true) n=n:=by
 induction n with
 | zero=>rfl
 | succ n ih=>unfold Ln.cn; rw [ih]; rfl
theorem ig {o:Lk.Obj} (h:o.align=[2,2,2,2]) (n:Nat) (hn:1<=n/\n<=4):Ln.aF o n=4:=by
 unfold Ln.aF
 rw [h]
 rcases (show n=1\/n=2\/n=3\/n=4 by omega) with rfl | rfl | rfl | rfl <;> rfl
theorem vk (k:Nat) (h:k < 20) (F:Int) (Ye:0<=F) (hF1:F<=1073741824) (Yf:F % 4=0) (a b:Ln.Mod) (ha:a.obj=cu k) (hm:a.means=(cu k).syms.map (Ln.meaning (obs k) 0)) (hb:b.obj=kG) :
  ∃ A B,Ln.lay 4096 F 16777216 [a,b]=[A,B]/\Laid k F a.short A B:=by
 obtain ⟨⟨t1,t2,t3,t4,t5⟩,-⟩:=HY k h
 obtain ⟨⟨u1,u2,u3,u4,u5⟩,-⟩:=Hz
 have Tp:yp a.obj 1=ws k:=by rw [ha]; exact t1
 have Tq:yp a.obj 2=[]:=by rw [ha]; exact t2
 have YW:yp b.obj 1=[]:=by rw [hb]; exact u1
 have YX:yp b.obj 2=[1377555,32871]:=by rw [hb]; exact u2
 have ba:∀ n,1<=n/\n<=4->Ln.aF a.obj n=4:=fun n hn=>ig (by rw [ha]; exact t5) n hn
 have bb:∀ n,1<=n/\n<=4->Ln.aF b.obj n=4:=fun n hn=>ig (by rw [hb]; exact u5) n hn
 have q:=Ln.qK a 1 (st a.short k) 4096 (ws k) 0 (fun n hn x=>by
  rw [Nat.zero_add]
  exact zZ a k h ha n (by rw [iy] at hn; exact hn) x)
 have z:(4096:Int)+4 * (Ln.cn (st a.short k) 0:Int)=4096:=rfl
 rw [z,iy] at q
 have q2:=Ln.qK b 2 (fun _=>true) F [1377555,32871] 0 (fun n hn x=>by
  unfold Ln.stays
  rw [hb,qZ]
  rfl)
 have z2:F+4 * (Ln.cn (fun _=>true) 0:Int)=F:=by show F+4 * ((0:Nat):Int)=F; omega
 rw [z2] at q2
 have c1:=Ln.qD (st a.short k) (2 * k+6)
 have r1:Ln.rup 4096 4=4096:=Ln.kM 4096 (by omega) (by omega) (by omega)
 have r2:Ln.rup F 4=F:=Ln.kM F Ye (by omega) Yf
 have r3:Ln.rup 16777216 4=16777216:=Ln.kM 16777216 (by omega) (by omega) (by omega)
 have YO:Ln.aG a 1 4096=Ln.aL a 1 0 (ws k) 4096:=by unfold Ln.aG Ln.begin_; rw [ba 1 (by omega),r1]; show Ln.aL a 1 0 (yp a.obj 1) 4096=_; rw [Tp]
 have YP:Ln.aG a 2 F=[F]:=by unfold Ln.aG Ln.begin_; rw [ba 2 (by omega),r2]; show Ln.aL a 2 0 (yp a.obj 2) F=_; rw [Tq]; rfl
 have Yb:Ln.bF a 1 4096=4096+4 * (Ln.cn (st a.short k) (2 * k+6):Int):=by unfold Ln.bF Ln.begin_; rw [ba 1 (by omega),r1]; show Ln.bR a 1 0 (yp a.obj 1) 4096=_; rw [Tp,q.2.2,Nat.zero_add]
 have Yc:Ln.bF a 2 F=F:=by unfold Ln.bF Ln.begin_; rw [ba 2 (by omega),r2]; show Ln.bR a 2 0 (yp a.obj 2) F=_; rw [Tq]; rfl
 have YQ:Ln.aG b 1 (Ln.bF a 1 4096)=[4096+4 * (Ln.cn (st a.short k) (2 * k+6):Int)]:=by unfold Ln.aG Ln.begin_; rw [Yb,bb 1 (by omega),Ln.kM _ (by omega) (by omega) (by omega)]; show Ln.aL b 1 0 (yp b.obj 1) _=_; rw [YW]; rfl
 have YR:Ln.aG b 2 (Ln.bF a 2 F)=Ln.aL b 2 0 [1377555,32871] F:=by unfold Ln.aG Ln.begin_; rw [Yc,bb 2 (by omega),r2]; show Ln.aL b 2 0 (yp b.obj 2) F=_; rw [YX]
 refine ⟨_,_,rfl,⟨ha,hm,rfl,fun n hn=>?_,?_,?_,hb,?_,fun n hn=>?_,?_⟩⟩
 ·show (Ln.aG a 1 4096).getD n 0=_
  rw [YO,q.1 n hn,Nat.zero_add]
 ·show (Ln.aG a 2 F).getD 0 0=_
  rw [YP]
  rfl
 ·show Ln.rup 16777216 (Ln.aF a.obj 3)=_
  rw [ba 3 (by omega),r3]
 ·show (Ln.aG b 1 (Ln.bF a 1 4096)).getD 0 0=_
  rw [YQ]
  rfl
 ·show (Ln.aG b 2 (Ln.bF a 2 F)).getD n 0=_
  rw [YR,q2.1 n (by simpa using hn),y9,Nat.zero_add]
 ·show Ln.rup (Ln.rup 16777216 (Ln.aF a.obj 3)+4 * (a.obj.data.length:Int)) (Ln.aF b.obj 3)=_
  rw [ba 3 (by omega),bb 3 (by omega),r3,ha,t3]
  exact r3
end Ca
end Go.Proofs.YtpgklkhgfcjceaaGreatDoor
