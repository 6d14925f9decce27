/- Walks over package machine: what an instruction does; orders that are drawn. -/
/- Walks over package machine: a step. -/
/- Walks: Run, whatever is handed in. -/
/- Walks: Run of a machine. -/
/- Weakly: the plain side. -/
/- Bordered: the plain side. -/
/- Archived: the plain side. -/
/- Packing, running: what the keeps call. -/
/- Archived: what it calls. -/
/- Archived: a choice of some. -/
/- Bordered: all that is run. -/
/- Bordered: the walk. -/
/- Weakly: the walk. -/
import Derived.Test.YtnfgdlkiialnnaaGreatDoorU14
import Derived.Test.YtnfgdlkiialnnaaGreatDoorU25
import Derived.Test.YtnfgdlkiialnnaaGreatDoorU24
import Derived.Test.YtnfgdlkiialnnaaGreatDoorU09
set_option maxHeartbeats 16000000
namespace Go.Proofs.YtnfgdlkiialnnaaGreatDoor
open Go.RowKit
set_option maxRecDepth 100000 in
theorem yqw (W0:World) (b g:Nat) (ai:Option Addr) (ci:Nat) (ins:List Int) (st:Mc.St) (vd vo:Value) (m:Im.Img) (op rd rs1 rs2 n:Int) (W:World) (hpre:yat W0 b g ai ci ins st vd vo m rd rs1 rs2 n W) (hop:op=18) :
  Calls Tryz.prog 88 #[.pointer (some ⟨b,0,none⟩),insV op rd rs1 rs2 n] W fun e W'=>e = .returned (.tuple #[])/\yad W0 b g (.slice ai ins.length ci) (Mc.doIt m ins op rd rs1 rs2 n st) W':=by
 obtain ⟨h,hI,hT,hin,hl,d0,s1,s2,hn⟩:=hpre
 have HA:=hid (h.grown (ysE W (.cells #[.int .i64 op,.int .i64 rd,.int .i64 rs1,.int .i64 rs2,.int .i64 n] 147) none))
 have NE:=hid (show W.heap.size≠b from fun e=>by have:=h.blk.lt; omega)
 have IC:=hid (insC W (.int .i64 op) (.int .i64 rd) (.int .i64 rs1) (.int .i64 rs2) (.int .i64 n))
 have r1:=hid (fun W hW=>yj W0 b g (.slice ai ins.length ci) st vd vo rs1 W hW s1.1 s1.2)
 have r2:=hid (fun W hW=>yj W0 b g (.slice ai ins.length ci) st vd vo rs2 W hW s2.1 s2.2)
 have q1:=ym h.ok rs1
 have q2:=ym h.ok rs2
 have hp:=h.ok.pc
 obtain ⟨X,hX⟩:∃ X,X=Mc.doIt m ins op rd rs1 rs2 n st:=⟨_,rfl⟩
 rw [<- hX]
 have RX:=hid hX
 clear hX
 unfold insV
 subst hop
 replace RX:=hid (show X=Mc.set rd (Mc.computed 18 (Mc.reg st rs1) (Mc.reg st rs2)) st from RX.o)
 generalize Mc.reg st rs1=a at *
 generalize Mc.reg st rs2=bb at *
 have cC:=hid (fun W=>yao 18 a bb W q1.1 q1.2 q2.1 q2.2 (by omega))
 have cS:=hid (fun v W hW=>ybh W0 b g (.slice ai ins.length ci) st vd vo rd v W hW d0.1 d0.2)
 clear h hI hT hin
 go_enter Tryz.func88,Tryz.ntmps88
 go_wp2_with fail
 generalize W.alloc (.cells #[.int .i64 18,.int .i64 rd,.int .i64 rs1,.int .i64 rs2,.int .i64 n] 147)=V at *
 generalize W.heap.size=ib at *
 obtain ⟨i0,i1,i2,i3,i4⟩:=IC.o
 refine (r1.o _ HA.o).mono ?_
 rintro e V1 ⟨rfl,hV⟩
 subst hV
 go_wp2_with fail
 refine (r2.o _ HA.o).mono ?_
 rintro e V1 ⟨rfl,hV⟩
 subst hV
 have HD:=hid (HA.o.grown (ye (World.grownBy.refl _ none) 1))
 have c35:=HA.o.c.2.2.2.1
 go_wp2
 go_region_with (first | (go_at_call 130; refine (cC.o _).mono ?_; rintro e w' ⟨rfl,rfl⟩) | (go_at_call 124; refine (cS.o _ _ HD.o).mono ?_; rintro e w' ⟨rfl,h2⟩))
 all_goals
  have H2:=hid h2
  clear h2
  go_wp2
  go_end0
  rw [RX.o]
  exact ⟨rfl,_,_,H2.o⟩
set_option maxRecDepth 100000 in
theorem yqx (W0:World) (b g:Nat) (ai:Option Addr) (ci:Nat) (ins:List Int) (st:Mc.St) (vd vo:Value) (m:Im.Img) (op rd rs1 rs2 n:Int) (W:World) (hpre:yat W0 b g ai ci ins st vd vo m rd rs1 rs2 n W) (hop:op=19) :
  Calls Tryz.prog 88 #[.pointer (some ⟨b,0,none⟩),insV op rd rs1 rs2 n] W fun e W'=>e = .returned (.tuple #[])/\yad W0 b g (.slice ai ins.length ci) (Mc.doIt m ins op rd rs1 rs2 n st) W':=by
 obtain ⟨h,hI,hT,hin,hl,d0,s1,s2,hn⟩:=hpre
 have HA:=hid (h.grown (ysE W (.cells #[.int .i64 op,.int .i64 rd,.int .i64 rs1,.int .i64 rs2,.int .i64 n] 147) none))
 have NE:=hid (show W.heap.size≠b from fun e=>by have:=h.blk.lt; omega)
 have IC:=hid (insC W (.int .i64 op) (.int .i64 rd) (.int .i64 rs1) (.int .i64 rs2) (.int .i64 n))
 have r1:=hid (fun W hW=>yj W0 b g (.slice ai ins.length ci) st vd vo rs1 W hW s1.1 s1.2)
 have r2:=hid (fun W hW=>yj W0 b g (.slice ai ins.length ci) st vd vo rs2 W hW s2.1 s2.2)
 have q1:=ym h.ok rs1
 have q2:=ym h.ok rs2
 have hp:=h.ok.pc
 obtain ⟨X,hX⟩:∃ X,X=Mc.doIt m ins op rd rs1 rs2 n st:=⟨_,rfl⟩
 rw [<- hX]
 have RX:=hid hX
 clear hX
 unfold insV
 subst hop
 replace RX:=hid (show X=Mc.set rd (Mc.computed 19 (Mc.reg st rs1) (Mc.reg st rs2)) st from RX.o)
 generalize Mc.reg st rs1=a at *
 generalize Mc.reg st rs2=bb at *
 have cC:=hid (fun W=>yao 19 a bb W q1.1 q1.2 q2.1 q2.2 (by omega))
 have cS:=hid (fun v W hW=>ybh W0 b g (.slice ai ins.length ci) st vd vo rd v W hW d0.1 d0.2)
 clear h hI hT hin
 go_enter Tryz.func88,Tryz.ntmps88
 go_wp2_with fail
 generalize W.alloc (.cells #[.int .i64 19,.int .i64 rd,.int .i64 rs1,.int .i64 rs2,.int .i64 n] 147)=V at *
 generalize W.heap.size=ib at *
 obtain ⟨i0,i1,i2,i3,i4⟩:=IC.o
 refine (r1.o _ HA.o).mono ?_
 rintro e V1 ⟨rfl,hV⟩
 subst hV
 go_wp2_with fail
 refine (r2.o _ HA.o).mono ?_
 rintro e V1 ⟨rfl,hV⟩
 subst hV
 have HD:=hid (HA.o.grown (ye (World.grownBy.refl _ none) 1))
 have c35:=HA.o.c.2.2.2.1
 go_wp2
 go_region_with (first | (go_at_call 130; refine (cC.o _).mono ?_; rintro e w' ⟨rfl,rfl⟩) | (go_at_call 124; refine (cS.o _ _ HD.o).mono ?_; rintro e w' ⟨rfl,h2⟩))
 all_goals
  have H2:=hid h2
  clear h2
  go_wp2
  go_end0
  rw [RX.o]
  exact ⟨rfl,_,_,H2.o⟩
set_option maxRecDepth 100000 in
theorem yqy (W0:World) (b g:Nat) (ai:Option Addr) (ci:Nat) (ins:List Int) (st:Mc.St) (vd vo:Value) (m:Im.Img) (op rd rs1 rs2 n:Int) (W:World) (hpre:yat W0 b g ai ci ins st vd vo m rd rs1 rs2 n W) (hop:op=20) :
  Calls Tryz.prog 88 #[.pointer (some ⟨b,0,none⟩),insV op rd rs1 rs2 n] W fun e W'=>e = .returned (.tuple #[])/\yad W0 b g (.slice ai ins.length ci) (Mc.doIt m ins op rd rs1 rs2 n st) W':=by
 obtain ⟨h,hI,hT,hin,hl,d0,s1,s2,hn⟩:=hpre
 have HA:=hid (h.grown (ysE W (.cells #[.int .i64 op,.int .i64 rd,.int .i64 rs1,.int .i64 rs2,.int .i64 n] 147) none))
 have NE:=hid (show W.heap.size≠b from fun e=>by have:=h.blk.lt; omega)
 have IC:=hid (insC W (.int .i64 op) (.int .i64 rd) (.int .i64 rs1) (.int .i64 rs2) (.int .i64 n))
 have r1:=hid (fun W hW=>yj W0 b g (.slice ai ins.length ci) st vd vo rs1 W hW s1.1 s1.2)
 have r2:=hid (fun W hW=>yj W0 b g (.slice ai ins.length ci) st vd vo rs2 W hW s2.1 s2.2)
 have q1:=ym h.ok rs1
 have q2:=ym h.ok rs2
 have hp:=h.ok.pc
 obtain ⟨X,hX⟩:∃ X,X=Mc.doIt m ins op rd rs1 rs2 n st:=⟨_,rfl⟩
 rw [<- hX]
 have RX:=hid hX
 clear hX
 unfold insV
 subst hop
 replace RX:=hid (show X=Mc.set rd (Mc.computed 20 (Mc.reg st rs1) (Mc.reg st rs2)) st from RX.o)
 generalize Mc.reg st rs1=a at *
 generalize Mc.reg st rs2=bb at *
 have cC:=hid (fun W=>yao 20 a bb W q1.1 q1.2 q2.1 q2.2 (by omega))
 have cS:=hid (fun v W hW=>ybh W0 b g (.slice ai ins.length ci) st vd vo rd v W hW d0.1 d0.2)
 clear h hI hT hin
 go_enter Tryz.func88,Tryz.ntmps88
 go_wp2_with fail
 generalize W.alloc (.cells #[.int .i64 20,.int .i64 rd,.int .i64 rs1,.int .i64 rs2,.int .i64 n] 147)=V at *
 generalize W.heap.size=ib at *
 obtain ⟨i0,i1,i2,i3,i4⟩:=IC.o
 refine (r1.o _ HA.o).mono ?_
 rintro e V1 ⟨rfl,hV⟩
 subst hV
 go_wp2_with fail
 refine (r2.o _ HA.o).mono ?_
 rintro e V1 ⟨rfl,hV⟩
 subst hV
 have HD:=hid (HA.o.grown (ye (World.grownBy.refl _ none) 1))
 have c35:=HA.o.c.2.2.2.1
 go_wp2
 go_region_with (first | (go_at_call 130; refine (cC.o _).mono ?_; rintro e w' ⟨rfl,rfl⟩) | (go_at_call 124; refine (cS.o _ _ HD.o).mono ?_; rintro e w' ⟨rfl,h2⟩))
 all_goals
  have H2:=hid h2
  clear h2
  go_wp2
  go_end0
  rw [RX.o]
  exact ⟨rfl,_,_,H2.o⟩
set_option maxRecDepth 100000 in
theorem yqz (W0:World) (b g:Nat) (ai:Option Addr) (ci:Nat) (ins:List Int) (st:Mc.St) (vd vo:Value) (m:Im.Img) (op rd rs1 rs2 n:Int) (W:World) (hpre:yat W0 b g ai ci ins st vd vo m rd rs1 rs2 n W) (hop:op=21) :
  Calls Tryz.prog 88 #[.pointer (some ⟨b,0,none⟩),insV op rd rs1 rs2 n] W fun e W'=>e = .returned (.tuple #[])/\yad W0 b g (.slice ai ins.length ci) (Mc.doIt m ins op rd rs1 rs2 n st) W':=by
 obtain ⟨h,hI,hT,hin,hl,d0,s1,s2,hn⟩:=hpre
 have HA:=hid (h.grown (ysE W (.cells #[.int .i64 op,.int .i64 rd,.int .i64 rs1,.int .i64 rs2,.int .i64 n] 147) none))
 have NE:=hid (show W.heap.size≠b from fun e=>by have:=h.blk.lt; omega)
 have IC:=hid (insC W (.int .i64 op) (.int .i64 rd) (.int .i64 rs1) (.int .i64 rs2) (.int .i64 n))
 have r1:=hid (fun W hW=>yj W0 b g (.slice ai ins.length ci) st vd vo rs1 W hW s1.1 s1.2)
 have r2:=hid (fun W hW=>yj W0 b g (.slice ai ins.length ci) st vd vo rs2 W hW s2.1 s2.2)
 have q1:=ym h.ok rs1
 have q2:=ym h.ok rs2
 have hp:=h.ok.pc
 obtain ⟨X,hX⟩:∃ X,X=Mc.doIt m ins op rd rs1 rs2 n st:=⟨_,rfl⟩
 rw [<- hX]
 have RX:=hid hX
 clear hX
 unfold insV
 subst hop
 replace RX:=hid (show X=Mc.set rd (Mc.computed 21 (Mc.reg st rs1) (Mc.reg st rs2)) st from RX.o)
 generalize Mc.reg st rs1=a at *
 generalize Mc.reg st rs2=bb at *
 have cC:=hid (fun W=>yao 21 a bb W q1.1 q1.2 q2.1 q2.2 (by omega))
 have cS:=hid (fun v W hW=>ybh W0 b g (.slice ai ins.length ci) st vd vo rd v W hW d0.1 d0.2)
 clear h hI hT hin
 go_enter Tryz.func88,Tryz.ntmps88
 go_wp2_with fail
 generalize W.alloc (.cells #[.int .i64 21,.int .i64 rd,.int .i64 rs1,.int .i64 rs2,.int .i64 n] 147)=V at *
 generalize W.heap.size=ib at *
 obtain ⟨i0,i1,i2,i3,i4⟩:=IC.o
 refine (r1.o _ HA.o).mono ?_
 rintro e V1 ⟨rfl,hV⟩
 subst hV
 go_wp2_with fail
 refine (r2.o _ HA.o).mono ?_
 rintro e V1 ⟨rfl,hV⟩
 subst hV
 have HD:=hid (HA.o.grown (ye (World.grownBy.refl _ none) 1))
 have c35:=HA.o.c.2.2.2.1
 go_wp2
 go_region_with (first | (go_at_call 130; refine (cC.o _).mono ?_; rintro e w' ⟨rfl,rfl⟩) | (go_at_call 124; refine (cS.o _ _ HD.o).mono ?_; rintro e w' ⟨rfl,h2⟩))
 all_goals
  have H2:=hid h2
  clear h2
  go_wp2
  go_end0
  rw [RX.o]
  exact ⟨rfl,_,_,H2.o⟩
set_option maxRecDepth 100000 in
theorem yqA (W0:World) (b g:Nat) (ai:Option Addr) (ci:Nat) (ins:List Int) (st:Mc.St) (vd vo:Value) (m:Im.Img) (op rd rs1 rs2 n:Int) (W:World) (hpre:yat W0 b g ai ci ins st vd vo m rd rs1 rs2 n W) (hop:op=22) :
  Calls Tryz.prog 88 #[.pointer (some ⟨b,0,none⟩),insV op rd rs1 rs2 n] W fun e W'=>e = .returned (.tuple #[])/\yad W0 b g (.slice ai ins.length ci) (Mc.doIt m ins op rd rs1 rs2 n st) W':=by
 obtain ⟨h,hI,hT,hin,hl,d0,s1,s2,hn⟩:=hpre
 have HA:=hid (h.grown (ysE W (.cells #[.int .i64 op,.int .i64 rd,.int .i64 rs1,.int .i64 rs2,.int .i64 n] 147) none))
 have NE:=hid (show W.heap.size≠b from fun e=>by have:=h.blk.lt; omega)
 have IC:=hid (insC W (.int .i64 op) (.int .i64 rd) (.int .i64 rs1) (.int .i64 rs2) (.int .i64 n))
 have r1:=hid (fun W hW=>yj W0 b g (.slice ai ins.length ci) st vd vo rs1 W hW s1.1 s1.2)
 have r2:=hid (fun W hW=>yj W0 b g (.slice ai ins.length ci) st vd vo rs2 W hW s2.1 s2.2)
 have q1:=ym h.ok rs1
 have q2:=ym h.ok rs2
 have hp:=h.ok.pc
 obtain ⟨X,hX⟩:∃ X,X=Mc.doIt m ins op rd rs1 rs2 n st:=⟨_,rfl⟩
 rw [<- hX]
 have RX:=hid hX
 clear hX
 unfold insV
 subst hop
 replace RX:=hid (show X=Mc.set rd (Mc.computed 22 (Mc.reg st rs1) (Mc.reg st rs2)) st from RX.o)
 generalize Mc.reg st rs1=a at *
 generalize Mc.reg st rs2=bb at *
 have cC:=hid (fun W=>yao 22 a bb W q1.1 q1.2 q2.1 q2.2 (by omega))
 have cS:=hid (fun v W hW=>ybh W0 b g (.slice ai ins.length ci) st vd vo rd v W hW d0.1 d0.2)
 clear h hI hT hin
 go_enter Tryz.func88,Tryz.ntmps88
 go_wp2_with fail
 generalize W.alloc (.cells #[.int .i64 22,.int .i64 rd,.int .i64 rs1,.int .i64 rs2,.int .i64 n] 147)=V at *
 generalize W.heap.size=ib at *
 obtain ⟨i0,i1,i2,i3,i4⟩:=IC.o
 refine (r1.o _ HA.o).mono ?_
 rintro e V1 ⟨rfl,hV⟩
 subst hV
 go_wp2_with fail
 refine (r2.o _ HA.o).mono ?_
 rintro e V1 ⟨rfl,hV⟩
 subst hV
 have HD:=hid (HA.o.grown (ye (World.grownBy.refl _ none) 1))
 have c35:=HA.o.c.2.2.2.1
 go_wp2
 go_region_with (first | (go_at_call 130; refine (cC.o _).mono ?_; rintro e w' ⟨rfl,rfl⟩) | (go_at_call 124; refine (cS.o _ _ HD.o).mono ?_; rintro e w' ⟨rfl,h2⟩))
 all_goals
  have H2:=hid h2
  clear h2
  go_wp2
  go_end0
  rw [RX.o]
  exact ⟨rfl,_,_,H2.o⟩
set_option maxRecDepth 100000 in
theorem yqB (W0:World) (b g:Nat) (ai:Option Addr) (ci:Nat) (ins:List Int) (st:Mc.St) (vd vo:Value) (m:Im.Img) (op rd rs1 rs2 n:Int) (W:World) (hpre:yat W0 b g ai ci ins st vd vo m rd rs1 rs2 n W) (hop:op=23) :
  Calls Tryz.prog 88 #[.pointer (some ⟨b,0,none⟩),insV op rd rs1 rs2 n] W fun e W'=>e = .returned (.tuple #[])/\yad W0 b g (.slice ai ins.length ci) (Mc.doIt m ins op rd rs1 rs2 n st) W':=by
 obtain ⟨h,hI,hT,hin,hl,d0,s1,s2,hn⟩:=hpre
 have HA:=hid (h.grown (ysE W (.cells #[.int .i64 op,.int .i64 rd,.int .i64 rs1,.int .i64 rs2,.int .i64 n] 147) none))
 have NE:=hid (show W.heap.size≠b from fun e=>by have:=h.blk.lt; omega)
 have IC:=hid (insC W (.int .i64 op) (.int .i64 rd) (.int .i64 rs1) (.int .i64 rs2) (.int .i64 n))
 have r1:=hid (fun W hW=>yj W0 b g (.slice ai ins.length ci) st vd vo rs1 W hW s1.1 s1.2)
 have r2:=hid (fun W hW=>yj W0 b g (.slice ai ins.length ci) st vd vo rs2 W hW s2.1 s2.2)
 have q1:=ym h.ok rs1
 have q2:=ym h.ok rs2
 have hp:=h.ok.pc
 obtain ⟨X,hX⟩:∃ X,X=Mc.doIt m ins op rd rs1 rs2 n st:=⟨_,rfl⟩
 rw [<- hX]
 have RX:=hid hX
 clear hX
 unfold insV
 subst hop
 replace RX:=hid (show X=Mc.set rd (Mc.computed 23 (Mc.reg st rs1) (Mc.reg st rs2)) st from RX.o)
 generalize Mc.reg st rs1=a at *
 generalize Mc.reg st rs2=bb at *
 have cC:=hid (fun W=>yao 23 a bb W q1.1 q1.2 q2.1 q2.2 (by omega))
 have cS:=hid (fun v W hW=>ybh W0 b g (.slice ai ins.length ci) st vd vo rd v W hW d0.1 d0.2)
 clear h hI hT hin
 go_enter Tryz.func88,Tryz.ntmps88
 go_wp2_with fail
 generalize W.alloc (.cells #[.int .i64 23,.int .i64 rd,.int .i64 rs1,.int .i64 rs2,.int .i64 n] 147)=V at *
 generalize W.heap.size=ib at *
 obtain ⟨i0,i1,i2,i3,i4⟩:=IC.o
 refine (r1.o _ HA.o).mono ?_
 rintro e V1 ⟨rfl,hV⟩
 subst hV
 go_wp2_with fail
 refine (r2.o _ HA.o).mono ?_
 rintro e V1 ⟨rfl,hV⟩
 subst hV
 have HD:=hid (HA.o.grown (ye (World.grownBy.refl _ none) 1))
 have c35:=HA.o.c.2.2.2.1
 go_wp2
 go_region_with (first | (go_at_call 130; refine (cC.o _).mono ?_; rintro e w' ⟨rfl,rfl⟩) | (go_at_call 124; refine (cS.o _ _ HD.o).mono ?_; rintro e w' ⟨rfl,h2⟩))
 all_goals
  have H2:=hid h2
  clear h2
  go_wp2
  go_end0
  rw [RX.o]
  exact ⟨rfl,_,_,H2.o⟩
set_option maxRecDepth 100000 in
theorem yqC (W0:World) (b g:Nat) (ai:Option Addr) (ci:Nat) (ins:List Int) (st:Mc.St) (vd vo:Value) (m:Im.Img) (op rd rs1 rs2 n:Int) (W:World) (hpre:yat W0 b g ai ci ins st vd vo m rd rs1 rs2 n W) (hop:op=24) :
  Calls Tryz.prog 88 #[.pointer (some ⟨b,0,none⟩),insV op rd rs1 rs2 n] W fun e W'=>e = .returned (.tuple #[])/\yad W0 b g (.slice ai ins.length ci) (Mc.doIt m ins op rd rs1 rs2 n st) W':=by
 obtain ⟨h,hI,hT,hin,hl,d0,s1,s2,hn⟩:=hpre
 have HA:=hid (h.grown (ysE W (.cells #[.int .i64 op,.int .i64 rd,.int .i64 rs1,.int .i64 rs2,.int .i64 n] 147) none))
 have NE:=hid (show W.heap.size≠b from fun e=>by have:=h.blk.lt; omega)
 have IC:=hid (insC W (.int .i64 op) (.int .i64 rd) (.int .i64 rs1) (.int .i64 rs2) (.int .i64 n))
 have r1:=hid (fun W hW=>yj W0 b g (.slice ai ins.length ci) st vd vo rs1 W hW s1.1 s1.2)
 have r2:=hid (fun W hW=>yj W0 b g (.slice ai ins.length ci) st vd vo rs2 W hW s2.1 s2.2)
 have q1:=ym h.ok rs1
 have q2:=ym h.ok rs2
 have hp:=h.ok.pc
 obtain ⟨X,hX⟩:∃ X,X=Mc.doIt m ins op rd rs1 rs2 n st:=⟨_,rfl⟩
 rw [<- hX]
 have RX:=hid hX
 clear hX
 unfold insV
 subst hop
 replace RX:=hid (show X=Mc.set rd (Mc.computed 24 (Mc.reg st rs1) (Mc.reg st rs2)) st from RX.o)
 generalize Mc.reg st rs1=a at *
 generalize Mc.reg st rs2=bb at *
 have cC:=hid (fun W=>yao 24 a bb W q1.1 q1.2 q2.1 q2.2 (by omega))
 have cS:=hid (fun v W hW=>ybh W0 b g (.slice ai ins.length ci) st vd vo rd v W hW d0.1 d0.2)
 clear h hI hT hin
 go_enter Tryz.func88,Tryz.ntmps88
 go_wp2_with fail
 generalize W.alloc (.cells #[.int .i64 24,.int .i64 rd,.int .i64 rs1,.int .i64 rs2,.int .i64 n] 147)=V at *
 generalize W.heap.size=ib at *
 obtain ⟨i0,i1,i2,i3,i4⟩:=IC.o
 refine (r1.o _ HA.o).mono ?_
 rintro e V1 ⟨rfl,hV⟩
 subst hV
 go_wp2_with fail
 refine (r2.o _ HA.o).mono ?_
 rintro e V1 ⟨rfl,hV⟩
 subst hV
 have HD:=hid (HA.o.grown (ye (World.grownBy.refl _ none) 1))
 have c35:=HA.o.c.2.2.2.1
 go_wp2
 go_region_with (first | (go_at_call 130; refine (cC.o _).mono ?_; rintro e w' ⟨rfl,rfl⟩) | (go_at_call 124; refine (cS.o _ _ HD.o).mono ?_; rintro e w' ⟨rfl,h2⟩))
 all_goals
  have H2:=hid h2
  clear h2
  go_wp2
  go_end0
  rw [RX.o]
  exact ⟨rfl,_,_,H2.o⟩
theorem yrA (W0:World) (b g:Nat) (ai:Option Addr) (ci:Nat) (ins:List Int) (st:Mc.St) (vd vo:Value) (m:Im.Img) (op rd rs1 rs2 n:Int) (W:World) (hpre:yat W0 b g ai ci ins st vd vo m rd rs1 rs2 n W) (hop:0<=op/\op<=25) :
  Calls Tryz.prog 88 #[.pointer (some ⟨b,0,none⟩),insV op rd rs1 rs2 n] W fun e W'=>e = .returned (.tuple #[])/\yad W0 b g (.slice ai ins.length ci) (Mc.doIt m ins op rd rs1 rs2 n st) W':=by
 rcases (show op=0\/op=1\/op=2\/op=3\/op=4\/op=5\/op=6\/op=7\/op=8\/op=9\/op=10\/op=11\/op=12\/op=13\/op=14\/op=15\/op=16\/op=17\/op=18\/op=19\/op=20\/op=21\/op=22\/op=23\/op=24\/op=25 by omega) with
  e | e | e | e | e | e | e | e | e | e | e | e | e | e | e | e | e | e | e | e | e | e | e | e | e | e
 ·exact yqv W0 b g ai ci ins st vd vo m op rd rs1 rs2 n W hpre e
 ·exact yrH W0 b g ai ci ins st vd vo m op rd rs1 rs2 n W hpre e
 ·exact yoJ W0 b g ai ci ins st vd vo m op rd rs1 rs2 n W hpre e
 ·exact yrG W0 b g ai ci ins st vd vo m op rd rs1 rs2 n W hpre e
 ·exact yqu W0 b g ai ci ins st vd vo m op rd rs1 rs2 n W hpre e
 ·exact yrB W0 b g ai ci ins st vd vo m op rd rs1 rs2 n W hpre e
 ·exact yrC W0 b g ai ci ins st vd vo m op rd rs1 rs2 n W hpre e
 ·exact yrD W0 b g ai ci ins st vd vo m op rd rs1 rs2 n W hpre e
 ·exact yrE W0 b g ai ci ins st vd vo m op rd rs1 rs2 n W hpre e
 ·exact yrF W0 b g ai ci ins st vd vo m op rd rs1 rs2 n W hpre e
 ·exact yqo W0 b g ai ci ins st vd vo m op rd rs1 rs2 n W hpre e
 ·exact ysf W0 b g ai ci ins st vd vo m op rd rs1 rs2 n W hpre e
 ·exact ysg W0 b g ai ci ins st vd vo m op rd rs1 rs2 n W hpre e
 ·exact yqp W0 b g ai ci ins st vd vo m op rd rs1 rs2 n W hpre e
 ·exact yqq W0 b g ai ci ins st vd vo m op rd rs1 rs2 n W hpre e
 ·exact yqr W0 b g ai ci ins st vd vo m op rd rs1 rs2 n W hpre e
 ·exact yqs W0 b g ai ci ins st vd vo m op rd rs1 rs2 n W hpre e
 ·exact yqt W0 b g ai ci ins st vd vo m op rd rs1 rs2 n W hpre e
 ·exact yqw W0 b g ai ci ins st vd vo m op rd rs1 rs2 n W hpre e
 ·exact yqx W0 b g ai ci ins st vd vo m op rd rs1 rs2 n W hpre e
 ·exact yqy W0 b g ai ci ins st vd vo m op rd rs1 rs2 n W hpre e
 ·exact yqz W0 b g ai ci ins st vd vo m op rd rs1 rs2 n W hpre e
 ·exact yqA W0 b g ai ci ins st vd vo m op rd rs1 rs2 n W hpre e
 ·exact yqB W0 b g ai ci ins st vd vo m op rd rs1 rs2 n W hpre e
 ·exact yqC W0 b g ai ci ins st vd vo m op rd rs1 rs2 n W hpre e
 ·exact yoK W0 b g ai ci ins st vd vo m op rd rs1 rs2 n W hpre e
def resZ:Value:=.agg #[.int .i64 0,.int .i64 0,.slice none 0 0,.int .i64 0,.int .i64 0]
set_option maxRecDepth 100000 in
theorem yqL (g:Nat) (ai:Option Addr) (n ci:Nat) (fuel:Int) (w:World) (hl:16 < n) :
  Calls Tryz.prog 40 #[.pointer (some ⟨g,0,none⟩),.slice ai n ci,.int .i64 fuel] w fun e w'=>e = .returned (.tuple #[resZ,.int .i64 40])/\w.grownBy w' none:=by
 have d1:decide ((16:Int) < (n:Int))=true:=by simp; omega
 go_enter Tryz.func40,Tryz.ntmps40
 go_wp2
 refine bodyPost_ret (v:=.tuple #[resZ,.int .i64 40]) ?_ rfl ⟨rfl,ysE w (.cells resC 39) none⟩
 simp [results,Tryz.results40,go_sem,resZ]
set_option maxRecDepth 100000 in
theorem ynX (g:Nat) (ai:Option Addr) (n ci:Nat) (fuel:Int) (w:World) (hl:n<=16) (hf:fuel < 0\/65536 < fuel) :
  Calls Tryz.prog 40 #[.pointer (some ⟨g,0,none⟩),.slice ai n ci,.int .i64 fuel] w fun e w'=>e = .returned (.tuple #[resZ,.int .i64 41])/\w.grownBy w' none:=by
 have d1:decide ((16:Int) < (n:Int))=false:=by simp; omega
 by_cases h0:fuel < 0
 ·have d2:decide (fuel < 0)=true:=by simpa using h0
  clear hf h0
  go_enter Tryz.func40,Tryz.ntmps40
  go_wp2
  refine bodyPost_ret (v:=.tuple #[resZ,.int .i64 41]) ?_ rfl ⟨rfl,ysE w (.cells resC 39) none⟩
  simp [results,Tryz.results40,go_sem,resZ]
 ·have d2:decide (fuel < 0)=false:=by simpa using h0
  have d3:decide ((65536:Int) < fuel)=true:=by simp; omega
  clear hf h0
  go_enter Tryz.func40,Tryz.ntmps40
  go_wp2
  refine bodyPost_ret (v:=.tuple #[resZ,.int .i64 41]) ?_ rfl ⟨rfl,ysE w (.cells resC 39) none⟩
  simp [results,Tryz.results40,go_sem,resZ]
def ylN (W0:World) (m:Im.Img) (ins:List Int) (fuel:Int) (e:Ending) (w':World):Prop :=
 (16 < ins.length/\e = .returned (.tuple #[resZ,.int .i64 40])) \/
 (ins.length<=16/\(fuel < 0\/65536 < fuel)/\e = .returned (.tuple #[resZ,.int .i64 41])) \/
 (ins.length<=16/\0<=fuel/\fuel<=65536/\ynq W0 (Mc.run m ins fuel.toNat) e w')
theorem ynY (g:Nat) (m:Im.Img) (ai:Option Addr) (ci:Nat) (ins:List Int) (fuel:Int) (w:World) (hI:yai w g m) (hT:Im.Tame m) (hD:∀ i,0<=m.D.getD i 0/\m.D.getD i 0 < 4294967296) (hW:Im.Wordy m) (hin:yy w ai ins) (ht:Tabs w) :
  Calls Tryz.prog 40 #[.pointer (some ⟨g,0,none⟩),.slice ai ins.length ci,.int .i64 fuel] w fun e w'=>ylN w m ins fuel e w'/\w.grownBy w' none:=by
 by_cases hl:16 < ins.length
 ·exact (yqL g ai ins.length ci fuel w hl).mono fun e w' k=>⟨.inl ⟨hl,k.1⟩,k.2⟩
 by_cases hf:fuel < 0\/65536 < fuel
 ·exact (ynX g ai ins.length ci fuel w (by omega) hf).mono fun e w' k=>⟨.inr (.inl ⟨by omega,hf,k.1⟩),k.2⟩
 ·obtain ⟨k,rfl⟩:=Int.eq_ofNat_of_zero_le (show 0<=fuel by omega)
  exact (ypj g m ai ci ins k w hI hT hD (by omega) (by omega) hW hin ht (fun W0 b st vd vo op rd rs1 rs2 n W=>yrA W0 b g ai ci ins st vd vo m op rd rs1 rs2 n W)).mono fun e w' q=>⟨.inr (.inr ⟨by omega,by omega,by omega,q.1⟩),q.2⟩
set_option maxRecDepth 100000 in
theorem ykd (x g:Nat) (m:Im.Img) (ai:Option Addr) (ci:Nat) (ins:List Int) (fuel:Int) (w:World) (hx:w.cell? ⟨x,0,none⟩=some (.pointer (some ⟨g,0,none⟩))) (hI:yai w g m) (hT:Im.Tame m) (hD:∀ i,0<=m.D.getD i 0/\m.D.getD i 0 < 4294967296) (hW:Im.Wordy m) (hin:yy w ai ins) (ht:Tabs w) :
  Calls Tryz.prog 26 #[.pointer (some ⟨x,0,none⟩),.slice ai ins.length ci,.int .i64 fuel] w fun e w'=>ylN w m ins fuel e w'/\w.grownBy w' none:=by
 have G0:=hid (ysE w (.cells resC 39) none)
 have R0:=hid (yc.new w resC 39)
 have hsz:(w.alloc (.cells resC 39)).heap.size=w.heap.size+1:=Array.size_push _
 have SZ:=hid hsz
 have c0:=yd hx G0.o
 have cR:=hid (ynY g m ai ci ins fuel (w.alloc (.cells resC 39)) (hI.kept G0.o) hT hD hW (hin.kept (fun a v e=>yd e G0.o)) (ht.grown G0.o))
 unfold resC at G0 R0 c0 cR SZ
 clear hx hI hin ht hsz
 go_enter Tryz.func26,Tryz.ntmps26
 go_wp2_with fail
 refine cR.o.mono ?_
 rintro e V ⟨ht,hg⟩
 have G1:=hid (ya G0.o hg)
 have RV:=hid (R0.o.grown hg (by simp))
 have x0:=RV.o.cell 0
 have x1:=RV.o.cell 1
 have x2:=RV.o.cell 2
 have x3:=RV.o.cell 3
 have x4:=RV.o.cell 4
 simp only [ysz,ysA,ysy] at x0 x1 x2 x3 x4
 have y0:=RV.o.free 0
 have y1:=RV.o.free 1
 have y2:=RV.o.free 2
 have y3:=RV.o.free 3
 have y4:=RV.o.free 4
 clear hg cR c0
 rcases ht with ⟨h1,rfl⟩ | ⟨h1,h2,rfl⟩ | ⟨h1,h2,h3,vo,rfl,ho⟩
 ·have H1:=hid h1
  clear h1
  unfold resZ
  go_wp2
  have RF:=yeM (w:=w) (.int .i64 0) (.int .i64 0) (.slice none 0 0) (.int .i64 0) (.int .i64 0) RV.o (Nat.le_refl _) G1.o (World.ownsRow_nil V 0 3 1) (by simp [Value.ownBlock])
  have h0:=RF.1.cell 0
  have h1:=RF.1.cell 1
  have h2:=RF.1.cell 2
  have h3:=RF.1.cell 3
  have h4:=RF.1.cell 4
  simp only [ysz,ysA,ysy] at h0 h1 h2 h3 h4
  refine bodyPost_ret (v:=.tuple #[resZ,.int .i64 40]) ?_ rfl ⟨.inl ⟨H1.o,rfl⟩,RF.2.1⟩
  clear RF x0 x1 x2 x3 x4 y0 y1 y2 y3 y4
  generalize World.setCell _ _ _=WF at *
  simp [results,Tryz.results26,go_sem,resZ,h0,h1,h2,h3,h4]
 ·have H1:=hid h1
  have H2:=hid h2
  clear h1 h2
  unfold resZ
  go_wp2
  have RF:=yeM (w:=w) (.int .i64 0) (.int .i64 0) (.slice none 0 0) (.int .i64 0) (.int .i64 0) RV.o (Nat.le_refl _) G1.o (World.ownsRow_nil V 0 3 1) (by simp [Value.ownBlock])
  have h0:=RF.1.cell 0
  have h1:=RF.1.cell 1
  have h2:=RF.1.cell 2
  have h3:=RF.1.cell 3
  have h4:=RF.1.cell 4
  simp only [ysz,ysA,ysy] at h0 h1 h2 h3 h4
  refine bodyPost_ret (v:=.tuple #[resZ,.int .i64 41]) ?_ rfl ⟨.inr (.inl ⟨H1.o,H2.o,rfl⟩),RF.2.1⟩
  clear RF x0 x1 x2 x3 x4 y0 y1 y2 y3 y4
  generalize World.setCell _ _ _=WF at *
  simp [results,Tryz.results26,go_sem,resZ,h0,h1,h2,h3,h4]
 ·have H1:=hid (And.intro h1 (And.intro h2 h3))
  clear h1 h2 h3
  obtain ⟨ao,co,rfl⟩:=yg ho
  have HO:=hid ho
  clear ho
  go_wp2
  have RF:=yeM (w:=w) (.int .i64 (Mc.run m ins fuel.toNat).ende) (.int .i64 (Mc.run m ins fuel.toNat).code) (.slice ao (Mc.run m ins fuel.toNat).o.length co) (.int .i64 (Mc.run m ins fuel.toNat).steps) (.int .i64 (Mc.run m ins fuel.toNat).read) RV.o (Nat.le_refl _) G1.o HO.o (fun j e=>by have:=(HO.o.lt j e).1; have:=SZ.o; omega)
  have h0:=RF.1.cell 0
  have h1:=RF.1.cell 1
  have h2:=RF.1.cell 2
  have h3:=RF.1.cell 3
  have h4:=RF.1.cell 4
  simp only [ysz,ysA,ysy] at h0 h1 h2 h3 h4
  refine bodyPost_ret (v:=.tuple #[.agg #[.int .i64 (Mc.run m ins fuel.toNat).ende,.int .i64 (Mc.run m ins fuel.toNat).code,.slice ao (Mc.run m ins fuel.toNat).o.length co,.int .i64 (Mc.run m ins fuel.toNat).steps,.int .i64 (Mc.run m ins fuel.toNat).read],.int .i64 0]) ?_ rfl ⟨.inr (.inr ⟨H1.o.1,H1.o.2.1,H1.o.2.2,_,rfl,yX RF.2.2 (Nat.le_trans (Nat.le_succ _) (Nat.le_of_eq SZ.o.symm))⟩),RF.2.1⟩
  clear RF x0 x1 x2 x3 x4 y0 y1 y2 y3 y4
  generalize World.setCell _ _ _=WF at *
  simp [results,Tryz.results26,go_sem,h0,h1,h2,h3,h4]
instance (m:Im.Img):Decidable (Im.ImgOk m):=by unfold Im.ImgOk Im.Base Im.Meet Im.In; infer_instance
instance (l:List UInt8):Decidable (Im.IsImg l):=by unfold Im.IsImg Im.Full; infer_instance
def yhb (os:List Lk.Obj) (bt bf bd:Int) (ins:List Int) (out:List Int) (code:Int):Prop :=
 yjq (Ln.linkO os bt bf bd).2 0 0 []/\Im.IsImg (Ln.linkO os bt bf bd).1/\(Mc.run (Im.imgOf (Ln.linkO os bt bf bd).1) ins 5000).ende=1/\(Mc.run (Im.imgOf (Ln.linkO os bt bf bd).1) ins 5000).code=code/\(Mc.run (Im.imgOf (Ln.linkO os bt bf bd).1) ins 5000).o=out
instance (os:List Lk.Obj) (bt bf bd:Int) (ins:List Int) (out:List Int) (code:Int):Decidable (yhb os bt bf bd ins out code):=by unfold yhb; infer_instance
namespace Bd
def head:List UInt8:=[46,103,108,111,98,108,32,95,115,116,97,114,116,10,95,115,116,97,114,116,58,32,108,105,32,120,49,48,44,48,10]
def call:List UInt8:=[99,97,108,108,32,102,10]
def border:List UInt8:=[46,97,108,105,103,110,32,51,10,97,100,100,105,32,120,49,48,44,120,49,48,44,49,48,48,10]
def over:List UInt8:=[106,32,111,118,101,114,10,46,97,108,105,103,110,32,52,10,111,118,101,114,58,32,108,97,32,120,49,49,44,111,118,101,114,10,97,110,100,105,32,120,49,49,44,120,49,49,44,49,53,10,97,100,100,32,120,49,48,44,120,49,48,44,120,49,49,10]
def finish:List UInt8:=[108,105,32,120,49,55,44,49,10,101,99,97,108,108,10,108,105,32,120,49,48,44,48,10,108,105,32,120,49,55,44,48,10,101,99,97,108,108,10]
def far:List UInt8:=[46,102,97,114,10]
def text (j:Nat):Nat->List UInt8
 | 0=>head
 | i+1=>if i % 4=j then text j i ++ call ++ border else text j i ++ call
def main (k j:Nat) (f:Bool):List UInt8:=if f then far ++ (text j k ++ over) ++ finish else (text j k ++ over) ++ finish
def want (j k:Nat):Nat->Int
 | 0=>k
 | i+1=>if i % 4=j then want j k i+100 else want j k i
def one:List UInt8:=[110,111,112,10,46,102,97,114,10,110,111,112,10]
def three:List UInt8:=[102,58,32,97,100,100,105,32,120,49,48,44,120,49,48,44,49,10,114,101,116,10,46,103,108,111,98,108,32,102,10]
end Bd
def yhe (t:List UInt8):Bool:=decide ((As.assemble t).1.1=0) && ykQ (As.assemble t).2
def ynm (k j:Nat) (f:Bool):Prop:=yhe (Bd.main k j f)=true/\yhb (Ln.takeAll [(false,[(As.assemble Bd.one).2]),(false,[(As.assemble (Bd.main k j f)).2]),(false,[(As.assemble Bd.three).2])]) 4096 65536 131072 [] [Bd.want j k k] 0
instance (k j:Nat) (f:Bool):Decidable (ynm k j f):=by unfold ynm; infer_instance
namespace Ar
def dig (k:Nat):List UInt8:=[UInt8.ofNat (48+k)]
def nam (k:Nat):List UInt8:=[102] ++ dig k
def text (n k:Nat):List UInt8 :=
 [46,103,108,111,98,108,32] ++ nam k ++ [10] ++ nam k ++ [58,32,97,100,100,105,32,120,49,48,44,120,49,48,44] ++ dig (k+1) ++ [10] ++ (if k+1 < n then [116,97,105,108,32] ++ nam (k+1) ++ [10] else [114,101,116,10])
def bad:List UInt8:=[46,103,108,111,98,108,32,111,116,104,101,114,10,46,103,108,111,98,108,32,95,115,116,97,114,116,10,95,115,116,97,114,116,58,32,111,116,104,101,114,58,32,108,105,32,120,49,55,44,48,10,101,99,97,108,108,10]
def last:List UInt8:=[46,103,108,111,98,108,32,111,116,104,101,114,10,46,103,108,111,98,108,32,95,115,116,97,114,116,10,95,115,116,97,114,116,58,10,111,116,104,101,114,58,32,108,105,32,120,49,55,44,48,10,101,99,97,108,108,10]
def main:List UInt8:=[46,103,108,111,98,108,32,95,115,116,97,114,116,10,95,115,116,97,114,116,58,32,108,105,32,120,49,48,44,48,10,99,97,108,108,32,102,48,10,108,105,32,120,49,55,44,49,10,101,99,97,108,108,10,108,105,32,120,49,48,44,48,10,108,105,32,120,49,55,44,48,10,101,99,97,108,108,10]
def texts (n:Nat):List (List UInt8):=(List.range n).map (text n) ++ [last]
def objs (n t:Nat):List Lk.Obj:=(List.range (n+1)).map fun k=>(As.assemble ((texts n).getD ((k+t) % (n+1)) [])).2
def mainO:Lk.Obj:=(As.assemble main).2
end Ar
def ydC (n t:Nat):Prop:=yhb (Ln.takeAll [(false,[Ar.mainO]),(true,Ar.objs n t)]) 4096 65536 131072 [] [((n * (n+1) / 2:Nat):Int)] 0/\yfE (Ln.takeAll [(true,Ar.objs n t),(false,[Ar.mainO])]) 4096 65536 131072 34 0 [102,48]
instance (n t:Nat):Decidable (ydC n t):=by unfold ydC; infer_instance
theorem yrh:(As.assemble Ar.bad).1.1≠0:=by decide +kernel
theorem yqi:yhe Ar.main=true:=by decide +kernel
theorem yoC:∀ n,n < 6->(Ar.texts n).all yhe=true:=by decide +kernel
theorem ar_1:∀ t,t < 2->ydC 1 t:=by decide +kernel
theorem ar_2:∀ t,t < 3->ydC 2 t:=by decide +kernel
theorem ar_3:∀ t,t < 4->ydC 3 t:=by decide +kernel
theorem ar_4:∀ t,t < 5->ydC 4 t:=by decide +kernel
theorem ar_5:∀ t,t < 6->ydC 5 t:=by decide +kernel
structure ydZ (w:World) (g:Nat) (cur:Array Value) (ms:List (List UInt8)):Prop where
 blk:yc w g cur 9
 cells:∀ i (h:i < ms.length),cur[i]?=some (.string (bs ms[i]))
theorem ydZ.strs {w:World} {g:Nat} {cur:Array Value} {ms:List (List UInt8)} (h:ydZ w g cur ms):yci w (some ⟨g,0,none⟩) ms:=fun _=>⟨g,0,rfl,fun i hi=>by rw [Nat.zero_add,h.blk.cell i]; exact h.cells i hi⟩
structure StP (w:World) (b g:Nat) (cur:Array Value) (l:List UInt8) (W:World):Prop where
 wr:WrAt W b l
 own:yc W g cur 9
 gr:w.grownBy W none
 hb:b=w.heap.size
theorem StP.step {w W W':World} {b g:Nat} {cur:Array Value} {l l':List UInt8} (h:StP w b g cur l W) (hg:g < b) (hw:WrAt W' b l') (hk:Wk b W W'):StP w b g cur l' W' :=
 ⟨hw,hk.2 g cur 9 (by omega) (by decide) h.own,⟨hk.1.os.trans h.gr.os,hk.1.tape.trans h.gr.tape,hk.1.output.trans h.gr.output,Nat.le_trans h.gr.size hk.1.size,fun i hi hn=>(hk.1.block i (by have:=h.hb; omega)).trans (h.gr.block i hi hn)⟩,h.hb⟩
theorem StP.kept {w W W':World} {b g:Nat} {cur:Array Value} {l:List UInt8} (h:StP w b g cur l W) (hg:W.grownBy W' none):StP w b g cur l W':=by
 obtain ⟨ao,cap,h1,h2⟩:=h.wr
 exact ⟨⟨ao,cap,h1.grown hg (by simp),h2.kept hg (Decidable.em _)⟩,h.own.grown hg (by simp),ya h.gr hg,h.hb⟩
set_option maxRecDepth 100000 in
theorem ypx (g:Nat) (cur:Array Value) (cap:Nat) (ms:List (List UInt8)) (w:World) (ht:Tabs w) (hin:ydZ w g cur ms) (h1:1<=ms.length) (h6:ms.length<=6) (hok:∀ m∈ms,ybm m/\m.length<=65535) :
  Calls Tryz.prog 23 #[.slice (some ⟨g,0,none⟩) ms.length cap] w fun e w'=>e = .returned (.tuple #[.string (bs (arB ms)),.int .i64 0])/\w.grownBy w' none:=by
 have cV:=hid (fun W=>yeR ms.length W)
 have HT:=hid ht
 have HK:=hid hok
 have HC:=hid hin.cells
 have hgl:=hin.blk.lt
 have S0:Hd (StP w w.heap.size g cur [] (w.alloc (.cells #[.slice none 0 0] 57))):=⟨ygY w,hin.blk.grown (ysE _ _ none) (by simp),ysE _ _ none,rfl⟩
 clear ht hin hok
 go_enter Tryz.func23,Tryz.ntmps23
 go_wp2_with fail
 refine (cV.o _).mono ?_
 rintro e w1 ⟨tv,hw⟩
 obtain rfl:=ydG tv (by omega)
 rw [hw]
 clear tv hw w1 cV
 go_wp2_with fail
 generalize hbb:w.heap.size=b at *
 clear hbb
 refine Calls.at_world (StP w b g cur []) S0.o ?_
 clear S0
 intro V0 h0
 have S0:=hid h0
 clear h0
 refine (ydI b ⟨#[65,82]⟩ [] V0 S0.o.wr (by simp) (by decide)).mono ?_
 rintro e V1 ⟨rfl,hw,hk⟩
 have S1:=hid (S0.o.step hgl hw hk)
 clear S0 hw hk
 have E1:[] ++ sl ⟨#[65,82]⟩=[65,82]:=rfl
 rw [E1] at S1
 clear E1
 go_wp2_with fail
 refine (yA b (ms.length:Int) 1 1 rfl _ V1 S1.o.wr (by simp) (by omega) (by omega) (by omega)).mono ?_
 rintro e V2 ⟨rfl,hw,hk⟩
 have S2:=hid (S1.o.step hgl hw hk)
 clear S1 hw hk
 have LN:([65,82] ++ Lk.le (ms.length:Int) 1).length=3:=by rw [ysF,Lk.le_length]; rfl
 have FIN:=hid (show arB ms=([65,82] ++ Lk.le (ms.length:Int) 1) ++ ms.flatMap memB by unfold arB; rw [List.append_assoc])
 generalize [65,82] ++ Lk.le (ms.length:Int) 1=l0 at *
 go_wp2
 go_loopw [18] (fun i wr=>∃ k:Nat,k<=ms.length/\i = .int .i64 k/\StP w b g cur (l0 ++ (ms.take k).flatMap memB) wr) (fun i _=>ms.length - (intOf i).toNat)
 case atStart=>exact ⟨0,Nat.zero_le _,rfl,by simpa using S2.o⟩
 case round =>
  obtain ⟨k,hk,rfl,hst⟩:=hrel
  have ST:=hid hst
  clear hst S2
  by_cases hlt:k < ms.length
  ·have g1:(k:Int) < (ms.length:Int):=by omega
   have ck:=(ST.o.own.cell k).trans (HC.o k hlt)
   have KM:=HK.o _ (ysG hlt)
   have TK:=hid (yfX memB ms k hlt)
   have LE:=yec memB 65537 k ms (fun m hm=>by have:=(HK.o m hm).2; unfold memB; rw [ysF,Lk.le_length]; omega)
   have cO:=hid (fun W (hg:w.grownBy W none)=>yeH (bs ms[k]) W (HT.o.grown hg) (by rw [yaM]; omega))
   generalize ms[k]=m at *
   have hsz:(bs m).size=m.length:=yaM m
   rw [ycl] at cO
   generalize (ms.take k).flatMap memB=lk at *
   go_wp2_with fail
   refine (cO.o _ ST.o.gr).mono ?_
   rintro e W4 ⟨tv,h4⟩
   obtain rfl:=ydG tv KM.1
   have S4:=hid (ST.o.kept h4)
   clear tv h4 cO ST ck
   go_wp2_with fail
   refine (yA b (m.length:Int) 2 2 rfl _ W4 S4.o.wr (by rw [ysF]; omega) (by omega) (by omega) (by omega)).mono ?_
   rintro e W5 ⟨rfl,hw,hk5⟩
   have S5:=hid (S4.o.step hgl hw hk5)
   clear S4 hw hk5
   go_wp2_with fail
   refine (ydI b (bs m) _ W5 S5.o.wr (by rw [ysF,ysF,Lk.le_length]; omega) (by omega)).mono ?_
   rintro e W6 ⟨rfl,hw,hk6⟩
   have S6:=hid (S5.o.step hgl hw hk6)
   clear S5 hw hk6
   rw [ycl] at S6
   go_wp2
   go_roundw
   case rel=>exact ⟨k+1,by omega,by go_num,by rw [TK.o]; unfold memB; simpa [List.append_assoc] using S6.o⟩
   case measure=>simp [intOf]; omega
  ·obtain rfl:k=ms.length:=by omega
   have g3:decide ((ms.length:Int) < (ms.length:Int))=false:=by simp
   rw [List.take_length] at ST
   go_wp2_with fail
   refine (yfq b _ _ ST.o.wr).mono ?_
   rintro e w9 ⟨rfl,hw⟩
   rw [hw]
   clear hw w9
   go_wp2
   go_ret2
   exact ⟨by rw [FIN.o]; rfl,ST.o.gr⟩
set_option maxRecDepth 100000 in
theorem ynL (g:Nat) (cur:Array Value) (cap:Nat) (ms:List (List UInt8)) (w:World) (ht:Tabs w) (hin:ydZ w g cur ms) (h1:1<=ms.length) (h6:ms.length<=6) (hok:∀ m∈ms,ybm m/\m.length<=65535) :
  Calls Tryz.prog 15 #[.slice (some ⟨g,0,none⟩) ms.length cap] w fun e w'=>e = .returned (.tuple #[.string (bs (arB ms)),.int .i64 0])/\w.grownBy w' none:=by
 have cP:=hid (ypx g cur cap ms w ht hin h1 h6 hok)
 clear ht hin
 go_enter Tryz.func15,Tryz.ntmps15
 go_wp2_with fail
 refine cP.o.mono ?_
 rintro e W ⟨rfl,hg⟩
 have G:=hid hg
 clear hg cP
 go_wp2
 go_ret2
 exact ⟨rfl,G.o⟩
set_option maxRecDepth 100000 in
theorem ylD (ao bo:Option Addr) (ca cb:Nat) (xs:List Int) (w:World) (ha:yy w ao xs) (hb:yy w bo xs) (hl:xs.length<=65535) :
  Calls Tryz.prog 27 #[.slice ao xs.length ca,.slice bo xs.length cb] w fun e w'=>e = .returned (.bool true)/\w.grownBy w' none:=by
 have HA:=hid ha
 have HB:=hid hb
 clear ha hb
 go_enter Tryz.func27,Tryz.ntmps27
 go_wp2
 go_loopw [5] (fun i wr=>∃ k:Nat,k<=xs.length/\i = .int .i64 k/\w.grownBy wr none) (fun i _=>xs.length - (intOf i).toNat)
 case atStart=>exact ⟨0,Nat.zero_le _,rfl,World.grownBy.refl _ _⟩
 case round =>
  obtain ⟨k,hk,rfl,hgr⟩:=hrel
  have G:=hid hgr
  clear hgr
  by_cases hlt:k < xs.length
  ·have g1:(k:Int) < (xs.length:Int):=by omega
   obtain ⟨ga,oa,rfl,hca⟩:=HA.o (by omega)
   obtain ⟨gb,ob,rfl,hcb⟩:=HB.o (by omega)
   have c1:=yd (hca k hlt) G.o
   have c2:=yd (hcb k hlt) G.o
   generalize xs[k]=x at *
   have d1:(x == x)=true:=by simp
   have d2:(x != x)=false:=by simp
   clear hca hcb
   go_wp2
   go_quiet (fail)
   go_wp2
   go_roundw
   case rel=>exact ⟨k+1,by omega,by go_num,ye G.o _⟩
   case measure=>simp [intOf]; omega
  ·obtain rfl:k=xs.length:=by omega
   have g3:decide ((xs.length:Int) < (xs.length:Int))=false:=by simp
   go_wp2
   go_ret
   exact ⟨rfl,G.o⟩
set_option maxRecDepth 100000 in
theorem yoL (R:Nat) (ao bo:Option Addr) (ca cb:Nat) (xs:List Int) (code st rd:Int) (w:World) (hR:yc w R #[.int .i64 1,.int .i64 code,.slice ao xs.length ca,.int .i64 st,.int .i64 rd] 39) (ha:yy w ao xs) (hb:yy w bo xs) (hl:xs.length<=65535) :
  Calls Tryz.prog 19 #[.pointer (some ⟨R,0,none⟩),.slice bo xs.length cb,.int .i64 code] w fun e w'=>e = .returned (.bool true)/\w.grownBy w' none:=by
 have HR:=hid hR
 have c0:w.cell? ⟨R,0,none⟩=some (.int .i64 1):=hR.cell 0
 have c1:w.cell? ⟨R,1,none⟩=some (.int .i64 code):=hR.cell 1
 have c2:w.cell? ⟨R,2,none⟩=some (.slice ao xs.length ca):=hR.cell 2
 have cS:=hid (fun W (hg:w.grownBy W none)=>ylD ao bo ca cb xs W (ha.kept (fun a v e=>yd e hg)) (hb.kept (fun a v e=>yd e hg)) hl)
 clear ha hb hR
 go_enter Tryz.func19,Tryz.ntmps19
 go_wp2_with fail
 refine (cS.o _ (World.grownBy.refl _ _)).mono ?_
 rintro e V ⟨rfl,hg⟩
 have G:=hid hg
 have b0:=yd c0 hg
 have b1:=yd c1 hg
 have d1:(code == code)=true:=by simp
 clear hg cS c0 c1 c2
 go_wp2
 go_ret
 exact ⟨rfl,G.o⟩
theorem yoZ {W:World} {X:Nat} {t:TypeId} (xs:List Int) (h:yc W X (xs.map (Value.int .i64)).toArray t):yy W (some ⟨X,0,none⟩) xs:=fun _=>⟨X,0,rfl,fun i hi=>by
 rw [Nat.zero_add,h.cell i,ysz,List.getElem?_map,ysI hi]
 rfl⟩
theorem yed (l:List UInt8) (p:Nat):0<=atL l p 4/\atL l p 4 < 4294967296:=by have:=yfI l p 4; simpa using this
theorem ynI (l:List UInt8):Im.Tame (Im.imgOf l):=by
 have h:=Im.n_le l
 have h2:=Im.two_range l 24
 refine ⟨yed l 2,yed l 6,yed l 10,yed l 14,⟨?_,?_,?_⟩,?_⟩
 ·simp only [Im.imgOf,Im.words_length]; omega
 ·simp only [Im.imgOf,Im.words_length]; omega
 ·simp only [Im.imgOf,Im.words_length]; omega
 ·simp only [Im.imgOf]; omega
theorem ygX (l:List UInt8) (p n i:Nat):0<=(Im.words l p n).getD i 0/\(Im.words l p n).getD i 0 < 4294967296:=by
 rw [ysQ]
 by_cases h:i < (Im.words l p n).length
 ·rw [ysI h]
  have hm:(Im.words l p n)[i]∈(List.range n).map (fun i=>atL l (p+4 * i) 4):=ysG h
  obtain ⟨j,-,hj⟩:=List.mem_map.1 hm
  rw [Option.getD_some,<- hj]
  exact yed l _
 ·rw [List.getElem?_eq_none (by omega)]
  decide
set_option maxRecDepth 100000 in
theorem ypc (bt bf bd:Int) (af:Option Addr) (cf:Nat) (fs:List (List UInt8)) (xs:List (Bool×List Lk.Obj)) (ai:Option Addr) (ci:Nat) (ins:List Int) (out:List Int) (code:Int) (w:World) (hin:yci w af fs) (hsz:∀ f∈fs,f.length<=1048576) (hii:yy w ai ins) (hil:ins.length<=16) (ht:Tabs w) (h1:1<=fs.length) (h8:fs.length<=8) (hb:Im.Base bt/\Im.Base bf/\Im.Base bd) (hf:yeV fs xs) (hr:yhb (Ln.takeAll xs) bt bf bd ins out code) (hlen:(Ln.linkO (Ln.takeAll xs) bt bf bd).1.length<=1048576) :
  Calls Tryz.prog 18 #[.slice af fs.length cf,.agg #[.int .i64 bt,.int .i64 bf,.int .i64 bd],.slice ai ins.length ci] w fun e w'=>(∃ (ao:Option Addr) (ca:Nat) (st:Int),e = .returned (.tuple #[.agg #[.int .i64 1,.int .i64 code,.slice ao out.length ca,.int .i64 st,.int .i64 (Mc.run (Im.imgOf (Ln.linkO (Ln.takeAll xs) bt bf bd).1) ins 5000).read],.int .i64 ((Ln.linkO (Ln.takeAll xs) bt bf bd).1.length:Nat),.bool true])/\∃ B,w'.ownsRow B 3 1 (.slice ao out.length ca) out.length (out.map (Value.int .i64)))/\w.grownBy w' none:=by
 have HT:=hid ht
 have HI:=hid hin
 have HII:=hid hii
 have cL:=hid (fun W (hg:w.grownBy W none)=>yiD bt bf bd af cf fs W (HI.o.kept hg) hsz (HT.o.grown hg) (by omega))
 have LF:=hid (fun e (h:ycQ bt bf bd fs e)=>yhu h hb h1 h8 hf)
 obtain ⟨hr0,hr1,hr2,hr3,hr4⟩:=hr
 have EQ:Ln.linkO (Ln.takeAll xs) bt bf bd=((Ln.linkO (Ln.takeAll xs) bt bf bd).1,⟨0,0,[]⟩):=by
  obtain ⟨q1,q2,q3⟩:=hr0
  generalize Ln.linkO (Ln.takeAll xs) bt bf bd=q at *
  obtain ⟨tb,f⟩:=q
  obtain ⟨x,y,z⟩:=f
  simp only at q1 q2 q3
  rw [q1,q2,q3]
 have EF:(Ln.linkO (Ln.takeAll xs) bt bf bd).2=⟨0,0,[]⟩:=by rw [EQ]
 rw [EF] at LF
 generalize (Ln.linkO (Ln.takeAll xs) bt bf bd).1=tb at *
 have HR1:=hid hr1
 have HRX:=hid (And.intro hr2 (And.intro hr3 hr4))
 have tsz:(bs tb).size=tb.length:=yaM tb
 have cLd:=hid (fun W=>ynH (bs tb) W (by omega))
 have SB:=ycl tb
 clear hin ht EF EQ hr0 hr1 hr2 hr3 hr4 hii hf
 have hs1:(w.alloc (.cells #[.int .i64 bt,.int .i64 bf,.int .i64 bd] 35)).heap.size=w.heap.size+1:=Array.size_push _
 have A1:=ysE (w.alloc (.cells #[.int .i64 bt,.int .i64 bf,.int .i64 bd] 35)) (.cells #[.int .i64 0,.int .i64 0,.slice none 0 0,.int .i64 0,.int .i64 0] 39) none
 have G1:=hid (ya (ysE w (.cells #[.int .i64 bt,.int .i64 bf,.int .i64 bd] 35) none) A1)
 have BR:=hid (yc.new (w.alloc (.cells #[.int .i64 bt,.int .i64 bf,.int .i64 bd] 35)) #[.int .i64 0,.int .i64 0,.slice none 0 0,.int .i64 0,.int .i64 0] 39)
 rw [hs1] at BR
 clear A1 hs1
 go_enter Tryz.func18,Tryz.ntmps18
 go_wp2_with fail
 generalize (w.alloc (.cells #[.int .i64 bt,.int .i64 bf,.int .i64 bd] 35)).alloc (.cells #[.int .i64 0,.int .i64 0,.slice none 0 0,.int .i64 0,.int .i64 0] 39)=W1 at *
 have hRw:w.heap.size<=w.heap.size+1:=by omega
 generalize w.heap.size+1=R at *
 refine (cL.o _ G1.o).mono ?_
 rintro e V1 ⟨hret,h2⟩
 obtain rfl:=LF.o e hret
 have A2:=ysE V1 (.cells #[.int .i64 0,.int .i64 0,.string (bs [])] 45) none
 have G2:=hid (ya (ya G1.o h2) A2)
 have BR2:=hid (BR.o.grown (ya h2 A2) (by simp))
 clear hret h2 A2 cL LF BR G1
 unfold lfA
 dsimp only
 go_wp2_with fail
 generalize V1.alloc (.cells #[.int .i64 0,.int .i64 0,.string (bs [])] 45)=V2 at *
 refine (cLd.o _).mono ?_
 rintro e V3 ⟨hld,h3⟩
 have G3:=hid (ya G2.o h3)
 have BR3:=hid (BR2.o.grown h3 (by simp))
 clear h3 cLd BR2 G2
 unfold ynp at hld
 rw [SB] at hld
 rcases hld with ⟨-,x,rfl,g,hx,hI⟩ | ⟨hno,-⟩
 case inr=>exact (hno HR1.o).elim
 have cR:=hid (ykd x g (Im.imgOf tb) ai ci ins 5000 V3 (hx.cell 0) hI (ynI tb) (fun i=>ygX _ _ _ i) ⟨fun i=>ygX _ _ _ i,fun i=>ygX _ _ _ i⟩ (HII.o.kept (fun a v e=>yd e G3.o)) (HT.o.grown G3.o))
 clear hx hI HR1 SB
 go_wp2_with fail
 refine cR.o.mono ?_
 rintro e V4 ⟨hrt,h4⟩
 rcases hrt with ⟨h,-⟩ | ⟨-,h,-⟩ | ⟨-,-,-,vo,rfl,ho⟩
 case inl=>omega
 case inr.inl=>omega
 have E5:(5000:Int).toNat=5000:=rfl
 rw [E5] at ho ⊢
 have HRX2:=HRX.o
 generalize hs:Mc.run (Im.imgOf tb) ins 5000=s at *
 have HS:=hid hs
 clear hs
 obtain ⟨m1,m2,m3,m4,m5,m6,m7,m8,m9⟩:=s
 simp only at HRX2 ho ⊢
 obtain ⟨q1,q2,q3⟩:=HRX2
 subst q1 q2 q3
 obtain ⟨ao,ca,rfl⟩:=yg ho
 have A5:=ysE V4 (.cells #[.int .i64 1,.int .i64 m6,.slice ao m7.length ca,.int .i64 m8,.int .i64 m9] 39) none
 have G5:=hid (ya (ya G3.o h4) A5)
 have BR5:=hid (BR3.o.grown (ya h4 A5) (by simp))
 have BX:=hid (yc.new V4 #[.int .i64 1,.int .i64 m6,.slice ao m7.length ca,.int .i64 m8,.int .i64 m9] 39)
 have HO:=hid (ho.kept A5 (Decidable.em _))
 have hne:R≠V4.heap.size:=by have:=BR3.o.lt; have:=h4.size; omega
 clear h4 ho A5 cR BR3 G3 HRX
 have z0:(V4.alloc (.cells #[.int .i64 1,.int .i64 m6,.slice ao m7.length ca,.int .i64 m8,.int .i64 m9] 39)).cell? ⟨R,0,none⟩=some (.int .i64 0):=BR5.o.cell 0
 have z1:(V4.alloc (.cells #[.int .i64 1,.int .i64 m6,.slice ao m7.length ca,.int .i64 m8,.int .i64 m9] 39)).cell? ⟨R,1,none⟩=some (.int .i64 0):=BR5.o.cell 1
 have z2:(V4.alloc (.cells #[.int .i64 1,.int .i64 m6,.slice ao m7.length ca,.int .i64 m8,.int .i64 m9] 39)).cell? ⟨R,2,none⟩=some (.slice none 0 0):=BR5.o.cell 2
 have z3:(V4.alloc (.cells #[.int .i64 1,.int .i64 m6,.slice ao m7.length ca,.int .i64 m8,.int .i64 m9] 39)).cell? ⟨R,3,none⟩=some (.int .i64 0):=BR5.o.cell 3
 have z4:(V4.alloc (.cells #[.int .i64 1,.int .i64 m6,.slice ao m7.length ca,.int .i64 m8,.int .i64 m9] 39)).cell? ⟨R,4,none⟩=some (.int .i64 0):=BR5.o.cell 4
 have f0:=BR5.o.free 0
 have f1:=BR5.o.free 1
 have f2:=BR5.o.free 2
 have f3:=BR5.o.free 3
 have f4:=BR5.o.free 4
 go_wp2
 have GS:=World.grownBy.trans (World.grownBy.trans (World.grownBy.trans (World.grownBy.trans (yf (V4.alloc (.cells #[.int .i64 1,.int .i64 m6,.slice ao m7.length ca,.int .i64 m8,.int .i64 m9] 39)) R 0 (.int .i64 1)) (yf _ R 1 (.int .i64 m6))) (yf _ R 2 (.slice ao m7.length ca))) (yf _ R 3 (.int .i64 m8))) (yf _ R 4 (.int .i64 m9))
 have OI:=yz HO.o GS (RowT.blk BR5.o) (by decide)
 have F:=((((BR5.o.set 0 (.int .i64 1)).set 1 (.int .i64 m6)).set 2 (.slice ao m7.length ca)).set 3 (.int .i64 m8)).set 4 (.int .i64 m9)
 have h0:=F.cell 0
 have h1:=F.cell 1
 have h2:=F.cell 2
 have h3:=F.cell 3
 have h4:=F.cell 4
 simp only [ysD,ysB,ysC,ysz,ysA,ysy] at h0 h1 h2 h3 h4
 refine bodyPost_ret (v:=.tuple #[.agg #[.int .i64 1,.int .i64 m6,.slice ao m7.length ca,.int .i64 m8,.int .i64 m9],.int .i64 (tb.length:Nat),.bool true]) ?_ rfl ⟨⟨ao,ca,m8,by rw [HS.o],_,OI⟩,ycG G5.o _ hRw _ _ _ _ _⟩
 clear F z0 z1 z2 z3 z4 f0 f1 f2 f3 f4 OI GS
 generalize World.setCell _ _ _=WF at *
 simp [results,Tryz.results18,go_sem,h0,h1,h2,h3,h4]
set_option maxRecDepth 100000 in
theorem yqM (ts:List (List UInt8)) (tl:List UInt8) (am:Option Addr) (cm:Nat) (w:World) (hin:yci w am (ts ++ [tl])) (hl:ts.length<=64) (hok:∀ t∈ts,yej t) (hno:(As.assemble tl).1.1≠0) (ht:Tabs w) (hN:NTab w) (hB:3<=w.heap.size) :
  Calls Tryz.prog 14 #[.slice am (ts.length+1:Nat) cm] w fun e w'=>e = .returned (.tuple #[.slice none 0 0,.bool false])/\w.grownBy w' none:=by
 obtain ⟨i0,hi,hz0,hz1,hz2⟩:=info_parts Tryz.infoStr
 have HI:=hid hin
 have HT:=hid ht
 have HN:=hid hN
 have HK:=hid hok
 have HLN:(ts ++ [tl]).length=ts.length+1:=by rw [ysF]; rfl
 clear hin ht hN hok
 go_enter Tryz.func14,Tryz.ntmps14
 go_wp2
 go_loopw [4,5] (fun v i wr=>∃ (k:Nat),k<=ts.length/\i = .int .i64 k/\wr.ownsRow w.heap.size 9 1 v k (((ts.take k).map asmB).map fun l=>.string (bs l))/\w.grownBy wr none) (fun _ i _=>ts.length+1 - (intOf i).toNat)
 case atStart=>exact ⟨0,Nat.zero_le _,rfl,World.ownsRow_nil _ _ _ _,World.grownBy.refl _ _⟩
 case round =>
  obtain ⟨k,hk,rfl,hown,hgr⟩:=hrel
  obtain ⟨av,cv,rfl⟩:=yg hown
  have HO:=hid hown
  have G:=hid hgr
  clear hown hgr
  obtain ⟨g0,off,rfl,hc⟩:=HI.o.kept G.o (by omega)
  have hz:=G.o.size
  have g1:(k:Int) < ((ts.length+1:Nat):Int):=by omega
  have cc:=hc k (by omega)
  by_cases hlt:k < ts.length
  ·have EQ:(ts ++ [tl])[k]'(by omega)=ts[k]:=List.getElem_append_left hlt
   rw [EQ] at cc
   have OKK:=HK.o _ (ysG hlt)
   have TK:=hid (show (((ts.take (k+1)).map asmB).map fun l=>Value.string (bs l))=(((ts.take k).map asmB).map fun l=>.string (bs l)) ++ [.string (bs (asmB ts[k]))] by
    rw [List.take_succ_eq_append_getElem hlt,List.map_append,List.map_append]
    rfl)
   generalize ts[k]=tx at *
   clear hc
   go_wp2_with fail
   refine (ycM (bs tx) wr (HT.o.grown G.o) (HN.o.below (ybr G.o (Nat.le_refl _) (by simp)) hB) (by omega)).mono ?_
   rintro e V ⟨⟨t,fe,fa,rfl,htold⟩,hg⟩
   rw [ycl] at htold
   obtain ⟨rfl,rfl⟩:=yhf OKK htold
   have G2:=hid (ya (ya G.o hg) (ysE V (.cells #[.int .i64 0,.int .i64 fa,.string ⟨#[]⟩] 45) none))
   have HO2:=hid ((HO.o.kept hg (Decidable.em _)).alloc (.cells #[.int .i64 0,.int .i64 fa,.string ⟨#[]⟩] 45))
   have hzz:=hg.size
   have CN:=cell_one_new (V.alloc (.cells #[.int .i64 0,.int .i64 fa,.string ⟨#[]⟩] 45)) (.string (bs (asmB tx))) 9
   rw [yaW] at CN
   have CNH:=hid CN
   clear htold hg cc HO G CN OKK
   generalize asmB tx=t at *
   unfold ybk
   go_wp2_with (at_builtin; refine wpList_append_own _ rfl _ _ 25 rfl w.heap.size 9 i0 (.string ⟨#[]⟩) 1 16 Tryz.underlying25 hi hz0 hz1 hz2 rfl (by decide) _ _ _ rfl (HO2.o.alloc _) ⟨V.heap.size+1,0,none⟩ 1 1 [.string (bs t)] rfl rfl CNH.o (by intro u hu; simp at hu; subst hu; rfl) (by unfold maxLen; omega) (by omega) (by simp; omega) ?_; intro v' w3 hown' hgrow _; obtain ⟨av',cv',rfl⟩:=yg hown'; have K:=hid hown'; have GK:=hid (yaR (ya G2.o (ysE _ _ _)) hgrow (fun b hb=>(HO2.o.lt b hb).1)); clear hgrow hown')
   go_wp2
   go_roundw
   case rel=>exact ⟨k+1,by omega,by go_num,by rw [TK.o]; exact K.o,GK.o⟩
   case measure=>simp [intOf]; omega
  ·obtain rfl:k=ts.length:=by omega
   have EQ:(ts ++ [tl])[ts.length]'(by omega)=tl:=List.getElem_concat_length rfl (by omega)
   rw [EQ] at cc
   clear hc
   go_wp2_with fail
   refine (ycM (bs tl) wr (HT.o.grown G.o) (HN.o.below (ybr G.o (Nat.le_refl _) (by simp)) hB) (by omega)).mono ?_
   rintro e V ⟨⟨t,fe,fa,rfl,htold⟩,hg⟩
   rw [ycl] at htold
   have hfe:=ymq hno htold
   have G2:=hid (ya (ya G.o hg) (ysE V (.cells #[.int .i64 fe,.int .i64 fa,.string ⟨#[]⟩] 45) none))
   have d1:((fe:Int) == 0)=false:=by simp; omega
   have d2:((fe:Int) != 0)=true:=by simp; omega
   clear htold hg cc HO G hfe
   unfold ybk
   go_wp2
   go_ret2
   exact ⟨rfl,G2.o⟩
theorem yrL (W:World) (x:Int):(convert 48 9 (.slice (some ⟨W.heap.size,0,none⟩) 1 1)).run Tryz.prog (W.alloc (.cells #[.int .u8 x] 5)) = .ok (.string (strOfNums [x])) (W.alloc (.cells #[.int .u8 x] 5)) :=
 run_convert_bytes_arg (P:=Tryz.prog) _ 48 5 Tryz.underlying48 Tryz.underlying5 W.heap.size 0 1 1 [x] rfl (fun i hi=>by
  have e:i=0:=by omega
  subst e
  exact (yc.new W #[.int .u8 x] 5).cell 0) 9 Tryz.underlying9
theorem yqn (k:Nat) (hk:k < 10):strOfNums [48+(k:Int)]=bs (Ar.dig k):=by
 rcases (show k=0\/k=1\/k=2\/k=3\/k=4\/k=5\/k=6\/k=7\/k=8\/k=9 by omega) with rfl | rfl | rfl | rfl | rfl | rfl | rfl | rfl | rfl | rfl <;> rfl
set_option maxRecDepth 100000 in
theorem ylZ (k:Nat) (w:World) (hk:k < 10) :
  Calls Tryz.prog 13 #[.int .i64 k] w fun e w'=>e = .returned (.string (bs (Ar.dig k)))/\w.grownBy w' none:=by
 have d0:decide ((k:Int) < 0)=false:=by simp
 have d1:decide ((k:Int) < 10)=true:=by simp; omega
 have hcv:=yrL
 have HS:=hid (yqn k hk)
 have A0:=hid (ysE w (.cells #[.int .u8 (48+(k:Int))] 5) none)
 go_enter Tryz.func13,Tryz.ntmps13
 go_wp2
 go_ret
 exact ⟨by rw [<- HS.o]; rfl,A0.o⟩
theorem yrN (k:Nat):(⟨#[102]⟩:ByteArray) ++ bs (Ar.dig k)=bs (Ar.nam k):=by
 have e:Ar.nam k=[102] ++ Ar.dig k:=rfl
 rw [e]
 apply ByteArray.ext
 simp [bs]
set_option maxRecDepth 100000 in
theorem ygv (k:Nat) (w:World) (hk:k < 10) :
  Calls Tryz.prog 12 #[.int .i64 k] w fun e w'=>e = .returned (.string (bs (Ar.nam k)))/\w.grownBy w' none:=by
 have cN:=hid (ylZ k w hk)
 have HS:=hid (yrN k)
 have sz:(bs (Ar.dig k)).size=1:=by rw [yaM]; rfl
 have q1:¬ 9223372036854775807 < 1+(bs (Ar.dig k)).size:=by omega
 go_enter Tryz.func12,Tryz.ntmps12
 go_wp2_with fail
 refine cN.o.mono ?_
 rintro e V ⟨rfl,hg⟩
 have G:=hid hg
 clear hg cN
 go_wp2
 go_ret
 exact ⟨by rw [<- HS.o]; rfl,G.o⟩
def pk (c:Int) (n:Nat):Nat:=if c < 0 then (-(c+1) % n).toNat else (c % n).toNat
theorem ysw (c:Int) (n:Nat) (hn:1<=n):pk c n < n:=by
 have a:=Int.emod_lt_of_pos (-(c+1)) (show (0:Int) < (n:Int) by omega)
 have b:=Int.emod_lt_of_pos c (show (0:Int) < (n:Int) by omega)
 unfold pk
 split <;> omega
set_option maxRecDepth 100000 in
theorem yon (c:Int) (n:Nat) (w:World) (hn:1<=n) (hm:n<=100) (h0:-9223372036854775808<=c) (h1:c<=9223372036854775807) :
  Calls Tryz.prog 11 #[.int .i64 c,.int .i64 n] w fun e w'=>e = .returned (.int .i64 (pk c n))/\w'=w:=by
 have z1:((n:Int) == 0)=false:=by simp; omega
 have z2:(n:Int)≠0:=by omega
 by_cases hc:c < 0
 ·have d:decide (c < 0)=true:=by simpa using hc
  have e:-((c+1).tmod n)=((pk c n:Nat):Int):=by
   have p:=Int.emod_nonneg (-(c+1)) z2
   unfold pk
   rw [if_pos hc,<- Int.neg_tmod,Int.tmod_eq_emod_of_nonneg (by omega)]
   omega
  have E:=hid e
  clear e
  go_enter Tryz.func11,Tryz.ntmps11
  go_wp2
  go_ret
  exact ⟨yD E.o,rfl⟩
 ·have d:decide (c < 0)=false:=by simpa using hc
  have e:c % n=((pk c n:Nat):Int):=by
   have p:=Int.emod_nonneg c z2
   unfold pk
   rw [if_neg hc]
   omega
  have E:=hid e
  clear e
  go_enter Tryz.func11,Tryz.ntmps11
  go_wp2
  go_ret
  exact ⟨yD E.o,rfl⟩
theorem yjz {t:List UInt8} (h:yhe t=true):yej t:=by
 unfold yhe at h
 simp only [Bool.and_eq_true,decide_eq_true_eq] at h
 exact ⟨h.1,ynj h.2⟩
set_option maxRecDepth 100000 in
theorem yom (c:Int) (w:World) (h0:-9223372036854775808<=c) (h1:c<=9223372036854775807) :
  Calls Tryz.prog 11 #[.int .i64 c,.int .i64 5] w fun e w'=>(∃ i:Nat,i < 5/\e = .returned (.int .i64 i))/\w'=w:=by
 by_cases hc:c < 0
 ·have d:decide (c < 0)=true:=by simpa using hc
  go_enter Tryz.func11,Tryz.ntmps11
  go_wp2
  go_ret
  have e:-((c+1).tmod 5)=(((-(c+1)) % 5).toNat:Int):=by
   rw [<- Int.neg_tmod,Int.tmod_eq_emod_of_nonneg (by omega)]
   omega
  exact ⟨⟨((-(c+1)) % 5).toNat,by omega,yD e⟩,rfl⟩
 ·have d:decide (c < 0)=false:=by simpa using hc
  go_enter Tryz.func11,Tryz.ntmps11
  go_wp2
  go_ret
  exact ⟨⟨(c % 5).toNat,by omega,yD (by omega)⟩,rfl⟩
theorem ynK {l:List UInt8} (h:Im.IsImg l):l.length<=1048576:=by
 have f:l.length=26+4 * (Im.nT l+Im.nF l+Im.nD l):=h.2.1
 have n:=Im.n_le l
 omega
theorem ybp {W:World} {R g o:Nat} {v:Value} (h:W.cell? ⟨g,o,none⟩=some v) (hne:g≠R) (a b c:Value):(((W.setCell ⟨R,0,none⟩ a).setCell ⟨R,1,none⟩ b).setCell ⟨R,2,none⟩ c).cell? ⟨g,o,none⟩=some v :=
 World.grownBy.cell (World.grownBy.trans (World.grownBy.trans (yf W R 0 a) (yf _ R 1 b)) (yf _ R 2 c)) h (by simpa using hne)
theorem yrS {s:List UInt8} {o:Lk.Obj} (h:ypV s o):ybm s:=by
 rcases h.1 with ⟨-,h1,-⟩ | ⟨c,-⟩
 ·exact h1
 ·cases c
end Go.Proofs.YtnfgdlkiialnnaaGreatDoor
