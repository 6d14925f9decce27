/- Walks over package machine: what an instruction does; orders that are drawn. -/
/- Walks over package machine: a step. -/
/- Walks: Run, whatever is handed in. -/
/- Walks: Run of a machine. -/
/- Weakly: the plain side. -/
/- Packing, running: what the keeps call. -/
/- What the rows lay: the three tables. -/
/- Bordered: the plain side. -/
/- Bordered: all that is run. -/
import Derived.Test.YtnfgdlkiialnnaaGreatDoorG14
import Derived.Test.YtnfgdlkiialnnaaGreatDoorG26
import Derived.Test.YtnfgdlkiialnnaaGreatDoorG25
import Derived.Test.YtnfgdlkiialnnaaGreatDoorG09
import Derived.ProofKit
import Derived.OpenShut
import Derived.ChangeMaps5
import Derived.Deep.DeepHandedRow
import Derived.Lib.LaidTab
namespace Go.Proofs.YtnfgdlkiialnnaaGreatDoor
open Go.RowKit
set_option maxRecDepth 100000 in
set_option maxHeartbeats 8000000 in
theorem yqo (W0:World) (b g:Nat) (ai:Option Addr) (ci:Nat) (ins:List Int) (st:Mc.St) (vd vo:Value) (m:Im.Img) (op rd rs1 rs2 n:Int) (W:World) (hpre:yax W0 b g ai ci ins st vd vo m rd rs1 rs2 n W) (hop:op=18) :
  Calls Tryz.prog 88 #[.pointer (some ⟨b,0,none⟩),insV op rd rs1 rs2 n] W fun e W'=>e = .returned (.tuple #[])/\yae W0 b g (.slice ai ins.length ci) (Mc.doIt m ins op rd rs1 rs2 n st) W':=by
 obtain ⟨h,hI,hT,hin,hl,d0,s1,s2,hn⟩:=hpre
 have HA:=hid (h.grown (ysk W (.cells #[.int .i64 op,.int .i64 rd,.int .i64 rs1,.int .i64 rs2,.int .i64 n] 147) none))
 have NE:=hid (show W.heap.size≠b from fun e=>by have:=h.blk.lt; omega)
 have IC:=hid (insC W (.int .i64 op) (.int .i64 rd) (.int .i64 rs1) (.int .i64 rs2) (.int .i64 n))
 have r1:=hid (fun W hW=>yj W0 b g (.slice ai ins.length ci) st vd vo rs1 W hW s1.1 s1.2)
 have r2:=hid (fun W hW=>yj W0 b g (.slice ai ins.length ci) st vd vo rs2 W hW s2.1 s2.2)
 have q1:=ym h.ok rs1
 have q2:=ym h.ok rs2
 have hp:=h.ok.pc
 obtain ⟨X,hX⟩:∃ X,X=Mc.doIt m ins op rd rs1 rs2 n st:=⟨_,rfl⟩
 rw [<- hX]
 have RX:=hid hX
 clear hX
 unfold insV
 subst hop
 replace RX:=hid (show X=Mc.set rd (Mc.computed 18 (Mc.reg st rs1) (Mc.reg st rs2)) st from RX.out)
 generalize Mc.reg st rs1=a at *
 generalize Mc.reg st rs2=bb at *
 have cC:=hid (fun W=>yaq 18 a bb W q1.1 q1.2 q2.1 q2.2 (by omega))
 have cS:=hid (fun v W hW=>ybi W0 b g (.slice ai ins.length ci) st vd vo rd v W hW d0.1 d0.2)
 clear h hI hT hin
 go_enter Tryz.func88,Tryz.ntmps88
 go_wp2_with fail
 generalize W.alloc (.cells #[.int .i64 18,.int .i64 rd,.int .i64 rs1,.int .i64 rs2,.int .i64 n] 147)=V at *
 generalize W.heap.size=ib at *
 obtain ⟨i0,i1,i2,i3,i4⟩:=IC.out
 refine (r1.out _ HA.out).mono ?_
 rintro e V1 ⟨rfl,hV⟩
 subst hV
 go_wp2_with fail
 refine (r2.out _ HA.out).mono ?_
 rintro e V1 ⟨rfl,hV⟩
 subst hV
 have HD:=hid (HA.out.grown (ye (World.grownBy.refl _ none) 1))
 have c35:=HA.out.c.2.2.2.1
 go_wp2
 go_region_with (first | (go_at_call 130; refine (cC.out _).mono ?_; rintro e w' ⟨rfl,rfl⟩) | (go_at_call 124; refine (cS.out _ _ HD.out).mono ?_; rintro e w' ⟨rfl,h2⟩))
 all_goals
  have H2:=hid h2
  clear h2
  go_wp2
  go_end0
  rw [RX.out]
  exact ⟨rfl,_,_,H2.out⟩
set_option maxRecDepth 100000 in
set_option maxHeartbeats 8000000 in
theorem yqx (W0:World) (b g:Nat) (ai:Option Addr) (ci:Nat) (ins:List Int) (st:Mc.St) (vd vo:Value) (m:Im.Img) (op rd rs1 rs2 n:Int) (W:World) (hpre:yax W0 b g ai ci ins st vd vo m rd rs1 rs2 n W) (hop:op=19) :
  Calls Tryz.prog 88 #[.pointer (some ⟨b,0,none⟩),insV op rd rs1 rs2 n] W fun e W'=>e = .returned (.tuple #[])/\yae W0 b g (.slice ai ins.length ci) (Mc.doIt m ins op rd rs1 rs2 n st) W':=by
 obtain ⟨h,hI,hT,hin,hl,d0,s1,s2,hn⟩:=hpre
 have HA:=hid (h.grown (ysk W (.cells #[.int .i64 op,.int .i64 rd,.int .i64 rs1,.int .i64 rs2,.int .i64 n] 147) none))
 have NE:=hid (show W.heap.size≠b from fun e=>by have:=h.blk.lt; omega)
 have IC:=hid (insC W (.int .i64 op) (.int .i64 rd) (.int .i64 rs1) (.int .i64 rs2) (.int .i64 n))
 have r1:=hid (fun W hW=>yj W0 b g (.slice ai ins.length ci) st vd vo rs1 W hW s1.1 s1.2)
 have r2:=hid (fun W hW=>yj W0 b g (.slice ai ins.length ci) st vd vo rs2 W hW s2.1 s2.2)
 have q1:=ym h.ok rs1
 have q2:=ym h.ok rs2
 have hp:=h.ok.pc
 obtain ⟨X,hX⟩:∃ X,X=Mc.doIt m ins op rd rs1 rs2 n st:=⟨_,rfl⟩
 rw [<- hX]
 have RX:=hid hX
 clear hX
 unfold insV
 subst hop
 replace RX:=hid (show X=Mc.set rd (Mc.computed 19 (Mc.reg st rs1) (Mc.reg st rs2)) st from RX.out)
 generalize Mc.reg st rs1=a at *
 generalize Mc.reg st rs2=bb at *
 have cC:=hid (fun W=>yaq 19 a bb W q1.1 q1.2 q2.1 q2.2 (by omega))
 have cS:=hid (fun v W hW=>ybi W0 b g (.slice ai ins.length ci) st vd vo rd v W hW d0.1 d0.2)
 clear h hI hT hin
 go_enter Tryz.func88,Tryz.ntmps88
 go_wp2_with fail
 generalize W.alloc (.cells #[.int .i64 19,.int .i64 rd,.int .i64 rs1,.int .i64 rs2,.int .i64 n] 147)=V at *
 generalize W.heap.size=ib at *
 obtain ⟨i0,i1,i2,i3,i4⟩:=IC.out
 refine (r1.out _ HA.out).mono ?_
 rintro e V1 ⟨rfl,hV⟩
 subst hV
 go_wp2_with fail
 refine (r2.out _ HA.out).mono ?_
 rintro e V1 ⟨rfl,hV⟩
 subst hV
 have HD:=hid (HA.out.grown (ye (World.grownBy.refl _ none) 1))
 have c35:=HA.out.c.2.2.2.1
 go_wp2
 go_region_with (first | (go_at_call 130; refine (cC.out _).mono ?_; rintro e w' ⟨rfl,rfl⟩) | (go_at_call 124; refine (cS.out _ _ HD.out).mono ?_; rintro e w' ⟨rfl,h2⟩))
 all_goals
  have H2:=hid h2
  clear h2
  go_wp2
  go_end0
  rw [RX.out]
  exact ⟨rfl,_,_,H2.out⟩
set_option maxRecDepth 100000 in
set_option maxHeartbeats 8000000 in
theorem yqi (W0:World) (b g:Nat) (ai:Option Addr) (ci:Nat) (ins:List Int) (st:Mc.St) (vd vo:Value) (m:Im.Img) (op rd rs1 rs2 n:Int) (W:World) (hpre:yax W0 b g ai ci ins st vd vo m rd rs1 rs2 n W) (hop:op=20) :
  Calls Tryz.prog 88 #[.pointer (some ⟨b,0,none⟩),insV op rd rs1 rs2 n] W fun e W'=>e = .returned (.tuple #[])/\yae W0 b g (.slice ai ins.length ci) (Mc.doIt m ins op rd rs1 rs2 n st) W':=by
 obtain ⟨h,hI,hT,hin,hl,d0,s1,s2,hn⟩:=hpre
 have HA:=hid (h.grown (ysk W (.cells #[.int .i64 op,.int .i64 rd,.int .i64 rs1,.int .i64 rs2,.int .i64 n] 147) none))
 have NE:=hid (show W.heap.size≠b from fun e=>by have:=h.blk.lt; omega)
 have IC:=hid (insC W (.int .i64 op) (.int .i64 rd) (.int .i64 rs1) (.int .i64 rs2) (.int .i64 n))
 have r1:=hid (fun W hW=>yj W0 b g (.slice ai ins.length ci) st vd vo rs1 W hW s1.1 s1.2)
 have r2:=hid (fun W hW=>yj W0 b g (.slice ai ins.length ci) st vd vo rs2 W hW s2.1 s2.2)
 have q1:=ym h.ok rs1
 have q2:=ym h.ok rs2
 have hp:=h.ok.pc
 obtain ⟨X,hX⟩:∃ X,X=Mc.doIt m ins op rd rs1 rs2 n st:=⟨_,rfl⟩
 rw [<- hX]
 have RX:=hid hX
 clear hX
 unfold insV
 subst hop
 replace RX:=hid (show X=Mc.set rd (Mc.computed 20 (Mc.reg st rs1) (Mc.reg st rs2)) st from RX.out)
 generalize Mc.reg st rs1=a at *
 generalize Mc.reg st rs2=bb at *
 have cC:=hid (fun W=>yaq 20 a bb W q1.1 q1.2 q2.1 q2.2 (by omega))
 have cS:=hid (fun v W hW=>ybi W0 b g (.slice ai ins.length ci) st vd vo rd v W hW d0.1 d0.2)
 clear h hI hT hin
 go_enter Tryz.func88,Tryz.ntmps88
 go_wp2_with fail
 generalize W.alloc (.cells #[.int .i64 20,.int .i64 rd,.int .i64 rs1,.int .i64 rs2,.int .i64 n] 147)=V at *
 generalize W.heap.size=ib at *
 obtain ⟨i0,i1,i2,i3,i4⟩:=IC.out
 refine (r1.out _ HA.out).mono ?_
 rintro e V1 ⟨rfl,hV⟩
 subst hV
 go_wp2_with fail
 refine (r2.out _ HA.out).mono ?_
 rintro e V1 ⟨rfl,hV⟩
 subst hV
 have HD:=hid (HA.out.grown (ye (World.grownBy.refl _ none) 1))
 have c35:=HA.out.c.2.2.2.1
 go_wp2
 go_region_with (first | (go_at_call 130; refine (cC.out _).mono ?_; rintro e w' ⟨rfl,rfl⟩) | (go_at_call 124; refine (cS.out _ _ HD.out).mono ?_; rintro e w' ⟨rfl,h2⟩))
 all_goals
  have H2:=hid h2
  clear h2
  go_wp2
  go_end0
  rw [RX.out]
  exact ⟨rfl,_,_,H2.out⟩
set_option maxRecDepth 100000 in
set_option maxHeartbeats 8000000 in
theorem yqd (W0:World) (b g:Nat) (ai:Option Addr) (ci:Nat) (ins:List Int) (st:Mc.St) (vd vo:Value) (m:Im.Img) (op rd rs1 rs2 n:Int) (W:World) (hpre:yax W0 b g ai ci ins st vd vo m rd rs1 rs2 n W) (hop:op=21) :
  Calls Tryz.prog 88 #[.pointer (some ⟨b,0,none⟩),insV op rd rs1 rs2 n] W fun e W'=>e = .returned (.tuple #[])/\yae W0 b g (.slice ai ins.length ci) (Mc.doIt m ins op rd rs1 rs2 n st) W':=by
 obtain ⟨h,hI,hT,hin,hl,d0,s1,s2,hn⟩:=hpre
 have HA:=hid (h.grown (ysk W (.cells #[.int .i64 op,.int .i64 rd,.int .i64 rs1,.int .i64 rs2,.int .i64 n] 147) none))
 have NE:=hid (show W.heap.size≠b from fun e=>by have:=h.blk.lt; omega)
 have IC:=hid (insC W (.int .i64 op) (.int .i64 rd) (.int .i64 rs1) (.int .i64 rs2) (.int .i64 n))
 have r1:=hid (fun W hW=>yj W0 b g (.slice ai ins.length ci) st vd vo rs1 W hW s1.1 s1.2)
 have r2:=hid (fun W hW=>yj W0 b g (.slice ai ins.length ci) st vd vo rs2 W hW s2.1 s2.2)
 have q1:=ym h.ok rs1
 have q2:=ym h.ok rs2
 have hp:=h.ok.pc
 obtain ⟨X,hX⟩:∃ X,X=Mc.doIt m ins op rd rs1 rs2 n st:=⟨_,rfl⟩
 rw [<- hX]
 have RX:=hid hX
 clear hX
 unfold insV
 subst hop
 replace RX:=hid (show X=Mc.set rd (Mc.computed 21 (Mc.reg st rs1) (Mc.reg st rs2)) st from RX.out)
 generalize Mc.reg st rs1=a at *
 generalize Mc.reg st rs2=bb at *
 have cC:=hid (fun W=>yaq 21 a bb W q1.1 q1.2 q2.1 q2.2 (by omega))
 have cS:=hid (fun v W hW=>ybi W0 b g (.slice ai ins.length ci) st vd vo rd v W hW d0.1 d0.2)
 clear h hI hT hin
 go_enter Tryz.func88,Tryz.ntmps88
 go_wp2_with fail
 generalize W.alloc (.cells #[.int .i64 21,.int .i64 rd,.int .i64 rs1,.int .i64 rs2,.int .i64 n] 147)=V at *
 generalize W.heap.size=ib at *
 obtain ⟨i0,i1,i2,i3,i4⟩:=IC.out
 refine (r1.out _ HA.out).mono ?_
 rintro e V1 ⟨rfl,hV⟩
 subst hV
 go_wp2_with fail
 refine (r2.out _ HA.out).mono ?_
 rintro e V1 ⟨rfl,hV⟩
 subst hV
 have HD:=hid (HA.out.grown (ye (World.grownBy.refl _ none) 1))
 have c35:=HA.out.c.2.2.2.1
 go_wp2
 go_region_with (first | (go_at_call 130; refine (cC.out _).mono ?_; rintro e w' ⟨rfl,rfl⟩) | (go_at_call 124; refine (cS.out _ _ HD.out).mono ?_; rintro e w' ⟨rfl,h2⟩))
 all_goals
  have H2:=hid h2
  clear h2
  go_wp2
  go_end0
  rw [RX.out]
  exact ⟨rfl,_,_,H2.out⟩
set_option maxRecDepth 100000 in
set_option maxHeartbeats 8000000 in
theorem yqa (W0:World) (b g:Nat) (ai:Option Addr) (ci:Nat) (ins:List Int) (st:Mc.St) (vd vo:Value) (m:Im.Img) (op rd rs1 rs2 n:Int) (W:World) (hpre:yax W0 b g ai ci ins st vd vo m rd rs1 rs2 n W) (hop:op=22) :
  Calls Tryz.prog 88 #[.pointer (some ⟨b,0,none⟩),insV op rd rs1 rs2 n] W fun e W'=>e = .returned (.tuple #[])/\yae W0 b g (.slice ai ins.length ci) (Mc.doIt m ins op rd rs1 rs2 n st) W':=by
 obtain ⟨h,hI,hT,hin,hl,d0,s1,s2,hn⟩:=hpre
 have HA:=hid (h.grown (ysk W (.cells #[.int .i64 op,.int .i64 rd,.int .i64 rs1,.int .i64 rs2,.int .i64 n] 147) none))
 have NE:=hid (show W.heap.size≠b from fun e=>by have:=h.blk.lt; omega)
 have IC:=hid (insC W (.int .i64 op) (.int .i64 rd) (.int .i64 rs1) (.int .i64 rs2) (.int .i64 n))
 have r1:=hid (fun W hW=>yj W0 b g (.slice ai ins.length ci) st vd vo rs1 W hW s1.1 s1.2)
 have r2:=hid (fun W hW=>yj W0 b g (.slice ai ins.length ci) st vd vo rs2 W hW s2.1 s2.2)
 have q1:=ym h.ok rs1
 have q2:=ym h.ok rs2
 have hp:=h.ok.pc
 obtain ⟨X,hX⟩:∃ X,X=Mc.doIt m ins op rd rs1 rs2 n st:=⟨_,rfl⟩
 rw [<- hX]
 have RX:=hid hX
 clear hX
 unfold insV
 subst hop
 replace RX:=hid (show X=Mc.set rd (Mc.computed 22 (Mc.reg st rs1) (Mc.reg st rs2)) st from RX.out)
 generalize Mc.reg st rs1=a at *
 generalize Mc.reg st rs2=bb at *
 have cC:=hid (fun W=>yaq 22 a bb W q1.1 q1.2 q2.1 q2.2 (by omega))
 have cS:=hid (fun v W hW=>ybi W0 b g (.slice ai ins.length ci) st vd vo rd v W hW d0.1 d0.2)
 clear h hI hT hin
 go_enter Tryz.func88,Tryz.ntmps88
 go_wp2_with fail
 generalize W.alloc (.cells #[.int .i64 22,.int .i64 rd,.int .i64 rs1,.int .i64 rs2,.int .i64 n] 147)=V at *
 generalize W.heap.size=ib at *
 obtain ⟨i0,i1,i2,i3,i4⟩:=IC.out
 refine (r1.out _ HA.out).mono ?_
 rintro e V1 ⟨rfl,hV⟩
 subst hV
 go_wp2_with fail
 refine (r2.out _ HA.out).mono ?_
 rintro e V1 ⟨rfl,hV⟩
 subst hV
 have HD:=hid (HA.out.grown (ye (World.grownBy.refl _ none) 1))
 have c35:=HA.out.c.2.2.2.1
 go_wp2
 go_region_with (first | (go_at_call 130; refine (cC.out _).mono ?_; rintro e w' ⟨rfl,rfl⟩) | (go_at_call 124; refine (cS.out _ _ HD.out).mono ?_; rintro e w' ⟨rfl,h2⟩))
 all_goals
  have H2:=hid h2
  clear h2
  go_wp2
  go_end0
  rw [RX.out]
  exact ⟨rfl,_,_,H2.out⟩
set_option maxRecDepth 100000 in
set_option maxHeartbeats 8000000 in
theorem yqf (W0:World) (b g:Nat) (ai:Option Addr) (ci:Nat) (ins:List Int) (st:Mc.St) (vd vo:Value) (m:Im.Img) (op rd rs1 rs2 n:Int) (W:World) (hpre:yax W0 b g ai ci ins st vd vo m rd rs1 rs2 n W) (hop:op=23) :
  Calls Tryz.prog 88 #[.pointer (some ⟨b,0,none⟩),insV op rd rs1 rs2 n] W fun e W'=>e = .returned (.tuple #[])/\yae W0 b g (.slice ai ins.length ci) (Mc.doIt m ins op rd rs1 rs2 n st) W':=by
 obtain ⟨h,hI,hT,hin,hl,d0,s1,s2,hn⟩:=hpre
 have HA:=hid (h.grown (ysk W (.cells #[.int .i64 op,.int .i64 rd,.int .i64 rs1,.int .i64 rs2,.int .i64 n] 147) none))
 have NE:=hid (show W.heap.size≠b from fun e=>by have:=h.blk.lt; omega)
 have IC:=hid (insC W (.int .i64 op) (.int .i64 rd) (.int .i64 rs1) (.int .i64 rs2) (.int .i64 n))
 have r1:=hid (fun W hW=>yj W0 b g (.slice ai ins.length ci) st vd vo rs1 W hW s1.1 s1.2)
 have r2:=hid (fun W hW=>yj W0 b g (.slice ai ins.length ci) st vd vo rs2 W hW s2.1 s2.2)
 have q1:=ym h.ok rs1
 have q2:=ym h.ok rs2
 have hp:=h.ok.pc
 obtain ⟨X,hX⟩:∃ X,X=Mc.doIt m ins op rd rs1 rs2 n st:=⟨_,rfl⟩
 rw [<- hX]
 have RX:=hid hX
 clear hX
 unfold insV
 subst hop
 replace RX:=hid (show X=Mc.set rd (Mc.computed 23 (Mc.reg st rs1) (Mc.reg st rs2)) st from RX.out)
 generalize Mc.reg st rs1=a at *
 generalize Mc.reg st rs2=bb at *
 have cC:=hid (fun W=>yaq 23 a bb W q1.1 q1.2 q2.1 q2.2 (by omega))
 have cS:=hid (fun v W hW=>ybi W0 b g (.slice ai ins.length ci) st vd vo rd v W hW d0.1 d0.2)
 clear h hI hT hin
 go_enter Tryz.func88,Tryz.ntmps88
 go_wp2_with fail
 generalize W.alloc (.cells #[.int .i64 23,.int .i64 rd,.int .i64 rs1,.int .i64 rs2,.int .i64 n] 147)=V at *
 generalize W.heap.size=ib at *
 obtain ⟨i0,i1,i2,i3,i4⟩:=IC.out
 refine (r1.out _ HA.out).mono ?_
 rintro e V1 ⟨rfl,hV⟩
 subst hV
 go_wp2_with fail
 refine (r2.out _ HA.out).mono ?_
 rintro e V1 ⟨rfl,hV⟩
 subst hV
 have HD:=hid (HA.out.grown (ye (World.grownBy.refl _ none) 1))
 have c35:=HA.out.c.2.2.2.1
 go_wp2
 go_region_with (first | (go_at_call 130; refine (cC.out _).mono ?_; rintro e w' ⟨rfl,rfl⟩) | (go_at_call 124; refine (cS.out _ _ HD.out).mono ?_; rintro e w' ⟨rfl,h2⟩))
 all_goals
  have H2:=hid h2
  clear h2
  go_wp2
  go_end0
  rw [RX.out]
  exact ⟨rfl,_,_,H2.out⟩
set_option maxRecDepth 100000 in
set_option maxHeartbeats 8000000 in
theorem yqg (W0:World) (b g:Nat) (ai:Option Addr) (ci:Nat) (ins:List Int) (st:Mc.St) (vd vo:Value) (m:Im.Img) (op rd rs1 rs2 n:Int) (W:World) (hpre:yax W0 b g ai ci ins st vd vo m rd rs1 rs2 n W) (hop:op=24) :
  Calls Tryz.prog 88 #[.pointer (some ⟨b,0,none⟩),insV op rd rs1 rs2 n] W fun e W'=>e = .returned (.tuple #[])/\yae W0 b g (.slice ai ins.length ci) (Mc.doIt m ins op rd rs1 rs2 n st) W':=by
 obtain ⟨h,hI,hT,hin,hl,d0,s1,s2,hn⟩:=hpre
 have HA:=hid (h.grown (ysk W (.cells #[.int .i64 op,.int .i64 rd,.int .i64 rs1,.int .i64 rs2,.int .i64 n] 147) none))
 have NE:=hid (show W.heap.size≠b from fun e=>by have:=h.blk.lt; omega)
 have IC:=hid (insC W (.int .i64 op) (.int .i64 rd) (.int .i64 rs1) (.int .i64 rs2) (.int .i64 n))
 have r1:=hid (fun W hW=>yj W0 b g (.slice ai ins.length ci) st vd vo rs1 W hW s1.1 s1.2)
 have r2:=hid (fun W hW=>yj W0 b g (.slice ai ins.length ci) st vd vo rs2 W hW s2.1 s2.2)
 have q1:=ym h.ok rs1
 have q2:=ym h.ok rs2
 have hp:=h.ok.pc
 obtain ⟨X,hX⟩:∃ X,X=Mc.doIt m ins op rd rs1 rs2 n st:=⟨_,rfl⟩
 rw [<- hX]
 have RX:=hid hX
 clear hX
 unfold insV
 subst hop
 replace RX:=hid (show X=Mc.set rd (Mc.computed 24 (Mc.reg st rs1) (Mc.reg st rs2)) st from RX.out)
 generalize Mc.reg st rs1=a at *
 generalize Mc.reg st rs2=bb at *
 have cC:=hid (fun W=>yaq 24 a bb W q1.1 q1.2 q2.1 q2.2 (by omega))
 have cS:=hid (fun v W hW=>ybi W0 b g (.slice ai ins.length ci) st vd vo rd v W hW d0.1 d0.2)
 clear h hI hT hin
 go_enter Tryz.func88,Tryz.ntmps88
 go_wp2_with fail
 generalize W.alloc (.cells #[.int .i64 24,.int .i64 rd,.int .i64 rs1,.int .i64 rs2,.int .i64 n] 147)=V at *
 generalize W.heap.size=ib at *
 obtain ⟨i0,i1,i2,i3,i4⟩:=IC.out
 refine (r1.out _ HA.out).mono ?_
 rintro e V1 ⟨rfl,hV⟩
 subst hV
 go_wp2_with fail
 refine (r2.out _ HA.out).mono ?_
 rintro e V1 ⟨rfl,hV⟩
 subst hV
 have HD:=hid (HA.out.grown (ye (World.grownBy.refl _ none) 1))
 have c35:=HA.out.c.2.2.2.1
 go_wp2
 go_region_with (first | (go_at_call 130; refine (cC.out _).mono ?_; rintro e w' ⟨rfl,rfl⟩) | (go_at_call 124; refine (cS.out _ _ HD.out).mono ?_; rintro e w' ⟨rfl,h2⟩))
 all_goals
  have H2:=hid h2
  clear h2
  go_wp2
  go_end0
  rw [RX.out]
  exact ⟨rfl,_,_,H2.out⟩
theorem yqH (W0:World) (b g:Nat) (ai:Option Addr) (ci:Nat) (ins:List Int) (st:Mc.St) (vd vo:Value) (m:Im.Img) (op rd rs1 rs2 n:Int) (W:World) (hpre:yax W0 b g ai ci ins st vd vo m rd rs1 rs2 n W) (hop:0<=op/\op<=25) :
  Calls Tryz.prog 88 #[.pointer (some ⟨b,0,none⟩),insV op rd rs1 rs2 n] W fun e W'=>e = .returned (.tuple #[])/\yae W0 b g (.slice ai ins.length ci) (Mc.doIt m ins op rd rs1 rs2 n st) W':=by
 rcases (show op=0\/op=1\/op=2\/op=3\/op=4\/op=5\/op=6\/op=7\/op=8\/op=9\/op=10\/op=11\/op=12\/op=13\/op=14\/op=15\/op=16\/op=17\/op=18\/op=19\/op=20\/op=21\/op=22\/op=23\/op=24\/op=25 by omega) with
  e | e | e | e | e | e | e | e | e | e | e | e | e | e | e | e | e | e | e | e | e | e | e | e | e | e
 ·exact yqB W0 b g ai ci ins st vd vo m op rd rs1 rs2 n W hpre e
 ·exact yrj W0 b g ai ci ins st vd vo m op rd rs1 rs2 n W hpre e
 ·exact yoZ W0 b g ai ci ins st vd vo m op rd rs1 rs2 n W hpre e
 ·exact yrs W0 b g ai ci ins st vd vo m op rd rs1 rs2 n W hpre e
 ·exact yqh W0 b g ai ci ins st vd vo m op rd rs1 rs2 n W hpre e
 ·exact yre W0 b g ai ci ins st vd vo m op rd rs1 rs2 n W hpre e
 ·exact yrp W0 b g ai ci ins st vd vo m op rd rs1 rs2 n W hpre e
 ·exact yrg W0 b g ai ci ins st vd vo m op rd rs1 rs2 n W hpre e
 ·exact yrq W0 b g ai ci ins st vd vo m op rd rs1 rs2 n W hpre e
 ·exact yqV W0 b g ai ci ins st vd vo m op rd rs1 rs2 n W hpre e
 ·exact yqt W0 b g ai ci ins st vd vo m op rd rs1 rs2 n W hpre e
 ·exact yrF W0 b g ai ci ins st vd vo m op rd rs1 rs2 n W hpre e
 ·exact yrY W0 b g ai ci ins st vd vo m op rd rs1 rs2 n W hpre e
 ·exact yqc W0 b g ai ci ins st vd vo m op rd rs1 rs2 n W hpre e
 ·exact yqG W0 b g ai ci ins st vd vo m op rd rs1 rs2 n W hpre e
 ·exact yqq W0 b g ai ci ins st vd vo m op rd rs1 rs2 n W hpre e
 ·exact yqw W0 b g ai ci ins st vd vo m op rd rs1 rs2 n W hpre e
 ·exact yqr W0 b g ai ci ins st vd vo m op rd rs1 rs2 n W hpre e
 ·exact yqo W0 b g ai ci ins st vd vo m op rd rs1 rs2 n W hpre e
 ·exact yqx W0 b g ai ci ins st vd vo m op rd rs1 rs2 n W hpre e
 ·exact yqi W0 b g ai ci ins st vd vo m op rd rs1 rs2 n W hpre e
 ·exact yqd W0 b g ai ci ins st vd vo m op rd rs1 rs2 n W hpre e
 ·exact yqa W0 b g ai ci ins st vd vo m op rd rs1 rs2 n W hpre e
 ·exact yqf W0 b g ai ci ins st vd vo m op rd rs1 rs2 n W hpre e
 ·exact yqg W0 b g ai ci ins st vd vo m op rd rs1 rs2 n W hpre e
 ·exact ypc W0 b g ai ci ins st vd vo m op rd rs1 rs2 n W hpre e
def resZ:Value:=.agg #[.int .i64 0,.int .i64 0,.slice none 0 0,.int .i64 0,.int .i64 0]
set_option maxRecDepth 100000 in
set_option maxHeartbeats 2000000 in
theorem yqC (g:Nat) (ai:Option Addr) (n ci:Nat) (fuel:Int) (w:World) (hl:16 < n) :
  Calls Tryz.prog 40 #[.pointer (some ⟨g,0,none⟩),.slice ai n ci,.int .i64 fuel] w fun e w'=>e = .returned (.tuple #[resZ,.int .i64 40])/\w.grownBy w' none:=by
 have d1:decide ((16:Int) < (n:Int))=true:=by simp; omega
 go_enter Tryz.func40,Tryz.ntmps40
 go_wp2
 refine bodyPost_ret (v:=.tuple #[resZ,.int .i64 40]) ?_ rfl ⟨rfl,ysk w (.cells resC 39) none⟩
 simp [results,Tryz.results40,go_sem,resZ]
set_option maxRecDepth 100000 in
set_option maxHeartbeats 2000000 in
theorem ynB (g:Nat) (ai:Option Addr) (n ci:Nat) (fuel:Int) (w:World) (hl:n<=16) (hf:fuel < 0\/65536 < fuel) :
  Calls Tryz.prog 40 #[.pointer (some ⟨g,0,none⟩),.slice ai n ci,.int .i64 fuel] w fun e w'=>e = .returned (.tuple #[resZ,.int .i64 41])/\w.grownBy w' none:=by
 have d1:decide ((16:Int) < (n:Int))=false:=by simp; omega
 by_cases h0:fuel < 0
 ·have d2:decide (fuel < 0)=true:=by simpa using h0
  clear hf h0
  go_enter Tryz.func40,Tryz.ntmps40
  go_wp2
  refine bodyPost_ret (v:=.tuple #[resZ,.int .i64 41]) ?_ rfl ⟨rfl,ysk w (.cells resC 39) none⟩
  simp [results,Tryz.results40,go_sem,resZ]
 ·have d2:decide (fuel < 0)=false:=by simpa using h0
  have d3:decide ((65536:Int) < fuel)=true:=by simp; omega
  clear hf h0
  go_enter Tryz.func40,Tryz.ntmps40
  go_wp2
  refine bodyPost_ret (v:=.tuple #[resZ,.int .i64 41]) ?_ rfl ⟨rfl,ysk w (.cells resC 39) none⟩
  simp [results,Tryz.results40,go_sem,resZ]
def ymc (W0:World) (m:Im.Img) (ins:List Int) (fuel:Int) (e:Ending) (w':World):Prop :=
 (16 < ins.length/\e = .returned (.tuple #[resZ,.int .i64 40])) \/
 (ins.length<=16/\(fuel < 0\/65536 < fuel)/\e = .returned (.tuple #[resZ,.int .i64 41])) \/
 (ins.length<=16/\0<=fuel/\fuel<=65536/\yoe W0 (Mc.run m ins fuel.toNat) e w')
theorem yos (g:Nat) (m:Im.Img) (ai:Option Addr) (ci:Nat) (ins:List Int) (fuel:Int) (w:World) (hI:yaj w g m) (hT:Im.Tame m) (hD:∀ i,0<=m.D.getD i 0/\m.D.getD i 0 < 4294967296) (hW:Im.Wordy m) (hin:yz w ai ins) (ht:Tabs w) :
  Calls Tryz.prog 40 #[.pointer (some ⟨g,0,none⟩),.slice ai ins.length ci,.int .i64 fuel] w fun e w'=>ymc w m ins fuel e w'/\w.grownBy w' none:=by
 by_cases hl:16 < ins.length
 ·exact (yqC g ai ins.length ci fuel w hl).mono fun e w' k=>⟨.inl ⟨hl,k.1⟩,k.2⟩
 by_cases hf:fuel < 0\/65536 < fuel
 ·exact (ynB g ai ins.length ci fuel w (by omega) hf).mono fun e w' k=>⟨.inr (.inl ⟨by omega,hf,k.1⟩),k.2⟩
 ·obtain ⟨k,rfl⟩:=Int.eq_ofNat_of_zero_le (show 0<=fuel by omega)
  exact (ypL g m ai ci ins k w hI hT hD (by omega) (by omega) hW hin ht (fun W0 b st vd vo op rd rs1 rs2 n W=>yqH W0 b g ai ci ins st vd vo m op rd rs1 rs2 n W)).mono fun e w' q=>⟨.inr (.inr ⟨by omega,by omega,by omega,q.1⟩),q.2⟩
set_option maxRecDepth 100000 in
set_option maxHeartbeats 4000000 in
theorem yjG (x g:Nat) (m:Im.Img) (ai:Option Addr) (ci:Nat) (ins:List Int) (fuel:Int) (w:World) (hx:w.cell? ⟨x,0,none⟩=some (.pointer (some ⟨g,0,none⟩))) (hI:yaj w g m) (hT:Im.Tame m) (hD:∀ i,0<=m.D.getD i 0/\m.D.getD i 0 < 4294967296) (hW:Im.Wordy m) (hin:yz w ai ins) (ht:Tabs w) :
  Calls Tryz.prog 26 #[.pointer (some ⟨x,0,none⟩),.slice ai ins.length ci,.int .i64 fuel] w fun e w'=>ymc w m ins fuel e w'/\w.grownBy w' none:=by
 have G0:=hid (ysk w (.cells resC 39) none)
 have R0:=hid (yc.new w resC 39)
 have hsz:(w.alloc (.cells resC 39)).heap.size=w.heap.size+1:=Array.size_push _
 have SZ:=hid hsz
 have c0:=yd hx G0.out
 have cR:=hid (yos g m ai ci ins fuel (w.alloc (.cells resC 39)) (hI.kept G0.out) hT hD hW (hin.kept (fun a v e=>yd e G0.out)) (ht.grown G0.out))
 unfold resC at G0 R0 c0 cR SZ
 clear hx hI hin ht hsz
 go_enter Tryz.func26,Tryz.ntmps26
 go_wp2_with fail
 refine cR.out.mono ?_
 rintro e V ⟨ht,hg⟩
 have G1:=hid (ya G0.out hg)
 have RV:=hid (R0.out.grown hg (by simp))
 have x0:=RV.out.cell 0
 have x1:=RV.out.cell 1
 have x2:=RV.out.cell 2
 have x3:=RV.out.cell 3
 have x4:=RV.out.cell 4
 simp only [ysf,ysg,yse] at x0 x1 x2 x3 x4
 have y0:=RV.out.free 0
 have y1:=RV.out.free 1
 have y2:=RV.out.free 2
 have y3:=RV.out.free 3
 have y4:=RV.out.free 4
 clear hg cR c0
 rcases ht with ⟨h1,rfl⟩ | ⟨h1,h2,rfl⟩ | ⟨h1,h2,h3,vo,rfl,ho⟩
 ·have H1:=hid h1
  clear h1
  unfold resZ
  go_wp2
  have RF:=yeS (w:=w) (.int .i64 0) (.int .i64 0) (.slice none 0 0) (.int .i64 0) (.int .i64 0) RV.out (Nat.le_refl _) G1.out (World.ownsRow_nil V 0 3 1) (by simp [Value.ownBlock])
  have h0:=RF.1.cell 0
  have h1:=RF.1.cell 1
  have h2:=RF.1.cell 2
  have h3:=RF.1.cell 3
  have h4:=RF.1.cell 4
  simp only [ysf,ysg,yse] at h0 h1 h2 h3 h4
  refine bodyPost_ret (v:=.tuple #[resZ,.int .i64 40]) ?_ rfl ⟨.inl ⟨H1.out,rfl⟩,RF.2.1⟩
  clear RF x0 x1 x2 x3 x4 y0 y1 y2 y3 y4
  generalize World.setCell _ _ _=WF at *
  simp [results,Tryz.results26,go_sem,resZ,h0,h1,h2,h3,h4]
 ·have H1:=hid h1
  have H2:=hid h2
  clear h1 h2
  unfold resZ
  go_wp2
  have RF:=yeS (w:=w) (.int .i64 0) (.int .i64 0) (.slice none 0 0) (.int .i64 0) (.int .i64 0) RV.out (Nat.le_refl _) G1.out (World.ownsRow_nil V 0 3 1) (by simp [Value.ownBlock])
  have h0:=RF.1.cell 0
  have h1:=RF.1.cell 1
  have h2:=RF.1.cell 2
  have h3:=RF.1.cell 3
  have h4:=RF.1.cell 4
  simp only [ysf,ysg,yse] at h0 h1 h2 h3 h4
  refine bodyPost_ret (v:=.tuple #[resZ,.int .i64 41]) ?_ rfl ⟨.inr (.inl ⟨H1.out,H2.out,rfl⟩),RF.2.1⟩
  clear RF x0 x1 x2 x3 x4 y0 y1 y2 y3 y4
  generalize World.setCell _ _ _=WF at *
  simp [results,Tryz.results26,go_sem,resZ,h0,h1,h2,h3,h4]
 ·have H1:=hid (And.intro h1 (And.intro h2 h3))
  clear h1 h2 h3
  obtain ⟨ao,co,rfl⟩:=yi ho
  have HO:=hid ho
  clear ho
  go_wp2
  have RF:=yeS (w:=w) (.int .i64 (Mc.run m ins fuel.toNat).ende) (.int .i64 (Mc.run m ins fuel.toNat).code) (.slice ao (Mc.run m ins fuel.toNat).out.length co) (.int .i64 (Mc.run m ins fuel.toNat).steps) (.int .i64 (Mc.run m ins fuel.toNat).read) RV.out (Nat.le_refl _) G1.out HO.out (fun j e=>by have:=(HO.out.lt j e).1; have:=SZ.out; omega)
  have h0:=RF.1.cell 0
  have h1:=RF.1.cell 1
  have h2:=RF.1.cell 2
  have h3:=RF.1.cell 3
  have h4:=RF.1.cell 4
  simp only [ysf,ysg,yse] at h0 h1 h2 h3 h4
  refine bodyPost_ret (v:=.tuple #[.agg #[.int .i64 (Mc.run m ins fuel.toNat).ende,.int .i64 (Mc.run m ins fuel.toNat).code,.slice ao (Mc.run m ins fuel.toNat).out.length co,.int .i64 (Mc.run m ins fuel.toNat).steps,.int .i64 (Mc.run m ins fuel.toNat).read],.int .i64 0]) ?_ rfl ⟨.inr (.inr ⟨H1.out.1,H1.out.2.1,H1.out.2.2,_,rfl,yW RF.2.2 (Nat.le_trans (Nat.le_succ _) (Nat.le_of_eq SZ.out.symm))⟩),RF.2.1⟩
  clear RF x0 x1 x2 x3 x4 y0 y1 y2 y3 y4
  generalize World.setCell _ _ _=WF at *
  simp [results,Tryz.results26,go_sem,h0,h1,h2,h3,h4]
instance (m:Im.Img):Decidable (Im.ImgOk m):=by unfold Im.ImgOk Im.Base Im.Meet Im.In; infer_instance
instance (l:List UInt8):Decidable (Im.IsImg l):=by unfold Im.IsImg Im.Full; infer_instance
def yfi (os:List Lk.Obj) (bt bf bd:Int) (ins:List Int) (out:List Int) (code:Int):Prop :=
 yjk (Ln.linkO os bt bf bd).2 0 0 []/\Im.IsImg (Ln.linkO os bt bf bd).1/\(Mc.run (Im.imgOf (Ln.linkO os bt bf bd).1) ins 5000).ende=1/\(Mc.run (Im.imgOf (Ln.linkO os bt bf bd).1) ins 5000).code=code/\(Mc.run (Im.imgOf (Ln.linkO os bt bf bd).1) ins 5000).out=out
instance (os:List Lk.Obj) (bt bf bd:Int) (ins:List Int) (out:List Int) (code:Int):Decidable (yfi os bt bf bd ins out code):=by unfold yfi; infer_instance
def wkT:List (List UInt8):=[
 [46,103,108,111,98,108,32,95,115,116,97,114,116,10,46,119,101,97,107,32,118,10,95,115,116,97,114,116,58,32,108,97,32,120,49,48,44,118,10,98,101,113,32,120,49,48,44,120,48,44,110,10,108,119,32,120,49,48,44,48,40,120,49,48,41,10,110,58,10,108,105,32,120,49,55,44,49,10,101,99,97,108,108,10,108,105,32,120,49,48,44,48,10,108,105,32,120,49,55,44,48,10,101,99,97,108,108,10],
 [46,100,97,116,97,10,46,119,101,97,107,32,118,10,118,58,32,46,119,111,114,100,32,49,10],
 [46,100,97,116,97,10,46,119,101,97,107,32,118,10,118,58,32,46,119,111,114,100,32,50,10],
 [46,100,97,116,97,10,46,103,108,111,98,108,32,118,10,118,58,32,46,119,111,114,100,32,51,10]]
def wkO (i:Nat):Lk.Obj:=(As.assemble (wkT.getD i [])).2
theorem ybV:wkT.length=4:=by decide +kernel
theorem ypP:∀ t∈wkT,(As.assemble t).1.1=0:=by decide +kernel
theorem ynO:(wkT.all fun t=>ykr (As.assemble t).2)=true:=by decide +kernel
theorem ygQ:∀ t∈wkT,yv (As.assemble t).2:=fun t ht=>ynd (List.all_eq_true.1 ynO t ht)
theorem wk0:yfi (Ln.takeAll [(false,[wkO 0])]) 4096 65536 131072 [] [0] 0:=by decide +kernel
theorem wk1:yfi (Ln.takeAll [(false,[wkO 0]),(false,[wkO 2]),(false,[wkO 1])]) 4096 65536 131072 [] [2] 0:=by decide +kernel
theorem wk2:yfi (Ln.takeAll [(false,[wkO 0]),(false,[wkO 1]),(false,[wkO 3]),(false,[wkO 2])]) 4096 65536 131072 [] [3] 0:=by decide +kernel
theorem wk3:yfi (Ln.takeAll [(false,[wkO 0]),(true,[wkO 3])]) 4096 65536 131072 [] [0] 0:=by decide +kernel
theorem wk4:yfK (Ln.takeAll [(false,[wkO 0]),(false,[wkO 3]),(false,[wkO 1]),(false,[wkO 3])]) 4096 65536 131072 33 3 [118]:=by decide +kernel
structure yjQ (w:World) (g:Nat) (cur:Array Value) (ms:List (List UInt8)):Prop where
 blk:yc w g cur 9
 cells:∀ i (h:i < ms.length),cur[i]?=some (.string (bs ms[i]))
structure StP (w:World) (b g:Nat) (cur:Array Value) (l:List UInt8) (W:World):Prop where
 wr:WrAt W b l
 own:yc W g cur 9
 gr:w.grownBy W none
 hb:b=w.heap.size
theorem StP.step {w W W':World} {b g:Nat} {cur:Array Value} {l l':List UInt8} (h:StP w b g cur l W) (hg:g < b) (hw:WrAt W' b l') (hk:Wk b W W'):StP w b g cur l' W' :=
 ⟨hw,hk.2 g cur 9 (by omega) (by decide) h.own,⟨hk.1.os.trans h.gr.os,hk.1.tape.trans h.gr.tape,hk.1.output.trans h.gr.output,Nat.le_trans h.gr.size hk.1.size,fun i hi hn=>(hk.1.block i (by have:=h.hb; omega)).trans (h.gr.block i hi hn)⟩,h.hb⟩
theorem StP.kept {w W W':World} {b g:Nat} {cur:Array Value} {l:List UInt8} (h:StP w b g cur l W) (hg:W.grownBy W' none):StP w b g cur l W':=by
 obtain ⟨ao,cap,h1,h2⟩:=h.wr
 exact ⟨⟨ao,cap,h1.grown hg (by simp),h2.kept hg (Decidable.em _)⟩,h.own.grown hg (by simp),ya h.gr hg,h.hb⟩
set_option maxRecDepth 100000 in
set_option maxHeartbeats 4000000 in
theorem ypb (g:Nat) (cur:Array Value) (cap:Nat) (ms:List (List UInt8)) (w:World) (ht:Tabs w) (hin:yjQ w g cur ms) (h1:1<=ms.length) (h6:ms.length<=6) (hok:∀ m∈ms,ybv m/\m.length<=65535) :
  Calls Tryz.prog 23 #[.slice (some ⟨g,0,none⟩) ms.length cap] w fun e w'=>e = .returned (.tuple #[.string (bs (arB ms)),.int .i64 0])/\w.grownBy w' none:=by
 have cV:=hid (fun W=>yeP ms.length W)
 have HT:=hid ht
 have HK:=hid hok
 have HC:=hid hin.cells
 have hgl:=hin.blk.lt
 have S0:Hid (StP w w.heap.size g cur [] (w.alloc (.cells #[.slice none 0 0] 57))):=⟨ygO w,hin.blk.grown (ysk _ _ none) (by simp),ysk _ _ none,rfl⟩
 clear ht hin hok
 go_enter Tryz.func23,Tryz.ntmps23
 go_wp2_with fail
 refine (cV.out _).mono ?_
 rintro e w1 ⟨tv,hw⟩
 obtain rfl:=ydG tv (by omega)
 rw [hw]
 clear tv hw w1 cV
 go_wp2_with fail
 generalize hbb:w.heap.size=b at *
 clear hbb
 refine Calls.at_world (StP w b g cur []) S0.out ?_
 clear S0
 intro V0 h0
 have S0:=hid h0
 clear h0
 refine (ydC b ⟨#[65,82]⟩ [] V0 S0.out.wr (by simp) (by decide)).mono ?_
 rintro e V1 ⟨rfl,hw,hk⟩
 have S1:=hid (S0.out.step hgl hw hk)
 clear S0 hw hk
 have E1:[] ++ sl ⟨#[65,82]⟩=[65,82]:=rfl
 rw [E1] at S1
 clear E1
 go_wp2_with fail
 refine (yA b (ms.length:Int) 1 1 rfl _ V1 S1.out.wr (by simp) (by omega) (by omega) (by omega)).mono ?_
 rintro e V2 ⟨rfl,hw,hk⟩
 have S2:=hid (S1.out.step hgl hw hk)
 clear S1 hw hk
 have LN:([65,82] ++ Lk.le (ms.length:Int) 1).length=3:=by rw [ysl,Lk.le_length]; rfl
 have FIN:=hid (show arB ms=([65,82] ++ Lk.le (ms.length:Int) 1) ++ ms.flatMap memB by unfold arB; rw [List.append_assoc])
 generalize [65,82] ++ Lk.le (ms.length:Int) 1=l0 at *
 go_wp2
 go_loopw [18] (fun i wr=>∃ k:Nat,k<=ms.length/\i = .int .i64 k/\StP w b g cur (l0 ++ (ms.take k).flatMap memB) wr) (fun i _=>ms.length - (intOf i).toNat)
 case atStart=>exact ⟨0,Nat.zero_le _,rfl,by simpa using S2.out⟩
 case round =>
  obtain ⟨k,hk,rfl,hst⟩:=hrel
  have ST:=hid hst
  clear hst S2
  by_cases hlt:k < ms.length
  ·have g1:(k:Int) < (ms.length:Int):=by omega
   have ck:=(ST.out.own.cell k).trans (HC.out k hlt)
   have KM:=HK.out _ (ysm hlt)
   have TK:=hid (yfI memB ms k hlt)
   have LE:=yec memB 65537 k ms (fun m hm=>by have:=(HK.out m hm).2; unfold memB; rw [ysl,Lk.le_length]; omega)
   have cO:=hid (fun W (hg:w.grownBy W none)=>yeI (bs ms[k]) W (HT.out.grown hg) (by rw [ybz]; omega))
   generalize ms[k]=m at *
   have hsz:(bs m).size=m.length:=ybz m
   rw [ydg] at cO
   generalize (ms.take k).flatMap memB=lk at *
   go_wp2_with fail
   refine (cO.out _ ST.out.gr).mono ?_
   rintro e W4 ⟨tv,h4⟩
   obtain rfl:=ydG tv KM.1
   have S4:=hid (ST.out.kept h4)
   clear tv h4 cO ST ck
   go_wp2_with fail
   refine (yA b (m.length:Int) 2 2 rfl _ W4 S4.out.wr (by rw [ysl]; omega) (by omega) (by omega) (by omega)).mono ?_
   rintro e W5 ⟨rfl,hw,hk5⟩
   have S5:=hid (S4.out.step hgl hw hk5)
   clear S4 hw hk5
   go_wp2_with fail
   refine (ydC b (bs m) _ W5 S5.out.wr (by rw [ysl,ysl,Lk.le_length]; omega) (by omega)).mono ?_
   rintro e W6 ⟨rfl,hw,hk6⟩
   have S6:=hid (S5.out.step hgl hw hk6)
   clear S5 hw hk6
   rw [ydg] at S6
   go_wp2
   go_roundw
   case rel=>exact ⟨k+1,by omega,by go_num,by rw [TK.out]; unfold memB; simpa [List.append_assoc] using S6.out⟩
   case measure=>simp [intOf]; omega
  ·obtain rfl:k=ms.length:=by omega
   have g3:decide ((ms.length:Int) < (ms.length:Int))=false:=by simp
   rw [List.take_length] at ST
   go_wp2_with fail
   refine (yfk b _ _ ST.out.wr).mono ?_
   rintro e w9 ⟨rfl,hw⟩
   rw [hw]
   clear hw w9
   go_wp2
   go_ret2
   exact ⟨by rw [FIN.out]; rfl,ST.out.gr⟩
set_option maxRecDepth 100000 in
set_option maxHeartbeats 1000000 in
theorem ynI (g:Nat) (cur:Array Value) (cap:Nat) (ms:List (List UInt8)) (w:World) (ht:Tabs w) (hin:yjQ w g cur ms) (h1:1<=ms.length) (h6:ms.length<=6) (hok:∀ m∈ms,ybv m/\m.length<=65535) :
  Calls Tryz.prog 15 #[.slice (some ⟨g,0,none⟩) ms.length cap] w fun e w'=>e = .returned (.tuple #[.string (bs (arB ms)),.int .i64 0])/\w.grownBy w' none:=by
 have cP:=hid (ypb g cur cap ms w ht hin h1 h6 hok)
 clear ht hin
 go_enter Tryz.func15,Tryz.ntmps15
 go_wp2_with fail
 refine cP.out.mono ?_
 rintro e W ⟨rfl,hg⟩
 have G:=hid hg
 clear hg cP
 go_wp2
 go_ret2
 exact ⟨rfl,G.out⟩
set_option maxRecDepth 100000 in
set_option maxHeartbeats 2000000 in
theorem ykP (ao bo:Option Addr) (ca cb:Nat) (xs:List Int) (w:World) (ha:yz w ao xs) (hb:yz w bo xs) (hl:xs.length<=65535) :
  Calls Tryz.prog 27 #[.slice ao xs.length ca,.slice bo xs.length cb] w fun e w'=>e = .returned (.bool true)/\w.grownBy w' none:=by
 have HA:=hid ha
 have HB:=hid hb
 clear ha hb
 go_enter Tryz.func27,Tryz.ntmps27
 go_wp2
 go_loopw [5] (fun i wr=>∃ k:Nat,k<=xs.length/\i = .int .i64 k/\w.grownBy wr none) (fun i _=>xs.length - (intOf i).toNat)
 case atStart=>exact ⟨0,Nat.zero_le _,rfl,World.grownBy.refl _ _⟩
 case round =>
  obtain ⟨k,hk,rfl,hgr⟩:=hrel
  have G:=hid hgr
  clear hgr
  by_cases hlt:k < xs.length
  ·have g1:(k:Int) < (xs.length:Int):=by omega
   obtain ⟨ga,oa,rfl,hca⟩:=HA.out (by omega)
   obtain ⟨gb,ob,rfl,hcb⟩:=HB.out (by omega)
   have c1:=yd (hca k hlt) G.out
   have c2:=yd (hcb k hlt) G.out
   generalize xs[k]=x at *
   have d1:(x == x)=true:=by simp
   have d2:(x != x)=false:=by simp
   clear hca hcb
   go_wp2
   go_quiet (fail)
   go_wp2
   go_roundw
   case rel=>exact ⟨k+1,by omega,by go_num,ye G.out _⟩
   case measure=>simp [intOf]; omega
  ·obtain rfl:k=xs.length:=by omega
   have g3:decide ((xs.length:Int) < (xs.length:Int))=false:=by simp
   go_wp2
   go_ret
   exact ⟨rfl,G.out⟩
set_option maxRecDepth 100000 in
set_option maxHeartbeats 2000000 in
theorem yfs (R:Nat) (ao bo:Option Addr) (ca cb:Nat) (xs:List Int) (code st rd:Int) (w:World) (hR:yc w R #[.int .i64 1,.int .i64 code,.slice ao xs.length ca,.int .i64 st,.int .i64 rd] 39) (ha:yz w ao xs) (hb:yz w bo xs) (hl:xs.length<=65535) :
  Calls Tryz.prog 19 #[.pointer (some ⟨R,0,none⟩),.slice bo xs.length cb,.int .i64 code] w fun e w'=>e = .returned (.bool true)/\w.grownBy w' none:=by
 have HR:=hid hR
 have c0:w.cell? ⟨R,0,none⟩=some (.int .i64 1):=hR.cell 0
 have c1:w.cell? ⟨R,1,none⟩=some (.int .i64 code):=hR.cell 1
 have c2:w.cell? ⟨R,2,none⟩=some (.slice ao xs.length ca):=hR.cell 2
 have cS:=hid (fun W (hg:w.grownBy W none)=>ykP ao bo ca cb xs W (ha.kept (fun a v e=>yd e hg)) (hb.kept (fun a v e=>yd e hg)) hl)
 clear ha hb hR
 go_enter Tryz.func19,Tryz.ntmps19
 go_wp2_with fail
 refine (cS.out _ (World.grownBy.refl _ _)).mono ?_
 rintro e V ⟨rfl,hg⟩
 have G:=hid hg
 have b0:=yd c0 hg
 have b1:=yd c1 hg
 have d1:(code == code)=true:=by simp
 clear hg cS c0 c1 c2
 go_wp2
 go_ret
 exact ⟨rfl,G.out⟩
theorem yfm {W:World} {X:Nat} {t:TypeId} (xs:List Int) (h:yc W X (xs.map (Value.int .i64)).toArray t):yz W (some ⟨X,0,none⟩) xs:=fun _=>⟨X,0,rfl,fun i hi=>by
 rw [Nat.zero_add,h.cell i,ysf,List.getElem?_map,yso hi]
 rfl⟩
theorem yeb (l:List UInt8) (p:Nat):0<=atL l p 4/\atL l p 4 < 4294967296:=by have:=yfY l p 4; simpa using this
theorem ynn (l:List UInt8):Im.Tame (Im.imgOf l):=by
 have h:=Im.n_le l
 have h2:=Im.two_range l 24
 refine ⟨yeb l 2,yeb l 6,yeb l 10,yeb l 14,⟨?_,?_,?_⟩,?_⟩
 ·simp only [Im.imgOf,Im.words_length]; omega
 ·simp only [Im.imgOf,Im.words_length]; omega
 ·simp only [Im.imgOf,Im.words_length]; omega
 ·simp only [Im.imgOf]; omega
theorem ygP (l:List UInt8) (p n i:Nat):0<=(Im.words l p n).getD i 0/\(Im.words l p n).getD i 0 < 4294967296:=by
 rw [ysw]
 by_cases h:i < (Im.words l p n).length
 ·rw [yso h]
  have hm:(Im.words l p n)[i]∈(List.range n).map (fun i=>atL l (p+4 * i) 4):=ysm h
  obtain ⟨j,-,hj⟩:=List.mem_map.1 hm
  rw [Option.getD_some,<- hj]
  exact yeb l _
 ·rw [List.getElem?_eq_none (by omega)]
  decide
set_option maxRecDepth 100000 in
set_option maxHeartbeats 8000000 in
theorem yeV (bt bf bd:Int) (af:Option Addr) (cf:Nat) (fs:List (List UInt8)) (xs:List (Bool×List Lk.Obj)) (ai:Option Addr) (ci:Nat) (ins:List Int) (out:List Int) (code:Int) (w:World) (hin:yda w af fs) (hsz:∀ f∈fs,f.length<=1048576) (hii:yz w ai ins) (hil:ins.length<=16) (ht:Tabs w) (h1:1<=fs.length) (h8:fs.length<=8) (hb:Im.Base bt/\Im.Base bf/\Im.Base bd) (hf:yfo fs xs) (hr:yfi (Ln.takeAll xs) bt bf bd ins out code) (hlen:(Ln.linkO (Ln.takeAll xs) bt bf bd).1.length<=1048576) :
  Calls Tryz.prog 18 #[.slice af fs.length cf,.agg #[.int .i64 bt,.int .i64 bf,.int .i64 bd],.slice ai ins.length ci] w fun e w'=>(∃ (ao:Option Addr) (ca:Nat) (st:Int),e = .returned (.tuple #[.agg #[.int .i64 1,.int .i64 code,.slice ao out.length ca,.int .i64 st,.int .i64 (Mc.run (Im.imgOf (Ln.linkO (Ln.takeAll xs) bt bf bd).1) ins 5000).read],.int .i64 ((Ln.linkO (Ln.takeAll xs) bt bf bd).1.length:Nat),.bool true])/\yz w' ao out)/\w.grownBy w' none:=by
 have HT:=hid ht
 have HI:=hid hin
 have HII:=hid hii
 have cL:=hid (fun W (hg:w.grownBy W none)=>yep bt bf bd af cf fs W (HI.out.kept hg) hsz (HT.out.grown hg) (by omega))
 have LF:=hid (fun e (h:ycO bt bf bd fs e)=>yhE h hb h1 h8 hf)
 obtain ⟨hr0,hr1,hr2,hr3,hr4⟩:=hr
 have EQ:Ln.linkO (Ln.takeAll xs) bt bf bd=((Ln.linkO (Ln.takeAll xs) bt bf bd).1,⟨0,0,[]⟩):=by
  obtain ⟨q1,q2,q3⟩:=hr0
  generalize Ln.linkO (Ln.takeAll xs) bt bf bd=q at *
  obtain ⟨tb,f⟩:=q
  obtain ⟨x,y,z⟩:=f
  simp only at q1 q2 q3
  rw [q1,q2,q3]
 have EF:(Ln.linkO (Ln.takeAll xs) bt bf bd).2=⟨0,0,[]⟩:=by rw [EQ]
 rw [EF] at LF
 generalize (Ln.linkO (Ln.takeAll xs) bt bf bd).1=tb at *
 have HR1:=hid hr1
 have HRX:=hid (And.intro hr2 (And.intro hr3 hr4))
 have tsz:(bs tb).size=tb.length:=ybz tb
 have cLd:=hid (fun W=>ynW (bs tb) W (by omega))
 have SB:=ydg tb
 clear hin ht EF EQ hr0 hr1 hr2 hr3 hr4 hii hf
 have hs1:(w.alloc (.cells #[.int .i64 bt,.int .i64 bf,.int .i64 bd] 35)).heap.size=w.heap.size+1:=Array.size_push _
 have A1:=ysk (w.alloc (.cells #[.int .i64 bt,.int .i64 bf,.int .i64 bd] 35)) (.cells #[.int .i64 0,.int .i64 0,.slice none 0 0,.int .i64 0,.int .i64 0] 39) none
 have G1:=hid (ya (ysk w (.cells #[.int .i64 bt,.int .i64 bf,.int .i64 bd] 35) none) A1)
 have BR:=hid (yc.new (w.alloc (.cells #[.int .i64 bt,.int .i64 bf,.int .i64 bd] 35)) #[.int .i64 0,.int .i64 0,.slice none 0 0,.int .i64 0,.int .i64 0] 39)
 rw [hs1] at BR
 clear A1 hs1
 go_enter Tryz.func18,Tryz.ntmps18
 go_wp2_with fail
 generalize (w.alloc (.cells #[.int .i64 bt,.int .i64 bf,.int .i64 bd] 35)).alloc (.cells #[.int .i64 0,.int .i64 0,.slice none 0 0,.int .i64 0,.int .i64 0] 39)=W1 at *
 have hRw:w.heap.size<=w.heap.size+1:=by omega
 generalize w.heap.size+1=R at *
 refine (cL.out _ G1.out).mono ?_
 rintro e V1 ⟨hret,h2⟩
 obtain rfl:=LF.out e hret
 have A2:=ysk V1 (.cells #[.int .i64 0,.int .i64 0,.string (bs [])] 45) none
 have G2:=hid (ya (ya G1.out h2) A2)
 have BR2:=hid (BR.out.grown (ya h2 A2) (by simp))
 clear hret h2 A2 cL LF BR G1
 unfold lfA
 dsimp only
 go_wp2_with fail
 generalize V1.alloc (.cells #[.int .i64 0,.int .i64 0,.string (bs [])] 45)=V2 at *
 refine (cLd.out _).mono ?_
 rintro e V3 ⟨hld,h3⟩
 have G3:=hid (ya G2.out h3)
 have BR3:=hid (BR2.out.grown h3 (by simp))
 clear h3 cLd BR2 G2
 unfold yot at hld
 rw [SB] at hld
 rcases hld with ⟨-,x,rfl,g,hx,hI⟩ | ⟨hno,-⟩
 case inr=>exact (hno HR1.out).elim
 have cR:=hid (yjG x g (Im.imgOf tb) ai ci ins 5000 V3 (hx.cell 0) hI (ynn tb) (fun i=>ygP _ _ _ i) ⟨fun i=>ygP _ _ _ i,fun i=>ygP _ _ _ i⟩ (HII.out.kept (fun a v e=>yd e G3.out)) (HT.out.grown G3.out))
 clear hx hI HR1 SB
 go_wp2_with fail
 refine cR.out.mono ?_
 rintro e V4 ⟨hrt,h4⟩
 rcases hrt with ⟨h,-⟩ | ⟨-,h,-⟩ | ⟨-,-,-,vo,rfl,ho⟩
 case inl=>omega
 case inr.inl=>omega
 have E5:(5000:Int).toNat=5000:=rfl
 rw [E5] at ho ⊢
 have HRX2:=HRX.out
 generalize hs:Mc.run (Im.imgOf tb) ins 5000=s at *
 have HS:=hid hs
 clear hs
 obtain ⟨m1,m2,m3,m4,m5,m6,m7,m8,m9⟩:=s
 simp only at HRX2 ho ⊢
 obtain ⟨q1,q2,q3⟩:=HRX2
 subst q1 q2 q3
 obtain ⟨ao,ca,rfl⟩:=yi ho
 have A5:=ysk V4 (.cells #[.int .i64 1,.int .i64 m6,.slice ao m7.length ca,.int .i64 m8,.int .i64 m9] 39) none
 have G5:=hid (ya (ya G3.out h4) A5)
 have BR5:=hid (BR3.out.grown (ya h4 A5) (by simp))
 have BX:=hid (yc.new V4 #[.int .i64 1,.int .i64 m6,.slice ao m7.length ca,.int .i64 m8,.int .i64 m9] 39)
 have HO:=hid (ho.kept A5 (Decidable.em _))
 have hne:R≠V4.heap.size:=by have:=BR3.out.lt; have:=h4.size; omega
 clear h4 ho A5 cR BR3 G3 HRX
 have z0:(V4.alloc (.cells #[.int .i64 1,.int .i64 m6,.slice ao m7.length ca,.int .i64 m8,.int .i64 m9] 39)).cell? ⟨R,0,none⟩=some (.int .i64 0):=BR5.out.cell 0
 have z1:(V4.alloc (.cells #[.int .i64 1,.int .i64 m6,.slice ao m7.length ca,.int .i64 m8,.int .i64 m9] 39)).cell? ⟨R,1,none⟩=some (.int .i64 0):=BR5.out.cell 1
 have z2:(V4.alloc (.cells #[.int .i64 1,.int .i64 m6,.slice ao m7.length ca,.int .i64 m8,.int .i64 m9] 39)).cell? ⟨R,2,none⟩=some (.slice none 0 0):=BR5.out.cell 2
 have z3:(V4.alloc (.cells #[.int .i64 1,.int .i64 m6,.slice ao m7.length ca,.int .i64 m8,.int .i64 m9] 39)).cell? ⟨R,3,none⟩=some (.int .i64 0):=BR5.out.cell 3
 have z4:(V4.alloc (.cells #[.int .i64 1,.int .i64 m6,.slice ao m7.length ca,.int .i64 m8,.int .i64 m9] 39)).cell? ⟨R,4,none⟩=some (.int .i64 0):=BR5.out.cell 4
 have f0:=BR5.out.free 0
 have f1:=BR5.out.free 1
 have f2:=BR5.out.free 2
 have f3:=BR5.out.free 3
 have f4:=BR5.out.free 4
 go_wp2
 have GS:=World.grownBy.trans (World.grownBy.trans (World.grownBy.trans (World.grownBy.trans (yf (V4.alloc (.cells #[.int .i64 1,.int .i64 m6,.slice ao m7.length ca,.int .i64 m8,.int .i64 m9] 39)) R 0 (.int .i64 1)) (yf _ R 1 (.int .i64 m6))) (yf _ R 2 (.slice ao m7.length ca))) (yf _ R 3 (.int .i64 m8))) (yf _ R 4 (.int .i64 m9))
 have OI:=yz.of_own (yy HO.out GS (RowT.blk BR5.out) (by decide))
 have F:=((((BR5.out.set 0 (.int .i64 1)).set 1 (.int .i64 m6)).set 2 (.slice ao m7.length ca)).set 3 (.int .i64 m8)).set 4 (.int .i64 m9)
 have h0:=F.cell 0
 have h1:=F.cell 1
 have h2:=F.cell 2
 have h3:=F.cell 3
 have h4:=F.cell 4
 simp only [ysj,ysh,ysi,ysf,ysg,yse] at h0 h1 h2 h3 h4
 refine bodyPost_ret (v:=.tuple #[.agg #[.int .i64 1,.int .i64 m6,.slice ao m7.length ca,.int .i64 m8,.int .i64 m9],.int .i64 (tb.length:Nat),.bool true]) ?_ rfl ⟨⟨ao,ca,m8,by rw [HS.out],OI⟩,yey G5.out _ hRw _ _ _ _ _⟩
 clear F z0 z1 z2 z3 z4 f0 f1 f2 f3 f4 OI GS
 generalize World.setCell _ _ _=WF at *
 simp [results,Tryz.results18,go_sem,h0,h1,h2,h3,h4]
end Go.Proofs.YtnfgdlkiialnnaaGreatDoor

namespace Go.Proofs.YtnfgdlkiialnnaaGreatDoor
open Go.ChangeShapes Go.WideShapes Go.ChangeAt Go.RowKit
theorem yls:ownKnob Tryz.prog.godebug=none:=by kernel_rfl
theorem ypO : Tryz.prog.globalNamed "linker/instr.forms" = some 0 := by kernel_rfl
theorem gFix : Tryz.prog.globalNamed "linker/instr.fixed" = some 1 := by kernel_rfl
theorem gNam : Tryz.prog.globalNamed "linker/instr.names" = some 2 := by kernel_rfl
theorem yoi:(Tryz.prog.globals[0]?).map (·.type)=some 176:=by kernel_rfl
theorem ypa:(Tryz.prog.globals[1]?).map (·.type)=some 176:=by kernel_rfl
theorem yoD:(Tryz.prog.globals[2]?).map (·.type)=some 186:=by kernel_rfl
theorem yjD:Tryz.prog.cellsOf 176=26:=by kernel_rfl
theorem yjr:Tryz.prog.cellsOf 3=1:=by kernel_rfl
theorem yob:Tryz.prog.cellsOf 186=26:=by kernel_rfl
theorem ypd:Tryz.prog.cellsOf 9=1:=by kernel_rfl
theorem ynZ:Tryz.prog.underlying 176=some (.array 26 3):=by kernel_rfl
theorem yqe:Tryz.prog.underlying 186=some (.array 26 9):=by kernel_rfl
theorem yrm:Tryz.prog.underlying 9=some .string:=by kernel_rfl
theorem yhH:Tryz.prog.underlying 3=some (.int .i64):=by kernel_rfl
def yhM {H:Type} (zs:List (List UInt8)):DataW H:=.agg (zs.map fun z=>.lit (.string z))
theorem yiS {H:Type} {enc:TypeId×Value->H} {P:Program} {w:World} {base:Nat} {sp:Nat->Bool} {held:Bool} {fuel:Nat} {t e:TypeId} {n:Nat} {cs:List Value} {zs:List (List UInt8)} {p:List MemPlace}
  (ht:P.underlying t=some (.array n e)) (he:P.underlying e=some .string) (hce:P.cellsOf e=1) (hct:P.cellsOf t=n)
  (h:DataW.trod enc P w base sp held fuel t cs=some (yhM zs,p)):cs=zs.map fun z=>Value.string (bs z):=by
 cases fuel with
 | zero=>simp [DataW.trod] at h
 | succ fuel =>
  simp only [DataW.trod,ht,hce,hct,Nat.mul_one] at h
  split at h
  ·rename_i hl
   obtain ⟨xs,hm,hx⟩:=Option.map_eq_some_iff.1 h
   have hxs:xs.map (·.1)=zs.map fun z=>(DataW.lit (.string z):DataW H):=by
    have:=congrArg Prod.fst hx
    simpa [yhM] using this
   have hxl:xs.length=n:=by simpa using Lib.mapM_length hm
   have hzl:zs.length=n:=by
    have:=congrArg List.length hxs
    simp at this
    omega
   apply List.ext_getElem?
   intro i
   by_cases hi:i < n
   ·obtain ⟨b,hb,hf⟩:=Lib.mapM_at hm i i (by simp [hi])
    obtain ⟨z,hc,rfl,_⟩:=DataW.trod_string he hf
    have h1:cs[i]?=some (.string z):=by
     have:=congrArg (·[0]?) hc
     simpa [List.getElem?_take,List.getElem?_drop] using this
    have h2:(xs.map (·.1))[i]?=some (DataW.lit (.string z.data.toList):DataW H):=by simp [hb]
    rw [hxs] at h2
    simp only [List.getElem?_map,Option.map_eq_some_iff,DataW.lit.injEq,Lit.string.injEq] at h2
    obtain ⟨z',hz',rfl⟩:=h2
    have hbz:bs z.data.toList=z:=yrU z
    simp [h1,hz',hbz]
   ·rw [List.getElem?_eq_none (by omega),List.getElem?_eq_none (by simp; omega)]
  ·cases h
theorem yip {W:World} {b o:Nat} {v:Value} (h:W.cell? ⟨b,o,none⟩=some v):b < W.heap.size:=by
 by_cases hb:b < W.heap.size
 ·exact hb
 ·exfalso
  simp only [World.cell?] at h
  rw [Array.getElem?_eq_none (by omega)] at h
  cases h
theorem yiQ {W : World} (h : laidMet Tryz.prog [("linker/instr.forms", Lib.tabData .i64 ybt), ("linker/instr.fixed", Lib.tabData .i64 ycC), ("linker/instr.names", yhM As.names)] W) : Tabs W ∧ NTab W ∧ 3 ≤ W.heap.size := by
 have t1 : Lib.TabIs Tryz.prog W "linker/instr.forms" .i64 ybt := Lib.tabIs_of_head ypO yoi ynZ yhH yjr yjD h
 obtain ⟨ps,⟨g',t',cs,fuel,p,q,hg',ht',hvar,hd,⟨g2,t2,cs2,fuel2,p2,q2,hg2,ht2,hvar2,hd2,⟨g3,t3,cs3,fuel3,p3,q3,hg3,ht3,hvar3,hd3,_,_⟩,_⟩,_⟩,_⟩:=h
 obtain rfl:=Option.some.inj (gFix.symm.trans hg2)
 obtain rfl:=Option.some.inj (ypa.symm.trans ht2)
 obtain rfl:=Option.some.inj (gNam.symm.trans hg3)
 obtain rfl:=Option.some.inj (yoD.symm.trans ht3)
 have e2 : Lib.TabIs Tryz.prog W "linker/instr.fixed" .i64 ycC := by
  unfold Lib.TabIs
  rw [hvar2,<- Lib.cells_of_tab ynZ yhH yjr yjD hd2]
 have e3 : W.var? Tryz.prog "linker/instr.names" = some (As.names.map fun z => Value.string (bs z)).toArray := by
  rw [hvar3,<- yiS yqe yrm ypd yob hd3]
 have T:Tabs W:=⟨fun i hi=>t1.cell ypO i hi,fun i hi=>e2.cell gFix i hi⟩
 have N:NTab W:=by
  intro i hi
  have hl:As.names.length=26:=by decide
  have:=World.var?_cell gNam e3 i
  rw [this]
  simp [List.getD,hl,hi]
 refine ⟨T,N,?_⟩
 have a:=yip (T.1 0 (by decide))
 have b:=yip (T.2 0 (by decide))
 have c:=yip (N 0 (by decide))
 omega
theorem yiI {W W':World} (h:W.grownBy W' none) (may:MemPlace->Prop):W.keptBut W' may:=by
 refine World.keptBut_mono (fun _ f=>f.elim) (?_:W.keptBut W' (fun _=>False))
 refine ⟨h.os,h.output,fun i hi=>?_⟩
 rw [h.block i hi (by simp)]
 cases hb:W.heap[i]? with
 | none=>trivial
 | some o=>cases o <;> simp
def ynz (zs:List Int):Obj->Obj
 | .cells _ t frozen=>.cells (zs.map (Value.int .i64)).toArray t frozen
 | o=>o
def yqI (zs:List (List UInt8)):Obj->Obj
 | .cells _ t frozen=>.cells (zs.map fun z=>Value.string (bs z)).toArray t frozen
 | o=>o
noncomputable def yga (os:Os):World :=
 { World.holding Tryz.prog os ⟨#[],#[],[]⟩ with heap:=(((World.holding Tryz.prog os ⟨#[],#[],[]⟩).heap.modify 0 (ynz ybt)).modify 1 (ynz ycC)).modify 2 (yqI As.names) }
end Go.Proofs.YtnfgdlkiialnnaaGreatDoor

namespace Go.Proofs.YtnfgdlkiialnnaaGreatDoor
open Go.RowKit
namespace Bd
def head:List UInt8:=[46,103,108,111,98,108,32,95,115,116,97,114,116,10,95,115,116,97,114,116,58,32,108,105,32,120,49,48,44,48,10]
def call:List UInt8:=[99,97,108,108,32,102,10]
def border:List UInt8:=[46,97,108,105,103,110,32,51,10,97,100,100,105,32,120,49,48,44,120,49,48,44,49,48,48,10]
def over:List UInt8:=[106,32,111,118,101,114,10,46,97,108,105,103,110,32,52,10,111,118,101,114,58,32,108,97,32,120,49,49,44,111,118,101,114,10,97,110,100,105,32,120,49,49,44,120,49,49,44,49,53,10,97,100,100,32,120,49,48,44,120,49,48,44,120,49,49,10]
def finish:List UInt8:=[108,105,32,120,49,55,44,49,10,101,99,97,108,108,10,108,105,32,120,49,48,44,48,10,108,105,32,120,49,55,44,48,10,101,99,97,108,108,10]
def far:List UInt8:=[46,102,97,114,10]
def text (j:Nat):Nat->List UInt8
 | 0=>head
 | i+1=>if i % 4=j then text j i ++ call ++ border else text j i ++ call
def main (k j:Nat) (f:Bool):List UInt8:=if f then far ++ (text j k ++ over) ++ finish else (text j k ++ over) ++ finish
def want (j k:Nat):Nat->Int
 | 0=>k
 | i+1=>if i % 4=j then want j k i+100 else want j k i
def one:List UInt8:=[110,111,112,10,46,102,97,114,10,110,111,112,10]
def three:List UInt8:=[102,58,32,97,100,100,105,32,120,49,48,44,120,49,48,44,49,10,114,101,116,10,46,103,108,111,98,108,32,102,10]
end Bd
def asmB2 (t:List UInt8):Bool:=decide ((As.assemble t).1.1=0) && ykr (As.assemble t).2
def BdRuns (k j:Nat) (f:Bool):Prop:=asmB2 (Bd.main k j f)=true/\yfi (Ln.takeAll [(false,[(As.assemble Bd.one).2]),(false,[(As.assemble (Bd.main k j f)).2]),(false,[(As.assemble Bd.three).2])]) 4096 65536 131072 [] [Bd.want j k k] 0
instance (k j:Nat) (f:Bool):Decidable (BdRuns k j f):=by unfold BdRuns; infer_instance
theorem bd_one:asmB2 Bd.one=true/\asmB2 Bd.three=true:=by decide +kernel
theorem bd_0_true:∀ k,k < 12->BdRuns k 0 true:=by decide +kernel
theorem bd_0_false:∀ k,k < 12->BdRuns k 0 false:=by decide +kernel
theorem bd_1_true:∀ k,k < 12->BdRuns k 1 true:=by decide +kernel
theorem bd_1_false:∀ k,k < 12->BdRuns k 1 false:=by decide +kernel
theorem bd_2_true:∀ k,k < 12->BdRuns k 2 true:=by decide +kernel
theorem bd_2_false:∀ k,k < 12->BdRuns k 2 false:=by decide +kernel
theorem bd_3_true:∀ k,k < 12->BdRuns k 3 true:=by decide +kernel
theorem bd_3_false:∀ k,k < 12->BdRuns k 3 false:=by decide +kernel
theorem bd_all (k j:Nat) (f:Bool) (hk:k < 12) (hj:j < 4):BdRuns k j f:=by
 rcases (show j=0\/j=1\/j=2\/j=3 by omega) with rfl | rfl | rfl | rfl
 ·cases f
  ·exact bd_0_false k hk
  ·exact bd_0_true k hk
 ·cases f
  ·exact bd_1_false k hk
  ·exact bd_1_true k hk
 ·cases f
  ·exact bd_2_false k hk
  ·exact bd_2_true k hk
 ·cases f
  ·exact bd_3_false k hk
  ·exact bd_3_true k hk
end Go.Proofs.YtnfgdlkiialnnaaGreatDoor
