/- Walks over package machine: what an instruction does; orders that are drawn. -/
/- Walks over package machine: a step. -/
/- Walks: Run, whatever is handed in. -/
/- Walks: Run of a machine. -/
/- Weakly: the plain side. -/
/- Bordered: the plain side. -/
/- Sums: the plain side: a machine over numbers of the input that are not known. -/
/- Archived: the plain side. -/
/- Packing, running: what the keeps call. -/
/- Archived: what it calls. -/
/- Numbers in digits: what the keeps write. -/
import Derived.Test.YtpgklkhgfcjceaaGreatDoorG14
import Derived.Test.YtpgklkhgfcjceaaGreatDoorG26
import Derived.Test.YtpgklkhgfcjceaaGreatDoorG25
import Derived.Test.YtpgklkhgfcjceaaGreatDoorG09
namespace Go.Proofs.YtpgklkhgfcjceaaGreatDoor
open Go.RowKit
set_option maxRecDepth 100000 in
set_option maxHeartbeats 8000000 in
theorem yqk (W0:World) (b g:Nat) (ai:Option Addr) (ci:Nat) (ins:List Int) (st:Mc.St) (vd vo:Value) (m:Im.Img) (op rd rs1 rs2 n:Int) (W:World) (hpre:yas W0 b g ai ci ins st vd vo m rd rs1 rs2 n W) (hop:op=18) :
  Calls Tryz.prog 83 #[.pointer (some ⟨b,0,none⟩),insV op rd rs1 rs2 n] W fun e W'=>e = .returned (.tuple #[])/\yac W0 b g (.slice ai ins.length ci) (Mc.doIt m ins op rd rs1 rs2 n st) W':=by
 obtain ⟨h,hI,hT,hin,hl,d0,s1,s2,hn⟩:=hpre
 have HA:=hid (h.grown (ysp W (.cells #[.int .i64 op,.int .i64 rd,.int .i64 rs1,.int .i64 rs2,.int .i64 n] 143) none))
 have NE:=hid (show W.heap.size≠b from fun e=>by have:=h.blk.lt; omega)
 have IC:=hid (insC W (.int .i64 op) (.int .i64 rd) (.int .i64 rs1) (.int .i64 rs2) (.int .i64 n))
 have r1:=hid (fun W hW=>yj W0 b g (.slice ai ins.length ci) st vd vo rs1 W hW s1.1 s1.2)
 have r2:=hid (fun W hW=>yj W0 b g (.slice ai ins.length ci) st vd vo rs2 W hW s2.1 s2.2)
 have q1:=ym h.ok rs1
 have q2:=ym h.ok rs2
 have hp:=h.ok.pc
 obtain ⟨X,hX⟩:∃ X,X=Mc.doIt m ins op rd rs1 rs2 n st:=⟨_,rfl⟩
 rw [<- hX]
 have RX:=hid hX
 clear hX
 unfold insV
 subst hop
 replace RX:=hid (show X=Mc.set rd (Mc.computed 18 (Mc.reg st rs1) (Mc.reg st rs2)) st from RX.out)
 generalize Mc.reg st rs1=a at *
 generalize Mc.reg st rs2=bb at *
 have cC:=hid (fun W=>yan 18 a bb W q1.1 q1.2 q2.1 q2.2 (by omega))
 have cS:=hid (fun v W hW=>ybf W0 b g (.slice ai ins.length ci) st vd vo rd v W hW d0.1 d0.2)
 clear h hI hT hin
 go_enter Tryz.func83,Tryz.ntmps83
 go_wp2_with fail
 generalize W.alloc (.cells #[.int .i64 18,.int .i64 rd,.int .i64 rs1,.int .i64 rs2,.int .i64 n] 143)=V at *
 generalize W.heap.size=ib at *
 obtain ⟨i0,i1,i2,i3,i4⟩:=IC.out
 refine (r1.out _ HA.out).mono ?_
 rintro e V1 ⟨rfl,hV⟩
 subst hV
 go_wp2_with fail
 refine (r2.out _ HA.out).mono ?_
 rintro e V1 ⟨rfl,hV⟩
 subst hV
 have HD:=hid (HA.out.grown (ye (World.grownBy.refl _ none) 1))
 have c35:=HA.out.c.2.2.2.1
 go_wp2
 go_region_with (first | (go_at_call 125; refine (cC.out _).mono ?_; rintro e w' ⟨rfl,rfl⟩) | (go_at_call 119; refine (cS.out _ _ HD.out).mono ?_; rintro e w' ⟨rfl,h2⟩))
 all_goals
  have H2:=hid h2
  clear h2
  go_wp2
  go_end0
  rw [RX.out]
  exact ⟨rfl,_,_,H2.out⟩
set_option maxRecDepth 100000 in
set_option maxHeartbeats 8000000 in
theorem yql (W0:World) (b g:Nat) (ai:Option Addr) (ci:Nat) (ins:List Int) (st:Mc.St) (vd vo:Value) (m:Im.Img) (op rd rs1 rs2 n:Int) (W:World) (hpre:yas W0 b g ai ci ins st vd vo m rd rs1 rs2 n W) (hop:op=19) :
  Calls Tryz.prog 83 #[.pointer (some ⟨b,0,none⟩),insV op rd rs1 rs2 n] W fun e W'=>e = .returned (.tuple #[])/\yac W0 b g (.slice ai ins.length ci) (Mc.doIt m ins op rd rs1 rs2 n st) W':=by
 obtain ⟨h,hI,hT,hin,hl,d0,s1,s2,hn⟩:=hpre
 have HA:=hid (h.grown (ysp W (.cells #[.int .i64 op,.int .i64 rd,.int .i64 rs1,.int .i64 rs2,.int .i64 n] 143) none))
 have NE:=hid (show W.heap.size≠b from fun e=>by have:=h.blk.lt; omega)
 have IC:=hid (insC W (.int .i64 op) (.int .i64 rd) (.int .i64 rs1) (.int .i64 rs2) (.int .i64 n))
 have r1:=hid (fun W hW=>yj W0 b g (.slice ai ins.length ci) st vd vo rs1 W hW s1.1 s1.2)
 have r2:=hid (fun W hW=>yj W0 b g (.slice ai ins.length ci) st vd vo rs2 W hW s2.1 s2.2)
 have q1:=ym h.ok rs1
 have q2:=ym h.ok rs2
 have hp:=h.ok.pc
 obtain ⟨X,hX⟩:∃ X,X=Mc.doIt m ins op rd rs1 rs2 n st:=⟨_,rfl⟩
 rw [<- hX]
 have RX:=hid hX
 clear hX
 unfold insV
 subst hop
 replace RX:=hid (show X=Mc.set rd (Mc.computed 19 (Mc.reg st rs1) (Mc.reg st rs2)) st from RX.out)
 generalize Mc.reg st rs1=a at *
 generalize Mc.reg st rs2=bb at *
 have cC:=hid (fun W=>yan 19 a bb W q1.1 q1.2 q2.1 q2.2 (by omega))
 have cS:=hid (fun v W hW=>ybf W0 b g (.slice ai ins.length ci) st vd vo rd v W hW d0.1 d0.2)
 clear h hI hT hin
 go_enter Tryz.func83,Tryz.ntmps83
 go_wp2_with fail
 generalize W.alloc (.cells #[.int .i64 19,.int .i64 rd,.int .i64 rs1,.int .i64 rs2,.int .i64 n] 143)=V at *
 generalize W.heap.size=ib at *
 obtain ⟨i0,i1,i2,i3,i4⟩:=IC.out
 refine (r1.out _ HA.out).mono ?_
 rintro e V1 ⟨rfl,hV⟩
 subst hV
 go_wp2_with fail
 refine (r2.out _ HA.out).mono ?_
 rintro e V1 ⟨rfl,hV⟩
 subst hV
 have HD:=hid (HA.out.grown (ye (World.grownBy.refl _ none) 1))
 have c35:=HA.out.c.2.2.2.1
 go_wp2
 go_region_with (first | (go_at_call 125; refine (cC.out _).mono ?_; rintro e w' ⟨rfl,rfl⟩) | (go_at_call 119; refine (cS.out _ _ HD.out).mono ?_; rintro e w' ⟨rfl,h2⟩))
 all_goals
  have H2:=hid h2
  clear h2
  go_wp2
  go_end0
  rw [RX.out]
  exact ⟨rfl,_,_,H2.out⟩
set_option maxRecDepth 100000 in
set_option maxHeartbeats 8000000 in
theorem yqm (W0:World) (b g:Nat) (ai:Option Addr) (ci:Nat) (ins:List Int) (st:Mc.St) (vd vo:Value) (m:Im.Img) (op rd rs1 rs2 n:Int) (W:World) (hpre:yas W0 b g ai ci ins st vd vo m rd rs1 rs2 n W) (hop:op=20) :
  Calls Tryz.prog 83 #[.pointer (some ⟨b,0,none⟩),insV op rd rs1 rs2 n] W fun e W'=>e = .returned (.tuple #[])/\yac W0 b g (.slice ai ins.length ci) (Mc.doIt m ins op rd rs1 rs2 n st) W':=by
 obtain ⟨h,hI,hT,hin,hl,d0,s1,s2,hn⟩:=hpre
 have HA:=hid (h.grown (ysp W (.cells #[.int .i64 op,.int .i64 rd,.int .i64 rs1,.int .i64 rs2,.int .i64 n] 143) none))
 have NE:=hid (show W.heap.size≠b from fun e=>by have:=h.blk.lt; omega)
 have IC:=hid (insC W (.int .i64 op) (.int .i64 rd) (.int .i64 rs1) (.int .i64 rs2) (.int .i64 n))
 have r1:=hid (fun W hW=>yj W0 b g (.slice ai ins.length ci) st vd vo rs1 W hW s1.1 s1.2)
 have r2:=hid (fun W hW=>yj W0 b g (.slice ai ins.length ci) st vd vo rs2 W hW s2.1 s2.2)
 have q1:=ym h.ok rs1
 have q2:=ym h.ok rs2
 have hp:=h.ok.pc
 obtain ⟨X,hX⟩:∃ X,X=Mc.doIt m ins op rd rs1 rs2 n st:=⟨_,rfl⟩
 rw [<- hX]
 have RX:=hid hX
 clear hX
 unfold insV
 subst hop
 replace RX:=hid (show X=Mc.set rd (Mc.computed 20 (Mc.reg st rs1) (Mc.reg st rs2)) st from RX.out)
 generalize Mc.reg st rs1=a at *
 generalize Mc.reg st rs2=bb at *
 have cC:=hid (fun W=>yan 20 a bb W q1.1 q1.2 q2.1 q2.2 (by omega))
 have cS:=hid (fun v W hW=>ybf W0 b g (.slice ai ins.length ci) st vd vo rd v W hW d0.1 d0.2)
 clear h hI hT hin
 go_enter Tryz.func83,Tryz.ntmps83
 go_wp2_with fail
 generalize W.alloc (.cells #[.int .i64 20,.int .i64 rd,.int .i64 rs1,.int .i64 rs2,.int .i64 n] 143)=V at *
 generalize W.heap.size=ib at *
 obtain ⟨i0,i1,i2,i3,i4⟩:=IC.out
 refine (r1.out _ HA.out).mono ?_
 rintro e V1 ⟨rfl,hV⟩
 subst hV
 go_wp2_with fail
 refine (r2.out _ HA.out).mono ?_
 rintro e V1 ⟨rfl,hV⟩
 subst hV
 have HD:=hid (HA.out.grown (ye (World.grownBy.refl _ none) 1))
 have c35:=HA.out.c.2.2.2.1
 go_wp2
 go_region_with (first | (go_at_call 125; refine (cC.out _).mono ?_; rintro e w' ⟨rfl,rfl⟩) | (go_at_call 119; refine (cS.out _ _ HD.out).mono ?_; rintro e w' ⟨rfl,h2⟩))
 all_goals
  have H2:=hid h2
  clear h2
  go_wp2
  go_end0
  rw [RX.out]
  exact ⟨rfl,_,_,H2.out⟩
set_option maxRecDepth 100000 in
set_option maxHeartbeats 8000000 in
theorem yqn (W0:World) (b g:Nat) (ai:Option Addr) (ci:Nat) (ins:List Int) (st:Mc.St) (vd vo:Value) (m:Im.Img) (op rd rs1 rs2 n:Int) (W:World) (hpre:yas W0 b g ai ci ins st vd vo m rd rs1 rs2 n W) (hop:op=21) :
  Calls Tryz.prog 83 #[.pointer (some ⟨b,0,none⟩),insV op rd rs1 rs2 n] W fun e W'=>e = .returned (.tuple #[])/\yac W0 b g (.slice ai ins.length ci) (Mc.doIt m ins op rd rs1 rs2 n st) W':=by
 obtain ⟨h,hI,hT,hin,hl,d0,s1,s2,hn⟩:=hpre
 have HA:=hid (h.grown (ysp W (.cells #[.int .i64 op,.int .i64 rd,.int .i64 rs1,.int .i64 rs2,.int .i64 n] 143) none))
 have NE:=hid (show W.heap.size≠b from fun e=>by have:=h.blk.lt; omega)
 have IC:=hid (insC W (.int .i64 op) (.int .i64 rd) (.int .i64 rs1) (.int .i64 rs2) (.int .i64 n))
 have r1:=hid (fun W hW=>yj W0 b g (.slice ai ins.length ci) st vd vo rs1 W hW s1.1 s1.2)
 have r2:=hid (fun W hW=>yj W0 b g (.slice ai ins.length ci) st vd vo rs2 W hW s2.1 s2.2)
 have q1:=ym h.ok rs1
 have q2:=ym h.ok rs2
 have hp:=h.ok.pc
 obtain ⟨X,hX⟩:∃ X,X=Mc.doIt m ins op rd rs1 rs2 n st:=⟨_,rfl⟩
 rw [<- hX]
 have RX:=hid hX
 clear hX
 unfold insV
 subst hop
 replace RX:=hid (show X=Mc.set rd (Mc.computed 21 (Mc.reg st rs1) (Mc.reg st rs2)) st from RX.out)
 generalize Mc.reg st rs1=a at *
 generalize Mc.reg st rs2=bb at *
 have cC:=hid (fun W=>yan 21 a bb W q1.1 q1.2 q2.1 q2.2 (by omega))
 have cS:=hid (fun v W hW=>ybf W0 b g (.slice ai ins.length ci) st vd vo rd v W hW d0.1 d0.2)
 clear h hI hT hin
 go_enter Tryz.func83,Tryz.ntmps83
 go_wp2_with fail
 generalize W.alloc (.cells #[.int .i64 21,.int .i64 rd,.int .i64 rs1,.int .i64 rs2,.int .i64 n] 143)=V at *
 generalize W.heap.size=ib at *
 obtain ⟨i0,i1,i2,i3,i4⟩:=IC.out
 refine (r1.out _ HA.out).mono ?_
 rintro e V1 ⟨rfl,hV⟩
 subst hV
 go_wp2_with fail
 refine (r2.out _ HA.out).mono ?_
 rintro e V1 ⟨rfl,hV⟩
 subst hV
 have HD:=hid (HA.out.grown (ye (World.grownBy.refl _ none) 1))
 have c35:=HA.out.c.2.2.2.1
 go_wp2
 go_region_with (first | (go_at_call 125; refine (cC.out _).mono ?_; rintro e w' ⟨rfl,rfl⟩) | (go_at_call 119; refine (cS.out _ _ HD.out).mono ?_; rintro e w' ⟨rfl,h2⟩))
 all_goals
  have H2:=hid h2
  clear h2
  go_wp2
  go_end0
  rw [RX.out]
  exact ⟨rfl,_,_,H2.out⟩
set_option maxRecDepth 100000 in
set_option maxHeartbeats 8000000 in
theorem yqo (W0:World) (b g:Nat) (ai:Option Addr) (ci:Nat) (ins:List Int) (st:Mc.St) (vd vo:Value) (m:Im.Img) (op rd rs1 rs2 n:Int) (W:World) (hpre:yas W0 b g ai ci ins st vd vo m rd rs1 rs2 n W) (hop:op=22) :
  Calls Tryz.prog 83 #[.pointer (some ⟨b,0,none⟩),insV op rd rs1 rs2 n] W fun e W'=>e = .returned (.tuple #[])/\yac W0 b g (.slice ai ins.length ci) (Mc.doIt m ins op rd rs1 rs2 n st) W':=by
 obtain ⟨h,hI,hT,hin,hl,d0,s1,s2,hn⟩:=hpre
 have HA:=hid (h.grown (ysp W (.cells #[.int .i64 op,.int .i64 rd,.int .i64 rs1,.int .i64 rs2,.int .i64 n] 143) none))
 have NE:=hid (show W.heap.size≠b from fun e=>by have:=h.blk.lt; omega)
 have IC:=hid (insC W (.int .i64 op) (.int .i64 rd) (.int .i64 rs1) (.int .i64 rs2) (.int .i64 n))
 have r1:=hid (fun W hW=>yj W0 b g (.slice ai ins.length ci) st vd vo rs1 W hW s1.1 s1.2)
 have r2:=hid (fun W hW=>yj W0 b g (.slice ai ins.length ci) st vd vo rs2 W hW s2.1 s2.2)
 have q1:=ym h.ok rs1
 have q2:=ym h.ok rs2
 have hp:=h.ok.pc
 obtain ⟨X,hX⟩:∃ X,X=Mc.doIt m ins op rd rs1 rs2 n st:=⟨_,rfl⟩
 rw [<- hX]
 have RX:=hid hX
 clear hX
 unfold insV
 subst hop
 replace RX:=hid (show X=Mc.set rd (Mc.computed 22 (Mc.reg st rs1) (Mc.reg st rs2)) st from RX.out)
 generalize Mc.reg st rs1=a at *
 generalize Mc.reg st rs2=bb at *
 have cC:=hid (fun W=>yan 22 a bb W q1.1 q1.2 q2.1 q2.2 (by omega))
 have cS:=hid (fun v W hW=>ybf W0 b g (.slice ai ins.length ci) st vd vo rd v W hW d0.1 d0.2)
 clear h hI hT hin
 go_enter Tryz.func83,Tryz.ntmps83
 go_wp2_with fail
 generalize W.alloc (.cells #[.int .i64 22,.int .i64 rd,.int .i64 rs1,.int .i64 rs2,.int .i64 n] 143)=V at *
 generalize W.heap.size=ib at *
 obtain ⟨i0,i1,i2,i3,i4⟩:=IC.out
 refine (r1.out _ HA.out).mono ?_
 rintro e V1 ⟨rfl,hV⟩
 subst hV
 go_wp2_with fail
 refine (r2.out _ HA.out).mono ?_
 rintro e V1 ⟨rfl,hV⟩
 subst hV
 have HD:=hid (HA.out.grown (ye (World.grownBy.refl _ none) 1))
 have c35:=HA.out.c.2.2.2.1
 go_wp2
 go_region_with (first | (go_at_call 125; refine (cC.out _).mono ?_; rintro e w' ⟨rfl,rfl⟩) | (go_at_call 119; refine (cS.out _ _ HD.out).mono ?_; rintro e w' ⟨rfl,h2⟩))
 all_goals
  have H2:=hid h2
  clear h2
  go_wp2
  go_end0
  rw [RX.out]
  exact ⟨rfl,_,_,H2.out⟩
set_option maxRecDepth 100000 in
set_option maxHeartbeats 8000000 in
theorem yqp (W0:World) (b g:Nat) (ai:Option Addr) (ci:Nat) (ins:List Int) (st:Mc.St) (vd vo:Value) (m:Im.Img) (op rd rs1 rs2 n:Int) (W:World) (hpre:yas W0 b g ai ci ins st vd vo m rd rs1 rs2 n W) (hop:op=23) :
  Calls Tryz.prog 83 #[.pointer (some ⟨b,0,none⟩),insV op rd rs1 rs2 n] W fun e W'=>e = .returned (.tuple #[])/\yac W0 b g (.slice ai ins.length ci) (Mc.doIt m ins op rd rs1 rs2 n st) W':=by
 obtain ⟨h,hI,hT,hin,hl,d0,s1,s2,hn⟩:=hpre
 have HA:=hid (h.grown (ysp W (.cells #[.int .i64 op,.int .i64 rd,.int .i64 rs1,.int .i64 rs2,.int .i64 n] 143) none))
 have NE:=hid (show W.heap.size≠b from fun e=>by have:=h.blk.lt; omega)
 have IC:=hid (insC W (.int .i64 op) (.int .i64 rd) (.int .i64 rs1) (.int .i64 rs2) (.int .i64 n))
 have r1:=hid (fun W hW=>yj W0 b g (.slice ai ins.length ci) st vd vo rs1 W hW s1.1 s1.2)
 have r2:=hid (fun W hW=>yj W0 b g (.slice ai ins.length ci) st vd vo rs2 W hW s2.1 s2.2)
 have q1:=ym h.ok rs1
 have q2:=ym h.ok rs2
 have hp:=h.ok.pc
 obtain ⟨X,hX⟩:∃ X,X=Mc.doIt m ins op rd rs1 rs2 n st:=⟨_,rfl⟩
 rw [<- hX]
 have RX:=hid hX
 clear hX
 unfold insV
 subst hop
 replace RX:=hid (show X=Mc.set rd (Mc.computed 23 (Mc.reg st rs1) (Mc.reg st rs2)) st from RX.out)
 generalize Mc.reg st rs1=a at *
 generalize Mc.reg st rs2=bb at *
 have cC:=hid (fun W=>yan 23 a bb W q1.1 q1.2 q2.1 q2.2 (by omega))
 have cS:=hid (fun v W hW=>ybf W0 b g (.slice ai ins.length ci) st vd vo rd v W hW d0.1 d0.2)
 clear h hI hT hin
 go_enter Tryz.func83,Tryz.ntmps83
 go_wp2_with fail
 generalize W.alloc (.cells #[.int .i64 23,.int .i64 rd,.int .i64 rs1,.int .i64 rs2,.int .i64 n] 143)=V at *
 generalize W.heap.size=ib at *
 obtain ⟨i0,i1,i2,i3,i4⟩:=IC.out
 refine (r1.out _ HA.out).mono ?_
 rintro e V1 ⟨rfl,hV⟩
 subst hV
 go_wp2_with fail
 refine (r2.out _ HA.out).mono ?_
 rintro e V1 ⟨rfl,hV⟩
 subst hV
 have HD:=hid (HA.out.grown (ye (World.grownBy.refl _ none) 1))
 have c35:=HA.out.c.2.2.2.1
 go_wp2
 go_region_with (first | (go_at_call 125; refine (cC.out _).mono ?_; rintro e w' ⟨rfl,rfl⟩) | (go_at_call 119; refine (cS.out _ _ HD.out).mono ?_; rintro e w' ⟨rfl,h2⟩))
 all_goals
  have H2:=hid h2
  clear h2
  go_wp2
  go_end0
  rw [RX.out]
  exact ⟨rfl,_,_,H2.out⟩
set_option maxRecDepth 100000 in
set_option maxHeartbeats 8000000 in
theorem yqq (W0:World) (b g:Nat) (ai:Option Addr) (ci:Nat) (ins:List Int) (st:Mc.St) (vd vo:Value) (m:Im.Img) (op rd rs1 rs2 n:Int) (W:World) (hpre:yas W0 b g ai ci ins st vd vo m rd rs1 rs2 n W) (hop:op=24) :
  Calls Tryz.prog 83 #[.pointer (some ⟨b,0,none⟩),insV op rd rs1 rs2 n] W fun e W'=>e = .returned (.tuple #[])/\yac W0 b g (.slice ai ins.length ci) (Mc.doIt m ins op rd rs1 rs2 n st) W':=by
 obtain ⟨h,hI,hT,hin,hl,d0,s1,s2,hn⟩:=hpre
 have HA:=hid (h.grown (ysp W (.cells #[.int .i64 op,.int .i64 rd,.int .i64 rs1,.int .i64 rs2,.int .i64 n] 143) none))
 have NE:=hid (show W.heap.size≠b from fun e=>by have:=h.blk.lt; omega)
 have IC:=hid (insC W (.int .i64 op) (.int .i64 rd) (.int .i64 rs1) (.int .i64 rs2) (.int .i64 n))
 have r1:=hid (fun W hW=>yj W0 b g (.slice ai ins.length ci) st vd vo rs1 W hW s1.1 s1.2)
 have r2:=hid (fun W hW=>yj W0 b g (.slice ai ins.length ci) st vd vo rs2 W hW s2.1 s2.2)
 have q1:=ym h.ok rs1
 have q2:=ym h.ok rs2
 have hp:=h.ok.pc
 obtain ⟨X,hX⟩:∃ X,X=Mc.doIt m ins op rd rs1 rs2 n st:=⟨_,rfl⟩
 rw [<- hX]
 have RX:=hid hX
 clear hX
 unfold insV
 subst hop
 replace RX:=hid (show X=Mc.set rd (Mc.computed 24 (Mc.reg st rs1) (Mc.reg st rs2)) st from RX.out)
 generalize Mc.reg st rs1=a at *
 generalize Mc.reg st rs2=bb at *
 have cC:=hid (fun W=>yan 24 a bb W q1.1 q1.2 q2.1 q2.2 (by omega))
 have cS:=hid (fun v W hW=>ybf W0 b g (.slice ai ins.length ci) st vd vo rd v W hW d0.1 d0.2)
 clear h hI hT hin
 go_enter Tryz.func83,Tryz.ntmps83
 go_wp2_with fail
 generalize W.alloc (.cells #[.int .i64 24,.int .i64 rd,.int .i64 rs1,.int .i64 rs2,.int .i64 n] 143)=V at *
 generalize W.heap.size=ib at *
 obtain ⟨i0,i1,i2,i3,i4⟩:=IC.out
 refine (r1.out _ HA.out).mono ?_
 rintro e V1 ⟨rfl,hV⟩
 subst hV
 go_wp2_with fail
 refine (r2.out _ HA.out).mono ?_
 rintro e V1 ⟨rfl,hV⟩
 subst hV
 have HD:=hid (HA.out.grown (ye (World.grownBy.refl _ none) 1))
 have c35:=HA.out.c.2.2.2.1
 go_wp2
 go_region_with (first | (go_at_call 125; refine (cC.out _).mono ?_; rintro e w' ⟨rfl,rfl⟩) | (go_at_call 119; refine (cS.out _ _ HD.out).mono ?_; rintro e w' ⟨rfl,h2⟩))
 all_goals
  have H2:=hid h2
  clear h2
  go_wp2
  go_end0
  rw [RX.out]
  exact ⟨rfl,_,_,H2.out⟩
theorem yrn (W0:World) (b g:Nat) (ai:Option Addr) (ci:Nat) (ins:List Int) (st:Mc.St) (vd vo:Value) (m:Im.Img) (op rd rs1 rs2 n:Int) (W:World) (hpre:yas W0 b g ai ci ins st vd vo m rd rs1 rs2 n W) (hop:0<=op/\op<=25) :
  Calls Tryz.prog 83 #[.pointer (some ⟨b,0,none⟩),insV op rd rs1 rs2 n] W fun e W'=>e = .returned (.tuple #[])/\yac W0 b g (.slice ai ins.length ci) (Mc.doIt m ins op rd rs1 rs2 n st) W':=by
 rcases (show op=0\/op=1\/op=2\/op=3\/op=4\/op=5\/op=6\/op=7\/op=8\/op=9\/op=10\/op=11\/op=12\/op=13\/op=14\/op=15\/op=16\/op=17\/op=18\/op=19\/op=20\/op=21\/op=22\/op=23\/op=24\/op=25 by omega) with
  e | e | e | e | e | e | e | e | e | e | e | e | e | e | e | e | e | e | e | e | e | e | e | e | e | e
 ·exact yqj W0 b g ai ci ins st vd vo m op rd rs1 rs2 n W hpre e
 ·exact yru W0 b g ai ci ins st vd vo m op rd rs1 rs2 n W hpre e
 ·exact yoD W0 b g ai ci ins st vd vo m op rd rs1 rs2 n W hpre e
 ·exact yrt W0 b g ai ci ins st vd vo m op rd rs1 rs2 n W hpre e
 ·exact yqi W0 b g ai ci ins st vd vo m op rd rs1 rs2 n W hpre e
 ·exact yro W0 b g ai ci ins st vd vo m op rd rs1 rs2 n W hpre e
 ·exact yrp W0 b g ai ci ins st vd vo m op rd rs1 rs2 n W hpre e
 ·exact yrq W0 b g ai ci ins st vd vo m op rd rs1 rs2 n W hpre e
 ·exact yrr W0 b g ai ci ins st vd vo m op rd rs1 rs2 n W hpre e
 ·exact yrs W0 b g ai ci ins st vd vo m op rd rs1 rs2 n W hpre e
 ·exact yqc W0 b g ai ci ins st vd vo m op rd rs1 rs2 n W hpre e
 ·exact yrQ W0 b g ai ci ins st vd vo m op rd rs1 rs2 n W hpre e
 ·exact yrR W0 b g ai ci ins st vd vo m op rd rs1 rs2 n W hpre e
 ·exact yqd W0 b g ai ci ins st vd vo m op rd rs1 rs2 n W hpre e
 ·exact yqe W0 b g ai ci ins st vd vo m op rd rs1 rs2 n W hpre e
 ·exact yqf W0 b g ai ci ins st vd vo m op rd rs1 rs2 n W hpre e
 ·exact yqg W0 b g ai ci ins st vd vo m op rd rs1 rs2 n W hpre e
 ·exact yqh W0 b g ai ci ins st vd vo m op rd rs1 rs2 n W hpre e
 ·exact yqk W0 b g ai ci ins st vd vo m op rd rs1 rs2 n W hpre e
 ·exact yql W0 b g ai ci ins st vd vo m op rd rs1 rs2 n W hpre e
 ·exact yqm W0 b g ai ci ins st vd vo m op rd rs1 rs2 n W hpre e
 ·exact yqn W0 b g ai ci ins st vd vo m op rd rs1 rs2 n W hpre e
 ·exact yqo W0 b g ai ci ins st vd vo m op rd rs1 rs2 n W hpre e
 ·exact yqp W0 b g ai ci ins st vd vo m op rd rs1 rs2 n W hpre e
 ·exact yqq W0 b g ai ci ins st vd vo m op rd rs1 rs2 n W hpre e
 ·exact yoE W0 b g ai ci ins st vd vo m op rd rs1 rs2 n W hpre e
def resZ:Value:=.agg #[.int .i64 0,.int .i64 0,.slice none 0 0,.int .i64 0,.int .i64 0]
set_option maxRecDepth 100000 in
set_option maxHeartbeats 2000000 in
theorem yqz (g:Nat) (ai:Option Addr) (n ci:Nat) (fuel:Int) (w:World) (hl:16 < n) :
  Calls Tryz.prog 30 #[.pointer (some ⟨g,0,none⟩),.slice ai n ci,.int .i64 fuel] w fun e w'=>e = .returned (.tuple #[resZ,.int .i64 40])/\w.grownBy w' none:=by
 have d1:decide ((16:Int) < (n:Int))=true:=by simp; omega
 go_enter Tryz.func30,Tryz.ntmps30
 go_wp2
 refine bodyPost_ret (v:=.tuple #[resZ,.int .i64 40]) ?_ rfl ⟨rfl,ysp w (.cells resC 37) none⟩
 simp [results,Tryz.results30,go_sem,resZ]
set_option maxRecDepth 100000 in
set_option maxHeartbeats 2000000 in
theorem ynR (g:Nat) (ai:Option Addr) (n ci:Nat) (fuel:Int) (w:World) (hl:n<=16) (hf:fuel < 0\/65536 < fuel) :
  Calls Tryz.prog 30 #[.pointer (some ⟨g,0,none⟩),.slice ai n ci,.int .i64 fuel] w fun e w'=>e = .returned (.tuple #[resZ,.int .i64 41])/\w.grownBy w' none:=by
 have d1:decide ((16:Int) < (n:Int))=false:=by simp; omega
 by_cases h0:fuel < 0
 ·have d2:decide (fuel < 0)=true:=by simpa using h0
  clear hf h0
  go_enter Tryz.func30,Tryz.ntmps30
  go_wp2
  refine bodyPost_ret (v:=.tuple #[resZ,.int .i64 41]) ?_ rfl ⟨rfl,ysp w (.cells resC 37) none⟩
  simp [results,Tryz.results30,go_sem,resZ]
 ·have d2:decide (fuel < 0)=false:=by simpa using h0
  have d3:decide ((65536:Int) < fuel)=true:=by simp; omega
  clear hf h0
  go_enter Tryz.func30,Tryz.ntmps30
  go_wp2
  refine bodyPost_ret (v:=.tuple #[resZ,.int .i64 41]) ?_ rfl ⟨rfl,ysp w (.cells resC 37) none⟩
  simp [results,Tryz.results30,go_sem,resZ]
def ylz (W0:World) (m:Im.Img) (ins:List Int) (fuel:Int) (e:Ending) (w':World):Prop :=
 (16 < ins.length/\e = .returned (.tuple #[resZ,.int .i64 40])) \/
 (ins.length<=16/\(fuel < 0\/65536 < fuel)/\e = .returned (.tuple #[resZ,.int .i64 41])) \/
 (ins.length<=16/\0<=fuel/\fuel<=65536/\ynh W0 (Mc.run m ins fuel.toNat) e w')
theorem ynS (g:Nat) (m:Im.Img) (ai:Option Addr) (ci:Nat) (ins:List Int) (fuel:Int) (w:World) (hI:yah w g m) (hT:Im.Tame m) (hD:∀ i,0<=m.D.getD i 0/\m.D.getD i 0 < 4294967296) (hW:Im.Wordy m) (hin:yz w ai ins) (ht:Tabs w) :
  Calls Tryz.prog 30 #[.pointer (some ⟨g,0,none⟩),.slice ai ins.length ci,.int .i64 fuel] w fun e w'=>ylz w m ins fuel e w'/\w.grownBy w' none:=by
 by_cases hl:16 < ins.length
 ·exact (yqz g ai ins.length ci fuel w hl).mono fun e w' k=>⟨.inl ⟨hl,k.1⟩,k.2⟩
 by_cases hf:fuel < 0\/65536 < fuel
 ·exact (ynR g ai ins.length ci fuel w (by omega) hf).mono fun e w' k=>⟨.inr (.inl ⟨by omega,hf,k.1⟩),k.2⟩
 ·obtain ⟨k,rfl⟩:=Int.eq_ofNat_of_zero_le (show 0<=fuel by omega)
  exact (ypb g m ai ci ins k w hI hT hD (by omega) (by omega) hW hin ht (fun W0 b st vd vo op rd rs1 rs2 n W=>yrn W0 b g ai ci ins st vd vo m op rd rs1 rs2 n W)).mono fun e w' q=>⟨.inr (.inr ⟨by omega,by omega,by omega,q.1⟩),q.2⟩
set_option maxRecDepth 100000 in
set_option maxHeartbeats 4000000 in
theorem yjI (x g:Nat) (m:Im.Img) (ai:Option Addr) (ci:Nat) (ins:List Int) (fuel:Int) (w:World) (hx:w.cell? ⟨x,0,none⟩=some (.pointer (some ⟨g,0,none⟩))) (hI:yah w g m) (hT:Im.Tame m) (hD:∀ i,0<=m.D.getD i 0/\m.D.getD i 0 < 4294967296) (hW:Im.Wordy m) (hin:yz w ai ins) (ht:Tabs w) :
  Calls Tryz.prog 25 #[.pointer (some ⟨x,0,none⟩),.slice ai ins.length ci,.int .i64 fuel] w fun e w'=>ylz w m ins fuel e w'/\w.grownBy w' none:=by
 have G0:=hid (ysp w (.cells resC 37) none)
 have R0:=hid (yc.new w resC 37)
 have hsz:(w.alloc (.cells resC 37)).heap.size=w.heap.size+1:=Array.size_push _
 have SZ:=hid hsz
 have c0:=yd hx G0.out
 have cR:=hid (ynS g m ai ci ins fuel (w.alloc (.cells resC 37)) (hI.kept G0.out) hT hD hW (hin.kept (fun a v e=>yd e G0.out)) (ht.grown G0.out))
 unfold resC at G0 R0 c0 cR SZ
 clear hx hI hin ht hsz
 go_enter Tryz.func25,Tryz.ntmps25
 go_wp2_with fail
 refine cR.out.mono ?_
 rintro e V ⟨ht,hg⟩
 have G1:=hid (ya G0.out hg)
 have RV:=hid (R0.out.grown hg (by simp))
 have x0:=RV.out.cell 0
 have x1:=RV.out.cell 1
 have x2:=RV.out.cell 2
 have x3:=RV.out.cell 3
 have x4:=RV.out.cell 4
 simp only [ysk,ysl,ysj] at x0 x1 x2 x3 x4
 have y0:=RV.out.free 0
 have y1:=RV.out.free 1
 have y2:=RV.out.free 2
 have y3:=RV.out.free 3
 have y4:=RV.out.free 4
 clear hg cR c0
 rcases ht with ⟨h1,rfl⟩ | ⟨h1,h2,rfl⟩ | ⟨h1,h2,h3,vo,rfl,ho⟩
 ·have H1:=hid h1
  clear h1
  unfold resZ
  go_wp2
  have RF:=yez (w:=w) (.int .i64 0) (.int .i64 0) (.slice none 0 0) (.int .i64 0) (.int .i64 0) RV.out (Nat.le_refl _) G1.out (World.ownsRow_nil V 0 3 1) (by simp [Value.ownBlock])
  have h0:=RF.1.cell 0
  have h1:=RF.1.cell 1
  have h2:=RF.1.cell 2
  have h3:=RF.1.cell 3
  have h4:=RF.1.cell 4
  simp only [ysk,ysl,ysj] at h0 h1 h2 h3 h4
  refine bodyPost_ret (v:=.tuple #[resZ,.int .i64 40]) ?_ rfl ⟨.inl ⟨H1.out,rfl⟩,RF.2.1⟩
  clear RF x0 x1 x2 x3 x4 y0 y1 y2 y3 y4
  generalize World.setCell _ _ _=WF at *
  simp [results,Tryz.results25,go_sem,resZ,h0,h1,h2,h3,h4]
 ·have H1:=hid h1
  have H2:=hid h2
  clear h1 h2
  unfold resZ
  go_wp2
  have RF:=yez (w:=w) (.int .i64 0) (.int .i64 0) (.slice none 0 0) (.int .i64 0) (.int .i64 0) RV.out (Nat.le_refl _) G1.out (World.ownsRow_nil V 0 3 1) (by simp [Value.ownBlock])
  have h0:=RF.1.cell 0
  have h1:=RF.1.cell 1
  have h2:=RF.1.cell 2
  have h3:=RF.1.cell 3
  have h4:=RF.1.cell 4
  simp only [ysk,ysl,ysj] at h0 h1 h2 h3 h4
  refine bodyPost_ret (v:=.tuple #[resZ,.int .i64 41]) ?_ rfl ⟨.inr (.inl ⟨H1.out,H2.out,rfl⟩),RF.2.1⟩
  clear RF x0 x1 x2 x3 x4 y0 y1 y2 y3 y4
  generalize World.setCell _ _ _=WF at *
  simp [results,Tryz.results25,go_sem,resZ,h0,h1,h2,h3,h4]
 ·have H1:=hid (And.intro h1 (And.intro h2 h3))
  clear h1 h2 h3
  obtain ⟨ao,co,rfl⟩:=yh ho
  have HO:=hid ho
  clear ho
  go_wp2
  have RF:=yez (w:=w) (.int .i64 (Mc.run m ins fuel.toNat).ende) (.int .i64 (Mc.run m ins fuel.toNat).code) (.slice ao (Mc.run m ins fuel.toNat).out.length co) (.int .i64 (Mc.run m ins fuel.toNat).steps) (.int .i64 (Mc.run m ins fuel.toNat).read) RV.out (Nat.le_refl _) G1.out HO.out (fun j e=>by have:=(HO.out.lt j e).1; have:=SZ.out; omega)
  have h0:=RF.1.cell 0
  have h1:=RF.1.cell 1
  have h2:=RF.1.cell 2
  have h3:=RF.1.cell 3
  have h4:=RF.1.cell 4
  simp only [ysk,ysl,ysj] at h0 h1 h2 h3 h4
  refine bodyPost_ret (v:=.tuple #[.agg #[.int .i64 (Mc.run m ins fuel.toNat).ende,.int .i64 (Mc.run m ins fuel.toNat).code,.slice ao (Mc.run m ins fuel.toNat).out.length co,.int .i64 (Mc.run m ins fuel.toNat).steps,.int .i64 (Mc.run m ins fuel.toNat).read],.int .i64 0]) ?_ rfl ⟨.inr (.inr ⟨H1.out.1,H1.out.2.1,H1.out.2.2,_,rfl,yW RF.2.2 (Nat.le_trans (Nat.le_succ _) (Nat.le_of_eq SZ.out.symm))⟩),RF.2.1⟩
  clear RF x0 x1 x2 x3 x4 y0 y1 y2 y3 y4
  generalize World.setCell _ _ _=WF at *
  simp [results,Tryz.results25,go_sem,h0,h1,h2,h3,h4]
instance (m:Im.Img):Decidable (Im.ImgOk m):=by unfold Im.ImgOk Im.Base Im.Meet Im.In; infer_instance
instance (l:List UInt8):Decidable (Im.IsImg l):=by unfold Im.IsImg Im.Full; infer_instance
def yeI (os:List Lk.Obj) (bt bf bd:Int) (ins:List Int) (out:List Int) (code:Int):Prop :=
 ygF (Ln.linkO os bt bf bd).2 0 0 []/\Im.IsImg (Ln.linkO os bt bf bd).1/\(Mc.run (Im.imgOf (Ln.linkO os bt bf bd).1) ins 5000).ende=1/\(Mc.run (Im.imgOf (Ln.linkO os bt bf bd).1) ins 5000).code=code/\(Mc.run (Im.imgOf (Ln.linkO os bt bf bd).1) ins 5000).out=out
instance (os:List Lk.Obj) (bt bf bd:Int) (ins:List Int) (out:List Int) (code:Int):Decidable (yeI os bt bf bd ins out code):=by unfold yeI; infer_instance
namespace Bd
def head:List UInt8:=[46,103,108,111,98,108,32,95,115,116,97,114,116,10,95,115,116,97,114,116,58,32,108,105,32,120,49,48,44,48,10]
def call:List UInt8:=[99,97,108,108,32,102,10]
def border:List UInt8:=[46,97,108,105,103,110,32,51,10,97,100,100,105,32,120,49,48,44,120,49,48,44,49,48,48,10]
def over:List UInt8:=[106,32,111,118,101,114,10,46,97,108,105,103,110,32,52,10,111,118,101,114,58,32,108,97,32,120,49,49,44,111,118,101,114,10,97,110,100,105,32,120,49,49,44,120,49,49,44,49,53,10,97,100,100,32,120,49,48,44,120,49,48,44,120,49,49,10]
def finish:List UInt8:=[108,105,32,120,49,55,44,49,10,101,99,97,108,108,10,108,105,32,120,49,48,44,48,10,108,105,32,120,49,55,44,48,10,101,99,97,108,108,10]
def far:List UInt8:=[46,102,97,114,10]
def text (j:Nat):Nat->List UInt8
 | 0=>head
 | i+1=>if i % 4=j then text j i ++ call ++ border else text j i ++ call
def main (k j:Nat) (f:Bool):List UInt8:=if f then far ++ (text j k ++ over) ++ finish else (text j k ++ over) ++ finish
def want (j k:Nat):Nat->Int
 | 0=>k
 | i+1=>if i % 4=j then want j k i+100 else want j k i
def one:List UInt8:=[110,111,112,10,46,102,97,114,10,110,111,112,10]
def three:List UInt8:=[102,58,32,97,100,100,105,32,120,49,48,44,120,49,48,44,49,10,114,101,116,10,46,103,108,111,98,108,32,102,10]
end Bd
def ygI (t:List UInt8):Bool:=decide ((As.assemble t).1.1=0) && yku (As.assemble t).2
def ynd (k j:Nat) (f:Bool):Prop:=ygI (Bd.main k j f)=true/\yeI (Ln.takeAll [(false,[(As.assemble Bd.one).2]),(false,[(As.assemble (Bd.main k j f)).2]),(false,[(As.assemble Bd.three).2])]) 4096 65536 131072 [] [Bd.want j k k] 0
instance (k j:Nat) (f:Bool):Decidable (ynd k j f):=by unfold ynd; infer_instance
namespace Sy
inductive E where
 | c (i:Int)
 | p (k:Nat)
 | a (x y:E)
def ev (ins:List Int):E->Int
 | .c i=>i
 | .p k=>Mc.wd (ins.getD k 0)
 | .a x y=>Mc.wd (ev ins x+ev ins y)
def con:E->Int
 | .c i=>i
 | .p _=>0
 | .a x y=>con x+con y
def lv:E->List Nat
 | .c _=>[]
 | .p k=>[k]
 | .a x y=>lv x ++ lv y
def num:E->Option Int
 | .c i=>some i
 | _=>none
theorem num_ev {e:E} {i:Int} (h:num e=some i) (ins:List Int):ev ins e=i:=by
 cases e <;> simp [num] at h
 exact h
def add (x y:E):E:=match num x,num y with
 | some i,some j=>.c (Mc.wd (i+j))
 | _,_=>.a x y
theorem add_ev (ins:List Int) (x y:E):ev ins (add x y)=Mc.wd (ev ins x+ev ins y):=by
 unfold add
 split
 ·next i j h1 h2=>rw [num_ev h1,num_ev h2]; rfl
 ·rfl
theorem ev_sum (ins:List Int) (e:E):Mc.wd (ev ins e)=Mc.wd (con e+((lv e).map fun k=>ins.getD k 0).sum):=by
 induction e with
 | c i=>simp [ev,con,lv]
 | p k=>simp [ev,con,lv,Mc.wd]
 | a x y hx hy =>
  unfold ev con lv
  rw [List.map_append,List.sum_append]
  generalize ((lv x).map fun k=>ins.getD k 0).sum=sx at *
  generalize ((lv y).map fun k=>ins.getD k 0).sum=sy at *
  unfold Mc.wd at *
  omega
structure S where
 regs:List E
 pc:Int
 out:List E
 steps:Nat
 read:Nat
 fin:Bool
def reg (st:S) (n:Int):E:=st.regs.getD (n % 32).toNat (.c 0)
def set (n:Int) (v:E) (l:List E):List E:=if n % 32=0 then l else l.set (n % 32).toNat v
def doIt (len:Nat) (op rd rs1 rs2 n:Int) (st:S):Option S :=
 if op=2 then some { st with regs:=set rd (.c (Mc.wd (n * 4096+st.pc))) st.regs,pc:=Mc.wd (st.pc+4) }
 else if op=3 then some { st with regs:=set rd (.c (Mc.wd (st.pc+4))) st.regs,pc:=Mc.wd (st.pc+n) }
 else if op=4 then
  match num (reg st rs1) with
  | some i=>some { st with regs:=set rd (.c (Mc.wd (st.pc+4))) st.regs,pc:=Mc.wd ((i+n) - (i+n) % 2) }
  | none=>none
 else if op=5 then
  match num (reg st rs1),num (reg st rs2) with
  | some i,some j=>some { st with pc:=if i=j then Mc.wd (st.pc+n) else Mc.wd (st.pc+4) }
  | _,_=>none
 else if op=13 then some { st with regs:=set rd (add (reg st rs1) (.c (Mc.wd n))) st.regs,pc:=Mc.wd (st.pc+4) }
 else if op=18 then some { st with regs:=set rd (add (reg st rs1) (reg st rs2)) st.regs,pc:=Mc.wd (st.pc+4) }
 else if op=25 then
  match num (reg st 17) with
  | some 0=>match num (reg st 10) with
   | some 0=>some { st with fin:=true,pc:=Mc.wd (st.pc+4) }
   | _=>none
  | some 1=>if 16<=st.out.length then none else some { st with out:=st.out ++ [reg st 10],pc:=Mc.wd (st.pc+4) }
  | some 2=>if len<=st.read then none else some { st with regs:=set 10 (.p st.read) st.regs,read:=st.read+1,pc:=Mc.wd (st.pc+4) }
  | _=>none
 else none
def step (m:Im.Img) (len:Nat) (st:S):Option S :=
 match Im.code m st.pc with
 | none=>none
 | some w=>doIt len (Mc.opOf w) (rdF (Mc.formOf w) w) (rs1F (Mc.formOf w) w) (rs2F (Mc.formOf w) w) (Mc.numF (Mc.formOf w) w) { st with steps:=st.steps+1 }
def steps (m:Im.Img) (len:Nat):Nat->S->Option S
 | 0,st=>some st
 | k+1,st=>if st.fin then some st else match step m len st with
  | none=>none
  | some s=>steps m len k s
def start (m:Im.Img):S:=⟨List.replicate 32 (.c 0),m.start,[],0,0,false⟩
structure R (ins:List Int) (st:S) (s:Mc.St):Prop where
 regs:s.regs=st.regs.map (ev ins)
 pc:s.pc=st.pc
 out:s.out=st.out.map fun e=>Mc.sg (ev ins e)
 steps:s.steps=st.steps
 read:s.read=st.read
 ende:s.ende=if st.fin then 1 else 0
 code:s.code=0
theorem reg_ev {ins:List Int} {l:List E} {d:List Int} (h:d=l.map (ev ins)) (n:Int):d.getD (n % 32).toNat 0=ev ins (l.getD (n % 32).toNat (.c 0)):=by
 subst h
 rw [ysB,ysB,List.getElem?_map]
 cases l[(n % 32).toNat]? <;> rfl
theorem set_ev {ins:List Int} {l:List E} {d:List Int} (h:d=l.map (ev ins)) (n:Int) (v:E):(if n % 32=0 then d else d.set (n % 32).toNat (ev ins v))=(set n v l).map (ev ins):=by
 subst h
 unfold set
 split
 ·rfl
 ·rw [List.map_set]
theorem range_getD (l:List Int):((List.range l.length).map fun k=>l.getD k 0)=l:=by
 apply List.ext_getElem
 ·simp
 ·intro i h1 h2
  simp [yst h2]
theorem wd_wd (x:Int):Mc.wd (Mc.wd x)=Mc.wd x:=by unfold Mc.wd; omega
theorem set_regs (n v:Int) (s:Mc.St):(Mc.set n v s).regs=if n % 32=0 then s.regs else s.regs.set (n % 32).toNat (Mc.wd v):=by unfold Mc.set; split <;> rfl
theorem set_rest (n v:Int) (s:Mc.St):(Mc.set n v s).next=s.next/\(Mc.set n v s).out=s.out/\(Mc.set n v s).steps=s.steps/\(Mc.set n v s).read=s.read/\(Mc.set n v s).ende=s.ende/\(Mc.set n v s).code=s.code:=by unfold Mc.set; split <;> exact ⟨rfl,rfl,rfl,rfl,rfl,rfl⟩
theorem R_set {ins:List Int} {st:S} {s:Mc.St} (h:R ins st s) (rd x q:Int) (v:E) (hv:ev ins v=Mc.wd x):R ins { st with regs:=set rd v st.regs,pc:=q } { Mc.set rd x s with pc:=q }:=by
 obtain ⟨-,e2,e3,e4,e5,e6⟩:=set_rest rd x s
 refine ⟨?_,rfl,e2.trans h.out,e3.trans h.steps,e4.trans h.read,e5.trans h.ende,e6.trans h.code⟩
 show (Mc.set rd x s).regs=_
 rw [set_regs,<- hv]
 exact set_ev h.regs rd v
theorem R_go {ins:List Int} {st:S} {s:Mc.St} (h:R ins st s) (q:Int):R ins { st with pc:=q } { s with pc:=q }:=⟨h.regs,rfl,h.out,h.steps,h.read,h.ende,h.code⟩
theorem doIt_R (m:Im.Img) {ins:List Int} {st st':S} {s:Mc.St} (op rd rs1 rs2 n:Int) (h:R ins st s) (hn:s.next=Mc.wd (s.pc+4)) (hs:doIt ins.length op rd rs1 rs2 n st=some st'):R ins st' { Mc.doIt m ins op rd rs1 rs2 n s with pc:=(Mc.doIt m ins op rd rs1 rs2 n s).next }:=by
 have hr:∀ k,Mc.reg s k=ev ins (reg st k):=fun k=>reg_ev h.regs k
 have hset:∀ rd x,(Mc.set rd x s).next=Mc.wd (st.pc+4):=fun rd x=>by rw [(set_rest rd x s).1,hn,h.pc]
 unfold doIt at hs
 split at hs
 ·next e =>
  subst e
  cases hs
  have q:=R_set h rd (n * 4096+s.pc) (Mc.wd (st.pc+4)) (.c (Mc.wd (n * 4096+st.pc))) (by rw [h.pc]; rfl)
  have E:Mc.doIt m ins 2 rd rs1 rs2 n s=Mc.set rd (n * 4096+s.pc) s:=rfl
  rw [E,hset]
  exact q
 split at hs
 ·next e =>
  subst e
  cases hs
  have q:=R_set h rd (s.pc+4) (Mc.wd (st.pc+n)) (.c (Mc.wd (st.pc+4))) (by rw [h.pc]; rfl)
  have E:Mc.doIt m ins 3 rd rs1 rs2 n s=Mc.jump rd (s.pc+n) s:=rfl
  rw [E]
  unfold Mc.jump
  rw [<- h.pc] at q ⊢
  exact ⟨q.regs,q.pc,q.out,q.steps,q.read,q.ende,q.code⟩
 split at hs
 ·next e =>
  subst e
  split at hs
  ·next i hi =>
   cases hs
   have e1:Mc.reg s rs1=i:=by rw [hr]; exact num_ev hi ins
   have q:=R_set h rd (s.pc+4) (Mc.wd ((i+n) - (i+n) % 2)) (.c (Mc.wd (st.pc+4))) (by rw [h.pc]; rfl)
   have E:Mc.doIt m ins 4 rd rs1 rs2 n s=Mc.jump rd ((Mc.reg s rs1+n) - (Mc.reg s rs1+n) % 2) s:=rfl
   rw [E,e1]
   unfold Mc.jump
   exact ⟨q.regs,q.pc,q.out,q.steps,q.read,q.ende,q.code⟩
  ·cases hs
 split at hs
 ·next e =>
  subst e
  split at hs
  ·next i j hi hj =>
   cases hs
   have e1:Mc.reg s rs1=i:=by rw [hr]; exact num_ev hi ins
   have e2:Mc.reg s rs2=j:=by rw [hr]; exact num_ev hj ins
   have E:Mc.doIt m ins 5 rd rs1 rs2 n s=Mc.branch (decide (Mc.reg s rs1=Mc.reg s rs2)) n s:=rfl
   rw [E,e1,e2]
   unfold Mc.branch
   by_cases c:i=j
   ·rw [if_pos c,if_pos (by simpa using c),<- h.pc]
    have q:=R_go h (Mc.wd (s.pc+n))
    exact ⟨q.regs,q.pc,q.out,q.steps,q.read,q.ende,q.code⟩
   ·rw [if_neg c,if_neg (by simpa using c),hn,<- h.pc]
    exact R_go h _
  ·cases hs
 split at hs
 ·next e =>
  subst e
  cases hs
  have q:=R_set h rd (Mc.reg s rs1+Mc.wd n) (Mc.wd (st.pc+4)) (add (reg st rs1) (.c (Mc.wd n))) (by rw [add_ev,hr]; rfl)
  have E:Mc.doIt m ins 13 rd rs1 rs2 n s=Mc.set rd (Mc.reg s rs1+Mc.wd n) s:=rfl
  rw [E,hset]
  exact q
 split at hs
 ·next e =>
  subst e
  cases hs
  have q:=R_set h rd (Mc.reg s rs1+Mc.reg s rs2) (Mc.wd (st.pc+4)) (add (reg st rs1) (reg st rs2)) (by rw [add_ev,hr,hr])
  have E:Mc.doIt m ins 18 rd rs1 rs2 n s=Mc.set rd (Mc.reg s rs1+Mc.reg s rs2) s:=rfl
  rw [E,hset]
  exact q
 split at hs
 ·next e =>
  subst e
  have E:Mc.doIt m ins 25 rd rs1 rs2 n s=Mc.call ins s:=rfl
  rw [E]
  unfold Mc.call
  split at hs
  ·next hi =>
   have e1:Mc.reg s 17=0:=by rw [hr]; exact num_ev hi ins
   split at hs
   ·next hj =>
    cases hs
    have e2:Mc.reg s 10=0:=by rw [hr]; exact num_ev hj ins
    rw [if_pos e1,e2]
    exact ⟨h.regs,by show s.next=_; rw [hn,h.pc],h.out,h.steps,h.read,rfl,rfl⟩
   ·cases hs
  ·next hi =>
   have e1:Mc.reg s 17=1:=by rw [hr]; exact num_ev hi ins
   split at hs
   ·cases hs
   ·next hl =>
    cases hs
    rw [if_neg (by rw [e1]; decide),if_pos e1,if_neg (by rw [h.out,ysv]; exact hl)]
    refine ⟨h.regs,by show s.next=_; rw [hn,h.pc],?_,h.steps,h.read,h.ende,h.code⟩
    show s.out ++ [Mc.sg (Mc.reg s 10)]=_
    rw [List.map_append,h.out,hr]
    rfl
  ·next hi =>
   have e1:Mc.reg s 17=2:=by rw [hr]; exact num_ev hi ins
   split at hs
   ·cases hs
   ·next hl =>
    cases hs
    rw [if_neg (by rw [e1]; decide),if_neg (by rw [e1]; decide),if_pos e1,if_neg (by rw [h.read]; exact hl)]
    have q:=R_set h 10 (ins.getD s.read 0) (Mc.wd (st.pc+4)) (.p st.read) (by rw [h.read]; rfl)
    exact ⟨q.regs,hset 10 (ins.getD s.read 0),q.out,q.steps,by show s.read+1=_; rw [h.read],q.ende,q.code⟩
  ·cases hs
 ·cases hs
theorem step_R (m:Im.Img) {ins:List Int} {st st':S} {s:Mc.St} (h:R ins st s) (hs:step m ins.length st=some st'):R ins st' (Mc.step m ins s):=by
 unfold step at hs
 unfold Mc.step
 rw [h.pc]
 split at hs
 ·cases hs
 ·next w hw =>
  rw [hw]
  exact doIt_R m _ _ _ _ _ (st:={ st with steps:=st.steps+1 }) (s:={ s with pc:=st.pc,steps:=s.steps+1,next:=Mc.wd (st.pc+4) }) ⟨h.regs,rfl,h.out,congrArg (· + 1) h.steps,h.read,h.ende,h.code⟩ rfl hs
theorem yeZ (m:Im.Img) (len:Nat) {st st':S} (hs:step m len st=some st'):st'.steps=st.steps+1:=by
 unfold step at hs
 split at hs
 ·cases hs
 ·unfold doIt at hs
  repeat' split at hs
  all_goals first | (cases hs; rfl) | cases hs
theorem steps_R (m:Im.Img) (ins:List Int) (fuel k:Nat):∀ (j:Nat) (st st':S) (s:Mc.St),R ins st s->steps m ins.length j st=some st'->st'.fin=true->j<=k->st.steps+j<=fuel->R ins st' (Mc.steps m ins fuel k s):=by
 induction k with
 | zero =>
  intro j st st' s h hs hf hj _
  obtain rfl:j=0:=by omega
  unfold steps at hs
  cases hs
  exact h
 | succ k ih =>
  intro j st st' s h hs hf hj hl
  unfold Mc.steps
  cases j with
  | zero =>
   unfold steps at hs
   cases hs
   have e:=h.ende
   rw [hf,if_pos rfl] at e
   rw [if_neg (by rw [e]; intro c; exact absurd c.1 (by decide))]
   exact h
  | succ j =>
   unfold steps at hs
   have e:=h.ende
   by_cases c:st.fin=true
   ·rw [if_pos c] at hs e
    cases hs
    rw [if_neg (by rw [e]; intro c; exact absurd c.1 (by decide))]
    exact h
   ·rw [if_neg c] at hs e
    rw [if_pos ⟨e,by rw [h.steps]; omega⟩]
    split at hs
    ·cases hs
    ·next t ht =>
     have:=yeZ m _ ht
     exact ih j t st' _ (step_R m h ht) hs hf (by omega) (by omega)
theorem start_R (m:Im.Img) (ins:List Int):R ins (start m) (Mc.start m):=⟨by unfold start Mc.start; rw [List.map_replicate]; rfl,rfl,rfl,rfl,rfl,rfl,rfl⟩
theorem run_R (m:Im.Img) (ins:List Int) (st:S) (hs:steps m ins.length 200 (start m)=some st) (hf:st.fin=true):R ins st (Mc.run m ins 5000)/\(Mc.run m ins 5000).ende=1:=by
 have q:=steps_R m ins 5000 5000 200 (start m) st (Mc.start m) (start_R m ins) hs hf (by omega) (by show 0+200<=5000; omega)
 have e:=q.ende
 rw [hf,if_pos rfl] at e
 unfold Mc.run
 simp only
 rw [if_neg (by rw [e]; decide)]
 exact ⟨q,e⟩
def Sums (os:List Lk.Obj) (bt bf bd:Int) (n:Nat):Prop :=
 ygF (Ln.linkO os bt bf bd).2 0 0 []/\Im.IsImg (Ln.linkO os bt bf bd).1 /\
  match steps (Im.imgOf (Ln.linkO os bt bf bd).1) n 200 (start (Im.imgOf (Ln.linkO os bt bf bd).1)) with
  | none=>False
  | some st=>st.fin=true/\st.read=n/\st.out.map lv=[List.range n]/\st.out.map con=[0]
instance (os:List Lk.Obj) (bt bf bd:Int) (n:Nat):Decidable (Sums os bt bf bd n):=by
 unfold Sums
 have:∀ o:Option S,Decidable (match o with | none=>False | some st=>st.fin=true/\st.read=n/\st.out.map lv=[List.range n]/\st.out.map con=[0]):=fun o=>by cases o <;> infer_instance
 infer_instance
theorem sums_run {os:List Lk.Obj} {bt bf bd:Int} {ins:List Int} (h:Sums os bt bf bd ins.length):yeI os bt bf bd ins [Mc.sg (Mc.wd ins.sum)] 0/\(Mc.run (Im.imgOf (Ln.linkO os bt bf bd).1) ins 5000).read=ins.length:=by
 obtain ⟨h1,h2,h3⟩:=h
 split at h3
 ·exact h3.elim
 ·next st hs =>
  obtain ⟨hf,hr,hl,hc⟩:=h3
  obtain ⟨q,e⟩:=run_R _ ins st hs hf
  refine ⟨⟨h1,h2,e,q.code,?_⟩,q.read.trans hr⟩
  rw [q.out]
  obtain ⟨x,hx⟩:∃ x,st.out=[x]:=by
   match ho:st.out with
   | []=>rw [ho] at hl; simp at hl
   | [x]=>exact ⟨x,rfl⟩
   | _ :: _ :: _=>rw [ho] at hl; simp at hl
  rw [hx] at hl hc ⊢
  simp only [List.map_cons,List.map_nil,List.cons.injEq,and_true] at hl hc ⊢
  have w1:ev ins x=Mc.wd (ev ins x):=by
   cases x with
   | c i=>have:i=0:=hc; subst this; rfl
   | p k=>exact (wd_wd _).symm
   | a x y=>exact (wd_wd _).symm
  rw [w1,ev_sum,hc,hl,range_getD,Int.zero_add]
end Sy
namespace Su
def dig (n:Nat):List UInt8:=if n < 10 then [UInt8.ofNat (48+n)] else [UInt8.ofNat (48+n / 10),UInt8.ofNat (48+n % 10)]
def main (n:Nat):List UInt8:=[46,103,108,111,98,108,32,95,115,116,97,114,116,10,95,115,116,97,114,116,58,32,108,105,32,120,49,49,44] ++ dig n ++ [10,99,97,108,108,32,115,117,109,10,108,105,32,120,49,55,44,49,10,101,99,97,108,108,10,108,105,32,120,49,48,44,48,10,108,105,32,120,49,55,44,48,10,101,99,97,108,108,10]
def loop:List UInt8:=[46,102,97,114,10,46,103,108,111,98,108,32,115,117,109,10,115,117,109,58,32,108,105,32,120,49,50,44,48,10,108,105,32,120,49,55,44,50,10,103,58,32,98,101,113,32,120,49,49,44,120,48,44,111,117,116,10,101,99,97,108,108,10,97,100,100,32,120,49,50,44,120,49,50,44,120,49,48,10,97,100,100,105,32,120,49,49,44,120,49,49,44,45,49,10,106,32,103,10,111,117,116,58,32,109,118,32,120,49,48,44,120,49,50,10,114,101,116,10]
def mainO (n:Nat):Lk.Obj:=(As.assemble (main n)).2
def loopO:Lk.Obj:=(As.assemble loop).2
end Su
theorem ylU:∀ n,n < 17->ygI (Su.main n)=true:=by decide +kernel
theorem ylT:ygI Su.loop=true:=by decide +kernel
theorem yqF:∀ n,n < 17->Sy.Sums (Ln.takeAll [(false,[Su.mainO n]),(false,[Su.loopO])]) 4096 65536 131072 n:=by decide +kernel
theorem yqE:∀ n,n < 17->Sy.Sums (Ln.takeAll [(false,[Su.mainO n]),(false,[Su.loopO])]) 16777216 67108864 1048576 n:=by decide +kernel
namespace Ar
def dig (k:Nat):List UInt8:=[UInt8.ofNat (48+k)]
def nam (k:Nat):List UInt8:=[102] ++ dig k
def text (n k:Nat):List UInt8 :=
 [46,103,108,111,98,108,32] ++ nam k ++ [10] ++ nam k ++ [58,32,97,100,100,105,32,120,49,48,44,120,49,48,44] ++ dig (k+1) ++ [10] ++ (if k+1 < n then [116,97,105,108,32] ++ nam (k+1) ++ [10] else [114,101,116,10])
def last:List UInt8:=[46,103,108,111,98,108,32,111,116,104,101,114,10,46,103,108,111,98,108,32,95,115,116,97,114,116,10,95,115,116,97,114,116,58,10,111,116,104,101,114,58,32,108,105,32,120,49,55,44,48,10,101,99,97,108,108,10]
def main:List UInt8:=[46,103,108,111,98,108,32,95,115,116,97,114,116,10,95,115,116,97,114,116,58,32,108,105,32,120,49,48,44,48,10,99,97,108,108,32,102,48,10,108,105,32,120,49,55,44,49,10,101,99,97,108,108,10,108,105,32,120,49,48,44,48,10,108,105,32,120,49,55,44,48,10,101,99,97,108,108,10]
def texts (n:Nat):List (List UInt8):=(List.range n).map (text n) ++ [last]
def objs (n t:Nat):List Lk.Obj:=(List.range (n+1)).map fun k=>(As.assemble ((texts n).getD ((k+t) % (n+1)) [])).2
def mainO:Lk.Obj:=(As.assemble main).2
end Ar
def ync (n t:Nat):Prop:=yeI (Ln.takeAll [(false,[Ar.mainO]),(true,Ar.objs n t)]) 4096 65536 131072 [] [((n * (n+1) / 2:Nat):Int)] 0/\yiX (Ln.takeAll [(true,Ar.objs n t),(false,[Ar.mainO])]) 4096 65536 131072 34 0 [102,48]
instance (n t:Nat):Decidable (ync n t):=by unfold ync; infer_instance
set_option maxRecDepth 100000 in
set_option maxHeartbeats 2000000 in
theorem yll (ao bo:Option Addr) (ca cb:Nat) (xs:List Int) (w:World) (ha:yz w ao xs) (hb:yz w bo xs) (hl:xs.length<=65535) :
  Calls Tryz.prog 26 #[.slice ao xs.length ca,.slice bo xs.length cb] w fun e w'=>e = .returned (.bool true)/\w.grownBy w' none:=by
 have HA:=hid ha
 have HB:=hid hb
 clear ha hb
 go_enter Tryz.func26,Tryz.ntmps26
 go_wp2
 go_loopw [5] (fun i wr=>∃ k:Nat,k<=xs.length/\i = .int .i64 k/\w.grownBy wr none) (fun i _=>xs.length - (intOf i).toNat)
 case atStart=>exact ⟨0,Nat.zero_le _,rfl,World.grownBy.refl _ _⟩
 case round =>
  obtain ⟨k,hk,rfl,hgr⟩:=hrel
  have G:=hid hgr
  clear hgr
  by_cases hlt:k < xs.length
  ·have g1:(k:Int) < (xs.length:Int):=by omega
   obtain ⟨ga,oa,rfl,hca⟩:=HA.out (by omega)
   obtain ⟨gb,ob,rfl,hcb⟩:=HB.out (by omega)
   have c1:=yd (hca k hlt) G.out
   have c2:=yd (hcb k hlt) G.out
   generalize xs[k]=x at *
   have d1:(x == x)=true:=by simp
   have d2:(x != x)=false:=by simp
   clear hca hcb
   go_wp2
   go_quiet (fail)
   go_wp2
   go_roundw
   case rel=>exact ⟨k+1,by omega,by go_num,ye G.out _⟩
   case measure=>simp [intOf]; omega
  ·obtain rfl:k=xs.length:=by omega
   have g3:decide ((xs.length:Int) < (xs.length:Int))=false:=by simp
   go_wp2
   go_ret
   exact ⟨rfl,G.out⟩
set_option maxRecDepth 100000 in
set_option maxHeartbeats 2000000 in
theorem yjq (R:Nat) (ao bo:Option Addr) (ca cb:Nat) (xs:List Int) (code st rd:Int) (w:World) (hR:yc w R #[.int .i64 1,.int .i64 code,.slice ao xs.length ca,.int .i64 st,.int .i64 rd] 37) (ha:yz w ao xs) (hb:yz w bo xs) (hl:xs.length<=65535) :
  Calls Tryz.prog 19 #[.pointer (some ⟨R,0,none⟩),.slice bo xs.length cb,.int .i64 code] w fun e w'=>e = .returned (.bool true)/\w.grownBy w' none:=by
 have HR:=hid hR
 have c0:w.cell? ⟨R,0,none⟩=some (.int .i64 1):=hR.cell 0
 have c1:w.cell? ⟨R,1,none⟩=some (.int .i64 code):=hR.cell 1
 have c2:w.cell? ⟨R,2,none⟩=some (.slice ao xs.length ca):=hR.cell 2
 have cS:=hid (fun W (hg:w.grownBy W none)=>yll ao bo ca cb xs W (ha.kept (fun a v e=>yd e hg)) (hb.kept (fun a v e=>yd e hg)) hl)
 clear ha hb hR
 go_enter Tryz.func19,Tryz.ntmps19
 go_wp2_with fail
 refine (cS.out _ (World.grownBy.refl _ _)).mono ?_
 rintro e V ⟨rfl,hg⟩
 have G:=hid hg
 have b0:=yd c0 hg
 have b1:=yd c1 hg
 have d1:(code == code)=true:=by simp
 clear hg cS c0 c1 c2
 go_wp2
 go_ret
 exact ⟨rfl,G.out⟩
theorem yjB {W:World} {X:Nat} {t:TypeId} (xs:List Int) (h:yc W X (xs.map (Value.int .i64)).toArray t):yz W (some ⟨X,0,none⟩) xs:=fun _=>⟨X,0,rfl,fun i hi=>by
 rw [Nat.zero_add,h.cell i,ysk,List.getElem?_map,yst hi]
 rfl⟩
theorem ydT (l:List UInt8) (p:Nat):0<=atL l p 4/\atL l p 4 < 4294967296:=by have:=yfq l p 4; simpa using this
theorem ynC (l:List UInt8):Im.Tame (Im.imgOf l):=by
 have h:=Im.n_le l
 have h2:=Im.two_range l 24
 refine ⟨ydT l 2,ydT l 6,ydT l 10,ydT l 14,⟨?_,?_,?_⟩,?_⟩
 ·simp only [Im.imgOf,Im.words_length]; omega
 ·simp only [Im.imgOf,Im.words_length]; omega
 ·simp only [Im.imgOf,Im.words_length]; omega
 ·simp only [Im.imgOf]; omega
theorem ygD (l:List UInt8) (p n i:Nat):0<=(Im.words l p n).getD i 0/\(Im.words l p n).getD i 0 < 4294967296:=by
 rw [ysB]
 by_cases h:i < (Im.words l p n).length
 ·rw [yst h]
  have hm:(Im.words l p n)[i]∈(List.range n).map (fun i=>atL l (p+4 * i) 4):=ysr h
  obtain ⟨j,-,hj⟩:=List.mem_map.1 hm
  rw [Option.getD_some,<- hj]
  exact ydT l _
 ·rw [List.getElem?_eq_none (by omega)]
  decide
set_option maxRecDepth 100000 in
set_option maxHeartbeats 8000000 in
theorem yoU (bt bf bd:Int) (af:Option Addr) (cf:Nat) (fs:List (List UInt8)) (xs:List (Bool×List Lk.Obj)) (ai:Option Addr) (ci:Nat) (ins:List Int) (out:List Int) (code:Int) (w:World) (hin:ycR w af fs) (hsz:∀ f∈fs,f.length<=1048576) (hii:yz w ai ins) (hil:ins.length<=16) (ht:Tabs w) (h1:1<=fs.length) (h8:fs.length<=8) (hb:Im.Base bt/\Im.Base bf/\Im.Base bd) (hf:yfM fs xs) (hr:yeI (Ln.takeAll xs) bt bf bd ins out code) (hlen:(Ln.linkO (Ln.takeAll xs) bt bf bd).1.length<=1048576) :
  Calls Tryz.prog 18 #[.slice af fs.length cf,.agg #[.int .i64 bt,.int .i64 bf,.int .i64 bd],.slice ai ins.length ci] w fun e w'=>(∃ (ao:Option Addr) (ca:Nat) (st:Int),e = .returned (.tuple #[.agg #[.int .i64 1,.int .i64 code,.slice ao out.length ca,.int .i64 st,.int .i64 (Mc.run (Im.imgOf (Ln.linkO (Ln.takeAll xs) bt bf bd).1) ins 5000).read],.int .i64 ((Ln.linkO (Ln.takeAll xs) bt bf bd).1.length:Nat),.bool true])/\∃ B,w'.ownsRow B 3 1 (.slice ao out.length ca) out.length (out.map (Value.int .i64)))/\w.grownBy w' none:=by
 have HT:=hid ht
 have HI:=hid hin
 have HII:=hid hii
 have cL:=hid (fun W (hg:w.grownBy W none)=>ynF bt bf bd af cf fs W (HI.out.kept hg) hsz (HT.out.grown hg) (by omega))
 have LF:=hid (fun e (h:ydc bt bf bd fs e)=>ymA h hb h1 h8 hf)
 obtain ⟨hr0,hr1,hr2,hr3,hr4⟩:=hr
 have EQ:Ln.linkO (Ln.takeAll xs) bt bf bd=((Ln.linkO (Ln.takeAll xs) bt bf bd).1,⟨0,0,[]⟩):=by
  obtain ⟨q1,q2,q3⟩:=hr0
  generalize Ln.linkO (Ln.takeAll xs) bt bf bd=q at *
  obtain ⟨tb,f⟩:=q
  obtain ⟨x,y,z⟩:=f
  simp only at q1 q2 q3
  rw [q1,q2,q3]
 have EF:(Ln.linkO (Ln.takeAll xs) bt bf bd).2=⟨0,0,[]⟩:=by rw [EQ]
 rw [EF] at LF
 generalize (Ln.linkO (Ln.takeAll xs) bt bf bd).1=tb at *
 have HR1:=hid hr1
 have HRX:=hid (And.intro hr2 (And.intro hr3 hr4))
 have tsz:(bs tb).size=tb.length:=ybp tb
 have cLd:=hid (fun W=>ynB (bs tb) W (by omega))
 have SB:=ydM tb
 clear hin ht EF EQ hr0 hr1 hr2 hr3 hr4 hii hf
 have hs1:(w.alloc (.cells #[.int .i64 bt,.int .i64 bf,.int .i64 bd] 33)).heap.size=w.heap.size+1:=Array.size_push _
 have A1:=ysp (w.alloc (.cells #[.int .i64 bt,.int .i64 bf,.int .i64 bd] 33)) (.cells #[.int .i64 0,.int .i64 0,.slice none 0 0,.int .i64 0,.int .i64 0] 37) none
 have G1:=hid (ya (ysp w (.cells #[.int .i64 bt,.int .i64 bf,.int .i64 bd] 33) none) A1)
 have BR:=hid (yc.new (w.alloc (.cells #[.int .i64 bt,.int .i64 bf,.int .i64 bd] 33)) #[.int .i64 0,.int .i64 0,.slice none 0 0,.int .i64 0,.int .i64 0] 37)
 rw [hs1] at BR
 clear A1 hs1
 go_enter Tryz.func18,Tryz.ntmps18
 go_wp2_with fail
 generalize (w.alloc (.cells #[.int .i64 bt,.int .i64 bf,.int .i64 bd] 33)).alloc (.cells #[.int .i64 0,.int .i64 0,.slice none 0 0,.int .i64 0,.int .i64 0] 37)=W1 at *
 have hRw:w.heap.size<=w.heap.size+1:=by omega
 generalize w.heap.size+1=R at *
 refine (cL.out _ G1.out).mono ?_
 rintro e V1 ⟨hret,h2⟩
 obtain rfl:=LF.out e hret
 have A2:=ysp V1 (.cells #[.int .i64 0,.int .i64 0,.string (bs [])] 45) none
 have G2:=hid (ya (ya G1.out h2) A2)
 have BR2:=hid (BR.out.grown (ya h2 A2) (by simp))
 clear hret h2 A2 cL LF BR G1
 unfold lfA
 dsimp only
 go_wp2_with fail
 generalize V1.alloc (.cells #[.int .i64 0,.int .i64 0,.string (bs [])] 45)=V2 at *
 refine (cLd.out _).mono ?_
 rintro e V3 ⟨hld,h3⟩
 have G3:=hid (ya G2.out h3)
 have BR3:=hid (BR2.out.grown h3 (by simp))
 clear h3 cLd BR2 G2
 unfold yng at hld
 rw [SB] at hld
 rcases hld with ⟨-,x,rfl,g,hx,hI⟩ | ⟨hno,-⟩
 case inr=>exact (hno HR1.out).elim
 have cR:=hid (yjI x g (Im.imgOf tb) ai ci ins 5000 V3 (hx.cell 0) hI (ynC tb) (fun i=>ygD _ _ _ i) ⟨fun i=>ygD _ _ _ i,fun i=>ygD _ _ _ i⟩ (HII.out.kept (fun a v e=>yd e G3.out)) (HT.out.grown G3.out))
 clear hx hI HR1 SB
 go_wp2_with fail
 refine cR.out.mono ?_
 rintro e V4 ⟨hrt,h4⟩
 rcases hrt with ⟨h,-⟩ | ⟨-,h,-⟩ | ⟨-,-,-,vo,rfl,ho⟩
 case inl=>omega
 case inr.inl=>omega
 have E5:(5000:Int).toNat=5000:=rfl
 rw [E5] at ho ⊢
 have HRX2:=HRX.out
 generalize hs:Mc.run (Im.imgOf tb) ins 5000=s at *
 have HS:=hid hs
 clear hs
 obtain ⟨m1,m2,m3,m4,m5,m6,m7,m8,m9⟩:=s
 simp only at HRX2 ho ⊢
 obtain ⟨q1,q2,q3⟩:=HRX2
 subst q1 q2 q3
 obtain ⟨ao,ca,rfl⟩:=yh ho
 have A5:=ysp V4 (.cells #[.int .i64 1,.int .i64 m6,.slice ao m7.length ca,.int .i64 m8,.int .i64 m9] 37) none
 have G5:=hid (ya (ya G3.out h4) A5)
 have BR5:=hid (BR3.out.grown (ya h4 A5) (by simp))
 have BX:=hid (yc.new V4 #[.int .i64 1,.int .i64 m6,.slice ao m7.length ca,.int .i64 m8,.int .i64 m9] 37)
 have HO:=hid (ho.kept A5 (Decidable.em _))
 have hne:R≠V4.heap.size:=by have:=BR3.out.lt; have:=h4.size; omega
 clear h4 ho A5 cR BR3 G3 HRX
 have z0:(V4.alloc (.cells #[.int .i64 1,.int .i64 m6,.slice ao m7.length ca,.int .i64 m8,.int .i64 m9] 37)).cell? ⟨R,0,none⟩=some (.int .i64 0):=BR5.out.cell 0
 have z1:(V4.alloc (.cells #[.int .i64 1,.int .i64 m6,.slice ao m7.length ca,.int .i64 m8,.int .i64 m9] 37)).cell? ⟨R,1,none⟩=some (.int .i64 0):=BR5.out.cell 1
 have z2:(V4.alloc (.cells #[.int .i64 1,.int .i64 m6,.slice ao m7.length ca,.int .i64 m8,.int .i64 m9] 37)).cell? ⟨R,2,none⟩=some (.slice none 0 0):=BR5.out.cell 2
 have z3:(V4.alloc (.cells #[.int .i64 1,.int .i64 m6,.slice ao m7.length ca,.int .i64 m8,.int .i64 m9] 37)).cell? ⟨R,3,none⟩=some (.int .i64 0):=BR5.out.cell 3
 have z4:(V4.alloc (.cells #[.int .i64 1,.int .i64 m6,.slice ao m7.length ca,.int .i64 m8,.int .i64 m9] 37)).cell? ⟨R,4,none⟩=some (.int .i64 0):=BR5.out.cell 4
 have f0:=BR5.out.free 0
 have f1:=BR5.out.free 1
 have f2:=BR5.out.free 2
 have f3:=BR5.out.free 3
 have f4:=BR5.out.free 4
 go_wp2
 have GS:=World.grownBy.trans (World.grownBy.trans (World.grownBy.trans (World.grownBy.trans (yf (V4.alloc (.cells #[.int .i64 1,.int .i64 m6,.slice ao m7.length ca,.int .i64 m8,.int .i64 m9] 37)) R 0 (.int .i64 1)) (yf _ R 1 (.int .i64 m6))) (yf _ R 2 (.slice ao m7.length ca))) (yf _ R 3 (.int .i64 m8))) (yf _ R 4 (.int .i64 m9))
 have OI:=yy HO.out GS (RowT.blk BR5.out) (by decide)
 have F:=((((BR5.out.set 0 (.int .i64 1)).set 1 (.int .i64 m6)).set 2 (.slice ao m7.length ca)).set 3 (.int .i64 m8)).set 4 (.int .i64 m9)
 have h0:=F.cell 0
 have h1:=F.cell 1
 have h2:=F.cell 2
 have h3:=F.cell 3
 have h4:=F.cell 4
 simp only [yso,ysm,ysn,ysk,ysl,ysj] at h0 h1 h2 h3 h4
 refine bodyPost_ret (v:=.tuple #[.agg #[.int .i64 1,.int .i64 m6,.slice ao m7.length ca,.int .i64 m8,.int .i64 m9],.int .i64 (tb.length:Nat),.bool true]) ?_ rfl ⟨⟨ao,ca,m8,by rw [HS.out],_,OI⟩,yet G5.out _ hRw _ _ _ _ _⟩
 clear F z0 z1 z2 z3 z4 f0 f1 f2 f3 f4 OI GS
 generalize World.setCell _ _ _=WF at *
 simp [results,Tryz.results18,go_sem,h0,h1,h2,h3,h4]
theorem ynG (W:World) (x:Int):(convert 42 9 (.slice (some ⟨W.heap.size,0,none⟩) 1 1)).run Tryz.prog (W.alloc (.cells #[.int .u8 x] 5)) = .ok (.string (strOfNums [x])) (W.alloc (.cells #[.int .u8 x] 5)) :=
 run_convert_bytes_arg (P:=Tryz.prog) _ 42 5 Tryz.underlying42 Tryz.underlying5 W.heap.size 0 1 1 [x] rfl (fun i hi=>by
  have e:i=0:=by omega
  subst e
  exact (yc.new W #[.int .u8 x] 5).cell 0) 9 Tryz.underlying9
theorem yhG (k:Nat) (hk:k < 10):strOfNums [48+(k:Int)]=bs (Ar.dig k):=by
 rcases (show k=0\/k=1\/k=2\/k=3\/k=4\/k=5\/k=6\/k=7\/k=8\/k=9 by omega) with rfl | rfl | rfl | rfl | rfl | rfl | rfl | rfl | rfl | rfl <;> rfl
set_option maxRecDepth 100000 in
set_option maxHeartbeats 1000000 in
theorem ylL (k:Nat) (w:World) (hk:k < 10) :
  Calls Tryz.prog 14 #[.int .i64 k] w fun e w'=>e = .returned (.string (bs (Ar.dig k)))/\w.grownBy w' none:=by
 have d0:decide ((k:Int) < 0)=false:=by simp
 have d1:decide ((k:Int) < 10)=true:=by simp; omega
 have hcv:=ynG
 have HS:=hid (yhG k hk)
 have A0:=hid (ysp w (.cells #[.int .u8 (48+(k:Int))] 5) none)
 go_enter Tryz.func14,Tryz.ntmps14
 go_wp2
 go_ret
 exact ⟨by rw [<- HS.out]; rfl,A0.out⟩
def digs:Nat->Nat->List UInt8
 | 0,_=>[]
 | f+1,n=>if n < 10 then Ar.dig n else digs f (n / 10) ++ Ar.dig (n % 10)
theorem ykH (f:Nat):∀ n,(digs f n).length<=f:=by
 induction f with
 | zero=>intro n; simp [digs]
 | succ f ih =>
  intro n
  unfold digs
  split
  ·simp [Ar.dig]
  ·have:=ih (n / 10)
   simp [Ar.dig]
   omega
theorem yqV (a b:List UInt8):bs a ++ bs b=bs (a ++ b):=by
 apply ByteArray.ext
 simp [bs]
set_option maxRecDepth 100000 in
set_option maxHeartbeats 1000000 in
theorem ypm (f:Nat):∀ (n:Nat) (w:World),n < 10 ^ (f+1)->n<=4294967296->f<=30 ->
  Calls Tryz.prog 14 #[.int .i64 n] w fun e w'=>e = .returned (.string (bs (digs (f+1) n)))/\w.grownBy w' none:=by
 induction f with
 | zero =>
  intro n w hn _ _
  have hn':n < 10:=by simpa using hn
  have q:=ylL n w hn'
  unfold digs
  rw [if_pos hn']
  exact q
 | succ f ih =>
  intro n w hn hb hf
  by_cases hlt:n < 10
  ·have q:=ylL n w hlt
   unfold digs
   rw [if_pos hlt]
   exact q
  ·have d0:decide ((n:Int) < 0)=false:=by simp
   have d1:decide ((n:Int) < 10)=false:=by simp; omega
   have d2:¬ (n:Int) < 0:=by omega
   have d3:¬ (n:Int) < 10:=by omega
   have t1:Int.tdiv (n:Int) 10=((n / 10:Nat):Int):=by rw [Int.tdiv_eq_ediv_of_nonneg (by omega)]; rfl
   have t2:Int.tmod (n:Int) 10=((n % 10:Nat):Int):=by rw [Int.tmod_eq_emod_of_nonneg (by omega)]; rfl
   have t3:(n:Int) / 10=((n / 10:Nat):Int):=rfl
   have t4:(n:Int) % 10=((n % 10:Nat):Int):=rfl
   have cN:=hid (ih (n / 10) w (by rw [Nat.pow_succ] at hn; omega) (by omega) (by omega))
   have HS:=hid (show bs (digs (f+2) n)=bs (digs (f+1) (n / 10)) ++ strOfNums [48+((n % 10:Nat):Int)] by
    rw [yhG (n % 10) (Nat.mod_lt _ (by omega)),yqV]
    conv=>lhs; unfold digs
    rw [if_neg hlt])
   have sz:(bs (digs (f+1) (n / 10))).size<=31:=by rw [ybp]; have:=ykH (f+1) (n / 10); omega
   have hm:n % 10 < 10:=Nat.mod_lt _ (by omega)
   have sz2:(strOfNums [48+((n % 10:Nat):Int)]).size=1:=by rw [yhG (n % 10) hm,ybp]; rfl
   have hcv:=ynG
   have ha:n / 10<=4294967296:=by omega
   have hwa:IntKind.i64.wrap ((n / 10:Nat):Int)=((n / 10:Nat):Int):=IntWalk.i64_in _ ⟨by omega,by omega⟩
   generalize n / 10=a at *
   generalize n % 10=b at *
   generalize bs (digs (f+2) n)=X at *
   generalize bs (digs (f+1) a)=Y at *
   have q1:¬ 9223372036854775807 < Y.size+(strOfNums [48+(b:Int)]).size:=by omega
   clear ih hn hb hf hlt
   go_enter Tryz.func14,Tryz.ntmps14
   go_wp2_with fail
   refine cN.out.mono ?_
   rintro e V ⟨rfl,hg⟩
   have G:=hid (ya hg (ysp V (.cells #[.int .u8 (48+(b:Int))] 5) none))
   clear hg cN
   go_wp2
   go_ret
   exact ⟨by rw [HS.out]; rfl,G.out⟩
end Go.Proofs.YtpgklkhgfcjceaaGreatDoor
