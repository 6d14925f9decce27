/- Walks over package machine: registers, what is computed. -/
/- Walks over package machine: jumps, loads, stores. -/
/- Walks over package machine: words of data, what is asked for. -/
/- Walks over package machine: print, read, call. -/
/- Linking: what takes part. -/
/- Linking: members of an archive. -/
/- Walks over package wire's Writer. -/
import Derived.Test.YtpgklkhgfcjceaaGreatDoorG05
import Derived.Deep.RegionWith
import Derived.Test.YtpgklkhgfcjceaaGreatDoorG03
import Derived.Test.YtpgklkhgfcjceaaGreatDoorG07
import Derived.Deep.LoopGhost
namespace Go.Proofs.YtpgklkhgfcjceaaGreatDoor
open Go.RowKit
set_option maxHeartbeats 2000000 in
theorem ycK (W0:World) (b g:Nat) (vin:Value) (st:Mc.St) (vd vo:Value) (n v:Int) (W:World) (h:yu W0 b g vin st vd vo W) (h0:0<=n) (h1:n < 32) :
  Calls Tryz.prog 119 #[.pointer (some ⟨b,0,none⟩),.int .i64 n,.int .i64 v] W fun e W'=>e = .returned (.tuple #[])/\yu W0 b g vin (Mc.set n v st) vd vo W'/\W.grownBy W' (some b):=by
 obtain ⟨k,rfl⟩:=Int.eq_ofNat_of_zero_le h0
 have hk:k < 32:=by omega
 have e:=ypO (k:Int) (by omega) (by omega)
 have e2:(k:Int) % 32=k:=by omega
 rw [e2] at e
 have H:=hid h
 by_cases hz:k=0
 ·subst hz
  have R:=hid (show Mc.set ((0:Nat):Int) v st=st by unfold Mc.set; rw [if_pos (by decide)])
  clear h
  go_enter Tryz.func119,Tryz.ntmps119
  go_wp2
  go_end0
  rw [R.out]
  exact ⟨rfl,H.out,World.grownBy.refl _ _⟩
 ·have R:=hid (show Mc.set (k:Int) v st={ st with regs:=st.regs.set k (Mc.wd v) } by unfold Mc.set; rw [e2,if_neg (by omega)]; rfl)
  have c:=h.cr k hk
  have f:=h.free (2+k)
  have d:((k:Int) == 0)=false:=by simp; omega
  have cW:=hid (fun W=>ybb v W)
  have F:=hid ((H.out.grown (ye (World.grownBy.refl W none) 1)).put (2+k) (.int .i64 (Mc.wd v)) { st with regs:=st.regs.set k (Mc.wd v) } (ylj g vin st vd vo H.out.ok.regs k hk _) rfl rfl (yqO H.out.ok k v hz))
  clear h e2
  go_enter Tryz.func119,Tryz.ntmps119
  go_wp2
  go_region_with (go_at_call 81; refine (cW.out _).mono ?_; rintro e w' ⟨rfl,rfl⟩)
  all_goals
   go_wp2
   go_end0
   rw [R.out]
   exact ⟨rfl,F.out,ye (yf W b (2+k) (.int .i64 (Mc.wd v))) 1⟩
theorem ybf (W0:World) (b g:Nat) (vin:Value) (st:Mc.St) (vd vo:Value) (n v:Int) (W:World) (h:yu W0 b g vin st vd vo W) (h0:0<=n) (h1:n < 32) :
  Calls Tryz.prog 119 #[.pointer (some ⟨b,0,none⟩),.int .i64 n,.int .i64 v] W fun e W'=>e = .returned (.tuple #[])/\yu W0 b g vin (Mc.set n v st) vd vo W' :=
 (ycK W0 b g vin st vd vo n v W h h0 h1).mono fun _ _ k=>⟨k.1,k.2.1⟩
set_option maxHeartbeats 1000000 in
theorem ycW (op:Int) (w:World):Calls Tryz.prog 126 #[.int .i64 op] w fun e w'=>e = .returned (.int .i64 (Mc.plain op))/\w'=w:=by
 by_cases h1:op=13
 ·subst h1
  go_enter Tryz.func126,Tryz.ntmps126
  go_wp2
  go_ret
  exact ⟨rfl,rfl⟩
 by_cases h2:op=14
 ·subst h2
  go_enter Tryz.func126,Tryz.ntmps126
  go_wp2
  go_ret
  exact ⟨rfl,rfl⟩
 by_cases h3:op=15
 ·subst h3
  go_enter Tryz.func126,Tryz.ntmps126
  go_wp2
  go_ret
  exact ⟨rfl,rfl⟩
 by_cases h4:op=16
 ·subst h4
  go_enter Tryz.func126,Tryz.ntmps126
  go_wp2
  go_ret
  exact ⟨rfl,rfl⟩
 by_cases h5:op=17
 ·subst h5
  go_enter Tryz.func126,Tryz.ntmps126
  go_wp2
  go_ret
  exact ⟨rfl,rfl⟩
 have R:=hid (show Mc.plain op=0 by unfold Mc.plain; rw [if_neg h1,if_neg h2,if_neg h3,if_neg h4,if_neg h5])
 have d1:(op == 13)=false:=by simpa using h1
 have d2:(op == 14)=false:=by simpa using h2
 have d3:(op == 15)=false:=by simpa using h3
 have d4:(op == 16)=false:=by simpa using h4
 have d5:(op == 17)=false:=by simpa using h5
 clear h1 h2 h3 h4 h5
 go_enter Tryz.func126,Tryz.ntmps126
 go_wp2
 go_ret
 exact ⟨yC R.out.symm,rfl⟩
theorem ycM {a b:Bool} (h:a=b):Ending.returned (.bool a) = .returned (.bool b):=by rw [h]
set_option maxHeartbeats 1000000 in
theorem yof (c:Bool) (w:World):Calls Tryz.prog 182 #[.bool c] w fun e w'=>e = .returned (.int .i64 (if c then 1 else 0))/\w'=w:=by
 cases c
 ·go_enter Tryz.func182,Tryz.ntmps182
  go_wp2
  go_ret
  exact ⟨rfl,rfl⟩
 ·go_enter Tryz.func182,Tryz.ntmps182
  go_wp2
  go_ret
  exact ⟨rfl,rfl⟩
set_option maxHeartbeats 2000000 in
theorem ybQ (op a b:Int) (w:World) (a0:0<=a) (a1:a < 4294967296) (b0:0<=b) (b1:b < 4294967296) (ho:5<=op/\op<=10) :
  Calls Tryz.prog 122 #[.int .i64 op,.int .i64 a,.int .i64 b] w fun e w'=>e = .returned (.bool (Mc.holds op a b))/\w'=w:=by
 have cA:=hid (fun W=>yep a W a0 a1)
 have cB:=hid (fun W=>yep b W b0 b1)
 rcases (show op=5\/op=6\/op=7\/op=8\/op=9\/op=10 by omega) with rfl | rfl | rfl | rfl | rfl | rfl
 ·have R:=hid (show Mc.holds 5 a b=(a == b) by unfold Mc.holds; rw [Bool.eq_iff_iff]; simp)
  clear ho
  go_enter Tryz.func122,Tryz.ntmps122
  go_wp2
  go_ret
  exact ⟨ycM R.out.symm,rfl⟩
 ·have R:=hid (show Mc.holds 6 a b = !(a == b) by unfold Mc.holds; rw [Bool.eq_iff_iff]; simp)
  clear ho
  go_enter Tryz.func122,Tryz.ntmps122
  go_wp2
  go_ret
  exact ⟨ycM R.out.symm,rfl⟩
 ·have R:=hid (show Mc.holds 7 a b=decide (Mc.sg a < Mc.sg b) by unfold Mc.holds; simp)
  clear ho
  go_enter Tryz.func122,Tryz.ntmps122
  go_wp2_with fail
  refine (cA.out _).mono ?_
  rintro e V ⟨rfl,rfl⟩
  go_wp2_with fail
  refine (cB.out _).mono ?_
  rintro e V2 ⟨rfl,rfl⟩
  go_wp2
  go_ret
  exact ⟨ycM R.out.symm,rfl⟩
 ·have R:=hid (show Mc.holds 8 a b=decide (Mc.sg b<=Mc.sg a) by unfold Mc.holds; simp)
  clear ho
  go_enter Tryz.func122,Tryz.ntmps122
  go_wp2_with fail
  refine (cA.out _).mono ?_
  rintro e V ⟨rfl,rfl⟩
  go_wp2_with fail
  refine (cB.out _).mono ?_
  rintro e V2 ⟨rfl,rfl⟩
  go_wp2
  go_ret
  exact ⟨ycM R.out.symm,rfl⟩
 ·have R:=hid (show Mc.holds 9 a b=decide (a < b) by unfold Mc.holds; simp)
  clear ho
  go_enter Tryz.func122,Tryz.ntmps122
  go_wp2
  go_ret
  exact ⟨ycM R.out.symm,rfl⟩
 ·have R:=hid (show Mc.holds 10 a b=decide (b<=a) by unfold Mc.holds; simp)
  clear ho
  go_enter Tryz.func122,Tryz.ntmps122
  go_wp2
  go_ret
  exact ⟨ycM R.out.symm,rfl⟩
set_option maxHeartbeats 4000000 in
theorem yan (op a b:Int) (w:World) (a0:0<=a) (a1:a < 4294967296) (b0:0<=b) (b1:b < 4294967296) (ho:18<=op/\op<=24) :
  Calls Tryz.prog 125 #[.int .i64 op,.int .i64 a,.int .i64 b] w fun e w'=>e = .returned (.int .i64 (Mc.computed op a b))/\w'=w:=by
 have c7:=hid (fun W=>ybQ 7 a b W a0 a1 b0 b1 (by omega))
 have c9:=hid (fun W=>ybQ 9 a b W a0 a1 b0 b1 (by omega))
 have o1:=hid (fun c W=>yof c W)
 rcases (show op=18\/op=19\/op=20\/op=21\/op=22\/op=23\/op=24 by omega) with rfl | rfl | rfl | rfl | rfl | rfl | rfl
 ·have R:=hid (show a+b=Mc.computed 18 a b from rfl)
  have x:IntKind.i64.wrap (a+b)=a+b:=IntWalk.i64_in _ ⟨by omega,by omega⟩
  clear ho c7 c9 o1
  go_enter Tryz.func125,Tryz.ntmps125
  go_wp2
  go_ret
  exact ⟨yC R.out,rfl⟩
 ·have R:=hid (show a - b=Mc.computed 19 a b from rfl)
  have x:IntKind.i64.wrap (a - b)=a - b:=IntWalk.i64_in _ ⟨by omega,by omega⟩
  clear ho c7 c9 o1
  go_enter Tryz.func125,Tryz.ntmps125
  go_wp2
  go_ret
  exact ⟨yC R.out,rfl⟩
 ·have R:=hid (show (if Mc.holds 7 a b=true then (1:Int) else 0)=Mc.computed 20 a b by unfold Mc.holds Mc.computed; simp)
  clear ho c9
  go_enter Tryz.func125,Tryz.ntmps125
  go_wp2_with fail
  refine (c7.out _).mono ?_
  rintro e V ⟨rfl,rfl⟩
  go_wp2_with fail
  refine (o1.out _ _).mono ?_
  rintro e V2 ⟨rfl,rfl⟩
  rw [R.out]
  go_wp2
  go_ret
  exact ⟨rfl,rfl⟩
 ·have R:=hid (show (if Mc.holds 9 a b=true then (1:Int) else 0)=Mc.computed 21 a b by unfold Mc.holds Mc.computed; simp)
  clear ho c7
  go_enter Tryz.func125,Tryz.ntmps125
  go_wp2_with fail
  refine (c9.out _).mono ?_
  rintro e V ⟨rfl,rfl⟩
  go_wp2_with fail
  refine (o1.out _ _).mono ?_
  rintro e V2 ⟨rfl,rfl⟩
  rw [R.out]
  go_wp2
  go_ret
  exact ⟨rfl,rfl⟩
 ·have R:=hid (show bits .xor .i64 a b=Mc.computed 22 a b from rfl)
  clear ho c7 c9 o1
  go_enter Tryz.func125,Tryz.ntmps125
  go_wp2
  go_ret
  exact ⟨yC R.out,rfl⟩
 ·have R:=hid (show bits .or .i64 a b=Mc.computed 23 a b from rfl)
  clear ho c7 c9 o1
  go_enter Tryz.func125,Tryz.ntmps125
  go_wp2
  go_ret
  exact ⟨yC R.out,rfl⟩
 ·have R:=hid (show bits .and .i64 a b=Mc.computed 24 a b from rfl)
  clear ho c7 c9 o1
  go_enter Tryz.func125,Tryz.ntmps125
  go_wp2
  go_ret
  exact ⟨yC R.out,rfl⟩
def yac (W0:World) (b g:Nat) (vin:Value) (st:Mc.St) (W:World):Prop:=∃ vd vo,yu W0 b g vin st vd vo W
section
variable {W0 W:World} {b g:Nat} {vin vd vo:Value} {st:Mc.St}
theorem yu.putNext (h:yu W0 b g vin st vd vo W) (v:Int) (hv:0<=v/\v < 4294967296):yu W0 b g vin { st with next:=v } vd vo (W.setCell ⟨b,36,none⟩ (.int .i64 v)) :=
 h.put 36 _ _ (ybq g vin st { st with next:=v } vd vo vd vo h.ok.regs rfl 2 (.int .i64 v) rfl) rfl rfl ⟨h.ok.regs,h.ok.words,h.ok.zero,h.ok.data,h.ok.dwords,h.ok.pc,hv,h.ok.out,h.ok.steps,h.ok.read⟩
theorem yu.putPc (h:yu W0 b g vin st vd vo W) (v:Int) (hv:0<=v/\v < 4294967296):yu W0 b g vin { st with pc:=v } vd vo (W.setCell ⟨b,35,none⟩ (.int .i64 v)) :=
 h.put 35 _ _ (ybq g vin st { st with pc:=v } vd vo vd vo h.ok.regs rfl 1 (.int .i64 v) rfl) rfl rfl ⟨h.ok.regs,h.ok.words,h.ok.zero,h.ok.data,h.ok.dwords,hv,h.ok.next,h.ok.out,h.ok.steps,h.ok.read⟩
theorem yu.putEnd (h:yu W0 b g vin st vd vo W) (v:Int):yu W0 b g vin { st with ende:=v } vd vo (W.setCell ⟨b,37,none⟩ (.int .i64 v)) :=
 h.put 37 _ _ (ybq g vin st { st with ende:=v } vd vo vd vo h.ok.regs rfl 3 (.int .i64 v) rfl) rfl rfl ⟨h.ok.regs,h.ok.words,h.ok.zero,h.ok.data,h.ok.dwords,h.ok.pc,h.ok.next,h.ok.out,h.ok.steps,h.ok.read⟩
theorem yu.putCode (h:yu W0 b g vin st vd vo W) (v:Int):yu W0 b g vin { st with code:=v } vd vo (W.setCell ⟨b,38,none⟩ (.int .i64 v)) :=
 h.put 38 _ _ (ybq g vin st { st with code:=v } vd vo vd vo h.ok.regs rfl 4 (.int .i64 v) rfl) rfl rfl ⟨h.ok.regs,h.ok.words,h.ok.zero,h.ok.data,h.ok.dwords,h.ok.pc,h.ok.next,h.ok.out,h.ok.steps,h.ok.read⟩
theorem yu.putSteps (h:yu W0 b g vin st vd vo W) (v:Nat) (hv:v<=65536):yu W0 b g vin { st with steps:=v } vd vo (W.setCell ⟨b,40,none⟩ (.int .i64 v)) :=
 h.put 40 _ _ (ybq g vin st { st with steps:=v } vd vo vd vo h.ok.regs rfl 6 (.int .i64 v) rfl) rfl rfl ⟨h.ok.regs,h.ok.words,h.ok.zero,h.ok.data,h.ok.dwords,h.ok.pc,h.ok.next,h.ok.out,hv,h.ok.read⟩
theorem yu.putRead (h:yu W0 b g vin st vd vo W) (v:Nat) (hv:v<=16):yu W0 b g vin { st with read:=v } vd vo (W.setCell ⟨b,41,none⟩ (.int .i64 v)) :=
 h.put 41 _ _ (ybq g vin st { st with read:=v } vd vo vd vo h.ok.regs rfl 7 (.int .i64 v) rfl) rfl rfl ⟨h.ok.regs,h.ok.words,h.ok.zero,h.ok.data,h.ok.dwords,h.ok.pc,h.ok.next,h.ok.out,h.ok.steps,hv⟩
end
theorem ym {st:Mc.St} (h:Mc.Ok st) (n:Int):0<=Mc.reg st n/\Mc.reg st n < 4294967296:=h.words _
set_option maxHeartbeats 2000000 in
theorem yil (W0:World) (b g:Nat) (vin:Value) (st:Mc.St) (vd vo:Value) (rd dest:Int) (W:World) (h:yu W0 b g vin st vd vo W) (h0:0<=rd) (h1:rd < 32) :
  Calls Tryz.prog 120 #[.pointer (some ⟨b,0,none⟩),.int .i64 rd,.int .i64 dest] W fun e W'=>e = .returned (.tuple #[])/\yu W0 b g vin (Mc.jump rd dest st) vd vo W':=by
 have H:=hid h
 have c:=h.c.2.2.2.1
 have hp:=h.ok.pc
 have x:IntKind.i64.wrap (st.pc+4)=st.pc+4:=IntWalk.i64_in _ ⟨by omega,by omega⟩
 have cS:=hid (fun W hW=>ybf W0 b g vin st vd vo rd (st.pc+4) W hW h0 h1)
 have cW:=hid (fun W=>ybb dest W)
 clear h
 go_enter Tryz.func120,Tryz.ntmps120
 go_wp2_with fail
 refine (cS.out _ H.out).mono ?_
 rintro e V ⟨rfl,h1⟩
 have H1:=hid h1
 clear h1 c x
 go_wp2_with fail
 refine (cW.out _).mono ?_
 rintro e V2 ⟨rfl,hV⟩
 subst hV
 have c5:=H1.out.c.2.2.2.2.1
 have f5:=H1.out.free 36
 go_wp2
 go_end0
 exact ⟨rfl,H1.out.putNext _ (Mc.wd_range dest)⟩
set_option maxHeartbeats 2000000 in
theorem ycb (W0:World) (b g:Nat) (vin:Value) (st:Mc.St) (vd vo:Value) (t:Bool) (n:Int) (W:World) (h:yu W0 b g vin st vd vo W) (h0:-4294967296<=n) (h1:n<=4294967296) :
  Calls Tryz.prog 121 #[.pointer (some ⟨b,0,none⟩),.bool t,.int .i64 n] W fun e W'=>e = .returned (.tuple #[])/\yu W0 b g vin (Mc.branch t n st) vd vo W':=by
 have H:=hid h
 have c:=h.c.2.2.2.1
 have c5:=h.c.2.2.2.2.1
 have f5:=h.free 36
 have hp:=h.ok.pc
 have x:IntKind.i64.wrap (st.pc+n)=st.pc+n:=IntWalk.i64_in _ ⟨by omega,by omega⟩
 have cW:=hid (fun W=>ybb (st.pc+n) W)
 clear h
 cases t
 ·go_enter Tryz.func121,Tryz.ntmps121
  go_wp2
  go_end0
  exact ⟨rfl,H.out⟩
 ·go_enter Tryz.func121,Tryz.ntmps121
  go_wp2_with fail
  refine (cW.out _).mono ?_
  rintro e V2 ⟨rfl,hV⟩
  subst hV
  go_wp2
  go_end0
  exact ⟨rfl,H.out.putNext _ (Mc.wd_range _)⟩
set_option maxHeartbeats 2000000 in
theorem yfh (W0:World) (b g:Nat) (vin:Value) (st:Mc.St) (vd vo:Value) (m:Im.Img) (a:Int) (W:World) (h:yu W0 b g vin st vd vo W) (hI:yah W0 g m) (hT:Im.Tame m) (h0:0<=a) (h1:a < 4294967296) :
  Calls Tryz.prog 181 #[.pointer (some ⟨b,0,none⟩),.int .i64 a] W fun e W'=>e = .returned (.int .i64 (Im.place m.data st.data.length a))/\∃ n,W'=W.drewN n:=by
 obtain ⟨ad,cd,hvd⟩:=yh h.data
 subst hvd
 have c0:=h.c.1
 have c34:=h.c.2.2.1
 obtain ⟨a1,t1,a2,t2,a3,t3,hb,-,-,-⟩:=(hI.kept h.gr).open
 have k3:=hb.cell 3
 simp only [ysk,ysl,ysj] at k3
 have cP:=hid (fun W=>yeQ ad st.data.length cd m.data a W h0 h1 hT.data.1 hT.data.2)
 clear h hI hT hb
 go_enter Tryz.func181,Tryz.ntmps181
 go_wp2
 go_quiet ((go_at_call 115; exact Calls.quiet_of_same (cP.out _)))
 go_wp2
 go_ret
 exact ⟨rfl,_,rfl⟩
theorem ypo {w:World} {base:Nat} {e:TypeId} {n cap sg j:Nat} {xs:List Value} {u:Value} (h:w.ownsRow base e 1 (.slice (some ⟨sg,0,none⟩) n cap) n xs) :
  (w.setCell ⟨sg,j,none⟩ u).ownsRow base e 1 (.slice (some ⟨sg,0,none⟩) n cap) n (xs.set j u):=by
 refine ⟨by rw [List.length_set]; exact h.1,?_⟩
 rcases h.2 with ⟨h1,h2⟩ | ⟨g',cap',cur,hv,hb,hg,h3,h4,h5,h6⟩
 ·simp at h1
 ·simp only [Value.slice.injEq,Option.some.injEq,Addr.mk.injEq] at hv
  obtain ⟨⟨rfl,_⟩,_,rfl⟩:=hv
  refine .inr ⟨sg,cap,cur.setIfInBounds j u,rfl,hb,ybY hg u,h3,h4,by simpa using h5,?_⟩
  rw [Array.toList_setIfInBounds,List.take_set,h6]
theorem ycG {w:World} {base:Nat} {e:TypeId} {n cap:Nat} {ao:Option Addr} {xs:List Value} (h:w.ownsRow base e 1 (.slice ao n cap) n xs) (h0:0 < n):∃ sg,ao=some ⟨sg,0,none⟩/\(∀ o,w.frozen? ⟨sg,o,none⟩=false)/\n<=cap/\cap<=maxLen/\∀ i,i < n->w.cell? ⟨sg,i,none⟩=xs[i]?:=by
 rcases h.2 with ⟨h1,h2⟩ | ⟨g',cap',cur,hv,_,hg,h3,h4,h5,h6⟩
 ·omega
 ·simp only [Value.slice.injEq] at hv
  obtain ⟨rfl,_,rfl⟩:=hv
  refine ⟨g',rfl,fun o=>(show yc w g' cur e from hg).free o,h3,h4,fun i hi=>?_⟩
  rw [(show yc w g' cur e from hg).cell i,<- h6,List.getElem?_take]
  simp [hi]
section
variable {W0 W:World} {b g:Nat} {vin vo:Value} {st:Mc.St}
theorem yu.putData {sg n cap:Nat} (h:yu W0 b g vin st (.slice (some ⟨sg,0,none⟩) n cap) vo W) (hn:n=st.data.length) (i:Nat) (v:Int) (hv:0<=v/\v < 4294967296) :
  yu W0 b g vin { st with data:=st.data.set i v } (.slice (some ⟨sg,0,none⟩) n cap) vo (W.setCell ⟨sg,i,none⟩ (.int .i64 v)):=by
 have hsb:sg≠b:=h.apart.1 sg rfl
 have hso:∀ k,vo.ownBlock=some k->k≠sg:=fun k e c=>h.apart.2.2 sg rfl (by rw [e,c])
 have hlo:=(h.data.lt sg rfl).1
 subst hn
 refine ⟨h.blk.grown (yf W sg i _) (by simp; omega),?_,ybo h.out hso,h.apart,h.lo,yN h.gr (yf W sg i _) (by intro k e; simp at e; omega),⟨h.ok.regs,h.ok.words,h.ok.zero,by simpa using h.ok.data,fun j=>?_,h.ok.pc,h.ok.next,h.ok.out,h.ok.steps,h.ok.read⟩⟩
 ·have:=ypo (j:=i) (u:=.int .i64 v) h.data
  simp only [List.length_set,List.map_set]
  exact this
 ·show 0<=(st.data.set i v).getD j 0/\(st.data.set i v).getD j 0 < 4294967296
  rw [ysB,List.getElem?_set]
  split
  ·split
   ·simpa using hv
   ·rename_i h1 h2
    subst h1
    simp
  ·have:=h.ok.dwords j
   rw [ysB] at this
   exact this
end
set_option maxHeartbeats 4000000 in
theorem ymE (W0:World) (b g:Nat) (vin:Value) (st:Mc.St) (vd vo:Value) (m:Im.Img) (a v:Int) (W:World) (h:yu W0 b g vin st vd vo W) (hI:yah W0 g m) (hT:Im.Tame m) (h0:0<=a) (h1:a < 4294967296) (hv:0<=v/\v < 4294967296) :
  Calls Tryz.prog 124 #[.pointer (some ⟨b,0,none⟩),.int .i64 a,.int .i64 v] W fun e W'=>e = .returned (.tuple #[])/\yac W0 b g vin (Mc.store m a v st) W':=by
 have cP:=hid (yfh W0 b g vin st vd vo m a W h hI hT h0 h1)
 have H:=hid h
 have r:=Im.place_range m.data st.data.length a
 obtain ⟨X,hX⟩:∃ X,X=Mc.store m a v st:=⟨_,rfl⟩
 rw [<- hX]
 unfold Mc.store at hX
 have RX:=hid hX
 clear h hI hT hX
 generalize Im.place m.data st.data.length a=i at *
 go_enter Tryz.func124,Tryz.ntmps124
 go_wp2_with fail
 refine cP.out.mono ?_
 rintro e V ⟨rfl,n,hV⟩
 have H1:Hid (yu W0 b g vin st vd vo V):=by rw [hV]; exact H.out.grown (ye (World.grownBy.refl _ _) n)
 clear hV H cP
 by_cases hi:0<=i
 ·have d:decide (i < 0)=false:=by simp; omega
  rw [if_pos hi] at RX
  obtain ⟨k,rfl⟩:=Int.eq_ofNat_of_zero_le hi
  have hk:k < st.data.length:=by omega
  obtain ⟨ad,cd,hvd⟩:=yh H1.out.data
  subst hvd
  obtain ⟨sg,rfl,hf,hc1,hc2,hcells⟩:=ycG H1.out.data (by omega)
  have c34:=H1.out.c.2.2.1
  have ck:=hcells k hk
  rw [List.getElem?_map,yst hk,Option.map_some] at ck
  have fk:=hf k
  have g1:(k:Int) < (st.data.length:Int):=by omega
  rw [Int.toNat_natCast] at RX
  clear hf hcells
  go_wp2
  go_end0
  rw [RX.out]
  exact ⟨rfl,_,_,H1.out.putData rfl k v hv⟩
 ·have d:decide (i < 0)=true:=by simp; omega
  rw [if_neg hi] at RX
  have c:=H1.out.c.2.2.2.2.2.1
  have f:=H1.out.free 37
  go_wp2
  (try simp only [Exit.inBlock,Exit.then]); refine bodyPost_ret (results_none rfl _ _ _) rfl ?_
  rw [RX.out]
  exact ⟨rfl,_,_,H1.out.putEnd 5⟩
set_option maxHeartbeats 4000000 in
theorem ynP (W0:World) (b g:Nat) (vin:Value) (st:Mc.St) (vd vo:Value) (m:Im.Img) (rd a:Int) (W:World) (h:yu W0 b g vin st vd vo W) (hI:yah W0 g m) (hT:Im.Tame m) (h0:0<=a) (h1:a < 4294967296) (hr0:0<=rd) (hr1:rd < 32) :
  Calls Tryz.prog 123 #[.pointer (some ⟨b,0,none⟩),.int .i64 rd,.int .i64 a] W fun e W'=>e = .returned (.tuple #[])/\yac W0 b g vin (Mc.load m rd a st) W':=by
 have cC:=hid (yeM g m a W (hI.kept h.gr) hT h0 h1)
 have cP:=hid (fun W hW=>yfh W0 b g vin st vd vo m a W hW hI hT h0 h1)
 have cS:=hid (fun v W hW=>ybf W0 b g vin st vd vo rd v W hW hr0 hr1)
 have H:=hid h
 have c0:=h.c.1
 have r:=Im.place_range m.data st.data.length a
 obtain ⟨X,hX⟩:∃ X,X=Mc.load m rd a st:=⟨_,rfl⟩
 rw [<- hX]
 unfold Mc.load at hX
 have RX:=hid hX
 clear h hI hT hX
 generalize Im.place m.data st.data.length a=i at *
 generalize Im.code m a=cd at *
 go_enter Tryz.func123,Tryz.ntmps123
 go_wp2_with fail
 refine cC.out.mono ?_
 rintro e V ⟨rfl,n,hV⟩
 have H1:Hid (yu W0 b g vin st vd vo V):=by rw [hV]; exact H.out.grown (ye (World.grownBy.refl _ _) n)
 clear hV H cC c0
 cases cd with
 | some wv =>
  simp only at RX
  go_wp2_with fail
  refine (cS.out wv V H1.out).mono ?_
  rintro e V2 ⟨rfl,h2⟩
  have H2:=hid h2
  clear h2
  go_wp2
  (try simp only [Exit.inBlock,Exit.then]); refine bodyPost_ret (results_none rfl _ _ _) rfl ?_
  rw [RX.out]
  exact ⟨rfl,_,_,H2.out⟩
 | none =>
  simp only at RX
  go_wp2_with fail
  refine (cP.out V H1.out).mono ?_
  rintro e V2 ⟨rfl,n2,hV2⟩
  have H2:Hid (yu W0 b g vin st vd vo V2):=by rw [hV2]; exact H1.out.grown (ye (World.grownBy.refl _ _) n2)
  clear hV2 H1 cP
  by_cases hi:0<=i
  ·have d:decide (i < 0)=false:=by simp; omega
   rw [if_pos hi] at RX
   obtain ⟨k,rfl⟩:=Int.eq_ofNat_of_zero_le hi
   have hk:k < st.data.length:=by omega
   obtain ⟨ad,cd,hvd⟩:=yh H2.out.data
   subst hvd
   obtain ⟨sg,rfl,hf,hc1,hc2,hcells⟩:=ycG H2.out.data (by omega)
   have c34:=H2.out.c.2.2.1
   have ck:=hcells k hk
   rw [List.getElem?_map,yst hk,Option.map_some] at ck
   have g1:(k:Int) < (st.data.length:Int):=by omega
   rw [Int.toNat_natCast,ysB,yst hk,Option.getD_some] at RX
   clear hf hcells
   go_wp2_with fail
   refine (cS.out _ V2 H2.out).mono ?_
   rintro e V3 ⟨rfl,h3⟩
   have H3:=hid h3
   clear h3
   go_wp2
   go_end0
   rw [RX.out]
   exact ⟨rfl,_,_,H3.out⟩
  ·have d:decide (i < 0)=true:=by simp; omega
   rw [if_neg hi] at RX
   have c:=H2.out.c.2.2.2.2.2.1
   have f:=H2.out.free 37
   go_wp2
   (try simp only [Exit.inBlock,Exit.then]); refine bodyPost_ret (results_none rfl _ _ _) rfl ?_
   rw [RX.out]
   exact ⟨rfl,_,_,H2.out.putEnd 4⟩
section
variable {P:Program} (w:World)
theorem ybX {ops:Array Oper} {rest:List Oper} {o:Oper} {a:Act} {Q:Exit->Act->World->Prop} (hgd:o.guard=none) (s x:Operand) (t:TypeId)
  (ho:o.op = .call { callee:=.builtin .append,args:=#[s,x],argTypes:=#[t,t] })
  (base:Nat) (e:TypeId) (i:TypeInfo) (z:Value) (size bytes:Nat) (ht:P.underlying t=some (.slice e)) (hi:P.info? e=some i) (hz:i.zero=some z)
  (hsize:i.size=size) (hby:i.bytes=bytes) (hzs:z.cells.size=size) (hsz:0 < size)
  (v:Value) (n:Nat) (xs:List Value) (hs:a.eval s=v) (hown:w.ownsRow base e size v n xs)
  (ad:Addr) (m c:Nat) (news:List Value) (hx:a.eval x = .slice (some ad) m c) (hl:news.length=m * size) (hnews:∀ j u,news[j]?=some u->w.cell? (ad.add j)=some u) (h1:∀ u∈news,u.oneCell'=true)
  (h63:n+m<=maxLen) (hbytes:(n+m) * bytes<=140737488355328) (hbase:base<=w.heap.size)
  (h:∀ v' w',w'.ownsRow base e size v' (n+m) (xs ++ news)->w.grownBy w' v.ownBlock->(v'.ownBlock=v.ownBlock\/v'.ownBlock=some w.heap.size)->wpList P ops Q rest (a.put o.dst v') w'):wpList P ops Q (o :: rest) a w:=by
 refine wpList_plain hgd fun K hK=>?_
 obtain ⟨v',w',hr,h2,h3,-,h5⟩:=run_append_own_at (P:=P) w base t o.type e i z size bytes ht hi hz hsize hby hzs hsz v n xs hown ad m c news hl hnews h1 h63 hbytes hbase
 unfold Oper.wp execOp
 simp only [ho,resolve,invoke,builtin,Sem.run_bind,Sem.run_pure,Result.andThen_ok,List.map_toArray,List.map_cons,List.map_nil,hs,hx,hr]
 exact hK _ _ (h v' w' h2 h3 h5)
end
section
variable {W0 W w3:World} {b g:Nat} {vin vd vo v':Value} {st:Mc.St} {ob:Obj}
theorem yu.preOut (h:yu W0 b g vin st vd vo W) (hg:(W.alloc ob).grownBy w3 vo.ownBlock):yc w3 b (runL g vin st vd vo).toArray 93 :=
 (h.blk.grown (ysp W ob none) (by simp)).grown hg (fun e=>h.apart.2.1 b e.symm rfl)
theorem yu.preCell (h:yu W0 b g vin st vd vo W) (hg:(W.alloc ob).grownBy w3 vo.ownBlock):w3.cell? ⟨b,39,none⟩=some vo :=
 ((h.preOut hg).cell 39).trans (List.getElem?_toArray.trans (yiq g vin st vd vo h.ok.regs 5))
theorem yu.putOut (h:yu W0 b g vin st vd vo W) (x:Int) (hx:st.out.length < 16) (hown:w3.ownsRow W0.heap.size 3 1 v' (st.out.length+1) (st.out.map (Value.int .i64) ++ [.int .i64 x])) (hg:(W.alloc ob).grownBy w3 vo.ownBlock) (hb:v'.ownBlock=vo.ownBlock\/v'.ownBlock=some (W.alloc ob).heap.size) :
  yu W0 b g vin { st with out:=st.out ++ [x] } vd v' (w3.setCell ⟨b,39,none⟩ v'):=by
 have hsz:(W.alloc ob).heap.size=W.heap.size+1:=Array.size_push _
 have hlt:=h.blk.lt
 have hv:∀ k,v'.ownBlock=some k->k≠b:=fun k e=>by
  rcases hb with hb | hb
  ·exact h.apart.2.1 k (by rw [<- hb]; exact e)
  ·rw [e,hsz] at hb; simp at hb; omega
 have hd:=(h.data.alloc ob).kept hg (by
  cases hvo:vo.ownBlock with
  | none=>cases hvd:vd.ownBlock <;> simp
  | some k=>right; intro c; exact h.apart.2.2 k c hvo)
 refine ⟨?_,ybo hd h.apart.1,?_,⟨h.apart.1,hv,fun k e=>?_⟩,h.lo,?_,⟨h.ok.regs,h.ok.words,h.ok.zero,h.ok.data,h.ok.dwords,h.ok.pc,h.ok.next,by simp; omega,h.ok.steps,h.ok.read⟩⟩
 ·have:=(h.preOut hg).set 39 v'
  rw [yso,ybq g vin st { st with out:=st.out ++ [x] } vd vo vd v' h.ok.regs rfl 5 v' rfl] at this
  exact this
 ·have:=ybo (b:=b) (o:=39) (u:=v') hown hv
  simpa using this
 ·intro c
  rcases hb with hb | hb
  ·exact h.apart.2.2 k e (by rw [<- hb]; exact c)
  ·rw [c,hsz] at hb
   have:=(h.data.lt k e).2
   simp at hb
   omega
 ·refine yN (yN (ya h.gr (ysp W ob none)) hg (fun k e=>(h.out.lt k e).1)) (yf w3 b 39 v') (by intro k e; simp at e; have:=h.lo; omega)
end
set_option maxRecDepth 100000 in
set_option maxHeartbeats 4000000 in
theorem yoi (W0:World) (b g:Nat) (vin:Value) (st:Mc.St) (vd vo:Value) (x:Int) (W:World) (h:yu W0 b g vin st vd vo W) :
  Calls Tryz.prog 183 #[.pointer (some ⟨b,0,none⟩),.int .i64 x] W fun e W'=>e = .returned (.tuple #[])/\yac W0 b g vin (if 16<=st.out.length then { st with ende:=6 } else { st with out:=st.out ++ [x] }) W':=by
 obtain ⟨i0,hi,hz0,hz1,hz2⟩:=info_parts Tryz.infoInt
 obtain ⟨ao,co,hvo⟩:=yh h.out
 subst hvo
 have H:=hid h
 have c39:=h.c.2.2.2.2.2.2.2.1
 have hcap:=yak h.out
 have hsz:=h.gr.size
 by_cases hl:16<=st.out.length
 ·have d:decide ((16:Int)<=(st.out.length:Int))=true:=by simp; omega
  have c:=h.c.2.2.2.2.2.1
  have f:=h.free 37
  rw [if_pos hl]
  clear h
  go_enter Tryz.func183,Tryz.ntmps183
  go_wp2
  (try simp only [Exit.inBlock,Exit.then]); refine bodyPost_ret (results_none rfl _ _ _) rfl ?_
  exact ⟨rfl,_,_,H.out.putEnd 6⟩
 ·have d:decide ((16:Int)<=(st.out.length:Int))=false:=by simp; omega
  rw [if_neg hl]
  have HO:=hid h.out
  clear h
  go_enter Tryz.func183,Tryz.ntmps183
  go_wp2_with (at_builtin; refine ybX _ rfl _ _ 35 rfl W0.heap.size 3 i0 (.int .i64 0) 1 8 Tryz.underlying35 hi hz0 hz1 hz2 rfl (by decide) _ _ _ rfl (HO.out.alloc _) ⟨W.heap.size,0,none⟩ 1 1 [.int .i64 x] rfl rfl (cell_one_new _ _ _) (by intro u hu; simp at hu; subst hu; rfl) (by unfold maxLen; omega) (by omega) (by simp; omega) ?_; intro v' w3 hown' hgrow hblk; obtain ⟨av',cv',rfl⟩:=yh hown'; have KB:=H.out.preOut hgrow; have f39:=KB.free 39; have k39:=H.out.preCell hgrow; have K:=hid (H.out.putOut x (by omega) hown' hgrow hblk); clear hgrow hown' KB hblk)
  go_wp2
  go_end0
  exact ⟨rfl,_,_,K.out⟩
def ptrV (b:Nat):Value:=.pointer (some ⟨b,0,none⟩)
def modZ (g:Nat):Array Value:=#[ptrV g,.slice none 0 0,.slice none 0 0,.slice none 0 0,.slice none 0 0,.int .i64 0,.int .i64 0]
structure yaF (W0:World) (P:Nat) (bt bf bd:Int) (vm:Value) (bl gl:List Nat) (os:List Lk.Obj) (W:World):Prop where
 blk:yc W P #[.int .i64 bt,.int .i64 bf,.int .i64 bd,vm,.pointer none,.int .i64 0,.int .i64 0,.int .i64 0] 125
 row:W.ownsRow W0.heap.size 121 1 vm bl.length (bl.map ptrV)
 lenG:gl.length=bl.length
 lenO:os.length=bl.length
 mods:∀ i (h:i < bl.length),yc W bl[i] (modZ (gl[i]'(by rw [lenG]; exact h))) 130
 objs:∀ i (h:i < bl.length),yr W (gl[i]'(by rw [lenG]; exact h)) (os[i]'(by rw [lenO]; exact h))
 few:bl.length<=4096
 syms:∀ o∈os,o.syms.length<=65535
 lo:W0.heap.size<=P
 los:∀ b∈bl,W0.heap.size<=b
 gr:W0.grownBy W none
 nd:bl.Nodup
def RowT (W:World) (row:Option Nat) (e:TypeId):Prop:=∀ k,row=some k->∃ cur,yc W k cur e
theorem RowT.own {W:World} {B size n:Nat} {e:TypeId} {v:Value} {xs:List Value} (h:W.ownsRow B e size v n xs):RowT W v.ownBlock e:=by
 intro k hk
 rcases h.2 with ⟨h1,_⟩ | ⟨g,cap,cur,hv,_,hg,_⟩
 ·rw [h1] at hk; simp [Value.ownBlock] at hk
 ·rw [hv] at hk
  simp only [Value.ownBlock,Option.some.injEq] at hk
  subst hk
  exact ⟨cur,hg⟩
theorem RowT.blk {W:World} {b:Nat} {cs:Array Value} {e:TypeId} (h:yc W b cs e):RowT W (some b) e:=fun k hk=>by
 simp only [Option.some.injEq] at hk
 subst hk
 exact ⟨cs,h⟩
theorem yF {W W':World} {row:Option Nat} {e t:TypeId} {b:Nat} {cs:Array Value} (h:yc W b cs t) (hg:W.grownBy W' row) (hr:RowT W row e) (hne:t≠e):yc W' b cs t :=
 h.grown hg (fun c=>by
  obtain ⟨cur,hc⟩:=hr b c.symm
  have:=hc.symm.trans h
  simp at this
  exact hne this.2.symm)
theorem yy {W W':World} {row:Option Nat} {e t:TypeId} {B size n:Nat} {v:Value} {xs:List Value} (h:W.ownsRow B t size v n xs) (hg:W.grownBy W' row) (hr:RowT W row e) (hne:t≠e):W'.ownsRow B t size v n xs :=
 h.kept hg (by
  cases hv:v.ownBlock with
  | none=>exact .inl rfl
  | some k =>
   right
   intro c
   obtain ⟨cur,hc⟩:=RowT.own h k hv
   obtain ⟨cur2,hc2⟩:=hr k c.symm
   have:=hc.symm.trans hc2
   simp at this
   exact hne this.2)
theorem yaQ {W W':World} {row:Option Nat} {e:TypeId} {g:Nat} {o:Lk.Obj} (h:yr W g o) (hg:W.grownBy W' row) (hr:RowT W row e) (h1:71≠e) (h2:3≠e) (h3:100≠e) (h4:102≠e):yr W' g o:=by
 obtain ⟨vt,vf,vd,va,vs,vr,hb,q1,q2,q3,q4,q5,q6⟩:=h
 exact ⟨vt,vf,vd,va,vs,vr,yF hb hg hr h1,yy q1 hg hr h2,yy q2 hg hr h2,yy q3 hg hr h2,yy q4 hg hr h2,yy q5 hg hr h3,yy q6 hg hr h4⟩
def yal (ts:List TypeId) (W W':World):Prop:=∀ k cs t,yc W k cs t->t ∉ ts->yc W' k cs t
theorem yal.grown {ts:List TypeId} {W W':World} (h:W.grownBy W' none):yal ts W W':=fun _ _ _ hb _=>hb.grown h (by simp)
theorem yal.trans {ts:List TypeId} {A B C:World} (h:yal ts A B) (k:yal ts B C):yal ts A C:=fun b cs t hb ht=>k b cs t (h b cs t hb ht) ht
theorem yal.row {ts:List TypeId} {W W':World} {row:Option Nat} {e:TypeId} (h:W.grownBy W' row) (hr:RowT W row e) (he:e∈ts):yal ts W W':=fun _ _ _ hb ht=>yF hb h hr (fun c=>ht (c ▸ he))
theorem yal.own {ts:List TypeId} {W W':World} (h:yal ts W W') {B size n:Nat} {t:TypeId} {v:Value} {xs:List Value} (ho:W.ownsRow B t size v n xs) (ht:t ∉ ts):W'.ownsRow B t size v n xs:=by
 refine ⟨ho.1,?_⟩
 rcases ho.2 with q | ⟨g,cap,cur,hv,hb,hg,r⟩
 ·exact .inl q
 ·exact .inr ⟨g,cap,cur,hv,hb,h g cur t hg ht,r⟩
theorem yal.obj {ts:List TypeId} {W W':World} (h:yal ts W W') {g:Nat} {o:Lk.Obj} (ho:yr W g o) (h1:71 ∉ ts) (h2:3 ∉ ts) (h3:100 ∉ ts) (h4:102 ∉ ts):yr W' g o:=by
 obtain ⟨vt,vf,vd,va,vs,vr,hb,q1,q2,q3,q4,q5,q6⟩:=ho
 exact ⟨vt,vf,vd,va,vs,vr,h _ _ _ hb h1,h.own q1 h2,h.own q2 h2,h.own q3 h2,h.own q4 h2,h.own q5 h3,h.own q6 h4⟩
theorem Tryz.infoPtrMod:(Tryz.prog.info? 121).map (fun i=>(i.zero,i.size,i.bytes))=some (some (.pointer none),1,8):=by kernel_rfl
section
variable {W0 W W':World} {P:Nat} {bt bf bd:Int} {vm:Value} {bl gl:List Nat} {os:List Lk.Obj}
theorem yaF.kept (h:yaF W0 P bt bf bd vm bl gl os W) (hg:W.grownBy W' none):yaF W0 P bt bf bd vm bl gl os W' :=
 ⟨h.blk.grown hg (by simp),h.row.kept hg (by cases vm.ownBlock <;> simp),h.lenG,h.lenO,fun i hi=>(h.mods i hi).grown hg (by simp),fun i hi=>(h.objs i hi).kept hg,h.few,h.syms,h.lo,h.los,ya h.gr hg,h.nd⟩
theorem yaF.ty {row:Option Nat} {e:TypeId} (h:yaF W0 P bt bf bd vm bl gl os W) (hg:W.grownBy W' row) (hr:RowT W row e) (hlo:∀ k,row=some k->W0.heap.size<=k) (h1:125≠e) (h2:121≠e) (h3:130≠e) (h4:71≠e) (h5:3≠e) (h6:100≠e) (h7:102≠e):yaF W0 P bt bf bd vm bl gl os W' :=
 ⟨yF h.blk hg hr h1,yy h.row hg hr h2,h.lenG,h.lenO,fun i hi=>yF (h.mods i hi) hg hr h3,fun i hi=>yaQ (h.objs i hi) hg hr h4 h5 h6 h7,h.few,h.syms,h.lo,h.los,yN h.gr hg hlo,h.nd⟩
theorem yaF.modsIn {am:Option Addr} {cm:Nat} (h:yaF W0 P bt bf bd (.slice am bl.length cm) bl gl os W):yaV W am bl os:=by
 refine ⟨fun hp=>?_,h.lenO.symm,fun i h1 h2=>⟨_,(h.mods i h1).cell 0,h.objs i h1⟩,by rw [h.lenO]; exact h.few,h.syms⟩
 obtain ⟨sg,hs,-,-,-,hc⟩:=ycG h.row hp
 refine ⟨sg,0,hs,fun i hi=>?_⟩
 rw [Nat.zero_add,hc i hi,List.getElem?_map,yst hi]
 rfl
theorem yaF.more {og:Nat} {o:Lk.Obj} {w3:World} {v':Value} (h:yaF W0 P bt bf bd vm bl gl os W) (ho:yr W og o) (hf:bl.length < 4096) (hs:o.syms.length<=65535)
  (hown:w3.ownsRow W0.heap.size 121 1 v' (bl.length+1) (bl.map ptrV ++ [ptrV W.heap.size])) (hg:((W.alloc (.cells (modZ og) 130)).alloc (.cells #[ptrV W.heap.size] 121)).grownBy w3 vm.ownBlock) :
  yaF W0 P bt bf bd v' (bl ++ [W.heap.size]) (gl ++ [og]) (os ++ [o]) (w3.setCell ⟨P,3,none⟩ v'):=by
 have A1:=ysp W (.cells (modZ og) 130) none
 have A2:=ysp (W.alloc (.cells (modZ og) 130)) (.cells #[ptrV W.heap.size] 121) none
 have A:=ya A1 A2
 have hA:=h.kept A
 have RT:=RowT.own hA.row
 have BM:=(yc.new W (modZ og) 130).grown A2 (by simp)
 have b3:=yF hA.blk hg RT (by decide)
 have RP:=RowT.blk b3
 have gs:=yf w3 P 3 v'
 have hlt:=h.gr.size
 have hrow:∀ k,vm.ownBlock=some k->W0.heap.size<=k:=fun k e=>(h.row.lt k e).1
 refine ⟨?_,?_,by simp [h.lenG],by simp [h.lenO],?_,?_,by simp; omega,?_,h.lo,?_,?_,?_⟩
 ·have:=b3.set 3 v'
  rw [yso] at this
  exact this
 ·have:=yy hown gs RP (by decide)
  simpa using this
 ·intro i hi
  have hg1:(gl ++ [og])[i]?=some ((gl ++ [og])[i]'(by simp [h.lenG]; simpa using hi)):=yst _
  by_cases hlt2:i < bl.length
  ·have e1:(bl ++ [W.heap.size])[i]=bl[i]:=List.getElem_append_left hlt2
   have e2:(gl ++ [og])[i]'(by simp [h.lenG]; omega)=gl[i]'(by rw [h.lenG]; exact hlt2):=List.getElem_append_left _
   rw [e1,e2]
   exact yF (yF (hA.mods i hlt2) hg RT (by decide)) gs RP (by decide)
  ·have hi2:i=bl.length:=by simp at hi; omega
   subst hi2
   have e1:(bl ++ [W.heap.size])[bl.length]=W.heap.size:=by simp
   have e2:(gl ++ [og])[bl.length]'(by simp [h.lenG])=og:=by simp [<- h.lenG]
   rw [e1,e2]
   exact yF (yF BM hg RT (by decide)) gs RP (by decide)
 ·intro i hi
  by_cases hlt2:i < bl.length
  ·have e1:(os ++ [o])[i]'(by simp [h.lenO]; omega)=os[i]'(by rw [h.lenO]; exact hlt2):=List.getElem_append_left _
   have e2:(gl ++ [og])[i]'(by simp [h.lenG]; omega)=gl[i]'(by rw [h.lenG]; exact hlt2):=List.getElem_append_left _
   rw [e1,e2]
   exact yaQ (yaQ (hA.objs i hlt2) hg RT (by decide) (by decide) (by decide) (by decide)) gs RP (by decide) (by decide) (by decide) (by decide)
  ·have hi2:i=bl.length:=by simp at hi; omega
   subst hi2
   have e1:(os ++ [o])[bl.length]'(by simp [h.lenO])=o:=by simp [<- h.lenO]
   have e2:(gl ++ [og])[bl.length]'(by simp [h.lenG])=og:=by simp [<- h.lenG]
   rw [e1,e2]
   exact yaQ (yaQ (ho.kept A) hg RT (by decide) (by decide) (by decide) (by decide)) gs RP (by decide) (by decide) (by decide) (by decide)
 ·intro x hx
  rcases List.mem_append.1 hx with hx | hx
  ·exact h.syms x hx
  ·simp at hx; subst hx; exact hs
 ·intro x hx
  rcases List.mem_append.1 hx with hx | hx
  ·exact h.los x hx
  ·simp at hx; subst hx; exact hlt
 ·exact yN (yN (ya h.gr A) hg hrow) gs (by intro k e; simp at e; have:=h.lo; omega)
 ·rw [List.nodup_append]
  refine ⟨h.nd,by simp,fun a ha b hb=>?_⟩
  simp at hb
  subst hb
  obtain ⟨i,hi,rfl⟩:=List.getElem_of_mem ha
  exact Nat.ne_of_lt (h.mods i hi).lt
end
set_option maxRecDepth 100000 in
set_option maxHeartbeats 8000000 in
theorem yko (W0:World) (P:Nat) (bt bf bd:Int) (vm:Value) (bl gl:List Nat) (os:List Lk.Obj) (og:Nat) (o:Lk.Obj) (W:World) (h:yaF W0 P bt bf bd vm bl gl os W) (ho:yr W og o) (hf:bl.length < 4096) (hs:o.syms.length<=65535) :
  Calls Tryz.prog 101 #[ptrV P,ptrV og] W fun e W'=>e = .returned (.tuple #[])/\(∃ vm' b,yaF W0 P bt bf bd vm' (bl ++ [b]) (gl ++ [og]) (os ++ [o]) W')/\yal [121,125] W W':=by
 obtain ⟨i0,hi,hz0,hz1,hz2⟩:=info_parts Tryz.infoPtrMod
 obtain ⟨am,cm,rfl⟩:=yh h.row
 have H:=hid h
 have HO:=hid ho
 have c3:W.cell? ⟨P,3,none⟩=some (.slice am bl.length cm):=h.blk.cell 3
 have hP:=h.blk.lt
 have hcap:=yak h.row
 have hsz:=h.gr.size
 have SZ:(W.alloc (.cells (modZ og) 130)).heap.size=W.heap.size+1:=Array.size_push _
 have CN:=hid (show ∀ j u,[ptrV W.heap.size][j]?=some u->((W.alloc (.cells (modZ og) 130)).alloc (.cells #[ptrV W.heap.size] 121)).cell? ((⟨W.heap.size+1,0,none⟩:Addr).add j)=some u by
  have:=cell_one_new (W.alloc (.cells (modZ og) 130)) (ptrV W.heap.size) 121
  rw [SZ] at this
  exact this)
 have HR:=hid ((h.kept (ya (ysp W (.cells (modZ og) 130) none) (ysp _ (.cells #[ptrV W.heap.size] 121) none))).row)
 have HB:=hid ((h.kept (ya (ysp W (.cells (modZ og) 130) none) (ysp _ (.cells #[ptrV W.heap.size] 121) none))).blk)
 have HS:=hid (show W0.heap.size<=((W.alloc (.cells (modZ og) 130)).alloc (.cells #[ptrV W.heap.size] 121)).heap.size from (h.kept (ya (ysp W (.cells (modZ og) 130) none) (ysp _ (.cells #[ptrV W.heap.size] 121) none))).gr.size)
 clear h ho SZ
 unfold ptrV
 go_enter Tryz.func101,Tryz.ntmps101
 go_wp2_with (at_builtin; refine ybX _ rfl _ _ 120 rfl W0.heap.size 121 i0 (.pointer none) 1 8 Tryz.underlying120 hi hz0 hz1 hz2 rfl (by decide) _ _ _ rfl HR.out ⟨W.heap.size+1,0,none⟩ 1 1 [ptrV W.heap.size] rfl rfl CN.out (by intro u hu; simp at hu; subst hu; rfl) (by unfold maxLen; omega) (by omega) HS.out ?_; intro v' w3 hown' hgrow hblk; obtain ⟨av',cv',rfl⟩:=yh hown'; have RT:=RowT.own HR.out; have b3:=yF HB.out hgrow RT (by decide); have f3:=b3.free 3; have k3:=b3.cell 3; have K:=hid (H.out.more HO.out hf hs hown' hgrow); have FR:=hid (((yal.grown (ts:=[121,125]) (ya (ysp W (.cells (modZ og) 130) none) (ysp _ (.cells #[ptrV W.heap.size] 121) none))).trans (yal.row hgrow RT (by decide))).trans (yal.row (yf w3 P 3 (.slice av' (bl.length+1) cv')) (RowT.blk b3) (by decide))); clear hgrow hown' RT b3 hblk)
 go_end0
 exact ⟨rfl,⟨_,_,K.out⟩,FR.out⟩
structure yaC (W:World) (mg:Nat) (gs:List Nat) (ms:List (Lk.Obj×Bool)):Prop where
 len:gs.length=ms.length
 row:∃ cur,yc W mg cur 159/\∀ i (h:i < ms.length),cur[i * 2]?=some (ptrV (gs[i]'(by rw [len]; exact h)))/\cur[i * 2+1]?=some (.bool ms[i].2)
 objs:∀ i (h:i < ms.length),yr W (gs[i]'(by rw [len]; exact h)) ms[i].1
 syms:∀ m∈ms,m.1.syms.length<=65535
def yaN (ts:List TypeId) (mg:Nat) (W W':World):Prop:=∀ k cs t,yc W k cs t->t ∉ ts->k≠mg->yc W' k cs t
theorem yaN.refl (ts:List TypeId) (mg:Nat) (W:World):yaN ts mg W W:=fun _ _ _ h _ _=>h
theorem yal.x {ts:List TypeId} {A B:World} (h:yal ts A B) (mg:Nat):yaN ts mg A B:=fun k cs t hb ht _=>h k cs t hb ht
theorem yaN.trans {ts:List TypeId} {mg:Nat} {A B C:World} (h:yaN ts mg A B) (k:yaN ts mg B C):yaN ts mg A C:=fun b cs t hb ht hn=>k b cs t (h b cs t hb ht hn) ht hn
theorem yaN.set (ts:List TypeId) (W:World) (mg o:Nat) (v:Value):yaN ts mg W (W.setCell ⟨mg,o,none⟩ v):=fun _ _ _ hb _ hn=>hb.grown (yf W mg o v) (by simp; omega)
def yaq (ms:List (Lk.Obj×Bool)):Nat:=(ms.filter fun m=>!m.2).length
section
variable {W W':World} {mg:Nat} {gs:List Nat} {ms:List (Lk.Obj×Bool)}
theorem yaC.frame {ts:List TypeId} (h:yaC W mg gs ms) (hf:yal ts W W') (h0:159 ∉ ts) (h1:71 ∉ ts) (h2:3 ∉ ts) (h3:100 ∉ ts) (h4:102 ∉ ts):yaC W' mg gs ms:=by
 obtain ⟨cur,hb,hc⟩:=h.row
 exact ⟨h.len,⟨cur,hf _ _ _ hb h0,hc⟩,fun i hi=>hf.obj (h.objs i hi) h1 h2 h3 h4,h.syms⟩
theorem yaC.kept (h:yaC W mg gs ms) (hg:W.grownBy W' none):yaC W' mg gs ms:=h.frame (ts:=[]) (yal.grown hg) (by simp) (by simp) (by simp) (by simp) (by simp)
theorem yaC.cells (h:yaC W mg gs ms) (i:Nat) (hi:i < ms.length):W.cell? ⟨mg,i * 2,none⟩=some (ptrV (gs[i]'(by rw [h.len]; exact hi)))/\W.cell? ⟨mg,i * 2+1,none⟩=some (.bool ms[i].2)/\W.frozen? ⟨mg,i * 2+1,none⟩=false:=by
 obtain ⟨cur,hb,hc⟩:=h.row
 exact ⟨(hb.cell _).trans (hc i hi).1,(hb.cell _).trans (hc i hi).2,hb.free _⟩
theorem yaC.put (h:yaC W mg gs ms) (i:Nat) (hi:i < ms.length):yaC (W.setCell ⟨mg,i * 2+1,none⟩ (.bool true)) mg gs (ms.set i (ms[i].1,true)):=by
 obtain ⟨cur,hb,hc⟩:=h.row
 have RT:=RowT.blk hb
 have gs':=yf W mg (i * 2+1) (.bool true)
 have hsz:i * 2+1 < cur.size:=by
  have:=(hc i hi).2
  exact (Array.getElem?_eq_some_iff.1 this).1
 refine ⟨by rw [List.length_set]; exact h.len,⟨_,hb.set (i * 2+1) (.bool true),fun j hj=>?_⟩,fun j hj=>?_,fun m hm=>?_⟩
 ·rw [List.length_set] at hj
  rw [Array.getElem?_setIfInBounds,Array.getElem?_setIfInBounds,if_neg (by omega)]
  refine ⟨(hc j hj).1,?_⟩
  by_cases e:i=j
  ·subst e
   rw [if_pos rfl,if_pos hsz,List.getElem_set_self]
  ·rw [if_neg (by omega),List.getElem_set_ne e]
   exact (hc j hj).2
 ·rw [List.length_set] at hj
  have e:(ms.set i (ms[i].1,true))[j].1=ms[j].1:=by
   by_cases e:i=j
   ·subst e; rw [List.getElem_set_self]
   ·rw [List.getElem_set_ne e]
  rw [e]
  exact yaQ (h.objs j hj) gs' RT (by decide) (by decide) (by decide) (by decide)
 ·obtain ⟨j,hj,rfl⟩:=List.getElem_of_mem hm
  rw [List.length_set] at hj
  by_cases e:i=j
  ·subst e; rw [List.getElem_set_self]; exact h.syms ms[i] (ysr hi)
  ·rw [List.getElem_set_ne e]; exact h.syms _ (ysr hj)
end
theorem yio (ms:List (Lk.Obj×Bool)) (k:Nat) (os:List Lk.Obj) (h:k < ms.length):Ln.pass (ms.drop k) os=if ms[k].2=false/\Ln.needs os ms[k].1=true then ((ms[k].1,true) :: (Ln.pass (ms.drop (k+1)) (os ++ [ms[k].1])).1,(Ln.pass (ms.drop (k+1)) (os ++ [ms[k].1])).2.1,true) else (ms[k] :: (Ln.pass (ms.drop (k+1)) os).1,(Ln.pass (ms.drop (k+1)) os).2.1,(Ln.pass (ms.drop (k+1)) os).2.2):=by
 rw [ysu h]
 generalize ms[k]=m
 obtain ⟨o,t⟩:=m
 rw [Ln.pass]
theorem ygl:∀ (ms:List (Lk.Obj×Bool)) (i:Nat) (h:i < ms.length) (o:Lk.Obj),ms[i].2=false->yaq (ms.set i (o,true))+1=yaq ms:=by
 intro ms
 induction ms with
 | nil=>intro i h; simp at h
 | cons m ms ih =>
  intro i h o hf
  obtain ⟨mo,mt⟩:=m
  cases i with
  | zero =>
   simp only [ysx] at hf
   subst hf
   simp [yaq]
  | succ i =>
   have:=ih i (by simpa using h) o (by simpa using hf)
   unfold yaq at this ⊢
   simp only [ysm,List.filter_cons]
   split <;> (try simp only [yss]) <;> omega
theorem ymY (ms:List (Lk.Obj×Bool)):yaq ms<=ms.length:=List.length_filter_le _ _
structure ybd (ms1:List (Lk.Obj×Bool)) (os1:List Lk.Obj) (j:Nat) (ms2:List (Lk.Obj×Bool)) (os2:List Lk.Obj) (more:Bool):Prop where
 len:ms2.length=ms1.length
 rest:ms2.drop j=ms1.drop j
 eq:Ln.pass ms1 os1=(ms2.take j ++ (Ln.pass (ms1.drop j) os2).1,(Ln.pass (ms1.drop j) os2).2.1,more || (Ln.pass (ms1.drop j) os2).2.2)
 un:yaq ms2+(if more then 1 else 0)<=yaq ms1
theorem ybd.start (ms:List (Lk.Obj×Bool)) (os:List Lk.Obj):ybd ms os 0 ms os false:=⟨rfl,rfl,by simp,by simp⟩
theorem ybd.at {ms1 ms2:List (Lk.Obj×Bool)} {os1 os2:List Lk.Obj} {j:Nat} {more:Bool} (h:ybd ms1 os1 j ms2 os2 more) (hj:j < ms1.length):ms2[j]'(by rw [h.len]; exact hj)=ms1[j]:=by
 have e:=h.rest
 rw [ysu (by rw [h.len]; exact hj),ysu hj] at e
 exact (List.cons.inj e).1
theorem ybd.yes {ms1 ms2:List (Lk.Obj×Bool)} {os1 os2:List Lk.Obj} {j:Nat} {more:Bool} (h:ybd ms1 os1 j ms2 os2 more) (hj:j < ms1.length) (hj2:j < ms2.length) (h1:ms2[j].2=false) (h2:Ln.needs os2 ms2[j].1=true):ybd ms1 os1 (j+1) (ms2.set j (ms2[j].1,true)) (os2 ++ [ms2[j].1]) true:=by
 have ea:=h.at hj
 have e:=h.eq
 rw [yio ms1 j os2 hj,<- ea,if_pos ⟨h1,h2⟩] at e
 refine ⟨by rw [List.length_set]; exact h.len,?_,?_,?_⟩
 ·have r:=h.rest
  rw [List.drop_set_of_lt (by omega),<- List.drop_drop (i:=1) (j:=j),<- List.drop_drop (i:=1) (j:=j) (l:=ms1),r]
 ·rw [e]
  have t:(ms2.set j (ms2[j].1,true)).take (j+1)=ms2.take j ++ [(ms2[j].1,true)]:=by
   rw [List.take_succ_eq_append_getElem (by rw [List.length_set]; exact hj2),List.getElem_set_self,List.take_set_of_le (by omega)]
  rw [t]
  simp
 ·have:=ygl ms2 j hj2 ms2[j].1 h1
  have u:=h.un
  simp only [if_true]
  omega
theorem ybd.no {ms1 ms2:List (Lk.Obj×Bool)} {os1 os2:List Lk.Obj} {j:Nat} {more:Bool} (h:ybd ms1 os1 j ms2 os2 more) (hj:j < ms1.length) (hj2:j < ms2.length) (h1:¬ (ms2[j].2=false/\Ln.needs os2 ms2[j].1=true)):ybd ms1 os1 (j+1) ms2 os2 more:=by
 have ea:=h.at hj
 have e:=h.eq
 rw [yio ms1 j os2 hj,<- ea,if_neg h1] at e
 refine ⟨h.len,?_,?_,h.un⟩
 ·have r:=h.rest
  rw [<- List.drop_drop (i:=1) (j:=j),<- List.drop_drop (i:=1) (j:=j) (l:=ms1),r]
 ·rw [e,List.take_succ_eq_append_getElem hj2,List.append_assoc]
  rfl
theorem ybd.fin {ms1 ms2:List (Lk.Obj×Bool)} {os1 os2:List Lk.Obj} {j:Nat} {more:Bool} (h:ybd ms1 os1 j ms2 os2 more) (hj:j=ms1.length):Ln.pass ms1 os1=(ms2,os2,more):=by
 have e:=h.eq
 subst hj
 rw [List.drop_length,Ln.pass,List.take_of_length_le (by rw [h.len]; exact Nat.le_refl _)] at e
 rw [e]
 simp
set_option maxRecDepth 100000 in
set_option maxHeartbeats 8000000 in
theorem yhn (W0:World) (P:Nat) (bt bf bd:Int) (vm:Value) (bl gl:List Nat) (os:List Lk.Obj) (mg cm:Nat) (gs:List Nat) (ms:List (Lk.Obj×Bool)) (W:World) (h:yaF W0 P bt bf bd vm bl gl os W) (hm:yaC W mg gs ms) (hc:bl.length+yaq ms<=4096) (hml:W0.heap.size<=mg) (hn:ms.length<=4096) (hcm:ms.length<=cm/\cm<=maxLen) :
  Calls Tryz.prog 100 #[ptrV P,.slice (some ⟨mg,0,none⟩) ms.length cm] W fun e W'=>e = .returned (.tuple #[])/\(∃ vm' bl' gl',yaF W0 P bt bf bd vm' bl' gl' (Ln.takeArch (ms.length+1) ms os) W'/\bl'.length<=bl.length+yaq ms)/\yaN [121,125] mg W W':=by
 have H:=hid h
 have HM:=hid hm
 have hcm1:=hcm.2
 unfold maxLen at hcm1
 clear h hm
 unfold ptrV
 go_enter Tryz.func100,Tryz.ntmps100
 obtain ⟨T,hT⟩:∃ T,T=Ln.takeArch (ms.length+1) ms os:=⟨_,rfl⟩
 rw [<- hT]
 have HT:=hid hT
 clear hT
 have hu:=ymY ms
 go_wp2
 go_loopg [4] (ms.length+1) (fun g mo wr=>∃ (more:Bool) (ms1:List (Lk.Obj×Bool)) (os1:List Lk.Obj) (bl1 gl1:List Nat) (vm1:Value),mo = .bool more/\yaF W0 P bt bf bd vm1 bl1 gl1 os1 wr/\yaC wr mg gs ms1/\ms1.length=ms.length/\bl1.length+yaq ms1<=bl.length+yaq ms/\yaN [121,125] mg W wr/\(more=true->yaq ms1+1<=g/\T=Ln.takeArch g ms1 os1)/\(more=false->T=os1))
 case atStart=>exact ⟨true,ms,os,bl,gl,vm,rfl,H.out,HM.out,rfl,Nat.le_refl _,yaN.refl _ _ _,fun _=>⟨by omega,HT.out⟩,fun c=>by cases c⟩
 case round =>
  obtain ⟨more,ms1,os1,bl1,gl1,vm1,rfl,hg,hm,hl,hb,hfr,hy,hno⟩:=hrel
  cases more with
  | false =>
   have E:=hid (hno rfl)
   have HG:=hid hg
   have HFR:=hid hfr
   clear hg hm hfr hy hno
   go_wp2
   go_end0
   rw [E.out]
   exact ⟨rfl,⟨vm1,bl1,gl1,HG.out,by omega⟩,HFR.out⟩
  | true =>
   obtain ⟨hk,hE⟩:=hy rfl
   obtain ⟨gk',rfl⟩:∃ k,gk=k+1:=⟨gk - 1,by omega⟩
   have E:=hid hE
   have HG:=hid hg
   have HM1:=hid hm
   have HFR:=hid hfr
   clear hg hm hfr hy hno hE
   obtain ⟨U,hU⟩:∃ U:World,U=wr:=⟨_,rfl⟩
   subst hU
   go_wp2
   go_loopw [4,9] (fun mo i wr=>∃ (j:Nat) (more2:Bool) (ms2:List (Lk.Obj×Bool)) (os2:List Lk.Obj) (bl2 gl2:List Nat) (vm2:Value),j<=ms.length/\i = .int .i64 j/\mo = .bool more2/\yaF W0 P bt bf bd vm2 bl2 gl2 os2 wr/\yaC wr mg gs ms2/\ybd ms1 os1 j ms2 os2 more2/\bl2.length+yaq ms2<=bl.length+yaq ms/\yaN [121,125] mg W wr) (fun _ i _=>ms.length - (intOf i).toNat)
   case atStart=>exact ⟨0,false,ms1,os1,bl1,gl1,vm1,Nat.zero_le _,rfl,rfl,HG.out,HM1.out,ybd.start _ _,hb,HFR.out⟩
   case round =>
    obtain ⟨j,more2,ms2,os2,bl2,gl2,vm2,hj,rfl,rfl,hg2,hm2,hp2,hb2,hf2⟩:=hrel
    have HG2:=hid hg2
    have HM2:=hid hm2
    have HP2:=hid hp2
    have HF2:=hid hf2
    clear hg2 hm2 hp2 hf2
    by_cases hlt:j < ms.length
    ·have hj1:j < ms1.length:=by omega
     have hj2:j < ms2.length:=by rw [HP2.out.len]; exact hj1
     obtain ⟨m0,m1,m1f⟩:=HM2.out.cells j hj2
     have g1:(j:Int) < (ms.length:Int):=by omega
     have YES:=hid (HP2.out.yes hj1 hj2)
     have NO:=hid (HP2.out.no hj1 hj2)
     have OB:=hid (HM2.out.objs j hj2)
     have SY:=HM2.out.syms ms2[j] (ysr hj2)
     have PT:=hid (fun V (hV:yaC V mg gs ms2)=>hV.put j hj2)
     have US:=hid (ygl ms2 j hj2 ms2[j].1)
     generalize ms2[j]=mj at *
     obtain ⟨oj,tj⟩:=mj
     dsimp only at *
     unfold ptrV at m0
     generalize hgj:gs[j]'_=gj at *
     have Q0:=hid hgj
     clear hgj
     cases tj with
     | true =>
      have E2:=hid (NO.out (fun c=>by cases c.1))
      go_wp2
      go_roundw
      case rel=>exact ⟨j+1,more2,ms2,os2,bl2,gl2,vm2,by omega,by go_num,rfl,HG2.out,HM2.out,E2.out,hb2,HF2.out⟩
      case measure=>simp [intOf]; omega
     | false =>
      obtain ⟨am,cm2,hvm⟩:=yh HG2.out.row
      subst hvm
      have c3:wr.cell? ⟨P,3,none⟩=some (.slice am bl2.length cm2):=HG2.out.blk.cell 3
      have cN:=hid (yob P am cm2 bl2 os2 gj oj wr c3 HG2.out.modsIn OB.out SY)
      clear c3
      go_wp2_with fail
      refine cN.out.mono ?_
      rintro e W5 ⟨rfl,h5⟩
      have HG5:=hid (HG2.out.kept h5)
      have HM5:=hid (HM2.out.kept h5)
      have HF5:=hid (HF2.out.trans ((yal.grown h5).x mg))
      have OB5:=hid (OB.out.kept h5)
      have m0':=yd m0 h5
      have m1':=yd m1 h5
      clear h5 cN m0 m1 m1f
      obtain ⟨-,-,m1f⟩:=HM5.out.cells j hj2
      cases hn2:Ln.needs os2 oj with
      | false =>
       have E2:=hid (NO.out (fun c=>by rw [hn2] at c; cases c.2))
       clear hn2
       go_wp2
       go_roundw
       case rel=>exact ⟨j+1,more2,ms2,os2,bl2,gl2,_,by omega,by go_num,rfl,HG5.out,HM5.out,E2.out,hb2,HF5.out⟩
       case measure=>simp [intOf]; omega
      | true =>
       have E2:=hid (YES.out trivial hn2)
       have hus:=US.out trivial
       clear hn2
       obtain ⟨cur,hcb,-⟩:=HM5.out.row
       have RM:=RowT.blk hcb
       have GS:=yf W5 mg (j * 2+1) (.bool true)
       have HG6:=hid (HG5.out.ty GS RM (by intro k e; simp at e; omega) (by decide) (by decide) (by decide) (by decide) (by decide) (by decide) (by decide))
       have HM6:=hid (PT.out W5 HM5.out)
       have OB6:=hid (yaQ OB5.out GS RM (by decide) (by decide) (by decide) (by decide))
       have HF6:=hid (HF5.out.trans (yaN.set _ W5 mg (j * 2+1) (.bool true)))
       have n0:(W5.setCell ⟨mg,j * 2+1,none⟩ (.bool true)).cell? ⟨mg,j * 2,none⟩=some (.pointer (some ⟨gj,0,none⟩)):=by
        obtain ⟨q0,-,-⟩:=HM6.out.cells j (by rw [List.length_set]; exact hj2)
        exact q0.trans (by rw [<- Q0.out]; rfl)
       clear hcb RM GS PT
       have cT:=hid (yko W0 P bt bf bd _ bl2 gl2 os2 gj oj _ HG6.out OB6.out (by omega) SY)
       unfold ptrV at cT
       go_wp2_with fail
       refine cT.out.mono ?_
       rintro e W7 ⟨rfl,⟨vm7,b7,h7⟩,f7⟩
       have HG7:=hid h7
       have HM7:=hid (HM6.out.frame f7 (by decide) (by decide) (by decide) (by decide) (by decide))
       have HF7:=hid (HF6.out.trans (f7.x mg))
       clear h7 f7 cT n0 m0' m1' m1f
       go_wp2
       go_roundw
       case rel=>exact ⟨j+1,true,_,_,_,_,_,by omega,by go_num,rfl,HG7.out,HM7.out,E2.out,by simp; omega,HF7.out⟩
       case measure=>simp [intOf]; omega
    ·obtain rfl:j=ms.length:=by omega
     have E2:=hid (HP2.out.fin (by omega))
     have g3:decide ((ms.length:Int) < (ms.length:Int))=false:=by simp
     have TE:=hid (show T=if (Ln.pass ms1 os1).2.2=true then Ln.takeArch gk' (Ln.pass ms1 os1).1 (Ln.pass ms1 os1).2.1 else (Ln.pass ms1 os1).2.1 from E.out)
     rw [E2.out] at TE
     dsimp only at TE
     have hun:=HP2.out.un
     have hl2:=HP2.out.len
     go_wp2
     go_roundg gk'
     case measure=>omega
     case rel =>
      refine ⟨more2,ms2,os2,bl2,gl2,vm2,rfl,HG2.out,HM2.out,by omega,hb2,HF2.out,fun c=>?_,fun c=>?_⟩
      ·subst c
       simp only [if_true] at hun
       exact ⟨by omega,by rw [TE.out,if_pos rfl]⟩
      ·subst c
       rw [TE.out,if_neg (by decide)]
theorem Tryz.infoU8:(Tryz.prog.info? 5).map (fun i=>(i.zero,i.size,i.bytes))=some (some (.int .u8 0),1,1):=by kernel_rfl
def byV (l:List UInt8):List Value:=l.map fun c=>.int .u8 c.toNat
def WrAt (W:World) (b:Nat) (l:List UInt8):Prop :=
 ∃ ao cap,yc W b #[.slice ao l.length cap] 105/\W.ownsRow (b+1) 5 1 (.slice ao l.length cap) l.length (byV l)
theorem yky (W:World):WrAt (W.alloc (.cells #[.slice none 0 0] 105)) W.heap.size [] :=
 ⟨none,0,yc.new W _ _,World.ownsRow_nil _ _ _ _⟩
theorem ymp (n:Int):bits .and .i64 n 255=n % 256:=by
 have h255:(BitVec.ofInt 64 255).toNat=2 ^ 8 - 1:=by decide
 have key:(BitVec.ofInt 64 n &&& BitVec.ofInt 64 255).toNat=(n % ((2 ^ 64:Nat):Int)).toNat % 2 ^ 8:=by
  rw [BitVec.toNat_and,BitVec.toNat_ofInt,h255,Nat.and_two_pow_sub_one_eq_mod]
 show IntKind.i64.wrap ((BitVec.ofInt 64 n &&& BitVec.ofInt 64 255).toNat:Nat)=n % 256
 rw [key,IntKind.wrap_i64]
 omega
def lowB (x:Int):UInt8:=UInt8.ofNat (x % 256).toNat
theorem yoZ (x:Int):((lowB x).toNat:Int)=bits .and .i64 x 255 % 256:=by
 rw [ymp]
 unfold lowB
 rw [UInt8.toNat_ofNat']
 omega
theorem ypa {w:World} {base:Nat} {v:Value} {n:Nat} {xs:List Value} {x:Int} (h:w.ownsRow base 5 1 v n (xs ++ [.int .u8 (bits .and .i64 x 255 % 256)])):w.ownsRow base 5 1 v n (xs ++ [.int .u8 (lowB x).toNat]):=by
 rw [yoZ]; exact h
def ydD (b:Nat) (w w':World):Prop:=∀ k cs t,k≠b->t≠5->yc w k cs t->yc w' k cs t
theorem ydD.refl (b:Nat) (w:World):ydD b w w:=fun _ _ _ _ _ h=>h
theorem ydD.trans {b:Nat} {x y z:World} (h:ydD b x y) (k:ydD b y z):ydD b x z:=fun i cs t hi ht hb=>k i cs t hi ht (h i cs t hi ht hb)
def Wk (b:Nat) (w w':World):Prop:=Below b w w'/\ydD b w w'
theorem Wk.refl (b:Nat) (w:World):Wk b w w:=⟨Below.refl _ _,ydD.refl _ _⟩
theorem Wk.trans {b:Nat} {x y z:World} (h:Wk b x y) (k:Wk b y z):Wk b x z:=⟨h.1.trans k.1,h.2.trans k.2⟩
theorem Wk.alloc {b:Nat} {x y:World} (h:Wk b x y) (hb:b<=y.heap.size) (o:Obj):Wk b x (y.alloc o) :=
 ⟨h.1.alloc hb o,h.2.trans fun _ _ _ _ _ hk=>hk.grown (ysp y o none) (by simp)⟩
theorem yoT {wr w1:World} {b:Nat} {o:Obj} {base:Nat} {v0:Value} {n:Nat} {xs:List Value} (hown:wr.ownsRow base 5 1 v0 n xs) (hg:(wr.alloc o).grownBy w1 v0.ownBlock) (v:Value):ydD b wr (w1.setCell ⟨b,0,none⟩ v):=by
 intro k cs t hk ht hb
 have h1:=hb.grown (ysp wr o none) (by simp)
 have h2:yc w1 k cs t:=h1.grown hg (by
  rcases hown.2 with ⟨rfl,_⟩ | ⟨g,cap,cur,rfl,_,hh,_⟩
  ·simp [Value.ownBlock]
  ·intro e
   simp only [Value.ownBlock,Option.some.injEq] at e
   subst e
   unfold yc at hb
   rw [hb] at hh
   simp only [Option.some.injEq,Obj.cells.injEq] at hh
   exact ht hh.2.1)
 exact h2.grown (yf w1 b 0 v) (by simpa using hk)
theorem ykz {w wr w1:World} {b:Nat} {l:List UInt8} {ao:Option Addr} {cap:Nat} {o:Obj} {v:Value} {c:UInt8} (hb:yc wr b #[.slice ao l.length cap] 105) (hwk:Wk b w wr) (hown0:wr.ownsRow (b+1) 5 1 (.slice ao l.length cap) l.length (byV l))
  (hg:(wr.alloc o).grownBy w1 (Value.ownBlock (.slice ao l.length cap))) (hrow:∀ g,Value.ownBlock (.slice ao l.length cap)=some g->b+1<=g) (hown:w1.ownsRow (b+1) 5 1 v (l.length+1) (byV l ++ [.int .u8 c.toNat])) :
  WrAt (w1.setCell ⟨b,0,none⟩ v) b (l ++ [c])/\Wk b w (w1.setCell ⟨b,0,none⟩ v):=by
 have hkt:=yoT (b:=b) hown0 hg v
 have hB1:yc w1 b #[.slice ao l.length cap] 105:=(hb.grown (ysp wr o none) (by simp)).grown hg (fun e=>by have:=hrow b e.symm; omega)
 obtain ⟨ao',cap',rfl⟩:=yh hown
 have hlen:(l ++ [c]).length=l.length+1:=by simp
 refine ⟨⟨ao',cap',?_,?_⟩,?_⟩
 ·rw [hlen]
  exact hB1.set 0 _
 ·have e:byV (l ++ [c])=byV l ++ [.int .u8 c.toNat]:=by simp [byV]
  rw [hlen,e]
  exact ownsRow_setCell_below hown (Nat.lt_succ_self b) _
 ·refine ⟨?_,hwk.2.trans hkt⟩
  exact ((hwk.1.alloc (Nat.le_of_lt hb.lt) o).grown hg (by have:=hb.lt; simp; omega) (fun g hg=>by have:=hrow g hg; omega)).setCell (Nat.le_refl b) _
theorem ydQ {wr w1:World} {b:Nat} {cs:Array Value} {t:TypeId} {o:Obj} {row:Option Nat} (hb:yc wr b cs t) (hg:(wr.alloc o).grownBy w1 row) (hrow:∀ g,row=some g->b+1<=g):yc w1 b cs t :=
 (hb.grown (ysp wr o none) (by simp)).grown hg (fun e=>by have:=hrow b e.symm; omega)
set_option maxHeartbeats 1000000 in
theorem ygn (b:Nat) (n:Int) (size:Nat) (l:List UInt8) (w:World) (h:WrAt w b l) (hl:l.length<=16777216) (hs:size<=4) (hn0:-1099511627776<=n) (hn1:n<=1099511627776) :
  Calls Tryz.prog 58 #[.pointer (some ⟨b,0,none⟩),.int .i64 n,.int .i64 size] w fun e w'=>e = .returned (.tuple #[])/\WrAt w' b (l ++ Lk.le n size)/\Wk b w w':=by
 obtain ⟨i0,hi,hz0,hz1,hz2⟩:=info_parts Tryz.infoU8
 have H:=hid h
 clear h
 go_enter Tryz.func58,Tryz.ntmps58
 go_wp2
 go_loopw [1,6] (fun m i wr=>∃ (k:Nat) (x:Int),k<=size/\i = .int .i64 k/\m = .int .i64 x/\-1099511627776<=x/\x<=1099511627776/\(∃ acc:List UInt8,acc.length=l.length+k/\WrAt wr b acc/\l ++ Lk.le n size=acc ++ Lk.le x (size - k))/\Wk b w wr) (fun _ i _=>size - (intOf i).toNat)
 case atStart=>exact ⟨0,n,Nat.zero_le _,rfl,rfl,hn0,hn1,⟨l,rfl,H.out,by simp⟩,Wk.refl _ _⟩
 case round =>
  obtain ⟨k,x,hk,rfl,rfl,hx0,hx1,hdone,hbel⟩:=hrel
  have HD:=hid hdone
  have HB:=hid hbel
  clear hdone hbel
  by_cases hlt:k < size
  ·obtain ⟨acc,hdl,hw,hle⟩:=HD.out
   obtain ⟨ao,cap,hblk,hown⟩:=hw
   have c0:=hblk.cell 0
   have f0:=hblk.free 0
   have hbl:=hblk.lt
   have HBK:=hid hblk
   have HLE:=hid hle
   have HDL:=hid hdl
   have hdl2:acc.length<=16777220:=by omega
   have hrow:=hid (show ∀ g,Value.ownBlock (.slice ao acc.length cap)=some g->b+1<=g from fun g hg=>(hown.lt g hg).1)
   clear hblk hle hdl HD
   go_wp2_with (at_builtin; refine wpList_append_own _ rfl _ _ 42 rfl (b+1) 5 i0 (.int .u8 0) 1 1 Tryz.underlying42 hi hz0 hz1 hz2 rfl (by decide) (.slice ao acc.length cap) acc.length (byV acc) rfl (hown.alloc _) ⟨wr.heap.size,0,none⟩ 1 1 [.int .u8 (bits .and .i64 x 255 % 256)] rfl rfl (cell_one_new _ _ _) (by intro u hu; simp at hu; subst hu; rfl) (by unfold maxLen; omega) (by omega) (by simp; omega) ?_; intro v' w3 hown' hgrow _; obtain ⟨ao',cap',rfl⟩:=yh hown'; have m0:=(ydQ HBK.out hgrow hrow.out).cell 0; have n0:=(ydQ HBK.out hgrow hrow.out).free 0; have P:=hid (ykz HBK.out HB.out hown hgrow hrow.out (ypa hown')); clear hown' hgrow hown c0 f0)
   go_roundw
   case rel =>
    refine ⟨k+1,x / 256,by omega,by go_num,rfl,by omega,by omega,⟨acc ++ [lowB x],?_,P.out.1,?_⟩,P.out.2⟩
    ·have:=HDL.out; simp; omega
    ·have e:size - k=(size - (k+1))+1:=by omega
     rw [HLE.out,e]
     simp [Lk.le,lowB]
   case measure=>simp [intOf]; omega
  ·go_wp2
   go_end0
   obtain ⟨acc,hdl,hw,hle⟩:=HD.out
   have e:size - k=0:=by omega
   rw [e] at hle
   simp only [Lk.le,List.append_nil] at hle
   rw [hle]
   exact ⟨rfl,hw,HB.out⟩
end Go.Proofs.YtpgklkhgfcjceaaGreatDoor
