/- Walks: an operation of a text. -/
/- Walks: an operation, a line. -/
/- Walks: a line. -/
/- Walks: what is left unbound. -/
/- Walks: relocations brought together. -/
/- The scanner goes forward only. -/
import Derived.Test.YtpgklkhgfcjceaaGreatDoorG23
import Derived.Test.YtpgklkhgfcjceaaGreatDoorG06
namespace Go.Proofs.YtpgklkhgfcjceaaGreatDoor
open Go.RowKit
set_option maxRecDepth 100000 in
set_option maxHeartbeats 8000000 in
theorem ygS (B:Nat) (s:ByteArray) (b g:Nat) (st:As.St) (shape op:Nat) (W:World) (h:yl B s b g st W) (h1:1<=shape) (h2:shape<=14) (ho:shape=1\/shape=2\/shape=8->1<=op/\op<=25) :
  Calls Tryz.prog 90 #[.pointer (some ⟨b,0,none⟩),.int .i64 shape,.int .i64 op] W fun en W'=>en = .returned (.tuple #[])/\Does B s b g W (As.instruction (sl s) shape op st) W':=by
 rcases (show shape=1\/shape=2\/shape=3\/shape=4\/shape=5\/shape=6\/shape=7\/shape=8\/shape=9\/shape=10\/shape=11\/shape=12\/shape=13\/shape=14 by omega) with rfl | rfl | rfl | rfl | rfl | rfl | rfl | rfl | rfl | rfl | rfl | rfl | rfl | rfl
 ·have c:=hid (yiR B s b g st op W h (ho (by omega)).1 (ho (by omega)).2)
  have RS:=hid (show As.instruction (sl s) 1 op st=As.threeRegs (sl s) op st from by unfold As.instruction; rw [if_pos rfl])
  generalize As.instruction (sl s) 1 op st=X at *
  clear h ho h1 h2
  go_enter Tryz.func90,Tryz.ntmps90
  go_wp2_with fail
  refine c.out.mono ?_
  rintro e VF ⟨rfl,hh⟩
  have DF:=hid hh
  clear hh c
  go_wp2
  go_end0
  rw [RS.out]
  exact ⟨rfl,DF.out⟩
 ·have c:=hid (yhY B s b g st op W h (ho (by omega)).1 (ho (by omega)).2)
  have RS:=hid (show As.instruction (sl s) 2 op st=As.twoRegsNum (sl s) op st from by unfold As.instruction; rw [if_neg (by decide),if_pos rfl])
  generalize As.instruction (sl s) 2 op st=X at *
  clear h ho h1 h2
  go_enter Tryz.func90,Tryz.ntmps90
  go_wp2_with fail
  refine c.out.mono ?_
  rintro e VF ⟨rfl,hh⟩
  have DF:=hid hh
  clear hh c
  go_wp2
  go_end0
  rw [RS.out]
  exact ⟨rfl,DF.out⟩
 ·have c:=hid (yos B s b g st W h)
  have RS:=hid (show As.instruction (sl s) 3 op st=As.upper (sl s) st from by unfold As.instruction; rw [if_neg (by decide),if_neg (by decide),if_pos rfl])
  generalize As.instruction (sl s) 3 op st=X at *
  clear h ho h1 h2
  go_enter Tryz.func90,Tryz.ntmps90
  go_wp2_with fail
  refine c.out.mono ?_
  rintro e VF ⟨rfl,hh⟩
  have DF:=hid hh
  clear hh c
  go_wp2
  go_end0
  rw [RS.out]
  exact ⟨rfl,DF.out⟩
 ·have c:=hid (yoY B s b g st W h)
  have RS:=hid (show As.instruction (sl s) 4 op st=As.load (sl s) st from by unfold As.instruction; rw [if_neg (by decide),if_neg (by decide),if_neg (by decide),if_pos rfl])
  generalize As.instruction (sl s) 4 op st=X at *
  clear h ho h1 h2
  go_enter Tryz.func90,Tryz.ntmps90
  go_wp2_with fail
  refine c.out.mono ?_
  rintro e VF ⟨rfl,hh⟩
  have DF:=hid hh
  clear hh c
  go_wp2
  go_end0
  rw [RS.out]
  exact ⟨rfl,DF.out⟩
 ·have c:=hid (yon B s b g st W h)
  have RS:=hid (show As.instruction (sl s) 5 op st=As.store (sl s) st from by unfold As.instruction; rw [if_neg (by decide),if_neg (by decide),if_neg (by decide),if_neg (by decide),if_pos rfl])
  generalize As.instruction (sl s) 5 op st=X at *
  clear h ho h1 h2
  go_enter Tryz.func90,Tryz.ntmps90
  go_wp2_with fail
  refine c.out.mono ?_
  rintro e VF ⟨rfl,hh⟩
  have DF:=hid hh
  clear hh c
  go_wp2
  go_end0
  rw [RS.out]
  exact ⟨rfl,DF.out⟩
 ·have c:=hid (ygu B s b g st W h)
  have RS:=hid (show As.instruction (sl s) 6 op st=As.jumpRegister (sl s) st from by unfold As.instruction; rw [if_neg (by decide),if_neg (by decide),if_neg (by decide),if_neg (by decide),if_neg (by decide),if_pos rfl])
  generalize As.instruction (sl s) 6 op st=X at *
  clear h ho h1 h2
  go_enter Tryz.func90,Tryz.ntmps90
  go_wp2_with fail
  refine c.out.mono ?_
  rintro e VF ⟨rfl,hh⟩
  have DF:=hid hh
  clear hh c
  go_wp2
  go_end0
  rw [RS.out]
  exact ⟨rfl,DF.out⟩
 ·have c:=hid (yox B s b g st W h)
  have RS:=hid (show As.instruction (sl s) 7 op st=As.bare st from by unfold As.instruction; rw [if_neg (by decide),if_neg (by decide),if_neg (by decide),if_neg (by decide),if_neg (by decide),if_neg (by decide),if_pos rfl])
  generalize As.instruction (sl s) 7 op st=X at *
  clear h ho h1 h2
  go_enter Tryz.func90,Tryz.ntmps90
  go_wp2_with fail
  refine c.out.mono ?_
  rintro e VF ⟨rfl,hh⟩
  have DF:=hid hh
  clear hh c
  go_wp2
  go_end0
  rw [RS.out]
  exact ⟨rfl,DF.out⟩
 ·have c:=hid (ymg B s b g st op W h (ho (by omega)).1 (ho (by omega)).2)
  have RS:=hid (show As.instruction (sl s) 8 op st=As.branch (sl s) op st from by unfold As.instruction; rw [if_neg (by decide),if_neg (by decide),if_neg (by decide),if_neg (by decide),if_neg (by decide),if_neg (by decide),if_neg (by decide),if_pos rfl])
  generalize As.instruction (sl s) 8 op st=X at *
  clear h ho h1 h2
  go_enter Tryz.func90,Tryz.ntmps90
  go_wp2_with fail
  refine c.out.mono ?_
  rintro e VF ⟨rfl,hh⟩
  have DF:=hid hh
  clear hh c
  go_wp2
  go_end0
  rw [RS.out]
  exact ⟨rfl,DF.out⟩
 ·have c:=hid (yjC B s b g st W h)
  have RS:=hid (show As.instruction (sl s) 9 op st=As.jumpLink (sl s) st from by unfold As.instruction; rw [if_neg (by decide),if_neg (by decide),if_neg (by decide),if_neg (by decide),if_neg (by decide),if_neg (by decide),if_neg (by decide),if_neg (by decide),if_pos rfl])
  generalize As.instruction (sl s) 9 op st=X at *
  clear h ho h1 h2
  go_enter Tryz.func90,Tryz.ntmps90
  go_wp2_with fail
  refine c.out.mono ?_
  rintro e VF ⟨rfl,hh⟩
  have DF:=hid hh
  clear hh c
  go_wp2
  go_end0
  rw [RS.out]
  exact ⟨rfl,DF.out⟩
 ·have c:=hid (yoS B s b g st W h)
  have RS:=hid (show As.instruction (sl s) 10 op st=As.layJump (sl s) 0 st from by unfold As.instruction; rw [if_neg (by decide),if_neg (by decide),if_neg (by decide),if_neg (by decide),if_neg (by decide),if_neg (by decide),if_neg (by decide),if_neg (by decide),if_neg (by decide),if_pos rfl])
  generalize As.instruction (sl s) 10 op st=X at *
  clear h ho h1 h2
  go_enter Tryz.func90,Tryz.ntmps90
  go_wp2_with fail
  refine c.out.mono ?_
  rintro e VF ⟨rfl,hh⟩
  have DF:=hid hh
  clear hh c
  go_wp2
  go_end0
  rw [RS.out]
  exact ⟨rfl,DF.out⟩
 ·have c:=hid (ypg B s b g st W h)
  have RS:=hid (show As.instruction (sl s) 11 op st=As.move (sl s) st from by unfold As.instruction; rw [if_neg (by decide),if_neg (by decide),if_neg (by decide),if_neg (by decide),if_neg (by decide),if_neg (by decide),if_neg (by decide),if_neg (by decide),if_neg (by decide),if_neg (by decide),if_pos rfl])
  generalize As.instruction (sl s) 11 op st=X at *
  clear h ho h1 h2
  go_enter Tryz.func90,Tryz.ntmps90
  go_wp2_with fail
  refine c.out.mono ?_
  rintro e VF ⟨rfl,hh⟩
  have DF:=hid hh
  clear hh c
  go_wp2
  go_end0
  rw [RS.out]
  exact ⟨rfl,DF.out⟩
 ·have c:=hid (yhL B s b g st W h)
  have RS:=hid (show As.instruction (sl s) 12 op st=As.loadNumber (sl s) st from by unfold As.instruction; rw [if_neg (by decide),if_neg (by decide),if_neg (by decide),if_neg (by decide),if_neg (by decide),if_neg (by decide),if_neg (by decide),if_neg (by decide),if_neg (by decide),if_neg (by decide),if_neg (by decide),if_pos rfl])
  generalize As.instruction (sl s) 12 op st=X at *
  clear h ho h1 h2
  go_enter Tryz.func90,Tryz.ntmps90
  go_wp2_with fail
  refine c.out.mono ?_
  rintro e VF ⟨rfl,hh⟩
  have DF:=hid hh
  clear hh c
  go_wp2
  go_end0
  rw [RS.out]
  exact ⟨rfl,DF.out⟩
 ·have c:=hid (yoy B s b g st W h)
  have RS:=hid (show As.instruction (sl s) 13 op st=As.call (sl s) st from by unfold As.instruction; rw [if_neg (by decide),if_neg (by decide),if_neg (by decide),if_neg (by decide),if_neg (by decide),if_neg (by decide),if_neg (by decide),if_neg (by decide),if_neg (by decide),if_neg (by decide),if_neg (by decide),if_neg (by decide),if_pos rfl])
  generalize As.instruction (sl s) 13 op st=X at *
  clear h ho h1 h2
  go_enter Tryz.func90,Tryz.ntmps90
  go_wp2_with fail
  refine c.out.mono ?_
  rintro e VF ⟨rfl,hh⟩
  have DF:=hid hh
  clear hh c
  go_wp2
  go_end0
  rw [RS.out]
  exact ⟨rfl,DF.out⟩
 ·have c:=hid (ygW B s b g st W h)
  have RS:=hid (show As.instruction (sl s) 14 op st=As.loadAddress (sl s) st from by unfold As.instruction; rw [if_neg (by decide),if_neg (by decide),if_neg (by decide),if_neg (by decide),if_neg (by decide),if_neg (by decide),if_neg (by decide),if_neg (by decide),if_neg (by decide),if_neg (by decide),if_neg (by decide),if_neg (by decide),if_neg (by decide),if_pos rfl])
  generalize As.instruction (sl s) 14 op st=X at *
  clear h ho h1 h2
  go_enter Tryz.func90,Tryz.ntmps90
  go_wp2_with fail
  refine c.out.mono ?_
  rintro e VF ⟨rfl,hh⟩
  have DF:=hid hh
  clear hh c
  go_wp2
  go_end0
  rw [RS.out]
  exact ⟨rfl,DF.out⟩
set_option maxRecDepth 100000 in
set_option maxHeartbeats 8000000 in
theorem yix (B:Nat) (s:ByteArray) (b g:Nat) (st:As.St) (shape:Nat) (W:World) (h:yl B s b g st W) (h1:15<=shape) (h2:shape<=19) :
  Calls Tryz.prog 92 #[.pointer (some ⟨b,0,none⟩),.int .i64 shape] W fun en W'=>en = .returned (.tuple #[])/\Does B s b g W (As.directive (sl s) shape st) W':=by
 rcases (show shape=15\/shape=16\/shape=17\/shape=18\/shape=19 by omega) with rfl | rfl | rfl | rfl | rfl
 ·have HW:=hid h
  have c:=hid (yln B s b g st W h)
  have RS:=hid (show As.directive (sl s) 15 st=As.section' st from rfl)
  generalize As.directive (sl s) 15 st=X at *
  clear h h1 h2
  go_enter Tryz.func92,Tryz.ntmps92
  go_wp2_with fail
  refine c.out.mono ?_
  rintro e VF ⟨rfl,hh⟩
  have DF:=hid (hh.does HW.out)
  clear hh c
  go_wp2
  go_end0
  rw [RS.out]
  exact ⟨rfl,DF.out⟩
 ·have HW:=hid h
  have c:=hid (ypL B s b g st W h)
  have RS:=hid (show As.directive (sl s) 16 st=As.word (sl s) st from rfl)
  generalize As.directive (sl s) 16 st=X at *
  clear h h1 h2
  go_enter Tryz.func92,Tryz.ntmps92
  go_wp2_with fail
  refine c.out.mono ?_
  rintro e VF ⟨rfl,hh⟩
  have DF:=hid hh
  clear hh c
  go_wp2
  go_end0
  rw [RS.out]
  exact ⟨rfl,DF.out⟩
 ·have HW:=hid h
  have c:=hid (yol B s b g st W h)
  have RS:=hid (show As.directive (sl s) 17 st=As.space (sl s) st from rfl)
  generalize As.directive (sl s) 17 st=X at *
  clear h h1 h2
  go_enter Tryz.func92,Tryz.ntmps92
  go_wp2_with fail
  refine c.out.mono ?_
  rintro e VF ⟨rfl,hh⟩
  have DF:=hid hh
  clear hh c
  go_wp2
  go_end0
  rw [RS.out]
  exact ⟨rfl,DF.out⟩
 ·have HW:=hid h
  have c:=hid (ynk B s b g st W h)
  have RS:=hid (show As.directive (sl s) 18 st=As.align (sl s) st from rfl)
  generalize As.directive (sl s) 18 st=X at *
  clear h h1 h2
  go_enter Tryz.func92,Tryz.ntmps92
  go_wp2_with fail
  refine c.out.mono ?_
  rintro e VF ⟨rfl,hh⟩
  have DF:=hid hh
  clear hh c
  go_wp2
  go_end0
  rw [RS.out]
  exact ⟨rfl,DF.out⟩
 ·have HW:=hid h
  have c:=hid (ykF B s b g st W h)
  have RS:=hid (show As.directive (sl s) 19 st=As.binding (sl s) st from rfl)
  generalize As.directive (sl s) 19 st=X at *
  clear h h1 h2
  go_enter Tryz.func92,Tryz.ntmps92
  go_wp2_with fail
  refine c.out.mono ?_
  rintro e VF ⟨rfl,hh⟩
  have DF:=hid hh
  clear hh c
  go_wp2
  go_end0
  rw [RS.out]
  exact ⟨rfl,DF.out⟩
theorem yev (t:List UInt8):As.dirShape t=0\/(15<=As.dirShape t/\As.dirShape t<=19):=by
 unfold As.dirShape
 repeat' split
 all_goals omega
theorem ylq (t:List UInt8):As.shapeOf t<=19:=by
 have hd:=yev t
 unfold As.shapeOf
 by_cases h:t=[97,100,100]
 ·rw [if_pos h]; omega
 rw [if_neg h]
 clear h
 by_cases h:t=[115,117,98]
 ·rw [if_pos h]; omega
 rw [if_neg h]
 clear h
 by_cases h:t=[115,108,116]
 ·rw [if_pos h]; omega
 rw [if_neg h]
 clear h
 by_cases h:t=[115,108,116,117]
 ·rw [if_pos h]; omega
 rw [if_neg h]
 clear h
 by_cases h:t=[120,111,114]
 ·rw [if_pos h]; omega
 rw [if_neg h]
 clear h
 by_cases h:t=[111,114]
 ·rw [if_pos h]; omega
 rw [if_neg h]
 clear h
 by_cases h:t=[97,110,100]
 ·rw [if_pos h]; omega
 rw [if_neg h]
 clear h
 by_cases h:t=[97,100,100,105]
 ·rw [if_pos h]; omega
 rw [if_neg h]
 clear h
 by_cases h:t=[115,108,116,105]
 ·rw [if_pos h]; omega
 rw [if_neg h]
 clear h
 by_cases h:t=[120,111,114,105]
 ·rw [if_pos h]; omega
 rw [if_neg h]
 clear h
 by_cases h:t=[111,114,105]
 ·rw [if_pos h]; omega
 rw [if_neg h]
 clear h
 by_cases h:t=[97,110,100,105]
 ·rw [if_pos h]; omega
 rw [if_neg h]
 clear h
 by_cases h:t=[108,117,105]
 ·rw [if_pos h]; omega
 rw [if_neg h]
 clear h
 by_cases h:t=[108,119]
 ·rw [if_pos h]; omega
 rw [if_neg h]
 clear h
 by_cases h:t=[115,119]
 ·rw [if_pos h]; omega
 rw [if_neg h]
 clear h
 by_cases h:t=[106,97,108,114]
 ·rw [if_pos h]; omega
 rw [if_neg h]
 clear h
 by_cases h:t=[101,99,97,108,108]
 ·rw [if_pos h]; omega
 rw [if_neg h]
 clear h
 by_cases h:t=[114,101,116]
 ·rw [if_pos h]; omega
 rw [if_neg h]
 clear h
 by_cases h:t=[110,111,112]
 ·rw [if_pos h]; omega
 rw [if_neg h]
 clear h
 by_cases h:t=[98,101,113]
 ·rw [if_pos h]; omega
 rw [if_neg h]
 clear h
 by_cases h:t=[98,110,101]
 ·rw [if_pos h]; omega
 rw [if_neg h]
 clear h
 by_cases h:t=[98,108,116]
 ·rw [if_pos h]; omega
 rw [if_neg h]
 clear h
 by_cases h:t=[98,103,101]
 ·rw [if_pos h]; omega
 rw [if_neg h]
 clear h
 by_cases h:t=[98,108,116,117]
 ·rw [if_pos h]; omega
 rw [if_neg h]
 clear h
 by_cases h:t=[98,103,101,117]
 ·rw [if_pos h]; omega
 rw [if_neg h]
 clear h
 by_cases h:t=[106,97,108]
 ·rw [if_pos h]; omega
 rw [if_neg h]
 clear h
 by_cases h:t=[106]
 ·rw [if_pos h]; omega
 rw [if_neg h]
 clear h
 by_cases h:t=[109,118]
 ·rw [if_pos h]; omega
 rw [if_neg h]
 clear h
 by_cases h:t=[108,105]
 ·rw [if_pos h]; omega
 rw [if_neg h]
 clear h
 by_cases h:t=[99,97,108,108]
 ·rw [if_pos h]; omega
 rw [if_neg h]
 clear h
 by_cases h:t=[116,97,105,108]
 ·rw [if_pos h]; omega
 rw [if_neg h]
 clear h
 by_cases h:t=[108,97]
 ·rw [if_pos h]; omega
 rw [if_neg h]
 clear h
 omega
theorem ylp (t:List UInt8) (hh:As.shapeOf t=1\/As.shapeOf t=2\/As.shapeOf t=8):1<=As.named t/\As.named t<=25:=by
 have hd:=yev t
 generalize hx:As.shapeOf t=x at *
 unfold As.shapeOf at hx
 by_cases h:t=[97,100,100]
 ·subst h; decide
 rw [if_neg h] at hx
 clear h
 by_cases h:t=[115,117,98]
 ·subst h; decide
 rw [if_neg h] at hx
 clear h
 by_cases h:t=[115,108,116]
 ·subst h; decide
 rw [if_neg h] at hx
 clear h
 by_cases h:t=[115,108,116,117]
 ·subst h; decide
 rw [if_neg h] at hx
 clear h
 by_cases h:t=[120,111,114]
 ·subst h; decide
 rw [if_neg h] at hx
 clear h
 by_cases h:t=[111,114]
 ·subst h; decide
 rw [if_neg h] at hx
 clear h
 by_cases h:t=[97,110,100]
 ·subst h; decide
 rw [if_neg h] at hx
 clear h
 by_cases h:t=[97,100,100,105]
 ·subst h; decide
 rw [if_neg h] at hx
 clear h
 by_cases h:t=[115,108,116,105]
 ·subst h; decide
 rw [if_neg h] at hx
 clear h
 by_cases h:t=[120,111,114,105]
 ·subst h; decide
 rw [if_neg h] at hx
 clear h
 by_cases h:t=[111,114,105]
 ·subst h; decide
 rw [if_neg h] at hx
 clear h
 by_cases h:t=[97,110,100,105]
 ·subst h; decide
 rw [if_neg h] at hx
 clear h
 by_cases h:t=[108,117,105]
 ·rw [if_pos h] at hx; omega
 rw [if_neg h] at hx
 clear h
 by_cases h:t=[108,119]
 ·rw [if_pos h] at hx; omega
 rw [if_neg h] at hx
 clear h
 by_cases h:t=[115,119]
 ·rw [if_pos h] at hx; omega
 rw [if_neg h] at hx
 clear h
 by_cases h:t=[106,97,108,114]
 ·rw [if_pos h] at hx; omega
 rw [if_neg h] at hx
 clear h
 by_cases h:t=[101,99,97,108,108]
 ·rw [if_pos h] at hx; omega
 rw [if_neg h] at hx
 clear h
 by_cases h:t=[114,101,116]
 ·rw [if_pos h] at hx; omega
 rw [if_neg h] at hx
 clear h
 by_cases h:t=[110,111,112]
 ·rw [if_pos h] at hx; omega
 rw [if_neg h] at hx
 clear h
 by_cases h:t=[98,101,113]
 ·subst h; decide
 rw [if_neg h] at hx
 clear h
 by_cases h:t=[98,110,101]
 ·subst h; decide
 rw [if_neg h] at hx
 clear h
 by_cases h:t=[98,108,116]
 ·subst h; decide
 rw [if_neg h] at hx
 clear h
 by_cases h:t=[98,103,101]
 ·subst h; decide
 rw [if_neg h] at hx
 clear h
 by_cases h:t=[98,108,116,117]
 ·subst h; decide
 rw [if_neg h] at hx
 clear h
 by_cases h:t=[98,103,101,117]
 ·subst h; decide
 rw [if_neg h] at hx
 clear h
 by_cases h:t=[106,97,108]
 ·rw [if_pos h] at hx; omega
 rw [if_neg h] at hx
 clear h
 by_cases h:t=[106]
 ·rw [if_pos h] at hx; omega
 rw [if_neg h] at hx
 clear h
 by_cases h:t=[109,118]
 ·rw [if_pos h] at hx; omega
 rw [if_neg h] at hx
 clear h
 by_cases h:t=[108,105]
 ·rw [if_pos h] at hx; omega
 rw [if_neg h] at hx
 clear h
 by_cases h:t=[99,97,108,108]
 ·rw [if_pos h] at hx; omega
 rw [if_neg h] at hx
 clear h
 by_cases h:t=[116,97,105,108]
 ·rw [if_pos h] at hx; omega
 rw [if_neg h] at hx
 clear h
 by_cases h:t=[108,97]
 ·rw [if_pos h] at hx; omega
 rw [if_neg h] at hx
 clear h
 omega
theorem StOk.op' {s:ByteArray} {st:As.St} (h:StOk s st) (t:As.Tok) (ht:ybU t):StOk s { st with op:=t } :=
 ⟨h.size,h.p,h.tok,h.fe,h.fa,ht,h.sect,h.text,h.far,h.data,h.bss,h.align,h.syms,h.rels⟩
set_option maxRecDepth 100000 in
set_option maxHeartbeats 8000000 in
theorem yfk (B:Nat) (s:ByteArray) (b g:Nat) (st:As.St) (t:As.Tok) (W:World) (h:yl B s b g st W) (ht:ybU t) (hN:NTab W) :
  Calls Tryz.prog 53 #[.pointer (some ⟨b,0,none⟩),tokA t] W fun en W'=>en = .returned (.tuple #[])/\Does B s b g W (As.operation (sl s) t st) W':=by
 have HW:=hid h
 have HN:=hid hN
 have HT:=hid ht
 have L0:=hid ((Loc.begin h).alloc (yS t) 64)
 have hbl:=h.blk.lt
 clear h ht hN
 have RS:=hid (show As.operation (sl s) t st=if As.shapeOf t.text=0 then As.refuse 6 t.pos st else if !As.mayStand (As.shapeOf t.text) st.sect then As.refuse 9 t.pos st else if As.shapeOf t.text<=14 then As.instruction (sl s) (As.shapeOf t.text) (As.named t.text) { st with op:=t } else As.directive (sl s) (As.shapeOf t.text) { st with op:=t } from rfl)
 have cS:=hid (fun V=>ylo t.text V)
 have hs19:=ylq t.text
 have SN:=hid (ylp t.text)
 generalize As.operation (sl s) t st=X at *
 generalize As.shapeOf t.text=shape at *
 unfold tokA
 go_enter Tryz.func53,Tryz.ntmps53
 go_wp2_with fail
 refine Calls.at_world (Loc B s b g W [(W.heap.size,yS t,64)] st) L0.out ?_
 clear L0
 generalize hr:W.heap.size=r at *
 clear hr
 intro V hV
 have L:=hid hV
 clear hV
 refine (cS.out V).mono ?_
 rintro e w1 ⟨rfl,rfl⟩
 clear cS
 obtain ⟨m0,m1,m2,m3⟩:=(⟨L.out.d,L.out.l (r,yS t,64) (by simp)⟩:LocB B s b g W r t st w1).cells
 have D:=hid (L.out.d.does HW.out)
 by_cases h0:shape=0
 ·have d:((shape:Int) == 0)=true:=by simp; omega
  rw [if_pos h0] at RS
  clear h0
  go_wp2_with fail
  refine (yK B s b g st 6 t.pos w1 D.out.1 (by omega) HT.out.pos).mono ?_
  rintro e V3 ⟨rfl,h3⟩
  have D3:=hid (D.out.afterB h3)
  clear h3
  go_wp2
  (try simp only [Exit.inBlock,Exit.then]); refine bodyPost_ret (results_none rfl _ _ _) rfl ?_
  rw [RS.out]
  exact ⟨rfl,D3.out⟩
 have d:((shape:Int) == 0)=false:=by simp; omega
 rw [if_neg h0] at RS
 go_wp2_with fail
 refine (yjL B s b g st shape w1 D.out.1 (by omega) hs19).mono ?_
 rintro e w2 ⟨rfl,rfl⟩
 cases hm:As.mayStand shape st.sect
 ·rw [hm,if_pos (show (!false)=true from rfl)] at RS
  clear hm
  go_wp2_with fail
  refine (yK B s b g st 9 t.pos w2 D.out.1 (by omega) HT.out.pos).mono ?_
  rintro e V3 ⟨rfl,h3⟩
  have D3:=hid (D.out.afterB h3)
  clear h3
  go_wp2
  (try simp only [Exit.inBlock,Exit.then]); refine bodyPost_ret (results_none rfl _ _ _) rfl ?_
  rw [RS.out]
  exact ⟨rfl,D3.out⟩
 rw [hm,if_neg (by simp)] at RS
 clear hm
 have k9:=D.out.1.blk.free 9
 have k10:=D.out.1.blk.free 10
 have k11:=D.out.1.blk.free 11
 have k12:=D.out.1.blk.free 12
 have c9:=yL D.out.1 9
 have c10:=yL D.out.1 10
 have c11:=yL D.out.1 11
 have c12:=yL D.out.1 12
 simp only [yE,ysk,ysl,ysj] at c9 c10 c11 c12
 have hrb:r≠b:=(⟨L.out.d,L.out.l (r,yS t,64) (by simp)⟩:LocB B s b g W r t st w2).ne
 have hbr:b≠r:=fun e=>hrb e.symm
 have P:=hid (L.out.d.sets [(9,.int .i64 t.kind),(10,.int .i64 t.pos),(11,.string (bs t.text)),(12,.int .i64 t.n)] { st with op:=t }
  (by simp only [ybl,yE,ysz,ysA,yso,ysm,ysn]) rfl (D.out.1.ok.op' t HT.out))
 by_cases h14:shape<=14
 ·have d2:decide ((shape:Int)<=14)=true:=by simp; omega
  rw [if_pos h14] at RS
  have cI:=hid (fun V hV=>ygS B s b g { st with op:=t } shape (As.named t.text) V hV (by omega) h14 SN.out)
  have cN:=hid (fun V (hV:NTab V)=>yhJ t.text V hV)
  clear h14
  go_wp2_with fail
  have PD:=hid (P.out.does HW.out)
  refine (cN.out _ (HN.out.below PD.out.2.1 PD.out.1.lo.1)).mono ?_
  rintro e w3 ⟨rfl,hw3⟩
  have PD3:Hid (Does B s b g W { st with op:=t } w3):=by rw [hw3]; exact PD.out
  clear hw3 PD cN m0 m1 m2 m3 c9 c10 c11 c12 k9 k10 k11 k12
  go_wp2_with fail
  refine (cI.out w3 PD3.out.1).mono ?_
  rintro e VF ⟨rfl,hh⟩
  have DF:=hid (PD3.out.after hh)
  clear hh
  go_wp2
  first | go_end0 | ((try simp only [Exit.inBlock,Exit.then]); refine bodyPost_ret (results_none rfl _ _ _) rfl ?_)
  rw [RS.out]
  exact ⟨rfl,DF.out⟩
 ·have d2:decide ((shape:Int)<=14)=false:=by simp; omega
  rw [if_neg h14] at RS
  have cI:=hid (fun V hV=>yix B s b g { st with op:=t } shape V hV (by omega) hs19)
  clear h14
  go_wp2_with fail
  have PD:=hid (P.out.does HW.out)
  refine (cI.out _ PD.out.1).mono ?_
  rintro e VF ⟨rfl,hh⟩
  have DF:=hid (PD.out.after hh)
  clear hh
  go_wp2
  first | go_end0 | ((try simp only [Exit.inBlock,Exit.then]); refine bodyPost_ret (results_none rfl _ _ _) rfl ?_)
  rw [RS.out]
  exact ⟨rfl,DF.out⟩
structure LocA (B:Nat) (s:ByteArray) (b g:Nat) (W:World) (r:Nat) (t:As.Tok) (st:As.St) (V:World):Prop where
 d:Does B s b g W st V
 l:yc V r (yS t) 64
 new:W.heap.size<=r
 lt:B<=W.heap.size
section
variable {B:Nat} {s:ByteArray} {b g r:Nat} {W V V':World} {t:As.Tok} {st st':As.St}
theorem LocA.step (h:LocA B s b g W r t st V) (k:Does B s b g V st' V'):LocA B s b g W r t st' V' :=
 ⟨h.d.after k,k.2.2 r _ _ (by decide) (by decide) (by decide) (by decide) (by decide) h.l,h.new,h.lt⟩
theorem LocA.stepB (h:LocA B s b g W r t st V) (k:yR B s b g V st' V'):LocA B s b g W r t st' V':=h.step (k.does h.d.1)
theorem LocA.grown (h:LocA B s b g W r t st V) (k:V.grownBy V' none):LocA B s b g W r t st V':=⟨h.d.grown k,h.l.grown k (by simp),h.new,h.lt⟩
theorem LocA.begin (h:Does B s b g W st V) (hB:B<=W.heap.size) (t:As.Tok):LocA B s b g W V.heap.size t st (V.alloc (.cells (yS t) 64)) :=
 ⟨h.alloc _,yc.new V _ _,h.2.1.size,hB⟩
theorem LocA.put (h:LocA B s b g W r t st V) (t':As.Tok):LocA B s b g W r t' st (sets V r [(0,.int .i64 t'.kind),(1,.int .i64 t'.pos),(2,.string (bs t'.text)),(3,.int .i64 t'.n)]) :=
 ⟨h.d.local h.l (by unfold LocT; decide) h.lt h.new _,by
  have:=ybD [(0,.int .i64 t'.kind),(1,.int .i64 t'.pos),(2,.string (bs t'.text)),(3,.int .i64 t'.n)] h.l
  simpa only [yS,ybl,ysz,ysA,yso,ysm,ysn] using this,h.new,h.lt⟩
theorem LocA.cells (h:LocA B s b g W r t st V):V.cell? ⟨r,0,none⟩=some (.int .i64 t.kind)/\V.cell? ⟨r,1,none⟩=some (.int .i64 t.pos)/\V.cell? ⟨r,2,none⟩=some (.string (bs t.text))/\V.cell? ⟨r,3,none⟩=some (.int .i64 t.n):=by
 have c0:=h.l.cell 0
 have c1:=h.l.cell 1
 have c2:=h.l.cell 2
 have c3:=h.l.cell 3
 simp only [yS,ysk,ysl,ysj] at c0 c1 c2 c3
 exact ⟨c0,c1,c2,c3⟩
end
theorem yfH (s:List UInt8) (st:As.St) (h:ybU st.tok):ybU (As.takeWord s st).1:=by
 unfold As.takeWord
 split
 ·exact h
 ·exact ycO
def ycI (st:As.St):As.St:=if st.tok.kind == 4 then st else As.refuse 3 st.tok.pos st
theorem yij (s:List UInt8) (t:As.Tok) (st:As.St) (h:(t.kind == 1)=false):As.lineOp s t st=ycI st:=by unfold As.lineOp ycI; rw [h]; rfl
theorem ygV (s:List UInt8) (t:As.Tok) (st:As.St) (h:(t.kind == 1)=true):As.lineOp s t st=ycI (As.operation s t st):=by unfold As.lineOp ycI; rw [h]; rfl
theorem ydG (st:As.St) (h:(st.tok.kind == 4)=false):ycI st=As.refuse 3 st.tok.pos st:=by unfold ycI; rw [h]; rfl
theorem ydn (st:As.St) (h:(st.tok.kind == 4)=true):ycI st=st:=by unfold ycI; rw [h]; rfl
set_option maxRecDepth 100000 in
set_option maxHeartbeats 8000000 in
theorem yoW (B:Nat) (s:ByteArray) (b g:Nat) (st:As.St) (W:World) (h:yl B s b g st W) (hN:NTab W) :
  Calls Tryz.prog 31 #[.pointer (some ⟨b,0,none⟩)] W fun en W'=>en = .returned (.tuple #[])/\Does B s b g W (As.line (sl s) st) W':=by
 have HW:=hid h
 have HN:=hid hN
 have cA:=hid (yaE B s b g st W h)
 have HB:=hid h.size
 clear h hN
 obtain ⟨X,hX⟩:∃ X,X=As.line (sl s) st:=⟨_,rfl⟩
 rw [<- hX]
 unfold As.line at hX
 dsimp only at hX
 have RS:=hid hX
 clear hX
 go_enter Tryz.func31,Tryz.ntmps31
 go_wp2_with fail
 refine cA.out.mono ?_
 rintro e V1 ⟨rfl,h1⟩
 have D1:=hid (h1.does HW.out)
 clear h1 cA
 generalize As.advance (sl s) st=st1 at *
 have TW:=hid (yfH (sl s) st1 D1.out.1.ok.tok)
 go_wp2_with fail
 refine (yfG B s b g st1 V1 D1.out.1).mono ?_
 rintro e V2 ⟨rfl,h2⟩
 have D2:=hid (D1.out.afterB h2)
 clear h2 D1
 generalize As.takeWord (sl s) st1=R at *
 obtain ⟨t,st2⟩:=R
 dsimp only at RS D2 TW ⊢
 have L0:=hid (LocA.begin D2.out HB.out t)
 have hbl:b < V2.heap.size:=D2.out.1.blk.lt
 have hbn:b≠V2.heap.size:=by omega
 obtain ⟨c2,c3,c4,c5⟩:=ybh D2.out.1
 clear D2
 unfold tokA
 cases hk:(t.kind == 1)
 ·have d:((t.kind:Int) == 1)=false:=by simp at hk ⊢; omega
  rw [hk,Bool.false_and,if_neg (by simp)] at RS
  rw [yij _ _ _ hk] at RS
  clear hk
  have hpos:=L0.out.d.1.ok.tok.pos
  cases h4:(st2.tok.kind == 4)
  ·have e1:((st2.tok.kind:Int) == 4)=false:=by simp at h4 ⊢; omega
   have e2:((st2.tok.kind:Int) != 4)=true:=by simp at h4 ⊢; omega
   rw [ydG _ h4] at RS
   clear h4
   go_wp2_with fail
   refine (yK B s b g st2 3 st2.tok.pos _ L0.out.d.1 (by omega) hpos).mono ?_
   rintro e VF ⟨rfl,hh⟩
   have DF:=hid (L0.out.d.afterB hh)
   clear hh
   go_wp2
   go_end0
   rw [RS.out]
   exact ⟨rfl,DF.out⟩
  ·have e1:((st2.tok.kind:Int) == 4)=true:=by simp at h4 ⊢; omega
   have e2:((st2.tok.kind:Int) != 4)=false:=by simp at h4 ⊢; omega
   rw [ydn _ h4] at RS
   clear h4
   go_wp2
   go_end0
   rw [RS.out]
   exact ⟨rfl,L0.out.d⟩
 ·have d:((t.kind:Int) == 1)=true:=by simp at hk ⊢; omega
  rw [hk,Bool.true_and] at RS
  have HK:=hid hk
  clear hk
  go_wp2_with fail
  refine (ydz st2.tok [58] _).mono ?_
  rintro e V3 ⟨rfl,hg⟩
  have L1:=hid (L0.out.grown hg)
  clear hg L0 c2 c3 c4 c5
  generalize V2.heap.size=r at *
  obtain ⟨m0,m1,m2,m3⟩:=L1.out.cells
  cases hc:st2.tok.is [58]
  ·rw [hc,if_neg (by simp)] at RS
   rw [ygV _ _ _ HK.out] at RS
   clear hc
   go_wp2_with fail
   refine (yfk B s b g st2 t _ L1.out.d.1 TW.out (HN.out.below L1.out.d.2.1 L1.out.d.1.lo.1)).mono ?_
   rintro e V7 ⟨rfl,hh⟩
   have L7:=hid (L1.out.step hh)
   clear hh
   generalize As.operation (sl s) t st2=st7 at *
   clear m0 m1 m2 m3
   obtain ⟨b2,b3,b4,b5⟩:=ybh L7.out.d.1
   have hpos:=L7.out.d.1.ok.tok.pos
   cases h4:(st7.tok.kind == 4)
   ·have e1:((st7.tok.kind:Int) == 4)=false:=by simp at h4 ⊢; omega
    have e2:((st7.tok.kind:Int) != 4)=true:=by simp at h4 ⊢; omega
    rw [ydG _ h4] at RS
    clear h4
    go_wp2_with fail
    refine (yK B s b g st7 3 st7.tok.pos _ L7.out.d.1 (by omega) hpos).mono ?_
    rintro e VF ⟨rfl,hh⟩
    have DF:=hid (L7.out.d.afterB hh)
    clear hh
    go_wp2
    go_end0
    rw [RS.out]
    exact ⟨rfl,DF.out⟩
   ·have e1:((st7.tok.kind:Int) == 4)=true:=by simp at h4 ⊢; omega
    have e2:((st7.tok.kind:Int) != 4)=false:=by simp at h4 ⊢; omega
    rw [ydn _ h4] at RS
    clear h4
    go_wp2
    go_end0
    rw [RS.out]
    exact ⟨rfl,L7.out.d⟩
  ·rw [hc,if_pos rfl] at RS
   clear hc
   go_wp2_with fail
   refine (ynI B s b g st2 t V3 L1.out.d.1 TW.out).mono ?_
   rintro e V4 ⟨rfl,h4⟩
   have L2:=hid (L1.out.step h4)
   clear h4 L1 m0 m1 m2 m3 TW HK
   generalize As.label t st2=st3 at *
   go_wp2_with fail
   refine (yaE B s b g st3 V4 L2.out.d.1).mono ?_
   rintro e V5 ⟨rfl,h5⟩
   have L3:=hid (L2.out.stepB h5)
   clear h5 L2
   generalize As.advance (sl s) st3=st4 at *
   have TW:=hid (yfH (sl s) st4 L3.out.d.1.ok.tok)
   go_wp2_with fail
   refine (yfG B s b g st4 V5 L3.out.d.1).mono ?_
   rintro e V6 ⟨rfl,h6⟩
   have L4:=hid (L3.out.stepB h6)
   clear h6 L3
   generalize As.takeWord (sl s) st4=R6 at *
   obtain ⟨t6,st6⟩:=R6
   dsimp only at RS L4 TW ⊢
   unfold tokA
   have L5:=hid (L4.out.put t6)
   have v0:=L4.out.l.free 0
   have v1:=L4.out.l.free 1
   have v2:=L4.out.l.free 2
   have v3:=L4.out.l.free 3
   obtain ⟨m0,m1,m2,m3⟩:=L4.out.cells
   obtain ⟨b2,b3,b4,b5⟩:=ybh L4.out.d.1
   have hrb:r≠b:=by
    intro e
    have h1:=L4.out.l
    rw [e] at h1
    have:=h1.symm.trans L4.out.d.1.blk
    simp [yS,yE] at this
   have hbr:b≠r:=fun e=>hrb e.symm
   clear L4 d
   cases hk:(t6.kind == 1)
   ·have d:((t6.kind:Int) == 1)=false:=by simp at hk ⊢; omega
    rw [yij _ _ _ hk] at RS
    clear hk
    have hpos:=L5.out.d.1.ok.tok.pos
    cases h4:(st6.tok.kind == 4)
    ·have e1:((st6.tok.kind:Int) == 4)=false:=by simp at h4 ⊢; omega
     have e2:((st6.tok.kind:Int) != 4)=true:=by simp at h4 ⊢; omega
     rw [ydG _ h4] at RS
     clear h4
     go_wp2_with fail
     refine (yK B s b g st6 3 st6.tok.pos _ L5.out.d.1 (by omega) hpos).mono ?_
     rintro e VF ⟨rfl,hh⟩
     have DF:=hid (L5.out.d.afterB hh)
     clear hh
     go_wp2
     go_end0
     rw [RS.out]
     exact ⟨rfl,DF.out⟩
    ·have e1:((st6.tok.kind:Int) == 4)=true:=by simp at h4 ⊢; omega
     have e2:((st6.tok.kind:Int) != 4)=false:=by simp at h4 ⊢; omega
     rw [ydn _ h4] at RS
     clear h4
     go_wp2
     go_end0
     rw [RS.out]
     exact ⟨rfl,L5.out.d⟩
   ·have d:((t6.kind:Int) == 1)=true:=by simp at hk ⊢; omega
    rw [ygV _ _ _ hk] at RS
    clear hk
    go_wp2_with fail
    refine (yfk B s b g st6 t6 _ L5.out.d.1 TW.out (HN.out.below L5.out.d.2.1 L5.out.d.1.lo.1)).mono ?_
    rintro e V7 ⟨rfl,hh⟩
    have L7:=hid (L5.out.step hh)
    clear hh
    generalize As.operation (sl s) t6 st6=st7 at *
    clear m0 m1 m2 m3 v0 v1 v2 v3 b2 b3 b4 b5
    obtain ⟨b2,b3,b4,b5⟩:=ybh L7.out.d.1
    have hpos:=L7.out.d.1.ok.tok.pos
    cases h4:(st7.tok.kind == 4)
    ·have e1:((st7.tok.kind:Int) == 4)=false:=by simp at h4 ⊢; omega
     have e2:((st7.tok.kind:Int) != 4)=true:=by simp at h4 ⊢; omega
     rw [ydG _ h4] at RS
     clear h4
     go_wp2_with fail
     refine (yK B s b g st7 3 st7.tok.pos _ L7.out.d.1 (by omega) hpos).mono ?_
     rintro e VF ⟨rfl,hh⟩
     have DF:=hid (L7.out.d.afterB hh)
     clear hh
     go_wp2
     go_end0
     rw [RS.out]
     exact ⟨rfl,DF.out⟩
    ·have e1:((st7.tok.kind:Int) == 4)=true:=by simp at h4 ⊢; omega
     have e2:((st7.tok.kind:Int) != 4)=false:=by simp at h4 ⊢; omega
     rw [ydn _ h4] at RS
     clear h4
     go_wp2
     go_end0
     rw [RS.out]
     exact ⟨rfl,L7.out.d⟩
def ybH (y:Lk.Sym):Lk.Sym:=if y.sect=0/\y.bind=0 then ⟨y.name,1,y.sect,y.off⟩ else y
theorem yjh (ys:List Lk.Sym):As.bindRest ys=ys.map ybH:=rfl
def ybE (ys:List Lk.Sym) (k:Nat):List Lk.Sym:=(ys.take k).map ybH ++ ys.drop k
theorem yfx (ys:List Lk.Sym) (k:Nat):(ybE ys k).length=ys.length:=by simp [ybE]; omega
theorem yim (ys:List Lk.Sym) (k:Nat) (h:k < ys.length):(ybE ys k)[k]'(by rw [yfx]; exact h)=ys[k]:=by
 unfold ybE
 rw [List.getElem_append_right (by simp; omega)]
 simp [List.length_take,Nat.min_eq_left (Nat.le_of_lt h)]
theorem ygX (ys:List Lk.Sym) (k:Nat) (h:k < ys.length):ybE ys (k+1)=(ybE ys k).set k (ybH ys[k]):=by
 unfold ybE
 rw [List.take_succ_eq_append_getElem h,List.map_append,List.set_append_right _ _ (by simp; omega),ysu h]
 have e:k - ((ys.take k).map ybH).length=0:=by simp; omega
 rw [e,ysn]
 simp
theorem ynX (ys:List Lk.Sym):ybE ys ys.length=As.bindRest ys:=by rw [yjh]; simp [ybE]
theorem ymI (ys:List Lk.Sym) (k:Nat) (h:k < ys.length) (hb:ybH ys[k]=ys[k]):ybE ys (k+1)=ybE ys k:=by
 rw [ygX ys k h,hb]
 conv=>lhs; rw [<- yim ys k h]
 exact List.set_getElem_self _
def ydj (st:As.St) (ys:List Lk.Sym):As.St:={ st with obj:={ st.obj with syms:=ys } }
set_option maxRecDepth 100000 in
set_option maxHeartbeats 8000000 in
theorem yjg (B:Nat) (s:ByteArray) (b g:Nat) (st:As.St) (W:World) (h:yl B s b g st W) :
  Calls Tryz.prog 34 #[.pointer (some ⟨b,0,none⟩)] W fun en W'=>en = .returned (.tuple #[])/\Does B s b g W (ydj st (As.bindRest st.obj.syms)) W':=by
 have HW:=hid h
 have c14:=yam h
 obtain ⟨vt,vf,vd,va,vs,vr,ho⟩:=h.own
 obtain ⟨as_,cs,rfl⟩:=yh ho.syms
 have g5:=ho.blk.cell 5
 simp only [ysk,ysl,ysj] at g5
 have hn16:=h.ok.syms
 clear ho h
 generalize hys:st.obj.syms=ys at *
 have ST0:=hid (show ydj st (ybE ys 0)=st by unfold ydj ybE; rw [<- hys]; simp)
 clear hys
 go_enter Tryz.func34,Tryz.ntmps34
 go_wp2
 clear c14 g5
 go_loopw [11] (fun i wr=>∃ k:Nat,k<=ys.length/\i = .int .i64 k/\Does B s b g W (ydj st (ybE ys k)) wr) (fun i _=>ys.length - (intOf i).toNat)
 case atStart=>exact ⟨0,Nat.zero_le _,rfl,by rw [ST0.out]; exact HW.out.does⟩
 case round =>
  obtain ⟨k,hk,rfl,hd⟩:=hrel
  have D:=hid hd
  clear hd
  by_cases hlt:k < ys.length
  ·have hlt':(k:Int) < (ys.length:Int):=by omega
   have hl:(ydj st (ybE ys k)).obj.syms.length=ys.length:=yfx ys k
   obtain ⟨vt,vf,vd,va,sg,cs,vr,ho,g5,k1,k2,k3,hfz,n1,n2⟩:=yej D.out.1 k (by rw [hl]; exact hlt)
   have e0:(ydj st (ybE ys k)).obj.syms[k]'(by rw [hl]; exact hlt)=ys[k]:=yim ys k hlt
   rw [e0] at k1 k2 k3
   have hcap:=yak ho.syms
   have HO:=hid ho
   have c14:=yam D.out.1
   have f1:=hfz (k * 4+1)
   have P:=hid (fun hj:symV (ybH ys[k])=(symV ys[k]).set 1 (.int .i64 1)=>D.out.after (D.out.1.putSym HO.out k 1 (by rw [hl]; exact hlt) (by omega) (.int .i64 1) (ybH ys[k]) (by rw [e0]; exact hj)))
   rw [hl] at g5 hcap
   clear ho hfz
   have MS:=hid (ygX ys k hlt)
   have MM:=hid (ymI ys k hlt)
   have BO:=hid (show ybH ys[k]=if ys[k].sect=0/\ys[k].bind=0 then ⟨ys[k].name,1,ys[k].sect,ys[k].off⟩ else ys[k] from rfl)
   have gg1:(0:Int)<=(k:Int):=by omega
   clear e0 HO hl
   by_cases z1:ys[k].sect=0
   ·have d1:(ys[k].sect == 0)=true:=by simp [z1]
    by_cases z2:ys[k].bind=0
    ·have d2:(ys[k].bind == 0)=true:=by simp [z2]
     have B1:=hid (show ybH ys[k]=⟨ys[k].name,1,ys[k].sect,ys[k].off⟩ by rw [BO.out,if_pos ⟨z1,z2⟩])
     have F:=hid (P.out (by rw [B1.out]; rfl))
     clear z1 z2 P
     go_wp2
     go_roundw
     case rel=>exact ⟨k+1,by omega,by go_num,by rw [MS.out]; exact F.out⟩
     case measure=>simp [intOf]; omega
    ·have d2:(ys[k].bind == 0)=false:=by simp [z2]
     have B1:=hid (show ybH ys[k]=ys[k] by rw [BO.out,if_neg (fun c=>z2 c.2)])
     clear z1 z2 P
     go_wp2
     go_roundw
     case rel=>exact ⟨k+1,by omega,by go_num,by rw [MM.out B1.out]; exact D.out⟩
     case measure=>simp [intOf]; omega
   ·have d1:(ys[k].sect == 0)=false:=by simp [z1]
    have B1:=hid (show ybH ys[k]=ys[k] by rw [BO.out,if_neg (fun c=>z1 c.1)])
    clear z1 P
    go_wp2
    go_roundw
    case rel=>exact ⟨k+1,by omega,by go_num,by rw [MM.out B1.out]; exact D.out⟩
    case measure=>simp [intOf]; omega
  ·obtain rfl:k=ys.length:=by omega
   go_wp2
   go_end0
   rw [<- ynX]
   exact ⟨rfl,D.out⟩
def yar (rs:List Lk.Rel):Nat->List Lk.Rel
 | 0=>[]
 | c+1=>yar rs c ++ rs.filter (fun r=>r.sect=((c+1:Nat):Int))
def yaS (rs:List Lk.Rel) (c k:Nat):List Lk.Rel:=yar rs c ++ (rs.take k).filter (fun r=>r.sect=((c+1:Nat):Int))
theorem ykc (rs:List Lk.Rel) (c:Nat):yaS rs c rs.length=yar rs (c+1):=by unfold yaS; rw [List.take_length]; rfl
theorem yiL (rs:List Lk.Rel) (c:Nat):yaS rs c 0=yar rs c:=by simp [yaS]
theorem ykd (rs:List Lk.Rel) (c k:Nat) (h:k < rs.length) (he:rs[k].sect=((c+1:Nat):Int)):yaS rs c (k+1)=yaS rs c k ++ [rs[k]]:=by
 unfold yaS
 rw [List.take_succ_eq_append_getElem h,List.filter_append,List.append_assoc]
 congr 1
 rw [List.filter_cons_of_pos (by simpa using he)]
 rfl
theorem ylg (rs:List Lk.Rel) (c k:Nat) (h:k < rs.length) (he:¬ rs[k].sect=((c+1:Nat):Int)):yaS rs c (k+1)=yaS rs c k:=by
 unfold yaS
 rw [List.take_succ_eq_append_getElem h,List.filter_append]
 congr 1
 rw [List.filter_cons_of_neg (by simpa using he)]
 simp
theorem yey (rs:List Lk.Rel):yar rs 3=As.orderRels rs:=by
 simp only [yar,As.orderRels,List.nil_append]
 rfl
theorem yjP (rs:List Lk.Rel):(As.orderRels rs).length<=rs.length:=by
 unfold As.orderRels
 induction rs with
 | nil=>simp
 | cons r rs ih =>
  simp only [ysq,yss] at ih ⊢
  rcases (show r.sect=1\/r.sect=2\/r.sect=3\/¬ (r.sect=1\/r.sect=2\/r.sect=3) by omega) with h | h | h | h
  ·rw [List.filter_cons_of_pos (by simp [h]),List.filter_cons_of_neg (by simp [h]),List.filter_cons_of_neg (by simp [h])]; simp only [yss]; omega
  ·rw [List.filter_cons_of_neg (by simp [h]),List.filter_cons_of_pos (by simp [h]),List.filter_cons_of_neg (by simp [h])]; simp only [yss]; omega
  ·rw [List.filter_cons_of_neg (by simp [h]),List.filter_cons_of_neg (by simp [h]),List.filter_cons_of_pos (by simp [h])]; simp only [yss]; omega
  ·rw [List.filter_cons_of_neg (by simp; omega),List.filter_cons_of_neg (by simp; omega),List.filter_cons_of_neg (by simp; omega)]; omega
theorem yqr (rs:List Lk.Rel) (c:Nat):(yar rs c).length<=c * rs.length:=by
 induction c with
 | zero=>simp [yar]
 | succ c ih =>
  have h:=List.length_filter_le (fun r:Lk.Rel=>decide (r.sect=((c+1:Nat):Int))) rs
  simp only [yar,ysq]
  rw [Nat.succ_mul]
  omega
theorem yqK (rs:List Lk.Rel) (c k:Nat) (hc:c<=2) (hr:rs.length<=32):(yaS rs c k).length<=96:=by
 have h1:=yqr rs c
 have h2:=List.length_filter_le (fun r:Lk.Rel=>decide (r.sect=((c+1:Nat):Int))) (rs.take k)
 have h3:(rs.take k).length<=32:=by rw [List.length_take]; omega
 have h4:c * rs.length<=2 * 32:=Nat.mul_le_mul hc hr
 unfold yaS
 rw [ysq]
 omega
def ypK (st:As.St) (rs:List Lk.Rel):As.St:={ st with obj:={ st.obj with rels:=rs } }
set_option maxRecDepth 100000 in
set_option maxHeartbeats 8000000 in
theorem yhb (B:Nat) (s:ByteArray) (b g:Nat) (st:As.St) (W:World) (h:yl B s b g st W) :
  Calls Tryz.prog 35 #[.pointer (some ⟨b,0,none⟩)] W fun en W'=>en = .returned (.tuple #[])/\Does B s b g W (ypK st (As.orderRels st.obj.rels)) W':=by
 obtain ⟨i2,hi2,hx0,hx1,hx2⟩:=info_parts Tryz.infoRel
 have HW:=hid h
 have c14:=yam h
 obtain ⟨vt,vf,vd,va,vs,vr,ho⟩:=h.own
 obtain ⟨ar,cr,rfl⟩:=yh ho.rels
 have HO:=hid ho
 have RI:=hid (ycj.of_own ho.rels)
 have hcap:=yak ho.rels
 have g6:=ho.blk.cell 6
 have fg:=ho.blk.free 6
 simp only [ysk,ysl,ysj] at g6
 have hn32:=h.ok.rels
 clear ho h
 generalize hrs:st.obj.rels=rs at *
 have HRS:=hid hrs
 clear hrs
 go_enter Tryz.func35,Tryz.ntmps35
 go_wp2
 go_loopw [2,3] (fun v i wr=>∃ c:Nat,c<=3/\i = .int .i64 (c+1:Nat)/\wr.ownsRow W.heap.size 102 5 v (yar rs c).length ((yar rs c).flatMap relV)/\W.grownBy wr none) (fun _ i _=>4 - (intOf i).toNat)
 case atStart=>exact ⟨0,by omega,rfl,World.ownsRow_nil _ _ _ _,World.grownBy.refl _ _⟩
 case round =>
  obtain ⟨c,hc3,rfl,hown,hgr⟩:=hrel
  obtain ⟨av,cv,rfl⟩:=yh hown
  have HOW:=hid hown
  have HG:=hid hgr
  have q14:=yd c14 hgr
  have q6:=yd g6 hgr
  clear hown hgr
  by_cases hlt:c<=2
  ·have g1:(c:Int)+1<=3:=by omega
   go_wp2
   go_loopw [2,18] (fun v i w2=>∃ k:Nat,k<=rs.length/\i = .int .i64 k/\w2.ownsRow W.heap.size 102 5 v (yaS rs c k).length ((yaS rs c k).flatMap relV)/\W.grownBy w2 none) (fun _ i _=>rs.length - (intOf i).toNat)
   case atStart=>exact ⟨0,Nat.zero_le _,rfl,by rw [yiL]; exact HOW.out,HG.out⟩
   case round =>
    obtain ⟨k,hk,rfl,hown,hgr⟩:=hrel
    obtain ⟨av2,cv2,rfl⟩:=yh hown
    have HG2:=hid hgr
    have hsz:=hgr.size
    have hle:=yqK rs c k hlt hn32
    by_cases hkl:k < rs.length
    ·obtain ⟨sg,hsg,hgs,hcs⟩:=RI.out.grown hgr (by omega)
     obtain ⟨k0,k1,k2,k3,k4⟩:=hcs k hkl
     clear hcs hgr
     subst hsg
     have hk':(k:Int) < (rs.length:Int):=by omega
     have hk2':(k:Int)<=(cr:Int):=by omega
     by_cases e1:rs[k].sect=((c+1:Nat):Int)
     ·have d:(rs[k].sect == (c:Int)+1)=true:=by simp; omega
      have E:=hid (ykd rs c k hkl e1)
      clear e1
      have AG:Hid (W.grownBy ((wr.alloc (.cells #[.int .i64 rs[k].sect,.int .i64 rs[k].off,.int .i64 rs[k].kind,.int .i64 rs[k].sym,.int .i64 rs[k].addend] 102)).alloc (.cells #[.int .i64 rs[k].sect,.int .i64 rs[k].off,.int .i64 rs[k].kind,.int .i64 rs[k].sym,.int .i64 rs[k].addend] 102)) none):=ya (ya HG2.out (ysp _ _ _)) (ysp _ _ _)
      go_wp2_with (at_builtin; refine wpList_append_own _ rfl _ _ 69 rfl W.heap.size 102 i2 (.agg #[.int .i64 0,.int .i64 0,.int .i64 0,.int .i64 0,.int .i64 0]) 5 40 Tryz.underlying69 hi2 hx0 hx1 hx2 rfl (by decide) _ _ _ rfl ((hown.alloc _).alloc _) ⟨wr.heap.size+1,0,none⟩ 1 1 (relV rs[k]) rfl rfl (ymK _ _ _ _) (by intro u hu; simp [relV] at hu; rcases hu with rfl | rfl | rfl | rfl | rfl <;> rfl) (by unfold maxLen; omega) (by omega) (by simp; omega) ?_; intro v' w3 hown' hgrow _; obtain ⟨av',cv',rfl⟩:=yh hown'; have K:=hid (ybV AG.out hgrow (fun b hb=>(hown.lt b hb).1)); have HO3:=hid hown'; clear hgrow hown')
      go_wp2
      go_roundw
      case rel =>
       refine ⟨_,_,_,_,_,_,_,_,_,_,_,_,_,_,_,⟨k+1,by omega,?_,?_,K.out⟩,rfl⟩
       ·go_num
       ·rw [E.out,ysq,List.flatMap_append]; simpa using HO3.out
      case measure=>simp [intOf]; omega
     ·have d:(rs[k].sect == (c:Int)+1)=false:=by simp; omega
      have E:=hid (ylg rs c k hkl e1)
      have HO2:=hid hown
      clear e1 hown
      go_wp2
      go_roundw
      case rel=>exact ⟨k+1,by omega,by go_num,by rw [E.out]; exact HO2.out.alloc _,ya HG2.out (ysp _ _ _)⟩
      case measure=>simp [intOf]; omega
    ·obtain rfl:k=rs.length:=by omega
     have HO2:=hid hown
     clear hown hgr
     go_wp2
     go_roundw
     case rel=>exact ⟨c+1,by omega,by go_num,by rw [<- ykc]; exact HO2.out,HG2.out⟩
     case measure=>simp [intOf]; omega
  ·obtain rfl:c=3:=by omega
   have qf:wr.frozen? ⟨g,6,none⟩=false:=(HO.out.blk.grown HG.out (by simp)).free 6
   go_wp2
   go_end0
   rw [<- yey]
   have gs:=yf wr g 6 (.slice av (yar rs 3).length cv)
   have hlt0:=HO.out.blk.lt
   have hav:∀ k,Value.ownBlock (.slice av (yar rs 3).length cv)=some k->W.heap.size<=k:=fun k hk=>(HOW.out.lt k hk).1
   have nr:yaa B W (wr.setCell ⟨g,6,none⟩ (.slice av (yar rs 3).length cv)) b g (.slice ar rs.length cr) (.slice av (yar rs 3).length cv) :=
    ⟨fun k hk _ hkg=>(gs.block k (by have:=HG.out.size; omega) (by simpa using hkg)).trans (HG.out.block k hk (by simp)),fun k hk=>.inr (hav k hk),gs.os.trans HG.out.os,gs.tape.trans HG.out.tape,gs.output.trans HG.out.output,Nat.le_trans HG.out.size gs.size⟩
   have nb:=(HO.out.blk.grown HG.out (by simp)).set 6 (.slice av (yar rs 3).length cv)
   have hle:(yar rs 3).length<=32:=by rw [yey]; have:=yjP rs; omega
   refine ⟨rfl,HW.out.newRels HO.out nr (yar rs 3) hle (by simpa using nb) ?_⟩
   refine yW (ybK HOW.out fun k hk e=>?_) HW.out.size
   have:=hav k hk
   omega
end Go.Proofs.YtpgklkhgfcjceaaGreatDoor

namespace Go.Proofs.YtpgklkhgfcjceaaGreatDoor
namespace As
theorem skip_up (f:UInt8->Bool) (s:List UInt8) (p:Nat):p<=skip f s p:=by unfold skip; omega
theorem scanNum_up (s:List UInt8) (p:Nat):p<=(scanNum s p).2.2:=by
 unfold scanNum
 split
 ·simp
 split
 ·exact skip_up _ _ _
 ·exact skip_up _ _ _
theorem nextAt_up (s:List UInt8) (q:Nat):q<=(nextAt s q).2.2:=by
 unfold nextAt
 split
 ·exact Nat.le_refl _
 split
 ·exact Nat.le_refl _
 split
 ·exact scanNum_up s q
 split
 ·exact skip_up _ _ _
 split
 ·exact Nat.le_succ _
 ·exact Nat.le_refl _
theorem next_up (s:List UInt8) (p:Nat):p<=(next s p).2.2:=Nat.le_trans (skip_up _ s p) (nextAt_up s _)
theorem refuse_p (e pos:Nat) (st:St):(refuse e pos st).p=st.p:=by unfold refuse; split <;> rfl
theorem refuseIf_p (c:Bool) (e pos:Nat) (st:St):(refuseIf c e pos st).p=st.p:=by unfold refuseIf; split; exact refuse_p _ _ _; rfl
theorem advance_up (s:List UInt8) (st:St):st.p<=(advance s st).p:=by
 unfold advance
 split
 ·exact Nat.le_refl _
 split
 ·exact next_up s st.p
 ·rw [refuse_p]; exact next_up s st.p
theorem takeWord_up (s:List UInt8) (st:St):st.p<=(takeWord s st).2.p:=by
 unfold takeWord
 split
 ·exact advance_up s st
 ·exact Nat.le_refl _
theorem checkName_p (t:Tok) (st:St):(checkName t st).p=st.p:=by unfold checkName; rw [refuseIf_p,refuseIf_p,refuseIf_p]
theorem symbolNamed_p (t:Tok) (st:St):(symbolNamed t st).2.p=st.p:=by
 unfold symbolNamed
 split
 ·rfl
 split
 ·rfl
 split
 ·exact refuse_p _ _ _
 ·rfl
theorem label_p (t:Tok) (st:St):(label t st).p=st.p:=by
 unfold label
 dsimp only
 have h:=symbolNamed_p t (checkName t st)
 rw [checkName_p] at h
 split
 ·exact h
 split
 ·rw [refuse_p]; exact h
 ·exact h
theorem name_up (s:List UInt8) (st:St):st.p<=(name s st).2.p:=by
 unfold name
 split
 ·have:=advance_up s (checkName st.tok st); rw [checkName_p] at this; exact this
 ·rw [refuse_p]; exact Nat.le_refl _
theorem bind_up (s:List UInt8) (b:Int) (st:St):st.p<=(bind s b st).p:=by
 unfold bind
 dsimp only
 have h:=symbolNamed_p (name s st).1 (name s st).2
 have h2:=name_up s st
 split
 ·omega
 split
 ·rw [refuse_p]; omega
 ·show _<=(symbolNamed (name s st).1 (name s st).2).2.p; omega
theorem sign_up (s c:List UInt8) (st:St):st.p<=(sign s c st).p:=by
 unfold sign
 split
 ·exact advance_up s st
 ·rw [refuse_p]; exact Nat.le_refl _
theorem register_up (s:List UInt8) (st:St):st.p<=(register s st).2.p:=by
 unfold register
 split
 ·split
  ·rw [refuse_p]; exact Nat.le_refl _
  ·exact advance_up s st
 ·rw [refuse_p]; exact Nat.le_refl _
theorem numberFrom_up (s:List UInt8) (neg:Bool) (pos:Nat) (lo hi:Int) (st:St):st.p<=(numberFrom s neg pos lo hi st).2.p:=by
 unfold numberFrom
 generalize (if neg then -(st.tok.n:Int) else (st.tok.n:Int))=x
 split
 ·by_cases h:x < lo\/hi < x
  ·rw [if_pos h,refuse_p]; exact Nat.le_refl _
  ·rw [if_neg h]; exact advance_up s st
 ·rw [refuse_p]; exact Nat.le_refl _
theorem number_up (s:List UInt8) (lo hi:Int) (st:St):st.p<=(number s lo hi st).2.p:=by
 unfold number
 split
 ·exact Nat.le_trans (advance_up s st) (numberFrom_up _ _ _ _ _ _)
 ·exact numberFrom_up _ _ _ _ _ _
theorem symbol_up (s:List UInt8) (st:St):st.p<=(symbol s st).2.p:=by
 unfold symbol
 dsimp only
 rw [symbolNamed_p]
 exact name_up s st
theorem target_up (s:List UInt8) (st:St):st.p<=(target s st).2.p:=by
 unfold target
 dsimp only
 have h:=symbol_up s st
 split
 ·exact Nat.le_trans h (Nat.le_trans (advance_up s _) (number_up _ _ _ _))
 split
 ·exact Nat.le_trans h (Nat.le_trans (advance_up s _) (number_up _ _ _ _))
 ·exact h
theorem place_up (s:List UInt8) (st:St):st.p<=(place s st).2.p :=
 Nat.le_trans (number_up s _ _ st) (Nat.le_trans (sign_up s _ _) (Nat.le_trans (register_up s _) (sign_up s _ _)))
theorem lay_p (ws:List Int) (st:St):(lay ws st).p=st.p:=by
 unfold lay
 split
 ·exact refuse_p _ _ _
 split <;> rfl
theorem layWith_p (kind:Int) (sym:Nat) (addend:Int) (ws:List Int) (st:St):(layWith kind sym addend ws st).p=st.p:=by
 unfold layWith
 dsimp only
 split
 ·exact refuseIf_p _ _ _ _
 ·rw [lay_p]; exact refuseIf_p _ _ _ _
theorem layOne_p (op rd rs1 rs2:Nat) (n:Int) (st:St):(layOne op rd rs1 rs2 n st).p=st.p:=lay_p _ _
theorem layAddress_p (reg op rd rs1 rs2:Nat) (n:Int) (sym:Nat) (addend:Int) (st:St):(layAddress reg op rd rs1 rs2 n sym addend st).p=st.p:=by
 unfold layAddress; rw [layWith_p,refuseIf_p]
theorem up2 {a b c:Nat} (h:a<=b) (k:b<=c):a<=c:=Nat.le_trans h k
theorem threeRegs_up (s:List UInt8) (op:Nat) (st:St):st.p<=(threeRegs s op st).p:=by
 unfold threeRegs; dsimp only; rw [layOne_p]
 exact up2 (register_up s st) (up2 (sign_up s _ _) (up2 (register_up s _) (up2 (sign_up s _ _) (register_up s _))))
theorem twoRegsNum_up (s:List UInt8) (op:Nat) (st:St):st.p<=(twoRegsNum s op st).p:=by
 unfold twoRegsNum; dsimp only; rw [layOne_p]
 exact up2 (register_up s st) (up2 (sign_up s _ _) (up2 (register_up s _) (up2 (sign_up s _ _) (number_up s _ _ _))))
theorem upper_up (s:List UInt8) (st:St):st.p<=(upper s st).p:=by
 unfold upper; dsimp only; rw [layOne_p]
 exact up2 (register_up s st) (up2 (sign_up s _ _) (number_up s _ _ _))
theorem load_up (s:List UInt8) (st:St):st.p<=(load s st).p:=by
 unfold load; dsimp only
 split
 ·rw [layAddress_p]; exact up2 (register_up s st) (up2 (sign_up s _ _) (target_up s _))
 ·rw [layOne_p]; exact up2 (register_up s st) (up2 (sign_up s _ _) (place_up s _))
theorem store_up (s:List UInt8) (st:St):st.p<=(store s st).p:=by
 unfold store; dsimp only
 split
 ·rw [layAddress_p]; exact up2 (register_up s st) (up2 (sign_up s _ _) (up2 (target_up s _) (up2 (sign_up s _ _) (register_up s _))))
 ·rw [layOne_p]; exact up2 (register_up s st) (up2 (sign_up s _ _) (place_up s _))
theorem loadAddress_up (s:List UInt8) (st:St):st.p<=(loadAddress s st).p:=by
 unfold loadAddress; dsimp only; rw [layAddress_p]
 exact up2 (register_up s st) (up2 (sign_up s _ _) (target_up s _))
theorem jumpRegister_up (s:List UInt8) (st:St):st.p<=(jumpRegister s st).p:=by
 unfold jumpRegister; dsimp only; rw [layOne_p]
 exact up2 (register_up s st) (up2 (sign_up s _ _) (place_up s _))
theorem bare_p (st:St):(bare st).p=st.p:=by
 unfold bare
 split
 ·exact layOne_p ..
 split
 ·exact layOne_p ..
 split
 ·exact layOne_p ..
 ·rfl
theorem branch_up (s:List UInt8) (op:Nat) (st:St):st.p<=(branch s op st).p:=by
 unfold branch; dsimp only; rw [layWith_p]
 exact up2 (register_up s st) (up2 (sign_up s _ _) (up2 (register_up s _) (up2 (sign_up s _ _) (symbol_up s _))))
theorem layJump_up (s:List UInt8) (rd:Nat) (st:St):st.p<=(layJump s rd st).p:=by
 unfold layJump; dsimp only; rw [layWith_p]
 exact symbol_up s st
theorem jumpLink_up (s:List UInt8) (st:St):st.p<=(jumpLink s st).p:=by
 unfold jumpLink; dsimp only
 exact up2 (register_up s st) (up2 (sign_up s _ _) (layJump_up s _ _))
theorem move_up (s:List UInt8) (st:St):st.p<=(move s st).p:=by
 unfold move; dsimp only; rw [layOne_p]
 exact up2 (register_up s st) (up2 (sign_up s _ _) (register_up s _))
theorem loadNumber_up (s:List UInt8) (st:St):st.p<=(loadNumber s st).p:=by
 unfold loadNumber; dsimp only
 split
 ·rw [layOne_p]; exact up2 (register_up s st) (up2 (sign_up s _ _) (number_up s _ _ _))
 ·rw [lay_p]; exact up2 (register_up s st) (up2 (sign_up s _ _) (number_up s _ _ _))
theorem call_up (s:List UInt8) (st:St):st.p<=(call s st).p:=by
 unfold call; dsimp only; rw [layWith_p]
 exact symbol_up s st
theorem section_p (st:St):(section' st).p=st.p:=by
 unfold section'
 repeat' split
 all_goals rfl
theorem word_up (s:List UInt8) (st:St):st.p<=(word s st).p:=by
 unfold word; dsimp only
 split
 ·rw [layWith_p]; exact target_up s st
 ·rw [lay_p]; exact number_up s _ _ st
theorem space_up (s:List UInt8) (st:St):st.p<=(space s st).p:=by
 unfold space; dsimp only
 split
 ·rw [lay_p]; exact number_up s _ _ st
 ·rw [refuse_p]; exact number_up s _ _ st
theorem raiseBorder_p (k:Int) (st:St):(raiseBorder k st).p=st.p:=by unfold raiseBorder; split <;> rfl
theorem alignTo_p (b:Nat) (st:St):(alignTo b st).p=st.p:=by
 unfold alignTo
 split
 ·split
  ·exact layWith_p _ _ _ _ _
  ·rfl
 ·exact lay_p _ _
theorem align_up (s:List UInt8) (st:St):st.p<=(align s st).p:=by
 unfold align; dsimp only
 split
 ·exact number_up s _ _ st
 ·rw [raiseBorder_p,alignTo_p]; exact number_up s _ _ st
theorem instruction_up (s:List UInt8) (shape op:Nat) (st:St):st.p<=(instruction s shape op st).p:=by
 unfold instruction
 by_cases h:shape=1
 ·rw [if_pos h]; exact threeRegs_up _ _ _
 rw [if_neg h]
 clear h
 by_cases h:shape=2
 ·rw [if_pos h]; exact twoRegsNum_up _ _ _
 rw [if_neg h]
 clear h
 by_cases h:shape=3
 ·rw [if_pos h]; exact upper_up _ _
 rw [if_neg h]
 clear h
 by_cases h:shape=4
 ·rw [if_pos h]; exact load_up _ _
 rw [if_neg h]
 clear h
 by_cases h:shape=5
 ·rw [if_pos h]; exact store_up _ _
 rw [if_neg h]
 clear h
 by_cases h:shape=6
 ·rw [if_pos h]; exact jumpRegister_up _ _
 rw [if_neg h]
 clear h
 by_cases h:shape=7
 ·rw [if_pos h]; rw [bare_p]; exact Nat.le_refl _
 rw [if_neg h]
 clear h
 by_cases h:shape=8
 ·rw [if_pos h]; exact branch_up _ _ _
 rw [if_neg h]
 clear h
 by_cases h:shape=9
 ·rw [if_pos h]; exact jumpLink_up _ _
 rw [if_neg h]
 clear h
 by_cases h:shape=10
 ·rw [if_pos h]; exact layJump_up _ _ _
 rw [if_neg h]
 clear h
 by_cases h:shape=11
 ·rw [if_pos h]; exact move_up _ _
 rw [if_neg h]
 clear h
 by_cases h:shape=12
 ·rw [if_pos h]; exact loadNumber_up _ _
 rw [if_neg h]
 clear h
 by_cases h:shape=13
 ·rw [if_pos h]; exact call_up _ _
 rw [if_neg h]
 clear h
 by_cases h:shape=14
 ·rw [if_pos h]; exact loadAddress_up _ _
 rw [if_neg h]
 clear h
 exact Nat.le_refl _
theorem directive_up (s:List UInt8) (shape:Nat) (st:St):st.p<=(directive s shape st).p:=by
 unfold directive
 split
 ·rw [section_p]; exact Nat.le_refl _
 split
 ·exact word_up _ _
 split
 ·exact space_up _ _
 split
 ·exact align_up _ _
 split
 ·exact bind_up _ _ _
 ·exact Nat.le_refl _
theorem operation_up (s:List UInt8) (t:Tok) (st:St):st.p<=(operation s t st).p:=by
 unfold operation
 split
 ·rw [refuse_p]; exact Nat.le_refl _
 split
 ·rw [refuse_p]; exact Nat.le_refl _
 split
 ·exact instruction_up _ _ _ { st with op:=t }
 ·exact directive_up _ _ { st with op:=t }
theorem lineOp_up (s:List UInt8) (t:Tok) (st:St):st.p<=(lineOp s t st).p:=by
 unfold lineOp; dsimp only
 have h:st.p<=(if t.kind == 1 then operation s t st else st).p:=by
  split
  ·exact operation_up _ _ _
  ·exact Nat.le_refl _
 generalize (if t.kind == 1 then operation s t st else st)=x at h ⊢
 split
 ·exact h
 ·rw [refuse_p]; exact h
theorem line_up (s:List UInt8) (st:St):st.p<=(line s st).p:=by
 unfold line; dsimp only
 have h:=up2 (advance_up s st) (takeWord_up s (advance s st))
 split
 ·refine up2 h (up2 (Nat.le_of_eq (label_p _ _).symm) (up2 (advance_up s _) (up2 (takeWord_up s _) (lineOp_up _ _ _))))
 ·exact up2 h (lineOp_up _ _ _)
theorem nextLine_up (s:List UInt8) (st:St) (h:(nextLine s st).1=true):st.p < (nextLine s st).2.p/\(nextLine s st).2.p<=s.length:=by
 unfold nextLine at h ⊢
 split at h
 ·cases h
 ·rename_i hf
  rw [if_neg hf]
  have k:=skip_up notEnd s st.p
  unfold lineEnd at h ⊢
  split at h
  ·rename_i hl
   rw [if_pos hl]
   exact ⟨by show st.p < skip notEnd s st.p+1; omega,by show skip notEnd s st.p+1<=s.length; omega⟩
  ·cases h
end As
end Go.Proofs.YtpgklkhgfcjceaaGreatDoor
