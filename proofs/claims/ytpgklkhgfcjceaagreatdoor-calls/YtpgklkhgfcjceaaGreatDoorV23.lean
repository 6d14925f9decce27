
import Derived.Test.YtpgklkhgfcjceaaGreatDoorV22
set_option maxHeartbeats 16000000
namespace Go.Proofs.YtpgklkhgfcjceaaGreatDoor
open Go.RowKit
set_option maxRecDepth 100000 in
theorem Zk (B:Nat) (s:ByteArray) (b g:Nat) (st:As.St) (shape op:Nat) (W:World) (h:yl B s b g st W) (h1:1<=shape) (h2:shape<=14) (ho:shape=1\/shape=2\/shape=8->1<=op/\op<=25) :
  Calls Tryz.prog 90 #[.pointer (some ⟨b,0,none⟩),.int .i64 shape,.int .i64 op] W fun en W'=>en = .returned (.tuple #[])/\Does B s b g W (As.instruction (sl s) shape op st) W':=by
 rcases (show shape=1\/shape=2\/shape=3\/shape=4\/shape=5\/shape=6\/shape=7\/shape=8\/shape=9\/shape=10\/shape=11\/shape=12\/shape=13\/shape=14 by omega) with rfl | rfl | rfl | rfl | rfl | rfl | rfl | rfl | rfl | rfl | rfl | rfl | rfl | rfl
 ·have c:=hid (yja B s b g st op W h (ho (by omega)).1 (ho (by omega)).2)
  have RS:=hid (show As.instruction (sl s) 1 op st=As.gK (sl s) op st from by unfold As.instruction; rw [if_pos rfl])
  generalize As.instruction (sl s) 1 op st=X at *
  clear h ho h1 h2
  go_enter Tryz.func90,Tryz.ntmps90
  go_wp2_with fail
  refine c.o.mono ?_
  rintro e VF ⟨rfl,hh⟩
  have DF:=hid hh
  clear hh c
  go_wp2
  go_end0
  rw [RS.o]
  exact ⟨rfl,DF.o⟩
 ·have c:=hid (Z7 B s b g st op W h (ho (by omega)).1 (ho (by omega)).2)
  have RS:=hid (show As.instruction (sl s) 2 op st=As.fO (sl s) op st from by unfold As.instruction; rw [if_neg (by decide),if_pos rfl])
  generalize As.instruction (sl s) 2 op st=X at *
  clear h ho h1 h2
  go_enter Tryz.func90,Tryz.ntmps90
  go_wp2_with fail
  refine c.o.mono ?_
  rintro e VF ⟨rfl,hh⟩
  have DF:=hid hh
  clear hh c
  go_wp2
  go_end0
  rw [RS.o]
  exact ⟨rfl,DF.o⟩
 ·have c:=hid (yoG B s b g st W h)
  have RS:=hid (show As.instruction (sl s) 3 op st=As.upper (sl s) st from by unfold As.instruction; rw [if_neg (by decide),if_neg (by decide),if_pos rfl])
  generalize As.instruction (sl s) 3 op st=X at *
  clear h ho h1 h2
  go_enter Tryz.func90,Tryz.ntmps90
  go_wp2_with fail
  refine c.o.mono ?_
  rintro e VF ⟨rfl,hh⟩
  have DF:=hid hh
  clear hh c
  go_wp2
  go_end0
  rw [RS.o]
  exact ⟨rfl,DF.o⟩
 ·have c:=hid (ypl B s b g st W h)
  have RS:=hid (show As.instruction (sl s) 4 op st=As.load (sl s) st from by unfold As.instruction; rw [if_neg (by decide),if_neg (by decide),if_neg (by decide),if_pos rfl])
  generalize As.instruction (sl s) 4 op st=X at *
  clear h ho h1 h2
  go_enter Tryz.func90,Tryz.ntmps90
  go_wp2_with fail
  refine c.o.mono ?_
  rintro e VF ⟨rfl,hh⟩
  have DF:=hid hh
  clear hh c
  go_wp2
  go_end0
  rw [RS.o]
  exact ⟨rfl,DF.o⟩
 ·have c:=hid (yoC B s b g st W h)
  have RS:=hid (show As.instruction (sl s) 5 op st=As.store (sl s) st from by unfold As.instruction; rw [if_neg (by decide),if_neg (by decide),if_neg (by decide),if_neg (by decide),if_pos rfl])
  generalize As.instruction (sl s) 5 op st=X at *
  clear h ho h1 h2
  go_enter Tryz.func90,Tryz.ntmps90
  go_wp2_with fail
  refine c.o.mono ?_
  rintro e VF ⟨rfl,hh⟩
  have DF:=hid hh
  clear hh c
  go_wp2
  go_end0
  rw [RS.o]
  exact ⟨rfl,DF.o⟩
 ·have c:=hid (Y1 B s b g st W h)
  have RS:=hid (show As.instruction (sl s) 6 op st=As.dR (sl s) st from by unfold As.instruction; rw [if_neg (by decide),if_neg (by decide),if_neg (by decide),if_neg (by decide),if_neg (by decide),if_pos rfl])
  generalize As.instruction (sl s) 6 op st=X at *
  clear h ho h1 h2
  go_enter Tryz.func90,Tryz.ntmps90
  go_wp2_with fail
  refine c.o.mono ?_
  rintro e VF ⟨rfl,hh⟩
  have DF:=hid hh
  clear hh c
  go_wp2
  go_end0
  rw [RS.o]
  exact ⟨rfl,DF.o⟩
 ·have c:=hid (yoK B s b g st W h)
  have RS:=hid (show As.instruction (sl s) 7 op st=As.bare st from by unfold As.instruction; rw [if_neg (by decide),if_neg (by decide),if_neg (by decide),if_neg (by decide),if_neg (by decide),if_neg (by decide),if_pos rfl])
  generalize As.instruction (sl s) 7 op st=X at *
  clear h ho h1 h2
  go_enter Tryz.func90,Tryz.ntmps90
  go_wp2_with fail
  refine c.o.mono ?_
  rintro e VF ⟨rfl,hh⟩
  have DF:=hid hh
  clear hh c
  go_wp2
  go_end0
  rw [RS.o]
  exact ⟨rfl,DF.o⟩
 ·have c:=hid (ymm B s b g st op W h (ho (by omega)).1 (ho (by omega)).2)
  have RS:=hid (show As.instruction (sl s) 8 op st=As.branch (sl s) op st from by unfold As.instruction; rw [if_neg (by decide),if_neg (by decide),if_neg (by decide),if_neg (by decide),if_neg (by decide),if_neg (by decide),if_neg (by decide),if_pos rfl])
  generalize As.instruction (sl s) 8 op st=X at *
  clear h ho h1 h2
  go_enter Tryz.func90,Tryz.ntmps90
  go_wp2_with fail
  refine c.o.mono ?_
  rintro e VF ⟨rfl,hh⟩
  have DF:=hid hh
  clear hh c
  go_wp2
  go_end0
  rw [RS.o]
  exact ⟨rfl,DF.o⟩
 ·have c:=hid (yjM B s b g st W h)
  have RS:=hid (show As.instruction (sl s) 9 op st=As.iG (sl s) st from by unfold As.instruction; rw [if_neg (by decide),if_neg (by decide),if_neg (by decide),if_neg (by decide),if_neg (by decide),if_neg (by decide),if_neg (by decide),if_neg (by decide),if_pos rfl])
  generalize As.instruction (sl s) 9 op st=X at *
  clear h ho h1 h2
  go_enter Tryz.func90,Tryz.ntmps90
  go_wp2_with fail
  refine c.o.mono ?_
  rintro e VF ⟨rfl,hh⟩
  have DF:=hid hh
  clear hh c
  go_wp2
  go_end0
  rw [RS.o]
  exact ⟨rfl,DF.o⟩
 ·have c:=hid (ypf B s b g st W h)
  have RS:=hid (show As.instruction (sl s) 10 op st=As.iH (sl s) 0 st from by unfold As.instruction; rw [if_neg (by decide),if_neg (by decide),if_neg (by decide),if_neg (by decide),if_neg (by decide),if_neg (by decide),if_neg (by decide),if_neg (by decide),if_neg (by decide),if_pos rfl])
  generalize As.instruction (sl s) 10 op st=X at *
  clear h ho h1 h2
  go_enter Tryz.func90,Tryz.ntmps90
  go_wp2_with fail
  refine c.o.mono ?_
  rintro e VF ⟨rfl,hh⟩
  have DF:=hid hh
  clear hh c
  go_wp2
  go_end0
  rw [RS.o]
  exact ⟨rfl,DF.o⟩
 ·have c:=hid (ypt B s b g st W h)
  have RS:=hid (show As.instruction (sl s) 11 op st=As.move (sl s) st from by unfold As.instruction; rw [if_neg (by decide),if_neg (by decide),if_neg (by decide),if_neg (by decide),if_neg (by decide),if_neg (by decide),if_neg (by decide),if_neg (by decide),if_neg (by decide),if_neg (by decide),if_pos rfl])
  generalize As.instruction (sl s) 11 op st=X at *
  clear h ho h1 h2
  go_enter Tryz.func90,Tryz.ntmps90
  go_wp2_with fail
  refine c.o.mono ?_
  rintro e VF ⟨rfl,hh⟩
  have DF:=hid hh
  clear hh c
  go_wp2
  go_end0
  rw [RS.o]
  exact ⟨rfl,DF.o⟩
 ·have c:=hid (Zi B s b g st W h)
  have RS:=hid (show As.instruction (sl s) 12 op st=As.fJ (sl s) st from by unfold As.instruction; rw [if_neg (by decide),if_neg (by decide),if_neg (by decide),if_neg (by decide),if_neg (by decide),if_neg (by decide),if_neg (by decide),if_neg (by decide),if_neg (by decide),if_neg (by decide),if_neg (by decide),if_pos rfl])
  generalize As.instruction (sl s) 12 op st=X at *
  clear h ho h1 h2
  go_enter Tryz.func90,Tryz.ntmps90
  go_wp2_with fail
  refine c.o.mono ?_
  rintro e VF ⟨rfl,hh⟩
  have DF:=hid hh
  clear hh c
  go_wp2
  go_end0
  rw [RS.o]
  exact ⟨rfl,DF.o⟩
 ·have c:=hid (yoL B s b g st W h)
  have RS:=hid (show As.instruction (sl s) 13 op st=As.call (sl s) st from by unfold As.instruction; rw [if_neg (by decide),if_neg (by decide),if_neg (by decide),if_neg (by decide),if_neg (by decide),if_neg (by decide),if_neg (by decide),if_neg (by decide),if_neg (by decide),if_neg (by decide),if_neg (by decide),if_neg (by decide),if_pos rfl])
  generalize As.instruction (sl s) 13 op st=X at *
  clear h ho h1 h2
  go_enter Tryz.func90,Tryz.ntmps90
  go_wp2_with fail
  refine c.o.mono ?_
  rintro e VF ⟨rfl,hh⟩
  have DF:=hid hh
  clear hh c
  go_wp2
  go_end0
  rw [RS.o]
  exact ⟨rfl,DF.o⟩
 ·have c:=hid (Zl B s b g st W h)
  have RS:=hid (show As.instruction (sl s) 14 op st=As.eO (sl s) st from by unfold As.instruction; rw [if_neg (by decide),if_neg (by decide),if_neg (by decide),if_neg (by decide),if_neg (by decide),if_neg (by decide),if_neg (by decide),if_neg (by decide),if_neg (by decide),if_neg (by decide),if_neg (by decide),if_neg (by decide),if_neg (by decide),if_pos rfl])
  generalize As.instruction (sl s) 14 op st=X at *
  clear h ho h1 h2
  go_enter Tryz.func90,Tryz.ntmps90
  go_wp2_with fail
  refine c.o.mono ?_
  rintro e VF ⟨rfl,hh⟩
  have DF:=hid hh
  clear hh c
  go_wp2
  go_end0
  rw [RS.o]
  exact ⟨rfl,DF.o⟩
set_option maxRecDepth 100000 in
theorem ZB (B:Nat) (s:ByteArray) (b g:Nat) (st:As.St) (shape:Nat) (W:World) (h:yl B s b g st W) (h1:15<=shape) (h2:shape<=19) :
  Calls Tryz.prog 92 #[.pointer (some ⟨b,0,none⟩),.int .i64 shape] W fun en W'=>en = .returned (.tuple #[])/\Does B s b g W (As.directive (sl s) shape st) W':=by
 rcases (show shape=15\/shape=16\/shape=17\/shape=18\/shape=19 by omega) with rfl | rfl | rfl | rfl | rfl
 ·have HW:=hid h
  have c:=hid (ylz B s b g st W h)
  have RS:=hid (show As.directive (sl s) 15 st=As.iN st from rfl)
  generalize As.directive (sl s) 15 st=X at *
  clear h h1 h2
  go_enter Tryz.func92,Tryz.ntmps92
  go_wp2_with fail
  refine c.o.mono ?_
  rintro e VF ⟨rfl,hh⟩
  have DF:=hid (hh.does HW.o)
  clear hh c
  go_wp2
  go_end0
  rw [RS.o]
  exact ⟨rfl,DF.o⟩
 ·have HW:=hid h
  have c:=hid (ypX B s b g st W h)
  have RS:=hid (show As.directive (sl s) 16 st=As.word (sl s) st from rfl)
  generalize As.directive (sl s) 16 st=X at *
  clear h h1 h2
  go_enter Tryz.func92,Tryz.ntmps92
  go_wp2_with fail
  refine c.o.mono ?_
  rintro e VF ⟨rfl,hh⟩
  have DF:=hid hh
  clear hh c
  go_wp2
  go_end0
  rw [RS.o]
  exact ⟨rfl,DF.o⟩
 ·have HW:=hid h
  have c:=hid (yoA B s b g st W h)
  have RS:=hid (show As.directive (sl s) 17 st=As.space (sl s) st from rfl)
  generalize As.directive (sl s) 17 st=X at *
  clear h h1 h2
  go_enter Tryz.func92,Tryz.ntmps92
  go_wp2_with fail
  refine c.o.mono ?_
  rintro e VF ⟨rfl,hh⟩
  have DF:=hid hh
  clear hh c
  go_wp2
  go_end0
  rw [RS.o]
  exact ⟨rfl,DF.o⟩
 ·have HW:=hid h
  have c:=hid (ynt B s b g st W h)
  have RS:=hid (show As.directive (sl s) 18 st=As.align (sl s) st from rfl)
  generalize As.directive (sl s) 18 st=X at *
  clear h h1 h2
  go_enter Tryz.func92,Tryz.ntmps92
  go_wp2_with fail
  refine c.o.mono ?_
  rintro e VF ⟨rfl,hh⟩
  have DF:=hid hh
  clear hh c
  go_wp2
  go_end0
  rw [RS.o]
  exact ⟨rfl,DF.o⟩
 ·have HW:=hid h
  have c:=hid (ykT B s b g st W h)
  have RS:=hid (show As.directive (sl s) 19 st=As.binding (sl s) st from rfl)
  generalize As.directive (sl s) 19 st=X at *
  clear h h1 h2
  go_enter Tryz.func92,Tryz.ntmps92
  go_wp2_with fail
  refine c.o.mono ?_
  rintro e VF ⟨rfl,hh⟩
  have DF:=hid hh
  clear hh c
  go_wp2
  go_end0
  rw [RS.o]
  exact ⟨rfl,DF.o⟩
theorem Tv (t:List UInt8):As.iF t=0\/(15<=As.iF t/\As.iF t<=19):=by
 unfold As.iF
 repeat' split
 all_goals omega
theorem ylC (t:List UInt8):As.shapeOf t<=19:=by
 have hd:=Tv t
 unfold As.shapeOf
 by_cases h:t=[97,100,100]
 ·rw [if_pos h]; omega
 rw [if_neg h]
 clear h
 by_cases h:t=[115,117,98]
 ·rw [if_pos h]; omega
 rw [if_neg h]
 clear h
 by_cases h:t=[115,108,116]
 ·rw [if_pos h]; omega
 rw [if_neg h]
 clear h
 by_cases h:t=[115,108,116,117]
 ·rw [if_pos h]; omega
 rw [if_neg h]
 clear h
 by_cases h:t=[120,111,114]
 ·rw [if_pos h]; omega
 rw [if_neg h]
 clear h
 by_cases h:t=[111,114]
 ·rw [if_pos h]; omega
 rw [if_neg h]
 clear h
 by_cases h:t=[97,110,100]
 ·rw [if_pos h]; omega
 rw [if_neg h]
 clear h
 by_cases h:t=[97,100,100,105]
 ·rw [if_pos h]; omega
 rw [if_neg h]
 clear h
 by_cases h:t=[115,108,116,105]
 ·rw [if_pos h]; omega
 rw [if_neg h]
 clear h
 by_cases h:t=[120,111,114,105]
 ·rw [if_pos h]; omega
 rw [if_neg h]
 clear h
 by_cases h:t=[111,114,105]
 ·rw [if_pos h]; omega
 rw [if_neg h]
 clear h
 by_cases h:t=[97,110,100,105]
 ·rw [if_pos h]; omega
 rw [if_neg h]
 clear h
 by_cases h:t=[108,117,105]
 ·rw [if_pos h]; omega
 rw [if_neg h]
 clear h
 by_cases h:t=[108,119]
 ·rw [if_pos h]; omega
 rw [if_neg h]
 clear h
 by_cases h:t=[115,119]
 ·rw [if_pos h]; omega
 rw [if_neg h]
 clear h
 by_cases h:t=[106,97,108,114]
 ·rw [if_pos h]; omega
 rw [if_neg h]
 clear h
 by_cases h:t=[101,99,97,108,108]
 ·rw [if_pos h]; omega
 rw [if_neg h]
 clear h
 by_cases h:t=[114,101,116]
 ·rw [if_pos h]; omega
 rw [if_neg h]
 clear h
 by_cases h:t=[110,111,112]
 ·rw [if_pos h]; omega
 rw [if_neg h]
 clear h
 by_cases h:t=[98,101,113]
 ·rw [if_pos h]; omega
 rw [if_neg h]
 clear h
 by_cases h:t=[98,110,101]
 ·rw [if_pos h]; omega
 rw [if_neg h]
 clear h
 by_cases h:t=[98,108,116]
 ·rw [if_pos h]; omega
 rw [if_neg h]
 clear h
 by_cases h:t=[98,103,101]
 ·rw [if_pos h]; omega
 rw [if_neg h]
 clear h
 by_cases h:t=[98,108,116,117]
 ·rw [if_pos h]; omega
 rw [if_neg h]
 clear h
 by_cases h:t=[98,103,101,117]
 ·rw [if_pos h]; omega
 rw [if_neg h]
 clear h
 by_cases h:t=[106,97,108]
 ·rw [if_pos h]; omega
 rw [if_neg h]
 clear h
 by_cases h:t=[106]
 ·rw [if_pos h]; omega
 rw [if_neg h]
 clear h
 by_cases h:t=[109,118]
 ·rw [if_pos h]; omega
 rw [if_neg h]
 clear h
 by_cases h:t=[108,105]
 ·rw [if_pos h]; omega
 rw [if_neg h]
 clear h
 by_cases h:t=[99,97,108,108]
 ·rw [if_pos h]; omega
 rw [if_neg h]
 clear h
 by_cases h:t=[116,97,105,108]
 ·rw [if_pos h]; omega
 rw [if_neg h]
 clear h
 by_cases h:t=[108,97]
 ·rw [if_pos h]; omega
 rw [if_neg h]
 clear h
 omega
theorem ylB (t:List UInt8) (hh:As.shapeOf t=1\/As.shapeOf t=2\/As.shapeOf t=8):1<=As.named t/\As.named t<=25:=by
 have hd:=Tv t
 generalize hx:As.shapeOf t=x at *
 unfold As.shapeOf at hx
 by_cases h:t=[97,100,100]
 ·subst h; decide
 rw [if_neg h] at hx
 clear h
 by_cases h:t=[115,117,98]
 ·subst h; decide
 rw [if_neg h] at hx
 clear h
 by_cases h:t=[115,108,116]
 ·subst h; decide
 rw [if_neg h] at hx
 clear h
 by_cases h:t=[115,108,116,117]
 ·subst h; decide
 rw [if_neg h] at hx
 clear h
 by_cases h:t=[120,111,114]
 ·subst h; decide
 rw [if_neg h] at hx
 clear h
 by_cases h:t=[111,114]
 ·subst h; decide
 rw [if_neg h] at hx
 clear h
 by_cases h:t=[97,110,100]
 ·subst h; decide
 rw [if_neg h] at hx
 clear h
 by_cases h:t=[97,100,100,105]
 ·subst h; decide
 rw [if_neg h] at hx
 clear h
 by_cases h:t=[115,108,116,105]
 ·subst h; decide
 rw [if_neg h] at hx
 clear h
 by_cases h:t=[120,111,114,105]
 ·subst h; decide
 rw [if_neg h] at hx
 clear h
 by_cases h:t=[111,114,105]
 ·subst h; decide
 rw [if_neg h] at hx
 clear h
 by_cases h:t=[97,110,100,105]
 ·subst h; decide
 rw [if_neg h] at hx
 clear h
 by_cases h:t=[108,117,105]
 ·rw [if_pos h] at hx; omega
 rw [if_neg h] at hx
 clear h
 by_cases h:t=[108,119]
 ·rw [if_pos h] at hx; omega
 rw [if_neg h] at hx
 clear h
 by_cases h:t=[115,119]
 ·rw [if_pos h] at hx; omega
 rw [if_neg h] at hx
 clear h
 by_cases h:t=[106,97,108,114]
 ·rw [if_pos h] at hx; omega
 rw [if_neg h] at hx
 clear h
 by_cases h:t=[101,99,97,108,108]
 ·rw [if_pos h] at hx; omega
 rw [if_neg h] at hx
 clear h
 by_cases h:t=[114,101,116]
 ·rw [if_pos h] at hx; omega
 rw [if_neg h] at hx
 clear h
 by_cases h:t=[110,111,112]
 ·rw [if_pos h] at hx; omega
 rw [if_neg h] at hx
 clear h
 by_cases h:t=[98,101,113]
 ·subst h; decide
 rw [if_neg h] at hx
 clear h
 by_cases h:t=[98,110,101]
 ·subst h; decide
 rw [if_neg h] at hx
 clear h
 by_cases h:t=[98,108,116]
 ·subst h; decide
 rw [if_neg h] at hx
 clear h
 by_cases h:t=[98,103,101]
 ·subst h; decide
 rw [if_neg h] at hx
 clear h
 by_cases h:t=[98,108,116,117]
 ·subst h; decide
 rw [if_neg h] at hx
 clear h
 by_cases h:t=[98,103,101,117]
 ·subst h; decide
 rw [if_neg h] at hx
 clear h
 by_cases h:t=[106,97,108]
 ·rw [if_pos h] at hx; omega
 rw [if_neg h] at hx
 clear h
 by_cases h:t=[106]
 ·rw [if_pos h] at hx; omega
 rw [if_neg h] at hx
 clear h
 by_cases h:t=[109,118]
 ·rw [if_pos h] at hx; omega
 rw [if_neg h] at hx
 clear h
 by_cases h:t=[108,105]
 ·rw [if_pos h] at hx; omega
 rw [if_neg h] at hx
 clear h
 by_cases h:t=[99,97,108,108]
 ·rw [if_pos h] at hx; omega
 rw [if_neg h] at hx
 clear h
 by_cases h:t=[116,97,105,108]
 ·rw [if_pos h] at hx; omega
 rw [if_neg h] at hx
 clear h
 by_cases h:t=[108,97]
 ·rw [if_pos h] at hx; omega
 rw [if_neg h] at hx
 clear h
 omega
theorem jm.op' {s:ByteArray} {st:As.St} (h:jm s st) (t:As.Tok) (ht:uU t):jm s { st with op:=t } :=
 ⟨h.size,h.p,h.tok,h.fe,h.fa,ht,h.ah,h.text,h.far,h.data,h.bss,h.align,h.syms,h.aj⟩
set_option maxRecDepth 100000 in
theorem Ug (B:Nat) (s:ByteArray) (b g:Nat) (st:As.St) (t:As.Tok) (W:World) (h:yl B s b g st W) (ht:uU t) (hN:mh W) :
  Calls Tryz.prog 53 #[.pointer (some ⟨b,0,none⟩),fM t] W fun en W'=>en = .returned (.tuple #[])/\Does B s b g W (As.operation (sl s) t st) W':=by
 have HW:=hid h
 have HN:=hid hN
 have HT:=hid ht
 have L0:=hid ((Loc.begin h).alloc (yS t) 64)
 have hbl:=h.blk.lt
 clear h ht hN
 have RS:=hid (show As.operation (sl s) t st=if As.shapeOf t.text=0 then As.refuse 6 t.pos st else if !As.jW (As.shapeOf t.text) st.ah then As.refuse 9 t.pos st else if As.shapeOf t.text<=14 then As.instruction (sl s) (As.shapeOf t.text) (As.named t.text) { st with op:=t } else As.directive (sl s) (As.shapeOf t.text) { st with op:=t } from rfl)
 have cS:=hid (fun V=>ylA t.text V)
 have Jt:=ylC t.text
 have SN:=hid (ylB t.text)
 generalize As.operation (sl s) t st=X at *
 generalize As.shapeOf t.text=shape at *
 unfold fM
 go_enter Tryz.func53,Tryz.ntmps53
 go_wp2_with fail
 refine Calls.aJ (Loc B s b g W [(W.heap.size,yS t,64)] st) L0.o ?_
 clear L0
 generalize hr:W.heap.size=r at *
 clear hr
 intro V hV
 have L:=hid hV
 clear hV
 refine (cS.o V).mono ?_
 rintro e w1 ⟨rfl,rfl⟩
 clear cS
 obtain ⟨m0,m1,m2,m3⟩:=(⟨L.o.d,L.o.l (r,yS t,64) (by simp)⟩:kJ B s b g W r t st w1).cells
 have D:=hid (L.o.d.does HW.o)
 by_cases h0:shape=0
 ·have d:((shape:Int) == 0)=true:=by simp; omega
  rw [if_pos h0] at RS
  clear h0
  go_wp2_with fail
  refine (yJ B s b g st 6 t.pos w1 D.o.1 (by omega) HT.o.pos).mono ?_
  rintro e V3 ⟨rfl,h3⟩
  have D3:=hid (D.o.aO h3)
  clear h3
  go_wp2
  (try simp only [Exit.inBlock,Exit.then]); refine bodyPost_ret (results_none rfl _ _ _) rfl ?_
  rw [RS.o]
  exact ⟨rfl,D3.o⟩
 have d:((shape:Int) == 0)=false:=by simp; omega
 rw [if_neg h0] at RS
 go_wp2_with fail
 refine (yjV B s b g st shape w1 D.o.1 (by omega) Jt).mono ?_
 rintro e w2 ⟨rfl,rfl⟩
 cases hm:As.jW shape st.ah
 ·rw [hm,if_pos (show (!false)=true from rfl)] at RS
  clear hm
  go_wp2_with fail
  refine (yJ B s b g st 9 t.pos w2 D.o.1 (by omega) HT.o.pos).mono ?_
  rintro e V3 ⟨rfl,h3⟩
  have D3:=hid (D.o.aO h3)
  clear h3
  go_wp2
  (try simp only [Exit.inBlock,Exit.then]); refine bodyPost_ret (results_none rfl _ _ _) rfl ?_
  rw [RS.o]
  exact ⟨rfl,D3.o⟩
 rw [hm,if_neg (by simp)] at RS
 clear hm
 have k9:=D.o.1.blk.free 9
 have k10:=D.o.1.blk.free 10
 have k11:=D.o.1.blk.free 11
 have k12:=D.o.1.blk.free 12
 have c9:=yL D.o.1 9
 have c10:=yL D.o.1 10
 have c11:=yL D.o.1 11
 have c12:=yL D.o.1 12
 simp only [yE,bC,bG,bE] at c9 c10 c11 c12
 have hrb:r≠b:=(⟨L.o.d,L.o.l (r,yS t,64) (by simp)⟩:kJ B s b g W r t st w2).ne
 have hbr:b≠r:=fun e=>hrb e.symm
 have P:=hid (L.o.d.sets [(9,.int .i64 t.kind),(10,.int .i64 t.pos),(11,.string (bs t.text)),(12,.int .i64 t.n)] { st with op:=t }
  (by simp only [rT,yE,kH,kQ,fQ,fT,fP]) rfl (D.o.1.ok.op' t HT.o))
 by_cases tO:shape<=14
 ·have d2:decide ((shape:Int)<=14)=true:=by simp; omega
  rw [if_pos tO] at RS
  have cI:=hid (fun V hV=>Zk B s b g { st with op:=t } shape (As.named t.text) V hV (by omega) tO SN.o)
  have cN:=hid (fun V (hV:mh V)=>Zg t.text V hV)
  clear tO
  go_wp2_with fail
  have PD:=hid (P.o.does HW.o)
  refine (cN.o _ (HN.o.below PD.o.2.1 PD.o.1.lo.1)).mono ?_
  rintro e w3 ⟨rfl,hw3⟩
  have Rp:Hd (Does B s b g W { st with op:=t } w3):=by rw [hw3]; exact PD.o
  clear hw3 PD cN m0 m1 m2 m3 c9 c10 c11 c12 k9 k10 k11 k12
  go_wp2_with fail
  refine (cI.o w3 Rp.o.1).mono ?_
  rintro e VF ⟨rfl,hh⟩
  have DF:=hid (Rp.o.after hh)
  clear hh
  go_wp2
  first | go_end0 | ((try simp only [Exit.inBlock,Exit.then]); refine bodyPost_ret (results_none rfl _ _ _) rfl ?_)
  rw [RS.o]
  exact ⟨rfl,DF.o⟩
 ·have d2:decide ((shape:Int)<=14)=false:=by simp; omega
  rw [if_neg tO] at RS
  have cI:=hid (fun V hV=>ZB B s b g { st with op:=t } shape V hV (by omega) Jt)
  clear tO
  go_wp2_with fail
  have PD:=hid (P.o.does HW.o)
  refine (cI.o _ PD.o.1).mono ?_
  rintro e VF ⟨rfl,hh⟩
  have DF:=hid (PD.o.after hh)
  clear hh
  go_wp2
  first | go_end0 | ((try simp only [Exit.inBlock,Exit.then]); refine bodyPost_ret (results_none rfl _ _ _) rfl ?_)
  rw [RS.o]
  exact ⟨rfl,DF.o⟩
structure kI (B:Nat) (s:ByteArray) (b g:Nat) (W:World) (r:Nat) (t:As.Tok) (st:As.St) (V:World):Prop where
 d:Does B s b g W st V
 l:yc V r (yS t) 64
 new:W.heap.size<=r
 lt:B<=W.heap.size
section
variable {B:Nat} {s:ByteArray} {b g r:Nat} {W V V':World} {t:As.Tok} {st st':As.St}
theorem kI.step (h:kI B s b g W r t st V) (k:Does B s b g V st' V'):kI B s b g W r t st' V' :=
 ⟨h.d.after k,k.2.2 r _ _ (by decide) (by decide) (by decide) (by decide) (by decide) h.l,h.new,h.lt⟩
theorem kI.DJ (h:kI B s b g W r t st V) (k:yR B s b g V st' V'):kI B s b g W r t st' V':=h.step (k.does h.d.1)
theorem kI.grown (h:kI B s b g W r t st V) (k:V.grownBy V' none):kI B s b g W r t st V':=⟨h.d.grown k,h.l.grown k (by simp),h.new,h.lt⟩
theorem kI.begin (h:Does B s b g W st V) (hB:B<=W.heap.size) (t:As.Tok):kI B s b g W V.heap.size t st (V.alloc (.cells (yS t) 64)) :=
 ⟨h.alloc _,yc.new V _ _,h.2.1.size,hB⟩
theorem kI.put (h:kI B s b g W r t st V) (t':As.Tok):kI B s b g W r t' st (sets V r [(0,.int .i64 t'.kind),(1,.int .i64 t'.pos),(2,.string (bs t'.text)),(3,.int .i64 t'.n)]) :=
 ⟨h.d.local h.l (by unfold sF; decide) h.lt h.new _,by
  have:=Ba [(0,.int .i64 t'.kind),(1,.int .i64 t'.pos),(2,.string (bs t'.text)),(3,.int .i64 t'.n)] h.l
  simpa only [yS,rT,kH,kQ,fQ,fT,fP] using this,h.new,h.lt⟩
theorem kI.cells (h:kI B s b g W r t st V):V.cell? ⟨r,0,none⟩=some (.int .i64 t.kind)/\V.cell? ⟨r,1,none⟩=some (.int .i64 t.pos)/\V.cell? ⟨r,2,none⟩=some (.string (bs t.text))/\V.cell? ⟨r,3,none⟩=some (.int .i64 t.n):=by
 have c0:=h.l.cell 0
 have c1:=h.l.cell 1
 have c2:=h.l.cell 2
 have c3:=h.l.cell 3
 simp only [yS,bC,bG,bE] at c0 c1 c2 c3
 exact ⟨c0,c1,c2,c3⟩
end
theorem TV (s:List UInt8) (st:As.St) (h:uU st.tok):uU (As.dP s st).1:=by
 unfold As.dP
 split
 ·exact h
 ·exact G8
def DY (st:As.St):As.St:=if st.tok.kind == 4 then st else As.refuse 3 st.tok.pos st
theorem Vp (s:List UInt8) (t:As.Tok) (st:As.St) (h:(t.kind == 1)=false):As.jO s t st=DY st:=by unfold As.jO DY; rw [h]; rfl
theorem U0 (s:List UInt8) (t:As.Tok) (st:As.St) (h:(t.kind == 1)=true):As.jO s t st=DY (As.operation s t st):=by unfold As.jO DY; rw [h]; rfl
theorem Lm (st:As.St) (h:(st.tok.kind == 4)=false):DY st=As.refuse 3 st.tok.pos st:=by unfold DY; rw [h]; rfl
theorem LG (st:As.St) (h:(st.tok.kind == 4)=true):DY st=st:=by unfold DY; rw [h]; rfl
set_option maxRecDepth 100000 in
theorem ypj (B:Nat) (s:ByteArray) (b g:Nat) (st:As.St) (W:World) (h:yl B s b g st W) (hN:mh W) :
  Calls Tryz.prog 31 #[.pointer (some ⟨b,0,none⟩)] W fun en W'=>en = .returned (.tuple #[])/\Does B s b g W (As.line (sl s) st) W':=by
 have HW:=hid h
 have HN:=hid hN
 have cA:=hid (Aj B s b g st W h)
 have HB:=hid h.size
 clear h hN
 obtain ⟨X,hX⟩:∃ X,X=As.line (sl s) st:=⟨_,rfl⟩
 rw [<- hX]
 unfold As.line at hX
 dsimp only at hX
 have RS:=hid hX
 clear hX
 go_enter Tryz.func31,Tryz.ntmps31
 go_wp2_with fail
 refine cA.o.mono ?_
 rintro e V1 ⟨rfl,h1⟩
 have D1:=hid (h1.does HW.o)
 clear h1 cA
 generalize As.advance (sl s) st=st1 at *
 have TW:=hid (TV (sl s) st1 D1.o.1.ok.tok)
 go_wp2_with fail
 refine (TU B s b g st1 V1 D1.o.1).mono ?_
 rintro e V2 ⟨rfl,h2⟩
 have D2:=hid (D1.o.aO h2)
 clear h2 D1
 generalize As.dP (sl s) st1=R at *
 obtain ⟨t,st2⟩:=R
 dsimp only at RS D2 TW ⊢
 have L0:=hid (kI.begin D2.o HB.o t)
 have hbl:b < V2.heap.size:=D2.o.1.blk.lt
 have hbn:b≠V2.heap.size:=by omega
 obtain ⟨c2,c3,c4,c5⟩:=tV D2.o.1
 clear D2
 unfold fM
 cases hk:(t.kind == 1)
 ·have d:((t.kind:Int) == 1)=false:=by simp at hk ⊢; omega
  rw [hk,Bool.false_and,if_neg (by simp)] at RS
  rw [Vp _ _ _ hk] at RS
  clear hk
  have hpos:=L0.o.d.1.ok.tok.pos
  cases h4:(st2.tok.kind == 4)
  ·have e1:((st2.tok.kind:Int) == 4)=false:=by simp at h4 ⊢; omega
   have e2:((st2.tok.kind:Int) != 4)=true:=by simp at h4 ⊢; omega
   rw [Lm _ h4] at RS
   clear h4
   go_wp2_with fail
   refine (yJ B s b g st2 3 st2.tok.pos _ L0.o.d.1 (by omega) hpos).mono ?_
   rintro e VF ⟨rfl,hh⟩
   have DF:=hid (L0.o.d.aO hh)
   clear hh
   go_wp2
   go_end0
   rw [RS.o]
   exact ⟨rfl,DF.o⟩
  ·have e1:((st2.tok.kind:Int) == 4)=true:=by simp at h4 ⊢; omega
   have e2:((st2.tok.kind:Int) != 4)=false:=by simp at h4 ⊢; omega
   rw [LG _ h4] at RS
   clear h4
   go_wp2
   go_end0
   rw [RS.o]
   exact ⟨rfl,L0.o.d⟩
 ·have d:((t.kind:Int) == 1)=true:=by simp at hk ⊢; omega
  rw [hk,Bool.true_and] at RS
  have HK:=hid hk
  clear hk
  go_wp2_with fail
  refine (J6 st2.tok [58] _).mono ?_
  rintro e V3 ⟨rfl,hg⟩
  have L1:=hid (L0.o.grown hg)
  clear hg L0 c2 c3 c4 c5
  generalize V2.heap.size=r at *
  obtain ⟨m0,m1,m2,m3⟩:=L1.o.cells
  cases hc:st2.tok.is [58]
  ·rw [hc,if_neg (by simp)] at RS
   rw [U0 _ _ _ HK.o] at RS
   clear hc
   go_wp2_with fail
   refine (Ug B s b g st2 t _ L1.o.d.1 TW.o (HN.o.below L1.o.d.2.1 L1.o.d.1.lo.1)).mono ?_
   rintro e V7 ⟨rfl,hh⟩
   have L7:=hid (L1.o.step hh)
   clear hh
   generalize As.operation (sl s) t st2=uQ at *
   clear m0 m1 m2 m3
   obtain ⟨b2,b3,b4,b5⟩:=tV L7.o.d.1
   have hpos:=L7.o.d.1.ok.tok.pos
   cases h4:(uQ.tok.kind == 4)
   ·have e1:((uQ.tok.kind:Int) == 4)=false:=by simp at h4 ⊢; omega
    have e2:((uQ.tok.kind:Int) != 4)=true:=by simp at h4 ⊢; omega
    rw [Lm _ h4] at RS
    clear h4
    go_wp2_with fail
    refine (yJ B s b g uQ 3 uQ.tok.pos _ L7.o.d.1 (by omega) hpos).mono ?_
    rintro e VF ⟨rfl,hh⟩
    have DF:=hid (L7.o.d.aO hh)
    clear hh
    go_wp2
    go_end0
    rw [RS.o]
    exact ⟨rfl,DF.o⟩
   ·have e1:((uQ.tok.kind:Int) == 4)=true:=by simp at h4 ⊢; omega
    have e2:((uQ.tok.kind:Int) != 4)=false:=by simp at h4 ⊢; omega
    rw [LG _ h4] at RS
    clear h4
    go_wp2
    go_end0
    rw [RS.o]
    exact ⟨rfl,L7.o.d⟩
  ·rw [hc,if_pos rfl] at RS
   clear hc
   go_wp2_with fail
   refine (ynR B s b g st2 t V3 L1.o.d.1 TW.o).mono ?_
   rintro e V4 ⟨rfl,h4⟩
   have L2:=hid (L1.o.step h4)
   clear h4 L1 m0 m1 m2 m3 TW HK
   generalize As.label t st2=iD at *
   go_wp2_with fail
   refine (Aj B s b g iD V4 L2.o.d.1).mono ?_
   rintro e V5 ⟨rfl,h5⟩
   have L3:=hid (L2.o.DJ h5)
   clear h5 L2
   generalize As.advance (sl s) iD=qo at *
   have TW:=hid (TV (sl s) qo L3.o.d.1.ok.tok)
   go_wp2_with fail
   refine (TU B s b g qo V5 L3.o.d.1).mono ?_
   rintro e V6 ⟨rfl,h6⟩
   have L4:=hid (L3.o.DJ h6)
   clear h6 L3
   generalize As.dP (sl s) qo=R6 at *
   obtain ⟨t6,zW⟩:=R6
   dsimp only at RS L4 TW ⊢
   unfold fM
   have L5:=hid (L4.o.put t6)
   have v0:=L4.o.l.free 0
   have v1:=L4.o.l.free 1
   have v2:=L4.o.l.free 2
   have v3:=L4.o.l.free 3
   obtain ⟨m0,m1,m2,m3⟩:=L4.o.cells
   obtain ⟨b2,b3,b4,b5⟩:=tV L4.o.d.1
   have hrb:r≠b:=by
    intro e
    have h1:=L4.o.l
    rw [e] at h1
    have:=h1.symm.trans L4.o.d.1.blk
    simp [yS,yE] at this
   have hbr:b≠r:=fun e=>hrb e.symm
   clear L4 d
   cases hk:(t6.kind == 1)
   ·have d:((t6.kind:Int) == 1)=false:=by simp at hk ⊢; omega
    rw [Vp _ _ _ hk] at RS
    clear hk
    have hpos:=L5.o.d.1.ok.tok.pos
    cases h4:(zW.tok.kind == 4)
    ·have e1:((zW.tok.kind:Int) == 4)=false:=by simp at h4 ⊢; omega
     have e2:((zW.tok.kind:Int) != 4)=true:=by simp at h4 ⊢; omega
     rw [Lm _ h4] at RS
     clear h4
     go_wp2_with fail
     refine (yJ B s b g zW 3 zW.tok.pos _ L5.o.d.1 (by omega) hpos).mono ?_
     rintro e VF ⟨rfl,hh⟩
     have DF:=hid (L5.o.d.aO hh)
     clear hh
     go_wp2
     go_end0
     rw [RS.o]
     exact ⟨rfl,DF.o⟩
    ·have e1:((zW.tok.kind:Int) == 4)=true:=by simp at h4 ⊢; omega
     have e2:((zW.tok.kind:Int) != 4)=false:=by simp at h4 ⊢; omega
     rw [LG _ h4] at RS
     clear h4
     go_wp2
     go_end0
     rw [RS.o]
     exact ⟨rfl,L5.o.d⟩
   ·have d:((t6.kind:Int) == 1)=true:=by simp at hk ⊢; omega
    rw [U0 _ _ _ hk] at RS
    clear hk
    go_wp2_with fail
    refine (Ug B s b g zW t6 _ L5.o.d.1 TW.o (HN.o.below L5.o.d.2.1 L5.o.d.1.lo.1)).mono ?_
    rintro e V7 ⟨rfl,hh⟩
    have L7:=hid (L5.o.step hh)
    clear hh
    generalize As.operation (sl s) t6 zW=uQ at *
    clear m0 m1 m2 m3 v0 v1 v2 v3 b2 b3 b4 b5
    obtain ⟨b2,b3,b4,b5⟩:=tV L7.o.d.1
    have hpos:=L7.o.d.1.ok.tok.pos
    cases h4:(uQ.tok.kind == 4)
    ·have e1:((uQ.tok.kind:Int) == 4)=false:=by simp at h4 ⊢; omega
     have e2:((uQ.tok.kind:Int) != 4)=true:=by simp at h4 ⊢; omega
     rw [Lm _ h4] at RS
     clear h4
     go_wp2_with fail
     refine (yJ B s b g uQ 3 uQ.tok.pos _ L7.o.d.1 (by omega) hpos).mono ?_
     rintro e VF ⟨rfl,hh⟩
     have DF:=hid (L7.o.d.aO hh)
     clear hh
     go_wp2
     go_end0
     rw [RS.o]
     exact ⟨rfl,DF.o⟩
    ·have e1:((uQ.tok.kind:Int) == 4)=true:=by simp at h4 ⊢; omega
     have e2:((uQ.tok.kind:Int) != 4)=false:=by simp at h4 ⊢; omega
     rw [LG _ h4] at RS
     clear h4
     go_wp2
     go_end0
     rw [RS.o]
     exact ⟨rfl,L7.o.d⟩
def Am (y:Lk.Sym):Lk.Sym:=if y.ah=0/\y.bind=0 then ⟨y.name,1,y.ah,y.off⟩ else y
theorem yjr (ys:List Lk.Sym):As.jS ys=ys.map Am:=rfl
def tT (ys:List Lk.Sym) (k:Nat):List Lk.Sym:=(ys.take k).map Am ++ ys.drop k
theorem TQ (ys:List Lk.Sym) (k:Nat):(tT ys k).length=ys.length:=by simp [tT]; omega
theorem Vr (ys:List Lk.Sym) (k:Nat) (h:k < ys.length):(tT ys k)[k]'(by rw [TQ]; exact h)=ys[k]:=by
 unfold tT
 rw [List.getElem_append_right (by simp; omega)]
 simp [List.length_take,Nat.min_eq_left (Nat.le_of_lt h)]
theorem Va (ys:List Lk.Sym) (k:Nat) (h:k < ys.length):tT ys (k+1)=(tT ys k).set k (Am ys[k]):=by
 unfold tT
 rw [List.take_succ_eq_append_getElem h,List.map_append,List.set_append_right _ _ (by simp; omega),kP h]
 have e:k - ((ys.take k).map Am).length=0:=by simp; omega
 rw [e,fP]
 simp
theorem yog (ys:List Lk.Sym):tT ys ys.length=As.jS ys:=by rw [yjr]; simp [tT]
theorem ymP (ys:List Lk.Sym) (k:Nat) (h:k < ys.length) (hb:Am ys[k]=ys[k]):tT ys (k+1)=tT ys k:=by
 rw [Va ys k h,hb]
 conv=>lhs; rw [<- Vr ys k h]
 exact List.set_getElem_self _
def Hw (st:As.St) (ys:List Lk.Sym):As.St:={ st with obj:={ st.obj with syms:=ys } }
set_option maxRecDepth 100000 in
theorem yjq (B:Nat) (s:ByteArray) (b g:Nat) (st:As.St) (W:World) (h:yl B s b g st W) :
  Calls Tryz.prog 34 #[.pointer (some ⟨b,0,none⟩)] W fun en W'=>en = .returned (.tuple #[])/\Does B s b g W (Hw st (As.jS st.obj.syms)) W':=by
 have HW:=hid h
 have c14:=rQ h
 obtain ⟨vt,vf,vd,va,vs,vr,ho⟩:=h.own
 obtain ⟨fU,cs,rfl⟩:=yh ho.syms
 have g5:=ho.blk.cell 5
 simp only [bC,bG,bE] at g5
 have hn16:=h.ok.syms
 clear ho h
 generalize hys:st.obj.syms=ys at *
 have ST0:=hid (show Hw st (tT ys 0)=st by unfold Hw tT; rw [<- hys]; simp)
 clear hys
 go_enter Tryz.func34,Tryz.ntmps34
 go_wp2
 clear c14 g5
 go_loopw [11] (fun i wr=>∃ k:Nat,k<=ys.length/\i = .int .i64 k/\Does B s b g W (Hw st (tT ys k)) wr) (fun i _=>ys.length - (intOf i).toNat)
 case atStart=>exact ⟨0,Nat.zero_le _,rfl,by rw [ST0.o]; exact HW.o.does⟩
 case round =>
  obtain ⟨k,hk,rfl,hd⟩:=hrel
  have D:=hid hd
  clear hd
  by_cases hlt:k < ys.length
  ·have hlt':(k:Int) < (ys.length:Int):=by omega
   have hl:(Hw st (tT ys k)).obj.syms.length=ys.length:=TQ ys k
   obtain ⟨vt,vf,vd,va,sg,cs,vr,ho,g5,k1,k2,k3,hfz,n1,n2⟩:=Mq D.o.1 k (by rw [hl]; exact hlt)
   have e0:(Hw st (tT ys k)).obj.syms[k]'(by rw [hl]; exact hlt)=ys[k]:=Vr ys k hlt
   rw [e0] at k1 k2 k3
   have hcap:=pV ho.syms
   have HO:=hid ho
   have c14:=rQ D.o.1
   have f1:=hfz (k * 4+1)
   have P:=hid (fun hj:gP (Am ys[k])=(gP ys[k]).set 1 (.int .i64 1)=>D.o.after (D.o.1.rF HO.o k 1 (by rw [hl]; exact hlt) (by omega) (.int .i64 1) (Am ys[k]) (by rw [e0]; exact hj)))
   rw [hl] at g5 hcap
   clear ho hfz
   have MS:=hid (Va ys k hlt)
   have MM:=hid (ymP ys k hlt)
   have BO:=hid (show Am ys[k]=if ys[k].ah=0/\ys[k].bind=0 then ⟨ys[k].name,1,ys[k].ah,ys[k].off⟩ else ys[k] from rfl)
   have gg1:(0:Int)<=(k:Int):=by omega
   clear e0 HO hl
   by_cases z1:ys[k].ah=0
   ·have d1:(ys[k].ah == 0)=true:=by simp [z1]
    by_cases z2:ys[k].bind=0
    ·have d2:(ys[k].bind == 0)=true:=by simp [z2]
     have B1:=hid (show Am ys[k]=⟨ys[k].name,1,ys[k].ah,ys[k].off⟩ by rw [BO.o,if_pos ⟨z1,z2⟩])
     have F:=hid (P.o (by rw [B1.o]; rfl))
     clear z1 z2 P
     go_wp2
     go_roundw
     case rel=>exact ⟨k+1,by omega,by go_num,by rw [MS.o]; exact F.o⟩
     case measure=>simp [intOf]; omega
    ·have d2:(ys[k].bind == 0)=false:=by simp [z2]
     have B1:=hid (show Am ys[k]=ys[k] by rw [BO.o,if_neg (fun c=>z2 c.2)])
     clear z1 z2 P
     go_wp2
     go_roundw
     case rel=>exact ⟨k+1,by omega,by go_num,by rw [MM.o B1.o]; exact D.o⟩
     case measure=>simp [intOf]; omega
   ·have d1:(ys[k].ah == 0)=false:=by simp [z1]
    have B1:=hid (show Am ys[k]=ys[k] by rw [BO.o,if_neg (fun c=>z1 c.1)])
    clear z1 P
    go_wp2
    go_roundw
    case rel=>exact ⟨k+1,by omega,by go_num,by rw [MM.o B1.o]; exact D.o⟩
    case measure=>simp [intOf]; omega
  ·obtain rfl:k=ys.length:=by omega
   go_wp2
   go_end0
   rw [<- yog]
   exact ⟨rfl,D.o⟩
def rZ (rs:List Lk.Rel):Nat->List Lk.Rel
 | 0=>[]
 | c+1=>rZ rs c ++ rs.filter (fun r=>r.ah=((c+1:Nat):Int))
def vN (rs:List Lk.Rel) (c k:Nat):List Lk.Rel:=rZ rs c ++ (rs.take k).filter (fun r=>r.ah=((c+1:Nat):Int))
theorem ykm (rs:List Lk.Rel) (c:Nat):vN rs c rs.length=rZ rs (c+1):=by unfold vN; rw [List.take_length]; rfl
theorem ZQ (rs:List Lk.Rel) (c:Nat):vN rs c 0=rZ rs c:=by simp [vN]
theorem ykn (rs:List Lk.Rel) (c k:Nat) (h:k < rs.length) (he:rs[k].ah=((c+1:Nat):Int)):vN rs c (k+1)=vN rs c k ++ [rs[k]]:=by
 unfold vN
 rw [List.take_succ_eq_append_getElem h,List.filter_append,List.append_assoc]
 congr 1
 rw [List.filter_cons_of_pos (by simpa using he)]
 rfl
theorem yls (rs:List Lk.Rel) (c k:Nat) (h:k < rs.length) (he:¬ rs[k].ah=((c+1:Nat):Int)):vN rs c (k+1)=vN rs c k:=by
 unfold vN
 rw [List.take_succ_eq_append_getElem h,List.filter_append]
 congr 1
 rw [List.filter_cons_of_neg (by simpa using he)]
 simp
theorem Tx (rs:List Lk.Rel):rZ rs 3=As.gI rs:=by
 simp only [rZ,As.gI,List.nil_append]
 rfl
theorem VE (rs:List Lk.Rel):(As.gI rs).length<=rs.length:=by
 unfold As.gI
 induction rs with
 | nil=>simp
 | cons r rs ih =>
  simp only [fu,iE] at ih ⊢
  rcases (show r.ah=1\/r.ah=2\/r.ah=3\/¬ (r.ah=1\/r.ah=2\/r.ah=3) by omega) with h | h | h | h
  ·rw [List.filter_cons_of_pos (by simp [h]),List.filter_cons_of_neg (by simp [h]),List.filter_cons_of_neg (by simp [h])]; simp only [iE]; omega
  ·rw [List.filter_cons_of_neg (by simp [h]),List.filter_cons_of_pos (by simp [h]),List.filter_cons_of_neg (by simp [h])]; simp only [iE]; omega
  ·rw [List.filter_cons_of_neg (by simp [h]),List.filter_cons_of_neg (by simp [h]),List.filter_cons_of_pos (by simp [h])]; simp only [iE]; omega
  ·rw [List.filter_cons_of_neg (by simp; omega),List.filter_cons_of_neg (by simp; omega),List.filter_cons_of_neg (by simp; omega)]; omega
theorem yqE (rs:List Lk.Rel) (c:Nat):(rZ rs c).length<=c * rs.length:=by
 induction c with
 | zero=>simp [rZ]
 | succ c ih =>
  have h:=List.length_filter_le (fun r:Lk.Rel=>decide (r.ah=((c+1:Nat):Int))) rs
  simp only [rZ,fu]
  rw [Nat.succ_mul]
  omega
theorem yqY (rs:List Lk.Rel) (c k:Nat) (hc:c<=2) (hr:rs.length<=32):(vN rs c k).length<=96:=by
 have h1:=yqE rs c
 have h2:=List.length_filter_le (fun r:Lk.Rel=>decide (r.ah=((c+1:Nat):Int))) (rs.take k)
 have h3:(rs.take k).length<=32:=by rw [List.length_take]; omega
 have h4:c * rs.length<=2 * 32:=Nat.mul_le_mul hc hr
 unfold vN
 rw [fu]
 omega
def ypW (st:As.St) (rs:List Lk.Rel):As.St:={ st with obj:={ st.obj with aj:=rs } }
set_option maxRecDepth 100000 in
theorem Zm (B:Nat) (s:ByteArray) (b g:Nat) (st:As.St) (W:World) (h:yl B s b g st W) :
  Calls Tryz.prog 35 #[.pointer (some ⟨b,0,none⟩)] W fun en W'=>en = .returned (.tuple #[])/\Does B s b g W (ypW st (As.gI st.obj.aj)) W':=by
 obtain ⟨i2,hi2,hx0,hx1,hx2⟩:=info_parts Tryz.qX
 have HW:=hid h
 have c14:=rQ h
 obtain ⟨vt,vf,vd,va,vs,vr,ho⟩:=h.own
 obtain ⟨ar,cr,rfl⟩:=yh ho.aj
 have HO:=hid ho
 have RI:=hid (Az.aR ho.aj)
 have hcap:=pV ho.aj
 have g6:=ho.blk.cell 6
 have fg:=ho.blk.free 6
 simp only [bC,bG,bE] at g6
 have hn32:=h.ok.aj
 clear ho h
 generalize hrs:st.obj.aj=rs at *
 have Bw:=hid hrs
 clear hrs
 go_enter Tryz.func35,Tryz.ntmps35
 go_wp2
 go_loopw [2,3] (fun v i wr=>∃ c:Nat,c<=3/\i = .int .i64 (c+1:Nat)/\wr.ownsRow W.heap.size 102 5 v (rZ rs c).length ((rZ rs c).flatMap gZ)/\W.grownBy wr none) (fun _ i _=>4 - (intOf i).toNat)
 case atStart=>exact ⟨0,by omega,rfl,World.ownsRow_nil _ _ _ _,World.grownBy.refl _ _⟩
 case round =>
  obtain ⟨c,hc3,rfl,hown,hgr⟩:=hrel
  obtain ⟨av,cv,rfl⟩:=yh hown
  have HOW:=hid hown
  have HG:=hid hgr
  have JI:=yd c14 hgr
  have q6:=yd g6 hgr
  clear hown hgr
  by_cases hlt:c<=2
  ·have g1:(c:Int)+1<=3:=by omega
   go_wp2
   go_loopw [2,18] (fun v i w2=>∃ k:Nat,k<=rs.length/\i = .int .i64 k/\w2.ownsRow W.heap.size 102 5 v (vN rs c k).length ((vN rs c k).flatMap gZ)/\W.grownBy w2 none) (fun _ i _=>rs.length - (intOf i).toNat)
   case atStart=>exact ⟨0,Nat.zero_le _,rfl,by rw [ZQ]; exact HOW.o,HG.o⟩
   case round =>
    obtain ⟨k,hk,rfl,hown,hgr⟩:=hrel
    obtain ⟨Nq,Nt,rfl⟩:=yh hown
    have HG2:=hid hgr
    have hsz:=hgr.size
    have hle:=yqY rs c k hlt hn32
    by_cases hkl:k < rs.length
    ·obtain ⟨sg,hsg,hgs,hcs⟩:=RI.o.grown hgr (by omega)
     obtain ⟨k0,k1,k2,k3,k4⟩:=hcs k hkl
     clear hcs hgr
     subst hsg
     have hk':(k:Int) < (rs.length:Int):=by omega
     have Yn:(k:Int)<=(cr:Int):=by omega
     by_cases e1:rs[k].ah=((c+1:Nat):Int)
     ·have d:(rs[k].ah == (c:Int)+1)=true:=by simp; omega
      have E:=hid (ykn rs c k hkl e1)
      clear e1
      have AG:Hd (W.grownBy ((wr.alloc (.cells #[.int .i64 rs[k].ah,.int .i64 rs[k].off,.int .i64 rs[k].kind,.int .i64 rs[k].sym,.int .i64 rs[k].addend] 102)).alloc (.cells #[.int .i64 rs[k].ah,.int .i64 rs[k].off,.int .i64 rs[k].kind,.int .i64 rs[k].sym,.int .i64 rs[k].addend] 102)) none):=ya (ya HG2.o (aH _ _ _)) (aH _ _ _)
      go_wp2_with (at_builtin; refine wpList_append_own _ rfl _ _ 69 rfl W.heap.size 102 i2 (.agg #[.int .i64 0,.int .i64 0,.int .i64 0,.int .i64 0,.int .i64 0]) 5 40 Tryz.underlying69 hi2 hx0 hx1 hx2 rfl (by decide) _ _ _ rfl ((hown.alloc _).alloc _) ⟨wr.heap.size+1,0,none⟩ 1 1 (gZ rs[k]) rfl rfl (QC _ _ _ _) (by intro u hu; simp [gZ] at hu; rcases hu with rfl | rfl | rfl | rfl | rfl <;> rfl) (by unfold maxLen; omega) (by omega) (by simp; omega) ?_; intro v' w3 hown' hgrow _; obtain ⟨mY,cv',rfl⟩:=yh hown'; have K:=hid (Hf AG.o hgrow (fun b hb=>(hown.lt b hb).1)); have XL:=hid hown'; clear hgrow hown')
      go_wp2
      go_roundw
      case rel =>
       refine ⟨_,_,_,_,_,_,_,_,_,_,_,_,_,_,_,⟨k+1,by omega,?_,?_,K.o⟩,rfl⟩
       ·go_num
       ·rw [E.o,fu,List.flatMap_append]; simpa using XL.o
      case measure=>simp [intOf]; omega
     ·have d:(rs[k].ah == (c:Int)+1)=false:=by simp; omega
      have E:=hid (yls rs c k hkl e1)
      have AQ:=hid hown
      clear e1 hown
      go_wp2
      go_roundw
      case rel=>exact ⟨k+1,by omega,by go_num,by rw [E.o]; exact AQ.o.alloc _,ya HG2.o (aH _ _ _)⟩
      case measure=>simp [intOf]; omega
    ·obtain rfl:k=rs.length:=by omega
     have AQ:=hid hown
     clear hown hgr
     go_wp2
     go_roundw
     case rel=>exact ⟨c+1,by omega,by go_num,by rw [<- ykm]; exact AQ.o,HG2.o⟩
     case measure=>simp [intOf]; omega
  ·obtain rfl:c=3:=by omega
   have qf:wr.frozen? ⟨g,6,none⟩=false:=(HO.o.blk.grown HG.o (by simp)).free 6
   go_wp2
   go_end0
   rw [<- Tx]
   have gs:=yf wr g 6 (.slice av (rZ rs 3).length cv)
   have Yo:=HO.o.blk.lt
   have SQ:∀ k,Value.ownBlock (.slice av (rZ rs 3).length cv)=some k->W.heap.size<=k:=fun k hk=>(HOW.o.lt k hk).1
   have nr:lY B W (wr.setCell ⟨g,6,none⟩ (.slice av (rZ rs 3).length cv)) b g (.slice ar rs.length cr) (.slice av (rZ rs 3).length cv) :=
    ⟨fun k hk _ hkg=>(gs.block k (by have:=HG.o.size; omega) (by simpa using hkg)).trans (HG.o.block k hk (by simp)),fun k hk=>.inr (SQ k hk),gs.os.trans HG.o.os,gs.tape.trans HG.o.tape,gs.output.trans HG.o.output,Nat.le_trans HG.o.size gs.size⟩
   have nb:=(HO.o.blk.grown HG.o (by simp)).set 6 (.slice av (rZ rs 3).length cv)
   have hle:(rZ rs 3).length<=32:=by rw [Tx]; have:=VE rs; omega
   refine ⟨rfl,HW.o.vC HO.o nr (rZ rs 3) hle (by simpa using nb) ?_⟩
   refine yW (GI HOW.o fun k hk e=>?_) HW.o.size
   have:=SQ k hk
   omega
end Go.Proofs.YtpgklkhgfcjceaaGreatDoor

namespace Go.Proofs.YtpgklkhgfcjceaaGreatDoor
namespace As
theorem mP (f:UInt8->Bool) (s:List UInt8) (p:Nat):p<=skip f s p:=by unfold skip; omega
theorem uN (s:List UInt8) (p:Nat):p<=(iM s p).2.2:=by
 unfold iM
 split
 ·simp
 split
 ·exact mP _ _ _
 ·exact mP _ _ _
theorem wK (s:List UInt8) (q:Nat):q<=(iX s q).2.2:=by
 unfold iX
 split
 ·exact Nat.le_refl _
 split
 ·exact Nat.le_refl _
 split
 ·exact uN s q
 split
 ·exact mP _ _ _
 split
 ·exact Nat.le_succ _
 ·exact Nat.le_refl _
theorem vG (s:List UInt8) (p:Nat):p<=(next s p).2.2:=Nat.le_trans (mP _ s p) (wK s _)
theorem dO (e pos:Nat) (st:St):(refuse e pos st).p=st.p:=by unfold refuse; split <;> rfl
theorem iZ (c:Bool) (e pos:Nat) (st:St):(aW c e pos st).p=st.p:=by unfold aW; split; exact dO _ _ _; rfl
theorem eZ (s:List UInt8) (st:St):st.p<=(advance s st).p:=by
 unfold advance
 split
 ·exact Nat.le_refl _
 split
 ·exact vG s st.p
 ·rw [dO]; exact vG s st.p
theorem nO (s:List UInt8) (st:St):st.p<=(dP s st).2.p:=by
 unfold dP
 split
 ·exact eZ s st
 ·exact Nat.le_refl _
theorem nK (t:Tok) (st:St):(bV t st).p=st.p:=by unfold bV; rw [iZ,iZ,iZ]
theorem jP (t:Tok) (st:St):(aS t st).2.p=st.p:=by
 unfold aS
 split
 ·rfl
 split
 ·rfl
 split
 ·exact dO _ _ _
 ·rfl
theorem Cu (t:Tok) (st:St):(label t st).p=st.p:=by
 unfold label
 dsimp only
 have h:=jP t (bV t st)
 rw [nK] at h
 split
 ·exact h
 split
 ·rw [dO]; exact h
 ·exact h
theorem vB (s:List UInt8) (st:St):st.p<=(name s st).2.p:=by
 unfold name
 split
 ·have:=eZ s (bV st.tok st); rw [nK] at this; exact this
 ·rw [dO]; exact Nat.le_refl _
theorem Cb (s:List UInt8) (b:Int) (st:St):st.p<=(bind s b st).p:=by
 unfold bind
 dsimp only
 have h:=jP (name s st).1 (name s st).2
 have h2:=vB s st
 split
 ·omega
 split
 ·rw [dO]; omega
 ·show _<=(aS (name s st).1 (name s st).2).2.p; omega
theorem dJ (s c:List UInt8) (st:St):st.p<=(sign s c st).p:=by
 unfold sign
 split
 ·exact eZ s st
 ·rw [dO]; exact Nat.le_refl _
theorem aU (s:List UInt8) (st:St):st.p<=(register s st).2.p:=by
 unfold register
 split
 ·split
  ·rw [dO]; exact Nat.le_refl _
  ·exact eZ s st
 ·rw [dO]; exact Nat.le_refl _
theorem lN (s:List UInt8) (neg:Bool) (pos:Nat) (lo hi:Int) (st:St):st.p<=(bB s neg pos lo hi st).2.p:=by
 unfold bB
 generalize (if neg then -(st.tok.n:Int) else (st.tok.n:Int))=x
 split
 ·by_cases h:x < lo\/hi < x
  ·rw [if_pos h,dO]; exact Nat.le_refl _
  ·rw [if_neg h]; exact eZ s st
 ·rw [dO]; exact Nat.le_refl _
theorem eB (s:List UInt8) (lo hi:Int) (st:St):st.p<=(number s lo hi st).2.p:=by
 unfold number
 split
 ·exact Nat.le_trans (eZ s st) (lN _ _ _ _ _ _)
 ·exact lN _ _ _ _ _ _
theorem kZ (s:List UInt8) (st:St):st.p<=(symbol s st).2.p:=by
 unfold symbol
 dsimp only
 rw [jP]
 exact vB s st
theorem lq (s:List UInt8) (st:St):st.p<=(target s st).2.p:=by
 unfold target
 dsimp only
 have h:=kZ s st
 split
 ·exact Nat.le_trans h (Nat.le_trans (eZ s _) (eB _ _ _ _))
 split
 ·exact Nat.le_trans h (Nat.le_trans (eZ s _) (eB _ _ _ _))
 ·exact h
theorem pz (s:List UInt8) (st:St):st.p<=(place s st).2.p :=
 Nat.le_trans (eB s _ _ st) (Nat.le_trans (dJ s _ _) (Nat.le_trans (aU s _) (dJ s _ _)))
theorem qF (ws:List Int) (st:St):(lay ws st).p=st.p:=by
 unfold lay
 split
 ·exact dO _ _ _
 split <;> rfl
theorem jw (kind:Int) (sym:Nat) (addend:Int) (ws:List Int) (st:St):(dS kind sym addend ws st).p=st.p:=by
 unfold dS
 dsimp only
 split
 ·exact iZ _ _ _ _
 ·rw [qF]; exact iZ _ _ _ _
theorem gG (op rd au aC:Nat) (n:Int) (st:St):(dw op rd au aC n st).p=st.p:=qF _ _
theorem kg (reg op rd au aC:Nat) (n:Int) (sym:Nat) (addend:Int) (st:St):(fq reg op rd au aC n sym addend st).p=st.p:=by
 unfold fq; rw [jw,iZ]
theorem jQ {a b c:Nat} (h:a<=b) (k:b<=c):a<=c:=Nat.le_trans h k
theorem rM (s:List UInt8) (op:Nat) (st:St):st.p<=(gK s op st).p:=by
 unfold gK; dsimp only; rw [gG]
 exact jQ (aU s st) (jQ (dJ s _ _) (jQ (aU s _) (jQ (dJ s _ _) (aU s _))))
theorem qw (s:List UInt8) (op:Nat) (st:St):st.p<=(fO s op st).p:=by
 unfold fO; dsimp only; rw [gG]
 exact jQ (aU s st) (jQ (dJ s _ _) (jQ (aU s _) (jQ (dJ s _ _) (eB s _ _ _))))
theorem Ag (s:List UInt8) (st:St):st.p<=(upper s st).p:=by
 unfold upper; dsimp only; rw [gG]
 exact jQ (aU s st) (jQ (dJ s _ _) (eB s _ _ _))
theorem Cy (s:List UInt8) (st:St):st.p<=(load s st).p:=by
 unfold load; dsimp only
 split
 ·rw [kg]; exact jQ (aU s st) (jQ (dJ s _ _) (lq s _))
 ·rw [gG]; exact jQ (aU s st) (jQ (dJ s _ _) (pz s _))
theorem Ab (s:List UInt8) (st:St):st.p<=(store s st).p:=by
 unfold store; dsimp only
 split
 ·rw [kg]; exact jQ (aU s st) (jQ (dJ s _ _) (jQ (lq s _) (jQ (dJ s _ _) (aU s _))))
 ·rw [gG]; exact jQ (aU s st) (jQ (dJ s _ _) (pz s _))
theorem oW (s:List UInt8) (st:St):st.p<=(eO s st).p:=by
 unfold eO; dsimp only; rw [kg]
 exact jQ (aU s st) (jQ (dJ s _ _) (lq s _))
theorem nW (s:List UInt8) (st:St):st.p<=(dR s st).p:=by
 unfold dR; dsimp only; rw [gG]
 exact jQ (aU s st) (jQ (dJ s _ _) (pz s _))
theorem Eo (st:St):(bare st).p=st.p:=by
 unfold bare
 split
 ·exact gG ..
 split
 ·exact gG ..
 split
 ·exact gG ..
 ·rfl
theorem wB (s:List UInt8) (op:Nat) (st:St):st.p<=(branch s op st).p:=by
 unfold branch; dsimp only; rw [jw]
 exact jQ (aU s st) (jQ (dJ s _ _) (jQ (aU s _) (jQ (dJ s _ _) (kZ s _))))
theorem oU (s:List UInt8) (rd:Nat) (st:St):st.p<=(iH s rd st).p:=by
 unfold iH; dsimp only; rw [jw]
 exact kZ s st
theorem sQ (s:List UInt8) (st:St):st.p<=(iG s st).p:=by
 unfold iG; dsimp only
 exact jQ (aU s st) (jQ (dJ s _ _) (oU s _ _))
theorem CF (s:List UInt8) (st:St):st.p<=(move s st).p:=by
 unfold move; dsimp only; rw [gG]
 exact jQ (aU s st) (jQ (dJ s _ _) (aU s _))
theorem ql (s:List UInt8) (st:St):st.p<=(fJ s st).p:=by
 unfold fJ; dsimp only
 split
 ·rw [gG]; exact jQ (aU s st) (jQ (dJ s _ _) (eB s _ _ _))
 ·rw [qF]; exact jQ (aU s st) (jQ (dJ s _ _) (eB s _ _ _))
theorem Cg (s:List UInt8) (st:St):st.p<=(call s st).p:=by
 unfold call; dsimp only; rw [jw]
 exact kZ s st
theorem wO (st:St):(iN st).p=st.p:=by
 unfold iN
 repeat' split
 all_goals rfl
theorem CY (s:List UInt8) (st:St):st.p<=(word s st).p:=by
 unfold word; dsimp only
 split
 ·rw [jw]; exact lq s st
 ·rw [qF]; exact eB s _ _ st
theorem zU (s:List UInt8) (st:St):st.p<=(space s st).p:=by
 unfold space; dsimp only
 split
 ·rw [qF]; exact eB s _ _ st
 ·rw [dO]; exact eB s _ _ st
theorem qm (k:Int) (st:St):(dF k st).p=st.p:=by unfold dF; split <;> rfl
theorem wm (b:Nat) (st:St):(dH b st).p=st.p:=by
 unfold dH
 split
 ·split
  ·exact jw _ _ _ _ _
  ·rfl
 ·exact qF _ _
theorem xZ (s:List UInt8) (st:St):st.p<=(align s st).p:=by
 unfold align; dsimp only
 split
 ·exact eB s _ _ st
 ·rw [qm,wm]; exact eB s _ _ st
theorem oP (s:List UInt8) (shape op:Nat) (st:St):st.p<=(instruction s shape op st).p:=by
 unfold instruction
 by_cases h:shape=1
 ·rw [if_pos h]; exact rM _ _ _
 rw [if_neg h]
 clear h
 by_cases h:shape=2
 ·rw [if_pos h]; exact qw _ _ _
 rw [if_neg h]
 clear h
 by_cases h:shape=3
 ·rw [if_pos h]; exact Ag _ _
 rw [if_neg h]
 clear h
 by_cases h:shape=4
 ·rw [if_pos h]; exact Cy _ _
 rw [if_neg h]
 clear h
 by_cases h:shape=5
 ·rw [if_pos h]; exact Ab _ _
 rw [if_neg h]
 clear h
 by_cases h:shape=6
 ·rw [if_pos h]; exact nW _ _
 rw [if_neg h]
 clear h
 by_cases h:shape=7
 ·rw [if_pos h]; rw [Eo]; exact Nat.le_refl _
 rw [if_neg h]
 clear h
 by_cases h:shape=8
 ·rw [if_pos h]; exact wB _ _ _
 rw [if_neg h]
 clear h
 by_cases h:shape=9
 ·rw [if_pos h]; exact sQ _ _
 rw [if_neg h]
 clear h
 by_cases h:shape=10
 ·rw [if_pos h]; exact oU _ _ _
 rw [if_neg h]
 clear h
 by_cases h:shape=11
 ·rw [if_pos h]; exact CF _ _
 rw [if_neg h]
 clear h
 by_cases h:shape=12
 ·rw [if_pos h]; exact ql _ _
 rw [if_neg h]
 clear h
 by_cases h:shape=13
 ·rw [if_pos h]; exact Cg _ _
 rw [if_neg h]
 clear h
 by_cases h:shape=14
 ·rw [if_pos h]; exact oW _ _
 rw [if_neg h]
 clear h
 exact Nat.le_refl _
theorem qR (s:List UInt8) (shape:Nat) (st:St):st.p<=(directive s shape st).p:=by
 unfold directive
 split
 ·rw [wO]; exact Nat.le_refl _
 split
 ·exact CY _ _
 split
 ·exact zU _ _
 split
 ·exact xZ _ _
 split
 ·exact Cb _ _ _
 ·exact Nat.le_refl _
theorem rA (s:List UInt8) (t:Tok) (st:St):st.p<=(operation s t st).p:=by
 unfold operation
 split
 ·rw [dO]; exact Nat.le_refl _
 split
 ·rw [dO]; exact Nat.le_refl _
 split
 ·exact oP _ _ _ { st with op:=t }
 ·exact qR _ _ { st with op:=t }
theorem qH (s:List UInt8) (t:Tok) (st:St):st.p<=(jO s t st).p:=by
 unfold jO; dsimp only
 have h:st.p<=(if t.kind == 1 then operation s t st else st).p:=by
  split
  ·exact rA _ _ _
  ·exact Nat.le_refl _
 generalize (if t.kind == 1 then operation s t st else st)=x at h ⊢
 split
 ·exact h
 ·rw [dO]; exact h
theorem vv (s:List UInt8) (st:St):st.p<=(line s st).p:=by
 unfold line; dsimp only
 have h:=jQ (eZ s st) (nO s (advance s st))
 split
 ·refine jQ h (jQ (Nat.le_of_eq (Cu _ _).symm) (jQ (eZ s _) (jQ (nO s _) (qH _ _ _))))
 ·exact jQ h (qH _ _ _)
theorem nL (s:List UInt8) (st:St) (h:(dN s st).1=true):st.p < (dN s st).2.p/\(dN s st).2.p<=s.length:=by
 unfold dN at h ⊢
 split at h
 ·cases h
 ·rename_i hf
  rw [if_neg hf]
  have k:=mP iI s st.p
  unfold lineEnd at h ⊢
  split at h
  ·rename_i hl
   rw [if_pos hl]
   exact ⟨by show st.p < skip iI s st.p+1; omega,by show skip iI s st.p+1<=s.length; omega⟩
  ·cases h
end As
end Go.Proofs.YtpgklkhgfcjceaaGreatDoor
