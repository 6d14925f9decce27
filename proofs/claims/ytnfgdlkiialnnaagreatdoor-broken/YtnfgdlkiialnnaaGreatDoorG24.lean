/- Walks: operations by their names. -/
/- Walks: operations by their names. -/
/- Walks: instructions by their names. -/
/- Walks: an operation of a text. -/
/- Walks: an operation, a line. -/
/- Walks: a line. -/
/- Walks: what is left unbound. -/
import Derived.Test.YtnfgdlkiialnnaaGreatDoorG23
namespace Go.Proofs.YtnfgdlkiialnnaaGreatDoor
open Go.RowKit

set_option maxRecDepth 100000 in
set_option maxHeartbeats 16000000 in
theorem dirShape_any (t:List UInt8) (w:World) :
  Calls Tryz.prog 151 #[.string (bs t)] w fun e w'=>e = .returned (.int .i64 (As.dirShape t:Nat))∧w'=w:=by
 have RS:=hid (show As.dirShape t=(
 if t=[46,116,101,120,116] then 15 else
 if t=[46,102,97,114] then 15 else
 if t=[46,100,97,116,97] then 15 else
 if t=[46,98,115,115] then 15 else
 if t=[46,119,111,114,100] then 16 else
 if t=[46,115,112,97,99,101] then 17 else
 if t=[46,97,108,105,103,110] then 18 else
 if t=[46,103,108,111,98,108] then 19 else
 if t=[46,119,101,97,107] then 19 else
 0) from rfl)
 generalize As.dirShape t=X at *
 have e:∀ l:List UInt8,((bs t).toList == l)=decide (t=l):=fun l=>by rw [toList_bs,Bool.eq_iff_iff,beq_iff_eq,decide_eq_true_iff]
 by_cases h:t=[46,116,101,120,116]
 ·rw [if_pos h] at RS
  have d0:=e [46,116,101,120,116]
  rw [decide_eq_true h] at d0
  clear h e
  go_enter Tryz.func151,Tryz.ntmps151
  go_wp2
  go_ret
  exact ⟨by rw [RS.out]; rfl,rfl⟩
 have d0:=e [46,116,101,120,116]
 rw [if_neg h] at RS
 rw [decide_eq_false h] at d0
 clear h
 by_cases h:t=[46,102,97,114]
 ·rw [if_pos h] at RS
  have d1:=e [46,102,97,114]
  rw [decide_eq_true h] at d1
  clear h e
  go_enter Tryz.func151,Tryz.ntmps151
  go_wp2
  go_ret
  exact ⟨by rw [RS.out]; rfl,rfl⟩
 have d1:=e [46,102,97,114]
 rw [if_neg h] at RS
 rw [decide_eq_false h] at d1
 clear h
 by_cases h:t=[46,100,97,116,97]
 ·rw [if_pos h] at RS
  have d2:=e [46,100,97,116,97]
  rw [decide_eq_true h] at d2
  clear h e
  go_enter Tryz.func151,Tryz.ntmps151
  go_wp2
  go_ret
  exact ⟨by rw [RS.out]; rfl,rfl⟩
 have d2:=e [46,100,97,116,97]
 rw [if_neg h] at RS
 rw [decide_eq_false h] at d2
 clear h
 by_cases h:t=[46,98,115,115]
 ·rw [if_pos h] at RS
  have d3:=e [46,98,115,115]
  rw [decide_eq_true h] at d3
  clear h e
  go_enter Tryz.func151,Tryz.ntmps151
  go_wp2
  go_ret
  exact ⟨by rw [RS.out]; rfl,rfl⟩
 have d3:=e [46,98,115,115]
 rw [if_neg h] at RS
 rw [decide_eq_false h] at d3
 clear h
 by_cases h:t=[46,119,111,114,100]
 ·rw [if_pos h] at RS
  have d4:=e [46,119,111,114,100]
  rw [decide_eq_true h] at d4
  clear h e
  go_enter Tryz.func151,Tryz.ntmps151
  go_wp2
  go_ret
  exact ⟨by rw [RS.out]; rfl,rfl⟩
 have d4:=e [46,119,111,114,100]
 rw [if_neg h] at RS
 rw [decide_eq_false h] at d4
 clear h
 by_cases h:t=[46,115,112,97,99,101]
 ·rw [if_pos h] at RS
  have d5:=e [46,115,112,97,99,101]
  rw [decide_eq_true h] at d5
  clear h e
  go_enter Tryz.func151,Tryz.ntmps151
  go_wp2
  go_ret
  exact ⟨by rw [RS.out]; rfl,rfl⟩
 have d5:=e [46,115,112,97,99,101]
 rw [if_neg h] at RS
 rw [decide_eq_false h] at d5
 clear h
 by_cases h:t=[46,97,108,105,103,110]
 ·rw [if_pos h] at RS
  have d6:=e [46,97,108,105,103,110]
  rw [decide_eq_true h] at d6
  clear h e
  go_enter Tryz.func151,Tryz.ntmps151
  go_wp2
  go_ret
  exact ⟨by rw [RS.out]; rfl,rfl⟩
 have d6:=e [46,97,108,105,103,110]
 rw [if_neg h] at RS
 rw [decide_eq_false h] at d6
 clear h
 by_cases h:t=[46,103,108,111,98,108]
 ·rw [if_pos h] at RS
  have d7:=e [46,103,108,111,98,108]
  rw [decide_eq_true h] at d7
  clear h e
  go_enter Tryz.func151,Tryz.ntmps151
  go_wp2
  go_ret
  exact ⟨by rw [RS.out]; rfl,rfl⟩
 have d7:=e [46,103,108,111,98,108]
 rw [if_neg h] at RS
 rw [decide_eq_false h] at d7
 clear h
 by_cases h:t=[46,119,101,97,107]
 ·rw [if_pos h] at RS
  have d8:=e [46,119,101,97,107]
  rw [decide_eq_true h] at d8
  clear h e
  go_enter Tryz.func151,Tryz.ntmps151
  go_wp2
  go_ret
  exact ⟨by rw [RS.out]; rfl,rfl⟩
 have d8:=e [46,119,101,97,107]
 rw [if_neg h] at RS
 rw [decide_eq_false h] at d8
 clear h
 clear e
 go_enter Tryz.func151,Tryz.ntmps151
 go_wp2
 go_ret
 exact ⟨by rw [RS.out]; rfl,rfl⟩

end Go.Proofs.YtnfgdlkiialnnaaGreatDoor

namespace Go.Proofs.YtnfgdlkiialnnaaGreatDoor
open Go.RowKit

set_option maxRecDepth 100000 in
set_option maxHeartbeats 16000000 in
theorem shapeOf_any (t:List UInt8) (w:World) :
  Calls Tryz.prog 109 #[.string (bs t)] w fun e w'=>e = .returned (.int .i64 (As.shapeOf t:Nat))∧w'=w:=by
 have RS:=hid (show As.shapeOf t=(
 if t=[97,100,100] then 1 else
 if t=[115,117,98] then 1 else
 if t=[115,108,116] then 1 else
 if t=[115,108,116,117] then 1 else
 if t=[120,111,114] then 1 else
 if t=[111,114] then 1 else
 if t=[97,110,100] then 1 else
 if t=[97,100,100,105] then 2 else
 if t=[115,108,116,105] then 2 else
 if t=[120,111,114,105] then 2 else
 if t=[111,114,105] then 2 else
 if t=[97,110,100,105] then 2 else
 if t=[108,117,105] then 3 else
 if t=[108,119] then 4 else
 if t=[115,119] then 5 else
 if t=[106,97,108,114] then 6 else
 if t=[101,99,97,108,108] then 7 else
 if t=[114,101,116] then 7 else
 if t=[110,111,112] then 7 else
 if t=[98,101,113] then 8 else
 if t=[98,110,101] then 8 else
 if t=[98,108,116] then 8 else
 if t=[98,103,101] then 8 else
 if t=[98,108,116,117] then 8 else
 if t=[98,103,101,117] then 8 else
 if t=[106,97,108] then 9 else
 if t=[106] then 10 else
 if t=[109,118] then 11 else
 if t=[108,105] then 12 else
 if t=[99,97,108,108] then 13 else
 if t=[116,97,105,108] then 13 else
 if t=[108,97] then 14 else
 As.dirShape t) from rfl)
 generalize As.shapeOf t=X at *
 have e:∀ l:List UInt8,((bs t).toList == l)=decide (t=l):=fun l=>by rw [toList_bs,Bool.eq_iff_iff,beq_iff_eq,decide_eq_true_iff]
 by_cases h:t=[97,100,100]
 ·rw [if_pos h] at RS
  have d0:=e [97,100,100]
  rw [decide_eq_true h] at d0
  clear h e
  go_enter Tryz.func109,Tryz.ntmps109
  go_wp2
  go_ret
  exact ⟨by rw [RS.out]; rfl,rfl⟩
 have d0:=e [97,100,100]
 rw [if_neg h] at RS
 rw [decide_eq_false h] at d0
 clear h
 by_cases h:t=[115,117,98]
 ·rw [if_pos h] at RS
  have d1:=e [115,117,98]
  rw [decide_eq_true h] at d1
  clear h e
  go_enter Tryz.func109,Tryz.ntmps109
  go_wp2
  go_ret
  exact ⟨by rw [RS.out]; rfl,rfl⟩
 have d1:=e [115,117,98]
 rw [if_neg h] at RS
 rw [decide_eq_false h] at d1
 clear h
 by_cases h:t=[115,108,116]
 ·rw [if_pos h] at RS
  have d2:=e [115,108,116]
  rw [decide_eq_true h] at d2
  clear h e
  go_enter Tryz.func109,Tryz.ntmps109
  go_wp2
  go_ret
  exact ⟨by rw [RS.out]; rfl,rfl⟩
 have d2:=e [115,108,116]
 rw [if_neg h] at RS
 rw [decide_eq_false h] at d2
 clear h
 by_cases h:t=[115,108,116,117]
 ·rw [if_pos h] at RS
  have d3:=e [115,108,116,117]
  rw [decide_eq_true h] at d3
  clear h e
  go_enter Tryz.func109,Tryz.ntmps109
  go_wp2
  go_ret
  exact ⟨by rw [RS.out]; rfl,rfl⟩
 have d3:=e [115,108,116,117]
 rw [if_neg h] at RS
 rw [decide_eq_false h] at d3
 clear h
 by_cases h:t=[120,111,114]
 ·rw [if_pos h] at RS
  have d4:=e [120,111,114]
  rw [decide_eq_true h] at d4
  clear h e
  go_enter Tryz.func109,Tryz.ntmps109
  go_wp2
  go_ret
  exact ⟨by rw [RS.out]; rfl,rfl⟩
 have d4:=e [120,111,114]
 rw [if_neg h] at RS
 rw [decide_eq_false h] at d4
 clear h
 by_cases h:t=[111,114]
 ·rw [if_pos h] at RS
  have d5:=e [111,114]
  rw [decide_eq_true h] at d5
  clear h e
  go_enter Tryz.func109,Tryz.ntmps109
  go_wp2
  go_ret
  exact ⟨by rw [RS.out]; rfl,rfl⟩
 have d5:=e [111,114]
 rw [if_neg h] at RS
 rw [decide_eq_false h] at d5
 clear h
 by_cases h:t=[97,110,100]
 ·rw [if_pos h] at RS
  have d6:=e [97,110,100]
  rw [decide_eq_true h] at d6
  clear h e
  go_enter Tryz.func109,Tryz.ntmps109
  go_wp2
  go_ret
  exact ⟨by rw [RS.out]; rfl,rfl⟩
 have d6:=e [97,110,100]
 rw [if_neg h] at RS
 rw [decide_eq_false h] at d6
 clear h
 by_cases h:t=[97,100,100,105]
 ·rw [if_pos h] at RS
  have d7:=e [97,100,100,105]
  rw [decide_eq_true h] at d7
  clear h e
  go_enter Tryz.func109,Tryz.ntmps109
  go_wp2
  go_ret
  exact ⟨by rw [RS.out]; rfl,rfl⟩
 have d7:=e [97,100,100,105]
 rw [if_neg h] at RS
 rw [decide_eq_false h] at d7
 clear h
 by_cases h:t=[115,108,116,105]
 ·rw [if_pos h] at RS
  have d8:=e [115,108,116,105]
  rw [decide_eq_true h] at d8
  clear h e
  go_enter Tryz.func109,Tryz.ntmps109
  go_wp2
  go_ret
  exact ⟨by rw [RS.out]; rfl,rfl⟩
 have d8:=e [115,108,116,105]
 rw [if_neg h] at RS
 rw [decide_eq_false h] at d8
 clear h
 by_cases h:t=[120,111,114,105]
 ·rw [if_pos h] at RS
  have d9:=e [120,111,114,105]
  rw [decide_eq_true h] at d9
  clear h e
  go_enter Tryz.func109,Tryz.ntmps109
  go_wp2
  go_ret
  exact ⟨by rw [RS.out]; rfl,rfl⟩
 have d9:=e [120,111,114,105]
 rw [if_neg h] at RS
 rw [decide_eq_false h] at d9
 clear h
 by_cases h:t=[111,114,105]
 ·rw [if_pos h] at RS
  have d10:=e [111,114,105]
  rw [decide_eq_true h] at d10
  clear h e
  go_enter Tryz.func109,Tryz.ntmps109
  go_wp2
  go_ret
  exact ⟨by rw [RS.out]; rfl,rfl⟩
 have d10:=e [111,114,105]
 rw [if_neg h] at RS
 rw [decide_eq_false h] at d10
 clear h
 by_cases h:t=[97,110,100,105]
 ·rw [if_pos h] at RS
  have d11:=e [97,110,100,105]
  rw [decide_eq_true h] at d11
  clear h e
  go_enter Tryz.func109,Tryz.ntmps109
  go_wp2
  go_ret
  exact ⟨by rw [RS.out]; rfl,rfl⟩
 have d11:=e [97,110,100,105]
 rw [if_neg h] at RS
 rw [decide_eq_false h] at d11
 clear h
 by_cases h:t=[108,117,105]
 ·rw [if_pos h] at RS
  have d12:=e [108,117,105]
  rw [decide_eq_true h] at d12
  clear h e
  go_enter Tryz.func109,Tryz.ntmps109
  go_wp2
  go_ret
  exact ⟨by rw [RS.out]; rfl,rfl⟩
 have d12:=e [108,117,105]
 rw [if_neg h] at RS
 rw [decide_eq_false h] at d12
 clear h
 by_cases h:t=[108,119]
 ·rw [if_pos h] at RS
  have d13:=e [108,119]
  rw [decide_eq_true h] at d13
  clear h e
  go_enter Tryz.func109,Tryz.ntmps109
  go_wp2
  go_ret
  exact ⟨by rw [RS.out]; rfl,rfl⟩
 have d13:=e [108,119]
 rw [if_neg h] at RS
 rw [decide_eq_false h] at d13
 clear h
 by_cases h:t=[115,119]
 ·rw [if_pos h] at RS
  have d14:=e [115,119]
  rw [decide_eq_true h] at d14
  clear h e
  go_enter Tryz.func109,Tryz.ntmps109
  go_wp2
  go_ret
  exact ⟨by rw [RS.out]; rfl,rfl⟩
 have d14:=e [115,119]
 rw [if_neg h] at RS
 rw [decide_eq_false h] at d14
 clear h
 by_cases h:t=[106,97,108,114]
 ·rw [if_pos h] at RS
  have d15:=e [106,97,108,114]
  rw [decide_eq_true h] at d15
  clear h e
  go_enter Tryz.func109,Tryz.ntmps109
  go_wp2
  go_ret
  exact ⟨by rw [RS.out]; rfl,rfl⟩
 have d15:=e [106,97,108,114]
 rw [if_neg h] at RS
 rw [decide_eq_false h] at d15
 clear h
 by_cases h:t=[101,99,97,108,108]
 ·rw [if_pos h] at RS
  have d16:=e [101,99,97,108,108]
  rw [decide_eq_true h] at d16
  clear h e
  go_enter Tryz.func109,Tryz.ntmps109
  go_wp2
  go_ret
  exact ⟨by rw [RS.out]; rfl,rfl⟩
 have d16:=e [101,99,97,108,108]
 rw [if_neg h] at RS
 rw [decide_eq_false h] at d16
 clear h
 by_cases h:t=[114,101,116]
 ·rw [if_pos h] at RS
  have d17:=e [114,101,116]
  rw [decide_eq_true h] at d17
  clear h e
  go_enter Tryz.func109,Tryz.ntmps109
  go_wp2
  go_ret
  exact ⟨by rw [RS.out]; rfl,rfl⟩
 have d17:=e [114,101,116]
 rw [if_neg h] at RS
 rw [decide_eq_false h] at d17
 clear h
 by_cases h:t=[110,111,112]
 ·rw [if_pos h] at RS
  have d18:=e [110,111,112]
  rw [decide_eq_true h] at d18
  clear h e
  go_enter Tryz.func109,Tryz.ntmps109
  go_wp2
  go_ret
  exact ⟨by rw [RS.out]; rfl,rfl⟩
 have d18:=e [110,111,112]
 rw [if_neg h] at RS
 rw [decide_eq_false h] at d18
 clear h
 by_cases h:t=[98,101,113]
 ·rw [if_pos h] at RS
  have d19:=e [98,101,113]
  rw [decide_eq_true h] at d19
  clear h e
  go_enter Tryz.func109,Tryz.ntmps109
  go_wp2
  go_ret
  exact ⟨by rw [RS.out]; rfl,rfl⟩
 have d19:=e [98,101,113]
 rw [if_neg h] at RS
 rw [decide_eq_false h] at d19
 clear h
 by_cases h:t=[98,110,101]
 ·rw [if_pos h] at RS
  have d20:=e [98,110,101]
  rw [decide_eq_true h] at d20
  clear h e
  go_enter Tryz.func109,Tryz.ntmps109
  go_wp2
  go_ret
  exact ⟨by rw [RS.out]; rfl,rfl⟩
 have d20:=e [98,110,101]
 rw [if_neg h] at RS
 rw [decide_eq_false h] at d20
 clear h
 by_cases h:t=[98,108,116]
 ·rw [if_pos h] at RS
  have d21:=e [98,108,116]
  rw [decide_eq_true h] at d21
  clear h e
  go_enter Tryz.func109,Tryz.ntmps109
  go_wp2
  go_ret
  exact ⟨by rw [RS.out]; rfl,rfl⟩
 have d21:=e [98,108,116]
 rw [if_neg h] at RS
 rw [decide_eq_false h] at d21
 clear h
 by_cases h:t=[98,103,101]
 ·rw [if_pos h] at RS
  have d22:=e [98,103,101]
  rw [decide_eq_true h] at d22
  clear h e
  go_enter Tryz.func109,Tryz.ntmps109
  go_wp2
  go_ret
  exact ⟨by rw [RS.out]; rfl,rfl⟩
 have d22:=e [98,103,101]
 rw [if_neg h] at RS
 rw [decide_eq_false h] at d22
 clear h
 by_cases h:t=[98,108,116,117]
 ·rw [if_pos h] at RS
  have d23:=e [98,108,116,117]
  rw [decide_eq_true h] at d23
  clear h e
  go_enter Tryz.func109,Tryz.ntmps109
  go_wp2
  go_ret
  exact ⟨by rw [RS.out]; rfl,rfl⟩
 have d23:=e [98,108,116,117]
 rw [if_neg h] at RS
 rw [decide_eq_false h] at d23
 clear h
 by_cases h:t=[98,103,101,117]
 ·rw [if_pos h] at RS
  have d24:=e [98,103,101,117]
  rw [decide_eq_true h] at d24
  clear h e
  go_enter Tryz.func109,Tryz.ntmps109
  go_wp2
  go_ret
  exact ⟨by rw [RS.out]; rfl,rfl⟩
 have d24:=e [98,103,101,117]
 rw [if_neg h] at RS
 rw [decide_eq_false h] at d24
 clear h
 by_cases h:t=[106,97,108]
 ·rw [if_pos h] at RS
  have d25:=e [106,97,108]
  rw [decide_eq_true h] at d25
  clear h e
  go_enter Tryz.func109,Tryz.ntmps109
  go_wp2
  go_ret
  exact ⟨by rw [RS.out]; rfl,rfl⟩
 have d25:=e [106,97,108]
 rw [if_neg h] at RS
 rw [decide_eq_false h] at d25
 clear h
 by_cases h:t=[106]
 ·rw [if_pos h] at RS
  have d26:=e [106]
  rw [decide_eq_true h] at d26
  clear h e
  go_enter Tryz.func109,Tryz.ntmps109
  go_wp2
  go_ret
  exact ⟨by rw [RS.out]; rfl,rfl⟩
 have d26:=e [106]
 rw [if_neg h] at RS
 rw [decide_eq_false h] at d26
 clear h
 by_cases h:t=[109,118]
 ·rw [if_pos h] at RS
  have d27:=e [109,118]
  rw [decide_eq_true h] at d27
  clear h e
  go_enter Tryz.func109,Tryz.ntmps109
  go_wp2
  go_ret
  exact ⟨by rw [RS.out]; rfl,rfl⟩
 have d27:=e [109,118]
 rw [if_neg h] at RS
 rw [decide_eq_false h] at d27
 clear h
 by_cases h:t=[108,105]
 ·rw [if_pos h] at RS
  have d28:=e [108,105]
  rw [decide_eq_true h] at d28
  clear h e
  go_enter Tryz.func109,Tryz.ntmps109
  go_wp2
  go_ret
  exact ⟨by rw [RS.out]; rfl,rfl⟩
 have d28:=e [108,105]
 rw [if_neg h] at RS
 rw [decide_eq_false h] at d28
 clear h
 by_cases h:t=[99,97,108,108]
 ·rw [if_pos h] at RS
  have d29:=e [99,97,108,108]
  rw [decide_eq_true h] at d29
  clear h e
  go_enter Tryz.func109,Tryz.ntmps109
  go_wp2
  go_ret
  exact ⟨by rw [RS.out]; rfl,rfl⟩
 have d29:=e [99,97,108,108]
 rw [if_neg h] at RS
 rw [decide_eq_false h] at d29
 clear h
 by_cases h:t=[116,97,105,108]
 ·rw [if_pos h] at RS
  have d30:=e [116,97,105,108]
  rw [decide_eq_true h] at d30
  clear h e
  go_enter Tryz.func109,Tryz.ntmps109
  go_wp2
  go_ret
  exact ⟨by rw [RS.out]; rfl,rfl⟩
 have d30:=e [116,97,105,108]
 rw [if_neg h] at RS
 rw [decide_eq_false h] at d30
 clear h
 by_cases h:t=[108,97]
 ·rw [if_pos h] at RS
  have d31:=e [108,97]
  rw [decide_eq_true h] at d31
  clear h e
  go_enter Tryz.func109,Tryz.ntmps109
  go_wp2
  go_ret
  exact ⟨by rw [RS.out]; rfl,rfl⟩
 have d31:=e [108,97]
 rw [if_neg h] at RS
 rw [decide_eq_false h] at d31
 clear h
 clear e
 have c:=hid (dirShape_any t w)
 go_enter Tryz.func109,Tryz.ntmps109
 go_wp2_with fail
 refine c.out.mono ?_
 rintro e w1 ⟨rfl,rfl⟩
 go_wp2
 go_ret
 exact ⟨by rw [RS.out]; rfl,rfl⟩

end Go.Proofs.YtnfgdlkiialnnaaGreatDoor

namespace Go.Proofs.YtnfgdlkiialnnaaGreatDoor
open Go.RowKit

/-- the table of names lies where it was laid -/
def NTab (W:World):Prop:=∀ i,i < 26→W.cell? ⟨2,i,none⟩=some (.string (bs (As.names.getD i [])))
theorem NTab.below {B:Nat} {W W':World} (h:NTab W) (hb:Below B W W') (hB:3≤B):NTab W':=fun i hi=>(hb.cell (show 2 < B by omega)).trans (h i hi)

theorem named_at (k:Nat) (h1:1≤k) (h2:k≤25):As.named (As.names.getD k [])=k:=by
 rcases (show k=1∨k=2∨k=3∨k=4∨k=5∨k=6∨k=7∨k=8∨k=9∨k=10∨k=11∨k=12∨k=13∨k=14∨k=15∨k=16∨k=17∨k=18∨k=19∨k=20∨k=21∨k=22∨k=23∨k=24∨k=25 by omega) with rfl | rfl | rfl | rfl | rfl | rfl | rfl | rfl | rfl | rfl | rfl | rfl | rfl | rfl | rfl | rfl | rfl | rfl | rfl | rfl | rfl | rfl | rfl | rfl | rfl <;> decide
theorem named_none (t:List UInt8) (h:∀ k,1≤k→k≤25→As.names.getD k []≠t):As.named t=0:=by
 unfold As.named
 have e:(List.range 26).find? (fun k=>decide (1≤k) && As.names.getD k [] == t)=none:=by
  rw [List.find?_eq_none]
  intro k hk
  rw [List.mem_range] at hk
  simp only [Bool.and_eq_true,decide_eq_true_eq,beq_iff_eq,not_and]
  intro h1
  exact h k h1 (by omega)
 rw [e]
 rfl

set_option maxHeartbeats 2000000 in
theorem instrNamed_any (t:List UInt8) (w:World) (ht:NTab w) :
  Calls Tryz.prog 112 #[.string (bs t)] w fun e w'=>e = .returned (.int .i64 (As.named t:Nat))∧w'=w:=by
 have HT:=hid ht
 have NA:=hid named_at
 have NN:=hid (named_none t)
 clear ht
 generalize hX:As.named t=X at *
 have HX:=hid hX
 clear hX
 go_enter Tryz.func112,Tryz.ntmps112
 go_wp2
 go_loop [3] (fun i=>∃ k:Nat,1≤k∧k≤26∧i = .int .i64 k∧∀ j,1≤j→j < k→As.names.getD j []≠t) (fun i=>26 - (intOf i).toNat)
 case atStart=>exact ⟨1,Nat.le_refl _,by omega,rfl,fun j h1 h2=>by omega⟩
 case round =>
  obtain ⟨k,hk1,hk2,rfl,hall⟩:=hrel
  have HA:=hid hall
  clear hall
  by_cases hlt:k≤25
  ·have cx:=HT.out k (by omega)
   have NK:=hid (NA.out k hk1 hlt)
   have g1:(1:Int)≤(k:Int):=by omega
   have g2:(k:Int)≤25:=by omega
   generalize hnm:As.names.getD k []=nm at *
   have HNM:=hid hnm
   clear hnm
   by_cases e1:nm=t
   ·have b1:((bs nm).toList == (bs t).toList)=true:=by rw [e1]; simp
    have E:=hid (show X=k by rw [← HX.out,← e1]; exact NK.out)
    clear e1
    go_wp2
    go_ret
    exact ⟨by rw [E.out]; rfl,rfl⟩
   ·have E:=hid e1
    have b1:((bs nm).toList == (bs t).toList)=false:=by rw [toList_bs,toList_bs]; simpa using e1
    clear e1
    go_wp2
    go_round
    case rel=>exact ⟨k+1,by omega,by omega,by go_num,fun j hj hjk=>(Nat.lt_succ_iff_lt_or_eq.1 hjk).elim (fun h=>HA.out j hj h) (fun h=>by subst h; rw [HNM.out]; exact E.out)⟩
    case measure=>simp [intOf]; omega
  ·have g2:(25:Int) < (k:Int):=by omega
   have E:=hid (NN.out (fun j h1 h2=>HA.out j h1 (by omega)))
   go_wp2
   go_ret
   exact ⟨by rw [E.out]; rfl,rfl⟩

set_option maxHeartbeats 2000000 in
theorem mayStand_any (B:Nat) (s:ByteArray) (b g:Nat) (st:As.St) (shape:Nat) (W:World) (h:AsmAt B s b g st W) (h1:1≤shape) (h2:shape≤19) :
  Calls Tryz.prog 110 #[.pointer (some ⟨b,0,none⟩),.int .i64 shape] W fun e W'=>e = .returned (.bool (As.mayStand shape st.sect))∧W'=W:=by
 have c:=cell_sect h
 have cI:=hid (inCode_any B s b g st W h)
 have hs:=h.ok.sect
 clear h
 generalize st.sect=sect at *
 have RS:=hid (show As.mayStand shape sect=if shape≤14 then As.inCode sect else !(shape == 16) || !(sect == 4) from rfl)
 generalize As.mayStand shape sect=X at *
 by_cases h14:shape≤14
 ·have d:decide ((shape:Int)≤14)=true:=by simp; omega
  rw [if_pos h14] at RS
  clear h14
  go_enter Tryz.func110,Tryz.ntmps110
  go_wp2_with fail
  refine cI.out.mono ?_
  rintro e w1 ⟨rfl,rfl⟩
  go_wp2
  go_ret
  exact ⟨by rw [RS.out]; rfl,rfl⟩
 ·have d:decide ((shape:Int)≤14)=false:=by simp; omega
  rw [if_neg h14] at RS
  by_cases h16:shape=16
  ·have d1:((shape:Int) == 16)=true:=by simp; omega
   have d1':((shape:Int) != 16)=false:=by simp; omega
   rw [show (shape == 16)=true by simp [h16]] at RS
   clear h14 h16 h1 h2
   rcases (show sect=1∨sect=2∨sect=3∨sect=4 by omega) with rfl | rfl | rfl | rfl
   all_goals
    go_enter Tryz.func110,Tryz.ntmps110
    go_wp2
    go_ret
    exact ⟨by rw [RS.out]; rfl,rfl⟩
  ·have d1:((shape:Int) == 16)=false:=by simp; omega
   have d1':((shape:Int) != 16)=true:=by simp; omega
   rw [show (shape == 16)=false by simp [h16]] at RS
   clear h14 h16 h1 h2
   go_enter Tryz.func110,Tryz.ntmps110
   go_wp2
   go_ret
   exact ⟨by rw [RS.out]; rfl,rfl⟩

end Go.Proofs.YtnfgdlkiialnnaaGreatDoor

namespace Go.Proofs.YtnfgdlkiialnnaaGreatDoor
open Go.RowKit

set_option maxRecDepth 100000 in
set_option maxHeartbeats 8000000 in
theorem instruction_any (B:Nat) (s:ByteArray) (b g:Nat) (st:As.St) (shape op:Nat) (W:World) (h:AsmAt B s b g st W) (h1:1≤shape) (h2:shape≤14) (ho:shape=1∨shape=2∨shape=8→1≤op∧op≤25) :
  Calls Tryz.prog 111 #[.pointer (some ⟨b,0,none⟩),.int .i64 shape,.int .i64 op] W fun en W'=>en = .returned (.tuple #[])∧Does B s b g W (As.instruction (sl s) shape op st) W':=by
 rcases (show shape=1∨shape=2∨shape=3∨shape=4∨shape=5∨shape=6∨shape=7∨shape=8∨shape=9∨shape=10∨shape=11∨shape=12∨shape=13∨shape=14 by omega) with rfl | rfl | rfl | rfl | rfl | rfl | rfl | rfl | rfl | rfl | rfl | rfl | rfl | rfl
 ·have c:=hid (threeRegs_any B s b g st op W h (ho (by omega)).1 (ho (by omega)).2)
  have RS:=hid (show As.instruction (sl s) 1 op st=As.threeRegs (sl s) op st from by unfold As.instruction; rw [if_pos rfl])
  generalize As.instruction (sl s) 1 op st=X at *
  clear h ho h1 h2
  go_enter Tryz.func111,Tryz.ntmps111
  go_wp2_with fail
  refine c.out.mono ?_
  rintro e VF ⟨rfl,hh⟩
  have DF:=hid hh
  clear hh c
  go_wp2
  go_end0
  rw [RS.out]
  exact ⟨rfl,DF.out⟩
 ·have c:=hid (twoRegsNum_any B s b g st op W h (ho (by omega)).1 (ho (by omega)).2)
  have RS:=hid (show As.instruction (sl s) 2 op st=As.twoRegsNum (sl s) op st from by unfold As.instruction; rw [if_neg (by decide),if_pos rfl])
  generalize As.instruction (sl s) 2 op st=X at *
  clear h ho h1 h2
  go_enter Tryz.func111,Tryz.ntmps111
  go_wp2_with fail
  refine c.out.mono ?_
  rintro e VF ⟨rfl,hh⟩
  have DF:=hid hh
  clear hh c
  go_wp2
  go_end0
  rw [RS.out]
  exact ⟨rfl,DF.out⟩
 ·have c:=hid (upper_any B s b g st W h)
  have RS:=hid (show As.instruction (sl s) 3 op st=As.upper (sl s) st from by unfold As.instruction; rw [if_neg (by decide),if_neg (by decide),if_pos rfl])
  generalize As.instruction (sl s) 3 op st=X at *
  clear h ho h1 h2
  go_enter Tryz.func111,Tryz.ntmps111
  go_wp2_with fail
  refine c.out.mono ?_
  rintro e VF ⟨rfl,hh⟩
  have DF:=hid hh
  clear hh c
  go_wp2
  go_end0
  rw [RS.out]
  exact ⟨rfl,DF.out⟩
 ·have c:=hid (load_any B s b g st W h)
  have RS:=hid (show As.instruction (sl s) 4 op st=As.load (sl s) st from by unfold As.instruction; rw [if_neg (by decide),if_neg (by decide),if_neg (by decide),if_pos rfl])
  generalize As.instruction (sl s) 4 op st=X at *
  clear h ho h1 h2
  go_enter Tryz.func111,Tryz.ntmps111
  go_wp2_with fail
  refine c.out.mono ?_
  rintro e VF ⟨rfl,hh⟩
  have DF:=hid hh
  clear hh c
  go_wp2
  go_end0
  rw [RS.out]
  exact ⟨rfl,DF.out⟩
 ·have c:=hid (store_any B s b g st W h)
  have RS:=hid (show As.instruction (sl s) 5 op st=As.store (sl s) st from by unfold As.instruction; rw [if_neg (by decide),if_neg (by decide),if_neg (by decide),if_neg (by decide),if_pos rfl])
  generalize As.instruction (sl s) 5 op st=X at *
  clear h ho h1 h2
  go_enter Tryz.func111,Tryz.ntmps111
  go_wp2_with fail
  refine c.out.mono ?_
  rintro e VF ⟨rfl,hh⟩
  have DF:=hid hh
  clear hh c
  go_wp2
  go_end0
  rw [RS.out]
  exact ⟨rfl,DF.out⟩
 ·have c:=hid (jumpRegister_any B s b g st W h)
  have RS:=hid (show As.instruction (sl s) 6 op st=As.jumpRegister (sl s) st from by unfold As.instruction; rw [if_neg (by decide),if_neg (by decide),if_neg (by decide),if_neg (by decide),if_neg (by decide),if_pos rfl])
  generalize As.instruction (sl s) 6 op st=X at *
  clear h ho h1 h2
  go_enter Tryz.func111,Tryz.ntmps111
  go_wp2_with fail
  refine c.out.mono ?_
  rintro e VF ⟨rfl,hh⟩
  have DF:=hid hh
  clear hh c
  go_wp2
  go_end0
  rw [RS.out]
  exact ⟨rfl,DF.out⟩
 ·have c:=hid (bare_any B s b g st W h)
  have RS:=hid (show As.instruction (sl s) 7 op st=As.bare st from by unfold As.instruction; rw [if_neg (by decide),if_neg (by decide),if_neg (by decide),if_neg (by decide),if_neg (by decide),if_neg (by decide),if_pos rfl])
  generalize As.instruction (sl s) 7 op st=X at *
  clear h ho h1 h2
  go_enter Tryz.func111,Tryz.ntmps111
  go_wp2_with fail
  refine c.out.mono ?_
  rintro e VF ⟨rfl,hh⟩
  have DF:=hid hh
  clear hh c
  go_wp2
  go_end0
  rw [RS.out]
  exact ⟨rfl,DF.out⟩
 ·have c:=hid (branch_any B s b g st op W h (ho (by omega)).1 (ho (by omega)).2)
  have RS:=hid (show As.instruction (sl s) 8 op st=As.branch (sl s) op st from by unfold As.instruction; rw [if_neg (by decide),if_neg (by decide),if_neg (by decide),if_neg (by decide),if_neg (by decide),if_neg (by decide),if_neg (by decide),if_pos rfl])
  generalize As.instruction (sl s) 8 op st=X at *
  clear h ho h1 h2
  go_enter Tryz.func111,Tryz.ntmps111
  go_wp2_with fail
  refine c.out.mono ?_
  rintro e VF ⟨rfl,hh⟩
  have DF:=hid hh
  clear hh c
  go_wp2
  go_end0
  rw [RS.out]
  exact ⟨rfl,DF.out⟩
 ·have c:=hid (jumpLink_any B s b g st W h)
  have RS:=hid (show As.instruction (sl s) 9 op st=As.jumpLink (sl s) st from by unfold As.instruction; rw [if_neg (by decide),if_neg (by decide),if_neg (by decide),if_neg (by decide),if_neg (by decide),if_neg (by decide),if_neg (by decide),if_neg (by decide),if_pos rfl])
  generalize As.instruction (sl s) 9 op st=X at *
  clear h ho h1 h2
  go_enter Tryz.func111,Tryz.ntmps111
  go_wp2_with fail
  refine c.out.mono ?_
  rintro e VF ⟨rfl,hh⟩
  have DF:=hid hh
  clear hh c
  go_wp2
  go_end0
  rw [RS.out]
  exact ⟨rfl,DF.out⟩
 ·have c:=hid (jump_any B s b g st W h)
  have RS:=hid (show As.instruction (sl s) 10 op st=As.layJump (sl s) 0 st from by unfold As.instruction; rw [if_neg (by decide),if_neg (by decide),if_neg (by decide),if_neg (by decide),if_neg (by decide),if_neg (by decide),if_neg (by decide),if_neg (by decide),if_neg (by decide),if_pos rfl])
  generalize As.instruction (sl s) 10 op st=X at *
  clear h ho h1 h2
  go_enter Tryz.func111,Tryz.ntmps111
  go_wp2_with fail
  refine c.out.mono ?_
  rintro e VF ⟨rfl,hh⟩
  have DF:=hid hh
  clear hh c
  go_wp2
  go_end0
  rw [RS.out]
  exact ⟨rfl,DF.out⟩
 ·have c:=hid (move_any B s b g st W h)
  have RS:=hid (show As.instruction (sl s) 11 op st=As.move (sl s) st from by unfold As.instruction; rw [if_neg (by decide),if_neg (by decide),if_neg (by decide),if_neg (by decide),if_neg (by decide),if_neg (by decide),if_neg (by decide),if_neg (by decide),if_neg (by decide),if_neg (by decide),if_pos rfl])
  generalize As.instruction (sl s) 11 op st=X at *
  clear h ho h1 h2
  go_enter Tryz.func111,Tryz.ntmps111
  go_wp2_with fail
  refine c.out.mono ?_
  rintro e VF ⟨rfl,hh⟩
  have DF:=hid hh
  clear hh c
  go_wp2
  go_end0
  rw [RS.out]
  exact ⟨rfl,DF.out⟩
 ·have c:=hid (loadNumber_any B s b g st W h)
  have RS:=hid (show As.instruction (sl s) 12 op st=As.loadNumber (sl s) st from by unfold As.instruction; rw [if_neg (by decide),if_neg (by decide),if_neg (by decide),if_neg (by decide),if_neg (by decide),if_neg (by decide),if_neg (by decide),if_neg (by decide),if_neg (by decide),if_neg (by decide),if_neg (by decide),if_pos rfl])
  generalize As.instruction (sl s) 12 op st=X at *
  clear h ho h1 h2
  go_enter Tryz.func111,Tryz.ntmps111
  go_wp2_with fail
  refine c.out.mono ?_
  rintro e VF ⟨rfl,hh⟩
  have DF:=hid hh
  clear hh c
  go_wp2
  go_end0
  rw [RS.out]
  exact ⟨rfl,DF.out⟩
 ·have c:=hid (call_any B s b g st W h)
  have RS:=hid (show As.instruction (sl s) 13 op st=As.call (sl s) st from by unfold As.instruction; rw [if_neg (by decide),if_neg (by decide),if_neg (by decide),if_neg (by decide),if_neg (by decide),if_neg (by decide),if_neg (by decide),if_neg (by decide),if_neg (by decide),if_neg (by decide),if_neg (by decide),if_neg (by decide),if_pos rfl])
  generalize As.instruction (sl s) 13 op st=X at *
  clear h ho h1 h2
  go_enter Tryz.func111,Tryz.ntmps111
  go_wp2_with fail
  refine c.out.mono ?_
  rintro e VF ⟨rfl,hh⟩
  have DF:=hid hh
  clear hh c
  go_wp2
  go_end0
  rw [RS.out]
  exact ⟨rfl,DF.out⟩
 ·have c:=hid (loadAddress_any B s b g st W h)
  have RS:=hid (show As.instruction (sl s) 14 op st=As.loadAddress (sl s) st from by unfold As.instruction; rw [if_neg (by decide),if_neg (by decide),if_neg (by decide),if_neg (by decide),if_neg (by decide),if_neg (by decide),if_neg (by decide),if_neg (by decide),if_neg (by decide),if_neg (by decide),if_neg (by decide),if_neg (by decide),if_neg (by decide),if_pos rfl])
  generalize As.instruction (sl s) 14 op st=X at *
  clear h ho h1 h2
  go_enter Tryz.func111,Tryz.ntmps111
  go_wp2_with fail
  refine c.out.mono ?_
  rintro e VF ⟨rfl,hh⟩
  have DF:=hid hh
  clear hh c
  go_wp2
  go_end0
  rw [RS.out]
  exact ⟨rfl,DF.out⟩

set_option maxRecDepth 100000 in
set_option maxHeartbeats 8000000 in
theorem directive_any (B:Nat) (s:ByteArray) (b g:Nat) (st:As.St) (shape:Nat) (W:World) (h:AsmAt B s b g st W) (h1:15≤shape) (h2:shape≤19) :
  Calls Tryz.prog 113 #[.pointer (some ⟨b,0,none⟩),.int .i64 shape] W fun en W'=>en = .returned (.tuple #[])∧Does B s b g W (As.directive (sl s) shape st) W':=by
 rcases (show shape=15∨shape=16∨shape=17∨shape=18∨shape=19 by omega) with rfl | rfl | rfl | rfl | rfl
 ·have HW:=hid h
  have c:=hid (section_any B s b g st W h)
  have RS:=hid (show As.directive (sl s) 15 st=As.section' st from rfl)
  generalize As.directive (sl s) 15 st=X at *
  clear h h1 h2
  go_enter Tryz.func113,Tryz.ntmps113
  go_wp2_with fail
  refine c.out.mono ?_
  rintro e VF ⟨rfl,hh⟩
  have DF:=hid (hh.does HW.out)
  clear hh c
  go_wp2
  go_end0
  rw [RS.out]
  exact ⟨rfl,DF.out⟩
 ·have HW:=hid h
  have c:=hid (word_any B s b g st W h)
  have RS:=hid (show As.directive (sl s) 16 st=As.word (sl s) st from rfl)
  generalize As.directive (sl s) 16 st=X at *
  clear h h1 h2
  go_enter Tryz.func113,Tryz.ntmps113
  go_wp2_with fail
  refine c.out.mono ?_
  rintro e VF ⟨rfl,hh⟩
  have DF:=hid hh
  clear hh c
  go_wp2
  go_end0
  rw [RS.out]
  exact ⟨rfl,DF.out⟩
 ·have HW:=hid h
  have c:=hid (space_any B s b g st W h)
  have RS:=hid (show As.directive (sl s) 17 st=As.space (sl s) st from rfl)
  generalize As.directive (sl s) 17 st=X at *
  clear h h1 h2
  go_enter Tryz.func113,Tryz.ntmps113
  go_wp2_with fail
  refine c.out.mono ?_
  rintro e VF ⟨rfl,hh⟩
  have DF:=hid hh
  clear hh c
  go_wp2
  go_end0
  rw [RS.out]
  exact ⟨rfl,DF.out⟩
 ·have HW:=hid h
  have c:=hid (align_any B s b g st W h)
  have RS:=hid (show As.directive (sl s) 18 st=As.align (sl s) st from rfl)
  generalize As.directive (sl s) 18 st=X at *
  clear h h1 h2
  go_enter Tryz.func113,Tryz.ntmps113
  go_wp2_with fail
  refine c.out.mono ?_
  rintro e VF ⟨rfl,hh⟩
  have DF:=hid hh
  clear hh c
  go_wp2
  go_end0
  rw [RS.out]
  exact ⟨rfl,DF.out⟩
 ·have HW:=hid h
  have c:=hid (binding_any B s b g st W h)
  have RS:=hid (show As.directive (sl s) 19 st=As.binding (sl s) st from rfl)
  generalize As.directive (sl s) 19 st=X at *
  clear h h1 h2
  go_enter Tryz.func113,Tryz.ntmps113
  go_wp2_with fail
  refine c.out.mono ?_
  rintro e VF ⟨rfl,hh⟩
  have DF:=hid hh
  clear hh c
  go_wp2
  go_end0
  rw [RS.out]
  exact ⟨rfl,DF.out⟩

end Go.Proofs.YtnfgdlkiialnnaaGreatDoor

namespace Go.Proofs.YtnfgdlkiialnnaaGreatDoor
open Go.RowKit

theorem dirShape_range (t:List UInt8):As.dirShape t=0∨(15≤As.dirShape t∧As.dirShape t≤19):=by
 unfold As.dirShape
 repeat' split
 all_goals omega
theorem shape_range (t:List UInt8):As.shapeOf t≤19:=by
 have hd:=dirShape_range t
 unfold As.shapeOf
 by_cases h:t=[97,100,100]
 ·rw [if_pos h]; omega
 rw [if_neg h]
 clear h
 by_cases h:t=[115,117,98]
 ·rw [if_pos h]; omega
 rw [if_neg h]
 clear h
 by_cases h:t=[115,108,116]
 ·rw [if_pos h]; omega
 rw [if_neg h]
 clear h
 by_cases h:t=[115,108,116,117]
 ·rw [if_pos h]; omega
 rw [if_neg h]
 clear h
 by_cases h:t=[120,111,114]
 ·rw [if_pos h]; omega
 rw [if_neg h]
 clear h
 by_cases h:t=[111,114]
 ·rw [if_pos h]; omega
 rw [if_neg h]
 clear h
 by_cases h:t=[97,110,100]
 ·rw [if_pos h]; omega
 rw [if_neg h]
 clear h
 by_cases h:t=[97,100,100,105]
 ·rw [if_pos h]; omega
 rw [if_neg h]
 clear h
 by_cases h:t=[115,108,116,105]
 ·rw [if_pos h]; omega
 rw [if_neg h]
 clear h
 by_cases h:t=[120,111,114,105]
 ·rw [if_pos h]; omega
 rw [if_neg h]
 clear h
 by_cases h:t=[111,114,105]
 ·rw [if_pos h]; omega
 rw [if_neg h]
 clear h
 by_cases h:t=[97,110,100,105]
 ·rw [if_pos h]; omega
 rw [if_neg h]
 clear h
 by_cases h:t=[108,117,105]
 ·rw [if_pos h]; omega
 rw [if_neg h]
 clear h
 by_cases h:t=[108,119]
 ·rw [if_pos h]; omega
 rw [if_neg h]
 clear h
 by_cases h:t=[115,119]
 ·rw [if_pos h]; omega
 rw [if_neg h]
 clear h
 by_cases h:t=[106,97,108,114]
 ·rw [if_pos h]; omega
 rw [if_neg h]
 clear h
 by_cases h:t=[101,99,97,108,108]
 ·rw [if_pos h]; omega
 rw [if_neg h]
 clear h
 by_cases h:t=[114,101,116]
 ·rw [if_pos h]; omega
 rw [if_neg h]
 clear h
 by_cases h:t=[110,111,112]
 ·rw [if_pos h]; omega
 rw [if_neg h]
 clear h
 by_cases h:t=[98,101,113]
 ·rw [if_pos h]; omega
 rw [if_neg h]
 clear h
 by_cases h:t=[98,110,101]
 ·rw [if_pos h]; omega
 rw [if_neg h]
 clear h
 by_cases h:t=[98,108,116]
 ·rw [if_pos h]; omega
 rw [if_neg h]
 clear h
 by_cases h:t=[98,103,101]
 ·rw [if_pos h]; omega
 rw [if_neg h]
 clear h
 by_cases h:t=[98,108,116,117]
 ·rw [if_pos h]; omega
 rw [if_neg h]
 clear h
 by_cases h:t=[98,103,101,117]
 ·rw [if_pos h]; omega
 rw [if_neg h]
 clear h
 by_cases h:t=[106,97,108]
 ·rw [if_pos h]; omega
 rw [if_neg h]
 clear h
 by_cases h:t=[106]
 ·rw [if_pos h]; omega
 rw [if_neg h]
 clear h
 by_cases h:t=[109,118]
 ·rw [if_pos h]; omega
 rw [if_neg h]
 clear h
 by_cases h:t=[108,105]
 ·rw [if_pos h]; omega
 rw [if_neg h]
 clear h
 by_cases h:t=[99,97,108,108]
 ·rw [if_pos h]; omega
 rw [if_neg h]
 clear h
 by_cases h:t=[116,97,105,108]
 ·rw [if_pos h]; omega
 rw [if_neg h]
 clear h
 by_cases h:t=[108,97]
 ·rw [if_pos h]; omega
 rw [if_neg h]
 clear h
 omega
theorem shape_named (t:List UInt8) (hh:As.shapeOf t=1∨As.shapeOf t=2∨As.shapeOf t=8):1≤As.named t∧As.named t≤25:=by
 have hd:=dirShape_range t
 generalize hx:As.shapeOf t=x at *
 unfold As.shapeOf at hx
 by_cases h:t=[97,100,100]
 ·subst h; decide
 rw [if_neg h] at hx
 clear h
 by_cases h:t=[115,117,98]
 ·subst h; decide
 rw [if_neg h] at hx
 clear h
 by_cases h:t=[115,108,116]
 ·subst h; decide
 rw [if_neg h] at hx
 clear h
 by_cases h:t=[115,108,116,117]
 ·subst h; decide
 rw [if_neg h] at hx
 clear h
 by_cases h:t=[120,111,114]
 ·subst h; decide
 rw [if_neg h] at hx
 clear h
 by_cases h:t=[111,114]
 ·subst h; decide
 rw [if_neg h] at hx
 clear h
 by_cases h:t=[97,110,100]
 ·subst h; decide
 rw [if_neg h] at hx
 clear h
 by_cases h:t=[97,100,100,105]
 ·subst h; decide
 rw [if_neg h] at hx
 clear h
 by_cases h:t=[115,108,116,105]
 ·subst h; decide
 rw [if_neg h] at hx
 clear h
 by_cases h:t=[120,111,114,105]
 ·subst h; decide
 rw [if_neg h] at hx
 clear h
 by_cases h:t=[111,114,105]
 ·subst h; decide
 rw [if_neg h] at hx
 clear h
 by_cases h:t=[97,110,100,105]
 ·subst h; decide
 rw [if_neg h] at hx
 clear h
 by_cases h:t=[108,117,105]
 ·rw [if_pos h] at hx; omega
 rw [if_neg h] at hx
 clear h
 by_cases h:t=[108,119]
 ·rw [if_pos h] at hx; omega
 rw [if_neg h] at hx
 clear h
 by_cases h:t=[115,119]
 ·rw [if_pos h] at hx; omega
 rw [if_neg h] at hx
 clear h
 by_cases h:t=[106,97,108,114]
 ·rw [if_pos h] at hx; omega
 rw [if_neg h] at hx
 clear h
 by_cases h:t=[101,99,97,108,108]
 ·rw [if_pos h] at hx; omega
 rw [if_neg h] at hx
 clear h
 by_cases h:t=[114,101,116]
 ·rw [if_pos h] at hx; omega
 rw [if_neg h] at hx
 clear h
 by_cases h:t=[110,111,112]
 ·rw [if_pos h] at hx; omega
 rw [if_neg h] at hx
 clear h
 by_cases h:t=[98,101,113]
 ·subst h; decide
 rw [if_neg h] at hx
 clear h
 by_cases h:t=[98,110,101]
 ·subst h; decide
 rw [if_neg h] at hx
 clear h
 by_cases h:t=[98,108,116]
 ·subst h; decide
 rw [if_neg h] at hx
 clear h
 by_cases h:t=[98,103,101]
 ·subst h; decide
 rw [if_neg h] at hx
 clear h
 by_cases h:t=[98,108,116,117]
 ·subst h; decide
 rw [if_neg h] at hx
 clear h
 by_cases h:t=[98,103,101,117]
 ·subst h; decide
 rw [if_neg h] at hx
 clear h
 by_cases h:t=[106,97,108]
 ·rw [if_pos h] at hx; omega
 rw [if_neg h] at hx
 clear h
 by_cases h:t=[106]
 ·rw [if_pos h] at hx; omega
 rw [if_neg h] at hx
 clear h
 by_cases h:t=[109,118]
 ·rw [if_pos h] at hx; omega
 rw [if_neg h] at hx
 clear h
 by_cases h:t=[108,105]
 ·rw [if_pos h] at hx; omega
 rw [if_neg h] at hx
 clear h
 by_cases h:t=[99,97,108,108]
 ·rw [if_pos h] at hx; omega
 rw [if_neg h] at hx
 clear h
 by_cases h:t=[116,97,105,108]
 ·rw [if_pos h] at hx; omega
 rw [if_neg h] at hx
 clear h
 by_cases h:t=[108,97]
 ·rw [if_pos h] at hx; omega
 rw [if_neg h] at hx
 clear h
 omega

theorem StOk.op' {s:ByteArray} {st:As.St} (h:StOk s st) (t:As.Tok) (ht:TokOk t):StOk s { st with op:=t } :=
 ⟨h.size,h.p,h.tok,h.fe,h.fa,ht,h.sect,h.text,h.far,h.data,h.bss,h.align,h.syms,h.rels⟩

set_option maxRecDepth 100000 in
set_option maxHeartbeats 8000000 in
theorem operation_any (B:Nat) (s:ByteArray) (b g:Nat) (st:As.St) (t:As.Tok) (W:World) (h:AsmAt B s b g st W) (ht:TokOk t) (hN:NTab W) :
  Calls Tryz.prog 77 #[.pointer (some ⟨b,0,none⟩),tokA t] W fun en W'=>en = .returned (.tuple #[])∧Does B s b g W (As.operation (sl s) t st) W':=by
 have HW:=hid h
 have HN:=hid hN
 have HT:=hid ht
 have L0:=hid ((Loc.begin h).alloc (tokCs t) 83)
 have hbl:=h.blk.lt
 clear h ht hN
 have RS:=hid (show As.operation (sl s) t st=if As.shapeOf t.text=0 then As.refuse 6 t.pos st else if !As.mayStand (As.shapeOf t.text) st.sect then As.refuse 9 t.pos st else if As.shapeOf t.text≤14 then As.instruction (sl s) (As.shapeOf t.text) (As.named t.text) { st with op:=t } else As.directive (sl s) (As.shapeOf t.text) { st with op:=t } from rfl)
 have cS:=hid (fun V=>shapeOf_any t.text V)
 have hs19:=shape_range t.text
 have SN:=hid (shape_named t.text)
 generalize As.operation (sl s) t st=X at *
 generalize As.shapeOf t.text=shape at *
 unfold tokA
 go_enter Tryz.func77,Tryz.ntmps77
 go_wp2_with fail
 refine Calls.at_world (Loc B s b g W [(W.heap.size,tokCs t,83)] st) L0.out ?_
 clear L0
 generalize hr:W.heap.size=r at *
 clear hr
 intro V hV
 have L:=hid hV
 clear hV
 refine (cS.out V).mono ?_
 rintro e w1 ⟨rfl,rfl⟩
 clear cS
 obtain ⟨m0,m1,m2,m3⟩:=(⟨L.out.d,L.out.l (r,tokCs t,83) (by simp)⟩:LocB B s b g W r t st w1).cells
 have D:=hid (L.out.d.does HW.out)
 by_cases h0:shape=0
 ·have d:((shape:Int) == 0)=true:=by simp; omega
  rw [if_pos h0] at RS
  clear h0
  go_wp2_with fail
  refine (refuse_any B s b g st 6 t.pos w1 D.out.1 (by omega) HT.out.pos).mono ?_
  rintro e V3 ⟨rfl,h3⟩
  have D3:=hid (D.out.afterB h3)
  clear h3
  go_wp2
  (try simp only [Exit.inBlock,Exit.then]); refine bodyPost_ret (results_none rfl _ _ _) rfl ?_
  rw [RS.out]
  exact ⟨rfl,D3.out⟩
 have d:((shape:Int) == 0)=false:=by simp; omega
 rw [if_neg h0] at RS
 go_wp2_with fail
 refine (mayStand_any B s b g st shape w1 D.out.1 (by omega) hs19).mono ?_
 rintro e w2 ⟨rfl,rfl⟩
 cases hm:As.mayStand shape st.sect
 ·rw [hm,if_pos (show (!false)=true from rfl)] at RS
  clear hm
  go_wp2_with fail
  refine (refuse_any B s b g st 9 t.pos w2 D.out.1 (by omega) HT.out.pos).mono ?_
  rintro e V3 ⟨rfl,h3⟩
  have D3:=hid (D.out.afterB h3)
  clear h3
  go_wp2
  (try simp only [Exit.inBlock,Exit.then]); refine bodyPost_ret (results_none rfl _ _ _) rfl ?_
  rw [RS.out]
  exact ⟨rfl,D3.out⟩
 rw [hm,if_neg (by simp)] at RS
 clear hm
 have k9:=D.out.1.blk.free 9
 have k10:=D.out.1.blk.free 10
 have k11:=D.out.1.blk.free 11
 have k12:=D.out.1.blk.free 12
 have c9:=asm_cell D.out.1 9
 have c10:=asm_cell D.out.1 10
 have c11:=asm_cell D.out.1 11
 have c12:=asm_cell D.out.1 12
 simp only [asmCells,List.getElem?_toArray,List.getElem?_cons_succ,List.getElem?_cons_zero] at c9 c10 c11 c12
 have hrb:r≠b:=(⟨L.out.d,L.out.l (r,tokCs t,83) (by simp)⟩:LocB B s b g W r t st w2).ne
 have hbr:b≠r:=fun e=>hrb e.symm
 have P:=hid (L.out.d.sets [(9,.int .i64 t.kind),(10,.int .i64 t.pos),(11,.string (bs t.text)),(12,.int .i64 t.n)] { st with op:=t }
  (by simp only [setsA,asmCells,List.foldl_cons,List.foldl_nil,List.setIfInBounds_toArray,List.set_cons_succ,List.set_cons_zero]) rfl (D.out.1.ok.op' t HT.out))
 by_cases h14:shape≤14
 ·have d2:decide ((shape:Int)≤14)=true:=by simp; omega
  rw [if_pos h14] at RS
  have cI:=hid (fun V hV=>instruction_any B s b g { st with op:=t } shape (As.named t.text) V hV (by omega) h14 SN.out)
  have cN:=hid (fun V (hV:NTab V)=>instrNamed_any t.text V hV)
  clear h14
  go_wp2_with fail
  have PD:=hid (P.out.does HW.out)
  refine (cN.out _ (HN.out.below PD.out.2.1 PD.out.1.lo.1)).mono ?_
  rintro e w3 ⟨rfl,hw3⟩
  have PD3:Hid (Does B s b g W { st with op:=t } w3):=by rw [hw3]; exact PD.out
  clear hw3 PD cN m0 m1 m2 m3 c9 c10 c11 c12 k9 k10 k11 k12
  go_wp2_with fail
  refine (cI.out w3 PD3.out.1).mono ?_
  rintro e VF ⟨rfl,hh⟩
  have DF:=hid (PD3.out.after hh)
  clear hh
  go_wp2
  first | go_end0 | ((try simp only [Exit.inBlock,Exit.then]); refine bodyPost_ret (results_none rfl _ _ _) rfl ?_)
  rw [RS.out]
  exact ⟨rfl,DF.out⟩
 ·have d2:decide ((shape:Int)≤14)=false:=by simp; omega
  rw [if_neg h14] at RS
  have cI:=hid (fun V hV=>directive_any B s b g { st with op:=t } shape V hV (by omega) hs19)
  clear h14
  go_wp2_with fail
  have PD:=hid (P.out.does HW.out)
  refine (cI.out _ PD.out.1).mono ?_
  rintro e VF ⟨rfl,hh⟩
  have DF:=hid (PD.out.after hh)
  clear hh
  go_wp2
  first | go_end0 | ((try simp only [Exit.inBlock,Exit.then]); refine bodyPost_ret (results_none rfl _ _ _) rfl ?_)
  rw [RS.out]
  exact ⟨rfl,DF.out⟩

end Go.Proofs.YtnfgdlkiialnnaaGreatDoor

namespace Go.Proofs.YtnfgdlkiialnnaaGreatDoor
open Go.RowKit

/-- beside the assembler a token in block r, through whatever it does -/
structure LocA (B:Nat) (s:ByteArray) (b g:Nat) (W:World) (r:Nat) (t:As.Tok) (st:As.St) (V:World):Prop where
 d:Does B s b g W st V
 l:BlkAt V r (tokCs t) 83
 new:W.heap.size≤r
 lt:B≤W.heap.size
section
variable {B:Nat} {s:ByteArray} {b g r:Nat} {W V V':World} {t:As.Tok} {st st':As.St}
theorem LocA.step (h:LocA B s b g W r t st V) (k:Does B s b g V st' V'):LocA B s b g W r t st' V' :=
 ⟨h.d.after k,k.2.2 r _ _ (by decide) (by decide) (by decide) (by decide) (by decide) h.l,h.new,h.lt⟩
theorem LocA.stepB (h:LocA B s b g W r t st V) (k:DoesB B s b g V st' V'):LocA B s b g W r t st' V':=h.step (k.does h.d.1)
theorem LocA.grown (h:LocA B s b g W r t st V) (k:V.grownBy V' none):LocA B s b g W r t st V':=⟨h.d.grown k,h.l.grown k (by simp),h.new,h.lt⟩
theorem LocA.begin (h:Does B s b g W st V) (hB:B≤W.heap.size) (t:As.Tok):LocA B s b g W V.heap.size t st (V.alloc (.cells (tokCs t) 83)) :=
 ⟨h.alloc _,BlkAt.new V _ _,h.2.1.size,hB⟩
theorem LocA.put (h:LocA B s b g W r t st V) (t':As.Tok):LocA B s b g W r t' st (sets V r [(0,.int .i64 t'.kind),(1,.int .i64 t'.pos),(2,.string (bs t'.text)),(3,.int .i64 t'.n)]) :=
 ⟨h.d.local h.l (by unfold LocT; decide) h.lt h.new _,by
  have:=sets_blk [(0,.int .i64 t'.kind),(1,.int .i64 t'.pos),(2,.string (bs t'.text)),(3,.int .i64 t'.n)] h.l
  simpa only [tokCs,setsA,List.foldl_cons,List.foldl_nil,List.setIfInBounds_toArray,List.set_cons_succ,List.set_cons_zero] using this,h.new,h.lt⟩
theorem LocA.cells (h:LocA B s b g W r t st V):V.cell? ⟨r,0,none⟩=some (.int .i64 t.kind)∧V.cell? ⟨r,1,none⟩=some (.int .i64 t.pos)∧V.cell? ⟨r,2,none⟩=some (.string (bs t.text))∧V.cell? ⟨r,3,none⟩=some (.int .i64 t.n):=by
 have c0:=h.l.cell 0
 have c1:=h.l.cell 1
 have c2:=h.l.cell 2
 have c3:=h.l.cell 3
 simp only [tokCs,List.getElem?_toArray,List.getElem?_cons_succ,List.getElem?_cons_zero] at c0 c1 c2 c3
 exact ⟨c0,c1,c2,c3⟩
end

theorem takeWord_tok (s:List UInt8) (st:As.St) (h:TokOk st.tok):TokOk (As.takeWord s st).1:=by
 unfold As.takeWord
 split
 ·exact h
 ·exact tokNil_ok

def endLine (st:As.St):As.St:=if st.tok.kind == 4 then st else As.refuse 3 st.tok.pos st
theorem lineOp_no (s:List UInt8) (t:As.Tok) (st:As.St) (h:(t.kind == 1)=false):As.lineOp s t st=endLine st:=by unfold As.lineOp endLine; rw [h]; rfl
theorem lineOp_yes (s:List UInt8) (t:As.Tok) (st:As.St) (h:(t.kind == 1)=true):As.lineOp s t st=endLine (As.operation s t st):=by unfold As.lineOp endLine; rw [h]; rfl
theorem endLine_no (st:As.St) (h:(st.tok.kind == 4)=false):endLine st=As.refuse 3 st.tok.pos st:=by unfold endLine; rw [h]; rfl
theorem endLine_yes (st:As.St) (h:(st.tok.kind == 4)=true):endLine st=st:=by unfold endLine; rw [h]; rfl

set_option maxRecDepth 100000 in
set_option maxHeartbeats 8000000 in
theorem line_any (B:Nat) (s:ByteArray) (b g:Nat) (st:As.St) (W:World) (h:AsmAt B s b g st W) (hN:NTab W) :
  Calls Tryz.prog 47 #[.pointer (some ⟨b,0,none⟩)] W fun en W'=>en = .returned (.tuple #[])∧Does B s b g W (As.line (sl s) st) W':=by
 have HW:=hid h
 have HN:=hid hN
 have cA:=hid (advance_any B s b g st W h)
 have HB:=hid h.size
 clear h hN
 obtain ⟨X,hX⟩:∃ X,X=As.line (sl s) st:=⟨_,rfl⟩
 rw [← hX]
 unfold As.line at hX
 dsimp only at hX
 have RS:=hid hX
 clear hX
 go_enter Tryz.func47,Tryz.ntmps47
 go_wp2_with fail
 refine cA.out.mono ?_
 rintro e V1 ⟨rfl,h1⟩
 have D1:=hid (h1.does HW.out)
 clear h1 cA
 generalize As.advance (sl s) st=st1 at *
 have TW:=hid (takeWord_tok (sl s) st1 D1.out.1.ok.tok)
 go_wp2_with fail
 refine (takeWord_any B s b g st1 V1 D1.out.1).mono ?_
 rintro e V2 ⟨rfl,h2⟩
 have D2:=hid (D1.out.afterB h2)
 clear h2 D1
 generalize As.takeWord (sl s) st1=R at *
 obtain ⟨t,st2⟩:=R
 dsimp only at RS D2 TW ⊢
 have L0:=hid (LocA.begin D2.out HB.out t)
 have hbl:b < V2.heap.size:=D2.out.1.blk.lt
 have hbn:b≠V2.heap.size:=by omega
 obtain ⟨c2,c3,c4,c5⟩:=cell_b D2.out.1
 clear D2
 unfold tokA
 cases hk:(t.kind == 1)
 ·have d:((t.kind:Int) == 1)=false:=by simp at hk ⊢; omega
  rw [hk,Bool.false_and,if_neg (by simp)] at RS
  rw [lineOp_no _ _ _ hk] at RS
  clear hk
  have hpos:=L0.out.d.1.ok.tok.pos
  cases h4:(st2.tok.kind == 4)
  ·have e1:((st2.tok.kind:Int) == 4)=false:=by simp at h4 ⊢; omega
   have e2:((st2.tok.kind:Int) != 4)=true:=by simp at h4 ⊢; omega
   rw [endLine_no _ h4] at RS
   clear h4
   go_wp2_with fail
   refine (refuse_any B s b g st2 3 st2.tok.pos _ L0.out.d.1 (by omega) hpos).mono ?_
   rintro e VF ⟨rfl,hh⟩
   have DF:=hid (L0.out.d.afterB hh)
   clear hh
   go_wp2
   go_end0
   rw [RS.out]
   exact ⟨rfl,DF.out⟩
  ·have e1:((st2.tok.kind:Int) == 4)=true:=by simp at h4 ⊢; omega
   have e2:((st2.tok.kind:Int) != 4)=false:=by simp at h4 ⊢; omega
   rw [endLine_yes _ h4] at RS
   clear h4
   go_wp2
   go_end0
   rw [RS.out]
   exact ⟨rfl,L0.out.d⟩
 ·have d:((t.kind:Int) == 1)=true:=by simp at hk ⊢; omega
  rw [hk,Bool.true_and] at RS
  have HK:=hid hk
  clear hk
  go_wp2_with fail
  refine (tokIs_any st2.tok [58] _).mono ?_
  rintro e V3 ⟨rfl,hg⟩
  have L1:=hid (L0.out.grown hg)
  clear hg L0 c2 c3 c4 c5
  generalize V2.heap.size=r at *
  obtain ⟨m0,m1,m2,m3⟩:=L1.out.cells
  cases hc:st2.tok.is [58]
  ·rw [hc,if_neg (by simp)] at RS
   rw [lineOp_yes _ _ _ HK.out] at RS
   clear hc
   go_wp2_with fail
   refine (operation_any B s b g st2 t _ L1.out.d.1 TW.out (HN.out.below L1.out.d.2.1 L1.out.d.1.lo.1)).mono ?_
   rintro e V7 ⟨rfl,hh⟩
   have L7:=hid (L1.out.step hh)
   clear hh
   generalize As.operation (sl s) t st2=st7 at *
   clear m0 m1 m2 m3
   obtain ⟨b2,b3,b4,b5⟩:=cell_b L7.out.d.1

   have hpos:=L7.out.d.1.ok.tok.pos
   cases h4:(st7.tok.kind == 4)
   ·have e1:((st7.tok.kind:Int) == 4)=false:=by simp at h4 ⊢; omega
    have e2:((st7.tok.kind:Int) != 4)=true:=by simp at h4 ⊢; omega
    rw [endLine_no _ h4] at RS
    clear h4
    go_wp2_with fail
    refine (refuse_any B s b g st7 3 st7.tok.pos _ L7.out.d.1 (by omega) hpos).mono ?_
    rintro e VF ⟨rfl,hh⟩
    have DF:=hid (L7.out.d.afterB hh)
    clear hh
    go_wp2
    go_end0
    rw [RS.out]
    exact ⟨rfl,DF.out⟩
   ·have e1:((st7.tok.kind:Int) == 4)=true:=by simp at h4 ⊢; omega
    have e2:((st7.tok.kind:Int) != 4)=false:=by simp at h4 ⊢; omega
    rw [endLine_yes _ h4] at RS
    clear h4
    go_wp2
    go_end0
    rw [RS.out]
    exact ⟨rfl,L7.out.d⟩
  ·rw [hc,if_pos rfl] at RS
   clear hc
   go_wp2_with fail
   refine (label_any B s b g st2 t V3 L1.out.d.1 TW.out).mono ?_
   rintro e V4 ⟨rfl,h4⟩
   have L2:=hid (L1.out.step h4)
   clear h4 L1 m0 m1 m2 m3 TW HK
   generalize As.label t st2=st3 at *
   go_wp2_with fail
   refine (advance_any B s b g st3 V4 L2.out.d.1).mono ?_
   rintro e V5 ⟨rfl,h5⟩
   have L3:=hid (L2.out.stepB h5)
   clear h5 L2
   generalize As.advance (sl s) st3=st4 at *
   have TW:=hid (takeWord_tok (sl s) st4 L3.out.d.1.ok.tok)
   go_wp2_with fail
   refine (takeWord_any B s b g st4 V5 L3.out.d.1).mono ?_
   rintro e V6 ⟨rfl,h6⟩
   have L4:=hid (L3.out.stepB h6)
   clear h6 L3
   generalize As.takeWord (sl s) st4=R6 at *
   obtain ⟨t6,st6⟩:=R6
   dsimp only at RS L4 TW ⊢
   unfold tokA
   have L5:=hid (L4.out.put t6)
   have v0:=L4.out.l.free 0
   have v1:=L4.out.l.free 1
   have v2:=L4.out.l.free 2
   have v3:=L4.out.l.free 3
   obtain ⟨m0,m1,m2,m3⟩:=L4.out.cells
   obtain ⟨b2,b3,b4,b5⟩:=cell_b L4.out.d.1
   have hrb:r≠b:=by
    intro e
    have h1:=L4.out.l
    rw [e] at h1
    have:=h1.symm.trans L4.out.d.1.blk
    simp [tokCs,asmCells] at this
   have hbr:b≠r:=fun e=>hrb e.symm
   clear L4 d
   cases hk:(t6.kind == 1)
   ·have d:((t6.kind:Int) == 1)=false:=by simp at hk ⊢; omega
    rw [lineOp_no _ _ _ hk] at RS
    clear hk
    have hpos:=L5.out.d.1.ok.tok.pos
    cases h4:(st6.tok.kind == 4)
    ·have e1:((st6.tok.kind:Int) == 4)=false:=by simp at h4 ⊢; omega
     have e2:((st6.tok.kind:Int) != 4)=true:=by simp at h4 ⊢; omega
     rw [endLine_no _ h4] at RS
     clear h4
     go_wp2_with fail
     refine (refuse_any B s b g st6 3 st6.tok.pos _ L5.out.d.1 (by omega) hpos).mono ?_
     rintro e VF ⟨rfl,hh⟩
     have DF:=hid (L5.out.d.afterB hh)
     clear hh
     go_wp2
     go_end0
     rw [RS.out]
     exact ⟨rfl,DF.out⟩
    ·have e1:((st6.tok.kind:Int) == 4)=true:=by simp at h4 ⊢; omega
     have e2:((st6.tok.kind:Int) != 4)=false:=by simp at h4 ⊢; omega
     rw [endLine_yes _ h4] at RS
     clear h4
     go_wp2
     go_end0
     rw [RS.out]
     exact ⟨rfl,L5.out.d⟩
   ·have d:((t6.kind:Int) == 1)=true:=by simp at hk ⊢; omega
    rw [lineOp_yes _ _ _ hk] at RS
    clear hk
    go_wp2_with fail
    refine (operation_any B s b g st6 t6 _ L5.out.d.1 TW.out (HN.out.below L5.out.d.2.1 L5.out.d.1.lo.1)).mono ?_
    rintro e V7 ⟨rfl,hh⟩
    have L7:=hid (L5.out.step hh)
    clear hh
    generalize As.operation (sl s) t6 st6=st7 at *
    clear m0 m1 m2 m3 v0 v1 v2 v3 b2 b3 b4 b5
    obtain ⟨b2,b3,b4,b5⟩:=cell_b L7.out.d.1

    have hpos:=L7.out.d.1.ok.tok.pos
    cases h4:(st7.tok.kind == 4)
    ·have e1:((st7.tok.kind:Int) == 4)=false:=by simp at h4 ⊢; omega
     have e2:((st7.tok.kind:Int) != 4)=true:=by simp at h4 ⊢; omega
     rw [endLine_no _ h4] at RS
     clear h4
     go_wp2_with fail
     refine (refuse_any B s b g st7 3 st7.tok.pos _ L7.out.d.1 (by omega) hpos).mono ?_
     rintro e VF ⟨rfl,hh⟩
     have DF:=hid (L7.out.d.afterB hh)
     clear hh
     go_wp2
     go_end0
     rw [RS.out]
     exact ⟨rfl,DF.out⟩
    ·have e1:((st7.tok.kind:Int) == 4)=true:=by simp at h4 ⊢; omega
     have e2:((st7.tok.kind:Int) != 4)=false:=by simp at h4 ⊢; omega
     rw [endLine_yes _ h4] at RS
     clear h4
     go_wp2
     go_end0
     rw [RS.out]
     exact ⟨rfl,L7.out.d⟩

end Go.Proofs.YtnfgdlkiialnnaaGreatDoor

namespace Go.Proofs.YtnfgdlkiialnnaaGreatDoor
open Go.RowKit

def bindOne (y:Lk.Sym):Lk.Sym:=if y.sect=0∧y.bind=0 then ⟨y.name,1,y.sect,y.off⟩ else y
theorem bindRest_map (ys:List Lk.Sym):As.bindRest ys=ys.map bindOne:=rfl
def mixed (ys:List Lk.Sym) (k:Nat):List Lk.Sym:=(ys.take k).map bindOne ++ ys.drop k
theorem mixed_length (ys:List Lk.Sym) (k:Nat):(mixed ys k).length=ys.length:=by simp [mixed]; omega
theorem mixed_get (ys:List Lk.Sym) (k:Nat) (h:k < ys.length):(mixed ys k)[k]'(by rw [mixed_length]; exact h)=ys[k]:=by
 unfold mixed
 rw [List.getElem_append_right (by simp; omega)]
 simp [List.length_take,Nat.min_eq_left (Nat.le_of_lt h)]
theorem mixed_step (ys:List Lk.Sym) (k:Nat) (h:k < ys.length):mixed ys (k+1)=(mixed ys k).set k (bindOne ys[k]):=by
 unfold mixed
 rw [List.take_succ_eq_append_getElem h,List.map_append,List.set_append_right _ _ (by simp; omega),List.drop_eq_getElem_cons h]
 have e:k - ((ys.take k).map bindOne).length=0:=by simp; omega
 rw [e,List.set_cons_zero]
 simp
theorem mixed_end (ys:List Lk.Sym):mixed ys ys.length=As.bindRest ys:=by rw [bindRest_map]; simp [mixed]
theorem mixed_same (ys:List Lk.Sym) (k:Nat) (h:k < ys.length) (hb:bindOne ys[k]=ys[k]):mixed ys (k+1)=mixed ys k:=by
 rw [mixed_step ys k h,hb]
 conv=>lhs; rw [← mixed_get ys k h]
 exact List.set_getElem_self _

def withSyms (st:As.St) (ys:List Lk.Sym):As.St:={ st with obj:={ st.obj with syms:=ys } }

set_option maxRecDepth 100000 in
set_option maxHeartbeats 8000000 in
theorem bindRest_any (B:Nat) (s:ByteArray) (b g:Nat) (st:As.St) (W:World) (h:AsmAt B s b g st W) :
  Calls Tryz.prog 50 #[.pointer (some ⟨b,0,none⟩)] W fun en W'=>en = .returned (.tuple #[])∧Does B s b g W (withSyms st (As.bindRest st.obj.syms)) W':=by
 have HW:=hid h
 have c14:=cell_obj h
 obtain ⟨vt,vf,vd,va,vs,vr,ho⟩:=h.own
 obtain ⟨as_,cs,rfl⟩:=own_form ho.syms
 have g5:=ho.blk.cell 5
 simp only [List.getElem?_toArray,List.getElem?_cons_succ,List.getElem?_cons_zero] at g5
 have hn16:=h.ok.syms
 clear ho h
 generalize hys:st.obj.syms=ys at *
 have ST0:=hid (show withSyms st (mixed ys 0)=st by unfold withSyms mixed; rw [← hys]; simp)
 clear hys
 go_enter Tryz.func50,Tryz.ntmps50
 go_wp2
 clear c14 g5
 go_loopw [11] (fun i wr=>∃ k:Nat,k≤ys.length∧i = .int .i64 k∧Does B s b g W (withSyms st (mixed ys k)) wr) (fun i _=>ys.length - (intOf i).toNat)
 case atStart=>exact ⟨0,Nat.zero_le _,rfl,by rw [ST0.out]; exact HW.out.does⟩
 case round =>
  obtain ⟨k,hk,rfl,hd⟩:=hrel
  have D:=hid hd
  clear hd
  by_cases hlt:k < ys.length
  ·have hlt':(k:Int) < (ys.length:Int):=by omega
   have hl:(withSyms st (mixed ys k)).obj.syms.length=ys.length:=mixed_length ys k
   obtain ⟨vt,vf,vd,va,sg,cs,vr,ho,g5,k1,k2,k3,hfz,n1,n2⟩:=sym_cells D.out.1 k (by rw [hl]; exact hlt)
   have e0:(withSyms st (mixed ys k)).obj.syms[k]'(by rw [hl]; exact hlt)=ys[k]:=mixed_get ys k hlt
   rw [e0] at k1 k2 k3
   have hcap:=own_cap ho.syms
   have HO:=hid ho
   have c14:=cell_obj D.out.1
   have f1:=hfz (k * 4+1)
   have P:=hid (fun hj:symV (bindOne ys[k])=(symV ys[k]).set 1 (.int .i64 1)=>D.out.after (D.out.1.putSym HO.out k 1 (by rw [hl]; exact hlt) (by omega) (.int .i64 1) (bindOne ys[k]) (by rw [e0]; exact hj)))
   rw [hl] at g5 hcap
   clear ho hfz
   have MS:=hid (mixed_step ys k hlt)
   have MM:=hid (mixed_same ys k hlt)
   have BO:=hid (show bindOne ys[k]=if ys[k].sect=0∧ys[k].bind=0 then ⟨ys[k].name,1,ys[k].sect,ys[k].off⟩ else ys[k] from rfl)
   have gg1:(0:Int)≤(k:Int):=by omega
   clear e0 HO hl
   by_cases z1:ys[k].sect=0
   ·have d1:(ys[k].sect == 0)=true:=by simp [z1]
    by_cases z2:ys[k].bind=0
    ·have d2:(ys[k].bind == 0)=true:=by simp [z2]
     have B1:=hid (show bindOne ys[k]=⟨ys[k].name,1,ys[k].sect,ys[k].off⟩ by rw [BO.out,if_pos ⟨z1,z2⟩])
     have F:=hid (P.out (by rw [B1.out]; rfl))
     clear z1 z2 P
     go_wp2
     go_roundw
     case rel=>exact ⟨k+1,by omega,by go_num,by rw [MS.out]; exact F.out⟩
     case measure=>simp [intOf]; omega
    ·have d2:(ys[k].bind == 0)=false:=by simp [z2]
     have B1:=hid (show bindOne ys[k]=ys[k] by rw [BO.out,if_neg (fun c=>z2 c.2)])
     clear z1 z2 P
     go_wp2
     go_roundw
     case rel=>exact ⟨k+1,by omega,by go_num,by rw [MM.out B1.out]; exact D.out⟩
     case measure=>simp [intOf]; omega
   ·have d1:(ys[k].sect == 0)=false:=by simp [z1]
    have B1:=hid (show bindOne ys[k]=ys[k] by rw [BO.out,if_neg (fun c=>z1 c.1)])
    clear z1 P
    go_wp2
    go_roundw
    case rel=>exact ⟨k+1,by omega,by go_num,by rw [MM.out B1.out]; exact D.out⟩
    case measure=>simp [intOf]; omega
  ·obtain rfl:k=ys.length:=by omega
   go_wp2
   go_end0
   rw [← mixed_end]
   exact ⟨rfl,D.out⟩

end Go.Proofs.YtnfgdlkiialnnaaGreatDoor
