
import Derived.Test.YtnkkepfcpjllmaaGreatDoorU13
set_option maxHeartbeats 16000000
set_option maxRecDepth 100000
namespace Go.Proofs.YtnkkepfcpjllmaaGreatDoor
open Go.RowKit
theorem yiS (B:Nat) (s:ByteArray) (b g:Nat) (st0:As.St) (W:World) (h:yl B s b g st0 W) :
  Calls Tryz.prog 118 #[.pointer (some ⟨b,0,none⟩)] W fun en W'=>en = .returned (.tuple #[])/\Does B s b g W (As.align (sl s) st0) W':=by
 have D0:=hid h.does;clear h;obtain ⟨X,hX⟩:∃ X,X=As.align (sl s) st0:=⟨_,rfl⟩
 rw [<- hX];unfold As.align at hX;dsimp only at hX;have RS:=hid hX;clear hX;have NO:=hid (yjm (sl s) 2 4 st0);go_enter Tryz.func118,Tryz.ntmps118;go_wp2_with fail;refine (Iz B s b g st0 2 4 _ D0.o.1).mono ?_;rintro e V1 ⟨rfl,hh⟩;have D1:=hid (D0.o.aR hh);clear hh D0;generalize As.number (sl s) 2 4 st0=R1 at *;obtain ⟨n,st1⟩:=R1;dsimp only at RS D1 NO ⊢;go_wp2_with fail;refine (Gi B s b g st1 V1 D1.o.1).mono ?_;rintro e w1 ⟨rfl,rfl⟩
 cases hf:As.failed st1
 ·rw [hf,if_neg (by simp)] at RS;have hn:=NO.o hf;clear hf NO;have cI:=hid (fun V hV=>Xj B s b g st1 V hV);have hsb:=Ug D1.o.1.ok;rcases (show n=2\/n=3\/n=4 by omega) with rfl | rfl | rfl
  ·clear hn;have DW:=hid (show X=As.aC 2 (As.dA 4 st1) from RS.o);clear RS;go_wp2_with fail;refine (cI.o w1 D1.o.1).mono ?_;rintro e w2 ⟨rfl,rfl⟩
   cases hc:As.gL st1.ah
   ·have RT:=hid (show As.dA 4 st1=As.lay (List.replicate (((4:Int) - 4 * As.aA st1.obj st1.ah % 4) % 4 / 4).toNat 0) st1 from by unfold As.dA; rw [hc]; rfl);clear hc;have cL:=hid (fun V hV=>Lx B s b g st1 V hV);have HD0:=hid (fun n=>D1.o.drewN n);have c13:=zi D1.o.1;have c14:=wJ D1.o.1;generalize As.aA st1.obj st1.ah=q at *;obtain ⟨qn,rfl⟩:=Int.eq_ofNat_of_zero_le hsb.1;have hq2:(qn:Int)<=1200:=hsb.2;have hq3:(0:Int)<=4 * (qn:Int):=by omega
    have EC:=hid (show (((4:Int) - 4 * (qn:Int) % 4) % 4 / 4)=(((((4:Int) - 4 * (qn:Int) % 4) % 4 / 4).toNat:Nat):Int) by omega);have HC:=hid (show (((4:Int) - 4 * (qn:Int) % 4) % 4 / 4).toNat<=4096 by omega);have r0:(0:Int)<=4 * (qn:Int) % 4:=by omega
    have r1:4 * (qn:Int) % 4 < 4:=by omega
    generalize (((4:Int) - 4 * (qn:Int) % 4) % 4 / 4).toNat=cnt at *;go_wp2
    go_quiet ((go_at_call 61; exact Calls.quiet_of_same (cL.o _ (HD0.o _).1)))
    have D2:=hid (HD0.o nq);clear HD0 c13 c14 cL;generalize w2.drewN nq=V2 at *;go_wp2_with fail;refine (Li 0 cnt _ (by have e:=EC.o; omega) _ HC.o).mono ?_;rintro e V3 ⟨⟨ao,cap,rfl,hw⟩,hg⟩;have D3:=hid (D2.o.grown hg);have wZ:=hid hw;clear hg hw D2;go_wp2_with fail;refine (Qm B s b g st1 0 cnt ao cap V3 D3.o.1 wZ.o HC.o).mono ?_;rintro e V4 ⟨rfl,h4⟩;have D4:=hid (D3.o.after h4);clear h4;rw [<- RT.o] at D4;go_wp2_with fail;refine (Ll B s b g _ 2 V4 D4.o.1).mono ?_;rintro e V5 ⟨rfl,h5⟩;have D5:=hid (D4.o.after h5);clear h5;go_wp2
    go_end0
    rw [DW.o];exact ⟨rfl,D5.o⟩
   ·have RT:=hid (show As.dA 4 st1=st1 from by unfold As.dA; rw [hc]; rfl);clear hc;rw [RT.o] at DW;go_wp2_with fail;refine (Ll B s b g _ 2 w2 D1.o.1).mono ?_;rintro e V5 ⟨rfl,h5⟩;have D5:=hid (D1.o.after h5);clear h5;go_wp2
    go_end0
    rw [DW.o];exact ⟨rfl,D5.o⟩
  ·clear hn;have DW:=hid (show X=As.aC 3 (As.dA 8 st1) from RS.o);clear RS;go_wp2_with fail;refine (cI.o w1 D1.o.1).mono ?_;rintro e w2 ⟨rfl,rfl⟩
   cases hc:As.gL st1.ah
   ·have RT:=hid (show As.dA 8 st1=As.lay (List.replicate (((8:Int) - 4 * As.aA st1.obj st1.ah % 8) % 8 / 4).toNat 0) st1 from by unfold As.dA; rw [hc]; rfl);clear hc;have cL:=hid (fun V hV=>Lx B s b g st1 V hV);have HD0:=hid (fun n=>D1.o.drewN n);have c13:=zi D1.o.1;have c14:=wJ D1.o.1;generalize As.aA st1.obj st1.ah=q at *;obtain ⟨qn,rfl⟩:=Int.eq_ofNat_of_zero_le hsb.1;have hq2:(qn:Int)<=1200:=hsb.2;have hq3:(0:Int)<=4 * (qn:Int):=by omega
    have EC:=hid (show (((8:Int) - 4 * (qn:Int) % 8) % 8 / 4)=(((((8:Int) - 4 * (qn:Int) % 8) % 8 / 4).toNat:Nat):Int) by omega);have HC:=hid (show (((8:Int) - 4 * (qn:Int) % 8) % 8 / 4).toNat<=4096 by omega);have r0:(0:Int)<=4 * (qn:Int) % 8:=by omega
    have r1:4 * (qn:Int) % 8 < 8:=by omega
    generalize (((8:Int) - 4 * (qn:Int) % 8) % 8 / 4).toNat=cnt at *;go_wp2
    go_quiet ((go_at_call 61; exact Calls.quiet_of_same (cL.o _ (HD0.o _).1)))
    have D2:=hid (HD0.o nq);clear HD0 c13 c14 cL;generalize w2.drewN nq=V2 at *;go_wp2_with fail;refine (Li 0 cnt _ (by have e:=EC.o; omega) _ HC.o).mono ?_;rintro e V3 ⟨⟨ao,cap,rfl,hw⟩,hg⟩;have D3:=hid (D2.o.grown hg);have wZ:=hid hw;clear hg hw D2;go_wp2_with fail;refine (Qm B s b g st1 0 cnt ao cap V3 D3.o.1 wZ.o HC.o).mono ?_;rintro e V4 ⟨rfl,h4⟩;have D4:=hid (D3.o.after h4);clear h4;rw [<- RT.o] at D4;go_wp2_with fail;refine (Ll B s b g _ 3 V4 D4.o.1).mono ?_;rintro e V5 ⟨rfl,h5⟩;have D5:=hid (D4.o.after h5);clear h5;go_wp2
    go_end0
    rw [DW.o];exact ⟨rfl,D5.o⟩
   ·have RT:=hid (show As.dA 8 st1=As.bG 6 0 4 (List.replicate 1 19) st1 from by unfold As.dA; rw [hc]; rfl);clear hc;go_wp2_with fail;refine (Li 19 1 _ rfl _ (by omega)).mono ?_;rintro e V3 ⟨⟨ao,cap,rfl,hw⟩,hg⟩;have D3:=hid (D1.o.grown hg);have wZ:=hid hw;clear hg hw;go_wp2_with fail;refine (WJ B s b g st1 6 0 4 19 1 ao cap V3 D3.o.1 wZ.o (by omega)).mono ?_;rintro e V4 ⟨rfl,h4⟩;have D4:=hid (D3.o.after h4);clear h4;rw [<- RT.o] at D4;go_wp2_with fail;refine (Ll B s b g _ 3 V4 D4.o.1).mono ?_;rintro e V5 ⟨rfl,h5⟩;have D5:=hid (D4.o.after h5);clear h5;go_wp2
    go_end0
    rw [DW.o];exact ⟨rfl,D5.o⟩
  ·clear hn;have DW:=hid (show X=As.aC 4 (As.dA 16 st1) from RS.o);clear RS;go_wp2_with fail;refine (cI.o w1 D1.o.1).mono ?_;rintro e w2 ⟨rfl,rfl⟩
   cases hc:As.gL st1.ah
   ·have RT:=hid (show As.dA 16 st1=As.lay (List.replicate (((16:Int) - 4 * As.aA st1.obj st1.ah % 16) % 16 / 4).toNat 0) st1 from by unfold As.dA; rw [hc]; rfl);clear hc;have cL:=hid (fun V hV=>Lx B s b g st1 V hV);have HD0:=hid (fun n=>D1.o.drewN n);have c13:=zi D1.o.1;have c14:=wJ D1.o.1;generalize As.aA st1.obj st1.ah=q at *;obtain ⟨qn,rfl⟩:=Int.eq_ofNat_of_zero_le hsb.1;have hq2:(qn:Int)<=1200:=hsb.2;have hq3:(0:Int)<=4 * (qn:Int):=by omega
    have EC:=hid (show (((16:Int) - 4 * (qn:Int) % 16) % 16 / 4)=(((((16:Int) - 4 * (qn:Int) % 16) % 16 / 4).toNat:Nat):Int) by omega);have HC:=hid (show (((16:Int) - 4 * (qn:Int) % 16) % 16 / 4).toNat<=4096 by omega);have r0:(0:Int)<=4 * (qn:Int) % 16:=by omega
    have r1:4 * (qn:Int) % 16 < 16:=by omega
    generalize (((16:Int) - 4 * (qn:Int) % 16) % 16 / 4).toNat=cnt at *;go_wp2
    go_quiet ((go_at_call 61; exact Calls.quiet_of_same (cL.o _ (HD0.o _).1)))
    have D2:=hid (HD0.o nq);clear HD0 c13 c14 cL;generalize w2.drewN nq=V2 at *;go_wp2_with fail;refine (Li 0 cnt _ (by have e:=EC.o; omega) _ HC.o).mono ?_;rintro e V3 ⟨⟨ao,cap,rfl,hw⟩,hg⟩;have D3:=hid (D2.o.grown hg);have wZ:=hid hw;clear hg hw D2;go_wp2_with fail;refine (Qm B s b g st1 0 cnt ao cap V3 D3.o.1 wZ.o HC.o).mono ?_;rintro e V4 ⟨rfl,h4⟩;have D4:=hid (D3.o.after h4);clear h4;rw [<- RT.o] at D4;go_wp2_with fail;refine (Ll B s b g _ 4 V4 D4.o.1).mono ?_;rintro e V5 ⟨rfl,h5⟩;have D5:=hid (D4.o.after h5);clear h5;go_wp2
    go_end0
    rw [DW.o];exact ⟨rfl,D5.o⟩
   ·have RT:=hid (show As.dA 16 st1=As.bG 6 0 12 (List.replicate 3 19) st1 from by unfold As.dA; rw [hc]; rfl);clear hc;go_wp2_with fail;refine (Li 19 3 _ rfl _ (by omega)).mono ?_;rintro e V3 ⟨⟨ao,cap,rfl,hw⟩,hg⟩;have D3:=hid (D1.o.grown hg);have wZ:=hid hw;clear hg hw;go_wp2_with fail;refine (WJ B s b g st1 6 0 12 19 3 ao cap V3 D3.o.1 wZ.o (by omega)).mono ?_;rintro e V4 ⟨rfl,h4⟩;have D4:=hid (D3.o.after h4);clear h4;rw [<- RT.o] at D4;go_wp2_with fail;refine (Ll B s b g _ 4 V4 D4.o.1).mono ?_;rintro e V5 ⟨rfl,h5⟩;have D5:=hid (D4.o.after h5);clear h5;go_wp2
    go_end0
    rw [DW.o];exact ⟨rfl,D5.o⟩
 ·rw [hf,if_pos rfl] at RS;clear hf;go_wp2
  (try simp only [Exit.inBlock,Exit.then]); refine bodyPost_ret (results_none rfl _ _ _) rfl ?_
  rw [RS.o];exact ⟨rfl,D1.o⟩
theorem yhb (t:List UInt8) (w:World) :
  Calls Tryz.prog 99 #[.string (bs t)] w fun e w'=>e = .returned (.int .i64 (As.eU t:Nat))/\w'=w:=by
 have RS:=hid (show As.eU t=(
 if t=[46,116,101,120,116] then 15 else
 if t=[46,102,97,114] then 15 else
 if t=[46,100,97,116,97] then 15 else
 if t=[46,98,115,115] then 15 else
 if t=[46,119,111,114,100] then 16 else
 if t=[46,115,112,97,99,101] then 17 else
 if t=[46,97,108,105,103,110] then 18 else
 if t=[46,103,108,111,98,108] then 19 else
 if t=[46,119,101,97,107] then 19 else
 0) from rfl)
 generalize As.eU t=X at *;have e:∀ l:List UInt8,((bs t).toList == l)=decide (t=l):=fun l=>by rw [yA,Bool.eq_iff_iff,beq_iff_eq,decide_eq_true_iff]
 by_cases h:t=[46,116,101,120,116]
 ·rw [if_pos h] at RS;have d0:=e [46,116,101,120,116];rw [decide_eq_true h] at d0;clear h e;go_enter Tryz.func99,Tryz.ntmps99;go_wp2;go_ret;exact ⟨by rw [RS.o]; rfl,rfl⟩
 have d0:=e [46,116,101,120,116];rw [if_neg h] at RS;rw [decide_eq_false h] at d0;clear h;by_cases h:t=[46,102,97,114]
 ·rw [if_pos h] at RS;have d1:=e [46,102,97,114];rw [decide_eq_true h] at d1;clear h e;go_enter Tryz.func99,Tryz.ntmps99;go_wp2;go_ret;exact ⟨by rw [RS.o]; rfl,rfl⟩
 have d1:=e [46,102,97,114];rw [if_neg h] at RS;rw [decide_eq_false h] at d1;clear h;by_cases h:t=[46,100,97,116,97]
 ·rw [if_pos h] at RS;have d2:=e [46,100,97,116,97];rw [decide_eq_true h] at d2;clear h e;go_enter Tryz.func99,Tryz.ntmps99;go_wp2;go_ret;exact ⟨by rw [RS.o]; rfl,rfl⟩
 have d2:=e [46,100,97,116,97];rw [if_neg h] at RS;rw [decide_eq_false h] at d2;clear h;by_cases h:t=[46,98,115,115]
 ·rw [if_pos h] at RS;have d3:=e [46,98,115,115];rw [decide_eq_true h] at d3;clear h e;go_enter Tryz.func99,Tryz.ntmps99;go_wp2;go_ret;exact ⟨by rw [RS.o]; rfl,rfl⟩
 have d3:=e [46,98,115,115];rw [if_neg h] at RS;rw [decide_eq_false h] at d3;clear h;by_cases h:t=[46,119,111,114,100]
 ·rw [if_pos h] at RS;have d4:=e [46,119,111,114,100];rw [decide_eq_true h] at d4;clear h e;go_enter Tryz.func99,Tryz.ntmps99;go_wp2;go_ret;exact ⟨by rw [RS.o]; rfl,rfl⟩
 have d4:=e [46,119,111,114,100];rw [if_neg h] at RS;rw [decide_eq_false h] at d4;clear h;by_cases h:t=[46,115,112,97,99,101]
 ·rw [if_pos h] at RS;have d5:=e [46,115,112,97,99,101];rw [decide_eq_true h] at d5;clear h e;go_enter Tryz.func99,Tryz.ntmps99;go_wp2;go_ret;exact ⟨by rw [RS.o]; rfl,rfl⟩
 have d5:=e [46,115,112,97,99,101];rw [if_neg h] at RS;rw [decide_eq_false h] at d5;clear h;by_cases h:t=[46,97,108,105,103,110]
 ·rw [if_pos h] at RS;have d6:=e [46,97,108,105,103,110];rw [decide_eq_true h] at d6;clear h e;go_enter Tryz.func99,Tryz.ntmps99;go_wp2;go_ret;exact ⟨by rw [RS.o]; rfl,rfl⟩
 have d6:=e [46,97,108,105,103,110];rw [if_neg h] at RS;rw [decide_eq_false h] at d6;clear h;by_cases h:t=[46,103,108,111,98,108]
 ·rw [if_pos h] at RS;have d7:=e [46,103,108,111,98,108];rw [decide_eq_true h] at d7;clear h e;go_enter Tryz.func99,Tryz.ntmps99;go_wp2;go_ret;exact ⟨by rw [RS.o]; rfl,rfl⟩
 have d7:=e [46,103,108,111,98,108];rw [if_neg h] at RS;rw [decide_eq_false h] at d7;clear h;by_cases h:t=[46,119,101,97,107]
 ·rw [if_pos h] at RS;have d8:=e [46,119,101,97,107];rw [decide_eq_true h] at d8;clear h e;go_enter Tryz.func99,Tryz.ntmps99;go_wp2;go_ret;exact ⟨by rw [RS.o]; rfl,rfl⟩
 have d8:=e [46,119,101,97,107];rw [if_neg h] at RS;rw [decide_eq_false h] at d8;clear h;clear e;go_enter Tryz.func99,Tryz.ntmps99;go_wp2;go_ret;exact ⟨by rw [RS.o]; rfl,rfl⟩
theorem yhW (t:List UInt8) (w:World) :
  Calls Tryz.prog 62 #[.string (bs t)] w fun e w'=>e = .returned (.int .i64 (As.shapeOf t:Nat))/\w'=w:=by
 have RS:=hid (show As.shapeOf t=(
 if t=[97,100,100] then 1 else
 if t=[115,117,98] then 1 else
 if t=[115,108,116] then 1 else
 if t=[115,108,116,117] then 1 else
 if t=[120,111,114] then 1 else
 if t=[111,114] then 1 else
 if t=[97,110,100] then 1 else
 if t=[97,100,100,105] then 2 else
 if t=[115,108,116,105] then 2 else
 if t=[120,111,114,105] then 2 else
 if t=[111,114,105] then 2 else
 if t=[97,110,100,105] then 2 else
 if t=[108,117,105] then 3 else
 if t=[108,119] then 4 else
 if t=[115,119] then 5 else
 if t=[106,97,108,114] then 6 else
 if t=[101,99,97,108,108] then 7 else
 if t=[114,101,116] then 7 else
 if t=[110,111,112] then 7 else
 if t=[98,101,113] then 8 else
 if t=[98,110,101] then 8 else
 if t=[98,108,116] then 8 else
 if t=[98,103,101] then 8 else
 if t=[98,108,116,117] then 8 else
 if t=[98,103,101,117] then 8 else
 if t=[106,97,108] then 9 else
 if t=[106] then 10 else
 if t=[109,118] then 11 else
 if t=[108,105] then 12 else
 if t=[99,97,108,108] then 13 else
 if t=[116,97,105,108] then 13 else
 if t=[108,97] then 14 else
 As.eU t) from rfl)
 generalize As.shapeOf t=X at *;have e:∀ l:List UInt8,((bs t).toList == l)=decide (t=l):=fun l=>by rw [yA,Bool.eq_iff_iff,beq_iff_eq,decide_eq_true_iff]
 by_cases h:t=[97,100,100]
 ·rw [if_pos h] at RS;have d0:=e [97,100,100];rw [decide_eq_true h] at d0;clear h e;go_enter Tryz.func62,Tryz.ntmps62;go_wp2;go_ret;exact ⟨by rw [RS.o]; rfl,rfl⟩
 have d0:=e [97,100,100];rw [if_neg h] at RS;rw [decide_eq_false h] at d0;clear h;by_cases h:t=[115,117,98]
 ·rw [if_pos h] at RS;have d1:=e [115,117,98];rw [decide_eq_true h] at d1;clear h e;go_enter Tryz.func62,Tryz.ntmps62;go_wp2;go_ret;exact ⟨by rw [RS.o]; rfl,rfl⟩
 have d1:=e [115,117,98];rw [if_neg h] at RS;rw [decide_eq_false h] at d1;clear h;by_cases h:t=[115,108,116]
 ·rw [if_pos h] at RS;have d2:=e [115,108,116];rw [decide_eq_true h] at d2;clear h e;go_enter Tryz.func62,Tryz.ntmps62;go_wp2;go_ret;exact ⟨by rw [RS.o]; rfl,rfl⟩
 have d2:=e [115,108,116];rw [if_neg h] at RS;rw [decide_eq_false h] at d2;clear h;by_cases h:t=[115,108,116,117]
 ·rw [if_pos h] at RS;have d3:=e [115,108,116,117];rw [decide_eq_true h] at d3;clear h e;go_enter Tryz.func62,Tryz.ntmps62;go_wp2;go_ret;exact ⟨by rw [RS.o]; rfl,rfl⟩
 have d3:=e [115,108,116,117];rw [if_neg h] at RS;rw [decide_eq_false h] at d3;clear h;by_cases h:t=[120,111,114]
 ·rw [if_pos h] at RS;have d4:=e [120,111,114];rw [decide_eq_true h] at d4;clear h e;go_enter Tryz.func62,Tryz.ntmps62;go_wp2;go_ret;exact ⟨by rw [RS.o]; rfl,rfl⟩
 have d4:=e [120,111,114];rw [if_neg h] at RS;rw [decide_eq_false h] at d4;clear h;by_cases h:t=[111,114]
 ·rw [if_pos h] at RS;have d5:=e [111,114];rw [decide_eq_true h] at d5;clear h e;go_enter Tryz.func62,Tryz.ntmps62;go_wp2;go_ret;exact ⟨by rw [RS.o]; rfl,rfl⟩
 have d5:=e [111,114];rw [if_neg h] at RS;rw [decide_eq_false h] at d5;clear h;by_cases h:t=[97,110,100]
 ·rw [if_pos h] at RS;have d6:=e [97,110,100];rw [decide_eq_true h] at d6;clear h e;go_enter Tryz.func62,Tryz.ntmps62;go_wp2;go_ret;exact ⟨by rw [RS.o]; rfl,rfl⟩
 have d6:=e [97,110,100];rw [if_neg h] at RS;rw [decide_eq_false h] at d6;clear h;by_cases h:t=[97,100,100,105]
 ·rw [if_pos h] at RS;have d7:=e [97,100,100,105];rw [decide_eq_true h] at d7;clear h e;go_enter Tryz.func62,Tryz.ntmps62;go_wp2;go_ret;exact ⟨by rw [RS.o]; rfl,rfl⟩
 have d7:=e [97,100,100,105];rw [if_neg h] at RS;rw [decide_eq_false h] at d7;clear h;by_cases h:t=[115,108,116,105]
 ·rw [if_pos h] at RS;have d8:=e [115,108,116,105];rw [decide_eq_true h] at d8;clear h e;go_enter Tryz.func62,Tryz.ntmps62;go_wp2;go_ret;exact ⟨by rw [RS.o]; rfl,rfl⟩
 have d8:=e [115,108,116,105];rw [if_neg h] at RS;rw [decide_eq_false h] at d8;clear h;by_cases h:t=[120,111,114,105]
 ·rw [if_pos h] at RS;have d9:=e [120,111,114,105];rw [decide_eq_true h] at d9;clear h e;go_enter Tryz.func62,Tryz.ntmps62;go_wp2;go_ret;exact ⟨by rw [RS.o]; rfl,rfl⟩
 have d9:=e [120,111,114,105];rw [if_neg h] at RS;rw [decide_eq_false h] at d9;clear h;by_cases h:t=[111,114,105]
 ·rw [if_pos h] at RS;have JK:=e [111,114,105];rw [decide_eq_true h] at JK;clear h e;go_enter Tryz.func62,Tryz.ntmps62;go_wp2;go_ret;exact ⟨by rw [RS.o]; rfl,rfl⟩
 have JK:=e [111,114,105];rw [if_neg h] at RS;rw [decide_eq_false h] at JK;clear h;by_cases h:t=[97,110,100,105]
 ·rw [if_pos h] at RS;have JL:=e [97,110,100,105];rw [decide_eq_true h] at JL;clear h e;go_enter Tryz.func62,Tryz.ntmps62;go_wp2;go_ret;exact ⟨by rw [RS.o]; rfl,rfl⟩
 have JL:=e [97,110,100,105];rw [if_neg h] at RS;rw [decide_eq_false h] at JL;clear h;by_cases h:t=[108,117,105]
 ·rw [if_pos h] at RS;have QM:=e [108,117,105];rw [decide_eq_true h] at QM;clear h e;go_enter Tryz.func62,Tryz.ntmps62;go_wp2;go_ret;exact ⟨by rw [RS.o]; rfl,rfl⟩
 have QM:=e [108,117,105];rw [if_neg h] at RS;rw [decide_eq_false h] at QM;clear h;by_cases h:t=[108,119]
 ·rw [if_pos h] at RS;have QN:=e [108,119];rw [decide_eq_true h] at QN;clear h e;go_enter Tryz.func62,Tryz.ntmps62;go_wp2;go_ret;exact ⟨by rw [RS.o]; rfl,rfl⟩
 have QN:=e [108,119];rw [if_neg h] at RS;rw [decide_eq_false h] at QN;clear h;by_cases h:t=[115,119]
 ·rw [if_pos h] at RS;have QO:=e [115,119];rw [decide_eq_true h] at QO;clear h e;go_enter Tryz.func62,Tryz.ntmps62;go_wp2;go_ret;exact ⟨by rw [RS.o]; rfl,rfl⟩
 have QO:=e [115,119];rw [if_neg h] at RS;rw [decide_eq_false h] at QO;clear h;by_cases h:t=[106,97,108,114]
 ·rw [if_pos h] at RS;have QS:=e [106,97,108,114];rw [decide_eq_true h] at QS;clear h e;go_enter Tryz.func62,Tryz.ntmps62;go_wp2;go_ret;exact ⟨by rw [RS.o]; rfl,rfl⟩
 have QS:=e [106,97,108,114];rw [if_neg h] at RS;rw [decide_eq_false h] at QS;clear h;by_cases h:t=[101,99,97,108,108]
 ·rw [if_pos h] at RS;have QT:=e [101,99,97,108,108];rw [decide_eq_true h] at QT;clear h e;go_enter Tryz.func62,Tryz.ntmps62;go_wp2;go_ret;exact ⟨by rw [RS.o]; rfl,rfl⟩
 have QT:=e [101,99,97,108,108];rw [if_neg h] at RS;rw [decide_eq_false h] at QT;clear h;by_cases h:t=[114,101,116]
 ·rw [if_pos h] at RS;have Ed:=e [114,101,116];rw [decide_eq_true h] at Ed;clear h e;go_enter Tryz.func62,Tryz.ntmps62;go_wp2;go_ret;exact ⟨by rw [RS.o]; rfl,rfl⟩
 have Ed:=e [114,101,116];rw [if_neg h] at RS;rw [decide_eq_false h] at Ed;clear h;by_cases h:t=[110,111,112]
 ·rw [if_pos h] at RS;have vL:=e [110,111,112];rw [decide_eq_true h] at vL;clear h e;go_enter Tryz.func62,Tryz.ntmps62;go_wp2;go_ret;exact ⟨by rw [RS.o]; rfl,rfl⟩
 have vL:=e [110,111,112];rw [if_neg h] at RS;rw [decide_eq_false h] at vL;clear h;by_cases h:t=[98,101,113]
 ·rw [if_pos h] at RS;have QU:=e [98,101,113];rw [decide_eq_true h] at QU;clear h e;go_enter Tryz.func62,Tryz.ntmps62;go_wp2;go_ret;exact ⟨by rw [RS.o]; rfl,rfl⟩
 have QU:=e [98,101,113];rw [if_neg h] at RS;rw [decide_eq_false h] at QU;clear h;by_cases h:t=[98,110,101]
 ·rw [if_pos h] at RS;have JM:=e [98,110,101];rw [decide_eq_true h] at JM;clear h e;go_enter Tryz.func62,Tryz.ntmps62;go_wp2;go_ret;exact ⟨by rw [RS.o]; rfl,rfl⟩
 have JM:=e [98,110,101];rw [if_neg h] at RS;rw [decide_eq_false h] at JM;clear h;by_cases h:t=[98,108,116]
 ·rw [if_pos h] at RS;have Ee:=e [98,108,116];rw [decide_eq_true h] at Ee;clear h e;go_enter Tryz.func62,Tryz.ntmps62;go_wp2;go_ret;exact ⟨by rw [RS.o]; rfl,rfl⟩
 have Ee:=e [98,108,116];rw [if_neg h] at RS;rw [decide_eq_false h] at Ee;clear h;by_cases h:t=[98,103,101]
 ·rw [if_pos h] at RS;have JN:=e [98,103,101];rw [decide_eq_true h] at JN;clear h e;go_enter Tryz.func62,Tryz.ntmps62;go_wp2;go_ret;exact ⟨by rw [RS.o]; rfl,rfl⟩
 have JN:=e [98,103,101];rw [if_neg h] at RS;rw [decide_eq_false h] at JN;clear h;by_cases h:t=[98,108,116,117]
 ·rw [if_pos h] at RS;have wP:=e [98,108,116,117];rw [decide_eq_true h] at wP;clear h e;go_enter Tryz.func62,Tryz.ntmps62;go_wp2;go_ret;exact ⟨by rw [RS.o]; rfl,rfl⟩
 have wP:=e [98,108,116,117];rw [if_neg h] at RS;rw [decide_eq_false h] at wP;clear h;by_cases h:t=[98,103,101,117]
 ·rw [if_pos h] at RS;have Dt:=e [98,103,101,117];rw [decide_eq_true h] at Dt;clear h e;go_enter Tryz.func62,Tryz.ntmps62;go_wp2;go_ret;exact ⟨by rw [RS.o]; rfl,rfl⟩
 have Dt:=e [98,103,101,117];rw [if_neg h] at RS;rw [decide_eq_false h] at Dt;clear h;by_cases h:t=[106,97,108]
 ·rw [if_pos h] at RS;have QV:=e [106,97,108];rw [decide_eq_true h] at QV;clear h e;go_enter Tryz.func62,Tryz.ntmps62;go_wp2;go_ret;exact ⟨by rw [RS.o]; rfl,rfl⟩
 have QV:=e [106,97,108];rw [if_neg h] at RS;rw [decide_eq_false h] at QV;clear h;by_cases h:t=[106]
 ·rw [if_pos h] at RS;have QW:=e [106];rw [decide_eq_true h] at QW;clear h e;go_enter Tryz.func62,Tryz.ntmps62;go_wp2;go_ret;exact ⟨by rw [RS.o]; rfl,rfl⟩
 have QW:=e [106];rw [if_neg h] at RS;rw [decide_eq_false h] at QW;clear h;by_cases h:t=[109,118]
 ·rw [if_pos h] at RS;have QX:=e [109,118];rw [decide_eq_true h] at QX;clear h e;go_enter Tryz.func62,Tryz.ntmps62;go_wp2;go_ret;exact ⟨by rw [RS.o]; rfl,rfl⟩
 have QX:=e [109,118];rw [if_neg h] at RS;rw [decide_eq_false h] at QX;clear h;by_cases h:t=[108,105]
 ·rw [if_pos h] at RS;have QY:=e [108,105];rw [decide_eq_true h] at QY;clear h e;go_enter Tryz.func62,Tryz.ntmps62;go_wp2;go_ret;exact ⟨by rw [RS.o]; rfl,rfl⟩
 have QY:=e [108,105];rw [if_neg h] at RS;rw [decide_eq_false h] at QY;clear h;by_cases h:t=[99,97,108,108]
 ·rw [if_pos h] at RS;have QZ:=e [99,97,108,108];rw [decide_eq_true h] at QZ;clear h e;go_enter Tryz.func62,Tryz.ntmps62;go_wp2;go_ret;exact ⟨by rw [RS.o]; rfl,rfl⟩
 have QZ:=e [99,97,108,108];rw [if_neg h] at RS;rw [decide_eq_false h] at QZ;clear h;by_cases h:t=[116,97,105,108]
 ·rw [if_pos h] at RS;have Q8:=e [116,97,105,108];rw [decide_eq_true h] at Q8;clear h e;go_enter Tryz.func62,Tryz.ntmps62;go_wp2;go_ret;exact ⟨by rw [RS.o]; rfl,rfl⟩
 have Q8:=e [116,97,105,108];rw [if_neg h] at RS;rw [decide_eq_false h] at Q8;clear h;by_cases h:t=[108,97]
 ·rw [if_pos h] at RS;have Q9:=e [108,97];rw [decide_eq_true h] at Q9;clear h e;go_enter Tryz.func62,Tryz.ntmps62;go_wp2;go_ret;exact ⟨by rw [RS.o]; rfl,rfl⟩
 have Q9:=e [108,97];rw [if_neg h] at RS;rw [decide_eq_false h] at Q9;clear h;clear e;have c:=hid (yhb t w);go_enter Tryz.func62,Tryz.ntmps62;go_wp2_with fail;refine c.o.mono ?_;rintro e w1 ⟨rfl,rfl⟩;go_wp2;go_ret;exact ⟨by rw [RS.o]; rfl,rfl⟩
def pQ (W:World):Prop:=∀ i,i < 26->W.cell? ⟨0,i,none⟩=some (.string (bs (As.names.getD i [])))
theorem pQ.below {B:Nat} {W W':World} (h:pQ W) (hb:Below B W W') (hB:3<=B):pQ W':=fun i hi=>(hb.cell (show 0 < B by omega)).trans (h i hi)
theorem UG (k:Nat) (h1:1<=k) (h2:k<=25):As.named (As.names.getD k [])=k:=by
 rcases (show k=1\/k=2\/k=3\/k=4\/k=5\/k=6\/k=7\/k=8\/k=9\/k=10\/k=11\/k=12\/k=13\/k=14\/k=15\/k=16\/k=17\/k=18\/k=19\/k=20\/k=21\/k=22\/k=23\/k=24\/k=25 by omega) with rfl | rfl | rfl | rfl | rfl | rfl | rfl | rfl | rfl | rfl | rfl | rfl | rfl | rfl | rfl | rfl | rfl | rfl | rfl | rfl | rfl | rfl | rfl | rfl | rfl <;> decide
theorem Uc (t:List UInt8) (h:∀ k,1<=k->k<=25->As.names.getD k []≠t):As.named t=0:=by
 unfold As.named;have e:(List.range 26).find? (fun k=>decide (1<=k) && As.names.getD k [] == t)=none:=by
  rw [List.find?_eq_none];intro k hk;rw [List.mem_range] at hk;simp only [Bool.and_eq_true,decide_eq_true_eq,beq_iff_eq,not_and];intro h1;exact h k h1 (by omega)
 rw [e];rfl
theorem yfX (t:List UInt8) (w:World) (ht:pQ w) :
  Calls Tryz.prog 65 #[.string (bs t)] w fun e w'=>e = .returned (.int .i64 (As.named t:Nat))/\w'=w:=by
 have HT:=hid ht;have NA:=hid UG;have NN:=hid (Uc t);clear ht;generalize hX:As.named t=X at *;have HX:=hid hX;clear hX;go_enter Tryz.func65,Tryz.ntmps65;go_wp2
 go_loop [3] (fun i=>∃ k:Nat,1<=k/\k<=26/\i = .int .i64 k/\∀ j,1<=j->j < k->As.names.getD j []≠t) (fun i=>26 - (intOf i).toNat)
 case atStart=>exact ⟨1,Nat.le_refl _,by omega,rfl,fun j h1 h2=>by omega⟩
 case round =>
  obtain ⟨k,hk1,hk2,rfl,hall⟩:=hrel;have HA:=hid hall;clear hall;by_cases hlt:k<=25
  ·have cx:=HT.o k (by omega);have NK:=hid (NA.o k hk1 hlt);have g1:(1:Int)<=(k:Int):=by omega
   have g2:(k:Int)<=25:=by omega
   generalize hnm:As.names.getD k []=nm at *;have QC:=hid hnm;clear hnm;by_cases e1:nm=t
   ·have b1:((bs nm).toList == (bs t).toList)=true:=by rw [e1]; simp
    have E:=hid (show X=k by rw [<- HX.o,<- e1]; exact NK.o);clear e1;go_wp2;go_ret;exact ⟨by rw [E.o]; rfl,rfl⟩
   ·have E:=hid e1;have b1:((bs nm).toList == (bs t).toList)=false:=by rw [yA,yA]; simpa using e1
    clear e1;go_wp2
    go_round
    case rel=>exact ⟨k+1,by omega,by omega,by go_num,fun j hj hjk=>(Nat.lt_succ_iff_lt_or_eq.1 hjk).elim (fun h=>HA.o j hj h) (fun h=>by subst h; rw [QC.o]; exact E.o)⟩
    case measure=>simp [intOf]; omega
  ·have g2:(25:Int) < (k:Int):=by omega
   have E:=hid (NN.o (fun j h1 h2=>HA.o j h1 (by omega)));go_wp2;go_ret;exact ⟨by rw [E.o]; rfl,rfl⟩
theorem yhq (B:Nat) (s:ByteArray) (b g:Nat) (st:As.St) (shape:Nat) (W:World) (h:yl B s b g st W) (h1:1<=shape) (h2:shape<=19) :
  Calls Tryz.prog 63 #[.pointer (some ⟨b,0,none⟩),.int .i64 shape] W fun e W'=>e = .returned (.bool (As.dX shape st.ah))/\W'=W:=by
 have c:=zi h;have cI:=hid (Xj B s b g st W h);have hs:=h.ok.ah;clear h;generalize st.ah=ah at *;have RS:=hid (show As.dX shape ah=if shape<=14 then As.gL ah else !(shape == 16) || !(ah == 4) from rfl);generalize As.dX shape ah=X at *;by_cases El:shape<=14
 ·have d:decide ((shape:Int)<=14)=true:=by simp; omega
  rw [if_pos El] at RS;clear El;go_enter Tryz.func63,Tryz.ntmps63;go_wp2_with fail;refine cI.o.mono ?_;rintro e w1 ⟨rfl,rfl⟩;go_wp2;go_ret;exact ⟨by rw [RS.o]; rfl,rfl⟩
 ·have d:decide ((shape:Int)<=14)=false:=by simp; omega
  rw [if_neg El] at RS;by_cases h16:shape=16
  ·have d1:((shape:Int) == 16)=true:=by simp; omega
   have d1':((shape:Int) != 16)=false:=by simp; omega
   rw [show (shape == 16)=true by simp [h16]] at RS;clear El h16 h1 h2;rcases (show ah=1\/ah=2\/ah=3\/ah=4 by omega) with rfl | rfl | rfl | rfl
   all_goals
    go_enter Tryz.func63,Tryz.ntmps63;go_wp2;go_ret;exact ⟨by rw [RS.o]; rfl,rfl⟩
  ·have d1:((shape:Int) == 16)=false:=by simp; omega
   have d1':((shape:Int) != 16)=true:=by simp; omega
   rw [show (shape == 16)=false by simp [h16]] at RS;clear El h16 h1 h2;go_enter Tryz.func63,Tryz.ntmps63;go_wp2;go_ret;exact ⟨by rw [RS.o]; rfl,rfl⟩
theorem yfv (B:Nat) (s:ByteArray) (b g:Nat) (st:As.St) (shape op:Nat) (W:World) (h:yl B s b g st W) (h1:1<=shape) (h2:shape<=14) (ho:shape=1\/shape=2\/shape=8->1<=op/\op<=25) :
  Calls Tryz.prog 64 #[.pointer (some ⟨b,0,none⟩),.int .i64 shape,.int .i64 op] W fun en W'=>en = .returned (.tuple #[])/\Does B s b g W (As.instruction (sl s) shape op st) W':=by
 rcases (show shape=1\/shape=2\/shape=3\/shape=4\/shape=5\/shape=6\/shape=7\/shape=8\/shape=9\/shape=10\/shape=11\/shape=12\/shape=13\/shape=14 by omega) with rfl | rfl | rfl | rfl | rfl | rfl | rfl | rfl | rfl | rfl | rfl | rfl | rfl | rfl
 ·have c:=hid (ygH B s b g st op W h (ho (by omega)).1 (ho (by omega)).2);have RS:=hid (show As.instruction (sl s) 1 op st=As.bA (sl s) op st from by unfold As.instruction; rw [if_pos rfl]);generalize As.instruction (sl s) 1 op st=X at *;clear h ho h1 h2;go_enter Tryz.func64,Tryz.ntmps64;go_wp2_with fail;refine c.o.mono ?_;rintro e VF ⟨rfl,hh⟩;have DF:=hid hh;clear hh c;go_wp2
  go_end0
  rw [RS.o];exact ⟨rfl,DF.o⟩
 ·have c:=hid (ygf B s b g st op W h (ho (by omega)).1 (ho (by omega)).2);have RS:=hid (show As.instruction (sl s) 2 op st=As.bC (sl s) op st from by unfold As.instruction; rw [if_neg (by decide),if_pos rfl]);generalize As.instruction (sl s) 2 op st=X at *;clear h ho h1 h2;go_enter Tryz.func64,Tryz.ntmps64;go_wp2_with fail;refine c.o.mono ?_;rintro e VF ⟨rfl,hh⟩;have DF:=hid hh;clear hh c;go_wp2
  go_end0
  rw [RS.o];exact ⟨rfl,DF.o⟩
 ·have c:=hid (yjx B s b g st W h);have RS:=hid (show As.instruction (sl s) 3 op st=As.upper (sl s) st from by unfold As.instruction; rw [if_neg (by decide),if_neg (by decide),if_pos rfl]);generalize As.instruction (sl s) 3 op st=X at *;clear h ho h1 h2;go_enter Tryz.func64,Tryz.ntmps64;go_wp2_with fail;refine c.o.mono ?_;rintro e VF ⟨rfl,hh⟩;have DF:=hid hh;clear hh c;go_wp2
  go_end0
  rw [RS.o];exact ⟨rfl,DF.o⟩
 ·have c:=hid (yjS B s b g st W h);have RS:=hid (show As.instruction (sl s) 4 op st=As.load (sl s) st from by unfold As.instruction; rw [if_neg (by decide),if_neg (by decide),if_neg (by decide),if_pos rfl]);generalize As.instruction (sl s) 4 op st=X at *;clear h ho h1 h2;go_enter Tryz.func64,Tryz.ntmps64;go_wp2_with fail;refine c.o.mono ?_;rintro e VF ⟨rfl,hh⟩;have DF:=hid hh;clear hh c;go_wp2
  go_end0
  rw [RS.o];exact ⟨rfl,DF.o⟩
 ·have c:=hid (yjr B s b g st W h);have RS:=hid (show As.instruction (sl s) 5 op st=As.store (sl s) st from by unfold As.instruction; rw [if_neg (by decide),if_neg (by decide),if_neg (by decide),if_neg (by decide),if_pos rfl]);generalize As.instruction (sl s) 5 op st=X at *;clear h ho h1 h2;go_enter Tryz.func64,Tryz.ntmps64;go_wp2_with fail;refine c.o.mono ?_;rintro e VF ⟨rfl,hh⟩;have DF:=hid hh;clear hh c;go_wp2
  go_end0
  rw [RS.o];exact ⟨rfl,DF.o⟩
 ·have c:=hid (yff B s b g st W h);have RS:=hid (show As.instruction (sl s) 6 op st=As.bN (sl s) st from by unfold As.instruction; rw [if_neg (by decide),if_neg (by decide),if_neg (by decide),if_neg (by decide),if_neg (by decide),if_pos rfl]);generalize As.instruction (sl s) 6 op st=X at *;clear h ho h1 h2;go_enter Tryz.func64,Tryz.ntmps64;go_wp2_with fail;refine c.o.mono ?_;rintro e VF ⟨rfl,hh⟩;have DF:=hid hh;clear hh c;go_wp2
  go_end0
  rw [RS.o];exact ⟨rfl,DF.o⟩
 ·have c:=hid (yjz B s b g st W h);have RS:=hid (show As.instruction (sl s) 7 op st=As.bare st from by unfold As.instruction; rw [if_neg (by decide),if_neg (by decide),if_neg (by decide),if_neg (by decide),if_neg (by decide),if_neg (by decide),if_pos rfl]);generalize As.instruction (sl s) 7 op st=X at *;clear h ho h1 h2;go_enter Tryz.func64,Tryz.ntmps64;go_wp2_with fail;refine c.o.mono ?_;rintro e VF ⟨rfl,hh⟩;have DF:=hid hh;clear hh c;go_wp2
  go_end0
  rw [RS.o];exact ⟨rfl,DF.o⟩
 ·have c:=hid (yir B s b g st op W h (ho (by omega)).1 (ho (by omega)).2);have RS:=hid (show As.instruction (sl s) 8 op st=As.branch (sl s) op st from by unfold As.instruction; rw [if_neg (by decide),if_neg (by decide),if_neg (by decide),if_neg (by decide),if_neg (by decide),if_neg (by decide),if_neg (by decide),if_pos rfl]);generalize As.instruction (sl s) 8 op st=X at *;clear h ho h1 h2;go_enter Tryz.func64,Tryz.ntmps64;go_wp2_with fail;refine c.o.mono ?_;rintro e VF ⟨rfl,hh⟩;have DF:=hid hh;clear hh c;go_wp2
  go_end0
  rw [RS.o];exact ⟨rfl,DF.o⟩
 ·have c:=hid (yhm B s b g st W h);have RS:=hid (show As.instruction (sl s) 9 op st=As.eX (sl s) st from by unfold As.instruction; rw [if_neg (by decide),if_neg (by decide),if_neg (by decide),if_neg (by decide),if_neg (by decide),if_neg (by decide),if_neg (by decide),if_neg (by decide),if_pos rfl]);generalize As.instruction (sl s) 9 op st=X at *;clear h ho h1 h2;go_enter Tryz.func64,Tryz.ntmps64;go_wp2_with fail;refine c.o.mono ?_;rintro e VF ⟨rfl,hh⟩;have DF:=hid hh;clear hh c;go_wp2
  go_end0
  rw [RS.o];exact ⟨rfl,DF.o⟩
 ·have c:=hid (yjO B s b g st W h);have RS:=hid (show As.instruction (sl s) 10 op st=As.fE (sl s) 0 st from by unfold As.instruction; rw [if_neg (by decide),if_neg (by decide),if_neg (by decide),if_neg (by decide),if_neg (by decide),if_neg (by decide),if_neg (by decide),if_neg (by decide),if_neg (by decide),if_pos rfl]);generalize As.instruction (sl s) 10 op st=X at *;clear h ho h1 h2;go_enter Tryz.func64,Tryz.ntmps64;go_wp2_with fail;refine c.o.mono ?_;rintro e VF ⟨rfl,hh⟩;have DF:=hid hh;clear hh c;go_wp2
  go_end0
  rw [RS.o];exact ⟨rfl,DF.o⟩
 ·have c:=hid (yjV B s b g st W h);have RS:=hid (show As.instruction (sl s) 11 op st=As.move (sl s) st from by unfold As.instruction; rw [if_neg (by decide),if_neg (by decide),if_neg (by decide),if_neg (by decide),if_neg (by decide),if_neg (by decide),if_neg (by decide),if_neg (by decide),if_neg (by decide),if_neg (by decide),if_pos rfl]);generalize As.instruction (sl s) 11 op st=X at *;clear h ho h1 h2;go_enter Tryz.func64,Tryz.ntmps64;go_wp2_with fail;refine c.o.mono ?_;rintro e VF ⟨rfl,hh⟩;have DF:=hid hh;clear hh c;go_wp2
  go_end0
  rw [RS.o];exact ⟨rfl,DF.o⟩
 ·have c:=hid (yfY B s b g st W h);have RS:=hid (show As.instruction (sl s) 12 op st=As.bZ (sl s) st from by unfold As.instruction; rw [if_neg (by decide),if_neg (by decide),if_neg (by decide),if_neg (by decide),if_neg (by decide),if_neg (by decide),if_neg (by decide),if_neg (by decide),if_neg (by decide),if_neg (by decide),if_neg (by decide),if_pos rfl]);generalize As.instruction (sl s) 12 op st=X at *;clear h ho h1 h2;go_enter Tryz.func64,Tryz.ntmps64;go_wp2_with fail;refine c.o.mono ?_;rintro e VF ⟨rfl,hh⟩;have DF:=hid hh;clear hh c;go_wp2
  go_end0
  rw [RS.o];exact ⟨rfl,DF.o⟩
 ·have c:=hid (yjB B s b g st W h);have RS:=hid (show As.instruction (sl s) 13 op st=As.call (sl s) st from by unfold As.instruction; rw [if_neg (by decide),if_neg (by decide),if_neg (by decide),if_neg (by decide),if_neg (by decide),if_neg (by decide),if_neg (by decide),if_neg (by decide),if_neg (by decide),if_neg (by decide),if_neg (by decide),if_neg (by decide),if_pos rfl]);generalize As.instruction (sl s) 13 op st=X at *;clear h ho h1 h2;go_enter Tryz.func64,Tryz.ntmps64;go_wp2_with fail;refine c.o.mono ?_;rintro e VF ⟨rfl,hh⟩;have DF:=hid hh;clear hh c;go_wp2
  go_end0
  rw [RS.o];exact ⟨rfl,DF.o⟩
 ·have c:=hid (yfx B s b g st W h);have RS:=hid (show As.instruction (sl s) 14 op st=As.bS (sl s) st from by unfold As.instruction; rw [if_neg (by decide),if_neg (by decide),if_neg (by decide),if_neg (by decide),if_neg (by decide),if_neg (by decide),if_neg (by decide),if_neg (by decide),if_neg (by decide),if_neg (by decide),if_neg (by decide),if_neg (by decide),if_neg (by decide),if_pos rfl]);generalize As.instruction (sl s) 14 op st=X at *;clear h ho h1 h2;go_enter Tryz.func64,Tryz.ntmps64;go_wp2_with fail;refine c.o.mono ?_;rintro e VF ⟨rfl,hh⟩;have DF:=hid hh;clear hh c;go_wp2
  go_end0
  rw [RS.o];exact ⟨rfl,DF.o⟩
theorem ygC (B:Nat) (s:ByteArray) (b g:Nat) (st:As.St) (shape:Nat) (W:World) (h:yl B s b g st W) (h1:15<=shape) (h2:shape<=19) :
  Calls Tryz.prog 66 #[.pointer (some ⟨b,0,none⟩),.int .i64 shape] W fun en W'=>en = .returned (.tuple #[])/\Does B s b g W (As.directive (sl s) shape st) W':=by
 rcases (show shape=15\/shape=16\/shape=17\/shape=18\/shape=19 by omega) with rfl | rfl | rfl | rfl | rfl
 ·have HW:=hid h;have c:=hid (yhV B s b g st W h);have RS:=hid (show As.directive (sl s) 15 st=As.dz st from rfl);generalize As.directive (sl s) 15 st=X at *;clear h h1 h2;go_enter Tryz.func66,Tryz.ntmps66;go_wp2_with fail;refine c.o.mono ?_;rintro e VF ⟨rfl,hh⟩;have DF:=hid (hh.does HW.o);clear hh c;go_wp2
  go_end0
  rw [RS.o];exact ⟨rfl,DF.o⟩
 ·have HW:=hid h;have c:=hid (yko B s b g st W h);have RS:=hid (show As.directive (sl s) 16 st=As.word (sl s) st from rfl);generalize As.directive (sl s) 16 st=X at *;clear h h1 h2;go_enter Tryz.func66,Tryz.ntmps66;go_wp2_with fail;refine c.o.mono ?_;rintro e VF ⟨rfl,hh⟩;have DF:=hid hh;clear hh c;go_wp2
  go_end0
  rw [RS.o];exact ⟨rfl,DF.o⟩
 ·have HW:=hid h;have c:=hid (yjq B s b g st W h);have RS:=hid (show As.directive (sl s) 17 st=As.space (sl s) st from rfl);generalize As.directive (sl s) 17 st=X at *;clear h h1 h2;go_enter Tryz.func66,Tryz.ntmps66;go_wp2_with fail;refine c.o.mono ?_;rintro e VF ⟨rfl,hh⟩;have DF:=hid hh;clear hh c;go_wp2
  go_end0
  rw [RS.o];exact ⟨rfl,DF.o⟩
 ·have HW:=hid h;have c:=hid (yiS B s b g st W h);have RS:=hid (show As.directive (sl s) 18 st=As.align (sl s) st from rfl);generalize As.directive (sl s) 18 st=X at *;clear h h1 h2;go_enter Tryz.func66,Tryz.ntmps66;go_wp2_with fail;refine c.o.mono ?_;rintro e VF ⟨rfl,hh⟩;have DF:=hid hh;clear hh c;go_wp2
  go_end0
  rw [RS.o];exact ⟨rfl,DF.o⟩
 ·have HW:=hid h;have c:=hid (yhJ B s b g st W h);have RS:=hid (show As.directive (sl s) 19 st=As.binding (sl s) st from rfl);generalize As.directive (sl s) 19 st=X at *;clear h h1 h2;go_enter Tryz.func66,Tryz.ntmps66;go_wp2_with fail;refine c.o.mono ?_;rintro e VF ⟨rfl,hh⟩;have DF:=hid hh;clear hh c;go_wp2
  go_end0
  rw [RS.o];exact ⟨rfl,DF.o⟩
theorem Wq (t:List UInt8):As.eU t=0\/(15<=As.eU t/\As.eU t<=19):=by
 unfold As.eU
 repeat' split
 all_goals omega
theorem yhY (t:List UInt8):As.shapeOf t<=19:=by
 have hd:=Wq t;unfold As.shapeOf;by_cases h:t=[97,100,100]
 ·rw [if_pos h]; omega
 rw [if_neg h];clear h;by_cases h:t=[115,117,98]
 ·rw [if_pos h]; omega
 rw [if_neg h];clear h;by_cases h:t=[115,108,116]
 ·rw [if_pos h]; omega
 rw [if_neg h];clear h;by_cases h:t=[115,108,116,117]
 ·rw [if_pos h]; omega
 rw [if_neg h];clear h;by_cases h:t=[120,111,114]
 ·rw [if_pos h]; omega
 rw [if_neg h];clear h;by_cases h:t=[111,114]
 ·rw [if_pos h]; omega
 rw [if_neg h];clear h;by_cases h:t=[97,110,100]
 ·rw [if_pos h]; omega
 rw [if_neg h];clear h;by_cases h:t=[97,100,100,105]
 ·rw [if_pos h]; omega
 rw [if_neg h];clear h;by_cases h:t=[115,108,116,105]
 ·rw [if_pos h]; omega
 rw [if_neg h];clear h;by_cases h:t=[120,111,114,105]
 ·rw [if_pos h]; omega
 rw [if_neg h];clear h;by_cases h:t=[111,114,105]
 ·rw [if_pos h]; omega
 rw [if_neg h];clear h;by_cases h:t=[97,110,100,105]
 ·rw [if_pos h]; omega
 rw [if_neg h];clear h;by_cases h:t=[108,117,105]
 ·rw [if_pos h]; omega
 rw [if_neg h];clear h;by_cases h:t=[108,119]
 ·rw [if_pos h]; omega
 rw [if_neg h];clear h;by_cases h:t=[115,119]
 ·rw [if_pos h]; omega
 rw [if_neg h];clear h;by_cases h:t=[106,97,108,114]
 ·rw [if_pos h]; omega
 rw [if_neg h];clear h;by_cases h:t=[101,99,97,108,108]
 ·rw [if_pos h]; omega
 rw [if_neg h];clear h;by_cases h:t=[114,101,116]
 ·rw [if_pos h]; omega
 rw [if_neg h];clear h;by_cases h:t=[110,111,112]
 ·rw [if_pos h]; omega
 rw [if_neg h];clear h;by_cases h:t=[98,101,113]
 ·rw [if_pos h]; omega
 rw [if_neg h];clear h;by_cases h:t=[98,110,101]
 ·rw [if_pos h]; omega
 rw [if_neg h];clear h;by_cases h:t=[98,108,116]
 ·rw [if_pos h]; omega
 rw [if_neg h];clear h;by_cases h:t=[98,103,101]
 ·rw [if_pos h]; omega
 rw [if_neg h];clear h;by_cases h:t=[98,108,116,117]
 ·rw [if_pos h]; omega
 rw [if_neg h];clear h;by_cases h:t=[98,103,101,117]
 ·rw [if_pos h]; omega
 rw [if_neg h];clear h;by_cases h:t=[106,97,108]
 ·rw [if_pos h]; omega
 rw [if_neg h];clear h;by_cases h:t=[106]
 ·rw [if_pos h]; omega
 rw [if_neg h];clear h;by_cases h:t=[109,118]
 ·rw [if_pos h]; omega
 rw [if_neg h];clear h;by_cases h:t=[108,105]
 ·rw [if_pos h]; omega
 rw [if_neg h];clear h;by_cases h:t=[99,97,108,108]
 ·rw [if_pos h]; omega
 rw [if_neg h];clear h;by_cases h:t=[116,97,105,108]
 ·rw [if_pos h]; omega
 rw [if_neg h];clear h;by_cases h:t=[108,97]
 ·rw [if_pos h]; omega
 rw [if_neg h];clear h;omega
theorem yhX (t:List UInt8) (hh:As.shapeOf t=1\/As.shapeOf t=2\/As.shapeOf t=8):1<=As.named t/\As.named t<=25:=by
 have hd:=Wq t;generalize hx:As.shapeOf t=x at *;unfold As.shapeOf at hx;by_cases h:t=[97,100,100]
 ·subst h; decide
 rw [if_neg h] at hx;clear h;by_cases h:t=[115,117,98]
 ·subst h; decide
 rw [if_neg h] at hx;clear h;by_cases h:t=[115,108,116]
 ·subst h; decide
 rw [if_neg h] at hx;clear h;by_cases h:t=[115,108,116,117]
 ·subst h; decide
 rw [if_neg h] at hx;clear h;by_cases h:t=[120,111,114]
 ·subst h; decide
 rw [if_neg h] at hx;clear h;by_cases h:t=[111,114]
 ·subst h; decide
 rw [if_neg h] at hx;clear h;by_cases h:t=[97,110,100]
 ·subst h; decide
 rw [if_neg h] at hx;clear h;by_cases h:t=[97,100,100,105]
 ·subst h; decide
 rw [if_neg h] at hx;clear h;by_cases h:t=[115,108,116,105]
 ·subst h; decide
 rw [if_neg h] at hx;clear h;by_cases h:t=[120,111,114,105]
 ·subst h; decide
 rw [if_neg h] at hx;clear h;by_cases h:t=[111,114,105]
 ·subst h; decide
 rw [if_neg h] at hx;clear h;by_cases h:t=[97,110,100,105]
 ·subst h; decide
 rw [if_neg h] at hx;clear h;by_cases h:t=[108,117,105]
 ·rw [if_pos h] at hx; omega
 rw [if_neg h] at hx;clear h;by_cases h:t=[108,119]
 ·rw [if_pos h] at hx; omega
 rw [if_neg h] at hx;clear h;by_cases h:t=[115,119]
 ·rw [if_pos h] at hx; omega
 rw [if_neg h] at hx;clear h;by_cases h:t=[106,97,108,114]
 ·rw [if_pos h] at hx; omega
 rw [if_neg h] at hx;clear h;by_cases h:t=[101,99,97,108,108]
 ·rw [if_pos h] at hx; omega
 rw [if_neg h] at hx;clear h;by_cases h:t=[114,101,116]
 ·rw [if_pos h] at hx; omega
 rw [if_neg h] at hx;clear h;by_cases h:t=[110,111,112]
 ·rw [if_pos h] at hx; omega
 rw [if_neg h] at hx;clear h;by_cases h:t=[98,101,113]
 ·subst h; decide
 rw [if_neg h] at hx;clear h;by_cases h:t=[98,110,101]
 ·subst h; decide
 rw [if_neg h] at hx;clear h;by_cases h:t=[98,108,116]
 ·subst h; decide
 rw [if_neg h] at hx;clear h;by_cases h:t=[98,103,101]
 ·subst h; decide
 rw [if_neg h] at hx;clear h;by_cases h:t=[98,108,116,117]
 ·subst h; decide
 rw [if_neg h] at hx;clear h;by_cases h:t=[98,103,101,117]
 ·subst h; decide
 rw [if_neg h] at hx;clear h;by_cases h:t=[106,97,108]
 ·rw [if_pos h] at hx; omega
 rw [if_neg h] at hx;clear h;by_cases h:t=[106]
 ·rw [if_pos h] at hx; omega
 rw [if_neg h] at hx;clear h;by_cases h:t=[109,118]
 ·rw [if_pos h] at hx; omega
 rw [if_neg h] at hx;clear h;by_cases h:t=[108,105]
 ·rw [if_pos h] at hx; omega
 rw [if_neg h] at hx;clear h;by_cases h:t=[99,97,108,108]
 ·rw [if_pos h] at hx; omega
 rw [if_neg h] at hx;clear h;by_cases h:t=[116,97,105,108]
 ·rw [if_pos h] at hx; omega
 rw [if_neg h] at hx;clear h;by_cases h:t=[108,97]
 ·rw [if_pos h] at hx; omega
 rw [if_neg h] at hx;clear h;omega
theorem jH.op' {s:ByteArray} {st:As.St} (h:jH s st) (t:As.Tok) (ht:Aw t):jH s { st with op:=t } :=
 ⟨h.size,h.p,h.tok,h.fe,h.fa,ht,h.ah,h.text,h.far,h.data,h.bss,h.align,h.syms,h.aj⟩
theorem WX (B:Nat) (s:ByteArray) (b g:Nat) (st:As.St) (t:As.Tok) (W:World) (h:yl B s b g st W) (ht:Aw t) (hN:pQ W) :
  Calls Tryz.prog 37 #[.pointer (some ⟨b,0,none⟩),tokA t] W fun en W'=>en = .returned (.tuple #[])/\Does B s b g W (As.operation (sl s) t st) W':=by
 have HW:=hid h;have HN:=hid hN;have HT:=hid ht;have L0:=hid ((Loc.begin h).alloc (kQ t) 62);have hbl:=h.blk.lt;clear h ht hN;have RS:=hid (show As.operation (sl s) t st=if As.shapeOf t.text=0 then As.refuse 6 t.pos st else if !As.dX (As.shapeOf t.text) st.ah then As.refuse 9 t.pos st else if As.shapeOf t.text<=14 then As.instruction (sl s) (As.shapeOf t.text) (As.named t.text) { st with op:=t } else As.directive (sl s) (As.shapeOf t.text) { st with op:=t } from rfl);have cS:=hid (fun V=>yhW t.text V);have Nb:=yhY t.text;have SN:=hid (yhX t.text);generalize As.operation (sl s) t st=X at *;generalize As.shapeOf t.text=shape at *
 unfold tokA;go_enter Tryz.func37,Tryz.ntmps37;go_wp2_with fail;refine Calls.fO (Loc B s b g W [(W.heap.size,kQ t,62)] st) L0.o ?_;clear L0;generalize hr:W.heap.size=r at *;clear hr;intro V hV;have L:=hid hV;clear hV;refine (cS.o V).mono ?_;rintro e w1 ⟨rfl,rfl⟩;clear cS;obtain ⟨m0,m1,m2,m3⟩:=(⟨L.o.d,L.o.l (r,kQ t,62) (by simp)⟩:lX B s b g W r t st w1).cells;have D:=hid (L.o.d.does HW.o);by_cases h0:shape=0
 ·have d:((shape:Int) == 0)=true:=by simp; omega
  rw [if_pos h0] at RS;clear h0;go_wp2_with fail;refine (yM B s b g st 6 t.pos w1 D.o.1 (by omega) HT.o.pos).mono ?_;rintro e V3 ⟨rfl,h3⟩;have D3:=hid (D.o.aR h3);clear h3;go_wp2
  (try simp only [Exit.inBlock,Exit.then]); refine bodyPost_ret (results_none rfl _ _ _) rfl ?_
  rw [RS.o];exact ⟨rfl,D3.o⟩
 have d:((shape:Int) == 0)=false:=by simp; omega
 rw [if_neg h0] at RS;go_wp2_with fail;refine (yhq B s b g st shape w1 D.o.1 (by omega) Nb).mono ?_;rintro e w2 ⟨rfl,rfl⟩
 cases hm:As.dX shape st.ah
 ·rw [hm,if_pos (show (!false)=true from rfl)] at RS;clear hm;go_wp2_with fail;refine (yM B s b g st 9 t.pos w2 D.o.1 (by omega) HT.o.pos).mono ?_;rintro e V3 ⟨rfl,h3⟩;have D3:=hid (D.o.aR h3);clear h3;go_wp2
  (try simp only [Exit.inBlock,Exit.then]); refine bodyPost_ret (results_none rfl _ _ _) rfl ?_
  rw [RS.o];exact ⟨rfl,D3.o⟩
 rw [hm,if_neg (by simp)] at RS;clear hm;have k9:=D.o.1.blk.free 9;have k10:=D.o.1.blk.free 10;have k11:=D.o.1.blk.free 11;have k12:=D.o.1.blk.free 12;have c9:=yP D.o.1 9;have c10:=yP D.o.1 10;have c11:=yP D.o.1 11;have c12:=yP D.o.1 12;simp only [yK,bB,yml,bf] at c9 c10 c11 c12;have hrb:r≠b:=(⟨L.o.d,L.o.l (r,kQ t,62) (by simp)⟩:lX B s b g W r t st w2).ne;have hbr:b≠r:=fun e=>hrb e.symm
 have P:=hid (L.o.d.sets [(9,.int .i64 t.kind),(10,.int .i64 t.pos),(11,.string (bs t.text)),(12,.int .i64 t.n)] { st with op:=t }
  (by simp only [nE,yK,jA,jE,iW,iR,iT]) rfl (D.o.1.ok.op' t HT.o))
 by_cases El:shape<=14
 ·have d2:decide ((shape:Int)<=14)=true:=by simp; omega
  rw [if_pos El] at RS;have cI:=hid (fun V hV=>yfv B s b g { st with op:=t } shape (As.named t.text) V hV (by omega) El SN.o);have cN:=hid (fun V (hV:pQ V)=>yfX t.text V hV);clear El;go_wp2_with fail;have PD:=hid (P.o.does HW.o);refine (cN.o _ (HN.o.below PD.o.2.1 PD.o.1.lo.1)).mono ?_;rintro e w3 ⟨rfl,hw3⟩;have Vp:Hd (Does B s b g W { st with op:=t } w3):=by rw [hw3]; exact PD.o
  clear hw3 PD cN m0 m1 m2 m3 c9 c10 c11 c12 k9 k10 k11 k12;go_wp2_with fail;refine (cI.o w3 Vp.o.1).mono ?_;rintro e VF ⟨rfl,hh⟩;have DF:=hid (Vp.o.after hh);clear hh;go_wp2
  first | go_end0 | ((try simp only [Exit.inBlock,Exit.then]); refine bodyPost_ret (results_none rfl _ _ _) rfl ?_)
  rw [RS.o];exact ⟨rfl,DF.o⟩
 ·have d2:decide ((shape:Int)<=14)=false:=by simp; omega
  rw [if_neg El] at RS;have cI:=hid (fun V hV=>ygC B s b g { st with op:=t } shape V hV (by omega) Nb);clear El;go_wp2_with fail;have PD:=hid (P.o.does HW.o);refine (cI.o _ PD.o.1).mono ?_;rintro e VF ⟨rfl,hh⟩;have DF:=hid (PD.o.after hh);clear hh;go_wp2
  first | go_end0 | ((try simp only [Exit.inBlock,Exit.then]); refine bodyPost_ret (results_none rfl _ _ _) rfl ?_)
  rw [RS.o];exact ⟨rfl,DF.o⟩
structure lW (B:Nat) (s:ByteArray) (b g:Nat) (W:World) (r:Nat) (t:As.Tok) (st:As.St) (V:World):Prop where
 d:Does B s b g W st V
 l:yd V r (kQ t) 62
 new:W.heap.size<=r
 lt:B<=W.heap.size
section
variable {B:Nat} {s:ByteArray} {b g r:Nat} {W V V':World} {t:As.Tok} {st st':As.St}
theorem lW.step (h:lW B s b g W r t st V) (k:Does B s b g V st' V'):lW B s b g W r t st' V' :=
 ⟨h.d.after k,k.2.2 r _ _ (by decide) (by decide) (by decide) (by decide) (by decide) h.l,h.new,h.lt⟩
theorem lW.Je (h:lW B s b g W r t st V) (k:kP B s b g V st' V'):lW B s b g W r t st' V':=h.step (k.does h.d.1)
theorem lW.grown (h:lW B s b g W r t st V) (k:V.grownBy V' none):lW B s b g W r t st V':=⟨h.d.grown k,h.l.grown k (by simp),h.new,h.lt⟩
theorem lW.begin (h:Does B s b g W st V) (hB:B<=W.heap.size) (t:As.Tok):lW B s b g W V.heap.size t st (V.alloc (.cells (kQ t) 62)) :=
 ⟨h.alloc _,yd.new V _ _,h.2.1.size,hB⟩
theorem lW.put (h:lW B s b g W r t st V) (t':As.Tok):lW B s b g W r t' st (sets V r [(0,.int .i64 t'.kind),(1,.int .i64 t'.pos),(2,.string (bs t'.text)),(3,.int .i64 t'.n)]) :=
 ⟨h.d.local h.l (by unfold w9; decide) h.lt h.new _,by
  have:=vG [(0,.int .i64 t'.kind),(1,.int .i64 t'.pos),(2,.string (bs t'.text)),(3,.int .i64 t'.n)] h.l
  simpa only [kQ,nE,jA,jE,iW,iR,iT] using this,h.new,h.lt⟩
theorem lW.cells (h:lW B s b g W r t st V):V.cell? ⟨r,0,none⟩=some (.int .i64 t.kind)/\V.cell? ⟨r,1,none⟩=some (.int .i64 t.pos)/\V.cell? ⟨r,2,none⟩=some (.string (bs t.text))/\V.cell? ⟨r,3,none⟩=some (.int .i64 t.n):=by
 have c0:=h.l.cell 0;have c1:=h.l.cell 1;have c2:=h.l.cell 2;have c3:=h.l.cell 3;simp only [kQ,bB,yml,bf] at c0 c1 c2 c3;exact ⟨c0,c1,c2,c3⟩
end
theorem WB (s:List UInt8) (st:As.St) (h:Aw st.tok):Aw (As.aU s st).1:=by
 unfold As.aU;split
 ·exact h
 ·exact LJ
def Jm (st:As.St):As.St:=if st.tok.kind == 4 then st else As.refuse 3 st.tok.pos st
theorem Xz (s:List UInt8) (t:As.Tok) (st:As.St) (h:(t.kind == 1)=false):As.gM s t st=Jm st:=by unfold As.gM Jm; rw [h]; rfl
theorem Xk (s:List UInt8) (t:As.Tok) (st:As.St) (h:(t.kind == 1)=true):As.gM s t st=Jm (As.operation s t st):=by unfold As.gM Jm; rw [h]; rfl
theorem PV (st:As.St) (h:(st.tok.kind == 4)=false):Jm st=As.refuse 3 st.tok.pos st:=by unfold Jm; rw [h]; rfl
theorem PL (st:As.St) (h:(st.tok.kind == 4)=true):Jm st=st:=by unfold Jm; rw [h]; rfl
theorem yjR (B:Nat) (s:ByteArray) (b g:Nat) (st:As.St) (W:World) (h:yl B s b g st W) (hN:pQ W) :
  Calls Tryz.prog 18 #[.pointer (some ⟨b,0,none⟩)] W fun en W'=>en = .returned (.tuple #[])/\Does B s b g W (As.line (sl s) st) W':=by
 have HW:=hid h;have HN:=hid hN;have cA:=hid (FT B s b g st W h);have HB:=hid h.size;clear h hN;obtain ⟨X,hX⟩:∃ X,X=As.line (sl s) st:=⟨_,rfl⟩
 rw [<- hX];unfold As.line at hX;dsimp only at hX;have RS:=hid hX;clear hX;go_enter Tryz.func18,Tryz.ntmps18;go_wp2_with fail;refine cA.o.mono ?_;rintro e V1 ⟨rfl,h1⟩;have D1:=hid (h1.does HW.o);clear h1 cA;generalize As.advance (sl s) st=st1 at *;have TW:=hid (WB (sl s) st1 D1.o.1.ok.tok);go_wp2_with fail;refine (Wz B s b g st1 V1 D1.o.1).mono ?_;rintro e V2 ⟨rfl,h2⟩;have D2:=hid (D1.o.aR h2);clear h2 D1;generalize As.aU (sl s) st1=R at *;obtain ⟨t,st2⟩:=R;dsimp only at RS D2 TW ⊢;have L0:=hid (lW.begin D2.o HB.o t);have hbl:b < V2.heap.size:=D2.o.1.blk.lt;have hbn:b≠V2.heap.size:=by omega
 obtain ⟨c2,c3,c4,c5⟩:=zx D2.o.1;clear D2;unfold tokA
 cases hk:(t.kind == 1)
 ·have d:((t.kind:Int) == 1)=false:=by simp at hk ⊢; omega
  rw [hk,Bool.false_and,if_neg (by simp)] at RS;rw [Xz _ _ _ hk] at RS;clear hk;have hpos:=L0.o.d.1.ok.tok.pos
  cases h4:(st2.tok.kind == 4)
  ·have e1:((st2.tok.kind:Int) == 4)=false:=by simp at h4 ⊢; omega
   have e2:((st2.tok.kind:Int) != 4)=true:=by simp at h4 ⊢; omega
   rw [PV _ h4] at RS;clear h4;go_wp2_with fail;refine (yM B s b g st2 3 st2.tok.pos _ L0.o.d.1 (by omega) hpos).mono ?_;rintro e VF ⟨rfl,hh⟩;have DF:=hid (L0.o.d.aR hh);clear hh;go_wp2
   go_end0
   rw [RS.o];exact ⟨rfl,DF.o⟩
  ·have e1:((st2.tok.kind:Int) == 4)=true:=by simp at h4 ⊢; omega
   have e2:((st2.tok.kind:Int) != 4)=false:=by simp at h4 ⊢; omega
   rw [PL _ h4] at RS;clear h4;go_wp2
   go_end0
   rw [RS.o];exact ⟨rfl,L0.o.d⟩
 ·have d:((t.kind:Int) == 1)=true:=by simp at hk ⊢; omega
  rw [hk,Bool.true_and] at RS;have HK:=hid hk;clear hk;go_wp2_with fail;refine (OA st2.tok [58] _).mono ?_;rintro e V3 ⟨rfl,hg⟩;have L1:=hid (L0.o.grown hg);clear hg L0 c2 c3 c4 c5;generalize V2.heap.size=r at *;obtain ⟨m0,m1,m2,m3⟩:=L1.o.cells
  cases hc:st2.tok.is [58]
  ·rw [hc,if_neg (by simp)] at RS;rw [Xk _ _ _ HK.o] at RS;clear hc;go_wp2_with fail;refine (WX B s b g st2 t _ L1.o.d.1 TW.o (HN.o.below L1.o.d.2.1 L1.o.d.1.lo.1)).mono ?_;rintro e V7 ⟨rfl,hh⟩;have L7:=hid (L1.o.step hh);clear hh;generalize As.operation (sl s) t st2=Aj at *;clear m0 m1 m2 m3;obtain ⟨b2,b3,b4,b5⟩:=zx L7.o.d.1;have hpos:=L7.o.d.1.ok.tok.pos
   cases h4:(Aj.tok.kind == 4)
   ·have e1:((Aj.tok.kind:Int) == 4)=false:=by simp at h4 ⊢; omega
    have e2:((Aj.tok.kind:Int) != 4)=true:=by simp at h4 ⊢; omega
    rw [PV _ h4] at RS;clear h4;go_wp2_with fail;refine (yM B s b g Aj 3 Aj.tok.pos _ L7.o.d.1 (by omega) hpos).mono ?_;rintro e VF ⟨rfl,hh⟩;have DF:=hid (L7.o.d.aR hh);clear hh;go_wp2
    go_end0
    rw [RS.o];exact ⟨rfl,DF.o⟩
   ·have e1:((Aj.tok.kind:Int) == 4)=true:=by simp at h4 ⊢; omega
    have e2:((Aj.tok.kind:Int) != 4)=false:=by simp at h4 ⊢; omega
    rw [PL _ h4] at RS;clear h4;go_wp2
    go_end0
    rw [RS.o];exact ⟨rfl,L7.o.d⟩
  ·rw [hc,if_pos rfl] at RS;clear hc;go_wp2_with fail;refine (yjb B s b g st2 t V3 L1.o.d.1 TW.o).mono ?_;rintro e V4 ⟨rfl,h4⟩;have L2:=hid (L1.o.step h4);clear h4 L1 m0 m1 m2 m3 TW HK;generalize As.label t st2=iV at *;go_wp2_with fail;refine (FT B s b g iV V4 L2.o.d.1).mono ?_;rintro e V5 ⟨rfl,h5⟩;have L3:=hid (L2.o.Je h5);clear h5 L2;generalize As.advance (sl s) iV=uK at *;have TW:=hid (WB (sl s) uK L3.o.d.1.ok.tok);go_wp2_with fail;refine (Wz B s b g uK V5 L3.o.d.1).mono ?_;rintro e V6 ⟨rfl,h6⟩;have L4:=hid (L3.o.Je h6);clear h6 L3;generalize As.aU (sl s) uK=R6 at *;obtain ⟨t6,Fy⟩:=R6;dsimp only at RS L4 TW ⊢
   unfold tokA;have L5:=hid (L4.o.put t6);have v0:=L4.o.l.free 0;have v1:=L4.o.l.free 1;have v2:=L4.o.l.free 2;have v3:=L4.o.l.free 3;obtain ⟨m0,m1,m2,m3⟩:=L4.o.cells;obtain ⟨b2,b3,b4,b5⟩:=zx L4.o.d.1;have hrb:r≠b:=by
    intro e;have h1:=L4.o.l;rw [e] at h1
    have:=h1.symm.trans L4.o.d.1.blk
    simp [kQ,yK] at this
   have hbr:b≠r:=fun e=>hrb e.symm
   clear L4 d
   cases hk:(t6.kind == 1)
   ·have d:((t6.kind:Int) == 1)=false:=by simp at hk ⊢; omega
    rw [Xz _ _ _ hk] at RS;clear hk;have hpos:=L5.o.d.1.ok.tok.pos
    cases h4:(Fy.tok.kind == 4)
    ·have e1:((Fy.tok.kind:Int) == 4)=false:=by simp at h4 ⊢; omega
     have e2:((Fy.tok.kind:Int) != 4)=true:=by simp at h4 ⊢; omega
     rw [PV _ h4] at RS;clear h4;go_wp2_with fail;refine (yM B s b g Fy 3 Fy.tok.pos _ L5.o.d.1 (by omega) hpos).mono ?_;rintro e VF ⟨rfl,hh⟩;have DF:=hid (L5.o.d.aR hh);clear hh;go_wp2
     go_end0
     rw [RS.o];exact ⟨rfl,DF.o⟩
    ·have e1:((Fy.tok.kind:Int) == 4)=true:=by simp at h4 ⊢; omega
     have e2:((Fy.tok.kind:Int) != 4)=false:=by simp at h4 ⊢; omega
     rw [PL _ h4] at RS;clear h4;go_wp2
     go_end0
     rw [RS.o];exact ⟨rfl,L5.o.d⟩
   ·have d:((t6.kind:Int) == 1)=true:=by simp at hk ⊢; omega
    rw [Xk _ _ _ hk] at RS;clear hk;go_wp2_with fail;refine (WX B s b g Fy t6 _ L5.o.d.1 TW.o (HN.o.below L5.o.d.2.1 L5.o.d.1.lo.1)).mono ?_;rintro e V7 ⟨rfl,hh⟩;have L7:=hid (L5.o.step hh);clear hh;generalize As.operation (sl s) t6 Fy=Aj at *;clear m0 m1 m2 m3 v0 v1 v2 v3 b2 b3 b4 b5;obtain ⟨b2,b3,b4,b5⟩:=zx L7.o.d.1;have hpos:=L7.o.d.1.ok.tok.pos
    cases h4:(Aj.tok.kind == 4)
    ·have e1:((Aj.tok.kind:Int) == 4)=false:=by simp at h4 ⊢; omega
     have e2:((Aj.tok.kind:Int) != 4)=true:=by simp at h4 ⊢; omega
     rw [PV _ h4] at RS;clear h4;go_wp2_with fail;refine (yM B s b g Aj 3 Aj.tok.pos _ L7.o.d.1 (by omega) hpos).mono ?_;rintro e VF ⟨rfl,hh⟩;have DF:=hid (L7.o.d.aR hh);clear hh;go_wp2
     go_end0
     rw [RS.o];exact ⟨rfl,DF.o⟩
    ·have e1:((Aj.tok.kind:Int) == 4)=true:=by simp at h4 ⊢; omega
     have e2:((Aj.tok.kind:Int) != 4)=false:=by simp at h4 ⊢; omega
     rw [PL _ h4] at RS;clear h4;go_wp2
     go_end0
     rw [RS.o];exact ⟨rfl,L7.o.d⟩
def ze (y:Lk.Sym):Lk.Sym:=if y.ah=0/\y.bind=0 then ⟨y.name,1,y.ah,y.off⟩ else y
theorem ygO (ys:List Lk.Sym):As.dL ys=ys.map ze:=rfl
def qQ (ys:List Lk.Sym) (k:Nat):List Lk.Sym:=(ys.take k).map ze ++ ys.drop k
theorem P9 (ys:List Lk.Sym) (k:Nat):(qQ ys k).length=ys.length:=by simp [qQ]; omega
theorem Uv (ys:List Lk.Sym) (k:Nat) (h:k < ys.length):(qQ ys k)[k]'(by rw [P9]; exact h)=ys[k]:=by
 unfold qQ;rw [List.getElem_append_right (by simp; omega)];simp [List.length_take,Nat.min_eq_left (Nat.le_of_lt h)]
theorem Ub (ys:List Lk.Sym) (k:Nat) (h:k < ys.length):qQ ys (k+1)=(qQ ys k).set k (ze ys[k]):=by
 unfold qQ;rw [List.take_succ_eq_append_getElem h,List.map_append,List.set_append_right _ _ (by simp; omega),Js h];have e:k - ((ys.take k).map ze).length=0:=by simp; omega
 rw [e,iT];simp
theorem XB (ys:List Lk.Sym):qQ ys ys.length=As.dL ys:=by rw [ygO]; simp [qQ]
theorem Xl (ys:List Lk.Sym) (k:Nat) (h:k < ys.length) (hb:ze ys[k]=ys[k]):qQ ys (k+1)=qQ ys k:=by
 rw [Ub ys k h,hb]
 conv=>lhs; rw [<- Uv ys k h]
 exact List.set_getElem_self _
def Lu (st:As.St) (ys:List Lk.Sym):As.St:={ st with obj:={ st.obj with syms:=ys } }
theorem ygN (B:Nat) (s:ByteArray) (b g:Nat) (st:As.St) (W:World) (h:yl B s b g st W) :
  Calls Tryz.prog 21 #[.pointer (some ⟨b,0,none⟩)] W fun en W'=>en = .returned (.tuple #[])/\Does B s b g W (Lu st (As.dL st.obj.syms)) W':=by
 have HW:=hid h;have c14:=wJ h;obtain ⟨vt,vf,vd,va,vs,vr,ho⟩:=h.own;obtain ⟨gu,cs,rfl⟩:=yi ho.syms;have g5:=ho.blk.cell 5;simp only [bB,yml,bf] at g5;have hn16:=h.ok.syms;clear ho h;generalize hys:st.obj.syms=ys at *;have ST0:=hid (show Lu st (qQ ys 0)=st by unfold Lu qQ; rw [<- hys]; simp);clear hys;go_enter Tryz.func21,Tryz.ntmps21;go_wp2;clear c14 g5
 go_loopw [11] (fun i wr=>∃ k:Nat,k<=ys.length/\i = .int .i64 k/\Does B s b g W (Lu st (qQ ys k)) wr) (fun i _=>ys.length - (intOf i).toNat)
 case atStart=>exact ⟨0,Nat.zero_le _,rfl,by rw [ST0.o]; exact HW.o.does⟩
 case round =>
  obtain ⟨k,hk,rfl,hd⟩:=hrel;have D:=hid hd;clear hd;by_cases hlt:k < ys.length
  ·have hlt':(k:Int) < (ys.length:Int):=by omega
   have hl:(Lu st (qQ ys k)).obj.syms.length=ys.length:=P9 ys k;obtain ⟨vt,vf,vd,va,sg,cs,vr,ho,g5,k1,k2,k3,hfz,n1,n2⟩:=Qh D.o.1 k (by rw [hl]; exact hlt);have e0:(Lu st (qQ ys k)).obj.syms[k]'(by rw [hl]; exact hlt)=ys[k]:=Uv ys k hlt;rw [e0] at k1 k2 k3;have hcap:=yZ ho.syms;have HO:=hid ho;have c14:=wJ D.o.1;have f1:=hfz (k * 4+1);have P:=hid (fun hj:iF (ze ys[k])=(iF ys[k]).set 1 (.int .i64 1)=>D.o.after (D.o.1.jW HO.o k 1 (by rw [hl]; exact hlt) (by omega) (.int .i64 1) (ze ys[k]) (by rw [e0]; exact hj)));rw [hl] at g5 hcap;clear ho hfz;have MS:=hid (Ub ys k hlt);have MM:=hid (Xl ys k hlt)
   have BO:=hid (show ze ys[k]=if ys[k].ah=0/\ys[k].bind=0 then ⟨ys[k].name,1,ys[k].ah,ys[k].off⟩ else ys[k] from rfl);have gg1:(0:Int)<=(k:Int):=by omega
   clear e0 HO hl;by_cases z1:ys[k].ah=0
   ·have d1:(ys[k].ah == 0)=true:=by simp [z1]
    by_cases z2:ys[k].bind=0
    ·have d2:(ys[k].bind == 0)=true:=by simp [z2]
     have B1:=hid (show ze ys[k]=⟨ys[k].name,1,ys[k].ah,ys[k].off⟩ by rw [BO.o,if_pos ⟨z1,z2⟩]);have F:=hid (P.o (by rw [B1.o]; rfl));clear z1 z2 P;go_wp2
     go_roundw
     case rel=>exact ⟨k+1,by omega,by go_num,by rw [MS.o]; exact F.o⟩
     case measure=>simp [intOf]; omega
    ·have d2:(ys[k].bind == 0)=false:=by simp [z2]
     have B1:=hid (show ze ys[k]=ys[k] by rw [BO.o,if_neg (fun c=>z2 c.2)]);clear z1 z2 P;go_wp2
     go_roundw
     case rel=>exact ⟨k+1,by omega,by go_num,by rw [MM.o B1.o]; exact D.o⟩
     case measure=>simp [intOf]; omega
   ·have d1:(ys[k].ah == 0)=false:=by simp [z1]
    have B1:=hid (show ze ys[k]=ys[k] by rw [BO.o,if_neg (fun c=>z1 c.1)]);clear z1 P;go_wp2
    go_roundw
    case rel=>exact ⟨k+1,by omega,by go_num,by rw [MM.o B1.o]; exact D.o⟩
    case measure=>simp [intOf]; omega
  ·obtain rfl:k=ys.length:=by omega
   go_wp2
   go_end0
   rw [<- XB];exact ⟨rfl,D.o⟩
end Go.Proofs.YtnkkepfcpjllmaaGreatDoor
