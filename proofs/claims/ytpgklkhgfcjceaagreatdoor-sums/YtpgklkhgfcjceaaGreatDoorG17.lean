/- Walks: the instructions of a text, those with names. -/
/- The assembler's symbols and borders are written. -/
/- The assembler: labels. -/
/- The assembler: what stands beside code. -/
import Derived.Test.YtpgklkhgfcjceaaGreatDoorG16
import Derived.Test.YtpgklkhgfcjceaaGreatDoorG14
namespace Go.Proofs.YtpgklkhgfcjceaaGreatDoor
open Go.RowKit
theorem ydm {B:Nat} {s:ByteArray} {b g:Nat} {st:As.St} {W:World} (h:yl B s b g st W):W.cell? ⟨b,11,none⟩=some (.string (bs st.op.text)):=by
 have c:=yL h 11
 simpa only [yE,ysk,ysl,ysj] using c
set_option maxRecDepth 100000 in
set_option maxHeartbeats 4000000 in
theorem yoY (B:Nat) (s:ByteArray) (b g:Nat) (st0:As.St) (W:World) (h:yl B s b g st0 W) :
  Calls Tryz.prog 142 #[.pointer (some ⟨b,0,none⟩)] W fun en W'=>en = .returned (.tuple #[])/\Does B s b g W (As.load (sl s) st0) W':=by
 have D0:=hid h.does
 clear h
 obtain ⟨X,hX⟩:∃ X,X=As.load (sl s) st0:=⟨_,rfl⟩
 rw [<- hX]
 unfold As.load at hX
 dsimp only at hX
 have RS:=hid hX
 clear hX
 go_enter Tryz.func142,Tryz.ntmps142
 go_wp2_with fail
 refine (yP B s b g st0 _ D0.out.1).mono ?_
 rintro e V1 ⟨rfl,hh⟩
 have D1:=hid (D0.out.afterB hh)
 clear hh D0
 generalize As.register (sl s) st0=R1 at *
 obtain ⟨rd,st1⟩:=R1
 dsimp only at RS D1 ⊢
 go_wp2_with fail
 refine (yav B s b g st1 [44] _ D1.out.1).mono ?_
 rintro e V2 ⟨rfl,hh⟩
 have D2:=hid (D1.out.afterB hh)
 clear hh D1
 generalize As.sign (sl s) [44] st1=st2 at *
 obtain ⟨c2,c3,c4,c5⟩:=ybh D2.out.1
 cases hk:(st2.tok.kind == 1)
 ·have d:((st2.tok.kind:Int) == 1)=false:=by simp at hk ⊢; omega
  have d':((st2.tok.kind:Int) != 1)=true:=by simp at hk ⊢; omega
  rw [hk] at RS
  rw [if_neg (by simp)] at RS
  clear hk
  go_wp2_with fail
  refine (yfB B s b g st2 _ D2.out.1).mono ?_
  rintro e V3 ⟨rfl,hh⟩
  have D3:=hid (D2.out.afterB hh)
  clear hh D2 c2 c3 c4 c5
  generalize As.place (sl s) st2=R3 at *
  obtain ⟨⟨n,rs1⟩,st3⟩:=R3
  dsimp only at RS D3 ⊢
  go_wp2_with fail
  refine (yaP B s b g st3 11 rd rs1 0 n _ D3.out.1 (by omega) (by omega)).mono ?_
  rintro e VF ⟨rfl,hh⟩
  have DF:=hid (D3.out.after hh)
  clear hh
  go_wp2
  first | go_end0 | ((try simp only [Exit.inBlock,Exit.then]); refine bodyPost_ret (results_none rfl _ _ _) rfl ?_)
  rw [RS.out]
  exact ⟨rfl,DF.out⟩
 ·have d:((st2.tok.kind:Int) == 1)=true:=by simp at hk ⊢; omega
  have d':((st2.tok.kind:Int) != 1)=false:=by simp at hk ⊢; omega
  rw [hk] at RS
  rw [if_pos rfl] at RS
  clear hk
  go_wp2_with fail
  refine (ydN B s b g st2 _ D2.out.1).mono ?_
  rintro e V3 ⟨rfl,hh⟩
  have D3:=hid (D2.out.after hh)
  clear hh D2 c2 c3 c4 c5
  generalize As.target (sl s) st2=R3 at *
  obtain ⟨⟨sym,add⟩,st3⟩:=R3
  dsimp only at RS D3 ⊢
  go_wp2_with fail
  refine (ydf B s b g st3 rd 11 rd rd 0 0 sym add _ D3.out.1 (by omega) (by omega)).mono ?_
  rintro e VF ⟨rfl,hh⟩
  have DF:=hid (D3.out.after hh)
  clear hh
  go_wp2
  first | go_end0 | ((try simp only [Exit.inBlock,Exit.then]); refine bodyPost_ret (results_none rfl _ _ _) rfl ?_)
  rw [RS.out]
  exact ⟨rfl,DF.out⟩
set_option maxRecDepth 100000 in
set_option maxHeartbeats 4000000 in
theorem yon (B:Nat) (s:ByteArray) (b g:Nat) (st0:As.St) (W:World) (h:yl B s b g st0 W) :
  Calls Tryz.prog 143 #[.pointer (some ⟨b,0,none⟩)] W fun en W'=>en = .returned (.tuple #[])/\Does B s b g W (As.store (sl s) st0) W':=by
 have D0:=hid h.does
 clear h
 obtain ⟨X,hX⟩:∃ X,X=As.store (sl s) st0:=⟨_,rfl⟩
 rw [<- hX]
 unfold As.store at hX
 dsimp only at hX
 have RS:=hid hX
 clear hX
 go_enter Tryz.func143,Tryz.ntmps143
 go_wp2_with fail
 refine (yP B s b g st0 _ D0.out.1).mono ?_
 rintro e V1 ⟨rfl,hh⟩
 have D1:=hid (D0.out.afterB hh)
 clear hh D0
 generalize As.register (sl s) st0=R1 at *
 obtain ⟨rs,st1⟩:=R1
 dsimp only at RS D1 ⊢
 go_wp2_with fail
 refine (yav B s b g st1 [44] _ D1.out.1).mono ?_
 rintro e V2 ⟨rfl,hh⟩
 have D2:=hid (D1.out.afterB hh)
 clear hh D1
 generalize As.sign (sl s) [44] st1=st2 at *
 obtain ⟨c2,c3,c4,c5⟩:=ybh D2.out.1
 cases hk:(st2.tok.kind == 1)
 ·have d:((st2.tok.kind:Int) == 1)=false:=by simp at hk ⊢; omega
  have d':((st2.tok.kind:Int) != 1)=true:=by simp at hk ⊢; omega
  rw [hk] at RS
  rw [if_neg (by simp)] at RS
  clear hk
  go_wp2_with fail
  refine (yfB B s b g st2 _ D2.out.1).mono ?_
  rintro e V3 ⟨rfl,hh⟩
  have D3:=hid (D2.out.afterB hh)
  clear hh D2 c2 c3 c4 c5
  generalize As.place (sl s) st2=R3 at *
  obtain ⟨⟨n,rs1⟩,st3⟩:=R3
  dsimp only at RS D3 ⊢
  go_wp2_with fail
  refine (yaP B s b g st3 12 0 rs1 rs n _ D3.out.1 (by omega) (by omega)).mono ?_
  rintro e VF ⟨rfl,hh⟩
  have DF:=hid (D3.out.after hh)
  clear hh
  go_wp2
  first | go_end0 | ((try simp only [Exit.inBlock,Exit.then]); refine bodyPost_ret (results_none rfl _ _ _) rfl ?_)
  rw [RS.out]
  exact ⟨rfl,DF.out⟩
 ·have d:((st2.tok.kind:Int) == 1)=true:=by simp at hk ⊢; omega
  have d':((st2.tok.kind:Int) != 1)=false:=by simp at hk ⊢; omega
  rw [hk] at RS
  rw [if_pos rfl] at RS
  clear hk
  go_wp2_with fail
  refine (ydN B s b g st2 _ D2.out.1).mono ?_
  rintro e V3 ⟨rfl,hh⟩
  have D3:=hid (D2.out.after hh)
  clear hh D2 c2 c3 c4 c5
  generalize As.target (sl s) st2=R3 at *
  obtain ⟨⟨sym,add⟩,st3⟩:=R3
  dsimp only at RS D3 ⊢
  go_wp2_with fail
  refine (yav B s b g st3 [44] _ D3.out.1).mono ?_
  rintro e V4 ⟨rfl,hh⟩
  have D4:=hid (D3.out.afterB hh)
  clear hh D3
  generalize As.sign (sl s) [44] st3=st4 at *
  go_wp2_with fail
  refine (yP B s b g st4 _ D4.out.1).mono ?_
  rintro e V5 ⟨rfl,hh⟩
  have D5:=hid (D4.out.afterB hh)
  clear hh D4
  generalize As.register (sl s) st4=R5 at *
  obtain ⟨rt,st5⟩:=R5
  dsimp only at RS D5 ⊢
  go_wp2_with fail
  refine (ydf B s b g st5 rt 12 0 rt rs 0 sym add _ D5.out.1 (by omega) (by omega)).mono ?_
  rintro e VF ⟨rfl,hh⟩
  have DF:=hid (D5.out.after hh)
  clear hh
  go_wp2
  first | go_end0 | ((try simp only [Exit.inBlock,Exit.then]); refine bodyPost_ret (results_none rfl _ _ _) rfl ?_)
  rw [RS.out]
  exact ⟨rfl,DF.out⟩
set_option maxRecDepth 100000 in
set_option maxHeartbeats 4000000 in
theorem ymg (B:Nat) (s:ByteArray) (b g:Nat) (st0:As.St) (op:Nat) (W:World) (h:yl B s b g st0 W) (h1:1<=op) (h2:op<=25) :
  Calls Tryz.prog 146 #[.pointer (some ⟨b,0,none⟩),.int .i64 op] W fun en W'=>en = .returned (.tuple #[])/\Does B s b g W (As.branch (sl s) op st0) W':=by
 have D0:=hid h.does
 clear h
 obtain ⟨X,hX⟩:∃ X,X=As.branch (sl s) op st0:=⟨_,rfl⟩
 rw [<- hX]
 unfold As.branch at hX
 dsimp only at hX
 have RS:=hid hX
 clear hX
 go_enter Tryz.func146,Tryz.ntmps146
 go_wp2_with fail
 refine (yP B s b g st0 _ D0.out.1).mono ?_
 rintro e V1 ⟨rfl,hh⟩
 have D1:=hid (D0.out.afterB hh)
 clear hh D0
 generalize As.register (sl s) st0=R1 at *
 obtain ⟨rs1,st1⟩:=R1
 dsimp only at RS D1 ⊢
 go_wp2_with fail
 refine (yav B s b g st1 [44] _ D1.out.1).mono ?_
 rintro e V2 ⟨rfl,hh⟩
 have D2:=hid (D1.out.afterB hh)
 clear hh D1
 generalize As.sign (sl s) [44] st1=st2 at *
 go_wp2_with fail
 refine (yP B s b g st2 _ D2.out.1).mono ?_
 rintro e V3 ⟨rfl,hh⟩
 have D3:=hid (D2.out.afterB hh)
 clear hh D2
 generalize As.register (sl s) st2=R3 at *
 obtain ⟨rs2,st3⟩:=R3
 dsimp only at RS D3 ⊢
 go_wp2_with fail
 refine (yav B s b g st3 [44] _ D3.out.1).mono ?_
 rintro e V4 ⟨rfl,hh⟩
 have D4:=hid (D3.out.afterB hh)
 clear hh D3
 generalize As.sign (sl s) [44] st3=st4 at *
 go_wp2_with fail
 refine (yda B s b g st4 _ D4.out.1).mono ?_
 rintro e V5 ⟨rfl,hh⟩
 have D5:=hid (D4.out.after hh)
 clear hh D4
 generalize As.symbol (sl s) st4=R5 at *
 obtain ⟨y,st5⟩:=R5
 dsimp only at RS D5 ⊢
 go_wp2_with fail
 refine (yat op 0 rs1 rs2 0 _ D5.out.1.tabs h1 h2).mono ?_
 rintro e V6 ⟨rfl,hg⟩
 have D6:=hid (D5.out.grown hg)
 clear hg D5
 generalize hst6:st5=st6 at *
 generalize As.enc op 0 rs1 rs2 0=x at *
 clear hst6
 go_wp2_with fail
 refine (ybm B s b g st6 2 y 0 _ 1 [(x:Int)] _ (D6.out.alloc _).1 (yfL V6 x) (by simp)).mono ?_
 rintro e VF ⟨rfl,hh⟩
 have DF:=hid ((D6.out.alloc _).after hh)
 clear hh
 go_wp2
 first | go_end0 | ((try simp only [Exit.inBlock,Exit.then]); refine bodyPost_ret (results_none rfl _ _ _) rfl ?_)
 rw [RS.out]
 exact ⟨rfl,DF.out⟩
set_option maxRecDepth 100000 in
set_option maxHeartbeats 4000000 in
theorem ygc (B:Nat) (s:ByteArray) (b g:Nat) (st0:As.St) (rd:Nat) (W:World) (h:yl B s b g st0 W) :
  Calls Tryz.prog 196 #[.pointer (some ⟨b,0,none⟩),.int .i64 rd] W fun en W'=>en = .returned (.tuple #[])/\Does B s b g W (As.layJump (sl s) rd st0) W':=by
 have D0:=hid h.does
 clear h
 obtain ⟨X,hX⟩:∃ X,X=As.layJump (sl s) rd st0:=⟨_,rfl⟩
 rw [<- hX]
 unfold As.layJump at hX
 dsimp only at hX
 have RS:=hid hX
 clear hX
 go_enter Tryz.func196,Tryz.ntmps196
 go_wp2_with fail
 refine (yda B s b g st0 _ D0.out.1).mono ?_
 rintro e V1 ⟨rfl,hh⟩
 have D1:=hid (D0.out.after hh)
 clear hh D0
 generalize As.symbol (sl s) st0=R1 at *
 obtain ⟨y,st1⟩:=R1
 dsimp only at RS D1 ⊢
 go_wp2_with fail
 refine (yat 3 rd 0 0 0 _ D1.out.1.tabs (by omega) (by omega)).mono ?_
 rintro e V2 ⟨rfl,hg⟩
 have D2:=hid (D1.out.grown hg)
 clear hg D1
 generalize hst2:st1=st2 at *
 generalize As.enc 3 rd 0 0 0=x at *
 clear hst2
 go_wp2_with fail
 refine (ybm B s b g st2 3 y 0 _ 1 [(x:Int)] _ (D2.out.alloc _).1 (yfL V2 x) (by simp)).mono ?_
 rintro e VF ⟨rfl,hh⟩
 have DF:=hid ((D2.out.alloc _).after hh)
 clear hh
 go_wp2
 first | go_end0 | ((try simp only [Exit.inBlock,Exit.then]); refine bodyPost_ret (results_none rfl _ _ _) rfl ?_)
 rw [RS.out]
 exact ⟨rfl,DF.out⟩
set_option maxRecDepth 100000 in
set_option maxHeartbeats 4000000 in
theorem yjC (B:Nat) (s:ByteArray) (b g:Nat) (st0:As.St) (W:World) (h:yl B s b g st0 W) :
  Calls Tryz.prog 147 #[.pointer (some ⟨b,0,none⟩)] W fun en W'=>en = .returned (.tuple #[])/\Does B s b g W (As.jumpLink (sl s) st0) W':=by
 have D0:=hid h.does
 clear h
 obtain ⟨X,hX⟩:∃ X,X=As.jumpLink (sl s) st0:=⟨_,rfl⟩
 rw [<- hX]
 unfold As.jumpLink at hX
 dsimp only at hX
 have RS:=hid hX
 clear hX
 go_enter Tryz.func147,Tryz.ntmps147
 go_wp2_with fail
 refine (yP B s b g st0 _ D0.out.1).mono ?_
 rintro e V1 ⟨rfl,hh⟩
 have D1:=hid (D0.out.afterB hh)
 clear hh D0
 generalize As.register (sl s) st0=R1 at *
 obtain ⟨rd,st1⟩:=R1
 dsimp only at RS D1 ⊢
 go_wp2_with fail
 refine (yav B s b g st1 [44] _ D1.out.1).mono ?_
 rintro e V2 ⟨rfl,hh⟩
 have D2:=hid (D1.out.afterB hh)
 clear hh D1
 generalize As.sign (sl s) [44] st1=st2 at *
 go_wp2_with fail
 refine (ygc B s b g st2 rd _ D2.out.1).mono ?_
 rintro e VF ⟨rfl,hh⟩
 have DF:=hid (D2.out.after hh)
 clear hh
 go_wp2
 first | go_end0 | ((try simp only [Exit.inBlock,Exit.then]); refine bodyPost_ret (results_none rfl _ _ _) rfl ?_)
 rw [RS.out]
 exact ⟨rfl,DF.out⟩
set_option maxHeartbeats 1000000 in
theorem yoS (B:Nat) (s:ByteArray) (b g:Nat) (st0:As.St) (W:World) (h:yl B s b g st0 W) :
  Calls Tryz.prog 148 #[.pointer (some ⟨b,0,none⟩)] W fun en W'=>en = .returned (.tuple #[])/\Does B s b g W (As.layJump (sl s) 0 st0) W':=by
 have c:=hid (ygc B s b g st0 0 W h)
 clear h
 go_enter Tryz.func148,Tryz.ntmps148
 go_wp2_with fail
 refine c.out.mono ?_
 rintro e VF ⟨rfl,hh⟩
 have DF:=hid hh
 clear hh
 go_wp2
 go_end0
 exact ⟨rfl,DF.out⟩
set_option maxRecDepth 100000 in
set_option maxHeartbeats 4000000 in
theorem yhL (B:Nat) (s:ByteArray) (b g:Nat) (st0:As.St) (W:World) (h:yl B s b g st0 W) :
  Calls Tryz.prog 150 #[.pointer (some ⟨b,0,none⟩)] W fun en W'=>en = .returned (.tuple #[])/\Does B s b g W (As.loadNumber (sl s) st0) W':=by
 have D0:=hid h.does
 clear h
 obtain ⟨X,hX⟩:∃ X,X=As.loadNumber (sl s) st0:=⟨_,rfl⟩
 rw [<- hX]
 unfold As.loadNumber at hX
 dsimp only at hX
 have RS:=hid hX
 clear hX
 go_enter Tryz.func150,Tryz.ntmps150
 go_wp2_with fail
 refine (yP B s b g st0 _ D0.out.1).mono ?_
 rintro e V1 ⟨rfl,hh⟩
 have D1:=hid (D0.out.afterB hh)
 clear hh D0
 generalize As.register (sl s) st0=R1 at *
 obtain ⟨rd,st1⟩:=R1
 dsimp only at RS D1 ⊢
 go_wp2_with fail
 refine (yav B s b g st1 [44] _ D1.out.1).mono ?_
 rintro e V2 ⟨rfl,hh⟩
 have D2:=hid (D1.out.afterB hh)
 clear hh D1
 generalize As.sign (sl s) [44] st1=st2 at *
 have NB:=yeV (sl s) (-2147483648) 2147483647 st2 (by omega) (by omega)
 go_wp2_with fail
 refine (yaX B s b g st2 (-2147483648) 2147483647 _ D2.out.1).mono ?_
 rintro e V3 ⟨rfl,hh⟩
 have D3:=hid (D2.out.afterB hh)
 clear hh D2
 generalize As.number (sl s) (-2147483648) 2147483647 st2=R3 at *
 obtain ⟨n,st3⟩:=R3
 dsimp only at RS D3 NB ⊢
 by_cases c1:-2048<=n
 ·by_cases c2:n<=2047
  ·have d1:decide (-2048<=n)=true:=by simp; omega
   have d2:decide (n<=2047)=true:=by simp; omega
   rw [if_pos ⟨c1,c2⟩] at RS
   clear c1 c2
   go_wp2_with fail
   refine (yaP B s b g st3 13 rd 0 0 n _ D3.out.1 (by omega) (by omega)).mono ?_
   rintro e VF ⟨rfl,hh⟩
   have DF:=hid (D3.out.after hh)
   clear hh
   go_wp2
   first | go_end0 | ((try simp only [Exit.inBlock,Exit.then]); refine bodyPost_ret (results_none rfl _ _ _) rfl ?_)
   rw [RS.out]
   exact ⟨rfl,DF.out⟩
  ·have d1:decide (-2048<=n)=true:=by simp; omega
   have d2:decide (n<=2047)=false:=by simp; omega
   rw [if_neg (fun k=>c2 k.2)] at RS
   clear c1 c2
   go_wp2_with fail
   refine (yfA n _ NB.1 NB.2).mono ?_
   rintro e w1 ⟨rfl,rfl⟩
   generalize As.partHigh n=hi at *
   generalize As.partLow n=lo at *
   go_wp2_with fail
   refine (yat 1 rd 0 0 hi _ D3.out.1.tabs (by omega) (by omega)).mono ?_
   rintro e V4 ⟨rfl,hg⟩
   have D4:=hid (D3.out.grown hg)
   clear hg D3
   generalize hst4:st3=st4 at *
   generalize As.enc 1 rd 0 0 hi=x at *
   clear hst4
   go_wp2_with fail
   refine (yat 13 rd rd 0 lo _ D4.out.1.tabs (by omega) (by omega)).mono ?_
   rintro e V5 ⟨rfl,hg⟩
   have D5:=hid (D4.out.grown hg)
   clear hg D4
   generalize hst5:st4=st5 at *
   generalize As.enc 13 rd rd 0 lo=y at *
   clear hst5
   go_wp2_with fail
   refine (ydg B s b g st5 _ 2 [(x:Int),(y:Int)] _ (D5.out.alloc _).1 (yeF V5 x y) (by simp)).mono ?_
   rintro e VF ⟨rfl,hh⟩
   have DF:=hid ((D5.out.alloc _).after hh)
   clear hh
   go_wp2
   first | go_end0 | ((try simp only [Exit.inBlock,Exit.then]); refine bodyPost_ret (results_none rfl _ _ _) rfl ?_)
   rw [RS.out]
   exact ⟨rfl,DF.out⟩
 ·have d1:decide (-2048<=n)=false:=by simp; omega
  rw [if_neg (fun k=>c1 k.1)] at RS
  clear c1
  go_wp2_with fail
  refine (yfA n _ NB.1 NB.2).mono ?_
  rintro e w1 ⟨rfl,rfl⟩
  generalize As.partHigh n=hi at *
  generalize As.partLow n=lo at *
  go_wp2_with fail
  refine (yat 1 rd 0 0 hi _ D3.out.1.tabs (by omega) (by omega)).mono ?_
  rintro e V4 ⟨rfl,hg⟩
  have D4:=hid (D3.out.grown hg)
  clear hg D3
  generalize hst4:st3=st4 at *
  generalize As.enc 1 rd 0 0 hi=x at *
  clear hst4
  go_wp2_with fail
  refine (yat 13 rd rd 0 lo _ D4.out.1.tabs (by omega) (by omega)).mono ?_
  rintro e V5 ⟨rfl,hg⟩
  have D5:=hid (D4.out.grown hg)
  clear hg D4
  generalize hst5:st4=st5 at *
  generalize As.enc 13 rd rd 0 lo=y at *
  clear hst5
  go_wp2_with fail
  refine (ydg B s b g st5 _ 2 [(x:Int),(y:Int)] _ (D5.out.alloc _).1 (yeF V5 x y) (by simp)).mono ?_
  rintro e VF ⟨rfl,hh⟩
  have DF:=hid ((D5.out.alloc _).after hh)
  clear hh
  go_wp2
  first | go_end0 | ((try simp only [Exit.inBlock,Exit.then]); refine bodyPost_ret (results_none rfl _ _ _) rfl ?_)
  rw [RS.out]
  exact ⟨rfl,DF.out⟩
set_option maxRecDepth 100000 in
set_option maxHeartbeats 4000000 in
theorem yoy (B:Nat) (s:ByteArray) (b g:Nat) (st0:As.St) (W:World) (h:yl B s b g st0 W) :
  Calls Tryz.prog 151 #[.pointer (some ⟨b,0,none⟩)] W fun en W'=>en = .returned (.tuple #[])/\Does B s b g W (As.call (sl s) st0) W':=by
 have D0:=hid h.does
 clear h
 obtain ⟨X,hX⟩:∃ X,X=As.call (sl s) st0:=⟨_,rfl⟩
 rw [<- hX]
 unfold As.call at hX
 dsimp only at hX
 have RS:=hid hX
 clear hX
 go_enter Tryz.func151,Tryz.ntmps151
 have c11:=ydm D0.out.1
 cases ht:(st0.op.text == [116,97,105,108])
 ·have d:((bs st0.op.text).toList == [116,97,105,108])=false:=by rw [yH]; exact ht
  rw [ht] at RS
  simp only [Bool.false_eq_true,if_false] at RS
  clear ht
  go_wp2_with fail
  refine (yda B s b g st0 _ D0.out.1).mono ?_
  rintro e V1 ⟨rfl,hh⟩
  have D1:=hid (D0.out.after hh)
  clear hh D0 c11
  generalize As.symbol (sl s) st0=R1 at *
  obtain ⟨y,st1⟩:=R1
  dsimp only at RS D1 ⊢
  go_wp2_with fail
  refine (yat 2 1 0 0 0 _ D1.out.1.tabs (by omega) (by omega)).mono ?_
  rintro e V2 ⟨rfl,hg⟩
  have D2:=hid (D1.out.grown hg)
  clear hg D1
  generalize hst2:st1=st2 at *
  generalize As.enc 2 1 0 0 0=x at *
  clear hst2
  go_wp2_with fail
  refine (yat 4 1 1 0 0 _ D2.out.1.tabs (by omega) (by omega)).mono ?_
  rintro e V3 ⟨rfl,hg⟩
  have D3:=hid (D2.out.grown hg)
  clear hg D2
  generalize hst3:st2=st3 at *
  generalize As.enc 4 1 1 0 0=z at *
  clear hst3
  go_wp2_with fail
  refine (ybm B s b g st3 4 y 0 _ 2 [(x:Int),(z:Int)] _ (D3.out.alloc _).1 (yeF V3 x z) (by simp)).mono ?_
  rintro e VF ⟨rfl,hh⟩
  have DF:=hid ((D3.out.alloc _).after hh)
  clear hh
  go_wp2
  first | go_end0 | ((try simp only [Exit.inBlock,Exit.then]); refine bodyPost_ret (results_none rfl _ _ _) rfl ?_)
  rw [RS.out]
  exact ⟨rfl,DF.out⟩
 ·have d:((bs st0.op.text).toList == [116,97,105,108])=true:=by rw [yH]; exact ht
  rw [ht] at RS
  simp only [if_true] at RS
  clear ht
  go_wp2_with fail
  refine (yda B s b g st0 _ D0.out.1).mono ?_
  rintro e V1 ⟨rfl,hh⟩
  have D1:=hid (D0.out.after hh)
  clear hh D0 c11
  generalize As.symbol (sl s) st0=R1 at *
  obtain ⟨y,st1⟩:=R1
  dsimp only at RS D1 ⊢
  go_wp2_with fail
  refine (yat 2 6 0 0 0 _ D1.out.1.tabs (by omega) (by omega)).mono ?_
  rintro e V2 ⟨rfl,hg⟩
  have D2:=hid (D1.out.grown hg)
  clear hg D1
  generalize hst2:st1=st2 at *
  generalize As.enc 2 6 0 0 0=x at *
  clear hst2
  go_wp2_with fail
  refine (yat 4 0 6 0 0 _ D2.out.1.tabs (by omega) (by omega)).mono ?_
  rintro e V3 ⟨rfl,hg⟩
  have D3:=hid (D2.out.grown hg)
  clear hg D2
  generalize hst3:st2=st3 at *
  generalize As.enc 4 0 6 0 0=z at *
  clear hst3
  go_wp2_with fail
  refine (ybm B s b g st3 4 y 0 _ 2 [(x:Int),(z:Int)] _ (D3.out.alloc _).1 (yeF V3 x z) (by simp)).mono ?_
  rintro e VF ⟨rfl,hh⟩
  have DF:=hid ((D3.out.alloc _).after hh)
  clear hh
  go_wp2
  first | go_end0 | ((try simp only [Exit.inBlock,Exit.then]); refine bodyPost_ret (results_none rfl _ _ _) rfl ?_)
  rw [RS.out]
  exact ⟨rfl,DF.out⟩
set_option maxRecDepth 100000 in
set_option maxHeartbeats 4000000 in
theorem yox (B:Nat) (s:ByteArray) (b g:Nat) (st0:As.St) (W:World) (h:yl B s b g st0 W) :
  Calls Tryz.prog 145 #[.pointer (some ⟨b,0,none⟩)] W fun en W'=>en = .returned (.tuple #[])/\Does B s b g W (As.bare st0) W':=by
 have D0:=hid h.does
 have c11:=ydm h
 clear h
 have RS:=hid (show As.bare st0=if st0.op.text=[101,99,97,108,108] then As.layOne 25 0 0 0 0 st0 else if st0.op.text=[114,101,116] then As.layOne 4 0 1 0 0 st0 else if st0.op.text=[110,111,112] then As.layOne 13 0 0 0 0 st0 else st0 from rfl)
 generalize As.bare st0=X at *
 have e:∀ l:List UInt8,((bs st0.op.text).toList == l)=decide (st0.op.text=l):=fun l=>by rw [yH,Bool.eq_iff_iff,beq_iff_eq,decide_eq_true_iff]
 have d1:=e [101,99,97,108,108]
 have d2:=e [114,101,116]
 have d3:=e [110,111,112]
 clear e
 by_cases h1:st0.op.text=[101,99,97,108,108]
 ·rw [if_pos h1] at RS
  rw [decide_eq_true h1] at d1
  clear h1 d2 d3
  go_enter Tryz.func145,Tryz.ntmps145
  go_wp2_with fail
  refine (yaP B s b g st0 25 0 0 0 0 _ D0.out.1 (by omega) (by omega)).mono ?_
  rintro e VF ⟨rfl,hh⟩
  have DF:=hid (D0.out.after hh)
  clear hh
  go_wp2
  first | go_end0 | ((try simp only [Exit.inBlock,Exit.then]); refine bodyPost_ret (results_none rfl _ _ _) rfl ?_)
  rw [RS.out]
  exact ⟨rfl,DF.out⟩
 rw [if_neg h1] at RS
 rw [decide_eq_false h1] at d1
 clear h1
 by_cases h2:st0.op.text=[114,101,116]
 ·rw [if_pos h2] at RS
  rw [decide_eq_true h2] at d2
  clear h2 d3
  go_enter Tryz.func145,Tryz.ntmps145
  go_wp2_with fail
  refine (yaP B s b g st0 4 0 1 0 0 _ D0.out.1 (by omega) (by omega)).mono ?_
  rintro e VF ⟨rfl,hh⟩
  have DF:=hid (D0.out.after hh)
  clear hh
  go_wp2
  first | go_end0 | ((try simp only [Exit.inBlock,Exit.then]); refine bodyPost_ret (results_none rfl _ _ _) rfl ?_)
  rw [RS.out]
  exact ⟨rfl,DF.out⟩
 rw [if_neg h2] at RS
 rw [decide_eq_false h2] at d2
 clear h2
 by_cases h3:st0.op.text=[110,111,112]
 ·rw [if_pos h3] at RS
  rw [decide_eq_true h3] at d3
  clear h3
  go_enter Tryz.func145,Tryz.ntmps145
  go_wp2_with fail
  refine (yaP B s b g st0 13 0 0 0 0 _ D0.out.1 (by omega) (by omega)).mono ?_
  rintro e VF ⟨rfl,hh⟩
  have DF:=hid (D0.out.after hh)
  clear hh
  go_wp2
  first | go_end0 | ((try simp only [Exit.inBlock,Exit.then]); refine bodyPost_ret (results_none rfl _ _ _) rfl ?_)
  rw [RS.out]
  exact ⟨rfl,DF.out⟩
 rw [if_neg h3] at RS
 rw [decide_eq_false h3] at d3
 clear h3
 go_enter Tryz.func145,Tryz.ntmps145
 go_wp2
 go_end0
 rw [RS.out]
 exact ⟨rfl,D0.out⟩
theorem ylM {w:World} {base:Nat} {e:TypeId} {size n cap:Nat} {ao:Option Addr} {xs:List Value} (h:w.ownsRow base e size (.slice ao n cap) n xs) (h0:0 < n):∃ sg cur,ao=some ⟨sg,0,none⟩/\yc w sg cur e/\cur.size=cap * size/\cur.toList.take (n * size)=xs/\n<=cap:=by
 rcases h.2 with ⟨h1,h2⟩ | ⟨g',cap',cur,hv,_,hg,h3,_,h5,h6⟩
 ·omega
 ·simp only [Value.slice.injEq] at hv
  obtain ⟨rfl,_,rfl⟩:=hv
  exact ⟨g',cur,rfl,hg,h5,h6,h3⟩
theorem ylN {w:World} {base:Nat} {e:TypeId} {size n cap sg j:Nat} {xs:List Value} {u:Value} (h:w.ownsRow base e size (.slice (some ⟨sg,0,none⟩) n cap) n xs) (_hj:j < n * size) :
  (w.setCell ⟨sg,j,none⟩ u).ownsRow base e size (.slice (some ⟨sg,0,none⟩) n cap) n (xs.set j u):=by
 refine ⟨by rw [List.length_set]; exact h.1,?_⟩
 rcases h.2 with ⟨h1,h2⟩ | ⟨g',cap',cur,hv,hb,hg,h3,h4,h5,h6⟩
 ·simp at h1
 ·simp only [Value.slice.injEq,Option.some.injEq,Addr.mk.injEq] at hv
  obtain ⟨⟨rfl,_⟩,_,rfl⟩:=hv
  refine .inr ⟨sg,cap,cur.setIfInBounds j u,rfl,hb,ybY hg u,h3,h4,by simpa using h5,?_⟩
  rw [Array.toList_setIfInBounds,List.take_set,h6]
theorem yoG {α:Type} (f:α->List Value) (size:Nat) (hf:∀ x,(f x).length=size) (l:List α) (i j:Nat) (hi:i < l.length) (hj:j < size) (u:Value) (y:α) (hy:f y=(f l[i]).set j u):(l.flatMap f).set (i * size+j) u=(l.set i y).flatMap f:=by
 induction l generalizing i with
 | nil=>simp at hi
 | cons a l ih =>
  cases i with
  | zero =>
   simp only [List.flatMap_cons,ysn,Nat.zero_mul,Nat.zero_add] at hy ⊢
   rw [List.set_append_left _ _ (by rw [hf]; exact hj),hy]
   rfl
  | succ i =>
   simp only [List.flatMap_cons,ysm]
   rw [List.set_append_right _ _ (by rw [hf]; rw [Nat.succ_mul]; omega),hf,show (i+1) * size+j - size=i * size+j by rw [Nat.succ_mul]; omega,ih i (by simpa using hi) hy]
section
variable {B:Nat} {s:ByteArray} {b g:Nat} {V:World} {st:As.St} {vt vf vd va vs vr:Value}
theorem yl.putSym {sg n cs:Nat} (h:yl B s b g st V) (ho:yaD B V b g st.obj vt vf vd va (.slice (some ⟨sg,0,none⟩) n cs) vr) (i j:Nat) (hi:i < st.obj.syms.length) (hj:j < 4) (u:Value) (y:Lk.Sym) (hy:symV y=(symV st.obj.syms[i]).set j u) :
  Does B s b g V { st with obj:={ st.obj with syms:=st.obj.syms.set i y } } (V.setCell ⟨sg,i * 4+j,none⟩ u):=by
 obtain ⟨ao,cap,hv⟩:=yh ho.syms
 simp only [Value.slice.injEq] at hv
 obtain ⟨rfl,rfl,rfl⟩:=hv
 have gs:=yf V sg (i * 4+j) u
 have nr:yaa B V (V.setCell ⟨sg,i * 4+j,none⟩ u) b g (.slice (some ⟨sg,0,none⟩) st.obj.syms.length cs) (.slice (some ⟨sg,0,none⟩) st.obj.syms.length cs) :=
  ⟨fun k hk hne _=>gs.block k hk (by simpa [Value.ownBlock] using hne),fun k hk=>.inl hk,gs.os,gs.tape,gs.output,gs.size⟩
 have hgs:g≠sg:=fun e=>ho.apart.ne (i:=1) (j:=6) rfl rfl (by omega) g rfl (by rw [e]; rfl)
 refine h.newSyms ho nr (st.obj.syms.set i y) (by rw [List.length_set]; exact h.ok.syms) (ho.blk.grown gs (by simpa using hgs)) ?_
 rw [List.length_set,<- yoG symV 4 (fun x=>rfl) st.obj.syms i j hi hj u y hy]
 have hmm:i * 4+4<=st.obj.syms.length * 4:=by have:=Nat.mul_le_mul_right 4 (show i+1<=st.obj.syms.length by omega); omega
 exact ylN ho.syms (by omega)
theorem yl.newAlign {v':Value} {W':World} (h:yl B s b g st V) (ho:yaD B V b g st.obj vt vf vd va vs vr) (n:yaa B V W' b g va v') (xs:List Int) (hxs:xs.length=4)
  (hblk:yc W' g #[vt,vf,vd,.int .i64 st.obj.bss,v',vs,vr] 71) (hown:W'.ownsRow B 3 1 v' xs.length (xs.map (Value.int .i64))):Does B s b g V { st with obj:={ st.obj with align:=xs } } W':=by
 refine n.does h ho (i:=5) rfl (by omega) ⟨vt,vf,vd,v',vs,vr,hblk,?_,?_,?_,hown,?_,?_,n.apart ho h.blk.lt (i:=5) rfl⟩ rfl (h.ok.obj' _ h.ok.text h.ok.far h.ok.data h.ok.bss hxs h.ok.syms h.ok.rels) (ycN ho.align (by simp))
 ·exact n.row ho (i:=5) (j:=2) rfl rfl (by omega) (by omega) ho.text
 ·exact n.row ho (i:=5) (j:=3) rfl rfl (by omega) (by omega) ho.far
 ·exact n.row ho (i:=5) (j:=4) rfl rfl (by omega) (by omega) ho.data
 ·exact n.row ho (i:=5) (j:=6) rfl rfl (by omega) (by omega) ho.syms
 ·exact n.row ho (i:=5) (j:=7) rfl rfl (by omega) (by omega) ho.rels
theorem yl.putAlign {sg n cs:Nat} (h:yl B s b g st V) (ho:yaD B V b g st.obj vt vf vd (.slice (some ⟨sg,0,none⟩) n cs) vs vr) (i:Nat) (hi:i < 4) (u:Int) :
  Does B s b g V { st with obj:={ st.obj with align:=st.obj.align.set i u } } (V.setCell ⟨sg,i,none⟩ (.int .i64 u)):=by
 obtain ⟨ao,cap,hv⟩:=yh ho.align
 simp only [Value.slice.injEq] at hv
 obtain ⟨rfl,rfl,rfl⟩:=hv
 have gs:=yf V sg i (.int .i64 u)
 have nr:yaa B V (V.setCell ⟨sg,i,none⟩ (.int .i64 u)) b g (.slice (some ⟨sg,0,none⟩) st.obj.align.length cs) (.slice (some ⟨sg,0,none⟩) st.obj.align.length cs) :=
  ⟨fun k hk hne _=>gs.block k hk (by simpa [Value.ownBlock] using hne),fun k hk=>.inl hk,gs.os,gs.tape,gs.output,gs.size⟩
 have hgs:g≠sg:=fun e=>ho.apart.ne (i:=1) (j:=5) rfl rfl (by omega) g rfl (by rw [e]; rfl)
 refine h.newAlign ho nr (st.obj.align.set i u) (by rw [List.length_set]; exact h.ok.align) (ho.blk.grown gs (by simpa using hgs)) ?_
 rw [List.length_set,List.map_set]
 exact ylN ho.align (by have:=h.ok.align; omega)
end
theorem ygY (ys:List Lk.Sym) (i:Nat) (hi:i < ys.length) (f:Lk.Sym->Lk.Sym):ys.modify i f=ys.set i (f ys[i]):=by
 induction ys generalizing i with
 | nil=>simp at hi
 | cons y ys ih =>
  cases i with
  | zero=>simp
  | succ i =>
   simp only [List.modify_succ_cons,ysm,ysw]
   rw [ih i (by simpa using hi)]
theorem ygk (t:As.Tok) (st:As.St) (h:(As.symbolNamed t st).1.2=true):(As.symbolNamed t st).1.1 < (As.symbolNamed t st).2.obj.syms.length:=by
 unfold As.symbolNamed at h ⊢
 cases hf:As.failed st
 ·rw [hf] at h
  simp only [Bool.false_eq_true,if_false] at h ⊢
  cases hs:As.findSym st.obj.syms t.text with
  | some i =>
   simp only
   unfold As.findSym at hs
   rw [List.findIdx?_eq_some_iff_getElem] at hs
   exact hs.1
  | none =>
   rw [hs] at h
   simp only at h ⊢
   by_cases h16:16<=st.obj.syms.length
   ·rw [if_pos h16] at h; simp at h
   ·rw [if_neg h16]; simp
 ·rw [hf] at h
  simp at h
theorem yej {B:Nat} {s:ByteArray} {b g:Nat} {V:World} {st:As.St} (h:yl B s b g st V) (i:Nat) (hi:i < st.obj.syms.length):∃ vt vf vd va sg cs vr,yaD B V b g st.obj vt vf vd va (.slice (some ⟨sg,0,none⟩) st.obj.syms.length cs) vr/\V.cell? ⟨g,5,none⟩=some (.slice (some ⟨sg,0,none⟩) st.obj.syms.length cs) /\
  V.cell? ⟨sg,i * 4+1,none⟩=some (.int .i64 st.obj.syms[i].bind)/\V.cell? ⟨sg,i * 4+2,none⟩=some (.int .i64 st.obj.syms[i].sect)/\V.cell? ⟨sg,i * 4+3,none⟩=some (.int .i64 st.obj.syms[i].off)/\(∀ o,V.frozen? ⟨sg,o,none⟩=false)/\sg≠b/\sg≠g:=by
 obtain ⟨vt,vf,vd,va,vs,vr,ho⟩:=h.own
 obtain ⟨as_,cs,rfl⟩:=yh ho.syms
 obtain ⟨sg,cur,rfl,hb,-,-,-⟩:=ylM ho.syms (by omega)
 obtain ⟨sg',hsg,-,hc⟩:=yag.of_own ho.syms (by omega)
 simp only [Option.some.injEq,Addr.mk.injEq] at hsg
 obtain ⟨rfl,-⟩:=hsg
 obtain ⟨-,k1,k2,k3⟩:=hc i hi
 have g5:=ho.blk.cell 5
 simp only [ysk,ysl,ysj] at g5
 exact ⟨vt,vf,vd,va,sg,cs,vr,ho,g5,k1,k2,k3,fun o=>hb.free o,fun e=>ho.apart.ne (i:=0) (j:=6) rfl rfl (by omega) b rfl (by rw [<- e]; rfl),fun e=>ho.apart.ne (i:=1) (j:=6) rfl rfl (by omega) g rfl (by rw [<- e]; rfl)⟩
set_option maxRecDepth 100000 in
set_option maxHeartbeats 4000000 in
theorem yji (B:Nat) (s:ByteArray) (b g:Nat) (st:As.St) (binding:Int) (W:World) (h:yl B s b g st W) :
  Calls Tryz.prog 201 #[.pointer (some ⟨b,0,none⟩),.int .i64 binding] W fun en W'=>en = .returned (.tuple #[])/\Does B s b g W (As.bind (sl s) binding st) W':=by
 have HW:=hid h
 have cN:=hid (yjM B s b g st W h)
 have HT:=hid (yjN (sl s) st h.ok.tok)
 clear h
 obtain ⟨X,hX⟩:∃ X,X=As.bind (sl s) binding st:=⟨_,rfl⟩
 rw [<- hX]
 unfold As.bind at hX
 dsimp only at hX
 have RS:=hid hX
 clear hX
 generalize As.name (sl s) st=R at *
 obtain ⟨t,st1⟩:=R
 dsimp only at HT RS cN
 go_enter Tryz.func201,Tryz.ntmps201
 go_wp2_with fail
 refine cN.out.mono ?_
 rintro e V ⟨rfl,h1⟩
 have D1:=hid (h1.does HW.out)
 clear h1 cN
 unfold tokA
 go_wp2_with fail
 refine (ycZ B s b g st1 t _ (D1.out.alloc _).1 HT.out).mono ?_
 rintro e V2 ⟨rfl,h2⟩
 have D2:=hid ((D1.out.alloc _).after h2)
 have LT:=hid (h2.2.2 V.heap.size (yS t) 64 (by decide) (by decide) (by decide) (by decide) (by decide) (yc.new V _ _))
 have SLT:=hid (ygk t st1)
 clear h2 D1
 unfold yhm
 generalize As.symbolNamed t st1=R2 at *
 obtain ⟨⟨i,ok⟩,st2⟩:=R2
 dsimp only at RS D2 SLT ⊢
 cases ok
 ·rw [if_pos (show (!false)=true from rfl)] at RS
  go_wp2
  (try simp only [Exit.inBlock,Exit.then]); refine bodyPost_ret (results_none rfl _ _ _) rfl ?_
  rw [RS.out]
  exact ⟨rfl,D2.out⟩
 ·rw [if_neg (by simp)] at RS
  have hi:=SLT.out rfl
  obtain ⟨vt,vf,vd,va,sg,cs,vr,ho,g5,k1,k2,k3,hfz,n1,n2⟩:=yej D2.out.1 i hi
  have HO:=hid ho
  have c14:=yam D2.out.1
  have hcap:=yak ho.syms
  have f1:=hfz (i * 4+1)
  clear ho hfz
  rw [yst hi] at RS
  simp only [Option.map_some,Option.getD_some] at RS
  have g1:(0:Int)<=(i:Int):=by omega
  have g2:(i:Int) < (st2.obj.syms.length:Int):=by omega
  by_cases hz:st2.obj.syms[i].bind=0
  ·have d:(st2.obj.syms[i].bind == 0)=true:=by simp [hz]
   have d':(st2.obj.syms[i].bind != 0)=false:=by simp [hz]
   rw [if_neg (by simpa using hz)] at RS
   have FIN:=hid (D2.out.after (D2.out.1.putSym HO.out i 1 hi (by omega) (.int .i64 binding) ⟨st2.obj.syms[i].name,binding,st2.obj.syms[i].sect,st2.obj.syms[i].off⟩ rfl))
   have RX:=hid (show X={ st2 with obj:={ st2.obj with syms:=st2.obj.syms.set i ⟨st2.obj.syms[i].name,binding,st2.obj.syms[i].sect,st2.obj.syms[i].off⟩ } } from by rw [RS.out]; unfold As.setSym; rw [ygY _ i hi])
   clear hz
   go_wp2
   go_end0
   rw [RX.out]
   exact ⟨rfl,FIN.out⟩
  ·have d:(st2.obj.syms[i].bind == 0)=false:=by simp [hz]
   have d':(st2.obj.syms[i].bind != 0)=true:=by simp [hz]
   rw [if_pos (by simpa using hz)] at RS
   have m1:=LT.out.cell 1
   simp only [yS,ysk,ysl,ysj] at m1
   clear hz
   go_wp2_with fail
   refine (yK B s b g st2 14 t.pos V2 D2.out.1 (by omega) HT.out.pos).mono ?_
   rintro e V3 ⟨rfl,h3⟩
   have D3:=hid (D2.out.afterB h3)
   clear h3
   go_wp2
   (try simp only [Exit.inBlock,Exit.then]); refine bodyPost_ret (results_none rfl _ _ _) rfl ?_
   rw [RS.out]
   exact ⟨rfl,D3.out⟩
set_option maxRecDepth 100000 in
set_option maxHeartbeats 8000000 in
theorem ynI (B:Nat) (s:ByteArray) (b g:Nat) (st:As.St) (t:As.Tok) (W:World) (h:yl B s b g st W) (ht:ybU t) :
  Calls Tryz.prog 52 #[.pointer (some ⟨b,0,none⟩),tokA t] W fun en W'=>en = .returned (.tuple #[])/\Does B s b g W (As.label t st) W':=by
 have HW:=hid h
 have L0:=hid ((Loc.begin h).alloc (yS t) 64)
 have HT:=hid ht
 clear h ht
 obtain ⟨X,hX⟩:∃ X,X=As.label t st:=⟨_,rfl⟩
 rw [<- hX]
 unfold As.label at hX
 dsimp only at hX
 have RS:=hid hX
 clear hX
 unfold tokA
 go_enter Tryz.func52,Tryz.ntmps52
 go_wp2_with fail
 refine Calls.at_world (Loc B s b g W [(W.heap.size,yS t,64)] st) L0.out ?_
 clear L0
 generalize hr:W.heap.size=r at *
 clear hr
 intro V hV
 refine (yfe B s b g st t V hV.d.1 HT.out).mono ?_
 rintro e V1 ⟨rfl,h1⟩
 have L1:=hid (hV.step h1)
 clear h1 hV V
 generalize As.checkName t st=st1 at *
 obtain ⟨m0,m1,m2,m3⟩:=(⟨L1.out.d,L1.out.l (r,yS t,64) (by simp)⟩:LocB B s b g W r t st1 V1).cells
 go_wp2_with fail
 refine (ycZ B s b g st1 t V1 L1.out.d.1 HT.out).mono ?_
 rintro e V2 ⟨rfl,h2⟩
 have D2:=hid ((L1.out.d.does HW.out).after h2)
 have LT:=hid (h2.2.2 r (yS t) 64 (by decide) (by decide) (by decide) (by decide) (by decide) (L1.out.l (r,yS t,64) (by simp)))
 have SLT:=hid (ygk t st1)
 clear h2 L1 m0 m1 m2 m3
 unfold yhm
 generalize As.symbolNamed t st1=R2 at *
 obtain ⟨⟨i,ok⟩,st2⟩:=R2
 dsimp only at RS D2 SLT ⊢
 cases ok
 ·rw [if_pos (show (!false)=true from rfl)] at RS
  go_wp2
  (try simp only [Exit.inBlock,Exit.then]); refine bodyPost_ret (results_none rfl _ _ _) rfl ?_
  rw [RS.out]
  exact ⟨rfl,D2.out⟩
 ·rw [if_neg (by simp)] at RS
  have hi:=SLT.out rfl
  rw [yst hi] at RS
  simp only [Option.map_some,Option.getD_some] at RS
  obtain ⟨vt,vf,vd,va,sg,cs,vr,ho,g5,k1,k2,k3,hfz,n1,n2⟩:=yej D2.out.1 i hi
  have HO:=hid ho
  have c14:=yam D2.out.1
  have c13:=yai D2.out.1
  have hcap:=yak ho.syms
  have f2:=hfz (i * 4+2)
  have f3:=hfz (i * 4+3)
  clear ho hfz
  have g1:(0:Int)<=(i:Int):=by omega
  have g2:(i:Int) < (st2.obj.syms.length:Int):=by omega
  by_cases hz:st2.obj.syms[i].sect=0
  ·have d:(st2.obj.syms[i].sect == 0)=true:=by simp [hz]
   have d':(st2.obj.syms[i].sect != 0)=false:=by simp [hz]
   rw [if_neg (by simpa using hz)] at RS
   have RX:=hid (show X={ st2 with obj:={ st2.obj with syms:=st2.obj.syms.set i ⟨st2.obj.syms[i].name,st2.obj.syms[i].bind,st2.sect,4 * As.secLen st2.obj st2.sect⟩ } } from by rw [RS.out]; unfold As.setSym; rw [ygY _ i hi])
   have P1:=hid (D2.out.1.putSym HO.out i 2 hi (by omega) (.int .i64 st2.sect) ⟨st2.obj.syms[i].name,st2.obj.syms[i].bind,st2.sect,st2.obj.syms[i].off⟩ rfl)
   clear hz RS
   go_wp2
   refine wp_region_held_drew (S:=(fun w'=>w'.cell? ⟨b,14,none⟩=some (.pointer (some ⟨g,0,none⟩))/\w'.cell? ⟨b,13,none⟩=some (.int .i64 st2.sect)/\w'.cell? ⟨g,5,none⟩=some (.slice (some ⟨sg,0,none⟩) st2.obj.syms.length cs))) (by kernel_rfl) ⟨c14,c13,g5⟩ ?_
   intro hS
   refine wpAnyH_take (i:=0) (v:=?_) rfl (by kernel_rfl) (by kernel_rfl) (by kernel_rfl) (fun _ _ _ h=>h) (Or.inl ⟨by kernel_rfl,?_⟩) hS ?_
   rotate_left
   ·intro w' hw'; obtain ⟨x0,x1,x2⟩:=hw'; go_simp; with_reducible rfl
   refine wpAnyH_take (i:=1) (v:=?_) rfl (by kernel_rfl) (by kernel_rfl) (by kernel_rfl) (fun _ _ _ h=>h) (Or.inl ⟨by kernel_rfl,?_⟩) hS ?_
   rotate_left
   ·intro w' hw'; obtain ⟨x0,x1,x2⟩:=hw'; go_simp; with_reducible rfl
   refine wpAnyH_take (i:=2) (v:=?_) rfl (by kernel_rfl) (by kernel_rfl) (by kernel_rfl) (fun _ _ _ h=>h) (Or.inl ⟨by kernel_rfl,?_⟩) hS ?_
   rotate_left
   ·intro w' hw'; obtain ⟨x0,x1,x2⟩:=hw'; go_simp; with_reducible rfl
   refine wpAnyH_take (i:=3) (v:=?_) rfl (by kernel_rfl) (by kernel_rfl) (by kernel_rfl) (fun _ _ _ h=>h) (Or.inl ⟨by kernel_rfl,?_⟩) hS ?_
   rotate_left
   ·intro w' hw'; obtain ⟨x0,x1,x2⟩:=hw'; go_simp; with_reducible rfl
   refine wpAnyH_take (i:=4) (v:=?_) rfl (by kernel_rfl) (by kernel_rfl) (by kernel_rfl) (fun _ _ _ h=>h) (Or.inl ⟨by kernel_rfl,?_⟩) hS ?_
   rotate_left
   ·intro w' hw'; obtain ⟨x0,x1,x2⟩:=hw'; go_simp; with_reducible rfl
   refine wpAnyH_take (i:=5) (v:=?_) rfl (by kernel_rfl) (by kernel_rfl) (by kernel_rfl) (fun _ _ _ h=>h) (Or.inl ⟨by kernel_rfl,?_⟩) hS ?_
   rotate_left
   ·intro w' hw'; obtain ⟨x0,x1,x2⟩:=hw'; go_simp; with_reducible rfl
   refine wpAnyH_take (i:=6) (v:=?_) rfl (by kernel_rfl) (by kernel_rfl) (by kernel_rfl) (fun _ _ _ h=>h) (Or.inl ⟨by kernel_rfl,?_⟩) hS ?_
   rotate_left
   ·intro w' hw'; obtain ⟨x0,x1,x2⟩:=hw'; go_simp; with_reducible rfl
   refine wpAnyH_take (i:=7) (v:=?_) rfl (by kernel_rfl) (by kernel_rfl) (by kernel_rfl) (fun _ _ _ h=>h) (Or.inl ⟨by kernel_rfl,?_⟩) hS ?_
   rotate_left
   ·intro w' hw'; obtain ⟨x0,x1,x2⟩:=hw'; go_simp; with_reducible rfl
   refine wpAnyH_take (i:=8) (v:=?_) rfl (by kernel_rfl) (by kernel_rfl) (by kernel_rfl) (fun _ _ _ h=>h) (Or.inl ⟨by kernel_rfl,?_⟩) hS ?_
   rotate_left
   ·intro w' hw'; obtain ⟨x0,x1,x2⟩:=hw'; go_simp; with_reducible rfl
   refine wpAnyH_take (i:=9) (v:=?_) rfl (by kernel_rfl) (by kernel_rfl) (by kernel_rfl) (fun _ _ _ h=>h) (Or.inl ⟨by kernel_rfl,?_⟩) hS ?_
   rotate_left
   ·intro w' hw'; obtain ⟨x0,x1,x2⟩:=hw'; go_simp; with_reducible rfl
   refine wpAnyH_take (i:=10) (v:=?_) rfl (by kernel_rfl) (by kernel_rfl) (by kernel_rfl) (fun _ _ _ h=>h) (Or.inl ⟨by kernel_rfl,?_⟩) hS ?_
   rotate_left
   ·intro w' hw'; obtain ⟨x0,x1,x2⟩:=hw'; go_simp; with_reducible rfl
   refine wpAnyH_take (i:=11) (v:=?_) rfl (by kernel_rfl) (by kernel_rfl) (by kernel_rfl) (fun _ _ _ h=>h) (Or.inl ⟨by kernel_rfl,?_⟩) hS ?_
   rotate_left
   ·intro w' hw'; obtain ⟨x0,x1,x2⟩:=hw'; go_simp; with_reducible rfl
   refine wpAnyH_take (i:=12) (v:=?_) rfl (by kernel_rfl) (by kernel_rfl) (by kernel_rfl) (fun _ _ _ h=>h) (Or.inl ⟨by kernel_rfl,?_⟩) hS ?_
   rotate_left
   ·intro w' hw'; obtain ⟨x0,x1,x2⟩:=hw'; go_simp; with_reducible rfl
   refine wpAnyH_take (i:=13) (v:=?_) rfl (by kernel_rfl) (by kernel_rfl) (by kernel_rfl) (fun _ _ _ h=>h) (Or.inl ⟨by kernel_rfl,?_⟩) hS ?_
   rotate_left
   ·intro w' hw'; obtain ⟨x0,x1,x2⟩:=hw'; go_simp; with_reducible rfl
   refine wpAnyH_ready (rs:=[14]) (by kernel_rfl) (by simp) ?_
   refine AllReadyH.cons rfl (fun K hK=>?_) AllReadyH.nil
   go_simp
   refine hK.out _ _ ⟨?_,?_,?_⟩ (fun hS2=>?_)
   ·exact (yf V2 sg (i * 4+2) (.int .i64 st2.sect)).cell c14 (by simpa using n1.symm)
   ·exact (yf V2 sg (i * 4+2) (.int .i64 st2.sect)).cell c13 (by simpa using n1.symm)
   ·exact (yf V2 sg (i * 4+2) (.int .i64 st2.sect)).cell g5 (by simpa using n2.symm)
   clear hK K
   refine wpAnyH_done (by kernel_rfl) ?_ _
   try simp only [yaL,ysy,ysw,ysx,yso,ysm,ysn]
   have D3:=hid ((D2.out.after P1.out).grown (yi (World.grownBy.refl _ none)))
   clear P1 HO c14 c13 g5 k1 k2 k3 f2 f3 hcap n1 n2 hS hS2 D2 g2 vt vf vd va vr d d'
   generalize hst:({ st2 with obj:={ st2.obj with syms:=st2.obj.syms.set i ⟨st2.obj.syms[i].name,st2.obj.syms[i].bind,st2.sect,st2.obj.syms[i].off⟩ } }:As.St)=st3 at *
   generalize World.drew _=V3 at *
   have hi3:i < st3.obj.syms.length:=by rw [<- hst]; simpa using hi
   have RX3:=hid (show X={ st3 with obj:={ st3.obj with syms:=st3.obj.syms.set i ⟨st3.obj.syms[i].name,st3.obj.syms[i].bind,st3.obj.syms[i].sect,4 * As.secLen st3.obj st3.sect⟩ } } from by
    rw [RX.out]
    subst hst
    simp [As.secLen])
   clear RX hst SLT
   obtain ⟨vt,vf,vd,va,sg2,cs2,vr,ho,g5,k1,k2,k3,hfz,n1,n2⟩:=yej D3.out.1 i hi3
   have HO:=hid ho
   have c14:=yam D3.out.1
   have c13:=yai D3.out.1
   have hcap:=yak ho.syms
   have f3:=hfz (i * 4+3)
   have g2:(i:Int) < (st3.obj.syms.length:Int):=by omega
   have P2:=hid (D3.out.after (D3.out.1.putSym HO.out i 3 hi3 (by omega) (.int .i64 (4 * As.secLen st3.obj st3.sect)) ⟨st3.obj.syms[i].name,st3.obj.syms[i].bind,st3.obj.syms[i].sect,4 * As.secLen st3.obj st3.sect⟩ rfl))
   have cL:=hid (ycs B s b g st3 V3.drew (D3.out.1.grown (yi (World.grownBy.refl _ none))))
   generalize 4 * As.secLen st3.obj st3.sect=ln at *
   clear ho hfz k1 k2
   go_wp2
   refine wp_region_held_drew (S:=(fun w'=>w'.cell? ⟨b,14,none⟩=some (.pointer (some ⟨g,0,none⟩))/\w'.cell? ⟨b,13,none⟩=some (.int .i64 st3.sect)/\w'.cell? ⟨g,5,none⟩=some (.slice (some ⟨sg2,0,none⟩) st3.obj.syms.length cs2))) (by kernel_rfl) ⟨c14,c13,g5⟩ ?_
   intro hS
   refine wpAnyH_take (i:=0) (v:=?_) rfl (by kernel_rfl) (by kernel_rfl) (by kernel_rfl) (fun _ _ _ h=>h) (Or.inl ⟨by kernel_rfl,?_⟩) hS ?_
   rotate_left
   ·intro w' hw'; obtain ⟨x0,x1,x2⟩:=hw'; go_simp; with_reducible rfl
   refine wpAnyH_take (i:=1) (v:=?_) rfl (by kernel_rfl) (by kernel_rfl) (by kernel_rfl) (fun _ _ _ h=>h) (Or.inl ⟨by kernel_rfl,?_⟩) hS ?_
   rotate_left
   ·intro w' hw'; obtain ⟨x0,x1,x2⟩:=hw'; go_simp; with_reducible rfl
   refine wpAnyH_take (i:=2) (v:=?_) rfl (by kernel_rfl) (by kernel_rfl) (by kernel_rfl) (fun _ _ _ h=>h) (Or.inl ⟨by kernel_rfl,?_⟩) hS ?_
   rotate_left
   ·intro w' hw'; obtain ⟨x0,x1,x2⟩:=hw'; go_simp; with_reducible rfl
   refine wpAnyH_take (i:=3) (v:=?_) rfl (by kernel_rfl) (by kernel_rfl) (by kernel_rfl) (fun _ _ _ h=>h) (Or.inl ⟨by kernel_rfl,?_⟩) hS ?_
   rotate_left
   ·intro w' hw'; obtain ⟨x0,x1,x2⟩:=hw'; go_simp; with_reducible rfl
   refine wpAnyH_take (i:=4) (v:=?_) rfl (by kernel_rfl) (by kernel_rfl) (by kernel_rfl) (fun _ _ _ h=>h) (Or.inl ⟨by kernel_rfl,?_⟩) hS ?_
   rotate_left
   ·intro w' hw'; obtain ⟨x0,x1,x2⟩:=hw'; go_simp; with_reducible rfl
   refine wpAnyH_take (i:=5) (v:=?_) rfl (by kernel_rfl) (by kernel_rfl) (by kernel_rfl) (fun _ _ _ h=>h) (Or.inl ⟨by kernel_rfl,?_⟩) hS ?_
   rotate_left
   ·intro w' hw'; obtain ⟨x0,x1,x2⟩:=hw'; go_simp; with_reducible rfl
   refine wpAnyH_take (i:=6) (v:=?_) rfl (by kernel_rfl) (by kernel_rfl) (by kernel_rfl) (fun _ _ _ h=>h) (Or.inl ⟨by kernel_rfl,?_⟩) hS ?_
   rotate_left
   ·intro w' hw'; obtain ⟨x0,x1,x2⟩:=hw'; go_simp; with_reducible rfl
   refine wpAnyH_take (i:=7) (v:=?_) rfl (by kernel_rfl) (by kernel_rfl) (by kernel_rfl) (fun _ _ _ h=>h) (Or.inl ⟨by kernel_rfl,?_⟩) hS ?_
   rotate_left
   ·intro w' hw'; obtain ⟨x0,x1,x2⟩:=hw'; go_simp; with_reducible rfl
   refine wpAnyH_take (i:=8) (v:=?_) rfl (by kernel_rfl) (by kernel_rfl) (by kernel_rfl) (fun _ _ _ h=>h) (Or.inl ⟨by kernel_rfl,?_⟩) hS ?_
   rotate_left
   ·intro w' hw'; obtain ⟨x0,x1,x2⟩:=hw'; go_simp; with_reducible rfl
   refine wpAnyH_take (i:=9) (v:=?_) rfl (by kernel_rfl) (by kernel_rfl) (by kernel_rfl) (fun _ _ _ h=>h) (Or.inl ⟨by kernel_rfl,?_⟩) hS ?_
   rotate_left
   ·intro w' hw'; obtain ⟨x0,x1,x2⟩:=hw'; go_simp; with_reducible rfl
   refine wpAnyH_take (i:=10) (v:=?_) rfl (by kernel_rfl) (by kernel_rfl) (by kernel_rfl) (fun _ _ _ h=>h) (Or.inl ⟨by kernel_rfl,?_⟩) hS ?_
   rotate_left
   ·intro w' hw'; obtain ⟨x0,x1,x2⟩:=hw'; go_simp; with_reducible rfl
   refine wpAnyH_take (i:=11) (v:=?_) rfl (by kernel_rfl) (by kernel_rfl) (by kernel_rfl) (fun _ _ _ h=>h) (Or.inl ⟨by kernel_rfl,?_⟩) hS ?_
   rotate_left
   ·intro w' hw'; obtain ⟨x0,x1,x2⟩:=hw'; go_simp; with_reducible rfl
   refine wpAnyH_take (i:=12) (v:=?_) rfl (by kernel_rfl) (by kernel_rfl) (by kernel_rfl) (fun _ _ _ h=>h) (Or.inl ⟨by kernel_rfl,?_⟩) hS ?_
   rotate_left
   ·intro w' hw'; obtain ⟨x0,x1,x2⟩:=hw'; go_simp; with_reducible rfl
   refine wpAnyH_take (i:=13) (v:=?_) rfl (by kernel_rfl) (by kernel_rfl) (by kernel_rfl) (fun _ _ _ h=>h) (Or.inl ⟨by kernel_rfl,?_⟩) hS ?_
   rotate_left
   ·intro w' hw'; obtain ⟨x0,x1,x2⟩:=hw'; go_simp; with_reducible rfl
   refine wpAnyH_take (i:=14) (v:=?_) rfl (by kernel_rfl) (by kernel_rfl) (by kernel_rfl) (fun _ _ _ h=>h) (Or.inl ⟨by kernel_rfl,?_⟩) hS ?_
   rotate_left
   ·intro w' hw'; obtain ⟨x0,x1,x2⟩:=hw'; go_simp; with_reducible rfl
   refine wpAnyH_take (i:=15) (v:=?_) rfl (by kernel_rfl) (by kernel_rfl) (by kernel_rfl) (fun _ _ _ h=>h) (Or.inl ⟨by kernel_rfl,?_⟩) hS ?_
   rotate_left
   ·intro w' hw'; obtain ⟨x0,x1,x2⟩:=hw'; go_simp; with_reducible rfl
   refine wpAnyH_ready (rs:=[16]) (by kernel_rfl) (by simp) ?_
   refine AllReadyH.cons rfl (fun K hK=>?_) AllReadyH.nil
   go_simp
   go_wp2_with (go_at_call 87; refine cL.out.mono ?_; rintro e w' ⟨rfl,rfl⟩)
   refine hK.out _ _ hS (fun hS2=>?_)
   clear hK K
   refine wpAnyH_take (i:=17) (v:=?_) rfl (by kernel_rfl) (by kernel_rfl) (by kernel_rfl) (fun _ _ _ h=>h) (Or.inl ⟨by kernel_rfl,?_⟩) hS ?_
   rotate_left
   ·intro w' hw'; obtain ⟨x0,x1,x2⟩:=hw'; go_simp; with_reducible rfl
   refine wpAnyH_take (i:=18) (v:=?_) rfl (by kernel_rfl) (by kernel_rfl) (by kernel_rfl) (fun _ _ _ h=>h) (Or.inl ⟨by kernel_rfl,?_⟩) hS ?_
   rotate_left
   ·intro w' hw'; obtain ⟨x0,x1,x2⟩:=hw'; go_simp; with_reducible rfl
   refine wpAnyH_ready (rs:=[19]) (by kernel_rfl) (by simp) ?_
   refine AllReadyH.cons rfl (fun K hK=>?_) AllReadyH.nil
   go_simp
   refine hK.out _ _ ⟨?_,?_,?_⟩ (fun hS2=>?_)
   ·exact (yf V3 sg2 (i * 4+3) (.int .i64 ln)).cell c14 (by simpa using n1.symm)
   ·exact (yf V3 sg2 (i * 4+3) (.int .i64 ln)).cell c13 (by simpa using n1.symm)
   ·exact (yf V3 sg2 (i * 4+3) (.int .i64 ln)).cell g5 (by simpa using n2.symm)
   clear hK K
   refine wpAnyH_done (by kernel_rfl) ?_ _
   try simp only [yaL,ysy,ysw,ysx,yso,ysm,ysn]
   go_wp2
   go_end0
   rw [RX3.out]
   exact ⟨rfl,P2.out.grown (yi (World.grownBy.refl _ none))⟩
  ·have d:(st2.obj.syms[i].sect == 0)=false:=by simp [hz]
   have d':(st2.obj.syms[i].sect != 0)=true:=by simp [hz]
   rw [if_pos (by simpa using hz)] at RS
   have m1:=LT.out.cell 1
   simp only [yS,ysk,ysl,ysj] at m1
   clear hz
   go_wp2_with fail
   refine (yK B s b g st2 10 t.pos V2 D2.out.1 (by omega) HT.out.pos).mono ?_
   rintro e V3 ⟨rfl,h3⟩
   have D3:=hid (D2.out.afterB h3)
   clear h3
   go_wp2
   (try simp only [Exit.inBlock,Exit.then]); refine bodyPost_ret (results_none rfl _ _ _) rfl ?_
   rw [RS.out]
   exact ⟨rfl,D3.out⟩
theorem yaj.of_own {w:World} {base n cap:Nat} {ao:Option Addr} {ws:List Int} (h:w.ownsRow base 3 1 (.slice ao n cap) n (ws.map (Value.int .i64))):yaj w ao cap ws:=by
 have hn:ws.length=n:=by have:=h.1; simpa using this
 rcases h.2 with ⟨h1,h2⟩ | ⟨g',cap',cur,hv,_,hg,h3,_,h5,h6⟩
 ·simp only [Value.slice.injEq] at h1
  exact .inl ⟨h1.1,h1.2.2,List.eq_nil_of_length_eq_zero (by omega)⟩
 ·simp only [Value.slice.injEq] at hv
  obtain ⟨rfl,_,rfl⟩:=hv
  refine .inr ⟨g',0,cur,rfl,hg,fun i hi=>?_⟩
  have e:(cur.toList.take (n * 1))[i]?=some (.int .i64 ws[i]):=by rw [h6]; simp [hi]
  rw [List.getElem?_take_of_lt (by omega)] at e
  rw [Nat.zero_add]
  simpa using e
theorem ybV {w wr w1:World} {row:Option Nat} (h:w.grownBy wr none) (k:wr.grownBy w1 row) (hr:∀ g,row=some g->w.heap.size<=g):w.grownBy w1 none :=
 ⟨k.os.trans h.os,k.tape.trans h.tape,k.output.trans h.output,Nat.le_trans h.size k.size,fun i hi hn =>
  (k.block i (Nat.lt_of_lt_of_le hi h.size) (fun e=>by have:=hr i e.symm; omega)).trans (h.block i hi hn)⟩
set_option maxHeartbeats 2000000 in
theorem yke (x:Int) (n:Nat) (w:World) (hn:n<=4096) :
  Calls Tryz.prog 199 #[.int .i64 x,.int .i64 n] w fun e w'=>(∃ ao cap,e = .returned (.slice ao n cap)/\yaj w' ao cap (List.replicate n x))/\w.grownBy w' none:=by
 obtain ⟨i0,hi,hz0,hz1,hz2⟩:=info_parts Tryz.infoInt
 go_enter Tryz.func199,Tryz.ntmps199
 go_wp2
 go_loopw [5,6] (fun v i wr=>∃ k:Nat,k<=n/\i = .int .i64 k/\wr.ownsRow w.heap.size 3 1 v k ((List.replicate k x).map (Value.int .i64))/\w.grownBy wr none) (fun _ i _=>n - (intOf i).toNat)
 case atStart=>exact ⟨0,Nat.zero_le _,rfl,World.ownsRow_nil _ _ _ _,World.grownBy.refl _ _⟩
 case round =>
  rename_i v _ _
  obtain ⟨k,hk,rfl,hown,hgr⟩:=hrel
  obtain ⟨av,cv,rfl⟩:=yh hown
  have HG:=hid hgr
  have hsz:=hgr.size
  clear hgr
  by_cases hlt:k < n
  ·have hlt':(k:Int) < (n:Int):=by omega
   go_wp2_with (at_builtin; refine wpList_append_own _ rfl _ _ 35 rfl w.heap.size 3 i0 (.int .i64 0) 1 8 Tryz.underlying35 hi hz0 hz1 hz2 rfl (by decide) _ _ _ rfl (hown.alloc _) ⟨wr.heap.size,0,none⟩ 1 1 [.int .i64 x] rfl rfl (cell_one_new _ _ _) (by intro u hu; simp at hu; subst hu; rfl) (by unfold maxLen; omega) (by omega) (by simp; omega) ?_; intro v' w3 hown' hgrow _; obtain ⟨av',cv',rfl⟩:=yh hown'; have K:=hid (ybV (ya HG.out (ysp wr (.cells #[.int .i64 x] 3) none)) hgrow (fun b hb=>(hown.lt b hb).1)); have HO:=hid hown'; clear hgrow hown')
   go_wp2
   go_roundw
   case rel=>exact ⟨k+1,by omega,by go_num,by rw [List.replicate_succ',List.map_append]; exact HO.out,K.out⟩
   case measure=>simp [intOf]; omega
  ·obtain rfl:k=n:=by omega
   have HO:=hid hown
   clear hown
   go_wp2
   go_ret
   exact ⟨⟨av,cv,rfl,yaj.of_own HO.out⟩,HG.out⟩
theorem ybM (x:Int) (n:Nat) (mn:Int) (hm:mn=(n:Int)) (w:World) (hn:n<=4096) :
  Calls Tryz.prog 199 #[.int .i64 x,.int .i64 mn] w fun e w'=>(∃ ao cap,e = .returned (.slice ao n cap)/\yaj w' ao cap (List.replicate n x))/\w.grownBy w' none:=by
 subst hm; exact yke x n w hn
theorem yfV (B:Nat) (s:ByteArray) (b g:Nat) (st:As.St) (x:Int) (n:Nat) (ao:Option Addr) (cap:Nat) (W:World) (h:yl B s b g st W) (hw:yaj W ao cap (List.replicate n x)) (hn:n<=4096) :
  Calls Tryz.prog 198 #[.pointer (some ⟨b,0,none⟩),.slice ao n cap] W fun en W'=>en = .returned (.tuple #[])/\Does B s b g W (As.lay (List.replicate n x) st) W':=by
 have c:=ydg B s b g st ao cap (List.replicate n x) W h hw (by simpa using hn)
 rw [List.length_replicate] at c
 exact c
theorem ygd (B:Nat) (s:ByteArray) (b g:Nat) (st:As.St) (kind:Int) (sym:Nat) (addend:Int) (x:Int) (n:Nat) (ao:Option Addr) (cap:Nat) (W:World) (h:yl B s b g st W) (hw:yaj W ao cap (List.replicate n x)) (hn:n<=4096) :
  Calls Tryz.prog 195 #[.pointer (some ⟨b,0,none⟩),.int .i64 kind,.int .i64 sym,.int .i64 addend,.slice ao n cap] W fun en W'=>en = .returned (.tuple #[])/\Does B s b g W (As.layWith kind sym addend (List.replicate n x) st) W':=by
 have c:=ybm B s b g st kind sym addend ao cap (List.replicate n x) W h hw (by simpa using hn)
 rw [List.length_replicate] at c
 exact c
end Go.Proofs.YtpgklkhgfcjceaaGreatDoor
