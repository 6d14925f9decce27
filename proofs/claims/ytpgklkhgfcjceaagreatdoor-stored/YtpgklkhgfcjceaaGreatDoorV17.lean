
import Derived.Test.YtpgklkhgfcjceaaGreatDoorV16
import Derived.Test.YtpgklkhgfcjceaaGreatDoorV14
set_option maxHeartbeats 16000000
set_option maxRecDepth 100000
namespace Go.Proofs.YtpgklkhgfcjceaaGreatDoor
open Go.RowKit
theorem Pk {B:Nat} {s:ByteArray} {b g:Nat} {st:As.St} {W:World} (h:yl B s b g st W):W.cell? ⟨b,11,none⟩=some (.string (bs st.op.text)):=by
 have c:=yL h 11;simpa only [yE,bI,bN,bK] using c
theorem ypo (B:Nat) (s:ByteArray) (b g:Nat) (st0:As.St) (W:World) (h:yl B s b g st0 W) :
  Calls Tryz.prog 142 #[.pointer (some ⟨b,0,none⟩)] W fun en W'=>en = .returned (.tuple #[])/\Does B s b g W (As.load (sl s) st0) W':=by
 have D0:=hid h.does;clear h;obtain ⟨X,hX⟩:∃ X,X=As.load (sl s) st0:=⟨_,rfl⟩
 rw [<- hX];unfold As.load at hX;dsimp only at hX;have RS:=hid hX;clear hX;go_enter Tryz.func142,Tryz.ntmps142;go_wp2_with fail;refine (yQ B s b g st0 _ D0.o.1).mono ?_;rintro e V1 ⟨rfl,hh⟩;have D1:=hid (D0.o.aN hh);clear hh D0;generalize As.register (sl s) st0=R1 at *;obtain ⟨rd,st1⟩:=R1;dsimp only at RS D1 ⊢;go_wp2_with fail;refine (vR B s b g st1 [44] _ D1.o.1).mono ?_;rintro e V2 ⟨rfl,hh⟩;have D2:=hid (D1.o.aN hh);clear hh D1;generalize As.sign (sl s) [44] st1=st2 at *;obtain ⟨c2,c3,c4,c5⟩:=wm D2.o.1
 cases hk:(st2.tok.kind == 1)
 ·have d:((st2.tok.kind:Int) == 1)=false:=by simp at hk ⊢; omega
  have d':((st2.tok.kind:Int) != 1)=true:=by simp at hk ⊢; omega
  rw [hk] at RS;rw [if_neg (by simp)] at RS;clear hk;go_wp2_with fail;refine (Tw B s b g st2 _ D2.o.1).mono ?_;rintro e V3 ⟨rfl,hh⟩;have D3:=hid (D2.o.aN hh);clear hh D2 c2 c3 c4 c5;generalize As.place (sl s) st2=R3 at *;obtain ⟨⟨n,au⟩,iU⟩:=R3;dsimp only at RS D3 ⊢;go_wp2_with fail;refine (Dr B s b g iU 11 rd au 0 n _ D3.o.1 (by omega) (by omega)).mono ?_;rintro e VF ⟨rfl,hh⟩;have DF:=hid (D3.o.after hh);clear hh;go_wp2
  first | go_end0 | ((try simp only [Exit.inBlock,Exit.then]); refine bodyPost_ret (results_none rfl _ _ _) rfl ?_)
  rw [RS.o];exact ⟨rfl,DF.o⟩
 ·have d:((st2.tok.kind:Int) == 1)=true:=by simp at hk ⊢; omega
  have d':((st2.tok.kind:Int) != 1)=false:=by simp at hk ⊢; omega
  rw [hk] at RS;rw [if_pos rfl] at RS;clear hk;go_wp2_with fail;refine (Pg B s b g st2 _ D2.o.1).mono ?_;rintro e V3 ⟨rfl,hh⟩;have D3:=hid (D2.o.after hh);clear hh D2 c2 c3 c4 c5;generalize As.target (sl s) st2=R3 at *;obtain ⟨⟨sym,add⟩,iU⟩:=R3;dsimp only at RS D3 ⊢;go_wp2_with fail;refine (SK B s b g iU rd 11 rd rd 0 0 sym add _ D3.o.1 (by omega) (by omega)).mono ?_;rintro e VF ⟨rfl,hh⟩;have DF:=hid (D3.o.after hh);clear hh;go_wp2
  first | go_end0 | ((try simp only [Exit.inBlock,Exit.then]); refine bodyPost_ret (results_none rfl _ _ _) rfl ?_)
  rw [RS.o];exact ⟨rfl,DF.o⟩
theorem yoF (B:Nat) (s:ByteArray) (b g:Nat) (st0:As.St) (W:World) (h:yl B s b g st0 W) :
  Calls Tryz.prog 143 #[.pointer (some ⟨b,0,none⟩)] W fun en W'=>en = .returned (.tuple #[])/\Does B s b g W (As.store (sl s) st0) W':=by
 have D0:=hid h.does;clear h;obtain ⟨X,hX⟩:∃ X,X=As.store (sl s) st0:=⟨_,rfl⟩
 rw [<- hX];unfold As.store at hX;dsimp only at hX;have RS:=hid hX;clear hX;go_enter Tryz.func143,Tryz.ntmps143;go_wp2_with fail;refine (yQ B s b g st0 _ D0.o.1).mono ?_;rintro e V1 ⟨rfl,hh⟩;have D1:=hid (D0.o.aN hh);clear hh D0;generalize As.register (sl s) st0=R1 at *;obtain ⟨rs,st1⟩:=R1;dsimp only at RS D1 ⊢;go_wp2_with fail;refine (vR B s b g st1 [44] _ D1.o.1).mono ?_;rintro e V2 ⟨rfl,hh⟩;have D2:=hid (D1.o.aN hh);clear hh D1;generalize As.sign (sl s) [44] st1=st2 at *;obtain ⟨c2,c3,c4,c5⟩:=wm D2.o.1
 cases hk:(st2.tok.kind == 1)
 ·have d:((st2.tok.kind:Int) == 1)=false:=by simp at hk ⊢; omega
  have d':((st2.tok.kind:Int) != 1)=true:=by simp at hk ⊢; omega
  rw [hk] at RS;rw [if_neg (by simp)] at RS;clear hk;go_wp2_with fail;refine (Tw B s b g st2 _ D2.o.1).mono ?_;rintro e V3 ⟨rfl,hh⟩;have D3:=hid (D2.o.aN hh);clear hh D2 c2 c3 c4 c5;generalize As.place (sl s) st2=R3 at *;obtain ⟨⟨n,au⟩,iU⟩:=R3;dsimp only at RS D3 ⊢;go_wp2_with fail;refine (Dr B s b g iU 12 0 au rs n _ D3.o.1 (by omega) (by omega)).mono ?_;rintro e VF ⟨rfl,hh⟩;have DF:=hid (D3.o.after hh);clear hh;go_wp2
  first | go_end0 | ((try simp only [Exit.inBlock,Exit.then]); refine bodyPost_ret (results_none rfl _ _ _) rfl ?_)
  rw [RS.o];exact ⟨rfl,DF.o⟩
 ·have d:((st2.tok.kind:Int) == 1)=true:=by simp at hk ⊢; omega
  have d':((st2.tok.kind:Int) != 1)=false:=by simp at hk ⊢; omega
  rw [hk] at RS;rw [if_pos rfl] at RS;clear hk;go_wp2_with fail;refine (Pg B s b g st2 _ D2.o.1).mono ?_;rintro e V3 ⟨rfl,hh⟩;have D3:=hid (D2.o.after hh);clear hh D2 c2 c3 c4 c5;generalize As.target (sl s) st2=R3 at *;obtain ⟨⟨sym,add⟩,iU⟩:=R3;dsimp only at RS D3 ⊢;go_wp2_with fail;refine (vR B s b g iU [44] _ D3.o.1).mono ?_;rintro e V4 ⟨rfl,hh⟩;have D4:=hid (D3.o.aN hh);clear hh D3;generalize As.sign (sl s) [44] iU=rM at *;go_wp2_with fail;refine (yQ B s b g rM _ D4.o.1).mono ?_;rintro e V5 ⟨rfl,hh⟩;have D5:=hid (D4.o.aN hh);clear hh D4;generalize As.register (sl s) rM=R5 at *;obtain ⟨rt,Dc⟩:=R5
  dsimp only at RS D5 ⊢;go_wp2_with fail;refine (SK B s b g Dc rt 12 0 rt rs 0 sym add _ D5.o.1 (by omega) (by omega)).mono ?_;rintro e VF ⟨rfl,hh⟩;have DF:=hid (D5.o.after hh);clear hh;go_wp2
  first | go_end0 | ((try simp only [Exit.inBlock,Exit.then]); refine bodyPost_ret (results_none rfl _ _ _) rfl ?_)
  rw [RS.o];exact ⟨rfl,DF.o⟩
theorem ymr (B:Nat) (s:ByteArray) (b g:Nat) (st0:As.St) (op:Nat) (W:World) (h:yl B s b g st0 W) (h1:1<=op) (h2:op<=25) :
  Calls Tryz.prog 146 #[.pointer (some ⟨b,0,none⟩),.int .i64 op] W fun en W'=>en = .returned (.tuple #[])/\Does B s b g W (As.branch (sl s) op st0) W':=by
 have D0:=hid h.does;clear h;obtain ⟨X,hX⟩:∃ X,X=As.branch (sl s) op st0:=⟨_,rfl⟩
 rw [<- hX];unfold As.branch at hX;dsimp only at hX;have RS:=hid hX;clear hX;go_enter Tryz.func146,Tryz.ntmps146;go_wp2_with fail;refine (yQ B s b g st0 _ D0.o.1).mono ?_;rintro e V1 ⟨rfl,hh⟩;have D1:=hid (D0.o.aN hh);clear hh D0;generalize As.register (sl s) st0=R1 at *;obtain ⟨au,st1⟩:=R1;dsimp only at RS D1 ⊢;go_wp2_with fail;refine (vR B s b g st1 [44] _ D1.o.1).mono ?_;rintro e V2 ⟨rfl,hh⟩;have D2:=hid (D1.o.aN hh);clear hh D1;generalize As.sign (sl s) [44] st1=st2 at *;go_wp2_with fail;refine (yQ B s b g st2 _ D2.o.1).mono ?_;rintro e V3 ⟨rfl,hh⟩;have D3:=hid (D2.o.aN hh);clear hh D2;generalize As.register (sl s) st2=R3 at *
 obtain ⟨aF,iU⟩:=R3;dsimp only at RS D3 ⊢;go_wp2_with fail;refine (vR B s b g iU [44] _ D3.o.1).mono ?_;rintro e V4 ⟨rfl,hh⟩;have D4:=hid (D3.o.aN hh);clear hh D3;generalize As.sign (sl s) [44] iU=rM at *;go_wp2_with fail;refine (Nv B s b g rM _ D4.o.1).mono ?_;rintro e V5 ⟨rfl,hh⟩;have D5:=hid (D4.o.after hh);clear hh D4;generalize As.symbol (sl s) rM=R5 at *;obtain ⟨y,Dc⟩:=R5;dsimp only at RS D5 ⊢;go_wp2_with fail;refine (za op 0 au aF 0 _ D5.o.1.tabs h1 h2).mono ?_;rintro e V6 ⟨rfl,hg⟩;have D6:=hid (D5.o.grown hg);clear hg D5;generalize RQ:Dc=Df at *;generalize As.enc op 0 au aF 0=x at *;clear RQ
 go_wp2_with fail;refine (Hw B s b g Df 2 y 0 _ 1 [(x:Int)] _ (D6.o.alloc _).1 (NH V6 x) (by simp)).mono ?_;rintro e VF ⟨rfl,hh⟩;have DF:=hid ((D6.o.alloc _).after hh);clear hh;go_wp2
 first | go_end0 | ((try simp only [Exit.inBlock,Exit.then]); refine bodyPost_ret (results_none rfl _ _ _) rfl ?_)
 rw [RS.o];exact ⟨rfl,DF.o⟩
theorem XT (B:Nat) (s:ByteArray) (b g:Nat) (st0:As.St) (rd:Nat) (W:World) (h:yl B s b g st0 W) :
  Calls Tryz.prog 196 #[.pointer (some ⟨b,0,none⟩),.int .i64 rd] W fun en W'=>en = .returned (.tuple #[])/\Does B s b g W (As.fC (sl s) rd st0) W':=by
 have D0:=hid h.does;clear h;obtain ⟨X,hX⟩:∃ X,X=As.fC (sl s) rd st0:=⟨_,rfl⟩
 rw [<- hX];unfold As.fC at hX;dsimp only at hX;have RS:=hid hX;clear hX;go_enter Tryz.func196,Tryz.ntmps196;go_wp2_with fail;refine (Nv B s b g st0 _ D0.o.1).mono ?_;rintro e V1 ⟨rfl,hh⟩;have D1:=hid (D0.o.after hh);clear hh D0;generalize As.symbol (sl s) st0=R1 at *;obtain ⟨y,st1⟩:=R1;dsimp only at RS D1 ⊢;go_wp2_with fail;refine (za 3 rd 0 0 0 _ D1.o.1.tabs (by omega) (by omega)).mono ?_;rintro e V2 ⟨rfl,hg⟩;have D2:=hid (D1.o.grown hg);clear hg D1;generalize BS:st1=st2 at *;generalize As.enc 3 rd 0 0 0=x at *;clear BS;go_wp2_with fail;refine (Hw B s b g st2 3 y 0 _ 1 [(x:Int)] _ (D2.o.alloc _).1 (NH V2 x) (by simp)).mono ?_
 rintro e VF ⟨rfl,hh⟩;have DF:=hid ((D2.o.alloc _).after hh);clear hh;go_wp2
 first | go_end0 | ((try simp only [Exit.inBlock,Exit.then]); refine bodyPost_ret (results_none rfl _ _ _) rfl ?_)
 rw [RS.o];exact ⟨rfl,DF.o⟩
theorem yjN (B:Nat) (s:ByteArray) (b g:Nat) (st0:As.St) (W:World) (h:yl B s b g st0 W) :
  Calls Tryz.prog 147 #[.pointer (some ⟨b,0,none⟩)] W fun en W'=>en = .returned (.tuple #[])/\Does B s b g W (As.fB (sl s) st0) W':=by
 have D0:=hid h.does;clear h;obtain ⟨X,hX⟩:∃ X,X=As.fB (sl s) st0:=⟨_,rfl⟩
 rw [<- hX];unfold As.fB at hX;dsimp only at hX;have RS:=hid hX;clear hX;go_enter Tryz.func147,Tryz.ntmps147;go_wp2_with fail;refine (yQ B s b g st0 _ D0.o.1).mono ?_;rintro e V1 ⟨rfl,hh⟩;have D1:=hid (D0.o.aN hh);clear hh D0;generalize As.register (sl s) st0=R1 at *;obtain ⟨rd,st1⟩:=R1;dsimp only at RS D1 ⊢;go_wp2_with fail;refine (vR B s b g st1 [44] _ D1.o.1).mono ?_;rintro e V2 ⟨rfl,hh⟩;have D2:=hid (D1.o.aN hh);clear hh D1;generalize As.sign (sl s) [44] st1=st2 at *;go_wp2_with fail;refine (XT B s b g st2 rd _ D2.o.1).mono ?_;rintro e VF ⟨rfl,hh⟩;have DF:=hid (D2.o.after hh);clear hh;go_wp2
 first | go_end0 | ((try simp only [Exit.inBlock,Exit.then]); refine bodyPost_ret (results_none rfl _ _ _) rfl ?_)
 rw [RS.o];exact ⟨rfl,DF.o⟩
theorem ypj (B:Nat) (s:ByteArray) (b g:Nat) (st0:As.St) (W:World) (h:yl B s b g st0 W) :
  Calls Tryz.prog 148 #[.pointer (some ⟨b,0,none⟩)] W fun en W'=>en = .returned (.tuple #[])/\Does B s b g W (As.fC (sl s) 0 st0) W':=by
 have c:=hid (XT B s b g st0 0 W h);clear h;go_enter Tryz.func148,Tryz.ntmps148;go_wp2_with fail;refine c.o.mono ?_;rintro e VF ⟨rfl,hh⟩;have DF:=hid hh;clear hh;go_wp2
 go_end0
 exact ⟨rfl,DF.o⟩
theorem yhR (B:Nat) (s:ByteArray) (b g:Nat) (st0:As.St) (W:World) (h:yl B s b g st0 W) :
  Calls Tryz.prog 150 #[.pointer (some ⟨b,0,none⟩)] W fun en W'=>en = .returned (.tuple #[])/\Does B s b g W (As.dF (sl s) st0) W':=by
 have D0:=hid h.does;clear h;obtain ⟨X,hX⟩:∃ X,X=As.dF (sl s) st0:=⟨_,rfl⟩
 rw [<- hX];unfold As.dF at hX;dsimp only at hX;have RS:=hid hX;clear hX;go_enter Tryz.func150,Tryz.ntmps150;go_wp2_with fail;refine (yQ B s b g st0 _ D0.o.1).mono ?_;rintro e V1 ⟨rfl,hh⟩;have D1:=hid (D0.o.aN hh);clear hh D0;generalize As.register (sl s) st0=R1 at *;obtain ⟨rd,st1⟩:=R1;dsimp only at RS D1 ⊢;go_wp2_with fail;refine (vR B s b g st1 [44] _ D1.o.1).mono ?_;rintro e V2 ⟨rfl,hh⟩;have D2:=hid (D1.o.aN hh);clear hh D1;generalize As.sign (sl s) [44] st1=st2 at *;have NB:=TJ (sl s) (-2147483648) 2147483647 st2 (by omega) (by omega);go_wp2_with fail;refine (Gn B s b g st2 (-2147483648) 2147483647 _ D2.o.1).mono ?_
 rintro e V3 ⟨rfl,hh⟩;have D3:=hid (D2.o.aN hh);clear hh D2;generalize As.number (sl s) (-2147483648) 2147483647 st2=R3 at *;obtain ⟨n,iU⟩:=R3;dsimp only at RS D3 NB ⊢;by_cases c1:-2048<=n
 ·by_cases c2:n<=2047
  ·have d1:decide (-2048<=n)=true:=by simp; omega
   have d2:decide (n<=2047)=true:=by simp; omega
   rw [if_pos ⟨c1,c2⟩] at RS;clear c1 c2;go_wp2_with fail;refine (Dr B s b g iU 13 rd 0 0 n _ D3.o.1 (by omega) (by omega)).mono ?_;rintro e VF ⟨rfl,hh⟩;have DF:=hid (D3.o.after hh);clear hh;go_wp2
   first | go_end0 | ((try simp only [Exit.inBlock,Exit.then]); refine bodyPost_ret (results_none rfl _ _ _) rfl ?_)
   rw [RS.o];exact ⟨rfl,DF.o⟩
  ·have d1:decide (-2048<=n)=true:=by simp; omega
   have d2:decide (n<=2047)=false:=by simp; omega
   rw [if_neg (fun k=>c2 k.2)] at RS;clear c1 c2;go_wp2_with fail;refine (Tv n _ NB.1 NB.2).mono ?_;rintro e w1 ⟨rfl,rfl⟩;generalize As.dG n=hi at *;generalize As.bP n=lo at *;go_wp2_with fail;refine (za 1 rd 0 0 hi _ D3.o.1.tabs (by omega) (by omega)).mono ?_;rintro e V4 ⟨rfl,hg⟩;have D4:=hid (D3.o.grown hg);clear hg D3;generalize Jc:iU=rM at *;generalize As.enc 1 rd 0 0 hi=x at *;clear Jc;go_wp2_with fail;refine (za 13 rd rd 0 lo _ D4.o.1.tabs (by omega) (by omega)).mono ?_;rintro e V5 ⟨rfl,hg⟩;have D5:=hid (D4.o.grown hg);clear hg D4;generalize Jd:rM=Dc at *;generalize As.enc 13 rd rd 0 lo=y at *
   clear Jd;go_wp2_with fail;refine (J3 B s b g Dc _ 2 [(x:Int),(y:Int)] _ (D5.o.alloc _).1 (K8 V5 x y) (by simp)).mono ?_;rintro e VF ⟨rfl,hh⟩;have DF:=hid ((D5.o.alloc _).after hh);clear hh;go_wp2
   first | go_end0 | ((try simp only [Exit.inBlock,Exit.then]); refine bodyPost_ret (results_none rfl _ _ _) rfl ?_)
   rw [RS.o];exact ⟨rfl,DF.o⟩
 ·have d1:decide (-2048<=n)=false:=by simp; omega
  rw [if_neg (fun k=>c1 k.1)] at RS;clear c1;go_wp2_with fail;refine (Tv n _ NB.1 NB.2).mono ?_;rintro e w1 ⟨rfl,rfl⟩;generalize As.dG n=hi at *;generalize As.bP n=lo at *;go_wp2_with fail;refine (za 1 rd 0 0 hi _ D3.o.1.tabs (by omega) (by omega)).mono ?_;rintro e V4 ⟨rfl,hg⟩;have D4:=hid (D3.o.grown hg);clear hg D3;generalize Jc:iU=rM at *;generalize As.enc 1 rd 0 0 hi=x at *;clear Jc;go_wp2_with fail;refine (za 13 rd rd 0 lo _ D4.o.1.tabs (by omega) (by omega)).mono ?_;rintro e V5 ⟨rfl,hg⟩;have D5:=hid (D4.o.grown hg);clear hg D4;generalize Jd:rM=Dc at *;generalize As.enc 13 rd rd 0 lo=y at *
  clear Jd;go_wp2_with fail;refine (J3 B s b g Dc _ 2 [(x:Int),(y:Int)] _ (D5.o.alloc _).1 (K8 V5 x y) (by simp)).mono ?_;rintro e VF ⟨rfl,hh⟩;have DF:=hid ((D5.o.alloc _).after hh);clear hh;go_wp2
  first | go_end0 | ((try simp only [Exit.inBlock,Exit.then]); refine bodyPost_ret (results_none rfl _ _ _) rfl ?_)
  rw [RS.o];exact ⟨rfl,DF.o⟩
theorem yoP (B:Nat) (s:ByteArray) (b g:Nat) (st0:As.St) (W:World) (h:yl B s b g st0 W) :
  Calls Tryz.prog 151 #[.pointer (some ⟨b,0,none⟩)] W fun en W'=>en = .returned (.tuple #[])/\Does B s b g W (As.call (sl s) st0) W':=by
 have D0:=hid h.does;clear h;obtain ⟨X,hX⟩:∃ X,X=As.call (sl s) st0:=⟨_,rfl⟩
 rw [<- hX];unfold As.call at hX;dsimp only at hX;have RS:=hid hX;clear hX;go_enter Tryz.func151,Tryz.ntmps151;have c11:=Pk D0.o.1
 cases ht:(st0.op.text == [116,97,105,108])
 ·have d:((bs st0.op.text).toList == [116,97,105,108])=false:=by rw [yH]; exact ht
  rw [ht] at RS;simp only [Bool.false_eq_true,if_false] at RS;clear ht;go_wp2_with fail;refine (Nv B s b g st0 _ D0.o.1).mono ?_;rintro e V1 ⟨rfl,hh⟩;have D1:=hid (D0.o.after hh);clear hh D0 c11;generalize As.symbol (sl s) st0=R1 at *;obtain ⟨y,st1⟩:=R1;dsimp only at RS D1 ⊢;go_wp2_with fail;refine (za 2 1 0 0 0 _ D1.o.1.tabs (by omega) (by omega)).mono ?_;rintro e V2 ⟨rfl,hg⟩;have D2:=hid (D1.o.grown hg);clear hg D1;generalize BS:st1=st2 at *;generalize As.enc 2 1 0 0 0=x at *;clear BS;go_wp2_with fail;refine (za 4 1 1 0 0 _ D2.o.1.tabs (by omega) (by omega)).mono ?_;rintro e V3 ⟨rfl,hg⟩;have D3:=hid (D2.o.grown hg)
  clear hg D2;generalize Jb:st2=iU at *;generalize As.enc 4 1 1 0 0=z at *;clear Jb;go_wp2_with fail;refine (Hw B s b g iU 4 y 0 _ 2 [(x:Int),(z:Int)] _ (D3.o.alloc _).1 (K8 V3 x z) (by simp)).mono ?_;rintro e VF ⟨rfl,hh⟩;have DF:=hid ((D3.o.alloc _).after hh);clear hh;go_wp2
  first | go_end0 | ((try simp only [Exit.inBlock,Exit.then]); refine bodyPost_ret (results_none rfl _ _ _) rfl ?_)
  rw [RS.o];exact ⟨rfl,DF.o⟩
 ·have d:((bs st0.op.text).toList == [116,97,105,108])=true:=by rw [yH]; exact ht
  rw [ht] at RS;simp only [if_true] at RS;clear ht;go_wp2_with fail;refine (Nv B s b g st0 _ D0.o.1).mono ?_;rintro e V1 ⟨rfl,hh⟩;have D1:=hid (D0.o.after hh);clear hh D0 c11;generalize As.symbol (sl s) st0=R1 at *;obtain ⟨y,st1⟩:=R1;dsimp only at RS D1 ⊢;go_wp2_with fail;refine (za 2 6 0 0 0 _ D1.o.1.tabs (by omega) (by omega)).mono ?_;rintro e V2 ⟨rfl,hg⟩;have D2:=hid (D1.o.grown hg);clear hg D1;generalize BS:st1=st2 at *;generalize As.enc 2 6 0 0 0=x at *;clear BS;go_wp2_with fail;refine (za 4 0 6 0 0 _ D2.o.1.tabs (by omega) (by omega)).mono ?_;rintro e V3 ⟨rfl,hg⟩;have D3:=hid (D2.o.grown hg)
  clear hg D2;generalize Jb:st2=iU at *;generalize As.enc 4 0 6 0 0=z at *;clear Jb;go_wp2_with fail;refine (Hw B s b g iU 4 y 0 _ 2 [(x:Int),(z:Int)] _ (D3.o.alloc _).1 (K8 V3 x z) (by simp)).mono ?_;rintro e VF ⟨rfl,hh⟩;have DF:=hid ((D3.o.alloc _).after hh);clear hh;go_wp2
  first | go_end0 | ((try simp only [Exit.inBlock,Exit.then]); refine bodyPost_ret (results_none rfl _ _ _) rfl ?_)
  rw [RS.o];exact ⟨rfl,DF.o⟩
theorem yoO (B:Nat) (s:ByteArray) (b g:Nat) (st0:As.St) (W:World) (h:yl B s b g st0 W) :
  Calls Tryz.prog 145 #[.pointer (some ⟨b,0,none⟩)] W fun en W'=>en = .returned (.tuple #[])/\Does B s b g W (As.bare st0) W':=by
 have D0:=hid h.does;have c11:=Pk h;clear h;have RS:=hid (show As.bare st0=if st0.op.text=[101,99,97,108,108] then As.bH 25 0 0 0 0 st0 else if st0.op.text=[114,101,116] then As.bH 4 0 1 0 0 st0 else if st0.op.text=[110,111,112] then As.bH 13 0 0 0 0 st0 else st0 from rfl);generalize As.bare st0=X at *;have e:∀ l:List UInt8,((bs st0.op.text).toList == l)=decide (st0.op.text=l):=fun l=>by rw [yH,Bool.eq_iff_iff,beq_iff_eq,decide_eq_true_iff]
 have d1:=e [101,99,97,108,108];have d2:=e [114,101,116];have d3:=e [110,111,112];clear e;by_cases h1:st0.op.text=[101,99,97,108,108]
 ·rw [if_pos h1] at RS;rw [decide_eq_true h1] at d1;clear h1 d2 d3;go_enter Tryz.func145,Tryz.ntmps145;go_wp2_with fail;refine (Dr B s b g st0 25 0 0 0 0 _ D0.o.1 (by omega) (by omega)).mono ?_;rintro e VF ⟨rfl,hh⟩;have DF:=hid (D0.o.after hh);clear hh;go_wp2
  first | go_end0 | ((try simp only [Exit.inBlock,Exit.then]); refine bodyPost_ret (results_none rfl _ _ _) rfl ?_)
  rw [RS.o];exact ⟨rfl,DF.o⟩
 rw [if_neg h1] at RS;rw [decide_eq_false h1] at d1;clear h1;by_cases h2:st0.op.text=[114,101,116]
 ·rw [if_pos h2] at RS;rw [decide_eq_true h2] at d2;clear h2 d3;go_enter Tryz.func145,Tryz.ntmps145;go_wp2_with fail;refine (Dr B s b g st0 4 0 1 0 0 _ D0.o.1 (by omega) (by omega)).mono ?_;rintro e VF ⟨rfl,hh⟩;have DF:=hid (D0.o.after hh);clear hh;go_wp2
  first | go_end0 | ((try simp only [Exit.inBlock,Exit.then]); refine bodyPost_ret (results_none rfl _ _ _) rfl ?_)
  rw [RS.o];exact ⟨rfl,DF.o⟩
 rw [if_neg h2] at RS;rw [decide_eq_false h2] at d2;clear h2;by_cases h3:st0.op.text=[110,111,112]
 ·rw [if_pos h3] at RS;rw [decide_eq_true h3] at d3;clear h3;go_enter Tryz.func145,Tryz.ntmps145;go_wp2_with fail;refine (Dr B s b g st0 13 0 0 0 0 _ D0.o.1 (by omega) (by omega)).mono ?_;rintro e VF ⟨rfl,hh⟩;have DF:=hid (D0.o.after hh);clear hh;go_wp2
  first | go_end0 | ((try simp only [Exit.inBlock,Exit.then]); refine bodyPost_ret (results_none rfl _ _ _) rfl ?_)
  rw [RS.o];exact ⟨rfl,DF.o⟩
 rw [if_neg h3] at RS;rw [decide_eq_false h3] at d3;clear h3;go_enter Tryz.func145,Tryz.ntmps145;go_wp2
 go_end0
 rw [RS.o];exact ⟨rfl,D0.o⟩
theorem Zo {w:World} {base:Nat} {e:TypeId} {size n cap:Nat} {ao:Option Addr} {xs:List Value} (h:w.ownsRow base e size (.slice ao n cap) n xs) (h0:0 < n):∃ sg cur,ao=some ⟨sg,0,none⟩/\yc w sg cur e/\cur.size=cap * size/\cur.toList.take (n * size)=xs/\n<=cap:=by
 rcases h.2 with ⟨h1,h2⟩ | ⟨g',cap',cur,hv,_,hg,h3,_,h5,h6⟩
 ·omega
 ·simp only [Value.slice.injEq] at hv;obtain ⟨rfl,_,rfl⟩:=hv;exact ⟨g',cur,rfl,hg,h5,h6,h3⟩
theorem Zp {w:World} {base:Nat} {e:TypeId} {size n cap sg j:Nat} {xs:List Value} {u:Value} (h:w.ownsRow base e size (.slice (some ⟨sg,0,none⟩) n cap) n xs) (_hj:j < n * size) :
  (w.setCell ⟨sg,j,none⟩ u).ownsRow base e size (.slice (some ⟨sg,0,none⟩) n cap) n (xs.set j u):=by
 refine ⟨by rw [List.length_set]; exact h.1,?_⟩;rcases h.2 with ⟨h1,h2⟩ | ⟨g',cap',cur,hv,hb,hg,h3,h4,h5,h6⟩
 ·simp at h1
 ·simp only [Value.slice.injEq,Option.some.injEq,Addr.mk.injEq] at hv;obtain ⟨⟨rfl,_⟩,_,rfl⟩:=hv;refine .inr ⟨sg,cap,cur.setIfInBounds j u,rfl,hb,Nf hg u,h3,h4,by simpa using h5,?_⟩;rw [Array.toList_setIfInBounds,List.take_set,h6]
theorem yoX {α:Type} (f:α->List Value) (size:Nat) (hf:∀ x,(f x).length=size) (l:List α) (i j:Nat) (hi:i < l.length) (hj:j < size) (u:Value) (y:α) (hy:f y=(f l[i]).set j u):(l.flatMap f).set (i * size+j) u=(l.set i y).flatMap f:=by
 induction l generalizing i with
 | nil=>simp at hi
 | cons a l ih =>
  cases i with
  | zero =>
   simp only [List.flatMap_cons,gq,Nat.zero_mul,Nat.zero_add] at hy ⊢;rw [List.set_append_left _ _ (by rw [hf]; exact hj),hy];rfl
  | succ i =>
   simp only [List.flatMap_cons,fZ];rw [List.set_append_right _ _ (by rw [hf]; rw [Nat.succ_mul]; omega),hf,show (i+1) * size+j - size=i * size+j by rw [Nat.succ_mul]; omega,ih i (by simpa using hi) hy]
section
variable {B:Nat} {s:ByteArray} {b g:Nat} {V:World} {st:As.St} {vt vf vd va vs vr:Value}
theorem yl.tV {sg n cs:Nat} (h:yl B s b g st V) (ho:rT B V b g st.obj vt vf vd va (.slice (some ⟨sg,0,none⟩) n cs) vr) (i j:Nat) (hi:i < st.obj.syms.length) (hj:j < 4) (u:Value) (y:Lk.Sym) (hy:ig y=(ig st.obj.syms[i]).set j u) :
  Does B s b g V { st with obj:={ st.obj with syms:=st.obj.syms.set i y } } (V.setCell ⟨sg,i * 4+j,none⟩ u):=by
 obtain ⟨ao,cap,hv⟩:=yi ho.syms;simp only [Value.slice.injEq] at hv;obtain ⟨rfl,rfl,rfl⟩:=hv;have gs:=ye V sg (i * 4+j) u;have nr:nG B V (V.setCell ⟨sg,i * 4+j,none⟩ u) b g (.slice (some ⟨sg,0,none⟩) st.obj.syms.length cs) (.slice (some ⟨sg,0,none⟩) st.obj.syms.length cs) :=
  ⟨fun k hk hne _=>gs.block k hk (by simpa [Value.ownBlock] using hne),fun k hk=>.inl hk,gs.os,gs.tape,gs.output,gs.size⟩
 have hgs:g≠sg:=fun e=>ho.apart.ne (i:=1) (j:=6) rfl rfl (by omega) g rfl (by rw [e]; rfl)
 refine h.xX ho nr (st.obj.syms.set i y) (by rw [List.length_set]; exact h.ok.syms) (ho.blk.grown gs (by simpa using hgs)) ?_;rw [List.length_set,<- yoX ig 4 (fun x=>rfl) st.obj.syms i j hi hj u y hy];have hmm:i * 4+4<=st.obj.syms.length * 4:=by have:=Nat.mul_le_mul_right 4 (show i+1<=st.obj.syms.length by omega); omega
 exact Zp ho.syms (by omega)
theorem yl.Cz {v':Value} {W':World} (h:yl B s b g st V) (ho:rT B V b g st.obj vt vf vd va vs vr) (n:nG B V W' b g va v') (xs:List Int) (hxs:xs.length=4)
  (hblk:yc W' g #[vt,vf,vd,.int .i64 st.obj.bss,v',vs,vr] 71) (hown:W'.ownsRow B 3 1 v' xs.length (xs.map (Value.int .i64))):Does B s b g V { st with obj:={ st.obj with align:=xs } } W':=by
 refine n.does h ho (i:=5) rfl (by omega) ⟨vt,vf,vd,v',vs,vr,hblk,?_,?_,?_,hown,?_,?_,n.apart ho h.blk.lt (i:=5) rfl⟩ rfl (h.ok.xq _ h.ok.text h.ok.far h.ok.data h.ok.bss hxs h.ok.syms h.ok.aj) (Ib ho.align (by simp))
 ·exact n.row ho (i:=5) (j:=2) rfl rfl (by omega) (by omega) ho.text
 ·exact n.row ho (i:=5) (j:=3) rfl rfl (by omega) (by omega) ho.far
 ·exact n.row ho (i:=5) (j:=4) rfl rfl (by omega) (by omega) ho.data
 ·exact n.row ho (i:=5) (j:=6) rfl rfl (by omega) (by omega) ho.syms
 ·exact n.row ho (i:=5) (j:=7) rfl rfl (by omega) (by omega) ho.aj
theorem yl.CQ {sg n cs:Nat} (h:yl B s b g st V) (ho:rT B V b g st.obj vt vf vd (.slice (some ⟨sg,0,none⟩) n cs) vs vr) (i:Nat) (hi:i < 4) (u:Int) :
  Does B s b g V { st with obj:={ st.obj with align:=st.obj.align.set i u } } (V.setCell ⟨sg,i,none⟩ (.int .i64 u)):=by
 obtain ⟨ao,cap,hv⟩:=yi ho.align;simp only [Value.slice.injEq] at hv;obtain ⟨rfl,rfl,rfl⟩:=hv;have gs:=ye V sg i (.int .i64 u);have nr:nG B V (V.setCell ⟨sg,i,none⟩ (.int .i64 u)) b g (.slice (some ⟨sg,0,none⟩) st.obj.align.length cs) (.slice (some ⟨sg,0,none⟩) st.obj.align.length cs) :=
  ⟨fun k hk hne _=>gs.block k hk (by simpa [Value.ownBlock] using hne),fun k hk=>.inl hk,gs.os,gs.tape,gs.output,gs.size⟩
 have hgs:g≠sg:=fun e=>ho.apart.ne (i:=1) (j:=5) rfl rfl (by omega) g rfl (by rw [e]; rfl)
 refine h.Cz ho nr (st.obj.align.set i u) (by rw [List.length_set]; exact h.ok.align) (ho.blk.grown gs (by simpa using hgs)) ?_;rw [List.length_set,List.map_set];exact Zp ho.align (by have:=h.ok.align; omega)
end
theorem Yf (ys:List Lk.Sym) (i:Nat) (hi:i < ys.length) (f:Lk.Sym->Lk.Sym):ys.modify i f=ys.set i (f ys[i]):=by
 induction ys generalizing i with
 | nil=>simp at hi
 | cons y ys ih =>
  cases i with
  | zero=>simp
  | succ i =>
   simp only [List.modify_succ_cons,fZ,pz];rw [ih i (by simpa using hi)]
theorem X4 (t:As.Tok) (st:As.St) (h:(As.aK t st).1.2=true):(As.aK t st).1.1 < (As.aK t st).2.obj.syms.length:=by
 unfold As.aK at h ⊢
 cases hf:As.failed st
 ·rw [hf] at h;simp only [Bool.false_eq_true,if_false] at h ⊢
  cases hs:As.jV st.obj.syms t.text with
  | some i =>
   simp only;unfold As.jV at hs;rw [List.findIdx?_eq_some_iff_getElem] at hs;exact hs.1
  | none =>
   rw [hs] at h;simp only at h ⊢;by_cases h16:16<=st.obj.syms.length
   ·rw [if_pos h16] at h; simp at h
   ·rw [if_neg h16]; simp
 ·rw [hf] at h;simp at h
theorem Qa {B:Nat} {s:ByteArray} {b g:Nat} {V:World} {st:As.St} (h:yl B s b g st V) (i:Nat) (hi:i < st.obj.syms.length):∃ vt vf vd va sg cs vr,rT B V b g st.obj vt vf vd va (.slice (some ⟨sg,0,none⟩) st.obj.syms.length cs) vr/\V.cell? ⟨g,5,none⟩=some (.slice (some ⟨sg,0,none⟩) st.obj.syms.length cs) /\
  V.cell? ⟨sg,i * 4+1,none⟩=some (.int .i64 st.obj.syms[i].bind)/\V.cell? ⟨sg,i * 4+2,none⟩=some (.int .i64 st.obj.syms[i].ah)/\V.cell? ⟨sg,i * 4+3,none⟩=some (.int .i64 st.obj.syms[i].off)/\(∀ o,V.frozen? ⟨sg,o,none⟩=false)/\sg≠b/\sg≠g:=by
 obtain ⟨vt,vf,vd,va,vs,vr,ho⟩:=h.own;obtain ⟨gy,cs,rfl⟩:=yi ho.syms;obtain ⟨sg,cur,rfl,hb,-,-,-⟩:=Zo ho.syms (by omega);obtain ⟨sg',hsg,-,hc⟩:=nZ.aO ho.syms (by omega);simp only [Option.some.injEq,Addr.mk.injEq] at hsg;obtain ⟨rfl,-⟩:=hsg;obtain ⟨-,k1,k2,k3⟩:=hc i hi;have g5:=ho.blk.cell 5;simp only [bI,bN,bK] at g5;exact ⟨vt,vf,vd,va,sg,cs,vr,ho,g5,k1,k2,k3,fun o=>hb.free o,fun e=>ho.apart.ne (i:=0) (j:=6) rfl rfl (by omega) b rfl (by rw [<- e]; rfl),fun e=>ho.apart.ne (i:=1) (j:=6) rfl rfl (by omega) g rfl (by rw [<- e]; rfl)⟩
theorem YR (B:Nat) (s:ByteArray) (b g:Nat) (st:As.St) (binding:Int) (W:World) (h:yl B s b g st W) :
  Calls Tryz.prog 201 #[.pointer (some ⟨b,0,none⟩),.int .i64 binding] W fun en W'=>en = .returned (.tuple #[])/\Does B s b g W (As.bind (sl s) binding st) W':=by
 have HW:=hid h;have cN:=hid (YO B s b g st W h);have HT:=hid (YP (sl s) st h.ok.tok);clear h;obtain ⟨X,hX⟩:∃ X,X=As.bind (sl s) binding st:=⟨_,rfl⟩
 rw [<- hX];unfold As.bind at hX;dsimp only at hX;have RS:=hid hX;clear hX;generalize As.name (sl s) st=R at *;obtain ⟨t,st1⟩:=R;dsimp only at HT RS cN;go_enter Tryz.func201,Tryz.ntmps201;go_wp2_with fail;refine cN.o.mono ?_;rintro e V ⟨rfl,h1⟩;have D1:=hid (h1.does HW.o);clear h1 cN;unfold fV;go_wp2_with fail;refine (SF B s b g st1 t _ (D1.o.alloc _).1 HT.o).mono ?_;rintro e V2 ⟨rfl,h2⟩;have D2:=hid ((D1.o.alloc _).after h2);have LT:=hid (h2.2.2 V.heap.size (yT t) 64 (by decide) (by decide) (by decide) (by decide) (by decide) (yc.new V _ _));have Kt:=hid (X4 t st1);clear h2 D1;unfold Qm;generalize As.aK t st1=R2 at *
 obtain ⟨⟨i,ok⟩,st2⟩:=R2;dsimp only at RS D2 Kt ⊢
 cases ok
 ·rw [if_pos (show (!false)=true from rfl)] at RS;go_wp2
  (try simp only [Exit.inBlock,Exit.then]); refine bodyPost_ret (results_none rfl _ _ _) rfl ?_
  rw [RS.o];exact ⟨rfl,D2.o⟩
 ·rw [if_neg (by simp)] at RS;have hi:=Kt.o rfl;obtain ⟨vt,vf,vd,va,sg,cs,vr,ho,g5,k1,k2,k3,hfz,n1,n2⟩:=Qa D2.o.1 i hi;have HO:=hid ho;have c14:=uq D2.o.1;have hcap:=qU ho.syms;have f1:=hfz (i * 4+1);clear ho hfz;rw [j3 hi] at RS;simp only [Option.map_some,Option.getD_some] at RS;have g1:(0:Int)<=(i:Int):=by omega
  have g2:(i:Int) < (st2.obj.syms.length:Int):=by omega
  by_cases hz:st2.obj.syms[i].bind=0
  ·have d:(st2.obj.syms[i].bind == 0)=true:=by simp [hz]
   have d':(st2.obj.syms[i].bind != 0)=false:=by simp [hz]
   rw [if_neg (by simpa using hz)] at RS;have FIN:=hid (D2.o.after (D2.o.1.tV HO.o i 1 hi (by omega) (.int .i64 binding) ⟨st2.obj.syms[i].name,binding,st2.obj.syms[i].ah,st2.obj.syms[i].off⟩ rfl));have RX:=hid (show X={ st2 with obj:={ st2.obj with syms:=st2.obj.syms.set i ⟨st2.obj.syms[i].name,binding,st2.obj.syms[i].ah,st2.obj.syms[i].off⟩ } } from by rw [RS.o]; unfold As.lQ; rw [Yf _ i hi]);clear hz;go_wp2
   go_end0
   rw [RX.o];exact ⟨rfl,FIN.o⟩
  ·have d:(st2.obj.syms[i].bind == 0)=false:=by simp [hz]
   have d':(st2.obj.syms[i].bind != 0)=true:=by simp [hz]
   rw [if_pos (by simpa using hz)] at RS;have m1:=LT.o.cell 1;simp only [yT,bI,bN,bK] at m1;clear hz;go_wp2_with fail;refine (yK B s b g st2 14 t.pos V2 D2.o.1 (by omega) HT.o.pos).mono ?_;rintro e V3 ⟨rfl,h3⟩;have D3:=hid (D2.o.aN h3);clear h3;go_wp2
   (try simp only [Exit.inBlock,Exit.then]); refine bodyPost_ret (results_none rfl _ _ _) rfl ?_
   rw [RS.o];exact ⟨rfl,D3.o⟩
theorem ynZ (B:Nat) (s:ByteArray) (b g:Nat) (st:As.St) (t:As.Tok) (W:World) (h:yl B s b g st W) (ht:xL t) :
  Calls Tryz.prog 52 #[.pointer (some ⟨b,0,none⟩),fV t] W fun en W'=>en = .returned (.tuple #[])/\Does B s b g W (As.label t st) W':=by
 have HW:=hid h;have L0:=hid ((Loc.begin h).alloc (yT t) 64);have HT:=hid ht;clear h ht;obtain ⟨X,hX⟩:∃ X,X=As.label t st:=⟨_,rfl⟩
 rw [<- hX];unfold As.label at hX;dsimp only at hX;have RS:=hid hX;clear hX;unfold fV;go_enter Tryz.func52,Tryz.ntmps52;go_wp2_with fail;refine Calls.aL (Loc B s b g W [(W.heap.size,yT t,64)] st) L0.o ?_;clear L0;generalize hr:W.heap.size=r at *;clear hr;intro V hV;refine (Xu B s b g st t V hV.d.1 HT.o).mono ?_;rintro e V1 ⟨rfl,h1⟩;have L1:=hid (hV.step h1);clear h1 hV V;generalize As.bS t st=st1 at *;obtain ⟨m0,m1,m2,m3⟩:=(⟨L1.o.d,L1.o.l (r,yT t,64) (by simp)⟩:lJ B s b g W r t st1 V1).cells;go_wp2_with fail;refine (SF B s b g st1 t V1 L1.o.d.1 HT.o).mono ?_;rintro e V2 ⟨rfl,h2⟩;have D2:=hid ((L1.o.d.does HW.o).after h2)
 have LT:=hid (h2.2.2 r (yT t) 64 (by decide) (by decide) (by decide) (by decide) (by decide) (L1.o.l (r,yT t,64) (by simp)));have Kt:=hid (X4 t st1);clear h2 L1 m0 m1 m2 m3;unfold Qm;generalize As.aK t st1=R2 at *;obtain ⟨⟨i,ok⟩,st2⟩:=R2;dsimp only at RS D2 Kt ⊢
 cases ok
 ·rw [if_pos (show (!false)=true from rfl)] at RS;go_wp2
  (try simp only [Exit.inBlock,Exit.then]); refine bodyPost_ret (results_none rfl _ _ _) rfl ?_
  rw [RS.o];exact ⟨rfl,D2.o⟩
 ·rw [if_neg (by simp)] at RS;have hi:=Kt.o rfl;rw [j3 hi] at RS;simp only [Option.map_some,Option.getD_some] at RS;obtain ⟨vt,vf,vd,va,sg,cs,vr,ho,g5,k1,k2,k3,hfz,n1,n2⟩:=Qa D2.o.1 i hi;have HO:=hid ho;have c14:=uq D2.o.1;have c13:=vQ D2.o.1;have hcap:=qU ho.syms;have f2:=hfz (i * 4+2);have f3:=hfz (i * 4+3);clear ho hfz;have g1:(0:Int)<=(i:Int):=by omega
  have g2:(i:Int) < (st2.obj.syms.length:Int):=by omega
  by_cases hz:st2.obj.syms[i].ah=0
  ·have d:(st2.obj.syms[i].ah == 0)=true:=by simp [hz]
   have d':(st2.obj.syms[i].ah != 0)=false:=by simp [hz]
   rw [if_neg (by simpa using hz)] at RS;have RX:=hid (show X={ st2 with obj:={ st2.obj with syms:=st2.obj.syms.set i ⟨st2.obj.syms[i].name,st2.obj.syms[i].bind,st2.ah,4 * As.bM st2.obj st2.ah⟩ } } from by rw [RS.o]; unfold As.lQ; rw [Yf _ i hi]);have P1:=hid (D2.o.1.tV HO.o i 2 hi (by omega) (.int .i64 st2.ah) ⟨st2.obj.syms[i].name,st2.obj.syms[i].bind,st2.ah,st2.obj.syms[i].off⟩ rfl);clear hz RS;go_wp2;refine wp_region_held_drew (S:=(fun w'=>w'.cell? ⟨b,14,none⟩=some (.pointer (some ⟨g,0,none⟩))/\w'.cell? ⟨b,13,none⟩=some (.int .i64 st2.ah)/\w'.cell? ⟨g,5,none⟩=some (.slice (some ⟨sg,0,none⟩) st2.obj.syms.length cs))) (by kernel_rfl) ⟨c14,c13,g5⟩ ?_
   intro hS;refine aU (i:=0) (v:=?_) rfl ?_ hS ?_
   rotate_left
   ·intro w' hw'; obtain ⟨x0,x1,x2⟩:=hw'; go_simp; with_reducible rfl
   refine aU (i:=1) (v:=?_) rfl ?_ hS ?_
   rotate_left
   ·intro w' hw'; obtain ⟨x0,x1,x2⟩:=hw'; go_simp; with_reducible rfl
   refine aU (i:=2) (v:=?_) rfl ?_ hS ?_
   rotate_left
   ·intro w' hw'; obtain ⟨x0,x1,x2⟩:=hw'; go_simp; with_reducible rfl
   refine aU (i:=3) (v:=?_) rfl ?_ hS ?_
   rotate_left
   ·intro w' hw'; obtain ⟨x0,x1,x2⟩:=hw'; go_simp; with_reducible rfl
   refine aU (i:=4) (v:=?_) rfl ?_ hS ?_
   rotate_left
   ·intro w' hw'; obtain ⟨x0,x1,x2⟩:=hw'; go_simp; with_reducible rfl
   refine aU (i:=5) (v:=?_) rfl ?_ hS ?_
   rotate_left
   ·intro w' hw'; obtain ⟨x0,x1,x2⟩:=hw'; go_simp; with_reducible rfl
   refine aU (i:=6) (v:=?_) rfl ?_ hS ?_
   rotate_left
   ·intro w' hw'; obtain ⟨x0,x1,x2⟩:=hw'; go_simp; with_reducible rfl
   refine aU (i:=7) (v:=?_) rfl ?_ hS ?_
   rotate_left
   ·intro w' hw'; obtain ⟨x0,x1,x2⟩:=hw'; go_simp; with_reducible rfl
   refine aU (i:=8) (v:=?_) rfl ?_ hS ?_
   rotate_left
   ·intro w' hw'; obtain ⟨x0,x1,x2⟩:=hw'; go_simp; with_reducible rfl
   refine aU (i:=9) (v:=?_) rfl ?_ hS ?_
   rotate_left
   ·intro w' hw'; obtain ⟨x0,x1,x2⟩:=hw'; go_simp; with_reducible rfl
   refine aU (i:=10) (v:=?_) rfl ?_ hS ?_
   rotate_left
   ·intro w' hw'; obtain ⟨x0,x1,x2⟩:=hw'; go_simp; with_reducible rfl
   refine aU (i:=11) (v:=?_) rfl ?_ hS ?_
   rotate_left
   ·intro w' hw'; obtain ⟨x0,x1,x2⟩:=hw'; go_simp; with_reducible rfl
   refine aU (i:=12) (v:=?_) rfl ?_ hS ?_
   rotate_left
   ·intro w' hw'; obtain ⟨x0,x1,x2⟩:=hw'; go_simp; with_reducible rfl
   refine aU (i:=13) (v:=?_) rfl ?_ hS ?_
   rotate_left
   ·intro w' hw'; obtain ⟨x0,x1,x2⟩:=hw'; go_simp; with_reducible rfl
   refine wpAnyH_ready (rs:=[14]) (by kernel_rfl) (by simp) ?_;refine AllReadyH.cons rfl (fun K hK=>?_) AllReadyH.nil;go_simp;refine hK.out _ _ ⟨?_,?_,?_⟩ (fun hS2=>?_)
   ·exact (ye V2 sg (i * 4+2) (.int .i64 st2.ah)).cell c14 (by simpa using n1.symm)
   ·exact (ye V2 sg (i * 4+2) (.int .i64 st2.ah)).cell c13 (by simpa using n1.symm)
   ·exact (ye V2 sg (i * 4+2) (.int .i64 st2.ah)).cell g5 (by simpa using n2.symm)
   clear hK K;refine wpAnyH_done (by kernel_rfl) ?_ _
   try simp only [sN,qc,pz,pU,gu,fZ,gq]
   have D3:=hid ((D2.o.after P1.o).grown (yh (World.grownBy.refl _ none)));clear P1 HO c14 c13 g5 k1 k2 k3 f2 f3 hcap n1 n2 hS hS2 D2 g2 vt vf vd va vr d d';generalize hst:({ st2 with obj:={ st2.obj with syms:=st2.obj.syms.set i ⟨st2.obj.syms[i].name,st2.obj.syms[i].bind,st2.ah,st2.obj.syms[i].off⟩ } }:As.St)=iU at *;generalize World.drew _=V3 at *;have hi3:i < iU.obj.syms.length:=by rw [<- hst]; simpa using hi
   have RX3:=hid (show X={ iU with obj:={ iU.obj with syms:=iU.obj.syms.set i ⟨iU.obj.syms[i].name,iU.obj.syms[i].bind,iU.obj.syms[i].ah,4 * As.bM iU.obj iU.ah⟩ } } from by
    rw [RX.o];subst hst;simp [As.bM])
   clear RX hst Kt;obtain ⟨vt,vf,vd,va,sg2,cs2,vr,ho,g5,k1,k2,k3,hfz,n1,n2⟩:=Qa D3.o.1 i hi3;have HO:=hid ho;have c14:=uq D3.o.1;have c13:=vQ D3.o.1;have hcap:=qU ho.syms;have f3:=hfz (i * 4+3);have g2:(i:Int) < (iU.obj.syms.length:Int):=by omega
   have P2:=hid (D3.o.after (D3.o.1.tV HO.o i 3 hi3 (by omega) (.int .i64 (4 * As.bM iU.obj iU.ah)) ⟨iU.obj.syms[i].name,iU.obj.syms[i].bind,iU.obj.syms[i].ah,4 * As.bM iU.obj iU.ah⟩ rfl));have cL:=hid (KR B s b g iU V3.drew (D3.o.1.grown (yh (World.grownBy.refl _ none))));generalize 4 * As.bM iU.obj iU.ah=ln at *;clear ho hfz k1 k2;go_wp2;refine wp_region_held_drew (S:=(fun w'=>w'.cell? ⟨b,14,none⟩=some (.pointer (some ⟨g,0,none⟩))/\w'.cell? ⟨b,13,none⟩=some (.int .i64 iU.ah)/\w'.cell? ⟨g,5,none⟩=some (.slice (some ⟨sg2,0,none⟩) iU.obj.syms.length cs2))) (by kernel_rfl) ⟨c14,c13,g5⟩ ?_;intro hS
   refine aU (i:=0) (v:=?_) rfl ?_ hS ?_
   rotate_left
   ·intro w' hw'; obtain ⟨x0,x1,x2⟩:=hw'; go_simp; with_reducible rfl
   refine aU (i:=1) (v:=?_) rfl ?_ hS ?_
   rotate_left
   ·intro w' hw'; obtain ⟨x0,x1,x2⟩:=hw'; go_simp; with_reducible rfl
   refine aU (i:=2) (v:=?_) rfl ?_ hS ?_
   rotate_left
   ·intro w' hw'; obtain ⟨x0,x1,x2⟩:=hw'; go_simp; with_reducible rfl
   refine aU (i:=3) (v:=?_) rfl ?_ hS ?_
   rotate_left
   ·intro w' hw'; obtain ⟨x0,x1,x2⟩:=hw'; go_simp; with_reducible rfl
   refine aU (i:=4) (v:=?_) rfl ?_ hS ?_
   rotate_left
   ·intro w' hw'; obtain ⟨x0,x1,x2⟩:=hw'; go_simp; with_reducible rfl
   refine aU (i:=5) (v:=?_) rfl ?_ hS ?_
   rotate_left
   ·intro w' hw'; obtain ⟨x0,x1,x2⟩:=hw'; go_simp; with_reducible rfl
   refine aU (i:=6) (v:=?_) rfl ?_ hS ?_
   rotate_left
   ·intro w' hw'; obtain ⟨x0,x1,x2⟩:=hw'; go_simp; with_reducible rfl
   refine aU (i:=7) (v:=?_) rfl ?_ hS ?_
   rotate_left
   ·intro w' hw'; obtain ⟨x0,x1,x2⟩:=hw'; go_simp; with_reducible rfl
   refine aU (i:=8) (v:=?_) rfl ?_ hS ?_
   rotate_left
   ·intro w' hw'; obtain ⟨x0,x1,x2⟩:=hw'; go_simp; with_reducible rfl
   refine aU (i:=9) (v:=?_) rfl ?_ hS ?_
   rotate_left
   ·intro w' hw'; obtain ⟨x0,x1,x2⟩:=hw'; go_simp; with_reducible rfl
   refine aU (i:=10) (v:=?_) rfl ?_ hS ?_
   rotate_left
   ·intro w' hw'; obtain ⟨x0,x1,x2⟩:=hw'; go_simp; with_reducible rfl
   refine aU (i:=11) (v:=?_) rfl ?_ hS ?_
   rotate_left
   ·intro w' hw'; obtain ⟨x0,x1,x2⟩:=hw'; go_simp; with_reducible rfl
   refine aU (i:=12) (v:=?_) rfl ?_ hS ?_
   rotate_left
   ·intro w' hw'; obtain ⟨x0,x1,x2⟩:=hw'; go_simp; with_reducible rfl
   refine aU (i:=13) (v:=?_) rfl ?_ hS ?_
   rotate_left
   ·intro w' hw'; obtain ⟨x0,x1,x2⟩:=hw'; go_simp; with_reducible rfl
   refine aU (i:=14) (v:=?_) rfl ?_ hS ?_
   rotate_left
   ·intro w' hw'; obtain ⟨x0,x1,x2⟩:=hw'; go_simp; with_reducible rfl
   refine aU (i:=15) (v:=?_) rfl ?_ hS ?_
   rotate_left
   ·intro w' hw'; obtain ⟨x0,x1,x2⟩:=hw'; go_simp; with_reducible rfl
   refine wpAnyH_ready (rs:=[16]) (by kernel_rfl) (by simp) ?_;refine AllReadyH.cons rfl (fun K hK=>?_) AllReadyH.nil;go_simp;go_wp2_with (go_at_call 87; refine cL.o.mono ?_; rintro e w' ⟨rfl,rfl⟩)
   refine hK.out _ _ hS (fun hS2=>?_);clear hK K;refine aU (i:=17) (v:=?_) rfl ?_ hS ?_
   rotate_left
   ·intro w' hw'; obtain ⟨x0,x1,x2⟩:=hw'; go_simp; with_reducible rfl
   refine aU (i:=18) (v:=?_) rfl ?_ hS ?_
   rotate_left
   ·intro w' hw'; obtain ⟨x0,x1,x2⟩:=hw'; go_simp; with_reducible rfl
   refine wpAnyH_ready (rs:=[19]) (by kernel_rfl) (by simp) ?_;refine AllReadyH.cons rfl (fun K hK=>?_) AllReadyH.nil;go_simp;refine hK.out _ _ ⟨?_,?_,?_⟩ (fun hS2=>?_)
   ·exact (ye V3 sg2 (i * 4+3) (.int .i64 ln)).cell c14 (by simpa using n1.symm)
   ·exact (ye V3 sg2 (i * 4+3) (.int .i64 ln)).cell c13 (by simpa using n1.symm)
   ·exact (ye V3 sg2 (i * 4+3) (.int .i64 ln)).cell g5 (by simpa using n2.symm)
   clear hK K;refine wpAnyH_done (by kernel_rfl) ?_ _
   try simp only [sN,qc,pz,pU,gu,fZ,gq]
   go_wp2
   go_end0
   rw [RX3.o];exact ⟨rfl,P2.o.grown (yh (World.grownBy.refl _ none))⟩
  ·have d:(st2.obj.syms[i].ah == 0)=false:=by simp [hz]
   have d':(st2.obj.syms[i].ah != 0)=true:=by simp [hz]
   rw [if_pos (by simpa using hz)] at RS;have m1:=LT.o.cell 1;simp only [yT,bI,bN,bK] at m1;clear hz;go_wp2_with fail;refine (yK B s b g st2 10 t.pos V2 D2.o.1 (by omega) HT.o.pos).mono ?_;rintro e V3 ⟨rfl,h3⟩;have D3:=hid (D2.o.aN h3);clear h3;go_wp2
   (try simp only [Exit.inBlock,Exit.then]); refine bodyPost_ret (results_none rfl _ _ _) rfl ?_
   rw [RS.o];exact ⟨rfl,D3.o⟩
theorem qR.aO {w:World} {base n cap:Nat} {ao:Option Addr} {ws:List Int} (h:w.ownsRow base 3 1 (.slice ao n cap) n (ws.map (Value.int .i64))):qR w ao cap ws:=by
 have hn:ws.length=n:=by have:=h.1; simpa using this
 rcases h.2 with ⟨h1,h2⟩ | ⟨g',cap',cur,hv,_,hg,h3,_,h5,h6⟩
 ·simp only [Value.slice.injEq] at h1;exact .inl ⟨h1.1,h1.2.2,List.eq_nil_of_length_eq_zero (by omega)⟩
 ·simp only [Value.slice.injEq] at hv;obtain ⟨rfl,_,rfl⟩:=hv;refine .inr ⟨g',0,cur,rfl,hg,fun i hi=>?_⟩;have e:(cur.toList.take (n * 1))[i]?=some (.int .i64 ws[i]):=by rw [h6]; simp [hi]
  rw [List.getElem?_take_of_lt (by omega)] at e;rw [Nat.zero_add];simpa using e
theorem KP {w wr w1:World} {row:Option Nat} (h:w.grownBy wr none) (k:wr.grownBy w1 row) (hr:∀ g,row=some g->w.heap.size<=g):w.grownBy w1 none :=
 ⟨k.os.trans h.os,k.tape.trans h.tape,k.output.trans h.output,Nat.le_trans h.size k.size,fun i hi hn =>
  (k.block i (Nat.lt_of_lt_of_le hi h.size) (fun e=>by have:=hr i e.symm; omega)).trans (h.block i hi hn)⟩
theorem yks (x:Int) (n:Nat) (w:World) (hn:n<=4096) :
  Calls Tryz.prog 199 #[.int .i64 x,.int .i64 n] w fun e w'=>(∃ ao cap,e = .returned (.slice ao n cap)/\qR w' ao cap (List.replicate n x))/\w.grownBy w' none:=by
 obtain ⟨i0,hi,hz0,hz1,hz2⟩:=info_parts Tryz.kN;go_enter Tryz.func199,Tryz.ntmps199;go_wp2
 go_loopw [5,6] (fun v i wr=>∃ k:Nat,k<=n/\i = .int .i64 k/\wr.ownsRow w.heap.size 3 1 v k ((List.replicate k x).map (Value.int .i64))/\w.grownBy wr none) (fun _ i _=>n - (intOf i).toNat)
 case atStart=>exact ⟨0,Nat.zero_le _,rfl,World.ownsRow_nil _ _ _ _,World.grownBy.refl _ _⟩
 case round =>
  rename_i v _ _;obtain ⟨k,hk,rfl,hown,hgr⟩:=hrel;obtain ⟨av,cv,rfl⟩:=yi hown;have HG:=hid hgr;have hsz:=hgr.size;clear hgr;by_cases hlt:k < n
  ·have hlt':(k:Int) < (n:Int):=by omega
   go_wp2_with (at_builtin; refine wpList_append_own _ rfl _ _ 35 rfl w.heap.size 3 i0 (.int .i64 0) 1 8 Tryz.underlying35 hi hz0 hz1 hz2 rfl (by decide) _ _ _ rfl (hown.alloc _) ⟨wr.heap.size,0,none⟩ 1 1 [.int .i64 x] rfl rfl (cell_one_new _ _ _) (by intro u hu; simp at hu; subst hu; rfl) (by unfold maxLen; omega) (by omega) (by simp; omega) ?_; intro v' w3 hown' hgrow _; obtain ⟨oh,cv',rfl⟩:=yi hown'; have K:=hid (KP (ya HG.o (aJ wr (.cells #[.int .i64 x] 3) none)) hgrow (fun b hb=>(hown.lt b hb).1)); have HO:=hid hown'; clear hgrow hown')
   go_wp2
   go_roundw
   case rel=>exact ⟨k+1,by omega,by go_num,by rw [List.replicate_succ',List.map_append]; exact HO.o,K.o⟩
   case measure=>simp [intOf]; omega
  ·obtain rfl:k=n:=by omega
   have HO:=hid hown;clear hown;go_wp2;go_ret;exact ⟨⟨av,cv,rfl,qR.aO HO.o⟩,HG.o⟩
theorem KC (x:Int) (n:Nat) (mn:Int) (hm:mn=(n:Int)) (w:World) (hn:n<=4096) :
  Calls Tryz.prog 199 #[.int .i64 x,.int .i64 mn] w fun e w'=>(∃ ao cap,e = .returned (.slice ao n cap)/\qR w' ao cap (List.replicate n x))/\w.grownBy w' none:=by
 subst hm; exact yks x n w hn
theorem Qi (B:Nat) (s:ByteArray) (b g:Nat) (st:As.St) (x:Int) (n:Nat) (ao:Option Addr) (cap:Nat) (W:World) (h:yl B s b g st W) (hw:qR W ao cap (List.replicate n x)) (hn:n<=4096) :
  Calls Tryz.prog 198 #[.pointer (some ⟨b,0,none⟩),.slice ao n cap] W fun en W'=>en = .returned (.tuple #[])/\Does B s b g W (As.lay (List.replicate n x) st) W':=by
 have c:=J3 B s b g st ao cap (List.replicate n x) W h hw (by simpa using hn);rw [List.length_replicate] at c;exact c
theorem XU (B:Nat) (s:ByteArray) (b g:Nat) (st:As.St) (kind:Int) (sym:Nat) (addend:Int) (x:Int) (n:Nat) (ao:Option Addr) (cap:Nat) (W:World) (h:yl B s b g st W) (hw:qR W ao cap (List.replicate n x)) (hn:n<=4096) :
  Calls Tryz.prog 195 #[.pointer (some ⟨b,0,none⟩),.int .i64 kind,.int .i64 sym,.int .i64 addend,.slice ao n cap] W fun en W'=>en = .returned (.tuple #[])/\Does B s b g W (As.bX kind sym addend (List.replicate n x) st) W':=by
 have c:=Hw B s b g st kind sym addend ao cap (List.replicate n x) W h hw (by simpa using hn);rw [List.length_replicate] at c;exact c
theorem yjm (n:Int) (h0:-9223372036854775808<=n) (h1:n<=9223372036854775807):bits .andNot .i64 n 3=n - n % 4:=by
 have e1:(~~~ (BitVec.ofInt 64 3)).toNat=(2 ^ 62 - 1) <<< 2:=by decide
 have key:(BitVec.ofInt 64 n &&& ~~~ (BitVec.ofInt 64 3)).toNat=(n % ((2 ^ 64:Nat):Int)).toNat / 4 * 4:=by
  rw [BitVec.toNat_and,e1,BitVec.toNat_ofInt,JR,Nat.and_two_pow_sub_one_eq_mod,Nat.shiftRight_eq_div_pow,Nat.shiftLeft_eq];omega
 show IntKind.i64.wrap ((BitVec.ofInt 64 n &&& ~~~ (BitVec.ofInt 64 3)).toNat:Nat)=_;rw [key,IntKind.wrap_i64];omega
theorem yjl (n:Int) (h0:-9223372036854775808<=n) (h1:n<=9223372036854775807):bits .andNot .i64 n 7=n - n % 8:=by
 have e1:(~~~ (BitVec.ofInt 64 7)).toNat=(2 ^ 61 - 1) <<< 3:=by decide
 have key:(BitVec.ofInt 64 n &&& ~~~ (BitVec.ofInt 64 7)).toNat=(n % ((2 ^ 64:Nat):Int)).toNat / 8 * 8:=by
  rw [BitVec.toNat_and,e1,BitVec.toNat_ofInt,JR,Nat.and_two_pow_sub_one_eq_mod,Nat.shiftRight_eq_div_pow,Nat.shiftLeft_eq];omega
 show IntKind.i64.wrap ((BitVec.ofInt 64 n &&& ~~~ (BitVec.ofInt 64 7)).toNat:Nat)=_;rw [key,IntKind.wrap_i64];omega
theorem yhF (n:Int) (h0:-9223372036854775808<=n) (h1:n<=9223372036854775807):bits .andNot .i64 n 15=n - n % 16:=by
 have e1:(~~~ (BitVec.ofInt 64 15)).toNat=(2 ^ 60 - 1) <<< 4:=by decide
 have key:(BitVec.ofInt 64 n &&& ~~~ (BitVec.ofInt 64 15)).toNat=(n % ((2 ^ 64:Nat):Int)).toNat / 16 * 16:=by
  rw [BitVec.toNat_and,e1,BitVec.toNat_ofInt,JR,Nat.and_two_pow_sub_one_eq_mod,Nat.shiftRight_eq_div_pow,Nat.shiftLeft_eq];omega
 show IntKind.i64.wrap ((BitVec.ofInt 64 n &&& ~~~ (BitVec.ofInt 64 15)).toNat:Nat)=_;rw [key,IntKind.wrap_i64];omega
theorem yrJ (a b:Int) (h0:0<=a) (h1:a<=1125899906842624) (hb:b=4\/b=8\/b=16):Ln.rup a b=(a+b - 1) - (a+b - 1) % b:=by
 unfold Ln.rup;rcases hb with rfl | rfl | rfl
 ·exact yjm _ (by omega) (by omega)
 ·exact yjl _ (by omega) (by omega)
 ·exact yhF _ (by omega) (by omega)
theorem Ad (a b:Int) (h0:0<=a) (h1:a<=1125899906842624) (hb:b=4\/b=8\/b=16):a<=Ln.rup a b/\Ln.rup a b<=a+15/\Ln.rup a b % 4=0:=by
 rw [yrJ a b h0 h1 hb];rcases hb with rfl | rfl | rfl <;> omega
theorem yZ (x:Int):xJ x=4\/xJ x=8\/xJ x=16:=by
 unfold xJ;split
 ·exact .inl rfl
 ·split
  ·exact .inr (.inl rfl)
  ·exact .inr (.inr rfl)
theorem yhj (m:Ln.Mod) (ah:Int) (ws:List Int) (k:Nat) (h:k < ws.length) (at_:Int):Ln.bD m ah k (ws.drop k) at_=at_ :: Ln.bD m ah (k+1) (ws.drop (k+1)) (if Ln.stays m ah (4 * k) at_ then at_+4 else at_):=by
 rw [lV h];rfl
theorem yjz (m:Ln.Mod) (ah:Int) (ws:List Int) (k:Nat) (h:k < ws.length) (at_:Int):Ln.eB m ah k (ws.drop k) at_=Ln.eB m ah (k+1) (ws.drop (k+1)) (if Ln.stays m ah (4 * k) at_ then at_+4 else at_):=by
 rw [lV h];rfl
def UC (m:Ln.Mod) (ah:Nat) (ps:List Int):Ln.Mod:=if ah=1 then { m with text:=ps } else { m with far:=ps }
section
variable {w w3:World} {bl:List Nat} {b g B:Nat} {m:Ln.Mod} {v':Value} {ps:List Int}
theorem yD.pY (h:yD w bl b g m) (hw:w.grownBy w3 none) (hown:w3.ownsRow B 3 1 v' ps.length (ps.map (Value.int .i64))):yD (w3.setCell ⟨b,3,none⟩ v') bl b g { m with text:=ps }/\w.grownBy (w3.setCell ⟨b,3,none⟩ v') (some b)/\∃ u,w3.cell? ⟨b,3,none⟩=some u/\w3.frozen? ⟨b,3,none⟩=false:=by
 obtain ⟨u1,u2,u3,u4,q0,q1,q2,q3,q4,q5,q6,q7⟩:=h.kept hw;have gs:=ye w3 b 3 v';have R:=bR.blk q0;refine ⟨⟨u1,u2,v',u4,by simpa using q0.set 3 v',um q1 gs R (by decide) (by decide) (by decide) (by decide),yA q2 gs R (by decide),yA q3 gs R (by decide),JN (yA hown gs R (by decide)),yA q5 gs R (by decide),q6,q7⟩,(hw.but _).trans gs,_,q0.cell 3,q0.free 3⟩
theorem yD.xE (h:yD w bl b g m) (hw:w.grownBy w3 none) (hown:w3.ownsRow B 3 1 v' ps.length (ps.map (Value.int .i64))):yD (w3.setCell ⟨b,4,none⟩ v') bl b g { m with far:=ps }/\w.grownBy (w3.setCell ⟨b,4,none⟩ v') (some b)/\∃ u,w3.cell? ⟨b,4,none⟩=some u/\w3.frozen? ⟨b,4,none⟩=false:=by
 obtain ⟨u1,u2,u3,u4,q0,q1,q2,q3,q4,q5,q6,q7⟩:=h.kept hw;have gs:=ye w3 b 4 v';have R:=bR.blk q0;refine ⟨⟨u1,u2,u3,v',by simpa using q0.set 4 v',um q1 gs R (by decide) (by decide) (by decide) (by decide),yA q2 gs R (by decide),yA q3 gs R (by decide),yA q4 gs R (by decide),JN (yA hown gs R (by decide)),q6,q7⟩,(hw.but _).trans gs,_,q0.cell 4,q0.free 4⟩
end
theorem XR (bl:List Nat) (b g n:Nat) (m:Ln.Mod) (ah:Nat) (from_:Int) (w:World) (hm:yD w bl b g m) (hn:yI n m) (hv:yv m.obj) (hs:ah=1\/ah=2) (h0:0<=from_) (h1:from_<=562949953421312) :
  Calls Tryz.prog 104 #[aW b,.int .i64 ah,.int .i64 from_] w fun e w'=>e = .returned (.int .i64 (Ln.dD m ah from_))/\w.grownBy w' (some b)/\yD w' bl b g (UC m ah (Ln.aZ m ah from_)):=by
 obtain ⟨i0,hi,hz0,hz1,hz2⟩:=info_parts Tryz.kN;have HM:=hid hm;obtain ⟨v1,v2,v3,v4,q0,q1,-⟩:=hm;have k0:w.cell? ⟨b,0,none⟩=some (.pointer (some ⟨g,0,none⟩)):=q0.cell 0;have Rw:=hv.2.1;have hal:ah - 1 < m.obj.align.length:=by rw [Rw.1]; omega
 have EB:=hid (show Ln.aI m.obj ah=xJ (m.obj.align[ah - 1]'hal) by unfold Ln.aI; rw [lC,j3 hal]; rfl);have BV:Ln.aI m.obj ah=4\/Ln.aI m.obj ah=8\/Ln.aI m.obj ah=16:=yZ _;have cB:=hid (Xh g m.obj ah w q1 Rw (by omega) (by omega));rw [<- EB.o] at cB;have RR:=Ad from_ (Ln.aI m.obj ah) h0 (by omega) BV;have cU:=hid (Pt from_ (Ln.aI m.obj ah) w h0 (by omega) (by omega) (by omega));have cW:=hid (Pw g m.obj ah w q1);have hwl:(yx m.obj ah).length<=1200:=by
  have:=hv.1.1
  rcases hs with rfl | rfl
  ·exact this.1
  ·exact this.2.1
 have EP:=hid (show Ln.aZ m ah from_=Ln.bD m ah 0 ((yx m.obj ah).drop 0) (Ln.rup from_ (Ln.aI m.obj ah)) from rfl);have EE:=hid (show Ln.dD m ah from_=Ln.eB m ah 0 ((yx m.obj ah).drop 0) (Ln.rup from_ (Ln.aI m.obj ah)) from rfl);clear EB BV;generalize Ln.rup from_ (Ln.aI m.obj ah)=a0 at *;generalize Ln.aI m.obj ah=bd at *;generalize Ln.aZ m ah from_=PL at *;generalize Ln.dD m ah from_=PE at *;generalize yx m.obj ah=ws at *;have cS:=hid (fun (off at_:Int) W (hg:w.grownBy W none) h0 h1=>yoE bl b g n m ah off at_ W (HM.o.kept hg) hn h0 h1);have HN:=hid hn;clear q0 q1 Rw hn hv hal;unfold aW at *;go_enter Tryz.func104,Tryz.ntmps104
 go_wp2_with fail;refine cB.o.mono ?_;rintro e w1 ⟨rfl,rfl⟩;go_wp2_with fail;refine cU.o.mono ?_;rintro e w1 ⟨rfl,rfl⟩;go_wp2_with fail;refine cW.o.mono ?_;rintro e w1 ⟨aw,cw,rfl,-,rfl⟩;clear cB cU cW;go_wp2
 go_loopw [7,8,25] (fun at_ v i wr=>∃ (k:Nat) (a:Int) (acc:List Int),k<=ws.length/\i = .int .i64 k/\at_ = .int .i64 a/\acc.length=k/\PL=acc ++ Ln.bD m ah k (ws.drop k) a/\PE=Ln.eB m ah k (ws.drop k) a/\a0<=a/\a<=a0+4 * k/\wr.ownsRow w1.heap.size 3 1 v k (acc.map (Value.int .i64))/\w1.grownBy wr none) (fun _ _ i _=>ws.length - (intOf i).toNat)
 case atStart=>exact ⟨0,a0,[],Nat.zero_le _,rfl,rfl,rfl,EP.o,EE.o,Int.le_refl _,by omega,World.ownsRow_nil _ _ _ _,World.grownBy.refl _ _⟩
 case round =>
  obtain ⟨k,a,acc,hk,rfl,rfl,hacc,hpl,hpe,ha1,ha2,hown,hgr⟩:=hrel;obtain ⟨av,cv,rfl⟩:=yi hown;have HG:=hid hgr;have hsz:=hgr.size;have Vo:=hid hpl;have Vn:=hid hpe;clear hgr hpl hpe EP EE;by_cases hlt:k < ws.length
  ·have hlt':(k:Int) < (ws.length:Int):=by omega
   have P2:=hid (Vo.o.trans (by rw [yhj m ah ws k hlt a]));have E2:=hid (Vn.o.trans (yjz m ah ws k hlt a));have w4:IntKind.i64.wrap (4 * (k:Int))=4 * k:=IntWalk.i64_in _ ⟨by omega,by omega⟩;go_wp2_with (at_builtin; refine wpList_append_own _ rfl _ _ 35 rfl w1.heap.size 3 i0 (.int .i64 0) 1 8 Tryz.underlying35 hi hz0 hz1 hz2 rfl (by decide) _ _ _ rfl (hown.alloc _) ⟨wr.heap.size,0,none⟩ 1 1 [.int .i64 a] rfl rfl (cell_one_new _ _ _) (by intro u hu; simp at hu; subst hu; rfl) (by unfold maxLen; omega) (by omega) (by simp; omega) ?_; intro v' w3 hown' hgrow _; obtain ⟨oh,cv',rfl⟩:=yi hown'; have K:=hid (KP (ya HG.o (aJ wr (.cells #[.int .i64 a] 3) none)) hgrow (fun b hb=>(hown.lt b hb).1)); have HO:=hid hown'; clear hgrow hown')
   refine (cS.o (4 * k) a w3 K.o (by omega) (by omega)).mono ?_;rintro e w5 ⟨rfl,h5⟩;have K5:=hid (ya K.o h5);have Al:=hid (HO.o.kept h5 (Decidable.em _));clear h5 HO K hown
   cases est:Ln.stays m ah (4 * k) a
   ·rw [est] at P2 E2;have P3:=hid (show PL=(acc ++ [a]) ++ Ln.bD m ah (k+1) (ws.drop (k+1)) a by rw [P2.o]; simp);have E3:=hid (show PE=Ln.eB m ah (k+1) (ws.drop (k+1)) a from E2.o);clear est P2 E2;go_wp2
    go_roundw
    case rel=>exact ⟨k+1,a,acc ++ [a],by omega,by go_num,rfl,by simp [hacc],P3.o,E3.o,by omega,by omega,by rw [List.map_append]; exact Al.o,K5.o⟩
    case measure=>simp [intOf]; omega
   ·rw [est] at P2 E2;have P3:=hid (show PL=(acc ++ [a]) ++ Ln.bD m ah (k+1) (ws.drop (k+1)) (a+4) by rw [P2.o]; simp);have E3:=hid (show PE=Ln.eB m ah (k+1) (ws.drop (k+1)) (a+4) from E2.o);have wa:IntKind.i64.wrap (a+4)=a+4:=IntWalk.i64_in _ ⟨by omega,by omega⟩;clear est P2 E2;go_wp2
    go_roundw
    case rel=>exact ⟨k+1,a+4,acc ++ [a],by omega,by go_num,rfl,by simp [hacc],P3.o,E3.o,by omega,by omega,by rw [List.map_append]; exact Al.o,K5.o⟩
    case measure=>simp [intOf]; omega
  ·obtain rfl:k=ws.length:=by omega
   have g3:decide ((ws.length:Int) < (ws.length:Int))=false:=by simp
   have P2:=hid (show PL=acc ++ [a] by rw [Vo.o,List.drop_length]; rfl);have E2:=hid (show PE=a by rw [Vn.o,List.drop_length]; rfl);have LP:PL.length=ws.length+1:=by rw [P2.o]; simp [hacc]
   have MP:=hid (show PL.map (Value.int .i64)=acc.map (Value.int .i64) ++ [.int .i64 a] by rw [P2.o]; simp);rcases hs with rfl | rfl
   ·have d1:((1:Int) == 1)=true:=rfl;go_wp2_with (at_builtin; refine wpList_append_own _ rfl _ _ 35 rfl w1.heap.size 3 i0 (.int .i64 0) 1 8 Tryz.underlying35 hi hz0 hz1 hz2 rfl (by decide) _ _ _ rfl (hown.alloc _) ⟨wr.heap.size,0,none⟩ 1 1 [.int .i64 a] rfl rfl (cell_one_new _ _ _) (by intro u hu; simp at hu; subst hu; rfl) (by unfold maxLen; omega) (by omega) (by simp; omega) ?_; intro v' w3 hown' hgrow _; obtain ⟨oh,cv',rfl⟩:=yi hown'; have K:=hid (KP (ya HG.o (aJ wr (.cells #[.int .i64 a] 3) none)) hgrow (fun b hb=>(hown.lt b hb).1)); obtain ⟨t1,t2,u,c3,f3⟩:=HM.o.pY (ps:=PL) K.o (by rw [LP,MP.o]; exact hown'); have T1:=hid t1; have T2:=hid t2; clear hgrow hown' t1 t2)
    go_ret;exact ⟨by rw [E2.o]; rfl,T2.o,by unfold UC; rw [if_pos rfl]; exact T1.o⟩
   ·have d1:((2:Int) == 1)=false:=rfl;go_wp2_with (at_builtin; refine wpList_append_own _ rfl _ _ 35 rfl w1.heap.size 3 i0 (.int .i64 0) 1 8 Tryz.underlying35 hi hz0 hz1 hz2 rfl (by decide) _ _ _ rfl (hown.alloc _) ⟨wr.heap.size,0,none⟩ 1 1 [.int .i64 a] rfl rfl (cell_one_new _ _ _) (by intro u hu; simp at hu; subst hu; rfl) (by unfold maxLen; omega) (by omega) (by simp; omega) ?_; intro v' w3 hown' hgrow _; obtain ⟨oh,cv',rfl⟩:=yi hown'; have K:=hid (KP (ya HG.o (aJ wr (.cells #[.int .i64 a] 3) none)) hgrow (fun b hb=>(hown.lt b hb).1)); obtain ⟨t1,t2,u,c3,f3⟩:=HM.o.xE (ps:=PL) K.o (by rw [LP,MP.o]; exact hown'); have T1:=hid t1; have T2:=hid t2; clear hgrow hown' t1 t2)
    go_ret;exact ⟨by rw [E2.o]; rfl,T2.o,by unfold UC; rw [if_neg (by decide)]; exact T1.o⟩
end Go.Proofs.YtpgklkhgfcjceaaGreatDoor
