
import Derived.Test.YtnkkepfcpjllmaaGreatDoorU12
set_option maxHeartbeats 16000000
set_option maxRecDepth 100000
namespace Go.Proofs.YtnkkepfcpjllmaaGreatDoor
open Go.RowKit
theorem PK {B:Nat} {s:ByteArray} {b g:Nat} {st:As.St} {W:World} (h:yl B s b g st W):W.cell? ⟨b,11,none⟩=some (.string (bs st.op.text)):=by
 have c:=yP h 11;simpa only [yK,bB,yml,bf] using c
theorem yjS (B:Nat) (s:ByteArray) (b g:Nat) (st0:As.St) (W:World) (h:yl B s b g st0 W) :
  Calls Tryz.prog 104 #[.pointer (some ⟨b,0,none⟩)] W fun en W'=>en = .returned (.tuple #[])/\Does B s b g W (As.load (sl s) st0) W':=by
 have D0:=hid h.does;clear h;obtain ⟨X,hX⟩:∃ X,X=As.load (sl s) st0:=⟨_,rfl⟩
 rw [<- hX];unfold As.load at hX;dsimp only at hX;have RS:=hid hX;clear hX;go_enter Tryz.func104,Tryz.ntmps104;go_wp2_with fail;refine (yX B s b g st0 _ D0.o.1).mono ?_;rintro e V1 ⟨rfl,hh⟩;have D1:=hid (D0.o.aR hh);clear hh D0;generalize As.register (sl s) st0=R1 at *;obtain ⟨rd,st1⟩:=R1;dsimp only at RS D1 ⊢;go_wp2_with fail;refine (za B s b g st1 [44] _ D1.o.1).mono ?_;rintro e V2 ⟨rfl,hh⟩;have D2:=hid (D1.o.aR hh);clear hh D1;generalize As.sign (sl s) [44] st1=st2 at *;obtain ⟨c2,c3,c4,c5⟩:=zx D2.o.1
 cases hk:(st2.tok.kind == 1)
 ·have d:((st2.tok.kind:Int) == 1)=false:=by simp at hk ⊢; omega
  have d':((st2.tok.kind:Int) != 1)=true:=by simp at hk ⊢; omega
  rw [hk] at RS;rw [if_neg (by simp)] at RS;clear hk;go_wp2_with fail;refine (Uz B s b g st2 _ D2.o.1).mono ?_;rintro e V3 ⟨rfl,hh⟩;have D3:=hid (D2.o.aR hh);clear hh D2 c2 c3 c4 c5;generalize As.place (sl s) st2=R3 at *;obtain ⟨⟨n,bK⟩,iV⟩:=R3;dsimp only at RS D3 ⊢;go_wp2_with fail;refine (FV B s b g iV 11 rd bK 0 n _ D3.o.1 (by omega) (by omega)).mono ?_;rintro e VF ⟨rfl,hh⟩;have DF:=hid (D3.o.after hh);clear hh;go_wp2
  first | go_end0 | ((try simp only [Exit.inBlock,Exit.then]); refine bodyPost_ret (results_none rfl _ _ _) rfl ?_)
  rw [RS.o];exact ⟨rfl,DF.o⟩
 ·have d:((st2.tok.kind:Int) == 1)=true:=by simp at hk ⊢; omega
  have d':((st2.tok.kind:Int) != 1)=false:=by simp at hk ⊢; omega
  rw [hk] at RS;rw [if_pos rfl] at RS;clear hk;go_wp2_with fail;refine (Qf B s b g st2 _ D2.o.1).mono ?_;rintro e V3 ⟨rfl,hh⟩;have D3:=hid (D2.o.after hh);clear hh D2 c2 c3 c4 c5;generalize As.target (sl s) st2=R3 at *;obtain ⟨⟨sym,add⟩,iV⟩:=R3;dsimp only at RS D3 ⊢;go_wp2_with fail;refine (TR B s b g iV rd 11 rd rd 0 0 sym add _ D3.o.1 (by omega) (by omega)).mono ?_;rintro e VF ⟨rfl,hh⟩;have DF:=hid (D3.o.after hh);clear hh;go_wp2
  first | go_end0 | ((try simp only [Exit.inBlock,Exit.then]); refine bodyPost_ret (results_none rfl _ _ _) rfl ?_)
  rw [RS.o];exact ⟨rfl,DF.o⟩
theorem yjr (B:Nat) (s:ByteArray) (b g:Nat) (st0:As.St) (W:World) (h:yl B s b g st0 W) :
  Calls Tryz.prog 105 #[.pointer (some ⟨b,0,none⟩)] W fun en W'=>en = .returned (.tuple #[])/\Does B s b g W (As.store (sl s) st0) W':=by
 have D0:=hid h.does;clear h;obtain ⟨X,hX⟩:∃ X,X=As.store (sl s) st0:=⟨_,rfl⟩
 rw [<- hX];unfold As.store at hX;dsimp only at hX;have RS:=hid hX;clear hX;go_enter Tryz.func105,Tryz.ntmps105;go_wp2_with fail;refine (yX B s b g st0 _ D0.o.1).mono ?_;rintro e V1 ⟨rfl,hh⟩;have D1:=hid (D0.o.aR hh);clear hh D0;generalize As.register (sl s) st0=R1 at *;obtain ⟨rs,st1⟩:=R1;dsimp only at RS D1 ⊢;go_wp2_with fail;refine (za B s b g st1 [44] _ D1.o.1).mono ?_;rintro e V2 ⟨rfl,hh⟩;have D2:=hid (D1.o.aR hh);clear hh D1;generalize As.sign (sl s) [44] st1=st2 at *;obtain ⟨c2,c3,c4,c5⟩:=zx D2.o.1
 cases hk:(st2.tok.kind == 1)
 ·have d:((st2.tok.kind:Int) == 1)=false:=by simp at hk ⊢; omega
  have d':((st2.tok.kind:Int) != 1)=true:=by simp at hk ⊢; omega
  rw [hk] at RS;rw [if_neg (by simp)] at RS;clear hk;go_wp2_with fail;refine (Uz B s b g st2 _ D2.o.1).mono ?_;rintro e V3 ⟨rfl,hh⟩;have D3:=hid (D2.o.aR hh);clear hh D2 c2 c3 c4 c5;generalize As.place (sl s) st2=R3 at *;obtain ⟨⟨n,bK⟩,iV⟩:=R3;dsimp only at RS D3 ⊢;go_wp2_with fail;refine (FV B s b g iV 12 0 bK rs n _ D3.o.1 (by omega) (by omega)).mono ?_;rintro e VF ⟨rfl,hh⟩;have DF:=hid (D3.o.after hh);clear hh;go_wp2
  first | go_end0 | ((try simp only [Exit.inBlock,Exit.then]); refine bodyPost_ret (results_none rfl _ _ _) rfl ?_)
  rw [RS.o];exact ⟨rfl,DF.o⟩
 ·have d:((st2.tok.kind:Int) == 1)=true:=by simp at hk ⊢; omega
  have d':((st2.tok.kind:Int) != 1)=false:=by simp at hk ⊢; omega
  rw [hk] at RS;rw [if_pos rfl] at RS;clear hk;go_wp2_with fail;refine (Qf B s b g st2 _ D2.o.1).mono ?_;rintro e V3 ⟨rfl,hh⟩;have D3:=hid (D2.o.after hh);clear hh D2 c2 c3 c4 c5;generalize As.target (sl s) st2=R3 at *;obtain ⟨⟨sym,add⟩,iV⟩:=R3;dsimp only at RS D3 ⊢;go_wp2_with fail;refine (za B s b g iV [44] _ D3.o.1).mono ?_;rintro e V4 ⟨rfl,hh⟩;have D4:=hid (D3.o.aR hh);clear hh D3;generalize As.sign (sl s) [44] iV=uK at *;go_wp2_with fail;refine (yX B s b g uK _ D4.o.1).mono ?_;rintro e V5 ⟨rfl,hh⟩;have D5:=hid (D4.o.aR hh);clear hh D4;generalize As.register (sl s) uK=R5 at *;obtain ⟨rt,Fx⟩:=R5
  dsimp only at RS D5 ⊢;go_wp2_with fail;refine (TR B s b g Fx rt 12 0 rt rs 0 sym add _ D5.o.1 (by omega) (by omega)).mono ?_;rintro e VF ⟨rfl,hh⟩;have DF:=hid (D5.o.after hh);clear hh;go_wp2
  first | go_end0 | ((try simp only [Exit.inBlock,Exit.then]); refine bodyPost_ret (results_none rfl _ _ _) rfl ?_)
  rw [RS.o];exact ⟨rfl,DF.o⟩
theorem yir (B:Nat) (s:ByteArray) (b g:Nat) (st0:As.St) (op:Nat) (W:World) (h:yl B s b g st0 W) (h1:1<=op) (h2:op<=25) :
  Calls Tryz.prog 108 #[.pointer (some ⟨b,0,none⟩),.int .i64 op] W fun en W'=>en = .returned (.tuple #[])/\Does B s b g W (As.branch (sl s) op st0) W':=by
 have D0:=hid h.does;clear h;obtain ⟨X,hX⟩:∃ X,X=As.branch (sl s) op st0:=⟨_,rfl⟩
 rw [<- hX];unfold As.branch at hX;dsimp only at hX;have RS:=hid hX;clear hX;go_enter Tryz.func108,Tryz.ntmps108;go_wp2_with fail;refine (yX B s b g st0 _ D0.o.1).mono ?_;rintro e V1 ⟨rfl,hh⟩;have D1:=hid (D0.o.aR hh);clear hh D0;generalize As.register (sl s) st0=R1 at *;obtain ⟨bK,st1⟩:=R1;dsimp only at RS D1 ⊢;go_wp2_with fail;refine (za B s b g st1 [44] _ D1.o.1).mono ?_;rintro e V2 ⟨rfl,hh⟩;have D2:=hid (D1.o.aR hh);clear hh D1;generalize As.sign (sl s) [44] st1=st2 at *;go_wp2_with fail;refine (yX B s b g st2 _ D2.o.1).mono ?_;rintro e V3 ⟨rfl,hh⟩;have D3:=hid (D2.o.aR hh);clear hh D2;generalize As.register (sl s) st2=R3 at *
 obtain ⟨dJ,iV⟩:=R3;dsimp only at RS D3 ⊢;go_wp2_with fail;refine (za B s b g iV [44] _ D3.o.1).mono ?_;rintro e V4 ⟨rfl,hh⟩;have D4:=hid (D3.o.aR hh);clear hh D3;generalize As.sign (sl s) [44] iV=uK at *;go_wp2_with fail;refine (OI B s b g uK _ D4.o.1).mono ?_;rintro e V5 ⟨rfl,hh⟩;have D5:=hid (D4.o.after hh);clear hh D4;generalize As.symbol (sl s) uK=R5 at *;obtain ⟨y,Fx⟩:=R5;dsimp only at RS D5 ⊢;go_wp2_with fail;refine (Dj op 0 bK dJ 0 _ D5.o.1.tabs h1 h2).mono ?_;rintro e V6 ⟨rfl,hg⟩;have D6:=hid (D5.o.grown hg);clear hg D5;generalize RQ:Fx=Fy at *;generalize As.enc op 0 bK dJ 0=x at *;clear RQ
 go_wp2_with fail;refine (Jk B s b g Fy 2 y 0 _ 1 [(x:Int)] _ (D6.o.alloc _).1 (IB V6 x) (by simp)).mono ?_;rintro e VF ⟨rfl,hh⟩;have DF:=hid ((D6.o.alloc _).after hh);clear hh;go_wp2
 first | go_end0 | ((try simp only [Exit.inBlock,Exit.then]); refine bodyPost_ret (results_none rfl _ _ _) rfl ?_)
 rw [RS.o];exact ⟨rfl,DF.o⟩
theorem WH (B:Nat) (s:ByteArray) (b g:Nat) (st0:As.St) (rd:Nat) (W:World) (h:yl B s b g st0 W) :
  Calls Tryz.prog 138 #[.pointer (some ⟨b,0,none⟩),.int .i64 rd] W fun en W'=>en = .returned (.tuple #[])/\Does B s b g W (As.fE (sl s) rd st0) W':=by
 have D0:=hid h.does;clear h;obtain ⟨X,hX⟩:∃ X,X=As.fE (sl s) rd st0:=⟨_,rfl⟩
 rw [<- hX];unfold As.fE at hX;dsimp only at hX;have RS:=hid hX;clear hX;go_enter Tryz.func138,Tryz.ntmps138;go_wp2_with fail;refine (OI B s b g st0 _ D0.o.1).mono ?_;rintro e V1 ⟨rfl,hh⟩;have D1:=hid (D0.o.after hh);clear hh D0;generalize As.symbol (sl s) st0=R1 at *;obtain ⟨y,st1⟩:=R1;dsimp only at RS D1 ⊢;go_wp2_with fail;refine (Dj 3 rd 0 0 0 _ D1.o.1.tabs (by omega) (by omega)).mono ?_;rintro e V2 ⟨rfl,hg⟩;have D2:=hid (D1.o.grown hg);clear hg D1;generalize En:st1=st2 at *;generalize As.enc 3 rd 0 0 0=x at *;clear En;go_wp2_with fail;refine (Jk B s b g st2 3 y 0 _ 1 [(x:Int)] _ (D2.o.alloc _).1 (IB V2 x) (by simp)).mono ?_
 rintro e VF ⟨rfl,hh⟩;have DF:=hid ((D2.o.alloc _).after hh);clear hh;go_wp2
 first | go_end0 | ((try simp only [Exit.inBlock,Exit.then]); refine bodyPost_ret (results_none rfl _ _ _) rfl ?_)
 rw [RS.o];exact ⟨rfl,DF.o⟩
theorem yhm (B:Nat) (s:ByteArray) (b g:Nat) (st0:As.St) (W:World) (h:yl B s b g st0 W) :
  Calls Tryz.prog 109 #[.pointer (some ⟨b,0,none⟩)] W fun en W'=>en = .returned (.tuple #[])/\Does B s b g W (As.eX (sl s) st0) W':=by
 have D0:=hid h.does;clear h;obtain ⟨X,hX⟩:∃ X,X=As.eX (sl s) st0:=⟨_,rfl⟩
 rw [<- hX];unfold As.eX at hX;dsimp only at hX;have RS:=hid hX;clear hX;go_enter Tryz.func109,Tryz.ntmps109;go_wp2_with fail;refine (yX B s b g st0 _ D0.o.1).mono ?_;rintro e V1 ⟨rfl,hh⟩;have D1:=hid (D0.o.aR hh);clear hh D0;generalize As.register (sl s) st0=R1 at *;obtain ⟨rd,st1⟩:=R1;dsimp only at RS D1 ⊢;go_wp2_with fail;refine (za B s b g st1 [44] _ D1.o.1).mono ?_;rintro e V2 ⟨rfl,hh⟩;have D2:=hid (D1.o.aR hh);clear hh D1;generalize As.sign (sl s) [44] st1=st2 at *;go_wp2_with fail;refine (WH B s b g st2 rd _ D2.o.1).mono ?_;rintro e VF ⟨rfl,hh⟩;have DF:=hid (D2.o.after hh);clear hh;go_wp2
 first | go_end0 | ((try simp only [Exit.inBlock,Exit.then]); refine bodyPost_ret (results_none rfl _ _ _) rfl ?_)
 rw [RS.o];exact ⟨rfl,DF.o⟩
theorem yjO (B:Nat) (s:ByteArray) (b g:Nat) (st0:As.St) (W:World) (h:yl B s b g st0 W) :
  Calls Tryz.prog 110 #[.pointer (some ⟨b,0,none⟩)] W fun en W'=>en = .returned (.tuple #[])/\Does B s b g W (As.fE (sl s) 0 st0) W':=by
 have c:=hid (WH B s b g st0 0 W h);clear h;go_enter Tryz.func110,Tryz.ntmps110;go_wp2_with fail;refine c.o.mono ?_;rintro e VF ⟨rfl,hh⟩;have DF:=hid hh;clear hh;go_wp2
 go_end0
 exact ⟨rfl,DF.o⟩
theorem yfY (B:Nat) (s:ByteArray) (b g:Nat) (st0:As.St) (W:World) (h:yl B s b g st0 W) :
  Calls Tryz.prog 112 #[.pointer (some ⟨b,0,none⟩)] W fun en W'=>en = .returned (.tuple #[])/\Does B s b g W (As.bZ (sl s) st0) W':=by
 have D0:=hid h.does;clear h;obtain ⟨X,hX⟩:∃ X,X=As.bZ (sl s) st0:=⟨_,rfl⟩
 rw [<- hX];unfold As.bZ at hX;dsimp only at hX;have RS:=hid hX;clear hX;go_enter Tryz.func112,Tryz.ntmps112;go_wp2_with fail;refine (yX B s b g st0 _ D0.o.1).mono ?_;rintro e V1 ⟨rfl,hh⟩;have D1:=hid (D0.o.aR hh);clear hh D0;generalize As.register (sl s) st0=R1 at *;obtain ⟨rd,st1⟩:=R1;dsimp only at RS D1 ⊢;go_wp2_with fail;refine (za B s b g st1 [44] _ D1.o.1).mono ?_;rintro e V2 ⟨rfl,hh⟩;have D2:=hid (D1.o.aR hh);clear hh D1;generalize As.sign (sl s) [44] st1=st2 at *;have NB:=Ud (sl s) (-2147483648) 2147483647 st2 (by omega) (by omega);go_wp2_with fail;refine (Iz B s b g st2 (-2147483648) 2147483647 _ D2.o.1).mono ?_
 rintro e V3 ⟨rfl,hh⟩;have D3:=hid (D2.o.aR hh);clear hh D2;generalize As.number (sl s) (-2147483648) 2147483647 st2=R3 at *;obtain ⟨n,iV⟩:=R3;dsimp only at RS D3 NB ⊢;by_cases c1:-2048<=n
 ·by_cases c2:n<=2047
  ·have d1:decide (-2048<=n)=true:=by simp; omega
   have d2:decide (n<=2047)=true:=by simp; omega
   rw [if_pos ⟨c1,c2⟩] at RS;clear c1 c2;go_wp2_with fail;refine (FV B s b g iV 13 rd 0 0 n _ D3.o.1 (by omega) (by omega)).mono ?_;rintro e VF ⟨rfl,hh⟩;have DF:=hid (D3.o.after hh);clear hh;go_wp2
   first | go_end0 | ((try simp only [Exit.inBlock,Exit.then]); refine bodyPost_ret (results_none rfl _ _ _) rfl ?_)
   rw [RS.o];exact ⟨rfl,DF.o⟩
  ·have d1:decide (-2048<=n)=true:=by simp; omega
   have d2:decide (n<=2047)=false:=by simp; omega
   rw [if_neg (fun k=>c2 k.2)] at RS;clear c1 c2;go_wp2_with fail;refine (XC n _ NB.1 NB.2).mono ?_;rintro e w1 ⟨rfl,rfl⟩;generalize As.fZ n=hi at *;generalize As.dH n=lo at *;go_wp2_with fail;refine (Dj 1 rd 0 0 hi _ D3.o.1.tabs (by omega) (by omega)).mono ?_;rintro e V4 ⟨rfl,hg⟩;have D4:=hid (D3.o.grown hg);clear hg D3;generalize J8:iV=uK at *;generalize As.enc 1 rd 0 0 hi=x at *;clear J8;go_wp2_with fail;refine (Dj 13 rd rd 0 lo _ D4.o.1.tabs (by omega) (by omega)).mono ?_;rintro e V5 ⟨rfl,hg⟩;have D5:=hid (D4.o.grown hg);clear hg D4;generalize J9:uK=Fx at *;generalize As.enc 13 rd rd 0 lo=y at *
   clear J9;go_wp2_with fail;refine (KE B s b g Fx _ 2 [(x:Int),(y:Int)] _ (D5.o.alloc _).1 (LM V5 x y) (by simp)).mono ?_;rintro e VF ⟨rfl,hh⟩;have DF:=hid ((D5.o.alloc _).after hh);clear hh;go_wp2
   first | go_end0 | ((try simp only [Exit.inBlock,Exit.then]); refine bodyPost_ret (results_none rfl _ _ _) rfl ?_)
   rw [RS.o];exact ⟨rfl,DF.o⟩
 ·have d1:decide (-2048<=n)=false:=by simp; omega
  rw [if_neg (fun k=>c1 k.1)] at RS;clear c1;go_wp2_with fail;refine (XC n _ NB.1 NB.2).mono ?_;rintro e w1 ⟨rfl,rfl⟩;generalize As.fZ n=hi at *;generalize As.dH n=lo at *;go_wp2_with fail;refine (Dj 1 rd 0 0 hi _ D3.o.1.tabs (by omega) (by omega)).mono ?_;rintro e V4 ⟨rfl,hg⟩;have D4:=hid (D3.o.grown hg);clear hg D3;generalize J8:iV=uK at *;generalize As.enc 1 rd 0 0 hi=x at *;clear J8;go_wp2_with fail;refine (Dj 13 rd rd 0 lo _ D4.o.1.tabs (by omega) (by omega)).mono ?_;rintro e V5 ⟨rfl,hg⟩;have D5:=hid (D4.o.grown hg);clear hg D4;generalize J9:uK=Fx at *;generalize As.enc 13 rd rd 0 lo=y at *
  clear J9;go_wp2_with fail;refine (KE B s b g Fx _ 2 [(x:Int),(y:Int)] _ (D5.o.alloc _).1 (LM V5 x y) (by simp)).mono ?_;rintro e VF ⟨rfl,hh⟩;have DF:=hid ((D5.o.alloc _).after hh);clear hh;go_wp2
  first | go_end0 | ((try simp only [Exit.inBlock,Exit.then]); refine bodyPost_ret (results_none rfl _ _ _) rfl ?_)
  rw [RS.o];exact ⟨rfl,DF.o⟩
theorem yjB (B:Nat) (s:ByteArray) (b g:Nat) (st0:As.St) (W:World) (h:yl B s b g st0 W) :
  Calls Tryz.prog 113 #[.pointer (some ⟨b,0,none⟩)] W fun en W'=>en = .returned (.tuple #[])/\Does B s b g W (As.call (sl s) st0) W':=by
 have D0:=hid h.does;clear h;obtain ⟨X,hX⟩:∃ X,X=As.call (sl s) st0:=⟨_,rfl⟩
 rw [<- hX];unfold As.call at hX;dsimp only at hX;have RS:=hid hX;clear hX;go_enter Tryz.func113,Tryz.ntmps113;have c11:=PK D0.o.1
 cases ht:(st0.op.text == [116,97,105,108])
 ·have d:((bs st0.op.text).toList == [116,97,105,108])=false:=by rw [yA]; exact ht
  rw [ht] at RS;simp only [Bool.false_eq_true,if_false] at RS;clear ht;go_wp2_with fail;refine (OI B s b g st0 _ D0.o.1).mono ?_;rintro e V1 ⟨rfl,hh⟩;have D1:=hid (D0.o.after hh);clear hh D0 c11;generalize As.symbol (sl s) st0=R1 at *;obtain ⟨y,st1⟩:=R1;dsimp only at RS D1 ⊢;go_wp2_with fail;refine (Dj 2 1 0 0 0 _ D1.o.1.tabs (by omega) (by omega)).mono ?_;rintro e V2 ⟨rfl,hg⟩;have D2:=hid (D1.o.grown hg);clear hg D1;generalize En:st1=st2 at *;generalize As.enc 2 1 0 0 0=x at *;clear En;go_wp2_with fail;refine (Dj 4 1 1 0 0 _ D2.o.1.tabs (by omega) (by omega)).mono ?_;rintro e V3 ⟨rfl,hg⟩;have D3:=hid (D2.o.grown hg)
  clear hg D2;generalize J7:st2=iV at *;generalize As.enc 4 1 1 0 0=z at *;clear J7;go_wp2_with fail;refine (Jk B s b g iV 4 y 0 _ 2 [(x:Int),(z:Int)] _ (D3.o.alloc _).1 (LM V3 x z) (by simp)).mono ?_;rintro e VF ⟨rfl,hh⟩;have DF:=hid ((D3.o.alloc _).after hh);clear hh;go_wp2
  first | go_end0 | ((try simp only [Exit.inBlock,Exit.then]); refine bodyPost_ret (results_none rfl _ _ _) rfl ?_)
  rw [RS.o];exact ⟨rfl,DF.o⟩
 ·have d:((bs st0.op.text).toList == [116,97,105,108])=true:=by rw [yA]; exact ht
  rw [ht] at RS;simp only [if_true] at RS;clear ht;go_wp2_with fail;refine (OI B s b g st0 _ D0.o.1).mono ?_;rintro e V1 ⟨rfl,hh⟩;have D1:=hid (D0.o.after hh);clear hh D0 c11;generalize As.symbol (sl s) st0=R1 at *;obtain ⟨y,st1⟩:=R1;dsimp only at RS D1 ⊢;go_wp2_with fail;refine (Dj 2 6 0 0 0 _ D1.o.1.tabs (by omega) (by omega)).mono ?_;rintro e V2 ⟨rfl,hg⟩;have D2:=hid (D1.o.grown hg);clear hg D1;generalize En:st1=st2 at *;generalize As.enc 2 6 0 0 0=x at *;clear En;go_wp2_with fail;refine (Dj 4 0 6 0 0 _ D2.o.1.tabs (by omega) (by omega)).mono ?_;rintro e V3 ⟨rfl,hg⟩;have D3:=hid (D2.o.grown hg)
  clear hg D2;generalize J7:st2=iV at *;generalize As.enc 4 0 6 0 0=z at *;clear J7;go_wp2_with fail;refine (Jk B s b g iV 4 y 0 _ 2 [(x:Int),(z:Int)] _ (D3.o.alloc _).1 (LM V3 x z) (by simp)).mono ?_;rintro e VF ⟨rfl,hh⟩;have DF:=hid ((D3.o.alloc _).after hh);clear hh;go_wp2
  first | go_end0 | ((try simp only [Exit.inBlock,Exit.then]); refine bodyPost_ret (results_none rfl _ _ _) rfl ?_)
  rw [RS.o];exact ⟨rfl,DF.o⟩
theorem yjz (B:Nat) (s:ByteArray) (b g:Nat) (st0:As.St) (W:World) (h:yl B s b g st0 W) :
  Calls Tryz.prog 107 #[.pointer (some ⟨b,0,none⟩)] W fun en W'=>en = .returned (.tuple #[])/\Does B s b g W (As.bare st0) W':=by
 have D0:=hid h.does;have c11:=PK h;clear h;have RS:=hid (show As.bare st0=if st0.op.text=[101,99,97,108,108] then As.dR 25 0 0 0 0 st0 else if st0.op.text=[114,101,116] then As.dR 4 0 1 0 0 st0 else if st0.op.text=[110,111,112] then As.dR 13 0 0 0 0 st0 else st0 from rfl);generalize As.bare st0=X at *;have e:∀ l:List UInt8,((bs st0.op.text).toList == l)=decide (st0.op.text=l):=fun l=>by rw [yA,Bool.eq_iff_iff,beq_iff_eq,decide_eq_true_iff]
 have d1:=e [101,99,97,108,108];have d2:=e [114,101,116];have d3:=e [110,111,112];clear e;by_cases h1:st0.op.text=[101,99,97,108,108]
 ·rw [if_pos h1] at RS;rw [decide_eq_true h1] at d1;clear h1 d2 d3;go_enter Tryz.func107,Tryz.ntmps107;go_wp2_with fail;refine (FV B s b g st0 25 0 0 0 0 _ D0.o.1 (by omega) (by omega)).mono ?_;rintro e VF ⟨rfl,hh⟩;have DF:=hid (D0.o.after hh);clear hh;go_wp2
  first | go_end0 | ((try simp only [Exit.inBlock,Exit.then]); refine bodyPost_ret (results_none rfl _ _ _) rfl ?_)
  rw [RS.o];exact ⟨rfl,DF.o⟩
 rw [if_neg h1] at RS;rw [decide_eq_false h1] at d1;clear h1;by_cases h2:st0.op.text=[114,101,116]
 ·rw [if_pos h2] at RS;rw [decide_eq_true h2] at d2;clear h2 d3;go_enter Tryz.func107,Tryz.ntmps107;go_wp2_with fail;refine (FV B s b g st0 4 0 1 0 0 _ D0.o.1 (by omega) (by omega)).mono ?_;rintro e VF ⟨rfl,hh⟩;have DF:=hid (D0.o.after hh);clear hh;go_wp2
  first | go_end0 | ((try simp only [Exit.inBlock,Exit.then]); refine bodyPost_ret (results_none rfl _ _ _) rfl ?_)
  rw [RS.o];exact ⟨rfl,DF.o⟩
 rw [if_neg h2] at RS;rw [decide_eq_false h2] at d2;clear h2;by_cases h3:st0.op.text=[110,111,112]
 ·rw [if_pos h3] at RS;rw [decide_eq_true h3] at d3;clear h3;go_enter Tryz.func107,Tryz.ntmps107;go_wp2_with fail;refine (FV B s b g st0 13 0 0 0 0 _ D0.o.1 (by omega) (by omega)).mono ?_;rintro e VF ⟨rfl,hh⟩;have DF:=hid (D0.o.after hh);clear hh;go_wp2
  first | go_end0 | ((try simp only [Exit.inBlock,Exit.then]); refine bodyPost_ret (results_none rfl _ _ _) rfl ?_)
  rw [RS.o];exact ⟨rfl,DF.o⟩
 rw [if_neg h3] at RS;rw [decide_eq_false h3] at d3;clear h3;go_enter Tryz.func107,Tryz.ntmps107;go_wp2
 go_end0
 rw [RS.o];exact ⟨rfl,D0.o⟩
theorem Gh {w:World} {base:Nat} {e:TypeId} {size n cap:Nat} {ao:Option Addr} {xs:List Value} (h:w.ownsRow base e size (.slice ao n cap) n xs) (h0:0 < n):∃ sg cur,ao=some ⟨sg,0,none⟩/\yd w sg cur e/\cur.size=cap * size/\cur.toList.take (n * size)=xs/\n<=cap:=by
 rcases h.2 with ⟨h1,h2⟩ | ⟨g',cap',cur,hv,_,hg,h3,_,h5,h6⟩
 ·omega
 ·simp only [Value.slice.injEq] at hv;obtain ⟨rfl,_,rfl⟩:=hv;exact ⟨g',cur,rfl,hg,h5,h6,h3⟩
theorem OJ {w:World} {base:Nat} {e:TypeId} {size n cap sg j:Nat} {xs:List Value} {u:Value} (h:w.ownsRow base e size (.slice (some ⟨sg,0,none⟩) n cap) n xs) (_hj:j < n * size) :
  (w.setCell ⟨sg,j,none⟩ u).ownsRow base e size (.slice (some ⟨sg,0,none⟩) n cap) n (xs.set j u):=by
 refine ⟨by rw [List.length_set]; exact h.1,?_⟩;rcases h.2 with ⟨h1,h2⟩ | ⟨g',cap',cur,hv,hb,hg,h3,h4,h5,h6⟩
 ·simp at h1
 ·simp only [Value.slice.injEq,Option.some.injEq,Addr.mk.injEq] at hv;obtain ⟨⟨rfl,_⟩,_,rfl⟩:=hv;refine .inr ⟨sg,cap,cur.setIfInBounds j u,rfl,hb,WW hg u,h3,h4,by simpa using h5,?_⟩;rw [Array.toList_setIfInBounds,List.take_set,h6]
theorem XM {α:Type} (f:α->List Value) (size:Nat) (hf:∀ x,(f x).length=size) (l:List α) (i j:Nat) (hi:i < l.length) (hj:j < size) (u:Value) (y:α) (hy:f y=(f l[i]).set j u):(l.flatMap f).set (i * size+j) u=(l.set i y).flatMap f:=by
 induction l generalizing i with
 | nil=>simp at hi
 | cons a l ih =>
  cases i with
  | zero =>
   simp only [List.flatMap_cons,iT,Nat.zero_mul,Nat.zero_add] at hy ⊢;rw [List.set_append_left _ _ (by rw [hf]; exact hj),hy];rfl
  | succ i =>
   simp only [List.flatMap_cons,iR];rw [List.set_append_right _ _ (by rw [hf]; rw [Nat.succ_mul]; omega),hf,show (i+1) * size+j - size=i * size+j by rw [Nat.succ_mul]; omega,ih i (by simpa using hi) hy]
section
variable {B:Nat} {s:ByteArray} {b g:Nat} {V:World} {st:As.St} {vt vf vd va vs vr:Value}
theorem yl.jW {sg n cs:Nat} (h:yl B s b g st V) (ho:qD B V b g st.obj vt vf vd va (.slice (some ⟨sg,0,none⟩) n cs) vr) (i j:Nat) (hi:i < st.obj.syms.length) (hj:j < 4) (u:Value) (y:Lk.Sym) (hy:iF y=(iF st.obj.syms[i]).set j u) :
  Does B s b g V { st with obj:={ st.obj with syms:=st.obj.syms.set i y } } (V.setCell ⟨sg,i * 4+j,none⟩ u):=by
 obtain ⟨ao,cap,hv⟩:=yi ho.syms;simp only [Value.slice.injEq] at hv;obtain ⟨rfl,rfl,rfl⟩:=hv;have gs:=yy V sg (i * 4+j) u;have nr:ow B V (V.setCell ⟨sg,i * 4+j,none⟩ u) b g (.slice (some ⟨sg,0,none⟩) st.obj.syms.length cs) (.slice (some ⟨sg,0,none⟩) st.obj.syms.length cs) :=
  ⟨fun k hk hne _=>gs.block k hk (by simpa [Value.ownBlock] using hne),fun k hk=>.inl hk,gs.os,gs.tape,gs.output,gs.size⟩
 have hgs:g≠sg:=fun e=>ho.apart.ne (i:=1) (j:=6) rfl rfl (by omega) g rfl (by rw [e]; rfl)
 refine h.Bg ho nr (st.obj.syms.set i y) (by rw [List.length_set]; exact h.ok.syms) (ho.blk.grown gs (by simpa using hgs)) ?_;rw [List.length_set,<- XM iF 4 (fun x=>rfl) st.obj.syms i j hi hj u y hy];have hmm:i * 4+4<=st.obj.syms.length * 4:=by have:=Nat.mul_le_mul_right 4 (show i+1<=st.obj.syms.length by omega); omega
 exact OJ ho.syms (by omega)
theorem yl.EA {v':Value} {W':World} (h:yl B s b g st V) (ho:qD B V b g st.obj vt vf vd va vs vr) (n:ow B V W' b g va v') (xs:List Int) (hxs:xs.length=4)
  (hblk:yd W' g #[vt,vf,vd,.int .i64 st.obj.bss,v',vs,vr] 40) (hown:W'.ownsRow B 3 1 v' xs.length (xs.map (Value.int .i64))):Does B s b g V { st with obj:={ st.obj with align:=xs } } W':=by
 refine n.does h ho (i:=5) rfl (by omega) ⟨vt,vf,vd,v',vs,vr,hblk,?_,?_,?_,hown,?_,?_,n.apart ho h.blk.lt (i:=5) rfl⟩ rfl (h.ok.zX _ h.ok.text h.ok.far h.ok.data h.ok.bss hxs h.ok.syms h.ok.aj) (Jo ho.align (by simp))
 ·exact n.row ho (i:=5) (j:=2) rfl rfl (by omega) (by omega) ho.text
 ·exact n.row ho (i:=5) (j:=3) rfl rfl (by omega) (by omega) ho.far
 ·exact n.row ho (i:=5) (j:=4) rfl rfl (by omega) (by omega) ho.data
 ·exact n.row ho (i:=5) (j:=6) rfl rfl (by omega) (by omega) ho.syms
 ·exact n.row ho (i:=5) (j:=7) rfl rfl (by omega) (by omega) ho.aj
theorem yl.sS {sg n cs:Nat} (h:yl B s b g st V) (ho:qD B V b g st.obj vt vf vd (.slice (some ⟨sg,0,none⟩) n cs) vs vr) (i:Nat) (hi:i < 4) (u:Int) :
  Does B s b g V { st with obj:={ st.obj with align:=st.obj.align.set i u } } (V.setCell ⟨sg,i,none⟩ (.int .i64 u)):=by
 obtain ⟨ao,cap,hv⟩:=yi ho.align;simp only [Value.slice.injEq] at hv;obtain ⟨rfl,rfl,rfl⟩:=hv;have gs:=yy V sg i (.int .i64 u);have nr:ow B V (V.setCell ⟨sg,i,none⟩ (.int .i64 u)) b g (.slice (some ⟨sg,0,none⟩) st.obj.align.length cs) (.slice (some ⟨sg,0,none⟩) st.obj.align.length cs) :=
  ⟨fun k hk hne _=>gs.block k hk (by simpa [Value.ownBlock] using hne),fun k hk=>.inl hk,gs.os,gs.tape,gs.output,gs.size⟩
 have hgs:g≠sg:=fun e=>ho.apart.ne (i:=1) (j:=5) rfl rfl (by omega) g rfl (by rw [e]; rfl)
 refine h.EA ho nr (st.obj.align.set i u) (by rw [List.length_set]; exact h.ok.align) (ho.blk.grown gs (by simpa using hgs)) ?_;rw [List.length_set,List.map_set];exact OJ ho.align (by have:=h.ok.align; omega)
end
theorem OH (ys:List Lk.Sym) (i:Nat) (hi:i < ys.length) (f:Lk.Sym->Lk.Sym):ys.modify i f=ys.set i (f ys[i]):=by
 induction ys generalizing i with
 | nil=>simp at hi
 | cons y ys ih =>
  cases i with
  | zero=>simp
  | succ i =>
   simp only [List.modify_succ_cons,iR,oq];rw [ih i (by simpa using hi)]
theorem WO (t:As.Tok) (st:As.St) (h:(As.au t st).1.2=true):(As.au t st).1.1 < (As.au t st).2.obj.syms.length:=by
 unfold As.au at h ⊢
 cases hf:As.failed st
 ·rw [hf] at h;simp only [Bool.false_eq_true,if_false] at h ⊢
  cases hs:As.eH st.obj.syms t.text with
  | some i =>
   simp only;unfold As.eH at hs;rw [List.findIdx?_eq_some_iff_getElem] at hs;exact hs.1
  | none =>
   rw [hs] at h;simp only at h ⊢;by_cases h16:16<=st.obj.syms.length
   ·rw [if_pos h16] at h; simp at h
   ·rw [if_neg h16]; simp
 ·rw [hf] at h;simp at h
theorem Qh {B:Nat} {s:ByteArray} {b g:Nat} {V:World} {st:As.St} (h:yl B s b g st V) (i:Nat) (hi:i < st.obj.syms.length):∃ vt vf vd va sg cs vr,qD B V b g st.obj vt vf vd va (.slice (some ⟨sg,0,none⟩) st.obj.syms.length cs) vr/\V.cell? ⟨g,5,none⟩=some (.slice (some ⟨sg,0,none⟩) st.obj.syms.length cs) /\
  V.cell? ⟨sg,i * 4+1,none⟩=some (.int .i64 st.obj.syms[i].bind)/\V.cell? ⟨sg,i * 4+2,none⟩=some (.int .i64 st.obj.syms[i].ah)/\V.cell? ⟨sg,i * 4+3,none⟩=some (.int .i64 st.obj.syms[i].off)/\(∀ o,V.frozen? ⟨sg,o,none⟩=false)/\sg≠b/\sg≠g:=by
 obtain ⟨vt,vf,vd,va,vs,vr,ho⟩:=h.own;obtain ⟨gu,cs,rfl⟩:=yi ho.syms;obtain ⟨sg,cur,rfl,hb,-,-,-⟩:=Gh ho.syms (by omega);obtain ⟨Gc,hsg,-,hc⟩:=nS.aF ho.syms (by omega);simp only [Option.some.injEq,Addr.mk.injEq] at hsg;obtain ⟨rfl,-⟩:=hsg;obtain ⟨-,k1,k2,k3⟩:=hc i hi;have g5:=ho.blk.cell 5;simp only [bB,yml,bf] at g5;exact ⟨vt,vf,vd,va,sg,cs,vr,ho,g5,k1,k2,k3,fun o=>hb.free o,fun e=>ho.apart.ne (i:=0) (j:=6) rfl rfl (by omega) b rfl (by rw [<- e]; rfl),fun e=>ho.apart.ne (i:=1) (j:=6) rfl rfl (by omega) g rfl (by rw [<- e]; rfl)⟩
theorem Xm (B:Nat) (s:ByteArray) (b g:Nat) (st:As.St) (binding:Int) (W:World) (h:yl B s b g st W) :
  Calls Tryz.prog 143 #[.pointer (some ⟨b,0,none⟩),.int .i64 binding] W fun en W'=>en = .returned (.tuple #[])/\Does B s b g W (As.bind (sl s) binding st) W':=by
 have HW:=hid h;have cN:=hid (Xu B s b g st W h);have HT:=hid (XQ (sl s) st h.ok.tok);clear h;obtain ⟨X,hX⟩:∃ X,X=As.bind (sl s) binding st:=⟨_,rfl⟩
 rw [<- hX];unfold As.bind at hX;dsimp only at hX;have RS:=hid hX;clear hX;generalize As.name (sl s) st=R at *;obtain ⟨t,st1⟩:=R;dsimp only at HT RS cN;go_enter Tryz.func143,Tryz.ntmps143;go_wp2_with fail;refine cN.o.mono ?_;rintro e V ⟨rfl,h1⟩;have D1:=hid (h1.does HW.o);clear h1 cN;unfold tokA;go_wp2_with fail;refine (TT B s b g st1 t _ (D1.o.alloc _).1 HT.o).mono ?_;rintro e V2 ⟨rfl,h2⟩;have D2:=hid ((D1.o.alloc _).after h2);have LT:=hid (h2.2.2 V.heap.size (kQ t) 62 (by decide) (by decide) (by decide) (by decide) (by decide) (yd.new V _ _));have K5:=hid (WO t st1);clear h2 D1;unfold Qq;generalize As.au t st1=R2 at *
 obtain ⟨⟨i,ok⟩,st2⟩:=R2;dsimp only at RS D2 K5 ⊢
 cases ok
 ·rw [if_pos (show (!false)=true from rfl)] at RS;go_wp2
  (try simp only [Exit.inBlock,Exit.then]); refine bodyPost_ret (results_none rfl _ _ _) rfl ?_
  rw [RS.o];exact ⟨rfl,D2.o⟩
 ·rw [if_neg (by simp)] at RS;have hi:=K5.o rfl;obtain ⟨vt,vf,vd,va,sg,cs,vr,ho,g5,k1,k2,k3,hfz,n1,n2⟩:=Qh D2.o.1 i hi;have HO:=hid ho;have c14:=wJ D2.o.1;have hcap:=yZ ho.syms;have f1:=hfz (i * 4+1);clear ho hfz;rw [kg hi] at RS;simp only [Option.map_some,Option.getD_some] at RS;have g1:(0:Int)<=(i:Int):=by omega
  have g2:(i:Int) < (st2.obj.syms.length:Int):=by omega
  by_cases hz:st2.obj.syms[i].bind=0
  ·have d:(st2.obj.syms[i].bind == 0)=true:=by simp [hz]
   have d':(st2.obj.syms[i].bind != 0)=false:=by simp [hz]
   rw [if_neg (by simpa using hz)] at RS;have FIN:=hid (D2.o.after (D2.o.1.jW HO.o i 1 hi (by omega) (.int .i64 binding) ⟨st2.obj.syms[i].name,binding,st2.obj.syms[i].ah,st2.obj.syms[i].off⟩ rfl));have RX:=hid (show X={ st2 with obj:={ st2.obj with syms:=st2.obj.syms.set i ⟨st2.obj.syms[i].name,binding,st2.obj.syms[i].ah,st2.obj.syms[i].off⟩ } } from by rw [RS.o]; unfold As.lH; rw [OH _ i hi]);clear hz;go_wp2
   go_end0
   rw [RX.o];exact ⟨rfl,FIN.o⟩
  ·have d:(st2.obj.syms[i].bind == 0)=false:=by simp [hz]
   have d':(st2.obj.syms[i].bind != 0)=true:=by simp [hz]
   rw [if_pos (by simpa using hz)] at RS;have m1:=LT.o.cell 1;simp only [kQ,bB,yml,bf] at m1;clear hz;go_wp2_with fail;refine (yM B s b g st2 14 t.pos V2 D2.o.1 (by omega) HT.o.pos).mono ?_;rintro e V3 ⟨rfl,h3⟩;have D3:=hid (D2.o.aR h3);clear h3;go_wp2
   (try simp only [Exit.inBlock,Exit.then]); refine bodyPost_ret (results_none rfl _ _ _) rfl ?_
   rw [RS.o];exact ⟨rfl,D3.o⟩
theorem yjb (B:Nat) (s:ByteArray) (b g:Nat) (st:As.St) (t:As.Tok) (W:World) (h:yl B s b g st W) (ht:Aw t) :
  Calls Tryz.prog 36 #[.pointer (some ⟨b,0,none⟩),tokA t] W fun en W'=>en = .returned (.tuple #[])/\Does B s b g W (As.label t st) W':=by
 have HW:=hid h;have L0:=hid ((Loc.begin h).alloc (kQ t) 62);have HT:=hid ht;clear h ht;obtain ⟨X,hX⟩:∃ X,X=As.label t st:=⟨_,rfl⟩
 rw [<- hX];unfold As.label at hX;dsimp only at hX;have RS:=hid hX;clear hX;unfold tokA;go_enter Tryz.func36,Tryz.ntmps36;go_wp2_with fail;refine Calls.fO (Loc B s b g W [(W.heap.size,kQ t,62)] st) L0.o ?_;clear L0;generalize hr:W.heap.size=r at *;clear hr;intro V hV;refine (WV B s b g st t V hV.d.1 HT.o).mono ?_;rintro e V1 ⟨rfl,h1⟩;have L1:=hid (hV.step h1);clear h1 hV V;generalize As.aP t st=st1 at *;obtain ⟨m0,m1,m2,m3⟩:=(⟨L1.o.d,L1.o.l (r,kQ t,62) (by simp)⟩:lX B s b g W r t st1 V1).cells;go_wp2_with fail;refine (TT B s b g st1 t V1 L1.o.d.1 HT.o).mono ?_;rintro e V2 ⟨rfl,h2⟩;have D2:=hid ((L1.o.d.does HW.o).after h2)
 have LT:=hid (h2.2.2 r (kQ t) 62 (by decide) (by decide) (by decide) (by decide) (by decide) (L1.o.l (r,kQ t,62) (by simp)));have K5:=hid (WO t st1);clear h2 L1 m0 m1 m2 m3;unfold Qq;generalize As.au t st1=R2 at *;obtain ⟨⟨i,ok⟩,st2⟩:=R2;dsimp only at RS D2 K5 ⊢
 cases ok
 ·rw [if_pos (show (!false)=true from rfl)] at RS;go_wp2
  (try simp only [Exit.inBlock,Exit.then]); refine bodyPost_ret (results_none rfl _ _ _) rfl ?_
  rw [RS.o];exact ⟨rfl,D2.o⟩
 ·rw [if_neg (by simp)] at RS;have hi:=K5.o rfl;rw [kg hi] at RS;simp only [Option.map_some,Option.getD_some] at RS;obtain ⟨vt,vf,vd,va,sg,cs,vr,ho,g5,k1,k2,k3,hfz,n1,n2⟩:=Qh D2.o.1 i hi;have HO:=hid ho;have c14:=wJ D2.o.1;have c13:=zi D2.o.1;have hcap:=yZ ho.syms;have f2:=hfz (i * 4+2);have f3:=hfz (i * 4+3);clear ho hfz;have g1:(0:Int)<=(i:Int):=by omega
  have g2:(i:Int) < (st2.obj.syms.length:Int):=by omega
  by_cases hz:st2.obj.syms[i].ah=0
  ·have d:(st2.obj.syms[i].ah == 0)=true:=by simp [hz]
   have d':(st2.obj.syms[i].ah != 0)=false:=by simp [hz]
   rw [if_neg (by simpa using hz)] at RS;have RX:=hid (show X={ st2 with obj:={ st2.obj with syms:=st2.obj.syms.set i ⟨st2.obj.syms[i].name,st2.obj.syms[i].bind,st2.ah,4 * As.aA st2.obj st2.ah⟩ } } from by rw [RS.o]; unfold As.lH; rw [OH _ i hi]);have P1:=hid (D2.o.1.jW HO.o i 2 hi (by omega) (.int .i64 st2.ah) ⟨st2.obj.syms[i].name,st2.obj.syms[i].bind,st2.ah,st2.obj.syms[i].off⟩ rfl);clear hz RS;go_wp2;refine wp_region_held_drew (S:=(fun w'=>w'.cell? ⟨b,14,none⟩=some (.pointer (some ⟨g,0,none⟩))/\w'.cell? ⟨b,13,none⟩=some (.int .i64 st2.ah)/\w'.cell? ⟨g,5,none⟩=some (.slice (some ⟨sg,0,none⟩) st2.obj.syms.length cs))) (by kernel_rfl) ⟨c14,c13,g5⟩ ?_
   intro hS
   iterate 14
    refine yH (v:=?_) rfl (by kernel_rfl) (fun _ _ _ h=>h) hS ?_ ?_
    rotate_left
    ·intro w' hw'; obtain ⟨x0,x1,x2⟩:=hw'; go_simp; with_reducible rfl
   refine wpAnyH_ready (rs:=[14]) (by kernel_rfl) (by simp) ?_;refine AllReadyH.cons rfl (fun K hK=>?_) AllReadyH.nil;go_simp;refine hK.out _ _ ⟨?_,?_,?_⟩ (fun hS2=>?_)
   ·exact (yy V2 sg (i * 4+2) (.int .i64 st2.ah)).cell c14 (by simpa using n1.symm)
   ·exact (yy V2 sg (i * 4+2) (.int .i64 st2.ah)).cell c13 (by simpa using n1.symm)
   ·exact (yy V2 sg (i * 4+2) (.int .i64 st2.ah)).cell g5 (by simpa using n2.symm)
   clear hK K;refine wpAnyH_done (by kernel_rfl) ?_ _
   try simp only [oC,oF,oq,oD,iW,iR,iT]
   have D3:=hid ((D2.o.after P1.o).grown (yg (World.grownBy.refl _ none)));clear P1 HO c14 c13 g5 k1 k2 k3 f2 f3 hcap n1 n2 hS hS2 D2 g2 vt vf vd va vr d d';generalize hst:({ st2 with obj:={ st2.obj with syms:=st2.obj.syms.set i ⟨st2.obj.syms[i].name,st2.obj.syms[i].bind,st2.ah,st2.obj.syms[i].off⟩ } }:As.St)=iV at *;generalize World.drew _=V3 at *;have hi3:i < iV.obj.syms.length:=by rw [<- hst]; simpa using hi
   have Y8:=hid (show X={ iV with obj:={ iV.obj with syms:=iV.obj.syms.set i ⟨iV.obj.syms[i].name,iV.obj.syms[i].bind,iV.obj.syms[i].ah,4 * As.aA iV.obj iV.ah⟩ } } from by
    rw [RX.o];subst hst;simp [As.aA])
   clear RX hst K5;obtain ⟨vt,vf,vd,va,sg2,cs2,vr,ho,g5,k1,k2,k3,hfz,n1,n2⟩:=Qh D3.o.1 i hi3;have HO:=hid ho;have c14:=wJ D3.o.1;have c13:=zi D3.o.1;have hcap:=yZ ho.syms;have f3:=hfz (i * 4+3);have g2:(i:Int) < (iV.obj.syms.length:Int):=by omega
   have P2:=hid (D3.o.after (D3.o.1.jW HO.o i 3 hi3 (by omega) (.int .i64 (4 * As.aA iV.obj iV.ah)) ⟨iV.obj.syms[i].name,iV.obj.syms[i].bind,iV.obj.syms[i].ah,4 * As.aA iV.obj iV.ah⟩ rfl));have cL:=hid (Lx B s b g iV V3.drew (D3.o.1.grown (yg (World.grownBy.refl _ none))));generalize 4 * As.aA iV.obj iV.ah=ln at *;clear ho hfz k1 k2;go_wp2;refine wp_region_held_drew (S:=(fun w'=>w'.cell? ⟨b,14,none⟩=some (.pointer (some ⟨g,0,none⟩))/\w'.cell? ⟨b,13,none⟩=some (.int .i64 iV.ah)/\w'.cell? ⟨g,5,none⟩=some (.slice (some ⟨sg2,0,none⟩) iV.obj.syms.length cs2))) (by kernel_rfl) ⟨c14,c13,g5⟩ ?_;intro hS
   iterate 16
    refine yH (v:=?_) rfl (by kernel_rfl) (fun _ _ _ h=>h) hS ?_ ?_
    rotate_left
    ·intro w' hw'; obtain ⟨x0,x1,x2⟩:=hw'; go_simp; with_reducible rfl
   refine wpAnyH_ready (rs:=[16]) (by kernel_rfl) (by simp) ?_;refine AllReadyH.cons rfl (fun K hK=>?_) AllReadyH.nil;go_simp;go_wp2_with (go_at_call 61; refine cL.o.mono ?_; rintro e w' ⟨rfl,rfl⟩)
   refine hK.out _ _ hS (fun hS2=>?_);clear hK K
   iterate 2
    refine yH (v:=?_) rfl (by kernel_rfl) (fun _ _ _ h=>h) hS ?_ ?_
    rotate_left
    ·intro w' hw'; obtain ⟨x0,x1,x2⟩:=hw'; go_simp; with_reducible rfl
   refine wpAnyH_ready (rs:=[19]) (by kernel_rfl) (by simp) ?_;refine AllReadyH.cons rfl (fun K hK=>?_) AllReadyH.nil;go_simp;refine hK.out _ _ ⟨?_,?_,?_⟩ (fun hS2=>?_)
   ·exact (yy V3 sg2 (i * 4+3) (.int .i64 ln)).cell c14 (by simpa using n1.symm)
   ·exact (yy V3 sg2 (i * 4+3) (.int .i64 ln)).cell c13 (by simpa using n1.symm)
   ·exact (yy V3 sg2 (i * 4+3) (.int .i64 ln)).cell g5 (by simpa using n2.symm)
   clear hK K;refine wpAnyH_done (by kernel_rfl) ?_ _
   try simp only [oC,oF,oq,oD,iW,iR,iT]
   go_wp2
   go_end0
   rw [Y8.o];exact ⟨rfl,P2.o.grown (yg (World.grownBy.refl _ none))⟩
  ·have d:(st2.obj.syms[i].ah == 0)=false:=by simp [hz]
   have d':(st2.obj.syms[i].ah != 0)=true:=by simp [hz]
   rw [if_pos (by simpa using hz)] at RS;have m1:=LT.o.cell 1;simp only [kQ,bB,yml,bf] at m1;clear hz;go_wp2_with fail;refine (yM B s b g st2 10 t.pos V2 D2.o.1 (by omega) HT.o.pos).mono ?_;rintro e V3 ⟨rfl,h3⟩;have D3:=hid (D2.o.aR h3);clear h3;go_wp2
   (try simp only [Exit.inBlock,Exit.then]); refine bodyPost_ret (results_none rfl _ _ _) rfl ?_
   rw [RS.o];exact ⟨rfl,D3.o⟩
theorem yE.aF {w:World} {base n cap:Nat} {ao:Option Addr} {ws:List Int} (h:w.ownsRow base 3 1 (.slice ao n cap) n (ws.map (Value.int .i64))):yE w ao cap ws:=by
 have hn:ws.length=n:=by have:=h.1; simpa using this
 rcases h.2 with ⟨h1,h2⟩ | ⟨g',cap',cur,hv,_,hg,h3,_,h5,h6⟩
 ·simp only [Value.slice.injEq] at h1;exact .inl ⟨h1.1,h1.2.2,List.eq_nil_of_length_eq_zero (by omega)⟩
 ·simp only [Value.slice.injEq] at hv;obtain ⟨rfl,_,rfl⟩:=hv;refine .inr ⟨g',0,cur,rfl,hg,fun i hi=>?_⟩;have e:(cur.toList.take (n * 1))[i]?=some (.int .i64 ws[i]):=by rw [h6]; simp [hi]
  rw [List.getElem?_take_of_lt (by omega)] at e;rw [Nat.zero_add];simpa using e
theorem Gj {w wr w1:World} {row:Option Nat} (h:w.grownBy wr none) (k:wr.grownBy w1 row) (hr:∀ g,row=some g->w.heap.size<=g):w.grownBy w1 none :=
 ⟨k.os.trans h.os,k.tape.trans h.tape,k.output.trans h.output,Nat.le_trans h.size k.size,fun i hi hn =>
  (k.block i (Nat.lt_of_lt_of_le hi h.size) (fun e=>by have:=hr i e.symm; omega)).trans (h.block i hi hn)⟩
theorem yhB (x:Int) (n:Nat) (w:World) (hn:n<=4096) :
  Calls Tryz.prog 141 #[.int .i64 x,.int .i64 n] w fun e w'=>(∃ ao cap,e = .returned (.slice ao n cap)/\yE w' ao cap (List.replicate n x))/\w.grownBy w' none:=by
 obtain ⟨i0,hi,hz0,hz1,hz2⟩:=info_parts Tryz.iC;go_enter Tryz.func141,Tryz.ntmps141;go_wp2
 go_loopw [5,6] (fun v i wr=>∃ k:Nat,k<=n/\i = .int .i64 k/\wr.ownsRow w.heap.size 3 1 v k ((List.replicate k x).map (Value.int .i64))/\w.grownBy wr none) (fun _ i _=>n - (intOf i).toNat)
 case atStart=>exact ⟨0,Nat.zero_le _,rfl,World.ownsRow_nil _ _ _ _,World.grownBy.refl _ _⟩
 case round =>
  rename_i v _ _;obtain ⟨k,hk,rfl,hown,hgr⟩:=hrel;obtain ⟨av,cv,rfl⟩:=yi hown;have HG:=hid hgr;have hsz:=hgr.size;clear hgr;by_cases hlt:k < n
  ·have hlt':(k:Int) < (n:Int):=by omega
   go_wp2_with (at_builtin; refine wpList_append_own _ rfl _ _ 36 rfl w.heap.size 3 i0 (.int .i64 0) 1 8 Tryz.underlying36 hi hz0 hz1 hz2 rfl (by decide) _ _ _ rfl (hown.alloc _) ⟨wr.heap.size,0,none⟩ 1 1 [.int .i64 x] rfl rfl (cell_one_new _ _ _) (by intro u hu; simp at hu; subst hu; rfl) (by unfold maxLen; omega) (by omega) (by simp; omega) ?_; intro v' w3 hown' hgrow _; obtain ⟨Gw,cv',rfl⟩:=yi hown'; have K:=hid (Gj (ya HG.o (aW wr (.cells #[.int .i64 x] 3) none)) hgrow (fun b hb=>(hown.lt b hb).1)); have HO:=hid hown'; clear hgrow hown')
   go_wp2
   go_roundw
   case rel=>exact ⟨k+1,by omega,by go_num,by rw [List.replicate_succ',List.map_append]; exact HO.o,K.o⟩
   case measure=>simp [intOf]; omega
  ·obtain rfl:k=n:=by omega
   have HO:=hid hown;clear hown;go_wp2;go_ret;exact ⟨⟨av,cv,rfl,yE.aF HO.o⟩,HG.o⟩
theorem Li (x:Int) (n:Nat) (mn:Int) (hm:mn=(n:Int)) (w:World) (hn:n<=4096) :
  Calls Tryz.prog 141 #[.int .i64 x,.int .i64 mn] w fun e w'=>(∃ ao cap,e = .returned (.slice ao n cap)/\yE w' ao cap (List.replicate n x))/\w.grownBy w' none:=by
 subst hm; exact yhB x n w hn
theorem Qm (B:Nat) (s:ByteArray) (b g:Nat) (st:As.St) (x:Int) (n:Nat) (ao:Option Addr) (cap:Nat) (W:World) (h:yl B s b g st W) (hw:yE W ao cap (List.replicate n x)) (hn:n<=4096) :
  Calls Tryz.prog 140 #[.pointer (some ⟨b,0,none⟩),.slice ao n cap] W fun en W'=>en = .returned (.tuple #[])/\Does B s b g W (As.lay (List.replicate n x) st) W':=by
 have c:=KE B s b g st ao cap (List.replicate n x) W h hw (by simpa using hn);rw [List.length_replicate] at c;exact c
theorem WJ (B:Nat) (s:ByteArray) (b g:Nat) (st:As.St) (kind:Int) (sym:Nat) (addend:Int) (x:Int) (n:Nat) (ao:Option Addr) (cap:Nat) (W:World) (h:yl B s b g st W) (hw:yE W ao cap (List.replicate n x)) (hn:n<=4096) :
  Calls Tryz.prog 137 #[.pointer (some ⟨b,0,none⟩),.int .i64 kind,.int .i64 sym,.int .i64 addend,.slice ao n cap] W fun en W'=>en = .returned (.tuple #[])/\Does B s b g W (As.bG kind sym addend (List.replicate n x) st) W':=by
 have c:=Jk B s b g st kind sym addend ao cap (List.replicate n x) W h hw (by simpa using hn);rw [List.length_replicate] at c;exact c
theorem ykA (n:Int):bits .and .i64 n 4294967295=n % 4294967296:=by
 have h1:(BitVec.ofInt 64 4294967295).toNat=2 ^ 32 - 1:=by decide
 have key:(BitVec.ofInt 64 n &&& BitVec.ofInt 64 4294967295).toNat=(n % ((2 ^ 64:Nat):Int)).toNat % 2 ^ 32:=by
  rw [BitVec.toNat_and,BitVec.toNat_ofInt,h1,Nat.and_two_pow_sub_one_eq_mod]
 show IntKind.i64.wrap ((BitVec.ofInt 64 n &&& BitVec.ofInt 64 4294967295).toNat:Nat)=_;rw [key,IntKind.wrap_i64];omega
theorem jH.Br {s:ByteArray} {st:As.St} (h:jH s st) (k:Nat) (hk:1<=k/\k<=4):jH s { st with ah:=k } :=
 ⟨h.size,h.p,h.tok,h.fe,h.fa,h.op,hk,h.text,h.far,h.data,h.bss,h.align,h.syms,h.aj⟩
theorem yhV (B:Nat) (s:ByteArray) (b g:Nat) (st0:As.St) (W:World) (h:yl B s b g st0 W) :
  Calls Tryz.prog 115 #[.pointer (some ⟨b,0,none⟩)] W fun en W'=>en = .returned (.tuple #[])/\kP B s b g W (As.dz st0) W':=by
 have D0:=hid h.kC;have c11:=PK h;have c13:=zi h;have f13:=h.blk.free 13;have OK:=hid h.ok;clear h;have RS:=hid (show As.dz st0=if st0.op.text=[46,116,101,120,116] then { st0 with ah:=1 } else if st0.op.text=[46,102,97,114] then { st0 with ah:=2 } else if st0.op.text=[46,100,97,116,97] then { st0 with ah:=3 } else if st0.op.text=[46,98,115,115] then { st0 with ah:=4 } else st0 from rfl);generalize As.dz st0=X at *;have e:∀ l:List UInt8,((bs st0.op.text).toList == l)=decide (st0.op.text=l):=fun l=>by rw [yA,Bool.eq_iff_iff,beq_iff_eq,decide_eq_true_iff]
 have d1:=e [46,116,101,120,116];have d2:=e [46,102,97,114];have d3:=e [46,100,97,116,97];have d4:=e [46,98,115,115];clear e;by_cases h1:st0.op.text=[46,116,101,120,116]
 ·rw [if_pos h1] at RS;rw [decide_eq_true h1] at d1;clear h1 d2 d3 d4;go_enter Tryz.func115,Tryz.ntmps115;go_wp2
  go_end0
  rw [RS.o];exact ⟨rfl,D0.o.sets [(13,.int .i64 1)] { st0 with ah:=1 } (by simp only [nE,yK,jA,jE,iW,iR,iT]; rfl) rfl (OK.o.Br 1 (by omega))⟩
 rw [if_neg h1] at RS;rw [decide_eq_false h1] at d1;clear h1;by_cases h2:st0.op.text=[46,102,97,114]
 ·rw [if_pos h2] at RS;rw [decide_eq_true h2] at d2;clear h2 d3 d4;go_enter Tryz.func115,Tryz.ntmps115;go_wp2
  go_end0
  rw [RS.o];exact ⟨rfl,D0.o.sets [(13,.int .i64 2)] { st0 with ah:=2 } (by simp only [nE,yK,jA,jE,iW,iR,iT]; rfl) rfl (OK.o.Br 2 (by omega))⟩
 rw [if_neg h2] at RS;rw [decide_eq_false h2] at d2;clear h2;by_cases h3:st0.op.text=[46,100,97,116,97]
 ·rw [if_pos h3] at RS;rw [decide_eq_true h3] at d3;clear h3 d4;go_enter Tryz.func115,Tryz.ntmps115;go_wp2
  go_end0
  rw [RS.o];exact ⟨rfl,D0.o.sets [(13,.int .i64 3)] { st0 with ah:=3 } (by simp only [nE,yK,jA,jE,iW,iR,iT]; rfl) rfl (OK.o.Br 3 (by omega))⟩
 rw [if_neg h3] at RS;rw [decide_eq_false h3] at d3;clear h3;by_cases h4:st0.op.text=[46,98,115,115]
 ·rw [if_pos h4] at RS;rw [decide_eq_true h4] at d4;clear h4;go_enter Tryz.func115,Tryz.ntmps115;go_wp2
  go_end0
  rw [RS.o];exact ⟨rfl,D0.o.sets [(13,.int .i64 4)] { st0 with ah:=4 } (by simp only [nE,yK,jA,jE,iW,iR,iT]; rfl) rfl (OK.o.Br 4 (by omega))⟩
 rw [if_neg h4] at RS;rw [decide_eq_false h4] at d4;clear h4;go_enter Tryz.func115,Tryz.ntmps115;go_wp2
 go_end0
 rw [RS.o];exact ⟨rfl,D0.o⟩
theorem yhJ (B:Nat) (s:ByteArray) (b g:Nat) (st0:As.St) (W:World) (h:yl B s b g st0 W) :
  Calls Tryz.prog 119 #[.pointer (some ⟨b,0,none⟩)] W fun en W'=>en = .returned (.tuple #[])/\Does B s b g W (As.binding (sl s) st0) W':=by
 have c11:=PK h;have c1:=hid (Xm B s b g st0 1 W h);have c2:=hid (Xm B s b g st0 2 W h);clear h;have RS:=hid (show As.binding (sl s) st0=As.bind (sl s) (if st0.op.text=[46,103,108,111,98,108] then 1 else 2) st0 from rfl);generalize As.binding (sl s) st0=X at *;have d1:((bs st0.op.text).toList == [46,103,108,111,98,108])=decide (st0.op.text=[46,103,108,111,98,108]):=by rw [yA,Bool.eq_iff_iff,beq_iff_eq,decide_eq_true_iff]
 by_cases h1:st0.op.text=[46,103,108,111,98,108]
 ·rw [if_pos h1] at RS;rw [decide_eq_true h1] at d1;clear h1;go_enter Tryz.func119,Tryz.ntmps119;go_wp2_with fail;refine c1.o.mono ?_;rintro e VF ⟨rfl,hh⟩;have DF:=hid hh;clear hh;go_wp2
  (try simp only [Exit.inBlock,Exit.then]); refine bodyPost_ret (results_none rfl _ _ _) rfl ?_
  rw [RS.o];exact ⟨rfl,DF.o⟩
 ·rw [if_neg h1] at RS;rw [decide_eq_false h1] at d1;clear h1;go_enter Tryz.func119,Tryz.ntmps119;go_wp2_with fail;refine c2.o.mono ?_;rintro e VF ⟨rfl,hh⟩;have DF:=hid hh;clear hh;go_wp2
  go_end0
  rw [RS.o];exact ⟨rfl,DF.o⟩
theorem yko (B:Nat) (s:ByteArray) (b g:Nat) (st0:As.St) (W:World) (h:yl B s b g st0 W) :
  Calls Tryz.prog 116 #[.pointer (some ⟨b,0,none⟩)] W fun en W'=>en = .returned (.tuple #[])/\Does B s b g W (As.word (sl s) st0) W':=by
 have D0:=hid h.does;clear h;obtain ⟨X,hX⟩:∃ X,X=As.word (sl s) st0:=⟨_,rfl⟩
 rw [<- hX];unfold As.word at hX;dsimp only at hX;have RS:=hid hX;clear hX;go_enter Tryz.func116,Tryz.ntmps116;obtain ⟨c2,c3,c4,c5⟩:=zx D0.o.1
 cases hk:(st0.tok.kind == 1)
 ·have d:((st0.tok.kind:Int) == 1)=false:=by simp at hk ⊢; omega
  have d':((st0.tok.kind:Int) != 1)=true:=by simp at hk ⊢; omega
  rw [hk] at RS;rw [if_neg (by simp)] at RS;clear hk;go_wp2_with fail;refine (Iz B s b g st0 (-2147483648) 4294967295 _ D0.o.1).mono ?_;rintro e V1 ⟨rfl,hh⟩;have D1:=hid (D0.o.aR hh);clear hh D0 c2 c3 c4 c5;generalize As.number (sl s) (-2147483648) 4294967295 st0=R1 at *;obtain ⟨n,st1⟩:=R1;dsimp only at RS D1 ⊢;have AN:=ykA n;generalize n % 4294967296=m at *;go_wp2_with fail;refine (KE B s b g st1 _ 1 [m] _ (D1.o.alloc _).1 (IB V1 m) (by simp)).mono ?_;rintro e VF ⟨rfl,hh⟩;have DF:=hid ((D1.o.alloc _).after hh);clear hh;go_wp2
  first | go_end0 | ((try simp only [Exit.inBlock,Exit.then]); refine bodyPost_ret (results_none rfl _ _ _) rfl ?_)
  rw [RS.o];exact ⟨rfl,DF.o⟩
 ·have d:((st0.tok.kind:Int) == 1)=true:=by simp at hk ⊢; omega
  have d':((st0.tok.kind:Int) != 1)=false:=by simp at hk ⊢; omega
  rw [hk] at RS;rw [if_pos rfl] at RS;clear hk;go_wp2_with fail;refine (Qf B s b g st0 _ D0.o.1).mono ?_;rintro e V1 ⟨rfl,hh⟩;have D1:=hid (D0.o.after hh);clear hh D0 c2 c3 c4 c5;generalize As.target (sl s) st0=R1 at *;obtain ⟨⟨sym,add⟩,st1⟩:=R1;dsimp only at RS D1 ⊢;go_wp2_with fail;refine (Jk B s b g st1 1 sym add _ 1 [0] _ (D1.o.alloc _).1 (IB V1 0) (by simp)).mono ?_;rintro e VF ⟨rfl,hh⟩;have DF:=hid ((D1.o.alloc _).after hh);clear hh;go_wp2
  first | go_end0 | ((try simp only [Exit.inBlock,Exit.then]); refine bodyPost_ret (results_none rfl _ _ _) rfl ?_)
  rw [RS.o];exact ⟨rfl,DF.o⟩
theorem yjq (B:Nat) (s:ByteArray) (b g:Nat) (st0:As.St) (W:World) (h:yl B s b g st0 W) :
  Calls Tryz.prog 117 #[.pointer (some ⟨b,0,none⟩)] W fun en W'=>en = .returned (.tuple #[])/\Does B s b g W (As.space (sl s) st0) W':=by
 have D0:=hid h.does;clear h;obtain ⟨X,hX⟩:∃ X,X=As.space (sl s) st0:=⟨_,rfl⟩
 rw [<- hX];unfold As.space at hX;dsimp only at hX;have RS:=hid hX;clear hX;go_enter Tryz.func117,Tryz.ntmps117;have NB:=Ud (sl s) 0 4800 st0 (by omega) (by omega);go_wp2_with fail;refine (Iz B s b g st0 0 4800 _ D0.o.1).mono ?_;rintro e V1 ⟨rfl,hh⟩;have D1:=hid (D0.o.aR hh);clear hh D0;generalize As.number (sl s) 0 4800 st0=R1 at *;obtain ⟨n,st1⟩:=R1;dsimp only at RS D1 NB ⊢;have c10:=Ql D1.o.1;have hpos:=D1.o.1.ok.op.pos;obtain ⟨m,hm⟩:=Int.eq_ofNat_of_zero_le NB.1;subst hm;have hm0:(m:Int)<=4800:=NB.2;by_cases c:(m:Int) % 4=0
 ·rw [if_pos c] at RS;have d:((m:Int) % 4 == 0)=true:=by simp [c]
  have d':((m:Int) % 4 != 0)=false:=by simp [c]
  have em:((m:Int) / 4).toNat=m / 4:=by omega
  rw [em] at RS;have Po:=hid (show ((m:Int) / 4)=((m / 4:Nat):Int) by omega);have He:=hid (show m / 4<=4096 by omega);clear c em;go_wp2_with fail;refine (Li 0 (m / 4) _ Po.o _ He.o).mono ?_;rintro e V2 ⟨⟨ao,cap,rfl,hw⟩,hg⟩;have D2:=hid (D1.o.grown hg);have wZ:=hid hw;clear hg hw;go_wp2_with fail;refine (Qm B s b g st1 0 (m / 4) ao cap V2 D2.o.1 wZ.o He.o).mono ?_;rintro e V3 ⟨rfl,h3⟩;have D3:=hid (D2.o.after h3);clear h3;go_wp2
  go_end0
  rw [RS.o];exact ⟨rfl,D3.o⟩
 ·rw [if_neg c] at RS;have d:((m:Int) % 4 == 0)=false:=by simp [c]
  have d':((m:Int) % 4 != 0)=true:=by simp [c]
  clear c;go_wp2_with fail;refine (yM B s b g st1 8 st1.op.pos V1 D1.o.1 (by omega) hpos).mono ?_;rintro e V3 ⟨rfl,h3⟩;have D3:=hid (D1.o.aR h3);clear h3;go_wp2
  (try simp only [Exit.inBlock,Exit.then]); refine bodyPost_ret (results_none rfl _ _ _) rfl ?_
  rw [RS.o];exact ⟨rfl,D3.o⟩
theorem Xj (B:Nat) (s:ByteArray) (b g:Nat) (st:As.St) (W:World) (h:yl B s b g st W) :
  Calls Tryz.prog 100 #[.pointer (some ⟨b,0,none⟩)] W fun e W'=>e = .returned (.bool (As.gL st.ah))/\W'=W:=by
 have c:=zi h;have hs:=h.ok.ah;clear h;generalize st.ah=ah at *;rcases (show ah=1\/ah=2\/ah=3\/ah=4 by omega) with rfl | rfl | rfl | rfl
 all_goals
  go_enter Tryz.func100,Tryz.ntmps100;go_wp2;go_ret;exact ⟨rfl,rfl⟩
theorem yhG {B:Nat} {s:ByteArray} {b g:Nat} {V:World} {st:As.St} (h:yl B s b g st V) (i:Nat) (hi:i < 4):∃ vt vf vd ag cs vs vr x,qD B V b g st.obj vt vf vd (.slice (some ⟨ag,0,none⟩) 4 cs) vs vr/\V.cell? ⟨g,4,none⟩=some (.slice (some ⟨ag,0,none⟩) 4 cs) /\
  st.obj.align[i]?=some x/\V.cell? ⟨ag,i,none⟩=some (.int .i64 x)/\(∀ o,V.frozen? ⟨ag,o,none⟩=false)/\4<=cs:=by
 have h4:=h.ok.align;obtain ⟨vt,vf,vd,va,vs,vr,ho⟩:=h.own;obtain ⟨gu,cs,rfl⟩:=yi ho.align;obtain ⟨ag,cur,rfl,hb,-,-,hcs⟩:=Gh ho.align (by omega);obtain ⟨ag',off,hag,hc⟩:=yn.aF ho.align (by omega);simp only [Option.some.injEq,Addr.mk.injEq] at hag;obtain ⟨rfl,rfl,-⟩:=hag;have k:=hc i (by omega);rw [Nat.zero_add] at k;have g4:=ho.blk.cell 4;simp only [bB,yml,bf] at g4;rw [h4] at ho g4 hcs;exact ⟨vt,vf,vd,ag,cs,vs,vr,st.obj.align[i]'(by omega),ho,g4,kg (by omega),k,fun o=>hb.free o,hcs⟩
theorem Ll (B:Nat) (s:ByteArray) (b g:Nat) (st:As.St) (k:Int) (W:World) (h:yl B s b g st W) :
  Calls Tryz.prog 142 #[.pointer (some ⟨b,0,none⟩),.int .i64 k] W fun en W'=>en = .returned (.tuple #[])/\Does B s b g W (As.aC k st) W':=by
 have HW:=hid h;have c13:=zi h;have c14:=wJ h;have hs:=h.ok.ah;obtain ⟨i,hi⟩:∃ i,i+1=st.ah:=⟨st.ah - 1,by omega⟩
 have hi4:i < 4:=by omega
 obtain ⟨vt,vf,vd,ag,cs,vs,vr,x,ho,g4,hx,kx,hfz,hcs⟩:=yhG h i hi4;have fz:=hfz i;have HO:=hid ho;clear h ho hfz;have RS:=hid (show As.aC k st=if x < k then { st with obj:={ st.obj with align:=st.obj.align.set i k } } else st from by
  unfold As.aC;rw [show st.ah - 1=i by omega,hx];rfl)
 generalize As.aC k st=X at *;have e1:(st.ah:Int)=(i:Int)+1:=by omega
 rw [e1] at c13;have d1:decide ((i:Int) < 0)=false:=by simp
 have d2:decide ((4:Int)<=(i:Int))=false:=by simp; omega
 have d3:decide (4<=i)=false:=by simp; omega
 have g1:(0:Int)<=(i:Int):=by omega
 have g2:(i:Int) < 4:=by omega
 clear hs hi hx e1;by_cases c:x < k
 ·have d:decide (x < k)=true:=by simp [c]
  rw [if_pos c] at RS;have P:=hid (HW.o.does.after (HW.o.sS HO.o i hi4 k));clear c;go_enter Tryz.func142,Tryz.ntmps142;go_wp2
  go_end0
  rw [RS.o];exact ⟨rfl,P.o⟩
 ·have d:decide (x < k)=false:=by simp; omega
  rw [if_neg c] at RS;clear c;go_enter Tryz.func142,Tryz.ntmps142;go_wp2
  go_end0
  rw [RS.o];exact ⟨rfl,HW.o.does⟩
theorem yjm (s:List UInt8) (lo hi:Int) (st:As.St) (h:As.failed (As.number s lo hi st).2=false):lo<=(As.number s lo hi st).1/\(As.number s lo hi st).1<=hi:=by
 have key:∀ neg pos st,As.failed (As.aN s neg pos lo hi st).2=false->lo<=(As.aN s neg pos lo hi st).1/\(As.aN s neg pos lo hi st).1<=hi:=by
  intro neg pos st hf;unfold As.aN at hf ⊢;generalize (if neg then -(st.tok.n:Int) else (st.tok.n:Int))=x at *;split at hf
  ·rename_i hk;rw [if_pos hk];by_cases h:x < lo\/hi < x
   ·rw [if_pos h] at hf;rw [P7 _ _ _ (by omega)] at hf
    cases hf
   ·rw [if_neg h]; simp only; omega
  ·rw [P7 _ _ _ (by omega)] at hf
   cases hf
 unfold As.number at h ⊢;split at h
 ·rename_i hm; rw [if_pos hm]; exact key _ _ _ h
 ·rename_i hm; rw [if_neg hm]; exact key _ _ _ h
end Go.Proofs.YtnkkepfcpjllmaaGreatDoor
