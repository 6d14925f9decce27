
import Derived.Test.YtpgklkhgfcjceaaGreatDoorV22
set_option maxHeartbeats 16000000
set_option maxRecDepth 100000
namespace Go.Proofs.YtpgklkhgfcjceaaGreatDoor
open Go.RowKit
theorem WW (t:List UInt8):As.iV t=0\/(15<=As.iV t/\As.iV t<=19):=by
 unfold As.iV
 repeat' split
 all_goals omega
theorem ylF (t:List UInt8):As.shapeOf t<=19:=by
 have hd:=WW t;unfold As.shapeOf;by_cases h:t=[97,100,100]
 ·rw [if_pos h]; omega
 rw [if_neg h];clear h;by_cases h:t=[115,117,98]
 ·rw [if_pos h]; omega
 rw [if_neg h];clear h;by_cases h:t=[115,108,116]
 ·rw [if_pos h]; omega
 rw [if_neg h];clear h;by_cases h:t=[115,108,116,117]
 ·rw [if_pos h]; omega
 rw [if_neg h];clear h;by_cases h:t=[120,111,114]
 ·rw [if_pos h]; omega
 rw [if_neg h];clear h;by_cases h:t=[111,114]
 ·rw [if_pos h]; omega
 rw [if_neg h];clear h;by_cases h:t=[97,110,100]
 ·rw [if_pos h]; omega
 rw [if_neg h];clear h;by_cases h:t=[97,100,100,105]
 ·rw [if_pos h]; omega
 rw [if_neg h];clear h;by_cases h:t=[115,108,116,105]
 ·rw [if_pos h]; omega
 rw [if_neg h];clear h;by_cases h:t=[120,111,114,105]
 ·rw [if_pos h]; omega
 rw [if_neg h];clear h;by_cases h:t=[111,114,105]
 ·rw [if_pos h]; omega
 rw [if_neg h];clear h;by_cases h:t=[97,110,100,105]
 ·rw [if_pos h]; omega
 rw [if_neg h];clear h;by_cases h:t=[108,117,105]
 ·rw [if_pos h]; omega
 rw [if_neg h];clear h;by_cases h:t=[108,119]
 ·rw [if_pos h]; omega
 rw [if_neg h];clear h;by_cases h:t=[115,119]
 ·rw [if_pos h]; omega
 rw [if_neg h];clear h;by_cases h:t=[106,97,108,114]
 ·rw [if_pos h]; omega
 rw [if_neg h];clear h;by_cases h:t=[101,99,97,108,108]
 ·rw [if_pos h]; omega
 rw [if_neg h];clear h;by_cases h:t=[114,101,116]
 ·rw [if_pos h]; omega
 rw [if_neg h];clear h;by_cases h:t=[110,111,112]
 ·rw [if_pos h]; omega
 rw [if_neg h];clear h;by_cases h:t=[98,101,113]
 ·rw [if_pos h]; omega
 rw [if_neg h];clear h;by_cases h:t=[98,110,101]
 ·rw [if_pos h]; omega
 rw [if_neg h];clear h;by_cases h:t=[98,108,116]
 ·rw [if_pos h]; omega
 rw [if_neg h];clear h;by_cases h:t=[98,103,101]
 ·rw [if_pos h]; omega
 rw [if_neg h];clear h;by_cases h:t=[98,108,116,117]
 ·rw [if_pos h]; omega
 rw [if_neg h];clear h;by_cases h:t=[98,103,101,117]
 ·rw [if_pos h]; omega
 rw [if_neg h];clear h;by_cases h:t=[106,97,108]
 ·rw [if_pos h]; omega
 rw [if_neg h];clear h;by_cases h:t=[106]
 ·rw [if_pos h]; omega
 rw [if_neg h];clear h;by_cases h:t=[109,118]
 ·rw [if_pos h]; omega
 rw [if_neg h];clear h;by_cases h:t=[108,105]
 ·rw [if_pos h]; omega
 rw [if_neg h];clear h;by_cases h:t=[99,97,108,108]
 ·rw [if_pos h]; omega
 rw [if_neg h];clear h;by_cases h:t=[116,97,105,108]
 ·rw [if_pos h]; omega
 rw [if_neg h];clear h;by_cases h:t=[108,97]
 ·rw [if_pos h]; omega
 rw [if_neg h];clear h;omega
theorem ylE (t:List UInt8) (hh:As.shapeOf t=1\/As.shapeOf t=2\/As.shapeOf t=8):1<=As.named t/\As.named t<=25:=by
 have hd:=WW t;generalize hx:As.shapeOf t=x at *;unfold As.shapeOf at hx;by_cases h:t=[97,100,100]
 ·subst h; decide
 rw [if_neg h] at hx;clear h;by_cases h:t=[115,117,98]
 ·subst h; decide
 rw [if_neg h] at hx;clear h;by_cases h:t=[115,108,116]
 ·subst h; decide
 rw [if_neg h] at hx;clear h;by_cases h:t=[115,108,116,117]
 ·subst h; decide
 rw [if_neg h] at hx;clear h;by_cases h:t=[120,111,114]
 ·subst h; decide
 rw [if_neg h] at hx;clear h;by_cases h:t=[111,114]
 ·subst h; decide
 rw [if_neg h] at hx;clear h;by_cases h:t=[97,110,100]
 ·subst h; decide
 rw [if_neg h] at hx;clear h;by_cases h:t=[97,100,100,105]
 ·subst h; decide
 rw [if_neg h] at hx;clear h;by_cases h:t=[115,108,116,105]
 ·subst h; decide
 rw [if_neg h] at hx;clear h;by_cases h:t=[120,111,114,105]
 ·subst h; decide
 rw [if_neg h] at hx;clear h;by_cases h:t=[111,114,105]
 ·subst h; decide
 rw [if_neg h] at hx;clear h;by_cases h:t=[97,110,100,105]
 ·subst h; decide
 rw [if_neg h] at hx;clear h;by_cases h:t=[108,117,105]
 ·rw [if_pos h] at hx; omega
 rw [if_neg h] at hx;clear h;by_cases h:t=[108,119]
 ·rw [if_pos h] at hx; omega
 rw [if_neg h] at hx;clear h;by_cases h:t=[115,119]
 ·rw [if_pos h] at hx; omega
 rw [if_neg h] at hx;clear h;by_cases h:t=[106,97,108,114]
 ·rw [if_pos h] at hx; omega
 rw [if_neg h] at hx;clear h;by_cases h:t=[101,99,97,108,108]
 ·rw [if_pos h] at hx; omega
 rw [if_neg h] at hx;clear h;by_cases h:t=[114,101,116]
 ·rw [if_pos h] at hx; omega
 rw [if_neg h] at hx;clear h;by_cases h:t=[110,111,112]
 ·rw [if_pos h] at hx; omega
 rw [if_neg h] at hx;clear h;by_cases h:t=[98,101,113]
 ·subst h; decide
 rw [if_neg h] at hx;clear h;by_cases h:t=[98,110,101]
 ·subst h; decide
 rw [if_neg h] at hx;clear h;by_cases h:t=[98,108,116]
 ·subst h; decide
 rw [if_neg h] at hx;clear h;by_cases h:t=[98,103,101]
 ·subst h; decide
 rw [if_neg h] at hx;clear h;by_cases h:t=[98,108,116,117]
 ·subst h; decide
 rw [if_neg h] at hx;clear h;by_cases h:t=[98,103,101,117]
 ·subst h; decide
 rw [if_neg h] at hx;clear h;by_cases h:t=[106,97,108]
 ·rw [if_pos h] at hx; omega
 rw [if_neg h] at hx;clear h;by_cases h:t=[106]
 ·rw [if_pos h] at hx; omega
 rw [if_neg h] at hx;clear h;by_cases h:t=[109,118]
 ·rw [if_pos h] at hx; omega
 rw [if_neg h] at hx;clear h;by_cases h:t=[108,105]
 ·rw [if_pos h] at hx; omega
 rw [if_neg h] at hx;clear h;by_cases h:t=[99,97,108,108]
 ·rw [if_pos h] at hx; omega
 rw [if_neg h] at hx;clear h;by_cases h:t=[116,97,105,108]
 ·rw [if_pos h] at hx; omega
 rw [if_neg h] at hx;clear h;by_cases h:t=[108,97]
 ·rw [if_pos h] at hx; omega
 rw [if_neg h] at hx;clear h;omega
theorem jE.op' {s:ByteArray} {st:As.St} (h:jE s st) (t:As.Tok) (ht:xL t):jE s { st with op:=t } :=
 ⟨h.size,h.p,h.tok,h.fe,h.fa,ht,h.ah,h.text,h.far,h.data,h.bss,h.align,h.syms,h.aj⟩
theorem XA (B:Nat) (s:ByteArray) (b g:Nat) (st:As.St) (t:As.Tok) (W:World) (h:yl B s b g st W) (ht:xL t) (hN:nI W) :
  Calls Tryz.prog 53 #[.pointer (some ⟨b,0,none⟩),fV t] W fun en W'=>en = .returned (.tuple #[])/\Does B s b g W (As.operation (sl s) t st) W':=by
 have HW:=hid h;have HN:=hid hN;have HT:=hid ht;have L0:=hid ((Loc.begin h).alloc (yT t) 64);have hbl:=h.blk.lt;clear h ht hN;have RS:=hid (show As.operation (sl s) t st=if As.shapeOf t.text=0 then As.refuse 6 t.pos st else if !As.iE (As.shapeOf t.text) st.ah then As.refuse 9 t.pos st else if As.shapeOf t.text<=14 then As.instruction (sl s) (As.shapeOf t.text) (As.named t.text) { st with op:=t } else As.directive (sl s) (As.shapeOf t.text) { st with op:=t } from rfl);have cS:=hid (fun V=>ylD t.text V);have MG:=ylF t.text;have SN:=hid (ylE t.text);generalize As.operation (sl s) t st=X at *;generalize As.shapeOf t.text=shape at *
 unfold fV;go_enter Tryz.func53,Tryz.ntmps53;go_wp2_with fail;refine Calls.aL (Loc B s b g W [(W.heap.size,yT t,64)] st) L0.o ?_;clear L0;generalize hr:W.heap.size=r at *;clear hr;intro V hV;have L:=hid hV;clear hV;refine (cS.o V).mono ?_;rintro e w1 ⟨rfl,rfl⟩;clear cS;obtain ⟨m0,m1,m2,m3⟩:=(⟨L.o.d,L.o.l (r,yT t,64) (by simp)⟩:lJ B s b g W r t st w1).cells;have D:=hid (L.o.d.does HW.o);by_cases h0:shape=0
 ·have d:((shape:Int) == 0)=true:=by simp; omega
  rw [if_pos h0] at RS;clear h0;go_wp2_with fail;refine (yK B s b g st 6 t.pos w1 D.o.1 (by omega) HT.o.pos).mono ?_;rintro e V3 ⟨rfl,h3⟩;have D3:=hid (D.o.aN h3);clear h3;go_wp2
  (try simp only [Exit.inBlock,Exit.then]); refine bodyPost_ret (results_none rfl _ _ _) rfl ?_
  rw [RS.o];exact ⟨rfl,D3.o⟩
 have d:((shape:Int) == 0)=false:=by simp; omega
 rw [if_neg h0] at RS;go_wp2_with fail;refine (yjX B s b g st shape w1 D.o.1 (by omega) MG).mono ?_;rintro e w2 ⟨rfl,rfl⟩
 cases hm:As.iE shape st.ah
 ·rw [hm,if_pos (show (!false)=true from rfl)] at RS;clear hm;go_wp2_with fail;refine (yK B s b g st 9 t.pos w2 D.o.1 (by omega) HT.o.pos).mono ?_;rintro e V3 ⟨rfl,h3⟩;have D3:=hid (D.o.aN h3);clear h3;go_wp2
  (try simp only [Exit.inBlock,Exit.then]); refine bodyPost_ret (results_none rfl _ _ _) rfl ?_
  rw [RS.o];exact ⟨rfl,D3.o⟩
 rw [hm,if_neg (by simp)] at RS;clear hm;have k9:=D.o.1.blk.free 9;have k10:=D.o.1.blk.free 10;have k11:=D.o.1.blk.free 11;have k12:=D.o.1.blk.free 12;have c9:=yL D.o.1 9;have c10:=yL D.o.1 10;have c11:=yL D.o.1 11;have c12:=yL D.o.1 12;simp only [yE,bI,bN,bK] at c9 c10 c11 c12;have hrb:r≠b:=(⟨L.o.d,L.o.l (r,yT t,64) (by simp)⟩:lJ B s b g W r t st w2).ne;have hbr:b≠r:=fun e=>hrb e.symm
 have P:=hid (L.o.d.sets [(9,.int .i64 t.kind),(10,.int .i64 t.pos),(11,.string (bs t.text)),(12,.int .i64 t.n)] { st with op:=t }
  (by simp only [uy,yE,lu,lW,gu,fZ,gq]) rfl (D.o.1.ok.op' t HT.o))
 by_cases vY:shape<=14
 ·have d2:decide ((shape:Int)<=14)=true:=by simp; omega
  rw [if_pos vY] at RS;have cI:=hid (fun V hV=>ygX B s b g { st with op:=t } shape (As.named t.text) V hV (by omega) vY SN.o);have cN:=hid (fun V (hV:nI V)=>yhP t.text V hV);clear vY;go_wp2_with fail;have PD:=hid (P.o.does HW.o);refine (cN.o _ (HN.o.below PD.o.2.1 PD.o.1.lo.1)).mono ?_;rintro e w3 ⟨rfl,hw3⟩;have Vx:Hd (Does B s b g W { st with op:=t } w3):=by rw [hw3]; exact PD.o
  clear hw3 PD cN m0 m1 m2 m3 c9 c10 c11 c12 k9 k10 k11 k12;go_wp2_with fail;refine (cI.o w3 Vx.o.1).mono ?_;rintro e VF ⟨rfl,hh⟩;have DF:=hid (Vx.o.after hh);clear hh;go_wp2
  first | go_end0 | ((try simp only [Exit.inBlock,Exit.then]); refine bodyPost_ret (results_none rfl _ _ _) rfl ?_)
  rw [RS.o];exact ⟨rfl,DF.o⟩
 ·have d2:decide ((shape:Int)<=14)=false:=by simp; omega
  rw [if_neg vY] at RS;have cI:=hid (fun V hV=>yiF B s b g { st with op:=t } shape V hV (by omega) MG);clear vY;go_wp2_with fail;have PD:=hid (P.o.does HW.o);refine (cI.o _ PD.o.1).mono ?_;rintro e VF ⟨rfl,hh⟩;have DF:=hid (PD.o.after hh);clear hh;go_wp2
  first | go_end0 | ((try simp only [Exit.inBlock,Exit.then]); refine bodyPost_ret (results_none rfl _ _ _) rfl ?_)
  rw [RS.o];exact ⟨rfl,DF.o⟩
structure lI (B:Nat) (s:ByteArray) (b g:Nat) (W:World) (r:Nat) (t:As.Tok) (st:As.St) (V:World):Prop where
 d:Does B s b g W st V
 l:yc V r (yT t) 64
 new:W.heap.size<=r
 lt:B<=W.heap.size
section
variable {B:Nat} {s:ByteArray} {b g r:Nat} {W V V':World} {t:As.Tok} {st st':As.St}
theorem lI.step (h:lI B s b g W r t st V) (k:Does B s b g V st' V'):lI B s b g W r t st' V' :=
 ⟨h.d.after k,k.2.2 r _ _ (by decide) (by decide) (by decide) (by decide) (by decide) h.l,h.new,h.lt⟩
theorem lI.Hl (h:lI B s b g W r t st V) (k:yS B s b g V st' V'):lI B s b g W r t st' V':=h.step (k.does h.d.1)
theorem lI.grown (h:lI B s b g W r t st V) (k:V.grownBy V' none):lI B s b g W r t st V':=⟨h.d.grown k,h.l.grown k (by simp),h.new,h.lt⟩
theorem lI.begin (h:Does B s b g W st V) (hB:B<=W.heap.size) (t:As.Tok):lI B s b g W V.heap.size t st (V.alloc (.cells (yT t) 64)) :=
 ⟨h.alloc _,yc.new V _ _,h.2.1.size,hB⟩
theorem lI.put (h:lI B s b g W r t st V) (t':As.Tok):lI B s b g W r t' st (sets V r [(0,.int .i64 t'.kind),(1,.int .i64 t'.pos),(2,.string (bs t'.text)),(3,.int .i64 t'.n)]) :=
 ⟨h.d.local h.l (by unfold uO; decide) h.lt h.new _,by
  have:=D8 [(0,.int .i64 t'.kind),(1,.int .i64 t'.pos),(2,.string (bs t'.text)),(3,.int .i64 t'.n)] h.l
  simpa only [yT,uy,lu,lW,gu,fZ,gq] using this,h.new,h.lt⟩
theorem lI.cells (h:lI B s b g W r t st V):V.cell? ⟨r,0,none⟩=some (.int .i64 t.kind)/\V.cell? ⟨r,1,none⟩=some (.int .i64 t.pos)/\V.cell? ⟨r,2,none⟩=some (.string (bs t.text))/\V.cell? ⟨r,3,none⟩=some (.int .i64 t.n):=by
 have c0:=h.l.cell 0;have c1:=h.l.cell 1;have c2:=h.l.cell 2;have c3:=h.l.cell 3;simp only [yT,bI,bN,bK] at c0 c1 c2 c3;exact ⟨c0,c1,c2,c3⟩
end
theorem Xq (s:List UInt8) (st:As.St) (h:xL st.tok):xL (As.bU s st).1:=by
 unfold As.bU;split
 ·exact h
 ·exact KN
def HY (st:As.St):As.St:=if st.tok.kind == 4 then st else As.refuse 3 st.tok.pos st
theorem Yx (s:List UInt8) (t:As.Tok) (st:As.St) (h:(t.kind == 1)=false):As.gZ s t st=HY st:=by unfold As.gZ HY; rw [h]; rfl
theorem Yd (s:List UInt8) (t:As.Tok) (st:As.St) (h:(t.kind == 1)=true):As.gZ s t st=HY (As.operation s t st):=by unfold As.gZ HY; rw [h]; rfl
theorem O6 (st:As.St) (h:(st.tok.kind == 4)=false):HY st=As.refuse 3 st.tok.pos st:=by unfold HY; rw [h]; rfl
theorem Pm (st:As.St) (h:(st.tok.kind == 4)=true):HY st=st:=by unfold HY; rw [h]; rfl
theorem ypm (B:Nat) (s:ByteArray) (b g:Nat) (st:As.St) (W:World) (h:yl B s b g st W) (hN:nI W) :
  Calls Tryz.prog 31 #[.pointer (some ⟨b,0,none⟩)] W fun en W'=>en = .returned (.tuple #[])/\Does B s b g W (As.line (sl s) st) W':=by
 have HW:=hid h;have HN:=hid hN;have cA:=hid (Dq B s b g st W h);have HB:=hid h.size;clear h hN;obtain ⟨X,hX⟩:∃ X,X=As.line (sl s) st:=⟨_,rfl⟩
 rw [<- hX];unfold As.line at hX;dsimp only at hX;have RS:=hid hX;clear hX;go_enter Tryz.func31,Tryz.ntmps31;go_wp2_with fail;refine cA.o.mono ?_;rintro e V1 ⟨rfl,h1⟩;have D1:=hid (h1.does HW.o);clear h1 cA;generalize As.advance (sl s) st=st1 at *;have TW:=hid (Xq (sl s) st1 D1.o.1.ok.tok);go_wp2_with fail;refine (Xp B s b g st1 V1 D1.o.1).mono ?_;rintro e V2 ⟨rfl,h2⟩;have D2:=hid (D1.o.aN h2);clear h2 D1;generalize As.bU (sl s) st1=R at *;obtain ⟨t,st2⟩:=R;dsimp only at RS D2 TW ⊢;have L0:=hid (lI.begin D2.o HB.o t);have hbl:b < V2.heap.size:=D2.o.1.blk.lt;have hbn:b≠V2.heap.size:=by omega
 obtain ⟨c2,c3,c4,c5⟩:=wm D2.o.1;clear D2;unfold fV
 cases hk:(t.kind == 1)
 ·have d:((t.kind:Int) == 1)=false:=by simp at hk ⊢; omega
  rw [hk,Bool.false_and,if_neg (by simp)] at RS;rw [Yx _ _ _ hk] at RS;clear hk;have hpos:=L0.o.d.1.ok.tok.pos
  cases h4:(st2.tok.kind == 4)
  ·have e1:((st2.tok.kind:Int) == 4)=false:=by simp at h4 ⊢; omega
   have e2:((st2.tok.kind:Int) != 4)=true:=by simp at h4 ⊢; omega
   rw [O6 _ h4] at RS;clear h4;go_wp2_with fail;refine (yK B s b g st2 3 st2.tok.pos _ L0.o.d.1 (by omega) hpos).mono ?_;rintro e VF ⟨rfl,hh⟩;have DF:=hid (L0.o.d.aN hh);clear hh;go_wp2
   go_end0
   rw [RS.o];exact ⟨rfl,DF.o⟩
  ·have e1:((st2.tok.kind:Int) == 4)=true:=by simp at h4 ⊢; omega
   have e2:((st2.tok.kind:Int) != 4)=false:=by simp at h4 ⊢; omega
   rw [Pm _ h4] at RS;clear h4;go_wp2
   go_end0
   rw [RS.o];exact ⟨rfl,L0.o.d⟩
 ·have d:((t.kind:Int) == 1)=true:=by simp at hk ⊢; omega
  rw [hk,Bool.true_and] at RS;have HK:=hid hk;clear hk;go_wp2_with fail;refine (Nr st2.tok [58] _).mono ?_;rintro e V3 ⟨rfl,hg⟩;have L1:=hid (L0.o.grown hg);clear hg L0 c2 c3 c4 c5;generalize V2.heap.size=r at *;obtain ⟨m0,m1,m2,m3⟩:=L1.o.cells
  cases hc:st2.tok.is [58]
  ·rw [hc,if_neg (by simp)] at RS;rw [Yd _ _ _ HK.o] at RS;clear hc;go_wp2_with fail;refine (XA B s b g st2 t _ L1.o.d.1 TW.o (HN.o.below L1.o.d.2.1 L1.o.d.1.lo.1)).mono ?_;rintro e V7 ⟨rfl,hh⟩;have L7:=hid (L1.o.step hh);clear hh;generalize As.operation (sl s) t st2=xG at *;clear m0 m1 m2 m3;obtain ⟨b2,b3,b4,b5⟩:=wm L7.o.d.1;have hpos:=L7.o.d.1.ok.tok.pos
   cases h4:(xG.tok.kind == 4)
   ·have e1:((xG.tok.kind:Int) == 4)=false:=by simp at h4 ⊢; omega
    have e2:((xG.tok.kind:Int) != 4)=true:=by simp at h4 ⊢; omega
    rw [O6 _ h4] at RS;clear h4;go_wp2_with fail;refine (yK B s b g xG 3 xG.tok.pos _ L7.o.d.1 (by omega) hpos).mono ?_;rintro e VF ⟨rfl,hh⟩;have DF:=hid (L7.o.d.aN hh);clear hh;go_wp2
    go_end0
    rw [RS.o];exact ⟨rfl,DF.o⟩
   ·have e1:((xG.tok.kind:Int) == 4)=true:=by simp at h4 ⊢; omega
    have e2:((xG.tok.kind:Int) != 4)=false:=by simp at h4 ⊢; omega
    rw [Pm _ h4] at RS;clear h4;go_wp2
    go_end0
    rw [RS.o];exact ⟨rfl,L7.o.d⟩
  ·rw [hc,if_pos rfl] at RS;clear hc;go_wp2_with fail;refine (ynZ B s b g st2 t V3 L1.o.d.1 TW.o).mono ?_;rintro e V4 ⟨rfl,h4⟩;have L2:=hid (L1.o.step h4);clear h4 L1 m0 m1 m2 m3 TW HK;generalize As.label t st2=iU at *;go_wp2_with fail;refine (Dq B s b g iU V4 L2.o.d.1).mono ?_;rintro e V5 ⟨rfl,h5⟩;have L3:=hid (L2.o.Hl h5);clear h5 L2;generalize As.advance (sl s) iU=rM at *;have TW:=hid (Xq (sl s) rM L3.o.d.1.ok.tok);go_wp2_with fail;refine (Xp B s b g rM V5 L3.o.d.1).mono ?_;rintro e V6 ⟨rfl,h6⟩;have L4:=hid (L3.o.Hl h6);clear h6 L3;generalize As.bU (sl s) rM=R6 at *;obtain ⟨t6,Df⟩:=R6;dsimp only at RS L4 TW ⊢
   unfold fV;have L5:=hid (L4.o.put t6);have v0:=L4.o.l.free 0;have v1:=L4.o.l.free 1;have v2:=L4.o.l.free 2;have v3:=L4.o.l.free 3;obtain ⟨m0,m1,m2,m3⟩:=L4.o.cells;obtain ⟨b2,b3,b4,b5⟩:=wm L4.o.d.1;have hrb:r≠b:=by
    intro e;have h1:=L4.o.l;rw [e] at h1
    have:=h1.symm.trans L4.o.d.1.blk
    simp [yT,yE] at this
   have hbr:b≠r:=fun e=>hrb e.symm
   clear L4 d
   cases hk:(t6.kind == 1)
   ·have d:((t6.kind:Int) == 1)=false:=by simp at hk ⊢; omega
    rw [Yx _ _ _ hk] at RS;clear hk;have hpos:=L5.o.d.1.ok.tok.pos
    cases h4:(Df.tok.kind == 4)
    ·have e1:((Df.tok.kind:Int) == 4)=false:=by simp at h4 ⊢; omega
     have e2:((Df.tok.kind:Int) != 4)=true:=by simp at h4 ⊢; omega
     rw [O6 _ h4] at RS;clear h4;go_wp2_with fail;refine (yK B s b g Df 3 Df.tok.pos _ L5.o.d.1 (by omega) hpos).mono ?_;rintro e VF ⟨rfl,hh⟩;have DF:=hid (L5.o.d.aN hh);clear hh;go_wp2
     go_end0
     rw [RS.o];exact ⟨rfl,DF.o⟩
    ·have e1:((Df.tok.kind:Int) == 4)=true:=by simp at h4 ⊢; omega
     have e2:((Df.tok.kind:Int) != 4)=false:=by simp at h4 ⊢; omega
     rw [Pm _ h4] at RS;clear h4;go_wp2
     go_end0
     rw [RS.o];exact ⟨rfl,L5.o.d⟩
   ·have d:((t6.kind:Int) == 1)=true:=by simp at hk ⊢; omega
    rw [Yd _ _ _ hk] at RS;clear hk;go_wp2_with fail;refine (XA B s b g Df t6 _ L5.o.d.1 TW.o (HN.o.below L5.o.d.2.1 L5.o.d.1.lo.1)).mono ?_;rintro e V7 ⟨rfl,hh⟩;have L7:=hid (L5.o.step hh);clear hh;generalize As.operation (sl s) t6 Df=xG at *;clear m0 m1 m2 m3 v0 v1 v2 v3 b2 b3 b4 b5;obtain ⟨b2,b3,b4,b5⟩:=wm L7.o.d.1;have hpos:=L7.o.d.1.ok.tok.pos
    cases h4:(xG.tok.kind == 4)
    ·have e1:((xG.tok.kind:Int) == 4)=false:=by simp at h4 ⊢; omega
     have e2:((xG.tok.kind:Int) != 4)=true:=by simp at h4 ⊢; omega
     rw [O6 _ h4] at RS;clear h4;go_wp2_with fail;refine (yK B s b g xG 3 xG.tok.pos _ L7.o.d.1 (by omega) hpos).mono ?_;rintro e VF ⟨rfl,hh⟩;have DF:=hid (L7.o.d.aN hh);clear hh;go_wp2
     go_end0
     rw [RS.o];exact ⟨rfl,DF.o⟩
    ·have e1:((xG.tok.kind:Int) == 4)=true:=by simp at h4 ⊢; omega
     have e2:((xG.tok.kind:Int) != 4)=false:=by simp at h4 ⊢; omega
     rw [Pm _ h4] at RS;clear h4;go_wp2
     go_end0
     rw [RS.o];exact ⟨rfl,L7.o.d⟩
def Dv (y:Lk.Sym):Lk.Sym:=if y.ah=0/\y.bind=0 then ⟨y.name,1,y.ah,y.off⟩ else y
theorem yjs (ys:List Lk.Sym):As.kF ys=ys.map Dv:=rfl
def wh (ys:List Lk.Sym) (k:Nat):List Lk.Sym:=(ys.take k).map Dv ++ ys.drop k
theorem Xl (ys:List Lk.Sym) (k:Nat):(wh ys k).length=ys.length:=by simp [wh]; omega
theorem Yz (ys:List Lk.Sym) (k:Nat) (h:k < ys.length):(wh ys k)[k]'(by rw [Xl]; exact h)=ys[k]:=by
 unfold wh;rw [List.getElem_append_right (by simp; omega)];simp [List.length_take,Nat.min_eq_left (Nat.le_of_lt h)]
theorem Ye (ys:List Lk.Sym) (k:Nat) (h:k < ys.length):wh ys (k+1)=(wh ys k).set k (Dv ys[k]):=by
 unfold wh;rw [List.take_succ_eq_append_getElem h,List.map_append,List.set_append_right _ _ (by simp; omega),lV h];have e:k - ((ys.take k).map Dv).length=0:=by simp; omega
 rw [e,gq];simp
theorem yoo (ys:List Lk.Sym):wh ys ys.length=As.kF ys:=by rw [yjs]; simp [wh]
theorem ymY (ys:List Lk.Sym) (k:Nat) (h:k < ys.length) (hb:Dv ys[k]=ys[k]):wh ys (k+1)=wh ys k:=by
 rw [Ye ys k h,hb]
 conv=>lhs; rw [<- Yz ys k h]
 exact List.set_getElem_self _
def KX (st:As.St) (ys:List Lk.Sym):As.St:={ st with obj:={ st.obj with syms:=ys } }
theorem yjr (B:Nat) (s:ByteArray) (b g:Nat) (st:As.St) (W:World) (h:yl B s b g st W) :
  Calls Tryz.prog 34 #[.pointer (some ⟨b,0,none⟩)] W fun en W'=>en = .returned (.tuple #[])/\Does B s b g W (KX st (As.kF st.obj.syms)) W':=by
 have HW:=hid h;have c14:=uq h;obtain ⟨vt,vf,vd,va,vs,vr,ho⟩:=h.own;obtain ⟨gy,cs,rfl⟩:=yi ho.syms;have g5:=ho.blk.cell 5;simp only [bI,bN,bK] at g5;have hn16:=h.ok.syms;clear ho h;generalize hys:st.obj.syms=ys at *;have ST0:=hid (show KX st (wh ys 0)=st by unfold KX wh; rw [<- hys]; simp);clear hys;go_enter Tryz.func34,Tryz.ntmps34;go_wp2;clear c14 g5
 go_loopw [11] (fun i wr=>∃ k:Nat,k<=ys.length/\i = .int .i64 k/\Does B s b g W (KX st (wh ys k)) wr) (fun i _=>ys.length - (intOf i).toNat)
 case atStart=>exact ⟨0,Nat.zero_le _,rfl,by rw [ST0.o]; exact HW.o.does⟩
 case round =>
  obtain ⟨k,hk,rfl,hd⟩:=hrel;have D:=hid hd;clear hd;by_cases hlt:k < ys.length
  ·have hlt':(k:Int) < (ys.length:Int):=by omega
   have hl:(KX st (wh ys k)).obj.syms.length=ys.length:=Xl ys k;obtain ⟨vt,vf,vd,va,sg,cs,vr,ho,g5,k1,k2,k3,hfz,n1,n2⟩:=Qa D.o.1 k (by rw [hl]; exact hlt);have e0:(KX st (wh ys k)).obj.syms[k]'(by rw [hl]; exact hlt)=ys[k]:=Yz ys k hlt;rw [e0] at k1 k2 k3;have hcap:=qU ho.syms;have HO:=hid ho;have c14:=uq D.o.1;have f1:=hfz (k * 4+1);have P:=hid (fun hj:ig (Dv ys[k])=(ig ys[k]).set 1 (.int .i64 1)=>D.o.after (D.o.1.tV HO.o k 1 (by rw [hl]; exact hlt) (by omega) (.int .i64 1) (Dv ys[k]) (by rw [e0]; exact hj)));rw [hl] at g5 hcap;clear ho hfz;have MS:=hid (Ye ys k hlt);have MM:=hid (ymY ys k hlt)
   have BO:=hid (show Dv ys[k]=if ys[k].ah=0/\ys[k].bind=0 then ⟨ys[k].name,1,ys[k].ah,ys[k].off⟩ else ys[k] from rfl);have gg1:(0:Int)<=(k:Int):=by omega
   clear e0 HO hl;by_cases z1:ys[k].ah=0
   ·have d1:(ys[k].ah == 0)=true:=by simp [z1]
    by_cases z2:ys[k].bind=0
    ·have d2:(ys[k].bind == 0)=true:=by simp [z2]
     have B1:=hid (show Dv ys[k]=⟨ys[k].name,1,ys[k].ah,ys[k].off⟩ by rw [BO.o,if_pos ⟨z1,z2⟩]);have F:=hid (P.o (by rw [B1.o]; rfl));clear z1 z2 P;go_wp2
     go_roundw
     case rel=>exact ⟨k+1,by omega,by go_num,by rw [MS.o]; exact F.o⟩
     case measure=>simp [intOf]; omega
    ·have d2:(ys[k].bind == 0)=false:=by simp [z2]
     have B1:=hid (show Dv ys[k]=ys[k] by rw [BO.o,if_neg (fun c=>z2 c.2)]);clear z1 z2 P;go_wp2
     go_roundw
     case rel=>exact ⟨k+1,by omega,by go_num,by rw [MM.o B1.o]; exact D.o⟩
     case measure=>simp [intOf]; omega
   ·have d1:(ys[k].ah == 0)=false:=by simp [z1]
    have B1:=hid (show Dv ys[k]=ys[k] by rw [BO.o,if_neg (fun c=>z1 c.1)]);clear z1 P;go_wp2
    go_roundw
    case rel=>exact ⟨k+1,by omega,by go_num,by rw [MM.o B1.o]; exact D.o⟩
    case measure=>simp [intOf]; omega
  ·obtain rfl:k=ys.length:=by omega
   go_wp2
   go_end0
   rw [<- yoo];exact ⟨rfl,D.o⟩
def uI (rs:List Lk.Rel):Nat->List Lk.Rel
 | 0=>[]
 | c+1=>uI rs c ++ rs.filter (fun r=>r.ah=((c+1:Nat):Int))
def y9 (rs:List Lk.Rel) (c k:Nat):List Lk.Rel:=uI rs c ++ (rs.take k).filter (fun r=>r.ah=((c+1:Nat):Int))
theorem ykq (rs:List Lk.Rel) (c:Nat):y9 rs c rs.length=uI rs (c+1):=by unfold y9; rw [List.take_length]; rfl
theorem yiT (rs:List Lk.Rel) (c:Nat):y9 rs c 0=uI rs c:=by simp [y9]
theorem ykr (rs:List Lk.Rel) (c k:Nat) (h:k < rs.length) (he:rs[k].ah=((c+1:Nat):Int)):y9 rs c (k+1)=y9 rs c k ++ [rs[k]]:=by
 unfold y9;rw [List.take_succ_eq_append_getElem h,List.filter_append,List.append_assoc]
 congr 1
 rw [List.filter_cons_of_pos (by simpa using he)];rfl
theorem ylv (rs:List Lk.Rel) (c k:Nat) (h:k < rs.length) (he:¬ rs[k].ah=((c+1:Nat):Int)):y9 rs c (k+1)=y9 rs c k:=by
 unfold y9;rw [List.take_succ_eq_append_getElem h,List.filter_append]
 congr 1
 rw [List.filter_cons_of_neg (by simpa using he)];simp
theorem WZ (rs:List Lk.Rel):uI rs 3=As.gV rs:=by
 simp only [uI,As.gV,List.nil_append];rfl
theorem Y1 (rs:List Lk.Rel):(As.gV rs).length<=rs.length:=by
 unfold As.gV
 induction rs with
 | nil=>simp
 | cons r rs ih =>
  simp only [eZ,jm] at ih ⊢;rcases (show r.ah=1\/r.ah=2\/r.ah=3\/¬ (r.ah=1\/r.ah=2\/r.ah=3) by omega) with h | h | h | h
  ·rw [List.filter_cons_of_pos (by simp [h]),List.filter_cons_of_neg (by simp [h]),List.filter_cons_of_neg (by simp [h])]; simp only [jm]; omega
  ·rw [List.filter_cons_of_neg (by simp [h]),List.filter_cons_of_pos (by simp [h]),List.filter_cons_of_neg (by simp [h])]; simp only [jm]; omega
  ·rw [List.filter_cons_of_neg (by simp [h]),List.filter_cons_of_neg (by simp [h]),List.filter_cons_of_pos (by simp [h])]; simp only [jm]; omega
  ·rw [List.filter_cons_of_neg (by simp; omega),List.filter_cons_of_neg (by simp; omega),List.filter_cons_of_neg (by simp; omega)]; omega
theorem yqD (rs:List Lk.Rel) (c:Nat):(uI rs c).length<=c * rs.length:=by
 induction c with
 | zero=>simp [uI]
 | succ c ih =>
  have h:=List.length_filter_le (fun r:Lk.Rel=>decide (r.ah=((c+1:Nat):Int))) rs;simp only [uI,eZ];rw [Nat.succ_mul];omega
theorem yqU (rs:List Lk.Rel) (c k:Nat) (hc:c<=2) (hr:rs.length<=32):(y9 rs c k).length<=96:=by
 have h1:=yqD rs c;have h2:=List.length_filter_le (fun r:Lk.Rel=>decide (r.ah=((c+1:Nat):Int))) (rs.take k);have h3:(rs.take k).length<=32:=by rw [List.length_take]; omega
 have h4:c * rs.length<=2 * 32:=Nat.mul_le_mul hc hr;unfold y9;rw [eZ];omega
def ypY (st:As.St) (rs:List Lk.Rel):As.St:={ st with obj:={ st.obj with aj:=rs } }
theorem yhg (B:Nat) (s:ByteArray) (b g:Nat) (st:As.St) (W:World) (h:yl B s b g st W) :
  Calls Tryz.prog 35 #[.pointer (some ⟨b,0,none⟩)] W fun en W'=>en = .returned (.tuple #[])/\Does B s b g W (ypY st (As.gV st.obj.aj)) W':=by
 obtain ⟨i2,hi2,hx0,hx1,hx2⟩:=info_parts Tryz.sZ;have HW:=hid h;have c14:=uq h;obtain ⟨vt,vf,vd,va,vs,vr,ho⟩:=h.own;obtain ⟨ar,cr,rfl⟩:=yi ho.aj;have HO:=hid ho;have RI:=hid (DN.aO ho.aj);have hcap:=qU ho.aj;have g6:=ho.blk.cell 6;have fg:=ho.blk.free 6;simp only [bI,bN,bK] at g6;have hn32:=h.ok.aj;clear ho h;generalize hrs:st.obj.aj=rs at *;have Es:=hid hrs;clear hrs;go_enter Tryz.func35,Tryz.ntmps35;go_wp2
 go_loopw [2,3] (fun v i wr=>∃ c:Nat,c<=3/\i = .int .i64 (c+1:Nat)/\wr.ownsRow W.heap.size 102 5 v (uI rs c).length ((uI rs c).flatMap iN)/\W.grownBy wr none) (fun _ i _=>4 - (intOf i).toNat)
 case atStart=>exact ⟨0,by omega,rfl,World.ownsRow_nil _ _ _ _,World.grownBy.refl _ _⟩
 case round =>
  obtain ⟨c,hc3,rfl,hown,hgr⟩:=hrel;obtain ⟨av,cv,rfl⟩:=yi hown;have HOW:=hid hown;have HG:=hid hgr;have M7:=yd c14 hgr;have q6:=yd g6 hgr;clear hown hgr;by_cases hlt:c<=2
  ·have g1:(c:Int)+1<=3:=by omega
   go_wp2
   go_loopw [2,18] (fun v i w2=>∃ k:Nat,k<=rs.length/\i = .int .i64 k/\w2.ownsRow W.heap.size 102 5 v (y9 rs c k).length ((y9 rs c k).flatMap iN)/\W.grownBy w2 none) (fun _ i _=>rs.length - (intOf i).toNat)
   case atStart=>exact ⟨0,Nat.zero_le _,rfl,by rw [yiT]; exact HOW.o,HG.o⟩
   case round =>
    obtain ⟨k,hk,rfl,hown,hgr⟩:=hrel;obtain ⟨QJ,QO,rfl⟩:=yi hown;have HG2:=hid hgr;have hsz:=hgr.size;have hle:=yqU rs c k hlt hn32;by_cases hkl:k < rs.length
    ·obtain ⟨sg,hsg,hgs,hcs⟩:=RI.o.grown hgr (by omega);obtain ⟨k0,k1,k2,k3,k4⟩:=hcs k hkl;clear hcs hgr;subst hsg;have hk':(k:Int) < (rs.length:Int):=by omega
     have aag:(k:Int)<=(cr:Int):=by omega
     by_cases e1:rs[k].ah=((c+1:Nat):Int)
     ·have d:(rs[k].ah == (c:Int)+1)=true:=by simp; omega
      have E:=hid (ykr rs c k hkl e1);clear e1;have AG:Hd (W.grownBy ((wr.alloc (.cells #[.int .i64 rs[k].ah,.int .i64 rs[k].off,.int .i64 rs[k].kind,.int .i64 rs[k].sym,.int .i64 rs[k].addend] 102)).alloc (.cells #[.int .i64 rs[k].ah,.int .i64 rs[k].off,.int .i64 rs[k].kind,.int .i64 rs[k].sym,.int .i64 rs[k].addend] 102)) none):=ya (ya HG2.o (aJ _ _ _)) (aJ _ _ _);go_wp2_with (at_builtin; refine wpList_append_own _ rfl _ _ 69 rfl W.heap.size 102 i2 (.agg #[.int .i64 0,.int .i64 0,.int .i64 0,.int .i64 0,.int .i64 0]) 5 40 Tryz.underlying69 hi2 hx0 hx1 hx2 rfl (by decide) _ _ _ rfl ((hown.alloc _).alloc _) ⟨wr.heap.size+1,0,none⟩ 1 1 (iN rs[k]) rfl rfl (UF _ _ _ _) (by intro u hu; simp [iN] at hu; rcases hu with rfl | rfl | rfl | rfl | rfl <;> rfl) (by unfold maxLen; omega) (by omega) (by simp; omega) ?_; intro v' w3 hown' hgrow _; obtain ⟨oh,cv',rfl⟩:=yi hown'; have K:=hid (KP AG.o hgrow (fun b hb=>(hown.lt b hb).1)); have HO3:=hid hown'; clear hgrow hown')
      go_wp2
      go_roundw
      case rel =>
       refine ⟨_,_,_,_,_,_,_,_,_,_,_,_,_,_,_,⟨k+1,by omega,?_,?_,K.o⟩,rfl⟩
       ·go_num
       ·rw [E.o,eZ,List.flatMap_append]; simpa using HO3.o
      case measure=>simp [intOf]; omega
     ·have d:(rs[k].ah == (c:Int)+1)=false:=by simp; omega
      have E:=hid (ylv rs c k hkl e1);have DV:=hid hown;clear e1 hown;go_wp2
      go_roundw
      case rel=>exact ⟨k+1,by omega,by go_num,by rw [E.o]; exact DV.o.alloc _,ya HG2.o (aJ _ _ _)⟩
      case measure=>simp [intOf]; omega
    ·obtain rfl:k=rs.length:=by omega
     have DV:=hid hown;clear hown hgr;go_wp2
     go_roundw
     case rel=>exact ⟨c+1,by omega,by go_num,by rw [<- ykq]; exact DV.o,HG2.o⟩
     case measure=>simp [intOf]; omega
  ·obtain rfl:c=3:=by omega
   have qf:wr.frozen? ⟨g,6,none⟩=false:=(HO.o.blk.grown HG.o (by simp)).free 6;go_wp2
   go_end0
   rw [<- WZ];have gs:=ye wr g 6 (.slice av (uI rs 3).length cv);have aah:=HO.o.blk.lt;have WG:∀ k,Value.ownBlock (.slice av (uI rs 3).length cv)=some k->W.heap.size<=k:=fun k hk=>(HOW.o.lt k hk).1
   have nr:nG B W (wr.setCell ⟨g,6,none⟩ (.slice av (uI rs 3).length cv)) b g (.slice ar rs.length cr) (.slice av (uI rs 3).length cv) :=
    ⟨fun k hk _ hkg=>(gs.block k (by have:=HG.o.size; omega) (by simpa using hkg)).trans (HG.o.block k hk (by simp)),fun k hk=>.inr (WG k hk),gs.os.trans HG.o.os,gs.tape.trans HG.o.tape,gs.output.trans HG.o.output,Nat.le_trans HG.o.size gs.size⟩
   have nb:=(HO.o.blk.grown HG.o (by simp)).set 6 (.slice av (uI rs 3).length cv);have hle:(uI rs 3).length<=32:=by rw [WZ]; have:=Y1 rs; omega
   refine ⟨rfl,HW.o.xW HO.o nr (uI rs 3) hle (by simpa using nb) ?_⟩;refine yX (KA HOW.o fun k hk e=>?_) HW.o.size
   have:=WG k hk
   omega
end Go.Proofs.YtpgklkhgfcjceaaGreatDoor

namespace Go.Proofs.YtpgklkhgfcjceaaGreatDoor
namespace As
theorem nP (f:UInt8->Bool) (s:List UInt8) (p:Nat):p<=skip f s p:=by unfold skip; omega
theorem xC (s:List UInt8) (p:Nat):p<=(iH s p).2.2:=by
 unfold iH;split
 ·simp
 split
 ·exact nP _ _ _
 ·exact nP _ _ _
theorem zQ (s:List UInt8) (q:Nat):q<=(iL s q).2.2:=by
 unfold iL;split
 ·exact Nat.le_refl _
 split
 ·exact Nat.le_refl _
 split
 ·exact xC s q
 split
 ·exact nP _ _ _
 split
 ·exact Nat.le_succ _
 ·exact Nat.le_refl _
theorem xY (s:List UInt8) (p:Nat):p<=(next s p).2.2:=Nat.le_trans (nP _ s p) (zQ s _)
theorem eu (e pos:Nat) (st:St):(refuse e pos st).p=st.p:=by unfold refuse; split <;> rfl
theorem jl (c:Bool) (e pos:Nat) (st:St):(aT c e pos st).p=st.p:=by unfold aT; split; exact eu _ _ _; rfl
theorem fH (s:List UInt8) (st:St):st.p<=(advance s st).p:=by
 unfold advance;split
 ·exact Nat.le_refl _
 split
 ·exact xY s st.p
 ·rw [eu]; exact xY s st.p
theorem o9 (s:List UInt8) (st:St):st.p<=(bU s st).2.p:=by
 unfold bU;split
 ·exact fH s st
 ·exact Nat.le_refl _
theorem oQ (t:Tok) (st:St):(bS t st).p=st.p:=by unfold bS; rw [jl,jl,jl]
theorem ku (t:Tok) (st:St):(aK t st).2.p=st.p:=by
 unfold aK;split
 ·rfl
 split
 ·rfl
 split
 ·exact eu _ _ _
 ·rfl
theorem FC (t:Tok) (st:St):(label t st).p=st.p:=by
 unfold label;dsimp only;have h:=ku t (bS t st);rw [oQ] at h;split
 ·exact h
 split
 ·rw [eu]; exact h
 ·exact h
theorem xV (s:List UInt8) (st:St):st.p<=(name s st).2.p:=by
 unfold name;split
 ·have:=fH s (bS st.tok st); rw [oQ] at this; exact this
 ·rw [eu]; exact Nat.le_refl _
theorem ET (s:List UInt8) (b:Int) (st:St):st.p<=(bind s b st).p:=by
 unfold bind;dsimp only;have h:=ku (name s st).1 (name s st).2;have h2:=xV s st;split
 ·omega
 split
 ·rw [eu]; omega
 ·show _<=(aK (name s st).1 (name s st).2).2.p; omega
theorem dW (s c:List UInt8) (st:St):st.p<=(sign s c st).p:=by
 unfold sign;split
 ·exact fH s st
 ·rw [eu]; exact Nat.le_refl _
theorem aY (s:List UInt8) (st:St):st.p<=(register s st).2.p:=by
 unfold register;split
 ·split
  ·rw [eu]; exact Nat.le_refl _
  ·exact fH s st
 ·rw [eu]; exact Nat.le_refl _
theorem mU (s:List UInt8) (neg:Bool) (pos:Nat) (lo hi:Int) (st:St):st.p<=(aS s neg pos lo hi st).2.p:=by
 unfold aS;generalize (if neg then -(st.tok.n:Int) else (st.tok.n:Int))=x;split
 ·by_cases h:x < lo\/hi < x
  ·rw [if_pos h,eu]; exact Nat.le_refl _
  ·rw [if_neg h]; exact fH s st
 ·rw [eu]; exact Nat.le_refl _
theorem fu (s:List UInt8) (lo hi:Int) (st:St):st.p<=(number s lo hi st).2.p:=by
 unfold number;split
 ·exact Nat.le_trans (fH s st) (mU _ _ _ _ _ _)
 ·exact mU _ _ _ _ _ _
theorem mG (s:List UInt8) (st:St):st.p<=(symbol s st).2.p:=by
 unfold symbol;dsimp only;rw [ku];exact xV s st
theorem mI (s:List UInt8) (st:St):st.p<=(target s st).2.p:=by
 unfold target;dsimp only;have h:=mG s st;split
 ·exact Nat.le_trans h (Nat.le_trans (fH s _) (fu _ _ _ _))
 split
 ·exact Nat.le_trans h (Nat.le_trans (fH s _) (fu _ _ _ _))
 ·exact h
theorem qH (s:List UInt8) (st:St):st.p<=(place s st).2.p :=
 Nat.le_trans (fu s _ _ st) (Nat.le_trans (dW s _ _) (Nat.le_trans (aY s _) (dW s _ _)))
theorem sj (ws:List Int) (st:St):(lay ws st).p=st.p:=by
 unfold lay;split
 ·exact eu _ _ _
 split <;> rfl
theorem jJ (kind:Int) (sym:Nat) (addend:Int) (ws:List Int) (st:St):(bX kind sym addend ws st).p=st.p:=by
 unfold bX;dsimp only;split
 ·exact jl _ _ _ _
 ·rw [sj]; exact jl _ _ _ _
theorem gQ (op rd au aF:Nat) (n:Int) (st:St):(bH op rd au aF n st).p=st.p:=sj _ _
theorem kQ (reg op rd au aF:Nat) (n:Int) (sym:Nat) (addend:Int) (st:St):(bV reg op rd au aF n sym addend st).p=st.p:=by
 unfold bV; rw [jJ,jl]
theorem kC {a b c:Nat} (h:a<=b) (k:b<=c):a<=c:=Nat.le_trans h k
theorem uf (s:List UInt8) (op:Nat) (st:St):st.p<=(dX s op st).p:=by
 unfold dX; dsimp only; rw [gQ];exact kC (aY s st) (kC (dW s _ _) (kC (aY s _) (kC (dW s _ _) (aY s _))))
theorem rQ (s:List UInt8) (op:Nat) (st:St):st.p<=(dI s op st).p:=by
 unfold dI; dsimp only; rw [gQ];exact kC (aY s st) (kC (dW s _ _) (kC (aY s _) (kC (dW s _ _) (fu s _ _ _))))
theorem Dn (s:List UInt8) (st:St):st.p<=(upper s st).p:=by
 unfold upper; dsimp only; rw [gQ];exact kC (aY s st) (kC (dW s _ _) (fu s _ _ _))
theorem FQ (s:List UInt8) (st:St):st.p<=(load s st).p:=by
 unfold load; dsimp only;split
 ·rw [kQ]; exact kC (aY s st) (kC (dW s _ _) (mI s _))
 ·rw [gQ]; exact kC (aY s st) (kC (dW s _ _) (qH s _))
theorem Dj (s:List UInt8) (st:St):st.p<=(store s st).p:=by
 unfold store; dsimp only;split
 ·rw [kQ]; exact kC (aY s st) (kC (dW s _ _) (kC (mI s _) (kC (dW s _ _) (aY s _))))
 ·rw [gQ]; exact kC (aY s st) (kC (dW s _ _) (qH s _))
theorem qD (s:List UInt8) (st:St):st.p<=(bY s st).p:=by
 unfold bY; dsimp only; rw [kQ];exact kC (aY s st) (kC (dW s _ _) (mI s _))
theorem pI (s:List UInt8) (st:St):st.p<=(bO s st).p:=by
 unfold bO; dsimp only; rw [gQ];exact kC (aY s st) (kC (dW s _ _) (qH s _))
theorem Iy (st:St):(bare st).p=st.p:=by
 unfold bare;split
 ·exact gQ ..
 split
 ·exact gQ ..
 split
 ·exact gQ ..
 ·rfl
theorem zD (s:List UInt8) (op:Nat) (st:St):st.p<=(branch s op st).p:=by
 unfold branch; dsimp only; rw [jJ];exact kC (aY s st) (kC (dW s _ _) (kC (aY s _) (kC (dW s _ _) (mG s _))))
theorem qB (s:List UInt8) (rd:Nat) (st:St):st.p<=(fC s rd st).p:=by
 unfold fC; dsimp only; rw [jJ];exact mG s st
theorem vk (s:List UInt8) (st:St):st.p<=(fB s st).p:=by
 unfold fB; dsimp only;exact kC (aY s st) (kC (dW s _ _) (qB s _ _))
theorem FX (s:List UInt8) (st:St):st.p<=(move s st).p:=by
 unfold move; dsimp only; rw [gQ];exact kC (aY s st) (kC (dW s _ _) (aY s _))
theorem rF (s:List UInt8) (st:St):st.p<=(dF s st).p:=by
 unfold dF; dsimp only;split
 ·rw [gQ]; exact kC (aY s st) (kC (dW s _ _) (fu s _ _ _))
 ·rw [sj]; exact kC (aY s st) (kC (dW s _ _) (fu s _ _ _))
theorem EY (s:List UInt8) (st:St):st.p<=(call s st).p:=by
 unfold call; dsimp only; rw [jJ];exact mG s st
theorem zX (st:St):(fE st).p=st.p:=by
 unfold fE
 repeat' split
 all_goals rfl
theorem Gm (s:List UInt8) (st:St):st.p<=(word s st).p:=by
 unfold word; dsimp only;split
 ·rw [jJ]; exact mI s st
 ·rw [sj]; exact fu s _ _ st
theorem Db (s:List UInt8) (st:St):st.p<=(space s st).p:=by
 unfold space; dsimp only;split
 ·rw [sj]; exact fu s _ _ st
 ·rw [eu]; exact fu s _ _ st
theorem rJ (k:Int) (st:St):(bT k st).p=st.p:=by unfold bT; split <;> rfl
theorem zy (b:Nat) (st:St):(dh b st).p=st.p:=by
 unfold dh;split
 ·split
  ·exact jJ _ _ _ _ _
  ·rfl
 ·exact sj _ _
theorem Bn (s:List UInt8) (st:St):st.p<=(align s st).p:=by
 unfold align; dsimp only;split
 ·exact fu s _ _ st
 ·rw [rJ,zy]; exact fu s _ _ st
theorem qy (s:List UInt8) (shape op:Nat) (st:St):st.p<=(instruction s shape op st).p:=by
 unfold instruction;by_cases h:shape=1
 ·rw [if_pos h]; exact uf _ _ _
 rw [if_neg h];clear h;by_cases h:shape=2
 ·rw [if_pos h]; exact rQ _ _ _
 rw [if_neg h];clear h;by_cases h:shape=3
 ·rw [if_pos h]; exact Dn _ _
 rw [if_neg h];clear h;by_cases h:shape=4
 ·rw [if_pos h]; exact FQ _ _
 rw [if_neg h];clear h;by_cases h:shape=5
 ·rw [if_pos h]; exact Dj _ _
 rw [if_neg h];clear h;by_cases h:shape=6
 ·rw [if_pos h]; exact pI _ _
 rw [if_neg h];clear h;by_cases h:shape=7
 ·rw [if_pos h]; rw [Iy]; exact Nat.le_refl _
 rw [if_neg h];clear h;by_cases h:shape=8
 ·rw [if_pos h]; exact zD _ _ _
 rw [if_neg h];clear h;by_cases h:shape=9
 ·rw [if_pos h]; exact vk _ _
 rw [if_neg h];clear h;by_cases h:shape=10
 ·rw [if_pos h]; exact qB _ _ _
 rw [if_neg h];clear h;by_cases h:shape=11
 ·rw [if_pos h]; exact FX _ _
 rw [if_neg h];clear h;by_cases h:shape=12
 ·rw [if_pos h]; exact rF _ _
 rw [if_neg h];clear h;by_cases h:shape=13
 ·rw [if_pos h]; exact EY _ _
 rw [if_neg h];clear h;by_cases h:shape=14
 ·rw [if_pos h]; exact qD _ _
 rw [if_neg h];clear h;exact Nat.le_refl _
theorem sS (s:List UInt8) (shape:Nat) (st:St):st.p<=(directive s shape st).p:=by
 unfold directive;split
 ·rw [zX]; exact Nat.le_refl _
 split
 ·exact Gm _ _
 split
 ·exact Db _ _
 split
 ·exact Bn _ _
 split
 ·exact ET _ _ _
 ·exact Nat.le_refl _
theorem tL (s:List UInt8) (t:Tok) (st:St):st.p<=(operation s t st).p:=by
 unfold operation;split
 ·rw [eu]; exact Nat.le_refl _
 split
 ·rw [eu]; exact Nat.le_refl _
 split
 ·exact qy _ _ _ { st with op:=t }
 ·exact sS _ _ { st with op:=t }
theorem sw (s:List UInt8) (t:Tok) (st:St):st.p<=(gZ s t st).p:=by
 unfold gZ; dsimp only;have h:st.p<=(if t.kind == 1 then operation s t st else st).p:=by
  split
  ·exact tL _ _ _
  ·exact Nat.le_refl _
 generalize (if t.kind == 1 then operation s t st else st)=x at h ⊢;split
 ·exact h
 ·rw [eu]; exact h
theorem xS (s:List UInt8) (st:St):st.p<=(line s st).p:=by
 unfold line; dsimp only;have h:=kC (fH s st) (o9 s (advance s st));split
 ·refine kC h (kC (Nat.le_of_eq (FC _ _).symm) (kC (fH s _) (kC (o9 s _) (sw _ _ _))))
 ·exact kC h (sw _ _ _)
theorem oU (s:List UInt8) (st:St) (h:(bG s st).1=true):st.p < (bG s st).2.p/\(bG s st).2.p<=s.length:=by
 unfold bG at h ⊢;split at h
 ·cases h
 ·rename_i hf;rw [if_neg hf];have k:=nP eG s st.p;unfold lineEnd at h ⊢;split at h
  ·rename_i hl;rw [if_pos hl];exact ⟨by show st.p < skip eG s st.p+1; omega,by show skip eG s st.p+1<=s.length; omega⟩
  ·cases h
end As
end Go.Proofs.YtpgklkhgfcjceaaGreatDoor

namespace Go.Proofs.YtpgklkhgfcjceaaGreatDoor
namespace As
structure Tm (o:Lk.Obj):Prop where
 text:o.text.length<=1200
 far:o.far.length<=1200
 data:o.data.length<=64
 bss:0<=o.bss/\o.bss<=64
 names:∀ y∈o.syms,y.name.length<=6
 tH:∀ r∈o.aj,r.off<=4800
theorem zV {o:Lk.Obj} (h:Tm o) (ah:Nat):bM o ah<=1200:=by
 have h1:=h.text;have h2:=h.far;have h3:=h.data;have h4:=h.bss;unfold bM
 repeat' split
 all_goals omega
theorem bW (e pos:Nat) (st:St):(refuse e pos st).obj=st.obj:=by unfold refuse; split <;> rfl
theorem jc (c:Bool) (e pos:Nat) (st:St):(aT c e pos st).obj=st.obj:=by unfold aT; split; exact bW _ _ _; rfl
theorem dV (s:List UInt8) (st:St):(advance s st).obj=st.obj:=by
 unfold advance;split
 ·rfl
 split
 ·rfl
 ·rw [bW]
theorem kW (s:List UInt8) (st:St):(bU s st).2.obj=st.obj:=by
 unfold bU;split
 ·exact dV s st
 ·rfl
theorem mR (t:Tok) (st:St):(bS t st).obj=st.obj:=by unfold bS; rw [jc,jc,jc]
theorem vB (s:List UInt8) (st:St):(name s st).2.obj=st.obj:=by
 unfold name;split
 ·show (advance s _).obj=_; rw [dV,mR]
 ·exact bW _ _ _
theorem cu (s c:List UInt8) (st:St):(sign s c st).obj=st.obj:=by
 unfold sign;split
 ·exact dV s st
 ·exact bW _ _ _
theorem aQ (s:List UInt8) (st:St):(register s st).2.obj=st.obj:=by
 unfold register;split
 ·split
  ·exact bW _ _ _
  ·exact dV _ _
 ·exact bW _ _ _
theorem lM (s:List UInt8) (neg:Bool) (pos:Nat) (lo hi:Int) (st:St):(aS s neg pos lo hi st).2.obj=st.obj:=by
 unfold aS;generalize (if neg=true then -(st.tok.n:Int) else (st.tok.n:Int))=v;split
 ·split
  ·exact bW _ _ _
  ·exact dV _ _
 ·exact bW _ _ _
theorem eU (s:List UInt8) (lo hi:Int) (st:St):(number s lo hi st).2.obj=st.obj:=by
 unfold number;split
 ·rw [lM,dV]
 ·rw [lM]
theorem oI (s:List UInt8) (st:St):(place s st).2.obj=st.obj:=by
 unfold place; dsimp only;rw [cu,aQ,cu,eU]
theorem qZ (e pos:Nat) (he:e≠0) (st:St):failed (refuse e pos st)=true:=by
 unfold refuse;split
 ·assumption
 ·simp [failed,he]
theorem pF (c:Bool) (e pos:Nat) (st:St) (h:failed (aT c e pos st)=false):failed st=false:=by
 unfold aT at h;split at h
 ·unfold refuse at h;split at h
  ·exact h
  ·rename_i hf; simpa using hf
 ·exact h
theorem vH (c:Bool) (e pos:Nat) (he:e≠0) (st:St) (h:failed (aT c e pos st)=false):c=false:=by
 unfold aT at h;split at h
 ·rw [qZ e pos he] at h; cases h
 ·rename_i hc; simpa using hc
theorem qo (s:List UInt8) (st:St) (h:failed (advance s st)=false):failed st=false:=by
 unfold advance at h;split at h
 ·exact h
 ·rename_i hf; simpa using hf
theorem nJ (t:Tok) (st:St) (h:failed (bS t st)=false):t.text.length<=6:=by
 unfold bS at h
 have:=vH _ _ _ (by decide) _ (pF _ _ _ _ h)
 simpa using this
theorem xU (s:List UInt8) (st:St) (h:failed (name s st).2=false):(name s st).1.text.length<=6:=by
 unfold name at h ⊢;split at h
 ·rename_i hk;rw [if_pos hk];exact nJ _ _ (qo s _ h)
 ·rename_i hk;rw [if_neg hk];exact Nat.zero_le _
theorem jS (t:Tok) (st:St) (h:Tm st.obj) (ht:failed st=false->t.text.length<=6):Tm (aK t st).2.obj:=by
 unfold aK;split
 ·exact h
 rename_i hf;have hf':failed st=false:=by simpa using hf
 split
 ·exact h
 split
 ·show Tm (refuse _ _ _).obj; rw [bW]; exact h
 ·refine ⟨h.text,h.far,h.data,h.bss,fun y hy=>?_,h.tH⟩;rcases List.mem_append.1 hy with hy | hy
  ·exact h.names y hy
  ·simp at hy; subst hy; exact ht hf'
theorem mem_modify {α:Type} (l:List α) (i:Nat) (f:α->α) (y:α) (h:y∈l.modify i f):∃ x∈l,y=x\/y=f x:=by
 obtain ⟨j,hj,rfl⟩:=List.getElem_of_mem h;rw [List.getElem_modify];refine ⟨l[j]'(by simpa using hj),List.getElem_mem _,?_⟩;split
 ·exact .inr rfl
 ·exact .inl rfl
theorem sK (st:St) (i:Nat) (f:Lk.Sym->Lk.Sym) (h:Tm st.obj) (hf:∀ y,(f y).name=y.name):Tm (lQ st i f).obj:=by
 refine ⟨h.text,h.far,h.data,h.bss,fun y hy=>?_,h.tH⟩;obtain ⟨x,hx,rfl | rfl⟩:=mem_modify _ _ _ _ hy
 ·exact h.names _ hx
 ·rw [hf]; exact h.names _ hx
theorem Cg (t:Tok) (st:St) (h:Tm st.obj):Tm (label t st).obj:=by
 unfold label; dsimp only;have k:=jS t (bS t st) (by rw [mR]; exact h) (nJ t st);split
 ·exact k
 split
 ·rw [bW]; exact k
 ·exact sK _ _ _ k fun _=>rfl
theorem ER (s:List UInt8) (binding:Int) (st:St) (h:Tm st.obj):Tm (bind s binding st).obj:=by
 unfold bind; dsimp only;have k:=jS (name s st).1 (name s st).2 (by rw [vB]; exact h) (xU s st);split
 ·exact k
 split
 ·rw [bW]; exact k
 ·exact sK _ _ _ k fun _=>rfl
theorem mF (s:List UInt8) (st:St) (h:Tm st.obj):Tm (symbol s st).2.obj:=jS (name s st).1 (name s st).2 (by rw [vB]; exact h) (xU s st)
theorem mH (s:List UInt8) (st:St) (h:Tm st.obj):Tm (target s st).2.obj:=by
 unfold target; dsimp only;have k:=mF s st h;split
 ·rw [eU,dV]; exact k
 split
 ·rw [eU,dV]; exact k
 ·exact k
theorem uQ (o:Lk.Obj) (ah:Nat) (ws:List Int) (h:Tm o) (hl:¬ 4 * limit ah < 4 * bM o ah+4 * (ws.length:Int)):Tm (bn o ah ws):=by
 unfold limit bM at hl;have h4:=h.bss;unfold bn;split
 ·rename_i e; subst e;simp at hl;exact ⟨by simp; omega,h.far,h.data,h.bss,h.names,h.tH⟩
 split
 ·rename_i e; subst e;simp at hl;exact ⟨h.text,by simp; omega,h.data,h.bss,h.names,h.tH⟩
 split
 ·rename_i e; subst e;simp at hl;exact ⟨h.text,h.far,by simp; omega,h.bss,h.names,h.tH⟩
 split
 ·rename_i e; subst e;simp at hl;exact ⟨h.text,h.far,h.data,by simp; omega,h.names,h.tH⟩
 ·exact h
theorem oD (ws:List Int) (st:St) (h:Tm st.obj):Tm (lay ws st).obj:=by
 unfold lay;split
 ·rw [bW]; exact h
 split
 ·exact h
 ·rename_i hl _;exact uQ _ _ _ h hl
theorem ji (kind:Int) (sym:Nat) (addend:Int) (ws:List Int) (st:St) (h:Tm st.obj):Tm (bX kind sym addend ws st).obj:=by
 unfold bX; dsimp only;have k:Tm (aT (decide (32<=st.obj.aj.length)) 12 st.op.pos st).obj:=by rw [jc]; exact h
 split
 ·exact k
 ·refine oD _ _ ⟨k.text,k.far,k.data,k.bss,k.names,fun r hr=>?_⟩;rcases List.mem_append.1 hr with hr | hr
  ·exact k.tH r hr
  ·simp at hr; subst hr
   have:=zV k (aT (decide (32<=st.obj.aj.length)) 12 st.op.pos st).ah
   show 4 * _<=(4800:Int)
   omega
theorem fO (op rd au aF:Nat) (n:Int) (st:St) (h:Tm st.obj):Tm (bH op rd au aF n st).obj:=oD _ _ h
theorem kg (reg op rd au aF:Nat) (n:Int) (sym:Nat) (addend:Int) (st:St) (h:Tm st.obj):Tm (bV reg op rd au aF n sym addend st).obj:=by
 unfold bV;exact ji _ _ _ _ _ (by rw [jc]; exact h)
theorem fq {c:Prop} [Decidable c] {a b:St} (ha:Tm a.obj) (hb:Tm b.obj):Tm (if c then a else b).obj:=by
 by_cases h:c
 ·rw [if_pos h]; exact ha
 ·rw [if_neg h]; exact hb
section
variable (s:List UInt8) (op:Nat) (st:St) (h:Tm st.obj)
include h
theorem tZ:Tm (dX s op st).obj:=by unfold dX; dsimp only; refine fO _ _ _ _ _ _ ?_; rw [aQ,cu,aQ,cu,aQ]; exact h
theorem rP:Tm (dI s op st).obj:=by unfold dI; dsimp only; refine fO _ _ _ _ _ _ ?_; rw [eU,cu,aQ,cu,aQ]; exact h
theorem Dm:Tm (upper s st).obj:=by unfold upper; dsimp only; refine fO _ _ _ _ _ _ ?_; rw [eU,cu,aQ]; exact h
theorem FP:Tm (load s st).obj:=by
 unfold load; dsimp only;refine fq ?_ ?_
 ·refine kg _ _ _ _ _ _ _ _ _ (mH s _ ?_); rw [cu,aQ]; exact h
 ·refine fO _ _ _ _ _ _ ?_; rw [oI,cu,aQ]; exact h
theorem Di:Tm (store s st).obj:=by
 unfold store; dsimp only;refine fq ?_ ?_
 ·refine kg _ _ _ _ _ _ _ _ _ ?_; rw [aQ,cu]; refine mH s _ ?_; rw [cu,aQ]; exact h
 ·refine fO _ _ _ _ _ _ ?_; rw [oI,cu,aQ]; exact h
theorem pG:Tm (bO s st).obj:=by unfold bO; dsimp only; refine fO _ _ _ _ _ _ ?_; rw [oI,cu,aQ]; exact h
theorem EM:Tm (bare st).obj:=by
 unfold bare;exact fq (fO _ _ _ _ _ _ h) (fq (fO _ _ _ _ _ _ h) (fq (fO _ _ _ _ _ _ h) h))
theorem zC:Tm (branch s op st).obj:=by unfold branch; dsimp only; refine ji _ _ _ _ _ (mF s _ ?_); rw [cu,aQ,cu,aQ]; exact h
theorem qA (rd:Nat):Tm (fC s rd st).obj:=by unfold fC; dsimp only; exact ji _ _ _ _ _ (mF s _ h)
theorem FW:Tm (move s st).obj:=by unfold move; dsimp only; refine fO _ _ _ _ _ _ ?_; rw [aQ,cu,aQ]; exact h
theorem rC:Tm (dF s st).obj:=by
 unfold dF; dsimp only;refine fq ?_ ?_
 ·refine fO _ _ _ _ _ _ ?_; rw [eU,cu,aQ]; exact h
 ·refine oD _ _ ?_; rw [eU,cu,aQ]; exact h
theorem EW:Tm (call s st).obj:=by unfold call; dsimp only; exact ji _ _ _ _ _ (mF s _ h)
theorem qC:Tm (bY s st).obj:=by unfold bY; dsimp only; refine kg _ _ _ _ _ _ _ _ _ (mH s _ ?_); rw [cu,aQ]; exact h
end
theorem vg (s:List UInt8) (st:St) (h:Tm st.obj):Tm (fB s st).obj:=by unfold fB; dsimp only; refine qA s _ ?_ _; rw [cu,aQ]; exact h
theorem qx (s:List UInt8) (shape op:Nat) (st:St) (h:Tm st.obj):Tm (instruction s shape op st).obj:=by
 unfold instruction;exact fq (tZ s op st h) (fq (rP s op st h) (fq (Dm s st h) (fq (FP s st h) (fq (Di s st h) (fq (pG s st h) (fq (EM st h) (fq (zC s op st h) (fq (vg s st h) (fq (qA s st h 0) (fq (FW s st h) (fq (rC s st h) (fq (EW s st h) (fq (qC s st h) h)))))))))))))
theorem vJ (st:St):(fE st).obj=st.obj:=by unfold fE; (repeat' split) <;> rfl
theorem sQ (s:List UInt8) (shape:Nat) (st:St) (h:Tm st.obj):Tm (directive s shape st).obj:=by
 unfold directive;split
 ·rw [vJ]; exact h
 split
 ·unfold word; dsimp only;split
  ·exact ji _ _ _ _ _ (mH s _ h)
  ·refine oD _ _ ?_; rw [eU]; exact h
 split
 ·unfold space; dsimp only;split
  ·refine oD _ _ ?_; rw [eU]; exact h
  ·rw [bW,eU]; exact h
 split
 ·unfold align; dsimp only;have k:Tm (number s 2 4 st).2.obj:=by rw [eU]; exact h
  split
  ·exact k
  ·have k2:Tm (dh (2 ^ (number s 2 4 st).1.toNat) (number s 2 4 st).2).obj:=by
    unfold dh;split
    ·split
     ·exact ji _ _ _ _ _ k
     ·exact k
    ·exact oD _ _ k
   unfold bT;split
   ·exact ⟨k2.text,k2.far,k2.data,k2.bss,k2.names,k2.tH⟩
   ·exact k2
 split
 ·unfold binding; exact ER s _ _ h
 ·exact h
theorem tK (s:List UInt8) (t:Tok) (st:St) (h:Tm st.obj):Tm (operation s t st).obj:=by
 unfold operation;split
 ·rw [bW]; exact h
 split
 ·rw [bW]; exact h
 split
 ·exact qx s _ _ _ h
 ·exact sQ s _ _ h
theorem su (s:List UInt8) (t:Tok) (st:St) (h:Tm st.obj):Tm (gZ s t st).obj:=by
 unfold gZ; dsimp only;have k:Tm (if t.kind == 1 then operation s t st else st).obj:=fq (tK s t st h) h;exact fq k (by rw [bW]; exact k)
theorem FJ (s:List UInt8) (st:St) (h:Tm st.obj):Tm (line s st).obj:=by
 unfold line; dsimp only;split
 ·refine su s _ _ ?_;rw [kW,dV];refine Cg _ _ ?_;rw [kW,dV]; exact h
 ·refine su s _ _ ?_;rw [kW,dV]; exact h
theorem tu (s:List UInt8) (st:St):(bG s st).2.obj=st.obj:=by unfold bG; split <;> rfl
theorem Cr (s:List UInt8) (n:Nat) (st:St) (h:Tm st.obj):Tm (lines s n st).obj:=by
 induction n generalizing st with
 | zero=>exact h
 | succ n ih =>
  unfold lines; dsimp only;have k:Tm (bG s (line s st)).2.obj:=by rw [tu]; exact FJ s st h
  split
  ·exact ih _ k
  ·exact k
theorem Dh:Tm start.obj:=⟨by decide,by decide,by decide,by decide,by simp [start],by simp [start]⟩
end As
end Go.Proofs.YtpgklkhgfcjceaaGreatDoor

namespace Go.Proofs.YtpgklkhgfcjceaaGreatDoor
open Go.RowKit
theorem yqb (g:Nat) (o:Lk.Obj) (w:World) (ht:dQ w) (h:yu w g o) (hn:jF o) (hv:¬ yv o) :
  Calls Tryz.prog 36 #[.pointer (some ⟨g,0,none⟩)] w fun e w'=>e = .returned (.tuple #[.string ⟨#[]⟩,.int .i64 20])/\w.grownBy w' none:=by
 have cV:=hid (TD g o w ht h hn);have HV:=hid hv;clear ht h hv hn;go_enter Tryz.func36,Tryz.ntmps36;go_wp2_with fail;refine cV.o.mono ?_;rintro e W1 ⟨tv,q1⟩;rcases tv.split with ⟨rfl,_⟩ | ⟨_,p⟩
 ·have Q:=hid q1;clear q1;go_wp2;go_ret2;exact ⟨rfl,Q.o⟩
 ·exact absurd p.o HV.o
theorem ynr (g:Nat) (o:Lk.Obj) (w:World) (ht:dQ w) (h:yu w g o) (hn:jF o) :
  Calls Tryz.prog 36 #[.pointer (some ⟨g,0,none⟩)] w fun e w'=>((e = .returned (.tuple #[.string (bs (Lk.lN o)),.int .i64 0])/\yv o)\/(e = .returned (.tuple #[.string (bs []),.int .i64 20])/\¬ yv o))/\w.grownBy w' none:=by
 by_cases hv:yv o
 ·exact (yoL g o w ht h (KS hv) hv).mono fun e w' k=>⟨.inl ⟨k.1,hv⟩,k.2⟩
 ·exact (yqb g o w ht h hn hv).mono fun e w' k=>⟨.inr ⟨k.1,hv⟩,k.2⟩
end Go.Proofs.YtpgklkhgfcjceaaGreatDoor
