
import Derived.Test.YtpgklkhgfcjceaaGreatDoorU22
set_option maxHeartbeats 16000000
set_option maxRecDepth 100000
namespace Go.Proofs.YtpgklkhgfcjceaaGreatDoor
open Go.RowKit
theorem Yf (t:List UInt8):As.iW t=0\/(15<=As.iW t/\As.iW t<=19):=by
 unfold As.iW
 repeat' split
 all_goals omega
theorem ylQ (t:List UInt8):As.shapeOf t<=19:=by
 have hd:=Yf t;unfold As.shapeOf;by_cases h:t=[97,100,100]
 ·rw [if_pos h]; omega
 rw [if_neg h];clear h;by_cases h:t=[115,117,98]
 ·rw [if_pos h]; omega
 rw [if_neg h];clear h;by_cases h:t=[115,108,116]
 ·rw [if_pos h]; omega
 rw [if_neg h];clear h;by_cases h:t=[115,108,116,117]
 ·rw [if_pos h]; omega
 rw [if_neg h];clear h;by_cases h:t=[120,111,114]
 ·rw [if_pos h]; omega
 rw [if_neg h];clear h;by_cases h:t=[111,114]
 ·rw [if_pos h]; omega
 rw [if_neg h];clear h;by_cases h:t=[97,110,100]
 ·rw [if_pos h]; omega
 rw [if_neg h];clear h;by_cases h:t=[97,100,100,105]
 ·rw [if_pos h]; omega
 rw [if_neg h];clear h;by_cases h:t=[115,108,116,105]
 ·rw [if_pos h]; omega
 rw [if_neg h];clear h;by_cases h:t=[120,111,114,105]
 ·rw [if_pos h]; omega
 rw [if_neg h];clear h;by_cases h:t=[111,114,105]
 ·rw [if_pos h]; omega
 rw [if_neg h];clear h;by_cases h:t=[97,110,100,105]
 ·rw [if_pos h]; omega
 rw [if_neg h];clear h;by_cases h:t=[108,117,105]
 ·rw [if_pos h]; omega
 rw [if_neg h];clear h;by_cases h:t=[108,119]
 ·rw [if_pos h]; omega
 rw [if_neg h];clear h;by_cases h:t=[115,119]
 ·rw [if_pos h]; omega
 rw [if_neg h];clear h;by_cases h:t=[106,97,108,114]
 ·rw [if_pos h]; omega
 rw [if_neg h];clear h;by_cases h:t=[101,99,97,108,108]
 ·rw [if_pos h]; omega
 rw [if_neg h];clear h;by_cases h:t=[114,101,116]
 ·rw [if_pos h]; omega
 rw [if_neg h];clear h;by_cases h:t=[110,111,112]
 ·rw [if_pos h]; omega
 rw [if_neg h];clear h;by_cases h:t=[98,101,113]
 ·rw [if_pos h]; omega
 rw [if_neg h];clear h;by_cases h:t=[98,110,101]
 ·rw [if_pos h]; omega
 rw [if_neg h];clear h;by_cases h:t=[98,108,116]
 ·rw [if_pos h]; omega
 rw [if_neg h];clear h;by_cases h:t=[98,103,101]
 ·rw [if_pos h]; omega
 rw [if_neg h];clear h;by_cases h:t=[98,108,116,117]
 ·rw [if_pos h]; omega
 rw [if_neg h];clear h;by_cases h:t=[98,103,101,117]
 ·rw [if_pos h]; omega
 rw [if_neg h];clear h;by_cases h:t=[106,97,108]
 ·rw [if_pos h]; omega
 rw [if_neg h];clear h;by_cases h:t=[106]
 ·rw [if_pos h]; omega
 rw [if_neg h];clear h;by_cases h:t=[109,118]
 ·rw [if_pos h]; omega
 rw [if_neg h];clear h;by_cases h:t=[108,105]
 ·rw [if_pos h]; omega
 rw [if_neg h];clear h;by_cases h:t=[99,97,108,108]
 ·rw [if_pos h]; omega
 rw [if_neg h];clear h;by_cases h:t=[116,97,105,108]
 ·rw [if_pos h]; omega
 rw [if_neg h];clear h;by_cases h:t=[108,97]
 ·rw [if_pos h]; omega
 rw [if_neg h];clear h;omega
theorem ylP (t:List UInt8) (hh:As.shapeOf t=1\/As.shapeOf t=2\/As.shapeOf t=8):1<=As.named t/\As.named t<=25:=by
 have hd:=Yf t;generalize hx:As.shapeOf t=x at *;unfold As.shapeOf at hx;by_cases h:t=[97,100,100]
 ·subst h; decide
 rw [if_neg h] at hx;clear h;by_cases h:t=[115,117,98]
 ·subst h; decide
 rw [if_neg h] at hx;clear h;by_cases h:t=[115,108,116]
 ·subst h; decide
 rw [if_neg h] at hx;clear h;by_cases h:t=[115,108,116,117]
 ·subst h; decide
 rw [if_neg h] at hx;clear h;by_cases h:t=[120,111,114]
 ·subst h; decide
 rw [if_neg h] at hx;clear h;by_cases h:t=[111,114]
 ·subst h; decide
 rw [if_neg h] at hx;clear h;by_cases h:t=[97,110,100]
 ·subst h; decide
 rw [if_neg h] at hx;clear h;by_cases h:t=[97,100,100,105]
 ·subst h; decide
 rw [if_neg h] at hx;clear h;by_cases h:t=[115,108,116,105]
 ·subst h; decide
 rw [if_neg h] at hx;clear h;by_cases h:t=[120,111,114,105]
 ·subst h; decide
 rw [if_neg h] at hx;clear h;by_cases h:t=[111,114,105]
 ·subst h; decide
 rw [if_neg h] at hx;clear h;by_cases h:t=[97,110,100,105]
 ·subst h; decide
 rw [if_neg h] at hx;clear h;by_cases h:t=[108,117,105]
 ·rw [if_pos h] at hx; omega
 rw [if_neg h] at hx;clear h;by_cases h:t=[108,119]
 ·rw [if_pos h] at hx; omega
 rw [if_neg h] at hx;clear h;by_cases h:t=[115,119]
 ·rw [if_pos h] at hx; omega
 rw [if_neg h] at hx;clear h;by_cases h:t=[106,97,108,114]
 ·rw [if_pos h] at hx; omega
 rw [if_neg h] at hx;clear h;by_cases h:t=[101,99,97,108,108]
 ·rw [if_pos h] at hx; omega
 rw [if_neg h] at hx;clear h;by_cases h:t=[114,101,116]
 ·rw [if_pos h] at hx; omega
 rw [if_neg h] at hx;clear h;by_cases h:t=[110,111,112]
 ·rw [if_pos h] at hx; omega
 rw [if_neg h] at hx;clear h;by_cases h:t=[98,101,113]
 ·subst h; decide
 rw [if_neg h] at hx;clear h;by_cases h:t=[98,110,101]
 ·subst h; decide
 rw [if_neg h] at hx;clear h;by_cases h:t=[98,108,116]
 ·subst h; decide
 rw [if_neg h] at hx;clear h;by_cases h:t=[98,103,101]
 ·subst h; decide
 rw [if_neg h] at hx;clear h;by_cases h:t=[98,108,116,117]
 ·subst h; decide
 rw [if_neg h] at hx;clear h;by_cases h:t=[98,103,101,117]
 ·subst h; decide
 rw [if_neg h] at hx;clear h;by_cases h:t=[106,97,108]
 ·rw [if_pos h] at hx; omega
 rw [if_neg h] at hx;clear h;by_cases h:t=[106]
 ·rw [if_pos h] at hx; omega
 rw [if_neg h] at hx;clear h;by_cases h:t=[109,118]
 ·rw [if_pos h] at hx; omega
 rw [if_neg h] at hx;clear h;by_cases h:t=[108,105]
 ·rw [if_pos h] at hx; omega
 rw [if_neg h] at hx;clear h;by_cases h:t=[99,97,108,108]
 ·rw [if_pos h] at hx; omega
 rw [if_neg h] at hx;clear h;by_cases h:t=[116,97,105,108]
 ·rw [if_pos h] at hx; omega
 rw [if_neg h] at hx;clear h;by_cases h:t=[108,97]
 ·rw [if_pos h] at hx; omega
 rw [if_neg h] at hx;clear h;omega
theorem jG.op' {s:ByteArray} {st:As.St} (h:jG s st) (t:As.Tok) (ht:zy t):jG s { st with op:=t } :=
 ⟨h.size,h.p,h.tok,h.fe,h.fa,ht,h.ah,h.text,h.far,h.data,h.bss,h.align,h.syms,h.aj⟩
theorem YI (B:Nat) (s:ByteArray) (b g:Nat) (st:As.St) (t:As.Tok) (W:World) (h:ym B s b g st W) (ht:zy t) (hN:nY W) :
  Calls Tryz.prog 53 #[.pointer (some ⟨b,0,none⟩),gD t] W fun en W'=>en = .returned (.tuple #[])/\Does B s b g W (As.operation (sl s) t st) W':=by
 have HW:=hid h;have HN:=hid hN;have HT:=hid ht;have L0:=hid ((Loc.begin h).alloc (yW t) 64);have hbl:=h.blk.lt;clear h ht hN;have RS:=hid (show As.operation (sl s) t st=if As.shapeOf t.text=0 then As.refuse 6 t.pos st else if !As.iG (As.shapeOf t.text) st.ah then As.refuse 9 t.pos st else if As.shapeOf t.text<=14 then As.instruction (sl s) (As.shapeOf t.text) (As.named t.text) { st with op:=t } else As.directive (sl s) (As.shapeOf t.text) { st with op:=t } from rfl);have cS:=hid (fun V=>ylO t.text V);have Oj:=ylQ t.text;have SN:=hid (ylP t.text);generalize As.operation (sl s) t st=X at *;generalize As.shapeOf t.text=shape at *
 unfold gD;go_enter Tryz.func53,Tryz.ntmps53;go_wp2_with fail;refine Calls.aK (Loc B s b g W [(W.heap.size,yW t,64)] st) L0.o ?_;clear L0;generalize hr:W.heap.size=r at *;clear hr;intro V hV;have L:=hid hV;clear hV;refine (cS.o V).mono ?_;rintro e w1 ⟨rfl,rfl⟩;clear cS;obtain ⟨m0,m1,m2,m3⟩:=(⟨L.o.d,L.o.l (r,yW t,64) (by simp)⟩:lU B s b g W r t st w1).cells;have D:=hid (L.o.d.does HW.o);by_cases h0:shape=0
 ·have d:((shape:Int) == 0)=true:=by simp; omega
  rw [if_pos h0] at RS;clear h0;go_wp2_with fail;refine (yM B s b g st 6 t.pos w1 D.o.1 (by omega) HT.o.pos).mono ?_;rintro e V3 ⟨rfl,h3⟩;have D3:=hid (D.o.aP h3);clear h3;go_wp2
  (try simp only [Exit.inBlock,Exit.then]); refine bodyPost_ret (results_none rfl _ _ _) rfl ?_
  rw [RS.o];exact ⟨rfl,D3.o⟩
 have d:((shape:Int) == 0)=false:=by simp; omega
 rw [if_neg h0] at RS;go_wp2_with fail;refine (yki B s b g st shape w1 D.o.1 (by omega) Oj).mono ?_;rintro e w2 ⟨rfl,rfl⟩
 cases hm:As.iG shape st.ah
 ·rw [hm,if_pos (show (!false)=true from rfl)] at RS;clear hm;go_wp2_with fail;refine (yM B s b g st 9 t.pos w2 D.o.1 (by omega) HT.o.pos).mono ?_;rintro e V3 ⟨rfl,h3⟩;have D3:=hid (D.o.aP h3);clear h3;go_wp2
  (try simp only [Exit.inBlock,Exit.then]); refine bodyPost_ret (results_none rfl _ _ _) rfl ?_
  rw [RS.o];exact ⟨rfl,D3.o⟩
 rw [hm,if_neg (by simp)] at RS;clear hm;have k9:=D.o.1.blk.free 9;have k10:=D.o.1.blk.free 10;have k11:=D.o.1.blk.free 11;have k12:=D.o.1.blk.free 12;have c9:=yO D.o.1 9;have c10:=yO D.o.1 10;have c11:=yO D.o.1 11;have c12:=yO D.o.1 12;simp only [yH,bJ,bN,bL] at c9 c10 c11 c12;have hrb:r≠b:=(⟨L.o.d,L.o.l (r,yW t,64) (by simp)⟩:lU B s b g W r t st w2).ne;have hbr:b≠r:=fun e=>hrb e.symm
 have P:=hid (L.o.d.sets [(9,.int .i64 t.kind),(10,.int .i64 t.pos),(11,.string (bs t.text)),(12,.int .i64 t.n)] { st with op:=t }
  (by simp only [uY,yH,lQ,mF,gH,gF,gG]) rfl (D.o.1.ok.op' t HT.o))
 by_cases wX:shape<=14
 ·have d2:decide ((shape:Int)<=14)=true:=by simp; omega
  rw [if_pos wX] at RS;have cI:=hid (fun V hV=>yhe B s b g { st with op:=t } shape (As.named t.text) V hV (by omega) wX SN.o);have cN:=hid (fun V (hV:nY V)=>yhY t.text V hV);clear wX;go_wp2_with fail;have PD:=hid (P.o.does HW.o);refine (cN.o _ (HN.o.below PD.o.2.1 PD.o.1.lo.1)).mono ?_;rintro e w3 ⟨rfl,hw3⟩;have Xg:Hd (Does B s b g W { st with op:=t } w3):=by rw [hw3]; exact PD.o
  clear hw3 PD cN m0 m1 m2 m3 c9 c10 c11 c12 k9 k10 k11 k12;go_wp2_with fail;refine (cI.o w3 Xg.o.1).mono ?_;rintro e VF ⟨rfl,hh⟩;have DF:=hid (Xg.o.after hh);clear hh;go_wp2
  first | go_end0 | ((try simp only [Exit.inBlock,Exit.then]); refine bodyPost_ret (results_none rfl _ _ _) rfl ?_)
  rw [RS.o];exact ⟨rfl,DF.o⟩
 ·have d2:decide ((shape:Int)<=14)=false:=by simp; omega
  rw [if_neg wX] at RS;have cI:=hid (fun V hV=>yiP B s b g { st with op:=t } shape V hV (by omega) Oj);clear wX;go_wp2_with fail;have PD:=hid (P.o.does HW.o);refine (cI.o _ PD.o.1).mono ?_;rintro e VF ⟨rfl,hh⟩;have DF:=hid (PD.o.after hh);clear hh;go_wp2
  first | go_end0 | ((try simp only [Exit.inBlock,Exit.then]); refine bodyPost_ret (results_none rfl _ _ _) rfl ?_)
  rw [RS.o];exact ⟨rfl,DF.o⟩
structure lS (B:Nat) (s:ByteArray) (b g:Nat) (W:World) (r:Nat) (t:As.Tok) (st:As.St) (V:World):Prop where
 d:Does B s b g W st V
 l:yc V r (yW t) 64
 new:W.heap.size<=r
 lt:B<=W.heap.size
section
variable {B:Nat} {s:ByteArray} {b g r:Nat} {W V V':World} {t:As.Tok} {st st':As.St}
theorem lS.step (h:lS B s b g W r t st V) (k:Does B s b g V st' V'):lS B s b g W r t st' V' :=
 ⟨h.d.after k,k.2.2 r _ _ (by decide) (by decide) (by decide) (by decide) (by decide) h.l,h.new,h.lt⟩
theorem lS.Js (h:lS B s b g W r t st V) (k:yV B s b g V st' V'):lS B s b g W r t st' V':=h.step (k.does h.d.1)
theorem lS.grown (h:lS B s b g W r t st V) (k:V.grownBy V' none):lS B s b g W r t st V':=⟨h.d.grown k,h.l.grown k (by simp),h.new,h.lt⟩
theorem lS.begin (h:Does B s b g W st V) (hB:B<=W.heap.size) (t:As.Tok):lS B s b g W V.heap.size t st (V.alloc (.cells (yW t) 64)) :=
 ⟨h.alloc _,yc.new V _ _,h.2.1.size,hB⟩
theorem lS.put (h:lS B s b g W r t st V) (t':As.Tok):lS B s b g W r t' st (sets V r [(0,.int .i64 t'.kind),(1,.int .i64 t'.pos),(2,.string (bs t'.text)),(3,.int .i64 t'.n)]) :=
 ⟨h.d.local h.l (by unfold vL; decide) h.lt h.new _,by
  have:=Fy [(0,.int .i64 t'.kind),(1,.int .i64 t'.pos),(2,.string (bs t'.text)),(3,.int .i64 t'.n)] h.l
  simpa only [yW,uY,lQ,mF,gH,gF,gG] using this,h.new,h.lt⟩
theorem lS.cells (h:lS B s b g W r t st V):V.cell? ⟨r,0,none⟩=some (.int .i64 t.kind)/\V.cell? ⟨r,1,none⟩=some (.int .i64 t.pos)/\V.cell? ⟨r,2,none⟩=some (.string (bs t.text))/\V.cell? ⟨r,3,none⟩=some (.int .i64 t.n):=by
 have c0:=h.l.cell 0;have c1:=h.l.cell 1;have c2:=h.l.cell 2;have c3:=h.l.cell 3;simp only [yW,bJ,bN,bL] at c0 c1 c2 c3;exact ⟨c0,c1,c2,c3⟩
end
theorem Yy (s:List UInt8) (st:As.St) (h:zy st.tok):zy (As.bV s st).1:=by
 unfold As.bV;split
 ·exact h
 ·exact Mt
def JA (st:As.St):As.St:=if st.tok.kind == 4 then st else As.refuse 3 st.tok.pos st
theorem Zt (s:List UInt8) (t:As.Tok) (st:As.St) (h:(t.kind == 1)=false):As.iA s t st=JA st:=by unfold As.iA JA; rw [h]; rfl
theorem Zk (s:List UInt8) (t:As.Tok) (st:As.St) (h:(t.kind == 1)=true):As.iA s t st=JA (As.operation s t st):=by unfold As.iA JA; rw [h]; rfl
theorem QO (st:As.St) (h:(st.tok.kind == 4)=false):JA st=As.refuse 3 st.tok.pos st:=by unfold JA; rw [h]; rfl
theorem Q8 (st:As.St) (h:(st.tok.kind == 4)=true):JA st=st:=by unfold JA; rw [h]; rfl
theorem ypx (B:Nat) (s:ByteArray) (b g:Nat) (st:As.St) (W:World) (h:ym B s b g st W) (hN:nY W) :
  Calls Tryz.prog 31 #[.pointer (some ⟨b,0,none⟩)] W fun en W'=>en = .returned (.tuple #[])/\Does B s b g W (As.line (sl s) st) W':=by
 have HW:=hid h;have HN:=hid hN;have cA:=hid (EI B s b g st W h);have HB:=hid h.size;clear h hN;obtain ⟨X,hX⟩:∃ X,X=As.line (sl s) st:=⟨_,rfl⟩
 rw [<- hX];unfold As.line at hX;dsimp only at hX;have RS:=hid hX;clear hX;go_enter Tryz.func31,Tryz.ntmps31;go_wp2_with fail;refine cA.o.mono ?_;rintro e V1 ⟨rfl,h1⟩;have D1:=hid (h1.does HW.o);clear h1 cA;generalize As.advance (sl s) st=st1 at *;have TW:=hid (Yy (sl s) st1 D1.o.1.ok.tok);go_wp2_with fail;refine (Yx B s b g st1 V1 D1.o.1).mono ?_;rintro e V2 ⟨rfl,h2⟩;have D2:=hid (D1.o.aP h2);clear h2 D1;generalize As.bV (sl s) st1=R at *;obtain ⟨t,st2⟩:=R;dsimp only at RS D2 TW ⊢;have L0:=hid (lS.begin D2.o HB.o t);have hbl:b < V2.heap.size:=D2.o.1.blk.lt;have hbn:b≠V2.heap.size:=by omega
 obtain ⟨c2,c3,c4,c5⟩:=xk D2.o.1;clear D2;unfold gD
 cases hk:(t.kind == 1)
 ·have d:((t.kind:Int) == 1)=false:=by simp at hk ⊢; omega
  rw [hk,Bool.false_and,if_neg (by simp)] at RS;rw [Zt _ _ _ hk] at RS;clear hk;have hpos:=L0.o.d.1.ok.tok.pos
  cases h4:(st2.tok.kind == 4)
  ·have e1:((st2.tok.kind:Int) == 4)=false:=by simp at h4 ⊢; omega
   have e2:((st2.tok.kind:Int) != 4)=true:=by simp at h4 ⊢; omega
   rw [QO _ h4] at RS;clear h4;go_wp2_with fail;refine (yM B s b g st2 3 st2.tok.pos _ L0.o.d.1 (by omega) hpos).mono ?_;rintro e VF ⟨rfl,hh⟩;have DF:=hid (L0.o.d.aP hh);clear hh;go_wp2
   go_end0
   rw [RS.o];exact ⟨rfl,DF.o⟩
  ·have e1:((st2.tok.kind:Int) == 4)=true:=by simp at h4 ⊢; omega
   have e2:((st2.tok.kind:Int) != 4)=false:=by simp at h4 ⊢; omega
   rw [Q8 _ h4] at RS;clear h4;go_wp2
   go_end0
   rw [RS.o];exact ⟨rfl,L0.o.d⟩
 ·have d:((t.kind:Int) == 1)=true:=by simp at hk ⊢; omega
  rw [hk,Bool.true_and] at RS;have HK:=hid hk;clear hk;go_wp2_with fail;refine (OZ st2.tok [58] _).mono ?_;rintro e V3 ⟨rfl,hg⟩;have L1:=hid (L0.o.grown hg);clear hg L0 c2 c3 c4 c5;generalize V2.heap.size=r at *;obtain ⟨m0,m1,m2,m3⟩:=L1.o.cells
  cases hc:st2.tok.is [58]
  ·rw [hc,if_neg (by simp)] at RS;rw [Zk _ _ _ HK.o] at RS;clear hc;go_wp2_with fail;refine (YI B s b g st2 t _ L1.o.d.1 TW.o (HN.o.below L1.o.d.2.1 L1.o.d.1.lo.1)).mono ?_;rintro e V7 ⟨rfl,hh⟩;have L7:=hid (L1.o.step hh);clear hh;generalize As.operation (sl s) t st2=zo at *;clear m0 m1 m2 m3;obtain ⟨b2,b3,b4,b5⟩:=xk L7.o.d.1;have hpos:=L7.o.d.1.ok.tok.pos
   cases h4:(zo.tok.kind == 4)
   ·have e1:((zo.tok.kind:Int) == 4)=false:=by simp at h4 ⊢; omega
    have e2:((zo.tok.kind:Int) != 4)=true:=by simp at h4 ⊢; omega
    rw [QO _ h4] at RS;clear h4;go_wp2_with fail;refine (yM B s b g zo 3 zo.tok.pos _ L7.o.d.1 (by omega) hpos).mono ?_;rintro e VF ⟨rfl,hh⟩;have DF:=hid (L7.o.d.aP hh);clear hh;go_wp2
    go_end0
    rw [RS.o];exact ⟨rfl,DF.o⟩
   ·have e1:((zo.tok.kind:Int) == 4)=true:=by simp at h4 ⊢; omega
    have e2:((zo.tok.kind:Int) != 4)=false:=by simp at h4 ⊢; omega
    rw [Q8 _ h4] at RS;clear h4;go_wp2
    go_end0
    rw [RS.o];exact ⟨rfl,L7.o.d⟩
  ·rw [hc,if_pos rfl] at RS;clear hc;go_wp2_with fail;refine (yog B s b g st2 t V3 L1.o.d.1 TW.o).mono ?_;rintro e V4 ⟨rfl,h4⟩;have L2:=hid (L1.o.step h4);clear h4 L1 m0 m1 m2 m3 TW HK;generalize As.label t st2=iU at *;go_wp2_with fail;refine (EI B s b g iU V4 L2.o.d.1).mono ?_;rintro e V5 ⟨rfl,h5⟩;have L3:=hid (L2.o.Js h5);clear h5 L2;generalize As.advance (sl s) iU=sI at *;have TW:=hid (Yy (sl s) sI L3.o.d.1.ok.tok);go_wp2_with fail;refine (Yx B s b g sI V5 L3.o.d.1).mono ?_;rintro e V6 ⟨rfl,h6⟩;have L4:=hid (L3.o.Js h6);clear h6 L3;generalize As.bV (sl s) sI=R6 at *;obtain ⟨t6,Eo⟩:=R6;dsimp only at RS L4 TW ⊢
   unfold gD;have L5:=hid (L4.o.put t6);have v0:=L4.o.l.free 0;have v1:=L4.o.l.free 1;have v2:=L4.o.l.free 2;have v3:=L4.o.l.free 3;obtain ⟨m0,m1,m2,m3⟩:=L4.o.cells;obtain ⟨b2,b3,b4,b5⟩:=xk L4.o.d.1;have hrb:r≠b:=by
    intro e;have h1:=L4.o.l;rw [e] at h1
    have:=h1.symm.trans L4.o.d.1.blk
    simp [yW,yH] at this
   have hbr:b≠r:=fun e=>hrb e.symm
   clear L4 d
   cases hk:(t6.kind == 1)
   ·have d:((t6.kind:Int) == 1)=false:=by simp at hk ⊢; omega
    rw [Zt _ _ _ hk] at RS;clear hk;have hpos:=L5.o.d.1.ok.tok.pos
    cases h4:(Eo.tok.kind == 4)
    ·have e1:((Eo.tok.kind:Int) == 4)=false:=by simp at h4 ⊢; omega
     have e2:((Eo.tok.kind:Int) != 4)=true:=by simp at h4 ⊢; omega
     rw [QO _ h4] at RS;clear h4;go_wp2_with fail;refine (yM B s b g Eo 3 Eo.tok.pos _ L5.o.d.1 (by omega) hpos).mono ?_;rintro e VF ⟨rfl,hh⟩;have DF:=hid (L5.o.d.aP hh);clear hh;go_wp2
     go_end0
     rw [RS.o];exact ⟨rfl,DF.o⟩
    ·have e1:((Eo.tok.kind:Int) == 4)=true:=by simp at h4 ⊢; omega
     have e2:((Eo.tok.kind:Int) != 4)=false:=by simp at h4 ⊢; omega
     rw [Q8 _ h4] at RS;clear h4;go_wp2
     go_end0
     rw [RS.o];exact ⟨rfl,L5.o.d⟩
   ·have d:((t6.kind:Int) == 1)=true:=by simp at hk ⊢; omega
    rw [Zk _ _ _ hk] at RS;clear hk;go_wp2_with fail;refine (YI B s b g Eo t6 _ L5.o.d.1 TW.o (HN.o.below L5.o.d.2.1 L5.o.d.1.lo.1)).mono ?_;rintro e V7 ⟨rfl,hh⟩;have L7:=hid (L5.o.step hh);clear hh;generalize As.operation (sl s) t6 Eo=zo at *;clear m0 m1 m2 m3 v0 v1 v2 v3 b2 b3 b4 b5;obtain ⟨b2,b3,b4,b5⟩:=xk L7.o.d.1;have hpos:=L7.o.d.1.ok.tok.pos
    cases h4:(zo.tok.kind == 4)
    ·have e1:((zo.tok.kind:Int) == 4)=false:=by simp at h4 ⊢; omega
     have e2:((zo.tok.kind:Int) != 4)=true:=by simp at h4 ⊢; omega
     rw [QO _ h4] at RS;clear h4;go_wp2_with fail;refine (yM B s b g zo 3 zo.tok.pos _ L7.o.d.1 (by omega) hpos).mono ?_;rintro e VF ⟨rfl,hh⟩;have DF:=hid (L7.o.d.aP hh);clear hh;go_wp2
     go_end0
     rw [RS.o];exact ⟨rfl,DF.o⟩
    ·have e1:((zo.tok.kind:Int) == 4)=true:=by simp at h4 ⊢; omega
     have e2:((zo.tok.kind:Int) != 4)=false:=by simp at h4 ⊢; omega
     rw [Q8 _ h4] at RS;clear h4;go_wp2
     go_end0
     rw [RS.o];exact ⟨rfl,L7.o.d⟩
def EU (y:Lk.Sym):Lk.Sym:=if y.ah=0/\y.bind=0 then ⟨y.name,1,y.ah,y.off⟩ else y
theorem yjE (ys:List Lk.Sym):As.kM ys=ys.map EU:=rfl
def xg (ys:List Lk.Sym) (k:Nat):List Lk.Sym:=(ys.take k).map EU ++ ys.drop k
theorem Yt (ys:List Lk.Sym) (k:Nat):(xg ys k).length=ys.length:=by simp [xg]; omega
theorem Zw (ys:List Lk.Sym) (k:Nat) (h:k < ys.length):(xg ys k)[k]'(by rw [Yt]; exact h)=ys[k]:=by
 unfold xg;rw [List.getElem_append_right (by simp; omega)];simp [List.length_take,Nat.min_eq_left (Nat.le_of_lt h)]
theorem Zl (ys:List Lk.Sym) (k:Nat) (h:k < ys.length):xg ys (k+1)=(xg ys k).set k (EU ys[k]):=by
 unfold xg;rw [List.take_succ_eq_append_getElem h,List.map_append,List.set_append_right _ _ (by simp; omega),mE h];have e:k - ((ys.take k).map EU).length=0:=by simp; omega
 rw [e,gG];simp
theorem yow (ys:List Lk.Sym):xg ys ys.length=As.kM ys:=by rw [yjE]; simp [xg]
theorem ynf (ys:List Lk.Sym) (k:Nat) (h:k < ys.length) (hb:EU ys[k]=ys[k]):xg ys (k+1)=xg ys k:=by
 rw [Zl ys k h,hb]
 conv=>lhs; rw [<- Zw ys k h]
 exact List.set_getElem_self _
def MJ (st:As.St) (ys:List Lk.Sym):As.St:={ st with obj:={ st.obj with syms:=ys } }
theorem yjD (B:Nat) (s:ByteArray) (b g:Nat) (st:As.St) (W:World) (h:ym B s b g st W) :
  Calls Tryz.prog 34 #[.pointer (some ⟨b,0,none⟩)] W fun en W'=>en = .returned (.tuple #[])/\Does B s b g W (MJ st (As.kM st.obj.syms)) W':=by
 have HW:=hid h;have c14:=uW h;obtain ⟨vt,vf,vd,va,vs,vr,ho⟩:=h.own;obtain ⟨gJ,cs,rfl⟩:=yh ho.syms;have g5:=ho.blk.cell 5;simp only [bJ,bN,bL] at g5;have hn16:=h.ok.syms;clear ho h;generalize hys:st.obj.syms=ys at *;have ST0:=hid (show MJ st (xg ys 0)=st by unfold MJ xg; rw [<- hys]; simp);clear hys;go_enter Tryz.func34,Tryz.ntmps34;go_wp2;clear c14 g5
 go_loopw [11] (fun i wr=>∃ k:Nat,k<=ys.length/\i = .int .i64 k/\Does B s b g W (MJ st (xg ys k)) wr) (fun i _=>ys.length - (intOf i).toNat)
 case atStart=>exact ⟨0,Nat.zero_le _,rfl,by rw [ST0.o]; exact HW.o.does⟩
 case round =>
  obtain ⟨k,hk,rfl,hd⟩:=hrel;have D:=hid hd;clear hd;by_cases hlt:k < ys.length
  ·have hlt':(k:Int) < (ys.length:Int):=by omega
   have hl:(MJ st (xg ys k)).obj.syms.length=ys.length:=Yt ys k;obtain ⟨vt,vf,vd,va,sg,cs,vr,ho,g5,k1,k2,k3,hfz,n1,n2⟩:=Rt D.o.1 k (by rw [hl]; exact hlt);have e0:(MJ st (xg ys k)).obj.syms[k]'(by rw [hl]; exact hlt)=ys[k]:=Zw ys k hlt;rw [e0] at k1 k2 k3;have hcap:=rR ho.syms;have HO:=hid ho;have c14:=uW D.o.1;have f1:=hfz (k * 4+1);have P:=hid (fun hj:iB (EU ys[k])=(iB ys[k]).set 1 (.int .i64 1)=>D.o.after (D.o.1.uN HO.o k 1 (by rw [hl]; exact hlt) (by omega) (.int .i64 1) (EU ys[k]) (by rw [e0]; exact hj)));rw [hl] at g5 hcap;clear ho hfz;have MS:=hid (Zl ys k hlt);have MM:=hid (ynf ys k hlt)
   have BO:=hid (show EU ys[k]=if ys[k].ah=0/\ys[k].bind=0 then ⟨ys[k].name,1,ys[k].ah,ys[k].off⟩ else ys[k] from rfl);have gg1:(0:Int)<=(k:Int):=by omega
   clear e0 HO hl;by_cases z1:ys[k].ah=0
   ·have d1:(ys[k].ah == 0)=true:=by simp [z1]
    by_cases z2:ys[k].bind=0
    ·have d2:(ys[k].bind == 0)=true:=by simp [z2]
     have B1:=hid (show EU ys[k]=⟨ys[k].name,1,ys[k].ah,ys[k].off⟩ by rw [BO.o,if_pos ⟨z1,z2⟩]);have F:=hid (P.o (by rw [B1.o]; rfl));clear z1 z2 P;go_wp2
     go_roundw
     case rel=>exact ⟨k+1,by omega,by go_num,by rw [MS.o]; exact F.o⟩
     case measure=>simp [intOf]; omega
    ·have d2:(ys[k].bind == 0)=false:=by simp [z2]
     have B1:=hid (show EU ys[k]=ys[k] by rw [BO.o,if_neg (fun c=>z2 c.2)]);clear z1 z2 P;go_wp2
     go_roundw
     case rel=>exact ⟨k+1,by omega,by go_num,by rw [MM.o B1.o]; exact D.o⟩
     case measure=>simp [intOf]; omega
   ·have d1:(ys[k].ah == 0)=false:=by simp [z1]
    have B1:=hid (show EU ys[k]=ys[k] by rw [BO.o,if_neg (fun c=>z1 c.1)]);clear z1 P;go_wp2
    go_roundw
    case rel=>exact ⟨k+1,by omega,by go_num,by rw [MM.o B1.o]; exact D.o⟩
    case measure=>simp [intOf]; omega
  ·obtain rfl:k=ys.length:=by omega
   go_wp2
   go_end0
   rw [<- yow];exact ⟨rfl,D.o⟩
def vB (rs:List Lk.Rel):Nat->List Lk.Rel
 | 0=>[]
 | c+1=>vB rs c ++ rs.filter (fun r=>r.ah=((c+1:Nat):Int))
def zX (rs:List Lk.Rel) (c k:Nat):List Lk.Rel:=vB rs c ++ (rs.take k).filter (fun r=>r.ah=((c+1:Nat):Int))
theorem ykC (rs:List Lk.Rel) (c:Nat):zX rs c rs.length=vB rs (c+1):=by unfold zX; rw [List.take_length]; rfl
theorem yje (rs:List Lk.Rel) (c:Nat):zX rs c 0=vB rs c:=by simp [zX]
theorem ykD (rs:List Lk.Rel) (c k:Nat) (h:k < rs.length) (he:rs[k].ah=((c+1:Nat):Int)):zX rs c (k+1)=zX rs c k ++ [rs[k]]:=by
 unfold zX;rw [List.take_succ_eq_append_getElem h,List.filter_append,List.append_assoc]
 congr 1
 rw [List.filter_cons_of_pos (by simpa using he)];rfl
theorem ylG (rs:List Lk.Rel) (c k:Nat) (h:k < rs.length) (he:¬ rs[k].ah=((c+1:Nat):Int)):zX rs c (k+1)=zX rs c k:=by
 unfold zX;rw [List.take_succ_eq_append_getElem h,List.filter_append]
 congr 1
 rw [List.filter_cons_of_neg (by simpa using he)];simp
theorem Yh (rs:List Lk.Rel):vB rs 3=As.gW rs:=by
 simp only [vB,As.gW,List.nil_append];rfl
theorem ykp (rs:List Lk.Rel):(As.gW rs).length<=rs.length:=by
 unfold As.gW
 induction rs with
 | nil=>simp
 | cons r rs ih =>
  simp only [eP,iV] at ih ⊢;rcases (show r.ah=1\/r.ah=2\/r.ah=3\/¬ (r.ah=1\/r.ah=2\/r.ah=3) by omega) with h | h | h | h
  ·rw [List.filter_cons_of_pos (by simp [h]),List.filter_cons_of_neg (by simp [h]),List.filter_cons_of_neg (by simp [h])]; simp only [iV]; omega
  ·rw [List.filter_cons_of_neg (by simp [h]),List.filter_cons_of_pos (by simp [h]),List.filter_cons_of_neg (by simp [h])]; simp only [iV]; omega
  ·rw [List.filter_cons_of_neg (by simp [h]),List.filter_cons_of_neg (by simp [h]),List.filter_cons_of_pos (by simp [h])]; simp only [iV]; omega
  ·rw [List.filter_cons_of_neg (by simp; omega),List.filter_cons_of_neg (by simp; omega),List.filter_cons_of_neg (by simp; omega)]; omega
theorem yqU (rs:List Lk.Rel) (c:Nat):(vB rs c).length<=c * rs.length:=by
 induction c with
 | zero=>simp [vB]
 | succ c ih =>
  have h:=List.length_filter_le (fun r:Lk.Rel=>decide (r.ah=((c+1:Nat):Int))) rs;simp only [vB,eP];rw [Nat.succ_mul];omega
theorem yrl (rs:List Lk.Rel) (c k:Nat) (hc:c<=2) (hr:rs.length<=32):(zX rs c k).length<=96:=by
 have h1:=yqU rs c;have h2:=List.length_filter_le (fun r:Lk.Rel=>decide (r.ah=((c+1:Nat):Int))) (rs.take k);have h3:(rs.take k).length<=32:=by rw [List.length_take]; omega
 have h4:c * rs.length<=2 * 32:=Nat.mul_le_mul hc hr;unfold zX;rw [eP];omega
def yqk (st:As.St) (rs:List Lk.Rel):As.St:={ st with obj:={ st.obj with aj:=rs } }
theorem yhp (B:Nat) (s:ByteArray) (b g:Nat) (st:As.St) (W:World) (h:ym B s b g st W) :
  Calls Tryz.prog 35 #[.pointer (some ⟨b,0,none⟩)] W fun en W'=>en = .returned (.tuple #[])/\Does B s b g W (yqk st (As.gW st.obj.aj)) W':=by
 obtain ⟨i2,hi2,hx0,hx1,hx2⟩:=info_parts Tryz.uw;have HW:=hid h;have c14:=uW h;obtain ⟨vt,vf,vd,va,vs,vr,ho⟩:=h.own;obtain ⟨ar,cr,rfl⟩:=yh ho.aj;have HO:=hid ho;have RI:=hid (Fj.aU ho.aj);have hcap:=rR ho.aj;have g6:=ho.blk.cell 6;have fg:=ho.blk.free 6;simp only [bJ,bN,bL] at g6;have hn32:=h.ok.aj;clear ho h;generalize hrs:st.obj.aj=rs at *;have FZ:=hid hrs;clear hrs;go_enter Tryz.func35,Tryz.ntmps35;go_wp2
 go_loopw [2,3] (fun v i wr=>∃ c:Nat,c<=3/\i = .int .i64 (c+1:Nat)/\wr.ownsRow W.heap.size 102 5 v (vB rs c).length ((vB rs c).flatMap iN)/\W.grownBy wr none) (fun _ i _=>4 - (intOf i).toNat)
 case atStart=>exact ⟨0,by omega,rfl,World.ownsRow_nil _ _ _ _,World.grownBy.refl _ _⟩
 case round =>
  obtain ⟨c,hc3,rfl,hown,hgr⟩:=hrel;obtain ⟨av,cv,rfl⟩:=yh hown;have HOW:=hid hown;have HG:=hid hgr;have OA:=yd c14 hgr;have q6:=yd g6 hgr;clear hown hgr;by_cases hlt:c<=2
  ·have g1:(c:Int)+1<=3:=by omega
   go_wp2
   go_loopw [2,18] (fun v i w2=>∃ k:Nat,k<=rs.length/\i = .int .i64 k/\w2.ownsRow W.heap.size 102 5 v (zX rs c k).length ((zX rs c k).flatMap iN)/\W.grownBy w2 none) (fun _ i _=>rs.length - (intOf i).toNat)
   case atStart=>exact ⟨0,Nat.zero_le _,rfl,by rw [yje]; exact HOW.o,HG.o⟩
   case round =>
    obtain ⟨k,hk,rfl,hown,hgr⟩:=hrel;obtain ⟨Te,Ti,rfl⟩:=yh hown;have HG2:=hid hgr;have hsz:=hgr.size;have hle:=yrl rs c k hlt hn32;by_cases hkl:k < rs.length
    ·obtain ⟨sg,hsg,hgs,hcs⟩:=RI.o.grown hgr (by omega);obtain ⟨k0,k1,k2,k3,k4⟩:=hcs k hkl;clear hcs hgr;subst hsg;have hk':(k:Int) < (rs.length:Int):=by omega
     have aag:(k:Int)<=(cr:Int):=by omega
     by_cases e1:rs[k].ah=((c+1:Nat):Int)
     ·have d:(rs[k].ah == (c:Int)+1)=true:=by simp; omega
      have E:=hid (ykD rs c k hkl e1);clear e1;have AG:Hd (W.grownBy ((wr.alloc (.cells #[.int .i64 rs[k].ah,.int .i64 rs[k].off,.int .i64 rs[k].kind,.int .i64 rs[k].sym,.int .i64 rs[k].addend] 102)).alloc (.cells #[.int .i64 rs[k].ah,.int .i64 rs[k].off,.int .i64 rs[k].kind,.int .i64 rs[k].sym,.int .i64 rs[k].addend] 102)) none):=ya (ya HG2.o (aH _ _ _)) (aH _ _ _);go_wp2_with (at_builtin; refine wpList_append_own _ rfl _ _ 69 rfl W.heap.size 102 i2 (.agg #[.int .i64 0,.int .i64 0,.int .i64 0,.int .i64 0,.int .i64 0]) 5 40 Tryz.underlying69 hi2 hx0 hx1 hx2 rfl (by decide) _ _ _ rfl ((hown.alloc _).alloc _) ⟨wr.heap.size+1,0,none⟩ 1 1 (iN rs[k]) rfl rfl (Ws _ _ _ _) (by intro u hu; simp [iN] at hu; rcases hu with rfl | rfl | rfl | rfl | rfl <;> rfl) (by unfold maxLen; omega) (by omega) (by simp; omega) ?_; intro v' w3 hown' hgrow _; obtain ⟨oP,cv',rfl⟩:=yh hown'; have K:=hid (Mw AG.o hgrow (fun b hb=>(hown.lt b hb).1)); have HO3:=hid hown'; clear hgrow hown')
      go_wp2
      go_roundw
      case rel =>
       refine ⟨_,_,_,_,_,_,_,_,_,_,_,_,_,_,_,⟨k+1,by omega,?_,?_,K.o⟩,rfl⟩
       ·go_num
       ·rw [E.o,eP,List.flatMap_append]; simpa using HO3.o
      case measure=>simp [intOf]; omega
     ·have d:(rs[k].ah == (c:Int)+1)=false:=by simp; omega
      have E:=hid (ylG rs c k hkl e1);have Fv:=hid hown;clear e1 hown;go_wp2
      go_roundw
      case rel=>exact ⟨k+1,by omega,by go_num,by rw [E.o]; exact Fv.o.alloc _,ya HG2.o (aH _ _ _)⟩
      case measure=>simp [intOf]; omega
    ·obtain rfl:k=rs.length:=by omega
     have Fv:=hid hown;clear hown hgr;go_wp2
     go_roundw
     case rel=>exact ⟨c+1,by omega,by go_num,by rw [<- ykC]; exact Fv.o,HG2.o⟩
     case measure=>simp [intOf]; omega
  ·obtain rfl:c=3:=by omega
   have qf:wr.frozen? ⟨g,6,none⟩=false:=(HO.o.blk.grown HG.o (by simp)).free 6;go_wp2
   go_end0
   rw [<- Yh];have gs:=yf wr g 6 (.slice av (vB rs 3).length cv);have aah:=HO.o.blk.lt;have XW:∀ k,Value.ownBlock (.slice av (vB rs 3).length cv)=some k->W.heap.size<=k:=fun k hk=>(HOW.o.lt k hk).1
   have nr:nW B W (wr.setCell ⟨g,6,none⟩ (.slice av (vB rs 3).length cv)) b g (.slice ar rs.length cr) (.slice av (vB rs 3).length cv) :=
    ⟨fun k hk _ hkg=>(gs.block k (by have:=HG.o.size; omega) (by simpa using hkg)).trans (HG.o.block k hk (by simp)),fun k hk=>.inr (XW k hk),gs.os.trans HG.o.os,gs.tape.trans HG.o.tape,gs.output.trans HG.o.output,Nat.le_trans HG.o.size gs.size⟩
   have nb:=(HO.o.blk.grown HG.o (by simp)).set 6 (.slice av (vB rs 3).length cv);have hle:(vB rs 3).length<=32:=by rw [Yh]; have:=ykp rs; omega
   refine ⟨rfl,HW.o.zN HO.o nr (vB rs 3) hle (by simpa using nb) ?_⟩;refine yZ (Mh HOW.o fun k hk e=>?_) HW.o.size
   have:=XW k hk
   omega
end Go.Proofs.YtpgklkhgfcjceaaGreatDoor

namespace Go.Proofs.YtpgklkhgfcjceaaGreatDoor
namespace As
theorem oH (f:UInt8->Bool) (s:List UInt8) (p:Nat):p<=skip f s p:=by unfold skip; omega
theorem zi (s:List UInt8) (p:Nat):p<=(iI s p).2.2:=by
 unfold iI;split
 ·simp
 split
 ·exact oH _ _ _
 ·exact oH _ _ _
theorem Bb (s:List UInt8) (q:Nat):q<=(iL s q).2.2:=by
 unfold iL;split
 ·exact Nat.le_refl _
 split
 ·exact Nat.le_refl _
 split
 ·exact zi s q
 split
 ·exact oH _ _ _
 split
 ·exact Nat.le_succ _
 ·exact Nat.le_refl _
theorem zP (s:List UInt8) (p:Nat):p<=(next s p).2.2:=Nat.le_trans (oH _ s p) (Bb s _)
theorem eO (e pos:Nat) (st:St):(refuse e pos st).p=st.p:=by unfold refuse; split <;> rfl
theorem jo (c:Bool) (e pos:Nat) (st:St):(aV c e pos st).p=st.p:=by unfold aV; split; exact eO _ _ _; rfl
theorem fM (s:List UInt8) (st:St):st.p<=(advance s st).p:=by
 unfold advance;split
 ·exact Nat.le_refl _
 split
 ·exact zP s st.p
 ·rw [eO]; exact zP s st.p
theorem qb (s:List UInt8) (st:St):st.p<=(bV s st).2.p:=by
 unfold bV;split
 ·exact fM s st
 ·exact Nat.le_refl _
theorem pV (t:Tok) (st:St):(bR t st).p=st.p:=by unfold bR; rw [jo,jo,jo]
theorem kI (t:Tok) (st:St):(aJ t st).2.p=st.p:=by
 unfold aJ;split
 ·rfl
 split
 ·rfl
 split
 ·exact eO _ _ _
 ·rfl
theorem G8 (t:Tok) (st:St):(label t st).p=st.p:=by
 unfold label;dsimp only;have h:=kI t (bR t st);rw [pV] at h;split
 ·exact h
 split
 ·rw [eO]; exact h
 ·exact h
theorem zM (s:List UInt8) (st:St):st.p<=(name s st).2.p:=by
 unfold name;split
 ·have:=fM s (bR st.tok st); rw [pV] at this; exact this
 ·rw [eO]; exact Nat.le_refl _
theorem Gd (s:List UInt8) (b:Int) (st:St):st.p<=(bind s b st).p:=by
 unfold bind;dsimp only;have h:=kI (name s st).1 (name s st).2;have h2:=zM s st;split
 ·omega
 split
 ·rw [eO]; omega
 ·show _<=(aJ (name s st).1 (name s st).2).2.p; omega
theorem eu (s c:List UInt8) (st:St):st.p<=(sign s c st).p:=by
 unfold sign;split
 ·exact fM s st
 ·rw [eO]; exact Nat.le_refl _
theorem aZ (s:List UInt8) (st:St):st.p<=(register s st).2.p:=by
 unfold register;split
 ·split
  ·rw [eO]; exact Nat.le_refl _
  ·exact fM s st
 ·rw [eO]; exact Nat.le_refl _
theorem nH (s:List UInt8) (neg:Bool) (pos:Nat) (lo hi:Int) (st:St):st.p<=(aT s neg pos lo hi st).2.p:=by
 unfold aT;generalize (if neg then -(st.tok.n:Int) else (st.tok.n:Int))=x;split
 ·by_cases h:x < lo\/hi < x
  ·rw [if_pos h,eO]; exact Nat.le_refl _
  ·rw [if_neg h]; exact fM s st
 ·rw [eO]; exact Nat.le_refl _
theorem fD (s:List UInt8) (lo hi:Int) (st:St):st.p<=(number s lo hi st).2.p:=by
 unfold number;split
 ·exact Nat.le_trans (fM s st) (nH _ _ _ _ _ _)
 ·exact nH _ _ _ _ _ _
theorem mR (s:List UInt8) (st:St):st.p<=(symbol s st).2.p:=by
 unfold symbol;dsimp only;rw [kI];exact zM s st
theorem mV (s:List UInt8) (st:St):st.p<=(target s st).2.p:=by
 unfold target;dsimp only;have h:=mR s st;split
 ·exact Nat.le_trans h (Nat.le_trans (fM s _) (fD _ _ _ _))
 split
 ·exact Nat.le_trans h (Nat.le_trans (fM s _) (fD _ _ _ _))
 ·exact h
theorem rA (s:List UInt8) (st:St):st.p<=(place s st).2.p :=
 Nat.le_trans (fD s _ _ st) (Nat.le_trans (eu s _ _) (Nat.le_trans (aZ s _) (eu s _ _)))
theorem tC (ws:List Int) (st:St):(lay ws st).p=st.p:=by
 unfold lay;split
 ·exact eO _ _ _
 split <;> rfl
theorem jL (kind:Int) (sym:Nat) (addend:Int) (ws:List Int) (st:St):(bZ kind sym addend ws st).p=st.p:=by
 unfold bZ;dsimp only;split
 ·exact jo _ _ _ _
 ·rw [tC]; exact jo _ _ _ _
theorem gV (op rd au aC:Nat) (n:Int) (st:St):(bC op rd au aC n st).p=st.p:=tC _ _
theorem kY (reg op rd au aC:Nat) (n:Int) (sym:Nat) (addend:Int) (st:St):(bX reg op rd au aC n sym addend st).p=st.p:=by
 unfold bX; rw [jL,jo]
theorem kJ {a b c:Nat} (h:a<=b) (k:b<=c):a<=c:=Nat.le_trans h k
theorem uR (s:List UInt8) (op:Nat) (st:St):st.p<=(eB s op st).p:=by
 unfold eB; dsimp only; rw [gV];exact kJ (aZ s st) (kJ (eu s _ _) (kJ (aZ s _) (kJ (eu s _ _) (aZ s _))))
theorem sM (s:List UInt8) (op:Nat) (st:St):st.p<=(dK s op st).p:=by
 unfold dK; dsimp only; rw [gV];exact kJ (aZ s st) (kJ (eu s _ _) (kJ (aZ s _) (kJ (eu s _ _) (fD s _ _ _))))
theorem Ey (s:List UInt8) (st:St):st.p<=(upper s st).p:=by
 unfold upper; dsimp only; rw [gV];exact kJ (aZ s st) (kJ (eu s _ _) (fD s _ _ _))
theorem Hu (s:List UInt8) (st:St):st.p<=(load s st).p:=by
 unfold load; dsimp only;split
 ·rw [kY]; exact kJ (aZ s st) (kJ (eu s _ _) (mV s _))
 ·rw [gV]; exact kJ (aZ s st) (kJ (eu s _ _) (rA s _))
theorem Es (s:List UInt8) (st:St):st.p<=(store s st).p:=by
 unfold store; dsimp only;split
 ·rw [kY]; exact kJ (aZ s st) (kJ (eu s _ _) (kJ (mV s _) (kJ (eu s _ _) (aZ s _))))
 ·rw [gV]; exact kJ (aZ s st) (kJ (eu s _ _) (rA s _))
theorem qX (s:List UInt8) (st:St):st.p<=(dh s st).p:=by
 unfold dh; dsimp only; rw [kY];exact kJ (aZ s st) (kJ (eu s _ _) (mV s _))
theorem qj (s:List UInt8) (st:St):st.p<=(bO s st).p:=by
 unfold bO; dsimp only; rw [gV];exact kJ (aZ s st) (kJ (eu s _ _) (rA s _))
theorem JW (st:St):(bare st).p=st.p:=by
 unfold bare;split
 ·exact gV ..
 split
 ·exact gV ..
 split
 ·exact gV ..
 ·rfl
theorem Aq (s:List UInt8) (op:Nat) (st:St):st.p<=(branch s op st).p:=by
 unfold branch; dsimp only; rw [jL];exact kJ (aZ s st) (kJ (eu s _ _) (kJ (aZ s _) (kJ (eu s _ _) (mR s _))))
theorem qV (s:List UInt8) (rd:Nat) (st:St):st.p<=(fF s rd st).p:=by
 unfold fF; dsimp only; rw [jL];exact mR s st
theorem wo (s:List UInt8) (st:St):st.p<=(fE s st).p:=by
 unfold fE; dsimp only;exact kJ (aZ s st) (kJ (eu s _ _) (qV s _ _))
theorem Hz (s:List UInt8) (st:St):st.p<=(move s st).p:=by
 unfold move; dsimp only; rw [gV];exact kJ (aZ s st) (kJ (eu s _ _) (aZ s _))
theorem sw (s:List UInt8) (st:St):st.p<=(dI s st).p:=by
 unfold dI; dsimp only;split
 ·rw [gV]; exact kJ (aZ s st) (kJ (eu s _ _) (fD s _ _ _))
 ·rw [tC]; exact kJ (aZ s st) (kJ (eu s _ _) (fD s _ _ _))
theorem Gh (s:List UInt8) (st:St):st.p<=(call s st).p:=by
 unfold call; dsimp only; rw [jL];exact mR s st
theorem Bt (st:St):(fH st).p=st.p:=by
 unfold fH
 repeat' split
 all_goals rfl
theorem IG (s:List UInt8) (st:St):st.p<=(word s st).p:=by
 unfold word; dsimp only;split
 ·rw [jL]; exact mV s st
 ·rw [tC]; exact fD s _ _ st
theorem Em (s:List UInt8) (st:St):st.p<=(space s st).p:=by
 unfold space; dsimp only;split
 ·rw [tC]; exact fD s _ _ st
 ·rw [eO]; exact fD s _ _ st
theorem sH (k:Int) (st:St):(bT k st).p=st.p:=by unfold bT; split <;> rfl
theorem Al (b:Nat) (st:St):(dB b st).p=st.p:=by
 unfold dB;split
 ·split
  ·exact jL _ _ _ _ _
  ·rfl
 ·exact tC _ _
theorem CO (s:List UInt8) (st:St):st.p<=(align s st).p:=by
 unfold align; dsimp only;split
 ·exact fD s _ _ st
 ·rw [sH,Al]; exact fD s _ _ st
theorem qQ (s:List UInt8) (shape op:Nat) (st:St):st.p<=(instruction s shape op st).p:=by
 unfold instruction;by_cases h:shape=1
 ·rw [if_pos h]; exact uR _ _ _
 rw [if_neg h];clear h;by_cases h:shape=2
 ·rw [if_pos h]; exact sM _ _ _
 rw [if_neg h];clear h;by_cases h:shape=3
 ·rw [if_pos h]; exact Ey _ _
 rw [if_neg h];clear h;by_cases h:shape=4
 ·rw [if_pos h]; exact Hu _ _
 rw [if_neg h];clear h;by_cases h:shape=5
 ·rw [if_pos h]; exact Es _ _
 rw [if_neg h];clear h;by_cases h:shape=6
 ·rw [if_pos h]; exact qj _ _
 rw [if_neg h];clear h;by_cases h:shape=7
 ·rw [if_pos h]; rw [JW]; exact Nat.le_refl _
 rw [if_neg h];clear h;by_cases h:shape=8
 ·rw [if_pos h]; exact Aq _ _ _
 rw [if_neg h];clear h;by_cases h:shape=9
 ·rw [if_pos h]; exact wo _ _
 rw [if_neg h];clear h;by_cases h:shape=10
 ·rw [if_pos h]; exact qV _ _ _
 rw [if_neg h];clear h;by_cases h:shape=11
 ·rw [if_pos h]; exact Hz _ _
 rw [if_neg h];clear h;by_cases h:shape=12
 ·rw [if_pos h]; exact sw _ _
 rw [if_neg h];clear h;by_cases h:shape=13
 ·rw [if_pos h]; exact Gh _ _
 rw [if_neg h];clear h;by_cases h:shape=14
 ·rw [if_pos h]; exact qX _ _
 rw [if_neg h];clear h;exact Nat.le_refl _
theorem uj (s:List UInt8) (shape:Nat) (st:St):st.p<=(directive s shape st).p:=by
 unfold directive;split
 ·rw [Bt]; exact Nat.le_refl _
 split
 ·exact IG _ _
 split
 ·exact Em _ _
 split
 ·exact CO _ _
 split
 ·exact Gd _ _ _
 ·exact Nat.le_refl _
theorem uK (s:List UInt8) (t:Tok) (st:St):st.p<=(operation s t st).p:=by
 unfold operation;split
 ·rw [eO]; exact Nat.le_refl _
 split
 ·rw [eO]; exact Nat.le_refl _
 split
 ·exact qQ _ _ _ { st with op:=t }
 ·exact uj _ _ { st with op:=t }
theorem tH (s:List UInt8) (t:Tok) (st:St):st.p<=(iA s t st).p:=by
 unfold iA; dsimp only;have h:st.p<=(if t.kind == 1 then operation s t st else st).p:=by
  split
  ·exact uK _ _ _
  ·exact Nat.le_refl _
 generalize (if t.kind == 1 then operation s t st else st)=x at h ⊢;split
 ·exact h
 ·rw [eO]; exact h
theorem zK (s:List UInt8) (st:St):st.p<=(line s st).p:=by
 unfold line; dsimp only;have h:=kJ (fM s st) (qb s (advance s st));split
 ·refine kJ h (kJ (Nat.le_of_eq (G8 _ _).symm) (kJ (fM s _) (kJ (qb s _) (tH _ _ _))))
 ·exact kJ h (tH _ _ _)
theorem pW (s:List UInt8) (st:St) (h:(bG s st).1=true):st.p < (bG s st).2.p/\(bG s st).2.p<=s.length:=by
 unfold bG at h ⊢;split at h
 ·cases h
 ·rename_i hf;rw [if_neg hf];have k:=oH eY s st.p;unfold lineEnd at h ⊢;split at h
  ·rename_i hl;rw [if_pos hl];exact ⟨by show st.p < skip eY s st.p+1; omega,by show skip eY s st.p+1<=s.length; omega⟩
  ·cases h
end As
end Go.Proofs.YtpgklkhgfcjceaaGreatDoor

namespace Go.Proofs.YtpgklkhgfcjceaaGreatDoor
namespace As
structure Tm (o:Lk.Obj):Prop where
 text:o.text.length<=1200
 far:o.far.length<=1200
 data:o.data.length<=64
 bss:0<=o.bss/\o.bss<=64
 names:∀ y∈o.syms,y.name.length<=6
 uH:∀ r∈o.aj,r.off<=4800
theorem Bq {o:Lk.Obj} (h:Tm o) (ah:Nat):bK o ah<=1200:=by
 have h1:=h.text;have h2:=h.far;have h3:=h.data;have h4:=h.bss;unfold bK
 repeat' split
 all_goals omega
theorem bY (e pos:Nat) (st:St):(refuse e pos st).obj=st.obj:=by unfold refuse; split <;> rfl
theorem jc (c:Bool) (e pos:Nat) (st:St):(aV c e pos st).obj=st.obj:=by unfold aV; split; exact bY _ _ _; rfl
theorem dY (s:List UInt8) (st:St):(advance s st).obj=st.obj:=by
 unfold advance;split
 ·rfl
 split
 ·rfl
 ·rw [bY]
theorem lI (s:List UInt8) (st:St):(bV s st).2.obj=st.obj:=by
 unfold bV;split
 ·exact dY s st
 ·rfl
theorem nG (t:Tok) (st:St):(bR t st).obj=st.obj:=by unfold bR; rw [jc,jc,jc]
theorem wC (s:List UInt8) (st:St):(name s st).2.obj=st.obj:=by
 unfold name;split
 ·show (advance s _).obj=_; rw [dY,nG]
 ·exact bY _ _ _
theorem dA (s c:List UInt8) (st:St):(sign s c st).obj=st.obj:=by
 unfold sign;split
 ·exact dY s st
 ·exact bY _ _ _
theorem aS (s:List UInt8) (st:St):(register s st).2.obj=st.obj:=by
 unfold register;split
 ·split
  ·exact bY _ _ _
  ·exact dY _ _
 ·exact bY _ _ _
theorem lX (s:List UInt8) (neg:Bool) (pos:Nat) (lo hi:Int) (st:St):(aT s neg pos lo hi st).2.obj=st.obj:=by
 unfold aT;generalize (if neg=true then -(st.tok.n:Int) else (st.tok.n:Int))=v;split
 ·split
  ·exact bY _ _ _
  ·exact dY _ _
 ·exact bY _ _ _
theorem fA (s:List UInt8) (lo hi:Int) (st:St):(number s lo hi st).2.obj=st.obj:=by
 unfold number;split
 ·rw [lX,dY]
 ·rw [lX]
theorem pz (s:List UInt8) (st:St):(place s st).2.obj=st.obj:=by
 unfold place; dsimp only;rw [dA,aS,dA,fA]
theorem rY (e pos:Nat) (he:e≠0) (st:St):failed (refuse e pos st)=true:=by
 unfold refuse;split
 ·assumption
 ·simp [failed,he]
theorem qg (c:Bool) (e pos:Nat) (st:St) (h:failed (aV c e pos st)=false):failed st=false:=by
 unfold aV at h;split at h
 ·unfold refuse at h;split at h
  ·exact h
  ·rename_i hf; simpa using hf
 ·exact h
theorem wI (c:Bool) (e pos:Nat) (he:e≠0) (st:St) (h:failed (aV c e pos st)=false):c=false:=by
 unfold aV at h;split at h
 ·rw [rY e pos he] at h; cases h
 ·rename_i hc; simpa using hc
theorem qM (s:List UInt8) (st:St) (h:failed (advance s st)=false):failed st=false:=by
 unfold advance at h;split at h
 ·exact h
 ·rename_i hf; simpa using hf
theorem oh (t:Tok) (st:St) (h:failed (bR t st)=false):t.text.length<=6:=by
 unfold bR at h
 have:=wI _ _ _ (by decide) _ (qg _ _ _ _ h)
 simpa using this
theorem zL (s:List UInt8) (st:St) (h:failed (name s st).2=false):(name s st).1.text.length<=6:=by
 unfold name at h ⊢;split at h
 ·rename_i hk;rw [if_pos hk];exact oh _ _ (qM s _ h)
 ·rename_i hk;rw [if_neg hk];exact Nat.zero_le _
theorem jV (t:Tok) (st:St) (h:Tm st.obj) (ht:failed st=false->t.text.length<=6):Tm (aJ t st).2.obj:=by
 unfold aJ;split
 ·exact h
 rename_i hf;have hf':failed st=false:=by simpa using hf
 split
 ·exact h
 split
 ·show Tm (refuse _ _ _).obj; rw [bY]; exact h
 ·refine ⟨h.text,h.far,h.data,h.bss,fun y hy=>?_,h.uH⟩;rcases List.mem_append.1 hy with hy | hy
  ·exact h.names y hy
  ·simp at hy; subst hy; exact ht hf'
theorem mem_modify {α:Type} (l:List α) (i:Nat) (f:α->α) (y:α) (h:y∈l.modify i f):∃ x∈l,y=x\/y=f x:=by
 obtain ⟨j,hj,rfl⟩:=List.getElem_of_mem h;rw [List.getElem_modify];refine ⟨l[j]'(by simpa using hj),List.getElem_mem _,?_⟩;split
 ·exact .inr rfl
 ·exact .inl rfl
theorem tO (st:St) (i:Nat) (f:Lk.Sym->Lk.Sym) (h:Tm st.obj) (hf:∀ y,(f y).name=y.name):Tm (mh st i f).obj:=by
 refine ⟨h.text,h.far,h.data,h.bss,fun y hy=>?_,h.uH⟩;obtain ⟨x,hx,rfl | rfl⟩:=mem_modify _ _ _ _ hy
 ·exact h.names _ hx
 ·rw [hf]; exact h.names _ hx
theorem Dm (t:Tok) (st:St) (h:Tm st.obj):Tm (label t st).obj:=by
 unfold label; dsimp only;have k:=jV t (bR t st) (by rw [nG]; exact h) (oh t st);split
 ·exact k
 split
 ·rw [bY]; exact k
 ·exact tO _ _ _ k fun _=>rfl
theorem Gc (s:List UInt8) (binding:Int) (st:St) (h:Tm st.obj):Tm (bind s binding st).obj:=by
 unfold bind; dsimp only;have k:=jV (name s st).1 (name s st).2 (by rw [wC]; exact h) (zL s st);split
 ·exact k
 split
 ·rw [bY]; exact k
 ·exact tO _ _ _ k fun _=>rfl
theorem mQ (s:List UInt8) (st:St) (h:Tm st.obj):Tm (symbol s st).2.obj:=jV (name s st).1 (name s st).2 (by rw [wC]; exact h) (zL s st)
theorem mU (s:List UInt8) (st:St) (h:Tm st.obj):Tm (target s st).2.obj:=by
 unfold target; dsimp only;have k:=mQ s st h;split
 ·rw [fA,dY]; exact k
 split
 ·rw [fA,dY]; exact k
 ·exact k
theorem vP (o:Lk.Obj) (ah:Nat) (ws:List Int) (h:Tm o) (hl:¬ 4 * limit ah < 4 * bK o ah+4 * (ws.length:Int)):Tm (aI o ah ws):=by
 unfold limit bK at hl;have h4:=h.bss;unfold aI;split
 ·rename_i e; subst e;simp at hl;exact ⟨by simp; omega,h.far,h.data,h.bss,h.names,h.uH⟩
 split
 ·rename_i e; subst e;simp at hl;exact ⟨h.text,by simp; omega,h.data,h.bss,h.names,h.uH⟩
 split
 ·rename_i e; subst e;simp at hl;exact ⟨h.text,h.far,by simp; omega,h.bss,h.names,h.uH⟩
 split
 ·rename_i e; subst e;simp at hl;exact ⟨h.text,h.far,h.data,by simp; omega,h.names,h.uH⟩
 ·exact h
theorem oW (ws:List Int) (st:St) (h:Tm st.obj):Tm (lay ws st).obj:=by
 unfold lay;split
 ·rw [bY]; exact h
 split
 ·exact h
 ·rename_i hl _;exact vP _ _ _ h hl
theorem ji (kind:Int) (sym:Nat) (addend:Int) (ws:List Int) (st:St) (h:Tm st.obj):Tm (bZ kind sym addend ws st).obj:=by
 unfold bZ; dsimp only;have k:Tm (aV (decide (32<=st.obj.aj.length)) 12 st.op.pos st).obj:=by rw [jc]; exact h
 split
 ·exact k
 ·refine oW _ _ ⟨k.text,k.far,k.data,k.bss,k.names,fun r hr=>?_⟩;rcases List.mem_append.1 hr with hr | hr
  ·exact k.uH r hr
  ·simp at hr; subst hr
   have:=Bq k (aV (decide (32<=st.obj.aj.length)) 12 st.op.pos st).ah
   show 4 * _<=(4800:Int)
   omega
theorem fV (op rd au aC:Nat) (n:Int) (st:St) (h:Tm st.obj):Tm (bC op rd au aC n st).obj:=oW _ _ h
theorem kG (reg op rd au aC:Nat) (n:Int) (sym:Nat) (addend:Int) (st:St) (h:Tm st.obj):Tm (bX reg op rd au aC n sym addend st).obj:=by
 unfold bX;exact ji _ _ _ _ _ (by rw [jc]; exact h)
theorem fC {c:Prop} [Decidable c] {a b:St} (ha:Tm a.obj) (hb:Tm b.obj):Tm (if c then a else b).obj:=by
 by_cases h:c
 ·rw [if_pos h]; exact ha
 ·rw [if_neg h]; exact hb
section
variable (s:List UInt8) (op:Nat) (st:St) (h:Tm st.obj)
include h
theorem uQ:Tm (eB s op st).obj:=by unfold eB; dsimp only; refine fV _ _ _ _ _ _ ?_; rw [aS,dA,aS,dA,aS]; exact h
theorem sK:Tm (dK s op st).obj:=by unfold dK; dsimp only; refine fV _ _ _ _ _ _ ?_; rw [fA,dA,aS,dA,aS]; exact h
theorem Ew:Tm (upper s st).obj:=by unfold upper; dsimp only; refine fV _ _ _ _ _ _ ?_; rw [fA,dA,aS]; exact h
theorem Ht:Tm (load s st).obj:=by
 unfold load; dsimp only;refine fC ?_ ?_
 ·refine kG _ _ _ _ _ _ _ _ _ (mU s _ ?_); rw [dA,aS]; exact h
 ·refine fV _ _ _ _ _ _ ?_; rw [pz,dA,aS]; exact h
theorem Er:Tm (store s st).obj:=by
 unfold store; dsimp only;refine fC ?_ ?_
 ·refine kG _ _ _ _ _ _ _ _ _ ?_; rw [aS,dA]; refine mU s _ ?_; rw [dA,aS]; exact h
 ·refine fV _ _ _ _ _ _ ?_; rw [pz,dA,aS]; exact h
theorem qh:Tm (bO s st).obj:=by unfold bO; dsimp only; refine fV _ _ _ _ _ _ ?_; rw [pz,dA,aS]; exact h
theorem Gb:Tm (bare st).obj:=by
 unfold bare;exact fC (fV _ _ _ _ _ _ h) (fC (fV _ _ _ _ _ _ h) (fC (fV _ _ _ _ _ _ h) h))
theorem Ap:Tm (branch s op st).obj:=by unfold branch; dsimp only; refine ji _ _ _ _ _ (mQ s _ ?_); rw [dA,aS,dA,aS]; exact h
theorem qU (rd:Nat):Tm (fF s rd st).obj:=by unfold fF; dsimp only; exact ji _ _ _ _ _ (mQ s _ h)
theorem Hy:Tm (move s st).obj:=by unfold move; dsimp only; refine fV _ _ _ _ _ _ ?_; rw [aS,dA,aS]; exact h
theorem su:Tm (dI s st).obj:=by
 unfold dI; dsimp only;refine fC ?_ ?_
 ·refine fV _ _ _ _ _ _ ?_; rw [fA,dA,aS]; exact h
 ·refine oW _ _ ?_; rw [fA,dA,aS]; exact h
theorem Gg:Tm (call s st).obj:=by unfold call; dsimp only; exact ji _ _ _ _ _ (mQ s _ h)
theorem qW:Tm (dh s st).obj:=by unfold dh; dsimp only; refine kG _ _ _ _ _ _ _ _ _ (mU s _ ?_); rw [dA,aS]; exact h
end
theorem wm (s:List UInt8) (st:St) (h:Tm st.obj):Tm (fE s st).obj:=by unfold fE; dsimp only; refine qU s _ ?_ _; rw [dA,aS]; exact h
theorem qP (s:List UInt8) (shape op:Nat) (st:St) (h:Tm st.obj):Tm (instruction s shape op st).obj:=by
 unfold instruction;exact fC (uQ s op st h) (fC (sK s op st h) (fC (Ew s st h) (fC (Ht s st h) (fC (Er s st h) (fC (qh s st h) (fC (Gb st h) (fC (Ap s op st h) (fC (wm s st h) (fC (qU s st h 0) (fC (Hy s st h) (fC (su s st h) (fC (Gg s st h) (fC (qW s st h) h)))))))))))))
theorem wK (st:St):(fH st).obj=st.obj:=by unfold fH; (repeat' split) <;> rfl
theorem uh (s:List UInt8) (shape:Nat) (st:St) (h:Tm st.obj):Tm (directive s shape st).obj:=by
 unfold directive;split
 ·rw [wK]; exact h
 split
 ·unfold word; dsimp only;split
  ·exact ji _ _ _ _ _ (mU s _ h)
  ·refine oW _ _ ?_; rw [fA]; exact h
 split
 ·unfold space; dsimp only;split
  ·refine oW _ _ ?_; rw [fA]; exact h
  ·rw [bY,fA]; exact h
 split
 ·unfold align; dsimp only;have k:Tm (number s 2 4 st).2.obj:=by rw [fA]; exact h
  split
  ·exact k
  ·have k2:Tm (dB (2 ^ (number s 2 4 st).1.toNat) (number s 2 4 st).2).obj:=by
    unfold dB;split
    ·split
     ·exact ji _ _ _ _ _ k
     ·exact k
    ·exact oW _ _ k
   unfold bT;split
   ·exact ⟨k2.text,k2.far,k2.data,k2.bss,k2.names,k2.uH⟩
   ·exact k2
 split
 ·unfold binding; exact Gc s _ _ h
 ·exact h
theorem uJ (s:List UInt8) (t:Tok) (st:St) (h:Tm st.obj):Tm (operation s t st).obj:=by
 unfold operation;split
 ·rw [bY]; exact h
 split
 ·rw [bY]; exact h
 split
 ·exact qP s _ _ _ h
 ·exact uh s _ _ h
theorem tF (s:List UInt8) (t:Tok) (st:St) (h:Tm st.obj):Tm (iA s t st).obj:=by
 unfold iA; dsimp only;have k:Tm (if t.kind == 1 then operation s t st else st).obj:=fC (uJ s t st h) h;exact fC k (by rw [bY]; exact k)
theorem Hf (s:List UInt8) (st:St) (h:Tm st.obj):Tm (line s st).obj:=by
 unfold line; dsimp only;split
 ·refine tF s _ _ ?_;rw [lI,dY];refine Dm _ _ ?_;rw [lI,dY]; exact h
 ·refine tF s _ _ ?_;rw [lI,dY]; exact h
theorem uE (s:List UInt8) (st:St):(bG s st).2.obj=st.obj:=by unfold bG; split <;> rfl
theorem Dv (s:List UInt8) (n:Nat) (st:St) (h:Tm st.obj):Tm (lines s n st).obj:=by
 induction n generalizing st with
 | zero=>exact h
 | succ n ih =>
  unfold lines; dsimp only;have k:Tm (bG s (line s st)).2.obj:=by rw [uE]; exact Hf s st h
  split
  ·exact ih _ k
  ·exact k
theorem Ep:Tm start.obj:=⟨by decide,by decide,by decide,by decide,by simp [start],by simp [start]⟩
end As
end Go.Proofs.YtpgklkhgfcjceaaGreatDoor

namespace Go.Proofs.YtpgklkhgfcjceaaGreatDoor
open Go.RowKit
theorem yqn (g:Nat) (o:Lk.Obj) (w:World) (ht:dV w) (h:yv w g o) (hn:jH o) (hv:¬ yx o) :
  Calls Tryz.prog 36 #[.pointer (some ⟨g,0,none⟩)] w fun e w'=>e = .returned (.tuple #[.string ⟨#[]⟩,.int .i64 20])/\w.grownBy w' none:=by
 have cV:=hid (Vn g o w ht h hn);have HV:=hid hv;clear ht h hv hn;go_enter Tryz.func36,Tryz.ntmps36;go_wp2_with fail;refine cV.o.mono ?_;rintro e W1 ⟨tv,q1⟩;rcases tv.split with ⟨rfl,_⟩ | ⟨_,p⟩
 ·have Q:=hid q1;clear q1;go_wp2;go_ret2;exact ⟨rfl,Q.o⟩
 ·exact absurd p.o HV.o
theorem ynA (g:Nat) (o:Lk.Obj) (w:World) (ht:dV w) (h:yv w g o) (hn:jH o) :
  Calls Tryz.prog 36 #[.pointer (some ⟨g,0,none⟩)] w fun e w'=>((e = .returned (.tuple #[.string (bs (Lk.lY o)),.int .i64 0])/\yx o)\/(e = .returned (.tuple #[.string (bs []),.int .i64 20])/\¬ yx o))/\w.grownBy w' none:=by
 by_cases hv:yx o
 ·exact (yoU g o w ht h (MC hv) hv).mono fun e w' k=>⟨.inl ⟨k.1,hv⟩,k.2⟩
 ·exact (yqn g o w ht h hn hv).mono fun e w' k=>⟨.inr ⟨k.1,hv⟩,k.2⟩
end Go.Proofs.YtpgklkhgfcjceaaGreatDoor
