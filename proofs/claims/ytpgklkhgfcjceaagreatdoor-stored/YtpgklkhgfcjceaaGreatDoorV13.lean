
import Derived.Test.YtpgklkhgfcjceaaGreatDoorV12
import Derived.Deep.RegionHeld3
set_option maxHeartbeats 16000000
set_option maxRecDepth 100000
namespace Go.Proofs.YtpgklkhgfcjceaaGreatDoor
open Go.RowKit
def yT (t:As.Tok):Array Value:=#[.int .i64 t.kind,.int .i64 t.pos,.string (bs t.text),.int .i64 t.n]
structure lJ (B:Nat) (s:ByteArray) (b g:Nat) (W:World) (r:Nat) (t:As.Tok) (st:As.St) (V:World):Prop where
 d:yS B s b g W st V
 l:yc V r (yT t) 64
section
variable {B:Nat} {s:ByteArray} {b g r:Nat} {W V V':World} {t:As.Tok} {st st':As.St}
theorem lJ.ne (h:lJ B s b g W r t st V):r≠b:=by
 intro e;subst e
 have:=h.l.symm.trans h.d.1.blk
 simp [yT,yE] at this
theorem lJ.step (h:lJ B s b g W r t st V) (k:yS B s b g V st' V'):lJ B s b g W r t st' V':=⟨h.d.after k,h.l.grown k.2 (by have:=h.ne; simpa using this)⟩
theorem lJ.cells (h:lJ B s b g W r t st V):V.cell? ⟨r,0,none⟩=some (.int .i64 t.kind)/\V.cell? ⟨r,1,none⟩=some (.int .i64 t.pos)/\V.cell? ⟨r,2,none⟩=some (.string (bs t.text))/\V.cell? ⟨r,3,none⟩=some (.int .i64 t.n):=by
 have c0:=h.l.cell 0;have c1:=h.l.cell 1;have c2:=h.l.cell 2;have c3:=h.l.cell 3;simp only [yT,bI,bN,bK] at c0 c1 c2 c3;exact ⟨c0,c1,c2,c3⟩
theorem lJ.begin (h:yl B s b g st W) (t:As.Tok):lJ B s b g W W.heap.size t st (W.alloc (.cells (yT t) 64)):=⟨h.jU.alloc _,yc.new W _ _⟩
end
theorem Xu (B:Nat) (s:ByteArray) (b g:Nat) (st:As.St) (t:As.Tok) (W:World) (h:yl B s b g st W) (ht:xL t) :
  Calls Tryz.prog 85 #[.pointer (some ⟨b,0,none⟩),fV t] W fun en W'=>en = .returned (.tuple #[])/\yS B s b g W (As.bS t st) W':=by
 have L0:=hid (lJ.begin h t);have hpos:=ht.pos;have htx:(bs t.text).size<=1000:=by rw [zh]; exact ht.text
 have hlen:(bs t.text).size=t.text.length:=zh _;clear h;have RC:=hid (show As.bS t st=As.aT (As.jf t.text).isSome 7 t.pos (As.aT (decide (6 < t.text.length)) 4 t.pos (As.aT (As.kG t.text) 3 t.pos st)) from rfl);generalize As.bS t st=X at *;have cP:=hid (fun V=>yjJ (bs t.text) V htx);have cR:=hid (fun V=>WV (bs t.text) V htx);rw [Gx] at cP cR;have ref:Hd (∀ (e:Nat) (x:As.St) V,lJ B s b g W W.heap.size t x V->e<=99->Calls Tryz.prog 54 #[.pointer (some ⟨b,0,none⟩),.int .i64 e,.int .i64 t.pos] V fun en W'=>en = .returned (.tuple #[])/\lJ B s b g W W.heap.size t (As.refuse e t.pos x) W'):=fun e x V hV he =>
  (yK B s b g x e t.pos V hV.d.1 he hpos).mono fun en W' ⟨h1,h2⟩=>⟨h1,hV.step h2⟩
 unfold fV;go_enter Tryz.func85,Tryz.ntmps85;go_wp2_with fail;refine Calls.aL (lJ B s b g W W.heap.size t st) L0.o ?_;clear L0;generalize W.heap.size=r at *;intro V hV;have L0:=hid hV;clear hV;refine (cP.o _).mono ?_;rintro e w1 ⟨rfl,rfl⟩
 cases hp:As.kG t.text
 ·rw [hp] at RC;clear hp cP;obtain ⟨m0,m1,m2,m3⟩:=L0.o.cells;by_cases c6:6 < t.text.length
  ·have D:decide ((6:Int) < (t.text.length:Int))=true:=by simp; omega
   rw [show decide (6 < t.text.length)=true from by simp; omega] at RC;clear c6;go_wp2_with fail;refine (ref.o 4 _ _ L0.o (by omega)).mono ?_;rintro e V2 ⟨rfl,h2⟩;have L2:=hid h2;clear h2 m0 m1 m2 m3 L0;obtain ⟨m0,m1,m2,m3⟩:=L2.o.cells;go_wp2_with fail;refine (cR.o _).mono ?_;rintro e w1 ⟨rfl,rfl⟩;clear m0 m1 m2 m3
   cases hr:As.jf t.text with
   | none =>
    rw [hr] at RC;clear hr cR;simp only [Ag,Option.getD_none,Option.isSome_none];go_wp2
    go_end0
    rw [RC.o];exact ⟨rfl,L2.o.d⟩
   | some rr =>
    rw [hr] at RC;clear hr cR;simp only [Ag,Option.getD_some,Option.isSome_some];obtain ⟨m0,m1,m2,m3⟩:=L2.o.cells;go_wp2_with fail;refine (ref.o 7 _ _ L2.o (by omega)).mono ?_;rintro e V3 ⟨rfl,h3⟩;have L3:=hid h3;clear h3 m0 m1 m2 m3;go_wp2
    go_end0
    rw [RC.o];exact ⟨rfl,L3.o.d⟩
  ·have D:decide ((6:Int) < (t.text.length:Int))=false:=by simp; omega
   rw [show decide (6 < t.text.length)=false from by simp; omega] at RC;clear c6;go_wp2_with fail;refine (cR.o _).mono ?_;rintro e w1 ⟨rfl,rfl⟩;clear m0 m1 m2 m3
   cases hr:As.jf t.text with
   | none =>
    rw [hr] at RC;clear hr cR;simp only [Ag,Option.getD_none,Option.isSome_none];go_wp2
    go_end0
    rw [RC.o];exact ⟨rfl,L0.o.d⟩
   | some rr =>
    rw [hr] at RC;clear hr cR;simp only [Ag,Option.getD_some,Option.isSome_some];obtain ⟨m0,m1,m2,m3⟩:=L0.o.cells;go_wp2_with fail;refine (ref.o 7 _ _ L0.o (by omega)).mono ?_;rintro e V3 ⟨rfl,h3⟩;have L3:=hid h3;clear h3 m0 m1 m2 m3;go_wp2
    go_end0
    rw [RC.o];exact ⟨rfl,L3.o.d⟩
 ·rw [hp] at RC;clear hp cP;obtain ⟨m0,m1,m2,m3⟩:=L0.o.cells;go_wp2_with fail;refine (ref.o 3 _ _ L0.o (by omega)).mono ?_;rintro e V1 ⟨rfl,h1⟩;have L1:=hid h1;clear h1 m0 m1 m2 m3 L0;obtain ⟨m0,m1,m2,m3⟩:=L1.o.cells;by_cases c6:6 < t.text.length
  ·have D:decide ((6:Int) < (t.text.length:Int))=true:=by simp; omega
   rw [show decide (6 < t.text.length)=true from by simp; omega] at RC;clear c6;go_wp2_with fail;refine (ref.o 4 _ _ L1.o (by omega)).mono ?_;rintro e V2 ⟨rfl,h2⟩;have L2:=hid h2;clear h2 m0 m1 m2 m3 L1;obtain ⟨m0,m1,m2,m3⟩:=L2.o.cells;go_wp2_with fail;refine (cR.o _).mono ?_;rintro e w1 ⟨rfl,rfl⟩;clear m0 m1 m2 m3
   cases hr:As.jf t.text with
   | none =>
    rw [hr] at RC;clear hr cR;simp only [Ag,Option.getD_none,Option.isSome_none];go_wp2
    go_end0
    rw [RC.o];exact ⟨rfl,L2.o.d⟩
   | some rr =>
    rw [hr] at RC;clear hr cR;simp only [Ag,Option.getD_some,Option.isSome_some];obtain ⟨m0,m1,m2,m3⟩:=L2.o.cells;go_wp2_with fail;refine (ref.o 7 _ _ L2.o (by omega)).mono ?_;rintro e V3 ⟨rfl,h3⟩;have L3:=hid h3;clear h3 m0 m1 m2 m3;go_wp2
    go_end0
    rw [RC.o];exact ⟨rfl,L3.o.d⟩
  ·have D:decide ((6:Int) < (t.text.length:Int))=false:=by simp; omega
   rw [show decide (6 < t.text.length)=false from by simp; omega] at RC;clear c6;go_wp2_with fail;refine (cR.o _).mono ?_;rintro e w1 ⟨rfl,rfl⟩;clear m0 m1 m2 m3
   cases hr:As.jf t.text with
   | none =>
    rw [hr] at RC;clear hr cR;simp only [Ag,Option.getD_none,Option.isSome_none];go_wp2
    go_end0
    rw [RC.o];exact ⟨rfl,L1.o.d⟩
   | some rr =>
    rw [hr] at RC;clear hr cR;simp only [Ag,Option.getD_some,Option.isSome_some];obtain ⟨m0,m1,m2,m3⟩:=L1.o.cells;go_wp2_with fail;refine (ref.o 7 _ _ L1.o (by omega)).mono ?_;rintro e V3 ⟨rfl,h3⟩;have L3:=hid h3;clear h3 m0 m1 m2 m3;go_wp2
    go_end0
    rw [RC.o];exact ⟨rfl,L3.o.d⟩
structure Loc (B:Nat) (s:ByteArray) (b g:Nat) (W:World) (ls:List (Nat×Array Value×TypeId)) (st:As.St) (V:World):Prop where
 d:yS B s b g W st V
 l:∀ q∈ls,yc V q.1 q.2.1 q.2.2
 new:∀ q∈ls,W.heap.size<=q.1
 lt:b < W.heap.size
section
variable {B:Nat} {s:ByteArray} {b g r:Nat} {W V V':World} {ls:List (Nat×Array Value×TypeId)} {st st':As.St} {cs:Array Value} {t:TypeId}
theorem Loc.begin (h:yl B s b g st W):Loc B s b g W [] st W:=⟨h.jU,by simp,by simp,h.blk.lt⟩
theorem Loc.alloc (h:Loc B s b g W ls st V) (cs:Array Value) (t:TypeId):Loc B s b g W ((V.heap.size,cs,t) :: ls) st (V.alloc (.cells cs t)):=by
 refine ⟨h.d.alloc _,fun q hq=>?_,fun q hq=>?_,h.lt⟩
 ·rcases List.mem_cons.1 hq with rfl | hq
  ·exact yc.new V cs t
  ·exact (h.l q hq).grown (aJ _ _ none) (by simp)
 ·rcases List.mem_cons.1 hq with rfl | hq
  ·exact h.d.2.size
  ·exact h.new q hq
theorem Loc.step (h:Loc B s b g W ls st V) (k:yS B s b g V st' V'):Loc B s b g W ls st' V' :=
 ⟨h.d.after k,fun q hq=>(h.l q hq).grown k.2 (by have:=h.new q hq; have:=h.lt; simp; omega),h.new,h.lt⟩
theorem Loc.grown (h:Loc B s b g W ls st V) (k:V.grownBy V' none):Loc B s b g W ls st V' :=
 ⟨h.d.grown k,fun q hq=>(h.l q hq).grown k (by simp),h.new,h.lt⟩
theorem Loc.put (h:Loc B s b g W ls st V) (hq:(r,cs,t)∈ls) (ht:uO t) (l:List (Nat×Value)):yS B s b g W st (sets V r l)/\yc (sets V r l) r (uy cs l) t :=
 ⟨h.d.local (h.l _ hq) ht (by have:=h.d.1.lo; have:=h.lt; omega) (h.new _ hq) l,D8 l (h.l _ hq)⟩
end
theorem YO (B:Nat) (s:ByteArray) (b g:Nat) (st:As.St) (W:World) (h:yl B s b g st W) :
  Calls Tryz.prog 216 #[.pointer (some ⟨b,0,none⟩)] W fun en W'=>en = .returned (fV (As.name (sl s) st).1)/\yS B s b g W (As.name (sl s) st).2 W':=by
 have hpos:=h.ok.tok.pos;have HT:=hid h.ok.tok;have hbl:=h.blk.lt;obtain ⟨c2,c3,c4,c5⟩:=wm h;have L0:=hid (((Loc.begin h).alloc (yT As.Tok.nil) 64).alloc (yT st.tok) 64);rw [show (W.alloc (.cells (yT As.Tok.nil) 64)).heap.size=W.heap.size+1 by simp] at L0;clear h;have hn1:b≠W.heap.size:=by omega
 cases hk:(st.tok.kind == 1)
 ·have d:((st.tok.kind:Int) == 1)=false:=by simp at hk ⊢; omega
  have d':((st.tok.kind:Int) != 1)=true:=by simp at hk ⊢; omega
  have RS:=hid (show As.name (sl s) st=(As.Tok.nil,As.refuse 3 st.tok.pos st) by unfold As.name; rw [hk]; rfl);generalize As.name (sl s) st=X at *;clear hk;go_enter Tryz.func216,Tryz.ntmps216;go_wp2_with fail;refine Calls.aL (Loc B s b g W [(W.heap.size+1,yT st.tok,64),(W.heap.size,yT As.Tok.nil,64)] st) L0.o ?_;intro V hV;refine (yK B s b g st 3 st.tok.pos V hV.d.1 (by omega) hpos).mono ?_;rintro e V2 ⟨rfl,h2⟩;have L1:=hid (hV.step h2);clear h2 hV L0 V c2 c3 c4 c5;have L2:=L1.o.l (W.heap.size,yT As.Tok.nil,64) (by simp);have t0:=L2.cell 0;have t1:=L2.cell 1;have t2:=L2.cell 2;have t3:=L2.cell 3
  have v0:=L2.free 0;have v1:=L2.free 1;have v2:=L2.free 2;have v3:=L2.free 3;simp only [yT,As.Tok.nil,bI,bN,bK] at t0 t1 t2 t3;clear L2;go_wp2;rw [RS.o];obtain ⟨D,F⟩:=L1.o.put (r:=W.heap.size) (cs:=yT As.Tok.nil) (t:=64) (by simp) (by unfold uO; decide) [(0,.int .i64 0),(1,.int .i64 0),(2,.string ⟨#[]⟩),(3,.int .i64 0)];have e0:=F.cell 0;have e1:=F.cell 1;have e2:=F.cell 2;have e3:=F.cell 3;simp only [yT,uy,lu,lW,gu,fZ,gq,bI,bN,bK] at e0 e1 e2 e3;refine bodyPost_ret (v:=fV As.Tok.nil) ?_ rfl ⟨rfl,D⟩;clear D F t0 t1 t2 t3 v0 v1 v2 v3;simp only [sets,lu,lW] at e0 e1 e2 e3;generalize World.setCell _ _ _=WF at *
  simp [results,Tryz.results216,go_sem,fV,As.Tok.nil,bs,e0,e1,e2,e3]
 ·have d:((st.tok.kind:Int) == 1)=true:=by simp at hk ⊢; omega
  have d':((st.tok.kind:Int) != 1)=false:=by simp at hk ⊢; omega
  have RS:=hid (show As.name (sl s) st=(st.tok,As.advance (sl s) (As.bS st.tok st)) by unfold As.name; rw [hk]; rfl);generalize As.name (sl s) st=X at *;clear hk;go_enter Tryz.func216,Tryz.ntmps216;go_wp2_with fail;refine Calls.aL (Loc B s b g W [(W.heap.size+1,yT st.tok,64),(W.heap.size,yT As.Tok.nil,64)] st) L0.o ?_;intro V hV;refine (Xu B s b g st st.tok V hV.d.1 HT.o).mono ?_;rintro e V2 ⟨rfl,h2⟩;have L1:=hid (hV.step h2);clear h2 hV L0 V c2 c3 c4 c5;go_wp2_with fail;refine (Dq B s b g _ V2 L1.o.d.1).mono ?_;rintro e V3 ⟨rfl,h3⟩;have L3:=hid (L1.o.step h3);clear h3 L1 V2;have L2:=L3.o.l (W.heap.size,yT As.Tok.nil,64) (by simp)
  have t0:=L2.cell 0;have t1:=L2.cell 1;have t2:=L2.cell 2;have t3:=L2.cell 3;have v0:=L2.free 0;have v1:=L2.free 1;have v2:=L2.free 2;have v3:=L2.free 3;have L4:=L3.o.l (W.heap.size+1,yT st.tok,64) (by simp);have m0:=L4.cell 0;have m1:=L4.cell 1;have m2:=L4.cell 2;have m3:=L4.cell 3;simp only [yT,As.Tok.nil,bI,bN,bK] at t0 t1 t2 t3 m0 m1 m2 m3;clear L2 L4;go_wp2;rw [RS.o];obtain ⟨D,F⟩:=L3.o.put (r:=W.heap.size) (cs:=yT As.Tok.nil) (t:=64) (by simp) (by unfold uO; decide) [(0,.int .i64 st.tok.kind),(1,.int .i64 st.tok.pos),(2,.string (bs st.tok.text)),(3,.int .i64 st.tok.n)];have e0:=F.cell 0;have e1:=F.cell 1
  have e2:=F.cell 2;have e3:=F.cell 3;simp only [yT,uy,lu,lW,gu,fZ,gq,bI,bN,bK] at e0 e1 e2 e3;refine bodyPost_ret (v:=fV st.tok) ?_ rfl ⟨rfl,D⟩;clear D F t0 t1 t2 t3 v0 v1 v2 v3 m0 m1 m2 m3;simp only [sets,lu,lW] at e0 e1 e2 e3;generalize World.setCell _ _ _=WF at *;simp [results,Tryz.results216,go_sem,fV,e0,e1,e2,e3]
theorem Gn (B:Nat) (s:ByteArray) (b g:Nat) (st:As.St) (lo hi:Int) (W:World) (h:yl B s b g st W) :
  Calls Tryz.prog 189 #[.pointer (some ⟨b,0,none⟩),.int .i64 lo,.int .i64 hi] W fun en W'=>en = .returned (.int .i64 (As.number (sl s) lo hi st).1)/\yS B s b g W (As.number (sl s) lo hi st).2 W':=by
 have H:=hid h;obtain ⟨c2,c3,c4,c5⟩:=wm h;have hpos:=h.ok.tok.pos;clear h;have cI:=hid (Nr st.tok [45] W);unfold fV at cI;have RS:=hid (show As.number (sl s) lo hi st=if st.tok.is [45] then As.aS (sl s) true st.tok.pos lo hi (As.advance (sl s) st) else As.aS (sl s) false st.tok.pos lo hi st from rfl);generalize As.number (sl s) lo hi st=X at *;go_enter Tryz.func189,Tryz.ntmps189;go_wp2_with fail;refine cI.o.mono ?_;rintro e V ⟨rfl,hg⟩;have HD:=hid (H.o.jU.grown hg);clear hg cI c2 c3 c4 c5 H
 cases hi':st.tok.is [45]
 ·rw [hi'] at RS;clear hi';have Bf:=hid RS.o;rw [if_neg (by simp)] at Bf;clear RS;obtain ⟨c2,c3,c4,c5⟩:=wm HD.o.1;have hnb:=HD.o.1.ok.tok.n;have QD:=hid HD.o.1.ok.tok.pos
  cases hk:(st.tok.kind == 2)
  ·have d:((st.tok.kind:Int) == 2)=false:=by simp at hk ⊢; omega
   have d':((st.tok.kind:Int) != 2)=true:=by simp at hk ⊢; omega
   have RF:=hid (show X=(0,As.refuse 3 st.tok.pos st) by rw [Bf.o]; unfold As.aS; rw [hk]; rfl);clear hk Bf;go_wp2_with fail;refine (yK B s b g st 3 st.tok.pos V HD.o.1 (by omega) QD.o).mono ?_;rintro e V2 ⟨rfl,h2⟩;have HF:=hid (HD.o.after h2);clear h2;go_wp2;go_ret;rw [RF.o];exact ⟨rfl,HF.o⟩
  ·have d:((st.tok.kind:Int) == 2)=true:=by simp at hk ⊢; omega
   have d':((st.tok.kind:Int) != 2)=false:=by simp at hk ⊢; omega
   have RF:=hid (show X=if (st.tok.n:Int) < lo\/hi < (st.tok.n:Int) then (0,As.refuse 8 st.tok.pos st) else ((st.tok.n:Int),As.advance (sl s) st) by rw [Bf.o]; unfold As.aS; rw [hk]; rfl);clear hk Bf;by_cases hlo:(st.tok.n:Int) < lo
   ·have D:decide ((st.tok.n:Int) < lo)=true:=by simp; omega
    rw [if_pos (.inl hlo)] at RF;go_wp2_with fail;refine (yK B s b g st 8 st.tok.pos V HD.o.1 (by omega) hpos).mono ?_;rintro e V2 ⟨rfl,h2⟩;have HF:=hid (HD.o.after h2);clear h2;go_wp2;go_ret;rw [RF.o];exact ⟨rfl,HF.o⟩
   ·have D:decide ((st.tok.n:Int) < lo)=false:=by simp; omega
    by_cases hhi:hi < (st.tok.n:Int)
    ·have D2:decide (hi < (st.tok.n:Int))=true:=by simp; omega
     rw [if_pos (.inr hhi)] at RF;go_wp2_with fail;refine (yK B s b g st 8 st.tok.pos V HD.o.1 (by omega) hpos).mono ?_;rintro e V2 ⟨rfl,h2⟩;have HF:=hid (HD.o.after h2);clear h2;go_wp2;go_ret;rw [RF.o];exact ⟨rfl,HF.o⟩
    ·have D2:decide (hi < (st.tok.n:Int))=false:=by simp; omega
     rw [if_neg (by omega)] at RF;go_wp2_with fail;refine (Dq B s b g st V HD.o.1).mono ?_;rintro e V2 ⟨rfl,h2⟩;have HF:=hid (HD.o.after h2);clear h2;go_wp2;go_ret;rw [RF.o];exact ⟨rfl,HF.o⟩
 ·rw [hi'] at RS;clear hi';have Bf:=hid RS.o;rw [if_pos rfl] at Bf;clear RS;go_wp2_with fail;refine (Dq B s b g st V HD.o.1).mono ?_;rintro e V1 ⟨rfl,h1⟩;have HD1:=hid (HD.o.after h1);clear h1 HD;generalize As.advance (sl s) st=st1 at *;have HD:=hid HD1.o;clear HD1;obtain ⟨c2,c3,c4,c5⟩:=wm HD.o.1;have hnb:=HD.o.1.ok.tok.n;have QD:=hid HD.o.1.ok.tok.pos
  cases hk:(st1.tok.kind == 2)
  ·have d:((st1.tok.kind:Int) == 2)=false:=by simp at hk ⊢; omega
   have d':((st1.tok.kind:Int) != 2)=true:=by simp at hk ⊢; omega
   have RF:=hid (show X=(0,As.refuse 3 st1.tok.pos st1) by rw [Bf.o]; unfold As.aS; rw [hk]; rfl);clear hk Bf;go_wp2_with fail;refine (yK B s b g st1 3 st1.tok.pos V1 HD.o.1 (by omega) QD.o).mono ?_;rintro e V2 ⟨rfl,h2⟩;have HF:=hid (HD.o.after h2);clear h2;go_wp2;go_ret;rw [RF.o];exact ⟨rfl,HF.o⟩
  ·have d:((st1.tok.kind:Int) == 2)=true:=by simp at hk ⊢; omega
   have d':((st1.tok.kind:Int) != 2)=false:=by simp at hk ⊢; omega
   have RF:=hid (show X=if -(st1.tok.n:Int) < lo\/hi < -(st1.tok.n:Int) then (0,As.refuse 8 st.tok.pos st1) else (-(st1.tok.n:Int),As.advance (sl s) st1) by rw [Bf.o]; unfold As.aS; rw [hk]; rfl);clear hk Bf;by_cases hlo:-(st1.tok.n:Int) < lo
   ·have D:decide (-(st1.tok.n:Int) < lo)=true:=by simp; omega
    rw [if_pos (.inl hlo)] at RF;go_wp2_with fail;refine (yK B s b g st1 8 st.tok.pos V1 HD.o.1 (by omega) hpos).mono ?_;rintro e V2 ⟨rfl,h2⟩;have HF:=hid (HD.o.after h2);clear h2;go_wp2;go_ret;rw [RF.o];exact ⟨rfl,HF.o⟩
   ·have D:decide (-(st1.tok.n:Int) < lo)=false:=by simp; omega
    by_cases hhi:hi < -(st1.tok.n:Int)
    ·have D2:decide (hi < -(st1.tok.n:Int))=true:=by simp; omega
     rw [if_pos (.inr hhi)] at RF;go_wp2_with fail;refine (yK B s b g st1 8 st.tok.pos V1 HD.o.1 (by omega) hpos).mono ?_;rintro e V2 ⟨rfl,h2⟩;have HF:=hid (HD.o.after h2);clear h2;go_wp2;go_ret;rw [RF.o];exact ⟨rfl,HF.o⟩
    ·have D2:decide (hi < -(st1.tok.n:Int))=false:=by simp; omega
     rw [if_neg (by omega)] at RF;go_wp2_with fail;refine (Dq B s b g st1 V1 HD.o.1).mono ?_;rintro e V2 ⟨rfl,h2⟩;have HF:=hid (HD.o.after h2);clear h2;go_wp2;go_ret;rw [RF.o];exact ⟨rfl,HF.o⟩
section
variable {P:Program} (w:World)
theorem Du {o:Oper} {a:Act} {K:Act->World->Prop} {Q:Exit->Act->World->Prop} (s x:Operand) (t:TypeId)
  (ho:o.op = .call { callee:=.builtin .append,args:=#[s,x],argTypes:=#[t,t] })
  (base:Nat) (e:TypeId) (i:TypeInfo) (z:Value) (size bytes:Nat) (ht:P.underlying t=some (.slice e)) (hi:P.info? e=some i) (hz:i.zero=some z)
  (hsize:i.size=size) (hby:i.bytes=bytes) (hzs:z.cells.size=size) (hsz:0 < size)
  (v:Value) (n:Nat) (xs:List Value) (hs:a.eval s=v) (hown:w.ownsRow base e size v n xs)
  (ad:Addr) (m c:Nat) (news:List Value) (hx:a.eval x = .slice (some ad) m c) (hl:news.length=m * size) (hnews:∀ j u,news[j]?=some u->w.cell? (ad.add j)=some u) (h1:∀ u∈news,u.oneCell'=true)
  (h63:n+m<=maxLen) (hbytes:(n+m) * bytes<=140737488355328) (hbase:base<=w.heap.size)
  (h:∀ v' w',w'.ownsRow base e size v' (n+m) (xs ++ news)->w.grownBy w' v.ownBlock->(v' = .slice none 0 0↔v = .slice none 0 0/\m=0)->(v'.ownBlock=v.ownBlock\/v'.ownBlock=some w.heap.size)->K (a.put o.dst v') w'):o.wp P a w K Q:=by
 obtain ⟨v',w',hr,h2,h3,h4,h5⟩:=run_append_own_at (P:=P) w base t o.type e i z size bytes ht hi hz hsize hby hzs hsz v n xs hown ad m c news hl hnews h1 h63 hbytes hbase;unfold Oper.wp execOp;simp only [ho,resolve,invoke,builtin,Sem.run_bind,Sem.run_pure,Result.andThen_ok,List.map_toArray,List.map_cons,List.map_nil,hs,hx,hr];exact h v' w' h2 h3 h4 h5
end
theorem DC.set {l:List Value} {i:Nat} {v v':Value} (h:DC l) (hi:l[i]?=some v) (hv:∀ k,v'.ownBlock=some k->v.ownBlock=some k\/∀ u∈l,u.ownBlock≠some k):DC (l.set i v'):=by
 unfold DC at h ⊢;rw [List.pairwise_iff_getElem] at h ⊢;obtain ⟨hil,rfl⟩:=List.getElem?_eq_some_iff.1 hi;intro a c ha hc hac k;simp only [List.length_set] at ha hc;rw [List.getElem_set,List.getElem_set];by_cases e1:i=a
 ·subst e1;rw [if_pos rfl,if_neg (by omega)];intro hk hck;rcases hv k hk with h1 | h1
  ·exact h i c hil hc hac k h1 hck
  ·exact h1 _ (iq hc) hck
 ·rw [if_neg e1];by_cases e2:i=c
  ·subst e2;rw [if_pos rfl];intro hk hck;rcases hv k hck with h1 | h1
   ·exact h a i ha hil hac k hk h1
   ·exact h1 _ (iq ha) hk
  ·rw [if_neg e2];exact h a c ha hc hac k
theorem DC.ne {l:List Value} (h:DC l) {i j:Nat} {u v:Value} (hi:l[i]?=some u) (hj:l[j]?=some v) (hij:i≠j):∀ k,u.ownBlock=some k->v.ownBlock≠some k:=by
 unfold DC at h;rw [List.pairwise_iff_getElem] at h;obtain ⟨hil,rfl⟩:=List.getElem?_eq_some_iff.1 hi;obtain ⟨hjl,rfl⟩:=List.getElem?_eq_some_iff.1 hj;intro k hk hk2;rcases Nat.lt_or_gt_of_ne hij with h1 | h1
 ·exact h i j hil hjl h1 k hk hk2
 ·exact h j i hjl hil h1 k hk2 hk
structure nG (B:Nat) (V W':World) (b g:Nat) (v v':Value):Prop where
 keep:∀ k,k < V.heap.size->some k≠v.ownBlock->k≠g->W'.heap[k]?=V.heap[k]?
 blk:∀ k,v'.ownBlock=some k->v.ownBlock=some k\/V.heap.size<=k
 os:W'.os=V.os
 tape:W'.tape=V.tape
 output:W'.output=V.output
 size:V.heap.size<=W'.heap.size
section
variable {B:Nat} {s:ByteArray} {b g:Nat} {V W':World} {o:Lk.Obj} {vt vf vd va vs vr v v':Value} {st st':As.St}
theorem rT.lts (h:rT B V b g o vt vf vd va vs vr) (hb:b < V.heap.size):∀ u∈[jw b,jw g,vt,vf,vd,va,vs,vr],∀ k,u.ownBlock=some k->k < V.heap.size:=by
 intro u hu k hk;simp only [List.mem_cons,List.mem_nil_iff,or_false] at hu;rcases hu with rfl | rfl | rfl | rfl | rfl | rfl | rfl | rfl
 ·simp [jw,Value.ownBlock] at hk; omega
 ·have:=h.blk.lt; simp [jw,Value.ownBlock] at hk; omega
 ·exact (h.text.lt k hk).2
 ·exact (h.far.lt k hk).2
 ·exact (h.data.lt k hk).2
 ·exact (h.align.lt k hk).2
 ·exact (h.syms.lt k hk).2
 ·exact (h.aj.lt k hk).2
theorem nG.apart (n:nG B V W' b g v v') (h:rT B V b g o vt vf vd va vs vr) (hb:b < V.heap.size) {i:Nat} (hi:[jw b,jw g,vt,vf,vd,va,vs,vr][i]?=some v):DC ([jw b,jw g,vt,vf,vd,va,vs,vr].set i v') :=
 h.apart.set hi fun k hk=>(n.blk k hk).imp id fun hle u hu hk2=>by have:=h.lts hb u hu k hk2; omega
theorem nG.row (n:nG B V W' b g v v') (h:rT B V b g o vt vf vd va vs vr) {i j:Nat} (hi:[jw b,jw g,vt,vf,vd,va,vs,vr][i]?=some v) {u:Value} (hj:[jw b,jw g,vt,vf,vd,va,vs,vr][j]?=some u) (hij:i≠j) (hj1:1≠j)
  {e:TypeId} {size m:Nat} {xs:List Value} (hu:V.ownsRow B e size u m xs):W'.ownsRow B e size u m xs :=
 Nl hu fun k hk=>n.keep k (hu.lt k hk).2 (fun e=>h.apart.ne hi hj hij k e.symm hk) (fun e=>h.apart.ne (i:=1) (j:=j) rfl hj hj1 k (by rw [e]; rfl) hk)
theorem nG.does (n:nG B V W' b g v v') (h:yl B s b g st V) (sW:rT B V b g st.obj vt vf vd va vs vr) {i:Nat} (hi:[jw b,jw g,vt,vf,vd,va,vs,vr][i]?=some v) (h2:2<=i)
  (ho:∃ vt vf vd va vs vr,rT B W' b g st'.obj vt vf vd va vs vr) (hc:yE s g st'=yE s g st) (hok:jE s st')
  (hv:∀ k,v.ownBlock=some k->B<=k/\∃ cs t,yc V k cs t/\(t=3\/t=100\/t=102)):Does B s b g V st' W':=by
 have hbg:=h.lo;have hbv:some b≠v.ownBlock:=fun e=>sW.apart.ne (i:=0) (j:=i) rfl hi (by omega) b rfl e.symm
 have low:∀ k,k < B->W'.heap[k]?=V.heap[k]?:=fun k hk=>n.keep k (by have:=h.size; omega) (fun e=>by have:=(hv k e.symm).1; omega) (by omega)
 refine ⟨⟨by rw [hc]; exact (n.keep b h.blk.lt hbv hbg.2.2.2).trans h.blk,ho,h.lo,hok,?_⟩,⟨n.os,n.tape,n.output,n.size,low⟩,?_⟩
 ·exact ⟨fun i hi=>(World.cell?_of_block (low _ (by have:=h.lo; simp only; omega))).trans (h.tabs.form i hi),fun i hi=>(World.cell?_of_block (low _ (by have:=h.lo; simp only; omega))).trans (h.tabs.fix i hi)⟩
 ·intro k cs t h1 h2 h3 h4 h5 hb;refine (n.keep k hb.lt ?_ ?_).trans hb
  ·intro e;obtain ⟨-,cs',t',hb',ht'⟩:=hv k e.symm
   have:=hb.symm.trans hb'
   simp at this;rcases ht' with rfl | rfl | rfl
   ·exact h3 this.2
   ·exact h4 this.2
   ·exact h5 this.2
  ·rintro rfl
   have:=hb.symm.trans sW.blk
   simp at this;exact h2 this.2
theorem Ib {e:TypeId} {size m:Nat} {xs:List Value} (hu:V.ownsRow B e size v m xs) (he:e=3\/e=100\/e=102):∀ k,v.ownBlock=some k->B<=k/\∃ cs t,yc V k cs t/\(t=3\/t=100\/t=102):=by
 intro k hk;refine ⟨(hu.lt k hk).1,?_⟩;rcases hu.2 with ⟨rfl,_⟩ | ⟨g',cap,cur,rfl,_,hg,_⟩
 ·simp [Value.ownBlock] at hk
 ·obtain rfl:g'=k:=by simpa [Value.ownBlock] using hk
  exact ⟨cur,e,hg,he⟩
theorem nG.app {ob:Obj} {w3:World} {off:Nat} (_hv:∀ k,v.ownBlock=some k->k < V.heap.size) (hg:(V.alloc ob).grownBy w3 v.ownBlock) (hat:v'.ownBlock=v.ownBlock\/v'.ownBlock=some (V.alloc ob).heap.size):nG B V (w3.setCell ⟨g,off,none⟩ v') b g v v':=by
 have gs:=ye w3 g off v';refine ⟨fun k hk hne hkg=>?_,fun k hk=>?_,?_,?_,?_,?_⟩
 ·rw [gs.block k (by have:=hg.size; simp at this; omega) (by simpa using hkg),hg.block k (by simp; omega) hne,Below.heap_alloc V ob k hk]
 ·rcases hat with e | e
  ·exact .inl (by rw [<- e]; exact hk)
  ·rw [e] at hk;simp at hk;exact .inr (by omega)
 ·rw [gs.os,hg.os]; rfl
 ·rw [gs.tape,hg.tape]; rfl
 ·rw [gs.output,hg.output]; rfl
 ·have:=gs.size; have:=hg.size; simp at this; omega
end
theorem uq {B:Nat} {s:ByteArray} {b g:Nat} {st:As.St} {W:World} (h:yl B s b g st W):W.cell? ⟨b,14,none⟩=some (.pointer (some ⟨g,0,none⟩)):=by
 have c:=yL h 14;simpa only [yE,bI,bN,bK] using c
theorem vQ {B:Nat} {s:ByteArray} {b g:Nat} {st:As.St} {W:World} (h:yl B s b g st W):W.cell? ⟨b,13,none⟩=some (.int .i64 st.ah):=by
 have c:=yL h 13;simpa only [yE,bI,bN,bK] using c
theorem ynO (ys:List Lk.Sym) (nm:List UInt8) (k:Nat) (hk:k < ys.length) (h:ys[k].name=nm) (hall:∀ j (hj:j < ys.length),j < k->ys[j].name≠nm):As.jV ys nm=some k:=by
 unfold As.jV;rw [List.findIdx?_eq_some_iff_getElem];exact ⟨hk,by simp [h],fun j hj=>by simpa using hall j (by omega) hj⟩
theorem ynN (ys:List Lk.Sym) (nm:List UInt8) (hall:∀ j (hj:j < ys.length),ys[j].name≠nm):As.jV ys nm=none:=by
 unfold As.jV;rw [List.findIdx?_eq_none_iff];intro y hy;obtain ⟨j,hj,rfl⟩:=List.getElem_of_mem hy;simpa using hall j hj
theorem KA {w:World} {base:Nat} {e:TypeId} {size n:Nat} {v:Value} {xs:List Value} {g o:Nat} {u:Value} (h:w.ownsRow base e size v n xs) (hk:∀ k,v.ownBlock=some k->g≠k):(w.setCell ⟨g,o,none⟩ u).ownsRow base e size v n xs :=
 Nl h fun k hk'=>Below.heap_setCell _ _ _ _ (fun e=>hk k hk' e.symm)
def Qm (r:Nat×Bool):Value:=.tuple #[.int .i64 r.1,.bool r.2]
theorem jE.xq {s:ByteArray} {st:As.St} (h:jE s st) (o:Lk.Obj) (h1:o.text.length<=1200) (h2:o.far.length<=1200) (h3:o.data.length<=64) (h4:0<=o.bss/\o.bss<=64) (h5:o.align.length=4) (h6:o.syms.length<=16) (h7:o.aj.length<=32):jE s { st with obj:=o } :=
 ⟨h.size,h.p,h.tok,h.fe,h.fa,h.op,h.ah,h1,h2,h3,h4,h5,h6,h7⟩
theorem yl.xX {B:Nat} {s:ByteArray} {b g:Nat} {V W':World} {st:As.St} {vt vf vd va vs vr v':Value} (h:yl B s b g st V) (ho:rT B V b g st.obj vt vf vd va vs vr) (n:nG B V W' b g vs v') (ys:List Lk.Sym) (hys:ys.length<=16)
  (hblk:yc W' g #[vt,vf,vd,.int .i64 st.obj.bss,va,v',vr] 71) (hown:W'.ownsRow B 100 4 v' ys.length (ys.flatMap ig)):Does B s b g V { st with obj:={ st.obj with syms:=ys } } W':=by
 refine n.does h ho (i:=6) rfl (by omega) ⟨vt,vf,vd,va,v',vr,hblk,?_,?_,?_,?_,hown,?_,n.apart ho h.blk.lt (i:=6) rfl⟩ rfl (h.ok.xq _ h.ok.text h.ok.far h.ok.data h.ok.bss h.ok.align hys h.ok.aj) (Ib ho.syms (by simp))
 ·exact n.row ho (i:=6) (j:=2) rfl rfl (by omega) (by omega) ho.text
 ·exact n.row ho (i:=6) (j:=3) rfl rfl (by omega) (by omega) ho.far
 ·exact n.row ho (i:=6) (j:=4) rfl rfl (by omega) (by omega) ho.data
 ·exact n.row ho (i:=6) (j:=5) rfl rfl (by omega) (by omega) ho.align
 ·exact n.row ho (i:=6) (j:=7) rfl rfl (by omega) (by omega) ho.aj
theorem SF (B:Nat) (s:ByteArray) (b g:Nat) (st:As.St) (t:As.Tok) (W:World) (h:yl B s b g st W) (ht:xL t) :
  Calls Tryz.prog 86 #[.pointer (some ⟨b,0,none⟩),fV t] W fun en W'=>en = .returned (Qm (As.aK t st).1)/\Does B s b g W (As.aK t st).2 W':=by
 obtain ⟨i1,hi1,hy0,hy1,hy2⟩:=info_parts Tryz.xR;have L0:=hid ((Loc.begin h).alloc (yT t) 64);have HW:=hid h;have hpos:=ht.pos;have cF:=hid (fun V hV=>D9 B s b g st V hV);clear h;unfold fV
 cases hf:As.failed st
 ·have RS:=hid (show As.aK t st=match As.jV st.obj.syms t.text with
   | some i=>((i,true),st)
   | none=>if 16<=st.obj.syms.length then ((0,false),As.refuse 11 t.pos st) else ((st.obj.syms.length,true),{ st with obj:={ st.obj with syms:=st.obj.syms ++ [⟨t.text,0,0,0⟩] } }) by unfold As.aK; rw [hf]; rfl)
  rw [hf] at cF;clear hf;generalize As.aK t st=X at *;go_enter Tryz.func86,Tryz.ntmps86;go_wp2_with fail;refine Calls.aL (Loc B s b g W [(W.heap.size,yT t,64)] st) L0.o ?_;clear L0;generalize hr:W.heap.size=r at *;have HR:=hid hr;clear hr;intro V hV;have L:=hid hV;clear hV;refine (cF.o V L.o.d.1).mono ?_;rintro e V' ⟨rfl,rfl⟩;clear cF;obtain ⟨vt,vf,vd,va,vs,vr,ho⟩:=L.o.d.1.own;obtain ⟨gy,cs,rfl⟩:=yi ho.syms;have HO:=hid ho;have hcap:=qU ho.syms;have SI:=hid (nZ.aO ho.syms);have hn16:=L.o.d.1.ok.syms;have c14:=uq L.o.d.1;have g5:=ho.blk.cell 5;simp only [bI,bN,bK] at g5;clear ho;go_wp2
  go_loopw [18] (fun i wr=>∃ k:Nat,k<=st.obj.syms.length/\i = .int .i64 k/\(∀ j (hj:j < st.obj.syms.length),j < k->st.obj.syms[j].name≠t.text)/\V'.grownBy wr none) (fun i _=>st.obj.syms.length - (intOf i).toNat)
  case atStart=>exact ⟨0,Nat.zero_le _,rfl,fun j _ hj=>absurd hj (Nat.not_lt_zero j),World.grownBy.refl _ _⟩
  case round =>
   obtain ⟨k,hk,rfl,hall,hgr⟩:=hrel;have HA:=hid hall;have HG:=hid hgr;have LW:=hid (L.o.grown hgr);have M7:=yd c14 hgr;have q5:=yd g5 hgr;clear hall hgr c14 g5;obtain ⟨m0,m1,m2,m3⟩:=(⟨LW.o.d,LW.o.l (r,yT t,64) (by simp)⟩:lJ B s b g W r t st wr).cells;have hrl:r < wr.heap.size:=(LW.o.l (r,yT t,64) (by simp)).lt;have hrn:r≠wr.heap.size:=by omega
   by_cases hlt:k < st.obj.syms.length
   ·obtain ⟨sg,hsg,hgs,hc⟩:=SI.o.grown HG.o (by omega);obtain ⟨k0,k1,k2,k3⟩:=hc k hlt;clear hc;subst hsg;by_cases e1:st.obj.syms[k].name=t.text
    ·have E:=hid (ynO _ _ k hlt e1 HA.o);have b1:((bs st.obj.syms[k].name).toList == (bs t.text).toList)=true:=by rw [e1]; simp
     clear e1;go_wp2;go_ret2;rw [RS.o,E.o];exact ⟨rfl,(LW.o.d.alloc _).does HW.o⟩
    ·have E:=hid e1;have b1:((bs st.obj.syms[k].name).toList == (bs t.text).toList)=false:=by rw [yH,yH]; simpa using e1
     clear e1;go_wp2
     go_roundw
     case rel=>exact ⟨k+1,by omega,by go_num,fun j hj hjk=>(Nat.lt_succ_iff_lt_or_eq.1 hjk).elim (fun h=>HA.o j hj h) (fun h=>by subst h; exact E.o),ya HG.o (aJ _ _ _)⟩
     case measure=>simp [intOf]; omega
   ·have EN:=hid (ynN st.obj.syms t.text (fun j hj=>HA.o j hj (by omega)));rw [EN.o] at RS;by_cases h16:16<=st.obj.syms.length
    ·have D:decide ((16:Int)<=(st.obj.syms.length:Int))=true:=by simp; omega
     have RF:=hid (show X=((0,false),As.refuse 11 t.pos st) by rw [RS.o]; simp only; rw [if_pos h16]);go_wp2_with fail;refine (yK B s b g st 11 t.pos wr LW.o.d.1 (by omega) hpos).mono ?_;rintro e V2 ⟨rfl,h2⟩;have HF:=hid (LW.o.d.after h2);clear h2;go_wp2;go_ret2;rw [RF.o];exact ⟨rfl,HF.o.does HW.o⟩
    ·have D:decide ((16:Int)<=(st.obj.syms.length:Int))=false:=by simp; omega
     have RF:=hid (show X=((st.obj.syms.length,true),{ st with obj:={ st.obj with syms:=st.obj.syms ++ [⟨t.text,0,0,0⟩] } }) by rw [RS.o]; simp only; rw [if_neg h16]);have hgl:g < wr.heap.size:=by have:=HO.o.blk.lt; have:=HG.o.size; omega
     have HOW:=hid (HO.o.keep (W':=wr) (fun k _ hk=>HG.o.block k hk (by simp)));have GA:=hid (aJ wr (.cells #[.string (bs t.text),.int .i64 0,.int .i64 0,.int .i64 0] 100) none);have Et:Hd ((wr.alloc (.cells #[.string (bs t.text),.int .i64 0,.int .i64 0,.int .i64 0] 100)).drew.cell? ⟨b,14,none⟩=some (.pointer (some ⟨g,0,none⟩))):=yd M7 (yh GA.o);have Eu:Hd ((wr.alloc (.cells #[.string (bs t.text),.int .i64 0,.int .i64 0,.int .i64 0] 100)).drew.cell? ⟨r,2,none⟩=some (.string (bs t.text))):=yd m2 (yh GA.o);have LT:=hid (LW.o.l (r,yT t,64) (by simp));have hrs:Hd (some r≠Value.ownBlock (.slice gy st.obj.syms.length cs)):=fun e=>by
      obtain ⟨-,cs',t',hb',ht'⟩:=Ib HOW.o.syms (by simp) r e.symm
      have:=LT.o.symm.trans hb'
      simp at this;rcases ht' with rfl | rfl | rfl <;> exact absurd this.2 (by decide)
     have Rx:Hd (some b≠Value.ownBlock (.slice gy st.obj.syms.length cs)):=fun e=>HOW.o.apart.ne (i:=0) (j:=6) rfl rfl (by omega) b rfl e.symm
     have hgs0:Hd (some g≠Value.ownBlock (.slice gy st.obj.syms.length cs)):=fun e=>HOW.o.apart.ne (i:=1) (j:=6) rfl rfl (by omega) g rfl e.symm
     have qg:Hd (∀ w3,(wr.alloc (.cells #[.string (bs t.text),.int .i64 0,.int .i64 0,.int .i64 0] 100)).grownBy w3 (Value.ownBlock (.slice gy st.obj.syms.length cs))->w3.cell? ⟨b,14,none⟩=some (.pointer (some ⟨g,0,none⟩))):=fun w3 h=>h.cell Et.o Rx.o
     have qh:Hd (∀ w3,(wr.alloc (.cells #[.string (bs t.text),.int .i64 0,.int .i64 0,.int .i64 0] 100)).grownBy w3 (Value.ownBlock (.slice gy st.obj.syms.length cs))->w3.cell? ⟨r,2,none⟩=some (.string (bs t.text))):=fun w3 h=>h.cell Eu.o hrs.o
     have qj:Hd (∀ w3,(wr.alloc (.cells #[.string (bs t.text),.int .i64 0,.int .i64 0,.int .i64 0] 100)).grownBy w3 (Value.ownBlock (.slice gy st.obj.syms.length cs))->yc w3 g #[vt,vf,vd,.int .i64 st.obj.bss,va,.slice gy st.obj.syms.length cs,vr] 71):=fun w3 h=>(HOW.o.blk.grown GA.o (by simp)).grown h hgs0.o
     have hgb:Hd (g≠b):=fun e=>LW.o.d.1.lo.2.2.2 e.symm
     have Rz:Hd (r≠g):=fun e=>by
      subst e
      have:=LT.o.symm.trans HOW.o.blk
      simp at this
     have FIN:Hd (∀ w3 fJ cap',(wr.alloc (.cells #[.string (bs t.text),.int .i64 0,.int .i64 0,.int .i64 0] 100)).grownBy w3 (Value.ownBlock (.slice gy st.obj.syms.length cs))->(Value.ownBlock (.slice fJ (st.obj.syms.length+1) cap')=Value.ownBlock (.slice gy st.obj.syms.length cs)\/Value.ownBlock (.slice fJ (st.obj.syms.length+1) cap')=some (wr.alloc (.cells #[.string (bs t.text),.int .i64 0,.int .i64 0,.int .i64 0] 100)).heap.size) ->
       w3.ownsRow B 100 4 (.slice fJ (st.obj.syms.length+1) cap') (st.obj.syms.length+1) (st.obj.syms.flatMap ig ++ [.string (bs t.text),.int .i64 0,.int .i64 0,.int .i64 0]) ->
       Does B s b g W { st with obj:={ st.obj with syms:=st.obj.syms ++ [⟨t.text,0,0,0⟩] } } (w3.setCell ⟨g,5,none⟩ (.slice fJ (st.obj.syms.length+1) cap'))/\(w3.setCell ⟨g,5,none⟩ (.slice fJ (st.obj.syms.length+1) cap')).cell? ⟨b,14,none⟩=some (.pointer (some ⟨g,0,none⟩))/\(w3.setCell ⟨g,5,none⟩ (.slice fJ (st.obj.syms.length+1) cap')).cell? ⟨r,2,none⟩=some (.string (bs t.text))/\(w3.setCell ⟨g,5,none⟩ (.slice fJ (st.obj.syms.length+1) cap')).cell? ⟨g,5,none⟩=some (.slice fJ (st.obj.syms.length+1) cap')):=fun w3 fJ cap' gd hat hown=>by
      have nr:nG B wr (w3.setCell ⟨g,5,none⟩ (.slice fJ (st.obj.syms.length+1) cap')) b g (.slice gy st.obj.syms.length cs) (.slice fJ (st.obj.syms.length+1) cap'):=nG.app (fun k hk=>(HOW.o.syms.lt k hk).2) gd hat
      have nb:=(qj.o w3 gd).set 5 (.slice fJ (st.obj.syms.length+1) cap');have gs:=ye w3 g 5 (.slice fJ (st.obj.syms.length+1) cap');refine ⟨(LW.o.d.does HW.o).after (LW.o.d.1.xX HOW.o nr _ (by simp; omega) (by simpa using nb) ?_),gs.cell (qg.o w3 gd) (by simpa using hgb.o.symm),gs.cell (qh.o w3 gd) (by simpa using Rz.o),?_⟩
      ·have e:(st.obj.syms ++ [(⟨t.text,0,0,0⟩:Lk.Sym)]).flatMap ig=st.obj.syms.flatMap ig ++ [.string (bs t.text),.int .i64 0,.int .i64 0,.int .i64 0]:=by rw [List.flatMap_append]; rfl
       rw [e,eZ,List.length_singleton];exact KA hown (fun k hk=>by
        rcases hat with h1 | h1
        ·rw [h1] at hk;exact fun e=>hgs0.o (by rw [e,hk])
        ·rw [h1] at hk;simp at hk
         have:=HOW.o.blk.lt
         omega)
      ·have:=nb.cell 5
       simpa using this
     go_wp2;have hA:Hd ((wr.alloc (.cells #[.string (bs t.text),.int .i64 0,.int .i64 0,.int .i64 0] 100)).drew.ownsRow B 100 4 (.slice gy st.obj.syms.length cs) st.obj.syms.length (st.obj.syms.flatMap ig)):=(HOW.o.syms.alloc _).drew;have hN:Hd (∀ j u,[Value.string (bs t.text),.int .i64 0,.int .i64 0,.int .i64 0][j]?=some u->(wr.alloc (.cells #[.string (bs t.text),.int .i64 0,.int .i64 0,.int .i64 0] 100)).drew.cell? ((⟨wr.heap.size,0,none⟩:Addr).add j)=some u):=World.news_of_block (heap_alloc_new wr (.cells #[.string (bs t.text),.int .i64 0,.int .i64 0,.int .i64 0] 100));have iC:Hd (∀ u∈[Value.string (bs t.text),.int .i64 0,.int .i64 0,.int .i64 0],u.oneCell'=true):=by intro u hu; simp at hu; rcases hu with rfl | rfl | rfl | rfl <;> rfl
     have h63:Hd (st.obj.syms.length+1<=maxLen):=by show _<=_; unfold maxLen; omega
     have hby:Hd ((st.obj.syms.length+1) * 40<=140737488355328):=by show _<=_; omega
     have hbs:Hd (B<=(wr.alloc (.cells #[.string (bs t.text),.int .i64 0,.int .i64 0,.int .i64 0] 100)).drew.heap.size):=by have:=LW.o.d.1.size; show _<=_; simp; omega
     refine wp_region_held_drew (S:=(fun w'=>w'.cell? ⟨b,14,none⟩=some (.pointer (some ⟨g,0,none⟩))/\w'.cell? ⟨r,2,none⟩=some (.string (bs t.text)))) (by kernel_rfl) ⟨M7,m2⟩ ?_;intro hS;refine aU (i:=0) (v:=?_) rfl ?_ hS ?_
     rotate_left
     ·intro w' hw'; obtain ⟨x0,x1⟩:=hw'; go_simp; with_reducible rfl
     refine aU (i:=1) (v:=?_) rfl ?_ hS ?_
     rotate_left
     ·intro w' hw'; obtain ⟨x0,x1⟩:=hw'; go_simp; with_reducible rfl
     refine aU (i:=2) (v:=?_) rfl ?_ hS ?_
     rotate_left
     ·intro w' hw'; obtain ⟨x0,x1⟩:=hw'; go_simp; with_reducible rfl
     refine aU (i:=3) (v:=?_) rfl ?_ hS ?_
     rotate_left
     ·intro w' hw'; obtain ⟨x0,x1⟩:=hw'; go_simp; with_reducible rfl
     refine aU (i:=4) (v:=?_) rfl ?_ hS ?_
     rotate_left
     ·intro w' hw'; obtain ⟨x0,x1⟩:=hw'; go_simp; with_reducible rfl
     refine aU (i:=5) (v:=?_) rfl ?_ hS ?_
     rotate_left
     ·intro w' hw'; obtain ⟨x0,x1⟩:=hw'; go_simp; with_reducible rfl
     refine aU (i:=6) (v:=?_) rfl ?_ hS ?_
     rotate_left
     ·intro w' hw'; obtain ⟨x0,x1⟩:=hw'; go_simp; with_reducible rfl
     refine aU (i:=7) (v:=?_) rfl ?_ hS ?_
     rotate_left
     ·intro w' hw'; obtain ⟨x0,x1⟩:=hw'; go_simp; with_reducible rfl
     refine aU (i:=8) (v:=?_) rfl ?_ hS ?_
     rotate_left
     ·intro w' hw'; obtain ⟨x0,x1⟩:=hw'; go_simp; with_reducible rfl
     refine aU (i:=9) (v:=?_) rfl ?_ hS ?_
     rotate_left
     ·intro w' hw'; obtain ⟨x0,x1⟩:=hw'; go_simp; with_reducible rfl
     refine aU (i:=11) (v:=?_) rfl ?_ hS ?_
     rotate_left
     ·intro w' hw'; obtain ⟨x0,x1⟩:=hw'; go_simp; with_reducible rfl
     refine aU (i:=12) (v:=?_) rfl ?_ hS ?_
     rotate_left
     ·intro w' hw'; obtain ⟨x0,x1⟩:=hw'; go_simp; with_reducible rfl
     refine aU (i:=13) (v:=?_) rfl ?_ hS ?_
     rotate_left
     ·intro w' hw'; obtain ⟨x0,x1⟩:=hw'; go_simp; with_reducible rfl
     refine wpAnyH_ready (rs:=[10,14]) (by kernel_rfl) (by simp) ?_;refine AllReadyH.cons rfl (fun K hK=>?_) (AllReadyH.cons rfl (fun K hK=>?_) AllReadyH.nil)
     ·go_simp;refine hK.out _ _ hS (fun hS2=>?_);clear hK K;refine wpAnyH_ready (rs:=[14]) (by kernel_rfl) (by simp) ?_;refine AllReadyH.cons rfl (fun K hK=>?_) AllReadyH.nil;go_simp;refine hK.out _ _ ⟨Et.o,Eu.o⟩ (fun je=>?_);clear hK K hS2 je;refine wpAnyH_ready (rs:=[15]) (by kernel_rfl) (by simp) ?_;refine AllReadyH.cons rfl (fun K hK=>?_) AllReadyH.nil;rw [if_pos (by kernel_rfl)];refine Du _ (.tmp 53) (.tmp 57) 68 rfl B 100 i1 (.agg #[.string ⟨#[]⟩,.int .i64 0,.int .i64 0,.int .i64 0]) 4 40 Tryz.underlying68 hi1 hy0 hy1 hy2 rfl (by decide) (.slice gy st.obj.syms.length cs) st.obj.syms.length (st.obj.syms.flatMap ig) (by kernel_rfl) hA.o ⟨wr.heap.size,0,none⟩ 1 1 [.string (bs t.text),.int .i64 0,.int .i64 0,.int .i64 0] (by kernel_rfl) rfl hN.o iC.o h63.o hby.o hbs.o ?_
      intro v' w3 hown' hgrow _ hat
      obtain ⟨fJ,cap',rfl⟩:=yi hown';have gd:(wr.alloc (.cells #[.string (bs t.text),.int .i64 0,.int .i64 0,.int .i64 0] 100)).grownBy w3 (Value.ownBlock (.slice gy st.obj.syms.length cs)):=⟨hgrow.os,hgrow.tape,hgrow.output,hgrow.size,hgrow.block⟩
      have jP:Value.ownBlock (.slice fJ (st.obj.syms.length+1) cap')=Value.ownBlock (.slice gy st.obj.syms.length cs)\/Value.ownBlock (.slice fJ (st.obj.syms.length+1) cap')=some (wr.alloc (.cells #[.string (bs t.text),.int .i64 0,.int .i64 0,.int .i64 0] 100)).heap.size:=hat
      have F:=hid (FIN.o _ _ _ gd jP hown');have n14:=qg.o _ gd;have n2:=qh.o _ gd;have ng:=qj.o _ gd;have m5:=ng.cell 5;have f5:=ng.free 5;simp only [bI,bN,bK] at m5;clear hown' hgrow gd hat jP ng;refine hK.out _ _ ⟨n14,n2⟩ (fun jh=>?_);clear hK K;refine aU (i:=16) (v:=?_) rfl ?_ jh ?_
      rotate_left
      ·intro w' hw'; obtain ⟨x0,x1⟩:=hw'; go_simp; with_reducible rfl
      refine aU (i:=17) (v:=?_) rfl ?_ jh ?_
      rotate_left
      ·intro w' hw'; obtain ⟨x0,x1⟩:=hw'; go_simp; with_reducible rfl
      refine wpAnyH_ready (rs:=[18]) (by kernel_rfl) (by simp) ?_;refine AllReadyH.cons rfl (fun K hK=>?_) AllReadyH.nil;go_simp;refine hK.out _ _ ⟨F.o.2.1,F.o.2.2.1⟩ (fun hS5=>?_);clear hK K;refine wpAnyH_done (by kernel_rfl) ?_ _
      try simp only [sN,qc,pz,pU,gu,fZ,gq]
      have z14:=F.o.2.1;have z5:=F.o.2.2.2;clear hA hN iC h63 hby hbs M7 q5 m0 m1 m2 m3 n14 n2 m5 f5 jh hS5 hS;go_wp2;go_ret2;rw [RF.o];exact ⟨rfl,F.o.1⟩
     ·go_simp;refine hK.out _ _ ⟨Et.o,Eu.o⟩ (fun hS2=>?_);clear hK K;refine wpAnyH_ready (rs:=[10]) (by kernel_rfl) (by simp) ?_;refine AllReadyH.cons rfl (fun K hK=>?_) AllReadyH.nil;go_simp;refine hK.out _ _ ⟨Et.o,Eu.o⟩ (fun je=>?_);clear hK K hS2 je;refine wpAnyH_ready (rs:=[15]) (by kernel_rfl) (by simp) ?_;refine AllReadyH.cons rfl (fun K hK=>?_) AllReadyH.nil;rw [if_pos (by kernel_rfl)];refine Du _ (.tmp 53) (.tmp 57) 68 rfl B 100 i1 (.agg #[.string ⟨#[]⟩,.int .i64 0,.int .i64 0,.int .i64 0]) 4 40 Tryz.underlying68 hi1 hy0 hy1 hy2 rfl (by decide) (.slice gy st.obj.syms.length cs) st.obj.syms.length (st.obj.syms.flatMap ig) (by kernel_rfl) hA.o ⟨wr.heap.size,0,none⟩ 1 1 [.string (bs t.text),.int .i64 0,.int .i64 0,.int .i64 0] (by kernel_rfl) rfl hN.o iC.o h63.o hby.o hbs.o ?_
      intro v' w3 hown' hgrow _ hat
      obtain ⟨fJ,cap',rfl⟩:=yi hown';have gd:(wr.alloc (.cells #[.string (bs t.text),.int .i64 0,.int .i64 0,.int .i64 0] 100)).grownBy w3 (Value.ownBlock (.slice gy st.obj.syms.length cs)):=⟨hgrow.os,hgrow.tape,hgrow.output,hgrow.size,hgrow.block⟩
      have jP:Value.ownBlock (.slice fJ (st.obj.syms.length+1) cap')=Value.ownBlock (.slice gy st.obj.syms.length cs)\/Value.ownBlock (.slice fJ (st.obj.syms.length+1) cap')=some (wr.alloc (.cells #[.string (bs t.text),.int .i64 0,.int .i64 0,.int .i64 0] 100)).heap.size:=hat
      have F:=hid (FIN.o _ _ _ gd jP hown');have n14:=qg.o _ gd;have n2:=qh.o _ gd;have ng:=qj.o _ gd;have m5:=ng.cell 5;have f5:=ng.free 5;simp only [bI,bN,bK] at m5;clear hown' hgrow gd hat jP ng;refine hK.out _ _ ⟨n14,n2⟩ (fun jh=>?_);clear hK K;refine aU (i:=16) (v:=?_) rfl ?_ jh ?_
      rotate_left
      ·intro w' hw'; obtain ⟨x0,x1⟩:=hw'; go_simp; with_reducible rfl
      refine aU (i:=17) (v:=?_) rfl ?_ jh ?_
      rotate_left
      ·intro w' hw'; obtain ⟨x0,x1⟩:=hw'; go_simp; with_reducible rfl
      refine wpAnyH_ready (rs:=[18]) (by kernel_rfl) (by simp) ?_;refine AllReadyH.cons rfl (fun K hK=>?_) AllReadyH.nil;go_simp;refine hK.out _ _ ⟨F.o.2.1,F.o.2.2.1⟩ (fun hS5=>?_);clear hK K;refine wpAnyH_done (by kernel_rfl) ?_ _
      try simp only [sN,qc,pz,pU,gu,fZ,gq]
      have z14:=F.o.2.1;have z5:=F.o.2.2.2;clear hA hN iC h63 hby hbs M7 q5 m0 m1 m2 m3 n14 n2 m5 f5 jh hS5 hS;go_wp2;go_ret2;rw [RF.o];exact ⟨rfl,F.o.1⟩
 ·have R:=hid (show As.aK t st=((0,false),st) by unfold As.aK; rw [hf]; rfl);rw [hf] at cF;clear hf;go_enter Tryz.func86,Tryz.ntmps86;go_wp2_with fail;refine (cF.o _ L0.o.d.1).mono ?_;rintro e w1 ⟨rfl,rfl⟩;go_wp2;go_ret2;rw [R.o];exact ⟨rfl,L0.o.d.does HW.o⟩
end Go.Proofs.YtpgklkhgfcjceaaGreatDoor
