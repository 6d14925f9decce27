import Derived.Test.YtaldcojpkflgpaaGreatDoorU15
set_option maxHeartbeats 16000000
set_option maxRecDepth 100000
open Go.Value renaming int->I,slice->ak,pointer->aM,bool->aJ
open Go.IntKind renaming i64->J
open _root_ renaming List->L,Int->Z,Nat->M,if_pos->aD,if_neg->ax,Option->aR,rfl->R,decide_eq_false->gF,decide_eq_true_iff->gO
open Go renaming World->av,Value->aC,TypeId->dm,Addr->aY,bodyPost_ret->bj,results_none->gW,maxLen->cu,madeCells->wY,info_parts->fG
open Option renaming none->N,some->S
open Go.World renaming setCell->aK,grownBy->az,grownBy_alloc->aG,cell?->aq,ownsRow->aV,ownsRow_nil->eO,frozen?->dx
open Nat renaming le_refl->bz,le_trans->fV,add_zero->sP,zero_le->bG
open Go.Ending renaming returned->aH
open List renaming length->ah,getElem?_toArray->bI,getElem?_cons_succ->bB,getD_eq_getElem?_getD->bQ,getElem?_eq_getElem->bW,getElem_mem->bN,length_drop->yI,mem_of_mem_drop->E9,getElem?_drop->EX,take_succ_eq_append_getElem->kI,take_length->nS,getElem?_append_left->rz,getElem?_append_right->oB,setIfInBounds_toArray->dt,mem_of_getElem?->pI,replicate->eP,eq_replicate_iff->WD,length_replicate->yK,map_append->pH,map_singleton->WG,length_set->lI,length_map->fZ
open Bool renaming true->T,false->F
open Go.Exit renaming inBlock->gV
open Int renaming eq_ofNat_of_zero_le->eX,toNat_natCast->dy,tdiv_eq_ediv_of_nonneg->sJ
open Go.World.grownBy renaming refl->aW
namespace Go.Proofs.YtaldcojpkflgpaaGreatDoor
open Go.RowKit Go.Proofs.Tryz
structure Gp (P:ex) (S:bJ) (r:cg) (xs:L Z) (p:M):Prop where
 part:S.pc.part=p
 lt:p<P.os.length
 kind:1<=r.kind/\r.kind<=6
 six:r.kind=6->r.bh=4\/r.bh=12
 sym:r.kind≠6->0<=r.sym/\lD P.os (p,r.sym.toNat)
 add:-4096<=r.bh/\r.bh<=4096
 words:∀x∈xs,0<=x/\x<=4294967295
 one:1<=xs.length
 two:r.kind=4\/r.kind=5->2<=xs.length
 branch:r.kind=2->5<=cz (xs.getD 0 0)/\cz (xs.getD 0 0)<=10
 YS:r.kind≠6->dP P.os (gN P.os (dL P.os p r.sym.toNat) r.bh)
theorem aeu(os:L aF)(w:Z)(v:bD)(st:bJ):Bu os w v st=DS os (cz w) (bF (aP w) w) (dW (aP w) w) v st:=by
 unfold Bu DS;generalize cz w=k;by_cases a:k=13
 ·rw[aD a,aD (show (k:Z)=13 by omega)]
 rw[ax a,ax (show ¬(k:Z)=13 by omega)];by_cases a:k=11
 ·rw[aD a,aD (show (k:Z)=11 by omega)]
  cases kx os v st<;>rfl
 rw[ax a,ax (show ¬(k:Z)=11 by omega)];by_cases a:k=12
 ·rw[aD a,aD (show (k:Z)=12 by omega)]
 rw[ax a,ax (show ¬(k:Z)=12 by omega)]
theorem aeQ(q:aR (M×M)):∃a b:Z,kQ q = .agg #[I J a,I J b]:=by
 cases q with
 |none=>exact⟨_,_,R⟩
 |some p=>exact⟨_,_,R⟩
theorem bE.two{i V U:av}{P:ex}{m:aC}{S:bJ}{t:dm}{d f:aC}(h:bE i P m S V)(g:(V.alloc (.cells #[d,f] t)).drew.grownBy U N)(k:t≠47)(l:t≠3)(a c:aC):lu P ((aK U ⟨V.heap.size,0,N⟩ a).setCell ⟨V.heap.size,1,N⟩ c) V.heap.size #[a,c]/\az V ((aK U ⟨V.heap.size,0,N⟩ a).setCell ⟨V.heap.size,1,N⟩ c) N:=by
 have j:=(mA (aA.new V #[d,f] t)).grown g (by simp);refine⟨⟨t,k,l,by simpa using (j.set 0 a).set 1 c,h.fresh h.rL (bz _)⟩,?_⟩;exact eh (eh (ya (yf (aG V _ N)) g) (bK U V.heap.size 0 a) (by intro b e;simp at e;omega)) (bK _ V.heap.size 1 c) (by intro b e;simp at e;omega)
theorem aaR(w:av)(P:ex)(fO:aC)(S:bJ)(r:cg)(l:L Z)(p:M)(aw:aR aY)(cw:M)(W:av)(h:bE w P fO S W)(hG:qF P.os S)(hw:yq W aw l)(z:Gp P S r l p):
  Calls prog 33 #[aM (some ⟨P.b,0,N⟩),.agg #[I J r.au,I J r.off,I J r.kind,I J r.sym,I J r.bh],ak aw (ah l) cw] W λe c=>e=aH (.tuple #[])/\vc w P (mu P.os r (l.getD 0 0) (l.getD 1 0) S) W c:=by
 have n:=ae (show mu P.os r (l.getD 0 0) (l.getD 1 0) S=if r.kind=6 then eB (dI S r.bh) S
  else if r.kind=2 then (if (lP P.os (cz (l.getD 0 0)) (bU S (bR (aP (l.getD 0 0)) (l.getD 0 0))) (bU S (dW (aP (l.getD 0 0)) (l.getD 0 0)))).2=T then eB (if (lP P.os (cz (l.getD 0 0)) (bU S (bR (aP (l.getD 0 0)) (l.getD 0 0))) (bU S (dW (aP (l.getD 0 0)) (l.getD 0 0)))).1=T then gN P.os (dL P.os S.pc.part.toNat r.sym.toNat) r.bh else dI S 4) S else iz S)
  else if r.kind=3 then eB (gN P.os (dL P.os S.pc.part.toNat r.sym.toNat) r.bh) (dH (bF (aP (l.getD 0 0)) (l.getD 0 0)) (dI S 4) S)
  else if r.kind=4 then eB (gN P.os (dL P.os S.pc.part.toNat r.sym.toNat) r.bh) (dH (bF (aP (l.getD 1 0)) (l.getD 1 0)) (dI S 8) (dH (bF (aP (l.getD 0 0)) (l.getD 0 0)) bV S))
  else if r.kind=5 then Bu P.os (l.getD 1 0) (gN P.os (dL P.os S.pc.part.toNat r.sym.toNat) r.bh) (dH (bF (aP (l.getD 0 0)) (l.getD 0 0)) bV S)
  else iz S from R)
 rw[aeu]at n;have d:=aG W (.cells #[I J r.au,I J r.off,I J r.kind,I J r.sym,I J r.bh] 75) N;have c:=ae (h.grown d);have C:=ae (yv.grown (P:=P) d);have i:=ae (h.loc (bz _) (aA.new W #[I J r.au,I J r.off,I J r.kind,I J r.sym,I J r.bh] 75) (by decide) (by decide));have Bv:=ae h.gr.size;have Wy:=ae (show W.heap.size<(W.alloc (.cells #[I J r.au,I J r.off,I J r.kind,I J r.sym,I J r.bh] 75)).heap.size from (aA.new W #[I J r.au,I J r.off,I J r.kind,I J r.sym,I J r.bh] 75).lt)
 have HG:=ae hG;have HR:=ae z;have PT:=ae h.parts;have Km:=ae (hw.kept (λa v e=>yd e d));have A:Hd (∀U d c,bE w P d c U->yv P W U->mu P.os r (l.getD 0 0) (l.getD 1 0) S=c->vc w P (mu P.os r (l.getD 0 0) (l.getD 1 0) S) W U):=λU d c h k e=>⟨⟨d,by rw[e];exact h⟩,k⟩
 generalize mu P.os r (l.getD 0 0) (l.getD 1 0) S=RR at *;have hk:=z.kind;clear h hG d;go_enter func33,ntmps33
 go_upto_region 1 with fail
 generalize W.alloc (.cells #[I J r.au,I J r.off,I J r.kind,I J r.sym,I J r.bh] 75)=V at *;generalize d:W.heap.size=X at i ⊢;clear d;obtain⟨x0,x1,x2,x3,x4⟩:=i.o.val;by_cases k6:r.kind=6
 ·have d6:(r.kind==6)=T:=by simpa using k6
  have E:=ae (n.o.trans (aD k6));have cA:=ae (AA w P fO S r.bh V c.o HG.o.pc.off (by have:=z.six k6;omega));clear k6 n z hw;generalize dI S r.bh=m at *;obtain⟨⟨p2,p3,p4,p5,p6⟩,f2,B,f4,f5,f6⟩:=c.o.pW;unfold bq at cA;go_wp2_with (go_at_call 58;refine cA.o.mono ?_;rintro e U ⟨rfl,f⟩;have d:=ae (c.o.grown f);have o:=ae (C.o.trans (yv.grown (P:=P) f));clear f p2 p3 p4 p5 p6 f2 B f4 f5 f6;obtain⟨⟨p2,p3,p4,p5,p6⟩,f2,B,f4,f5,f6⟩:=d.o.pW)
  go_wp2
  (try simp only[gV,Exit.then]);refine bj (gW R _ _ _) R ?_
  exact⟨R,A.o _ _ _ (d.o.kO m).1 (o.o.trans (d.o.kO m).2) E.o⟩
 have d6:(r.kind==6)=F:=by simpa using k6
 have rV:=ae (n.o.trans (ax k6));obtain⟨G,s⟩:=z.sym k6;obtain⟨sy,o⟩:=eX G;have m:S.pc.part.toNat=p:=by rw[z.part];rfl
 have d:r.sym.toNat=sy:=by omega
 rw[m,d]at rV;have f:=z.YS k6;rw[d]at f s;have B:=ae (λU (c:az w U N)=>Rw P.ap P.cp P.gl P.os p sy U (PT.o.kept c) s.1 s.2);have t:=ae (λU (c:bE w P fO S U)=>KI P.b P.ap P.cp P.gl P.os (dL P.os p sy) r.bh U c.ps (λq d=>Ic s d) (by have:=z.add;omega));obtain⟨f1,f2,D⟩:=aeQ (dL P.os p sy);rw[D]at B t;have HT:=ae f;generalize gN P.os (dL P.os p sy) r.bh=j at *;have c0:aq V ⟨P.b,0,N⟩=some (ak P.ap (ah P.gl) P.cp):=c.o.cells 0;have c4:aq V ⟨P.b,4,N⟩=some (I J p):=by rw[<- z.part];exact c.o.cells 4
 rw[o]at x3;have K:=i.o.lt;have H:=c.o.aO.lt;clear n f D m d s G o
 go_upto_region 3 with fail
 go_cut [6]from 28 to 39 (λv c=>∃Q,v=aM (some ⟨Q,0,N⟩)/\lu P c Q #[I J f1,I J f2]/\az V c N)
 case first=>
  have s:=ae (ye c.o.gr 1);have o:=ae (yf (ya c.o.gr (aG V (.cells #[I J 0,I J 0] 77) N)));have m:=ae (mA (aA.new V #[I J 0,I J 0] 77))
  go_region_with (go_at_call 23;first|(refine(B.o _ s.o).mono ?_;rintro e U ⟨rfl,f⟩;have n:=ae f;clear f)|(refine(B.o _ o.o).mono ?_;rintro e U ⟨rfl,f⟩;have n:=ae f;have O:=(m.o.grown f (by simp)).cell 0;have Y:=(m.o.grown f (by simp)).cell 1;have e0:=(m.o.grown f (by simp)).free 0;have d:=(m.o.grown f (by simp)).free 1;simp only[bI,bB,bL]at O Y;clear f))
  all_goals
   go_wp2_with fail;go_meet
   first
    |exact⟨_,R,((c.o.grown (ye (aW V N) 1)).grown n.o).loc (bz _) (aA.new U #[I J f1,I J f2] 77) (by decide) (by decide),ya (ya (ye (aW V N) 1) n.o) (aG U _ N)⟩
    |exact⟨_,R,(c.o.two n.o (by decide) (by decide) _ _).1,(c.o.two n.o (by decide) (by decide) _ _).2⟩
 case rest=>
 obtain⟨Q,rfl,m,f⟩:=hcut;have d:=ae (c.o.grown f);have o:=ae (C.o.trans (yv.grown f));have D:=ae m;have YL:=ae (Km.o.kept (λa v e=>yd e f));have G:=ae (i.o.grown f);have YR:=ae (show W.heap.size<=wc.heap.size from fV (Nat.le_of_lt Wy.o) f.size);clear m f x0 x1 x2 x3 x4 c0 c4 c C i B K H PT;generalize wc=V2 at *;have O:aq V2 ⟨Q,0,N⟩=some (I J f1):=D.o.cells 0;have Y:aq V2 ⟨Q,1,N⟩=some (I J f2):=D.o.cells 1;have x4:=G.o.val.2.2.2.2;unfold bq at t
 go_upto_region 5 with (go_at_call 24;refine(t.o _ d.o).mono ?_;rintro e U ⟨rfl,f⟩;have n:=ae f;clear f)
 have f:=ya n.o (aG U (.cells #[I J j.k,I J j.n,I J j.part,I J j.au,I J j.off] 44) N);have s:=ae (d.o.grown f);have C:=ae (o.o.trans (yv.grown f));have m:=ae (G.o.grown f);have YM:=ae (YL.o.kept (λa v e=>yd e f));have B:=ae (aA.new U #[I J j.k,I J j.n,I J j.part,I J j.au,I J j.off] 44);have Ah:=ae ((d.o.grown n.o).fresh (d.o.grown n.o).rL (bz _));have YQ:=ae (show W.heap.size<=U.heap.size from fV YR.o n.o.size);clear f n O Y x4 d o D G t;generalize U.alloc (.cells #[I J j.k,I J j.n,I J j.part,I J j.au,I J j.off] 44)=ke at *
 generalize U.heap.size=i at *;obtain⟨wg,xV,JY,c⟩:=YM.o (by have:=z.one;omega);subst JY;have d:=c 0 (by have:=z.one;omega);have o:=ae (λ(t:1<ah l)=>c 1 t);have hx1:=z.one;have e0:l.getD 0 0=l[0]'hx1:=by rw[bQ,bW hx1];rfl
 have W1:=z.words (l[0]'hx1) (bN hx1);have hbr:=z.branch;rw[e0]at rV hbr;generalize l[0]'hx1=x at *;have wG:=ae (DC x ke W1.1 W1.2);unfold xt eT at wG;have KC:=zo (aP x) x W1.1 W1.2;have Qz:=GQ (aP x) x W1.1 W1.2;have QA:=AU (aP x) x W1.1 W1.2;generalize bF (aP x) x=rd at *;generalize bR (aP x) x=r1 at *;generalize dW (aP x) x=r2 at *;generalize dO (aP x) x=nm at *;generalize qS (aP x)=fb at *;generalize cz x=op at *;rw[sP]at d;have aiN:(0:Z)<(ah l:Z):=by omega
 clear c e0
 go_upto_region 6 with (go_at_call 57;refine wG.o.mono ?_;rintro e U ⟨rfl,f⟩;have n:=ae f;clear f)
 have f:=ya n.o (aG U (.cells #[I J op,I J rd,I J r1,I J r2,I J nm,.int .u8 fb] 120) N);have H4:=ae (s.o.grown f);have kv:=ae (C.o.trans (yv.grown f));have Wx:=ae (m.o.grown f);have Pc:=ae (B.o.grown f (by simp));have LI:=ae ((s.o.grown n.o).loc (bz _) (aA.new U #[I J op,I J rd,I J r1,I J r2,I J nm,.int .u8 fb] 120) (by decide) (by decide));have Fy:=ae (λ(t:1<ah l)=>yd (o.o t) f);clear f n d s C m B wG o;generalize U.alloc (.cells #[I J op,I J rd,I J r1,I J r2,I J nm,.int .u8 fb] 120)=s at *
 generalize U.heap.size=c at *;have x2:=Wx.o.val.2.2.1;obtain⟨D,K,G,H,O,Y⟩:=LI.o.ins;have LT:=ae (show lu P s i #[I J j.k,I J j.n,I J j.part,I J j.au,I J j.off]from ⟨44,by decide,by decide,Pc.o,Ah.o⟩);obtain⟨t0,t1,t2,t3,t4⟩:=LT.o.val
 go_upto_region 8 with fail
 rcases (show r.kind=1\/r.kind=2\/r.kind=3\/r.kind=4\/r.kind=5 by omega)with k|k|k|k|k
 ·have d2:(r.kind==2)=F:=by simp;omega
  have d3:(r.kind==3)=F:=by simp;omega
  have d4:(r.kind==4)=F:=by simp;omega
  have d5:(r.kind==5)=F:=by simp;omega
  have E:=ae (show RR=iz S by rw[rV.o,ax (by omega),ax (by omega),ax (by omega),ax (by omega)]);clear rV k;go_wp2_with (go_at_call 28;refine(oo w P fO S _ H4.o).mono ?_;rintro e U ⟨rfl,t,B⟩;have C:=ae t;have mg:=ae (kv.o.trans B);clear t B)
  go_wp2
  go_end0
  exact⟨R,A.o _ _ _ C.o mg.o E.o⟩
 ·have d2:(r.kind==2)=T:=by simpa using k
  have E:=ae (rV.o.trans (aD k));have hop:=hbr k;obtain⟨o,rfl⟩:=eX Qz.1;obtain⟨m2,rfl⟩:=eX QA.1;have hj1:(o:Z)<32:=Qz.2;have hj2:(m2:Z)<32:=QA.2;obtain⟨g,cap,cur,-,c1,-,-,d⟩:=H4.o.mQ HG.o.rl;obtain⟨a0,a1,a2,a3,a4⟩:=d o (by omega);obtain⟨b0,b1,b2,b3,b4⟩:=d m2 (by omega);have pQ:=ae (HG.o.mQ (r:=(o:Z)) (by omega) hj1);have DT:=ae (HG.o.mQ (r:=(m2:Z)) (by omega) hj2);generalize bU S (o:Z)=a at *;generalize bU S (m2:Z)=b at *;have cG:=ae (λU (c:bE w P fO S U)=>Sp P.b P.ap P.cp P.gl P.os op a b U c.ps pQ.o DT.o (by omega))
  generalize lP P.os op a b=gg at *;obtain⟨gb,gk⟩:=gg;have HD:=ae (H4.o.grown (yf (aW s N)));have cA:=ae (λU (c:bE w P fO S U)=>AA w P fO S 4 U c HG.o.pc.off (by omega));generalize dI S 4=m at *;clear rV k d hbr;unfold bq at cG cA
  go_upto_region 9 with fail
  go_cut [10,11]from 58 to 80 (λu v c=>u=aJ gb/\v=aJ gk/\az s c N)
  case first=>
   go_region_held3 (λf=>aq f ⟨P.b,1,N⟩=some (ak (some ⟨g,0,N⟩) 32 cap)/\aq f ⟨c,0,N⟩=some (I J op)/\aq f ⟨c,2,N⟩=some (I J o)/\aq f ⟨c,3,N⟩=some (I J m2)/\aq f ⟨g,o*5,N⟩=some (I J a.k)/\aq f ⟨g,o*5+1,N⟩=some (I J a.n)/\aq f ⟨g,o*5+2,N⟩=some (I J a.part)/\aq f ⟨g,o*5+3,N⟩=some (I J a.au)/\aq f ⟨g,o*5+4,N⟩=some (I J a.off)/\aq f ⟨g,m2*5,N⟩=some (I J b.k)/\aq f ⟨g,m2*5+1,N⟩=some (I J b.n)/\aq f ⟨g,m2*5+2,N⟩=some (I J b.part)/\aq f ⟨g,m2*5+3,N⟩=some (I J b.au)/\aq f ⟨g,m2*5+4,N⟩=some (I J b.off))
    (go_keep)
    (first|(go_at_call 64;refine(cG.o _ HD.o).mono ?_;rintro e f ⟨rfl,d⟩;have aia:=yd (yd c1 (yf (aW s N))) d;have aib:=yd (yd D (yf (aW s N))) d;have aic:=yd (yd G (yf (aW s N))) d;have aid:=yd (yd H (yf (aW s N))) d;have t:=yd (yd a0 (yf (aW s N))) d;have B:=yd (yd a1 (yf (aW s N))) d;have C:=yd (yd a2 (yf (aW s N))) d;have ah3:=yd (yd a3 (yf (aW s N))) d;have ah4:=yd (yd a4 (yf (aW s N))) d;have ah5:=yd (yd b0 (yf (aW s N))) d;have ah6:=yd (yd b1 (yf (aW s N))) d;have ah7:=yd (yd b2 (yf (aW s N))) d;have ah8:=yd (yd b3 (yf (aW s N))) d;have ah9:=yd (yd b4 (yf (aW s N))) d))
   go_wp2_with fail;go_meet;exact⟨R,R,ya (yf (aW s N)) d⟩
  case rest=>
   obtain⟨rfl,rfl,d⟩:=hcut;have C:=ae (H4.o.grown d);have mg:=ae (kv.o.trans (yv.grown d));have Fw:=ae (Pc.o.grown d (by simp));clear d c1 D K G H O Y a0 a1 a2 a3 a4 b0 b1 b2 b3 b4 t0 t1 t2 t3 t4 x2;generalize wc=fp at *
   cases gk
   ·have E2:=ae (show RR=iz S from E.o);go_wp2_with (go_at_call 28;refine(oo w P fO S _ C.o).mono ?_;rintro e U ⟨rfl,t,B⟩;have gJ:=ae t;have tL:=ae (mg.o.trans B);clear t B)
    go_wp2
    (try simp only[gV,Exit.then]);refine bj (gW R _ _ _) R ?_
    exact⟨R,A.o _ _ _ gJ.o tL.o E2.o⟩
   cases gb
   ·have E2:=ae (show RR=eB m S from E.o)
    go_upto_region 14 with (go_at_call 58;refine(cA.o _ C.o).mono ?_;rintro e U ⟨rfl,f⟩;have n:=ae f;clear f;obtain⟨t0,t1,t2,t3,t4⟩:=dS (Fw.o.grown n.o (by simp));obtain⟨e0,d,e2,e3,e4⟩:=qc (Fw.o.grown n.o (by simp)))
    have f:=ae ((C.o.grown n.o).Hq (mg.o.trans (yv.grown n.o)) (Fw.o.grown n.o (by simp)) Ah.o YQ.o Bv.o m);have gJ:=ae f.o.1;have tL:=ae f.o.2.1;have Pf:=ae f.o.2.2.1;clear f n t0 t1 t2 t3 t4 e0 d e2 e3 e4;unfold kC at gJ tL Pf;generalize aK _ _ _=f at *;obtain⟨⟨p2,p3,p4,p5,p6⟩,t,B,f4,f5,f6⟩:=gJ.o.pW;obtain⟨t0,t1,t2,t3,t4⟩:=dS Pf.o;go_wp2
    go_end0
    exact⟨R,A.o _ _ _ (gJ.o.kO m).1 (tL.o.trans (gJ.o.kO m).2) E2.o⟩
   ·have E2:=ae (show RR=eB j S from E.o);obtain⟨⟨p2,p3,p4,p5,p6⟩,t,B,f4,f5,f6⟩:=C.o.pW;obtain⟨t0,t1,t2,t3,t4⟩:=dS Fw.o;go_wp2
    go_end0
    exact⟨R,A.o _ _ _ (C.o.kO j).1 (mg.o.trans (C.o.kO j).2) E2.o⟩
 ·have d2:(r.kind==2)=F:=by simp;omega
  have d3:(r.kind==3)=T:=by simpa using k
  have E:=ae (rV.o.trans ((ax (by omega)).trans (aD k)));have cA:=ae (AA w P fO S 4 s H4.o HG.o.pc.off (by omega));generalize dI S 4=m at *;clear rV k;unfold bq at cA
  go_upto_region 17 with (go_at_call 58;refine cA.o.mono ?_;rintro e U ⟨rfl,f⟩;have n:=ae f;clear f)
  have f:=ya n.o (aG U (.cells #[I J m.k,I J m.n,I J m.part,I J m.au,I J m.off] 44) N);have C:=ae (H4.o.grown f);have mg:=ae (kv.o.trans (yv.grown f));have A9:=ae (LI.o.grown f);have CF:=ae (LT.o.grown f);have LN:=ae ((H4.o.grown n.o).loc (bz _) (aA.new U #[I J m.k,I J m.n,I J m.part,I J m.au,I J m.off] 44) (by decide) (by decide));clear f n D K G H O Y t0 t1 t2 t3 t4 x2;generalize U.alloc (.cells #[I J m.k,I J m.n,I J m.part,I J m.au,I J m.off] 44)=fp at *
  generalize U.heap.size=f at *;obtain⟨D,K,G,H,O,Y⟩:=A9.o.ins;obtain⟨n0,n1,n2,n3,n4⟩:=LN.o.val;have cP:=ae (yS w P fO S rd m fp C.o HG.o.rl KC);unfold bq at cP
  go_upto_region 18 with (go_at_call 59;refine cP.o.mono ?_;rintro e U ⟨rfl,t,B⟩;have gJ:=ae t;have tL:=ae B;clear t B)
  obtain⟨⟨p2,p3,p4,p5,p6⟩,t,B,f4,f5,f6⟩:=gJ.o.pW;obtain⟨t0,t1,t2,t3,t4⟩:=(CF.o.gQ tL.o).val;clear D K G H O Y n0 n1 n2 n3 n4;go_wp2
  go_end0
  exact⟨R,A.o _ _ _ (gJ.o.kO j).1 ((mg.o.trans tL.o).trans (gJ.o.kO j).2) E.o⟩
 ·have d2:(r.kind==2)=F:=by simp;omega
  have d3:(r.kind==3)=F:=by simp;omega
  have d4:(r.kind==4)=T:=by simpa using k
  have E:=ae (rV.o.trans ((ax (by omega)).trans ((ax (by omega)).trans (aD k))));have o:1<ah l:=by have:=z.two (by omega);omega
  have m:=Fy.o o;have d:l.getD 1 0=l[1]'o:=by rw[bQ,bW o];rfl
  have W2:=z.words (l[1]'o) (bN o);rw[d]at E;generalize l[1]'o=y at *;have wG:=ae (DC y s W2.1 W2.2);unfold xt eT at wG;have Kz:=zo (aP y) y W2.1 W2.2;have QX:=AU (aP y) y W2.1 W2.2;generalize bF (aP y) y=vW at *;generalize bR (aP y) y=y1 at *;generalize dW (aP y) y=y2 at *;generalize dO (aP y) y=xA at *;generalize qS (aP y)=xz at *;generalize cz y=xB at *;have ti:(1:Z)<(ah l:Z):=by omega
  clear d rV k Fy
  go_upto_region 21 with (go_at_call 57;refine wG.o.mono ?_;rintro e U ⟨rfl,f⟩;have n:=ae f;clear f)
  have f:=ya n.o (aG U (.cells #[I J xB,I J vW,I J y1,I J y2,I J xA,.int .u8 xz] 120) N);have C:=ae (H4.o.grown f);have mg:=ae (kv.o.trans (yv.grown f));have A9:=ae (LI.o.grown f);have CF:=ae (LT.o.grown f);have sK:=ae ((H4.o.grown n.o).loc (bz _) (aA.new U #[I J xB,I J vW,I J y1,I J y2,I J xA,.int .u8 xz] 120) (by decide) (by decide));clear f n m D K G H O Y t0 t1 t2 t3 t4 x2;generalize U.alloc (.cells #[I J xB,I J vW,I J y1,I J y2,I J xA,.int .u8 xz] 120)=fp at *
  generalize U.heap.size=d at *;obtain⟨D,K,G,H,O,Y⟩:=A9.o.ins;have cA:=ae (AA w P fO S 8 fp C.o HG.o.pc.off (by omega));generalize dI S 8=m at *;unfold bq at cA
  go_upto_region 22 with (go_at_call 58;refine cA.o.mono ?_;rintro e U ⟨rfl,f⟩;have n:=ae f;clear f)
  have f:=ya n.o (aG U (.cells #[I J m.k,I J m.n,I J m.part,I J m.au,I J m.off] 44) N);have gJ:=ae (C.o.grown f);have tL:=ae (mg.o.trans (yv.grown f));have oh:=ae (A9.o.grown f);have Wz:=ae (CF.o.grown f);have Wv:=ae (sK.o.grown f);have LN:=ae ((C.o.grown n.o).loc (bz _) (aA.new U #[I J m.k,I J m.n,I J m.part,I J m.au,I J m.off] 44) (by decide) (by decide));clear f n D K G H O Y;generalize U.alloc (.cells #[I J m.k,I J m.n,I J m.part,I J m.au,I J m.off] 44)=ja at *
  generalize U.heap.size=f at *;obtain⟨D,K,G,H,O,Y⟩:=oh.o.ins;have cP:=ae (yS w P fO S rd bV ja gJ.o HG.o.rl KC);have HG2:=ae (HG.o.put rd bV (wA P.os));unfold bq at cP
  go_upto_region 23 with (go_at_call 59;refine cP.o.mono ?_;rintro e U ⟨rfl,t,B⟩;have pF:=ae t;have oz:=ae B;clear t B)
  clear D K G H O Y;obtain⟨n0,n1,n2,n3,n4⟩:=(LN.o.gQ oz.o).val;obtain⟨D,K,G,H,O,Y⟩:=(Wv.o.gQ oz.o).ins;have ux:=ae (yS w P fO (dH rd bV S) vW m U pF.o HG2.o.rl Kz);unfold bq at ux
  go_upto_region 24 with (go_at_call 59;refine ux.o.mono ?_;rintro e kz ⟨rfl,t,B⟩;have tJ:=ae t;have ER:=ae B;clear t B)
  obtain⟨⟨p2,p3,p4,p5,p6⟩,t,B,f4,f5,f6⟩:=tJ.o.pW;obtain⟨t0,t1,t2,t3,t4⟩:=((Wz.o.gQ oz.o).gQ ER.o).val;clear D K G H O Y n0 n1 n2 n3 n4;go_wp2
  go_end0
  exact⟨R,A.o _ _ _ (tJ.o.kO j).1 (((tL.o.trans oz.o).trans ER.o).trans (tJ.o.kO j).2) E.o⟩
 ·have d2:(r.kind==2)=F:=by simp;omega
  have d3:(r.kind==3)=F:=by simp;omega
  have d4:(r.kind==4)=F:=by simp;omega
  have d5:(r.kind==5)=T:=by simpa using k
  have E:=ae (rV.o.trans ((ax (by omega)).trans ((ax (by omega)).trans ((ax (by omega)).trans (aD k)))));have o:1<ah l:=by have:=z.two (by omega);omega
  have m:=Fy.o o;have d:l.getD 1 0=l[1]'o:=by rw[bQ,bW o];rfl
  have W2:=z.words (l[1]'o) (bN o);rw[d]at E;generalize l[1]'o=y at *;have wG:=ae (DC y s W2.1 W2.2);unfold xt eT at wG;have Kz:=zo (aP y) y W2.1 W2.2;have QX:=AU (aP y) y W2.1 W2.2;generalize bF (aP y) y=vW at *;generalize bR (aP y) y=y1 at *;generalize dW (aP y) y=y2 at *;generalize dO (aP y) y=xA at *;generalize qS (aP y)=xz at *;generalize cz y=xB at *;have ti:(1:Z)<(ah l:Z):=by omega
  clear d rV k Fy
  go_upto_region 27 with (go_at_call 57;refine wG.o.mono ?_;rintro e U ⟨rfl,f⟩;have n:=ae f;clear f)
  have f:=ya n.o (aG U (.cells #[I J xB,I J vW,I J y1,I J y2,I J xA,.int .u8 xz] 120) N);have C:=ae (H4.o.grown f);have mg:=ae (kv.o.trans (yv.grown f));have A9:=ae (LI.o.grown f);have CF:=ae (LT.o.grown f);have sK:=ae ((H4.o.grown n.o).loc (bz _) (aA.new U #[I J xB,I J vW,I J y1,I J y2,I J xA,.int .u8 xz] 120) (by decide) (by decide));clear f n m D K G H O Y t0 t1 t2 t3 t4 x2;generalize U.alloc (.cells #[I J xB,I J vW,I J y1,I J y2,I J xA,.int .u8 xz] 120)=fp at *
  generalize U.heap.size=d at *;obtain⟨D,K,G,H,O,Y⟩:=A9.o.ins;have cP:=ae (yS w P fO S rd bV fp C.o HG.o.rl KC);have HG2:=ae (HG.o.put rd bV (wA P.os));unfold bq at cP
  go_upto_region 28 with (go_at_call 59;refine cP.o.mono ?_;rintro e U ⟨rfl,t,B⟩;have pF:=ae t;have oz:=ae B;clear t B)
  clear D K G H O Y;obtain⟨t0,t1,t2,t3,t4⟩:=(CF.o.gQ oz.o).val;obtain⟨D,K,G,H,O,Y⟩:=(sK.o.gQ oz.o).ins;have f:=ae (abu w P fO (dH rd bV S) xB vW y1 y2 xA xz j U pF.o HG2.o HT.o Kz QX);unfold bq eT at f;go_wp2_with (go_at_call 66;refine f.o.mono ?_;rintro e kz ⟨rfl,⟨B,m⟩,t⟩;have tJ:=ae m;have ER:=ae t;clear m t)
  go_wp2
  go_end0
  exact⟨R,A.o _ _ _ tJ.o ((mg.o.trans oz.o).trans ER.o) E.o⟩
theorem Gp.of{P:ex}{S:bJ}{p q s i:M}(o:p<ah P.os)(m:yl P.os[p])(z:q<P.os[p].ay.length)(d:S.pc.part=p)(G:s=1\/s=2)(u:P.os[p].ay[q].au=(s:Z))(E:P.os[p].ay[q].off=4*(i:Z))
  (y:∀f a,lD P.os (p,f)->-2048<=a/\a<=2047->dP P.os (gN P.os (dL P.os p f) a)):Gp P S P.os[p].ay[q] ((aQ P.os[p] s).drop i) p:=by
 obtain⟨B,b,g,-,⟨-,-,t⟩,a,-⟩:=m.rel q z;have l:=AP m (s:Z);rw[u]at t;unfold about at a;rw[u]at a;rw[<- me _ s (by omega)]at t a l;have H:=yW b;have D:((aQ P.os[p] s).drop i).length=(aQ P.os[p] s).length-i:=yI;have k:P.os[p].ay[q].kind=4\/P.os[p].ay[q].kind=5->yy P.os[p].ay[q]=2:=λh=>aD h
 generalize P.os[p].ay[q]=r at *;unfold lz at B;unfold pu at g;have j:=b.six;unfold fX at b;have v:-2048<=r.bh/\r.bh<=2047:=by
  split at b
  ·exact b
  ·split at b<;>omega
 have f:r.kind≠6->0<=r.sym/\lD P.os (p,r.sym.toNat):=λc=>by
  rw[ax c]at g;exact⟨g.1,o,by show r.sym.toNat<P.os[p].aE.length;omega⟩
 refine⟨d,o,by omega,j,f,by omega,λx A=>l x (E9 A),by omega,λh=>by have:=k h;omega,λw=>?_,λc=>y _ _ (f c).2 v⟩;unfold ey at a;rw[ax (by omega),aD w,show (r.off/4).toNat=i by omega]at a;have e:(((aQ P.os[p] s).drop i).take (yy r).toNat).getD 0 0=((aQ P.os[p] s).drop i).getD 0 0:=by rw[bQ,List.getElem?_take,aD (by omega),bQ]
 rw[e]at a;have c:0<((aQ P.os[p] s).drop i).length:=by omega
 have C:((aQ P.os[p] s).drop i).getD 0 0=((aQ P.os[p] s).drop i)[0]:=by rw[bQ,bW c];rfl
 have wr:=l _ (E9 (bN c));rw[C]at a ⊢;exact(OT wr.1 wr.2 a (n:=0) (by omega) (by omega) (by omega)).1
theorem adg(w:av)(P:ex)(X:aC)(S:bJ)(W:av)(h:bE w P X S W)(hG:qF P.os S)(he:S.aU=0)(hi:ah P.ins<=16)
  (hA:∀p g f,lD P.os (p,g)->-2048<=f/\f<=2047->dP P.os (gN P.os (dL P.os p g) f)) :
  Calls prog 11 #[aM (some ⟨P.b,0,N⟩)] W λe f=>e=aH (.tuple #[])/\vc w P (pP P.os P.ins S) W f:=by
 have C:=ae (show pP P.os P.ins S=if S.pc.k=0 then {S with aU:=if iy S.pc.n=T\/S.pc.n%4≠0 then 2 else -1}
  else if S.pc.k=1 then {S with aU:=if fm P.os S.pc=T then 2 else -1}
  else if S.pc.k=3 then iz S
  else if nA P.os S.pc=F then iz S
  else if (lj P.os S.pc).kind=0 then wB P.os P.ins ((uU P.os S.pc.part S.pc.au).getD (S.pc.off/4).toNat 0) S
  else if S.pc.off≠(lj P.os S.pc).off then iz S
  else mu P.os (lj P.os S.pc) ((uU P.os S.pc.part S.pc.au).getD (S.pc.off/4).toNat 0) ((uU P.os S.pc.part S.pc.au).getD (S.pc.off/4+1).toNat 0) S from R)
 have z:=ae h;have Y:=ae hG;have j:Hd (∀U g f,bE w P g f U->yv P W U->pP P.os P.ins S=f->vc w P (pP P.os P.ins S) W U):=λU g f h k e=>⟨⟨g,by rw[e];exact h⟩,k⟩
 generalize pP P.os P.ins S=A at *;obtain⟨⟨p2,K,p4,O,Q⟩,-⟩:=h.pW;obtain⟨f,g⟩:=h.zL;have ajh:=hG.pc.k;have n0:=hG.pc.n.1;clear h hG;go_enter func11,ntmps11;rcases (show S.pc.k=0\/S.pc.k=1\/S.pc.k=3\/S.pc.k=2 by omega)with k|k|k|k
 ·have d0:(S.pc.k==0)=T:=by simpa using k
  have E:=ae (C.o.trans (aD k));clear C k
  go_upto_region 4 with (go_at_call 26;refine(Dp S.pc.n _).mono ?_;rintro e t ⟨rfl,rfl⟩)
  have n:=ae (z.o.jA (-1));have o:=ae (z.o.gZ 10 (I J (-1)));clear p2 K p4 O Q f g;generalize aK t ⟨P.b,10,N⟩ (I J (-1))=U at *;obtain⟨⟨-,K,-⟩,-⟩:=n.o.pW;obtain⟨f,g⟩:=n.o.zL;rcases (show (iy S.pc.n=F/\(S.pc.n%4==0)=T/\(S.pc.n%4 != 0)=F/\Hd (A={S with aU:=-1}))\/((iy S.pc.n=T\/(iy S.pc.n=F/\(S.pc.n%4==0)=F/\(S.pc.n%4 != 0)=T))/\Hd (A={S with aU:=2})) by
   have a:=E.o;unfold Hd;rw[a]
   cases iy S.pc.n
   ·by_cases c:S.pc.n%4=0
    ·exact .inl ⟨R,by simpa using c,by simpa using c,by rw[ax (by simp[c])]⟩
    ·exact .inr ⟨.inr ⟨R,by simpa using c,by simpa using c⟩,by rw[aD (.inr c)]⟩
   ·exact .inr ⟨.inl R,by rw[aD (.inl R)]⟩)with ⟨d1,u,d3,l⟩|⟨d,l⟩
  ·clear E;dsimp only at K;go_wp2
   (try simp only[gV,Exit.then]);refine bj (gW R _ _ _) R ?_
   exact⟨R,j.o _ _ _ n.o o.o l.o⟩
  ·clear E;dsimp only at K f;rcases d with d|⟨d1,u,d3⟩
   all_goals
    go_wp2
    (try simp only[gV,Exit.then]);refine bj (gW R _ _ _) R ?_
    exact⟨R,j.o _ _ _ (n.o.jA 2) (o.o.trans (n.o.gZ 10 _)) l.o⟩
 ·have d0:(S.pc.k==0)=F:=by simp;omega
  have d1:(S.pc.k==1)=T:=by simpa using k
  have E:=ae (C.o.trans ((ax (by omega)).trans (aD k)));have t:=ae (Df P.b P.ap P.cp P.gl P.os S.pc W z.o.ps (Y.o.pc.zH (.inl k)));clear C k;unfold bq at t
  go_upto_region 8 with (go_at_call 27;refine t.o.mono ?_;rintro e G ⟨rfl,H⟩)
  have l:=ae (z.o.grown H);have K1:=ae (yv.grown (P:=P) H);clear H p2 K p4 O Q f g;obtain⟨f,g⟩:=l.o.zL
  go_upto_region 9 with fail
  have o:=ae (l.o.jA (-1));have u:=ae (K1.o.trans (l.o.gZ 10 (I J (-1))));clear f g;generalize aK G ⟨P.b,10,N⟩ (I J (-1))=U at *;obtain⟨f,g⟩:=o.o.zL
  cases n:fm P.os S.pc
  ·have y:=ae (show A={S with aU:=-1} by rw[E.o,n];rfl);clear n E;go_wp2
   (try simp only[gV,Exit.then]);refine bj (gW R _ _ _) R ?_
   exact⟨R,j.o _ _ _ o.o u.o y.o⟩
  ·have y:=ae (show A={S with aU:=2} by rw[E.o,n];rfl);clear n E;go_wp2
   (try simp only[gV,Exit.then]);refine bj (gW R _ _ _) R ?_
   exact⟨R,j.o _ _ _ (o.o.jA 2) (u.o.trans (o.o.gZ 10 _)) y.o⟩
 ·have d0:(S.pc.k==0)=F:=by simp;omega
  have d1:(S.pc.k==1)=F:=by simp;omega
  have d3:(S.pc.k==3)=T:=by simpa using k
  have E:=ae (C.o.trans ((ax (by omega)).trans ((ax (by omega)).trans (aD k))));clear C k;go_wp2_with (go_at_call 28;refine(oo w P X S _ z.o).mono ?_;rintro e U ⟨rfl,t,D⟩;have o:=ae t;have u:=ae D;clear t D)
  go_wp2
  (try simp only[gV,Exit.then]);refine bj (gW R _ _ _) R ?_
  exact⟨R,j.o _ _ _ o.o u.o E.o⟩
 have d0:(S.pc.k==0)=F:=by simp;omega
 have d1:(S.pc.k==1)=F:=by simp;omega
 have d3:(S.pc.k==3)=F:=by simp;omega
 have E:=ae (C.o.trans ((ax (by omega)).trans ((ax (by omega)).trans (ax (by omega)))));have n:=ae (RD P.b P.ap P.cp P.gl P.os S.pc W z.o.ps (Y.o.pc.zH (.inr k)));have PC:=ae (Y.o.pc.c k);clear C k;unfold bq at n
 go_upto_region 14 with (go_at_call 29;refine n.o.mono ?_;rintro e G ⟨rfl,H⟩)
 have l:=ae (z.o.grown H);have K1:=ae (yv.grown (P:=P) H);clear H p2 K p4 O Q f g n z
 cases f:nA P.os S.pc
 ·have y:=ae (E.o.trans (aD f));clear f E;go_wp2_with (go_at_call 28;refine(oo w P X S _ l.o).mono ?_;rintro e U ⟨rfl,t,D⟩;have o:=ae t;have u:=ae D;clear t D)
  go_wp2
  (try simp only[gV,Exit.then]);refine bj (gW R _ _ _) R ?_
  exact⟨R,j.o _ _ _ o.o (K1.o.trans u.o) y.o⟩
 have y:=ae (E.o.trans (ax (by rw[f];simp)));obtain⟨p,s,i,n,o,hs1,K,hpg,ep,es,eo,E3⟩:∃p s i:M,∃n:p<ah P.os,yl P.os[p]/\(s=1\/s=2)/\i<(aQ P.os[p] s).length/\p<ah P.gl/\Hd (S.pc.part=p)/\Hd (S.pc.au=s)/\Hd (S.pc.off=4*(i:Z)) /\
   Hd (A=if (cB s (4*(i:Z)) 0 P.os[p].ay).2.kind=0 then wB P.os P.ins ((aQ P.os[p] s).getD i 0) S
    else if (4*(i:Z))≠(cB s (4*(i:Z)) 0 P.os[p].ay).2.off then iz S
    else mu P.os (cB s (4*(i:Z)) 0 P.os[p].ay).2 ((aQ P.os[p] s).getD i 0) ((aQ P.os[p] s).getD (i+1) 0) S):=by
  obtain⟨hp,hsx,ho0,hos,ai4⟩:=PC.o;obtain⟨p,n,ep,es,er⟩:=sS hp;have hb2:=Bq.1 f;unfold kN at hb2;obtain⟨s,hs⟩:∃s:M,S.pc.au=s:=⟨S.pc.au.toNat,by omega⟩
  obtain⟨i,xY⟩:∃i:M,S.pc.off=4*(i:Z):=⟨(S.pc.off/4).toNat,by omega⟩
  rw[es,hs,dy]at hb2;have Ua:lj P.os S.pc=(cB s (4*(i:Z)) 0 P.os[p].ay).2:=by unfold lj;rw[er,hs,show S.pc.off/4=i by omega]
  have e:=y.o;rw[Ua,es,hs,dy,show (S.pc.off/4).toNat=i by omega,show (S.pc.off/4+1).toNat=i+1 by omega,xY]at e;exact⟨p,s,i,n,l.o.parts.val P.os[p] (bN n),by omega,by omega,by have:=l.o.parts.len;omega,ep,hs,xY,e⟩
 clear y E f PC;have sl:=vN o s;have t:=ae (l.o.ps.parts.obj p hpg n);have CP:=ae o;have z:=ae (Gk P.gl[p] P.os[p] G t.o o.1.2.1);obtain⟨g0,xQ,f,g⟩:=l.o.ps.parts.kD (by omega);have C:=g p hpg;have y:=l.o.ps.cell;rw[f]at y;have Q:aq G ⟨P.b,4,N⟩=some (I J p):=by rw[<- ep.o];exact l.o.pW.1.2.2.1
 have gp:(p:Z)<(ah P.gl:Z):=by omega
 generalize P.gl[p]=Qi at *;clear g f o
 go_upto_region 16 with fail
 go_quiet (fail)
 have f:=ae (ye (aW G N) nq);have o:=ae (l.o.grown f.o);have u:=ae (K1.o.trans (yv.grown f.o));have O:=ae (Gk Qi P.os[p] (G.drewN nq) (t.o.kept f.o) CP.o.1.2.1);have D:=ae (t.o.kept f.o);clear C y Q z l K1 f t;generalize G.drewN nq=V at *
 go_upto_region 18 with (go_at_call 30;refine O.o.mono ?_;rintro e V2 ⟨B,at2,ahP,ahR,ahO,ahQ,ahN,g,rfl,hsc,g2⟩)
 obtain⟨ao,y,Zy,f,C⟩:∃ao y,aq V2 ⟨B,s,N⟩=some (ak ao (aQ P.os[p] s).length y)/\yq V2 ao (aQ P.os[p] s)/\((aQ P.os[p] s).length<=y/\y<=cu):=by
  obtain⟨ao,y,l,t,z,Q⟩:=hsc.sec (s-1) (by omega);rw[show s-1+1=s by omega]at l;rw[show ((s-1:M):Z)+1=(s:Z) by omega,<- me _ s (by omega)]at l t Q;exact⟨ao,y,l,Q,t,z⟩
 have t:=ae (o.o.grown g2);have qA:=ae (u.o.trans (yv.grown g2));have z:=ae (D.o.kept g2);have l:=ae f;clear hsc g2 f O o u D;obtain⟨⟨-,-,-,O,Q⟩,-⟩:=t.o.pW;rw[es.o]at O;rw[eo.o]at Q;have s5:(s:Z)<5:=by omega
 have t4:Int.tdiv (4*(i:Z)) 4=i:=by rw[sJ (by omega)];omega
 have w4:J.wrap (i:Z)=i:=IntWalk.i64_in _ ⟨by omega,by omega⟩;have f:=ae (RB Qi P.os[p] (s:Z) i V2 z.o CP.o (by omega));have il:(i:Z)<((aQ P.os[p] s).length:Z):=by omega
 go_upto_region 21 with (go_at_call 31;refine f.o.mono ?_;rintro e u ⟨kk,jj,rfl,hrs,g3⟩)
 have H4:=ae (t.o.grown g3);have kv:=ae (qA.o.trans (yv.grown g3));have HI4:=ae (l.o.kept (λa v e=>yd e g3));have WZ:=ae (z.o.kept g3);clear g3 Zy O Q f t qA z l;obtain⟨wg,xV,JY,o⟩:=HI4.o (by omega);subst JY;have Y1:=o i K;have gi:(aQ P.os[p] s).getD i 0=(aQ P.os[p] s)[i]:=by rw[bQ,bW K];rfl
 rcases hrs with ⟨l,rfl,rfl⟩|⟨q,hq,l,rfl,e1,e2,e3,e4⟩
 ·have O:=ae (show A=wB P.os P.ins (aQ P.os[p] s)[i] S by rw[E3.o,l,aD R,gi]);have f:=AP CP.o (s:Z);rw[<- me _ s (by omega)]at f;have wr:=f _ (bN K);have t:=ae (ac0 w P X S (aQ P.os[p] s)[i] u H4.o Y.o he hi wr.1 wr.2);clear l gi o f wr;generalize (aQ P.os[p] s)[i]=x at *;go_wp2_with (go_at_call 32;refine t.o.mono ?_;rintro e U ⟨rfl,⟨v3,z⟩,D⟩;have Q:=ae z;have mg:=ae D;clear z D)
  go_wp2
  (try simp only[gV,Exit.then]);refine bj (gW R _ _ _) R ?_
  exact⟨R,j.o _ _ _ (O.o ▸ Q.o) (kv.o.trans mg.o) R⟩
 ·have BA:decide ((q:Z)<0)=F:=gF (by omega);have kd:=(CP.o.rel q hq).1;unfold lz at kd;by_cases j0:jj=0
  rotate_left
  ·have f:decide (0<jj)=T:=decide_eq_true (by omega);have O:=ae (show A=iz S by rw[E3.o,l,ax (by show ¬P.os[p].ay[q].kind=0;omega),aD (by show 4*(i:Z)≠P.os[p].ay[q].off;omega)]);clear l e1 e2 gi o;go_wp2_with (go_at_call 28;refine(oo w P X S _ H4.o).mono ?_;rintro e U ⟨rfl,t,D⟩;have Q:=ae t;have mg:=ae D;clear t D)
   go_wp2
   (try simp only[gV,Exit.then]);refine bj (gW R _ _ _) R ?_
   exact⟨R,j.o _ _ _ Q.o (kv.o.trans mg.o) O.o⟩
  subst j0;have z:((aQ P.os[p] s).drop i).getD 0 0=(aQ P.os[p] s).getD i 0:=by rw[bQ,EX,sP,<- bQ]
  have D:((aQ P.os[p] s).drop i).getD 1 0=(aQ P.os[p] s).getD (i+1) 0:=by rw[bQ,EX,<- bQ]
  have O:=ae (show A=mu P.os P.os[p].ay[q] (((aQ P.os[p] s).drop i).getD 0 0) (((aQ P.os[p] s).drop i).getD 1 0) S by rw[E3.o,l,ax (by show ¬P.os[p].ay[q].kind=0;omega),ax (by show ¬(4*(i:Z)≠P.os[p].ay[q].off);omega),z,D]);have zx:=ae (Gp.of (P:=P) (S:=S) (i:=i) n CP.o hq ep.o hs1 e1 (by omega) (λg f a b=>hA p g f a b));have Km:=ae (show yq u (some ⟨wg,xV+i,N⟩) ((aQ P.os[p] s).drop i)from λ_=>⟨wg,xV+i,R,λm t=>by
   have f:i+m<(aQ P.os[p] s).length:=by simp at t;omega
   rw[Nat.add_assoc,o (i+m) f];simp⟩)
  obtain⟨at_,ct,af,cf,ad,cd,aa,ca,gP,cs,ar,cr,Q,-,-,-,-,-,q6⟩:=WZ.o.open;obtain⟨rg,hrg,-,t⟩:=pi.dh q6 (by omega);subst hrg;obtain⟨r0,r1,r2,r3,r4⟩:=t q hq;have k6:=Q.cell 6;simp only[bI,bB,bL]at k6;have Y8:(q:Z)<(P.os[p].ay.length:Z):=by omega
  have f:((aQ P.os[p] s).drop i).length=(aQ P.os[p] s).length-i:=yI;have HD:=ae (H4.o.grown (yf (aW u N)));have cR:=ae (aaR w P X S P.os[p].ay[q] ((aQ P.os[p] s).drop i) p (some ⟨wg,xV+i,N⟩) (y-i) u.drew HD.o Y.o (Km.o.kept (λa v e=>yd e (yf (aW u N)))) zx.o);rw[f]at cR;clear l e1 e2 gi o Q q6 t kd z D f Y1;generalize P.os[p].ay[q]=r at *;generalize z:(aQ P.os[p] s).length=f at *;have aiq:=C.1;have t:=C.2;unfold cu at t;have Zg:¬y=i:=by omega
  have j1:(i:Z)<=(f:Z):=by omega
  have j2:(0:Z)<=(i:Z):=by omega
  have ai6:(f:Z)<=(y:Z):=by omega
  clear z C sl
  go_upto_region 25 with fail
  go_region_with (go_at_call 33;refine cR.o.mono ?_;rintro e U ⟨rfl,⟨v3,z⟩,D⟩;have Q:=ae z;have mg:=ae D;clear z D)
  all_goals
   go_wp2
   go_end0
   exact⟨R,j.o _ _ _ (O.o ▸ Q.o) ((kv.o.trans (yv.grown (yf (aW u N)))).trans mg.o) R⟩
theorem adf(c:Z)(w:av)(b:-9223372036854775808<=c)(f:c<=9223372036854775807):
  Calls prog 10 #[I J c,I J 20001] w λe a=>(∃i:M,i<=20000/\e=aH (I J i))/\a=w:=by
 by_cases a:c<0
 ·have d:decide (c<0)=T:=by simpa using a
  go_enter func10,ntmps10;go_wp2;go_ret;have e:-((c+1).tmod 20001)=(((-(c+1))%20001).toNat:Z):=by
   rw[<- Int.neg_tmod,Int.tmod_eq_emod_of_nonneg (by omega)];omega
  exact⟨⟨((-(c+1))%20001).toNat,by omega,fY e⟩,R⟩
 ·have d:decide (c<0)=F:=by simpa using a
  go_enter func10,ntmps10;go_wp2;go_ret;exact⟨⟨(c%20001).toNat,by omega,fY (by omega)⟩,R⟩
theorem ae0(q:aR aY)(u:M)(fs:L (L UInt8))(w:av)(h:sE w q fs)(m:∀f∈fs,ah f<=281474976710656)(D:ah fs<=281474976710656):
  Calls prog 4 #[ak q (ah fs) u] w λe a=>(∃b,e=aH (aJ b)/\(b=T->ah fs<=1048576/\∀f∈fs,ah f<=1048576))/\a=w:=by
 by_cases B:1048576<ah fs
 ·have d:decide (1048576<(ah fs:Z))=T:=by simp;omega
  go_enter func4,ntmps4;go_wp2;go_ret;exact⟨⟨F,R,λc=>by cases c⟩,R⟩
 have y:decide (1048576<(ah fs:Z))=F:=by simp;omega
 have s:=ae h;have t:=ae m;clear h m;go_enter func4,ntmps4;go_wp2
 go_loopw [3,4] (λn i wr=>∃(k:M) (x:Z),k<=ah fs/\i=I J k/\n=I J x/\(0<=x/\x<=1048576)/\(∀f∈fs.take k,ah f<=1048576)/\wr=w) (λ_ i _=>ah fs-(intOf i).toNat)
 case atStart=>exact⟨0,ah fs,bG _,R,R,by omega,λf a=>by simp at a,R⟩
 case round=>
  obtain⟨k,x,C,rfl,rfl,E,a,rfl⟩:=hrel;have p:=ae a;clear a;by_cases g:k<ah fs
  ·have r:(k:Z)<(ah fs:Z):=by omega
   obtain⟨A,H,o,j⟩:=s.o (by omega);subst o;have G:=j k g;have z:=t.o fs[k] (bN g);have O:(bs fs[k]).size=fs[k].length:=nK _;have K:J.wrap (x+((bs fs[k]).size:Z))=x+((bs fs[k]).size:Z):=IntWalk.i64_in _ ⟨by omega,by omega⟩;have v:=ae (λ(h:fs[k].length<=1048576)=>show ∀l∈fs.take (k+1),ah l<=1048576 by
    intro l a;rw[kI g]at a;rcases List.mem_append.1 a with a|a
    ·exact p.o l a
    ·simp only[List.mem_singleton]at a;subst a;exact h)
   clear j;generalize fs[k]=f at *;by_cases a:1048576<x+((bs f).size:Z)
   ·have j:decide (1048576<x+((bs f).size:Z))=T:=by simpa using a
    go_wp2;go_ret;exact⟨⟨F,R,λc=>by cases c⟩,R⟩
   ·have j:decide (1048576<x+((bs f).size:Z))=F:=by simpa using a
    have N:=ae (v.o (by omega));go_wp2
    go_roundw
    case rel=>exact⟨k+1,_,by omega,by go_num,R,by omega,N.o,by first|rfl|trivial⟩
    case measure=>simp[intOf];omega
  ·obtain rfl:k=ah fs:=by omega
   have a:decide ((ah fs:Z)<(ah fs:Z))=F:=by simp
   go_wp2;go_ret;exact⟨⟨T,R,λ_=>⟨by omega,λf a=>p.o f (by rw[nS];exact a)⟩⟩,R⟩
theorem Ss(f g:aR aY)(q r:M)(a:L Z)(w:av)(l:yq w f a)(m:yq w g a)(z:ah a<=9223372036854775807):
  Calls prog 14 #[ak f (ah a) q,ak g (ah a) r] w λe a=>e=aH (aJ T)/\az w a N:=by
 have o:=ae l;have p:=ae m;clear l m;go_enter func14,ntmps14;go_wp2
 go_loopw [5] (λi wr=>∃k:M,k<=ah a/\i=I J k/\az w wr N) (λi _=>ah a-(intOf i).toNat)
 case atStart=>exact⟨0,bG _,R,aW _ _⟩
 case round=>
  obtain⟨k,y,rfl,b⟩:=hrel;have c:=ae b;clear b;by_cases b:k<ah a
  ·have n:(k:Z)<(ah a:Z):=by omega
   obtain⟨u,C,s,h⟩:=o.o (by omega);obtain⟨v,D,t,j⟩:=p.o (by omega);subst s t;have A:=yd (h k b) c.o;have B:=yd (j k b) c.o;clear h j;generalize a[k]=x at *;have d:(x==x)=T:=by simp
   have h:(x != x)=F:=by simp
   go_wp2
   go_quiet (fail)
   go_wp2
   go_roundw
   case rel=>exact⟨k+1,by omega,by go_num,ye c.o nq⟩
   case measure=>simp[intOf];omega
  ·obtain rfl:k=ah a:=by omega
   have h:decide ((ah a:Z)<(ah a:Z))=F:=by simp
   go_wp2;go_ret;exact⟨R,c.o⟩
theorem abr(j h:aR aY)(n f:M)(b ys:L Z)(w:av)(p:yq w j b)(q:yq w h (b++ys))(s:(b++ys).length<=9223372036854775807)(r:(b++ys).length<=f)(k:f<=cu)(t:h=N->f=0):
  Calls prog 13 #[ak j (ah b) n,ak h (b++ys).length f] w λe l=>e=aH (aJ T)/\az w l N:=by
 have l:(b++ys).length=ah b+ah ys:=List.length_append;unfold cu at k;have m:=ae (Ss j h n f b w p (λu=>by
  obtain⟨g,o,e,c⟩:=q (by omega);exact⟨g,o,e,λi b=>by rw[c i (by omega),List.getElem_append_left b]⟩) (by omega))
 rw[l]at r ⊢;have d:decide ((ah b:Z)+(ah ys:Z)<(ah b:Z))=F:=gF (by omega);have u:decide (((ah b+ah ys:M):Z)<(ah b:Z))=F:=gF (by omega);have v:(ah b:Z)<=(f:Z):=by omega
 have x:(0:Z)<=(ah b:Z):=by omega
 clear p q l s
 cases h with
 |none=>
  obtain rfl:f=0:=t R;go_enter func13,ntmps13;go_wp2_with (go_at_call 14;refine m.o.mono ?_;rintro e l ⟨rfl,g⟩)
  go_wp2;go_ret;exact⟨R,g⟩
 |some a=>
  go_enter func13,ntmps13;go_wp2_with (go_at_call 14;refine m.o.mono ?_;rintro e l ⟨rfl,g⟩)
  go_wp2;go_ret;exact⟨R,g⟩
variable {W:av}
theorem sq{α:Type}(a:α)(x y:L α)(d:α)(i:M):(i=ah x+1/\(a::((x++[d])++y))[i]?=S d)\/((a::((x++[d])++y))[i]?=(a::(x++y))[if i<=(ah x)then i else i-1]?/\i≠(ah x)+1):=by
 cases i with
 |zero=>right;simp
 |succ i=>
  by_cases h:i<ah x
  ·right
   rw[aD (by omega),bB,bB,List.append_assoc,rz h,rz h];exact⟨R,by omega⟩
  ·by_cases e:i=ah x
   ·left
    subst e;simp
   ·right
    obtain⟨j,rfl⟩:∃j,i=ah x+1+j:=⟨i-ah x-1,by omega⟩
    have b:((x++[d])++y)[ah x+1+j]?=y[j]?:=by
     rw[oB (by simp)]
     congr 1
     simp
    have c:(x++y)[ah x+j]?=y[j]?:=by rw[oB (by omega),Nat.add_sub_cancel_left]
    rw[ax (by omega),bB,show (ah x)+1+j+1-1=(ah x+j)+1 by omega,bB,b,c];exact⟨R,by omega⟩
theorem Tf{n i j:M}(h:i≠j)(a:i≠n+1)(b:j≠n+1):(if i<=n then i else i-1)≠(if j<=n then j else j-1):=by
 split<;>split<;>omega
theorem bE.Vp{g f:av}{P:ex}{D d q:aC}{S:bJ}{l:L bD}(h:bE g P D S W)(K:aV W g.heap.size 44 5 d (ah l) (l.flatMap lT))(E:∀k,d.ownBlock=some k->∀v∈P.vs,v.ownBlock≠some k)(w:az W f P.vd.ownBlock)(z:∀k,P.vd.ownBlock=some k->P.vb.ownBlock≠some k)
  (O:aV f g.heap.size 42 1 q (ah P.ds+1) (P.ds++[d])) :
  bE g {P with ds:=P.ds++[d],vd:=q} D {S with data:=S.data++[l]} (aK f ⟨P.b,7,N⟩ q):=by
 have H:∀k,P.vd.ownBlock=some k->∀b t,aA W k b t->t≠42->False:=λk e b t f a=>mR h.data e f (Ne.symm a)
 have s:aA f P.b (iI P D S).toArray 47:=h.aO.grown w (λe=>H P.b e.symm _ _ h.aO (by decide));have C:∀ {e:dm} {a n:M} {u:aC} {p:L aC},e≠47->aV f g.heap.size e a u n p->(aK f ⟨P.b,7,N⟩ q).ownsRow g.heap.size e a u n p:=λb f=>vI f (λk e c=>mR f e (c ▸ s) b)
 have B:∀ {e:dm} {a n:M} {u:aC} {p:L aC},e≠42->e≠47->aV W g.heap.size e a u n p->(aK f ⟨P.b,7,N⟩ q).ownsRow g.heap.size e a u n p:=by
  intro e a n u p o b x;refine C b (x.kept w ?_);rcases x.2 with ⟨rfl,_⟩|⟨A,y,r,rfl,_,G,_⟩
  ·exact .inl R
  ·exact .inr (λc=>H A c.symm r e G o)
 have y:aV f g.heap.size 42 1 P.vb (ah P.bs) P.bs:=by
  refine h.bf.kept w ?_
  cases a:P.vb.ownBlock with
  |none=>exact .inl R
  |some k=>exact .inr (λc=>z k c.symm a)
 have G:=h.lens.1;refine⟨?_,⟨by simp[G],h.lens.2⟩,λi v m o b=>?_,λi j v u k A o b r=>?_,?_,C (by decide) y,B (by decide) (by decide) h.o,h.lo,?_,h.parts,h.ins⟩
 ·have:=s.set 7 q
  rw[dt]at this;exact this
 ·rcases sq P.vr P.ds P.bs d i with ⟨e,p⟩|⟨p,e⟩
  ·rcases sq S.bM S.data S.bf l i with ⟨-,a⟩|⟨-,x⟩
   ·rw[show ({P with ds:=P.ds++[d],vd:=q}:ex).vs[i]?=some d from p]at o;rw[show (jx {S with data:=S.data++[l]})[i]?=some l from a]at b
    cases o
    cases b
    exact B (by decide) (by decide) K
   ·omega
  ·rcases sq S.bM S.data S.bf l i with ⟨x,-⟩|⟨a,-⟩
   ·omega
   ·rw[<- G]at a;exact B (by decide) (by decide) (h.row _ v m (p.symm.trans o) (a.symm.trans b))
 ·rcases sq P.vr P.ds P.bs d i with ⟨e,p⟩|⟨p,e⟩
  ·rcases sq P.vr P.ds P.bs d j with ⟨x,-⟩|⟨a,-⟩
   ·omega
   ·have:d=v:=by simpa using p.symm.trans o
    subst this;exact E k r u (pI (a.symm.trans b))
  ·rcases sq P.vr P.ds P.bs d j with ⟨x,a⟩|⟨a,x⟩
   ·have:d=u:=by simpa using a.symm.trans b
    subst this;exact λc=>E k c v (pI (p.symm.trans o)) r
   ·exact h.apart _ _ v u k (Tf A e x) (p.symm.trans o) (a.symm.trans b) r
 ·have:=C (by decide) O
  simpa using this
 ·exact eh (eh h.gr w (λk e=>(h.data.lt k e).1)) (bK f P.b 7 q) (by intro k e;simp at e;have:=h.lo;omega)
theorem bE.Wl{p o:av}{P:ex}{E d q:aC}{S:bJ}{l:L bD}(h:bE p P E S W)(O:aV W p.heap.size 44 5 d (ah l) (l.flatMap lT))(G:∀k,d.ownBlock=some k->∀v∈P.vs,v.ownBlock≠some k)(w:az W o P.vb.ownBlock)(A:∀k,P.vb.ownBlock=some k->P.vd.ownBlock≠some k)
  (U:aV o p.heap.size 42 1 q (ah P.bs+1) (P.bs++[d])) :
  bE p {P with bs:=P.bs++[d],vb:=q} E {S with bf:=S.bf++[l]} (aK o ⟨P.b,8,N⟩ q):=by
 have K:∀k,P.vb.ownBlock=some k->∀b t,aA W k b t->t≠42->False:=λk e b t f a=>mR h.bf e f (Ne.symm a)
 have s:aA o P.b (iI P E S).toArray 47:=h.aO.grown w (λe=>K P.b e.symm _ _ h.aO (by decide));have D:∀ {e:dm} {a n:M} {u:aC} {f:L aC},e≠47->aV o p.heap.size e a u n f->(aK o ⟨P.b,8,N⟩ q).ownsRow p.heap.size e a u n f:=λb g=>vI g (λk e c=>mR g e (c ▸ s) b)
 have C:∀ {e:dm} {a n:M} {u:aC} {f:L aC},e≠42->e≠47->aV W p.heap.size e a u n f->(aK o ⟨P.b,8,N⟩ q).ownsRow p.heap.size e a u n f:=by
  intro e a n u f g b x;refine D b (x.kept w ?_);rcases x.2 with ⟨rfl,_⟩|⟨z,y,r,rfl,_,B,_⟩
  ·exact .inl R
  ·exact .inr (λc=>K z c.symm r e B g)
 have z:aV o p.heap.size 42 1 P.vd (ah P.ds) P.ds:=by
  refine h.data.kept w ?_
  cases a:P.vd.ownBlock with
  |none=>exact .inl R
  |some k=>exact .inr (λc=>A k c.symm a)
 have Q:(P.ds++P.bs).length=(S.data++S.bf).length:=by simp[h.lens.1,h.lens.2]
 have H:({P with bs:=P.bs++[d],vb:=q}:ex).vs=P.vr::(((P.ds++P.bs)++[d])++[]):=by simp[ex.vs]
 have V:jx {S with bf:=S.bf++[l]}=S.bM::(((S.data++S.bf)++[l])++[]):=by simp[jx]
 have x:P.vr::((P.ds++P.bs)++[])=P.vs:=by simp[ex.vs]
 have X:S.bM::((S.data++S.bf)++[])=jx S:=by simp[jx]
 refine⟨?_,⟨h.lens.1,by simp[h.lens.2]⟩,λi v m g b=>?_,λi j v u k B g b r=>?_,D (by decide) z,?_,C (by decide) (by decide) h.o,h.lo,?_,h.parts,h.ins⟩
 ·have:=s.set 8 q
  rw[dt]at this;exact this
 ·rw[H]at g;rw[V]at b;rcases sq P.vr (P.ds++P.bs) [] d i with ⟨e,f⟩|⟨f,e⟩
  ·rcases sq S.bM (S.data++S.bf) [] l i with ⟨-,a⟩|⟨-,y⟩
   ·rw[f]at g;rw[a]at b
    cases g
    cases b
    exact C (by decide) (by decide) O
   ·omega
  ·rcases sq S.bM (S.data++S.bf) [] l i with ⟨y,-⟩|⟨a,-⟩
   ·omega
   ·rw[<- Q]at a;rw[x]at f;rw[X]at a;exact C (by decide) (by decide) (h.row _ v m (f.symm.trans g) (a.symm.trans b))
 ·rw[H]at g b;rcases sq P.vr (P.ds++P.bs) [] d i with ⟨e,f⟩|⟨f,e⟩
  ·rcases sq P.vr (P.ds++P.bs) [] d j with ⟨y,-⟩|⟨a,-⟩
   ·omega
   ·have:d=v:=by simpa using f.symm.trans g
    subst this;rw[x]at a;exact G k r u (pI (a.symm.trans b))
  ·rcases sq P.vr (P.ds++P.bs) [] d j with ⟨y,a⟩|⟨a,y⟩
   ·have:d=u:=by simpa using a.symm.trans b
    subst this;rw[x]at f;exact λc=>G k c v (pI (f.symm.trans g)) r
   ·rw[x]at f a;exact h.apart _ _ v u k (Tf B e y) (f.symm.trans g) (a.symm.trans b) r
 ·have:=D (by decide) U
  simpa using this
 ·exact eh (eh h.gr w (λk e=>(h.bf.lt k e).1)) (bK o P.b 8 q) (by intro k e;simp at e;have:=h.lo;omega)
theorem Tryz.VR:(Tryz.prog.info? 44).map (λi=>(i.zero,i.size,i.bytes))=S (S (.agg #[I J 0,I J 0,I J 0,I J 0,I J 0]),5,40):=by kernel_rfl
theorem Tryz.Vk:(Tryz.prog.info? 42).map (λi=>(i.zero,i.size,i.bytes))=S (S (ak N 0 0),1,24):=by kernel_rfl
theorem Tryz.LU:Tryz.prog.underlying 42=S (.slice 44):=by kernel_rfl
theorem Tryz.Qy:Tryz.prog.underlying 45=S (.slice 42):=by kernel_rfl
theorem Sw(n:M):(wY (Value.agg #[I J 0,I J 0,I J 0,I J 0,I J 0]).cells (n*5)).toList=(eP n (dv 0)).flatMap lT:=by
 have e:∀i,i<5->(#[I .i64 0,I J 0,I J 0,I J 0,I J 0])[i]! = I .i64 0:=by
  intro i c;rcases (show i=0\/i=1\/i=2\/i=3\/i=4 by omega)with rfl|rfl|rfl|rfl|rfl<;>rfl
 have a:(wY (Value.agg #[I J 0,I J 0,I J 0,I J 0,I J 0]).cells (n*5)).toList=eP (n*5) (I .i64 0):=by
  show (wY #[I .i64 0,I J 0,I J 0,I J 0,I J 0] (n*5)).toList=_;unfold wY;rw[Array.toList_map,WD];refine⟨by simp,λb c=>?_⟩;obtain⟨i,-,rfl⟩:=List.mem_map.1 c;exact e _ (Nat.mod_lt _ (by decide))
 rw[a,eq_comm,WD];refine⟨by rw[Lr lT 5 (λ_=>rfl),yK],λb c=>?_⟩;obtain⟨v,d,c⟩:=List.mem_flatMap.1 c;obtain rfl:=(List.mem_replicate.1 d).2;unfold lT dv at c;simpa[bn]using c
def rj(b:M)(ap:aR aY)(cp:M)(gl:L M)(os:L aF)(ai:aR aY)(ci:M)(ins:L Z)(vr:aC):ex:=⟨b,ap,cp,gl,os,ai,ci,ins,ak N 0 0,ak N 0 0,vr,[],[]⟩
def FN:bJ:=⟨eP 32 (dv 0),⟨0,0,0,0,0⟩,[],[],0,0,[],0⟩
theorem bE.init{V:av}{a:aR aY}{cp:M}{b:L M}{os:L aF}{ai:aR aY}{ci:M}{ins:L Z}{d:aC}(n:oq W a b os)(m:yq W ai ins)(h:az W V N)(o:aV V W.heap.size 44 5 d 32 ((eP 32 (dv 0)).flatMap lT)):
  bE W (rj V.heap.size a cp b os ai ci ins d) (ak N 0 0) FN (V.alloc (.cells (iI (rj V.heap.size a cp b os ai ci ins d) (ak N 0 0) FN).toArray 47)):=by
 have g:=aG V (.cells (iI (rj V.heap.size a cp b os ai ci ins d) (ak N 0 0) FN).toArray 47) N;refine⟨aA.new V _ _,⟨R,R⟩,λi v l c e=>?_,λi j v u k f c e _=>?_,eO _ _ _ _,eO _ _ _ _,eO _ _ _ _,h.size,ya h g,n,m⟩
 ·cases i with
  |zero=>
   cases c
   cases e
   exact lZ o g
  |succ i=>simp[ex.vs,rj]at c
 ·cases i with
  |zero=>
   cases j with
   |zero=>exact absurd R f
   |succ j=>simp[ex.vs,rj]at e
  |succ i=>simp[ex.vs,rj]at c
end Go.Proofs.YtaldcojpkflgpaaGreatDoor

namespace Go.Proofs.YtaldcojpkflgpaaGreatDoor
def lS(os:L aF)(i:M):bJ :=
 {FN with data:=(List.range i).map (λi=>qH os i ((os[i]?).getD ⟨[],[],[],0,[],[],[]⟩)),bf:=(os.take i).map (λo=>eP o.bf.toNat (dv 0))}
theorem XD(os:L aF)(i:M)(a:i<ah os):lS os (i+1)={lS os i with data:=(lS os i).data++[qH os i os[i]],bf:=(lS os i).bf++[eP os[i].bf.toNat (dv 0)]}:=by
 unfold lS;rw[List.range_succ,pH,kI a,pH,WG,WG,bW a];rfl
theorem Ye(os:L aF):gY os=eB (gN os (jP os) 0) (lS os (ah os)):=by
 unfold gY lS eB;rw[nS];rfl
def uR(os:L aF)(i:M)(o:aF)(k:M):L bD :=
 (o.ay.take k).foldl (λd r=>if r.au=3 then d.set (r.off/4).toNat (gN os (dL os i r.sym.toNat) r.bh)else d) (o.data.map dv)
theorem OP(os:L aF)(i:M)(o:aF)(k:M)(a:k<ah o.ay):uR os i o (k+1)=if o.ay[k].au=3 then (uR os i o k).set (o.ay[k].off/4).toNat (gN os (dL os i o.ay[k].sym.toNat) o.ay[k].bh)else uR os i o k:=by
 unfold uR;rw[kI a,List.foldl_append];rfl
theorem Jr(os:L aF)(i:M)(o:aF):∀k,k<=ah o.ay->(uR os i o k).length=ah o.data
 |0,_=>by simp[uR]
 |k+1,h=>by
  rw[OP os i o k (by omega)];split
  ·rw[lI];exact Jr os i o k (by omega)
  ·exact Jr os i o k (by omega)
theorem Ya(os:L aF)(i:M)(o:aF):uR os i o (ah o.ay)=qH os i o:=by
 unfold uR qH;rw[nS]
theorem yl.ZK{o:aF}(h:yl o)(i:M)(g:i<ah o.ay)(f:o.ay[i].au=3):∃q y:M,o.ay[i].off=4*(q:Z)/\q<ah o.data/\o.ay[i].sym=y/\y<ah o.aE/\-2048<=o.ay[i].bh/\o.ay[i].bh<=2047:=by
 have b:=h.rel i g;have j:o.ay[i].kind=1:=by
  rcases b.1 with c|c
  ·omega
  ·exact c.2
 have a:=b.2.2.1;unfold pu at a;rw[ax (by omega)]at a;have d:=b.2.1;unfold fX at d;rw[aD (.inl j)]at d;obtain⟨k,l,e⟩:=b.2.2.2.2.1;have m:=yW b.2.1;unfold yp at e;rw[ax (by omega),ax (by omega),aD f]at e;exact⟨(o.ay[i].off/4).toNat,o.ay[i].sym.toNat,by omega,by omega,by omega,by omega,d⟩
structure jR (W0:av) (P:ex) (S:bJ) (v:aC) (l:L bD) (W:av):Prop where
 m:bE W0 P (ak N 0 0) S W
 bd:∀k,P.vd.ownBlock=some k->P.vb.ownBlock≠some k
 row:W.ownsRow W0.heap.size 44 5 v l.length (l.flatMap lT)
 fr:∀k,v.ownBlock=some k->∀u∈P.vs,u.ownBlock≠some k
section
variable{b W i:av}{P:ex}{a:bJ}{v d:aC}{l:L bD}
theorem jR.nil(h:bE b P (ak N 0 0) a W)(c:∀k,P.vd.ownBlock=S k->P.vb.ownBlock≠S k):jR b P a (ak N 0 0) [] W :=
 ⟨h,c,eO _ _ _ _,λk e=>by cases e⟩
theorem jR.made(h:bE b P (ak N 0 0) a W)(c:∀k,P.vd.ownBlock=S k->P.vb.ownBlock≠S k)(f:az W i N)(g:aV i b.heap.size 44 5 v (ah l) (l.flatMap lT))(j:∀k,v.ownBlock=S k->W.heap.size<=k):jR b P a v l i :=
 ⟨h.grown f,c,g,λk e=>h.fresh h.rL (j k e)⟩
theorem jR.grown(h:jR b P a v l W)(c:az W i N):jR b P a v l i:=⟨h.m.grown c,h.bd,lZ h.row c,h.fr⟩
theorem jR.new{m:L bD}(h:jR b P a v l W)(j:az W i v.ownBlock)(r:aV i b.heap.size 44 5 d (ah m) (m.flatMap lT))(s:d.ownBlock=v.ownBlock\/d.ownBlock=S W.heap.size):jR b P a d m i:=by
 refine⟨?_,h.bd,r,λk e=>?_⟩
 ·cases f:v.ownBlock with
  |none=>rw[f]at j;exact h.m.grown j
  |some g=>
   rw[f]at j;rcases h.row.2 with ⟨rfl,_⟩|⟨n,o,p,rfl,_,q,_⟩
   ·cases f
   ·cases f
    exact h.m.aside q (h.fr n R) (h.row.lt n R).1 j
 ·rcases s with c|c
  ·exact h.fr k (c.symm.trans e)
  ·rw[c]at e
   cases e
   exact h.m.fresh h.m.rL (bz _)
theorem jR.snoc{x:bD}(h:jR b P a v l W)(c:az W i v.ownBlock)(e:aV i b.heap.size 44 5 d (ah l+1) (l.flatMap lT++lT x))(f:d.ownBlock=v.ownBlock\/d.ownBlock=S W.heap.size):jR b P a d (l++[x]) i :=
 h.new c (by simpa using e) f
theorem jR.put{g n cap j:M}(h:jR b P a (ak (S ⟨g,0,N⟩) n cap) l W)(m:j<ah l)(x:bD):jR b P a (ak (S ⟨g,0,N⟩) n cap) (l.set j x) (kC W g (j*5) x):=by
 refine h.new (zm W g _ x) ?_ (.inl R);have f:=h.row;obtain⟨k,c,e⟩:=yi f;simp only[Value.slice.injEq]at e;obtain⟨-,rfl,-⟩:=e
 have:=tq (j:=j*5+4) (u:=I J x.off) (tq (j:=j*5+3) (u:=I J x.au) (tq (j:=j*5+2) (u:=I J x.part) (tq (j:=j*5+1) (u:=I J x.n) (tq (j:=j*5) (u:=I J x.k) f (by omega)) (by omega)) (by omega)) (by omega)) (by omega)
 rw[Ls]at this;rw[lI];exact this
theorem jR.data(h:jR b P a v l W)(f:az W i P.vd.ownBlock)(j:aV i b.heap.size 42 1 d (ah P.ds+1) (P.ds++[v]))(g:d.ownBlock=P.vd.ownBlock\/d.ownBlock=S W.heap.size):
  bE b {P with ds:=P.ds++[v],vd:=d} (ak N 0 0) {a with data:=a.data++[l]} (aK i ⟨P.b,7,N⟩ d)/\(∀k,d.ownBlock=S k->P.vb.ownBlock≠S k)/\aA i P.b (iI P (ak N 0 0) a).toArray 47:=by
 refine⟨h.m.Vp h.row h.fr f h.bd j,λk e c=>?_,h.m.aO.grown f (λe=>mR h.m.data e.symm h.m.aO (by decide))⟩;rcases g with x|x
 ·exact h.bd k (x.symm.trans e) c
 ·rw[x]at e
  cases e
  have:=(h.m.bf.lt _ c).2
  omega
theorem jR.bf(h:jR b P a v l W)(f:az W i P.vb.ownBlock)(j:aV i b.heap.size 42 1 d (ah P.bs+1) (P.bs++[v]))(g:d.ownBlock=P.vb.ownBlock\/d.ownBlock=S W.heap.size):
  bE b {P with bs:=P.bs++[v],vb:=d} (ak N 0 0) {a with bf:=a.bf++[l]} (aK i ⟨P.b,8,N⟩ d)/\(∀k,P.vd.ownBlock=S k->d.ownBlock≠S k)/\aA i P.b (iI P (ak N 0 0) a).toArray 47:=by
 refine⟨h.m.Wl h.row h.fr f (λk e c=>h.bd k c e) j,λk e c=>?_,h.m.aO.grown f (λe=>mR h.m.bf e.symm h.m.aO (by decide))⟩;rcases g with x|x
 ·exact h.bd k e (x.symm.trans c)
 ·rw[x]at c
  cases c
  have:=(h.m.data.lt _ e).2
  omega
end
end Go.Proofs.YtaldcojpkflgpaaGreatDoor

namespace Go.Proofs.YtaldcojpkflgpaaGreatDoor
open Go.RowKit Go.Proofs.Tryz
variable {os:L aF} {i s k:M} {a:Z} {st:bC}
theorem SC(q:aR (M×M)):∃b c:Z,kQ q = .agg #[I J b,I J c]:=by
 cases q with
 |none=>exact⟨_,_,R⟩
 |some p=>exact⟨_,_,R⟩
theorem afC{W:av}{g:M}{b:Array aC}(h:aA W g b 44)(j:M)(o:j*5+4<b.size):∃e f l m n,aq W ⟨g,j*5,N⟩=S e/\aq W ⟨g,j*5+1,N⟩=S f/\aq W ⟨g,j*5+2,N⟩=S l/\aq W ⟨g,j*5+3,N⟩=S m/\aq W ⟨g,j*5+4,N⟩=S n:=by
 have c:∀i (d:i<b.size),aq W ⟨g,i,N⟩=S b[i]:=λi d=>(h.cell i).trans (Array.getElem?_eq_getElem d)
 exact⟨_,_,_,_,_,c _ (by omega),c _ (by omega),c _ (by omega),c _ (by omega),c _ (by omega)⟩
def ex.w(Q:ex)(vd vb:aC)(ds bs:L aC):ex:={Q with vd:=vd,vb:=vb,ds:=ds,bs:=bs}
def Fh(W:av)(Q:ex)(k:M)(V:av):Prop:=∃vd vb ds bs,bE W (Q.w vd vb ds bs) (ak N 0 0) (lS Q.os k) V/\∀x,vd.ownBlock=S x->vb.ownBlock≠S x
theorem Fh.start{W V:av}{b:aR aY}{cp:M}{c:L M}{ai:aR aY}{ci:M}{ins:L Z}{d:aC}(h:oq W b c os)(g:yq W ai ins)(f:az W V N)(j:aV V W.heap.size 44 5 d 32 ((eP 32 (dv 0)).flatMap lT)):
  Fh W (rj V.heap.size b cp c os ai ci ins d) 0 (V.alloc (.cells #[ak b (ah c) cp,d,I J 0,I J 0,I J 0,I J 0,I J 0,ak N 0 0,ak N 0 0,ak ai (ah ins) ci,I J 0,I J 0,ak N 0 0,I J 0] 47)) :=
 ⟨ak N 0 0,ak N 0 0,[],[],bE.init h g f j,λx e=>by cases e⟩
theorem abt(ap:aR aY)(cp:M)(w:L M)(os:L aF)(ai:aR aY)(ci:M)(ins:L Z)(W:av)(hp:oq W ap w os)(hi:yq W ai ins):
  Calls prog 9 #[ak ap (ah w) cp,ak ai (ah ins) ci] W λe c=>∃P d,P.os=os/\P.ins=ins/\e=aH (aM (S ⟨P.b,0,N⟩))/\bE W P d (gY os) c:=by
 obtain⟨i1,hi1,hy0,hy1,hy2⟩:=fG Tryz.VR;obtain⟨i2,hi2,hx0,hx1,hx2⟩:=fG Tryz.Vk;have H:=ae hp;have HI:=ae hi;have HL:=ae hp.len;have hgl:ah w<=48:=by rw[hp.len];exact hp.few
 clear hp hi;go_enter func9,ntmps9
 go_upto_region 2 with (at_make;refine wpList_make_full _ R _ _ 42 rfl W.heap.size 44 i1 (.agg #[I J 0,I J 0,I J 0,I J 0,I J 0]) 5 Tryz.LU hi1 hy0 hy1 .i64 .i64 _ _ 32 rfl rfl rfl rfl (by rw[hy2];omega) (by unfold cu;omega) (bz _) ?_;intro V c d;rw[Sw]at c;have xJ:=ae (Fh.start (cp:=cp) (ci:=ci) H.o HI.o d c);clear c d)
 generalize V.alloc _=V1 at *;generalize V.heap.size=b at *;generalize ak (S ⟨W.heap.size,0,N⟩) 32 32=vr at *;go_wp2
 go_loopw [6] (λi wr=>∃k:M,k<=ah w/\i=I J k/\Fh W (rj b ap cp w os ai ci ins vr) k wr) (λi _=>ah w-(intOf i).toNat)
 case atStart=>exact⟨0,bG _,R,xJ.o⟩
 case round=>
  clear xJ;obtain⟨k,hk,rfl,vd,O,G,t,hm,hbd⟩:=hrel;by_cases hlt:k<ah w
  ·have K:k<ah os:=by rw[<- HL.o];exact hlt
   have J0:=ae (jR.nil hm hbd);have c:=ae hm;clear hm hbd;obtain⟨g0,C,hao,g⟩:=H.o.kD (by omega);subst hao;have ck:=yd (g k hlt) c.o.gr;obtain⟨at_,ct,af,cf,ad,cd,Db,C6,gP,cs,ar,cr,d,-,-,f,-,-,B⟩:=(H.o.obj k hlt K).open;have HB:=ae d;have Uv:=ae (yq.dh f);have Xm:=ae (pi.dh B);have pQ:=ae (H.o.val os[k] (bN K));have aiz:=pQ.o.Mk;have air:os[k].data.length<=65535:=by have:=pQ.o.1.1.2.2;omega
   have UP:=ae (XD os k K);have yY:=ae (λ(n:M) (hn:n<os[k].aE.length) V (d:az W V N)=>Rw (S ⟨g0,C,N⟩) cp w os k n V (H.o.kept d) K hn);have WT:=ae (λ(n:M) (hn:n<os[k].aE.length) (p:M×M) (e:dL os k n=S p)=>Ic ⟨K,hn⟩ e);clear g d f B;generalize os[k]=o at *;generalize w[k]=bk at *;have g1:(k:Z)<(ah w:Z):=by omega
   go_wp2
   go_loopw [8,9] (λv j wr=>∃n:M,n<=ah o.data/\j=I J n/\jR W ((rj b (S ⟨g0,C,N⟩) cp w os ai ci ins vr).w vd O G t) (lS os k) v ((o.data.take n).map dv) wr) (λ_ j _=>ah o.data-(intOf j).toNat)
   case atStart=>exact⟨0,bG _,R,J0.o⟩
   case round=>
    clear J0 c ck;obtain⟨n,hn,rfl,d⟩:=hrel;have T:=ae d;obtain⟨eR,cv,rfl⟩:=yi d.row;clear d;have k2:=(HB.o.grown T.o.m.gr (by simp)).cell 2;simp only[bI,bB,bL]at k2;by_cases hnd:n<ah o.data
    ·have g2:(n:Z)<(ah o.data:Z):=by omega
     obtain⟨g3,o3,e3,d⟩:=Uv.o (by omega);subst e3;have f:=yd (d n hnd) T.o.m.gr;have F8:=ae (show (o.data.take (n+1)).map dv=(o.data.take n).map dv++[dv o.data[n]] by rw[kI hnd,pH];rfl);have LN:=ae (show ((o.data.take n).map dv).length<=65535 by rw[fZ,List.length_take];omega);clear d;generalize o.data[n]=x at *;generalize (o.data.take n).map dv=l at *;go_wp2_with fail;refine(xe x wr).mono ?_;rintro e U ⟨rfl,d⟩;generalize dv x=y at *;unfold bq;have A:=aG U (.cells #[I J y.k,I J y.n,I J y.part,I J y.au,I J y.off] 44) N
     have Ak:=ae (T.o.grown (ya d A));obtain⟨b0,b1,b2,b3,b4⟩:=dS (aA.new U #[I J y.k,I J y.n,I J y.part,I J y.au,I J y.off] 44);clear d A T k2 f
     go_upto_region 11 with fail
     generalize U.alloc (.cells #[I J y.k,I J y.n,I J y.part,I J y.au,I J y.off] 44)=E at *;generalize U.heap.size=d at *;have Q:=Ak.o.m.gr.size;have ln:=LN.o;go_wp2_with (at_builtin;refine wpList_append_own_at _ R _ _ 42 rfl W.heap.size 44 i1 (.agg #[I J 0,I J 0,I J 0,I J 0,I J 0]) 5 40 Tryz.LU hi1 hy0 hy1 hy2 R (by decide) _ _ _ R (Ak.o.row.alloc _) ⟨E.heap.size,0,N⟩ 1 1 (lT y) R R (vQ _ _ _) (by intro u f;simp[lT]at f;rcases f with rfl|rfl|rfl|rfl|rfl<;>rfl) (by unfold cu;omega) (by omega) (by simp;omega) ?_;intro v' w3 f g _ B;have D:=ae ((Ak.o.grown (aG E (.cells #[I J y.k,I J y.n,I J y.part,I J y.au,I J y.off] 44) N)).snoc g f B);obtain⟨gR,cv',rfl⟩:=yi f;clear g f B)
     go_roundw
     case rel=>exact⟨n+1,by omega,by go_num,by rw[F8.o];exact D.o⟩
     case measure=>simp[intOf];omega
    ·obtain rfl:n=ah o.data:=by omega
     have g3:decide ((ah o.data:Z)<(ah o.data:Z))=F:=by simp
     rw[nS,fZ]at T ⊢;have Ak:=ae (show jR W ((rj b (S ⟨g0,C,N⟩) cp w os ai ci ins vr).w vd O G t) (lS os k) (ak eR (ah o.data) cv) (uR os k o 0) wr from T.o);clear T;go_wp2
     go_loopw [11] (λj wr=>∃m:M,m<=ah o.ay/\j=I J m/\jR W ((rj b (S ⟨g0,C,N⟩) cp w os ai ci ins vr).w vd O G t) (lS os k) (ak eR (ah o.data) cv) (uR os k o m) wr) (λj _=>ah o.ay-(intOf j).toNat)
     case atStart=>exact⟨0,bG _,R,Ak.o⟩
     case round=>
      clear Ak k2;obtain⟨m,hm,rfl,d⟩:=hrel;have D:=ae d;clear d;have k6:=(HB.o.grown D.o.m.gr (by simp)).cell 6;simp only[bI,bB,bL]at k6;by_cases hml:m<ah o.ay
      ·have g4:(m:Z)<(ah o.ay:Z):=by omega
       obtain⟨sg,hsg,hgs,d⟩:=Xm.o.grown D.o.m.gr (by omega);subst hsg;obtain⟨g,B,E,f,Q⟩:=d m hml;have Cb:=ae (OP os k o m hml);have Mw:=ae (Jr os k o m hm);have Bn:=ae (pQ.o.ZK m hml);clear d;generalize o.ay[m]=r at *;obtain⟨rs,ro,rk,ry,ra⟩:=r;simp only at Cb Bn g B E f Q;have A:=aG wr (.cells #[I J rs,I J ro,I J rk,I J ry,I J ra] 75) N;have Al:=ae (D.o.grown A);have iu:=ae (aA.new wr #[I J rs,I J ro,I J rk,I J ry,I J ra] 75);clear A
       go_upto_region 16 with fail
       clear D k6 g B E f Q;generalize wr.alloc (.cells #[I J rs,I J ro,I J rk,I J ry,I J ra] 75)=W4 at *;generalize wr.heap.size=X at *;obtain⟨r0,r1,r2,r3,r4⟩:=dS iu.o;by_cases h3:rs=3
       ·have d3:(rs==3)=true:=by simpa using h3
        obtain⟨q,y,rfl,hq,rfl,hy,ha⟩:=Bn.o h3;rw[aD h3,show (4*(q:Z)/4).toNat=q by omega,dy]at Cb;have E:=WT.o y hy;have B:=ae (yY.o y hy W4 Al.o.m.gr);clear h3 Bn;generalize dL os k y=rr at *;have Q:=ae (λV (h:qJ V b (S ⟨g0,C,N⟩) cp w os)=>KI b (S ⟨g0,C,N⟩) cp w os rr ra V h E (by omega));obtain⟨f,g,d⟩:=SC rr;rw[d]at Q B;generalize gN os rr ra=z at *;clear d E;go_wp2_with fail;refine B.o.mono ?_;rintro e U ⟨rfl,d⟩;have A:=aG U (.cells #[I J f,I J g] 77) N;have EN:=ae (Al.o.grown (ya d A))
        have iF:=ae (aA.new U #[I J f,I J g] 77);have D6:=ae (iu.o.grown (ya d A) (by simp));clear d A Al iu B r0 r1 r2 r3 r4
        go_upto_region 18 with fail
        generalize U.alloc (.cells #[I J f,I J g] 77)=E at *;generalize U.heap.size=Y at *;obtain⟨r0,r1,r2,r3,r4⟩:=dS D6.o;have x0:aq E ⟨Y,0,N⟩=S (I J f):=iF.o.cell 0;have x1:aq E ⟨Y,1,N⟩=S (I J g):=iF.o.cell 1;obtain⟨g5,cur,e5,d,Oa,-,B⟩:=Ly (by have:=EN.o.row;rw[Mw.o]at this;exact this) (show 0<(ah o.data) by omega);subst e5;have MY:=ae (λV (d:az E V N)=>(EN.o.grown d).put (j:=q) (by rw[Mw.o];exact hq) z);have zu:=ae (λV (d:az E V N)=>(EN.o.grown d).m.ps);have B5:=ae d;have t4:Int.tdiv (4*(q:Z)) 4=(q:Z):=by rw[sJ (by omega)];omega
        have jn:(q:Z)<(ah o.data:Z):=by omega
        obtain⟨u0,u1,u2,u3,u4,c0,c1,c2,c3,c4⟩:=afC d q (by rw[Oa];omega);have f0:=d.free (q*5);have f1:=d.free (q*5+1);have f2:=d.free (q*5+2);have f3:=d.free (q*5+3);have f4:=d.free (q*5+4);have w4:J.wrap (q:Z)=q:=IntWalk.i64_in _ ⟨by omega,by omega⟩;have yt:=ae (ye (aW E N) 1);clear d Oa EN iF D6 r0 r2 r3 B;unfold bq at Q
        go_region_with (go_at_call 24;refine(Q.o _ (zu.o _ yt.o)).mono ?_;rintro e V ⟨rfl,d⟩;have B:=ae (ya yt.o d);have r1':=yd r1 B.o;have Zz:=yd r4 B.o;have KD:=yd x0 B.o;have x1':=yd x1 B.o;have c0':=yd c0 B.o;have c1':=yd c1 B.o;have c2':=yd c2 B.o;have c3':=yd c3 B.o;have P9:=yd c4 B.o;have aj:=B5.o.grown B.o (by simp);have Y4:=aj.free (q*5);have Y5:=aj.free (q*5+1);have f2':=aj.free (q*5+2);have f3':=aj.free (q*5+3);have Qh:=aj.free (q*5+4);have Wh:=ae (MY.o V B.o);clear d aj)
        all_goals
         clear r1 r4 x0 x1 c0 c1 c2 c3 c4 f0 f1 f2 f3 f4 r1' Zz KD x1' c0' c1' c2' c3' P9 Y4 Y5 f2' f3' Qh Q zu MY yt B5;go_wp2
         go_roundw
         case rel=>exact⟨m+1,by omega,by go_num,by rw[Cb.o];exact Wh.o⟩
         case measure=>simp[intOf];omega
       ·have d3:(rs==3)=F:=by simpa using h3
        rw[ax h3]at Cb;clear h3 Bn;go_wp2
        go_roundw
        case rel=>exact⟨m+1,by omega,by go_num,by rw[Cb.o];exact Al.o⟩
        case measure=>simp[intOf];omega
      ·obtain rfl:m=ah o.ay:=by omega
       have g4:decide ((ah o.ay:Z)<(ah o.ay:Z))=F:=by simp
       rw[Ya]at D;have f:ah G=k:=(show (ah G)=(lS os k).data.length from D.o.m.lens.1).trans (by simp[lS]);have d:ah t=min k (ah os):=(show (ah t)=(lS os k).bf.length from D.o.m.lens.2).trans (by simp[lS]);have c7:aq wr ⟨b,7,N⟩=S vd:=D.o.m.cells 7;have Q:=D.o.m.gr.size;have E:=ae (show aV wr W.heap.size 42 1 vd (ah G) G from D.o.m.data);have ais:ah G<=48:=by omega
       have aip:ah t<=48:=by omega
       clear f d
       go_upto_region 20 with (at_builtin;refine wpList_append_own_at _ R _ _ 45 rfl W.heap.size 42 i2 (ak N 0 0) 1 24 Tryz.Qy hi2 hx0 hx1 hx2 R (by decide) _ _ _ R (E.o.alloc _) ⟨wr.heap.size,0,N⟩ 1 1 [ak eR (ah o.data) cv] rfl rfl (vQ _ _ _) (by intro u f;simp at f;rcases f with rfl;rfl) (by unfold cu;omega) (by omega) (by simp;omega) ?_;intro v' w3 f g _ B;have Co:=ae ((D.o.grown (aG wr (.cells #[ak eR (ah o.data) cv] 42) N)).data g f B);obtain⟨Ba,Bb,rfl⟩:=yi f;clear g f B)
       have d:aq w3 ⟨b,7,N⟩=S vd:=Co.o.2.2.cell 7;have f:dx w3 ⟨b,7,N⟩=F:=Co.o.2.2.free 7;have g:=ae Co.o.1;have Pk:=ae Co.o.2.1;clear D Co E c7 Q k6
       go_upto_region 21 with fail
       clear d f
       change Hd (bE _ _ _ _ (aK w3 ⟨b,7,N⟩ (ak Ba (ah G+1) Bb)))at g
       generalize aK w3 ⟨b,7,N⟩ (ak Ba (ah G+1) Bb)=W7 at *;generalize ak Ba (ah G+1) Bb=ZI at *;have c8:aq W7 ⟨b,8,N⟩=S O:=g.o.cells 8;have k3:=(HB.o.grown g.o.gr (by simp)).cell 3;simp only[bI,bB,bL]at k3;have N8:=pQ.o.1.2.1;obtain⟨E,f⟩:=eX N8.1;rw[f]at k3 UP N8;rw[dy]at UP;have Q:=g.o.gr.size;have qA:=ae (show ∀Q,az W Q N->aq Q ⟨bk,3,N⟩=S (I J E)from λQ d=>by rw[<- f];exact(HB.o.grown d (by simp)).cell 3);clear f;have MD:=ae (g.o.grown (yf (aW W7 N)))
       obtain⟨w4,hrun,f,d⟩:=run_make_full (P:=prog) W7.drew W.heap.size 42 44 i1 (.agg #[I J 0,I J 0,I J 0,I J 0,I J 0]) 5 Tryz.LU hi1 hy0 hy1 .i64 .i64 E (by rw[hy2];omega) (by unfold cu;omega) MD.o.gr.size;rw[Sw]at f;have II:=ae (jR.made (l:=eP E (dv 0)) MD.o Pk.o d (by rw[yK];exact f) (λk e=>by cases e;exact bz _));have B:=ya (yf (aW W7 N)) d;have Qa:=yd c8 B;have Qq:=yd k3 B;clear f d B MD g Pk Q;generalize W7.drew.heap.size=DU at *;have d:=aG w4 (.cells #[ak (S ⟨DU,0,N⟩) E E] 42) N
       have EO:=ae (II.o.grown d);have c85:=yd Qa d;have Zk:=yd Qq d;have Fi:=ae (vQ w4 #[ak (S ⟨DU,0,N⟩) E E] 42);have hs4:=II.o.m.gr.size;have B9:=ae (show (w4.alloc (.cells #[ak (S ⟨DU,0,N⟩) E E] 42)).ownsRow W.heap.size 42 1 O (ah t) t from EO.o.m.bf);have Nl:=ae (λQ (d:(w4.alloc (.cells #[ak (S ⟨DU,0,N⟩) E E] 42)).grownBy Q O.ownBlock)=>eh EO.o.m.gr d (λk e=>(B9.o.lt k e).1));clear d II
       go_region_held3 (λc=>aq c ⟨b,8,N⟩=S O/\aq c ⟨bk,3,N⟩=S (I J E)) (go_keep)
        (first|(refine vB _ (.tmp 102) (.tmp 108) 45 rfl W.heap.size 42 i2 (ak N 0 0) 1 24 Tryz.Qy hi2 hx0 hx1 hx2 R (by decide) O (ah t) t R B9.o ⟨w4.heap.size,0,N⟩ 1 1 [ak (S ⟨DU,0,N⟩) E E] rfl rfl Fi.o (by intro u f;simp at f;rcases f with rfl;rfl) (by unfold cu;omega) (by omega) (by simp;omega) ?_;intro v' Q f g _ B;have d:=ae (EO.o.bf g f B);have s0:aq Q ⟨b,8,N⟩=S O:=d.o.2.2.cell 8;have s1:=qA.o Q (Nl.o Q g);obtain⟨aiC,aiH,rfl⟩:=yi f;clear f g B))
       have f:dx Q ⟨b,8,N⟩=F:=d.o.2.2.free 8;clear EO Fi B9 Nl c8 k3 Qa Qq c85 Zk s1 hrun;go_wp2
       go_roundw
       case rel=>exact⟨k+1,by omega,by go_num,ZI,_,_,_,by rw[show (rj b (S ⟨g0,C,N⟩) cp w os ai ci ins vr).os=os from R,UP.o];exact d.o.1,d.o.2.1⟩
       case measure=>simp[intOf];omega
  ·obtain rfl:k=ah w:=by omega
   have g3:decide ((ah w:Z)<(ah w:Z))=F:=by simp
   have c:=ae (show bE W ((rj b ap cp w os ai ci ins vr).w vd O G t) (ak N 0 0) (lS os (ah os)) wr by rw[<- HL.o];exact hm);clear hm hbd;have K:=ae (Ye os);have D:=ae (λp (h:jP os=S p)=>Ie h);have B:=ae (acL ap cp w os wr (H.o.kept c.o.gr));generalize jP os=rr at *;have Q:=ae (λV (h:qJ V b ap cp w os)=>KI b ap cp w os rr 0 V h D.o (by omega));obtain⟨f,g,d⟩:=SC rr;rw[d]at Q B;generalize gN os rr 0=z at *;clear d;go_wp2_with fail;refine B.o.mono ?_;rintro e U ⟨rfl,d⟩;have A:=aG U (.cells #[I J f,I J g] 77) N
   have C:=ae (c.o.grown (ya d A));have x0:(U.alloc (.cells #[I J f,I J g] 77)).cell? ⟨U.heap.size,0,N⟩=S (I J f):=(aA.new U #[I J f,I J g] 77).cell 0;have x1:(U.alloc (.cells #[I J f,I J g] 77)).cell? ⟨U.heap.size,1,N⟩=S (I J g):=(aA.new U #[I J f,I J g] 77).cell 1;clear d A c B
   go_upto_region 24 with fail
   generalize U.alloc (.cells #[I J f,I J g] 77)=E at *;generalize U.heap.size=Y at *;go_wp2_with fail;refine(Q.o E C.o.ps).mono ?_;rintro e V ⟨rfl,d⟩;have B:=ae (C.o.grown d);clear d C x0 x1 Q;unfold bq;have c2:aq V ⟨b,2,N⟩=S (I J (lS os (ah os)).pc.k):=B.o.cells 2;have c3:aq V ⟨b,3,N⟩=S (I J (lS os (ah os)).pc.n):=B.o.cells 3;have c4:aq V ⟨b,4,N⟩=S (I J (lS os (ah os)).pc.part):=B.o.cells 4;have d:aq V ⟨b,5,N⟩=S (I J (lS os (ah os)).pc.au):=B.o.cells 5;have C:aq V ⟨b,6,N⟩=S (I J (lS os (ah os)).pc.off):=B.o.cells 6
   have f2:dx V ⟨b,2,N⟩=F:=B.o.free 2;have f3:dx V ⟨b,3,N⟩=F:=B.o.free 3;have f4:dx V ⟨b,4,N⟩=F:=B.o.free 4;have Q:dx V ⟨b,5,N⟩=F:=B.o.free 5;have T:dx V ⟨b,6,N⟩=F:=B.o.free 6;have c:=ae (B.o.kO z).1;rw[<- K.o]at c;go_wp2;go_ret;exact⟨_,_,R,R,R,c.o⟩
theorem OU{S:bJ}{v:bD}(d:s=3\/s=4)(b:v.part=(i:Z))(c:v.au=(s:Z)):tS S v=mv S s i:=by
 unfold tS mv;rw[b,c,dy];rcases d with rfl|rfl
 ·rw[aD (by rfl),aD R]
 ·rw[ax (by decide),ax (by decide)]
section
variable{os:L aF}{bt aj bd:Z}{b ms:L aI}(C:cO os bt aj bd b ms)
include C
theorem cO.Hg(h:iy a=T\/a%4≠0)(n:M)(r:bd+4*(n:Z)=ez bt aj bd ms 4):fi (bS os ms bt aj bd) a=N/\¬(0<=gB (bS os ms bt aj bd).data n a):=by
 obtain⟨u,v,x⟩:=AH C.gn C.kg C.tB C.fL C.gm;have F:=C.fit;have t:=C.low;have y:=C.tB;have p:=C.fL;have o:=C.gm;have q:a<4096\/1073741824<=a\/a%4≠0:=by
  rcases h with h|h
  ·unfold iy at h;rw[Bool.or_eq_true,gO,gO]at h;omega
  ·omega
 constructor
 ·cases e:fi (bS os ms bt aj bd) a with
  |none=>rfl
  |some w=>
   have m:(fi (bS os ms bt aj bd) a).isSome=T:=by rw[e];rfl
   rw[EJ]at m;rcases m with ⟨c,f,j⟩|⟨c,f,j⟩
   ·have d:bt<=a:=c;have g:(a-bt)%4=0:=f;have l:(a-bt)/4<((dZ (aS bt aj bd ms) 1 bt 19 (aS bt aj bd ms) []).length:Z):=j;omega
   ·have d:aj<=a:=c;have g:(a-aj)%4=0:=f;have l:(a-aj)/4<((dZ (aS bt aj bd ms) 2 aj 19 (aS bt aj bd ms) []).length:Z):=j;omega
 ·rw[Cl];rintro⟨c,f,j⟩;have d:bd<=a:=c;have g:(a-bd)%4=0:=f;have l:(a-bd)/4<(n:Z):=j;omega
theorem cO.slot{v:bD}(h:fJ (bg bt aj bd ms) v a)(p:dP os v)(j:v.k=1)(g:fm os v=T)(w:v.off%4=0)(n:M)(x:bd+4*(n:Z)=ez bt aj bd ms 4):
  ∃i s k:M,∃o:i<ah os,(s=3\/s=4)/\v.part=(i:Z)/\v.au=(s:Z)/\v.off=4*(k:Z)/\k<(aQ os[i] s).length/\a=(bg bt aj bd ms i s).getD 0 0+4*k/\fi (bS os ms bt aj bd) a=N/\gB (bS os ms bt aj bd).data n a=(((bg bt aj bd ms i s).getD 0 0+4*k-bd)/4)/\0<=(((bg bt aj bd ms i s).getD 0 0+4*k-bd)/4):=by
 have f:=(Bp j).1 g;have P:=C.tZ h p j f.1 (by omega);have t:=P.2.2.2.2 f.2;obtain⟨r,y,-⟩:=p.p j;obtain⟨i,o,l,q,-⟩:=sS r;obtain⟨s,c⟩:∃s:M,v.au=s:=⟨v.au.toNat,by omega⟩
 obtain⟨k,d⟩:∃k:M,v.off=4*(k:Z):=⟨(v.off/4).toNat,by omega⟩
 unfold kN at f;rw[q,c,dy]at f;have e:=P.1;rw[l,c,d,dy,dy]at e;have m:=ul C.gn C.kg ⟨C.tB.1,C.tB.2.1⟩ ⟨C.fL.1,C.fL.2.1⟩ ⟨C.gm.1,C.gm.2.1⟩ i s 0 (by omega) (by omega);have u:=C.gm;refine⟨i,s,k,o,by omega,l,c,d,by omega,e,C.D3 a P.2.1 t,?_,by omega⟩;unfold gB;show (if bd<=a/\(a-bd)%4=0/\(a-bd)/4<(n:Z)then (a-bd)/4 else -1)=_;rw[aD ⟨P.2.1,by omega,by omega⟩,e]
theorem cO.load{S:bJ}(h:eA os bt aj bd ms S st){v:bD}(g:fJ (bg bt aj bd ms) v a)(o:dP os v)(n:Z):
  (∀y,kx os v S = .inl y->∃y',pN (bS os ms bt aj bd) n a st=eu n y' st/\fJ (bg bt aj bd ms) y (bn y')/\dP os y)/\(kx os v S = .inr 4->pN (bS os ms bt aj bd) n a st={st with aU:=4}):=by
 have d:iy a=T\/a%4≠0->pN (bS os ms bt aj bd) n a st={st with aU:=4}:=by
  intro q;obtain⟨c,f⟩:=C.Hg q (ah st.data) h.dl;unfold pN;rw[c];dsimp only;rw[ax f]
 unfold kx;by_cases j:v.k=0
 ·rw[aD j];refine⟨λy e=>(by cases e),λe=>?_⟩;have q:iy v.n=T\/v.n%4≠0:=by
   by_cases q:iy v.n=T\/v.n%4≠0
   ·exact q
   ·rw[ax q]at e;simp at e
  rw[g.n j];rw[g.n j]at d;exact d q
 rw[ax j];by_cases f:v.k=1
 ·rw[aD f];by_cases u:v.off%4≠0
  ·rw[aD u];refine⟨λy e=>(by cases e),λ_=>d (.inr ?_)⟩;obtain⟨c,l,-⟩:=o.p f;have m:=ul C.gn C.kg ⟨C.tB.1,C.tB.2.1⟩ ⟨C.fL.1,C.fL.2.1⟩ ⟨C.gm.1,C.gm.2.1⟩ v.part.toNat v.au.toNat 0 (by omega) (by omega);rw[g.p f];unfold bn;omega
  ·rw[ax u];by_cases c:fm os v=T
   ·rw[aD c];refine⟨λy e=>?_,λe=>(by cases e)⟩
    cases e
    obtain⟨i,s,k,x,l,r,t,p,z,E,A,D,B⟩:=C.slot g o f c (by omega) (ah st.data) h.dl;have M:=(h.mem i s x l).2 k z;refine⟨st.data.getD (((bg bt aj bd ms i s).getD 0 0+4*k-bd)/4).toNat 0,?_,?_,?_⟩
    ·unfold pN;rw[A];dsimp only;rw[D,aD B]
    ·rw[OU l r t,p,show (4*(k:Z)/4).toNat=k by omega,qG (h.uY _).1 (h.uY _).2];exact M.1
    ·rw[OU l r t,p,show (4*(k:Z)/4).toNat=k by omega];exact M.2
   ·rw[ax c];exact⟨λy e=>(by cases e),λe=>(by simp at e)⟩
 rw[ax f];by_cases l:v.k=2
 ·rw[aD l];by_cases c:fm os v=T
  ·rw[aD c];refine⟨λy e=>?_,λe=>(by cases e)⟩
   cases e
   obtain⟨⟨w,p⟩,-⟩:=C.DW g o l c;refine⟨w,?_,Bt _ _,wA os⟩;unfold pN;rw[p]
  ·rw[ax c];exact⟨λy e=>(by cases e),λe=>(by simp at e)⟩
 ·rw[ax l];exact⟨λy e=>(by cases e),λe=>(by simp at e)⟩
end
theorem xM{α:Type}(l:L α)(k:M)(x d:α)(h:k<ah l):(l.set k x).getD k d=x:=by
 rw[bQ,List.getElem?_set_self h];rfl
theorem wy{α:Type}(l:L α)(j k:M)(x d:α)(h:j≠k):(l.set j x).getD k d=l.getD k d:=by
 rw[bQ,List.getElem?_set_ne h,<- bQ]
theorem XR{S:bJ}{v x:bD}(m:s=3\/s=4)(g:v.part=(i:Z))(h:v.au=(s:Z))(f:v.off=4*(k:Z))(l:i<ah S.data)(j:i<ah S.bf):
  mv (mM v x S) s i=(mv S s i).set k x/\∀c b,b=3\/b=4->(c≠i\/b≠s)->mv (mM v x S) b c=mv S b c:=by
 unfold mM;rw[g,h,f,dy,show (4*(k:Z)/4).toNat=k by omega];rcases m with rfl|rfl
 ·rw[aD (by rfl)];refine⟨?_,λc b d e=>?_⟩
  ·unfold mv;rw[aD R,aD R];exact xM _ _ _ _ l
  ·unfold mv;rcases d with rfl|rfl
   ·rw[aD R,aD R];exact wy _ _ _ _ _ (by omega)
   ·rw[ax (by decide),ax (by decide)]
 ·rw[ax (by decide)];refine⟨?_,λc b d e=>?_⟩
  ·unfold mv;rw[ax (by decide),ax (by decide)];exact xM _ _ _ _ j
  ·unfold mv;rcases d with rfl|rfl
   ·rw[aD R,aD R]
   ·rw[ax (by decide),ax (by decide)];exact wy _ _ _ _ _ (by omega)
theorem Jt(v x:bD)(S:bJ):(mM v x S).bM=S.bM/\(mM v x S).pc=S.pc/\(mM v x S).aU=S.aU/\(mM v x S).o=S.o/\(mM v x S).read=S.read/\(mM v x S).data.length=ah S.data/\(mM v x S).bf.length=ah S.bf:=by
 unfold mM;split
 ·exact⟨R,R,R,R,R,by simp,R⟩
 ·exact⟨R,R,R,R,R,R,by simp⟩
theorem OQ(os:L aF)(v x:bD)(S:bJ):(iH os v x S).bM=S.bM/\(iH os v x S).pc=S.pc/\(iH os v x S).o=S.o/\(iH os v x S).read=S.read:=by
 have p:=Jt v x S;unfold iH
 repeat' split
 all_goals first|exact⟨R,R,R,R⟩|exact⟨p.1,p.2.1,p.2.2.2.1,p.2.2.2.2.1⟩
section
variable{os:L aF}{bt aj bd:Z}{b ms:L aI}(C:cO os bt aj bd b ms)
include C
theorem cO.Xh{S:bJ}(h:eA os bt aj bd ms S st){v x:bD}{y:Z}(n:i<ah os)(q:s=3\/s=4)(B:v.part=(i:Z))(E:v.au=(s:Z))(z:v.off=4*(k:Z))(V:k<(aQ os[i] s).length)(H:fJ (bg bt aj bd ms) x y)(t:dP os x)(K:0<=y/\y<4294967296):
  eA os bt aj bd ms (mM v x S) {st with data:=st.data.set (((bg bt aj bd ms i s).getD 0 0+4*k-bd)/4).toNat y}:=by
 have p:=Jt v x S;obtain⟨O,P⟩:=XR (x:=x) q B E z (show i<(ah S.data) by rw[h.rows.1];exact n) (show i<(ah S.bf) by rw[h.rows.2];exact n);have D:=C.BJ i s n q;have w:=h.dl;have W:=ul C.gn C.kg ⟨C.tB.1,C.tB.2.1⟩ ⟨C.fL.1,C.fL.2.1⟩ ⟨C.gm.1,C.gm.2.1⟩ i s 0 (by omega) (by omega);have U:=C.gm;have m:(((bg bt aj bd ms i s).getD 0 0+4*k-bd)/4).toNat<ah st.data:=by omega
 refine⟨λr G=>by rw[p.1];exact h.bM r G,by rw[p.1];exact h.rl,h.rw,by rw[p.1];exact h.r0,by rw[p.2.1];exact h.pc,by dsimp only;rw[lI];exact w,λj=>?_,by rw[p.2.2.2.2.2.1,p.2.2.2.2.2.2];exact h.rows,λg l f e=>?_,by rw[p.2.2.2.1];exact h.o,by rw[p.2.2.2.2.1];exact h.read,by rw[p.2.2.1];exact h.aU⟩
 ·dsimp only;by_cases c:(((bg bt aj bd ms i s).getD 0 0+4*k-bd)/4).toNat=j
  ·subst c;rw[xM _ _ _ _ m];exact K
  ·rw[wy _ _ _ _ _ c];exact h.uY j
 ·have M:=h.mem g l f e;dsimp only;by_cases c:g=i/\l=s
  ·obtain⟨rfl,rfl⟩:=c;rw[O];refine⟨by rw[lI];exact M.1,λo d=>?_⟩;by_cases u:k=o
   ·subst u;rw[xM _ _ _ _ (by rw[M.1];exact d),xM _ _ _ _ m];exact⟨H,t⟩
   ·rw[wy _ _ _ _ _ u,wy _ _ _ _ _ (by omega)];exact M.2 o d
  ·rw[P g l e (by omega)];refine⟨M.1,λo d=>?_⟩;have A:=C.QC i s g l n f q e (by omega);have Q:=C.BJ g l f e;have u:=ul C.gn C.kg ⟨C.tB.1,C.tB.2.1⟩ ⟨C.fL.1,C.fL.2.1⟩ ⟨C.gm.1,C.gm.2.1⟩ g l 0 (by omega) (by omega);rw[wy _ _ _ _ _ (by omega)];exact M.2 o d
theorem cO.store{S:bJ}(h:eA os bt aj bd ms S st){v x:bD}{y:Z}(f:fJ (bg bt aj bd ms) v a)(l:dP os v)(z:fJ (bg bt aj bd ms) x y)(n:dP os x)(A:0<=y/\y<4294967296):
  ((iH os v x S).aU=0/\eA os bt aj bd ms (iH os v x S) (pO (bS os ms bt aj bd) a y st))\/((iH os v x S).aU=5/\pO (bS os ms bt aj bd) a y st={st with aU:=5})\/(iH os v x S).aU = -1:=by
 have d:¬(0<=gB (bS os ms bt aj bd).data (ah st.data) a)->pO (bS os ms bt aj bd) a y st={st with aU:=5}:=by
  intro q;unfold pO;rw[ax q]
 unfold iH;by_cases g:v.k=0
 ·rw[aD g];by_cases q:iy v.n=T\/v.n%4≠0
  ·rw[aD q];refine .inr (.inl ⟨R,d ?_⟩);rw[f.n g];exact(C.Hg q (ah st.data) h.dl).2
  ·rw[ax q];exact .inr (.inr R)
 rw[ax g];by_cases e:v.k=1
 ·rw[aD e];by_cases o:v.off%4≠0
  ·rw[aD o];refine .inr (.inl ⟨R,d ?_⟩);refine(C.Hg (.inr ?_) (ah st.data) h.dl).2;obtain⟨c,j,-⟩:=l.p e;have m:=ul C.gn C.kg ⟨C.tB.1,C.tB.2.1⟩ ⟨C.fL.1,C.fL.2.1⟩ ⟨C.gm.1,C.gm.2.1⟩ v.part.toNat v.au.toNat 0 (by omega) (by omega);rw[f.p e];unfold bn;omega
  ·rw[ax o];by_cases c:fm os v=T
   ·rw[aD c];obtain⟨i,s,k,u,j,r,t,p,B,G,H,E,D⟩:=C.slot f l e c (by omega) (ah st.data) h.dl
    left
    refine⟨(Jt v x S).2.2.1.trans h.aU.1,?_⟩;unfold pO;rw[E,aD D];exact C.Xh h u j r t p B z n A
   ·rw[ax c];exact .inr (.inr R)
 rw[ax e];by_cases j:v.k=2
 ·rw[aD j];by_cases c:fm os v=T
  ·rw[aD c];refine .inr (.inl ⟨R,d ?_⟩);obtain⟨⟨w,p⟩,-⟩:=C.DW f l j c;rw[Cl];rintro⟨r,D,t⟩;have o:bd<=a:=r;have B:=h.dl;have u:(a-bd)/4<(ah st.data:Z):=t;rw[C.D3 a o (by omega)]at p
   cases p
  ·rw[ax c];exact .inr (.inr R)
 ·rw[ax j];exact .inr (.inr R)
end
theorem eA.ask{bt aj bd:Z}{ms:L aI}{S:bJ}(h:eA os bt aj bd ms S st)(ins:L Z):
  ((nz ins S).aU=0/\eA os bt aj bd ms (nz ins S) (oI ins st)/\(nz ins S).pc=S.pc/\(oI ins st).next=st.next) \/
  (0<(nz ins S).aU/\(oI ins st).aU=(nz ins S).aU/\(oI ins st).o=(nz ins S).o/\(oI ins st).read=(nz ins S).read/\((nz ins S).aU=1->(oI ins st).code=(nz ins S).ret)) \/
  ((nz ins S).aU = -1/\(nz ins S).o=S.o/\(nz ins S).read=S.read):=by
 obtain⟨n,q,u⟩:=h.mQ (r:=17) (by decide) (by decide);obtain⟨b,p,t⟩:=h.mQ (r:=10) (by decide) (by decide);unfold nz;by_cases o:(bU S 17).k≠0
 ·rw[aD o];exact .inr (.inr ⟨R,R,R⟩)
 rw[ax o];have m:=n.n (by omega);unfold oI;rw[m];by_cases f:(bU S 17).n=0
 ·rw[aD f,aD f];by_cases d:(bU S 10).k≠0
  ·rw[aD d];exact .inr (.inr ⟨R,R,R⟩)
  ·rw[ax d];refine .inr (.inl ⟨by show (0:Z)<1;decide,R,h.o.1,h.read,λ_=>?_⟩);show cK (bH st 10)=cK (bU S 10).n;rw[b.n (by omega)]
 rw[ax f,ax f];by_cases g:(bU S 17).n=1
 ·rw[aD g,aD g];by_cases l:ah S.o<16
  ·rw[aD l];by_cases d:(bU S 10).k≠0
   ·rw[aD d];exact .inr (.inr ⟨R,R,R⟩)
   ·rw[ax d,ax (by rw[h.o.1];omega)];refine .inl ⟨h.aU.1,?_,R,R⟩;refine⟨h.bM,h.rl,h.rw,h.r0,h.pc,h.dl,h.uY,h.rows,h.mem,⟨?_,?_⟩,h.read,h.aU⟩
    ·show st.o++[cK (bH st 10)]=S.o++[cK (bU S 10).n];rw[h.o.1,b.n (by omega)]
    ·show (S.o++[_]).length<=16;simp;omega
  ·rw[ax l,aD (by rw[h.o.1];omega)];exact .inr (.inl ⟨by show (0:Z)<6;decide,R,h.o.1,h.read,λc=>absurd (show (6:Z)=1 from c) (by decide)⟩)
 rw[ax g,ax g];by_cases j:(bU S 17).n=2
 ·rw[aD j,aD j,h.read];by_cases l:S.read<ah ins
  ·rw[aD l,ax (by omega)];refine .inl ⟨h.aU.1,?_,R,R⟩;have P:=h.put (r:=10) (by decide) (by decide) (uS (bg bt aj bd ms) (ins.getD S.read 0) _ R) (sT os _);have e:dH 10 (dv (ins.getD S.read 0)) S={S with bM:=S.bM.set 10 (dv (ins.getD S.read 0))}:=R;rw[e]at P;exact⟨P.bM,P.rl,P.rw,P.r0,P.pc,P.dl,P.uY,P.rows,P.mem,P.o,R,P.aU⟩
  ·rw[ax l,aD (by omega)];exact .inr (.inl ⟨by show (0:Z)<6;decide,R,h.o.1,R,λc=>absurd (show (6:Z)=1 from c) (by decide)⟩)
 ·rw[ax j,ax j];exact .inr (.inl ⟨by show (0:Z)<6;decide,R,h.o.1,h.read,λc=>absurd (show (6:Z)=1 from c) (by decide)⟩)
def mN(os:L aF)(bt aj bd:Z)(ms:L aI)(ins:L Z)(st:bC)(S S':bJ):Prop :=
 (S'.aU=0/\∃j,j<=3/\∃st',kM (bS os ms bt aj bd) ins j st st'/\eA os bt aj bd ms S' st') \/
 (0<S'.aU/\∃j,j<=3/\∃st',kM (bS os ms bt aj bd) ins j st st'/\st'.aU=S'.aU/\st'.o=S'.o/\st'.read=S'.read/\(S'.aU=1->st'.code=S'.ret)) \/
 (S'.aU = -1/\S'.o=S.o/\S'.read=S.read)
theorem mN.zK{bt aj bd:Z}{ms:L aI}{ins:L Z}{S:bJ}(T:bJ)(b:T.o=S.o)(c:T.read=S.read):mN os bt aj bd ms ins st S (iz T):=.inr (.inr ⟨R,b,c⟩)
structure Bo (os:L aF) (bt aj bd:Z) (ms:L aI) (S:bJ) (st:bC) (i s k:M) (hi:i<os.length):Prop where
 hs:s=1\/s=2
 part:S.pc.part=(i:Z)
 au:S.pc.au=(s:Z)
 off:S.pc.off=4*(k:Z)
 kl:k<(aQ os[i] s).length
 pc:st.pc=(bg bt aj bd ms i s).getD k 0
 about:lj os S.pc=(cB s (4*(k:Z)) 0 os[i].ay).2
 sec:uU os S.pc.part S.pc.au=aQ os[i] s
 code:S.pc.k=2
section
variable{os:L aF}{bt aj bd:Z}{ms:L aI}{a:bJ}{st:bC}
theorem eA.at_(h:eA os bt aj bd ms a st)(g:a.pc.k=2)(o:nA os a.pc=T):∃i s k,∃f:i<ah os,Bo os bt aj bd ms a st i s k f:=by
 have d:=Bq.1 o;obtain⟨p,u,q,r,t⟩:=h.pc.2.1.c g;obtain⟨i,f,l,m,n⟩:=sS p;have e:=h.pc.1.c g;obtain⟨s,b⟩:∃s:M,a.pc.au=s:=⟨a.pc.au.toNat,by omega⟩
 obtain⟨k,c⟩:∃k:M,a.pc.off=4*(k:Z):=⟨(a.pc.off/4).toNat,by omega⟩
 have j:4*(k:Z)/4=k:=by omega
 rw[l,b,c,j,dy,dy,dy]at e;unfold kN at d;rw[m,b,dy]at d;refine⟨i,s,k,f,by omega,l,b,c,by omega,e,?_,by rw[m,b,dy],g⟩;unfold lj;rw[n,b,c,j]
theorem eA.tp(h:eA os bt aj bd ms a st){v:bD}(c:fJ (bg bt aj bd ms) v st.next)(b:dP os v)(d:0<=st.next/\st.next<4294967296):eA os bt aj bd ms (eB v a) {st with pc:=st.next} :=
 ⟨h.bM,h.rl,h.rw,h.r0,⟨c,b,d⟩,h.dl,h.uY,h.rows,h.mem,h.o,h.read,h.aU⟩
end
theorem DP(n v:Z)(s:bC):(eu n v s).next=s.next/\(eu n v s).pc=s.pc:=by unfold eu;split<;>exact⟨R,R⟩
theorem Js(r:Z)(v:bD)(S:bJ):(dH r v S).pc=S.pc/\(dH r v S).aU=S.aU/\(dH r v S).o=S.o/\(dH r v S).read=S.read:=by unfold dH;split<;>exact⟨R,R,R,R⟩
section
variable{os:L aF}{bt aj bd:Z}{b ms:L aI}(C:cO os bt aj bd b ms)
include C
theorem cO.wO{S:bJ}{e:i<ah os}(a:Bo os bt aj bd ms S st i s k e)(d:dP os S.pc)(j:M)(l:k+j<=(aQ os[i] s).length)(n:Z)(g:n=4*(j:Z)):
  fJ (bg bt aj bd ms) (dI S n) ((bg bt aj bd ms i s).getD (k+j) 0)/\dP os (dI S n)/\(0<=(bg bt aj bd ms i s).getD (k+j) 0/\(bg bt aj bd ms i s).getD (k+j) 0<4294967296):=by
 have m:=a.hs;have r:=C.LW i s (k+j) (by omega) (by omega);have h:kN os S.pc.part S.pc.au=4*((aQ os[i] s).length:Z):=by unfold kN;rw[a.sec]
 have q:=d.c a.code;have f:=a.off;have o:=vN (C.val os[i] (bN e)) s;refine⟨⟨λc=>absurd (a.code.symm.trans c) (by decide),λc=>absurd (a.code.symm.trans c) (by decide),λ_=>?_⟩,⟨d.k,d.n,?_,λc=>absurd (a.code.symm.trans c) (by decide),λ_=>⟨q.1,q.2.1,?_⟩⟩,by omega⟩
 ·show _=(bg bt aj bd ms S.pc.part.toNat S.pc.au.toNat).getD ((S.pc.off+n)/4).toNat 0;rw[a.part,a.au,dy,dy,f,g,show ((4*(k:Z)+4*(j:Z))/4).toNat=k+j by omega]
 ·show -17179869184<=S.pc.off+n/\S.pc.off+n<=17179869184;omega
 ·show 0<=S.pc.off+n/\S.pc.off+n<=kN os S.pc.part S.pc.au/\(S.pc.off+n)%4=0;rw[h];omega
theorem cO.Ut{S:bJ}{c:i<ah os}(a:Bo os bt aj bd ms S st i s k c)(f:(lj os S.pc).kind=0):
  fi (bS os ms bt aj bd) st.pc=some ((aQ os[i] s)[k]'(a.kl))/\(bg bt aj bd ms i s).getD (k+1) 0=st.pc+4/\(0<=(aQ os[i] s)[k]'(a.kl)/\(aQ os[i] s)[k]'(a.kl)<=4294967295):=by
 have e:i<ah ms:=by rw[C.len];exact c
 have d:i<(aS bt aj bd ms).length:=by rw[sj];exact e
 have j:=C.obj i c e;have n:=a.hs;rw[a.about]at f;have g:eQ ms[i] s (4*(k:Z)) ((bg bt aj bd ms i s).getD k 0)=T:=by
  unfold eQ;rw[j,f];rfl
 have l:=C.DX i s k c a.kl e;rw[g,aD R]at l;have h:=C.Hp i s k c n a.kl d (by omega);have p:(aS bt aj bd ms)[i].obj=os[i]:=(td i e d).1.trans j;have o:iZ (aS bt aj bd ms) (aS bt aj bd ms)[i] s (4*(k:Z)) ((aQ os[i] s)[k]'(a.kl))=(aQ os[i] s)[k]'(a.kl):=by
  unfold iZ qD;rw[p,f];rfl
 have m:=AP (C.val os[i] (bN c)) (s:Z);rw[<- me _ s (by omega)]at m;rw[o]at h;exact⟨by rw[a.pc];exact h,by rw[a.pc];exact l,m _ (bN _)⟩
end
theorem Xt(f n:Z):-1048576<=dO f n/\dO f n<1048576:=by
 unfold dO mr nY nZ
 repeat' split
 all_goals omega
def FL(v:bD):bD:=if v.k=0\/v.k=1 then {v with n:=v.n-v.n%2,off:=v.off-v.off%2} else v
theorem XP{v:bD}(h:dP os v):dP os (FL v):=by
 unfold FL;split
 ·refine⟨h.k,?_,?_,λc=>?_,λc=>?_⟩
  ·have:=h.n;dsimp only;omega
  ·have:=h.off;dsimp only;omega
  ·have:=h.p c;dsimp only;exact⟨this.1,this.2.1,by omega⟩
  ·have e:v.k=2:=c;omega
 ·exact h
section
variable{os:L aF}{bt aj bd:Z}{b ms:L aI}(C:cO os bt aj bd b ms)
include C
theorem cO.Wq{v:bD}(h:fJ (bg bt aj bd ms) v (bn a))(d:dP os v):fJ (bg bt aj bd ms) (FL v) (bn (a-a%2)):=by
 unfold FL;by_cases c:v.k=0\/v.k=1
 ·rw[aD c];refine⟨λe=>?_,λe=>?_,λe=>?_⟩
  ·have q:=h.n e;show bn (a-a%2)=v.n-v.n%2;rw[<- q];unfold bn;omega
  ·have q:=h.p e;obtain⟨f,g,-⟩:=d.p e;have m:=ul C.gn C.kg ⟨C.tB.1,C.tB.2.1⟩ ⟨C.fL.1,C.fL.2.1⟩ ⟨C.gm.1,C.gm.2.1⟩ v.part.toNat v.au.toNat 0 (by omega) (by omega);show bn (a-a%2)=bn ((bg bt aj bd ms v.part.toNat v.au.toNat).getD 0 0+(v.off-v.off%2));unfold bn at q ⊢;omega
  ·have f:v.k=2:=e;omega
 ·rw[ax c];refine⟨λe=>absurd (.inl e) c,λe=>absurd (.inr e) c,λe=>?_⟩;have q:=h.c e;obtain⟨f,g,-⟩:=d.c e;have m:=ul C.gn C.kg ⟨C.tB.1,C.tB.2.1⟩ ⟨C.fL.1,C.fL.2.1⟩ ⟨C.gm.1,C.gm.2.1⟩ v.part.toNat v.au.toNat (v.off/4).toNat (by omega) (by omega)
  rw[<- q]
  have:bn a%4=0:=by rw[q];exact m
  unfold bn at this ⊢;omega
theorem cO.Ve{S:bJ}{hi:i<ah os}(h:eA os bt aj bd ms S st)(a:Bo os bt aj bd ms S st i s k hi)(h0:(lj os S.pc).kind=0)(ins:List Z):
  mN os bt aj bd ms ins st S (wB os ins ((aQ os[i] s)[k]'(a.kl)) S):=by
 obtain⟨p,q,j,l⟩:=C.Ut a h0;have kl:=a.kl;have O:=C.wO a h.pc.2.1 1 (by omega) 4 rfl;rw[q]at O;have t:=XB j l;have ah2:=Th ((aQ os[i] s)[k]'(a.kl));unfold wB;have d:=uT (aP ((aQ os[i] s)[k]'(a.kl))) _ j l;have R1:=DQ (aP ((aQ os[i] s)[k]'(a.kl))) _ j l;have R2:=DR (aP ((aQ os[i] s)[k]'(a.kl))) _ j l;have N:=Xt (aP ((aQ os[i] s)[k]'(a.kl))) ((aQ os[i] s)[k]'(a.kl));have f:=wC (ins:=ins) p t;generalize bF (aP ((aQ os[i] s)[k]'(a.kl))) ((aQ os[i] s)[k]'(a.kl))=B at *;generalize bR (aP ((aQ os[i] s)[k]'(a.kl))) ((aQ os[i] s)[k]'(a.kl))=u at *;generalize dW (aP ((aQ os[i] s)[k]'(a.kl))) ((aQ os[i] s)[k]'(a.kl))=Q at *
 generalize dO (aP ((aQ os[i] s)[k]'(a.kl))) ((aQ os[i] s)[k]'(a.kl))=n at *;generalize aP ((aQ os[i] s)[k]'(a.kl))=form at *;generalize cz ((aQ os[i] s)[k]'(a.kl))=o at *;clear t p q j l h0;have wn:bn (st.pc+4)=st.pc+4:=qG O.2.2.1 O.2.2.2;rw[wn]at f;have l:eA os bt aj bd ms S {st with steps:=st.steps+1,next:=st.pc+4}:=h.same (st.pc+4) st.code (st.steps+1);have ZP:({st with steps:=st.steps+1,next:=st.pc+4}:bC).pc=st.pc:=R;have E:({st with steps:=st.steps+1,next:=st.pc+4}:bC).next=st.pc+4:=R;generalize ({st with steps:=st.steps+1,next:=st.pc+4}:bC)=X at *
 have t:=kM.one (m:=bS os ms bt aj bd) (ins:=ins) h.aU.2;have p:∀(j:bJ) (Y:bC),eA os bt aj bd ms j Y->Y.next=st.pc+4->li (bS os ms bt aj bd) ins st={Y with pc:=Y.next}->mN os bt aj bd ms ins st S (eB (dI S 4) j):=by
  intro j Y q A w;refine .inl ⟨q.aU.1,1,by omega,_,t,?_⟩;rw[w];exact q.tp (by rw[A];exact O.1) O.2.1 (by rw[A];exact O.2.2)
 have D:∀v,(eu B v X).next=st.pc+4:=λv=>(DP B v X).1.trans E
 have j:=l.mQ (r:=u) (by omega) (by omega);have q:=l.mQ (r:=Q) (by omega) (by omega);unfold Bs;by_cases W:(o:Z)=0
 ·rw[aD W];rw[W,X2]at f;exact .inr (.inl ⟨by show (0:Z)<3;decide,1,by omega,_,t,by rw[f],by rw[f];exact l.o.1,by rw[f];exact l.read,λc=>absurd (show (3:Z)=1 from c) (by decide)⟩)
 rw[ax W];by_cases F:(o:Z)=1
 ·rw[aD F];rw[F,OE]at f;exact p _ _ (l.put (by omega) (by omega) (uS _ _ _ R) (sT os _)) (D _) f
 rw[ax F];by_cases I:(o:Z)=2
 ·rw[aD I];rw[I,OG]at f;exact p _ _ (l.put (by omega) (by omega) (Bt _ _) (wA os)) (D _) f
 rw[ax I];by_cases c3:(o:Z)=3
 ·rw[aD c3];exact mN.zK S R R
 rw[ax c3];by_cases J:(o:Z)=4
 ·rw[aD J];rw[J,OI]at f;have P:=C.plus j.1 j.2.1 n;have A:=zA j.2.1 n (by omega) (by omega);have V:=C.Wq P A;have K:=XP A;have L:=l.put (r:=B) (by omega) (by omega) (v:=dI S 4) (x:=X.pc+4) (by rw[ZP,wn];exact O.1) O.2.1;unfold tP at f;refine .inl ⟨L.aU.1,1,by omega,_,t,?_⟩;rw[f];have wr:=mo (bH X u+n-(bH X u+n)%2);have H:=L.same (bn (bH X u+n-(bH X u+n)%2)) (eu B (X.pc+4) X).code (eu B (X.pc+4) X).steps;exact H.tp V K wr
 rw[ax J];by_cases z:(o:Z)=11
 ·rw[aD z];rw[z,OA]at f;have P:=C.plus j.1 j.2.1 n;have A:=zA j.2.1 n (by omega) (by omega);obtain⟨U,H⟩:=C.load l P A B;have w:(kx os (fB (bU S u) n) S = .inr 4\/kx os (fB (bU S u) n) S = .inr (-1))\/∃y,kx os (fB (bU S u) n) S = .inl y:=by
   unfold kx
   repeat' split
   all_goals first|exact .inr ⟨_,R⟩|exact .inl (.inl R)|exact .inl (.inr R)
  rcases w with (w|w)|⟨y,w⟩
  ·rw[w];rw[H w]at f;exact .inr (.inl ⟨by show (0:Z)<4;decide,1,by omega,_,t,by rw[f],by rw[f];exact l.o.1,by rw[f];exact l.read,λc=>absurd (show (4:Z)=1 from c) (by decide)⟩)
  ·rw[w];exact .inr (.inr ⟨R,R,R⟩)
  ·rw[w];obtain⟨y',e,M,T⟩:=U y w;rw[e]at f;exact p _ _ (l.put (by omega) (by omega) M T) (D _) f
 rw[ax z];by_cases w:(o:Z)=12
 ·rw[aD w];rw[w,OB]at f;have P:=C.plus j.1 j.2.1 n;have A:=zA j.2.1 n (by omega) (by omega);have U:=OQ os (fB (bU S u) n) (bU S Q) S;unfold lQ;rcases C.store l P A q.1 q.2.1 q.2.2 with ⟨e,H⟩|⟨e,H⟩|e
  ·rw[aD e];refine p _ _ H ?_ f;unfold pO;split
   ·exact E
   ·exact E
  ·rw[ax (by omega)];rw[H]at f;refine .inr (.inl ⟨by omega,1,by omega,_,t,by rw[f];exact e.symm,?_,?_,λc=>by omega⟩)
   ·rw[f,U.2.2.1];exact l.o.1
   ·rw[f,U.2.2.2];exact l.read
  ·rw[ax (by omega)];exact .inr (.inr ⟨e,U.2.2.1,U.2.2.2⟩)
 rw[ax w];by_cases U:(o:Z)=25
 ·rw[aD U];rw[U,X1]at f;unfold lQ;rcases l.ask ins with ⟨e,H,hp,A⟩|⟨e,M,T,e3,e4⟩|⟨e,M,T⟩
  ·rw[aD e];exact p _ _ H (A.trans E) f
  ·rw[ax (by omega)];exact .inr (.inl ⟨e,1,by omega,_,t,by rw[f];exact M,by rw[f];exact T,by rw[f];exact e3,λc=>by rw[f];exact e4 c⟩)
  ·rw[ax (by omega)];exact .inr (.inr ⟨e,M,T⟩)
 rw[ax U];by_cases A:5<=(o:Z)/\(o:Z)<=10
 ·rw[aD A];rw[O1 _ _ _ _ _ _ _ _ A]at f;by_cases g:(lP os o (bU S u) (bU S Q)).2=true/\(lP os o (bU S u) (bU S Q)).1=false
  ·rw[aD g];have G:=C.goes j.1 q.1 j.2.1 q.2.1 o A g.1;rw[<- G,g.2]at f;exact p S X l E f
  ·rw[ax g];exact mN.zK S R R
 rw[ax A];by_cases H:(o:Z)<=17
 ·rw[aD H];rw[Jm _ _ _ _ _ _ _ _ (by omega)]at f;exact p _ _ (l.put (by omega) (by omega) (C.does j.1 (uS _ n _ R) j.2.1 (sT os n) o) (Ov j.2.1 (sT os n) o)) (D _) f
 ·rw[ax H];rw[X3 _ _ _ _ _ _ _ _ (by omega)]at f;exact p _ _ (l.put (by omega) (by omega) (C.does j.1 q.1 j.2.1 q.2.1 o) (Ov j.2.1 q.2.1 o)) (D _) f
end
