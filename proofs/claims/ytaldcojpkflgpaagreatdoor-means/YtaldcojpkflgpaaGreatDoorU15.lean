import Derived.Test.YtaldcojpkflgpaaGreatDoorU14
import Derived.Deep.CutBlock
set_option maxHeartbeats 16000000
set_option maxRecDepth 100000
open Go.Value renaming int->I,pointer->aM,tuple->aZ,slice->ak,bool->aJ
open Go.IntKind renaming i64->J
open Go renaming Value->aC,World->av,TypeId->dm,bodyPost_ret->bj,results_none->gW
open _root_ renaming Array->dJ,Int->Z,rfl->R,Nat->M,if_neg->ax,if_pos->aD,List->L,beq_iff_eq->dQ
open Go.World renaming grownBy->az,grownBy_alloc->aG,cell?->aq,setCell->aK,ownsRow->aV,frozen?->dx
open Option renaming none->N,some->S
open Array renaming size_push->js
open Go.Ending renaming returned->aH
open Go.IntWalk renaming i64_in->dD
open Nat renaming le_refl->bz,add_sub_cancel_left->rF,le_trans->fV
open List renaming length->ah,getElem?_eq_some_iff->xE,getElem?_cons_succ->bB,getElem?_append_left->rz,getElem?_eq_getElem->bW,getD_eq_getElem?_getD->bQ,getElem?_append_right->oB,getElem?_toArray->bI
open Int renaming eq_ofNat_of_zero_le->eX,tmod->xd,tdiv_eq_ediv_of_nonneg->sJ
open Go.World.grownBy renaming refl->aW
open Bool renaming false->F,true->T
open Go.Value.slice renaming injEq->jQ
open Go.Exit renaming inBlock->gV
namespace Go.Proofs.YtaldcojpkflgpaaGreatDoor
open Go.RowKit Go.Proofs.Tryz
variable {O a1 a2 a3 a4 C:aC} {D W:av} {q:bJ}
theorem Cc(w:av)(a b:dJ aC)(t u:dm):aA ((w.alloc (.cells a t)).alloc (.cells b u)) w.heap.size a t/\aA ((w.alloc (.cells a t)).alloc (.cells b u)) (w.heap.size+1) b u/\az w ((w.alloc (.cells a t)).alloc (.cells b u)) N:=by
 have c:=aG (w.alloc (.cells a t)) (.cells b u) N;have d:(w.alloc (.cells a t)).heap.size=w.heap.size+1:=js _;exact⟨(aA.new w a t).grown c (by simp),by have:=aA.new (w.alloc (.cells a t)) b u;rw[d]at this;exact this,ya (aG w _ N) c⟩
theorem AA(D:av)(P:ex)(C:aC)(q:bJ)(n:Int)(W:av)(h:bE D P C q W)(ho:-17179869184<=q.pc.off/\q.pc.off<=17179869184)(h0:0<=n/\n<=64):
  Calls prog 58 #[aM (S ⟨P.b,0,N⟩),I J n] W λe c=>e=aH (bq (dI q n))/\az W c N:=by
 have u:aq W ⟨P.b,2,N⟩=S (I J q.pc.k):=h.cells 2;have w:aq W ⟨P.b,3,N⟩=S (I J q.pc.n):=h.cells 3;have x:aq W ⟨P.b,4,N⟩=S (I J q.pc.part):=h.cells 4;have y:aq W ⟨P.b,5,N⟩=S (I J q.pc.au):=h.cells 5;have z:aq W ⟨P.b,6,N⟩=S (I J q.pc.off):=h.cells 6;have hl:=h.aO.lt;have E:=ae (show dI q n=⟨q.pc.k,q.pc.n,q.pc.part,q.pc.au,q.pc.off+n⟩from rfl);clear h;generalize dI q n=r at *;generalize q.pc=p at *;obtain⟨k,m,a,s,o⟩:=p;dsimp only at *;have w1:J.wrap (o+n)=o+n:=dD _ ⟨by omega,by omega⟩;obtain⟨c,f,i⟩:=Cc W #[I J 0,I J 0,I J 0,I J 0,I J 0] #[I J k,I J m,I J a,I J s,I J o] 44 44
 have d:=ae c;have g:=ae f;have G:=ae i;have j:=ae (show W.heap.size<=W.heap.size from bz _);have t:=ae (show W.heap.size<=W.heap.size+1 by omega);clear c f i;go_enter func58,ntmps58
 go_upto_region 2 with fail
 generalize (W.alloc (.cells #[I J 0,I J 0,I J 0,I J 0,I J 0] 44)).alloc (.cells #[I J k,I J m,I J a,I J s,I J o] 44)=V at *;have c:W.heap.size+1≠W.heap.size:=by omega
 have A:=ae j.o;generalize i:W.heap.size+1=Y at *;generalize f:W.heap.size=X at d ⊢ c;have l:=ae (show W.heap.size<=X by omega);clear f i A u w x y z j;have i:=ae (eh G.o (bK V Y 4 (I J (o+n))) (by intro b e;simp at e;have:=t.o;omega));have f:=ae (fE d.o c 4 (I J (o+n)));obtain⟨F,L,M,R,T⟩:=dS g.o;obtain⟨Z,z1,z2,z3,z4⟩:=dS d.o;obtain⟨u,w,x,y,z⟩:=qc d.o;have j:=g.o.free 4;go_wp2;obtain⟨⟨B,H,K,Q,U⟩,A⟩:=qj i.o f.o l.o (I J k) (I J m) (I J a) (I J s) (I J (o+n)) _ rfl;refine bj (v:=bq ⟨k,m,a,s,o+n⟩) ?_ rfl ⟨by rw[E.o],A⟩
 clear F L M R T Z z1 z2 z3 z4 u w x y z j;generalize aK _ _ _=j at *;simp[results,results58,go_sem,bq,B,H,K,Q,U]
theorem oo(D:av)(P:ex)(C:aC)(q:bJ)(W:av)(h:bE D P C q W):
  Calls prog 28 #[aM (S ⟨P.b,0,N⟩)] W λe a=>e=aH (aZ #[])/\bE D P C (iz q) a/\yv P W a:=by
 have a:aq W ⟨P.b,10,N⟩=S (I J q.aU):=h.cells 10;have b:=h.free 10;have H:=ae h;clear h;go_enter func28,ntmps28;go_wp2
 go_end0
 exact⟨R,H.o.jA (-1),H.o.gZ 10 _⟩
theorem yS(D:av)(P:ex)(C:aC)(q:bJ)(r:Z)(v:bD)(W:av)(h:bE D P C q W)(A:ah q.bM=32)(n:0<=r/\r<32):
  Calls prog 59 #[aM (S ⟨P.b,0,N⟩),I J r,bq v] W λe a=>e=aH (aZ #[])/\bE D P C (dH r v q) a/\yv P W a:=by
 obtain⟨j,rfl⟩:=eX n.1;have G:=aG W (.cells #[I J v.k,I J v.n,I J v.part,I J v.au,I J v.off] 44) N;have H:=ae (h.grown G);have K:=ae (yv.grown (P:=P) G);by_cases z:j=0
 ·subst z;have a:=ae (show dH ((0:Nat):Z) v q=q from R);clear h G;unfold bq;go_enter func59,ntmps59;go_wp2
  go_end0
  exact⟨R,by rw[a.o];exact H.o,K.o⟩
 ·have a:=ae (show dH (j:Z) v q={q with bM:=q.bM.set j v} by unfold dH;rw[ax (by omega)];rfl);obtain⟨g,f,x,k,y,i,-,B,c⟩:=h.rowAt 0 (v:=P.vr) (l:=q.bM) R R (by omega);obtain⟨o,p,s,t,u⟩:=c j (by omega);have m:aq W ⟨P.b,1,N⟩=S (ak (S ⟨g,0,N⟩) 32 f):=by
   have:=h.cells 1
   rw[show (iI P C q)[1]?=S P.vr from R,k,A]at this;exact this
  have F:=ae ((H.o.grown (ye (aW _ N) 1)).MT j v k (by omega) ((i.grown G (by simp)).drewN 1));have w:=ae (yv.grown (P:=P) (ye G 1));obtain⟨E,Q,U,Y,L⟩:=dS (aA.new W #[I J v.k,I J v.n,I J v.part,I J v.au,I J v.off] 44);have m:=yd m G;have o:=yd o G;have p:=yd p G;have s:=yd s G;have t:=yd t G;have u:=yd u G;have b:=i.grown G (by simp);have T:=b.free (j*5);have f1:=b.free (j*5+1);have f2:=b.free (j*5+2);have f3:=b.free (j*5+3);have f4:=b.free (j*5+4);have d:((j:Z)==0)=false:=by simp;omega
  have M:((j:Z) != 0)=true:=by simp;omega
  have hj:(j:Z)<32:=n.2;clear h c k G K i y b;unfold bq;go_enter func59,ntmps59
  go_upto_region 2 with fail
  generalize W.alloc (.cells #[I J v.k,I J v.n,I J v.part,I J v.au,I J v.off] 44)=V at *;generalize W.heap.size=X at *
  go_region_with fail
  all_goals
   go_wp2
   go_end0
   exact⟨R,by rw[a.o];exact F.o.1,w.o.trans F.o.2⟩
theorem Sn(D:av)(P:ex)(C:aC)(q:bJ)(v:bD)(p:M)(o:Option Addr)(t r:M)(W:av)(h:bE D P C q W)(j:v.part=p)(c:(if v.au=3 then P.ds else P.bs)[p]?=S (ak o t r)):
  Calls prog 100 #[aM (S ⟨P.b,0,N⟩),bq v] W λe a=>e=aH (ak o t r)/\az W a N:=by
 have G:=ae (aG W (.cells #[I J v.k,I J v.n,I J v.part,I J v.au,I J v.off] 44) N);have z:=h.aO.lt;by_cases s:v.au=3
 ·have d:(v.au==3)=T:=by simpa using s
  rw[aD s]at c;have f:=(xE.1 c).1;obtain⟨u,k,a⟩:=yi h.data;have b:=h.data;rw[a]at b;obtain⟨i,rfl,m,w,x,g⟩:=vM b (by omega);have l:=g p f;rw[c]at l;have A:aq W ⟨P.b,7,N⟩=S (ak (S ⟨i,0,N⟩) (ah P.ds) k):=by rw[<- a];exact h.cells 7
  have n:=(b.lt i R).2;have y:(p:Z)<(ah P.ds:Z):=by omega
  clear h b g m c s;unfold bq;rw[j];rw[j]at G;go_enter func100,ntmps100
  go_upto_region 2 with fail
  go_quiet (fail)
  go_wp2;go_ret;exact⟨R,ye G.o nq⟩
 ·have d:(v.au==3)=F:=by simpa using s
  rw[ax s]at c;have f:=(xE.1 c).1;obtain⟨u,k,a⟩:=yi h.bf;have b:=h.bf;rw[a]at b;obtain⟨i,rfl,m,w,x,g⟩:=vM b (by omega);have l:=g p f;rw[c]at l;have A:aq W ⟨P.b,8,N⟩=S (ak (S ⟨i,0,N⟩) (ah P.bs) k):=by rw[<- a];exact h.cells 8
  have n:=(b.lt i R).2;have y:(p:Z)<(ah P.bs:Z):=by omega
  clear h b g m c s;unfold bq;rw[j];rw[j]at G;go_enter func100,ntmps100
  go_upto_region 3 with fail
  go_quiet (fail)
  go_wp2;go_ret;exact⟨R,ye G.o nq⟩
section
variable{D W V b:av}{P:ex}{C:aC}{q:bJ}{a:M}
theorem bE.aside{p:dJ aC}(h:bE D P C q V)(l:aA V a p 44)(s:∀v∈P.vs,v.ownBlock≠S a)(t:D.heap.size<=a)(j:az V b (S a)):bE D P C q b:=by
 have o:∀ {e:dm} {d n:M} {u:aC} {f:L aC},aV V D.heap.size e d u n f->u.ownBlock≠S a->aV b D.heap.size e d u n f:=λg l=>g.kept j (.inr l)
 have f:∀ {e:dm} {d n:M} {u:aC} {f:L aC},e≠44->aV V D.heap.size e d u n f->aV b D.heap.size e d u n f:=λj g=>o g (λc=>mR g c l j)
 have d:P.b≠a:=λe=>by
  have:=h.aO.symm.trans (e ▸ l)
  simp at this
 exact⟨h.aO.grown j (by simpa using d),h.lens,λi u m g r=>o (h.row i u m g r) (s u (List.mem_of_getElem? g)),h.apart,f (by decide) h.data,f (by decide) h.bf,f (by decide) h.o,h.lo,eh h.gr j (by intro k e;simp at e;omega),h.parts,h.ins⟩
theorem yv.aside(h:yv P W V)(i:az V b (S a))(c:W.heap.size<=a):yv P W b:=λX d t c e f g=>(h X d t c e f g).grown i (by have:=c.lt;simp;omega)
theorem bE.ret(h:bE D P C q V)(k:yv P W V)(d:aA V a #[O,a1,a2,a3,a4] 44)(f:∀v∈P.vs,v.ownBlock≠S a)(e:W.heap.size<=a)(g:D.heap.size<=W.heap.size)(x:bD):∀c,c=((((aK V ⟨a,0,N⟩ (I J x.k)).setCell ⟨a,1,N⟩ (I J x.n)).setCell ⟨a,2,N⟩ (I J x.part)).setCell ⟨a,3,N⟩ (I J x.au)).setCell ⟨a,4,N⟩ (I J x.off) ->
  (aq c ⟨a,0,N⟩=S (I J x.k)/\aq c ⟨a,1,N⟩=S (I J x.n)/\aq c ⟨a,2,N⟩=S (I J x.part)/\aq c ⟨a,3,N⟩=S (I J x.au)/\aq c ⟨a,4,N⟩=S (I J x.off))/\bE D P C q c/\yv P W c:=by
 rintro c rfl;exact⟨dS (G5 d _ _ _ _ _),h.aside d f (by omega) (zm V a 0 x),k.aside (zm V a 0 x) e⟩
theorem bE.place(h:bE D P C q W)(m:qF P.os q){v:bD}(B:v.k=1)(K:dP P.os v)(f:fm P.os v=T):∃p j g n cap:M,v.part=p/\(if v.au=3 then P.ds else P.bs)[p]?=S (ak (S ⟨g,0,N⟩) n cap)/\v.off/4=(j:Z)/\0<=v.off/\j<n/\g<W.heap.size:=by
 obtain⟨G,H,-⟩:=K.p B;obtain⟨i,r,x,y,-⟩:=sS G;have o:nA P.os v=T:=by
  unfold fm at f;rw[Bool.and_eq_true]at f;exact f.1
 have o:=Bq.1 o;unfold kN at o;rw[y]at o;have E:=m.mem i v.au.toNat r (by omega);have s:∃(k:M) (u:aC) (l:L bD),P.vs[k]?=S u/\(jx q)[k]?=S l/\l=mv q v.au.toNat i/\(if v.au=3 then P.ds else P.bs)[i]?=S u:=by
  unfold ex.vs jx mv;rcases H with c|c
  ·have d:i<ah P.ds:=by rw[h.lens.1,m.rows.1];exact r
   have e:i<ah q.data:=by rw[m.rows.1];exact r
   rw[aD c,aD (by omega)];exact⟨i+1,P.ds[i],q.data[i],by rw[bB,rz d,bW d],by rw[bB,rz e,bW e],by rw[bQ,bW e];rfl,bW d⟩
  ·have d:i<ah P.bs:=by rw[h.lens.2,m.rows.2];exact r
   have e:i<ah q.bf:=by rw[m.rows.2];exact r
   rw[ax (by omega),ax (by omega)];exact⟨ah q.data+i+1,P.bs[i],q.bf[i],by rw[bB,oB (by rw[h.lens.1];omega),h.lens.1,rF,bW d],by rw[bB,oB (by omega),rF,bW e],by rw[bQ,bW e];rfl,bW d⟩
 obtain⟨k,u,l,d,e,z,A⟩:=s;rw[<- z]at E;obtain⟨g,cap,w,rfl,-,-,-,t,-⟩:=h.rowAt k d e (by omega);exact⟨i,(v.off/4).toNat,g,ah l,cap,x,A,by omega,o.1,by omega,t⟩
theorem bE.tZ(h:bE D P C q W){v:bD}{p j g n cap:M}(G:v.part=p)(i:(if v.au=3 then P.ds else P.bs)[p]?=S (ak (S ⟨g,0,N⟩) n cap))(E:v.off/4=(j:Z))(k:j<n):∃d,aA W g d 44 /\
  (aq W ⟨g,j*5,N⟩=S (I J ((tS q v).getD j bV).k)/\aq W ⟨g,j*5+1,N⟩=S (I J ((tS q v).getD j bV).n)/\aq W ⟨g,j*5+2,N⟩=S (I J ((tS q v).getD j bV).part)/\aq W ⟨g,j*5+3,N⟩=S (I J ((tS q v).getD j bV).au)/\aq W ⟨g,j*5+4,N⟩=S (I J ((tS q v).getD j bV).off)) /\
  ∀x,bE D P C (mM v x q) (kC W g (j*5) x)/\yv P W (kC W g (j*5) x):=by
 have z:v.part.toNat=p:=by omega
 have A:(v.off/4).toNat=j:=by omega
 unfold tS mM;rw[z,A];by_cases c:v.au=3
 ·rw[aD c]at i;have t:=(xE.1 i).1;have f:p<ah q.data:=by rw[<- h.lens.1];exact t
  have w:q.data.getD p []=q.data[p]:=by rw[bQ,bW f];rfl
  have r:P.vs[p+1]?=S (ak (S ⟨g,0,N⟩) n cap):=by unfold ex.vs;rw[bB,rz t];exact i
  have s:(jx q)[p+1]?=S q.data[p]:=by unfold jx;rw[bB,rz f,bW f]
  obtain⟨y,l,e⟩:=yi (h.row (p+1) _ _ r s);simp only[jQ]at e;obtain⟨-,rfl,-⟩:=e;obtain⟨B,m,d,e,-,o,-,-,u⟩:=h.rowAt (p+1) r s (by omega);simp only[jQ,Option.some.injEq,Addr.mk.injEq]at e;obtain⟨⟨rfl,-⟩,-,-⟩:=e;simp only[aD c];rw[w,bQ,bW k];exact⟨d,o,u j k,λx=>h.Ma p j x f i k o⟩
 ·rw[ax c]at i;have t:=(xE.1 i).1;have f:p<ah q.bf:=by rw[<- h.lens.2];exact t
  have w:q.bf.getD p []=q.bf[p]:=by rw[bQ,bW f];rfl
  have r:P.vs[ah q.data+p+1]?=S (ak (S ⟨g,0,N⟩) n cap):=by unfold ex.vs;rw[bB,oB (by rw[h.lens.1];omega),h.lens.1,rF];exact i
  have s:(jx q)[ah q.data+p+1]?=S q.bf[p]:=by unfold jx;rw[bB,oB (by omega),rF,bW f]
  obtain⟨y,l,e⟩:=yi (h.row _ _ _ r s);simp only[jQ]at e;obtain⟨-,rfl,-⟩:=e;obtain⟨B,m,d,e,-,o,-,-,u⟩:=h.rowAt _ r s (by omega);simp only[jQ,Option.some.injEq,Addr.mk.injEq]at e;obtain⟨⟨rfl,-⟩,-,-⟩:=e;simp only[ax c];rw[w,bQ,bW k];exact⟨d,o,u j k,λx=>h.Wt p j x f i k o⟩
end
def DH(D:av)(P:ex)(C:aC)(q:bJ)(v:bD)(W:av)(r:bD ⊕ Z)(e:Ending)(W':av):Prop:=match r with
 | .inl x=>e=aH (aZ #[bq x,aJ T])/\bE D P C q W'/\yv P W W'
 | .inr n=>e=aH (aZ #[bq v,aJ F])/\bE D P C {q with aU:=n} W'/\yv P W W'
theorem T9(n:Z):(xd n 4==0)=(n%4==0):=by
 rw[Bool.eq_iff_iff,dQ,dQ];exact⟨λh=>Int.emod_eq_zero_of_dvd (Int.dvd_of_tmod_eq_zero h),λh=>Int.tmod_eq_zero_of_dvd (Int.dvd_of_emod_eq_zero h)⟩
theorem Sr(D:av)(P:ex)(C:aC)(q:bJ)(v:bD)(W:av)(h:bE D P C q W)(hG:qF P.os q)(hv:dP P.os v):
  Calls prog 61 #[aM (S ⟨P.b,0,N⟩),bq v] W λe f=>DH D P C q v W (kx P.os v q) e f:=by
 obtain⟨f,i,b⟩:=Cc W #[I J v.k,I J v.n,I J v.part,I J v.au,I J v.off] #[I J 0,I J 0,I J 0,I J 0,I J 0] 44 44;have iF:=ae f;have iu:=ae i;have HS:=ae (h.grown b);have yC:=ae (yv.grown (P:=P) b);have sH:=ae (h.fresh h.rL (X:=W.heap.size) (bz _));have lF:=ae (h.fresh h.rL (X:=W.heap.size+1) (by omega));have HR:=ae (show W.heap.size<=W.heap.size+1 by omega);have HW:=ae h.gr.size;have HG:=ae hG;have qv:=ae hv;have xC:=ae (show kx P.os v q=if v.k=0 then .inr (if iy v.n=T\/v.n%4≠0 then 4 else -1)
  else if v.k=1 then (if v.off%4≠0 then .inr 4 else if fm P.os v=T then .inl ((tS q v).getD (v.off/4).toNat bV)else .inr (-1))
  else if v.k=2 then (if fm P.os v=T then .inl bV else .inr (-1))else .inr (-1)from R)
 have cI:=ae (λU (f:bE D P C q U) (i:v.k=1\/v.k=2)=>Df P.b P.ap P.cp P.gl P.os v U f.ps (hv.zH i));have n0:=hv.n.1;have hkk:=hv.k;generalize kx P.os v q=RR at *;clear h hG hv f i b;unfold bq at cI ⊢;go_enter func61,ntmps61
 go_upto_region 1 with fail
 generalize (W.alloc (.cells #[I J v.k,I J v.n,I J v.part,I J v.au,I J v.off] 44)).alloc (.cells #[I J 0,I J 0,I J 0,I J 0,I J 0] 44)=V at *;generalize f:W.heap.size+1=b at *;generalize i:W.heap.size=X at iF sH ⊢;clear f i;obtain⟨o,r,s,t,l⟩:=dS iF.o;have cb:=HS.o.cells 10;have fb:=HS.o.free 10;rw[show (iI P C q)[10]?=S (I J q.aU)from R]at cb;have w:Hd (∀U i,bE D P C i U->yv P W U->aA U b #[I J 0,I J 0,I J 0,I J 0,I J 0] 44->∀(x:bD) f,f=((((aK U ⟨b,0,N⟩ (I J x.k)).setCell ⟨b,1,N⟩ (I J x.n)).setCell ⟨b,2,N⟩ (I J x.part)).setCell ⟨b,3,N⟩ (I J x.au)).setCell ⟨b,4,N⟩ (I J x.off) ->
  (aq f ⟨b,0,N⟩=S (I J x.k)/\aq f ⟨b,1,N⟩=S (I J x.n)/\aq f ⟨b,2,N⟩=S (I J x.part)/\aq f ⟨b,3,N⟩=S (I J x.au)/\aq f ⟨b,4,N⟩=S (I J x.off))/\bE D P C i f/\yv P W f):=λU i h k b x=>h.ret k b lF.o HR.o HW.o x
 rcases (show v.k=0\/v.k=1\/v.k=2\/v.k=3 by omega)with k|k|k|k
 ·have d0:(v.k==0)=T:=by simpa using k
  have E:=ae (xC.o.trans (aD k));clear xC cI k
  go_upto_region 5 with (go_at_call 26;refine(Dp v.n _).mono ?_;rintro e W2 ⟨rfl,rfl⟩)
  have HU:=ae (HS.o.jA (-1));have IJ:=ae (yC.o.trans (HS.o.gZ 10 (I J (-1))));have Je:=ae (HS.o.gZ 10 (I J (-1)) X _ _ iF.o (by decide) (by decide) sH.o);have CS:=ae (HS.o.gZ 10 (I J (-1)) b _ _ iu.o (by decide) (by decide) lF.o);clear o r s t l cb fb HS yC iF iu;generalize aK W2 ⟨P.b,10,N⟩ (I J (-1))=U at *;obtain⟨o,r,s,t,l⟩:=dS Je.o;rcases (show (iy v.n=F/\(v.n%4==0)=T/\(v.n%4 != 0)=F/\Hd (RR = .inr (-1)))\/((iy v.n=T\/(iy v.n=F/\(v.n%4==0)=F/\(v.n%4 != 0)=T))/\Hd (RR = .inr 4)) by
   have a:=E.o;unfold Hd;rw[a]
   cases iy v.n
   ·by_cases c:v.n%4=0
    ·exact .inl ⟨R,by simpa using c,by simpa using c,by rw[ax (by simp[c])]⟩
    ·exact .inr ⟨.inr ⟨R,by simpa using c,by simpa using c⟩,by rw[aD (.inr c)]⟩
   ·exact .inr ⟨.inl R,by rw[aD (.inl R)]⟩)with ⟨d1,d2,d3,e0⟩|⟨d,e0⟩
  ·clear E;obtain⟨z0,z1,z2,z3,z4⟩:=dS CS.o;obtain⟨K,Q,Y,L,M⟩:=qc CS.o;go_wp2;obtain⟨⟨z,A,B,G,H⟩,f,i⟩:=w.o U _ HU.o IJ.o CS.o v _ R;refine bj (v:=aZ #[bq v,aJ F]) ?_ R (by rw[e0.o];exact⟨R,f,i⟩);clear o r s t l z0 z1 z2 z3 z4 K Q Y L M f i;generalize aK _ _ _=f at *;simp[results,results61,go_sem,bq,z,A,B,G,H]
  ·have u:=HU.o.cells 10;have f10:=HU.o.free 10;rw[show (iI P C {q with aU:=-1})[10]?=S (I J (-1))from R]at u;clear E;rcases d with d|⟨d1,d2,d3⟩
   all_goals
    go_upto_region 7 with fail
    have H2:=ae (HU.o.jA 4);have K2:=ae (IJ.o.trans (HU.o.gZ 10 (I J 4)));have oV:=ae (HU.o.gZ 10 (I J 4) X _ _ Je.o (by decide) (by decide) sH.o);have m:=ae (HU.o.gZ 10 (I J 4) b _ _ CS.o (by decide) (by decide) lF.o);clear o r s t l u f10 HU IJ Je CS;generalize aK U ⟨P.b,10,N⟩ (I J 4)=nB at *;obtain⟨o,r,s,t,l⟩:=dS oV.o;obtain⟨z0,z1,z2,z3,z4⟩:=dS m.o;obtain⟨K,Q,Y,L,M⟩:=qc m.o;go_wp2;obtain⟨⟨z,A,B,G,H⟩,f,i⟩:=w.o nB _ H2.o K2.o m.o v _ R;refine bj (v:=aZ #[bq v,aJ F]) ?_ R (by rw[e0.o];exact⟨R,f,i⟩)
    clear o r s t l z0 z1 z2 z3 z4 K Q Y L M f i;generalize aK _ _ _=f at *;simp[results,results61,go_sem,bq,z,A,B,G,H]
 ·have d0:(v.k==0)=F:=by simp;omega
  have d1:(v.k==1)=T:=by simpa using k
  have E1:=ae ((xC.o.trans (ax (by omega))).trans (aD k));have KK:=ae k;clear xC k
  go_upto_region 10 with (go_at_call 27;refine(cI.o _ HS.o (.inl KK.o)).mono ?_;rintro e W1 ⟨rfl,g1⟩)
  have H1:=ae (HS.o.grown g1);have K1:=ae (yC.o.trans (yv.grown g1));have qM:=ae (iF.o.grown g1 (by simp));have wK:=ae (iu.o.grown g1 (by simp));clear g1 o r s t l cb fb HS yC iF iu cI;obtain⟨o,r,s,t,l⟩:=dS qM.o;have tm:=T9 v.off;by_cases c:v.off%4=0
  rotate_left
  ·have d2:(xd v.off 4==0)=F:=by rw[tm];simpa using c
   have d3:(xd v.off 4 != 0)=T:=by rw[bne,d2];rfl
   have E:=ae (E1.o.trans (aD c));have u:=H1.o.cells 10;have f10:=H1.o.free 10;rw[show (iI P C q)[10]?=S (I J q.aU)from R]at u;clear tm c E1
   go_upto_region 12 with fail
   have H2:=ae (H1.o.jA 4);have K2:=ae (K1.o.trans (H1.o.gZ 10 (I J 4)));have oV:=ae (H1.o.gZ 10 (I J 4) X _ _ qM.o (by decide) (by decide) sH.o);have m:=ae (H1.o.gZ 10 (I J 4) b _ _ wK.o (by decide) (by decide) lF.o);clear o r s t l u f10;generalize aK W1 ⟨P.b,10,N⟩ (I J 4)=U at *;obtain⟨o,r,s,t,l⟩:=dS oV.o;obtain⟨z0,z1,z2,z3,z4⟩:=dS m.o;obtain⟨K,Q,Y,L,M⟩:=qc m.o;go_wp2;obtain⟨⟨z,A,B,G,H⟩,f,i⟩:=w.o U _ H2.o K2.o m.o v _ R;refine bj (v:=aZ #[bq v,aJ F]) ?_ R (by rw[E.o];exact⟨R,f,i⟩);clear o r s t l z0 z1 z2 z3 z4 K Q Y L M f i
   generalize aK _ _ _=f at *;simp[results,results61,go_sem,bq,z,A,B,G,H]
  have d2:(xd v.off 4==0)=T:=by rw[tm];simpa using c
  have d3:(xd v.off 4 != 0)=F:=by rw[bne,d2];rfl
  have E2:=ae (E1.o.trans (ax (by omega)));clear tm c E1
  cases u:fm P.os v
  ·have E:=ae (E2.o.trans (ax (by rw[u];simp)));clear u E2
   go_upto_region 21 with (go_at_call 28;refine(oo D P C q _ H1.o).mono ?_;rintro e U ⟨rfl,h2,k2⟩)
   have H2:=ae h2;have K2:=ae (K1.o.trans k2);have oV:=ae (k2 X _ _ qM.o (by decide) (by decide) sH.o);have m:=ae (k2 b _ _ wK.o (by decide) (by decide) lF.o);clear h2 k2 o r s t l;obtain⟨o,r,s,t,l⟩:=dS oV.o;obtain⟨z0,z1,z2,z3,z4⟩:=dS m.o;obtain⟨K,Q,Y,L,M⟩:=qc m.o;go_wp2;obtain⟨⟨z,A,B,G,H⟩,f,i⟩:=w.o U _ H2.o K2.o m.o v _ R;refine bj (v:=aZ #[bq v,aJ F]) ?_ R (by rw[E.o];exact⟨R,f,i⟩);clear o r s t l z0 z1 z2 z3 z4 K Q Y L M f i;generalize aK _ _ _=f at *;simp[results,results61,go_sem,bq,z,A,B,G,H]
  ·have E:=ae (E2.o.trans (aD u));obtain⟨p,j,g,n,cap,m,z,i,f,hjn,hg⟩:=H1.o.place HG.o KK.o qv.o u;have PA:=ae (λU (f:bE D P C q U)=>f.tZ m z i hjn);have cC:=ae (Sn D P C q v p _ n cap W1 H1.o m z);have t4:Int.tdiv v.off 4=(j:Z):=by rw[sJ f,i]
   have A:(v.off/4).toNat=j:=by omega
   rw[A]at E;have w4:J.wrap (j:Z)=j:=dD _ ⟨by omega,by have:=qv.o.off;omega⟩;have jn:(j:Z)<(n:Z):=by omega
   clear u E2 m z i A f;unfold bq at cC
   go_upto_region 15 with (go_at_call 100;refine cC.o.mono ?_;rintro e U ⟨rfl,g2⟩)
   have H2:=ae (H1.o.grown g2);have K2:=ae (K1.o.trans (yv.grown g2));have m:=ae (wK.o.grown g2 (by simp));obtain⟨-,-,-,-,l⟩:=dS (qM.o.grown g2 (by simp));obtain⟨cur,-,⟨r0,r1,r2,r3,r4⟩,-⟩:=PA.o U H2.o;generalize (tS q v).getD j bV=y at *;obtain⟨z0,z1,z2,z3,z4⟩:=dS m.o;obtain⟨K,Q,Y,L,M⟩:=qc m.o;clear g2 H1 K1 wK qM;go_wp2;obtain⟨⟨z,A,B,G,H⟩,f,i⟩:=w.o U _ H2.o K2.o m.o y _ R;refine bj (v:=aZ #[bq y,aJ T]) ?_ R (by rw[E.o];exact⟨R,f,i⟩);clear l z0 z1 z2 z3 z4 K Q Y L M f i r0 r1 r2 r3 r4;generalize aK _ _ _=f at *
   simp[results,results61,go_sem,bq,z,A,B,G,H]
 ·have d0:(v.k==0)=F:=by simp;omega
  have d1:(v.k==1)=F:=by simp;omega
  have d2:(v.k==2)=T:=by simpa using k
  have E1:=ae (((xC.o.trans (ax (by omega))).trans (ax (by omega))).trans (aD k));have KK:=ae k;clear xC k
  go_upto_region 18 with (go_at_call 27;refine(cI.o _ HS.o (.inr KK.o)).mono ?_;rintro e W1 ⟨rfl,g1⟩)
  have H1:=ae (HS.o.grown g1);have K1:=ae (yC.o.trans (yv.grown g1));have qM:=ae (iF.o.grown g1 (by simp));have wK:=ae (iu.o.grown g1 (by simp));clear g1 o r s t l cb fb HS yC iF iu cI;obtain⟨o,r,s,t,l⟩:=dS qM.o
  cases u:fm P.os v
  ·have E:=ae (E1.o.trans (ax (by rw[u];simp)));clear u E1
   go_upto_region 21 with (go_at_call 28;refine(oo D P C q _ H1.o).mono ?_;rintro e U ⟨rfl,h2,k2⟩)
   have H2:=ae h2;have K2:=ae (K1.o.trans k2);have oV:=ae (k2 X _ _ qM.o (by decide) (by decide) sH.o);have m:=ae (k2 b _ _ wK.o (by decide) (by decide) lF.o);clear h2 k2 o r s t l;obtain⟨o,r,s,t,l⟩:=dS oV.o;obtain⟨z0,z1,z2,z3,z4⟩:=dS m.o;obtain⟨K,Q,Y,L,M⟩:=qc m.o;go_wp2;obtain⟨⟨z,A,B,G,H⟩,f,i⟩:=w.o U _ H2.o K2.o m.o v _ R;refine bj (v:=aZ #[bq v,aJ F]) ?_ R (by rw[E.o];exact⟨R,f,i⟩);clear o r s t l z0 z1 z2 z3 z4 K Q Y L M f i;generalize aK _ _ _=f at *;simp[results,results61,go_sem,bq,z,A,B,G,H]
  ·have E:=ae (E1.o.trans (aD u));obtain⟨z0,z1,z2,z3,z4⟩:=dS wK.o;obtain⟨K,Q,Y,L,M⟩:=qc wK.o;clear u E1;go_wp2;obtain⟨⟨z,A,B,G,H⟩,f,i⟩:=w.o W1 _ H1.o K1.o wK.o ⟨3,0,0,0,0⟩ _ R;dsimp only at z A B G H f i;refine bj (v:=aZ #[bq bV,aJ T]) ?_ R (by rw[E.o];exact⟨R,f,i⟩);clear o r s t l z0 z1 z2 z3 z4 K Q Y L M f i;generalize aK _ _ _=f at *;simp[results,results61,go_sem,bq,bV,z,A,B,G,H]
 ·have d0:(v.k==0)=F:=by simp;omega
  have d1:(v.k==1)=F:=by simp;omega
  have d2:(v.k==2)=F:=by simp;omega
  have E:=ae (((xC.o.trans (ax (by omega))).trans (ax (by omega))).trans (ax (by omega)));clear xC k cI cb fb
  go_upto_region 21 with (go_at_call 28;refine(oo D P C q _ HS.o).mono ?_;rintro e U ⟨rfl,h2,k2⟩)
  have H2:=ae h2;have K2:=ae (yC.o.trans k2);have oV:=ae (k2 X _ _ iF.o (by decide) (by decide) sH.o);have m:=ae (k2 b _ _ iu.o (by decide) (by decide) lF.o);clear h2 k2 o r s t l;obtain⟨o,r,s,t,l⟩:=dS oV.o;obtain⟨z0,z1,z2,z3,z4⟩:=dS m.o;obtain⟨K,Q,Y,L,M⟩:=qc m.o;go_wp2;obtain⟨⟨z,A,B,G,H⟩,f,i⟩:=w.o U _ H2.o K2.o m.o v _ R;refine bj (v:=aZ #[bq v,aJ F]) ?_ R (by rw[E.o];exact⟨R,f,i⟩);clear o r s t l z0 z1 z2 z3 z4 K Q Y L M f i;generalize aK _ _ _=f at *;simp[results,results61,go_sem,bq,z,A,B,G,H]
theorem RF(D:av)(P:ex)(C:aC)(q:bJ)(v x:bD)(W:av)(h:bE D P C q W)(hG:qF P.os q)(hv:dP P.os v):
  Calls prog 62 #[aM (S ⟨P.b,0,none⟩),bq v,bq x] W λe b=>e=aH (aZ #[])/\bE D P C (iH P.os v x q) b/\yv P W b:=by
 obtain⟨f,i,b⟩:=Cc W #[I J v.k,I J v.n,I J v.part,I J v.au,I J v.off] #[I J x.k,I J x.n,I J x.part,I J x.au,I J x.off] 44 44;have z:=ae f;have BY:=ae i;have m:=ae (h.grown b);have Q:=ae (yv.grown (P:=P) b);have sH:=ae (h.fresh h.rL (X:=W.heap.size) (bz _));have HG:=ae hG;have qv:=ae hv;have A:=ae (show iH P.os v x q=if v.k=0 then {q with aU:=if iy v.n=T\/v.n%4≠0 then 5 else -1}
  else if v.k=1 then (if v.off%4≠0 then {q with aU:=5} else if fm P.os v=T then mM v x q else iz q)
  else if v.k=2 then (if fm P.os v=T then {q with aU:=5} else iz q)else iz q from R)
 have L:=ae (λU (f:bE D P C q U) (b:v.k=1\/v.k=2)=>Df P.b P.ap P.cp P.gl P.os v U f.ps (hv.zH b));have n0:=hv.n.1;have hkk:=hv.k;generalize iH P.os v x q=RR at *;clear h hG hv f i b;unfold bq at L ⊢;go_enter func62,ntmps62
 go_upto_region 1 with fail
 generalize (W.alloc (.cells #[I J v.k,I J v.n,I J v.part,I J v.au,I J v.off] 44)).alloc (.cells #[I J x.k,I J x.n,I J x.part,I J x.au,I J x.off] 44)=V at *;generalize b:W.heap.size+1=Y at *;generalize f:W.heap.size=X at z sH ⊢;clear b f;obtain⟨t,s,u,w,y⟩:=dS z.o;have cb:=m.o.cells 10;have fb:=m.o.free 10;rw[show (iI P C q)[10]?=S (I J q.aU)from R]at cb;have i:Hd (∀U b,bE D P C b U->yv P W U->RR=b->bE D P C RR U/\yv P W U):=λU b h k e=>⟨by rw[e];exact h,k⟩
 rcases (show v.k=0\/v.k=1\/v.k=2\/v.k=3 by omega)with k|k|k|k
 ·have d0:(v.k==0)=T:=by simpa using k
  have E:=ae (A.o.trans (aD k));clear A L k
  go_upto_region 5 with (go_at_call 26;refine(Dp v.n _).mono ?_;rintro e B ⟨rfl,rfl⟩)
  have b:=ae (m.o.jA (-1));have l:=ae (Q.o.trans (m.o.gZ 10 (I J (-1))));have r:=ae (m.o.gZ 10 (I J (-1)) X _ _ z.o (by decide) (by decide) sH.o);clear t s u w y cb fb m Q z;generalize aK B ⟨P.b,10,none⟩ (I J (-1))=U at *;have s:=(dS r.o).2.1;rcases (show (iy v.n=F/\(v.n%4==0)=T/\(v.n%4 != 0)=F/\Hd (RR={q with aU:=-1}))\/((iy v.n=T\/(iy v.n=F/\(v.n%4==0)=F/\(v.n%4 != 0)=T))/\Hd (RR={q with aU:=5})) by
   have a:=E.o;unfold Hd;rw[a]
   cases iy v.n
   ·by_cases c:v.n%4=0
    ·exact .inl ⟨R,by simpa using c,by simpa using c,by rw[ax (by simp[c])]⟩
    ·exact .inr ⟨.inr ⟨R,by simpa using c,by simpa using c⟩,by rw[aD (.inr c)]⟩
   ·exact .inr ⟨.inl R,by rw[aD (.inl R)]⟩)with ⟨d1,M,d3,f⟩|⟨d,f⟩
  ·clear E;go_wp2
   (try simp only[gV,Exit.then]);refine bj (gW R _ _ _) R ?_
   exact⟨R,i.o _ _ b.o l.o f.o⟩
  ·have o:=b.o.cells 10;have N:=b.o.free 10;rw[show (iI P C {q with aU:=-1})[10]?=S (I J (-1))from R]at o;clear E;rcases d with d|⟨d1,M,d3⟩
   all_goals
    go_wp2
    (try simp only[gV,Exit.then]);refine bj (gW R _ _ _) R ?_
    exact⟨R,i.o _ _ (b.o.jA 5) (l.o.trans (b.o.gZ 10 _)) f.o⟩
 ·have d0:(v.k==0)=F:=by simp;omega
  have d1:(v.k==1)=T:=by simpa using k
  have b:=ae ((A.o.trans (ax (by omega))).trans (aD k));have KK:=ae k;clear A k
  go_upto_region 9 with (go_at_call 27;refine(L.o _ m.o (.inl KK.o)).mono ?_;rintro e W1 ⟨rfl,r⟩)
  have l:=ae (m.o.grown r);have K1:=ae (Q.o.trans (yv.grown r));have qM:=ae (z.o.grown r (by simp));have Md:=ae (BY.o.grown r (by simp));clear r t s u w y cb fb m Q z BY L;obtain⟨t,s,u,w,y⟩:=dS qM.o;have o:=l.o.cells 10;have N:=l.o.free 10;rw[show (iI P C q)[10]?=S (I J q.aU)from R]at o;have f:=T9 v.off;by_cases c:v.off%4=0
  rotate_left
  ·have M:(xd v.off 4==0)=F:=by rw[f];simpa using c
   have d3:(xd v.off 4 != 0)=T:=by rw[bne,M];rfl
   have E:=ae (b.o.trans (aD c));clear f c b;go_wp2
   (try simp only[gV,Exit.then]);refine bj (gW R _ _ _) R ?_
   exact⟨R,i.o _ _ (l.o.jA 5) (K1.o.trans (l.o.gZ 10 _)) E.o⟩
  have M:(xd v.off 4==0)=T:=by rw[f];simpa using c
  have d3:(xd v.off 4 != 0)=F:=by rw[bne,M];rfl
  have E2:=ae (b.o.trans (ax (by omega)));clear f c b
  cases f:fm P.os v
  ·have E:=ae (E2.o.trans (ax (by rw[f];simp)));clear f E2;go_wp2_with (go_at_call 28;refine(oo D P C q _ l.o).mono ?_;rintro e U ⟨rfl,B,G⟩)
   have H:=ae B;have K:=ae (K1.o.trans G);clear B G t s u w y;go_wp2
   go_end0
   exact⟨R,i.o _ _ H.o K.o E.o⟩
  ·have E:=ae (E2.o.trans (aD f));obtain⟨p,j,g,n,cap,B,G,b,H,hjn,hg⟩:=l.o.place HG.o KK.o qv.o f;have PA:=ae (λU (f:bE D P C q U)=>f.tZ B G b hjn);have cC:=ae (Sn D P C q v p _ n cap W1 l.o B G);have t4:Int.tdiv v.off 4=(j:Z):=by rw[sJ H,b]
   have w4:J.wrap (j:Z)=j:=dD _ ⟨by omega,by have:=qv.o.off;omega⟩;have jn:(j:Z)<(n:Z):=by omega
   clear f E2 B G b H;unfold bq at cC
   go_upto_region 13 with (go_at_call 100;refine cC.o.mono ?_;rintro e U ⟨rfl,g2⟩)
   have H:=ae (l.o.grown g2);have K:=ae (K1.o.trans (yv.grown g2));obtain⟨y0,y1,y2,y3,y4⟩:=dS (Md.o.grown g2 (by simp));have ajo:=(dS (qM.o.grown g2 (by simp))).2.2.2.2;obtain⟨cur,G,⟨r0,r1,r2,r3,r4⟩,B⟩:=PA.o U H.o;have b:=ae (B x);have f0:=G.free (j*5);have f1:=G.free (j*5+1);have f2:=G.free (j*5+2);have f3:=G.free (j*5+3);have f4:=G.free (j*5+4);clear g2 l qM Md G B t s u w y o N;go_wp2
   (try simp only[gV,Exit.then]);refine bj (gW R _ _ _) R ?_
   exact⟨R,i.o _ _ b.o.1 (K.o.trans b.o.2) E.o⟩
 ·have d0:(v.k==0)=F:=by simp;omega
  have d1:(v.k==1)=F:=by simp;omega
  have M:(v.k==2)=T:=by simpa using k
  have b:=ae (((A.o.trans (ax (by omega))).trans (ax (by omega))).trans (aD k));have KK:=ae k;clear A k
  go_upto_region 16 with (go_at_call 27;refine(L.o _ m.o (.inr KK.o)).mono ?_;rintro e W1 ⟨rfl,r⟩)
  have l:=ae (m.o.grown r);have K1:=ae (Q.o.trans (yv.grown r));have qM:=ae (z.o.grown r (by simp));have Md:=ae (BY.o.grown r (by simp));clear r t s u w y cb fb m Q z BY L;obtain⟨t,s,u,w,y⟩:=dS qM.o;have o:=l.o.cells 10;have N:=l.o.free 10;rw[show (iI P C q)[10]?=S (I J q.aU)from R]at o
  cases f:fm P.os v
  ·have E:=ae (b.o.trans (ax (by rw[f];simp)));clear f b;go_wp2_with (go_at_call 28;refine(oo D P C q _ l.o).mono ?_;rintro e U ⟨rfl,B,G⟩)
   have H:=ae B;have K:=ae (K1.o.trans G);clear B G t s u w y;go_wp2
   go_end0
   exact⟨R,i.o _ _ H.o K.o E.o⟩
  ·have E:=ae (b.o.trans (aD f));clear f b;go_wp2
   (try simp only[gV,Exit.then]);refine bj (gW R _ _ _) R ?_
   exact⟨R,i.o _ _ (l.o.jA 5) (K1.o.trans (l.o.gZ 10 _)) E.o⟩
 ·have d0:(v.k==0)=F:=by simp;omega
  have d1:(v.k==1)=F:=by simp;omega
  have M:(v.k==2)=F:=by simp;omega
  have E:=ae (((A.o.trans (ax (by omega))).trans (ax (by omega))).trans (ax (by omega)));clear A k L cb fb;go_wp2_with (go_at_call 28;refine(oo D P C q _ m.o).mono ?_;rintro e U ⟨rfl,B,G⟩)
  have H:=ae B;have K:=ae (Q.o.trans G);clear B G t s u w y;go_wp2
  go_end0
  exact⟨R,i.o _ _ H.o K.o E.o⟩
theorem bE.mQ{P:ex}(h:bE D P C q W)(i:ah q.bM=32):∃g cap a,P.vr=ak (S ⟨g,0,N⟩) 32 cap/\aq W ⟨P.b,1,N⟩=S (ak (S ⟨g,0,N⟩) 32 cap)/\aA W g a 44/\g<W.heap.size /\
  ∀j,j<32->aq W ⟨g,j*5,N⟩=S (I J (bU q j).k)/\aq W ⟨g,j*5+1,N⟩=S (I J (bU q j).n)/\aq W ⟨g,j*5+2,N⟩=S (I J (bU q j).part)/\aq W ⟨g,j*5+3,N⟩=S (I J (bU q j).au)/\aq W ⟨g,j*5+4,N⟩=S (I J (bU q j).off):=by
 obtain⟨g,cap,a,d,-,f,-,c,b⟩:=h.rowAt 0 (v:=P.vr) (l:=q.bM) R R (by omega);rw[i]at d;refine⟨g,cap,a,d,?_,f,c,λj k=>?_⟩
 ·have:=h.cells 1
  rw[show (iI P C q)[1]?=S P.vr from R,d]at this;exact this
 ·have e:bU q j=q.bM[j]'(by omega):=by
   unfold bU;rw[Int.toNat_natCast,bQ,bW (by omega)];rfl
  rw[e];exact b j (by omega)
theorem bE.D4{a:av}{P:ex}(h:bE D P C q W)(b:az W a C.ownBlock):aA a P.b (iI P C q).toArray 47 :=
 h.aO.grown b (λe=>mR h.o e.symm h.aO (by decide))
def vc(D:av)(P:ex)(q:bJ)(W W':av):Prop:=(∃C,bE D P C q W')/\yv P W W'
theorem aeZ(D:av)(P:ex)(C:aC)(q:bJ)(W:av)(h:bE D P C q W)(hG:qF P.os q)(hi:ah P.ins<=16):
  Calls prog 63 #[aM (S ⟨P.b,0,N⟩)] W λe b=>e=aH (aZ #[])/\vc D P (nz P.ins q) W b:=by
 obtain⟨i0,hi0,hz0,hz1,hz2⟩:=info_parts Tryz.pR;obtain⟨g,cap,cur,NJ,m,hb,hlt,f⟩:=h.mQ hG.rl;obtain⟨j,p,s,A,G⟩:=f 17 (by omega);obtain⟨n,t,w,x,y⟩:=f 10 (by omega);have cn:=(hG.mQ (r:=10) (by omega) (by omega)).n;have hr:bU q ((17:M):Z)=bU q 17:=R;have hs':bU q ((10:M):Z)=bU q 10:=R;rw[hr]at j p s A G;rw[hs']at n t w x y;simp only[Nat.reduceMul,Nat.reduceAdd]at j p s A G n t w x y;have l:=ae (show nz P.ins q=if (bU q 17).k≠0 then iz q
  else if (bU q 17).n=0 then {q with aU:=if (bU q 10).k≠0 then -1 else 1,ret:=cK (bU q 10).n}
  else if (bU q 17).n=1 then (if (ah q.o)<16 then (if (bU q 10).k≠0 then iz q else {q with o:=q.o++[cK (bU q 10).n]})else {q with aU:=6})
  else if (bU q 17).n=2 then (if q.read<(ah P.ins)then {q with bM:=q.bM.set 10 (dv (P.ins.getD q.read 0)),read:=q.read+1} else {q with aU:=6})
  else {q with aU:=6} from R)
 generalize nz P.ins q=RR at *;generalize bU q 17=a at *;generalize bU q 10=c at *;have cS:=ae (λW=>Ko c.n W cn.1 cn.2);obtain⟨H,Q,i⟩:=Cc W #[I J a.k,I J a.n,I J a.part,I J a.au,I J a.off] #[I J c.k,I J c.n,I J c.part,I J c.au,I J c.off] 44 44;have iF:=ae H;have BY:=ae Q;have b:=ae (h.grown i);have B:=ae (yv.grown (P:=P) i);have sH:=ae (h.fresh h.rL (X:=W.heap.size) (bz _));have El:=ae (h.fresh h.rL (X:=W.heap.size+1) (by omega));have HG:=ae hG;have qv:=ae NJ;have hbl:=h.aO.lt;clear h hG H Q i hb f NJ
 go_enter func63,ntmps63
 go_upto_region 2 with fail
 generalize (W.alloc (.cells #[I J a.k,I J a.n,I J a.part,I J a.au,I J a.off] 44)).alloc (.cells #[I J c.k,I J c.n,I J c.part,I J c.au,I J c.off] 44)=V at *;generalize f:W.heap.size+1=Y at *;generalize i:W.heap.size=X at iF sH ⊢ f;clear f i m j p s A G n t w x y;obtain⟨x0,x1,x2,x3,x4⟩:=dS iF.o;obtain⟨y,y1,y2,y3,y4⟩:=dS BY.o;have f:Hd (∀U w b,bE D P w b U->yv P W U->RR=b->vc D P RR W U):=λU w b h k e=>⟨⟨w,by rw[e];exact h⟩,k⟩
 have m:=b.o.cells 10;have n:=b.o.free 10;rw[show (iI P C q)[10]?=S (I J q.aU)from R]at m;by_cases i:a.k=0
 rotate_left
 ·have d0:(a.k==0)=F:=by simpa using i
  have d1:(a.k != 0)=T:=by simpa using i
  have E:=ae (l.o.trans (aD i));clear i l;go_wp2_with (go_at_call 28;refine(oo D P C q _ b.o).mono ?_;rintro e U ⟨rfl,j,w⟩)
  have H:=ae j;have Q:=ae (B.o.trans w);clear j w x0 x1 x2 x3 x4 y y1 y2 y3 y4 m n;go_wp2
  (try simp only[gV,Exit.then]);refine bj (gW R _ _ _) R ?_
  exact⟨R,f.o _ _ _ H.o Q.o E.o⟩
 have d0:(a.k==0)=T:=by simpa using i
 have d1:(a.k != 0)=F:=by simpa using i
 have G:=ae (l.o.trans (ax (by omega)));clear i l;by_cases x:a.n=0
 ·have e0:(a.n==0)=T:=by simpa using x
  have s:=ae (G.o.trans (aD x));clear G x
  go_upto_region 7 with fail
  have j:=ae (b.o.jA 1);have A:=ae (B.o.trans (b.o.gZ 10 (I J 1)));have w:=ae (b.o.gZ 10 (I J 1) Y _ _ BY.o (by decide) (by decide) El.o);clear x0 x1 x2 x3 x4 y y1 y2 y3 y4 m n;generalize aK V ⟨P.b,10,N⟩ (I J 1)=l at *;obtain⟨y,y1,y2,y3,y4⟩:=dS w.o;have i:=j.o.cells 11;have p:=j.o.free 11;rw[show (iI P C {q with aU:=1})[11]?=S (I J q.ret)from R]at i
  go_upto_region 8 with (go_at_call 101;refine(cS.o _).mono ?_;rintro e t ⟨rfl,rfl⟩)
  have H:=ae (j.o.Wu (cK c.n));have Q:=ae (A.o.trans (j.o.gZ 11 (I J (cK c.n))));have Ip:=ae (j.o.gZ 11 (I J (cK c.n)) Y _ _ w.o (by decide) (by decide) El.o);clear y y1 y2 y3 y4 i p j A w;generalize aK t ⟨P.b,11,N⟩ (I J (cK c.n))=ke at *;have y:=(dS Ip.o).1;by_cases i:c.k=0
  ·have d2:(c.k==0)=T:=by simpa using i
   have d3:(c.k != 0)=F:=by simpa using i
   have E:=ae (show RR={q with aU:=1,ret:=cK c.n} by rw[s.o,ax (by omega)]);clear i s;go_wp2
   (try simp only[gV,Exit.then]);refine bj (gW R _ _ _) R ?_
   exact⟨R,f.o _ _ _ H.o Q.o E.o⟩
  ·have d2:(c.k==0)=F:=by simpa using i
   have d3:(c.k != 0)=T:=by simpa using i
   have E:=ae (show RR={q with aU:=-1,ret:=cK c.n} by rw[s.o,aD i]);clear i s;go_wp2_with (go_at_call 28;refine(oo D P C _ _ H.o).mono ?_;rintro e U ⟨rfl,j,w⟩)
   have p:=ae j;have A:=ae (Q.o.trans w);clear j w y;go_wp2
   (try simp only[gV,Exit.then]);refine bj (gW R _ _ _) R ?_
   exact⟨R,f.o _ _ _ p.o A.o E.o⟩
 have e0:(a.n==0)=F:=by simpa using x
 have s:=ae (G.o.trans (ax x));clear G;by_cases G:a.n=1
 ·have e1:(a.n==1)=T:=by simpa using G
  have i:=ae (s.o.trans (aD G));clear s G x;obtain⟨H,Q,yj⟩:=yi b.o.o;subst yj;have c12:=b.o.cells 12;rw[show (iI P (ak H (ah q.o) Q) q)[12]?=S (ak H (ah q.o) Q)from R]at c12;by_cases ol:ah q.o<16
  rotate_left
  ·have d:decide ((ah q.o:Z)<16)=F:=by simp;omega
   have E:=ae (i.o.trans (ax ol));clear i ol;go_wp2
   go_end0
   exact⟨R,f.o _ _ _ (b.o.jA 6) (B.o.trans (b.o.gZ 10 _)) E.o⟩
  have d:decide ((ah q.o:Z)<16)=T:=by simp;omega
  have t:=ae (i.o.trans (aD ol));clear i;by_cases i:c.k=0
  rotate_left
  ·have d2:(c.k==0)=F:=by simpa using i
   have d3:(c.k != 0)=T:=by simpa using i
   have E:=ae (t.o.trans (aD i));clear i t;go_wp2_with (go_at_call 28;refine(oo D P _ _ _ b.o).mono ?_;rintro e U ⟨rfl,j,w⟩)
   have p:=ae j;have A:=ae (B.o.trans w);clear j w;go_wp2
   (try simp only[gV,Exit.then]);refine bj (gW R _ _ _) R ?_
   exact⟨R,f.o _ _ _ p.o A.o E.o⟩
  have d2:(c.k==0)=T:=by simpa using i
  have d3:(c.k != 0)=F:=by simpa using i
  have E:=ae (t.o.trans (ax (by omega)));clear i t
  go_upto_region 15 with (go_at_call 101;refine(cS.o _).mono ?_;rintro e t ⟨rfl,rfl⟩)
  have j:=ae (b.o.grown (aG t (.cells #[I J (cK c.n)] 3) N));have A:=ae (B.o.trans (yv.grown (aG t (.cells #[I J (cK c.n)] 3) N)));have hcap:=kF b.o.o;have hsz:=b.o.gr.size;have HO:=ae j.o.o;go_wp2_with (at_builtin;refine Dg _ R _ _ 23 rfl D.heap.size 3 i0 (I J 0) 1 8 underlying23 hi0 hz0 hz1 hz2 R (by decide) _ _ _ R HO.o ⟨t.heap.size,0,N⟩ 1 1 [I J (cK c.n)] rfl rfl (cell_one_new _ _ _) (by intro u i;simp at i;subst i;rfl) (by unfold maxLen;omega) (by omega) (by simp;omega) ?_;intro w w3 l i p;obtain⟨gR,cv',rfl⟩:=yi l;have KB:=j.o.D4 i;have f12:=KB.free 12;have k12:=(KB.cell 12).trans bI;rw[show (iI P (ak H (ah q.o) Q) q)[12]?=S (ak H (ah q.o) Q)from R]at k12;have K:=ae (j.o.Mj (cK c.n) l i);clear i l KB p)
  go_wp2
  (try simp only[gV,Exit.then]);refine bj (gW R _ _ _) R ?_
  exact⟨R,f.o _ _ _ K.o.1 (A.o.trans K.o.2) E.o⟩
 have e1:(a.n==1)=F:=by simpa using G
 have i:=ae (s.o.trans (ax G));clear s;by_cases j:a.n=2
 rotate_left
 ·have e2:(a.n==2)=F:=by simpa using j
  have E:=ae (i.o.trans (ax j));clear i x G j;go_wp2
  go_end0
  exact⟨R,f.o _ _ _ (b.o.jA 6) (B.o.trans (b.o.gZ 10 _)) E.o⟩
 have e2:(a.n==2)=T:=by simpa using j
 have t:=ae (i.o.trans (aD j));clear i x G j;have s:aq V ⟨P.b,13,N⟩=S (I J q.read):=b.o.cells 13;have c9:aq V ⟨P.b,9,N⟩=S (ak P.ai (ah P.ins) P.ci):=b.o.cells 9;by_cases G:q.read<ah P.ins
 rotate_left
 ·have d:decide ((q.read:Z)<(ah P.ins:Z))=F:=by simp;omega
  have E:=ae (t.o.trans (ax G));clear t
  go_upto_region 17 with fail
  go_quiet (fail)
  have j:=ae (b.o.grown (ye (aW _ N) nq));have A:=ae (B.o.trans (yv.grown (ye (aW _ N) nq)));clear x0 x1 x2 x3 x4 y y1 y2 y3 y4 m n s c9;generalize V.drewN nq=l at *;have m:=j.o.cells 10;have n:=j.o.free 10;rw[show (iI P C q)[10]?=S (I J q.aU)from R]at m;go_wp2
  go_end0
  exact⟨R,f.o _ _ _ (j.o.jA 6) (A.o.trans (j.o.gZ 10 _)) E.o⟩
 have d:decide ((q.read:Z)<(ah P.ins:Z))=T:=by simp;omega
 have E:=ae (t.o.trans (aD G));clear t;obtain⟨sg,off,j,l⟩:=b.o.ins.kept (λa v e=>yd e b.o.gr) (by omega);have i:=l q.read G;have p:P.ins.getD q.read 0=P.ins[q.read]'G:=by rw[bQ,bW G];rfl
 rw[p]at E;have CN:=ae (λU=>xe (P.ins[q.read]'G) U);generalize P.ins[q.read]'G=z at *;rw[j]at c9;have hz:(q.read:Z)<(ah P.ins:Z):=by omega
 clear l p j
 go_upto_region 17 with fail
 go_quiet (fail)
 have l:=ae (ye (aW V N) nq);have j:=ae (b.o.grown l.o);have A:=ae (B.o.trans (yv.grown l.o));have NY:=yd s l.o;have c9':=yd c9 l.o;have Qf:=yd i l.o;clear x0 x1 x2 x3 x4 y y1 y2 y3 y4 m n s c9 i l;generalize V.drewN nq=l at *;obtain⟨g2,cap2,ahU,hv2,m,p,hlt2,N9⟩:=j.o.mQ HG.o.rl;have s:aq l.drew ⟨P.b,13,N⟩=S (I J q.read):=NY;have c9:aq l.drew ⟨P.b,9,N⟩=S (ak (S ⟨sg,off,N⟩) (ah P.ins) P.ci):=c9';have i:aq l.drew ⟨sg,off+q.read,N⟩=S (I J z):=Qf;have c1':aq l.drew ⟨P.b,1,N⟩=S (ak (S ⟨g2,0,N⟩) 32 cap2):=m
 obtain⟨n,t,w,x,y⟩:=N9 10 (by omega);simp only[Nat.reduceMul,Nat.reduceAdd]at n t w x y;have H:=ae (j.o.grown (ye (aW l N) 1));have Q:=ae (A.o.trans (yv.grown (ye (aW l N) 1)));have NX:=ae (λU (m:az l.drew U N)=>(show bE D P C {q with bM:=q.bM.set 10 (dv z)} (kC U g2 50 (dv z))/\yv P W (kC U g2 50 (dv z)) by
  have:=(H.o.grown m).MT 10 (dv z) hv2 (by rw[HG.o.rl];omega) ((p.drewN 1).grown m (by simp))
  exact⟨this.1,(Q.o.trans (yv.grown m)).trans this.2⟩))
 have Ug:=ae (λU (m:az l.drew U N)=>(p.drewN 1).grown m (by simp));have DO:=ae (And.intro n (And.intro t (And.intro w (And.intro x y))));clear NY c9' Qf m N9 n t w x y p;unfold bq at CN
 go_upto_region 18 with fail
 go_region_with (go_at_call 22;refine(CN.o _).mono ?_;rintro e U ⟨rfl,m⟩;have YV:=yd c1' m;have n:=yd (yd DO.o.1 (ye (aW l N) 1)) m;have t:=yd (yd DO.o.2.1 (ye (aW l N) 1)) m;have w:=yd (yd DO.o.2.2.1 (ye (aW l N) 1)) m;have x:=yd (yd DO.o.2.2.2.1 (ye (aW l N) 1)) m;have y:=yd (yd DO.o.2.2.2.2 (ye (aW l N) 1)) m;have aj:=Ug.o U m;have f0:=aj.free 50;have f1:=aj.free 51;have f2:=aj.free 52;have f3:=aj.free 53;have f4:=aj.free 54;have p:=ae (NX.o U m);clear m aj)
 all_goals
  have Ys:(kC U g2 50 (dv z)).cell? ⟨P.b,13,N⟩=S (I J q.read):=p.o.1.cells 13;have m:=p.o.1.free 13;clear n t w x y f0 f1 f2 f3 f4 YV;unfold kC at Ys m p;generalize aK _ _ _=kz at *;go_wp2
  (try simp only[gV,Exit.then]);refine bj (gW R _ _ _) R ?_
  exact⟨R,f.o _ _ _ (p.o.1.LZ (q.read+1)) (p.o.2.trans (p.o.1.gZ 13 _)) E.o⟩
def lu(P:ex)(W:av)(X:M)(cs:dJ aC):Prop:=∃t,t≠47/\t≠3/\aA W X cs t/\∀v∈P.vs,v.ownBlock≠S X
section
variable{D W b V:av}{P:ex}{C:aC}{q:bJ}{X:M}{a:dJ aC}
theorem lu.gQ(h:lu P W X a)(k:yv P W b):lu P b X a:=by
 obtain⟨t,c,d,f,e⟩:=h;exact⟨t,c,d,k X a t f c d e,e⟩
theorem lu.grown(h:lu P W X a)(g:az W b N):lu P b X a:=h.gQ (yv.grown g)
theorem lu.lt(h:lu P W X a):X<W.heap.size:=by
 obtain⟨t,-,-,c,-⟩:=h;exact c.lt
theorem bE.loc(h:bE D P C q W){t:dm}(e:W.heap.size<=X)(f:aA V X a t)(c:t≠47)(d:t≠3):lu P V X a:=⟨t,c,d,f,h.fresh h.rL e⟩
theorem lu.cells(h:lu P W X a)(i:M):aq W ⟨X,i,N⟩=a[i]?:=by
 obtain⟨t,-,-,c,-⟩:=h;exact c.cell i
theorem lu.val(h:lu P W X #[O,a1,a2,a3,a4]):aq W ⟨X,0,N⟩=S O/\aq W ⟨X,1,N⟩=S a1/\aq W ⟨X,2,N⟩=S a2/\aq W ⟨X,3,N⟩=S a3/\aq W ⟨X,4,N⟩=S a4:=⟨h.cells 0,h.cells 1,h.cells 2,h.cells 3,h.cells 4⟩
theorem lu.ins{c:aC}(h:lu P W X #[O,a1,a2,a3,a4,c]):aq W ⟨X,0,N⟩=S O/\aq W ⟨X,1,N⟩=S a1/\aq W ⟨X,2,N⟩=S a2/\aq W ⟨X,3,N⟩=S a3/\aq W ⟨X,4,N⟩=S a4/\aq W ⟨X,5,N⟩=S c:=⟨h.cells 0,h.cells 1,h.cells 2,h.cells 3,h.cells 4,h.cells 5⟩
theorem bE.pW(h:bE D P C q W):(aq W ⟨P.b,2,N⟩=S (I J q.pc.k)/\aq W ⟨P.b,3,N⟩=S (I J q.pc.n)/\aq W ⟨P.b,4,N⟩=S (I J q.pc.part)/\aq W ⟨P.b,5,N⟩=S (I J q.pc.au)/\aq W ⟨P.b,6,N⟩=S (I J q.pc.off))/\dx W ⟨P.b,2,N⟩=F/\dx W ⟨P.b,3,N⟩=F/\dx W ⟨P.b,4,N⟩=F/\dx W ⟨P.b,5,N⟩=F/\dx W ⟨P.b,6,N⟩=F :=
 ⟨⟨h.cells 2,h.cells 3,h.cells 4,h.cells 5,h.cells 6⟩,h.free 2,h.free 3,h.free 4,h.free 5,h.free 6⟩
theorem bE.zL(h:bE D P C q W):aq W ⟨P.b,10,N⟩=S (I J q.aU)/\dx W ⟨P.b,10,N⟩=F:=⟨h.cells 10,h.free 10⟩
end
def DS(os:L aF)(op rd eG:Z)(v:bD)(st:bJ):bJ :=
 if op=13 then eB (dI st 8) (dH rd v st)
 else if op=11 then (match kx os v st with
  | .inl x=>eB (dI st 8) (dH rd x st)
  | .inr e=>{st with aU:=e})
 else if op=12 then (if (iH os v (bU st eG) st).aU≠0 then iH os v (bU st eG) st else eB (dI st 8) (iH os v (bU st eG) st))
 else eB (dI st 8) st
theorem abu(D:av)(P:ex)(C:aC)(q:bJ)(f o dF p m fb:Z)(v:bD)(W:av)(h:bE D P C q W)(hG:qF P.os q)(hv:dP P.os v)(BD:0<=o/\o<32)(hr2:0<=p/\p<32):
  Calls prog 66 #[aM (some ⟨P.b,0,N⟩),eT f o dF p m fb,bq v] W λe a=>e=aH (aZ #[])/\vc D P (DS P.os f o p v q) W a:=by
 obtain⟨n,r,a⟩:=Cc W #[I J f,I J o,I J dF,I J p,I J m,.int .u8 fb] #[I J v.k,I J v.n,I J v.part,I J v.au,I J v.off] 120 44;have i:=ae (h.loc (bz _) n (by decide) (by decide));have t:=ae (h.loc (by omega) r (by decide) (by decide));have b:=ae (h.grown a);have s:=ae (yv.grown (P:=P) a);have L:=ae hG;have qv:=ae hv;have j:=ae (AA D P C q 8 _ (h.grown a) hG.pc.off (by omega));have u:=ae (show dI q 8=dI q 8 from R);have K:=ae (show DS P.os f o p v q=if f=13 then eB (dI q 8) (dH o v q)
  else if f=11 then (match kx P.os v q with
   | .inl x=>eB (dI q 8) (dH o x q)
   | .inr e=>{q with aU:=e})
  else if f=12 then (if (iH P.os v (bU q p) q).aU≠0 then iH P.os v (bU q p) q else eB (dI q 8) (iH P.os v (bU q p) q))
  else eB (dI q 8) q from R)
 generalize DS P.os f o p v q=RR at *;generalize l:dI q 8=c at *;clear h hG hv n r a u l;unfold eT bq;unfold bq at j;go_enter func66,ntmps66
 go_upto_region 1 with fail
 generalize (W.alloc (.cells #[I J f,I J o,I J dF,I J p,I J m,.int .u8 fb] 120)).alloc (.cells #[I J v.k,I J v.n,I J v.part,I J v.au,I J v.off] 44)=V at *;generalize W.heap.size+1=Y at *;generalize a:W.heap.size=X at i ⊢;clear a
 go_upto_region 2 with (go_at_call 58;refine j.o.mono ?_;rintro e V1 ⟨rfl,a⟩;have H:=ae a;clear a)
 have a:=aG V1 (.cells #[I J c.k,I J c.n,I J c.part,I J c.au,I J c.off] 44) N;have u:=ae ((b.o.grown H.o).grown a);have LN:=ae ((b.o.grown H.o).loc (bz _) (aA.new V1 #[I J c.k,I J c.n,I J c.part,I J c.au,I J c.off] 44) (by decide) (by decide));have M:=ae (s.o.trans (yv.grown (ya H.o a)));have S:=ae (i.o.grown (ya H.o a));have WB:=ae (t.o.grown (ya H.o a));clear a i t b s j H;generalize V1.alloc (.cells #[I J c.k,I J c.n,I J c.part,I J c.au,I J c.off] 44)=V2 at *
 generalize V1.heap.size=a at *;obtain⟨i0,i1,i2,i3,i4,i5⟩:=S.o.ins;obtain⟨w,z,A,B,G⟩:=WB.o.val;have j:Hd (∀U b a,bE D P b a U->yv P W U->RR=a->vc D P RR W U):=λU b a h k e=>⟨⟨b,by rw[e];exact h⟩,k⟩
 by_cases b:f=13
 ·have d:(f==13)=T:=by simpa using b
  have E:=ae (K.o.trans (aD b));have t:=ae (yS D P C q o v V2 u.o L.o.rl BD);clear K b;unfold bq at t
  go_upto_region 12 with (go_at_call 59;refine t.o.mono ?_;rintro e U ⟨rfl,l,i⟩)
  have n:=ae l;have r:=ae (M.o.trans i);obtain⟨n0,n1,n2,n3,n4⟩:=(LN.o.gQ i).val;obtain⟨⟨p2,p3,p4,p5,p6⟩,f2,f3,f4,f5,f6⟩:=l.pW;clear l i i0 i1 i2 i3 i4 i5 w z A B G;go_wp2
  go_end0
  exact⟨R,j.o _ _ _ (n.o.kO c).1 (r.o.trans (n.o.kO c).2) E.o⟩
 have d:(f==13)=F:=by simpa using b
 have s:=ae (K.o.trans (ax b));clear K b;by_cases K:f=11
 ·have d1:(f==11)=T:=by simpa using K
  have E:=ae (s.o.trans (aD K));have Q:=ae (Sr D P C q v V2 u.o L.o qv.o);clear s K
  cases hr:kx P.os v q with
  |inr t=>
   rw[hr]at Q E;unfold DH bq at Q;clear hr
   go_upto_region 7 with (go_at_call 61;refine Q.o.mono ?_;rintro e U ⟨rfl,l,i⟩)
   have b:=aG U (.cells #[I J v.k,I J v.n,I J v.part,I J v.au,I J v.off] 44) N;have n:=ae (l.grown b);have r:=ae ((M.o.trans i).trans (yv.grown b));clear l i b i0 i1 i2 i3 i4 i5 w z A B G;go_wp2
   (try simp only[gV,Exit.then]);refine bj (gW R _ _ _) R ?_
   exact⟨R,j.o _ _ _ n.o r.o E.o⟩
  |inl x=>
   rw[hr]at Q E;unfold DH bq at Q;clear hr
   go_upto_region 7 with (go_at_call 61;refine Q.o.mono ?_;rintro e U ⟨rfl,l,i⟩)
   have b:=aG U (.cells #[I J x.k,I J x.n,I J x.part,I J x.au,I J x.off] 44) N;have n:=ae (l.grown b);have r:=ae ((M.o.trans i).trans (yv.grown b));have IW:=ae (l.loc (bz _) (aA.new U #[I J x.k,I J x.n,I J x.part,I J x.au,I J x.off] 44) (by decide) (by decide));have Ww:=ae ((LN.o.gQ i).grown b);have Qn:=((S.o.gQ i).grown b).cells 1;clear l i b i0 i1 i2 i3 i4 i5 w z A B G;generalize U.alloc (.cells #[I J x.k,I J x.n,I J x.part,I J x.au,I J x.off] 44)=nB at *
   generalize U.heap.size=b at *;simp only[bI,bB,bL]at Qn;obtain⟨w,z,A,B,G⟩:=IW.o.val;have t:=ae (yS D P C q o x nB n.o L.o.rl BD);unfold bq at t
   go_upto_region 12 with (go_at_call 59;refine t.o.mono ?_;rintro e kz ⟨rfl,h3,k3⟩)
   have H3:=ae h3;have qA:=ae (r.o.trans k3);obtain⟨n0,n1,n2,n3,n4⟩:=(Ww.o.gQ k3).val;obtain⟨⟨p2,p3,p4,p5,p6⟩,f2,f3,f4,f5,f6⟩:=h3.pW;clear h3 k3 Qn w z A B G;go_wp2
   go_end0
   exact⟨R,j.o _ _ _ (H3.o.kO c).1 (qA.o.trans (H3.o.kO c).2) E.o⟩
 have d1:(f==11)=F:=by simpa using K
 have b:=ae (s.o.trans (ax K));clear s K;by_cases i:f=12
 rotate_left
 ·have d2:(f==12)=F:=by simpa using i
  have E:=ae (b.o.trans (ax i));clear b i;obtain⟨n0,n1,n2,n3,n4⟩:=LN.o.val;obtain⟨⟨p2,p3,p4,p5,p6⟩,f2,f3,f4,f5,f6⟩:=u.o.pW;clear w z A B G;go_wp2
  go_end0
  exact⟨R,j.o _ _ _ (u.o.kO c).1 (M.o.trans (u.o.kO c).2) E.o⟩
 have d2:(f==12)=T:=by simpa using i
 have E:=ae (b.o.trans (aD i));clear b i;obtain⟨K,rfl⟩:=eX hr2.1;obtain⟨g,cap,cur,l,c1,n,hlt,i⟩:=u.o.mQ L.o.rl;obtain⟨s0,s1,s2,s3,s4⟩:=i K (by omega);have HD:=ae (u.o.grown (ye (aW V2 N) 1));have Q:=ae (M.o.trans (yv.grown (ye (aW V2 N) 1)));have s:=ae (LN.o.grown (ye (aW V2 N) 1));generalize bU q (K:Z)=y at *;have cS:=ae (RF D P C q v y _ HD.o L.o qv.o);have hj:(K:Z)<32:=hr2.2;generalize iH P.os v y q=b at *;clear i n l;unfold bq at cS
 go_upto_region 10 with fail
 go_region_with (go_at_call 62;refine cS.o.mono ?_;rintro e U ⟨rfl,l,i⟩;have n:=ae l;have r:=ae i;clear l i)
 all_goals
  obtain⟨l,-⟩:=n.o.zL;obtain⟨n0,n1,n2,n3,n4⟩:=(s.o.gQ r.o).val;obtain⟨⟨p2,p3,p4,p5,p6⟩,f2,f3,f4,f5,f6⟩:=n.o.pW;clear c1 s0 s1 s2 s3 s4 i0 i1 i2 i3 i4 i5 w z A B G;by_cases t:b.aU=0
  ·have d3:(b.aU==0)=T:=by simpa using t
   have d4:(b.aU != 0)=F:=by simpa using t
   have i:=ae (E.o.trans (ax (by omega)));clear t E;go_wp2
   go_end0
   exact⟨R,j.o _ _ _ (n.o.kO c).1 ((Q.o.trans r.o).trans (n.o.kO c).2) i.o⟩
  ·have d3:(b.aU==0)=F:=by simpa using t
   have d4:(b.aU != 0)=T:=by simpa using t
   have i:=ae (E.o.trans (aD t));clear t E;go_wp2
   (try simp only[gV,Exit.then]);refine bj (gW R _ _ _) R ?_
   exact⟨R,j.o _ _ _ n.o (Q.o.trans r.o) i.o⟩
theorem So(g:Int)(a b:bD)(w:av)(ho:13<=g/\g<=24)(ha:0<=a.n/\a.n<4294967296)(hb:0<=b.n/\b.n<4294967296)(hao:-17179869184<=a.off/\a.off<=17179869184)(ZM:-17179869184<=b.off/\b.off<=17179869184):
  Calls prog 65 #[I J g,bq a,bq b] w λe d=>e=aH (bq (tT g a b))/\az w d N:=by
 have sa:=FM ha.1 ha.2;have sb:=FM hb.1 hb.2;have cD:=ae (λW=>aeq g a.n b.n W ha.1 ha.2 hb.1 hb.2 ho);have cN:=ae (λW=>xe (bn (jw g a.n b.n)) W);have cM:=ae (λW=>xe (a.off-b.off) W);have oZ:=ae (λW=>Ko b.n W hb.1 hb.2);have oY:=ae (λW=>Ko a.n W ha.1 ha.2);have Qd:=ae (λW=>F6 a (cK b.n) W hao (by omega) ha);have ux:=ae (λW=>F6 b (cK a.n) W ZM (by omega) hb);have YZ:=ae (λW=>F6 a (-(cK b.n)) W hao (by omega) ha);have U:=ae (show tT g a b=if a.k=0/\b.k=0 then dv (bn (jw g a.n b.n))else if (g=18\/g=13)/\b.k=0 then fB a (cK b.n)else if g=18/\a.k=0 then fB b (cK a.n)else if g=19/\b.k=0 then fB a (-(cK b.n))else if g=19/\a.k=1/\b.k=1/\a.part=b.part/\a.au=b.au then dv (a.off-b.off)else bV from R)
 have w1:J.wrap (-(cK b.n)) = -(cK b.n):=dD _ ⟨by omega,by omega⟩;have w2:J.wrap (a.off-b.off)=a.off-b.off:=dD _ ⟨by omega,by omega⟩;generalize tT g a b=rr at *;generalize dv (bn (jw g a.n b.n))=r1 at *;generalize dv (a.off-b.off)=r5 at *;generalize fB a (cK b.n)=r2 at *;generalize fB b (cK a.n)=r3 at *;generalize fB a (-(cK b.n))=r4 at *;generalize bn (jw g a.n b.n)=gv at *;obtain⟨M,an,ap,rW,ao⟩:=a;obtain⟨Z,Bx,bp,vy,bo⟩:=b;dsimp only at *;unfold bq;dsimp only;have d:(w.alloc (.cells #[I J M,I J an,I J ap,I J rW,I J ao] 44)).heap.size=w.heap.size+1:=js _
 have f:((w.alloc (.cells #[I J M,I J an,I J ap,I J rW,I J ao] 44)).alloc (.cells #[I J Z,I J Bx,I J bp,I J vy,I J bo] 44)).heap.size=w.heap.size+1+1:=by rw[show ∀(V:av) o,(V.alloc o).heap.size=V.heap.size+1 from λV o=>js _,d]
 have p:=aA.new w #[I J M,I J an,I J ap,I J rW,I J ao] 44;have l:=aA.new (w.alloc (.cells #[I J M,I J an,I J ap,I J rW,I J ao] 44)) #[I J Z,I J Bx,I J bp,I J vy,I J bo] 44;have m:=aA.new ((w.alloc (.cells #[I J M,I J an,I J ap,I J rW,I J ao] 44)).alloc (.cells #[I J Z,I J Bx,I J bp,I J vy,I J bo] 44)) #[I J 0,I J 0,I J 0,I J 0,I J 0] 44;have n:=aG w (.cells #[I J M,I J an,I J ap,I J rW,I J ao] 44) N
 have k:=aG (w.alloc (.cells #[I J M,I J an,I J ap,I J rW,I J ao] 44)) (.cells #[I J Z,I J Bx,I J bp,I J vy,I J bo] 44) N;have j:=aG ((w.alloc (.cells #[I J M,I J an,I J ap,I J rW,I J ao] 44)).alloc (.cells #[I J Z,I J Bx,I J bp,I J vy,I J bo] 44)) (.cells #[I J 0,I J 0,I J 0,I J 0,I J 0] 44) N;rw[d]at l;rw[f]at m;have h:=ae ((p.grown k (by simp)).grown j (by simp));have i:=ae (l.grown j (by simp))
 have iu:=ae m;have G:=ae (ya (ya n k) j);clear p l m n k j d f;go_enter func65,ntmps65
 go_upto_region 1 with fail
 generalize ((w.alloc (.cells #[I J M,I J an,I J ap,I J rW,I J ao] 44)).alloc (.cells #[I J Z,I J Bx,I J bp,I J vy,I J bo] 44)).alloc (.cells #[I J 0,I J 0,I J 0,I J 0,I J 0] 44)=V at *;have f:=ae (show w.heap.size<=w.heap.size+1+1 by omega);generalize k:w.heap.size=X at h i iu f ⊢;generalize l:X+1=Y at h i iu f ⊢;generalize j:Y+1=d at h i iu f ⊢;have HR2:=ae (show w.heap.size<=d by omega);clear k l j f;have n:Hd (∀(p:av) (r:bD),az V p N->∀W,W=(((((aK p ⟨d,0,N⟩ (I J r.k)).setCell ⟨d,1,N⟩ (I J r.n)).setCell ⟨d,2,N⟩ (I J r.part)).setCell ⟨d,3,N⟩ (I J r.au)).setCell ⟨d,4,N⟩ (I J r.off))->(aq W ⟨d,0,N⟩=S (I J r.k)/\aq W ⟨d,1,N⟩=S (I J r.n)/\aq W ⟨d,2,N⟩=S (I J r.part)/\aq W ⟨d,3,N⟩=S (I J r.au)/\aq W ⟨d,4,N⟩=S (I J r.off))/\az w W N):=by
  intro p r f;exact qj (ya G.o f) (iu.o.grown f (by simp)) HR2.o _ _ _ _ _
 have lE:Hd (∀(p:av),az V p N->(aq p ⟨d,0,N⟩=S (I J 0)/\aq p ⟨d,1,N⟩=S (I J 0)/\aq p ⟨d,2,N⟩=S (I J 0)/\aq p ⟨d,3,N⟩=S (I J 0)/\aq p ⟨d,4,N⟩=S (I J 0))/\(dx p ⟨d,0,N⟩=F/\dx p ⟨d,1,N⟩=F/\dx p ⟨d,2,N⟩=F/\dx p ⟨d,3,N⟩=F/\dx p ⟨d,4,N⟩=F)):=by
  intro p f;have b:=iu.o.grown f (by simp);exact⟨⟨b.cell 0,b.cell 1,b.cell 2,b.cell 3,b.cell 4⟩,b.free 0,b.free 1,b.free 2,b.free 3,b.free 4⟩
 have x0:=h.o.cell 0;have x1:=h.o.cell 1;have x2:=h.o.cell 2;have x3:=h.o.cell 3;have x4:=h.o.cell 4;have y0:=i.o.cell 0;have y1:=i.o.cell 1;have y2:=i.o.cell 2;have y3:=i.o.cell 3;have y4:=i.o.cell 4;simp only[bI,bB,bL]at x0 x1 x2 x3 x4 y0 y1 y2 y3 y4;clear h i;by_cases O:M=0
 ·have e1:(M==0)=T:=by simpa using O
  by_cases m:Z=0
  ·have e2:(Z==0)=T:=by simpa using m
   have E:=ae (show rr=r1 by rw[U.o,aD ⟨O,m⟩]);clear U O m;go_wp2_with fail;refine(cD.o _).mono ?_;rintro e wq ⟨rfl,rfl⟩;go_wp2_with fail;refine(cN.o _).mono ?_;rintro e p ⟨rfl,f⟩;have GG:=ae f;clear f x0 x1 x2 x3 x4 y0 y1 y2 y3 y4;unfold bq;obtain⟨⟨z,A,B,H,K⟩,s,t,u,x,y⟩:=lE.o p GG.o;go_wp2;obtain⟨⟨h,i,j,k,l⟩,f⟩:=n.o p r1 GG.o _ R;refine bj (v:=bq r1) ?_ R ⟨by rw[E.o];rfl,f⟩;clear z A B H K s t u x y;generalize aK _ _ _=s at *;simp[results,results65,go_sem,bq,h,i,j,k,l]
  ·have e2:(Z==0)=F:=by simpa using m
   by_cases Q:g=18
   ·have e3:(g==18)=T:=by simpa using Q
    have E:=ae (show rr=r3 by rw[U.o,ax (λc=>m c.2),ax (λc=>m c.2),aD ⟨Q,O⟩]);clear U O m Q;go_wp2_with fail;refine(oZ.o _).mono ?_;rintro e wq ⟨rfl,rfl⟩;go_wp2_with fail;refine(oY.o _).mono ?_;rintro e P ⟨rfl,rfl⟩;go_wp2_with fail;refine(ux.o _).mono ?_;rintro e p ⟨rfl,f⟩;have GG:=ae f;clear f x0 x1 x2 x3 x4 y0 y1 y2 y3 y4;unfold bq;obtain⟨⟨z,A,B,H,K⟩,s,t,u,x,y⟩:=lE.o p GG.o;go_wp2;obtain⟨⟨h,i,j,k,l⟩,f⟩:=n.o p r3 GG.o _ R;refine bj (v:=bq r3) ?_ R ⟨by rw[E.o];rfl,f⟩;clear z A B H K s t u x y;generalize aK _ _ _=s at *
    simp[results,results65,go_sem,bq,h,i,j,k,l]
   ·have e3:(g==18)=F:=by simpa using Q
    by_cases og:g=13
    ·have e4:(g==13)=T:=by simpa using og
     have e5:(g==19)=F:=by simp;omega
     have E:=ae (show rr=bV by rw[U.o,ax (λc=>m c.2),ax (λc=>m c.2),ax (λc=>Q c.1),ax (λc=>m c.2),ax (λc=>by omega)]);clear U O m Q og;go_wp2_with fail;refine(oZ.o _).mono ?_;rintro e wq ⟨rfl,rfl⟩;go_wp2_with fail;refine(oY.o _).mono ?_;rintro e P ⟨rfl,rfl⟩;obtain⟨⟨z,A,B,H,K⟩,s,t,u,x,y⟩:=lE.o _ (aW _ _);go_wp2;obtain⟨⟨h,i,j,k,l⟩,f⟩:=n.o _ ⟨3,0,0,0,0⟩ (aW _ _) _ R;dsimp only at h i j k l f;refine bj (v:=bq bV) ?_ R ⟨by rw[E.o];rfl,f⟩;clear z A B H K s t u x y x0 x1 x2 x3 x4 y0 y1 y2 y3 y4
     generalize aK _ _ _=s at *;simp[results,results65,go_sem,bq,bV,h,i,j,k,l]
    ·have e4:(g==13)=F:=by simpa using og
     by_cases L:g=19
     ·have e5:(g==19)=T:=by simpa using L
      have e6:(M==1)=F:=by simp;omega
      have E:=ae (show rr=bV by rw[U.o,ax (λc=>m c.2),ax (λc=>m c.2),ax (λc=>Q c.1),ax (λc=>m c.2),ax (λc=>by omega)]);clear U O m Q og L;go_wp2_with fail;refine(oZ.o _).mono ?_;rintro e wq ⟨rfl,rfl⟩;go_wp2_with fail;refine(oY.o _).mono ?_;rintro e P ⟨rfl,rfl⟩;obtain⟨⟨z,A,B,H,K⟩,s,t,u,x,y⟩:=lE.o _ (aW _ _);go_wp2;obtain⟨⟨h,i,j,k,l⟩,f⟩:=n.o _ ⟨3,0,0,0,0⟩ (aW _ _) _ R;dsimp only at h i j k l f;refine bj (v:=bq bV) ?_ R ⟨by rw[E.o];rfl,f⟩;clear z A B H K s t u x y x0 x1 x2 x3 x4 y0 y1 y2 y3 y4
      generalize aK _ _ _=s at *;simp[results,results65,go_sem,bq,bV,h,i,j,k,l]
     ·have e5:(g==19)=F:=by simpa using L
      have E:=ae (show rr=bV by rw[U.o,ax (λc=>m c.2),ax (λc=>m c.2),ax (λc=>Q c.1),ax (λc=>m c.2),ax (λc=>L c.1)]);clear U O m Q og L;go_wp2_with fail;refine(oZ.o _).mono ?_;rintro e wq ⟨rfl,rfl⟩;go_wp2_with fail;refine(oY.o _).mono ?_;rintro e P ⟨rfl,rfl⟩;obtain⟨⟨z,A,B,H,K⟩,s,t,u,x,y⟩:=lE.o _ (aW _ _);go_wp2;obtain⟨⟨h,i,j,k,l⟩,f⟩:=n.o _ ⟨3,0,0,0,0⟩ (aW _ _) _ R;dsimp only at h i j k l f;refine bj (v:=bq bV) ?_ R ⟨by rw[E.o];rfl,f⟩;clear z A B H K s t u x y x0 x1 x2 x3 x4 y0 y1 y2 y3 y4
      generalize aK _ _ _=s at *;simp[results,results65,go_sem,bq,bV,h,i,j,k,l]
 ·have e1:(M==0)=F:=by simpa using O
  by_cases m:Z=0
  ·have e2:(Z==0)=T:=by simpa using m
   have e7:(Z==1)=F:=by simp;omega
   by_cases Q:g=18
   ·have e3:(g==18)=T:=by simpa using Q
    have E:=ae (show rr=r2 by rw[U.o,ax (λc=>O c.1),aD ⟨.inl Q,m⟩]);clear U O m Q;go_wp2_with fail;refine(oZ.o _).mono ?_;rintro e wq ⟨rfl,rfl⟩;go_wp2_with fail;refine(oY.o _).mono ?_;rintro e P ⟨rfl,rfl⟩;go_wp2_with fail;refine(Qd.o _).mono ?_;rintro e p ⟨rfl,f⟩;have GG:=ae f;clear f x0 x1 x2 x3 x4 y0 y1 y2 y3 y4;unfold bq;obtain⟨⟨z,A,B,H,K⟩,s,t,u,x,y⟩:=lE.o p GG.o;go_wp2;obtain⟨⟨h,i,j,k,l⟩,f⟩:=n.o p r2 GG.o _ R;refine bj (v:=bq r2) ?_ R ⟨by rw[E.o];rfl,f⟩;clear z A B H K s t u x y;generalize aK _ _ _=s at *
    simp[results,results65,go_sem,bq,h,i,j,k,l]
   ·have e3:(g==18)=F:=by simpa using Q
    by_cases og:g=13
    ·have e4:(g==13)=T:=by simpa using og
     have E:=ae (show rr=r2 by rw[U.o,ax (λc=>O c.1),aD ⟨.inr og,m⟩]);clear U O m Q og;go_wp2_with fail;refine(oZ.o _).mono ?_;rintro e wq ⟨rfl,rfl⟩;go_wp2_with fail;refine(oY.o _).mono ?_;rintro e P ⟨rfl,rfl⟩;go_wp2_with fail;refine(Qd.o _).mono ?_;rintro e p ⟨rfl,f⟩;have GG:=ae f;clear f x0 x1 x2 x3 x4 y0 y1 y2 y3 y4;unfold bq;obtain⟨⟨z,A,B,H,K⟩,s,t,u,x,y⟩:=lE.o p GG.o;go_wp2;obtain⟨⟨h,i,j,k,l⟩,f⟩:=n.o p r2 GG.o _ R;refine bj (v:=bq r2) ?_ R ⟨by rw[E.o];rfl,f⟩;clear z A B H K s t u x y;generalize aK _ _ _=s at *
     simp[results,results65,go_sem,bq,h,i,j,k,l]
    ·have e4:(g==13)=F:=by simpa using og
     by_cases L:g=19
     ·have e5:(g==19)=T:=by simpa using L
      have E:=ae (show rr=r4 by rw[U.o,ax (λc=>O c.1),ax (λc=>by omega),ax (λc=>Q c.1),aD ⟨L,m⟩]);clear U O m Q og L;go_wp2_with fail;refine(oZ.o _).mono ?_;rintro e wq ⟨rfl,rfl⟩;go_wp2_with fail;refine(oY.o _).mono ?_;rintro e P ⟨rfl,rfl⟩;go_wp2_with fail;refine(YZ.o _).mono ?_;rintro e p ⟨rfl,f⟩;have GG:=ae f;clear f x0 x1 x2 x3 x4 y0 y1 y2 y3 y4;unfold bq;obtain⟨⟨z,A,B,H,K⟩,s,t,u,x,y⟩:=lE.o p GG.o;go_wp2;obtain⟨⟨h,i,j,k,l⟩,f⟩:=n.o p r4 GG.o _ R;refine bj (v:=bq r4) ?_ R ⟨by rw[E.o];rfl,f⟩;clear z A B H K s t u x y
      generalize aK _ _ _=s at *;simp[results,results65,go_sem,bq,h,i,j,k,l]
     ·have e5:(g==19)=F:=by simpa using L
      have E:=ae (show rr=bV by rw[U.o,ax (λc=>O c.1),ax (λc=>by omega),ax (λc=>Q c.1),ax (λc=>L c.1),ax (λc=>L c.1)]);clear U O m Q og L;go_wp2_with fail;refine(oZ.o _).mono ?_;rintro e wq ⟨rfl,rfl⟩;go_wp2_with fail;refine(oY.o _).mono ?_;rintro e P ⟨rfl,rfl⟩;obtain⟨⟨z,A,B,H,K⟩,s,t,u,x,y⟩:=lE.o _ (aW _ _);go_wp2;obtain⟨⟨h,i,j,k,l⟩,f⟩:=n.o _ ⟨3,0,0,0,0⟩ (aW _ _) _ R;dsimp only at h i j k l f;refine bj (v:=bq bV) ?_ R ⟨by rw[E.o];rfl,f⟩;clear z A B H K s t u x y x0 x1 x2 x3 x4 y0 y1 y2 y3 y4
      generalize aK _ _ _=s at *;simp[results,results65,go_sem,bq,bV,h,i,j,k,l]
  ·have e2:(Z==0)=F:=by simpa using m
   by_cases L:g=19
   ·have e3:(g==18)=F:=by simp;omega
    have e4:(g==13)=F:=by simp;omega
    have e5:(g==19)=T:=by simpa using L
    by_cases Q:M=1/\Z=1/\ap=bp/\rW=vy
    ·have e6:(M==1)=T:=by simpa using Q.1
     have e7:(Z==1)=T:=by simpa using Q.2.1
     have e8:(ap==bp)=T:=by simpa using Q.2.2.1
     have e9:(rW==vy)=T:=by simpa using Q.2.2.2
     have E:=ae (show rr=r5 by rw[U.o,ax (λc=>O c.1),ax (λc=>m c.2),ax (λc=>O c.2),ax (λc=>m c.2),aD ⟨L,Q⟩]);clear U O m L Q;go_wp2_with fail;refine(oZ.o _).mono ?_;rintro e wq ⟨rfl,rfl⟩;go_wp2_with fail;refine(oY.o _).mono ?_;rintro e P ⟨rfl,rfl⟩;go_wp2_with fail;refine(cM.o _).mono ?_;rintro e p ⟨rfl,f⟩;have GG:=ae f;clear f x0 x1 x2 x3 x4 y0 y1 y2 y3 y4;unfold bq;obtain⟨⟨z,A,B,H,K⟩,s,t,u,x,y⟩:=lE.o p GG.o;go_wp2;obtain⟨⟨h,i,j,k,l⟩,f⟩:=n.o p r5 GG.o _ R;refine bj (v:=bq r5) ?_ R ⟨by rw[E.o];rfl,f⟩;clear z A B H K s t u x y
     generalize aK _ _ _=s at *;simp[results,results65,go_sem,bq,h,i,j,k,l]
    ·have E:=ae (show rr=bV by rw[U.o,ax (λc=>O c.1),ax (λc=>m c.2),ax (λc=>O c.2),ax (λc=>m c.2),ax (λc=>Q c.2)]);clear U O m L;by_cases p:M=1
     ·have e6:(M==1)=T:=by simpa using p
      by_cases s2:Z=1
      ·have e7:(Z==1)=T:=by simpa using s2
       by_cases s3:ap=bp
       ·have e8:(ap==bp)=T:=by simpa using s3
        have e9:(rW==vy)=F:=by simp;exact λc=>Q ⟨p,s2,s3,c⟩
        clear Q p s2 s3;go_wp2_with fail;refine(oZ.o _).mono ?_;rintro e wq ⟨rfl,rfl⟩;go_wp2_with fail;refine(oY.o _).mono ?_;rintro e P ⟨rfl,rfl⟩;obtain⟨⟨z,A,B,H,K⟩,s,t,u,x,y⟩:=lE.o _ (aW _ _);go_wp2;obtain⟨⟨h,i,j,k,l⟩,f⟩:=n.o _ ⟨3,0,0,0,0⟩ (aW _ _) _ R;dsimp only at h i j k l f;refine bj (v:=bq bV) ?_ R ⟨by rw[E.o];rfl,f⟩;clear z A B H K s t u x y x0 x1 x2 x3 x4 y0 y1 y2 y3 y4;generalize aK _ _ _=s at *;simp[results,results65,go_sem,bq,bV,h,i,j,k,l]
       ·have e8:(ap==bp)=F:=by simpa using s3
        clear Q p s2 s3;go_wp2_with fail;refine(oZ.o _).mono ?_;rintro e wq ⟨rfl,rfl⟩;go_wp2_with fail;refine(oY.o _).mono ?_;rintro e P ⟨rfl,rfl⟩;obtain⟨⟨z,A,B,H,K⟩,s,t,u,x,y⟩:=lE.o _ (aW _ _);go_wp2;obtain⟨⟨h,i,j,k,l⟩,f⟩:=n.o _ ⟨3,0,0,0,0⟩ (aW _ _) _ R;dsimp only at h i j k l f;refine bj (v:=bq bV) ?_ R ⟨by rw[E.o];rfl,f⟩;clear z A B H K s t u x y x0 x1 x2 x3 x4 y0 y1 y2 y3 y4;generalize aK _ _ _=s at *;simp[results,results65,go_sem,bq,bV,h,i,j,k,l]
      ·have e7:(Z==1)=F:=by simpa using s2
       clear Q p s2;go_wp2_with fail;refine(oZ.o _).mono ?_;rintro e wq ⟨rfl,rfl⟩;go_wp2_with fail;refine(oY.o _).mono ?_;rintro e P ⟨rfl,rfl⟩;obtain⟨⟨z,A,B,H,K⟩,s,t,u,x,y⟩:=lE.o _ (aW _ _);go_wp2;obtain⟨⟨h,i,j,k,l⟩,f⟩:=n.o _ ⟨3,0,0,0,0⟩ (aW _ _) _ R;dsimp only at h i j k l f;refine bj (v:=bq bV) ?_ R ⟨by rw[E.o];rfl,f⟩;clear z A B H K s t u x y x0 x1 x2 x3 x4 y0 y1 y2 y3 y4;generalize aK _ _ _=s at *;simp[results,results65,go_sem,bq,bV,h,i,j,k,l]
     ·have e6:(M==1)=F:=by simpa using p
      clear Q p;go_wp2_with fail;refine(oZ.o _).mono ?_;rintro e wq ⟨rfl,rfl⟩;go_wp2_with fail;refine(oY.o _).mono ?_;rintro e P ⟨rfl,rfl⟩;obtain⟨⟨z,A,B,H,K⟩,s,t,u,x,y⟩:=lE.o _ (aW _ _);go_wp2;obtain⟨⟨h,i,j,k,l⟩,f⟩:=n.o _ ⟨3,0,0,0,0⟩ (aW _ _) _ R;dsimp only at h i j k l f;refine bj (v:=bq bV) ?_ R ⟨by rw[E.o];rfl,f⟩;clear z A B H K s t u x y x0 x1 x2 x3 x4 y0 y1 y2 y3 y4;generalize aK _ _ _=s at *;simp[results,results65,go_sem,bq,bV,h,i,j,k,l]
   ·have e5:(g==19)=F:=by simpa using L
    have E:=ae (show rr=bV by rw[U.o,ax (λc=>O c.1),ax (λc=>m c.2),ax (λc=>O c.2),ax (λc=>m c.2),ax (λc=>L c.1)]);clear U O m L;by_cases Q:g=18
    ·have e3:(g==18)=T:=by simpa using Q
     clear Q;go_wp2_with fail;refine(oZ.o _).mono ?_;rintro e wq ⟨rfl,rfl⟩;go_wp2_with fail;refine(oY.o _).mono ?_;rintro e P ⟨rfl,rfl⟩;obtain⟨⟨z,A,B,H,K⟩,s,t,u,x,y⟩:=lE.o _ (aW _ _);go_wp2;obtain⟨⟨h,i,j,k,l⟩,f⟩:=n.o _ ⟨3,0,0,0,0⟩ (aW _ _) _ R;dsimp only at h i j k l f;refine bj (v:=bq bV) ?_ R ⟨by rw[E.o];rfl,f⟩;clear z A B H K s t u x y x0 x1 x2 x3 x4 y0 y1 y2 y3 y4;generalize aK _ _ _=s at *;simp[results,results65,go_sem,bq,bV,h,i,j,k,l]
    ·have e3:(g==18)=F:=by simpa using Q
     clear Q;by_cases og:g=13
     ·have e4:(g==13)=T:=by simpa using og
      clear og;go_wp2_with fail;refine(oZ.o _).mono ?_;rintro e wq ⟨rfl,rfl⟩;go_wp2_with fail;refine(oY.o _).mono ?_;rintro e P ⟨rfl,rfl⟩;obtain⟨⟨z,A,B,H,K⟩,s,t,u,x,y⟩:=lE.o _ (aW _ _);go_wp2;obtain⟨⟨h,i,j,k,l⟩,f⟩:=n.o _ ⟨3,0,0,0,0⟩ (aW _ _) _ R;dsimp only at h i j k l f;refine bj (v:=bq bV) ?_ R ⟨by rw[E.o];rfl,f⟩;clear z A B H K s t u x y x0 x1 x2 x3 x4 y0 y1 y2 y3 y4;generalize aK _ _ _=s at *;simp[results,results65,go_sem,bq,bV,h,i,j,k,l]
     ·have e4:(g==13)=F:=by simpa using og
      clear og;go_wp2_with fail;refine(oZ.o _).mono ?_;rintro e wq ⟨rfl,rfl⟩;go_wp2_with fail;refine(oY.o _).mono ?_;rintro e P ⟨rfl,rfl⟩;obtain⟨⟨z,A,B,H,K⟩,s,t,u,x,y⟩:=lE.o _ (aW _ _);go_wp2;obtain⟨⟨h,i,j,k,l⟩,f⟩:=n.o _ ⟨3,0,0,0,0⟩ (aW _ _) _ R;dsimp only at h i j k l f;refine bj (v:=bq bV) ?_ R ⟨by rw[E.o];rfl,f⟩;clear z A B H K s t u x y x0 x1 x2 x3 x4 y0 y1 y2 y3 y4;generalize aK _ _ _=s at *;simp[results,results65,go_sem,bq,bV,h,i,j,k,l]
theorem aho(w:Z):(5<=cz w/\cz w<=10->qS (aP w)=66)/\(13<=cz w/\cz w<=17->qS (aP w)=73)/\(18<=cz w/\cz w<=24->qS (aP w)=82):=by
 unfold aP
 have:∀k,k<26->(5<=k/\k<=10->qS (je.getD k 0)=66)/\(13<=k/\k<=17->qS (je.getD k 0)=73)/\(18<=k/\k<=24->qS (je.getD k 0)=82):=by decide
 exact this _ (by have:=Kg w;omega)
theorem aeN(r:Z)(v:bD)(q:bJ):(dH r v q).aU=q.aU:=by unfold dH;split<;>rfl
theorem bE.Hq{V:av}{P:ex}{R:M}(h:bE D P C q V)(k:yv P W V)(a:aA V R #[O,a1,a2,a3,a4] 44)(c:∀v∈P.vs,v.ownBlock≠S R)(b:W.heap.size<=R)(d:D.heap.size<=W.heap.size)(x:bD):
  bE D P C q (kC V R 0 x)/\yv P W (kC V R 0 x)/\aA (kC V R 0 x) R #[I J x.k,I J x.n,I J x.part,I J x.au,I J x.off] 44/\∀Y a,lu P V Y a->Y≠R->lu P (kC V R 0 x) Y a :=
 ⟨h.aside a c (by omega) (zm V R 0 x),k.aside (zm V R 0 x) b,G5 a _ _ _ _ _,λY a ⟨t,c,d,e,b⟩ f=>⟨t,c,d,e.grown (zm V R 0 x) (by simpa using f),b⟩⟩
theorem ac0(D:av)(P:ex)(C:aC)(q:bJ)(w:Z)(W:av)(h:bE D P C q W)(hG:qF P.os q)(he:q.aU=0)(hi:ah P.ins<=16)(w0:0<=w)(w1:w<=4294967295):
  Calls prog 32 #[aM (S ⟨P.b,0,N⟩),I J w] W λe c=>e=aH (aZ #[])/\vc D P (wB P.os P.ins w q) W c:=by
 have d:=ae (DC w W w0 w1);have ob:=Kg w;obtain⟨fL,sV,fR⟩:=aho w;obtain⟨ZA,ahx⟩:=zo (aP w) w w0 w1;have hr1:=GQ (aP w) w w0 w1;have hr2:=AU (aP w) w w0 w1;have hnm:=SM (aP w) w w0 w1;have o:=ae (show wB P.os P.ins w q=Bs P.os P.ins (cz w) (bF (aP w) w) (bR (aP w) w) (dW (aP w) w) (dO (aP w) w) (aP w) q from R);unfold xt at d;generalize wB P.os P.ins w q=RR at *;generalize bF (aP w) w=rd at *;generalize bR (aP w) w=dF at *;generalize dW (aP w) w=eG at *;generalize dO (aP w) w=nm at *;generalize qS (aP w)=fb at *;generalize aP w=fo at *
 generalize cz w=l at *;obtain⟨r1,rfl⟩:=eX hr1.1;obtain⟨r2,rfl⟩:=eX hr2.1;have hj1:(r1:Z)<32:=hr1.2;have hj2:(r2:Z)<32:=hr2.2;have c:=ae h;have HG:=ae hG;have FIN:Hd (∀U d c,bE D P d c U->yv P W U->RR=c->vc D P RR W U):=λU d c h k e=>⟨⟨d,by rw[e];exact h⟩,k⟩
 clear h hG;unfold eT at d;go_enter func32,ntmps32
 go_upto_region 1 with (go_at_call 57;refine d.o.mono ?_;rintro e V ⟨rfl,g1⟩)
 have f:=aG V (.cells #[I J l,I J rd,I J r1,I J r2,I J nm,.int .u8 fb] 120) N;have i:=ae ((c.o.grown g1).grown f);have m:=ae (yv.grown (P:=P) (ya g1 f));have j:=ae ((c.o.grown g1).loc (bz _) (aA.new V #[I J l,I J rd,I J r1,I J r2,I J nm,.int .u8 fb] 120) (by decide) (by decide));have s:=ae (ya g1 f).size;have Bv:=ae c.o.gr.size;clear g1 f d c;generalize V.alloc (.cells #[I J l,I J rd,I J r1,I J r2,I J nm,.int .u8 fb] 120)=V1 at *;generalize V.heap.size=c at *;by_cases o0:l=0
 ·subst o0;have E:=ae (show RR={q with aU:=3} by rw[o.o];rfl);obtain⟨p,d⟩:=i.o.zL;go_wp2
  (try simp only[gV,Exit.then]);refine bj (gW R _ _ _) R ?_
  exact⟨R,FIN.o _ _ _ (i.o.jA 3) (m.o.trans (i.o.gZ 10 _)) E.o⟩
 obtain⟨g,cap,cur,G,X,H,hlt,d⟩:=i.o.mQ HG.o.rl;obtain⟨O,a1,a2,a3,a4⟩:=d r1 (by omega);have u:=j.o.cells 2;have t:=j.o.cells 3;simp only[bI,bB,bL]at u t;have pQ:=ae (HG.o.mQ (r:=(r1:Z)) (by omega) hj1);have DT:=ae (HG.o.mQ (r:=(r2:Z)) (by omega) hj2);have vk:=ae (show RR=Bs P.os P.ins l rd r1 r2 nm fo q from o.o);obtain⟨b0,b1,b2,b3,b4⟩:=d r2 (by omega);generalize f:bU q (r1:Z)=a at *;generalize p:bU q (r2:Z)=b at *;have HA:=ae f;have HB:=ae p;have dk:decide (l≠0)=T:=by simpa using o0
 clear f p d H G o
 go_upto_region 3 with fail
 go_region_held3 (λd=>aq d ⟨P.b,1,N⟩=S (ak (S ⟨g,0,N⟩) 32 cap)/\aq d ⟨c,2,N⟩=S (I J r1)/\aq d ⟨g,r1*5,N⟩=S (I J a.k)/\aq d ⟨g,r1*5+1,N⟩=S (I J a.n)/\aq d ⟨g,r1*5+2,N⟩=S (I J a.part)/\aq d ⟨g,r1*5+3,N⟩=S (I J a.au)/\aq d ⟨g,r1*5+4,N⟩=S (I J a.off))
  (go_keep)
  (fail)
 have d:=yf (aG V1 (.cells #[I J a.k,I J a.n,I J a.part,I J a.au,I J a.off] 44) N);have f:=ae (i.o.grown d);have Z2:=ae (fV s.o d.size);have K:=ae (m.o.trans (yv.grown d));have p:=ae (j.o.grown d);have o:=ae (i.o.loc (bz _) (mA (aA.new V1 #[I J a.k,I J a.n,I J a.part,I J a.au,I J a.off] 44)) (by decide) (by decide));have G:=yd X d;have H:=yd t d;have b0':=yd b0 d;have b1':=yd b1 d;have b2':=yd b2 d;have b3':=yd b3 d;have JL:=yd b4 d;clear d X u t O a1 a2 a3 a4 b0 b1 b2 b3 b4 i m j s
 generalize (V1.alloc (.cells #[I J a.k,I J a.n,I J a.part,I J a.au,I J a.off] 44)).drew=V2 at *;generalize V1.heap.size=A at *
 go_upto_region 4 with fail
 go_region_held3 (λd=>aq d ⟨P.b,1,N⟩=S (ak (S ⟨g,0,N⟩) 32 cap)/\aq d ⟨c,3,N⟩=S (I J r2)/\aq d ⟨g,r2*5,N⟩=S (I J b.k)/\aq d ⟨g,r2*5+1,N⟩=S (I J b.n)/\aq d ⟨g,r2*5+2,N⟩=S (I J b.part)/\aq d ⟨g,r2*5+3,N⟩=S (I J b.au)/\aq d ⟨g,r2*5+4,N⟩=S (I J b.off))
  (go_keep)
  (fail)
 have d:=yf (aG V2 (.cells #[I J b.k,I J b.n,I J b.part,I J b.au,I J b.off] 44) N);have s:=ae (f.o.grown d);have Z3:=ae (fV Z2.o d.size);have Vl:=ae (f.o.fresh f.o.rL (bz _));have m:=ae (mA (aA.new V2 #[I J b.k,I J b.n,I J b.part,I J b.au,I J b.off] 44));have j:=ae (K.o.trans (yv.grown d));have t:=ae (p.o.grown d);have X:=ae (o.o.grown d);have u:=ae (f.o.loc (bz _) (mA (aA.new V2 #[I J b.k,I J b.n,I J b.part,I J b.au,I J b.off] 44)) (by decide) (by decide))
 clear d G H b0' b1' b2' b3' JL f K;have VW:=ae (show c≠V2.heap.size by have:=p.o.lt;omega);have WU:=ae (show A≠V2.heap.size by have:=o.o.lt;omega);clear o;clear p;generalize (V2.alloc (.cells #[I J b.k,I J b.n,I J b.part,I J b.au,I J b.off] 44)).drew=ke at *;generalize V2.heap.size=B at *;have o:=ae (AA D P C q 4 ke s.o HG.o.pc.off (by omega));generalize d:dI q 4=i at *;have HN:=ae d;clear d;unfold bq at o
 go_upto_region 6 with (go_at_call 58;refine o.o.mono ?_;rintro e gw ⟨rfl,d⟩;have G4:=ae d;clear d)
 have f:=aG gw (.cells #[I J i.k,I J i.n,I J i.part,I J i.au,I J i.off] 44) N;have H4:=ae ((s.o.grown G4.o).grown f);have d:=ya G4.o f;have LH:=ae (fV Z3.o G4.o.size);have vj:=ae ((s.o.grown G4.o).fresh (s.o.grown G4.o).rL (bz _));have zV:=ae (aA.new gw #[I J i.k,I J i.n,I J i.part,I J i.au,I J i.off] 44);have Jz:=ae (m.o.grown d (by simp));have kv:=ae (j.o.trans (yv.grown d));have vw:=ae (t.o.grown d);have Po:=ae (X.o.grown d);have FP:=ae (u.o.grown d);have LN:=ae ((s.o.grown G4.o).loc (bz _) (aA.new gw #[I J i.k,I J i.n,I J i.part,I J i.au,I J i.off] 44) (by decide) (by decide))
 have NB:=ae (show gw.heap.size≠B by have:=m.o.lt;have:=G4.o.size;omega);have WV:=ae (show c≠B/\c≠gw.heap.size by have:=t.o.lt;have:=G4.o.size;exact⟨VW.o,by omega⟩);clear f d G4 o s j t X u m Z3;generalize gw.alloc (.cells #[I J i.k,I J i.n,I J i.part,I J i.au,I J i.off] 44)=fp at *;generalize gw.heap.size=d at *;obtain⟨K,X,u,t,Y,L⟩:=vw.o.ins;obtain⟨O,a1,a2,a3,a4⟩:=Po.o.val;obtain⟨b0,b1,b2,b3,b4⟩:=FP.o.val;obtain⟨n0,n1,G,n3,n4⟩:=LN.o.val
 go_upto_block 0 with fail
 go_cut []from 9 to 165 (λc=>∃v2 f G,bE D P v2 f c/\yv P W c/\lu P c d #[I J G.k,I J G.n,I J G.part,I J G.au,I J G.off]/\RR=lQ G f)
 case first=>
  have f:=ae (λ(x:bD)=>show lu P fp d #[I J i.k,I J i.n,I J i.part,I J i.au,I J i.off]from LN.o);clear f;have YP:=ae (show W.heap.size<=fp.heap.size from fV LH.o (Nat.le_of_lt zV.o.lt));have uj:=ae (λ(x:bD) (f:bJ) (c:f.aU=0)=>show eB x f=lQ x f by unfold lQ;rw[aD c]);have sG:=ae (λ(x:bD)=>(aeN rd x q).trans he);have cP:=ae (λ(x:bD) U (c:bE D P C q U)=>yS D P C q rd x U c HG.o.rl ⟨ZA,ahx⟩);have Fz:=ae (λU=>F6 a nm U pQ.o.off (by omega) pQ.o.n);have sU:=ae (zA pQ.o nm (by omega) (by omega))
  unfold bq at cP Fz;rcases (show l=1\/l=2\/l=3\/l=4\/l=11\/l=12\/l=25\/(5<=l/\l<=10)\/(13<=l/\l<=24) by omega)with rfl|rfl|rfl|rfl|rfl|rfl|rfl|ho|ho
  ·have E:=ae (show RR=lQ i (dH rd (dv (nm*4096)) q) by rw[vk.o,<- HN.o];exact uj.o _ _ (sG.o _));have cN:=ae (λU=>xe (nm*4096) U);unfold bq at cN;generalize dv (nm*4096)=y at *;have sh:J.wrap (nm*4096)=nm*4096:=dD _ ⟨by omega,by omega⟩
   go_upto_region 17 with (go_at_call 22;refine(cN.o _).mono ?_;rintro e U ⟨rfl,f⟩;have p:=ae f;clear f)
   have f:=ya p.o (aG U (.cells #[I J y.k,I J y.n,I J y.part,I J y.au,I J y.off] 44) N);have gJ:=ae (H4.o.grown f);have qB:=ae ((H4.o.grown p.o).loc (bz _) (aA.new U #[I J y.k,I J y.n,I J y.part,I J y.au,I J y.off] 44) (by decide) (by decide));have oh:=ae (vw.o.grown f);have H:=ae (yv.grown (P:=P) f);clear f p K X u t Y L O a1 a2 a3 a4 b0 b1 b2 b3 b4 n0 n1 G n3 n4;generalize U.alloc (.cells #[I J y.k,I J y.n,I J y.part,I J y.au,I J y.off] 44)=nB at *;generalize U.heap.size=f at *
   obtain⟨y0,y1,y2,y3,y4⟩:=qB.o.val;obtain⟨K,X,u,t,Y,L⟩:=oh.o.ins;go_wp2_with (go_at_call 59;refine(cP.o y _ gJ.o).mono ?_;rintro e kz ⟨rfl,m,o⟩;have s:=ae m;have j:=ae (H.o.trans o);clear m o)
   go_meet;exact⟨C,_,i,s.o,kv.o.trans (j.o),LN.o.gQ j.o,E.o⟩
  ·have E:=ae (show RR=lQ i (dH rd bV q) by rw[vk.o,<- HN.o];exact uj.o _ _ (sG.o _));go_wp2_with (go_at_call 59;refine(cP.o bV _ H4.o).mono ?_;rintro e kz ⟨rfl,m,o⟩;have s:=ae m;have j:=ae o;clear m o)
   go_meet;exact⟨C,_,i,s.o,kv.o.trans (j.o),LN.o.gQ j.o,E.o⟩
  ·have E:=ae (show RR=lQ i (iz q) by rw[vk.o];rfl);go_wp2_with (go_at_call 28;refine(oo D P C q _ H4.o).mono ?_;rintro e kz ⟨rfl,m,o⟩;have s:=ae m;have j:=ae o;clear m o)
   go_meet;exact⟨C,_,i,s.o,kv.o.trans (j.o),LN.o.gQ j.o,E.o⟩
  ·have E:=ae (show RR=eB ((λv:bD=>if v.k=0\/v.k=1 then {v with n:=v.n-v.n%2,off:=v.off-v.off%2} else v) (fB (bU q r1) nm)) (dH rd (dI q 4) q) by rw[vk.o];rfl);rw[HA.o,HN.o]at E;generalize fB a nm=y at *
   go_upto_region 24 with (go_at_call 60;refine(Fz.o _).mono ?_;rintro e U ⟨rfl,f⟩;have p:=ae f;clear f)
   have f:=ya p.o (aG U (.cells #[I J y.k,I J y.n,I J y.part,I J y.au,I J y.off] 44) N);have gJ:=ae (H4.o.grown f);have qB:=ae ((H4.o.grown p.o).loc (bz _) (aA.new U #[I J y.k,I J y.n,I J y.part,I J y.au,I J y.off] 44) (by decide) (by decide));have BY:=ae (aA.new U #[I J y.k,I J y.n,I J y.part,I J y.au,I J y.off] 44);have oh:=ae (vw.o.grown f);have JT:=ae (FP.o.grown f);have uq:=ae (LN.o.grown f);have H:=ae (yv.grown (P:=P) f);have qw:=ae (show fp.heap.size<=U.heap.size from p.o.size)
   clear f p K X u t Y L O a1 a2 a3 a4 b0 b1 b2 b3 b4 n0 n1 G n3 n4;generalize U.alloc (.cells #[I J y.k,I J y.n,I J y.part,I J y.au,I J y.off] 44)=nB at *;generalize U.heap.size=f at *;obtain⟨y0,y1,y2,y3,y4⟩:=qB.o.val;obtain⟨K,X,u,t,Y,L⟩:=oh.o.ins;have eR:=KS y.n (by have:=sU.o.n;omega) (by have:=sU.o.n;omega);have aw:=KS y.off (by have:=sU.o.off;omega) (by have:=sU.o.off;omega);have WW:=ae (show f≠d/\f≠c by have:=zV.o.lt;have:=vw.o.lt;have:=qw.o;omega);have Iq:=ae (H4.o.fresh H4.o.rL qw.o);have Pl:=ae (H.o d _ _ zV.o (by decide) (by decide) vj.o)
   by_cases yk:y.k=0\/y.k=1
   ·have dk':(y.k==0)=T\/((y.k==0)=F/\(y.k==1)=T):=by
     simp only[dQ,beq_eq_false_iff_ne];omega
    have E2:=ae (show RR=lQ {y with n:=y.n-y.n%2,off:=y.off-y.off%2} (dH rd i q) by rw[E.o,aD yk];exact uj.o _ _ (sG.o i));have g5:=AJ (bK nB f 1 (I J (y.n-y.n%2))) 4 (I J (y.off-y.off%2));have Iy:=ae (gJ.o.aside BY.o Iq.o (fV Bv.o (fV YP.o qw.o)) g5);have Cs:=ae (H.o.aside g5 qw.o);have BQ:=ae (show aA ((aK nB ⟨f,1,N⟩ (I J (y.n-y.n%2))).setCell ⟨f,4,N⟩ (I J (y.off-y.off%2))) f #[I J y.k,I J (y.n-y.n%2),I J y.part,I J y.au,I J (y.off-y.off%2)] 44 by simpa using (BY.o.set 1 (I J (y.n-y.n%2))).set 4 (I J (y.off-y.off%2)))
    have JA:=ae (Pl.o.grown g5 (by have:=WW.o.1;simp;omega));have CE:=ae (LN.o.gQ Cs.o);have JU:=ae (vw.o.gQ Cs.o);have e1:=BY.o.free 1;have e4:=BY.o.free 4;rcases dk' with dk1|⟨dk1,dk2⟩
    all_goals
     clear g5
     go_upto_region 27 with fail
     clear y0 y1 y2 y3 y4 K X u t Y L e1 e4;generalize (aK nB ⟨f,1,N⟩ (I J (y.n-y.n%2))).setCell ⟨f,4,N⟩ (I J (y.off-y.off%2))=Jy at *;have n0:=(CE.o.val).1;obtain⟨n0,n1,G,n3,n4⟩:=CE.o.val;obtain⟨K,X,u,t,Y,L⟩:=JU.o.ins;obtain⟨y0,y1,y2,y3,y4⟩:=dS BQ.o
     go_upto_region 28 with (go_at_call 59;refine(cP.o i _ Iy.o).mono ?_;rintro e kz ⟨rfl,m,o⟩;have s:=ae m;have j:=ae o;clear m o)
     have o:=ae (j.o f _ _ BQ.o (by decide) (by decide) Iq.o);have m:=ae (j.o d _ _ JA.o (by decide) (by decide) vj.o);have Q:=ae (s.o.Hq ((kv.o.trans Cs.o).trans j.o) m.o vj.o LH.o Bv.o ⟨y.k,y.n-y.n%2,y.part,y.au,y.off-y.off%2⟩);clear n0 n1 G n3 n4 y0 y1 y2 y3 y4 K X u t Y L;obtain⟨y0,y1,y2,y3,y4⟩:=dS o.o;obtain⟨n0,n1,G,n3,n4⟩:=dS m.o;obtain⟨f0,f1,f2,f3,f4⟩:=qc m.o;go_wp2_with fail;go_meet;exact⟨C,_,⟨y.k,y.n-y.n%2,y.part,y.au,y.off-y.off%2⟩,Q.o.1,Q.o.2.1,⟨44,by decide,by decide,Q.o.2.2.1,vj.o⟩,E2.o⟩
   ·have dk1:(y.k==0)=F:=by simp;omega
    have dk2:(y.k==1)=F:=by simp;omega
    have E2:=ae (show RR=lQ y (dH rd i q) by rw[E.o,ax yk];exact uj.o _ _ (sG.o i));have Iy:=ae gJ.o;have Cs:=ae H.o;have BQ:=ae BY.o;have JA:=ae Pl.o;have CE:=ae uq.o;have JU:=ae oh.o;clear y1 y2 y3 y4 K X u t Y L
    go_upto_region 27 with fail
    have n0:=(CE.o.val).1;obtain⟨n0,n1,G,n3,n4⟩:=CE.o.val;obtain⟨K,X,u,t,Y,L⟩:=JU.o.ins;obtain⟨y0,y1,y2,y3,y4⟩:=dS BQ.o
    go_upto_region 28 with (go_at_call 59;refine(cP.o i _ Iy.o).mono ?_;rintro e kz ⟨rfl,m,o⟩;have s:=ae m;have j:=ae o;clear m o)
    have o:=ae (j.o f _ _ BQ.o (by decide) (by decide) Iq.o);have m:=ae (j.o d _ _ JA.o (by decide) (by decide) vj.o);have Q:=ae (s.o.Hq ((kv.o.trans Cs.o).trans j.o) m.o vj.o LH.o Bv.o y);clear n0 n1 G n3 n4 y0 y1 y2 y3 y4 K X u t Y L;obtain⟨y0,y1,y2,y3,y4⟩:=dS o.o;obtain⟨n0,n1,G,n3,n4⟩:=dS m.o;obtain⟨f0,f1,f2,f3,f4⟩:=qc m.o;go_wp2_with fail;go_meet;exact⟨C,_,y,Q.o.1,Q.o.2.1,⟨44,by decide,by decide,Q.o.2.2.1,vj.o⟩,E2.o⟩
  ·have E:=ae (show RR=(match kx P.os (fB (bU q r1) nm) q with
    | .inl x=>eB (dI q 4) (dH rd x q)
    | .inr e=>{q with aU:=e}) by rw[vk.o];rfl)
   rw[HA.o,HN.o]at E;generalize fB a nm=y at *
   go_upto_region 31 with (go_at_call 60;refine(Fz.o _).mono ?_;rintro e U ⟨rfl,f⟩;have p:=ae f;clear f)
   have f:=ya p.o (aG U (.cells #[I J y.k,I J y.n,I J y.part,I J y.au,I J y.off] 44) N);have gJ:=ae (H4.o.grown f);have qB:=ae ((H4.o.grown p.o).loc (bz _) (aA.new U #[I J y.k,I J y.n,I J y.part,I J y.au,I J y.off] 44) (by decide) (by decide));have BY:=ae (aA.new U #[I J y.k,I J y.n,I J y.part,I J y.au,I J y.off] 44);have oh:=ae (vw.o.grown f);have JT:=ae (FP.o.grown f);have uq:=ae (LN.o.grown f);have H:=ae (yv.grown (P:=P) f);have qw:=ae (show fp.heap.size<=U.heap.size from p.o.size)
   clear f p K X u t Y L O a1 a2 a3 a4 b0 b1 b2 b3 b4 n0 n1 G n3 n4;generalize U.alloc (.cells #[I J y.k,I J y.n,I J y.part,I J y.au,I J y.off] 44)=nB at *;generalize U.heap.size=f at *;obtain⟨y0,y1,y2,y3,y4⟩:=qB.o.val;obtain⟨K,X,u,t,Y,L⟩:=oh.o.ins;have cL:=ae (Sr D P C q y nB gJ.o HG.o sU.o)
   cases hr:kx P.os y q with
   |inr en=>
    rw[hr]at cL E;unfold DH bq at cL;clear hr
    go_upto_region 32 with (go_at_call 61;refine cL.o.mono ?_;rintro e kz ⟨rfl,m,o⟩;have s:=ae m;have j:=ae (H.o.trans o);clear m o)
    have m:=aG kz (.cells #[I J y.k,I J y.n,I J y.part,I J y.au,I J y.off] 44) N;have pF:=ae (s.o.grown m);have oz:=ae ((kv.o.trans j.o).trans (yv.grown m));clear m y0 y1 y2 y3 y4 K X u t Y L;go_wp2
    (try simp only[gV,Exit.then]);refine bj (gW R _ _ _) R ?_
    exact⟨R,FIN.o _ _ _ pF.o oz.o E.o⟩
   |inl x=>
    rw[hr]at cL E;unfold DH bq at cL;have E2:=ae (E.o.trans (uj.o i _ (sG.o x)));clear hr E
    go_upto_region 32 with (go_at_call 61;refine cL.o.mono ?_;rintro e kz ⟨rfl,m,o⟩;have s:=ae m;have j:=ae o;clear m o)
    have m:=aG kz (.cells #[I J x.k,I J x.n,I J x.part,I J x.au,I J x.off] 44) N;have pF:=ae (s.o.grown m);have oz:=ae ((H.o.trans j.o).trans (yv.grown m));have IW:=ae (s.o.loc (bz _) (aA.new kz #[I J x.k,I J x.n,I J x.part,I J x.au,I J x.off] 44) (by decide) (by decide));have CR:=ae ((oh.o.gQ j.o).grown m);have CB:=ae ((uq.o.gQ j.o).grown m);clear m y0 y1 y2 y3 y4 K X u t Y L;generalize kz.alloc (.cells #[I J x.k,I J x.n,I J x.part,I J x.au,I J x.off] 44)=O8 at *
    generalize kz.heap.size=Z3 at *;obtain⟨y0,y1,y2,y3,y4⟩:=IW.o.val;obtain⟨K,X,u,t,Y,L⟩:=CR.o.ins;go_wp2_with (go_at_call 59;refine(cP.o x _ pF.o).mono ?_;rintro e wD ⟨rfl,o,k8⟩;have tJ:=ae o;have m:=ae k8;clear o k8)
    go_meet;exact⟨C,_,i,tJ.o,kv.o.trans (oz.o.trans m.o),CB.o.gQ m.o,E2.o⟩
  ·have E:=ae (show RR=lQ (dI q 4) (iH P.os (fB (bU q r1) nm) (bU q r2) q) by rw[vk.o];rfl);rw[HA.o,HB.o,HN.o]at E;generalize fB a nm=y at *
   go_upto_region 36 with (go_at_call 60;refine(Fz.o _).mono ?_;rintro e U ⟨rfl,f⟩;have p:=ae f;clear f)
   have f:=ya p.o (aG U (.cells #[I J y.k,I J y.n,I J y.part,I J y.au,I J y.off] 44) N);have gJ:=ae (H4.o.grown f);have qB:=ae ((H4.o.grown p.o).loc (bz _) (aA.new U #[I J y.k,I J y.n,I J y.part,I J y.au,I J y.off] 44) (by decide) (by decide));have BY:=ae (aA.new U #[I J y.k,I J y.n,I J y.part,I J y.au,I J y.off] 44);have oh:=ae (vw.o.grown f);have JT:=ae (FP.o.grown f);have uq:=ae (LN.o.grown f);have H:=ae (yv.grown (P:=P) f);have qw:=ae (show fp.heap.size<=U.heap.size from p.o.size)
   clear f p K X u t Y L O a1 a2 a3 a4 b0 b1 b2 b3 b4 n0 n1 G n3 n4;generalize U.alloc (.cells #[I J y.k,I J y.n,I J y.part,I J y.au,I J y.off] 44)=nB at *;generalize U.heap.size=f at *;obtain⟨y0,y1,y2,y3,y4⟩:=qB.o.val;obtain⟨K,X,u,t,Y,L⟩:=oh.o.ins;have cS:=ae (RF D P C q y b nB gJ.o HG.o sU.o);obtain⟨b0,b1,b2,b3,b4⟩:=JT.o.val;unfold bq at cS;go_wp2_with (go_at_call 62;refine cS.o.mono ?_;rintro e kz ⟨rfl,m,o⟩;have s:=ae m;have j:=ae o;clear m o)
   go_meet;exact⟨C,_,i,s.o,kv.o.trans (H.o.trans j.o),uq.o.gQ j.o,E.o⟩
  ·have E:=ae (show RR=lQ (dI q 4) (nz P.ins q) by rw[vk.o];rfl);rw[HN.o]at E;have f:=ae (aeZ D P C q fp H4.o HG.o hi);go_wp2_with (go_at_call 63;refine f.o.mono ?_;rintro e kz ⟨rfl,⟨p,m⟩,o⟩;have s:=ae m;have j:=ae o;clear m o)
   go_meet;exact⟨p,_,i,s.o,kv.o.trans (j.o),LN.o.gQ j.o,E.o⟩
  ·obtain rfl:fb=66:=fL ho;have d1:((l:Z)==1)=F:=by simp;omega
   have d2:((l:Z)==2)=F:=by simp;omega
   have d3:((l:Z)==3)=F:=by simp;omega
   have d4:((l:Z)==4)=F:=by simp;omega
   have WY:((l:Z)==11)=F:=by simp;omega
   have Wo:((l:Z)==12)=F:=by simp;omega
   have Y2:((l:Z)==25)=F:=by simp;omega
   have E:=ae (show RR=if (lP P.os l (bU q r1) (bU q r2)).2=T/\(lP P.os l (bU q r1) (bU q r2)).1=F then eB (dI q 4) q else iz q by
    rw[vk.o];unfold Bs;rw[ax (by omega),ax (by omega),ax (by omega),ax (by omega),ax (by omega),ax (by omega),ax (by omega),ax (by omega),aD (by omega)])
   rw[HA.o,HB.o,HN.o]at E;have p:=ae (Sp P.b P.ap P.cp P.gl P.os l a b fp H4.o.ps pQ.o DT.o (by omega));generalize lP P.os l a b=gg at *;obtain⟨gb,gk⟩:=gg;unfold bq at p;clear ho fL sV fR
   cases gk
   ·have E2:=ae (show RR=lQ i (iz q) by rw[E.o];rfl)
    cases gb
    all_goals
     go_upto_region 10 with (go_at_call 64;refine p.o.mono ?_;rintro e U ⟨rfl,f⟩;have gJ:=ae (H4.o.grown f);have H:=ae (yv.grown (P:=P) f);clear f)
     go_wp2_with (go_at_call 28;refine(oo D P C q _ gJ.o).mono ?_;rintro e kz ⟨rfl,m,o⟩;have s:=ae m;have j:=ae o;clear m o)
     go_meet;exact⟨C,_,i,s.o,kv.o.trans (H.o.trans j.o),LN.o.gQ (H.o.trans j.o),E2.o⟩
   ·cases gb
    ·have E2:=ae (show RR=lQ i q by rw[E.o];exact uj.o i q he);go_wp2_with (go_at_call 64;refine p.o.mono ?_;rintro e U ⟨rfl,f⟩;have gJ:=ae (H4.o.grown f);have H:=ae (yv.grown (P:=P) f);clear f)
     go_meet;exact⟨C,_,i,gJ.o,kv.o.trans H.o,LN.o.gQ H.o,E2.o⟩
    ·have E2:=ae (show RR=lQ i (iz q) by rw[E.o];rfl)
     go_upto_region 10 with (go_at_call 64;refine p.o.mono ?_;rintro e U ⟨rfl,f⟩;have gJ:=ae (H4.o.grown f);have H:=ae (yv.grown (P:=P) f);clear f)
     go_wp2_with (go_at_call 28;refine(oo D P C q _ gJ.o).mono ?_;rintro e kz ⟨rfl,m,o⟩;have s:=ae m;have j:=ae o;clear m o)
     go_meet;exact⟨C,_,i,s.o,kv.o.trans (H.o.trans j.o),LN.o.gQ (H.o.trans j.o),E2.o⟩
  ·have E:=ae (show RR=eB (dI q 4) (dH rd (tT l (bU q r1) (if (l:Z)<=17 then dv nm else bU q r2)) q) by
    rw[vk.o];unfold Bs;rw[ax (by omega),ax (by omega),ax (by omega),ax (by omega),ax (by omega),ax (by omega),ax (by omega),ax (by omega),ax (by omega)])
   rw[HA.o,HB.o,HN.o]at E;have d1:((l:Z)==1)=F:=by simp;omega
   have d2:((l:Z)==2)=F:=by simp;omega
   have d3:((l:Z)==3)=F:=by simp;omega
   have d4:((l:Z)==4)=F:=by simp;omega
   have WY:((l:Z)==11)=F:=by simp;omega
   have Wo:((l:Z)==12)=F:=by simp;omega
   have Y2:((l:Z)==25)=F:=by simp;omega
   by_cases Qu:l<=17
   ·obtain rfl:fb=73:=sV (by omega);rw[aD (by omega)]at E;have cN:=ae (λU=>xe nm U);have f:=sT P.os nm;have cD:=ae (λU=>So l a (dv nm) U (by omega) pQ.o.n f.n pQ.o.off f.off);generalize dv nm=z at *;have E2:=ae (E.o.trans (uj.o i _ (sG.o _)));generalize tT l a z=y at *;clear ho fL sV fR E f Qu;unfold bq at cN cD
    go_upto_region 13 with (go_at_call 22;refine(cN.o _).mono ?_;rintro e U ⟨rfl,f⟩;have p:=ae f;clear f;obtain⟨b0',b1',b2',b3',JL⟩:=dS (Jz.o.grown p.o (by simp));obtain⟨f0,f1,f2,f3,f4⟩:=qc (Jz.o.grown p.o (by simp)))
    have Q:=ae ((H4.o.grown p.o).Hq (kv.o.trans (yv.grown p.o)) (Jz.o.grown p.o (by simp)) Vl.o Z2.o Bv.o z);have gJ:=ae Q.o.1;have H:=ae Q.o.2.1;have Pj:=ae Q.o.2.2.1;have oh:=ae (Q.o.2.2.2 c _ (vw.o.grown p.o) WV.o.1);have uq:=ae (Q.o.2.2.2 d _ (LN.o.grown p.o) NB.o);have Nm:=ae (Q.o.2.2.2 A _ (Po.o.grown p.o) WU.o);clear Q p b0' b1' b2' b3' JL f0 f1 f2 f3 f4 K X u t Y L O a1 a2 a3 a4 b0 b1 b2 b3 b4 n0 n1 G n3 n4;unfold kC at gJ H Pj oh uq Nm;generalize aK _ _ _=Jy at *;obtain⟨K,X,u,t,Y,L⟩:=oh.o.ins;obtain⟨O,a1,a2,a3,a4⟩:=Nm.o.val;obtain⟨b0,b1,b2,b3,b4⟩:=dS Pj.o
    go_upto_region 14 with (go_at_call 65;refine(cD.o _).mono ?_;rintro e U ⟨rfl,f⟩;have p:=ae f;clear f)
    have f:=ya p.o (aG U (.cells #[I J y.k,I J y.n,I J y.part,I J y.au,I J y.off] 44) N);have pF:=ae (gJ.o.grown f);have oz:=ae (H.o.trans (yv.grown (P:=P) f));have qB:=ae ((gJ.o.grown p.o).loc (bz _) (aA.new U #[I J y.k,I J y.n,I J y.part,I J y.au,I J y.off] 44) (by decide) (by decide));have CR:=ae (oh.o.grown f);have CB:=ae (uq.o.grown f);clear f p K X u t Y L O a1 a2 a3 a4 b0 b1 b2 b3 b4;generalize U.alloc (.cells #[I J y.k,I J y.n,I J y.part,I J y.au,I J y.off] 44)=nB at *
    generalize U.heap.size=f at *;obtain⟨y0,y1,y2,y3,y4⟩:=qB.o.val;obtain⟨K,X,u,t,Y,L⟩:=CR.o.ins;go_wp2_with (go_at_call 59;refine(cP.o y _ pF.o).mono ?_;rintro e kz ⟨rfl,m,o⟩;have s:=ae m;have j:=ae o;clear m o)
    go_meet;exact⟨C,_,i,s.o,oz.o.trans j.o,CB.o.gQ j.o,E2.o⟩
   ·obtain rfl:fb=82:=fR (by omega);rw[ax (by omega)]at E;have cD:=ae (λU=>So l a b U (by omega) pQ.o.n DT.o.n pQ.o.off DT.o.off);have E2:=ae (E.o.trans (uj.o i _ (sG.o _)));generalize tT l a b=y at *;clear ho fL sV fR E Qu;unfold bq at cD;have gJ:=ae H4.o;have H:=ae kv.o;have oh:=ae vw.o;have uq:=ae LN.o
    go_upto_region 14 with (go_at_call 65;refine(cD.o _).mono ?_;rintro e U ⟨rfl,f⟩;have p:=ae f;clear f)
    have f:=ya p.o (aG U (.cells #[I J y.k,I J y.n,I J y.part,I J y.au,I J y.off] 44) N);have pF:=ae (gJ.o.grown f);have oz:=ae (H.o.trans (yv.grown (P:=P) f));have qB:=ae ((gJ.o.grown p.o).loc (bz _) (aA.new U #[I J y.k,I J y.n,I J y.part,I J y.au,I J y.off] 44) (by decide) (by decide));have CR:=ae (oh.o.grown f);have CB:=ae (uq.o.grown f);clear f p K X u t Y L O a1 a2 a3 a4 b0 b1 b2 b3 b4 n0 n1 G n3 n4;generalize U.alloc (.cells #[I J y.k,I J y.n,I J y.part,I J y.au,I J y.off] 44)=nB at *
    generalize U.heap.size=f at *;obtain⟨y0,y1,y2,y3,y4⟩:=qB.o.val;obtain⟨K,X,u,t,Y,L⟩:=CR.o.ins;go_wp2_with (go_at_call 59;refine(cP.o y _ pF.o).mono ?_;rintro e kz ⟨rfl,m,o⟩;have s:=ae m;have j:=ae o;clear m o)
    go_meet;exact⟨C,_,i,s.o,oz.o.trans j.o,CB.o.gQ j.o,E2.o⟩
 case rest=>
  obtain⟨v2,f,G,m,k5,oM,H⟩:=hcut;have o:=ae m;have s:=ae k5;have j:=ae H;obtain⟨p,-⟩:=m.zL;obtain⟨⟨p2,p3,p4,p5,p6⟩,f2,f3,f4,f5,f6⟩:=m.pW;obtain⟨n0,n1,ai9,n3,n4⟩:=oM.val;clear m k5 H oM K X u t Y L O a1 a2 a3 a4 b0 b1 b2 b3 b4;by_cases en:f.aU=0
  ·have d3:(f.aU==0)=T:=by simpa using en
   have E:=ae (j.o.trans (show lQ G f=eB G f by unfold lQ;rw[aD en]));clear en j;go_wp2
   go_end0
   exact⟨R,FIN.o _ _ _ (o.o.kO G).1 (s.o.trans (o.o.kO G).2) E.o⟩
  ·have d3:(f.aU==0)=F:=by simpa using en
   have E:=ae (j.o.trans (show lQ G f=f by unfold lQ;rw[ax en]));clear en j;go_wp2
   go_end0
   exact⟨R,FIN.o _ _ _ o.o s.o E.o⟩
