import Derived.Test.YtaldcojpkflgpaaGreatDoorU10
import Derived.Test.YtaldcojpkflgpaaGreatDoorU11
import Derived.Deep.CutBlock
import Derived.Laws.AppendOwn
set_option maxHeartbeats 16000000
set_option maxRecDepth 100000
open Go.Value renaming int->I,slice->ak,bool->aJ,pointer->aM,string->aB
open Go.IntKind renaming i64->J
open Go renaming Value->aC,World->av,bodyPost_ret->bj,TypeId->dm,madeCells->wY,info_parts->fG,bits->aT
open _root_ renaming List->L,Int->Z,Nat->M,rfl->R,Bool->bc,UInt8->aL,Option->aR,if_neg->ax,if_pos->aD,Decidable->kr,decide_eq_true_iff->gO,if_true->jk
open List renaming length->ah,length_cons->dA,take_succ_cons->Nu,length_append->bX,getElem_mem->bN,take_of_length_le->mH,drop_eq_getElem_cons->fv,getElem?_toArray->bI,getElem?_cons_succ->bB,getElem?_eq_getElem->bW,setIfInBounds_toArray->dt,set_cons_succ->dB,set_cons_zero->dC,drop_length->jJ,map_cons->jT,mem_append->nR,length_singleton->xF,filter_cons_of_neg->IX,filter_cons_of_pos->IY,mem_map->mh,length_map->fZ,any_eq_true->vX,getElem_of_mem->kY,getElem_append_left->uM,getElem_append_right->Np,mem_singleton->yL,map_set->Ar,getD_eq_getElem?_getD->bQ,mem_cons_self->jU,mem_cons_of_mem->lJ,mem_cons->nk,replicate->eP,ext_getElem->An,getElem?_map->jS,getElem_map->wb,range->rA,mem_of_getElem?->pI,getD_cons_succ->uK
open Option renaming some->S,none->N,getD_some->rI
open Go.World renaming grownBy->az,setCell->aK,grownBy_alloc->aG,ownsRow_nil->eO,cell?->aq,frozen?->dx,ownsRow->aV
open Array renaming size_push->js
open Nat renaming le_refl->bz,zero_le->bG,le_trans->fV,lt_of_lt_of_le->oc,not_lt_zero->ji
open Go.Ending renaming returned->aH
open Go.RowKit renaming intOf->aN
open Bool renaming false->F,true->T,and_eq_true->jO,not_eq_true'->zW,eq_iff_iff->vg
open Go.World.grownBy renaming refl->aW
open Int renaming toNat_natCast->dy,eq_ofNat_of_zero_le->eX
open Prod renaming fst->wo,snd->uQ
namespace Go.Proofs.YtaldcojpkflgpaaGreatDoor
open Go.RowKit Go.Proofs.Tryz
variable {m:aI} {u:aC} {W w:av} {o:aF} {os:L aF} {ms:L aI} {bt aj bd:Z} {n B:M}
def yN(ms:L aI)(st:gL)(bt aj bd no:Z):cq:=⟨kJ ms st,bt,aj,bd,dZ ms 1 bt 19 ms [],dZ ms 2 aj 19 ms [],dZ ms 3 bd 0 ms [],no⟩
theorem Dy(ms:L aI)(a base b:Z):∀(l:L aI) (k:M) (ws:L Z) (h:k<ah l),dZ ms a base b (l.take (k+1)) ws=pL ms l[k] a base b (dZ ms a base b (l.take k) ws):=by
 intro l
 induction l with
 |nil=>intro k ws h;simp at h
 |cons m l c=>
  intro k ws h
  cases k with
  |zero=>rfl
  |succ k=>
   simp only[dA]at h;rw[Nu,Nu];unfold dZ;exact c k _ (by omega)
theorem adV(ms:L aI)(e:yl m.obj)(c base d:Z)(ws:L Z)(g:0<=base)(f:dR m c 0<=1200100000)(k:M)(h:ah ws<=300025001+1200*k):(pL ms m c base d ws).length<=300025001+1200*(k+1):=by
 have a:=aa7 ms m c (yp m.obj c) 0;have b:=FV e c;unfold pL;rw[bX,DI];omega
def vR(u v:aC):Prop:=∀k,u.ownBlock=S k->v.ownBlock≠S k
theorem vR.symm{v:aC}(h:vR u v):vR v u:=λk e c=>h k c e
structure mx (W0:av) (R1 R2 sR:M) (b1 f1 b2 f2 b3 f3:Z) (l1 l2 l3:L Z) (v1 v2 v3:aC) (W:av):Prop where
 a:jB W0 R1 b1 f1 l1 v1 W
 b:jB W0 R2 b2 f2 l2 v2 W
 c:jB W0 sR b3 f3 l3 v3 W
 wL:R1≠R2
 xP:R1≠sR
 zF:R2≠sR
 Aa:vR v1 v2
 Dv:vR v1 v3
 Dw:vR v2 v3
section
variable{b W a:av}{d e i:M}{j m k n l p:Z}{v y z A:L Z}{r s u q:aC}
theorem mx.kept(h:mx b d e i j m k n l p v y z r s u W)(c:az W a N):mx b d e i j m k n l p v y z r s u a :=
 ⟨h.a.kept c,h.b.kept c,h.c.kept c,h.wL,h.xP,h.zF,h.Aa,h.Dv,h.Dw⟩
theorem mx.one(h:mx b d e i j m k n l p v y z r s u W)(g:jB b d j m A q a)(t:mS W a d r q):mx b d e i j m k n l p A y z q s u a:=by
 obtain⟨c,f⟩:=h.b.other h.a t g.gr h.wL.symm h.Aa.symm;obtain⟨x,C⟩:=h.c.other h.a t g.gr h.xP.symm h.Dv.symm;exact⟨g,c,x,h.wL,h.xP,h.zF,vR.symm f,vR.symm C,h.Dw⟩
theorem mx.two(h:mx b d e i j m k n l p v y z r s u W)(g:jB b e k n A q a)(t:mS W a e s q):mx b d e i j m k n l p v A z r q u a:=by
 obtain⟨c,f⟩:=h.a.other h.b t g.gr h.wL h.Aa;obtain⟨x,C⟩:=h.c.other h.b t g.gr h.zF.symm h.Dw.symm;exact⟨c,g,x,h.wL,h.xP,h.zF,f,h.Dv,vR.symm C⟩
theorem mx.three(h:mx b d e i j m k n l p v y z r s u W)(g:jB b i l p A q a)(t:mS W a i u q):mx b d e i j m k n l p v y A r s q a:=by
 obtain⟨c,f⟩:=h.a.other h.c t g.gr h.xP h.Dv;obtain⟨x,C⟩:=h.b.other h.c t g.gr h.zF h.Dw;exact⟨c,x,g,h.wL,h.xP,h.zF,h.Aa,f,C⟩
end
theorem jB.sW{a:av}{R I o:M}{base c:Z}{ws:L Z}{v:aC}{f:Array aC}(h:jB a R base c ws v W)(d:aA W I f 135)(g:a.heap.size<=I):jB a R base c ws v (aK W ⟨I,o,N⟩ u):=by
 have b:=bK W I o u;exact⟨eh h.gr b (by intro k e;simp at e;omega),h.lo,fh h.aO b (dr.aO d) (by decide),ec h.row b (dr.aO d) (by decide)⟩
theorem mx.sW{a:av}{d e f I o:M}{g k i l j p:Z}{q r s:L Z}{t v x:aC}{y:Array aC}(h:mx a d e f g k i l j p q r s t v x W)(c:aA W I y 135)(b:a.heap.size<=I):mx a d e f g k i l j p q r s t v x (aK W ⟨I,o,N⟩ u) :=
 ⟨h.a.sW c b,h.b.sW c b,h.c.sW c b,h.wL,h.xP,h.zF,h.Aa,h.Dv,h.Dw⟩
theorem aeR(W:av)(bt aj bd:Z):mx W W.heap.size (W.heap.size+1) (W.heap.size+2) bt 19 aj 19 bd 0 [] [] [] (ak N 0 0) (ak N 0 0) (ak N 0 0) (((W.alloc (.cells #[I J bt,I J 19,ak N 0 0] 159)).alloc (.cells #[I J aj,I J 19,ak N 0 0] 159)).alloc (.cells #[I J bd,I J 0,ak N 0 0] 159)):=by
 have c:(W.alloc (.cells #[I J bt,I J 19,ak N 0 0] 159)).heap.size=W.heap.size+1:=js _;have h:((W.alloc (.cells #[I J bt,I J 19,ak N 0 0] 159)).alloc (.cells #[I J aj,I J 19,ak N 0 0] 159)).heap.size=W.heap.size+2:=by
  rw[show ((W.alloc (.cells #[I J bt,I J 19,ak N 0 0] 159)).alloc (.cells #[I J aj,I J 19,ak N 0 0] 159)).heap.size=(W.alloc (.cells #[I J bt,I J 19,ak N 0 0] 159)).heap.size+1 from js _,c]
 have g:=aG W (.cells #[I J bt,I J 19,ak N 0 0] 159) N;have b:=aG (W.alloc (.cells #[I J bt,I J 19,ak N 0 0] 159)) (.cells #[I J aj,I J 19,ak N 0 0] 159) N;have a:=aG ((W.alloc (.cells #[I J bt,I J 19,ak N 0 0] 159)).alloc (.cells #[I J aj,I J 19,ak N 0 0] 159)) (.cells #[I J bd,I J 0,ak N 0 0] 159) N;have i:=aA.new W #[I J bt,I J 19,ak N 0 0] 159;have d:=aA.new (W.alloc (.cells #[I J bt,I J 19,ak N 0 0] 159)) #[I J aj,I J 19,ak N 0 0] 159
 have f:=aA.new ((W.alloc (.cells #[I J bt,I J 19,ak N 0 0] 159)).alloc (.cells #[I J aj,I J 19,ak N 0 0] 159)) #[I J bd,I J 0,ak N 0 0] 159;rw[c]at d;rw[h]at f;have G:=ya (ya g b) a;refine⟨⟨G,bz _,(i.grown b (by simp)).grown a (by simp),eO _ _ _ _⟩,⟨G,by omega,d.grown a (by simp),eO _ _ _ _⟩,⟨G,by omega,f,eO _ _ _ _⟩,by omega,by omega,by omega,?_,?_,?_⟩
 all_goals (intro k e;simp[Value.ownBlock]at e)
theorem adF(W0:av)(P:M)(bt aj bd:Z)(vm:aC)(d gl:L M)(ms:L aI)(st:gL)(r:Z)(W:av)(ht:eH W)(h:iP W0 P bt aj bd vm d gl ms st r W)(hn:∀m∈ms,eI (ah d) m)(hv:∀m∈ms,yl m.obj)(f:∀m∈ms,uf m)(Ni:∀m∈ms,∀s∈m.means,oN s)(hst:Gq (ah d) st)(MV:ah d<=48)
  (hbt:0<=bt/\bt<=1073741824) (hbf:0<=aj/\aj<=1073741824) (hbd:0<=bd/\bd<=1073741824) :
  Calls prog 38 #[bO P] W λe c=>∃a,e=aH (bO a)/\ij c a (yN ms st bt aj bd r)/\az W c N:=by
 obtain⟨am,cm,rfl⟩:=yi h.row;have HP:=ae h;have Oh:=ae (aeR W bt aj bd);have MA:=ae (h.Mf hn);have LO:=ae h.gx;have cX:=ae (λ(k:M) (y:k<ah ms) (b g:M) (p:eF W d b g ms[k]) (l:Z) (a:M) (c x:Z) (j:L Z) (v:aC) (w:av) (A:jB W a c x j v w) (r:0<=c) (t:c<=1200000000) (z:ah j<=300090000)=>afY W d ms b g ms[k] l a c x j v w ht MA.o p (hn _ (bN y)) (hv _ (bN y)) (aa5 f ms[k] (Ni _ (bN y)) (f _ (bN y)) (hv _ (bN y))) A r t z (Gl (f _ (bN y)) l 0 (by omega) (by omega)).2)
 have LE:=ae (λ(k:M) (y:k<ah ms) (l c x:Z) (j:L Z) (a:0<=c) (h:ah j<=300025001+1200*k)=>adV ms (hv _ (bN y)) l c x j a (Gl (f _ (bN y)) l 0 (by omega) (by omega)).2 k h);have Qe:=ae (λV (a:az W V N)=>QK d ms st V (MA.o.kept a) hst);have E:aq W ⟨P,0,N⟩=S (I J bt):=h.aO.cell 0;have x:aq W ⟨P,1,N⟩=S (I J aj):=h.aO.cell 1;have z:aq W ⟨P,2,N⟩=S (I J bd):=h.aO.cell 2;have a:aq W ⟨P,3,N⟩=S (ak am (ah d) cm):=h.aO.cell 3;have G:=aG W (.cells #[I J bt,I J 19,ak N 0 0] 159) N
 have c:=aG (W.alloc (.cells #[I J bt,I J 19,ak N 0 0] 159)) (.cells #[I J aj,I J 19,ak N 0 0] 159) N;have g3:=aG ((W.alloc (.cells #[I J bt,I J 19,ak N 0 0] 159)).alloc (.cells #[I J aj,I J 19,ak N 0 0] 159)) (.cells #[I J bd,I J 0,ak N 0 0] 159) N;have j:=ae (yd x G);have l:=ae (yd z (ya G c));have p:=ae (yd a (ya (ya G c) g3));have s1:(W.alloc (.cells #[I J bt,I J 19,ak N 0 0] 159)).heap.size=W.heap.size+1:=js _;have s2:((W.alloc (.cells #[I J bt,I J 19,ak N 0 0] 159)).alloc (.cells #[I J aj,I J 19,ak N 0 0] 159)).heap.size=W.heap.size+2:=by
  rw[show ((W.alloc (.cells #[I J bt,I J 19,ak N 0 0] 159)).alloc (.cells #[I J aj,I J 19,ak N 0 0] 159)).heap.size=(W.alloc (.cells #[I J bt,I J 19,ak N 0 0] 159)).heap.size+1 from js _,s1]
 clear h hn hv f Ni hst ht G c g3 x z a;unfold bO at *;go_enter func38,ntmps38
 go_upto_region 2 with fail
 clear E;generalize W.alloc (.cells #[I J bt,I J 19,ak N 0 0] 159)=W1 at *;have x:=j.o;clear j
 go_upto_region 3 with fail
 clear x;generalize W1.alloc (.cells #[I J aj,I J 19,ak N 0 0] 159)=t at *;have z:=l.o;clear l
 go_upto_region 4 with fail
 clear z;generalize t.alloc (.cells #[I J bd,I J 0,ak N 0 0] 159)=W3 at *;have a:=p.o;go_wp2;clear a p s1 s2;generalize a:W.heap.size=D at *;generalize c:D+1=O at *;generalize j:D+2=Q at *;clear a c j
 go_loopw [32] (λi wr=>∃(k:M) (c j l:L Z) (v1 v2 v3:aC),k<=ah d/\i=I J k/\mx W D O Q bt 19 aj 19 bd 0 c j l v1 v2 v3 wr/\c=dZ ms 1 bt 19 (ms.take k) []/\j=dZ ms 2 aj 19 (ms.take k) []/\l=dZ ms 3 bd 0 (ms.take k) []/\(ah c<=300025001+1200*k/\(ah j)<=300025001+1200*k/\(ah l)<=300025001+1200*k)) (λi _=>ah d-(aN i).toNat)
 case atStart=>exact⟨0,[],[],[],_,_,_,bG _,R,Oh.o,R,R,R,by simp,by simp,by simp⟩
 case round=>
  obtain⟨k,c,j,l,v1,v2,v3,y,rfl,a,p,x,z,hl1,hl2,hl3⟩:=hrel;have A:=ae a;have E1:=ae p;have E2:=ae x;have E3:=ae z;clear a p x z Oh;by_cases C:k<ah d
  ·have p:k<ah ms:=by rw[LO.o];exact C
   have H:k<ah gl:=by rw[HP.o.iQ];exact C
   obtain⟨sg,off,U,a⟩:=HP.o.rM.kD (by omega);have ck:=yd (a k C) A.o.a.gr;have E:eF W d d[k] (gl[k]'H) ms[k]:=HP.o.lv k C;have G:(k:Z)<(ah d:Z):=by omega
   have X:=ae (Dy ms 1 bt 19 ms k [] p);have Y:=ae (Dy ms 2 aj 19 ms k [] p);have T:=ae (Dy ms 3 bd 0 ms k [] p);have L1:=LE.o k p 1 bt 19 c (by omega) hl1;have L2:=LE.o k p 2 aj 19 j (by omega) hl2;have L3:=LE.o k p 3 bd 0 l (by omega) hl3;have K:=ae (λl a c x j v w A r t z=>cX.o k p d[k] (gl[k]'H) E l a c x j v w A r t z);rw[<- E1.o]at X;rw[<- E2.o]at Y;rw[<- E3.o]at T;subst U;clear a E;generalize ms[k]=m at *;generalize a:d[k]=bk at *;clear a;unfold bO at *;go_wp2_with fail;refine(K.o 1 D bt 19 c v1 wr A.o.a (by omega) (by omega) (by omega)).mono ?_
   rintro e Jx ⟨rfl,u1,a,x⟩;have z:=ae (A.o.one a x);clear a x A ck;go_wp2_with fail;refine(K.o 2 O aj 19 j v2 Jx z.o.b (by omega) (by omega) (by omega)).mono ?_;rintro e nB ⟨rfl,u2,a,x⟩;have E:=ae (z.o.two a x);clear a x z;go_wp2_with fail;refine(K.o 3 Q bd 0 l v3 nB E.o.c (by omega) (by omega) (by omega)).mono ?_;rintro e kz ⟨rfl,u3,a,x⟩;have z:=ae (E.o.three a x);clear a x E;go_wp2
   go_roundw
   case rel=>exact⟨k+1,_,_,_,_,_,_,by omega,by go_num,z.o,X.o.symm,Y.o.symm,T.o.symm,L1,L2,L3⟩
   case measure=>simp[aN];omega
  ·obtain rfl:k=ah d:=by omega
   have g3:decide ((ah d:Z)<(ah d:Z))=F:=by simp
   rw[mH (by rw[LO.o];exact bz _)]at E1 E2 E3;have a:=ae (HP.o.aO.grown A.o.a.gr (by simp));have FIN:=ae (show yN ms st bt aj bd r=⟨kJ ms st,bt,aj,bd,c,j,l,r⟩ by rw[E1.o,E2.o,E3.o];rfl);obtain⟨sm,ss,so⟩:=st;unfold jC at Qe;dsimp only at *;generalize kJ ms ⟨sm,ss,so⟩=T at *;generalize iT d sm=q at *;have E:aq wr ⟨P,0,N⟩=S (I J bt):=a.o.cell 0;have x:aq wr ⟨P,1,N⟩=S (I J aj):=a.o.cell 1;have z:aq wr ⟨P,2,N⟩=S (I J bd):=a.o.cell 2;have U:aq wr ⟨P,4,N⟩=S (.pointer q):=a.o.cell 4
   have Y:aq wr ⟨P,5,N⟩=S (I J ss):=a.o.cell 5;have c6:aq wr ⟨P,6,N⟩=S (I J so):=a.o.cell 6;have c7:aq wr ⟨P,7,N⟩=S (I J r):=a.o.cell 7;have H:=ae (λt (X:az wr.drew t N)=>show aq t ⟨P,0,N⟩=S (I J bt)/\aq t ⟨P,1,N⟩=S (I J aj)/\aq t ⟨P,2,N⟩=S (I J bd)/\aq t ⟨P,4,N⟩=S (.pointer q)/\aq t ⟨P,5,N⟩=S (I J ss)/\aq t ⟨P,6,N⟩=S (I J so)/\aq t ⟨P,7,N⟩=S (I J r)from (λ(b:aA t P _ 151)=>⟨b.cell 0,b.cell 1,b.cell 2,b.cell 4,b.cell 5,b.cell 6,b.cell 7⟩) ((mA a.o).grown X (by simp)))
   go_wp2
   go_region_held3 (λp=>aq p ⟨P,0,N⟩=S (I J bt)/\aq p ⟨P,1,N⟩=S (I J aj)/\aq p ⟨P,2,N⟩=S (I J bd)/\aq p ⟨P,4,N⟩=S (.pointer q)/\aq p ⟨P,5,N⟩=S (I J ss)/\aq p ⟨P,6,N⟩=S (I J so)/\aq p ⟨P,7,N⟩=S (I J r))
    (go_keep)
    (first|(go_at_call 79;refine(Qe.o _ (yf A.o.a.gr)).mono ?_;rintro e p ⟨rfl,X⟩;obtain⟨s0,s1,s2,s4,s5,s6,s7⟩:=H.o _ X))
   have G:=ya (ya (yf (aW wr N)) X) (aG p (.cells #[I J T,I J bt,I J aj,I J bd,ak N 0 0,ak N 0 0,ak N 0 0,I J r] 135) N);have K:=ae (A.o.kept G);have B6:=ae (aA.new p #[I J T,I J bt,I J aj,I J bd,ak N 0 0,ak N 0 0,ak N 0 0,I J r] 135);have hI:=ae (show W.heap.size<=p.heap.size from fV A.o.a.gr.size (ya (yf (aW wr N)) X).size);clear G X A H a E x z U Y c6 c7 s0 s1 s2 s4 s5 s6 s7;generalize p.alloc (.cells #[I J T,I J bt,I J aj,I J bd,ak N 0 0,ak N 0 0,ak N 0 0,I J r] 135)=E at *
   generalize p.heap.size=a at *;obtain⟨x,z,rfl⟩:=yi K.o.a.row;obtain⟨G,H,rfl⟩:=yi K.o.b.row;obtain⟨U,Y,rfl⟩:=yi K.o.c.row;have B7:=ae (show aA (aK E ⟨a,4,N⟩ (ak x (ah c) z)) a #[I J T,I J bt,I J aj,I J bd,ak x (ah c) z,ak N 0 0,ak N 0 0,I J r] 135 by simpa using B6.o.set 4 (ak x (ah c) z));have pF:=ae (show mx W D O Q bt 19 aj 19 bd 0 c j l _ _ _ (aK E ⟨a,4,N⟩ (ak x (ah c) z))from K.o.sW B6.o hI.o);have B8:=ae (show aA ((aK E ⟨a,4,N⟩ (ak x (ah c) z)).setCell ⟨a,5,N⟩ (ak G (ah j) H)) a #[I J T,I J bt,I J aj,I J bd,ak x (ah c) z,ak G (ah j) H,ak N 0 0,I J r] 135 by simpa using B7.o.set 5 (ak G (ah j) H))
   have tJ:=ae (show mx W D O Q bt 19 aj 19 bd 0 c j l _ _ _ ((aK E ⟨a,4,N⟩ (ak x (ah c) z)).setCell ⟨a,5,N⟩ (ak G (ah j) H))from pF.o.sW B7.o hI.o);have r1:aq E ⟨D,2,N⟩=S (ak x (ah c) z):=K.o.a.aO.cell 2;have i4:aq E ⟨a,4,N⟩=S (ak N 0 0):=B6.o.cell 4;have f4:dx E ⟨a,4,N⟩=F:=B6.o.free 4
   go_upto_region 13 with fail
   clear r1 i4 f4 K B6;generalize aK E ⟨a,4,N⟩ (ak x (ah c) z)=W7 at *;have r1:aq W7 ⟨O,2,N⟩=S (ak G (ah j) H):=pF.o.b.aO.cell 2;have i4:aq W7 ⟨a,5,N⟩=S (ak N 0 0):=B7.o.cell 5;have f4:dx W7 ⟨a,5,N⟩=F:=B7.o.free 5
   go_upto_region 14 with fail
   clear r1 i4 f4 pF B7;generalize aK W7 ⟨a,5,N⟩ (ak G (ah j) H)=K at *;have B9:=ae (show aA (aK K ⟨a,6,N⟩ (ak U (ah l) Y)) a #[I J T,I J bt,I J aj,I J bd,ak x (ah c) z,ak G (ah j) H,ak U (ah l) Y,I J r] 135 by simpa using B8.o.set 6 (ak U (ah l) Y));have Ev:=ae (show mx W D O Q bt 19 aj 19 bd 0 c j l _ _ _ (aK K ⟨a,6,N⟩ (ak U (ah l) Y))from tJ.o.sW B8.o hI.o);have r1:aq K ⟨Q,2,N⟩=S (ak U (ah l) Y):=tJ.o.c.aO.cell 2;have i4:aq K ⟨a,6,N⟩=S (ak N 0 0):=B8.o.cell 6
   have f4:dx K ⟨a,6,N⟩=F:=B8.o.free 6;go_wp2;clear r1 i4 f4 tJ B8;generalize aK K ⟨a,6,N⟩ (ak U (ah l) Y)=ahV at *;go_ret;refine⟨a,R,?_,Ev.o.a.gr⟩;rw[FIN.o];exact⟨_,_,_,B9.o,zl Ev.o.a.row,zl Ev.o.b.row,zl Ev.o.c.row⟩
def oE(kind d:Z):bc:=if kind=2 then decide (-4096<=d)&&decide (d<=4095)else if kind=3 then decide (-1048576<=d)&&decide (d<=1048575)else T
def wj(o:aF)(i:Z):L aL:=if i<0 then []else match o.aE[i.toNat]? with
 |none=>[]
 |some y=>y.name
def oF(ms:L aI)(m:aI)(i:M):L cg->aR jv
 | []=>N
 |r::rs=>if oE r.kind (fT ms m r)then oF ms m i rs else S ⟨37,i,wj m.obj r.sym⟩
def yP(ms:L aI):M->L aI->jv
 |_,[]=>eM
 |i,m::r=>match oF ms m i m.obj.ay with
  |some f=>f
  |none=>yP ms (i+1) r
def rD(ms:L aI):jv:=yP ms 0 ms
theorem aa2(ms:L aI)(m:aI)(i:M)(rs:L cg)(j:M)(h:j<ah rs):oF ms m i (rs.drop j)=if oE rs[j].kind (fT ms m rs[j])then oF ms m i (rs.drop (j+1))else S ⟨37,i,wj m.obj rs[j].sym⟩:=by
 rw[fv h];rfl
theorem aa1(ms l:L aI)(k:M)(h:k<ah l):yP ms k (l.drop k)=match oF ms l[k] k l[k].obj.ay with
  |some f=>f
  |none=>yP ms (k+1) (l.drop (k+1)):=by
 rw[fv h];rfl
theorem ab7(c d:Z)(w:av):
  Calls prog 125 #[I J c,I J d] w λe b=>e=aH (aJ (oE c d))/\b=w:=by
 have b:=ae (show oE c d=if c=2 then decide (-4096<=d)&&decide (d<=4095)else if c=3 then decide (-1048576<=d)&&decide (d<=1048575)else T from R);by_cases f:c=2
 ·subst f;by_cases a:-4096<=d
  ·have h:decide (-4096<=d)=T:=by simpa using a
   have E:=ae (show oE 2 d=decide (d<=4095) by rw[b.o];simp[a]);clear a;go_enter func125,ntmps125;go_wp2;go_ret;exact⟨by rw[E.o];rfl,R⟩
  ·have h:decide (-4096<=d)=F:=by simpa using a
   have E:=ae (show oE 2 d=F by rw[b.o];simp[a]);clear a;go_enter func125,ntmps125;go_wp2;go_ret;exact⟨by rw[E.o];rfl,R⟩
 ·by_cases g:c=3
  ·subst g;clear f;by_cases a:-1048576<=d
   ·have h:decide (-1048576<=d)=T:=by simpa using a
    have E:=ae (show oE 3 d=decide (d<=1048575) by rw[b.o];simp[a]);clear a;go_enter func125,ntmps125;go_wp2;go_ret;exact⟨by rw[E.o];rfl,R⟩
   ·have h:decide (-1048576<=d)=F:=by simpa using a
    have E:=ae (show oE 3 d=F by rw[b.o];simp[a]);clear a;go_enter func125,ntmps125;go_wp2;go_ret;exact⟨by rw[E.o];rfl,R⟩
  ·have E:=ae (show oE c d=T by rw[b.o,ax f,ax g]);have h:(c==2)=F:=by simpa using f
   have i:(c==3)=F:=by simpa using g
   clear f g;go_enter func125,ntmps125;go_wp2;go_ret;exact⟨by rw[E.o];rfl,R⟩
theorem Z9(t:L Nat)(b g:Nat)(m:aI)(i:Z)(w:av)(h:eF w t b g m)(Y:ah m.obj.aE<=65535):
  Calls prog 126 #[bO b,.int .i64 i] w λe a=>e=aH (aB (bs (wj m.obj i)))/\a=w:=by
 obtain⟨v1,v2,v3,v4,q,r,-⟩:=h;obtain⟨s,V,G,P,D,O,C,K,X,U,H,Q,a,-,-,-,-,d,-⟩:=r.open;have c:=gH.dh d;have A:=a.cell 5;simp only[bI,bB,bL]at A;have I:aq w ⟨b,0,N⟩=S (aM (S ⟨g,0,N⟩)):=q.cell 0;clear q r a d;have a:=ae (show wj m.obj i=if i<0 then []else match m.obj.aE[i.toNat]? with
  |none=>[]
  |some y=>y.name from R)
 generalize m.obj.aE=j at *;unfold bO;by_cases l:i<0
 ·have v:decide (i<0)=true:=by simpa using l
  have E:=ae (show wj m.obj i=[] by rw[a.o,aD l]);clear l;go_enter func126,ntmps126;go_wp2;go_ret;exact⟨by rw[E.o];rfl,R⟩
 ·obtain⟨k,rfl⟩:∃k:Nat,i=(k:Z):=⟨i.toNat,by omega⟩
  have v:decide ((k:Z)<0)=F:=by simp
  clear l;by_cases f:k<ah j
  ·have x:decide ((ah j:Z)<=(k:Z))=F:=by simp;omega
   obtain⟨T,p,z,d⟩:=c (by omega);subst p;obtain⟨q,r,J,M⟩:=d k f;clear d;have E:=ae (show wj m.obj k=j[k].name by rw[a.o,ax (by omega),dy,bW f]);generalize j[k]=y at *;go_enter func126,ntmps126;go_wp2;go_ret;exact⟨by rw[E.o];rfl,R⟩
  ·have x:decide ((ah j:Z)<=(k:Z))=true:=by simp;omega
   have E:=ae (show wj m.obj k=[] by rw[a.o,ax (by omega),dy,List.getElem?_eq_none (by omega)]);go_enter func126,ntmps126;go_wp2;go_ret;exact⟨by rw[E.o];rfl,R⟩
theorem ZW(W0:av)(P:M)(bt aj bd:Z)(vm:aC)(f z:L M)(ms:L aI)(st:gL)(no:Z)(W:av)(h:iP W0 P bt aj bd vm f z ms st no W)(hn:∀m∈ms,eI (ah f) m):
  Calls prog 81 #[bO P] W λe a=>e=aH (bY (rD ms))/\az W a N:=by
 obtain⟨am,cm,rfl⟩:=yi h.row;have Y:=ae h;have a:aq W ⟨P,3,N⟩=S (ak am (ah f) cm):=h.aO.cell 3;have hbl:=h.few;have LO:=ae h.gx;have HN:=ae hn;have Q:=ae (aG W (.cells #[I J 0,I J 0,aB ⟨#[]⟩] 27) N);have B0:=ae (aA.new W #[I J 0,I J 0,aB ⟨#[]⟩] 27);have b:=yd a Q.o;clear h hn a;unfold bO;go_enter func81,ntmps81;go_wp2;generalize W.alloc (.cells #[I J 0,I J 0,aB ⟨#[]⟩] 27)=W1 at *;clear b
 go_loopw [12] (λi wr=>∃k:M,k<=ah f/\i=I J k/\rD ms=yP ms k (ms.drop k)/\az W1 wr N) (λi _=>ah f-(aN i).toNat)
 case atStart=>exact⟨0,bG _,R,R,aW _ _⟩
 case round=>
  obtain⟨k,hk,rfl,b,a⟩:=hrel;have X:=ae b;have D:=ae a;clear b a;by_cases t:k<ah f
  ·have A:k<ah ms:=by rw[LO.o];exact t
   have p:k<ah z:=by rw[Y.o.iQ];exact t
   have g:=Y.o.kept (ya Q.o D.o);obtain⟨sg,off,hsg,a⟩:=g.rM.kD (by omega);have G:=a k t;have HM:eF wr f f[k] (z[k]'p) ms[k]:=g.lv k t;have b:=HN.o _ (bN A);have MA:=ae (g.Mf HN.o);have P6:=ae HM;obtain⟨v1,v2,v3,v4,s,y,-⟩:=HM;obtain⟨at_,ct,af,cf,ad,cd,aa,ca,gP,cs,ar,cr,q,-,-,-,-,-,C⟩:=y.open;have c:=ae (pi.dh C);have x:=q.cell 6;simp only[bI,bB,bL]at x;have H:aq wr ⟨f[k],0,N⟩=S (aM (S ⟨z[k]'p,0,N⟩)):=s.cell 0;have hrl:=b.ay.1;have l:=Y.o.aE _ (bN A);have ks:=ae (aa1 ms ms k A)
   have cD:=ae (λg (a:az wr g N) r (c:r∈ms[k].obj.ay)=>FY f ms f[k] (z[k]'p) ms[k] r g (MA.o.kept a) (P6.o.kept a) b (b.ay.2 r c).2.1 (b.ay.2 r c).2.2);have cS:=ae (λg (a:az wr g N) i=>Z9 f f[k] (z[k]'p) ms[k] i g (P6.o.kept a) l);subst hsg;clear a s y q C g b l;generalize (z[k]'p)=gk at *;generalize f[k]=bk at *;generalize ms[k]=m at *;have g1:(k:Z)<(ah f:Z):=by omega
   unfold bO eU at *;go_wp2;generalize wr=U at *;clear G H x
   go_loopw [25] (λi wr=>∃j:M,j<=ah m.obj.ay/\i=I J j/\oF ms m k m.obj.ay=oF ms m k (m.obj.ay.drop j)/\az U wr N) (λi _=>ah m.obj.ay-(aN i).toNat)
   case atStart=>exact⟨0,bG _,R,R,aW _ _⟩
   case round=>
    obtain⟨j,hj,rfl,a,b⟩:=hrel;have jl:=ae a;have x:=ae b;clear a b;by_cases q:j<ah m.obj.ay
    ·obtain⟨sg2,Ce,hgs,a⟩:=c.o.grown x.o (by omega);subst Ce;obtain⟨s,y,b,g,H⟩:=a j q;clear a;have g2:(j:Z)<(ah m.obj.ay:Z):=by omega
     have nO:=ae (show oF ms m k m.obj.ay=_ from jl.o.trans (aa2 ms m k m.obj.ay j q));have T:=ae (λg a=>cD.o g a m.obj.ay[j] (bN q));have hn2:ah m.obj.ay=ah m.obj.ay:=R;generalize m.obj.ay[j]=r at *;have C:=ae (aA.new wr #[I J r.au,I J r.off,I J r.kind,I J r.sym,I J r.bh] 75);have G:=ae (aG wr (.cells #[I J r.au,I J r.off,I J r.kind,I J r.sym,I J r.bh] 75) N);have GW:=ae (ya x.o G.o);have l:=ae (λd g=>ab7 r.kind d g);generalize fT ms m r=ds at *
     go_upto_region 7 with fail
     clear s y b g H;generalize wr.alloc (.cells #[I J r.au,I J r.off,I J r.kind,I J r.sym,I J r.bh] 75)=g at *;generalize wr.heap.size=b at *;have c0:aq g ⟨b,0,N⟩=S (I J r.au):=C.o.cell 0;have c1:aq g ⟨b,1,N⟩=S (I J r.off):=C.o.cell 1;have c2:aq g ⟨b,2,N⟩=S (I J r.kind):=C.o.cell 2;have a:aq g ⟨b,3,N⟩=S (I J r.sym):=C.o.cell 3;have c4:aq g ⟨b,4,N⟩=S (I J r.bh):=C.o.cell 4;have Hw:=ae (λW (O:az g.drew W N)=>show aA W b #[I J r.au,I J r.off,I J r.kind,I J r.sym,I J r.bh] 75 from (mA C.o).grown O (by simp))
     go_region_held3 (λs=>aq s ⟨b,0,N⟩=S (I J r.au)/\aq s ⟨b,1,N⟩=S (I J r.off)/\aq s ⟨b,2,N⟩=S (I J r.kind)/\aq s ⟨b,3,N⟩=S (I J r.sym)/\aq s ⟨b,4,N⟩=S (I J r.bh))
      (go_keep)
      (first|(go_at_call 119;refine(T.o _ (yf GW.o)).mono ?_;rintro e s ⟨rfl,O⟩;have y:=Hw.o _ O;have s0:=y.cell 0;have s1:=y.cell 1;have s2:=y.cell 2;have s3:=y.cell 3;have s4:=y.cell 4;simp only[bI,bB,bL]at s0 s1 s2 s3 s4)|(go_at_call 125;refine(l.o _ _).mono ?_;rintro e K ⟨rfl,H⟩;rw[H];clear H K))
     have V:=ae (ya (yf GW.o) O);have D8:=ae y;clear O y c0 c1 c2 a c4 s0 s1 s2 s3 s4 T l G;generalize a:oE r.kind ds=rb at *;have ahE:=ae a;clear a
     cases rb
     ·have E:=ae (show rD ms=⟨37,k,wj m.obj r.sym⟩ by rw[X.o,ks.o,nO.o];rfl);have l:=ae (B0.o.grown (ya D.o V.o) (by simp));have G:=ae (cS.o _ V.o r.sym);generalize wj m.obj r.sym=nm at *;have a:aq s ⟨b,3,N⟩=S (I J r.sym):=D8.o.cell 3;have z0:aq s ⟨W.heap.size,0,N⟩=S (I J 0):=l.o.cell 0;have z1:aq s ⟨W.heap.size,1,N⟩=S (I J 0):=l.o.cell 1;have z2:aq s ⟨W.heap.size,2,N⟩=S (aB ⟨#[]⟩):=l.o.cell 2;have T:=l.o.free 0;have f1:=l.o.free 1;have f2:=l.o.free 2;go_wp2_with fail;refine G.o.mono ?_;rintro e K ⟨rfl,H⟩
      rw[H];clear H K G a;go_wp2;have a:=((l.o.set 0 (I J 37)).set 1 (I J k)).set 2 (aB (bs nm));have G:=a.cell 0;have H:=a.cell 1;have K:=a.cell 2;simp only[dt,dB,dC,bI,bB,bL]at G H K;refine bj (v:=bY ⟨37,k,nm⟩) ?_ R ⟨by rw[E.o],iC (ya Q.o (ya D.o V.o)) _ (bz _) _ _ _⟩;clear a z0 z1 z2 T f1 f2;generalize aK _ _ _=a at *;simp[results,results81,go_sem,bY,G,H,K]
     ·have E:=ae (show oF ms m k m.obj.ay=oF ms m k (m.obj.ay.drop (j+1))from nO.o);go_wp2
      go_roundw
      case rel=>exact⟨j+1,by omega,by go_num,E.o,V.o⟩
      case measure=>simp[aN];omega
    ·obtain rfl:j=ah m.obj.ay:=by omega
     have E:=ae (show oF ms m k m.obj.ay=N by rw[jl.o,jJ];rfl);have b:decide ((ah m.obj.ay:Z)<(ah m.obj.ay:Z))=F:=by simp
     go_wp2
     go_roundw
     case rel=>exact⟨k+1,by omega,by go_num,by rw[X.o,ks.o,E.o],ya D.o x.o⟩
     case measure=>simp[aN];omega
  ·obtain rfl:k=ah f:=by omega
   have E:=ae (show rD ms=eM by rw[X.o,<- LO.o,jJ];rfl);have b:decide ((ah f:Z)<(ah f:Z))=F:=by simp
   have l:=ae (B0.o.grown D.o (by simp));have z0:aq wr ⟨W.heap.size,0,N⟩=S (I J 0):=l.o.cell 0;have z1:aq wr ⟨W.heap.size,1,N⟩=S (I J 0):=l.o.cell 1;have z2:aq wr ⟨W.heap.size,2,N⟩=S (aB ⟨#[]⟩):=l.o.cell 2;have T:=l.o.free 0;have f1:=l.o.free 1;have f2:=l.o.free 2;go_wp2;have a:=((l.o.set 0 (I J 0)).set 1 (I J 0)).set 2 (aB ⟨#[]⟩);have G:=a.cell 0;have H:=a.cell 1;have K:=a.cell 2;simp only[dt,dB,dC,bI,bB,bL]at G H K;refine bj (v:=bY eM) ?_ R ⟨by rw[E.o],iC (ya Q.o D.o) _ (bz _) _ _ _⟩
   clear a z0 z1 z2 T f1 f2;generalize aK _ _ _=a at *;simp[results,results81,go_sem,bY,eM,bs,G,H,K]
theorem aeB:∀(ms:L (aF×bc)) (os:L aF),(fI ms os).1.map wo=ms.map wo:=by
 intro ms
 induction ms with
 |nil=>intro os;rfl
 |cons m ms a=>
  intro os;obtain⟨o,t⟩:=m;unfold fI;split
  ·rw[jT,a,jT]
  ·rw[jT,a,jT]
theorem aeA(P:aF->Prop):∀(ms:L (aF×bc)) (os:L aF),(∀m∈ms,P m.1)->(∀o∈os,P o)->∀o∈(fI ms os).2.1,P o:=by
 intro ms
 induction ms with
 |nil=>intro os _ h;exact h
 |cons m ms d=>
  intro os b c;obtain⟨o,t⟩:=m;unfold fI;have e:=b (o,t) (by simp);split
  ·exact d _ (λx a=>b x (by simp[a])) (λx a=>by
    rcases nR.1 a with q|q
    ·exact c x q
    ·simp at q;subst q;exact e)
  ·exact d _ (λx a=>b x (by simp[a])) c
theorem aeC:∀(ms:L (aF×bc)) (os:L aF),(fI ms os).2.1.length+km (fI ms os).1=ah os+km ms:=by
 intro ms
 induction ms with
 |nil=>intro os;rfl
 |cons m ms a=>
  intro os;obtain⟨o,t⟩:=m;unfold fI;split
  ·rename_i h
   have:=a (os++[o])
   rw[bX,xF]at this;unfold km at this ⊢;rw[IX (by simp),IY (by simp[h.1]),dA];dsimp only;omega
  ·have:=a os
   unfold km at this ⊢
   cases t
   ·rw[IY (by simp),IY (by simp),dA,dA];dsimp only;omega
   ·rw[IX (by simp),IX (by simp)];exact this
theorem abN(P:aF->Prop):∀(k:M) (ms:L (aF×bc)) (os:L aF),(∀m∈ms,P m.1)->(∀o∈os,P o)->∀o∈nU k ms os,P o:=by
 intro k
 induction k with
 |zero=>intro ms os _ h;exact h
 |succ k f=>
  intro ms os a b;have q:=aeA P ms os a b;unfold nU;split
  ·refine f _ _ (λm c=>?_) q
   have:m.1∈ms.map wo:=by rw[<- aeB ms os];exact List.mem_map_of_mem c
   obtain⟨y,d,e⟩:=mh.1 this;rw[<- e];exact a y d
  ·exact q
theorem abO:∀(k:M) (ms:L (aF×bc)) (os:L aF),(nU k ms os).length<=ah os+km ms:=by
 intro k
 induction k with
 |zero=>intro ms os;unfold nU;omega
 |succ k a=>
  intro ms os;have q:=aeC ms os;unfold nU;split
  ·have:=a (fI ms os).1 (fI ms os).2.1
   omega
  ·omega
theorem abP(P:aF->Prop)(os:L aF)(x:bc×L aF)(c:∀o∈x.2,P o)(b:∀o∈os,P o):∀o∈pK os x,P o:=by
 unfold pK;split
 ·refine abN P _ _ _ (λm a=>?_) b;unfold fresh at a;obtain⟨y,d,rfl⟩:=mh.1 a;exact c y d
 ·intro o h;rcases nR.1 h with q|q
  ·exact b o q
  ·exact c o q
theorem abR(os:L aF)(x:bc×L aF):(pK os x).length<=ah os+x.2.length:=by
 unfold pK;split
 ·have:=abO (x.2.length+1) (fresh x.2) os
  rw[FX]at this;exact this
 ·rw[bX];omega
theorem aci(P:aF->Prop):∀(a:L (bc×L aF)) (os:L aF),(∀x∈a,∀o∈x.2,P o)->(∀o∈os,P o)->∀o∈a.foldl pK os,P o:=by
 intro a
 induction a with
 |nil=>intro os _ h;exact h
 |cons x a d=>
  intro os b c;exact d _ (λy a=>b y (by simp[a])) (abP P os x (b x (by simp)) c)
theorem RY:∀(d:L (bc×L aF)) (os:L aF),(∀x∈d,x.2.length<=6)->(d.foldl pK os).length<=ah os+6*ah d:=by
 intro d
 induction d with
 |nil=>intro os _;simp
 |cons x d f=>
  intro os e;have a:=abR os x;have b:=e x (by simp);have c:=f (pK os x) (λy d=>e y (by simp[d]));rw[List.foldl_cons,dA];omega
theorem Rr{l:L aL}{a:bc}(h:mU l a os):(∀o∈os,yl o)/\(ah os)<=6:=by
 rcases h with ⟨-,b,rfl⟩|⟨-,-,ms,b,rfl⟩
 ·exact⟨λo c=>by simp at c;subst c;exact b.1,by simp⟩
 ·refine⟨λo c=>?_,by rw[fZ];exact b.1.2⟩;obtain⟨m,d,rfl⟩:=mh.1 c;exact(b.2.1 m d).1
instance ahH (a b c d:Z):kr (ku a b c d):=by unfold ku;infer_instance
instance ahG (m:cq):kr (rq m):=by unfold rq;infer_instance
def nT(sW:cq)(ms:L aI):jv:=if ¬rq sW then ⟨36,0,[]⟩else if (rD ms).e≠0 then rD ms else if (fi sW sW.start).isSome then eM else ⟨35,0,[]⟩
def mJ(os:L aF)(bt aj bd:Z):L aI:=uP bt aj bd (fH os (os.map dV))
def kK(os:L aF)(bt aj bd:Z):cq:=yN (mJ os bt aj bd) (gX os ml) bt aj bd (oH bd (fU (aS bt aj bd (fH os (os.map dV)))))
theorem Rb(st:gL)(bt aj bd c:Z)(b:∀m∈ms,yl m.obj):lV (yN ms st bt aj bd c).T/\lV (yN ms st bt aj bd c).F/\lV (yN ms st bt aj bd c).D :=
 ⟨Ga ms 1 bt 19 (by omega) ms [] b (λx a=>by simp at a),Ga ms 2 aj 19 (by omega) ms [] b (λx a=>by simp at a),Ga ms 3 bd 0 (by omega) ms [] b (λx a=>by simp at a)⟩
theorem aby(b:∀m∈ms,yl m.obj)(q:ah ms<=48)(e:0<=bt/\bt<=1073741824/\bt%4=0)(d:0<=aj/\aj<=1073741824/\aj%4=0)(c:0<=bd/\bd<=1073741824/\bd%4=0):
  (dZ (aS bt aj bd ms) 1 bt 19 (aS bt aj bd ms) []).length<=65535/\(dZ (aS bt aj bd ms) 2 aj 19 (aS bt aj bd ms) []).length<=65535/\(dZ (aS bt aj bd ms) 3 bd 0 (aS bt aj bd ms) []).length<=65535:=by
 have a:=qf (sk ms bt aj bd) b;have f:=sj ms bt aj bd;have g:=Rj ms bt aj bd;have h:qa 1 aI.text (aS bt aj bd ms) bt (pZ 1 ms bt):=Gj 1 aI.text (λ_ _=>rfl) _ _ _ _ g.1;have i:qa 2 aI.bw (aS bt aj bd ms) aj (pZ 2 ms aj):=Gj 2 aI.bw (λ_ _=>rfl) _ _ _ _ g.2;have j:sD (aS bt aj bd ms) bd (iY ms bd):=Ri _ _ _ _ (QS ms bt aj bd);have k:=GH (aS bt aj bd ms) 1 (.inl R) aI.text bt 19 e.2.2 Rn (aS bt aj bd ms) [] bt _ a e.1 (by rw[f];omega) (by simp) h;have l:=GH (aS bt aj bd ms) 2 (.inr R) aI.bw aj 19 d.2.2 Q7 (aS bt aj bd ms) [] aj _ a d.1 (by rw[f];omega) (by simp) i
 have p:=RU (aS bt aj bd ms) bd 0 c.2.2 (aS bt aj bd ms) [] bd _ a c.1 (by rw[f];omega) (by simp) j;have r:=Re 1 (.inl R) ms bt b e.1 (by omega);have s:=Re 2 (.inr R) ms aj b d.1 (by omega);have t:=Rp ms bd b c.1 (by omega);simp only[Int.cast_ofNat_Int]at k l;omega
theorem vA{a:Z}(h:fc a):0<=a/\a<=1073741824/\a%4=0:=by
 obtain⟨⟨b,c⟩,d⟩:=h;omega
structure agG (os:L aF) (bt aj bd:Z):Prop where
 valid:∀m∈mJ os bt aj bd,yl m.obj
 nice:∀m∈mJ os bt aj bd,eI os.length m
 low:∀m∈mJ os bt aj bd,uf m
 Zt:∀m∈mJ os bt aj bd,∀s∈m.means,oN s
 start:Gq os.length (gX os ml)
 Ex:ni (kK os bt aj bd)
theorem TF(e:∀o∈os,yl o)(p:ah os<=48)(k:fc bt)(j:fc aj)(h:fc bd):agG os bt aj bd:=by
 have A:=Kv os e;have t:=vA k;have f:=vA j;have d:=vA h;have b:(fH os (os.map dV)).length=ah os:=by simp[fH]
 have a:∀m∈fH os (os.map dV),yl m.obj:=λm a=>(A m a).obj
 have V:∀m∈mJ os bt aj bd,yl m.obj:=qf (ack _ bt aj bd) a
 have low:∀m∈mJ os bt aj bd,uf m:=ac6 a (by omega) (by omega) (by omega) (by omega)
 have sl:=Sy os ml e;have c:=qf (DA _) (qf (sk _ bt aj bd) a);have g:(fU (aS bt aj bd (fH os (os.map dV)))).length=ah os:=by unfold fU;rw[fZ,sj,b]
 have L:=aby (ms:=fU (aS bt aj bd (fH os (os.map dV)))) (bt:=bt) (aj:=aj) (bd:=bd) c (by omega) t f d;refine⟨V,abz (λm a=>(A m a).nice) a (by omega) (by omega) (by omega) (by omega),low,afc aI.means (P:=λl=>∀s∈l,oN s) (aaV _ bt aj bd) (λm a=>(A m a).low),⟨?_,λi a=>Li os _ i a⟩,?_⟩
 ·unfold oN at sl;omega
 ·have s:=Q6 low (gX os ml) sl;have q:=Rp _ bd c d.1 (by omega);have r:=abd _ (iY (fU (aS bt aj bd (fH os (os.map dV)))) bd) c (by omega) (by omega);refine⟨?_,?_,?_,?_,L,?_⟩
  ·show 0<=kJ _ _/\kJ _ _<_;exact⟨s.1,by have:=s.2;omega⟩
  ·show 0<=bt/\bt<4294967296;omega
  ·show 0<=aj/\aj<4294967296;omega
  ·show 0<=bd/\bd<4294967296;omega
  ·show 0<=oH bd _/\oH bd _<=65535;unfold oH;omega
theorem ZT(W0:av)(P:M)(bt aj bd:Int)(vm:aC)(X gl:L M)(ms:L aI)(st:gL)(no:Int)(a:M)(c:cq)(W:av)(h:iP W0 P bt aj bd vm X gl ms st no W)(Z:∀m∈ms,eI (ah X) m)(hi:ij W a c)(C:ni c):
  Calls prog 39 #[bO P,bO a] W λe a=>e=aH (bY (nT c ms))/\az W a N:=by
 have HP:=ae h;have Q:=ae hi;have HN:=ae Z;have HT:=ae C;have b:=ae (show nT c ms=if ¬rq c then ⟨36,0,[]⟩else if (rD ms).e≠0 then rD ms else if (fi c c.start).isSome then eM else ⟨35,0,[]⟩from R);have G0:=ae (aG W (.cells #[I J 0,I J 0,aB ⟨#[]⟩] 27) N);have B0:=ae (aA.new W #[I J 0,I J 0,aB ⟨#[]⟩] 27);have g:=ae (λV (b:az W V N)=>QT a c V (Q.o.kept b) C);have Y:=ae (λV (b:az W V N)=>ZW W0 P bt aj bd vm X gl ms st no V (HP.o.kept b) Z);have cC:=ae (λV (b:az W V N)=>GN a c c.start V (Q.o.kept b) C C.start.1 C.start.2)
 clear h Z hi C;unfold bO at *;go_enter func39,ntmps39;go_wp2_with fail;refine(g.o _ G0.o).mono ?_;rintro e U ⟨tv,i⟩;have O:=ae (ya G0.o i);have d:=ae (B0.o.grown i (by simp));clear i g;rcases tv.split with ⟨rfl,H⟩|⟨rfl,H⟩
 ·have E:=ae (show nT c ms=⟨36,0,[]⟩ by rw[b.o,aD H.o]);clear tv H;have y:aq U ⟨W.heap.size,0,N⟩=S (I J 0):=d.o.cell 0;have z:aq U ⟨W.heap.size,1,N⟩=S (I J 0):=d.o.cell 1;have A:aq U ⟨W.heap.size,2,N⟩=S (aB ⟨#[]⟩):=d.o.cell 2;have s:=d.o.free 0;have t:=d.o.free 1;have x:=d.o.free 2;go_wp2;have F:=((d.o.set 0 (I J 36)).set 1 (I J 0)).set 2 (aB ⟨#[]⟩);have k:=F.cell 0;have i:=F.cell 1;have g:=F.cell 2;simp only[dt,dB,dC,bI,bB,bL]at k i g
  refine bj (v:=bY ⟨36,0,[]⟩) ?_ R ⟨by rw[E.o],iC O.o _ (bz _) _ _ _⟩;clear F y z A s t x;generalize aK _ _ _=s at *;simp[results,results39,go_sem,bY,bs,k,i,g]
 ·have R2:=ae (show nT c ms=if (rD ms).e≠0 then rD ms else if (fi c c.start).isSome then eM else ⟨35,0,[]⟩ by rw[b.o,ax (not_not_intro H.o)]);clear tv H b;generalize rD ms=f at *;obtain⟨j,l,p⟩:=f;unfold bY at Y;dsimp only at *;go_wp2_with fail;refine(Y.o _ O.o).mono ?_;rintro e q ⟨rfl,g⟩;have i:=aG q (.cells #[I J j,I J l,aB (bs p)] 27) N;have D:=ae (ya (ya O.o g) i);have iF:=ae (aA.new q #[I J j,I J l,aB (bs p)] 27);have k:=ae (d.o.grown (ya g i) (by simp));have T:=ae (oc d.o.lt g.size)
  clear g i Y d;have hne:W.heap.size≠q.heap.size:=by have:=T.o;omega
  have d:=k;clear k;by_cases G:j=0
  ·subst G;have sR:=ae (show nT c ms=if (fi c c.start).isSome then eM else ⟨35,0,[]⟩ by rw[R2.o,ax (by simp)]);have i:(q.alloc (.cells #[I J 0,I J l,aB (bs p)] 27)).cell? ⟨a,0,N⟩=S (I J c.start):=by
    obtain⟨s,r,k,g,-⟩:=Q.o;exact yd (g.cell 0) D.o
   go_wp2_with fail;refine(cC.o _ D.o).mono ?_;rintro e r ⟨rfl,n,hw⟩;subst hw;have G3:=ae (ye D.o n);have d:=ae (d.o.drewN n);clear i cC D;generalize (q.alloc (.cells #[I J 0,I J l,aB (bs p)] 27)).drewN n=r at *
   cases K:(fi c c.start).isSome
   ·have E:=ae (show nT c ms=⟨35,0,[]⟩ by rw[sR.o,K];rfl);clear K;have y:aq r ⟨W.heap.size,0,N⟩=S (I J 0):=d.o.cell 0;have z:aq r ⟨W.heap.size,1,N⟩=S (I J 0):=d.o.cell 1;have A:aq r ⟨W.heap.size,2,N⟩=S (aB ⟨#[]⟩):=d.o.cell 2;have s:=d.o.free 0;have t:=d.o.free 1;have x:=d.o.free 2;go_wp2;have F:=((d.o.set 0 (I J 35)).set 1 (I J 0)).set 2 (aB ⟨#[]⟩);have k:=F.cell 0;have i:=F.cell 1;have g:=F.cell 2;simp only[dt,dB,dC,bI,bB,bL]at k i g
    refine bj (v:=bY ⟨35,0,[]⟩) ?_ R ⟨by rw[E.o],iC G3.o _ (bz _) _ _ _⟩;clear F y z A s t x;generalize aK _ _ _=s at *;simp[results,results39,go_sem,bY,bs,k,i,g]
   ·have E:=ae (show nT c ms=eM by rw[sR.o,K];rfl);clear K;have y:aq r ⟨W.heap.size,0,N⟩=S (I J 0):=d.o.cell 0;have z:aq r ⟨W.heap.size,1,N⟩=S (I J 0):=d.o.cell 1;have A:aq r ⟨W.heap.size,2,N⟩=S (aB ⟨#[]⟩):=d.o.cell 2;have s:=d.o.free 0;have t:=d.o.free 1;have x:=d.o.free 2;go_wp2;have F:=((d.o.set 0 (I J 0)).set 1 (I J 0)).set 2 (aB ⟨#[]⟩);have k:=F.cell 0;have i:=F.cell 1;have g:=F.cell 2;simp only[dt,dB,dC,bI,bB,bL]at k i g
    refine bj (v:=bY eM) ?_ R ⟨by rw[E.o],iC G3.o _ (bz _) _ _ _⟩;clear F y z A s t x;generalize aK _ _ _=s at *;simp[results,results39,go_sem,bY,eM,bs,k,i,g]
  ·have r:(j==0)=false:=by simpa using G
   have K:(j != 0)=true:=by simpa using G
   have E:=ae (show nT c ms=⟨j,l,p⟩ by rw[R2.o,aD G]);clear G;have y:(q.alloc (.cells #[I J j,I J l,aB (bs p)] 27)).cell? ⟨W.heap.size,0,N⟩=S (I J 0):=d.o.cell 0;have z:(q.alloc (.cells #[I J j,I J l,aB (bs p)] 27)).cell? ⟨W.heap.size,1,N⟩=S (I J 0):=d.o.cell 1;have A:(q.alloc (.cells #[I J j,I J l,aB (bs p)] 27)).cell? ⟨W.heap.size,2,N⟩=S (aB ⟨#[]⟩):=d.o.cell 2;have s:=d.o.free 0;have t:=d.o.free 1;have x:=d.o.free 2;go_wp2;have F:=((d.o.set 0 (I J j)).set 1 (I J l)).set 2 (aB (bs p))
   have k:=F.cell 0;have i:=F.cell 1;have g:=F.cell 2;simp only[dt,dB,dC,bI,bB,bL]at k i g;refine bj (v:=bY ⟨j,l,p⟩) ?_ R ⟨by rw[E.o],iC D.o _ (bz _) _ _ _⟩;clear F y z A s t x;generalize aK _ _ _=s at *;simp[results,results39,go_sem,bY,bs,k,i,g]
def Ab(o:aF):Prop:=∀y∈o.aE,0<=y.au/\0<=y.bind
theorem MF{n:L aL}{y:dz}(h:0<=y.au/\0<=y.bind):su n y=T↔(y.name=n/\gK y=T):=by
 unfold su gK;simp only[jO,gO,zW,decide_eq_false_iff_not];constructor
 ·rintro⟨a,b,c⟩;exact⟨a,by omega,by omega⟩
 ·rintro⟨a,b,c⟩;exact⟨a,by omega,by omega⟩
theorem Ef(h:Ab o)(n:L aL):mF o n=T↔∃y∈o.aE,y.name=n/\gK y=T:=by
 unfold mF;rw[vX];constructor
 ·rintro⟨y,a,b⟩;exact⟨y,a,(MF (h y a)).1 b⟩
 ·rintro⟨y,a,b⟩;exact⟨y,a,(MF (h y a)).2 b⟩
theorem Mz(h:∀o∈os,Ab o)(n:L aL):(os.any λo=>mF o n)=oG os n:=by
 rw[vg];unfold oG;rw[vX,vX];constructor
 ·rintro⟨o,a,b⟩;obtain⟨y,c,d,e⟩:=(Ef (h o a) n).1 b;exact⟨o,a,by rw[vX];exact⟨y,c,by simp[d,e]⟩⟩
 ·rintro⟨o,a,b⟩;rw[vX]at b;obtain⟨y,c,d⟩:=b;simp only[jO,gO]at d;exact⟨o,a,(Ef (h o a) n).2 ⟨y,c,d⟩⟩
theorem MI(h:∀o∈os,Ab o)(n:L aL):n∈sw os↔(pM os n=T/\oG os n=F):=by
 unfold sw qp qs pM;rw[vX];simp only[List.mem_flatMap,mh,List.mem_filter];constructor
 ·rintro⟨o,b,y,⟨c,a⟩,rfl⟩;unfold yh at a;rw[Mz h]at a;simp only[jO,gO,zW]at a
  have:=(h o b y c).1
  refine⟨⟨o,b,?_⟩,a.2⟩;rw[vX];exact⟨y,c,by unfold jh;simp only[jO,gO];exact⟨trivial,a.1.2,by omega⟩⟩
 ·rintro⟨⟨o,b,d⟩,f⟩;rw[vX]at d;obtain⟨y,c,a⟩:=d;unfold jh at a;simp only[jO,gO]at a;obtain⟨rfl,e,g⟩:=a;refine⟨o,b,y,⟨c,?_⟩,R⟩;unfold yh;rw[Mz h];simp only[jO,gO,zW];exact⟨⟨by omega,e⟩,f⟩
theorem UX(h:∀o∈os,Ab o)(c:Ab o):((sw os).any λn=>mF o n)=rE os o:=by
 rw[vg];unfold rE;rw[vX,vX];constructor
 ·rintro⟨n,g,f⟩;obtain⟨a,d⟩:=(MI h n).1 g;obtain⟨y,b,rfl,e⟩:=(Ef c n).1 f;exact⟨y,b,by simp[a,d,e]⟩
 ·rintro⟨y,b,a⟩;simp only[jO,zW]at a;exact⟨y.name,(MI h y.name).2 a.2,(Ef c y.name).2 ⟨y,b,R,a.1⟩⟩
theorem yl.Qv(h:yl o):Ab o:=by
 intro y b;obtain⟨i,a,rfl⟩:=kY b;exact⟨(h.2.2.2.1 i a).1.2.2.1.1,(h.2.2.2.1 i a).1.2.1.1⟩
theorem Tryz.QG:(Tryz.prog.info? 67).map (λi=>(i.zero,i.size,i.bytes))=S (S (.agg #[aM N]),1,8):=by kernel_rfl
structure mO (W0:av) (v:aC) (gl:L M) (os:L aF) (W:av):Prop where
 row:W.ownsRow W0.heap.size 67 1 v gl.length (gl.map bO)
 len:gl.length=os.length
 obj:∀i (h:i<gl.length) (h':i<os.length),yr W gl[i] os[i]
 few:os.length<=48
 val:∀o∈os,yl o
 gr:W0.grownBy W N
section
variable{a W d j:av}{v k:aC}{gl:L M}{os:L aF}{g:M}{o:aF}{row:aR M}{e:dm}
theorem RS{cap:M}{b:aR Addr}{e:dm}(h:aV W B e 1 (ak b n cap) n (gl.map bO)):Bi W b gl:=by
 intro r;have x:ah gl=n:=by have:=h.1;simp at this;omega
 rcases h.2 with ⟨p,s⟩|⟨g,c,l,f,_⟩
 ·simp at p;omega
 ·simp only[Value.slice.injEq]at f;obtain⟨rfl,_,rfl⟩:=f;refine⟨g,0,R,λi t=>?_⟩;have q:=h.cellAt i (by simp;omega);rw[Nat.zero_add,q];simp[bO]
theorem mO.parts{b:aR Addr}{cap:M}(h:mO a (ak b (ah gl) cap) gl os W):oq W b gl os:=⟨RS h.row,h.len,h.obj,h.few,h.val⟩
theorem mO.kept(h:mO a v gl os W)(b:az W d N):mO a v gl os d :=
 ⟨lZ h.row b,h.len,λi c f=>(h.obj i c f).kept b,h.few,h.val,ya h.gr b⟩
theorem mO.ty(h:mO a v gl os W)(c:az W d row)(f:dr W row e)(t:∀b,row=S b->a.heap.size<=b)(l:67≠e)(p:72≠e)(q:3≠e)(r:107≠e)(s:75≠e):mO a v gl os d :=
 ⟨ec h.row c f l,h.len,λi l x=>kU (h.obj i l x) c f p q r s,h.few,h.val,eh h.gr c t⟩
theorem mO.push(h:mO a v gl os W)(t:yr W g o)(y:yl o)(A:ah os<48)(l:az W j v.ownBlock)(s:aV j a.heap.size 67 1 k (ah gl+1) (gl.map bO++[bO g])):mO a k (gl++[g]) (os++[o]) j:=by
 have q:=dr.own h.row;refine⟨by simpa using s,by simp[h.len],λi r z=>?_,by simp;omega,λx c=>?_,eh h.gr l (λb c=>(h.row.lt b c).1)⟩
 ·by_cases p:i<ah gl
  ·have f:i<ah os:=by rw[<- h.len];exact p
   rw[uM p,uM f];exact kU (h.obj i p f) l q (by decide) (by decide) (by decide) (by decide)
  ·rw[bX,xF]at r;obtain rfl:i=ah gl:=by omega
   rw[Np (bz _),Np (by rw[h.len];exact bz _)];simp only[Nat.sub_self,List.getElem_singleton];exact kU t l q (by decide) (by decide) (by decide) (by decide)
 ·rcases nR.1 c with c|c
  ·exact h.val x c
  ·simp only[yL]at c;subst c;exact y
end
def rO(W:av)(b:M)(ts:L bc):Prop:=aA W b (ts.map aJ).toArray 4
theorem rO.set{b:M}{ts:L bc}(h:rO W b ts)(i:M)(x:bc):rO (aK W ⟨b,i,N⟩ (aJ x)) b (ts.set i x):=by
 have:=aA.set h i (aJ x)
 unfold rO;rw[Ar];simpa using this
def eJ(m:aI)(au:M):Z:=lX (m.obj.align.getD (au-1) 0)
def jg(au:M):L aI->Z->L (L Z)
 | [],_=>[]
 |m::r,a=>dU m au 0 (aQ m.obj au) (du a (eJ m au))::jg au r (ff m au 0 (aQ m.obj au) (du a (eJ m au)))
def dn(au:M):L aI->Z->Z
 | [],a=>a
 |m::r,a=>dn au r (ff m au 0 (aQ m.obj au) (du a (eJ m au)))
def eD(bt aj bd:Z)(ms:L aI)(au:M):Z:=if au=1 then bt else if au=2 then aj else if au=3 then bd else dn 3 ms bd
def bg(bt aj bd:Z)(ms:L aI)(i s:M):L Z:=(jg s ms (eD bt aj bd ms s)).getD i []
def ez(bt aj bd:Z)(ms:L aI)(s:M):Z:=dn s ms (eD bt aj bd ms s)
theorem U2(b:M):∀(ms:L aI) (a:Z),(jg b ms a).length=ah ms:=by
 intro ms
 induction ms with
 |nil=>intro a;rfl
 |cons m r c=>intro a;rw[jg,dA,dA,c]
theorem ME(m:aI)(b:Z):∀(ws:L Z) (i:M) (a:Z),a<=ff m b i ws a/\ff m b i ws a<=a+4*ah ws:=by
 intro ws
 induction ws with
 |nil=>intro i a;rw[ff];exact⟨by omega,by simp⟩
 |cons x ws c=>
  intro i a;rw[ff,dA]
  cases eQ m b (4*i) a
  ·have:=c (i+1) a
   simp only[Bool.false_eq_true,if_false];omega
  ·have:=c (i+1) (a+4)
   simp only[jk];omega
theorem MS(h:yl m.obj)(s:M)(c:1<=s)(f:s<=4):∃a:s-1<ah m.obj.align,(m.obj.align[s-1]=2/\eJ m s=4)\/(m.obj.align[s-1]=3/\eJ m s=8)\/(m.obj.align[s-1]=4/\eJ m s=16):=by
 have b:=h.2.1;have a:s-1<ah m.obj.align:=by have:=b.1;omega
 refine⟨a,?_⟩;have d:=b.2 (s-1) a;have e:eJ m s=lX (m.obj.align[s-1]):=by
  unfold eJ;rw[bQ,bW a];rfl
 rw[e];unfold lX;rcases (show m.obj.align[s-1]=2\/m.obj.align[s-1]=3\/m.obj.align[s-1]=4 by omega)with h|h|h<;>rw[h]<;>simp
theorem Ih(h:yl m.obj)(s:M)(c:1<=s)(d:s<=4)(a:Z)(b:0<=a)(f:a<=1099511627776):(a<=du a (eJ m s)/\du a (eJ m s)<=a+15)/\a<=ff m s 0 (aQ m.obj s) (du a (eJ m s))/\ff m s 0 (aQ m.obj s) (du a (eJ m s))<=a+4832:=by
 obtain⟨_,g⟩:=MS h s c d;have r:=ma a (eJ m s) b (by omega) (by omega);have e:=ME m s (aQ m.obj s) 0 (du a (eJ m s));have l:=vN h s;omega
theorem yg(s:M)(d:1<=s)(e:s<=4):∀(ms:L aI) (a:Z),(∀m∈ms,yl m.obj)->0<=a->a+4832*ah ms<=1099511627776->a<=dn s ms a/\dn s ms a<=a+4832*ah ms:=by
 intro ms
 induction ms with
 |nil=>intro a _ _ _;rw[dn];exact⟨by omega,by simp⟩
 |cons m r g=>
  intro a b c f;rw[dA]at f ⊢;have h:=Ih (b m jU) s d e a c (by omega)
  have:=g (ff m s 0 (aQ m.obj s) (du a (eJ m s))) (λx c=>b x (lJ _ c)) (by omega) (by omega)
  rw[dn];omega
theorem U7(m:aI)(c:Z):∀(ws:L Z) (i:M) (a x:Z),x∈dU m c i ws a->a<=x/\x<=a+4*ah ws:=by
 intro ws
 induction ws with
 |nil=>intro i a x b;rw[dU,yL]at b;subst b;exact⟨by omega,by simp⟩
 |cons y ws d=>
  intro i a x b;rw[dU,nk]at b;rw[dA];rcases b with rfl|b
  ·omega
  ·revert b
   cases eQ m c (4*i) a
   ·intro b;have:=d (i+1) a x (by simpa using b);omega
   ·intro b;have:=d (i+1) (a+4) x (by simpa using b);omega
theorem U3(s:M)(f:1<=s)(g:s<=4):∀(ms:L aI) (a:Z),(∀m∈ms,yl m.obj)->0<=a->a+4832*ah ms<=1099511627776->∀l∈jg s ms a,∀x∈l,a<=x/\x<=a+4832*ah ms:=by
 intro ms
 induction ms with
 |nil=>intro a _ _ _ l b;cases b
 |cons m r i=>
  intro a c e h l b x d;rw[dA]at h ⊢;have j:=Ih (c m jU) s f g a e (by omega);have sl:=vN (c m jU) s;rw[jg,nk]at b;rcases b with rfl|b
  ·have:=U7 m s (aQ m.obj s) 0 _ x d
   omega
  ·have:=i _ (λz b=>c z (lJ _ b)) (by omega) (by omega) l b x d
   omega
theorem aey{g:M}{e:dm}{d:L aC}(h:aV w B e 1 (ak (S ⟨g,0,N⟩) n n) n d):aA w g d.toArray e:=by
 rcases h.2 with ⟨i,_⟩|⟨k,a,f,c,_,j,_,_,l,b⟩
 ·simp at i
 ·simp only[Value.slice.injEq,Option.some.injEq,Addr.mk.injEq]at c;obtain⟨⟨rfl,_⟩,_,rfl⟩:=c;rw[mH (by simp;omega)]at b;show _=_;rw[j,<- b]
theorem acs{g:M}(h:aV w B 4 1 (ak (S ⟨g,0,N⟩) n n) n (wY (aJ F).cells (n*1)).toList):rO w g (eP n F):=by
 have a:(wY (aJ F).cells (n*1)).toList=(eP n F).map aJ:=by
  rw[Nat.mul_one];show (wY #[aJ F] n).toList=_;rw[toList_madeCells_one];simp
 rw[a]at h;exact aey h
theorem rO.cell{b:M}{ts:L bc}(h:rO W b ts)(i:M)(a:i<ah ts):aq W ⟨b,i,N⟩=S (aJ ts[i]):=by
 have:=aA.cell h i
 rw[this];simp[a]
theorem SA(m:L aL)(i:fq m)(j:ah m<=1048576)(w:av):
  Calls prog 19 #[aB (bs m)] w λe b=>∃g,e=aH (.tuple #[aM (S ⟨g,0,N⟩),aJ T])/\yr b g (eE m)/\az w b N:=by
 refine(Kt (bs m) w (by rw[nK];exact j)).mono ?_;rintro e b ⟨c,h⟩;rw[GJ,ou]at c;rcases c with ⟨_,g,d,f⟩|⟨a,_⟩
 ·exact⟨g,d,f,h⟩
 ·exact absurd i a
theorem adK(W0:av)(vp:aC)(gl:L M)(os:L aF)(am:aR Addr)(cm bm:M)(ms:L (L aL))(W:av)(h:mO W0 vp gl os W)(hm:aV W bm 9 1 (ak am (ah ms) cm) (ah ms) (iR ms))(MW:∀m∈ms,fq m)(hsz:∀m∈ms,ah m<=1048576)(hn:ah ms<=6)(hc:ah os+ah ms<=48):
  Calls prog 21 #[vp,ak am (ah ms) cm] W λe d=>∃v' a,e=aH v'/\mO W0 v' a (nU (ah ms+1) (fresh (ms.map eE)) os) d:=by
 obtain⟨i1,hi1,hy0,hy1,hy2⟩:=fG Tryz.QF;obtain⟨i2,hi2,hx0,hx1,hx2⟩:=fG Tryz.QG;have H:=ae h;have HM:=ae hm;have sQ:=ae MW;have SZ:=ae hsz;have hcm:=kF hm;clear h hm MW hsz;obtain⟨a,d⟩:∃a,a=nU (ah ms+1) (fresh (ms.map eE)) os:=⟨_,R⟩
 rw[<- d];have HT:=ae d;clear d;have us:=ae (show (fresh (ms.map eE)).length=ah ms/\km (fresh (ms.map eE))=ah ms/\(fresh (ms.map eE)).map wo=ms.map eE/\(fresh (ms.map eE)).map uQ=eP (ah ms) F by
  refine⟨by simp[fresh],by rw[FX,fZ],by simp[fresh,Function.comp_def],?_⟩;apply An
  ·simp[fresh]
  ·intro i x C;simp[fresh])
 generalize fresh (ms.map eE)=ms0 at *;go_enter func21,ntmps21
 go_upto_region 2 with (at_make;refine wpList_make_full _ R _ _ 113 rfl W.heap.size 4 i1 (aJ F) 1 underlying113 hi1 hy0 hy1 .i64 .i64 _ _ (ah ms) R R R R (by rw[hy2];omega) (by unfold maxLen;omega) (bz _) ?_;intro w2 d f;have IN:=ae (acs d);have HV:=ae (H.o.kept f);have HS:=ae (lZ HM.o f);have hib:=H.o.gr.size;clear d f HM H)
 generalize W.heap.size=ib at *;go_wp2
 go_loopg [0,6] (ah ms+1) (λg t r wr=>∃(s:bc) (l:L (aF×bc)) (p:L aF) (ti:L M),r=aJ s/\mO W0 t ti p wr/\rO wr ib (l.map uQ)/\l.map wo=ms.map eE/\(ah p)+km l<=48/\aV wr bm 9 1 (ak am (ah ms) cm) (ah ms) (iR ms)/\(s=T->km l+1<=g/\a=nU g l p)/\(s=F->a=p))
 case atStart=>exact⟨T,ms0,os,gl,R,HV.o,by rw[us.o.2.2.2];exact IN.o,us.o.2.2.1,by rw[us.o.2.1];exact hc,HS.o,λ_=>⟨by rw[us.o.2.1];omega,HT.o⟩,λc=>by cases c⟩
 case round=>
  obtain⟨s,l,p,ti,rfl,hd,Y,Hx,hb,hs,hy,hno⟩:=hrel
  cases s with
  |false=>
   have E:=ae (hno R);have HD:=ae hd;clear hd Y hs hy hno HV HS IN;obtain⟨ap,cp,rfl⟩:=yi HD.o.row;go_wp2;go_ret;rw[E.o];exact⟨_,ti,R,HD.o⟩
  |true=>
   obtain⟨hk,d⟩:=hy R;obtain⟨gk',rfl⟩:∃k,gk=k+1:=⟨gk-1,by omega⟩
   have E:=ae d;have HD:=ae hd;have PY:=ae Y;have Pz:=ae hs;have hl1:ah l=ah ms:=by have:=congrArg ah Hx;simpa using this
   have NM:=ae Hx;clear hd Y hs hy hno d Hx HV HS IN;obtain⟨ap,cp,rfl⟩:=yi HD.o.row;go_wp2
   go_loopw [0,6,7] (λt r i wr=>∃(j:M) (rN:bc) (d:L (aF×bc)) (f:L aF) (O:L M),j<=ah ms/\i=I J j/\r=aJ rN/\mO W0 t O f wr/\rO wr ib (d.map uQ)/\d.map wo=ms.map eE/\ot l p j d f rN/\(ah f)+km d<=48/\aV wr bm 9 1 (ak am (ah ms) cm) (ah ms) (iR ms)) (λ_ _ i _=>ah ms-(aN i).toNat)
   case atStart=>exact⟨0,F,l,p,ti,bG _,R,R,HD.o,PY.o,NM.o,ot.start _ _,hb,Pz.o⟩
   case round=>
    clear HD PY Pz NM;obtain⟨j,rN,d,f,O,hj,rfl,rfl,t,r,z,x,X,y⟩:=hrel;have U:=ae t;have V:=ae r;have qN:=ae x;have G:=ae y;have jl:=ae z;obtain⟨YT,cp2,rfl⟩:=yi t.row;clear t r x y z;by_cases D:j<ah ms
    ·have S:j<ah l:=by omega
     have z:j<ah d:=by rw[qN.o.len];exact S
     obtain⟨sg,so,rfl,r⟩:=uA.dh G.o (by omega);have K:=r j D;have JM:=ae (sQ.o ms[j] (bN D)).1;have A:=ae (λW=>SA ms[j] (sQ.o ms[j] (bN D)) (SZ.o ms[j] (bN D)) W);have g1:(j:Z)<(ah ms:Z):=by omega
     have YES:=ae (qN.o.iV S z);have NO:=ae (qN.o.no S z);have Ff:=ae (show d[j].1=eE ms[j] by
      have x:(d.map wo)[j]?=(ms.map eE)[j]?:=by rw[jl.o]
      rw[jS,jS,bW z,bW D]at x;simpa using x)
     clear r;generalize ms[j]=mj at *;generalize eE mj=t at *;have hns:=JM.o.sX;have sU:=ae JM.o.Qv
     go_upto_region 9 with (go_at_call 19;refine(A.o _).mono ?_;rintro e W5 ⟨g5,rfl,Oe,h5⟩)
     have r:=ae (U.o.kept h5);have C:=ae (show rO W5 ib (d.map uQ)from aA.grown V.o h5 (by simp));have y:=ae (lZ G.o h5);have x:=ae Oe;clear h5 A K Oe U V G;have K:=ae (abv YT cp2 O f W5 r.o.parts)
     go_upto_region 10 with (go_at_call 52;refine K.o.mono ?_;rintro e W6 ⟨vl,rfl,ol,h6⟩)
     have A:=ae (r.o.kept h6);have PV:=ae (show rO W6 ib (d.map uQ)from aA.grown C.o h6 (by simp));have Pu:=ae (lZ y.o h6);have C9:=ae (x.o.kept h6);have NQ:=ae ol;obtain⟨al,cl,rfl⟩:=yi ol;have uV:=ae (UX (os:=f) (o:=t) (λo a=>(A.o.val o a).Qv) sU.o);have hll:(sw f).length<=768:=by
      have:=MG f f λo a=>(A.o.val o a).sX
      have:=A.o.few
      unfold sw;omega
     clear h6 ol K r C y x;generalize sw f=y at *;go_wp2
     go_loopw [11,12] (λv i wr=>∃(m:M) (b:bc),m<=ah y/\i=I J m/\v=aJ b/\rE f t=(b ||(y.drop m).any λn=>mF t n)/\az W6 wr N) (λ_ i _=>ah y-(aN i).toNat)
     case atStart=>exact⟨0,F,bG _,R,R,uV.o.symm,aW _ _⟩
     case round=>
      obtain⟨m,b,hm,rfl,rfl,r,x⟩:=hrel;have Ay:=ae r;have P:=ae x;clear r x;by_cases K:m<ah y
      ·obtain⟨Qs,lo,rfl,r⟩:=uA.dh (lZ NQ.o P.o) (by omega);have x:=r m K;have C:=ae (show rE f t=((b ||mF t y[m]) ||(y.drop (m+1)).any λn=>mF t n) by rw[Ay.o,fv K,List.any_cons,Bool.or_assoc]);have Q:=ae (Sk g5 t y[m] wr (C9.o.kept P.o) (by omega));clear r;generalize mF t y[m]=gv at *;generalize y[m]=lm at *;have g3:(m:Z)<(ah y:Z):=by omega
       go_upto_region 15 with (go_at_call 53;refine Q.o.mono ?_;rintro e w' ⟨rfl,hq⟩)
       have r:=ae (ya P.o hq);clear hq x Q
       cases b
       ·go_wp2
        go_roundw
        case rel=>exact⟨m+1,gv,by omega,by go_num,R,C.o,r.o⟩
        case measure=>simp[aN];omega
       ·go_wp2
        go_roundw
        case rel=>exact⟨m+1,T,by omega,by go_num,R,C.o,r.o⟩
        case measure=>simp[aN];omega
      ·obtain rfl:m=ah y:=by omega
       have MU:=ae (show rE f t=b by rw[Ay.o,jJ];simp);have g3:decide ((ah y:Z)<(ah y:Z))=F:=by simp
       have r:=ae (A.o.kept P.o);have A8:=ae (show rO wr ib (d.map uQ)from aA.grown PV.o P.o (by simp));have FH:=ae (lZ Pu.o P.o);have NK:=ae (C9.o.kept P.o);have tj:=A8.o.cell j (by rw[fZ];exact z);rw[wb]at tj;have fj:=aA.free A8.o j;clear Ay A PV Pu C9 NQ
       cases b
       ·have Q:=ae (NO.o (λc=>by rw[Ff.o,MU.o]at c;cases c.2));go_wp2
        go_roundw
        case rel=>exact⟨j+1,rN,d,f,O,by omega,by go_num,R,r.o,A8.o,jl.o,Q.o,X,FH.o⟩
        case measure=>simp[aN];omega
       ·cases ht:d[j].2 with
        |true=>
         rw[ht]at tj;have Q:=ae (NO.o (λc=>by rw[ht]at c;cases c.1));clear ht;go_wp2
         go_roundw
         case rel=>exact⟨j+1,rN,d,f,O,by omega,by go_num,R,r.o,A8.o,jl.o,Q.o,X,FH.o⟩
         case measure=>simp[aN];omega
        |false=>
         rw[ht]at tj;have Q:Hd (ot l p (j+1) (d.set j (t,T)) (f++[t]) T):=by
          have q:=YES.o ht (by rw[Ff.o];exact MU.o);rw[Ff.o]at q;exact q
         have US:=ae (Ks d j z t ht);clear ht;have Zh:=US.o;have YK:ah f<48:=by omega
         have aiu:ah O<=47:=by have:=r.o.len;omega
         have hsw:=r.o.gr.size;have YH:=ae (show (d.set j (t,T)).map wo=ms.map eE by
          rw[<- jl.o,Ar];refine An (by simp) λi x C=>?_
          by_cases e:j=i
          ·subst e;rw[List.getElem_set_self,wb,Ff.o]
          ·rw[List.getElem_set_ne e])
         have YN:=ae (show (d.set j (t,T)).map uQ=(d.map uQ).set j T by rw[Ar])
         go_upto_region 18 with (at_builtin;refine wpList_append_own_at _ R _ _ 36 rfl W0.heap.size 67 i2 (.agg #[aM N]) 1 8 underlying36 hi2 hx0 hx1 hx2 R (by decide) _ _ _ R (r.o.row.alloc _) ⟨wr.heap.size,0,N⟩ 1 1 [bO g5] rfl rfl (vQ _ _ _) (by intro u x;simp at x;rcases x with rfl;rfl) (by unfold maxLen;omega) (by omega) (by simp;omega) ?_;intro v' w3 x C _ hat;have FD:=ae C;have HOW:=ae x;obtain⟨gR,cv',rfl⟩:=yi x;clear C x hat)
         have x:=aG wr (.cells #[bO g5] 67) N;have JW:=dr.own (r.o.kept x).row;have Om:=ae ((r.o.kept x).push (NK.o.kept x) JM.o YK FD.o HOW.o);have C:=ae (show rO w3 ib (d.map uQ)from fh (aA.grown A8.o x (by simp)) FD.o JW (by decide));have Pv:=ae (ec (lZ FH.o x) FD.o JW (by decide));clear x JW r A8 FH NK FD HOW tj fj;have tj:=C.o.cell j (by rw[fZ];exact z);have fj:=aA.free C.o j;have JF:=bK w3 ib j (aJ T);have JV:=dr.aO C.o;have x:=ae (Om.o.ty JF JV (by intro b e;simp at e;omega) (by decide) (by decide) (by decide) (by decide) (by decide))
         have PW:=ae (C.o.set j T);have VI:=ae (ec Pv.o JF JV (by decide));rw[<- YN.o]at PW;clear JF JV Om C Pv;go_wp2
         go_roundw
         case rel=>exact⟨j+1,T,d.set j (t,T),f++[t],O++[g5],by omega,by go_num,R,x.o,PW.o,YH.o,Q.o,by rw[bX,xF];omega,VI.o⟩
         case measure=>simp[aN];omega
    ·obtain rfl:j=ah ms:=by omega
     have Q:=ae (qN.o.fin (by omega));have g3:decide ((ah ms:Z)<(ah ms:Z))=F:=by simp
     have r:=ae (show a=if (fI l p).2.2=T then nU gk' (fI l p).1 (fI l p).2.1 else (fI l p).2.1 from E.o);rw[Q.o]at r;have t:=qN.o.un;dsimp only at r;go_wp2
     go_roundg gk'
     case measure=>omega
     case rel=>
      refine⟨rN,d,f,O,R,U.o,V.o,jl.o,X,G.o,λc=>?_,λc=>?_⟩
      ·subst c;simp only[jk]at t;exact⟨by omega,by rw[r.o,aD R]⟩
      ·subst c;rw[r.o,ax (by decide)]
def fA(os:L aF)(T:M->M->L Z):aR (M×M)->Z
 |none=>0
 |some p=>(T p.1 (fu os p.1 p.2).au.toNat).getD ((fu os p.1 p.2).off/4).toNat 0
theorem Dz(h:yl o)(s:M)(a:1<=s)(b:s<=4):((aQ o s).length:Z)=iU o s:=by
 have c:=h.1.2.1.1;unfold aQ oe iU;rcases (show s=1\/s=2\/s=3\/s=4 by omega)with rfl|rfl|rfl|rfl
 ·rfl
 ·rfl
 ·rfl
 ·rw[aD (by omega),aD (by omega),List.length_replicate];omega
theorem DG(f:∀o∈os,yl o){i k:M}(e:lD os (i,k)){p:M×M}(h:dL os i k=S p):lD os p/\1<=(fu os p.1 p.2).au:=by
 refine⟨Ic e h,?_⟩;unfold dL at h;split at h
 ·rename_i d
  cases h
  obtain⟨a,b⟩:=e;dsimp only at a b ⊢;have j:=((f os[i] (bN a)).2.2.2.1 k b).1;rw[vP a b]at d ⊢;obtain⟨-,-,⟨l,-⟩,g,-⟩:=j
  have:os[i].aE[k].au≠0:=λc=>g ⟨c,d⟩
  omega
 ·have:=(Eg (List.mem_of_mem_head? h)).2
  unfold pC at this;rcases this with h|h
  ·simp only[jO,gO]at h;omega
  ·simp only[jO,gO]at h;omega
def yc(G:M->M->bc)(a n:M):L bc:=(rA n).map (G a)
theorem MC(G:M->M->bc)(a n:M):(yc G a n).length=n:=by unfold yc;rw[fZ,List.length_range]
theorem MB(G:M->M->bc)(a n k:M)(h:k<(yc G a n).length):(yc G a n)[k]=G a k:=by simp[yc]
def Ae(os:L aF)(i k:M):cg:=((os[i]?.map (·.ay)).getD []).getD k ⟨0,0,0,0,0⟩
def Eb(os:L aF)(T:M->M->L Z)(i k:M):Z:=fA os T (dL os i (Ae os i k).sym.toNat)
def Ei(os:L aF)(T:M->M->L Z)(i k:M):Z:=(T i (Ae os i k).au.toNat).getD ((Ae os i k).off/4).toNat 0
def Ac(os:L aF)(T:M->M->L Z)(i k:M):Z:=Eb os T i k-Ei os T i k
def Ej(os:L aF)(T:M->M->L Z)(i k:M):bc:=decide ((Ae os i k).kind=4)&&(decide (-1015808<Ac os T i k)&&decide (Ac os T i k<1015808))
theorem DJ{i k:M}(a:i<ah os)(b:k<os[i].ay.length):Ae os i k=os[i].ay[k]:=by
 unfold Ae;rw[bW a,Option.map_some,rI,bQ,bW b,rI]
theorem agD(b:∀m∈ms,yl m.obj)(q:ah ms<=48)(r:0<=bt/\bt<=1073741824)(p:0<=aj/\aj<=1073741824)(g:0<=bd/\bd<=1073741824)(i s k:M)(d:1<=s)(e:s<=4):0<=(bg bt aj bd ms i s).getD k 0/\(bg bt aj bd ms i s).getD k 0<=2147483648:=by
 have j:=yg 3 (by omega) (by omega) ms bd b g.1 (by omega);have c:0<=eD bt aj bd ms s/\eD bt aj bd ms s<=1074741824:=by
  unfold eD;split
  ·omega
  ·split
   ·omega
   ·split<;>omega
 have a:=U3 s d e ms (eD bt aj bd ms s) b c.1 (by omega);unfold bg;generalize jg s ms (eD bt aj bd ms s)=A at *;rw[bQ,bQ]
 cases f:A[i]? with
 |none=>simp
 |some l=>
  rw[rI]
  cases h:l[k]? with
  |none=>simp
  |some x=>
   rw[rI]
   have:=a l (pI f) x (pI h)
   omega
theorem H9(h:yl m.obj)(s:Z)(g:s=3\/s=4)(a c:Z):eQ m s a c=T:=by
 have f:(cB s a 0 m.obj.ay).2.kind=0\/(cB s a 0 m.obj.ay).2.kind=1:=by
  have K:∀(b:L cg) (k:M),(∀r∈b,lz r)->(cB s a k b).2.kind=0\/(cB s a k b).2.kind=1:=by
   intro b
   induction b with
   |nil=>intro k _;exact .inl R
   |cons r b e=>
    intro k d;rw[cB];split
    ·rename_i c
     have:=d r jU
     unfold lz at this;dsimp only;omega
    ·exact e (k+1) λx a=>d x (lJ _ a)
  refine K m.obj.ay 0 λr d=>?_
  obtain⟨i,b,rfl⟩:=kY d;exact(h.rel i b).1
 unfold eQ;rw[ax (by omega),ax (by omega)]
theorem Cd(h:yl m.obj)(s:Z)(d:s=3\/s=4):∀(ws:L Z) (i:M) (a:Z),(∀k,k<=ah ws->(dU m s i ws a).getD k 0=a+4*k)/\ff m s i ws a=a+4*ah ws:=by
 intro ws
 induction ws with
 |nil=>
  intro i a;refine⟨λk b=>?_,by rw[ff];simp⟩;obtain rfl:k=0:=by simpa using b
  rw[dU];simp
 |cons x ws e=>
  intro i a;have c:=H9 h s d (4*i) a
  have:=e (i+1) (a+4)
  refine⟨λk b=>?_,?_⟩
  ·rw[dU,c]
   cases k with
   |zero=>simp
   |succ k=>
    have q:=this.1 k (by simpa using b);rw[uK];simp only[jk];rw[q];omega
  ·rw[ff,c];simp only[jk];rw[this.2,dA];omega
theorem HY(m:aI)(s:M):eJ m s=dG m.obj s:=R
theorem me(o:aF)(s:M)(h:s=1\/s=2\/s=3):aQ o s=yp o s:=by
 unfold aQ oe;rcases h with rfl|rfl|rfl<;>rfl
theorem MP(s:M)(a:s=1\/s=2):∀(ms:L aI) (t f d:Z),jg s ms (if s=1 then t else f)=(iv ms t f d).map (λm=>if s=1 then m.text else m.bw):=by
 intro ms
 induction ms with
 |nil=>intro t f d;rfl
 |cons m r b=>
  intro t f d;rw[iv,jT,<- b,jg,me m.obj s (by omega),HY];rcases a with rfl|rfl
  ·rfl
  ·rfl
theorem MQ(s:M)(c:s=1\/s=2):∀(ms:L aI) (a:Z),dn s ms a=pZ s ms a:=by
 intro ms
 induction ms with
 |nil=>intro a;rfl
 |cons m r b=>
  intro a;rw[dn,me m.obj s (by omega),HY,b];rfl
theorem Eh:∀(ms:L aI) (a:Z),(∀m∈ms,yl m.obj)->dn 3 ms a=iY ms a:=by
 intro ms
 induction ms with
 |nil=>intro a _;rfl
 |cons m r c=>
  intro a b;rw[dn,iY,me m.obj 3 (by omega),((Cd (b m jU) ((3:M):Z) (by omega)) _ _ _).2,c _ λx c=>b x (lJ _ c)];rfl
theorem Ii(h:yl m.obj):((aQ m.obj 4).length:Z)=m.obj.bf:=by
 have:=Dz h 4 (by omega) (by omega)
 rw[this];rfl
theorem UI:∀(ms:L aI) (a:Z),(∀m∈ms,yl m.obj)->dn 4 ms a=nl ms a:=by
 intro ms
 induction ms with
 |nil=>intro a _;rfl
 |cons m r c=>
  intro a b;rw[dn,nl,((Cd (b m jU) ((4:M):Z) (by omega)) _ _ _).2,Ii (b m jU),c _ λx c=>b x (lJ _ c)];rfl
theorem UF:∀(ms:L aI) (t f d:Z) (i:M),(∀m∈ms,yl m.obj)->(h:i<(iv ms t f d).length)->(a:i<ah ms)->∀k,k<=ms[i].obj.data.length->((jg 3 ms d).getD i []).getD k 0=(iv ms t f d)[i].data+4*k:=by
 intro ms
 induction ms with
 |nil=>intro t f d i _ _ a;exact absurd a (ji _)
 |cons m r g=>
  intro t f d i c h a k b;have e:=Cd (c m jU) ((3:M):Z) (by omega) (aQ m.obj 3) 0 (du d (eJ m 3));rw[jg]
  cases i with
  |zero=>exact e.1 k (by rw[me m.obj 3 (by omega)];exact b)
  |succ i=>
   have q:=g (iG m 1 t) (iG m 2 f) (du d (dG m.obj 3)+4*ah m.obj.data) i (λx a=>c x (lJ _ a)) (by simpa[iv]using h) (by simpa using a) k b;rw[uK,e.2,me m.obj 3 (by omega)];exact q
theorem UH:∀(ms:L aI) (a:L aI) (b:Z) (i:M),a.map aI.obj=ms.map aI.obj->(∀m∈ms,yl m.obj)->(h:i<(gE a b).length)->(d:i<ah ms)->∀k:M,(k:Z)<=ms[i].obj.bf->((jg 4 ms b).getD i []).getD k 0=(gE a b)[i].bf+4*k:=by
 intro ms
 induction ms with
 |nil=>intro a b i _ _ _ d;exact absurd d (ji _)
 |cons m r v=>
  intro a b i c e h d k j
  cases a with
  |nil=>simp at c
  |cons n a=>
   rw[jT,jT]at c;obtain⟨f,s⟩:=List.cons.inj c;have l:=Cd (e m jU) ((4:M):Z) (by omega) (aQ m.obj 4) 0 (du b (eJ m 4));have p:=Ii (e m jU);have g:eJ m 4=dG n.obj 4:=by rw[HY,f]
   rw[jg]
   cases i with
   |zero=>
    have q:=l.1 k (by have t:(k:Z)<=m.obj.bf:=j;omega);rw[g]at q ⊢;exact q
   |succ i=>
    have q:=v a (du b (dG n.obj 4)+4*n.obj.bf) i s (λx a=>e x (lJ _ a)) (by simpa[gE]using h) (by simpa using d) k j;rw[uK,l.2,p,g,<- f];exact q
theorem Ia(g:∀m∈ms,yl m.obj)(i s:M)(f:i<ah ms)(d:i<(aS bt aj bd ms).length)(z:1<=s)(A:s<=4)(a:Z)(q:0<=a)(C:a%4=0)(p:a<=4*iU ms[i].obj s):
  dR (aS bt aj bd ms)[i] s a=(bg bt aj bd ms i s).getD (a/4).toNat 0:=by
 have y:=g ms[i] (bN f);have j:i<(iv ms bt aj bd).length:=by rw[Dx];exact f
 have k:∀(c:L aI) (b:Z) (i:M) (h:i<(gE c b).length) (e:i<ah c),(gE c b)[i].text=c[i].text/\(gE c b)[i].bw=c[i].bw/\(gE c b)[i].data=c[i].data:=by
  intro c
  induction c with
  |nil=>intro b i _ e;exact absurd e (ji _)
  |cons n c r=>
   intro b i h e
   cases i with
   |zero=>exact⟨R,R,R⟩
   |succ i=>exact r _ i (by simpa[gE]using h) (by simpa using e)
 obtain⟨t,v,x⟩:=k (iv ms bt aj bd) (iY ms bd) i d j;have D:0<=a/4:=by omega
 have t4:Int.tdiv a 4=a/4:=Int.tdiv_eq_ediv_of_nonneg q;have c:∀e:L Z,lN e a=e.getD (a/4).toNat 0:=by
  intro e;unfold lN;rw[t4,ax (by omega)]
 have e:a=4*((a/4).toNat:Z):=by omega
 unfold dR bg;rcases (show s=1\/s=2\/s=3\/s=4 by omega)with rfl|rfl|rfl|rfl
 ·rw[aD (by rfl),c];show (gE _ _)[i].text.getD _ _=_;rw[t]
  have:=MP 1 (.inl R) ms bt aj bd
  rw[aD R]at this;rw[show eD bt aj bd ms 1=bt from R,this,bQ (l:=List.map _ _),jS,bW j];rfl
 ·rw[ax (by decide),aD (by rfl),c];show (gE _ _)[i].bw.getD _ _=_;rw[v]
  have:=MP 2 (.inr R) ms bt aj bd
  rw[ax (by decide)]at this;rw[show eD bt aj bd ms 2=aj from R,this,bQ (l:=List.map _ _),jS,bW j];rfl
 ·rw[ax (by decide),ax (by decide),aD (by rfl)];show (gE _ _)[i].data+a=_;have r:a<=4*(ms[i].obj.data.length:Z):=p;rw[x,show eD bt aj bd ms 3=bd from R,UF ms bt aj bd i g j f (a/4).toNat (by omega),<- e]
 ·rw[ax (by decide),ax (by decide),ax (by decide),aD (by rfl)];show (gE _ _)[i].bf+a=_;have r:a<=4*ms[i].obj.bf:=p;rw[show eD bt aj bd ms 4=dn 3 ms bd from R,Eh ms bd g,UH ms (iv ms bt aj bd) (iY ms bd) i (AG ms bt aj bd) g d f (a/4).toNat (by omega),<- e]
def jH(os:L aF)(ms:L aI):Prop:=ms.map aI.obj=os/\∀i (h:i<ah ms),ms[i].means=ms[i].obj.aE.map (jW os i)
theorem jH.len(h:jH os ms):ah ms=ah os:=by rw[<- h.1,fZ]
theorem jH.obj(h:jH os ms)(i:M)(b:i<ah ms)(a:i<ah os):ms[i].obj=os[i]:=by
 have:(ms.map aI.obj)[i]?=os[i]?:=by rw[h.1]
 rw[jS,bW b,bW a]at this;simpa using this
theorem jH.lay(h:jH os ms)(bt aj bd:Z):jH os (aS bt aj bd ms):=by
 refine⟨by rw[sk];exact h.1,λi b=>?_⟩;have a:i<ah ms:=by rw[sj]at b;exact b
 have c:(aS bt aj bd ms)[i].means=ms[i].means:=by
  have:((aS bt aj bd ms).map aI.means)[i]?=(ms.map aI.means)[i]?:=by rw[J9]
  rw[jS,jS,bW b,bW a]at this;simpa using this
 have d:(aS bt aj bd ms)[i].obj=ms[i].obj:=by
  have:((aS bt aj bd ms).map aI.obj)[i]?=(ms.map aI.obj)[i]?:=by rw[sk]
  rw[jS,jS,bW b,bW a]at this;simpa using this
 rw[c,d];exact h.2 i a
theorem jH.QD(h:jH os ms):jH os (fU ms):=by
 refine⟨?_,λi a=>?_⟩
 ·unfold fU;rw[List.map_map];exact h.1
 ·have b:i<ah ms:=by unfold fU at a;rw[fZ]at a;exact a
  have e:(fU ms)[i]={ms[i]with short:=ms[i].obj.ay.map (lg ms ms[i])}:=by simp[fU]
  rw[e];exact h.2 i b
theorem jH.start(os:L aF):jH os (fH os (os.map dV)):=by
 unfold fH;refine⟨?_,λi c=>?_⟩
 ·apply An
  ·simp
  ·intro i a b;simp[sN,dV]
 ·simp[sN,dV]
theorem jH.val(h:jH os ms)(b:∀o∈os,yl o):∀m∈ms,yl m.obj:=λm a=>b _ (by rw[<- h.1];exact mh.2 ⟨m,a,R⟩)
theorem ML(h:jH os ms)(f:∀o∈os,yl o)(r:aR (M×M))(k:∀p,r=S p->lD os p/\1<=(fu os p.1 p.2).au):kJ (aS bt aj bd ms) (wU os r)=fA os (bg bt aj bd ms) r:=by
 cases r with
 |none=>rfl
 |some p=>
  obtain⟨⟨c,e⟩,j⟩:=k p R;have x:=h.len;have d:p.1<ah ms:=by omega
  have a:p.1<(aS bt aj bd ms).length:=by rw[sj];exact d
  have v:=((f os[p.1] (bN c)).2.2.2.1 p.2 e).1;have i:=vP c e;have g:=h.obj p.1 d c;unfold kJ wU fA;dsimp only;rw[bW a];dsimp only;rw[i]at j ⊢;generalize os[p.1].aE[p.2]=y at *;obtain⟨-,-,⟨-,z⟩,-,l,q,s⟩:=v;obtain⟨t,b⟩:=eX (show 0<=y.au by omega)
  have:=Ia (bt:=bt) (aj:=aj) (bd:=bd) (h.val f) p.1 t d a (by omega) (by omega) y.off l q (by rw[g,<- b];exact s)
  rw[b,dy];exact this
theorem Ig(h:jH os ms)(f:∀o∈os,yl o)(i:M)(c:i<ah os)(a:i<(aS bt aj bd ms).length)(r:cg)(b:M)(k:r.sym=(b:Z))(d:b<os[i].aE.length):
  jK (aS bt aj bd ms) (aS bt aj bd ms)[i] r=fA os (bg bt aj bd ms) (dL os i b):=by
 have j:=h.lay bt aj bd;have g:=j.2 i a;rw[j.obj i a c]at g;have e:wT os:=λo a=>(f o a).pos
 unfold jK;rw[g,ax (by rw[fZ];omega),k,dy,bQ,jS,bW d];show kJ _ (jW os i os[i].aE[b])=_;rw[<- vP c d,UL e];exact ML h f _ λp e=>DG f ⟨c,d⟩ e
theorem U6(h:jH os ms)(g:∀o∈os,yl o)(i k:M)(e:i<ah os)(b:i<(aS bt aj bd ms).length)(q:k<os[i].ay.length):
  dR (aS bt aj bd ms)[i] os[i].ay[k].au os[i].ay[k].off=(bg bt aj bd ms i os[i].ay[k].au.toNat).getD (os[i].ay[k].off/4).toNat 0:=by
 have f:i<ah ms:=by have:=h.len;omega
 have d:=(g os[i] (bN e)).rel k q;have v:=yW d.2.1;have c:=d.1;obtain⟨j,l,t⟩:=d.2.2.2.2.1;have p:=h.obj i f e;generalize os[i].ay[k]=r at *;unfold lz at c;obtain⟨s,a⟩:=eX (show 0<=r.au by omega)
 have:=Ia (bt:=bt) (aj:=aj) (bd:=bd) (h.val g) i s f b (by omega) (by omega) r.off j l (by
  rw[p,<- a];unfold iU;rw[ax (by omega)];omega)
 rw[a,dy];exact this
theorem Ib(h:jH os ms)(f:∀o∈os,yl o)(i k:M)(d:i<ah os)(b:i<(aS bt aj bd ms).length)(e:k<os[i].ay.length)(g:os[i].ay[k].kind≠6):
  fT (aS bt aj bd ms) (aS bt aj bd ms)[i] os[i].ay[k]=Ac os (bg bt aj bd ms) i k:=by
 have j:=(f os[i] (bN d)).rel k e;have a:=j.2.2.1;unfold pu at a;rw[ax g]at a;obtain⟨l,c⟩:=eX a.1;unfold fT Ac Eb Ei;rw[DJ d e,U6 h f i k d b e,Ig h f i d b _ l c (by omega),c,dy]
theorem U4(h:jH os ms)(f:∀o∈os,yl o)(i:M)(d:i<ah os)(a:i<(aS bt aj bd ms).length):
  os[i].ay.map (lg (aS bt aj bd ms) (aS bt aj bd ms)[i])=yc (Ej os (bg bt aj bd ms)) i os[i].ay.length:=by
 apply An
 ·rw[fZ,MC]
 ·intro k b g;rw[MB,wb];have e:k<os[i].ay.length:=by rw[fZ]at b;exact b
  unfold lg Ej;rw[DJ d e];by_cases c:os[i].ay[k].kind=4
  ·rw[Ib h f i k d a e (by omega)]
  ·rw[decide_eq_false c];rfl
instance (a b c d:Z):kr (ku a b c d):=by unfold ku;infer_instance
theorem Ry{a c:av}{d:aR M}(h:az w a N)(k:az a c d)(f:∀b,d=S b->w.heap.size<=b):az w c N :=
 ⟨k.os.trans h.os,k.tape.trans h.tape,k.output.trans h.output,fV h.size k.size,λi d _=>
  (k.block i (oc d h.size) (λe=>by have:=f i e.symm;omega)).trans (h.block i d (by simp))⟩
theorem Gv(l:L aL)(p:M):0<=br l p 4/\br l p 4<4294967296:=by have:=mz l p 4;simpa using this
theorem acV(l:L aL):ni (oy l):=by
 have h:=Wa l;have a:=Cm l 24;refine⟨Gv l 2,Gv l 6,Gv l 10,Gv l 14,⟨?_,?_,?_⟩,?_⟩
 ·simp only[oy,ID];omega
 ·simp only[oy,ID];omega
 ·simp only[oy,ID];omega
 ·simp only[oy];omega
theorem aep(n:Z)(w:av):Calls prog 137 #[I J n] w λe a=>e=aH (I J (bn n))/\a=w:=by
 have E:=ae (G6 n);go_enter func137,ntmps137;go_wp2;go_ret;exact⟨fY E.o,R⟩
theorem GD(n:Z)(w:av)(b:0<=n)(c:n<4294967296):Calls prog 136 #[I J n] w λe a=>e=aH (I J (cK n))/\a=w:=by
 by_cases h:n<2147483648
 ·have E:=ae (show n=cK n by unfold cK;rw[aD h]);have d:decide (2147483648<=n)=F:=by simpa using h
  go_enter func136,ntmps136;go_wp2;go_ret;exact⟨fY E.o,R⟩
 ·have E:=ae (show n-4294967296=cK n by unfold cK;rw[ax h]);have d:decide (2147483648<=n)=T:=by simp;omega
  have a:J.wrap (n-4294967296)=n-4294967296:=IntWalk.i64_in _ ⟨by omega,by omega⟩;go_enter func136,ntmps136;go_wp2;go_ret;exact⟨fY E.o,R⟩
theorem aer(d a b:Z)(w:av)(j:0<=a)(k:a<4294967296)(l:0<=b)(p:b<4294967296)(f:5<=d/\d<=10):
  Calls prog 102 #[I J d,I J a,I J b] w λe c=>e=aH (aJ (fg d a b))/\c=w:=by
 have g:=ae (λW=>GD a W j k);have h:=ae (λW=>GD b W l p);rcases (show d=5\/d=6\/d=7\/d=8\/d=9\/d=10 by omega)with rfl|rfl|rfl|rfl|rfl|rfl
 ·have c:=ae (show fg 5 a b=(a==b) by unfold fg;rw[vg];simp);clear f;go_enter func102,ntmps102;go_wp2;go_ret;exact⟨sC c.o.symm,R⟩
 ·have c:=ae (show fg 6 a b = !(a==b) by unfold fg;rw[vg];simp);clear f;go_enter func102,ntmps102;go_wp2;go_ret;exact⟨sC c.o.symm,R⟩
 ·have c:=ae (show fg 7 a b=decide (cK a<cK b) by unfold fg;simp);clear f;go_enter func102,ntmps102;go_wp2_with fail;refine(g.o _).mono ?_;rintro e V ⟨rfl,rfl⟩;go_wp2_with fail;refine(h.o _).mono ?_;rintro e i ⟨rfl,rfl⟩;go_wp2;go_ret;exact⟨sC c.o.symm,R⟩
 ·have c:=ae (show fg 8 a b=decide (cK b<=cK a) by unfold fg;simp);clear f;go_enter func102,ntmps102;go_wp2_with fail;refine(g.o _).mono ?_;rintro e V ⟨rfl,rfl⟩;go_wp2_with fail;refine(h.o _).mono ?_;rintro e i ⟨rfl,rfl⟩;go_wp2;go_ret;exact⟨sC c.o.symm,R⟩
 ·have c:=ae (show fg 9 a b=decide (a<b) by unfold fg;simp);clear f;go_enter func102,ntmps102;go_wp2;go_ret;exact⟨sC c.o.symm,R⟩
 ·have c:=ae (show fg 10 a b=decide (b<=a) by unfold fg;simp);clear f;go_enter func102,ntmps102;go_wp2;go_ret;exact⟨sC c.o.symm,R⟩
def jw(op a b:Z):Z:=jX (if op<=17 then Cy op else op) a b
theorem aeq(f a b:Z)(w:av)(l:0<=a)(p:a<4294967296)(q:0<=b)(r:b<4294967296)(h:13<=f/\f<=24):
  Calls prog 105 #[I J f,I J a,I J b] w λe c=>e=aH (I J (bn (jw f a b)))/\c=w:=by
 have j:=ae (λW=>GD a W l p);have k:=ae (λW=>GD b W q r);have g:=ae (λv W=>aep v W);have s:J.wrap (a+b)=a+b:=IntWalk.i64_in _ ⟨by omega,by omega⟩;have t:J.wrap (a-b)=a-b:=IntWalk.i64_in _ ⟨by omega,by omega⟩;rcases (show f=13\/f=14\/f=15\/f=16\/f=17\/f=18\/f=19\/f=20\/f=21\/f=22\/f=23\/f=24 by omega)with rfl|rfl|rfl|rfl|rfl|rfl|rfl|rfl|rfl|rfl|rfl|rfl
 ·have c:=ae (show a+b=jw 13 a b from R);clear h;go_enter func105,ntmps105;go_wp2_with fail;refine(g.o _ _).mono ?_;rintro e V ⟨rfl,rfl⟩;rw[c.o];go_wp2;go_ret;exact⟨R,R⟩
 ·by_cases i:cK a<cK b
  ·have c:=ae (show (1:Z)=jw 14 a b from (aD i).symm);have d:decide (cK a<cK b)=T:=by simpa using i
   clear h;go_enter func105,ntmps105;go_wp2_with fail;refine(j.o _).mono ?_;rintro e V ⟨rfl,rfl⟩;go_wp2_with fail;refine(k.o _).mono ?_;rintro e V ⟨rfl,rfl⟩;go_wp2_with fail;refine(g.o _ _).mono ?_;rintro e V ⟨rfl,rfl⟩;rw[c.o];go_wp2;go_ret;exact⟨R,R⟩
  ·have c:=ae (show (0:Z)=jw 14 a b from (ax i).symm);have d:decide (cK a<cK b)=F:=by simpa using i
   clear h;go_enter func105,ntmps105;go_wp2_with fail;refine(j.o _).mono ?_;rintro e V ⟨rfl,rfl⟩;go_wp2_with fail;refine(k.o _).mono ?_;rintro e V ⟨rfl,rfl⟩;go_wp2_with fail;refine(g.o _ _).mono ?_;rintro e V ⟨rfl,rfl⟩;rw[c.o];go_wp2;go_ret;exact⟨R,R⟩
 ·have c:=ae (show aT .xor .i64 a b=jw 15 a b from R);clear h;go_enter func105,ntmps105;go_wp2_with fail;refine(g.o _ _).mono ?_;rintro e V ⟨rfl,rfl⟩;rw[c.o];go_wp2;go_ret;exact⟨R,R⟩
 ·have c:=ae (show aT .or .i64 a b=jw 16 a b from R);clear h;go_enter func105,ntmps105;go_wp2_with fail;refine(g.o _ _).mono ?_;rintro e V ⟨rfl,rfl⟩;rw[c.o];go_wp2;go_ret;exact⟨R,R⟩
 ·have c:=ae (show aT .and .i64 a b=jw 17 a b from R);clear h;go_enter func105,ntmps105;go_wp2_with fail;refine(g.o _ _).mono ?_;rintro e V ⟨rfl,rfl⟩;rw[c.o];go_wp2;go_ret;exact⟨R,R⟩
 ·have c:=ae (show a+b=jw 18 a b from R);clear h;go_enter func105,ntmps105;go_wp2_with fail;refine(g.o _ _).mono ?_;rintro e V ⟨rfl,rfl⟩;rw[c.o];go_wp2;go_ret;exact⟨R,R⟩
 ·have c:=ae (show a-b=jw 19 a b from R);clear h;go_enter func105,ntmps105;go_wp2_with fail;refine(g.o _ _).mono ?_;rintro e V ⟨rfl,rfl⟩;rw[c.o];go_wp2;go_ret;exact⟨R,R⟩
 ·by_cases i:cK a<cK b
  ·have c:=ae (show (1:Z)=jw 20 a b from (aD i).symm);have d:decide (cK a<cK b)=T:=by simpa using i
   clear h;go_enter func105,ntmps105;go_wp2_with fail;refine(j.o _).mono ?_;rintro e V ⟨rfl,rfl⟩;go_wp2_with fail;refine(k.o _).mono ?_;rintro e V ⟨rfl,rfl⟩;go_wp2_with fail;refine(g.o _ _).mono ?_;rintro e V ⟨rfl,rfl⟩;rw[c.o];go_wp2;go_ret;exact⟨R,R⟩
  ·have c:=ae (show (0:Z)=jw 20 a b from (ax i).symm);have d:decide (cK a<cK b)=F:=by simpa using i
   clear h;go_enter func105,ntmps105;go_wp2_with fail;refine(j.o _).mono ?_;rintro e V ⟨rfl,rfl⟩;go_wp2_with fail;refine(k.o _).mono ?_;rintro e V ⟨rfl,rfl⟩;go_wp2_with fail;refine(g.o _ _).mono ?_;rintro e V ⟨rfl,rfl⟩;rw[c.o];go_wp2;go_ret;exact⟨R,R⟩
 ·by_cases i:a<b
  ·have c:=ae (show (1:Z)=jw 21 a b from (aD i).symm);have d:decide (a<b)=T:=by simpa using i
   clear h;go_enter func105,ntmps105;go_wp2_with fail;refine(g.o _ _).mono ?_;rintro e V ⟨rfl,rfl⟩;rw[c.o];go_wp2;go_ret;exact⟨R,R⟩
  ·have c:=ae (show (0:Z)=jw 21 a b from (ax i).symm);have d:decide (a<b)=F:=by simpa using i
   clear h;go_enter func105,ntmps105;go_wp2_with fail;refine(g.o _ _).mono ?_;rintro e V ⟨rfl,rfl⟩;rw[c.o];go_wp2;go_ret;exact⟨R,R⟩
 ·have c:=ae (show aT .xor .i64 a b=jw 22 a b from R);clear h;go_enter func105,ntmps105;go_wp2_with fail;refine(g.o _ _).mono ?_;rintro e V ⟨rfl,rfl⟩;rw[c.o];go_wp2;go_ret;exact⟨R,R⟩
 ·have c:=ae (show aT .or .i64 a b=jw 23 a b from R);clear h;go_enter func105,ntmps105;go_wp2_with fail;refine(g.o _ _).mono ?_;rintro e V ⟨rfl,rfl⟩;rw[c.o];go_wp2;go_ret;exact⟨R,R⟩
 ·have c:=ae (show aT .and .i64 a b=jw 24 a b from R);clear h;go_enter func105,ntmps105;go_wp2_with fail;refine(g.o _ _).mono ?_;rintro e V ⟨rfl,rfl⟩;rw[c.o];go_wp2;go_ret;exact⟨R,R⟩
structure bD where
 k:Z
 n:Z
 part:Z
 au:Z
 off:Z
def dv(n:Z):bD:=⟨0,bn n,0,0,0⟩
def bV:bD:=⟨3,0,0,0,0⟩
structure bJ where
 bM:L bD
 pc:bD
 data:L (L bD)
 bf:L (L bD)
 aU:Z
 ret:Z
 o:L Z
 read:M
def gN(os:L aF)(r:aR (M×M))(add:Z):bD:=match r with
 |none=>dv add
 |some p=>⟨if (fu os p.1 p.2).au=1\/(fu os p.1 p.2).au=2 then (if add≠0 then 3 else 2)else 1,0,p.1,(fu os p.1 p.2).au,(fu os p.1 p.2).off+add⟩
def uU(os:L aF)(part au:Z):L Z:=((os[part.toNat]?).map λo=>aQ o au.toNat).getD []
def Jn(os:L aF)(part:Z):L cg:=((os[part.toNat]?).map λo=>o.ay).getD []
def kN(os:L aF)(part au:Z):Z:=4*((uU os part au).length:Z)
def nA(os:L aF)(v:bD):bc:=decide (0<=v.off)&&decide (v.off<kN os v.part v.au)
def lj(os:L aF)(v:bD):cg:=(cB v.au (4*(v.off/4)) 0 (Jn os v.part)).2
def fm(os:L aF)(v:bD):bc:=nA os v&&(!decide (v.k=2) ||(decide ((lj os v).kind=0) ||(decide (4*(v.off/4)=(lj os v).off) && !decide ((lj os v).kind=6))))
def iy(n:Z):bc:=decide (n<4096) ||decide (1073741824<=n)
def bU(st:bJ)(r:Z):bD:=st.bM.getD r.toNat bV
def dH(r:Z)(v:bD)(st:bJ):bJ:=if r=0 then st else {st with bM:=st.bM.set r.toNat v}
def iz(st:bJ):bJ:={st with aU:=-1}
def tS(st:bJ)(v:bD):L bD:=if v.au=3 then st.data.getD v.part.toNat []else st.bf.getD v.part.toNat []
def fB(v:bD)(n:Z):bD :=
 if v.k=0 then dv (v.n+n)
 else if v.k=1 then (if 1048576<v.off+n\/v.off+n < -1048576 then {v with k:=3,off:=v.off+n} else {v with off:=v.off+n})
 else if v.k=2 then (if n≠0 then {v with k:=3} else v)else v
def tT(op:Z)(a b:bD):bD :=
 if a.k=0/\b.k=0 then dv (bn (jw op a.n b.n))
 else if (op=18\/op=13)/\b.k=0 then fB a (cK b.n)
 else if op=18/\a.k=0 then fB b (cK a.n)
 else if op=19/\b.k=0 then fB a (-(cK b.n))
 else if op=19/\a.k=1/\b.k=1/\a.part=b.part/\a.au=b.au then dv (a.off-b.off)
 else bV
def tU(os:L aF)(a b:bD):bc×bc :=
 if b.k=0 then (F,fm os a&&iy b.n)
 else if a.k=b.k/\a.part=b.part/\a.au=b.au then (if a.off=b.off then (T,T)else (F,decide (a.k=1)))
 else (F,fm os a&&fm os b&&(!decide (a.k=b.k) ||decide (a.k=1)))
def oK(os:L aF)(a b:bD):bc×bc :=
 if a.k=3\/b.k=3 then (F,F)else if a.k=0 then tU os b a else tU os a b
def oL(os:L aF)(a b:bD):bc×bc :=
 if a.k≠1\/b.k≠1\/a.part≠b.part\/a.au≠b.au then (F,F)
 else (decide (a.off<b.off),decide (0<=a.off/\0<=b.off/\a.off<=kN os a.part a.au/\b.off<=kN os a.part a.au))
def lP(os:L aF)(op:Z)(a b:bD):bc×bc :=
 if a.k=0/\b.k=0 then (fg op a.n b.n,T)
 else if op=5\/op=6 then ((oK os a b).1==decide (op=5),(oK os a b).2)
 else ((oL os a b).1==decide (op=7\/op=9),(oL os a b).2)
def kx(os:L aF)(v:bD)(st:bJ):bD ⊕ Z :=
 if v.k=0 then .inr (if iy v.n=T\/v.n%4≠0 then 4 else -1)
 else if v.k=1 then (if v.off%4≠0 then .inr 4 else if fm os v=T then .inl ((tS st v).getD (v.off/4).toNat bV)else .inr (-1))
 else if v.k=2 then (if fm os v=T then .inl bV else .inr (-1))
 else .inr (-1)
def mM(v x:bD)(st:bJ):bJ :=
 if v.au=3 then {st with data:=st.data.set v.part.toNat ((st.data.getD v.part.toNat []).set (v.off/4).toNat x)}
 else {st with bf:=st.bf.set v.part.toNat ((st.bf.getD v.part.toNat []).set (v.off/4).toNat x)}
def iH(os:L aF)(v x:bD)(st:bJ):bJ :=
 if v.k=0 then {st with aU:=if iy v.n=T\/v.n%4≠0 then 5 else -1}
 else if v.k=1 then (if v.off%4≠0 then {st with aU:=5} else if fm os v=T then mM v x st else iz st)
 else if v.k=2 then (if fm os v=T then {st with aU:=5} else iz st)
 else iz st
def nz(ins:L Z)(st:bJ):bJ :=
 if (bU st 17).k≠0 then iz st
 else if (bU st 17).n=0 then {st with aU:=if (bU st 10).k≠0 then -1 else 1,ret:=cK (bU st 10).n}
 else if (bU st 17).n=1 then (if (ah st.o)<16 then (if (bU st 10).k≠0 then iz st else {st with o:=st.o++[cK (bU st 10).n]})else {st with aU:=6})
 else if (bU st 17).n=2 then (if st.read<(ah ins)then {st with bM:=st.bM.set 10 (dv (ins.getD st.read 0)),read:=st.read+1} else {st with aU:=6})
 else {st with aU:=6}
def dI(st:bJ)(n:Z):bD:={st.pc with off:=st.pc.off+n}
def eB(v:bD)(st:bJ):bJ:={st with pc:=v}
def lQ(v:bD)(st:bJ):bJ:=if st.aU=0 then eB v st else st
def Bu(os:L aF)(w:Z)(v:bD)(st:bJ):bJ :=
 if cz w=13 then eB (dI st 8) (dH (bF (aP w) w) v st)
 else if cz w=11 then (match kx os v st with
  | .inl x=>eB (dI st 8) (dH (bF (aP w) w) x st)
  | .inr e=>{st with aU:=e})
 else if cz w=12 then (if (iH os v (bU st (dW (aP w) w)) st).aU≠0 then iH os v (bU st (dW (aP w) w)) st else eB (dI st 8) (iH os v (bU st (dW (aP w) w)) st))
 else eB (dI st 8) st
def mu(os:L aF)(r:cg)(w y:Z)(st:bJ):bJ :=
 if r.kind=6 then eB (dI st r.bh) st
 else if r.kind=2 then (if (lP os (cz w) (bU st (bR (aP w) w)) (bU st (dW (aP w) w))).2=T then eB (if (lP os (cz w) (bU st (bR (aP w) w)) (bU st (dW (aP w) w))).1=T then gN os (dL os st.pc.part.toNat r.sym.toNat) r.bh else dI st 4) st else iz st)
 else if r.kind=3 then eB (gN os (dL os st.pc.part.toNat r.sym.toNat) r.bh) (dH (bF (aP w) w) (dI st 4) st)
 else if r.kind=4 then eB (gN os (dL os st.pc.part.toNat r.sym.toNat) r.bh) (dH (bF (aP y) y) (dI st 8) (dH (bF (aP w) w) bV st))
 else if r.kind=5 then Bu os y (gN os (dL os st.pc.part.toNat r.sym.toNat) r.bh) (dH (bF (aP w) w) bV st)
 else iz st
def Bs(os:L aF)(ins:L Z)(op rd dF eG n:Z)(_form:Z)(st:bJ):bJ :=
 if op=0 then {st with aU:=3}
 else if op=1 then eB (dI st 4) (dH rd (dv (n*4096)) st)
 else if op=2 then eB (dI st 4) (dH rd bV st)
 else if op=3 then iz st
 else if op=4 then eB ((λv:bD=>if v.k=0\/v.k=1 then {v with n:=v.n-v.n%2,off:=v.off-v.off%2} else v) (fB (bU st dF) n)) (dH rd (dI st 4) st)
 else if op=11 then (match kx os (fB (bU st dF) n) st with
  | .inl x=>eB (dI st 4) (dH rd x st)
  | .inr e=>{st with aU:=e})
 else if op=12 then lQ (dI st 4) (iH os (fB (bU st dF) n) (bU st eG) st)
 else if op=25 then lQ (dI st 4) (nz ins st)
 else if 5<=op/\op<=10 then (if (lP os op (bU st dF) (bU st eG)).2=T/\(lP os op (bU st dF) (bU st eG)).1=F then eB (dI st 4) st else iz st)
 else eB (dI st 4) (dH rd (tT op (bU st dF) (if op<=17 then dv n else bU st eG)) st)
def wB(os:L aF)(ins:L Z)(w:Z)(st:bJ):bJ :=
 Bs os ins (cz w) (bF (aP w) w) (bR (aP w) w) (dW (aP w) w) (dO (aP w) w) (aP w) st
def pP(os:L aF)(ins:L Z)(st:bJ):bJ :=
 if st.pc.k=0 then {st with aU:=if iy st.pc.n=T\/st.pc.n%4≠0 then 2 else -1}
 else if st.pc.k=1 then {st with aU:=if fm os st.pc=T then 2 else -1}
 else if st.pc.k=3 then iz st
 else if nA os st.pc=F then iz st
 else if (lj os st.pc).kind=0 then wB os ins ((uU os st.pc.part st.pc.au).getD (st.pc.off/4).toNat 0) st
 else if st.pc.off≠(lj os st.pc).off then iz st
 else mu os (lj os st.pc) ((uU os st.pc.part st.pc.au).getD (st.pc.off/4).toNat 0) ((uU os st.pc.part st.pc.au).getD (st.pc.off/4+1).toNat 0) st
def dM(os:L aF)(ins:L Z):M->bJ->bJ
 |0,st=>st
 |k+1,st=>if st.aU=0 then dM os ins k (pP os ins st)else st
def qH(os:L aF)(i:M)(o:aF):L bD :=
 o.ay.foldl (λd r=>if r.au=3 then d.set (r.off/4).toNat (gN os (dL os i r.sym.toNat) r.bh)else d) (o.data.map dv)
def gY(os:L aF):bJ :=
 ⟨eP 32 (dv 0),gN os (jP os) 0,(rA (ah os)).map (λi=>qH os i ((os[i]?).getD ⟨[],[],[],0,[],[],[]⟩)),os.map (λo=>eP o.bf.toNat (dv 0)),0,0,[],0⟩
