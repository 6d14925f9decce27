import Derived.Test.YtaldcojpkflgpaaGreatDoorU12
set_option maxHeartbeats 16000000
set_option maxRecDepth 100000
open Go.Value renaming int->I,pointer->aM,tuple->aZ,slice->ak,string->aB
open Go.IntKind renaming i64->J
open Go renaming Value->aC,World->av,bodyPost_ret->bj,Addr->aY
open _root_ renaming List->L,Int->Z,rfl->R,decide_eq_true->kB,decide_eq_false->gF,if_pos->aD,if_neg->ax,Nat->M,Option->aR,UInt8->aL,if_false->mw,if_true->jk
open Go.Ending renaming returned->aH
open Go.World renaming grownBy->az,grownBy_alloc->aG,setCell->aK,cell?->aq,drew->tG,frozen?->dx
open Option renaming none->N,some->S
open List renaming getElem?_toArray->bI,getElem?_cons_succ->bB,length->ah,getElem_mem->bN,length_cons->dA,getD_cons_succ->uK,getD_cons_zero->I4,cons_append->EU,length_take->iO,mem_of_mem_take->xG,take_append_drop->rB,length_append->bX,getElem_of_mem->kY,setIfInBounds_toArray->dt,set_cons_succ->dB,set_cons_zero->dC,mem_cons_self->jU,mem_cons_of_mem->lJ,getD_eq_getElem?_getD->bQ,append_assoc->cy,mem_of_getElem?->pI,getElem?_map->jS,getElem?_eq_getElem->bW,getElem?_eq_some_iff->xE
open Bool renaming true->T,false->F,false_eq_true->pB,not_true->BS,not_false->BR
open Go.IntWalk renaming i64_in->dD
open Nat renaming not_lt_zero->ji,le_refl->bz,add_zero->sP,zero_add->mL,eq_of_testBit_eq->NH,or_comm->AZ,or_assoc->Jb
open Int renaming cast_ofNat_Int->EK,ofNat_zero->IH,add_zero->yx,pow_pos->uI,ediv_one->EL
open Classical renaming not_not->Mv
namespace Go.Proofs.YtaldcojpkflgpaaGreatDoor
open Go.RowKit Go.Proofs.Tryz
def bq(v:bD):aC:=.agg #[I J v.k,I J v.n,I J v.part,I J v.au,I J v.off]
def lT(v:bD):L aC:=[I J v.k,I J v.n,I J v.part,I J v.au,I J v.off]
def jM(v:bD):Array aC:=#[I J v.k,I J v.n,I J v.part,I J v.au,I J v.off]
theorem xe(n:Z)(w:av):Calls prog 22 #[I J n] w λe a=>e=aH (bq (dv n))/\az w a N:=by
 have A:=G6 n;have G:=ae (aG w (.cells #[I J 0,I J (bn n),I J 0,I J 0,I J 0] 44) N);have B:=ae (aA.new w #[I J 0,I J (bn n),I J 0,I J 0,I J 0] 44);go_enter func22,ntmps22;go_wp2;generalize w.alloc (.cells #[I J 0,I J (bn n),I J 0,I J 0,I J 0] 44)=V at *;refine bj (v:=bq (dv n)) ?_ R ⟨R,G.o⟩;have a:=B.o.cell 0;have b:=B.o.cell 1;have c:=B.o.cell 2;have d:=B.o.cell 3;have f:=B.o.cell 4;simp only[bI,bB,bL]at a b c d f
 simp[results,results22,go_sem,bq,dv,a,b,c,d,f]
theorem Dp(n:Z)(w:av):Calls prog 26 #[I J n] w λe a=>e=aH (.bool (iy n))/\a=w:=by
 unfold iy;by_cases h:n<4096
 ·have d:decide (n<4096)=T:=kB h;clear h;rw[d];go_enter func26,ntmps26;go_wp2;go_ret;exact⟨R,R⟩
 ·have d:decide (n<4096)=F:=gF h;clear h;rw[d];go_enter func26,ntmps26;go_wp2;go_ret;exact⟨R,R⟩
theorem Ko(n:Z)(w:av)(a:0<=n)(b:n<4294967296):Calls prog 101 #[I J n] w λe a=>e=aH (I J (cK n))/\a=w:=by
 unfold cK;by_cases h:n<2147483648
 ·have d:decide (2147483648<=n)=F:=gF (by omega);rw[aD h];go_enter func101,ntmps101;go_wp2;go_ret;exact⟨R,R⟩
 ·have d:decide (2147483648<=n)=T:=kB (by omega);have c:J.wrap (n-4294967296)=n-4294967296:=dD _ ⟨by omega,by omega⟩;rw[ax h];go_enter func101,ntmps101;go_wp2;go_ret;exact⟨R,R⟩
theorem G5{V:av}{b:M}{g i j k l:aC}(h:aA V b #[g,i,j,k,l] 44)(a c d e f:aC):aA (((((aK V ⟨b,0,N⟩ a).setCell ⟨b,1,N⟩ c).setCell ⟨b,2,N⟩ d).setCell ⟨b,3,N⟩ e).setCell ⟨b,4,N⟩ f) b #[a,c,d,e,f] 44:=by
 simpa using ((((h.set 0 a).set 1 c).set 2 d).set 3 e).set 4 f
theorem qj{w V:av}{R:M}{g i j l m:aC}(o:az w V N)(h:aA V R #[g,i,j,l,m] 44)(n:w.heap.size<=R)(a b c d f:aC):∀W,W=(((((aK V ⟨R,0,N⟩ a).setCell ⟨R,1,N⟩ b).setCell ⟨R,2,N⟩ c).setCell ⟨R,3,N⟩ d).setCell ⟨R,4,N⟩ f)->(aq W ⟨R,0,N⟩=S a/\aq W ⟨R,1,N⟩=S b/\aq W ⟨R,2,N⟩=S c/\aq W ⟨R,3,N⟩=S d/\aq W ⟨R,4,N⟩=S f)/\az w W N:=by
 rintro W rfl;have F:=G5 h a b c d f;exact⟨⟨F.cell 0,F.cell 1,F.cell 2,F.cell 3,F.cell 4⟩,eh (eh (iC o R n a b c) (bK _ R 3 d) (by intro k e;simp at e;omega)) (bK _ R 4 f) (by intro k e;simp at e;omega)⟩
theorem F6(v:bD)(n:Int)(w:av)(h1:-17179869184<=v.off/\v.off<=17179869184)(h2:-17179869184<=n/\n<=17179869184)(h3:0<=v.n/\v.n<4294967296):
  Calls prog 60 #[bq v,I J n] w λe a=>e=aH (bq (fB v n))/\az w a N:=by
 obtain⟨k,f,c,g,d⟩:=v;dsimp only at h1 h3;have cN:=ae (λW=>xe (f+n) W);have w1:J.wrap (f+n)=f+n:=dD _ ⟨by omega,by omega⟩;have w2:J.wrap (d+n)=d+n:=dD _ ⟨by omega,by omega⟩;have a:(w.alloc (.cells #[I J k,I J f,I J c,I J g,I J d] 44)).heap.size=w.heap.size+1:=Array.size_push _;have m:=aA.new w #[I J k,I J f,I J c,I J g,I J d] 44;have l:=aG w (.cells #[I J k,I J f,I J c,I J g,I J d] 44) N;have j:=aA.new (w.alloc (.cells #[I J k,I J f,I J c,I J g,I J d] 44)) #[I J 0,I J 0,I J 0,I J 0,I J 0] 44
 have i:=aG (w.alloc (.cells #[I J k,I J f,I J c,I J g,I J d] 44)) (.cells #[I J 0,I J 0,I J 0,I J 0,I J 0] 44) N;rw[a]at j;have Q:=ae (m.grown i (by simp));have h:=ae j;have G:=ae (ya l i);clear m j l i a;unfold bq;dsimp only;go_enter func60,ntmps60
 go_upto_region 1 with fail
 generalize (w.alloc (.cells #[I J k,I J f,I J c,I J g,I J d] 44)).alloc (.cells #[I J 0,I J 0,I J 0,I J 0,I J 0] 44)=V at *;have l:w.heap.size<=w.heap.size+1:=by omega
 have Y:w.heap.size≠w.heap.size+1:=by omega
 generalize j:w.heap.size=X at *;generalize i:X+1=a at *;have U:=ae (show w.heap.size<=a by omega);have HX:=ae (show w.heap.size<=X by omega);clear j i l;have D:=Q.o.cell 0;have H:=Q.o.cell 1;have K:=Q.o.cell 2;have O:=Q.o.cell 3;have P:=Q.o.cell 4;have r:=h.o.cell 0;have s:=h.o.cell 1;have t:=h.o.cell 2;have u:=h.o.cell 3;have x:=h.o.cell 4;simp only[bI,bB,bL]at D H K O P r s t u x;by_cases c0:k=0
 ·subst c0;have E:=ae (show fB ⟨0,f,c,g,d⟩ n=dv (f+n)from R);go_wp2_with fail;refine(cN.o _).mono ?_;rintro e V1 ⟨rfl,S⟩;clear D H K O P r s t u x;have q:=ae (h.o.grown S (by simp));have Z:=ae (ya G.o S);have r:=q.o.cell 0;have s:=q.o.cell 1;have t:=q.o.cell 2;have u:=q.o.cell 3;have x:=q.o.cell 4;have y:=q.o.free 0;have z:=q.o.free 1;have A:=q.o.free 2;have B:=q.o.free 3;have C:=q.o.free 4;simp only[bI,bB,bL]at r s t u x;unfold bq;go_wp2;obtain⟨⟨j,l,m,o,p⟩,i⟩:=qj Z.o q.o U.o (I J (dv (f+n)).k) (I J (dv (f+n)).n) (I J (dv (f+n)).part) (I J (dv (f+n)).au) (I J (dv (f+n)).off) _ R
  refine bj (v:=bq (dv (f+n))) ?_ R ⟨by rw[E.o];rfl,i⟩;clear r s t u x y z A B C;generalize aK _ _ _=M at *;simp[results,results60,go_sem,bq,j,l,m,o,p]
 have y:=h.o.free 0;have z:=h.o.free 1;have A:=h.o.free 2;have B:=h.o.free 3;have C:=h.o.free 4;have S:=Q.o.free 0;have Z:=Q.o.free 4;have iM:=ae (eh G.o (bK V X 4 (I J (d+n))) (by intro b e;simp at e;have:=HX.o;omega));have BP:=ae (fE h.o Y 4 (I J (d+n)));have GB:=ae (eh iM.o (bK (aK V ⟨X,4,N⟩ (I J (d+n))) X 0 (I J 3)) (by intro b e;simp at e;have:=HX.o;omega));have BB:=ae (fE BP.o Y 0 (I J 3));have GC:=ae (eh G.o (bK V X 0 (I J 3)) (by intro b e;simp at e;have:=HX.o;omega));have BC:=ae (fE h.o Y 0 (I J 3))
 by_cases c1:k=1
 ·subst c1;by_cases q:1048576<d+n
  ·have d1:decide (1048576<d+n)=T:=kB q;have E:=ae (show fB ⟨1,f,c,g,d⟩ n=⟨3,f,c,g,d+n⟩ by unfold fB;dsimp only;rw[ax (by decide),aD R,aD (.inl q)]);go_wp2;obtain⟨⟨j,l,m,o,p⟩,i⟩:=qj GB.o BB.o U.o (I J 3) (I J f) (I J c) (I J g) (I J (d+n)) _ R;refine bj (v:=bq ⟨3,f,c,g,d+n⟩) ?_ R ⟨by rw[E.o];rfl,i⟩;clear D H K O P r s t u x y z A B C S Z;generalize aK _ _ _=M at *;simp[results,results60,go_sem,bq,j,l,m,o,p]
  ·have d1:decide (1048576<d+n)=F:=gF q;by_cases b2:d+n < -1048576
   ·have d2:decide (d+n < -1048576)=T:=kB b2;have E:=ae (show fB ⟨1,f,c,g,d⟩ n=⟨3,f,c,g,d+n⟩ by unfold fB;dsimp only;rw[ax (by decide),aD R,aD (.inr b2)]);go_wp2;obtain⟨⟨j,l,m,o,p⟩,i⟩:=qj GB.o BB.o U.o (I J 3) (I J f) (I J c) (I J g) (I J (d+n)) _ R;refine bj (v:=bq ⟨3,f,c,g,d+n⟩) ?_ R ⟨by rw[E.o];rfl,i⟩;clear D H K O P r s t u x y z A B C S Z;generalize aK _ _ _=M at *;simp[results,results60,go_sem,bq,j,l,m,o,p]
   ·have d2:decide (d+n < -1048576)=F:=gF b2;have E:=ae (show fB ⟨1,f,c,g,d⟩ n=⟨1,f,c,g,d+n⟩ by unfold fB;dsimp only;rw[ax (by decide),aD R,ax (by omega)]);go_wp2;obtain⟨⟨j,l,m,o,p⟩,i⟩:=qj iM.o BP.o U.o (I J 1) (I J f) (I J c) (I J g) (I J (d+n)) _ R;refine bj (v:=bq ⟨1,f,c,g,d+n⟩) ?_ R ⟨by rw[E.o];rfl,i⟩;clear D H K O P r s t u x y z A B C S Z;generalize aK _ _ _=M at *;simp[results,results60,go_sem,bq,j,l,m,o,p]
 by_cases c2:k=2
 ·subst c2;by_cases q:n=0
  ·have d1:(n==0)=T:=by simpa using q
   have d2:(n != 0)=F:=by simpa using q
   have E:=ae (show fB ⟨2,f,c,g,d⟩ n=⟨2,f,c,g,d⟩ by unfold fB;dsimp only;rw[ax (by decide),ax (by decide),aD R,ax (by omega)]);go_wp2;obtain⟨⟨j,l,m,o,p⟩,i⟩:=qj G.o h.o U.o (I J 2) (I J f) (I J c) (I J g) (I J d) _ R;refine bj (v:=bq ⟨2,f,c,g,d⟩) ?_ R ⟨by rw[E.o];rfl,i⟩;clear D H K O P r s t u x y z A B C S Z;generalize aK _ _ _=M at *;simp[results,results60,go_sem,bq,j,l,m,o,p]
  ·have d1:(n==0)=F:=by simpa using q
   have d2:(n != 0)=T:=by simpa using q
   have E:=ae (show fB ⟨2,f,c,g,d⟩ n=⟨3,f,c,g,d⟩ by unfold fB;dsimp only;rw[ax (by decide),ax (by decide),aD R,aD q]);go_wp2;obtain⟨⟨j,l,m,o,p⟩,i⟩:=qj GC.o BC.o U.o (I J 3) (I J f) (I J c) (I J g) (I J d) _ R;refine bj (v:=bq ⟨3,f,c,g,d⟩) ?_ R ⟨by rw[E.o];rfl,i⟩;clear D H K O P r s t u x y z A B C S Z;generalize aK _ _ _=M at *;simp[results,results60,go_sem,bq,j,l,m,o,p]
 ·have q:(k==0)=F:=by simpa using c0
  have e1:(k==1)=F:=by simpa using c1
  have e2:(k==2)=F:=by simpa using c2
  have E:=ae (show fB ⟨k,f,c,g,d⟩ n=⟨k,f,c,g,d⟩ by unfold fB;rw[ax c0,ax c1,ax c2]);clear c0 c1 c2;go_wp2;obtain⟨⟨j,l,m,o,p⟩,i⟩:=qj G.o h.o U.o (I J k) (I J f) (I J c) (I J g) (I J d) _ R;refine bj (v:=bq ⟨k,f,c,g,d⟩) ?_ R ⟨by rw[E.o];rfl,i⟩;clear D H K O P r s t u x y z A B C S Z;generalize aK _ _ _=M at *;simp[results,results60,go_sem,bq,j,l,m,o,p]
theorem RB(g:M)(o:aF)(f:Z)(x:M)(w:av)(P:yr w g o)(n:yl o)(hx:x<=65535):
  Calls prog 31 #[aM (S ⟨g,0,N⟩),I J f,I J x] w λe a=>∃k j,e=aH (aZ #[I J k,I J j])/\LC o.ay f x k j/\az w a N:=by
 obtain⟨at_,ct,af,cf,ad,cd,aa,ca,gP,cs,ar,cr,d,-,-,-,-,-,l⟩:=P.open;have b:=ae (pi.dh l);have HB:=ae d;have hl:=n.Mk;have Oi:=ae (λ(i:M) (a:i<ah o.ay)=>show (0<=(o.ay[i]'a).off/\(o.ay[i]'a).off%4=0/\(o.ay[i]'a).off<=1048576)/\(1<=yy (o.ay[i]'a)/\yy (o.ay[i]'a)<=3)/\((o.ay[i]'a).kind=6->(o.ay[i]'a).bh=4\/(o.ay[i]'a).bh=12) by
  have h:=n.rel i a;obtain⟨s,t,u⟩:=h.2.2.2.2.1;have p:=yW h.2.1;have m:(yp o (o.ay[i]'a).au).length<=65535:=sd ⟨by have:=n.1.1.1;omega,by have:=n.1.1.2.1;omega,by have:=n.1.1.2.2;omega,by have:=n.2.1.1;omega,by have:=n.sX;omega,by omega⟩ _;exact⟨⟨s,t,by omega⟩,p,h.2.1.six⟩)
 clear P d l n;generalize o.ay=d at *;have R0:=ae (show cB f (4*(x:Z)) 0 d=cB f (4*(x:Z)) 0 (d.drop 0)from R);have K:=ae (show ∀k j,LC d f x k j↔((cB f (4*(x:Z)) 0 d=(0,⟨0,0,0,0,0⟩)/\k = -1/\j=0) \/
  ∃i,∃h:i<ah d,cB f (4*(x:Z)) 0 d=((i:Z),d[i])/\k=i/\d[i].au=f/\d[i].off+4*j=4*(x:Z)/\0<=j/\j<yy d[i])from λ_ _=>Iff.rfl)
 generalize LC d f x=zx at *;generalize cB f (4*(x:Z)) 0 d=a at *;go_enter func31,ntmps31;go_wp2
 go_loopw [8] (λi wr=>∃k:M,k<=ah d/\i=I J k/\a=cB f (4*(x:Z)) k (d.drop k)/\az w wr N) (λi _=>ah d-(intOf i).toNat)
 case atStart=>exact⟨0,Nat.zero_le _,R,R0.o,World.grownBy.refl _ _⟩
 case round=>
  obtain⟨k,hk,rfl,m,l⟩:=hrel;have y:=ae m;have z:=ae l;clear m l;have Q:=(HB.o.grown z.o (by simp)).cell 6;simp only[bI,bB,bL]at Q;by_cases l:k<ah d
  ·obtain⟨sg,D,hgs,m⟩:=b.o.grown z.o (by omega);subst D;obtain⟨U,C,G,H,O⟩:=m k l;clear m;have g2:(k:Z)<(ah d:Z):=by omega
   have A:=ae (Q0 f (4*(x:Z)) d k l);obtain⟨⟨r1,r2,r3⟩,⟨s1,s2⟩,u⟩:=Oi.o k l;have B:=ae (λ(j:Z) (e:a=((k:Z),d[k])) (b:d[k].au=f) (p:d[k].off+4*j=4*(x:Z)) (m:0<=j) (n:j<yy d[k])=>(K.o k j).2 (.inr ⟨k,l,e,R,b,p,m,n⟩));generalize d[k]=r at *;have t:=ae (λW=>KT r W u);unfold eU at t;have m:=ae (aA.new wr #[I J r.au,I J r.off,I J r.kind,I J r.sym,I J r.bh] 75);have iM:=ae (ya z.o (aG wr (.cells #[I J r.au,I J r.off,I J r.kind,I J r.sym,I J r.bh] 75) N));have v:=ae (show yy r=yy r from R)
   generalize p:yy r=s at *;have HP:=ae p;clear p v u
   go_upto_region 5 with fail
   generalize wr.alloc (.cells #[I J r.au,I J r.off,I J r.kind,I J r.sym,I J r.bh] 75)=u at *;generalize wr.heap.size=X at *;clear Q U C G H O;have Y:aq u ⟨X,0,N⟩=S (I J r.au):=m.o.cell 0;have H:aq u ⟨X,1,N⟩=S (I J r.off):=m.o.cell 1;have C:aq u ⟨X,2,N⟩=S (I J r.kind):=m.o.cell 2;have G:aq u ⟨X,3,N⟩=S (I J r.sym):=m.o.cell 3;have U:aq u ⟨X,4,N⟩=S (I J r.bh):=m.o.cell 4
   go_upto_region 6 with (go_at_call 56;refine(t.o _).mono ?_;rintro e O ⟨rfl,p⟩)
   have v:=ae (ya iM.o p);have V:=ae (m.o.grown p (by simp));clear Y H C G U p m t;have Y:aq O ⟨X,0,N⟩=S (I J r.au):=V.o.cell 0;have H:aq O ⟨X,1,N⟩=S (I J r.off):=V.o.cell 1;obtain⟨q,m⟩:∃q:Z,r.off=4*q:=⟨r.off/4,by omega⟩
   have U:0<=q:=by omega
   have t1:Int.tdiv (4*q) 4=q:=by rw[Int.tdiv_eq_ediv_of_nonneg (by omega)];omega
   have t2:(4*q)/4=q:=by omega
   rw[m]at H r3;have t:=ae m;have G:=ae (λ(h:¬(r.au=f/\q<=x/\(x:Z)<q+s))=>show a=cB f (4*(x:Z)) (k+1) (d.drop (k+1)) by
    rw[y.o,A.o,ax (λc=>h ⟨c.1,by have:=t.o;omega,by have:=t.o;omega⟩)])
   have C:=ae (λ(h:r.au=f/\q<=x/\(x:Z)<q+s)=>show zx k ((x:Z)-q)from B.o _ (by
    rw[y.o,A.o,aD ⟨h.1,by have:=t.o;omega,by have:=t.o;omega⟩]) h.1 (by rw[t.o];omega) (by omega) (by omega))
   clear m r1 r2 B A y;by_cases m:r.au=f
   ·have d1:(r.au==f)=T:=by simpa using m
    by_cases A:q<=x
    ·have d2:decide (q<=(x:Z))=T:=by simpa using A
     have w2:J.wrap (q+s)=q+s:=dD _ ⟨by omega,by omega⟩;by_cases B:(x:Z)<q+s
     ·have d3:decide ((x:Z)<q+s)=T:=by simpa using B
      have E:=ae (C.o ⟨m,A,B⟩);have w3:J.wrap ((x:Z)-q)=(x:Z)-q:=dD _ ⟨by omega,by omega⟩;clear m;go_wp2
      go_quiet (fail)
      go_wp2;go_ret2;exact⟨_,_,R,E.o,ye v.o nq⟩
     ·have d3:decide ((x:Z)<q+s)=F:=by simpa using B
      have E:=ae (G.o λc=>B c.2.2);clear m;go_wp2
      go_roundw
      case rel=>exact⟨k+1,by omega,by go_num,E.o,v.o⟩
      case measure=>simp[intOf];omega
    ·have d2:decide (q<=(x:Z))=F:=by simpa using A
     have E:=ae (G.o λc=>A c.2.1);clear m;go_wp2
     go_roundw
     case rel=>exact⟨k+1,by omega,by go_num,E.o,v.o⟩
     case measure=>simp[intOf];omega
   ·have d1:(r.au==f)=F:=by simpa using m
    have E:=ae (G.o λc=>m c.1);clear m;go_wp2
    go_roundw
    case rel=>exact⟨k+1,by omega,by go_num,E.o,v.o⟩
    case measure=>simp[intOf];omega
  ·obtain rfl:k=ah d:=by omega
   have E:=ae (show a=(0,⟨0,0,0,0,0⟩) by rw[y.o,List.drop_length];rfl);have m:decide ((ah d:Z)<(ah d:Z))=F:=by simp
   go_wp2;go_ret2;exact⟨_,_,R,(K.o _ _).2 (.inl ⟨E.o,R,R⟩),z.o⟩
structure qJ (W:av) (b:M) (ap:aR aY) (cp:M) (gl:L M) (os:L aF):Prop where
 cell:W.cell? ⟨b,0,N⟩=S (ak ap gl.length cp)
 parts:oq W ap gl os
theorem qJ.kept{W a:av}{b:M}{c:aR aY}{cp:M}{d:L M}{os:L aF}(h:qJ W b c cp d os)(e:az W a N):qJ a b c cp d os:=⟨yd h.cell e,h.parts.kept e⟩
theorem St(b:M)(C:aR aY)(cp:M)(g:L M)(os:L aF)(i s:M)(w:av)(h:qJ w b C cp g os)(z:i<ah os)(Q:1<=s)(U:s<=4):
  Calls prog 55 #[aM (S ⟨b,0,N⟩),I J i,I J s] w λe a=>e=aH (I J (4*((aQ os[i] s).length:Z)))/\az w a N:=by
 have a:=h.parts.len;have j:=h.parts.val os[i] (bN z);have k:i<ah g:=by omega
 have A:=h.parts.obj i k z;have x:=ae (Gk g[i] os[i] w A j.1.2.1);have D:=h.cell;obtain⟨K,H,t,y⟩:=h.parts.kD (by omega);subst t;have E:=y i k;have sl:=vN j s;have O:(i:Z)<(ah g:Z):=by omega
 have v:=ae (λ(l:av) (B:M) f p r o q n c (d:qY l B os[i] f p r o q n c)=>show ∃m cp,aq l ⟨B,s,N⟩=S (ak m (aQ os[i] s).length cp) by
  obtain⟨m,cp,u,-⟩:=d.all (s-1) (by omega);rw[show s-1+1=s by omega]at u;exact⟨m,cp,u⟩)
 clear h y j A a;generalize c:(aQ os[i] s).length=a at *;clear c;generalize g[i]=P at *;have G:(s:Z)<5:=by omega
 have V:J.wrap (4*(a:Z))=4*(a:Z):=dD _ ⟨by omega,by omega⟩;go_enter func55,ntmps55
 go_upto_region 2 with (go_at_call 30;refine x.o.mono ?_;rintro e l ⟨B,f,p,r,o,q,n,c,rfl,d,j⟩)
 obtain⟨m,A,u⟩:=v.o l B f p r o q n c d;have y:=ae j;clear d j x v D E;go_wp2;go_ret;exact⟨R,y.o⟩
variable {ms:L aI} {bt aj bd:Z} {W:av} {m:aI} {os:L aF}
theorem HZ(m:aI)(s:Z)(ws:L Z)(i:M)(a:Z):(dU m s i ws a).getD 0 0=a:=by cases ws<;>rfl
theorem MJ(m:aI)(s:Z):∀(ws:L Z) (i:M) (a:Z),(dU m s i ws a).getD (ah ws) 0=ff m s i ws a:=by
 intro ws
 induction ws with
 |nil=>intro i a;rfl
 |cons x ws b=>
  intro i a;rw[dU,ff,dA,uK];exact b _ _
theorem UE(m:aI)(s:Z):∀(ws:L Z) (i:M) (a:Z) (w:M),w<=ah ws->(dU m s i ws a).getD w 0<=ff m s i ws a:=by
 intro ws
 induction ws with
 |nil=>
  intro i a w b;obtain rfl:w=0:=by simpa using b
  exact Int.le_refl _
 |cons x ws c=>
  intro i a w b;rw[dU,ff]
  cases w with
  |zero=>
   rw[I4]
   have:=(ME m s ws (i+1) (if eQ m s (4*i) a=T then a+4 else a)).1
   refine Int.le_trans ?_ this;split<;>omega
  |succ w=>
   rw[uK];exact c _ _ w (by simpa using b)
theorem vi(s:M):∀(ms:L aI) (a:Z) (i:M) (h:i<ah ms),(jg s ms a).getD i []=dU ms[i] s 0 (aQ ms[i].obj s) (du (dn s (ms.take i) a) (eJ ms[i] s)):=by
 intro ms
 induction ms with
 |nil=>intro a i h;exact absurd h (ji _)
 |cons m r b=>
  intro a i h;rw[jg]
  cases i with
  |zero=>rfl
  |succ i=>exact b _ i (by simpa using h)
theorem Ec(s:M):∀(ms:L aI) (a:Z) (i:M) (h:i<ah ms),dn s (ms.take (i+1)) a=ff ms[i] s 0 (aQ ms[i].obj s) (du (dn s (ms.take i) a) (eJ ms[i] s)):=by
 intro ms
 induction ms with
 |nil=>intro a i h;exact absurd h (ji _)
 |cons m r b=>
  intro a i h
  cases i with
  |zero=>rfl
  |succ i=>exact b _ i (by simpa using h)
theorem tc(s:M)(c:1<=s)(d:s<=4)(ms:L aI)(a:Z)(e:∀m∈ms,yl m.obj)(f:0<=a)(h:a+4832*ah ms<=1099511627776)(i:M):a<=dn s (ms.take i) a/\dn s (ms.take i) a<=dn s ms a/\dn s ms a<=a+4832*ah ms:=by
 have b:∀(l r:L aI) (a:Z),dn s (l++r) a=dn s r (dn s l a):=by
  intro l
  induction l with
  |nil=>intro r a;rfl
  |cons m l g=>intro r a;rw[EU,dn,dn,g]
 have n:(ms.take i).length+(ms.drop i).length=ah ms:=by rw[iO,List.length_drop];omega
 have j:=yg s c d (ms.take i) a (λm b=>e m (xG b)) f (by omega);have k:=yg s c d (ms.drop i) (dn s (ms.take i) a) (λm b=>e m (List.mem_of_mem_drop b)) (by omega) (by omega);have g:=yg s c d ms a e f h
 have:=b (ms.take i) (ms.drop i) a
 rw[rB]at this;rw[this]at g ⊢;omega
theorem AH(i:∀m∈ms,yl m.obj)(r:ah ms<=48)(h:0<=bt/\bt<=1073741824/\bt%4=0)(g:0<=aj/\aj<=1073741824/\aj%4=0)(f:0<=bd/\bd<=1073741824/\bd%4=0):
  ez bt aj bd ms 1=bt+4*((dZ (aS bt aj bd ms) 1 bt 19 (aS bt aj bd ms) []).length:Z)/\ez bt aj bd ms 2=aj+4*((dZ (aS bt aj bd ms) 2 aj 19 (aS bt aj bd ms) []).length:Z)/\ez bt aj bd ms 3=bd+4*((dZ (aS bt aj bd ms) 3 bd 0 (aS bt aj bd ms) []).length:Z):=by
 have a:=qf (sk ms bt aj bd) i;have b:=sj ms bt aj bd;have c:=Rj ms bt aj bd;have j:qa 1 aI.text (aS bt aj bd ms) bt (pZ 1 ms bt):=Gj 1 aI.text (λ_ _=>rfl) _ _ _ _ c.1;have k:qa 2 aI.bw (aS bt aj bd ms) aj (pZ 2 ms aj):=Gj 2 aI.bw (λ_ _=>rfl) _ _ _ _ c.2;have l:sD (aS bt aj bd ms) bd (iY ms bd):=Ri _ _ _ _ (QS ms bt aj bd);have d:=GH (aS bt aj bd ms) 1 (.inl R) aI.text bt 19 h.2.2 Rn (aS bt aj bd ms) [] bt _ a h.1 (by rw[b];omega) (by simp) j;have e:=GH (aS bt aj bd ms) 2 (.inr R) aI.bw aj 19 g.2.2 Q7 (aS bt aj bd ms) [] aj _ a g.1 (by rw[b];omega) (by simp) k
 have n:=RU (aS bt aj bd ms) bd 0 f.2.2 (aS bt aj bd ms) [] bd _ a f.1 (by rw[b];omega) (by simp) l;have o:ez bt aj bd ms 1=pZ 1 ms bt:=MQ 1 (.inl R) ms bt;have p:ez bt aj bd ms 2=pZ 2 ms aj:=MQ 2 (.inr R) ms aj;have q:ez bt aj bd ms 3=iY ms bd:=Eh ms bd i;simp only[EK]at d e;exact⟨by rw[o,<- d],by rw[p,<- e],by rw[q,<- n]⟩
theorem Rt(bt aj bd:Z)(a:∀m∈ms,yl m.obj):oH bd ms=(ez bt aj bd ms 4-ez bt aj bd ms 3)/4:=by
 have b:ez bt aj bd ms 3=iY ms bd:=Eh ms bd a;have c:ez bt aj bd ms 4=nl ms (iY ms bd):=by
  show dn 4 ms (dn 3 ms bd)=_;rw[UI _ _ a,Eh _ _ a]
 rw[b,c];rfl
def iW(m:cq):L aL:=[73,77]++bu m.start 4++bu m.text 4++bu m.bw 4++bu m.data 4++bu (ah m.T:Z) 2++bu (ah m.F:Z) 2++bu (ah m.D:Z) 2++bu m.fD 2++dY m.T 4++dY m.F 4++dY m.D 4
structure BZ (W:av) (b g:M) (m:cq) (at_:aR aY) (ct:M) (af:aR aY) (cf:M) (ad:aR aY) (cd:M):Prop where
 aO:aA W g #[I J m.start,I J m.text,I J m.bw,I J m.data,ak at_ m.T.length ct,ak af m.F.length cf,ak ad m.D.length cd,I J m.fD] 135
 ne:g≠b
 text:mB W b at_ m.T
 bw:mB W b af m.F
 data:mB W b ad m.D
structure Da (w:av) (b g:M) (m:cq) (at_:aR aY) (ct:M) (af:aR aY) (cf:M) (ad:aR aY) (cd:M) (l:L aL) (W:av):Prop where
 wr:gG W b l
 ob:BZ W b g m at_ ct af cf ad cd
 be:Below b w W
section
variable{w W a:av}{b g:M}{m:cq}{at_ e d:aR aY}{ct cf cd:M}{l i:L aL}
theorem BZ.kept(h:BZ W b g m at_ ct e cf d cd)(c:Wk b W a):BZ a b g m at_ ct e cf d cd :=
 ⟨c.2 g _ _ h.ne (by decide) h.aO,h.ne,h.text.kept c,h.bw.kept c,h.data.kept c⟩
theorem Da.step(h:Da w b g m at_ ct e cf d cd l W)(f:gG a b i)(c:Wk b W a):Da w b g m at_ ct e cf d cd i a :=
 ⟨f,h.ob.kept c,h.be.trans c.1⟩
end
theorem ij.LY{g:M}{m:cq}(h:ij W g m)(r:Obj):∃a i c f b d,BZ (W.alloc r) W.heap.size g m a i c f b d:=by
 obtain⟨a,i,c,f,b,d,q,l,o,p⟩:=h.open;have j:∀ {e:TypeId} {b:M} {c:aR aY} {n a:M} {f:L aC},World.ownsRow W 0 e b (ak c n a) n f->∀k,Value.ownBlock (ak c n a)=S k->k≠W.heap.size:=λh k d=>by have:=(h.lt k d).2;omega
 refine⟨a,i,c,f,b,d,q.grown (aG _ _ N) (by simp),by have:=q.lt;omega,?_,?_,?_⟩
 ·exact mB.dh (l.alloc _) (j l)
 ·exact mB.dh (o.alloc _) (j o)
 ·exact mB.dh (p.alloc _) (j p)
def GR(xs:L Z):Prop:=∀i (h:i<ah xs),-1099511627776<=xs[i]/\xs[i]<=1099511627776
theorem abh(g:Nat)(m:cq)(w:av)(h:ij w g m)(ht:ni m)(E:GR m.T)(hF:GR m.F)(D:GR m.D):
  Calls prog 40 #[aM (some ⟨g,0,N⟩)] w λe a=>e=aH (aB (bs (iW m)))/\az w a N:=by
 obtain⟨a1,a2,a3,a4,a5,a6⟩:=ht;have I:=ae E;have F:=ae hF;have Y:=ae D;obtain⟨f,s,p,r,o,q,a⟩:=h.LY (.cells #[ak N 0 0] 166);have d:Hd (Da w w.heap.size g m f s p r o q [] (w.alloc (.cells #[ak N 0 0] 166))):=⟨Ta w,a,(Below.refl _ _).alloc (bz _) _⟩
 clear a h E hF D;go_enter func40,ntmps40;go_wp2_with fail;generalize a:w.heap.size=b at *;have kS:=ae a;clear a;refine Calls.fK (Da w b g m f s p r o q []) d.o ?_;clear d;intro V0 a;have d:=ae a;clear a;refine(Ky b ⟨#[73,77]⟩ [] V0 d.o.wr (by simp) (by decide)).mono ?_;rintro e V1 ⟨rfl,c,a⟩;have j:=ae (d.o.step c a);clear d;generalize d:[]++sl ⟨#[73,77]⟩=t at *;have n1:ah t<=2:=by rw[<- d];decide
 have G:=ae d;clear d c a;have d:=j.o.ob.aO.cell 0;go_wp2_with fail;refine(kV b m.start 4 4 rfl t V1 j.o.wr (by omega) (by omega) (by omega) (by omega)).mono ?_;rintro e V2 ⟨rfl,c,a⟩;have k:=ae (j.o.step c a);clear j d;generalize d:t++bu m.start 4=u at *;have n2:ah u<=6:=by rw[<- d,bX,dg];omega
 have H:=ae d;clear d c a;have d:=k.o.ob.aO.cell 1;go_wp2_with fail;refine(kV b m.text 4 4 rfl u V2 k.o.wr (by omega) (by omega) (by omega) (by omega)).mono ?_;rintro e ke ⟨rfl,c,a⟩;have j:=ae (k.o.step c a);clear k d;generalize d:u++bu m.text 4=v at *;have n3:ah v<=10:=by rw[<- d,bX,dg];omega
 have K:=ae d;clear d c a;have d:=j.o.ob.aO.cell 2;go_wp2_with fail;refine(kV b m.bw 4 4 rfl v ke j.o.wr (by omega) (by omega) (by omega) (by omega)).mono ?_;rintro e gw ⟨rfl,c,a⟩;have k:=ae (j.o.step c a);clear j d;generalize d:v++bu m.bw 4=x at *;have n4:ah x<=14:=by rw[<- d,bX,dg];omega
 have O:=ae d;clear d c a;have d:=k.o.ob.aO.cell 3;go_wp2_with fail;refine(kV b m.data 4 4 rfl x gw k.o.wr (by omega) (by omega) (by omega) (by omega)).mono ?_;rintro e fp ⟨rfl,c,a⟩;have j:=ae (k.o.step c a);clear k d;generalize d:x++bu m.data 4=y at *;have n5:ah y<=18:=by rw[<- d,bX,dg];omega
 have P:=ae d;clear d c a;have d:=j.o.ob.aO.cell 4;go_wp2_with fail;refine(kV b (ah m.T:Z) 2 2 rfl y fp j.o.wr (by omega) (by omega) (by omega) (by omega)).mono ?_;rintro e ja ⟨rfl,c,a⟩;have k:=ae (j.o.step c a);clear j d;generalize d:y++bu (ah m.T:Z) 2=z at *;have n6:ah z<=20:=by rw[<- d,bX,dg];omega
 have Q:=ae d;clear d c a;have d:=k.o.ob.aO.cell 5;go_wp2_with fail;refine(kV b (ah m.F:Z) 2 2 rfl z ja k.o.wr (by omega) (by omega) (by omega) (by omega)).mono ?_;rintro e wF ⟨rfl,c,a⟩;have j:=ae (k.o.step c a);clear k d;generalize d:z++bu (ah m.F:Z) 2=A at *;have n7:ah A<=22:=by rw[<- d,bX,dg];omega
 have U:=ae d;clear d c a;have d:=j.o.ob.aO.cell 6;go_wp2_with fail;refine(kV b (ah m.D:Z) 2 2 rfl A wF j.o.wr (by omega) (by omega) (by omega) (by omega)).mono ?_;rintro e xN ⟨rfl,c,a⟩;have k:=ae (j.o.step c a);clear j d;generalize d:A++bu (ah m.D:Z) 2=B at *;have n8:ah B<=24:=by rw[<- d,bX,dg];omega
 have V:=ae d;clear d c a;have d:=k.o.ob.aO.cell 7;go_wp2_with fail;refine(kV b m.fD 2 2 rfl B xN k.o.wr (by omega) (by omega) (by omega) (by omega)).mono ?_;rintro e tW ⟨rfl,c,a⟩;have j:=ae (k.o.step c a);clear k d;generalize d:B++bu m.fD 2=C at *;have n9:ah C<=26:=by rw[<- d,bX,dg];omega
 have X:=ae d;clear d c a;have d:=j.o.ob.aO.cell 4;go_wp2_with fail;refine(zf b f s 4 4 rfl m.T C tW j.o.wr j.o.ob.text (by omega) (by omega) (by omega) I.o).mono ?_;rintro e M ⟨rfl,c,a⟩;have k:=ae (j.o.step c a);clear j d;generalize d:C++dY m.T 4=j at *;have n10:ah j<=262166:=by rw[<- d,bX,qh];omega
 have JC:=ae d;clear d c a;have d:=k.o.ob.aO.cell 5;go_wp2_with fail;refine(zf b p r 4 4 rfl m.F j M k.o.wr k.o.ob.bw (by omega) (by omega) (by omega) F.o).mono ?_;rintro e J ⟨rfl,c,a⟩;have l:=ae (k.o.step c a);clear k d;generalize d:j++dY m.F 4=n at *;have n11:ah n<=524306:=by rw[<- d,bX,qh];omega
 have JD:=ae d;clear d c a;have d:=l.o.ob.aO.cell 6;go_wp2_with fail;refine(zf b o q 4 4 rfl m.D n J l.o.wr l.o.ob.data (by omega) (by omega) (by omega) Y.o).mono ?_;rintro e T ⟨rfl,c,a⟩;have k:=ae (l.o.step c a);clear l d;generalize l:n++dY m.D 4=d at *;have wL:ah d<=786446:=by rw[<- l,bX,qh];omega
 have S:=ae l;clear l c a;go_wp2_with fail;refine(Sd b d T k.o.wr).mono ?_;rintro e w2 ⟨rfl,rfl⟩;have c:=ae (show d=iW m by rw[<- S.o,<- JD.o,<- JC.o,<- X.o,<- V.o,<- U.o,<- Q.o,<- P.o,<- O.o,<- K.o,<- H.o,<- G.o];simp[iW,sl]);have l:=ae k.o.be;clear k;go_wp2;go_ret;refine⟨by rw[c.o];rfl,?_⟩;have a:=l.o;exact⟨a.os,a.tape,a.output,a.size,λi c _=>a.block i (by have:=kS.o;omega)⟩
def qE(os:L aF)(bt aj bd:Z):L aL×jv :=
 if (mI os).e≠0 then ([],mI os)
 else if (nT (kK os bt aj bd) (mJ os bt aj bd)).e≠0 then ([],nT (kK os bt aj bd) (mJ os bt aj bd))
 else (iW (kK os bt aj bd),eM)
def xm(bt aj bd:Z)(fs:L (L aL))(e:Ending):Prop :=
 (∃f:jv,f.e≠0/\e=aH (aZ #[aB (bs []),bY f]) /\
  (f=kj bt aj bd \/
  (kj bt aj bd=eM/\(ah fs<1\/8<ah fs)/\f=⟨31,0,[]⟩) \/
  (kj bt aj bd=eM/\1<=ah fs/\(ah fs)<=8/\∃i,∃h:i<ah fs,f=⟨32,i,[]⟩/\Bh fs[i]/\∀j (hj:j<i),∃a os,mU (fs[j]'(by omega)) a os))) \/
 (kj bt aj bd=eM/\1<=ah fs/\(ah fs)<=8/\∃(xs:L (Bool×L aF)) (hx:ah xs=ah fs),(∀i (h:i<ah fs),mU fs[i] (xs[i]'(by omega)).1 (xs[i]'(by omega)).2)/\e=aH (aZ #[aB (bs (qE (gh xs) bt aj bd).1),bY (qE (gh xs) bt aj bd).2]))
theorem Ru(h:kj bt aj bd=eM):fc bt/\fc aj/\fc bd:=by
 have e:(kj bt aj bd).e=0:=by rw[h];rfl
 unfold kj at e;by_cases a:¬fc bt
 ·rw[aD a]at e;cases e
 rw[ax a]at e;by_cases b:¬fc aj
 ·rw[aD b]at e;cases e
 rw[ax b]at e;by_cases c:¬fc bd
 ·rw[aD c]at e;cases e
 exact⟨Mv.1 a,Mv.1 b,Mv.1 c⟩
theorem Ra{fs:L (L aL)}{a:L (Bool×L aF)}(e:ah a=ah fs)(c:ah fs<=8)(h:∀i (h:i<ah fs),mU fs[i] (a[i]'(by omega)).1 (a[i]'(by omega)).2):(∀o∈gh a,yl o)/\(gh a).length<=48:=by
 have q:∀x∈a,(∀o∈x.2,yl o)/\x.2.length<=6:=by
  intro x b;obtain⟨i,d,rfl⟩:=kY b;exact Rr (h i (by omega))
 refine⟨aci yl a [] (λx b=>(q x b).1) (by simp),?_⟩
 have:=RY a [] (λx b=>(q x b).2)
 unfold gh;simp only[List.length_nil]at this;omega
theorem ij.rK{I R:M}{d:cq}{f:Array aC}(h:ij W I d)(g:aA W R f 27)(a b c:aC):ij (((aK W ⟨R,0,N⟩ a).setCell ⟨R,1,N⟩ b).setCell ⟨R,2,N⟩ c) I d:=by
 have G:=World.grownBy.trans (World.grownBy.trans (bK W R 0 a) (bK _ R 1 b)) (bK _ R 2 c);obtain⟨p,o,n,i,j,k,l⟩:=h;have e:=dr.aO g;exact⟨p,o,n,fh i G e (by decide),ec j G e (by decide),ec k G e (by decide),ec l G e (by decide)⟩
theorem TD{R:M}{x y z:aC}(h:aA W R #[x,y,z] 27)(a b c:aC):aA (((aK W ⟨R,0,N⟩ a).setCell ⟨R,1,N⟩ b).setCell ⟨R,2,N⟩ c) R #[a,b,c] 27:=by
 simpa using ((h.set 0 a).set 1 b).set 2 c
theorem K7{a:L Z}(h:lV a):GR a:=λi a=>by
 have:=h _ (bN a)
 omega
theorem ae5(bt aj bd:Int)(af:aR aY)(cf:Nat)(fs:L (L aL))(w:av)(hin:sE w af fs)(hsz:∀f∈fs,ah f<=1048576)(ht:eH w)(hn:ah fs<=1048576):
  Calls prog 15 #[ak af (ah fs) cf,.agg #[I J bt,I J aj,I J bd]] w λe a=>xm bt aj bd fs e/\az w a N:=by
 have HT:=ae ht;have HI:=ae hin;have i:=ae (λW (hg:az w W N)=>acT bt aj bd af cf fs W (HI.o.kept hg) hsz (HT.o.grown hg) hn);have a:(w.alloc (.cells #[I J bt,I J aj,I J bd] 31)).heap.size=w.heap.size+1:=Array.size_push _;have c:=aG (w.alloc (.cells #[I J bt,I J aj,I J bd] 31)) (.cells #[I J 0,I J 0,aB ⟨#[]⟩] 27) N;have G1:=ae (ya (aG w (.cells #[I J bt,I J aj,I J bd] 31) N) c);have l:=ae (aA.new (w.alloc (.cells #[I J bt,I J aj,I J bd] 31)) #[I J 0,I J 0,aB ⟨#[]⟩] 27)
 rw[a]at l;clear hin ht c a;go_enter func15,ntmps15;go_wp2_with fail;generalize (w.alloc (.cells #[I J bt,I J aj,I J bd] 31)).alloc (.cells #[I J 0,I J 0,aB ⟨#[]⟩] 27)=W1 at *;have Ct:w.heap.size<=w.heap.size+1:=by omega
 generalize w.heap.size+1=g at *;refine(i.o _ G1.o).mono ?_;rintro e r ⟨hg,j⟩;have G2:=ae (ya G1.o j);have wI:=ae (l.o.grown j (by simp));have aiQ:=l.o.lt;have hR2:=wI.o.lt;have Vv:=ae j;clear j i l;rcases hg with ⟨f,hf,rfl,hc⟩|⟨hb,hl1,hl2,xs,hx,P,vm,bl,gl,Z,rfl,hga⟩
 ·have H:=ae (show xm bt aj bd fs (aH (aZ #[aB (bs []),bY f]))from .inl ⟨f,hf,R,hc⟩);obtain⟨c,k,l⟩:=f;unfold bY;dsimp only at *;have d1:(c==0)=F:=by simpa using hf
  have d2:(c != 0)=T:=by simpa using hf
  have q:=ae (aA.new r #[I J c,I J k,aB (bs l)] 27);have n:=ae (aG r (.cells #[I J c,I J k,aB (bs l)] 27) N);have i:=ae (wI.o.grown n.o (by simp));have G:=ae (ya G2.o n.o);clear hf hc;go_wp2;generalize r.alloc (.cells #[I J c,I J k,aB (bs l)] 27)=V at *;have Ge:g≠r.heap.size:=by omega
  generalize r.heap.size=X at *;have B:aq V ⟨X,0,N⟩=S (I J c):=q.o.cell 0;have C:aq V ⟨X,1,N⟩=S (I J k):=q.o.cell 1;have D:aq V ⟨X,2,N⟩=S (aB (bs l)):=q.o.cell 2;have z0:aq V ⟨g,0,N⟩=S (I J 0):=i.o.cell 0;have z1:aq V ⟨g,1,N⟩=S (I J 0):=i.o.cell 1;have z2:aq V ⟨g,2,N⟩=S (aB ⟨#[]⟩):=i.o.cell 2;have U:=i.o.free 0;have Y:=i.o.free 1;have M:=i.o.free 2
  go_region_held3 (λa=>aq a ⟨X,0,N⟩=S (I J c)/\aq a ⟨X,1,N⟩=S (I J k)/\aq a ⟨X,2,N⟩=S (aB (bs l)))
   (go_keep)
   (fail)
  go_wp2;have a:=mA (((i.o.set 0 (I J c)).set 1 (I J k)).set 2 (aB (bs l)));have o:=a.cell 0;have p:=a.cell 1;have j:=a.cell 2;simp only[dt,dB,dC,bI,bB,bL]at o p j;refine bj (v:=aZ #[aB (bs []),bY ⟨c,k,l⟩]) ?_ R ⟨H.o,yf (iC G.o _ Ct _ _ _)⟩;clear a z0 z1 z2 U Y M;generalize tG _=a at *;simp[results,results15,go_sem,bY,bs,o,p,j]
 ·have c:=Ra hx hl2 Z;have E:=ae (λ(b:L aL) (f:jv) (h:qE (gh xs) bt aj bd=(b,f))=>show xm bt aj bd fs (aH (aZ #[aB (bs b),bY f]))from .inr ⟨hb,hl1,hl2,xs,hx,Z,by rw[h]⟩);have a:=Ru hb;clear hb hl1 hl2 Z;generalize gh xs=os at *;have z:=ae (TF c.1 c.2 a.1 a.2.1 a.2.2);have zv:=ae (Kv os c.1);have t:=vA a.1;have f:=vA a.2.1;have d:=vA a.2.2;have LO:=hga.gx;have n:=aG r (.cells #[I J 0,I J 0,aB (bs [])] 27) N;have k:=ae ((hga.prog.kept n).f);have q:=ae (aA.new r #[I J 0,I J 0,aB (bs [])] 27)
  have i:=ae (wI.o.grown n (by simp));have Ge:g≠r.heap.size:=by omega
  have hX1:=ae Vv.o.size;have zx:=ae (show qE os bt aj bd=if (mI os).e≠0 then ([],mI os)else if (nT (kK os bt aj bd) (mJ os bt aj bd)).e≠0 then ([],nT (kK os bt aj bd) (mJ os bt aj bd))else (iW (kK os bt aj bd),eM)from R);have Yt:=ae c.2;clear hga n hx c a;unfold bY eM;dsimp only
  go_upto_region 4 with fail
  generalize r.alloc (.cells #[I J 0,I J 0,aB (bs [])] 27)=V at *;generalize r.heap.size=X at *;have j:=ae (ab9 V W1 P bt aj bd vm bl gl os V k.o);generalize mI os=tf at *;obtain⟨n,x,y⟩:=tf;unfold bY bO at j;unfold bO;dsimp only at *;go_wp2_with fail;refine j.o.mono ?_;rintro e K ⟨rfl,c⟩;have p:=ae c.toiP;have a:=ae (c.kf _ _ q.o);have s:=ae (c.kf _ _ i.o);clear c j k q i wI;have P4:=ae (p.o.rK a.o hX1.o (I J n) (I J x) (aB (bs y)));have CT:=ae (TD a.o (I J n) (I J x) (aB (bs y)));have i:=ae (F4 s.o Ge (I J n) (I J x) (aB (bs y)))
  have B:aq K ⟨X,0,N⟩=S (I J 0):=a.o.cell 0;have C:aq K ⟨X,1,N⟩=S (I J 0):=a.o.cell 1;have D:aq K ⟨X,2,N⟩=S (aB (bs [])):=a.o.cell 2;have j:dx K ⟨X,0,N⟩=F:=a.o.free 0;have l:dx K ⟨X,1,N⟩=F:=a.o.free 1;have o:dx K ⟨X,2,N⟩=F:=a.o.free 2
  go_upto_region 5 with fail
  clear B C D j l o p a s;generalize (((aK K ⟨X,0,N⟩ (I J n)).setCell ⟨X,1,N⟩ (I J x)).setCell ⟨X,2,N⟩ (aB (bs y)))=A at *;have B:aq A ⟨X,0,N⟩=S (I J n):=CT.o.cell 0;have C:aq A ⟨X,1,N⟩=S (I J x):=CT.o.cell 1;have D:aq A ⟨X,2,N⟩=S (aB (bs y)):=CT.o.cell 2;have G:=ae (ya G1.o P4.o.gr);by_cases q:n=0
  case neg=>
   have d1:(n==0)=F:=by simpa using q
   have d2:(n != 0)=T:=by simpa using q
   have H:=ae (E.o [] ⟨n,x,y⟩ (by rw[zx.o,aD q]));clear q;go_wp2;have z0:aq A ⟨g,0,N⟩=S (I J 0):=i.o.cell 0;have z1:aq A ⟨g,1,N⟩=S (I J 0):=i.o.cell 1;have z2:aq A ⟨g,2,N⟩=S (aB ⟨#[]⟩):=i.o.cell 2;have U:=i.o.free 0;have Y:=i.o.free 1;have M:=i.o.free 2
   go_region_held3 (λa=>aq a ⟨X,0,N⟩=S (I J n)/\aq a ⟨X,1,N⟩=S (I J x)/\aq a ⟨X,2,N⟩=S (aB (bs y)))
    (go_keep)
    (fail)
   go_wp2;have a:=mA (((i.o.set 0 (I J n)).set 1 (I J x)).set 2 (aB (bs y)));have o:=a.cell 0;have p:=a.cell 1;have j:=a.cell 2;simp only[dt,dB,dC,bI,bB,bL]at o p j;refine bj (v:=aZ #[aB (bs []),bY ⟨n,x,y⟩]) ?_ R ⟨H.o,yf (iC G.o _ Ct _ _ _)⟩;clear a z0 z1 z2 U Y M;generalize tG _=a at *;simp[results,results15,go_sem,bY,bs,o,p,j]
  case pos=>
   subst q;have Ok:=ae (show qE os bt aj bd=if (nT (kK os bt aj bd) (mJ os bt aj bd)).e≠0 then ([],nT (kK os bt aj bd) (mJ os bt aj bd))else (iW (kK os bt aj bd),eM) by rw[zx.o,ax (by simp)]);have j:=ae (ac5 A W1 P bt aj bd vm bl gl _ _ 0 A P4.o.f (λm a=>by rw[<- LO];exact(zv.o m a).nice) (λm a=>(zv.o m a).obj) (λm a=>(zv.o m a).short) (by omega) (by omega) (by omega));clear zx zv;unfold bO at j;go_wp2_with fail;refine j.o.mono ?_;rintro e fp ⟨rfl,c⟩;have a:=ae (show iP W1 P bt aj bd vm bl gl (mJ os bt aj bd) (gX os ml) (oH bd (fU (aS bt aj bd (fH os (os.map dV))))) fp from c.toiP)
   have p:=ae (c.kf _ _ CT.o);have u:=ae (c.kf _ _ i.o);clear c j B C D P4 CT i G;have k:=ae (adF W1 P bt aj bd vm bl gl _ _ _ fp (HT.o.grown (ya G1.o a.o.gr)) a.o (by rw[<- LO];exact z.o.nice) z.o.valid z.o.low z.o.Zt (by rw[<- LO];exact z.o.start) (by rw[<- LO];exact Yt.o) (by omega) (by omega) (by omega));unfold bO at k;go_wp2_with fail;refine k.o.mono ?_;rintro e ja ⟨c,rfl,s,j⟩;have l:=ae (show ij ja c (kK os bt aj bd)from s);have o:=ae (a.o.kept j);have U:=ae (p.o.grown j (by simp));have Y:=ae (u.o.grown j (by simp));clear s j k a p u;have p:=ae (ZT W1 P bt aj bd vm bl gl _ _ _ c _ ja o.o (by rw[<- LO];exact z.o.nice) l.o z.o.Ex)
   generalize nT (kK os bt aj bd) (mJ os bt aj bd)=pf at *;obtain⟨k,s,u⟩:=pf;unfold bO bY at p;dsimp only at *;go_wp2_with fail;refine p.o.mono ?_;rintro e O ⟨rfl,j⟩;have H:=ae (l.o.kept j);have Q:=ae (o.o.kept j);have a:=ae (U.o.grown j (by simp));have M:=ae (Y.o.grown j (by simp));clear j p l o U Y;have Nc:=ae (H.o.rK a.o (I J k) (I J s) (aB (bs u)));have Fk:=ae (Q.o.rK a.o hX1.o (I J k) (I J s) (aB (bs u)));have Fx:=ae (TD a.o (I J k) (I J s) (aB (bs u)));have i:=ae (F4 M.o Ge (I J k) (I J s) (aB (bs u)))
   have B:aq O ⟨X,0,N⟩=S (I J 0):=a.o.cell 0;have C:aq O ⟨X,1,N⟩=S (I J x):=a.o.cell 1;have D:aq O ⟨X,2,N⟩=S (aB (bs y)):=a.o.cell 2;have j:dx O ⟨X,0,N⟩=F:=a.o.free 0;have l:dx O ⟨X,1,N⟩=F:=a.o.free 1;have o:dx O ⟨X,2,N⟩=F:=a.o.free 2
   go_upto_region 10 with fail
   clear B C D j l o Q a M H;generalize (((aK O ⟨X,0,N⟩ (I J k)).setCell ⟨X,1,N⟩ (I J s)).setCell ⟨X,2,N⟩ (aB (bs u)))=Q at *;have B:aq Q ⟨X,0,N⟩=S (I J k):=Fx.o.cell 0;have C:aq Q ⟨X,1,N⟩=S (I J s):=Fx.o.cell 1;have D:aq Q ⟨X,2,N⟩=S (aB (bs u)):=Fx.o.cell 2;have G:=ae (ya G1.o Fk.o.gr);by_cases q:k=0
   case neg=>
    have d1:(k==0)=F:=by simpa using q
    have d2:(k != 0)=T:=by simpa using q
    have H:=ae (E.o [] ⟨k,s,u⟩ (by rw[Ok.o,aD q]));clear q;go_wp2;have z0:aq Q ⟨g,0,N⟩=S (I J 0):=i.o.cell 0;have z1:aq Q ⟨g,1,N⟩=S (I J 0):=i.o.cell 1;have z2:aq Q ⟨g,2,N⟩=S (aB ⟨#[]⟩):=i.o.cell 2;have U:=i.o.free 0;have Y:=i.o.free 1;have M:=i.o.free 2
    go_region_held3 (λa=>aq a ⟨X,0,N⟩=S (I J k)/\aq a ⟨X,1,N⟩=S (I J s)/\aq a ⟨X,2,N⟩=S (aB (bs u)))
     (go_keep)
     (fail)
    go_wp2;have a:=mA (((i.o.set 0 (I J k)).set 1 (I J s)).set 2 (aB (bs u)));have o:=a.cell 0;have p:=a.cell 1;have j:=a.cell 2;simp only[dt,dB,dC,bI,bB,bL]at o p j;refine bj (v:=aZ #[aB (bs []),bY ⟨k,s,u⟩]) ?_ R ⟨H.o,yf (iC G.o _ Ct _ _ _)⟩;clear a z0 z1 z2 U Y M;generalize tG _=a at *;simp[results,results15,go_sem,bY,bs,o,p,j]
   case pos=>
    subst q;have H:=ae (E.o (iW (kK os bt aj bd)) eM (by rw[Ok.o,ax (by simp)]));have a:=Rb (gX os ml) bt aj bd (oH bd (fU (aS bt aj bd (fH os (os.map dV))))) z.o.valid;have j:=ae (abh c (kK os bt aj bd) Q Nc.o z.o.Ex (K7 a.1) (K7 a.2.1) (K7 a.2.2));clear a;go_wp2_with fail;refine j.o.mono ?_;rintro e tW ⟨rfl,a⟩;have Vn:=ae (ya G.o a);have l:=ae (i.o.grown a (by simp));clear a j B C D Fk Fx Nc i;have z0:aq tW ⟨g,0,N⟩=S (I J 0):=l.o.cell 0;have z1:aq tW ⟨g,1,N⟩=S (I J 0):=l.o.cell 1
    have z2:aq tW ⟨g,2,N⟩=S (aB ⟨#[]⟩):=l.o.cell 2;have U:=l.o.free 0;have Y:=l.o.free 1;have M:=l.o.free 2;go_wp2;have a:=((l.o.set 0 (I J 0)).set 1 (I J 0)).set 2 (aB ⟨#[]⟩);have o:=a.cell 0;have p:=a.cell 1;have j:=a.cell 2;simp only[dt,dB,dC,bI,bB,bL]at o p j;refine bj (v:=aZ #[aB (bs (iW (kK os bt aj bd))),bY eM]) ?_ R ⟨H.o,iC Vn.o _ Ct _ _ _⟩;clear a z0 z1 z2 U Y M;generalize aK _ _ _=a at *;simp[results,results15,go_sem,bY,eM,bs,o,p,j]
theorem UG(b:ms=fU (aS bt aj bd (fH os (os.map dV))))(d:jH os ms)(f:∀o∈os,yl o)(c:wT os)(e:jP os=(vh os nN).head?)(a:∀p,jP os=S p->lD os p/\1<=(fu os p.1 p.2).au):
  kK os bt aj bd=⟨fA os (bg bt aj bd ms) (jP os),bt,aj,bd,dZ (aS bt aj bd ms) 1 bt 19 (aS bt aj bd ms) [],dZ (aS bt aj bd ms) 2 aj 19 (aS bt aj bd ms) [],dZ (aS bt aj bd ms) 3 bd 0 (aS bt aj bd ms) [],oH bd ms⟩:=by
 unfold kK yN mJ uP;rw[<- b,<- ML d f (jP os) a,e,<- H8 c];rfl
theorem UN(m:aI)(b:Z):∀(ws:L Z) (i:M) (a:Z),a%4=0->ff m b i ws a%4=0:=by
 intro ws
 induction ws with
 |nil=>intro i a h;exact h
 |cons x ws c=>
  intro i a h;rw[ff];refine c _ _ ?_;split
  ·omega
  ·exact h
theorem U8(m:aI)(b:Z):∀(ws:L Z) (i:M) (a:Z),a%4=0->∀k,(dU m b i ws a).getD k 0%4=0:=by
 intro ws
 induction ws with
 |nil=>
  intro i a h k;rw[dU]
  cases k with
  |zero=>exact h
  |succ k=>rfl
 |cons x ws c=>
  intro i a h k;rw[dU]
  cases k with
  |zero=>exact h
  |succ k=>
   rw[uK];refine c _ _ ?_ k;split
   ·omega
   ·exact h
theorem Ad(h:yl m.obj)(s:M)(a:1<=s)(b:s<=4):eJ m s=4\/eJ m s=8\/eJ m s=16:=by
 obtain⟨_,c⟩:=MS h s a b;omega
theorem Ee(s:M)(d:1<=s)(e:s<=4):∀(ms:L aI) (a:Z),(∀m∈ms,yl m.obj)->0<=a->a+4832*ah ms<=1099511627776->a%4=0->dn s ms a%4=0:=by
 intro ms
 induction ms with
 |nil=>intro a _ _ _ h;exact h
 |cons m r g=>
  intro a b c f i;rw[dA]at f;have j:=Ih (b m jU) s d e a c (by omega);have R:=ma a (eJ m s) c (by omega) (Ad (b m jU) s d e);rw[dn];exact g _ (λx c=>b x (lJ _ c)) (by omega) (by omega) (UN _ _ _ _ _ R.2.2)
theorem My(b:∀m∈ms,yl m.obj)(d:ah ms<=48)(e:0<=bt/\bt<=1073741824)(c:0<=aj/\aj<=1073741824)(a:0<=bd/\bd<=1073741824)(s:M):0<=eD bt aj bd ms s/\eD bt aj bd ms s<=1073973760:=by
 have:=yg 3 (by omega) (by omega) ms bd b a.1 (by omega)
 unfold eD;split
 ·omega
 ·split
  ·omega
  ·split
   ·omega
   ·omega
theorem ul(a:∀m∈ms,yl m.obj)(g:ah ms<=48)(h:0<=bt/\bt<=1073741824)(f:0<=aj/\aj<=1073741824)(e:0<=bd/\bd<=1073741824)(i s k:Nat)(b:1<=s)(c:s<=4):(bg bt aj bd ms i s).getD k 0%4=0:=by
 have F:=My a g h f e s;unfold bg;by_cases d:i<ah ms
 ·rw[vi s ms _ i d];have M:=tc s b c ms (eD bt aj bd ms s) a F.1 (by omega) i;exact U8 _ _ _ _ _ (ma _ _ (by omega) (by omega) (Ad (a ms[i] (bN d)) s b c)).2.2 k
 ·rw[bQ (l:=jg _ _ _),List.getElem?_eq_none (by rw[U2];omega)];simp
def bS(os:L aF)(ms:L aI)(bt aj bd:Z):cq:=⟨fA os (bg bt aj bd ms) (jP os),bt,aj,bd,dZ (aS bt aj bd ms) 1 bt 19 (aS bt aj bd ms) [],dZ (aS bt aj bd ms) 2 aj 19 (aS bt aj bd ms) [],dZ (aS bt aj bd ms) 3 bd 0 (aS bt aj bd ms) [],oH bd ms⟩
theorem MK(a:∀m∈ms,yl m.obj)(d:ah ms<=48)(e:0<=bt/\bt<=1073741824/\bt%4=0)(c:0<=aj/\aj<=1073741824/\aj%4=0)(b:0<=bd/\bd<=1073741824/\bd%4=0):
  qy (bS os ms bt aj bd)=ez bt aj bd ms 1/\qx (bS os ms bt aj bd)=ez bt aj bd ms 2/\pG (bS os ms bt aj bd)=ez bt aj bd ms 4:=by
 obtain⟨g,h,l⟩:=AH a d e c b;have i:=Rt bt aj bd a;have f:ez bt aj bd ms 3%4=0:=Ee 3 (by omega) (by omega) ms bd a b.1 (by omega) b.2.2;have j:bd<=ez bt aj bd ms 3/\ez bt aj bd ms 3<=bd+4832*ah ms:=yg 3 (by omega) (by omega) ms bd a b.1 (by omega);have k:ez bt aj bd ms 4%4=0:=Ee 4 (by omega) (by omega) ms (ez bt aj bd ms 3) a (by omega) (by omega) f;refine⟨g.symm,h.symm,?_⟩;show bd+4*(((dZ (aS bt aj bd ms) 3 bd 0 (aS bt aj bd ms) []).length:Z)+oH bd ms)=_;rw[i];omega
theorem UA(h:∀m∈ms,yl m.obj)(f:ah ms<=48)(g:0<=bt/\bt<=1073741824/\bt%4=0)(e:0<=aj/\aj<=1073741824/\aj%4=0)(d:0<=bd/\bd<=1073741824/\bd%4=0):
  rq (bS os ms bt aj bd)↔((ez bt aj bd ms 1<=1073741824/\ez bt aj bd ms 2<=1073741824/\ez bt aj bd ms 4<=1073741824)/\(¬ku bt (ez bt aj bd ms 1) aj (ez bt aj bd ms 2)/\¬ku bt (ez bt aj bd ms 1) bd (ez bt aj bd ms 4)/\¬ku aj (ez bt aj bd ms 2) bd (ez bt aj bd ms 4))):=by
 obtain⟨a,b,c⟩:=MK (os:=os) h f g e d;unfold rq;rw[a,b,c];exact Iff.rfl
theorem MN{p:M×M}(h:jP os=S p):(fu os p.1 p.2).au=1\/(fu os p.1 p.2).au=2:=by
 unfold jP at h;split at h
 ·cases h
 ·rename_i i k a;split at h
  ·cases h
  ·rename_i c
   cases h
   dsimp only;omega
theorem U5(h:jP os≠N):jP os=(vh os nN).head?:=by
 unfold jP at h ⊢
 cases a:(vh os nN).head? with
 |none=>rfl
 |some p=>
  obtain⟨i,k⟩:=p;rw[a]at h;dsimp only at h ⊢;by_cases c:(fu os i k).au≠1/\(fu os i k).au≠2
  ·rw[aD c]at h;exact absurd R h
  ·rw[ax c]
theorem UT(b:ms=fU (aS bt aj bd (fH os (os.map dV))))(d:jH os ms)(c:∀o∈os,yl o)(e:jP os≠N):
  kK os bt aj bd=bS os ms bt aj bd/\mJ os bt aj bd=aS bt aj bd ms:=by
 have a:wT os:=λo a=>(c o a).pos
 refine⟨UG b d c a (U5 e) (λp a=>⟨Ie a,by have:=MN a;omega⟩),?_⟩;rw[b];rfl
theorem UU(a:L aI)(s base b:Z):∀(l:L aI) (ws:L Z),∃r,dZ a s base b l ws=ws++r:=by
 intro l
 induction l with
 |nil=>intro ws;exact⟨[],by rw[dZ,List.append_nil]⟩
 |cons m l d=>
  intro ws;obtain⟨r,c⟩:=d (pL a m s base b ws);refine⟨List.replicate (((dR m s 0-base+3)/4).toNat-ah ws) b++(jV a m s 0 (yp m.obj s)++r),?_⟩;rw[dZ,c];unfold pL nW;simp only[cy]
theorem U9(c:L aI)(s base d:Z):∀(a b:L aI) (ws:L Z),dZ c s base d (a++b) ws=dZ c s base d b (dZ c s base d a ws):=by
 intro a
 induction a with
 |nil=>intro b ws;rfl
 |cons m a e=>intro b ws;rw[EU,dZ,dZ,e]
theorem UM(j:L aI)(m:aI)(b:Z):∀(ws:L Z) (k:M) (a:Z),(∀i,i<=ah ws->S (dR m b (4*((k+i:M):Z)))=(dU m b k ws a)[i]?) ->
  ∀i (h:i<ah ws),dR m b (4*((k+i:M):Z))<dR m b (4*((k+i:M):Z)+4)->(jV j m b k ws)[((dR m b (4*((k+i:M):Z))-a)/4).toNat]?=S (iZ j m b (4*((k+i:M):Z)) ws[i]):=by
 intro ws
 induction ws with
 |nil=>intro k a _ i h;exact absurd h (ji _)
 |cons w ws o=>
  intro k a h i n c;have d:=h 0 (by simp);have e:=h 1 (by simp);have g:∀i,i<=ah ws->S (dR m b (4*((k+1+i:M):Z)))=(dU m b (k+1) ws (if eQ m b (4*k) a then a+4 else a))[i]?:=by
   intro i n
   have:=h (i+1) (by simp;omega)
   rw[show k+(i+1)=k+1+i by omega]at this;exact this
  have r:(dU m b k (w::ws) a)[1]?=S (if eQ m b (4*k) a then a+4 else a):=Dh m b ws (k+1) _;have p:(dU m b k (w::ws) a)[0]?=S a:=R;rw[p]at d;rw[r]at e;simp only[Option.some.injEq,sP]at d e;have t:(4*((k+1:M):Z))=4*(k:Z)+4:=by omega
  rw[t]at e;rw[jV]
  cases i with
  |zero=>
   simp only[sP]at c ⊢;rw[aD c,d,Int.sub_self];rfl
  |succ i=>
   have f:i<ah ws:=by simpa using n
   rw[show k+(i+1)=k+1+i by omega]at c ⊢;have q:=o (k+1) _ g i f c;have l:(if eQ m b (4*k) a then a+4 else a)<=dR m b (4*((k+1+i:M):Z)):=by
    have:=g i (by omega)
    exact((ze m b ws (k+1) (if eQ m b (4*k) a then a+4 else a)).2 _ (pI this.symm)).1
   rw[d,e];rw[List.getElem_cons_succ];clear g p r d e h o;generalize eQ m b (4*k) a=s at *
   cases s with
   |false=>
    simp only[pB,mw]at q l ⊢;rw[ax (by omega)];exact q
   |true=>
    simp only[jk]at q l ⊢;rw[aD (by omega),show ((dR m b (4*((k+1+i:M):Z))-a)/4).toNat=((dR m b (4*((k+1+i:M):Z))-(a+4))/4).toNat+1 by omega,bB];exact q
section
variable{ms:L aI}{bt aj bd:Z}
theorem td(i:M)(d:i<ah ms)(c:i<(aS bt aj bd ms).length):(aS bt aj bd ms)[i].obj=ms[i].obj/\(aS bt aj bd ms)[i].short=ms[i].short:=by
 have a:((aS bt aj bd ms).map aI.obj)[i]?=(ms.map aI.obj)[i]?:=by rw[sk]
 have b:((aS bt aj bd ms).map aI.short)[i]?=(ms.map aI.short)[i]?:=by rw[Su]
 rw[jS,jS,bW d,bW c]at a b;exact⟨by simpa using a,by simpa using b⟩
theorem H7(d:∀m∈ms,yl m.obj)(i s:M)(b:1<=s)(g:s<=3)(c:i<ah ms)(a:i<(aS bt aj bd ms).length)(k:M)(h:k<=(yp ms[i].obj s).length):
  dR (aS bt aj bd ms)[i] s (4*(k:Z))=(bg bt aj bd ms i s).getD k 0:=by
 have e:=d ms[i] (bN c);have f:=Dz e s b (by omega);rw[me _ s (by omega)]at f
 have:=Ia d i s c a b (by omega) (4*(k:Z)) (by omega) (by omega) (by omega) (bt:=bt) (aj:=aj) (bd:=bd)
 rw[this]
 congr 1
 omega
theorem UK(i s:M)(b:i<ah ms)(a:s=1\/s=2\/s=3):bg bt aj bd ms i s=dU ms[i] s 0 (yp ms[i].obj s) (du (dn s (ms.take i) (eD bt aj bd ms s)) (eJ ms[i] s)):=by
 unfold bg;rw[vi s ms _ i b,me _ s a]
theorem MR(g:∀m∈ms,yl m.obj)(i s:M)(e:1<=s)(f:s<=3)(c:i<ah ms)(a:i<(aS bt aj bd ms).length):
  ∀k,k<=(yp (aS bt aj bd ms)[i].obj s).length->S (dR (aS bt aj bd ms)[i] s (4*((0+k:M):Z)))=(dU (aS bt aj bd ms)[i] s 0 (yp (aS bt aj bd ms)[i].obj s) (du (dn s (ms.take i) (eD bt aj bd ms s)) (eJ ms[i] s)))[k]?:=by
 intro k d;have b:=td (bt:=bt) (aj:=aj) (bd:=bd) i c a;rw[b.1]at d;rw[QJ b.1 b.2,b.1,mL,H7 g i s e f c a k d,UK i s c (by omega),bQ,bW (by rw[(ze _ _ _ _ _).1];omega)];rfl
theorem UW(g:∀m∈ms,yl m.obj)(u:ah ms<=48)(s:Nat)(f:1<=s)(n:s<=3)(base k:Z)(o:eD bt aj bd ms s=base)(l:0<=base)(r:base<=1073741824)(q:base%4=0):
  ∀i,i<=ah ms->base+4*((dZ (aS bt aj bd ms) s base k ((aS bt aj bd ms).take i) []).length:Z)=dn s (ms.take i) base:=by
 intro i
 induction i with
 |zero=>intro _;rw[List.take_zero,List.take_zero,dZ,dn];simp
 |succ i p=>
  intro t;have e:=p (by omega);have a:i<ah ms:=by omega
  have b:i<(aS bt aj bd ms).length:=by rw[sj];exact a
  have j:=g ms[i] (bN a);have M:=tc s f (by omega) ms base g l (by omega) i;have c:=td (bt:=bt) (aj:=aj) (bd:=bd) i a b;have d:=MR (bt:=bt) (aj:=aj) (bd:=bd) g i s f n a b;have R:=ma (dn s (ms.take i) base) (eJ ms[i] s) (by omega) (by omega) (Ad j s f (by omega));rw[o]at d;have C:=QR (aS bt aj bd ms) (aS bt aj bd ms)[i] s (yp (aS bt aj bd ms)[i].obj s) 0 _ d;have h:dR (aS bt aj bd ms)[i] s 0=du (dn s (ms.take i) base) (eJ ms[i] s):=by
   have:=d 0 (by omega)
   rw[Dh]at this;simpa using this
  rw[Dy _ _ _ _ _ i [] b];unfold pL;rw[bX,DI,h,Ec s ms base i a];rw[Rq c.1 c.2,c.1]at C;rw[me _ s (by omega),c.1];omega
theorem H6(f:∀m∈ms,yl m.obj)(B:ah ms<=48)(s:M)(d:1<=s)(n:s<=3)(base c:Z)(w:eD bt aj bd ms s=base)(v:0<=base)(z:base<=1073741824)(y:base%4=0)(i k:M)(g:i<ah ms)(b:i<(aS bt aj bd ms).length)(A:k<(yp ms[i].obj s).length)
  (q:(bg bt aj bd ms i s).getD k 0<(bg bt aj bd ms i s).getD (k+1) 0) :
  base<=(bg bt aj bd ms i s).getD k 0/\(dZ (aS bt aj bd ms) s base c (aS bt aj bd ms) [])[(((bg bt aj bd ms i s).getD k 0-base)/4).toNat]?=S (iZ (aS bt aj bd ms) (aS bt aj bd ms)[i] s (4*(k:Z)) (yp ms[i].obj s)[k]):=by
 have U:=UW f B s d n base c w v z y i (by omega) (bt:=bt) (aj:=aj) (bd:=bd);have x:=f ms[i] (bN g);have a:=tc s d (by omega) ms base f v (by omega) i;have h:=td (bt:=bt) (aj:=aj) (bd:=bd) i g b;have j:=MR (bt:=bt) (aj:=aj) (bd:=bd) f i s d n g b;have R:=ma (dn s (ms.take i) base) (eJ ms[i] s) (by omega) (by omega) (Ad x s d (by omega));rw[w]at j;have t:dR (aS bt aj bd ms)[i] s 0=du (dn s (ms.take i) base) (eJ ms[i] s):=by
  have:=j 0 (by omega)
  rw[Dh]at this;simpa using this
 have o:=H7 f i s d n g b k (by omega) (bt:=bt) (aj:=aj) (bd:=bd);have u:=H7 f i s d n g b (k+1) (by omega) (bt:=bt) (aj:=aj) (bd:=bd);rw[show (4*((k+1:M):Z))=4*(k:Z)+4 by omega]at u;have W:=UM (aS bt aj bd ms) (aS bt aj bd ms)[i] s (yp (aS bt aj bd ms)[i].obj s) 0 _ j k (by rw[h.1];exact A) (by rw[mL,o,u];exact q);simp only[h.1,mL]at W;rw[o]at W;have E:du (dn s (ms.take i) base) (eJ ms[i] s)<=(bg bt aj bd ms i s).getD k 0:=by
  have:=j k (by rw[h.1];omega)
  rw[mL,o]at this;exact((ze _ _ _ _ _).2 _ (pI this.symm)).1
 have split:aS bt aj bd ms=(aS bt aj bd ms).take (i+1)++(aS bt aj bd ms).drop (i+1):=(rB _ _).symm;have p:dZ (aS bt aj bd ms) s base c (aS bt aj bd ms) []=dZ (aS bt aj bd ms) s base c ((aS bt aj bd ms).drop (i+1)) (dZ (aS bt aj bd ms) s base c ((aS bt aj bd ms).take (i+1)) []):=by
  rw[<- U9,<- split]
 obtain⟨r,C⟩:=UU (aS bt aj bd ms) s base c ((aS bt aj bd ms).drop (i+1)) (dZ (aS bt aj bd ms) s base c ((aS bt aj bd ms).take (i+1)) []);refine⟨by omega,?_⟩;rw[p,C,Dy _ _ _ _ _ i [] b];unfold pL;have l:=DI base c (dR (aS bt aj bd ms)[i] s 0) (dZ (aS bt aj bd ms) s base c ((aS bt aj bd ms).take i) []);rw[t]at l;have D:=(xE.1 W).1;rw[t,cy,List.getElem?_append_right (by rw[l];omega),List.getElem?_append_left (by rw[l,h.1];omega),l,h.1];have e:(((bg bt aj bd ms i s).getD k 0-base)/4).toNat-max (dZ (aS bt aj bd ms) s base c ((aS bt aj bd ms).take i) []).length ((du (dn s (ms.take i) base) (eJ ms[i] s)-base+3)/4).toNat=(((bg bt aj bd ms i s).getD k 0-du (dn s (ms.take i) base) (eJ ms[i] s))/4).toNat:=by omega
 rw[e];exact W
end
def lR(w:Z):L cg->Z
 | []=>0
 |r::rs=>max 0 (min 3 (w-r.off/4))+lR w rs
def Br(rs:L cg):Prop:=∀r∈rs,(0<=r.off/\r.off%4=0)/\(1<=yy r/\yy r<=3)/\(r.kind=6->r.bh=4\/r.bh=12)
theorem Xw(w:Z):∀rs,0<=lR w rs/\lR w rs<=3*ah rs:=by
 intro rs
 induction rs with
 |nil=>simp[lR]
 |cons r rs a=>rw[lR,dA];omega
theorem OO(w:Z):∀rs,lR w rs<=lR (w+1) rs:=by
 intro rs
 induction rs with
 |nil=>simp[lR]
 |cons r rs a=>rw[lR,lR];omega
theorem XG:∀rs,Br rs->lR 0 rs=0:=by
 intro rs
 induction rs with
 |nil=>intro _;rfl
 |cons r rs a=>
  intro h
  have:=(h r jU).1
  rw[lR,a λx a=>h x (lJ _ a)];omega
theorem Ow(e:Z)(w:Z):∀rs i,Br rs->(cB e (4*w) i rs).2.kind≠0->lR w rs+1<=lR (w+1) rs:=by
 intro rs
 induction rs with
 |nil=>intro i _ h;exact absurd R h
 |cons r rs f=>
  intro i h d;rw[cB]at d;have k:=h r jU;have m:=OO w rs;rw[lR,lR];split at d
  ·rename_i c;have a:r.off/4<=w:=by omega
   have b:w-r.off/4<3:=by omega
   have g:max 0 (min 3 (w-r.off/4))=w-r.off/4:=by omega
   have j:max 0 (min 3 (w+1-r.off/4))=w+1-r.off/4:=by omega
   omega
  ·have:=f (i+1) (λx d=>h x (lJ _ d)) d
   omega
theorem Yh{o:aF}(h:yl o):Br o.ay/\(ah o.ay)<=32:=by
 refine⟨λr c=>?_,h.Mk⟩;obtain⟨i,b,rfl⟩:=kY c;have q:=h.rel i b;have a:=q.2.1;refine⟨⟨q.2.2.2.2.1.1,q.2.2.2.2.1.2.1⟩,yW q.2.1,λk=>?_⟩;unfold fX at a;rw[ax (by omega),aD k]at a;exact a
theorem Yj(d a:Z):∀rs i,Br rs->(cB d a i rs).2.kind=6->(cB d a i rs).2.bh=4\/(cB d a i rs).2.bh=12:=by
 intro rs
 induction rs with
 |nil=>intro i _ h;exact absurd (show (0:Z)=6 from h) (by decide)
 |cons r rs e=>
  intro i h b;rw[cB]at b ⊢;split
  ·rename_i c;rw[aD c]at b;exact(h r jU).2.2 b
  ·rename_i c;rw[ax c]at b;exact e (i+1) (λx a=>h x (lJ _ a)) b
theorem OL(a b:Z)(c:0<=a)(d:a<=1125899906842624)(e:b=8\/b=16):du a b=a↔a%b=0:=by
 rw[G7 a b c d (by omega)];rcases e with rfl|rfl<;>omega
theorem Yd{j:aI}(p:m.obj=j.obj)(q:∀i,lL j.short i=F)(l:Br m.obj.ay)(s:Z)(k:M)(b a:Z)(n:0<=a)(u:a<=b)(o:b<=1125899906842624)(v:a%4=0)(w:b%4=0):
  (if eQ m s (4*k) a then a+4 else a)<=(if eQ j s (4*k) b then b+4 else b)/\(if eQ j s (4*k) b then b+4 else b)-(if eQ m s (4*k) a then a+4 else a)<=b-a+4*(lR ((k:Z)+1) m.obj.ay-lR k m.obj.ay):=by
 have y:=OO k m.obj.ay;unfold eQ;rw[<- p];by_cases e:(cB s (4*k) 0 m.obj.ay).2.kind=6
 ·have r:=Ow s k m.obj.ay 0 l (by omega);have t:=Yj s (4*k) m.obj.ay 0 l e;rw[aD e,aD e];have g:=OL a ((cB s (4*k) 0 m.obj.ay).2.bh+4) n (by omega) (by omega);have h:=OL b ((cB s (4*k) 0 m.obj.ay).2.bh+4) (by omega) o (by omega);generalize (cB s (4*k) 0 m.obj.ay).2.bh+4=A at *;by_cases f:a%A=0
  ·by_cases d:b%A=0
   ·rw[kB (g.2 f),kB (h.2 d)];simp only[BS,pB,mw];omega
   ·rw[kB (g.2 f),gF (λc=>d (h.1 c))];simp only[BS,pB,mw,BR,jk];omega
  ·by_cases d:b%A=0
   ·rw[gF (λc=>f (g.1 c)),kB (h.2 d)];simp only[BS,pB,mw,BR,jk];have x:a≠b:=λc=>f (by rw[c];exact d)
    omega
   ·rw[gF (λc=>f (g.1 c)),gF (λc=>d (h.1 c))];simp only[BR,jk];omega
 ·rw[ax e,ax e];by_cases d:(cB s (4*k) 0 m.obj.ay).2.kind=4
  ·have r:=Ow s k m.obj.ay 0 l (by omega);rw[aD d,aD d,q];simp only[BR,Bool.or_true,jk];split<;>omega
  ·rw[ax d,ax d];simp only[jk];omega
theorem X9{e:aI}(y:m.obj=e.obj)(z:∀i,lL e.short i=F)(v:Br m.obj.ay)(s:Z):∀(ws:L Z) (k:M) (d a:Z),0<=a->a<=d->d+4*ah ws<=1125899906842624->a%4=0->d%4=0 ->
  (∀j,j<=ah ws->(dU m s k ws a).getD j 0<=(dU e s k ws d).getD j 0/\(dU e s k ws d).getD j 0-(dU m s k ws a).getD j 0<=d-a+4*(lR ((k:Z)+j) m.obj.ay-lR k m.obj.ay)):=by
 intro ws
 induction ws with
 |nil=>
  intro k d a g f p h l j n;obtain rfl:j=0:=by simpa using n
  rw[dU,dU];simp only[I4,IH,yx];exact⟨f,by omega⟩
 |cons w ws A=>
  intro k d a g f p h l j n;rw[dA]at p n;rw[dU,dU]
  cases j with
  |zero=>
   simp only[I4,IH,yx];exact⟨f,by omega⟩
  |succ j=>
   rw[uK,uK];have B:=Yd y z v s k d a g f (by omega) h l;have b:∀(x:Bool) (c:Z),c<=(if x then c+4 else c)/\(if x then c+4 else c)<=c+4/\(c%4=0->(if x then c+4 else c)%4=0):=by
    intro x c
    cases x
    ·simp only[pB,mw];omega
    ·simp only[jk];omega
   have r:=b (eQ e s (4*k) d) d;have o:=b (eQ m s (4*k) a) a;have q:=A (k+1) _ _ (Int.le_trans g o.1) B.1 (by omega) (o.2.2 h) (r.2.2 l) j (by omega);have t:(((k+1:M):Z))=(k:Z)+1:=by omega
   rw[t]at q;have u:((k:Z)+1+(j:Z))=(k:Z)+((j+1:M):Z):=by omega
   rw[u]at q;omega
theorem XA(c a b:Z)(e:0<=a)(g:a<=c)(f:c<=1125899906842624)(d:b=4\/b=8\/b=16)(h:a%4=0)(i:c%4=0):du a b<=du c b/\du c b-du a b<=c-a+12:=by
 rw[G7 a b e (by omega) d,G7 c b (by omega) f d];rcases d with rfl|rfl|rfl<;>omega
theorem XE{a:L aI}(g:ah ms=ah a)(e:∀i (h:i<ah ms) (b:i<ah a),ms[i].obj=a[i].obj/\∀k,lL a[i].short k=F)(f:∀m∈ms,yl m.obj):∀m∈a,yl m.obj:=by
 intro m d;obtain⟨i,c,rfl⟩:=kY d;have b:i<ah ms:=by omega
 rw[<- (e i b c).1];exact f _ (bN b)
section
variable{a ms:L aI}(s:M)(l:1<=s)(n:s<=4)(base:Z)(t:ms.length=a.length)(r:∀ i (h:i < ms.length) (h':i < a.length),ms[i].obj=a[i].obj/\∀ k,lL a[i].short k=F)(q:∀ m∈ms,yl m.obj)(b:0<=base)(p:base<=1100000000)(g:base%4=0)(hn:ms.length<=48)
include l n t r q b p g hn
theorem OY(i:Nat)(h:i<ah ms)(h':i<ah a)(d:Z)(z:dn s (ms.take i) base<=dn s (a.take i) base/\dn s (a.take i) base-dn s (ms.take i) base<=d)(j:Nat)(A:j<=(aQ ms[i].obj s).length):
  ((jg s ms base).getD i []).getD j 0<=((jg s a base).getD i []).getD j 0/\((jg s a base).getD i []).getD j 0-((jg s ms base).getD i []).getD j 0<=d+396:=by
 have c:=XE t r q;have f:=q ms[i] (bN h);have e:=r i h h';have M:=tc s l n ms base q b (by omega) i;have G:=tc s l n a base c b (by omega) i;have B:=Ee s l n (ms.take i) base (λm e=>q m (xG e)) b (by rw[iO];omega) g;have u:=Ee s l n (a.take i) base (λm e=>c m (xG e)) b (by rw[iO];omega) g;have y:eJ a[i] s=eJ ms[i] s:=by unfold eJ;rw[e.1]
 have o:=Ad f s l n;have R:=XA _ _ (eJ ms[i] s) (by omega) z.1 (by omega) o B u;have E:=ma (dn s (ms.take i) base) (eJ ms[i] s) (by omega) (by omega) o;have D:=ma (dn s (a.take i) base) (eJ ms[i] s) (by omega) (by omega) o;have x:=Yh f;have sl:=vN f s;have W:=X9 e.1 e.2 x.1 s (aQ ms[i].obj s) 0 _ _ (by omega) R.1 (by omega) E.2.2 D.2.2 j A;have C:=Xw ((0:Nat)+(j:Z)) ms[i].obj.ay;have w:=XG _ x.1;rw[vi s ms base i h,vi s a base i h',y,<- e.1];simp only[IH]at W C w;have v:lR (0:Z) ms[i].obj.ay=0:=w;rw[v]at W;omega
theorem Yc:∀i,i<=ah ms->dn s (ms.take i) base<=dn s (a.take i) base/\dn s (a.take i) base-dn s (ms.take i) base<=396*i:=by
 intro i
 induction i with
 |zero=>intro _;simp[dn]
 |succ i d=>
  intro f;have e:=d (by omega);have h:i<ah ms:=by omega
  have h':i<ah a:=by omega
  have c:=r i h h';have W:=OY s l n base t r q b p g hn i h h' _ e (aQ ms[i].obj s).length (bz _);rw[vi s ms base i h,vi s a base i h',MJ,<- c.1,MJ]at W;rw[Ec s ms base i h,Ec s a base i h',<- c.1];omega
theorem XC(i:M)(h:i<ah ms)(j:M)(c:j<=(aQ ms[i].obj s).length):
  ((jg s ms base).getD i []).getD j 0<=((jg s a base).getD i []).getD j 0/\((jg s a base).getD i []).getD j 0-((jg s ms base).getD i []).getD j 0<=19008:=by
 have e:=Yc s l n base t r q b p g hn i (by omega)
 have:=OY s l n base t r q b p g hn i h (by omega) _ e j c
 omega
end
theorem nM(a b k M:Nat)(c:M=2 ^ k)(h:b<M):a*M |||b=a*M+b:=by
 subst c
 have:=Nat.two_pow_add_eq_or_of_lt (i:=k) (b:=b) h a
 rw[Nat.mul_comm a];exact this.symm
theorem acy(A B C D E:M):(A |||B) |||C |||D |||E=C |||(E |||(A |||(D |||B))):=by
 apply NH;intro i;simp only[Nat.testBit_or]
 cases A.testBit i<;>cases B.testBit i<;>cases C.testBit i<;>cases D.testBit i<;>cases E.testBit i<;>rfl
theorem glue(a b c N P k:M)(g:P=2 ^ k)(d:P=N*c)(e:0<c)(f:b<N):a*P |||b*c=(a*N+b)*c:=by
 rw[nM a (b*c) k P g (by rw[d];exact Nat.mul_lt_mul_of_pos_right f e),d,Nat.add_mul,Nat.mul_assoc]
theorem qZ(n:Z)(low a:M):bP n low a<2 ^ a:=by
 unfold bP;have b:(0:Z)<(2:Z) ^ a:=uI (by omega);have d:=Int.emod_lt_of_pos (n/(2:Z) ^ low) b;have c:=Int.emod_nonneg (n/(2:Z) ^ low) (Int.ne_of_gt b);have e:((2 ^ a:M):Z)=(2:Z) ^ a:=by simp
 omega
theorem qd(n:Z)(low a:M):((bP n low a:M):Z)=(n/(2:Z) ^ low)%(2:Z) ^ a:=by
 unfold bP;have b:(0:Z)<(2:Z) ^ a:=uI (by omega);have c:=Int.emod_nonneg (n/(2:Z) ^ low) (Int.ne_of_gt b);omega
theorem zk(r:M)(h:r<32):bP (r:Z) 0 5=r:=by
 have:=qd (r:Z) 0 5
 simp only[Int.reducePow,EL]at this;omega
structure nu (w:Z) (op:M) (rd dF eG n:Z):Prop where
 lo:0<=w
 hi:w<=4294967295
 op:cz w=op
 rd:bF (aP w) w=rd
 dF:bR (aP w) w=dF
 eG:dW (aP w) w=eG
 n:dO (aP w) w=n
theorem uC(n:Z)(a:Z)(b:0<=n)(c:n<=4294967295)(d:a=1\/a=2\/a=3\/a=6):bF a n=n/128%32:=by
 unfold bF;rw[aD (by omega),eY n 128 b c (by omega)]
theorem yU(n:Z)(a:Z)(b:0<=n)(c:n<=4294967295)(d:a=3\/a=4\/a=5\/a=6):bR a n=n/32768%32:=by
 unfold bR;rw[aD (by omega),eY n 32768 b c (by omega)]
theorem afB(a c:M)(d:Z)(b:M)(h:qi.getD a 0=2)(i:pw.getD a 0=b):fz a c 0 0 d=(b |||(bP d 20 1*2147483648 |||bP d 1 10*2097152 |||bP d 11 1*1048576 |||bP d 12 8*4096)) |||bP (c:Z) 0 5*128:=by
 have p:fF 2 d=bP d 20 1*2147483648 |||bP d 1 10*2097152 |||bP d 11 1*1048576 |||bP d 12 8*4096:=by
  unfold fF;rw[ax (by decide),aD R]
 have e:pz 2=T:=by decide
 have f:px 2=F:=by decide
 have g:qR 2=F:=by decide
 unfold fz;rw[h,i];unfold kW;simp only[e,f,g,jk,pB,mw,p]
theorem agy(n:Z):dO 2 n=if mr n<1048576 then mr n else mr n-2097152:=by
 unfold dO;rw[ax (by decide),aD R]
theorem Kb(n:Z):dO 3 n=if n/1048576%4096<2048 then n/1048576%4096 else n/1048576%4096-4096:=by
 unfold dO;rw[ax (by decide),ax (by decide),aD R]
theorem Tg(n:Z):dO 1 n=n/4096%1048576:=by
 unfold dO;rw[aD R]
theorem Bk(a n:Z)(h:a=1\/a=2):bR a n=0:=by
 unfold bR;rw[ax (by omega)]
theorem uE(a n:Z)(h:a=1\/a=2\/a=3):dW a n=0:=by
 unfold dW;rw[ax (by omega)]
theorem af4(g f e d K:Z)(h:K=g+256*f+512*e+524288*d)(i:0<=g/\g<256)(j:0<=f/\f<2)(k:0<=e/\e<1024)(l:0<=d/\d<2):K%256=g/\K/256%2=f/\K/512%1024=e/\K/524288%2=d:=by
 have a:K/256=f+2*e+2048*d:=by omega
 have b:K/512=e+1024*d:=by omega
 have c:K/524288=d:=by omega
 rw[a,b,c];clear a b c;refine⟨by omega,by omega,by omega,by omega⟩
theorem afA(f:M)(d:Z)(h:f<32):(fz 3 f 0 0 d:Z)=111+128*f+4096*(d/4096%256)+1048576*(d/2048%2)+2097152*(d/2%1024)+2147483648*(d/1048576%2):=by
 have e:=afB 3 f d 111 (by decide) (by decide);have g:=qZ d 20 1;have i:=qZ d 1 10;have j:=qZ d 11 1;have k:=qZ d 12 8;have l:=qd d 20 1;have n:=qd d 1 10;have o:=qd d 11 1;have p:=qd d 12 8;simp only[Int.reducePow,Nat.reducePow]at g i j k l n o p;rw[zk f h]at e;generalize bP d 20 1=a at *;generalize bP d 1 10=b at *;generalize bP d 11 1=c at *;generalize bP d 12 8=x at *;have r:a*2147483648 |||b*2097152=(a*1024+b)*2097152:=glue a b 2097152 1024 2147483648 31 (by decide) (by decide) (by decide) (by omega);have s:(a*1024+b)*2097152 |||c*1048576=((a*1024+b)*2+c)*1048576:=glue (a*1024+b) c 1048576 2 2097152 21 (by decide) (by decide) (by decide) (by omega)
 have t:((a*1024+b)*2+c)*1048576 |||x*4096=(((a*1024+b)*2+c)*256+x)*4096:=glue ((a*1024+b)*2+c) x 4096 256 1048576 20 (by decide) (by decide) (by decide) (by omega);have u:111 |||f*128=f*128+111:=by rw[AZ];exact nM f 111 7 128 (by decide) (by omega)
 rw[r,s,t,AZ 111,Jb,u]at e;obtain⟨K,q⟩:∃K,((a*1024+b)*2+c)*256+x=K:=⟨_,R⟩
 rw[q]at e;have v:K*4096 |||(f*128+111)=K*4096+(f*128+111):=nM K (f*128+111) 12 4096 (by decide) (by omega);rw[v]at e;omega
theorem SO(i:M)(d:Z)(h:i<32)(E:-1048576<=d)(G:d<1048576)(H:d%2=0):nu (fz 3 i 0 0 d) 3 i 0 0 d:=by
 have e:=afA i d h;generalize ((fz 3 i 0 0 d:M):Z)=w at *;obtain⟨k,a⟩:∃x,d/4096%256=x:=⟨_,R⟩
 obtain⟨l,b⟩:∃x,d/2048%2=x:=⟨_,R⟩
 obtain⟨n,c⟩:∃x,d/2%1024=x:=⟨_,R⟩
 obtain⟨p,g⟩:∃x,d/1048576%2=x:=⟨_,R⟩
 rw[a,b,c,g]at e;have z:0<=k/\k<256:=by omega
 have A:0<=l/\l<2:=by omega
 have B:0<=n/\n<1024:=by omega
 have C:0<=p/\p<2:=by omega
 have r:p*1048576+k*4096+l*2048+n*2=d%2097152:=by omega
 clear a b c g;have a:0<=w:=by omega
 have b:w<=4294967295:=by omega
 have m:w%128=111:=by omega
 have o:cz w=3:=oJ w 3 (by omega) (by omega) ((Cf w a b).2 m) (λj c g=>by
  rcases (show j=1\/j=2 by omega)with rfl|rfl
  ·rw[zM w a b];omega
  ·rw[zY w a b];omega)
 have f:aP w=2:=by unfold aP;rw[o];rfl
 refine⟨a,b,o,?_,?_,?_,?_⟩
 ·rw[f,uC w 2 a b (by omega)];omega
 ·rw[f,Bk 2 w (by omega)]
 ·rw[f,uE 2 w (by omega)]
 ·rw[f,agy];have t:w/4096=k+256*l+512*n+524288*p:=by omega
  have u:w/1048576=w/4096/256:=by omega
  have v:w/2097152=w/4096/512:=by omega
  have y:w/2147483648=w/4096/524288:=by omega
  obtain⟨D,c,g,s⟩:=af4 k l n p (w/4096) t z A B C;rw[<- u]at c;rw[<- v]at g;rw[<- y]at s;have q:mr w=d%2097152:=by unfold mr;rw[D,c,g,s];exact r
  rw[q];split<;>omega
theorem adL(b:M)(n:Z)(h:b<32):(fz 2 b 0 0 n:Z)=23+128*b+4096*(n%1048576):=by
 have e:fz 2 b 0 0 n=(23 |||bP n 0 20*4096) |||bP (b:Z) 0 5*128:=by
  have p:fF 1 n=bP n 0 20*4096:=by unfold fF;rw[aD R]
  have c:pz 1=T:=by decide
  have d:px 1=F:=by decide
  have f:qR 1=F:=by decide
  have g:qi.getD 2 0=1:=by decide
  have i:pw.getD 2 0=23:=by decide
  unfold fz;rw[g,i];unfold kW;simp only[c,d,f,jk,pB,mw,p]
 have c:=qZ n 0 20;have d:=qd n 0 20;simp only[Int.reducePow,Nat.reducePow,EL]at c d;rw[zk b h]at e;generalize bP n 0 20=a at *;have f:23 |||b*128=b*128+23:=by rw[AZ];exact nM b 23 7 128 (by decide) (by omega)
 have g:a*4096 |||(b*128+23)=a*4096+(b*128+23):=nM a (b*128+23) 12 4096 (by decide) (by omega);rw[AZ 23,Jb,f,g]at e;omega
theorem acB(a:M)(n:Z)(h:a<32):nu (fz 2 a 0 0 n) 2 a 0 0 (n%1048576):=by
 have e:=adL a n h;generalize ((fz 2 a 0 0 n:M):Z)=w at *;have b:0<=w:=by omega
 have c:w<=4294967295:=by omega
 have o:cz w=2:=oJ w 2 (by omega) (by omega) ((zY w b c).2 (by omega)) (λj d g=>by
  obtain rfl:j=1:=by omega
  rw[zM w b c];omega)
 have f:aP w=1:=by unfold aP;rw[o];rfl
 refine⟨b,c,o,?_,?_,?_,?_⟩
 ·rw[f,uC w 1 b c (by omega)];omega
 ·rw[f,Bk 1 w (by omega)]
 ·rw[f,uE 1 w (by omega)]
 ·rw[f,Tg];omega
theorem KA(f b c:M)(n:Z)(d:M)(o:qi.getD f 0=3)(q:pw.getD f 0=d)(z:d%128+4096*(d/4096)=d)(l:d<32768)(h:b<32)(k:c<32):(fz f b c 0 n:Z)=d+128*b+32768*c+1048576*(n%4096):=by
 have e:fz f b c 0 n=(d |||bP n 0 12*1048576) |||bP (b:Z) 0 5*128 |||bP (c:Z) 0 5*32768:=by
  have p:fF 3 n=bP n 0 12*1048576:=by unfold fF;rw[ax (by decide),ax (by decide),aD R]
  have g:pz 3=T:=by decide
  have i:px 3=T:=by decide
  have j:qR 3=F:=by decide
  unfold fz;rw[o,q];unfold kW;simp only[g,i,j,jk,pB,mw,p]
 have g:=qZ n 0 12;have i:=qd n 0 12;simp only[Int.reducePow,Nat.reducePow,EL]at g i;rw[zk b h,zk c k]at e;generalize bP n 0 12=a at *;obtain⟨u,v,A,j⟩:∃u v:M,u<128/\d=v*4096+u:=⟨d%128,d/4096,by omega,by omega⟩
 have r:d=v*4096 |||u:=by rw[j];exact(nM v u 12 4096 (by decide) (by omega)).symm
 have t:b*128 |||u=b*128+u:=nM b u 7 128 (by decide) (by omega);have w:v*4096 |||(b*128+u)=v*4096+(b*128+u):=nM v (b*128+u) 12 4096 (by decide) (by omega);have x:c*32768 |||(v*4096+(b*128+u))=c*32768+(v*4096+(b*128+u)):=nM c _ 15 32768 (by decide) (by omega);have y:a*1048576 |||(c*32768+(v*4096+(b*128+u)))=a*1048576+(c*32768+(v*4096+(b*128+u))):=nM a _ 20 1048576 (by decide) (by omega);have s:fz f b c 0 n=a*1048576 |||(c*32768 |||(v*4096 |||(b*128 |||u))):=by
  rw[e,r];exact acy _ _ _ _ _
 rw[t,w,x,y]at s;omega
theorem aet(d c:M)(n:Z)(h:d<32)(g:c<32)(l:-2048<=n)(p:n<2048):nu (fz 4 d c 0 n) 4 d c 0 n:=by
 have e:=KA 4 d c n 103 (by decide) (by decide) (by decide) (by omega) h g;generalize ((fz 4 d c 0 n:M):Z)=w at *;have a:0<=w:=by omega
 have b:w<=4294967295:=by omega
 have o:cz w=4:=oJ w 4 (by omega) (by omega) ((Ez w a b).2 (by omega)) (λj i k=>by
  rcases (show j=1\/j=2\/j=3 by omega)with rfl|rfl|rfl
  ·rw[zM w a b];omega
  ·rw[zY w a b];omega
  ·rw[Cf w a b];omega)
 have f:aP w=3:=by unfold aP;rw[o];rfl
 refine⟨a,b,o,?_,?_,?_,?_⟩
 ·rw[f,uC w 3 a b (by omega)];omega
 ·rw[f,yU w 3 a b (by omega)];omega
 ·rw[f,uE 3 w (by omega)]
 ·rw[f,Kb];split<;>omega
theorem XV(b:M)(n:Z)(h:b<32):(fz 1 b 0 0 n:Z)=55+128*b+4096*(n%1048576):=by
 have e:fz 1 b 0 0 n=(55 |||bP n 0 20*4096) |||bP (b:Z) 0 5*128:=by
  have p:fF 1 n=bP n 0 20*4096:=by unfold fF;rw[aD R]
  have c:pz 1=T:=by decide
  have d:px 1=F:=by decide
  have f:qR 1=F:=by decide
  have g:qi.getD 1 0=1:=by decide
  have i:pw.getD 1 0=55:=by decide
  unfold fz;rw[g,i];unfold kW;simp only[c,d,f,jk,pB,mw,p]
 have c:=qZ n 0 20;have d:=qd n 0 20;simp only[Int.reducePow,Nat.reducePow,EL]at c d;rw[zk b h]at e;generalize bP n 0 20=a at *;have f:55 |||b*128=b*128+55:=by rw[AZ];exact nM b 55 7 128 (by decide) (by omega)
 have g:a*4096 |||(b*128+55)=a*4096+(b*128+55):=nM a (b*128+55) 12 4096 (by decide) (by omega);rw[AZ 55,Jb,f,g]at e;omega
theorem XS(a:M)(n:Z)(h:a<32):nu (fz 1 a 0 0 n) 1 a 0 0 (n%1048576):=by
 have e:=XV a n h;generalize ((fz 1 a 0 0 n:M):Z)=w at *;have b:0<=w:=by omega
 have c:w<=4294967295:=by omega
 have o:cz w=1:=oJ w 1 (by omega) (by omega) ((zM w b c).2 (by omega)) (λj b a=>absurd a (by omega));have f:aP w=1:=by unfold aP;rw[o];rfl
 refine⟨b,c,o,?_,?_,?_,?_⟩
 ·rw[f,uC w 1 b c (by omega)];omega
 ·rw[f,Bk 1 w (by omega)]
 ·rw[f,uE 1 w (by omega)]
 ·rw[f,Tg];omega
theorem wu(w:Z)(a:0<=w)(b:w<=4294967295)(c:M)(f:c<=13)(h:∀j,1<=j->j<c->¬(w%128+4096*(w/4096%8)=(([0,0,0,0,103,99,4195,16483,20579,24675,28771,8195,8227]:L Z).getD j 0)))(g:w%128≠55/\w%128≠23/\w%128≠111):∀j,1<=j->j<c->¬Is j w:=by
 intro j d e;have q:=h j d e;rcases (show j=1\/j=2\/j=3\/j=4\/j=5\/j=6\/j=7\/j=8\/j=9\/j=10\/j=11\/j=12 by omega)with rfl|rfl|rfl|rfl|rfl|rfl|rfl|rfl|rfl|rfl|rfl|rfl
 ·rw[zM w a b];omega
 ·rw[zY w a b];omega
 ·rw[Cf w a b];omega
 ·rw[Ez w a b];exact q
 ·rw[EA w a b];exact q
 ·rw[EB w a b];exact q
 ·rw[EC w a b];exact q
 ·rw[ED w a b];exact q
 ·rw[EF w a b];exact q
 ·rw[Gr w a b];exact q
 ·rw[Gs w a b];exact q
 ·rw[Gt w a b];exact q
theorem wz(w x:Z)(b:M)(f:w%128+4096*(w/4096%8)=x)(a:∀j,j<b->1<=j->x≠([0,0,0,0,103,99,4195,16483,20579,24675,28771,8195,8227]:L Z).getD j 0):∀j,1<=j->j<b->¬(w%128+4096*(w/4096%8)=(([0,0,0,0,103,99,4195,16483,20579,24675,28771,8195,8227]:L Z).getD j 0)):=by
 intro j d e c;exact a j e d (f.symm.trans c)
theorem XT(b a:M)(n:Z)(h:b<32)(i:a<32)(j:-2048<=n)(k:n<2048):nu (fz 11 b a 0 n) 11 b a 0 n:=by
 have e:=KA 11 b a n 8195 (by decide) (by decide) (by decide) (by omega) h i;generalize ((fz 11 b a 0 n:M):Z)=w at *;have c:0<=w:=by omega
 have d:w<=4294967295:=by omega
 have g:w%128+4096*(w/4096%8)=8195:=by omega
 have o:cz w=11:=oJ w 11 (by omega) (by omega) ((Gs w c d).2 g) (wu w c d 11 (by omega) (wz w _ 11 g (by decide)) (by omega));have f:aP w=3:=by unfold aP;rw[o];rfl
 refine⟨c,d,o,?_,?_,?_,?_⟩
 ·rw[f,uC w 3 c d (by omega)];omega
 ·rw[f,yU w 3 c d (by omega)];omega
 ·rw[f,uE 3 w (by omega)]
 ·rw[f,Kb];split<;>omega
theorem XH(b a:M)(n:Z)(h:b<32)(i:a<32)(j:-2048<=n)(k:n<2048):nu (fz 13 b a 0 n) 13 b a 0 n:=by
 have e:=KA 13 b a n 19 (by decide) (by decide) (by decide) (by omega) h i;generalize ((fz 13 b a 0 n:M):Z)=w at *;have c:0<=w:=by omega
 have d:w<=4294967295:=by omega
 have g:w%128+4096*(w/4096%8)=19:=by omega
 have o:cz w=13:=oJ w 13 (by omega) (by omega) ((Le w c d).2 g) (wu w c d 13 (by omega) (wz w _ 13 g (by decide)) (by omega));have f:aP w=3:=by unfold aP;rw[o];rfl
 refine⟨c,d,o,?_,?_,?_,?_⟩
 ·rw[f,uC w 3 c d (by omega)];omega
 ·rw[f,yU w 3 c d (by omega)];omega
 ·rw[f,uE 3 w (by omega)]
 ·rw[f,Kb];split<;>omega
theorem Oy(n:Z)(a:Z)(b:0<=n)(c:n<=4294967295)(d:a=4\/a=5\/a=6):dW a n=n/1048576%32:=by
 unfold dW;rw[aD (by omega),eY n 1048576 b c (by omega)]
theorem FJ(a n:Z)(h:a=4\/a=5):bF a n=0:=by
 unfold bF;rw[ax (by omega)]
theorem XZ(A u C D E F:M):((A |||u) |||(C |||D)) |||E |||F=C |||(F |||(E |||(A |||(D |||u)))):=by
 apply NH;intro i;simp only[Nat.testBit_or]
 cases A.testBit i<;>cases u.testBit i<;>cases C.testBit i<;>cases D.testBit i<;>cases E.testBit i<;>cases F.testBit i<;>rfl
theorem OV(a h c d:M)(n:Z)(f g b:M)(w:fF a n=g*33554432 |||b*128)(i:a=4\/a=5)(t:qi.getD h 0=a)(x:pw.getD h 0=f)(C:f%128+4096*(f/4096)=f)(q:f<32768)(o:c<32)(p:d<32)(r:b<32):
  fz h 0 c d n=f+128*b+32768*c+1048576*d+33554432*g:=by
 have e:fz h 0 c d n=(f |||(g*33554432 |||b*128)) |||bP (c:Z) 0 5*32768 |||bP (d:Z) 0 5*1048576:=by
  have j:pz a=F:=by rcases i with rfl|rfl<;>decide
  have k:px a=T:=by rcases i with rfl|rfl<;>decide
  have l:qR a=T:=by rcases i with rfl|rfl<;>decide
  unfold fz;rw[t,x];unfold kW;simp only[j,k,l,jk,pB,mw,w]
 rw[zk c o,zk d p]at e;obtain⟨u,v,D,j⟩:∃u v:M,u<128/\f=v*4096+u:=⟨f%128,f/4096,by omega,by omega⟩
 have k:f=v*4096 |||u:=by rw[j];exact(nM v u 12 4096 (by decide) (by omega)).symm
 have l:b*128 |||u=b*128+u:=nM b u 7 128 (by decide) (by omega);have y:v*4096 |||(b*128+u)=v*4096+(b*128+u):=nM v (b*128+u) 12 4096 (by decide) (by omega);have z:c*32768 |||(v*4096+(b*128+u))=c*32768+(v*4096+(b*128+u)):=nM c _ 15 32768 (by decide) (by omega);have A:d*1048576 |||(c*32768+(v*4096+(b*128+u)))=d*1048576+(c*32768+(v*4096+(b*128+u))):=nM d _ 20 1048576 (by decide) (by omega);have B:g*33554432 |||(d*1048576+(c*32768+(v*4096+(b*128+u))))=g*33554432+(d*1048576+(c*32768+(v*4096+(b*128+u)))):=nM g _ 25 33554432 (by decide) (by omega)
 have s:fz h 0 c d n=g*33554432 |||(d*1048576 |||(c*32768 |||(v*4096 |||(b*128 |||u)))):=by
  rw[e,k];exact XZ _ _ _ _ _ _
 rw[l,y,z,A,B]at s;omega
theorem XU(b a:M)(n:Z)(p:b<32)(q:a<32)(r:-2048<=n)(s:n<2048):nu (fz 12 0 b a n) 12 0 b a n:=by
 have g:=qZ n 5 7;have h:=qZ n 0 5;have i:=qd n 5 7;have j:=qd n 0 5;simp only[Int.reducePow,Nat.reducePow,EL]at g h i j;have e:=OV 5 12 b a n 8227 (bP n 5 7) (bP n 0 5) (by unfold fF;rw[ax (by decide),ax (by decide),ax (by decide),ax (by decide),aD R]) (.inr R) (by decide) (by decide) (by decide) (by omega) p q (by omega);obtain⟨w,k⟩:∃w,((fz 12 0 b a n:M):Z)=w:=⟨_,R⟩
 have l:w=8227+128*(n%32)+32768*b+1048576*a+33554432*(n/32%128):=by omega
 rw[k];obtain⟨x,c⟩:∃x,n%32=x:=⟨_,R⟩
 obtain⟨y,d⟩:∃y,n/32%128=y:=⟨_,R⟩
 have u:y*32+x=n%4096:=by omega
 have t:0<=x/\x<32:=by omega
 have z:0<=y/\y<128:=by omega
 rw[c,d]at l;clear c d e i j g h k;have c:0<=w:=by omega
 have d:w<=4294967295:=by omega
 have i:w/1048576=a+32*y:=by omega
 have h:w/33554432=y:=by omega
 have j:w/128%32=x:=by omega
 have g:w%128+4096*(w/4096%8)=8227:=by omega
 have o:cz w=12:=oJ w 12 (by omega) (by omega) ((Gt w c d).2 g) (wu w c d 12 (by omega) (wz w _ 12 g (by decide)) (by omega));have f:aP w=5:=by unfold aP;rw[o];rfl
 refine⟨c,d,o,?_,?_,?_,?_⟩
 ·rw[f,FJ 5 w (by omega)]
 ·rw[f,yU w 5 c d (by omega)];omega
 ·rw[f,Oy w 5 c d (by omega),i];omega
 ·rw[f];have v:nZ w=n%4096:=by unfold nZ;rw[h,j];omega
  unfold dO;rw[ax (by decide),ax (by decide),ax (by decide),ax (by decide),aD R,v];split<;>omega
theorem X8(a i g:M)(n:Z)(hop:5<=a/\a<=10)(T:i<32)(h2:g<32)(h3:-4096<=n)(h4:n<4096)(h5:n%2=0):nu (fz a 0 i g n) a 0 i g n:=by
 obtain⟨q,k,E,hk,ahX,D,G⟩:∃q k:M,pw.getD a 0=q/\k<8/\q=99+4096*k/\qi.getD a 0=4/\∀w:Z,0<=w->w<=4294967295->w%128+4096*(w/4096%8)=(q:Z)->cz w=a:=by
  rcases (show a=5\/a=6\/a=7\/a=8\/a=9\/a=10 by omega)with rfl|rfl|rfl|rfl|rfl|rfl
  ·exact⟨99,0,by decide,by decide,by decide,by decide,λw b c d=>oJ w 5 (by omega) (by omega) ((EA w b c).2 d) (wu w b c 5 (by omega) (wz w _ 5 d (by decide)) (by omega))⟩
  ·exact⟨4195,1,by decide,by decide,by decide,by decide,λw b c d=>oJ w 6 (by omega) (by omega) ((EB w b c).2 d) (wu w b c 6 (by omega) (wz w _ 6 d (by decide)) (by omega))⟩
  ·exact⟨16483,4,by decide,by decide,by decide,by decide,λw b c d=>oJ w 7 (by omega) (by omega) ((EC w b c).2 d) (wu w b c 7 (by omega) (wz w _ 7 d (by decide)) (by omega))⟩
  ·exact⟨20579,5,by decide,by decide,by decide,by decide,λw b c d=>oJ w 8 (by omega) (by omega) ((ED w b c).2 d) (wu w b c 8 (by omega) (wz w _ 8 d (by decide)) (by omega))⟩
  ·exact⟨24675,6,by decide,by decide,by decide,by decide,λw b c d=>oJ w 9 (by omega) (by omega) ((EF w b c).2 d) (wu w b c 9 (by omega) (wz w _ 9 d (by decide)) (by omega))⟩
  ·exact⟨28771,7,by decide,by decide,by decide,by decide,λw b c d=>oJ w 10 (by omega) (by omega) ((Gr w b c).2 d) (wu w b c 10 (by omega) (wz w _ 10 d (by decide)) (by omega))⟩
 have Y:=qZ n 12 1;have F:=qZ n 5 6;have I:=qZ n 1 4;have J:=qZ n 11 1;have s:=qd n 12 1;have u:=qd n 5 6;have y:=qd n 1 4;have z:=qd n 11 1;simp only[Int.reducePow,Nat.reducePow]at Y F I J s u y z;have L:fF 4 n=(bP n 12 1*64+bP n 5 6)*33554432 |||(bP n 1 4*2+bP n 11 1)*128:=by
  unfold fF;rw[ax (by decide),ax (by decide),ax (by decide),aD R,glue _ _ 33554432 64 2147483648 31 (by decide) (by decide) (by decide) (by omega),Jb,glue _ _ 128 2 256 8 (by decide) (by decide) (by decide) (by omega)]
 have e:=OV 4 a i g n q _ _ L (.inl R) D E (by omega) (by omega) T h2 (by omega);obtain⟨w,S⟩:∃w,((fz a 0 i g n:M):Z)=w:=⟨_,R⟩
 rw[S];obtain⟨h,b⟩:∃x,n/4096%2=x:=⟨_,R⟩
 obtain⟨l,c⟩:∃x,n/32%64=x:=⟨_,R⟩
 obtain⟨p,d⟩:∃x,n/2%16=x:=⟨_,R⟩
 obtain⟨r,j⟩:∃x,n/2048%2=x:=⟨_,R⟩
 rw[b]at s;rw[c]at u;rw[d]at y;rw[j]at z;have C:w=99+4096*k+128*(p*2+r)+32768*i+1048576*g+33554432*(h*64+l):=by omega
 have K:h*4096+r*2048+l*32+p*2=n%8192:=by
  obtain⟨t,N⟩:∃t,n/2=t:=⟨_,R⟩
  have A:n/4096=t/2048:=by omega
  have B:n/32=t/16:=by omega
  have H:n/2048=t/1024:=by omega
  have O:n%8192=2*(t%4096):=by omega
  have P:t%16=t-16*(t/16):=by omega
  have Q:t/16%64=t/16-64*(t/1024):=by omega
  have U:t/1024%2=t/1024-2*(t/2048):=by omega
  have V:t/2048%2=t/2048-2*(t/4096):=by omega
  have X:t%4096=t-4096*(t/4096):=by omega
  rw[<- b,<- c,<- d,<- j,A,B,H,O,N,P,Q,U,V,X];clear b c d j A B H O N C s u y z P Q U V X;generalize t/16=A;generalize t/1024=B;generalize t/2048=H;generalize t/4096=O;omega
 have P:0<=h/\h<2:=by omega
 have Q:0<=l/\l<64:=by omega
 have U:0<=p/\p<16:=by omega
 have V:0<=r/\r<2:=by omega
 clear b c d j e s u y z Y F I J S L;have b:0<=w:=by omega
 have c:w<=4294967295:=by omega
 have y:w/1048576=g+32*(h*64+l):=by omega
 have u:w/33554432=h*64+l:=by omega
 have A:w/2147483648=h:=by omega
 have O:w/128%32=p*2+r:=by omega
 have B:w/128%2=r:=by omega
 have s:w/256=p+16*(k+8*i+256*g+8192*(h*64+l)):=by omega
 have H:w/256%16=p:=by rw[s];omega
 have j:w/32768=i+32*(g+32*(h*64+l)):=by omega
 have z:w/4096=k+8*(i+32*g+1024*(h*64+l)):=by omega
 have d:w%128+4096*(w/4096%8)=(q:Z):=by rw[z];omega
 have o:cz w=a:=G w b c d;have f:aP w=4:=by
  unfold aP;rw[o];rcases (show a=5\/a=6\/a=7\/a=8\/a=9\/a=10 by omega)with rfl|rfl|rfl|rfl|rfl|rfl<;>rfl
 refine⟨b,c,o,?_,?_,?_,?_⟩
 ·rw[f,FJ 4 w (by omega)]
 ·rw[f,yU w 4 b c (by omega),j];clear y u A O B s H d z j C K;omega
 ·rw[f,Oy w 4 b c (by omega),y];omega
 ·rw[f];have v:nY w=n%8192:=by unfold nY;rw[u,B,H,A];clear y u A O B s H d z j C;omega
  unfold dO;rw[ax (by decide),ax (by decide),ax (by decide),aD R,v];split<;>omega
theorem tV{w:Z}{k:M}(h:cz w=k):aP w=je.getD k 0:=by unfold aP;rw[h]
theorem uT(f n:Z)(a:0<=n)(b:n<=4294967295):((bF f n).toNat:Z)=bF f n/\(bF f n).toNat<32:=by
 have:0<=bF f n/\bF f n<32:=by
  unfold bF;split
  ·rw[eY n 128 a b (by omega)];omega
  ·omega
 omega
theorem DQ(f n:Z)(a:0<=n)(b:n<=4294967295):((bR f n).toNat:Z)=bR f n/\(bR f n).toNat<32:=by
 have:0<=bR f n/\bR f n<32:=by
  unfold bR;split
  ·rw[eY n 32768 a b (by omega)];omega
  ·omega
 omega
theorem DR(f n:Z)(a:0<=n)(b:n<=4294967295):((dW f n).toNat:Z)=dW f n/\(dW f n).toNat<32:=by
 have:0<=dW f n/\dW f n<32:=by
  unfold dW;split
  ·rw[eY n 1048576 a b (by omega)];omega
  ·omega
 omega
theorem zz{a:M}(h:a≠0)(d b c:M)(n:Z):tO a d b c n=(fz a d b c n:M):=by
 unfold tO;rw[ax h]
section
variable{w n:Z}(d:0<=w)(e:w<=4294967295)
include d e
theorem zy:eg w (cz w) (bF (aP w) w) (bR (aP w) w) (dO (aP w) w):=oW _ _ _ _ _ d e (you w d e).1
theorem OT(k:iE w)(a:-4096<=n)(b:n<4096)(c:n%2=0):(5<=cz w/\cz w<=10)/\nu (kZ w n) (cz w) 0 (bR (aP w) w) (dW (aP w) w) n:=by
 have o:=(zy d e).1.2 k;have g:5<=cz w/\cz w<=10:=by omega
 refine⟨g,?_⟩;have f:aP w=4:=by
  unfold aP;rcases (show cz w=5\/cz w=6\/cz w=7\/cz w=8\/cz w=9\/cz w=10 by omega)with h|h|h|h|h|h<;>rw[h]<;>rfl
 have i:=DQ (aP w) w d e;have j:=DR (aP w) w d e;unfold kZ;rw[zz (by omega),show (bF (aP w) w).toNat=0 by rw[f,FJ 4 w (by omega)];rfl]
 have:=X8 (cz w) _ _ n g i.2 j.2 a b c
 rw[i.1,j.1]at this;exact this
theorem XN(g:iA w)(a:-1048576<=n)(b:n<1048576)(c:n%2=0):cz w=3/\nu (kZ w n) 3 (bF (aP w) w) 0 0 n:=by
 have o:cz w=3:=by have:=((zy d e).2.1.2 g).1;omega
 refine⟨o,?_⟩;have f:aP w=2:=tV o;have r:=uT (aP w) w d e;unfold kZ;rw[o,zz (by omega),show (bR (aP w) w).toNat=0 by rw[f,Bk 2 w (by omega)];rfl,show (dW (aP w) w).toNat=0 by rw[f,uE 2 w (by omega)];rfl]
 have:=SO _ n r.2 a b c
 rw[r.1]at this;exact this
theorem Yi(a:ig 23 w):cz w=2/\nu (kZ w n) 2 (bF (aP w) w) 0 0 (n%1048576):=by
 have o:cz w=2:=by have:=((zy d e).2.2.2.1.2 a).1;omega
 refine⟨o,?_⟩;have f:aP w=1:=tV o;have r:=uT (aP w) w d e;unfold kZ;rw[o,zz (by omega),show (bR (aP w) w).toNat=0 by rw[f,Bk 1 w (by omega)];rfl,show (dW (aP w) w).toNat=0 by rw[f,uE 1 w (by omega)];rfl]
 have:=acB _ n r.2
 rw[r.1]at this;exact this
theorem XO(a:ig 55 w):cz w=1/\nu (kZ w n) 1 (bF (aP w) w) 0 0 (n%1048576):=by
 have o:cz w=1:=by have:=((zy d e).2.2.1.2 a).1;omega
 refine⟨o,?_⟩;have f:aP w=1:=tV o;have r:=uT (aP w) w d e;unfold kZ;rw[o,zz (by omega),show (bR (aP w) w).toNat=0 by rw[f,Bk 1 w (by omega)];rfl,show (dW (aP w) w).toNat=0 by rw[f,uE 1 w (by omega)];rfl]
 have:=XS _ n r.2
 rw[r.1]at this;exact this
theorem Jq{h:M}(g:h=4\/h=11\/h=13)(o:cz w=h)(a:-2048<=n)(b:n<2048):nu (kZ w n) h (bF (aP w) w) (bR (aP w) w) 0 n:=by
 have f:aP w=3:=by rw[tV o];rcases g with rfl|rfl|rfl<;>rfl
 have r:=uT (aP w) w d e;have c:=DQ (aP w) w d e;unfold kZ;rw[o,zz (by omega),show (dW (aP w) w).toNat=0 by rw[f,uE 3 w (by omega)];rfl];rcases g with rfl|rfl|rfl
 ·have:=aet _ _ n r.2 c.2 a b
  rw[r.1,c.1]at this;exact this
 ·have:=XT _ _ n r.2 c.2 a b
  rw[r.1,c.1]at this;exact this
 ·have:=XH _ _ n r.2 c.2 a b
  rw[r.1,c.1]at this;exact this
theorem XQ(o:cz w=12)(a:-2048<=n)(b:n<2048):nu (kZ w n) 12 0 (bR (aP w) w) (dW (aP w) w) n:=by
 have f:aP w=5:=tV o;have c:=DQ (aP w) w d e;have g:=DR (aP w) w d e;unfold kZ;rw[o,zz (by omega),show (bF (aP w) w).toNat=0 by rw[f,FJ 5 w (by omega)];rfl]
 have:=XU _ _ n c.2 g.2 a b
 rw[c.1,g.1]at this;exact this
end
theorem OW(v:Z):-2048<=jN v/\jN v<2048:=by unfold jN;split<;>omega
theorem O0(v:Z):ir v%1048576=ir v:=by unfold ir;omega
theorem Xv(v:Z):bn (ir v*4096+jN v)=bn v:=by
 unfold bn ir jN;split<;>omega
theorem O4(v p:Z):bn (bn (ir v*4096+p)+jN v)=bn (p+v):=by
 have:=Xv v
 unfold bn at this ⊢;omega
structure cO (os:L aF) (bt aj bd:Z) (ms0 ms:L aI):Prop where
 m0:ms0=fH os (os.map dV)
 m1:ms=fU (aS bt aj bd ms0)
 val:∀o∈os,yl o
 few:os.length<=48
 t:fc bt
 f:fc aj
 d:fc bd
 fits:rq (bS os ms bt aj bd)
 reach:(rD (aS bt aj bd ms)).e=0
 start:jP os≠N
theorem X7(m:aI)(s:Z):∀(ws:L Z) (i:M) (a:Z) (k:M),k<ah ws->(dU m s i ws a).getD (k+1) 0=if eQ m s (4*((i+k:M):Z)) ((dU m s i ws a).getD k 0)then (dU m s i ws a).getD k 0+4 else (dU m s i ws a).getD k 0:=by
 intro ws
 induction ws with
 |nil=>intro i a k h;exact absurd h (ji _)
 |cons w ws b=>
  intro i a k h;rw[dU]
  cases k with
  |zero=>
   rw[uK,I4,HZ];rfl
  |succ k=>
   rw[uK,uK,b (i+1) _ k (by simpa using h),show i+1+k=i+(k+1) by omega]
section
variable{os:L aF}{bt aj bd:Z}{b ms:L aI}(C:cO os bt aj bd b ms)
include C
theorem cO.zO:jH os b:=by rw[C.m0];exact jH.start os
theorem cO.eV:jH os ms:=by rw[C.m1];exact(C.zO.lay bt aj bd).QD
theorem cO.gn:∀m∈ms,yl m.obj:=C.eV.val C.val
theorem cO.Nk:∀m∈b,yl m.obj:=C.zO.val C.val
theorem cO.len:ah ms=ah os:=C.eV.len
theorem cO.Oc:ah b=ah os:=C.zO.len
theorem cO.tB:0<=bt/\bt<=1073741824/\bt%4=0:=vA C.t
theorem cO.fL:0<=aj/\aj<=1073741824/\aj%4=0:=vA C.f
theorem cO.gm:0<=bd/\bd<=1073741824/\bd%4=0:=vA C.d
theorem cO.kg:ah ms<=48:=by rw[C.len];exact C.few
theorem cO.obj(i:M)(h:i<ah os)(a:i<ah ms):ms[i].obj=os[i]:=C.eV.obj i a h
theorem cO.fit:(ez bt aj bd ms 1<=1073741824/\ez bt aj bd ms 2<=1073741824/\ez bt aj bd ms 4<=1073741824)/\(¬ku bt (ez bt aj bd ms 1) aj (ez bt aj bd ms 2)/\¬ku bt (ez bt aj bd ms 1) bd (ez bt aj bd ms 4)/\¬ku aj (ez bt aj bd ms 2) bd (ez bt aj bd ms 4)) :=
 (UA C.gn C.kg C.tB C.fL C.gm).1 C.fits
theorem cO.low:4096<=bt/\4096<=aj/\4096<=bd:=⟨C.t.1.1,C.f.1.1,C.d.1.1⟩
theorem cO.Hp(i s k:M)(w:i<ah os)(E:s=1\/s=2)(D:k<(aQ os[i] s).length)(e:i<(aS bt aj bd ms).length)(j:(bg bt aj bd ms i s).getD k 0<(bg bt aj bd ms i s).getD (k+1) 0):
  fi (bS os ms bt aj bd) ((bg bt aj bd ms i s).getD k 0)=S (iZ (aS bt aj bd ms) (aS bt aj bd ms)[i] s (4*(k:Z)) (aQ os[i] s)[k]):=by
 have o:i<ah ms:=by rw[C.len];exact w
 have B:=C.obj i w o;have u:yp ms[i].obj s=aQ os[i] s:=by rw[B,me _ s (by omega)]
 have f:k<(yp ms[i].obj s).length:=by rw[u];exact D
 have K:=ul C.gn C.kg ⟨C.tB.1,C.tB.2.1⟩ ⟨C.fL.1,C.fL.2.1⟩ ⟨C.gm.1,C.gm.2.1⟩ i s k (by omega) (by omega);obtain⟨O,P,Q⟩:=AH C.gn C.kg C.tB C.fL C.gm;have F:=C.fit;have d:=C.tB;have c:=C.fL;have l:∀ {a:L Z} {n:M} {x:Z},a[n]?=S x->n<ah a/\a.getD n 0=x:=fun {a n x} h=>⟨(xE.1 h).1,by rw[bQ,h];rfl⟩
 have v:(yp ms[i].obj s)[k]=(aQ os[i] s)[k]:=by simp only[u]
 rcases E with rfl|rfl
 ·obtain⟨g,W⟩:=H6 C.gn C.kg 1 (by omega) (by omega) bt 19 rfl d.1 d.2.1 d.2.2 i k o e f j;rw[v]at W;obtain⟨p,q⟩:=l W;unfold fi;have t:gB (bS os ms bt aj bd).text (bS os ms bt aj bd).T.length ((bg bt aj bd ms i 1).getD k 0)=((bg bt aj bd ms i 1).getD k 0-bt)/4:=by
   unfold gB;exact aD ⟨g,by show ((bg bt aj bd ms i 1).getD k 0-bt)%4=0;omega,by show ((bg bt aj bd ms i 1).getD k 0-bt)/4<((dZ (aS bt aj bd ms) 1 bt 19 (aS bt aj bd ms) []).length:Z);simp only[EK]at p;omega⟩
  rw[t,aD (by omega)];exact congrArg S q
 ·obtain⟨g,W⟩:=H6 C.gn C.kg 2 (by omega) (by omega) aj 19 rfl c.1 c.2.1 c.2.2 i k o e f j;rw[v]at W;obtain⟨p,q⟩:=l W;unfold fi;have r:((bg bt aj bd ms i 2).getD k 0-aj)/4<((dZ (aS bt aj bd ms) 2 aj 19 (aS bt aj bd ms) []).length:Z):=by simp only[EK]at p;omega
  have G:¬(0<=gB (bS os ms bt aj bd).text (bS os ms bt aj bd).T.length ((bg bt aj bd ms i 2).getD k 0)):=by
   rw[Cl];rintro⟨t,H,z⟩;have y:bt<=(bg bt aj bd ms i 2).getD k 0:=t;have A:((bg bt aj bd ms i 2).getD k 0-bt)/4<((dZ (aS bt aj bd ms) 1 bt 19 (aS bt aj bd ms) []).length:Z):=z;refine F.2.1 ⟨?_,?_,?_,?_⟩<;>omega
  have t:gB (bS os ms bt aj bd).bw (bS os ms bt aj bd).F.length ((bg bt aj bd ms i 2).getD k 0)=((bg bt aj bd ms i 2).getD k 0-aj)/4:=by
   unfold gB;exact aD ⟨g,by show ((bg bt aj bd ms i 2).getD k 0-aj)%4=0;omega,r⟩
  rw[ax G,t,aD (by omega)];exact congrArg S q
theorem cO.D3(a:Z)(j:bd<=a)(k:a<ez bt aj bd ms 4):fi (bS os ms bt aj bd) a=N:=by
 obtain⟨l,n,o⟩:=AH C.gn C.kg C.tB C.fL C.gm;have F:=C.fit;have c:¬(fi (bS os ms bt aj bd) a).isSome=T:=by
  rw[EJ];rintro (⟨d,i,f⟩|⟨d,i,f⟩)
  ·have e:bt<=a:=d;have g:(a-bt)/4<((dZ (aS bt aj bd ms) 1 bt 19 (aS bt aj bd ms) []).length:Z):=f;refine F.2.2.1 ⟨?_,?_,?_,?_⟩<;>omega
  ·have e:aj<=a:=d;have g:(a-aj)/4<((dZ (aS bt aj bd ms) 2 aj 19 (aS bt aj bd ms) []).length:Z):=f;refine F.2.2.2 ⟨?_,?_,?_,?_⟩<;>omega
 cases h:fi (bS os ms bt aj bd) a with
 |none=>rfl
 |some x=>rw[h]at c;exact absurd R c
end
