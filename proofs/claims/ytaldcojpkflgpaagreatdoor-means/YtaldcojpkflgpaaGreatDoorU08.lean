import Derived.Test.YtaldcojpkflgpaaGreatDoorU07
import Derived.Deep.CutBlock
import Derived.Lib.AppendStr
set_option maxHeartbeats 16000000
set_option maxRecDepth 100000
open Go.Value renaming int->I,bool->aJ,tuple->aZ,slice->ak,string->aB,pointer->aM,ownBlock->eW
open Go.IntKind renaming i64->J
open Go renaming World->av,Addr->aY,bits->aT,Value->aC,Obj->dN,maxLen->cu,bodyPost_ret->bj,TypeId->dm,info_parts->fG
open _root_ renaming Nat->M,Option->aR,Int->Z,if_neg->ax,if_pos->aD,rfl->R,beq_iff_eq->dQ,beq_eq_false_iff_ne->df,if_true->jk,if_false->mw,List->L,UInt8->aL,decide_eq_true_eq->wH,decide_eq_false_iff_not->uX,decide_eq_false->gF
open Int renaming eq_ofNat_of_zero_le->eX,pow_pos->uI,pow_succ->vH,toNat_natCast->dy
open Go.Ending renaming returned->aH
open Bool renaming true->T,false->F
open Go.World renaming grownBy->az,grownBy_alloc->aG,cell?->aq,setCell->aK,drew->tG,block_lt_of_cell?->ow,new_ne->tH,ownsRow->aV
open Option renaming none->N,some->S,getD_some->rI
open Go.RowKit renaming intOf->aN
open Nat renaming zero_le->bG,lt_succ_iff_lt_or_eq->jY,not_lt_zero->ji,le_refl->bz,le_trans->fV
open Go.World.grownBy renaming refl->aW
open List renaming getD_eq_getElem?_getD->bQ,getElem?_eq_getElem->bW,length->ah,getElem_mem->bN,getElem?_toArray->bI,getElem?_cons_succ->bB,setIfInBounds_toArray->dt,set_cons_succ->dB,set_cons_zero->dC,length_cons->dA,replicate->eP,length_replicate->yK,length_append->bX
open Classical renaming byContradiction->zZ
open Go.IntWalk renaming i64_in->dD
namespace Go.Proofs.YtaldcojpkflgpaaGreatDoor
open Go.RowKit Go.Proofs.Tryz
variable {W w D:av} {o:aF} {base n cap b:M} {H:aR aY}
def rU(form n:Z):M->Z
 |0=>0
 |a+1=>rU form n a+n/2 ^ qX form a%2*2 ^ mZ form a
def oS(n:Z)(a p:M)(acc:Z):M->Z
 |0=>acc
 |m+1=>oS n a p acc m+n/2 ^ (a+m)%2*2 ^ (p+m)
theorem aee(N a m:M):N/2 ^ a%2 ^ (m+1)=N/2 ^ a%2 ^ m+2 ^ m*(N/2 ^ (a+m)%2):=by
 rw[Nat.pow_succ,Nat.mod_mul,Nat.div_div_eq_div_mul,<- Nat.pow_add]
theorem adb(n:Z)(c:0<=n)(a m:M):n/2 ^ a%2 ^ (m+1)=n/2 ^ a%2 ^ m+n/2 ^ (a+m)%2*2 ^ m:=by
 obtain⟨N,rfl⟩:=eX c;have e:=aee N a m;rw[Nat.mul_comm]at e
 exact_mod_cast e
theorem sx(n:Z)(d:0<=n)(a p:M)(c:Z)(m:M):oS n a p c m=c+n/2 ^ a%2 ^ m*2 ^ p:=by
 induction m with
 |zero=>simp[oS,Int.emod_one]
 |succ m e=>
  rw[oS,e,adb n d a m,Int.add_mul,Int.add_assoc,Int.mul_assoc,<- Int.pow_add,Nat.add_comm m p]
def xU(form n:Z):Z:=if form=1 then n/4096%1048576 else if form=2 then mr n else if form=3 then n/1048576%4096 else if form=4 then nY n else if form=5 then nZ n else 0
theorem agz(a n:Z)(c:0<=n)(d:1<=a/\a<=7):rU a n (qW a)=xU a n:=by
 rcases (show a=1\/a=2\/a=3\/a=4\/a=5\/a=6\/a=7 from by omega)with rfl|rfl|rfl|rfl|rfl|rfl|rfl
 ·show oS n 12 0 0 20=n/4096%1048576;rw[sx n c];simp only[Int.reducePow];omega
 ·show oS n 31 20 (oS n 12 12 (oS n 20 11 (oS n 21 1 0 10) 1) 8) 1=mr n;rw[sx n c,sx n c,sx n c,sx n c];unfold mr;simp only[Int.reducePow];omega
 ·show oS n 20 0 0 12=n/1048576%4096;rw[sx n c];simp only[Int.reducePow];omega
 ·show oS n 31 12 (oS n 7 11 (oS n 25 5 (oS n 8 1 0 4) 6) 1) 1=nY n;rw[sx n c,sx n c,sx n c,sx n c];unfold nY;simp only[Int.reducePow];omega
 ·show oS n 25 5 (oS n 7 0 0 5) 7=nZ n;rw[sx n c,sx n c];unfold nZ;simp only[Int.reducePow];omega
 ·rfl
 ·rfl
theorem Ti(d:Z)(e:1<=d/\d<=7):∀c,c<qW d->∀a,a<c->mZ d a<mZ d c:=by
 rcases (show d=1\/d=2\/d=3\/d=4\/d=5\/d=6\/d=7 from by omega)with rfl|rfl|rfl|rfl|rfl|rfl|rfl<;>decide
theorem T4(a b:M)(h:a<=b):(2:Z) ^ a<=2 ^ b:=by
 have:=Nat.pow_le_pow_right (show 0<2 by decide) h
 exact_mod_cast this
theorem Sz(c n:Z)(g:1<=c/\c<=7):∀a,a<=qW c->0<=rU c n a/\∀K:M,(∀i,i<a->mZ c i<K)->rU c n a<2 ^ K:=by
 intro a
 induction a with
 |zero=>intro _;exact⟨Int.le_refl _,λK _=>uI (by decide)⟩
 |succ a k=>
  intro l;obtain⟨q,j⟩:=k (by omega);have h:=j (mZ c a) (λi d=>Ti c g a (by omega) i d);have d:n/2 ^ qX c a%2=0\/n/2 ^ qX c a%2=1:=by omega
  have e:(0:Z)<2 ^ mZ c a:=uI (by decide);have p:(2:Z) ^ (mZ c a+1)=2 ^ mZ c a*2:=vH _ _;refine⟨?_,λK f=>?_⟩
  ·rw[rU];rcases d with d|d<;>rw[d]<;>omega
  ·have m:=T4 (mZ c a+1) K (f a (by omega));rw[rU];rcases d with d|d<;>rw[d]<;>omega
theorem aei(a b:Z):aT .or .i64 a b=aT .or .i64 b a:=by
 show J.wrap ((BitVec.ofInt 64 a |||BitVec.ofInt 64 b).toNat:M)=J.wrap ((BitVec.ofInt 64 b |||BitVec.ofInt 64 a).toNat:M);rw[BitVec.or_comm]
theorem aex(c n:Z)(a:M)(e:1<=c/\c<=7)(h:a<qW c):aT .or .i64 (rU c n a) (n/2 ^ qX c a%2*2 ^ mZ c a)=rU c n (a+1):=by
 obtain⟨l,m⟩:=Sz c n e a (by omega);have f:=m (mZ c a) (λi d=>Ti c e a h i d);have d:n/2 ^ qX c a%2=0\/n/2 ^ qX c a%2=1:=by omega
 have j:(0:Z)<2 ^ mZ c a:=uI (by decide);obtain⟨-,-,L⟩:=QZ c e;obtain⟨-,-,p,-⟩:=L a h;have k:=LB c e;have g:=T4 (mZ c a) 20 (by omega);simp only[Int.reducePow]at g;rw[aei,xx _ _ (mZ c a) (by rcases d with d|d<;>rw[d]<;>omega) (by rcases d with d|d<;>rw[d]<;>omega) (by rcases d with d|d<;>rw[d]<;>simp) l f (by omega),rU,Int.add_comm]
theorem TU(n v:Z)(e:v=xU 2 n)(c:0<=v)(d:v<2097152):(v/2 ^ 20%2=1->dO 2 n=v-2097152)/\(¬v/2 ^ 20%2=1->dO 2 n=v):=by
 have a:v=mr n:=e;unfold dO;rw[ax (by decide),aD R,<- a];simp only[Int.reducePow];exact⟨λh=>ax (by omega),λh=>aD (by omega)⟩
theorem TV(n v:Z)(e:v=xU 3 n)(c:0<=v)(d:v<4096):(v/2 ^ 11%2=1->dO 3 n=v-4096)/\(¬v/2 ^ 11%2=1->dO 3 n=v):=by
 have a:v=n/1048576%4096:=e;unfold dO;rw[ax (by decide),ax (by decide),aD R,<- a];simp only[Int.reducePow];exact⟨λh=>ax (by omega),λh=>aD (by omega)⟩
theorem TW(n v:Z)(e:v=xU 4 n)(c:0<=v)(d:v<8192):(v/2 ^ 12%2=1->dO 4 n=v-8192)/\(¬v/2 ^ 12%2=1->dO 4 n=v):=by
 have a:v=nY n:=e;unfold dO;rw[ax (by decide),ax (by decide),ax (by decide),aD R,<- a];simp only[Int.reducePow];exact⟨λh=>ax (by omega),λh=>aD (by omega)⟩
theorem TX(n v:Z)(e:v=xU 5 n)(c:0<=v)(d:v<4096):(v/2 ^ 11%2=1->dO 5 n=v-4096)/\(¬v/2 ^ 11%2=1->dO 5 n=v):=by
 have a:v=nZ n:=e;unfold dO;rw[ax (by decide),ax (by decide),ax (by decide),ax (by decide),aD R,<- a];simp only[Int.reducePow];exact⟨λh=>ax (by omega),λh=>aD (by omega)⟩
theorem TY(n v:Z)(e:v=xU 6 n)(c:0<=v)(d:v<4096):(v/2 ^ 11%2=1->dO 6 n=v-4096)/\(¬v/2 ^ 11%2=1->dO 6 n=v):=by
 have a:v=0:=e;subst a;exact⟨λh=>absurd h (by decide),λ_=>rfl⟩
theorem TZ(n v:Z)(e:v=xU 7 n)(c:0<=v)(d:v<4096):(v/2 ^ 11%2=1->dO 7 n=v-4096)/\(¬v/2 ^ 11%2=1->dO 7 n=v):=by
 have a:v=0:=e;subst a;exact⟨λh=>absurd h (by decide),λ_=>rfl⟩
def qS(form:Z):Z:=if form=0 then 0 else qb form
def xt(n:Z):aC:=aZ #[eT (cz n) (bF (aP n) n) (bR (aP n) n) (dW (aP n) n) (dO (aP n) n) (qS (aP n)),aJ (decide (cz n≠0))]
theorem agu(n:Z)(k:M)(f:Z)(h:k<25)(e:Is (k+1) n)(a:∀j,1<=j->j<k+1->¬Is j n)(hF:je.getD (k+1) 0=f)(g:1<=f/\f<=7):
  ∀c d e g a,bF f n=c->bR f n=d->dW f n=e->dO f n=g->qb f=a->aH (aZ #[eT ((k:Z)+1) c d e g a,aJ T])=aH (xt n):=by
 rintro _ _ _ _ _ rfl rfl rfl rfl rfl;have c:=oJ n (k+1) (by omega) (by omega) e a;have d:aP n=f:=by unfold aP;rw[c];exact hF
 unfold xt;rw[c,d];unfold qS;rw[ax (by omega)]
 congr 3
theorem DC(n:Z)(w:av)(h0:0<=n)(h1:n<=4294967295):
  Calls prog 57 #[I J n] w λe D=>e=aH (xt n)/\az w D N:=by
 have G:=ae (λo:dN=>aG w o N);have cT:=ae adS;go_enter func57,ntmps57;go_wp2_with fail;refine(cT.o _).mono ?_;rintro e w1 ⟨rfl,c,hlt,l⟩;have Y:=ae (((aA.new w _ _).grown l (by simp)):aA w1 w.heap.size #[I J 0,I J 0,I J 0,I J 0,I J 0,.int .u8 0] 120);have G1:=ae (ya (G.o _) l);generalize (w.alloc _).heap.size=O5 at *;have CK:=ae c;clear c l hlt;go_wp2
 go_loopw [5] (λi wr=>∃k:M,k<=25/\i=I J k/\(∀j,1<=j->j<k+1->¬Is j n)/\az w1 wr N) (λi _=>25-(aN i).toNat)
 case atStart=>exact⟨0,bG _,R,λj h1 h2=>by omega,aW _ _⟩
 case round=>
  obtain⟨k,hk1,rfl,l,c⟩:=hrel;have HA:=ae l;have V:=ae c;clear l c;by_cases hlt:k<25
  ·obtain⟨q1,q2,q3,q4⟩:=(CK.o k hlt).grown V.o;have Q:=Dm (k+1) (by omega) (by omega);have xq:=ae (show Is (k+1) n↔aT .and .i64 n (ri (je.getD (k+1) 0))=qU.getD (k+1) 0 from Iff.rfl);generalize hF:je.getD (k+1) 0=f at *;generalize qU.getD (k+1) 0=x at *;have HF:=ae hF;clear hF;have g2:(k:Z)<25:=by omega
   by_cases hI:Is (k+1) n
   ·have d:(aT .and .i64 n (ri f)==x)=T:=dQ.2 (xq.o.1 hI);have HI:=ae hI;clear hI;go_wp2
    go_quiet (fail)
    have T2:=(CK.o k hlt).grown (ye V.o nq);unfold DL at T2;rw[HF.o]at T2;have HG2:=ae (ye V.o nq);clear q1 q2 q3 q4;generalize wr.drewN nq=w2 at *;obtain⟨q1,-,-,q4⟩:=T2;have cP:=ae (λW=>acz f W Q);go_wp2_with fail;refine(cP.o _).mono ?_;rintro e w3 ⟨v,rfl,c,m⟩;obtain⟨H,cap,rfl⟩:=yi c;have iF:=ae (((aA.new w2 _ _).grown m (by simp)):aA w3 w2.heap.size #[I J ((k:Z)+1),I J 0,I J 0,I J 0,I J 0,.int .u8 (qb f)] 120);have G3:=ae (ya (ya HG2.o (aG _ _ _)) m);have VY:=ae (yq.dh c);have uu:=ae (show ∀g l,H=S ⟨g,l,N⟩->w2.heap.size<g from λg l h=>by subst h;have:=(c.lt g R).1;simp at this;omega)
    have l:=kF c;have aiW:=ae (ya G1.o HG2.o).size;obtain⟨r,L2,s⟩:=QZ f Q;rw[r]at l;have HL:=ae s;have Ge:=iF.o.lt;clear c m s q1 q4;have hcap1:=l.1;have hcap2:=l.2;unfold cu at hcap2;clear l;rw[r];have qO:=ae r;clear r;generalize c:w2.heap.size=X at *;have HX:=ae c;clear c;go_wp2
    go_loopw [9] (λi wr=>∃a:M,∃v:Z,a<=qW f/\i=I J ((a*2:M):Z)/\0<=v/\v<2 ^ mT f/\v=rU f n a/\aA wr X #[I J ((k:Z)+1),I J 0,I J 0,I J 0,I J v,.int .u8 (qb f)] 120/\az w3 wr (S X)) (λi _=>qW f*2-(aN i).toNat)
    case atStart=>exact⟨0,0,bG _,R,by omega,uI (by decide),R,iF.o,aW _ _⟩
    case round=>
     obtain⟨a,v,ha,rfl,s,r,m,l,c⟩:=hrel;have PE:=ae m;have O:=ae l;have CI:=ae c;clear m l c;by_cases hla:a<qW f
     ·obtain⟨t,u,z,y⟩:=HL.o a hla;obtain⟨U,B,A,c⟩:=VY.o (by have:=qO.o;omega);have m:=uu.o U B A;subst A;have E:a*2<(iL f).length:=by have:=qO.o;omega
      have K:a*2+1<(iL f).length:=by have:=qO.o;omega
      have c1:=CI.o.cell (c (a*2) E) (by simp;omega);have c2:=CI.o.cell (c (a*2+1) K) (by simp;omega);rw[show (iL f)[a*2]=(mZ f a:Z)from by rw[<- t,bQ,bW E];rfl]at c1;rw[show (iL f)[a*2+1]=(qX f a:Z)from by rw[<- u,bQ,bW K];rfl]at c2;have b4:=O.o.cell 4;have aiD:=O.o.free 4;have aiV:X≠U:=by omega
      have P:=ae (λW=>Tz n (qX f a) W h0 h1 y);have YI:=LB f Q;have l:=ae (show ∀x,x=aT .or .i64 v (n/2 ^ qX f a%2*2 ^ mZ f a)->0<=x/\x<2 ^ mT f/\x=rU f n (a+1)from λx hx=>by
       have C:x=rU f n (a+1):=by rw[hx,PE.o];exact aex f n a Q hla
       obtain⟨r0,r1⟩:=Sz f n Q (a+1) (by omega);rw[C];exact⟨r0,r1 _ (λi c=>(HL.o i (by omega)).2.2.1),R⟩)
      clear c t u E K;generalize c:n/2 ^ qX f a%2=b at *;have t:0<=b:=by omega
      have u:b<=1:=by omega
      clear c;generalize qX f a=q at *;generalize mZ f a=p at *;have K:(a*2:Z)<(qW f*2:Z):=by omega
      have g4:((a*2:M):Z)+1<((qW f*2:M):Z):=by omega
      have E:p<=20:=by omega
      go_wp2_with fail;refine(P.o _).mono ?_;rintro e w4 ⟨rfl,rfl⟩;go_wp2
      go_region
      go_wp2;have c:=l.o _ R;have C:=ag8 b p t u E;rw[C];refine⟨⟨a+1,aT .or .i64 v (b*2 ^ p),by omega,by go_num,c.1,c.2.1,c.2.2,(O.o.set 4 _).drewN 1,ye (AJ CI.o 4 _) 1⟩,?_⟩;simp[aN];omega
     ·have ea:a=qW f:=by omega
      have qQ:=ae (show v=xU f n from by rw[PE.o,ea];exact agz f n h0 Q);have rH:=ae (agu n k f hlt HI.o HA.o HF.o Q);have cW:=ae (λW=>afU f W Q);have YI:=LB f Q;subst ea;go_wp2_with fail;refine(cW.o _).mono ?_;rintro e w4 ⟨rfl,rfl⟩;have hXlt:=O.o.lt;have aiX:w.heap.size<X:=by have h1:=Y.o.lt;have h2:=HG2.o.size;have h3:=HX.o;omega
      have C:=ae ((((Y.o.grown G3.o (by simp)).grown CI.o (by simp;omega))):aA w4 w.heap.size #[I J 0,I J 0,I J 0,I J 0,I J 0,.int .u8 0] 120);have GW:=ae (tz (ya G1.o G3.o) CI.o (by omega));have x0:=O.o.cell 0;have x1:=O.o.cell 1;have x2:=O.o.cell 2;have x3:=O.o.cell 3;have x4:=O.o.cell 4;have y1:=O.o.free 1;have y2:=O.o.free 2;have y3:=O.o.free 3;have y4:=O.o.free 4;have z0:=C.o.cell 0;have z1:=C.o.cell 1;have z2:=C.o.cell 2;have z3:=C.o.cell 3;have z4:=C.o.cell 4;have z5:=C.o.cell 5;have t0:=C.o.free 0;have t1:=C.o.free 1;have t2:=C.o.free 2
      have t3:=C.o.free 3;have t4:=C.o.free 4;have t5:=C.o.free 5;have m:X≠w.heap.size:=by omega
      rcases (show f=1\/f=2\/f=3\/f=4\/f=5\/f=6\/f=7 from by omega)with rfl|rfl|rfl|rfl|rfl|rfl|rfl
      ·rw[show qb 1=85 from R,show mT 1=20 from R];have U:aq w4 ⟨X,5,N⟩=S (.int .u8 85):=O.o.cell 5;go_wp2;have c:=qK (W:=(aK w4 ⟨X,1,N⟩ (I J (aT .and .i64 (n/128) 31)))) (fW GW.o (by omega) _ _) (fE C.o m _ _) (I J ((k:Z)+1)) (I J (aT .and .i64 (n/128) 31)) (I J 0) (I J 0) (I J v) (.int .u8 85);have A:=(c.1).cell 0;have t:=(c.1).cell 1;have u:=(c.1).cell 2;have z:=(c.1).cell 3;have y:=(c.1).cell 4;have B:=(c.1).cell 5;refine bj (v:=aZ #[eT ((k:Z)+1) (aT .and .i64 (n/128) 31) 0 0 v 85,aJ T]) ?_ R ⟨rH.o _ _ _ _ _ R R R qQ.o.symm R,c.2⟩
       clear c x0 x1 x2 x3 x4 U y1 y2 y3 y4 z0 z1 z2 z3 z4 z5 t0 t1 t2 t3 t4 t5;simp[results,results57,go_sem,eT,A,t,u,z,y,B]
      ·rw[show qb 2=74 from R,show mT 2=21 from R];have U:aq w4 ⟨X,5,N⟩=S (.int .u8 74):=O.o.cell 5;rw[show mT 2=21 from R]at r;simp only[Int.reducePow]at r;have P:=ae (λW=>AX v 20 20 rfl W s (by omega) (by decide));by_cases l:v/2 ^ 20%2=1
       ·have d1:(v/2 ^ 20%2==1)=T:=dQ.2 l;have E:=ae ((TU n v qQ.o s r).1 l);clear l;generalize v/2 ^ 20%2=sb at *;go_wp2_with fail;refine(P.o _).mono ?_;rintro e K ⟨rfl,rfl⟩;go_wp2
        go_region
        go_wp2;have c:=qK (W:=((aK K ⟨X,4,N⟩ (I J (v-2097152))).setCell ⟨X,1,N⟩ (I J (aT .and .i64 (n/128) 31)))) (fW (fW GW.o (by omega) _ _) (by omega) _ _) (fE (fE C.o m _ _) m _ _) (I J ((k:Z)+1)) (I J (aT .and .i64 (n/128) 31)) (I J 0) (I J 0) (I J (v-2097152)) (.int .u8 74);have A:=(aA.drew c.1).cell 0;have t:=(aA.drew c.1).cell 1;have u:=(aA.drew c.1).cell 2;have z:=(aA.drew c.1).cell 3;have y:=(aA.drew c.1).cell 4;have B:=(aA.drew c.1).cell 5;refine bj (v:=aZ #[eT ((k:Z)+1) (aT .and .i64 (n/128) 31) 0 0 (v-2097152) 74,aJ T]) ?_ R ⟨rH.o _ _ _ _ _ R R R E.o R,(yf c.2)⟩
        clear c x0 x1 x2 x3 x4 U y1 y2 y3 y4 z0 z1 z2 z3 z4 z5 t0 t1 t2 t3 t4 t5;generalize tG _=c at *;simp[results,results57,go_sem,eT,A,t,u,z,y,B]
       ·have d1:(v/2 ^ 20%2==1)=F:=df.2 l;have E:=ae ((TU n v qQ.o s r).2 l);clear l;generalize v/2 ^ 20%2=sb at *;go_wp2_with fail;refine(P.o _).mono ?_;rintro e K ⟨rfl,rfl⟩;go_wp2;have c:=qK (W:=(aK K ⟨X,1,N⟩ (I J (aT .and .i64 (n/128) 31)))) (fW GW.o (by omega) _ _) (fE C.o m _ _) (I J ((k:Z)+1)) (I J (aT .and .i64 (n/128) 31)) (I J 0) (I J 0) (I J v) (.int .u8 74);have A:=(c.1).cell 0;have t:=(c.1).cell 1;have u:=(c.1).cell 2;have z:=(c.1).cell 3;have y:=(c.1).cell 4;have B:=(c.1).cell 5
        refine bj (v:=aZ #[eT ((k:Z)+1) (aT .and .i64 (n/128) 31) 0 0 v 74,aJ T]) ?_ R ⟨rH.o _ _ _ _ _ R R R E.o R,c.2⟩;clear c x0 x1 x2 x3 x4 U y1 y2 y3 y4 z0 z1 z2 z3 z4 z5 t0 t1 t2 t3 t4 t5;simp[results,results57,go_sem,eT,A,t,u,z,y,B]
      ·rw[show qb 3=73 from R,show mT 3=12 from R];have U:aq w4 ⟨X,5,N⟩=S (.int .u8 73):=O.o.cell 5;rw[show mT 3=12 from R]at r;simp only[Int.reducePow]at r;have P:=ae (λW=>AX v 11 11 rfl W s (by omega) (by decide));by_cases l:v/2 ^ 11%2=1
       ·have d1:(v/2 ^ 11%2==1)=T:=dQ.2 l;have E:=ae ((TV n v qQ.o s r).1 l);clear l;generalize v/2 ^ 11%2=sb at *;go_wp2_with fail;refine(P.o _).mono ?_;rintro e K ⟨rfl,rfl⟩;go_wp2
        go_region
        go_wp2;have c:=qK (W:=(((aK K ⟨X,4,N⟩ (I J (v-4096))).setCell ⟨X,1,N⟩ (I J (aT .and .i64 (n/128) 31))).setCell ⟨X,2,N⟩ (I J (aT .and .i64 (n/32768) 31)))) (fW (fW (fW GW.o (by omega) _ _) (by omega) _ _) (by omega) _ _) (fE (fE (fE C.o m _ _) m _ _) m _ _) (I J ((k:Z)+1)) (I J (aT .and .i64 (n/128) 31)) (I J (aT .and .i64 (n/32768) 31)) (I J 0) (I J (v-4096)) (.int .u8 73);have A:=(aA.drew c.1).cell 0;have t:=(aA.drew c.1).cell 1;have u:=(aA.drew c.1).cell 2;have z:=(aA.drew c.1).cell 3;have y:=(aA.drew c.1).cell 4
        have B:=(aA.drew c.1).cell 5;refine bj (v:=aZ #[eT ((k:Z)+1) (aT .and .i64 (n/128) 31) (aT .and .i64 (n/32768) 31) 0 (v-4096) 73,aJ T]) ?_ R ⟨rH.o _ _ _ _ _ R R R E.o R,(yf c.2)⟩;clear c x0 x1 x2 x3 x4 U y1 y2 y3 y4 z0 z1 z2 z3 z4 z5 t0 t1 t2 t3 t4 t5;generalize tG _=c at *;simp[results,results57,go_sem,eT,A,t,u,z,y,B]
       ·have d1:(v/2 ^ 11%2==1)=F:=df.2 l;have E:=ae ((TV n v qQ.o s r).2 l);clear l;generalize v/2 ^ 11%2=sb at *;go_wp2_with fail;refine(P.o _).mono ?_;rintro e K ⟨rfl,rfl⟩;go_wp2;have c:=qK (W:=((aK K ⟨X,1,N⟩ (I J (aT .and .i64 (n/128) 31))).setCell ⟨X,2,N⟩ (I J (aT .and .i64 (n/32768) 31)))) (fW (fW GW.o (by omega) _ _) (by omega) _ _) (fE (fE C.o m _ _) m _ _) (I J ((k:Z)+1)) (I J (aT .and .i64 (n/128) 31)) (I J (aT .and .i64 (n/32768) 31)) (I J 0) (I J v) (.int .u8 73)
        have A:=(c.1).cell 0;have t:=(c.1).cell 1;have u:=(c.1).cell 2;have z:=(c.1).cell 3;have y:=(c.1).cell 4;have B:=(c.1).cell 5;refine bj (v:=aZ #[eT ((k:Z)+1) (aT .and .i64 (n/128) 31) (aT .and .i64 (n/32768) 31) 0 v 73,aJ T]) ?_ R ⟨rH.o _ _ _ _ _ R R R E.o R,c.2⟩;clear c x0 x1 x2 x3 x4 U y1 y2 y3 y4 z0 z1 z2 z3 z4 z5 t0 t1 t2 t3 t4 t5;simp[results,results57,go_sem,eT,A,t,u,z,y,B]
      ·rw[show qb 4=66 from R,show mT 4=13 from R];have U:aq w4 ⟨X,5,N⟩=S (.int .u8 66):=O.o.cell 5;rw[show mT 4=13 from R]at r;simp only[Int.reducePow]at r;have P:=ae (λW=>AX v 12 12 rfl W s (by omega) (by decide));by_cases l:v/2 ^ 12%2=1
       ·have d1:(v/2 ^ 12%2==1)=T:=dQ.2 l;have E:=ae ((TW n v qQ.o s r).1 l);clear l;generalize v/2 ^ 12%2=sb at *;go_wp2_with fail;refine(P.o _).mono ?_;rintro e K ⟨rfl,rfl⟩;go_wp2
        go_region
        go_wp2;have c:=qK (W:=(((aK K ⟨X,4,N⟩ (I J (v-8192))).setCell ⟨X,2,N⟩ (I J (aT .and .i64 (n/32768) 31))).setCell ⟨X,3,N⟩ (I J (aT .and .i64 (n/1048576) 31)))) (fW (fW (fW GW.o (by omega) _ _) (by omega) _ _) (by omega) _ _) (fE (fE (fE C.o m _ _) m _ _) m _ _) (I J ((k:Z)+1)) (I J 0) (I J (aT .and .i64 (n/32768) 31)) (I J (aT .and .i64 (n/1048576) 31)) (I J (v-8192)) (.int .u8 66);have A:=(aA.drew c.1).cell 0;have t:=(aA.drew c.1).cell 1;have u:=(aA.drew c.1).cell 2;have z:=(aA.drew c.1).cell 3
        have y:=(aA.drew c.1).cell 4;have B:=(aA.drew c.1).cell 5;refine bj (v:=aZ #[eT ((k:Z)+1) 0 (aT .and .i64 (n/32768) 31) (aT .and .i64 (n/1048576) 31) (v-8192) 66,aJ T]) ?_ R ⟨rH.o _ _ _ _ _ R R R E.o R,(yf c.2)⟩;clear c x0 x1 x2 x3 x4 U y1 y2 y3 y4 z0 z1 z2 z3 z4 z5 t0 t1 t2 t3 t4 t5;generalize tG _=c at *;simp[results,results57,go_sem,eT,A,t,u,z,y,B]
       ·have d1:(v/2 ^ 12%2==1)=F:=df.2 l;have E:=ae ((TW n v qQ.o s r).2 l);clear l;generalize v/2 ^ 12%2=sb at *;go_wp2_with fail;refine(P.o _).mono ?_;rintro e K ⟨rfl,rfl⟩;go_wp2;have c:=qK (W:=((aK K ⟨X,2,N⟩ (I J (aT .and .i64 (n/32768) 31))).setCell ⟨X,3,N⟩ (I J (aT .and .i64 (n/1048576) 31)))) (fW (fW GW.o (by omega) _ _) (by omega) _ _) (fE (fE C.o m _ _) m _ _) (I J ((k:Z)+1)) (I J 0) (I J (aT .and .i64 (n/32768) 31)) (I J (aT .and .i64 (n/1048576) 31)) (I J v) (.int .u8 66)
        have A:=(c.1).cell 0;have t:=(c.1).cell 1;have u:=(c.1).cell 2;have z:=(c.1).cell 3;have y:=(c.1).cell 4;have B:=(c.1).cell 5;refine bj (v:=aZ #[eT ((k:Z)+1) 0 (aT .and .i64 (n/32768) 31) (aT .and .i64 (n/1048576) 31) v 66,aJ T]) ?_ R ⟨rH.o _ _ _ _ _ R R R E.o R,c.2⟩;clear c x0 x1 x2 x3 x4 U y1 y2 y3 y4 z0 z1 z2 z3 z4 z5 t0 t1 t2 t3 t4 t5;simp[results,results57,go_sem,eT,A,t,u,z,y,B]
      ·rw[show qb 5=83 from R,show mT 5=12 from R];have U:aq w4 ⟨X,5,N⟩=S (.int .u8 83):=O.o.cell 5;rw[show mT 5=12 from R]at r;simp only[Int.reducePow]at r;have P:=ae (λW=>AX v 11 11 rfl W s (by omega) (by decide));by_cases l:v/2 ^ 11%2=1
       ·have d1:(v/2 ^ 11%2==1)=T:=dQ.2 l;have E:=ae ((TX n v qQ.o s r).1 l);clear l;generalize v/2 ^ 11%2=sb at *;go_wp2_with fail;refine(P.o _).mono ?_;rintro e K ⟨rfl,rfl⟩;go_wp2
        go_region
        go_wp2;have c:=qK (W:=(((aK K ⟨X,4,N⟩ (I J (v-4096))).setCell ⟨X,2,N⟩ (I J (aT .and .i64 (n/32768) 31))).setCell ⟨X,3,N⟩ (I J (aT .and .i64 (n/1048576) 31)))) (fW (fW (fW GW.o (by omega) _ _) (by omega) _ _) (by omega) _ _) (fE (fE (fE C.o m _ _) m _ _) m _ _) (I J ((k:Z)+1)) (I J 0) (I J (aT .and .i64 (n/32768) 31)) (I J (aT .and .i64 (n/1048576) 31)) (I J (v-4096)) (.int .u8 83);have A:=(aA.drew c.1).cell 0;have t:=(aA.drew c.1).cell 1;have u:=(aA.drew c.1).cell 2;have z:=(aA.drew c.1).cell 3
        have y:=(aA.drew c.1).cell 4;have B:=(aA.drew c.1).cell 5;refine bj (v:=aZ #[eT ((k:Z)+1) 0 (aT .and .i64 (n/32768) 31) (aT .and .i64 (n/1048576) 31) (v-4096) 83,aJ T]) ?_ R ⟨rH.o _ _ _ _ _ R R R E.o R,(yf c.2)⟩;clear c x0 x1 x2 x3 x4 U y1 y2 y3 y4 z0 z1 z2 z3 z4 z5 t0 t1 t2 t3 t4 t5;generalize tG _=c at *;simp[results,results57,go_sem,eT,A,t,u,z,y,B]
       ·have d1:(v/2 ^ 11%2==1)=F:=df.2 l;have E:=ae ((TX n v qQ.o s r).2 l);clear l;generalize v/2 ^ 11%2=sb at *;go_wp2_with fail;refine(P.o _).mono ?_;rintro e K ⟨rfl,rfl⟩;go_wp2;have c:=qK (W:=((aK K ⟨X,2,N⟩ (I J (aT .and .i64 (n/32768) 31))).setCell ⟨X,3,N⟩ (I J (aT .and .i64 (n/1048576) 31)))) (fW (fW GW.o (by omega) _ _) (by omega) _ _) (fE (fE C.o m _ _) m _ _) (I J ((k:Z)+1)) (I J 0) (I J (aT .and .i64 (n/32768) 31)) (I J (aT .and .i64 (n/1048576) 31)) (I J v) (.int .u8 83)
        have A:=(c.1).cell 0;have t:=(c.1).cell 1;have u:=(c.1).cell 2;have z:=(c.1).cell 3;have y:=(c.1).cell 4;have B:=(c.1).cell 5;refine bj (v:=aZ #[eT ((k:Z)+1) 0 (aT .and .i64 (n/32768) 31) (aT .and .i64 (n/1048576) 31) v 83,aJ T]) ?_ R ⟨rH.o _ _ _ _ _ R R R E.o R,c.2⟩;clear c x0 x1 x2 x3 x4 U y1 y2 y3 y4 z0 z1 z2 z3 z4 z5 t0 t1 t2 t3 t4 t5;simp[results,results57,go_sem,eT,A,t,u,z,y,B]
      ·rw[show qb 6=82 from R,show mT 6=12 from R];have U:aq w4 ⟨X,5,N⟩=S (.int .u8 82):=O.o.cell 5;rw[show mT 6=12 from R]at r;simp only[Int.reducePow]at r;have P:=ae (λW=>AX v 11 11 rfl W s (by omega) (by decide));by_cases l:v/2 ^ 11%2=1
       ·have d1:(v/2 ^ 11%2==1)=T:=dQ.2 l;have E:=ae ((TY n v qQ.o s r).1 l);clear l;generalize v/2 ^ 11%2=sb at *;go_wp2_with fail;refine(P.o _).mono ?_;rintro e K ⟨rfl,rfl⟩;go_wp2
        go_region
        go_wp2;have c:=qK (W:=((((aK K ⟨X,4,N⟩ (I J (v-4096))).setCell ⟨X,1,N⟩ (I J (aT .and .i64 (n/128) 31))).setCell ⟨X,2,N⟩ (I J (aT .and .i64 (n/32768) 31))).setCell ⟨X,3,N⟩ (I J (aT .and .i64 (n/1048576) 31)))) (fW (fW (fW (fW GW.o (by omega) _ _) (by omega) _ _) (by omega) _ _) (by omega) _ _) (fE (fE (fE (fE C.o m _ _) m _ _) m _ _) m _ _) (I J ((k:Z)+1)) (I J (aT .and .i64 (n/128) 31)) (I J (aT .and .i64 (n/32768) 31)) (I J (aT .and .i64 (n/1048576) 31)) (I J (v-4096)) (.int .u8 82)
        have A:=(aA.drew c.1).cell 0;have t:=(aA.drew c.1).cell 1;have u:=(aA.drew c.1).cell 2;have z:=(aA.drew c.1).cell 3;have y:=(aA.drew c.1).cell 4;have B:=(aA.drew c.1).cell 5;refine bj (v:=aZ #[eT ((k:Z)+1) (aT .and .i64 (n/128) 31) (aT .and .i64 (n/32768) 31) (aT .and .i64 (n/1048576) 31) (v-4096) 82,aJ T]) ?_ R ⟨rH.o _ _ _ _ _ R R R E.o R,(yf c.2)⟩;clear c x0 x1 x2 x3 x4 U y1 y2 y3 y4 z0 z1 z2 z3 z4 z5 t0 t1 t2 t3 t4 t5;generalize tG _=c at *;simp[results,results57,go_sem,eT,A,t,u,z,y,B]
       ·have d1:(v/2 ^ 11%2==1)=F:=df.2 l;have E:=ae ((TY n v qQ.o s r).2 l);clear l;generalize v/2 ^ 11%2=sb at *;go_wp2_with fail;refine(P.o _).mono ?_;rintro e K ⟨rfl,rfl⟩;go_wp2;have c:=qK (W:=(((aK K ⟨X,1,N⟩ (I J (aT .and .i64 (n/128) 31))).setCell ⟨X,2,N⟩ (I J (aT .and .i64 (n/32768) 31))).setCell ⟨X,3,N⟩ (I J (aT .and .i64 (n/1048576) 31)))) (fW (fW (fW GW.o (by omega) _ _) (by omega) _ _) (by omega) _ _) (fE (fE (fE C.o m _ _) m _ _) m _ _) (I J ((k:Z)+1)) (I J (aT .and .i64 (n/128) 31)) (I J (aT .and .i64 (n/32768) 31)) (I J (aT .and .i64 (n/1048576) 31)) (I J v) (.int .u8 82)
        have A:=(c.1).cell 0;have t:=(c.1).cell 1;have u:=(c.1).cell 2;have z:=(c.1).cell 3;have y:=(c.1).cell 4;have B:=(c.1).cell 5;refine bj (v:=aZ #[eT ((k:Z)+1) (aT .and .i64 (n/128) 31) (aT .and .i64 (n/32768) 31) (aT .and .i64 (n/1048576) 31) v 82,aJ T]) ?_ R ⟨rH.o _ _ _ _ _ R R R E.o R,c.2⟩;clear c x0 x1 x2 x3 x4 U y1 y2 y3 y4 z0 z1 z2 z3 z4 z5 t0 t1 t2 t3 t4 t5;simp[results,results57,go_sem,eT,A,t,u,z,y,B]
      ·rw[show qb 7=69 from R,show mT 7=12 from R];have U:aq w4 ⟨X,5,N⟩=S (.int .u8 69):=O.o.cell 5;rw[show mT 7=12 from R]at r;simp only[Int.reducePow]at r;have P:=ae (λW=>AX v 11 11 rfl W s (by omega) (by decide));by_cases l:v/2 ^ 11%2=1
       ·have d1:(v/2 ^ 11%2==1)=T:=dQ.2 l;have E:=ae ((TZ n v qQ.o s r).1 l);clear l;generalize v/2 ^ 11%2=sb at *;go_wp2_with fail;refine(P.o _).mono ?_;rintro e K ⟨rfl,rfl⟩;go_wp2
        go_region
        go_wp2;have c:=qK (W:=(aK K ⟨X,4,N⟩ (I J (v-4096)))) (fW GW.o (by omega) _ _) (fE C.o m _ _) (I J ((k:Z)+1)) (I J 0) (I J 0) (I J 0) (I J (v-4096)) (.int .u8 69);have A:=(aA.drew c.1).cell 0;have t:=(aA.drew c.1).cell 1;have u:=(aA.drew c.1).cell 2;have z:=(aA.drew c.1).cell 3;have y:=(aA.drew c.1).cell 4;have B:=(aA.drew c.1).cell 5;refine bj (v:=aZ #[eT ((k:Z)+1) 0 0 0 (v-4096) 69,aJ T]) ?_ R ⟨rH.o _ _ _ _ _ R R R E.o R,(yf c.2)⟩;clear c x0 x1 x2 x3 x4 U y1 y2 y3 y4 z0 z1 z2 z3 z4 z5 t0 t1 t2 t3 t4 t5
        generalize tG _=c at *;simp[results,results57,go_sem,eT,A,t,u,z,y,B]
       ·have d1:(v/2 ^ 11%2==1)=F:=df.2 l;have E:=ae ((TZ n v qQ.o s r).2 l);clear l;generalize v/2 ^ 11%2=sb at *;go_wp2_with fail;refine(P.o _).mono ?_;rintro e K ⟨rfl,rfl⟩;go_wp2;have c:=qK (W:=K) GW.o C.o (I J ((k:Z)+1)) (I J 0) (I J 0) (I J 0) (I J v) (.int .u8 69);have A:=(c.1).cell 0;have t:=(c.1).cell 1;have u:=(c.1).cell 2;have z:=(c.1).cell 3;have y:=(c.1).cell 4;have B:=(c.1).cell 5;refine bj (v:=aZ #[eT ((k:Z)+1) 0 0 0 v 69,aJ T]) ?_ R ⟨rH.o _ _ _ _ _ R R R E.o R,c.2⟩
        clear c x0 x1 x2 x3 x4 U y1 y2 y3 y4 z0 z1 z2 z3 z4 z5 t0 t1 t2 t3 t4 t5;simp[results,results57,go_sem,eT,A,t,u,z,y,B]
   ·have d:(aT .and .i64 n (ri f)==x)=F:=df.2 (λh=>hI (xq.o.2 h));have HI:=ae hI;clear hI;go_wp2
    go_quiet (fail)
    go_wp2
    go_roundw
    case rel=>exact⟨k+1,by omega,by go_num,λj l c=>(jY.1 c).elim (λh=>HA.o j l h) (λh=>by subst h;exact HI.o),ye V.o _⟩
    case measure=>simp[aN];omega
  ·have z0:=(Y.o.grown V.o (by simp)).cell 0;have z1:=(Y.o.grown V.o (by simp)).cell 1;have z2:=(Y.o.grown V.o (by simp)).cell 2;have z3:=(Y.o.grown V.o (by simp)).cell 3;have z4:=(Y.o.grown V.o (by simp)).cell 4;have z5:=(Y.o.grown V.o (by simp)).cell 5;have t0:=(Y.o.grown V.o (by simp)).free 0;have t1:=(Y.o.grown V.o (by simp)).free 1;have t2:=(Y.o.grown V.o (by simp)).free 2;have t3:=(Y.o.grown V.o (by simp)).free 3;have t4:=(Y.o.grown V.o (by simp)).free 4;have t5:=(Y.o.grown V.o (by simp)).free 5;go_wp2;have c:=qK (W:=wr) (ya G1.o V.o) (Y.o.grown V.o (by simp)) (I J 0) (I J 0) (I J 0) (I J 0) (I J 0) (.int .u8 0)
   have A:=c.1.cell 0;have t:=c.1.cell 1;have u:=c.1.cell 2;have z:=c.1.cell 3;have y:=c.1.cell 4;have B:=c.1.cell 5;have l:=I9 n (λj h1 h2=>HA.o j h1 (by omega));have m:aP n=0:=by unfold aP;rw[l];rfl
   refine bj (v:=aZ #[eT 0 0 0 0 0 0,aJ F]) ?_ R ⟨by unfold xt;rw[l,m];rfl,c.2⟩;clear c z0 z1 z2 z3 z4 z5 t0 t1 t2 t3 t4 t5;generalize aK _ _ _=c at *;simp[results,results57,go_sem,eT,A,t,u,z,y,B]
theorem acx(a n:Z)(e:1<=a/\a<=7)(c:0<=n)(d:n<=4294967295):dO a n=0↔ym a n:=by
 unfold dO ym mr nY nZ;rcases (show a=1\/a=2\/a=3\/a=4\/a=5\/a=6\/a=7 by omega)with rfl|rfl|rfl|rfl|rfl|rfl|rfl
 ·simp only[true_or,jk];omega
 ·simp only[Int.reduceEq,mw,jk,or_true];split<;>omega
 ·simp only[Int.reduceEq,mw,jk,or_self];split<;>omega
 ·simp only[Int.reduceEq,mw,jk,or_self,true_or];split<;>omega
 ·simp only[Int.reduceEq,mw,jk,or_self,or_true];split<;>omega
 ·simp
 ·simp
theorem ae3(P:M->Prop):∀k,P k->∃m,P m/\∀j,j<m->¬P j:=by
 intro k
 induction k using Nat.strongRecOn with
 |ind k e=>
  intro d;by_cases h:∃j,j<k/\P j
  ·obtain⟨j,a,c⟩:=h;exact e j a c
  ·exact⟨k,d,λj a c=>h ⟨j,a,c⟩⟩
theorem you(n:Z)(g:0<=n)(i:n<=4294967295):Ea n (cz n) (bF (aP n) n) (bR (aP n) n) (dO (aP n) n)/\cz n<26:=by
 by_cases h:∃k,1<=k/\k<=25/\Is k n
 ·obtain⟨k,l⟩:=h;obtain⟨m,⟨a,b,c⟩,p⟩:=ae3 (λk=>1<=k/\k<=25/\Is k n) k l;have d:∀j,1<=j->j<m->¬Is j n:=λj q g f=>p j g ⟨q,by omega,f⟩
  have e:=oJ n m a b c d;have f:aP n=je.getD m 0:=by unfold aP;rw[e]
  rw[f,e];exact⟨.inr ⟨m,a,b,c,d,R,R,R,acx _ n (Dm m a b) g i⟩,by omega⟩
 ·have d:∀j,1<=j->j<=25->¬Is j n:=λj q g f=>h ⟨j,q,g,f⟩
  have e:=I9 n d;have f:aP n=0:=by unfold aP;rw[e];rfl
  rw[f,e];exact⟨.inl ⟨R,R,R,R,d⟩,by omega⟩
theorem ahp:∀k,k<26->(qS (je.getD k 0)=66↔(5<=k/\k<=10)):=by decide
theorem KY(n:Z)(w:av)(a:0<=n)(c:n<=4294967295):
  Calls prog 57 #[I J n] w λe D=>aha e n/\az w D N:=by
 refine(DC n w a c).mono ?_;rintro e D ⟨rfl,g⟩;have d:=you n a c;have f:=ahp _ d.2;exact⟨⟨_,_,_,_,_,_,_,R,d.1,by simp,by unfold aP;rw[f];omega⟩,g⟩
theorem aeX(f:Z)(H:aR aY)(cap:M)(c:L Z)(w:av)(h:yq w H c)(hw:jm c)(hn:ah c<=3)(hn1:1<=ah c)(hk:1<=f/\f<=6)(h2:f=4\/f=5->ah c=2):
  Calls prog 135 #[I J f,ak H (ah c) cap] w λe D=>aX e (ey f c)/\az w D N:=by
 obtain⟨g,z,rfl,S⟩:=h (by omega);have r:=hw 0 (by omega);have hgd:c.getD 0 0=c[0]:=by rw[bQ,bW (by omega)];rfl
 have V:=S 0 (by omega);have cD:=ae (KY c[0] w r.1 r.2);have HI:=ae h;simp only[Nat.add_zero]at V;have g0:(0:Z)<(ah c:Z):=by omega
 rcases (show f=1\/f=2\/f=3\/f=6\/f=4\/f=5 from by omega)with rfl|rfl|rfl|rfl|rfl|rfl
 ·have B:=ae (show ey 1 c↔c[0]=0 from by simp only[ey,jk];rw[hgd]);generalize ey 1 c=Q at *;clear h2 hk h S hw;go_enter func135,ntmps135;go_wp2_with fail;refine cD.o.mono ?_;rintro e l ⟨⟨p,s,K,t1,m,fb,ok,rfl,u,d,v⟩,t⟩;have A:=yd V t;unfold eT;have y:=ae t;have P:=ae (oW c[0] p s K m r.1 r.2 u);have um:=ae d;have yE:=ae v;clear t V u d v;have E:=ae (λc:dN=>aG l c N);have hgl:g<l.heap.size:=ow l _ A;have C:=tH l ⟨g,z,N⟩ A;go_wp2;go_ret;exact⟨aX.of (by rw[B.o,dQ]),ya y.o (E.o _)⟩
 ·have B:=ae (show ey 2 c↔iE c[0]from by unfold ey;rw[ax (by decide),aD R,hgd]);generalize ey 2 c=Q at *;clear h2 hk h S hw;go_enter func135,ntmps135;go_wp2_with fail;refine cD.o.mono ?_;rintro e l ⟨⟨p,s,K,t1,m,fb,ok,rfl,u,d,v⟩,t⟩;have A:=yd V t;unfold eT;have y:=ae t;have P:=ae (oW c[0] p s K m r.1 r.2 u);have um:=ae d;have yE:=ae v;clear t V u d v;have E:=ae (λc:dN=>aG l c N);have hgl:g<l.heap.size:=ow l _ A;have C:=tH l ⟨g,z,N⟩ A
  cases ok
  ·go_wp2;go_ret;exact⟨aX.no (by rw[B.o,<- P.o.1];have:=um.o;simp at this;omega),ya y.o (E.o _)⟩
  ·by_cases t:fb=66
   ·have G:(fb==66)=T:=dQ.2 t;have O:=ae (yE.o.1 t);clear t;go_wp2;go_ret;exact⟨aX.of (by rw[B.o,<- P.o.1,dQ];have:=O.o;omega),ya y.o (E.o _)⟩
   ·have G:(fb==66)=F:=df.2 t;have O:=ae (λh=>t (yE.o.2 h));clear t;go_wp2;go_ret;exact⟨aX.no (by rw[B.o,<- P.o.1];exact λh=>O.o ⟨h.1,h.2.1⟩),ya y.o (E.o _)⟩
 ·have B:=ae (show ey 3 c↔iA c[0]from by unfold ey;rw[ax (by decide),ax (by decide),aD R,hgd]);generalize ey 3 c=Q at *;clear h2 hk h S hw;go_enter func135,ntmps135;go_wp2_with fail;refine cD.o.mono ?_;rintro e l ⟨⟨p,s,K,t1,m,fb,ok,rfl,u,d,v⟩,t⟩;have A:=yd V t;unfold eT;have y:=ae t;have P:=ae (oW c[0] p s K m r.1 r.2 u);have um:=ae d;have yE:=ae v;clear t V u d v;have E:=ae (λc:dN=>aG l c N);have hgl:g<l.heap.size:=ow l _ A;have C:=tH l ⟨g,z,N⟩ A
  cases ok
  ·go_wp2;go_ret;exact⟨aX.no (by rw[B.o,<- P.o.2.1];have:=um.o;simp at this;omega),ya y.o (E.o _)⟩
  ·by_cases t:p=3
   ·have G:(p==3)=T:=dQ.2 t;have O:=ae t;clear t;go_wp2;go_ret;exact⟨aX.of (by rw[B.o,<- P.o.2.1,dQ];have:=O.o;simp;omega),ya y.o (E.o _)⟩
   ·have G:(p==3)=F:=df.2 t;have O:=ae t;clear t;go_wp2;go_ret;exact⟨aX.no (by rw[B.o,<- P.o.2.1];have:=O.o;omega),ya y.o (E.o _)⟩
 ·have B:=ae (show ey 6 c↔zS c from by unfold ey;rw[ax (by decide),ax (by decide),ax (by decide),ax (by decide),aD R]);generalize ey 6 c=Q at *;clear h2 hk h S hw;go_enter func135,ntmps135;go_wp2_with fail;refine cD.o.mono ?_;rintro e l ⟨⟨p,s,K,t1,m,fb,ok,rfl,u,d,v⟩,t⟩;have A:=yd V t;unfold eT;have y:=ae t;have P:=ae (oW c[0] p s K m r.1 r.2 u);have um:=ae d;have yE:=ae v;clear t V u d v;have E:=ae (λc:dN=>aG l c N);have hgl:g<l.heap.size:=ow l _ A;have C:=tH l ⟨g,z,N⟩ A
  have X:=ae (λi (d:i<ah c)=>(show aq l ⟨g,z+i,N⟩=some (I J c[i])from by obtain⟨t,q,e,S⟩:=HI.o (by omega);cases e;exact yd (S i d) y.o));go_wp2
  go_loopw [7] (λi wr=>∃k:M,k<=ah c/\i=I J k/\(∀j (u:j<ah c),j<k->c[j]=19)/\az l wr N) (λi _=>ah c-(aN i).toNat)
  case atStart=>exact⟨0,bG _,R,λj _ u=>absurd u (ji j),E.o _⟩
  case round=>
   obtain⟨k,hk,rfl,d,q⟩:=hrel;have U:=ae d;have t:=ae q;clear d q;by_cases q:k<ah c
   ·have Y:=yd (X.o k q) t.o;have g1:(k:Z)<(ah c:Z):=by omega
    by_cases d:c[k]=19
    ·have G:(c[k]==19)=T:=dQ.2 d;have v:=ae d;clear d;go_wp2
     go_roundw
     case rel=>exact⟨k+1,by omega,by go_num,λj u x=>(jY.1 x).elim (λh=>U.o j u h) (λh=>by subst h;exact v.o),t.o⟩
     case measure=>simp[aN];omega
    ·have G:(c[k]==19)=F:=df.2 d;have v:=ae d;clear d;go_wp2;go_ret;exact⟨aX.no (by rw[B.o];exact λh=>v.o (h k q)),ya y.o t.o⟩
   ·go_wp2;go_ret;exact⟨aX.iV (by rw[B.o];exact λi d=>U.o i d (by omega)),ya y.o t.o⟩
 ·have G:=h2 (by omega);have q:1<ah c:=by omega
  have x:=hw 1 q;have hgd1:c.getD 1 0=c[1]'q:=by rw[bQ,bW q];rfl
  have B:=ae (show ey 4 c↔xv 4 c[0] c[1]from by unfold ey;rw[ax (by decide),ax (by decide),ax (by decide),aD (by decide),hgd,hgd1]);have U:=S 1 q;have yB:=ae (λW=>KY c[1] W x.1 x.2);have g1:(1:Z)<(ah c:Z):=by omega
  generalize ey 4 c=Q at *;clear h2 hk h S hw;go_enter func135,ntmps135;go_wp2_with fail;refine cD.o.mono ?_;rintro e l ⟨⟨p,s,K,t1,m,fb,ok,rfl,u,d,v⟩,t⟩;have A:=yd V t;unfold eT;have y:=ae t;have P:=ae (oW c[0] p s K m r.1 r.2 u);have um:=ae d;have yE:=ae v;clear t V u d v;have E:=ae (λc:dN=>aG l c N);have hgl:g<l.heap.size:=ow l _ A;have C:=tH l ⟨g,z,N⟩ A;have r1:=yd U y.o;have hnew1:=tH l ⟨g,z+1,N⟩ r1;clear U G;have d:=aA.new l #[I J p,I J s,I J K,I J t1,I J m,.int .u8 fb] 120
  have HB1:=ae d;clear d;go_wp2_with fail;refine(yB.o _).mono ?_;rintro e w2 ⟨⟨d,rR,X,t2,U,Y7,J2,rfl,hd2,t,I8⟩,G⟩;have Y:=HB1.o.grown G (by simp);have k0:=Y.cell 0;have k1:=Y.cell 1;have k4:=Y.cell 4;have hB2:=Y.lt;have hne2:l.heap.size≠w2.heap.size:=by omega
  unfold eT;have v:=ae (ya (ya y.o (E.o _)) G);have u:=ae (λc:dN=>aG w2 c N);have C8:=ae (GA 4 c[0] c[1] p s K m d rR X U P.o (oW c[1] d rR X U x.1 x.2 hd2));have IL:=ae t;clear hd2 t I8 G Y A r1;have A:Hd (∀W,(¬vV 4 p s m d X U)->az w W N->aX (aH (aJ F)) Q/\az w W N):=λW a b=>⟨aX.no (by rw[B.o,<- C8.o];exact a),b⟩
  cases ok
  ·have O:=ae (show p=0 from by have:=um.o;simp at this;omega);go_wp2;go_ret;exact A.o _ (λh=>by have:=h.2;have:=O.o;simp at *;omega) (ya v.o (u.o _))
  cases J2
  ·have O:=ae (show d=0 from by have:=IL.o;simp at this;omega);go_wp2;go_ret;exact A.o _ (λh=>by have:=h.2;have:=O.o;simp at *;omega) (ya v.o (u.o _))
  by_cases t:s=0
  ·have G:(s==0)=T:=dQ.2 t;have Y:=ae t;clear t;go_wp2;go_ret;exact A.o _ (λh=>h.1.1 Y.o) (ya v.o (u.o _))
  have G:(s==0)=F:=df.2 t;have Y:=ae t;clear t;by_cases t:X=s
  rotate_left
  ·have d2:(X==s)=F:=df.2 t;have A2:=ae t;clear t;go_wp2;go_ret;exact A.o _ (λh=>A2.o h.1.2.1) (ya v.o (u.o _))
  have d2:(X==s)=T:=dQ.2 t;have A2:=ae t;clear t;by_cases t:m=0
  rotate_left
  ·have d3:(m==0)=F:=df.2 t;have A3:=ae t;clear t;go_wp2;go_ret;exact A.o _ (λh=>A3.o h.1.2.2.1) (ya v.o (u.o _))
  have d3:(m==0)=T:=dQ.2 t;have A3:=ae t;clear t;by_cases t:U=0
  rotate_left
  ·have d4:(U==0)=F:=df.2 t;have A4:=ae t;clear t;go_wp2;go_ret;exact A.o _ (λh=>A4.o h.1.2.2.2) (ya v.o (u.o _))
  have d4:(U==0)=T:=dQ.2 t;have A4:=ae t;clear t;have zE:=ae (show Q↔p=2/\d=4 from by rw[B.o,<- C8.o];unfold vV;rw[aD R];exact⟨λh=>h.2,λh=>⟨⟨Y.o,A2.o,A3.o,A4.o⟩,h⟩⟩);by_cases t:p=2
  ·have d5:(p==2)=T:=dQ.2 t;have O:=ae t;clear t;go_wp2;go_ret;exact⟨aX.of (by rw[zE.o,dQ];have:=O.o;simp;omega),ya v.o (u.o _)⟩
  ·have d5:(p==2)=F:=df.2 t;have O:=ae t;clear t;go_wp2;go_ret;exact⟨aX.no (by rw[zE.o];exact λh=>O.o h.1),ya v.o (u.o _)⟩
 ·have G:=h2 (by omega);have q:1<ah c:=by omega
  have x:=hw 1 q;have hgd1:c.getD 1 0=c[1]'q:=by rw[bQ,bW q];rfl
  have B:=ae (show ey 5 c↔xv 5 c[0] c[1]from by unfold ey;rw[ax (by decide),ax (by decide),ax (by decide),aD (by decide),hgd,hgd1]);have U:=S 1 q;have yB:=ae (λW=>KY c[1] W x.1 x.2);have g1:(1:Z)<(ah c:Z):=by omega
  generalize ey 5 c=Q at *;clear h2 hk h S hw;go_enter func135,ntmps135;go_wp2_with fail;refine cD.o.mono ?_;rintro e l ⟨⟨p,s,K,t1,m,fb,ok,rfl,u,d,v⟩,t⟩;have A:=yd V t;unfold eT;have y:=ae t;have P:=ae (oW c[0] p s K m r.1 r.2 u);have um:=ae d;have yE:=ae v;clear t V u d v;have E:=ae (λc:dN=>aG l c N);have hgl:g<l.heap.size:=ow l _ A;have C:=tH l ⟨g,z,N⟩ A;have r1:=yd U y.o;have hnew1:=tH l ⟨g,z+1,N⟩ r1;clear U G;have d:=aA.new l #[I J p,I J s,I J K,I J t1,I J m,.int .u8 fb] 120
  have HB1:=ae d;clear d;go_wp2_with fail;refine(yB.o _).mono ?_;rintro e w2 ⟨⟨d,rR,X,t2,U,Y7,J2,rfl,hd2,t,I8⟩,G⟩;have Y:=HB1.o.grown G (by simp);have k0:=Y.cell 0;have k1:=Y.cell 1;have k4:=Y.cell 4;have hB2:=Y.lt;have hne2:l.heap.size≠w2.heap.size:=by omega
  unfold eT;have v:=ae (ya (ya y.o (E.o _)) G);have u:=ae (λc:dN=>aG w2 c N);have C8:=ae (GA 5 c[0] c[1] p s K m d rR X U P.o (oW c[1] d rR X U x.1 x.2 hd2));have IL:=ae t;clear hd2 t I8 G Y A r1;have A:Hd (∀W,(¬vV 5 p s m d X U)->az w W N->aX (aH (aJ F)) Q/\az w W N):=λW a b=>⟨aX.no (by rw[B.o,<- C8.o];exact a),b⟩
  cases ok
  ·have O:=ae (show p=0 from by have:=um.o;simp at this;omega);go_wp2;go_ret;exact A.o _ (λh=>by have:=h.2;have:=O.o;simp at *;omega) (ya v.o (u.o _))
  cases J2
  ·have O:=ae (show d=0 from by have:=IL.o;simp at this;omega);go_wp2;go_ret;exact A.o _ (λh=>by have:=h.2;have:=O.o;simp at *;omega) (ya v.o (u.o _))
  by_cases t:s=0
  ·have G:(s==0)=T:=dQ.2 t;have Y:=ae t;clear t;go_wp2;go_ret;exact A.o _ (λh=>h.1.1 Y.o) (ya v.o (u.o _))
  have G:(s==0)=F:=df.2 t;have Y:=ae t;clear t;by_cases t:X=s
  rotate_left
  ·have d2:(X==s)=F:=df.2 t;have A2:=ae t;clear t;go_wp2;go_ret;exact A.o _ (λh=>A2.o h.1.2.1) (ya v.o (u.o _))
  have d2:(X==s)=T:=dQ.2 t;have A2:=ae t;clear t;by_cases t:m=0
  rotate_left
  ·have d3:(m==0)=F:=df.2 t;have A3:=ae t;clear t;go_wp2;go_ret;exact A.o _ (λh=>A3.o h.1.2.2.1) (ya v.o (u.o _))
  have d3:(m==0)=T:=dQ.2 t;have A3:=ae t;clear t;by_cases t:U=0
  rotate_left
  ·have d4:(U==0)=F:=df.2 t;have A4:=ae t;clear t;go_wp2;go_ret;exact A.o _ (λh=>A4.o h.1.2.2.2) (ya v.o (u.o _))
  have d4:(U==0)=T:=dQ.2 t;have A4:=ae t;clear t;have zE:=ae (show Q↔p=1/\(d=13\/d=11\/d=12)from by rw[B.o,<- C8.o];unfold vV;rw[ax (by decide)];exact⟨λh=>h.2,λh=>⟨⟨Y.o,A2.o,A3.o,A4.o⟩,h⟩⟩);by_cases t:p=1
  rotate_left
  ·have d5:(p==1)=F:=df.2 t;have O:=ae t;clear t;go_wp2;go_ret;exact⟨aX.no (by rw[zE.o];exact λh=>O.o h.1),ya v.o (u.o _)⟩
  have d5:(p==1)=T:=dQ.2 t;have O:=ae t;clear t;by_cases t:d=13
  ·have d6:(d==13)=T:=dQ.2 t;have O2:=ae t;clear t;go_wp2;go_ret;exact⟨aX.iV (by rw[zE.o];exact⟨O.o,.inl O2.o⟩),ya v.o (u.o _)⟩
  have d6:(d==13)=F:=df.2 t;have O2:=ae t;clear t;by_cases t:d=11
  ·have d7:(d==11)=T:=dQ.2 t;have O3:=ae t;clear t;go_wp2;go_ret;exact⟨aX.iV (by rw[zE.o];exact⟨O.o,.inr (.inl O3.o)⟩),ya v.o (u.o _)⟩
  have d7:(d==11)=F:=df.2 t;have O3:=ae t;clear t;go_wp2;go_ret;exact⟨aX.of (by rw[zE.o,dQ];have:=O.o;have:=O2.o;have:=O3.o;omega),ya v.o (u.o _)⟩
def D5(o:aF)(k:M)(h:k<ah o.ay):Prop:=pq o o.ay[k]/\(∀_:0<k,nI (o.ay[k-1]'(by omega)) o.ay[k])
theorem qY.sec{B:M}{a:aR aY}{g:M}{d:aR aY}{f:M}{c:aR aY}{e:M}{Z:M}(h:qY W B o a g d f c e Z)(n:M)(i:n<=2):
  ∃H cap,aq W ⟨B,n+1,N⟩=S (ak H (yp o ((n:Int)+1)).length cap)/\(yp o ((n:Int)+1)).length<=cap/\cap<=cu/\yq W H (yp o ((n:Int)+1)):=by
 rcases (show n=0\/n=1\/n=2 from by omega)with rfl|rfl|rfl
 ·exact⟨_,_,h.aO.cell 1,h.ct.1,h.ct.2,h.text⟩
 ·exact⟨_,_,h.aO.cell 2,h.cf.1,h.cf.2,h.bw⟩
 ·exact⟨_,_,h.aO.cell 3,h.cd.1,h.cd.2,h.data⟩
def LC(rs:L cg)(au:Z)(w:M)(k j:Z):Prop :=
 (cB au (4*(w:Z)) 0 rs=(0,⟨0,0,0,0,0⟩)/\k = -1/\j=0) \/
 ∃i,∃h:i<ah rs,cB au (4*(w:Z)) 0 rs=((i:Z),rs[i])/\k=i/\rs[i].au=au/\rs[i].off+4*j=4*(w:Z)/\0<=j/\j<yy rs[i]
theorem yl.rel(h:yl o)(i:M)(a:i<ah o.ay):pq o o.ay[i]:=(h.2.2.2.2 i a).1
theorem QL{P:Program}{k:Array Oper}{rest:L Oper}{o:Oper}{a:Act}{Q:Exit->Act->av->Prop}(f:o.guard=none)(s x:Operand)(t:dm)
  (z:o.op = .call {callee:=.builtin .append,args:=#[s,x],argTypes:=#[t,t]})
  (base:M) (i:TypeInfo) (B:P.underlying t=S (.slice 77)) (y:P.info? 77=S i) (F:i.zero=S (.agg #[I J 0,I J 0]))
  (e:i.size=2) (m:i.bytes=16)
  (v:aC) (n:M) (l:L aC) (A:a.eval s=v) (c:aV w base 77 2 v n l)
  (E:aC) (G:M) (ys:L (M×M)) (C:a.eval x=E) (p:aV w G 77 2 E (ah ys) (ys.flatMap mP))
  (X:n+ah ys<=65535) (d:base<=w.heap.size)
  (h:∀c D,aV D base 77 2 c (n+ah ys) (l++ys.flatMap mP)->az w D v.ownBlock->(c.ownBlock=v.ownBlock\/c.ownBlock=S w.heap.size)->wpList P k Q rest (a.put o.dst c) D):wpList P k Q (o::rest) a w:=by
 rcases p.2 with ⟨rfl,V⟩|⟨g,cap,O,rfl,hb,hg,N,q,T,Z⟩
 ·obtain rfl:ys=[]:=List.length_eq_zero_iff.1 V;refine wpList_plain f λK Y=>?_
  have j:=run_append_owned_none (P:=P) (w:=w) base t o.type 77 i 2 B y v n l c;have U:=h v w (by simpa using c) ⟨R,R,R,bz _,λ_ _ _=>rfl⟩ (.inl R);unfold Oper.wp;simp[execOp,z,resolve,invoke,builtin,A,C,j,Result.andThen];exact Y _ _ U
 ·refine wpList_append_own_at _ f s x t z base 77 i (.agg #[I J 0,I J 0]) 2 16 B y F e m R (by decide) v n l A c ⟨g,0,none⟩ (ah ys) cap (ys.flatMap mP) C p.1 (p.cells (g:=g) R) ?_ (by unfold cu;omega) (by omega) d (λc D d e _ q=>h c D d e q);intro u U;obtain⟨r,_,j⟩:=List.mem_flatMap.1 U;simp[mP]at j;rcases j with rfl|rfl<;>rfl
theorem lZ{e:dm}{a:M}{v:aC}{c:L aC}(h:aV w base e a v n c)(d:az w D N):aV D base e a v n c:=by
 refine h.kept d ?_
 cases v.ownBlock with
 |none=>exact .inl R
 |some k=>exact .inr (by simp)
theorem SE{a:aR aY}{p:M×M}{C:L (M×M)}(h:aV w base 77 2 (ak a n cap) n ((p::C).flatMap mP))(s:0<n):
  ∃g,a=S ⟨g,0,N⟩/\base<=g/\aq w ⟨g,0,N⟩=S (I J p.1)/\aq w ⟨g,1,N⟩=S (I J p.2):=by
 rcases h.2 with ⟨e,i⟩|⟨g,d,f,e,q,r,j,k,l,m⟩
 ·omega
 ·obtain⟨rfl,rfl⟩:a=S ⟨g,0,N⟩/\cap=d:=by cases e;exact⟨R,R⟩
  have c:=h.cells (g:=g) R;refine⟨g,R,?_,c 0 _ R,c 1 _ R⟩;exact(h.lt g R).1
def vh(os:L aF)(n:L aL):L (M×M):=jG os n 1++jG os n 2
def fu(os:L aF)(i k:M):dz:=((os[i]?.map (·.aE)).getD []).getD k ⟨[],0,0,0⟩
def dL(os:L aF)(i k:M):aR (M×M):=if (fu os i k).bind=0 then S (i,k)else (vh os (fu os i k).name).head?
def nN:L aL:=[95,115,116,97,114,116]
def jP(os:L aF):aR (M×M):=match (vh os nN).head? with
 |none=>N
 |some (i,k)=>if (fu os i k).au≠1/\(fu os i k).au≠2 then N else S (i,k)
def kQ(r:aR (M×M)):aC:=match r with
 |none=>.agg #[I J (-1),I J 0]
 |some (i,k)=>.agg #[I J i,I J k]
theorem vP{os:L aF}{i k:M}(a:i<ah os)(c:k<os[i].aE.length):fu os i k=os[i].aE[k]:=by
 unfold fu;rw[bW a,Option.map_some,rI,bQ,bW c,rI]
theorem Gx{a:L M}{os:L aF}(h:oq w H a os)(n:L aL)(b:Z):(jG os n b).length<=768:=by
 have:=MO n b os 0 λo a=>(h.val o a).sX
 have:=h.few
 unfold jG;omega
theorem zj{V:av}(h:az w V N)(r:M)(c:w.heap.size<=r)(a b:aC):az w ((aK V ⟨r,0,N⟩ a).setCell ⟨r,1,N⟩ b) N :=
 eh (eh h (bK V r 0 a) (by intro k e;simp at e;omega)) (bK _ r 1 b) (by intro k e;simp at e;omega)
theorem Rw(H:aR aY)(cap:M)(l:L M)(os:L aF)(i k:M)(w:av)(h:oq w H l os)(U:i<ah os)(hk:k<os[i].aE.length):
  Calls prog 23 #[ak H (ah l) cap,I J i,I J k] w λe D=>e=aH (kQ (dL os i k))/\az w D N:=by
 obtain⟨i2,T,hx0,hx1,hx2⟩:=fG Tryz.L8;have z:i<ah l:=by rw[h.len];exact U
 have hgl:ah l<=48:=by rw[h.len];exact h.few
 obtain⟨g0,G,Y,f⟩:=h.kD (by omega);subst Y;have xZ:=ae (f i z);obtain⟨at_,ct,af,cf,ad,cd,Db,C6,gP,cs,ar,cr,a,-,-,-,-,g,-⟩:=(h.obj i z U).open;have d:=ae (gH.dh g);have HB:=ae a;have hns:=(h.val os[i] (bN U)).sX;have c:=vP U hk;have c1:=ae (λa W (c:az w W N)=>Gw (S ⟨g0,G,N⟩) cap l os a 1 W (h.kept c));have c2:=ae (λa W (c:az w W N)=>Gw (S ⟨g0,G,N⟩) cap l os a 2 W (h.kept c));have L1:=ae (λa=>Gx h a 1);have L2:=ae (λa=>Gx h a 2);have Q:=ae (show dL os i k=if (fu os i k).bind=0 then S (i,k)else (jG os (fu os i k).name 1++jG os (fu os i k).name 2).head? from R)
 rw[c]at Q;clear f a g h c;generalize dL os i k=c at *;have a:=ae (aG w (.cells #[I J 0,I J 0] 77) N);have m:=ae (aA.new w #[I J 0,I J 0] 77);have g:(w.alloc (.cells #[I J 0,I J 0] 77)).heap.size=w.heap.size+1:=Array.size_push _;have s:=yd xZ.o a.o;have q:=(HB.o.grown a.o (by simp)).cell 5;simp only[bI,bB,bL]at q;obtain⟨sg,hsg,hgs,f⟩:=d.o.grown a.o (by omega);subst hsg;obtain⟨u,x,K,O⟩:=f k hk;clear f;have g1:(i:Z)<(ah l:Z):=by omega
 have g2:(k:Z)<(os[i].aE.length:Z):=by omega
 generalize os[i].aE[k]=y at *;generalize os[i].aE=ys at *;generalize l[i]=bk at *;go_enter func23,ntmps23;have t:=ae (aA.new (w.alloc (.cells #[I J 0,I J 0] 77)) #[aB (bs y.name),I J y.bind,I J y.au,I J y.off] 107);have P:=ae (ya a.o (aG _ (.cells #[aB (bs y.name),I J y.bind,I J y.au,I J y.off] 107) N));have j:=ae (m.o.grown (aG _ (.cells #[aB (bs y.name),I J y.bind,I J y.au,I J y.off] 107) N) (by simp));rw[g]at t;clear g
 go_upto_region 2 with fail
 generalize (w.alloc (.cells #[I J 0,I J 0] 77)).alloc (.cells #[aB (bs y.name),I J y.bind,I J y.au,I J y.off] 107)=r at *;clear a m s q u x K O;have hX0:w.heap.size<w.heap.size+1:=by omega
 generalize w.heap.size+1=X at *;have V:aq r ⟨X,0,N⟩=S (aB (bs y.name)):=t.o.cell 0;have x1:aq r ⟨X,1,N⟩=S (I J y.bind):=t.o.cell 1;have K:aq r ⟨w.heap.size,0,N⟩=S (I J 0):=j.o.cell 0;have O:aq r ⟨w.heap.size,1,N⟩=S (I J 0):=j.o.cell 1;have u:=j.o.free 0;have x:=j.o.free 1;have hRl:=j.o.lt;by_cases g:y.bind=0
 ·have d0:(y.bind==0)=true:=by simpa using g
  have E:=ae (show c=S (i,k) by rw[Q.o,aD g]);clear g;go_wp2;have a:=(j.o.set 0 (I J i)).set 1 (I J k);have m:=a.cell 0;have q:=a.cell 1;simp only[dt,dB,dC,bI,bB,bL]at m q;refine bj (v:=kQ (S (i,k))) ?_ R ⟨by rw[E.o],zj P.o _ (bz _) _ _⟩;clear a K O u x V x1;generalize aK _ _ _=a at *;simp[results,results23,go_sem,kQ,m,q]
 ·have d0:(y.bind==0)=F:=by simpa using g
  have E:=ae (show c=(jG os y.name 1++jG os y.name 2).head? by rw[Q.o,ax g]);have m:=ae (c1.o y.name);have q:=ae (c2.o y.name);have l1:=L1.o y.name;have l2:=L2.o y.name;clear g Q c1 c2 L1 L2;generalize jG os y.name 1=A at *;generalize jG os y.name 2=B at *;go_wp2_with fail;refine(m.o _ P.o).mono ?_;rintro e W2 ⟨v1,rfl,f,a⟩;obtain⟨a1,Y0,rfl⟩:=yi f;have G2:=ae (ya P.o a);have Pa:=ae (t.o.grown a (by simp));have wI:=ae (j.o.grown a (by simp));have s:=ae f;have hw1:=a.size;clear f a V x1 K O u x m;have V:aq W2 ⟨X,0,N⟩=S (aB (bs y.name)):=Pa.o.cell 0
  go_wp2_with fail;refine(q.o _ G2.o).mono ?_;rintro e W3 ⟨v2,rfl,f,a⟩;obtain⟨a2,cp2,rfl⟩:=yi f;have G3:=ae (ya G2.o a);have zI:=ae (wI.o.grown a (by simp));have m:=ae (lZ s.o a);have O2:=ae f;have hw2:=a.size;clear f a V q t Pa j wI s;have hX:=P.o.size
  go_upto_region 7 with (at_builtin;refine QL R _ _ 116 rfl r.heap.size i2 underlying116 T hx0 hx1 hx2 _ _ _ R m.o _ W2.heap.size B R O2.o (by omega) (by omega) ?_;intro v3 w4 f a q;obtain⟨a3,JN,rfl⟩:=yi f;have G4:=ae (eh G3.o a (λb a=>fV hX (m.o.lt b a).1));have s:=ae (zI.o.grown a (λa=>by have:=(m.o.lt _ a.symm).1;omega));have O3:=ae f;clear f a q)
  have a:=ae (show (A++B).length=ah A+ah B/\(A++B).flatMap mP=A.flatMap mP++B.flatMap mP from ⟨by simp,by simp⟩);have tQ:=ae (show aV w4 r.heap.size 77 2 (ak a3 (ah A+ah B) JN) (ah A+ah B) ((A++B).flatMap mP) by rw[a.o.2];exact O3.o);have f:=a.o.1;clear O3 a m O2;generalize A++B=C at *;have K:aq w4 ⟨w.heap.size,0,N⟩=S (I J 0):=s.o.cell 0;have O:aq w4 ⟨w.heap.size,1,N⟩=S (I J 0):=s.o.cell 1;have u:=s.o.free 0;have x:=s.o.free 1
  cases C with
  |nil=>
   have g3:((ah A:Z)+(ah B:Z)==0)=true:=by simp only[List.length_nil]at f;simp;omega
   clear f;go_wp2;have a:=(s.o.set 0 (I J (-1))).set 1 (I J 0);have m:=a.cell 0;have q:=a.cell 1;simp only[dt,dB,dC,bI,bB,bL]at m q;refine bj (v:=kQ N) ?_ R ⟨by rw[E.o];rfl,zj G4.o _ (bz _) _ _⟩;clear a K O u x;generalize aK _ _ _=a at *;simp[results,results23,go_sem,kQ,m,q]
  |cons p C=>
   have g3:((ah A:Z)+(ah B:Z)==0)=F:=by simp only[dA]at f;simp;omega
   have g4:(0:Z)<(ah A:Z)+(ah B:Z):=by simp only[dA]at f;omega
   obtain⟨gr,rfl,hgr,r0,r1⟩:=SE tQ.o (by simp only[dA]at f;omega);clear f;go_wp2;have a:=(s.o.set 0 (I J p.1)).set 1 (I J p.2);have m:=a.cell 0;have q:=a.cell 1;simp only[dt,dB,dC,bI,bB,bL]at m q;refine bj (v:=kQ (S p)) ?_ R ⟨by rw[E.o];rfl,zj G4.o _ (bz _) _ _⟩;clear a K O u x r0 r1;generalize aK _ _ _=a at *;simp[results,results23,go_sem,kQ,m,q]
def uD(k:Z):Z:=if k=1\/k=5 then -2048 else if k=6 then 4 else 0
def yet(k:Z):Z:=if k=1\/k=5 then 2047 else if k=6 then 12 else 0
theorem ab3(r:cg):fX r↔uD r.kind<=r.bh/\r.bh<=yet r.kind/\¬(r.kind=6/\r.bh=8)/\¬(r.kind=6/\r.bh%4≠0):=by
 unfold fX uD yet;by_cases c:r.kind=1\/r.kind=5
 ·rw[aD c,aD c,aD c];omega
 ·rw[ax c,ax c,ax c];by_cases d:r.kind=6
  ·rw[aD d,aD d,aD d];omega
  ·rw[ax d,ax d,ax d];omega
theorem DN{X:M}{a c d e f:aC}{t:dm}(h:aA W X #[a,c,d,e,f] t):aq W ⟨X,0,N⟩=S a/\aq W ⟨X,1,N⟩=S c/\aq W ⟨X,2,N⟩=S d/\aq W ⟨X,3,N⟩=S e/\aq W ⟨X,4,N⟩=S f:=⟨h.cell 0,h.cell 1,h.cell 2,h.cell 3,h.cell 4⟩
theorem abq(k:M)(g B:M)(o:aF)(at_:aR aY)(ct:M)(af:aR aY)(cf:M)(ad:aR aY)(cd:M)(f:M)(w:av)(h:yr w g o)(hs:qY w B o at_ ct af cf ad cd f)(hn:mD o)(hb4:pj o.align)(hw:rh o)(Y:∀r∈o.ay,r.off<=9223372036854775807)(hk:k<ah o.ay)(Qx:∀j (E:j<ah o.ay),j+1=k->pq o (o.ay[j]'E)):
  Calls prog 93 #[aM (some ⟨g,0,N⟩),ak (some ⟨B,0,N⟩) 5 5,I J (k:Z)] w λe D=>aX e (D5 o k hk)/\az w D N:=by
 obtain⟨_,_,_,_,_,_,aa,ca,gP,cs,ar,cr,t,-,-,-,G,V,X⟩:=h.open;have hnr:=hn.2.2.2.2.2;have hns:=hn.2.2.2.2.1;obtain⟨rg,hao,hgs,U⟩:=pi.dh X (by omega);subst hao;obtain⟨q0,q1,q2,q3,q4⟩:=U k hk;have C:=t.cell 6;have S:=ae (gH.dh V);have ain:=hb4.1;obtain⟨ga,YG,J6,A⟩:=yq.dh G (by omega);subst J6;have PL:=ae A;have yD:=ae hb4;have Io:=kF G;have HB:=ae t;have HS:=ae hs;have HW:=ae hw;have hsm:=ae (λx=>sd hn x);have f3:=Y _ (bN hk);have g1:(k:Z)<(ah o.ay:Z):=by omega
 obtain⟨wV,hF⟩:∃P:Prop,P↔(∀_:0<k,nI (o.ay[k-1]'(by omega)) o.ay[k]):=⟨_,Iff.rfl⟩
 have HP:=ae (λ(j:M) (E:j<ah o.ay) (e:j+1=k)=>show (∃ps E pk py pa y,(0<=E/\E<=1048576)/\(1<=y/\y<=3)/\(aq w ⟨rg,j*5,N⟩=some (I J ps)/\aq w ⟨rg,j*5+1,N⟩=some (I J E)/\aq w ⟨rg,j*5+2,N⟩=some (I J pk)/\aq w ⟨rg,j*5+3,N⟩=some (I J py)/\aq w ⟨rg,j*5+4,N⟩=some (I J pa)) /\
   (∀W,Calls prog 56 #[.agg #[I J ps,I J E,I J pk,I J py,I J pa]] W λe D=>e=aH (I J y)/\az W D N) /\
   (wV↔if o.ay[k].au=ps then E+4*y<=o.ay[k].off else ps<o.ay[k].au)) by
  subst e;have hp:=Qx j E R;have l:=hp.2.2.2.2.1;have s:=sd hn (o.ay[j]'E).au;have p:=yW hp.2.1;unfold pY at l;exact⟨_,_,_,_,_,yy o.ay[j],⟨by omega,by omega⟩,p,U j E,λW=>KT o.ay[j] W hp.2.1.six,hF.trans ⟨λh=>h (by omega),λh _=>h⟩⟩)
 have O:=ae (show D5 o k hk↔pq o o.ay[k]/\wV from and_congr Iff.rfl hF.symm);have PP:=ae (λ(e:k=0)=>show wV from hF.2 λh=>by omega);clear hF;generalize D5 o k hk=Q at *;generalize o.ay[k]=r at *;have Vw:=ae (λ(a:fX r) (b:pY o r) (c:jm (yp o r.au))=>Dj a b c);have cC:=ae (λW (a:fX r)=>KT r W a.six);have Ou:=ae (λ(a:fX r)=>yW a);have Ij:=ae (show pY o r↔0<=r.off/\r.off%4=0/\r.off/4+yy r<=(yp o r.au).length from Iff.rfl);have Es:=ae (show about o r=((yp o r.au).drop (r.off/4).toNat).take (yy r).toNat from R);have PF:=ae (show vK o r↔∃i,∃h:i<ah o.aE,o.aE[i].au=r.au/\r.off<o.aE[i].off/\o.aE[i].off<r.off+4*yy r from Iff.rfl)
 have Py:=ae (show pu o r↔if r.kind=6 then r.sym=0 else 0<=r.sym/\r.sym<(ah o.aE)from Iff.rfl);have CW:=ae (show vS o r↔(r.kind=6->r.bh+4<=lX (o.align.getD (r.au.toNat-1) 0))from Iff.rfl);have P5:=ae (show lz r↔((r.au=1\/r.au=2)/\1<=r.kind/\r.kind<=6)\/(r.au=3/\r.kind=1)from Iff.rfl);have JH:=ae (ab3 r);have Qb:=ae (λ(a:fX r) (h:r.kind=6)=>a.six h);have ve:=ae (show pq o r↔lz r/\fX r/\pu o r/\vS o r/\pY o r/\ey r.kind (about o r)/\¬vK o r from Iff.rfl);have VC:=ae (show r.kind=4\/r.kind=5->yy r=2 from λh=>aD h);generalize pq o r=Oi at *;generalize pu o r=tR at *;generalize vS o r=xX at *
 generalize lz r=gC at *;generalize fX r=wP at *;generalize pY o r=zQ at *;generalize vK o r=O9 at *;generalize about o r=ab at *;generalize yy r=y at *;unfold eU at cC;obtain⟨x,s,l,u,p⟩:=r;simp only at *;have no:Hd (∀W,(¬Q)->az w W N->aX (aH (aJ F)) Q/\az w W N):=λW a b=>⟨aX.no a,b⟩
 have E:=ae (aA.new w #[I J x,I J s,I J l,I J u,I J p] 75);have G0:=ae (aG w (.cells #[I J x,I J s,I J l,I J u,I J p] 75) N);clear h hs hn G V X t hb4 hw Y A U Qx;go_enter func93,ntmps93;by_cases hp:(1<=x/\x<=3)/\(1<=l/\l<=6)/\0<=s/\s%4=0
 rotate_left
 ·have A:=ae (show ¬Q from λV=>hp (by
   have a:=ve.o.1 (O.o.1 V).1;have b:=P5.o.1 a.1;have c:=Ij.o.1 a.2.2.2.2.1;omega))
  rcases (show decide (x<1)=T\/(decide (x<1)=F/\(decide (3<x)=T\/(decide (3<x)=F/\(decide (l<1)=T\/(decide (l<1)=F/\(decide (6<l)=T\/(decide (6<l)=F/\(decide (s<0)=T\/(0<=s/\decide (s<0)=F/\(s%4==0)=F))))))))) by
   simp only[wH,uX,df];omega)with d|⟨d0,d|⟨d1,d|⟨d2,d|⟨d3,d|⟨t,d4,d⟩⟩⟩⟩⟩
  all_goals
   clear hp;go_wp2;go_ret;exact no.o _ A.o G0.o
 obtain⟨⟨p1,p2⟩,⟨p3,p4⟩,p5,t⟩:=hp;have d0:decide (x<1)=F:=gF (by omega);have d1:decide (3<x)=F:=gF (by omega);have d2:decide (l<1)=F:=gF (by omega);have d3:decide (6<l)=F:=gF (by omega);have d4:decide (s<0)=F:=gF (by omega);have d5:(s%4==0)=T:=dQ.2 t;have C5:=ae t;clear t
 go_upto_block 0 with fail
 go_cut [8,9]from 51 to 57 (λa b f=>a=I J (uD l)/\b=I J (yet l)/\f=w.alloc (.cells #[I J x,I J s,I J l,I J u,I J p] 75))
 case first=>
  rcases (show ((l==1)=T/\uD l = -2048/\yet l=2047)\/((l==1)=F/\(((l==5)=T/\uD l = -2048/\yet l=2047)\/((l==5)=F/\(((l==6)=T/\uD l=4/\yet l=12)\/((l==6)=F/\uD l=0/\yet l=0))))) by
   unfold uD yet;simp only[dQ,df];split
   ·omega
   ·split<;>omega)with ⟨U,t,A⟩|⟨U,⟨V,t,A⟩|⟨V,⟨X,t,A⟩|⟨X,t,A⟩⟩⟩
  all_goals
   go_wp2_with fail;go_meet;exact⟨by rw[t],by rw[A],R⟩
 case rest=>
 obtain⟨rfl,rfl,rfl⟩:=hcut;have t:l=6->uD l=4:=λe=>by subst e;rfl
 generalize uD l=lo at *;generalize yet l=hi at *;have Nb:=ae t;clear t
 go_upto_region 14 with fail
 go_cut [88]from 58 to 88 (λc f=>∃b,c=aJ b/\(b=T↔¬wP)/\f=w.alloc (.cells #[I J x,I J s,I J l,I J u,I J p] 75))
 case first=>
  rcases (show (decide (p<lo)=T/\Hd (¬wP))\/(decide (p<lo)=F/\((decide (hi<p)=T/\Hd (¬wP))\/(decide (hi<p)=F/\(((l==6)=F/\Hd wP)\/((l==6)=T/\0<=p/\(((p==8)=T/\Hd (¬wP))\/((p==8)=F/\(((p%4==0)=F/\Hd (¬wP))\/((p%4==0)=T/\Hd wP))))))))) by
   have a:=JH.o;have b:=Nb.o;unfold Hd;rw[a];simp only[dQ,df,wH,uX];omega)with ⟨U,t⟩|⟨U,⟨V,t⟩|⟨V,⟨X,t⟩|⟨X,G,⟨uW,t⟩|⟨uW,⟨A,t⟩|⟨A,t⟩⟩⟩⟩⟩
  all_goals
   go_wp2_with fail;go_meet;exact⟨_,R,by first|exact⟨λ_=>t.o,λ_=>rfl⟩|exact⟨λ_=>t.o,λ_=>by simpa using A⟩|exact⟨λh=>absurd h (by simp;simpa using A),λh=>absurd t.o h⟩|exact⟨λh=>by simp at h,λh=>absurd t.o h⟩,R⟩
 case rest=>
 obtain⟨b,rfl,t,rfl⟩:=hcut
 cases b
 rotate_left
 ·have A:=ae (t.1 rfl);clear t;go_wp2;go_ret;exact no.o _ (λh=>A.o (ve.o.1 (O.o.1 h).1).2.1) G0.o
 have HA:=ae (show wP from zZ λh=>by have:=t.2 h;simp at this);have hsp:=Ou.o HA.o;have A:=ae (λW=>cC.o W HA.o);obtain⟨n,hsn⟩:∃n:M,x=(n:Z)+1:=⟨(x-1).toNat,by omega⟩
 have hn2:n<=2:=by omega
 subst hsn;obtain⟨ZD,zP,U,s2,s3,V⟩:=HS.o.sec n hn2;unfold cu at s3;have s5:=hsm.o ((n:Z)+1);have Yv:=ae V;have S1:=ae U;have VL:=ae (KQ HW.o ((n:Z)+1));generalize yp o ((n:Z)+1)=G at *;clear t V U Nb cC Ou JH
 go_upto_region 17 with (go_at_call 56;refine(A.o _).mono ?_;rintro e w2 ⟨rfl,hq2⟩)
 have iu:=ae (E.o.grown hq2 (by simp));have G2:=ae (ya G0.o hq2);clear hq2 q0 q1 q2 q3 q4 C A E G0;have C:=yd S1.o G2.o;obtain⟨c0,c1,c2,c3,c4⟩:=DN iu.o
 go_cut [112]from 91 to 112 (λc f=>∃b,c=aJ b/\(b=T↔¬(zQ/\gC))/\az w2 f N)
 case first=>
  rcases (show (decide ((ah G:Z)<s/4+y)=T/\Hd (¬(zQ/\gC)))\/(decide ((ah G:Z)<s/4+y)=F/\(((((n:Z)+1==3)=F/\Hd (zQ/\gC))\/(((n:Z)+1==3)=T/\(((l==1)=F/\(l != 1)=T/\Hd (¬(zQ/\gC)))\/((l==1)=T/\(l != 1)=F/\Hd (zQ/\gC))))))) by
   have a:=Ij.o;have b:=P5.o;have c:=C5.o;unfold Hd;rw[a,b];simp only[bne_iff_ne,bne_eq_false_iff_eq,dQ,df,wH,uX,ne_eq];omega)with ⟨U,t⟩|⟨U,⟨V,t⟩|⟨V,⟨X,uW,t⟩|⟨X,uW,t⟩⟩⟩
  all_goals
   go_wp2
   go_quiet (fail)
   go_wp2;go_meet;exact⟨_,R,by first|exact⟨λ_=>t.o,λ_=>rfl⟩|exact⟨λh=>by simp at h,λh=>absurd t.o h⟩,ye (aW _ N) nq⟩
 case rest=>
 obtain⟨b,rfl,t,A⟩:=hcut;have G3:=ae (ya G2.o A);have zI:=ae (iu.o.grown A (by simp));clear C c0 c1 c2 c3 c4 G2 iu A;generalize wc=w3 at *
 cases b
 rotate_left
 ·have A:=ae (t.1 rfl);clear t;go_wp2;go_ret;exact no.o _ (λh=>A.o ⟨(ve.o.1 (O.o.1 h).1).2.2.2.2.1,(ve.o.1 (O.o.1 h).1).1⟩) G3.o
 have HK:=ae (show zQ/\gC from zZ λh=>by have:=t.2 h;simp at this);clear t w2;obtain⟨kb,hkb⟩:∃b:Bool,decide (0<k)=b:=⟨_,R⟩
 have FE:=ae hkb
 go_upto_if 114 with fail
 go_cut []from 115 to 146 (λf=>wV/\az w3 f N)
 case first=>
  clear hkb
  cases kb
  ·have t:=ae (PP.o (by have:=FE.o;simp at this;omega));go_wp2_with fail;go_meet;exact⟨t.o,aW _ _⟩
  have k0:0<k:=by simpa using FE.o
  clear FE;obtain⟨j,rfl⟩:∃j,k=j+1:=⟨k-1,by omega⟩
  obtain⟨ps,E,pk,py,pa,Bc,p0,p7,⟨t,U,V,X,u4⟩,A,hF⟩:=HP.o j (by omega) R;have ux:=ae A;have HF:=ae hF;have t:=yd t G3.o;have U:=yd U G3.o;have V:=yd V G3.o;have X:=yd X G3.o;have u4:=yd u4 G3.o;have C:=(HB.o.grown G3.o (by simp)).cell 6;have g2:(j:Z)<(ah o.ay:Z):=by omega
  have D7:=ae (aA.new w3 #[I J ps,I J E,I J pk,I J py,I J pa] 75);have GP:=ae (aG w3 (.cells #[I J ps,I J E,I J pk,I J py,I J pa] 75) N);clear A hF k0
  go_upto_region 22 with (go_at_call 56;refine(ux.o _).mono ?_;rintro e w4 ⟨rfl,A⟩)
  have uw:=ae (ya GP.o A);have G4:=ae (ya G3.o uw.o);obtain⟨c0,c1,-⟩:=DN (zI.o.grown uw.o (by simp));obtain⟨v0,v1,-⟩:=DN (D7.o.grown A (by simp));clear A t U V X u4 C D7 GP;have C:J.wrap (4*Bc)=4*Bc:=dD _ ⟨by omega,by omega⟩;have ajm:J.wrap (E+4*Bc)=E+4*Bc:=dD _ ⟨by omega,by omega⟩;rcases (show (decide ((n:Z)+1<ps)=T/\Hd (¬wV))\/(decide ((n:Z)+1<ps)=F/\((((n:Z)+1==ps)=F/\Hd wV)\/(((n:Z)+1==ps)=T/\((decide (s<E+4*Bc)=T/\Hd (¬wV))\/(decide (s<E+4*Bc)=F/\Hd wV))))) by
   have a:=HF.o;unfold Hd;rw[a];simp only[dQ,df,wH,uX];split<;>omega)with ⟨U,t⟩|⟨U,⟨V,t⟩|⟨V,⟨X,t⟩|⟨X,t⟩⟩⟩
  all_goals
   clear HF;go_wp2_with fail
   first
    |(go_meet;exact⟨t.o,uw.o⟩)
    |(go_ret;exact no.o _ (λh=>t.o (O.o.1 h).2) G4.o)
 case rest=>
 obtain⟨t,A⟩:=hcut;have VA:=ae t;have G4:=ae (ya G3.o A);have LM:=ae (zI.o.grown A (by simp));clear t A G3 zI HP PP hkb FE;generalize wc=w4 at *;obtain⟨c0,c1,c2,c3,c4⟩:=DN LM.o;obtain⟨b6,E⟩:∃b:Bool,(l==6)=b:=⟨_,R⟩
 have CV:=ae E
 go_upto_if 149 with fail
 have b4:=(HB.o.grown G4.o (by simp)).cell 4;have b5:=(HB.o.grown G4.o (by simp)).cell 5
 go_cut []from 150 to 181 (λf=>(tR/\xX)/\az w4 f N)
 case first=>
  clear E
  cases b6
  ·have C:l≠6:=by simpa using CV.o
   have A:=ae (CW.o.2 λh=>absurd h C);have Et:=ae (Py.o.trans (by rw[ax C]));clear C;rcases (show (decide (u<0)=T/\Hd (¬tR))\/(decide (u<0)=F/\((decide ((ah o.aE:Z)<=u)=T/\Hd (¬tR))\/(decide ((ah o.aE:Z)<=u)=F/\Hd tR))) by
    have a:=Et.o;unfold Hd;rw[a];simp only[wH,uX];omega)with ⟨U,t⟩|⟨U,⟨V,t⟩|⟨V,t⟩⟩
   all_goals
    go_wp2
    go_quiet (fail)
    go_wp2
    first
     |(go_meet;exact⟨⟨t.o,A.o⟩,ye (aW _ N) nq⟩)
     |(go_ret;exact no.o _ (λh=>t.o (ve.o.1 (O.o.1 h).1).2.2.1) (ye G4.o nq))
  ·have C:l=6:=by simpa using CV.o
   have HE:=ae (Qb.o HA.o C);have A:n<ah o.align:=by omega
   have ai0:=yD.o.2 n A;have ca:=yd (PL.o n A) G4.o;have NT:=ae (show xX↔p+4<=lX (o.align[n]'A)from by
    rw[CW.o,show ((n:Z)+1).toNat-1=n from by omega,show o.align.getD n 0=o.align[n]'A from by rw[bQ,bW A];rfl];exact⟨λh=>h C,λh _=>h⟩)
   have Et:=ae (Py.o.trans (by rw[aD C]));generalize o.align[n]'A=eR at *;have i8:(n:Z)<4:=by omega
   have ahW:=Io.1;have a1:4<=p:=by have:=HE.o;omega
   have a2:p<=12:=by have:=HE.o;omega
   rcases (show ((u==0)=F/\(u != 0)=T/\Hd (¬(tR/\xX)))\/((u==0)=T/\(u != 0)=F/\((eR=2/\decide ((4:Z)<p+4)=T/\Hd (¬(tR/\xX)))\/(eR=3/\((decide ((8:Z)<p+4)=T/\Hd (¬(tR/\xX)))\/(decide ((8:Z)<p+4)=F/\Hd (tR/\xX))))\/(eR=4/\decide ((16:Z)<p+4)=F/\Hd (tR/\xX)))) by
    have a:=Et.o;have b:=NT.o;have c:=HE.o;unfold Hd;rw[a,b];unfold lX;simp only[bne_iff_ne,bne_eq_false_iff_eq,dQ,df,wH,uX,ne_eq];rcases (show eR=2\/eR=3\/eR=4 by omega)with rfl|rfl|rfl<;>simp<;>omega)with ⟨U,V,t⟩|⟨U,V,⟨rfl,X,t⟩|⟨rfl,⟨X,t⟩|⟨X,t⟩⟩|⟨rfl,X,t⟩⟩
   all_goals
    clear Io C Et NT HE;go_wp2
    go_quiet (fail)
    go_wp2
    first
     |(go_meet;exact⟨t.o,ye (aW _ N) nq⟩)
     |(go_ret;exact no.o _ (λh=>t.o ⟨(ve.o.1 (O.o.1 h).1).2.2.1,(ve.o.1 (O.o.1 h).1).2.2.2.1⟩) (ye G4.o nq))
 case rest=>
 obtain⟨t,A⟩:=hcut;have Pw:=ae t;have U:=ae (ya G4.o A);have D6:=ae (LM.o.grown A (by simp));clear t A c0 c1 c2 c3 c4 b4 b5 G4 LM E CV Qb PL yD Io;generalize wc=w5 at *;have t5:=yd S1.o U.o;have Xq:=ae (Yv.o.kept (λa v f=>yd f U.o));have S5:=ae (S.o.grown U.o);have b5:=(HB.o.grown U.o (by simp)).cell 5;have ajn:J.wrap (4*y)=4*y:=dD _ ⟨by omega,by omega⟩;have Er:=ae (Ij.o.1 HK.o.1);have aja:s<=262144:=by have:=Er.o;omega
 have aie:J.wrap (s+4*y)=s+4*y:=dD _ ⟨by omega,by omega⟩;have aij:=D6.o.lt;go_wp2_with fail
 go_loopw [13] (λi wr=>∃a:M,a<=ah o.aE/\i=I J a/\(∀b (t:b<ah o.aE),b<a->¬(o.aE[b].au=(n:Z)+1/\s<o.aE[b].off/\o.aE[b].off<s+4*y))/\az w5 wr N) (λi _=>ah o.aE-(aN i).toNat)
 case atStart=>exact⟨0,bG _,R,λj _ E=>absurd E (ji j),aW _ _⟩
 case round=>
  obtain⟨a,ha,rfl,t,Y⟩:=hrel;have Cr:=ae t;have C:=ae Y;clear t Y;have JB:=ae (D6.o.grown C.o (by simp));obtain⟨c0,c1,-⟩:=DN JB.o;have Ct:=JB.o.lt;have hnn:w.heap.size≠wr.heap.size:=by omega
  have b5:=(HB.o.grown (ya U.o C.o) (by simp)).cell 5;have iM:=ae (λf:dN=>aG wr f N);by_cases hlt:a<ah o.aE
  ·obtain⟨sg,V,aiw,t⟩:=S5.o.grown C.o (by omega);subst V;obtain⟨y0,y1,y2,y3⟩:=t a hlt;clear t;have g3:(a:Z)<(ah o.aE:Z):=by omega
   rcases (show ((o.aE[a].au==(n:Z)+1)=F\/((o.aE[a].au==(n:Z)+1)=T/\(decide (s<o.aE[a].off)=F\/(decide (s<o.aE[a].off)=T/\decide (o.aE[a].off<s+4*y)=F))))\/((o.aE[a].au==(n:Z)+1)=T/\decide (s<o.aE[a].off)=T/\decide (o.aE[a].off<s+4*y)=T) by
    simp only[dQ,df,wH,uX];omega)with z|⟨X,z2,z3⟩
   ·have A:=ae (show ¬(o.aE[a].au=(n:Z)+1/\s<o.aE[a].off/\o.aE[a].off<s+4*y) by
     simp only[dQ,df,wH,uX]at z;omega)
    rcases z with X|⟨X,z2|⟨z2,z3⟩⟩
    all_goals
     go_wp2
     go_roundw
     case rel=>exact⟨a+1,by omega,by go_num,λj E t=>(jY.1 t).elim (λh=>Cr.o j E h) (λh=>by subst h;exact A.o),ya C.o (iM.o _)⟩
     case measure=>simp[aN];omega
   ·have A:=ae (show O9 from PF.o.2 ⟨a,hlt,by simpa using X,by simpa using z2,by simpa using z3⟩);go_wp2;go_ret;exact no.o _ (λh=>(ve.o.1 (O.o.1 h).1).2.2.2.2.2.2 A.o) (ya (ya U.o C.o) (iM.o _))
  ·have Fi:=ae (show ¬O9 from λh=>by obtain⟨i,hi,t⟩:=PF.o.1 h;exact Cr.o i hi (by omega) t);obtain⟨m,hm⟩:=eX (show 0<=y from by omega);obtain⟨E,X,hsa,hcl⟩:=Xq.o (by have:=Er.o;omega);subst hsa;obtain⟨q,hoff⟩:∃q:M,s=4*(q:Z):=⟨(s/4).toNat,by have:=Er.o;omega⟩
   have A:=Vw.o HA.o HK.o.1 VL.o;rw[Es.o]at A;have hqq:(s/4).toNat=q:=by omega
   rw[hqq,hm,dy]at A;rw[hqq,hm,dy]at Es;have c2:=JB.o.cell 2;have t6:=yd t5 C.o;have m1:1<=m:=by omega
   have m3:m<=3:=by omega
   have hqm:q+m<=ah G:=by have:=Er.o;omega
   have V3:=ae (show yq wr (some ⟨E,X+q,N⟩) ((G.drop q).take m)from λ_=>⟨E,X+q,R,λi hi=>by
    have t:q+i<ah G:=by simp at hi;omega
    have:=yd (hcl (q+i) t) C.o
    rw[Nat.add_assoc,this];simp⟩)
   have Xj:=ae (VC.o);have cG:=ae (λW (f:yq W (some ⟨E,X+q,N⟩) ((G.drop q).take m))=>aeX l (some ⟨E,X+q,N⟩) (zP-q) ((G.drop q).take m) W f A.2.1 A.2.2.1 A.2.2.2 (by omega) (λh=>by have:=Xj.o (by first|exact h|simp);have:=A.1;omega));rw[show ((G.drop q).take m).length=m from A.1]at cG;have VG:=ae (show ey l ((G.drop q).take m)↔Q from ⟨λh=>O.o.2 ⟨ve.o.2 ⟨HK.o.2,HA.o,Pw.o.1,Pw.o.2,HK.o.1,by rw[Es.o];exact h,Fi.o⟩,VA.o⟩,λh=>by have:=(ve.o.1 (O.o.1 h).1).2.2.2.2.2.1;rw[Es.o]at this;exact this⟩);generalize ey l ((G.drop q).take m)=GP at *
   subst hoff;subst hm;have k0:Hd (aq wr.drew ⟨w.heap.size,0,N⟩=some (I J ((n:Z)+1))):=c0;have k1:Hd (aq wr.drew ⟨w.heap.size,1,N⟩=some (I J (4*(q:Z)))):=c1;have k2:Hd (aq wr.drew ⟨w.heap.size,2,N⟩=some (I J l)):=c2;have k3:Hd (aq wr.drew ⟨B,n+1,N⟩=some (ak (some ⟨E,X,N⟩) (ah G) zP)):=t6;have i1:(0:Z)<=(n:Z)+1:=by omega
   have i2:(n:Z)+1<5:=by omega
   have i3:(0:Z)<=(q:Z):=by omega
   have i4:(q:Z)<=(q:Z)+(m:Z):=by omega
   have i5:(q:Z)+(m:Z)<=(zP:Z):=by omega
   have i6:J.wrap ((q:Z)+(m:Z))=(q:Z)+(m:Z):=dD _ ⟨by omega,by omega⟩;have j1:J.wrap (q:Z)=(q:Z):=dD _ ⟨by omega,by omega⟩;have Zg:¬zP=q:=by omega
   have j2:max ((q:Z)+(m:Z)) 0=(q:Z)+(m:Z):=by omega
   have i7:(0:Z)<=(q:Z)+(m:Z):=by omega
   go_wp2;refine wp_region_held_drew (S:=(λD=>aq D ⟨w.heap.size,0,N⟩=some (I J ((n:Z)+1))/\aq D ⟨w.heap.size,1,N⟩=some (I J (4*(q:Z)))/\aq D ⟨w.heap.size,2,N⟩=some (I J l)/\aq D ⟨B,n+1,N⟩=some (ak (some ⟨E,X,N⟩) (ah G) zP))) (by kernel_rfl) ⟨k0.o,k1.o,k2.o,k3.o⟩ ?_;intro hS
   iterate 15
    refine qg (v:=?_) R (by kernel_rfl) (λ_ _ _ h=>h) hS ?_ ?_
    rotate_left
    ·intro D t;obtain⟨x0,x1,x2,x3⟩:=t;go_simp;with_reducible rfl
   refine wpAnyH_take (i:=15) (v:=ak (some ⟨E,X+q,N⟩) m (zP-q)) R (by kernel_rfl) (by kernel_rfl) (by kernel_rfl) (λ_ _ _ h=>h) (Or.inl ⟨by kernel_rfl,?_⟩) hS ?_
   ·intro D t;obtain⟨x0,x1,x2,x3⟩:=t;go_simp;omega
   refine wpAnyH_ready (rs:=[16]) (by kernel_rfl) (by simp) ?_;refine AllReadyH.cons R (λK hK=>?_) AllReadyH.nil;go_simp;go_wp2_with (go_at_call 135;refine(cG.o _ ?_).mono ?_;(exact V3.o.kept (λa v f=>yd f (yf (aW wr N))));rintro e D ⟨⟨bb,rfl,hbb⟩,V⟩)
   refine hK.out _ _ ⟨yd k0.o V,yd k1.o V,yd k2.o V,yd k3.o V⟩ (λhS2=>?_);clear hK K;refine dw (i:=17) (v:=?_) R ?_ hS2 ?_
   rotate_left
   ·intro D t;go_simp;with_reducible rfl
   refine wpAnyH_done (by kernel_rfl) ?_ _;simp only[ql,List.getElem_toArray,List.getElem_cons_succ,List.getElem_cons_zero,dt,dB,dC];go_wp2;go_ret;exact⟨aX.of (hbb.trans VG.o),ya (ya U.o C.o) (ya (yf (aW _ _)) V)⟩
def oe(o:aF)(n:M):L Z:=if n=3 then eP o.bf.toNat 0 else yp o ((n:Z)+1)
theorem qY.all{B:M}{a:aR aY}{i:M}{d:aR aY}{g:M}{c:aR aY}{f:M}{Z:M}(h:qY W B o a i d g c f Z)(n:M)(j:n<=3):
  ∃H cap,aq W ⟨B,n+1,N⟩=S (ak H (oe o n).length cap)/\yq W H (oe o n):=by
 rcases (show n=0\/n=1\/n=2\/n=3 from by omega)with rfl|rfl|rfl|rfl
 ·exact⟨_,_,h.aO.cell 1,h.text⟩
 ·exact⟨_,_,h.aO.cell 2,h.bw⟩
 ·exact⟨_,_,h.aO.cell 3,h.data⟩
 ·have e:oe o 3=eP o.bf.toNat 0:=R;rw[e,yK];exact⟨_,_,h.aO.cell 4,h.zero⟩
theorem aa8(h:rh o)(n:M)(c:n<=3):jm (oe o n):=by
 rcases (show n=0\/n=1\/n=2\/n=3 from by omega)with rfl|rfl|rfl|rfl
 ·exact h.1
 ·exact h.2.1
 ·exact h.2.2
 ·intro i a;have e:oe o 3=eP o.bf.toNat 0:=R;simp[e]
theorem ab0(h:∀n,n<4->jm (oe o n)):rh o:=⟨h 0 (by omega),h 1 (by omega),h 2 (by omega)⟩
theorem acC(h:mD o)(a:o.bf<=64)(n:M):(oe o n).length<=65535:=by
 unfold oe;split
 ·simp;omega
 ·exact sd h _
theorem abi(g:M)(o:aF)(w:av)(h:yr w g o)(hn:He o):
  Calls prog 49 #[aM (some ⟨g,0,N⟩)] w λe D=>aX e (yl o)/\az w D N:=by
 obtain⟨at_,ct,af,cf,ad,cd,aa,ca,gP,cs,ar,cr,f,q,E,K,l,O,P⟩:=h.open;have HB:=ae f;have HO:=ae h;have G:=ae hn;have p:=ae (yq.dh l);obtain⟨n1,n2,n3,n4,n5,n6⟩:=hn.1;have U:=f.cell 0;have V:=f.cell 1;have L:=f.cell 2;have S:=f.cell 3;have r:=f.cell 4;have y:=f.cell 5;have C:=f.cell 6;have s:=ae (show yl o↔uB o/\pj o.align/\rh o/\xl o/\xk o from Iff.rfl);have z:=ae (show uB o↔(ah o.text<=1200/\(ah o.bw)<=1200/\(ah o.data)<=64)/\(0<=o.bf/\o.bf<=64)/\(ah o.aE)<=16/\(ah o.ay)<=32 from Iff.rfl);generalize yl o=Q at *;have u:Hd (∀W,(¬Q)->az w W N->aX (aH (aJ F)) Q/\az w W N):=λW a b=>⟨aX.no a,b⟩
 have A:=ae (aW w N);clear h hn f q E K l O P;go_enter func49,ntmps49;by_cases c:1200<ah o.text
 ·have d:decide (1200<(ah o.text:Z))=T:=by simp;omega
  go_wp2;go_ret;exact u.o _ (λf=>by have:=z.o.1 (s.o.1 f).1;omega) A.o
 have d0:decide (1200<(ah o.text:Z))=F:=by simp;omega
 have c0:¬(1200<ah o.text):=c;clear c;by_cases c:1200<ah o.bw
 ·have d:decide (1200<(ah o.bw:Z))=T:=by simp;omega
  go_wp2;go_ret;exact u.o _ (λf=>by have:=z.o.1 (s.o.1 f).1;omega) A.o
 have d1:decide (1200<(ah o.bw:Z))=F:=by simp;omega
 have c1:¬(1200<ah o.bw):=c;clear c;by_cases c:64<ah o.data
 ·have d:decide (64<(ah o.data:Z))=T:=by simp;omega
  go_wp2;go_ret;exact u.o _ (λf=>by have:=z.o.1 (s.o.1 f).1;omega) A.o
 have d2:decide (64<(ah o.data:Z))=F:=by simp;omega
 have c2:¬(64<ah o.data):=c;clear c;by_cases c:o.bf<0
 ·have d:decide (o.bf<0)=T:=by simp;omega
  go_wp2;go_ret;exact u.o _ (λf=>by have:=z.o.1 (s.o.1 f).1;omega) A.o
 have d3:decide (o.bf<0)=F:=by simp;omega
 have c3:¬(o.bf<0):=c;clear c;by_cases c:64<o.bf
 ·have d:decide (64<o.bf)=T:=by simp;omega
  go_wp2;go_ret;exact u.o _ (λf=>by have:=z.o.1 (s.o.1 f).1;omega) A.o
 have d4:decide (64<o.bf)=F:=by simp;omega
 have c4:¬(64<o.bf):=c;clear c;by_cases c:ah o.align=4
 rotate_left
 ·have d:((ah o.align:Z)==4)=F:=by rw[df];omega
  have f:((ah o.align:Z) != 4)=T:=by simp only[bne,d,Bool.not_false]
  have l:=ae c;clear c;go_wp2;go_ret;exact u.o _ (λf=>l.o (s.o.1 f).2.1.1) A.o
 have d5:((ah o.align:Z)==4)=T:=by rw[dQ];omega
 have aiJ:((ah o.align:Z) != 4)=F:=by simp only[bne,d5,Bool.not_true]
 have Y:=ae c;clear c;by_cases c:16<ah o.aE
 ·have d:decide (16<(ah o.aE:Z))=T:=by simp;omega
  go_wp2;go_ret;exact u.o _ (λf=>by have:=z.o.1 (s.o.1 f).1;omega) A.o
 have d6:decide (16<(ah o.aE:Z))=F:=by simp;omega
 have c6:¬(16<ah o.aE):=c;clear c;by_cases c:32<ah o.ay
 ·have d:decide (32<(ah o.ay:Z))=T:=by simp;omega
  go_wp2;go_ret;exact u.o _ (λf=>by have:=z.o.1 (s.o.1 f).1;omega) A.o
 have d7:decide (32<(ah o.ay:Z))=F:=by simp;omega
 have c7:¬(32<ah o.ay):=c;clear c;have SZ:=ae (z.o.2 ⟨⟨by omega,by omega,by omega⟩,⟨by omega,by omega⟩,by omega,by omega⟩);have q:=ae (Gk g o w HO.o ⟨by omega,by omega⟩);go_wp2_with fail;refine q.o.mono ?_;rintro e w1 ⟨B,sat,ajg,ajd,ajf,ajc,aje,f,rfl,K,l⟩;have HS:=ae K;have E:=ae l;have A1:=ae (p.o.kept (λa v f=>yd f l));have b4:=yd r l;have b5:=yd y l;have X:=yd C l;clear K l U V L S r y C q p;have Xr:=ae (λn=>acC G.o.1 (show o.bf<=64 from by omega) n);clear n1 n2 n3 n4;go_wp2
 go_loop [4] (λi=>∃n:M,n<=4/\i=I J ((n:Z)+1)/\(∀j (l:j<ah o.align),j<n->2<=o.align[j]/\o.align[j]<=4)/\∀j,j<n->jm (oe o j)) (λi=>5-(aN i).toNat)
 case atStart=>exact⟨0,bG _,R,λj _ l=>absurd l (ji j),λj l=>absurd l (ji j)⟩
 case round=>
  obtain⟨n,Dt,rfl,l,y⟩:=hrel;have Cr:=ae l;have PG:=ae y;clear l y;by_cases q:n<4
  ·have C:(n:Z)+1<5:=by omega
   have P:n<ah o.align:=by have:=Y.o;omega
   have ai2:(n:Z)<(ah o.align:Z):=by omega
   obtain⟨ga,YG,J6,l⟩:=A1.o (by omega);subst J6;have ca:=l n P;clear l;have CW:=ae (show pj o.align->2<=o.align[n]/\o.align[n]<=4 from λh=>h.2 n P);have JG:=ae (show 2<=o.align[n]/\o.align[n]<=4->∀j (l:j<ah o.align),j<n+1->2<=o.align[j]/\o.align[j]<=4 from λh j l p=>(jY.1 p).elim (λh=>Cr.o j l h) (λe=>by subst e;exact h));generalize o.align[n]=y at *;by_cases c:y<2
   ·have d:decide (y<2)=T:=by simp;omega
    go_wp2;go_ret;exact u.o _ (λf=>by have:=CW.o (s.o.1 f).2.1;omega) E.o
   have e1:decide (y<2)=F:=by simp;omega
   by_cases p:4<y
   ·have d:decide (4<y)=T:=by simp;omega
    go_wp2;go_ret;exact u.o _ (λf=>by have:=CW.o (s.o.1 f).2.1;omega) E.o
   have e2:decide (4<y)=F:=by simp;omega
   have Yr:=ae (JG.o ⟨by omega,by omega⟩);clear c p;obtain⟨ZD,zP,s1,l⟩:=HS.o.all n (by omega);have L:=ae l;have PH:=ae (show rh o->jm (oe o n)from λh=>aa8 h n (by omega));have S:=ae (show jm (oe o n)->∀j,j<n+1->jm (oe o j)from λh j p=>(jY.1 p).elim (λh=>PG.o j h) (λe=>by subst e;exact h));have hsz:=Xr.o n;clear l;generalize oe o n=r at *;go_wp2
   go_loop [5] (λi=>∃a:M,a<=ah r/\i=I J a/\∀j (l:j<ah r),j<a->0<=r[j]/\r[j]<=4294967295) (λi=>ah r-(aN i).toNat)
   case atStart=>exact⟨0,bG _,R,λj _ l=>absurd l (ji j)⟩
   case round=>
    obtain⟨a,ha,rfl,l⟩:=hrel;have U:=ae l;clear l;by_cases O:a<ah r
    ·have aix:(a:Z)<(ah r:Z):=by omega
     obtain⟨gs,ah1,V,l⟩:=L.o (by omega);subst V;have cw:=l a O;clear l;have HX:=ae (show jm r->0<=r[a]/\r[a]<=4294967295 from λh=>h a O);have K:=ae (show 0<=r[a]/\r[a]<=4294967295->∀j (l:j<ah r),j<a+1->0<=r[j]/\r[j]<=4294967295 from λh j l p=>(jY.1 p).elim (λh=>U.o j l h) (λe=>by subst e;exact h));generalize r[a]=x at *;by_cases c:x<0
     ·have d:decide (x<0)=T:=by simp;omega
      go_wp2;go_ret;exact u.o _ (λf=>by have:=HX.o (PH.o (s.o.1 f).2.2.1);omega) E.o
     have f1:decide (x<0)=F:=by simp;omega
     by_cases p:4294967296<=x
     ·have d:decide (4294967296<=x)=T:=by simp;omega
      go_wp2;go_ret;exact u.o _ (λf=>by have:=HX.o (PH.o (s.o.1 f).2.2.1);omega) E.o
     have f2:decide (4294967296<=x)=F:=by simp;omega
     have l:=ae (K.o ⟨by omega,by omega⟩);clear c p;go_wp2
     go_round
     case rel=>exact⟨a+1,by omega,by go_num,l.o⟩
     case measure=>simp[aN];omega
    ·have V:=ae (S.o (λj l=>U.o j l (by omega)));go_wp2
     go_round
     case rel=>exact⟨n+1,by omega,by go_num,Yr.o,V.o⟩
     case measure=>simp[aN];omega
  ·have Oj:=ae (show pj o.align from ⟨Y.o,λi f=>Cr.o i f (by have:=Y.o;omega)⟩);have V:=ae (ab0 (λj l=>PG.o j (by omega)));have hge:¬((n:Z)+1<5):=by omega
   clear q;go_wp2
   go_loopw [6] (λi wr=>∃k:M,k<=ah o.aE/\i=I J k/\(∀j (l:j<ah o.aE),j<k->DM o j l)/\az w1 wr N) (λi _=>ah o.aE-(aN i).toNat)
   case atStart=>exact⟨0,bG _,R,λj _ l=>absurd l (ji j),aW _ _⟩
   case round=>
    obtain⟨k,hk,rfl,l,p⟩:=hrel;have U:=ae l;have O:=ae (ya E.o p);have JP:=ae p;have b5:=yd b5 p;have X:=yd X p;clear l p;by_cases q:k<ah o.aE
    ·have C:(k:Z)<(ah o.aE:Z):=by omega
     have p:=ae (abj g B k o _ _ _ _ _ _ _ wr (HO.o.kept O.o) (HS.o.grown JP.o) G.o.1 SZ.o.2.1 G.o.2.1 q);go_wp2_with fail;refine p.o.mono ?_;rintro e w2 ⟨t,l⟩;have Q2:=ae (ya O.o l);have Q3:=ae (ya JP.o l);rcases t.split with ⟨rfl,r⟩|⟨rfl,r⟩<;>clear t p l
     ·have l:=ae (show ¬xl o from λh=>r.o (h k q));clear r;go_wp2;go_ret;exact u.o _ (λf=>l.o (s.o.1 f).2.2.2.1) Q2.o
     ·have K:=ae (show ∀j (l:j<ah o.aE),j<k+1->DM o j l from λj l p=>(jY.1 p).elim (λh=>U.o j l h) (λe=>by subst e;exact r.o));clear r;go_wp2
      go_roundw
      case rel=>exact⟨k+1,by omega,by go_num,K.o,Q3.o⟩
      case measure=>simp[aN];omega
    ·have VJ:=ae (show xl o from λi f=>U.o i f (by omega));have ait:¬((k:Z)<(ah o.aE:Z)):=by omega
     obtain⟨xV,y⟩:∃xV:av,xV=wr:=⟨_,R⟩
     subst y;clear q;go_wp2
     go_loopw [8] (λi wr=>∃k:M,k<=ah o.ay/\i=I J k/\(∀j (l:j<ah o.ay),j<k->D5 o j l)/\az xV wr N) (λi _=>ah o.ay-(aN i).toNat)
     case atStart=>exact⟨0,bG _,R,λj _ l=>absurd l (ji j),aW _ _⟩
     case round=>
      obtain⟨m,hm,rfl,l,p⟩:=hrel;have IK:=ae l;have P:=ae (ya O.o p);have S:=ae (ya JP.o p);have L:=ae p;have X:=yd X p;clear l p;by_cases q:m<ah o.ay
      ·have C:(m:Z)<(ah o.ay:Z):=by omega
       have p:=ae (abq m g B o _ _ _ _ _ _ _ wr (HO.o.kept P.o) (HS.o.grown S.o) G.o.1 Oj.o V.o G.o.2.2 q (λj l f=>(IK.o j l (by omega)).1));go_wp2_with fail;refine p.o.mono ?_;rintro e w2 ⟨t,l⟩;have Q2:=ae (ya P.o l);have Q3:=ae (ya L.o l);rcases t.split with ⟨rfl,r⟩|⟨rfl,r⟩<;>clear t p l
       ·have l:=ae (show ¬xk o from λh=>r.o (h m q));clear r;go_wp2;go_ret;exact u.o _ (λf=>l.o (s.o.1 f).2.2.2.2) Q2.o
       ·have K:=ae (show ∀j (l:j<ah o.ay),j<m+1->D5 o j l from λj l p=>(jY.1 p).elim (λh=>IK.o j l h) (λe=>by subst e;exact r.o));clear r;go_wp2
        go_roundw
        case rel=>exact⟨m+1,by omega,by go_num,K.o,Q3.o⟩
        case measure=>simp[aN];omega
      ·have l:=ae (show xk o from λi f=>IK.o i f (by omega));have p:¬((m:Z)<(ah o.ay:Z)):=by omega
       clear q;go_wp2;go_ret;exact⟨aX.iV (s.o.2 ⟨SZ.o,Oj.o,V.o,VJ.o,l.o⟩),P.o⟩
def aQ(o:aF)(au:M):L Z:=oe o (au-1)
theorem vN(h:yl o)(a:M):(aQ o a).length<=1200:=by
 have c:=h.1;unfold uB at c;unfold aQ oe yp;split
 ·rw[yK];omega
 ·split
  ·omega
  ·split
   ·omega
   ·split
    ·omega
    ·simp
theorem ahc(W:av)(x:Z):(convert 164 9 (ak (S ⟨W.heap.size,0,N⟩) 1 1)).run prog (W.alloc (.cells #[.int .u8 x] 5)) = .ok (aB (strOfNums [x])) (W.alloc (.cells #[.int .u8 x] 5)) :=
 run_convert_bytes_arg (P:=prog) _ 164 5 underlying164 underlying5 W.heap.size 0 1 1 [x] rfl (λi a=>by
  have e:i=0:=by omega
  subst e;exact(aA.new W #[.int .u8 x] 5).cell 0) 9 underlying9
theorem afK(v:Z)(k:M):bu v (k+1)=bu v k++[UInt8.ofNat (v/(256:Z) ^ k%256).toNat]:=by
 induction k generalizing v with
 |zero=>simp[bu]
 |succ k a=>
  have h:=a (v/256);have e:v/256/(256:Z) ^ k=v/(256:Z) ^ (k+1):=by
   rw[Int.ediv_ediv_of_nonneg (by decide),vH,Int.mul_comm]
  rw[e]at h;show UInt8.ofNat (v%256).toNat::bu (v/256) (k+1)=(UInt8.ofNat (v%256).toNat::bu (v/256) k)++_;rw[h];rfl
theorem kG(a b:L aL):bs a++bs b=bs (a++b):=by
 apply ByteArray.ext;simp[bs]
theorem GX(v x:Z)(k:M)(a:x=v/(256:Z) ^ k%256):bs (bu v k)++strOfNums [x]=bs (bu v (k+1)):=by
 subst a;rw[afK,<- kG];rfl
theorem ags(v:Z)(n:M)(w:av)(h:n<=4):
  Calls prog 94 #[I J v,I J n] w λe D=>e=aH (aB (bs (bu v n)))/\az w D N:=by
 have d:=ahc;go_enter func94,ntmps94;go_wp2
 go_loopw [5,6] (λt i wr=>∃k:M,k<=n/\i=I J k/\t=aB (bs (bu v k))/\az w wr N) (λ_ i _=>n-(aN i).toNat)
 case atStart=>exact⟨0,bG _,R,R,aW _ _⟩
 case round=>
  obtain⟨k,g,rfl,rfl,a⟩:=hrel;have c:=ae a;clear a;by_cases f:k<n
  ·rcases (show k=0\/k=1\/k=2\/k=3 from by omega)with rfl|rfl|rfl|rfl
   ·have a:=ae (GX v (v%256) 0 (by simp));go_wp2
    go_roundw
    case rel=>exact⟨1,by omega,R,by rw[<- a.o],ya c.o (aG _ _ _)⟩
    case measure=>simp[aN];omega
   ·have a:=ae (GX v (v/256%256) 1 (by simp));go_wp2
    go_roundw
    case rel=>exact⟨2,by omega,R,by rw[<- a.o],ya c.o (aG _ _ _)⟩
    case measure=>simp[aN];omega
   ·have a:=ae (GX v (v/65536%256) 2 (by simp));go_wp2
    go_roundw
    case rel=>exact⟨3,by omega,R,by rw[<- a.o],ya c.o (aG _ _ _)⟩
    case measure=>simp[aN];omega
   ·have a:=ae (GX v (v/16777216%256) 3 (by simp));go_wp2
    go_roundw
    case rel=>exact⟨4,by omega,R,by rw[<- a.o],ya c.o (aG _ _ _)⟩
    case measure=>simp[aN];omega
  ·have e:k=n:=by omega
   subst e;go_wp2;go_ret;exact⟨R,c.o⟩
theorem aaP(b:Nat)(r:cg)(l:L aL)(w:av)(h:gG w b l)(N:ah l<=1048576)(G:Cw r):
  Calls prog 171 #[aM (S ⟨b,0,none⟩),.agg #[I J r.au,I J r.off,I J r.kind,I J r.sym,I J r.bh]] w λe D=>e=aH (aZ #[])/\gG D b (l++gD r)/\Wk b w D:=by
 obtain⟨⟨U,V⟩,⟨K,O⟩,⟨P,Q⟩,⟨X,Y⟩,C,E⟩:=G;have d:w.heap.size≠b:=by obtain⟨_,_,B,_⟩:=h;have:=B.lt;omega
 have f:=ae (sY.begin h #[I J r.au,I J r.off,I J r.kind,I J r.sym,I J r.bh] 75);have v:=ae (λW (h:gG W b (l))=>kV b r.au 1 1 rfl (l) W h (by omega) (by omega) (by omega) (by omega));have x:=ae (λW (h:gG W b (l++bu r.au 1))=>kV b r.kind 1 1 rfl (l++bu r.au 1) W h (by simp only[bX,dg];omega) (by omega) (by omega) (by omega));have y:=ae (λW (h:gG W b (l++bu r.au 1++bu r.kind 1))=>kV b r.off 2 2 rfl (l++bu r.au 1++bu r.kind 1) W h (by simp only[bX,dg];omega) (by omega) (by omega) (by omega))
 have z:=ae (λW (h:gG W b (l++bu r.au 1++bu r.kind 1++bu r.off 2))=>kV b r.sym 1 1 rfl (l++bu r.au 1++bu r.kind 1++bu r.off 2) W h (by simp only[bX,dg];omega) (by omega) (by omega) (by omega));have A:=ae (λW (h:gG W b (l++bu r.au 1++bu r.kind 1++bu r.off 2++bu r.sym 1))=>kV b r.bh 2 2 rfl (l++bu r.au 1++bu r.kind 1++bu r.off 2++bu r.sym 1) W h (by simp only[bX,dg];omega) (by omega) (by omega) (by omega));clear h;go_enter func171,ntmps171;go_wp2_with fail;refine Calls.fK (sY w b w.heap.size 75 #[I J r.au,I J r.off,I J r.kind,I J r.sym,I J r.bh] l) f.o ?_
 clear f;intro p a;have f:=ae a;clear a;refine(v.o p f.o.wr).mono ?_;rintro e q ⟨rfl,c,a⟩;have g:=ae (f.o.step d (by decide) c a);clear c a;have j:=g.o.own.cell 2;go_wp2_with fail;refine(x.o q g.o.wr).mono ?_;rintro e s ⟨rfl,c,a⟩;have i:=ae (g.o.step d (by decide) c a);clear c a j;have k:=i.o.own.cell 1;go_wp2_with fail;refine(y.o s i.o.wr).mono ?_;rintro e t ⟨rfl,c,a⟩;have j:=ae (i.o.step d (by decide) c a);clear c a k;have m:=j.o.own.cell 3;go_wp2_with fail;refine(z.o t j.o.wr).mono ?_;rintro e u ⟨rfl,c,a⟩;have k:=ae (j.o.step d (by decide) c a)
 clear c a m;have F:=k.o.own.cell 4;go_wp2_with fail;refine(A.o u k.o.wr).mono ?_;rintro e M ⟨rfl,c,a⟩;have m:=ae (k.o.step d (by decide) c a);clear c a F;go_wp2
 go_end0
 refine⟨R,?_,m.o.wk⟩
 have:=m.o.wr
 simpa[gD]using this
def yX(w:av)(b:M)(H:aR aY)(ys:L dz):Prop :=
 0<ah ys->∃g cs,H=S ⟨g,0,N⟩/\g≠b/\aA w g cs 107/\∀i (h:i<ah ys),cs[i*4]?=S (aB (bs ys[i].name))/\cs[i*4+1]?=S (I J ys[i].bind)/\cs[i*4+2]?=S (I J ys[i].au)/\cs[i*4+3]?=S (I J ys[i].off)
theorem yX.kept{d:L dz}(h:yX w b H d)(k:Wk b w D):yX D b H d:=by
 intro e;obtain⟨g,a,f,c,i,j⟩:=h e;exact⟨g,a,f,c,k.2 g a _ c (by decide) i,j⟩
def yV(w:av)(b:M)(H:aR aY)(ys:L cg):Prop :=
 0<ah ys->∃g cs,H=S ⟨g,0,N⟩/\g≠b/\aA w g cs 75/\∀i (h:i<ah ys),cs[i*5]?=S (I J ys[i].au)/\cs[i*5+1]?=S (I J ys[i].off)/\cs[i*5+2]?=S (I J ys[i].kind)/\cs[i*5+3]?=S (I J ys[i].sym)/\cs[i*5+4]?=S (I J ys[i].bh)
theorem yV.kept{d:L cg}(h:yV w b H d)(k:Wk b w D):yV D b H d:=by
 intro e;obtain⟨g,a,f,c,i,j⟩:=h e;exact⟨g,a,f,c,k.2 g a _ c (by decide) i,j⟩
theorem SI{e:dm}{a:M}{f:L aC}(h:aV w base e a (ak H n cap) n f)(t:0<n)(l:∀g,eW (ak H n cap)=S g->g≠b):
  ∃g c,H=S ⟨g,0,N⟩/\g≠b/\aA w g c e/\∀j,j<n*a->c[j]?=f[j]?:=by
 rcases h.2 with ⟨r,s⟩|⟨g,i,c,k,_,p,_,_,m,d⟩
 ·omega
 ·simp only[Value.slice.injEq]at k;obtain⟨rfl,_,rfl⟩:=k;refine⟨g,c,R,l g R,p,λj q=>?_⟩;have e:(c.toList.take (n*a))[j]?=f[j]?:=by rw[d]
  rw[List.getElem?_take,aD q]at e;rw[<- Array.getElem?_toList,e]
theorem Lr{α:Type}(f:α->L aC)(a:M)(c:∀x,(f x).length=a)(l:L α):(l.flatMap f).length=ah l*a:=by
 induction l with
 |nil=>simp
 |cons y t d=>rw[List.flatMap_cons,bX,d,c,dA,Nat.succ_mul];omega
theorem yX.dh{ys:L dz}(h:aV w base 107 4 (ak H n cap) n (ys.flatMap gy))(k:∀g,eW (ak H n cap)=S g->g≠b):yX w b H ys:=by
 intro m;have p:=Lr gy 4 (λ_=>rfl) ys;have r:ah ys=n:=by have:=h.1;omega
 obtain⟨g,a,c,d,e,f⟩:=SI h (by omega) k;refine⟨g,a,c,d,e,λi l=>?_⟩;have q:=λj (a:j<4)=>(f (i*4+j) (by omega)).trans (yR gy 4 (λ_=>rfl) ys i j l a)
 exact⟨q 0 (by omega),q 1 (by omega),q 2 (by omega),q 3 (by omega)⟩
theorem yV.dh{ys:L cg}(h:aV w base 75 5 (ak H n cap) n (ys.flatMap jc))(k:∀g,eW (ak H n cap)=S g->g≠b):yV w b H ys:=by
 intro m;have p:=Lr jc 5 (λ_=>rfl) ys;have r:ah ys=n:=by have:=h.1;omega
 obtain⟨g,a,c,d,e,f⟩:=SI h (by omega) k;refine⟨g,a,c,d,e,λi l=>?_⟩;have q:=λj (a:j<5)=>(f (i*5+j) (by omega)).trans (yR jc 5 (λ_=>rfl) ys i j l a)
 exact⟨q 0 (by omega),q 1 (by omega),q 2 (by omega),q 3 (by omega),q 4 (by omega)⟩
theorem adQ(l:L aL):Lib.strCells (bs l)=my l:=by
 simp[Lib.strCells,my,bs]
theorem ab4(a b:L aL):my (a++b)=my a++my b:=by simp[my]
theorem mY(v:Z)(n:M)(c:Z)(a:c=(n:Z))(w:av)(d:n<=4):
  Calls prog 94 #[I J v,I J c] w λe D=>e=aH (aB (bs (bu v n)))/\az w D N:=by
 subst a;exact ags v n w d
theorem Ka(H:aR aY)(cap:M)(j:L Z)(w:av)(z:yq w H j)(F:ah j<=65535):
  Calls prog 95 #[ak H (ah j) cap] w λe D=>e=aH (aB (bs (dY j 4)))/\az w D N:=by
 obtain⟨Q,O,u,x,y⟩:=fG Tryz.Me;have B:=ae z;clear z;go_enter func95,ntmps95;go_wp2
 go_loopw [3,4] (λv i wr=>∃k:M,k<=ah j/\i = .int .i64 k/\(∃d:L aL,d=dY (j.take k) 4/\aV wr w.heap.size 5 1 v (ah d) (my d))/\az w wr N) (λ_ i _=>ah j-(aN i).toNat)
 case atStart=>exact⟨0,bG _,R,⟨[],by simp[dY],World.ownsRow_nil _ _ _ _⟩,aW _ _⟩
 case round=>
  obtain⟨k,Y,rfl,c,d⟩:=hrel;have q:=ae d;have p:=ae c;clear d c;by_cases m:k<ah j
  ·obtain⟨d,f,c⟩:=p.o;obtain⟨g,U,t,h⟩:=(B.o.kept (λa v h=>yd h q.o)) (by omega)
   subst t;have K:=h k m;have C:=ae (λW=>mY j[k] 4 4 rfl W (by omega));have E:ah d<=262140:=by rw[f,qh,List.length_take_of_le (by omega)];omega
   have V:=ae f;clear h f p;go_wp2_with fail;refine(C.o _).mono ?_;rintro e J ⟨rfl,r⟩;have l:=ae (ya q.o r);have h:=c.kept r (by cases eW _<;>simp);have P:=(ya q.o r).size;have f:(bs (bu j[k] 4)).size=4:=by rw[nK,dg]
   have s:=ae f;have G:(bs (bu j[k] 4)).size<=4:=by omega
   clear c r f;go_wp2_with (at_builtin;refine Lib.wpList_append_own_string _ R _ _ 164 9 rfl w.heap.size 5 Q underlying164 underlying9 O u x y _ (ah d) (my d) R h (bs (bu j[k] 4)) R (by unfold cu;omega) (by omega) (by omega) ?_;intro I X f c _)
   rw[adQ,s.o]at f;have A:=ae (show az w X N from ⟨c.os.trans l.o.os,c.tape.trans l.o.tape,c.output.trans l.o.output,fV l.o.size c.size,λi d _=>
    (c.block i (by omega) (λe=>by have:=(h.lt i e.symm).1;omega)).trans (l.o.block i d (by simp))⟩)
   have r:=ae f;clear c h f;go_wp2
   go_roundw
   case rel=>
    refine⟨k+1,by omega,by go_num,⟨d++bu j[k] 4,?_,?_⟩,A.o⟩
    ·rw[V.o,Kd j k 4 m]
    ·rw[bX,dg,ab4];exact r.o
   case measure=>simp[aN];omega
  ·obtain⟨d,f,c⟩:=p.o;rw[List.take_of_length_le (show (ah j)<=k by omega)]at f;subst f;obtain⟨r,l,h⟩:=yi c;subst h;have s:=RO c;clear p;go_wp2;go_ret;exact⟨R,q.o⟩
