import Derived.OrdersHeld
import Derived.KernelRfl
import Derived.Test.YtaldcojpkflgpaaGreatDoorRows
import Derived.WalkKit
import Derived.WalkSpells
import Derived.WalkLawsBesides
import Derived.Deep.QuietTactic
import Derived.BigQuiet
import Derived.Lib.Strings
import Derived.Deep.AppendLies
set_option maxHeartbeats 16000000
set_option maxRecDepth 100000
open Go.Value renaming int->I,string->aB,bool->aJ,pointer->aM,slice->ak
open Go.IntKind renaming i64->J
open _root_ renaming List->L,UInt8->aL,Int->Z,Nat->M,Bool->bc,if_pos->aD,rfl->R,Option->aR,Array->dJ,ByteArray->bT,if_neg->ax,beq_eq_false_iff_ne->df
open List renaming length->ah,length_cons->dA,drop_drop->uJ,mem_cons->nk,flatMap_cons->kX,append_assoc->cy,length_append->bX,getElem?_cons_zero->WE,length_take_of_le->E5
open Int renaming pow_succ->vH
open Bool renaming true->T,false->F,false_eq_true->pB
open Prod.mk renaming injEq->ny
open Prod renaming ext->nw
open Nat renaming add_assoc->wm,zero_le->bG,le_trans->fV,lt_of_lt_of_le->oc,not_lt_zero->ji,lt_succ_iff_lt_or_eq->jY,succ_mul->rG
open Option renaming some->S,none->N
open Go renaming Value->aC,World->av,TypeId->dm,Addr->aY,wpAnyH->Cj,wpAnyH_take->kt,info_parts->fG,wpList_append_own->jI,maxLen->cu,heap_alloc_new->rm,bodyPost_ret->bj
open Go.Region renaming noSelect->M7,free->M6,ready->M8,wanted->M9
open Go.Ending renaming returned->aH
open Go.World renaming grownBy->az,setCell->aK,cell?->aq,frozen?->dx,grownBy_alloc->aG,ownsRow->aV,ownsRow_nil->eO
open Array renaming getElem?_eq_some_iff->Mp
open Go.World.grownBy renaming refl->aW
open Go.RowKit renaming wrap64->iN,intOf->aN
open Go.IntWalk renaming wrap64_in->jt
open Go.Value.slice renaming injEq->jQ
namespace Go.Proofs.YtaldcojpkflgpaaGreatDoor
variable {l:L aL}
structure dz where
 name:L aL
 bind:Z
 au:Z
 off:Z
structure cg where
 au:Z
 off:Z
 kind:Z
 sym:Z
 bh:Z
structure aF where
 text:L Z
 bw:L Z
 data:L Z
 bf:Z
 align:L Z
 aE:L dz
 ay:L cg
def bu(v:Z):M->L aL
 |0=>[]
 |n+1=>UInt8.ofNat (v%256).toNat::bu (v/256) n
def gu:L aL->Z
 | []=>0
 |b::t=>(b.toNat:Z)+256*gu t
theorem dg(v:Z)(n:M):(bu v n).length=n:=by
 induction n generalizing v with
 |zero=>rfl
 |succ n a=>simp[bu,a]
theorem Au(l:L aL):0<=gu l:=by
 induction l with
 |nil=>simp[gu]
 |cons b t a=>simp[gu];omega
theorem Cx(l:L aL):gu l<(256:Z) ^ (ah l):=by
 induction l with
 |nil=>simp[gu]
 |cons b t c=>
  have a:b.toNat<256:=b.toNat_lt;simp only[gu,dA,vH];omega
theorem WL(b:aL):UInt8.ofNat b.toNat=b:=by simp
theorem WM(a b:L aL):gu (a++b)=gu a+(256:Z) ^ (ah a)*gu b:=by
 induction a with
 |nil=>simp[gu]
 |cons x t c=>
  simp only[List.cons_append,gu,c,dA,vH,Int.mul_add]
  have:(256:Z) ^ (ah t)*256*gu b=256*((256:Z) ^ (ah t)*gu b):=by
   rw[Int.mul_comm ((256:Z) ^ (ah t)) 256,Int.mul_assoc]
  omega
theorem I7(l:L aL):bu (gu l) (ah l)=l:=by
 induction l with
 |nil=>rfl
 |cons b t d=>
  have e:b.toNat<256:=b.toNat_lt;have a:((b.toNat:Z)+256*gu t)%256=b.toNat:=by omega
  have c:((b.toNat:Z)+256*gu t)/256=gu t:=by omega
  simp only[gu,dA,bu,a,c,d,Int.toNat_natCast,WL]
theorem Nz(v:Z)(n:M)(f:0<=v)(a:v<(256:Z) ^ n):gu (bu v n)=v:=by
 induction n generalizing v with
 |zero=>simp[bu,gu]at *;omega
 |succ n d=>
  have e:(256:Z) ^ (n+1)=256 ^ n*256:=vH ..;have b:v/256<(256:Z) ^ n:=by rw[e]at a;omega
  have c:(UInt8.ofNat (v%256).toNat).toNat=(v%256).toNat:=by
   rw[UInt8.toNat_ofNat'];omega
  simp only[bu,gu,d (v/256) (by omega) b,c];omega
def gq(y:dz):L aL:=bu (ah y.name) 1++(y.name++(bu y.bind 1++(bu y.au 1++bu y.off 2)))
def gD(r:cg):L aL:=bu r.au 1++(bu r.kind 1++(bu r.off 2++(bu r.sym 1++bu r.bh 2)))
def dY(l:L Z)(n:M):L aL:=l.flatMap (bu · n)
def iX(o:aF):L aL :=
 [76,75]++(bu (ah o.text) 2++(bu (ah o.bw) 2++(bu (ah o.data) 2++(bu o.bf 2++(dY o.align 1++(bu (ah o.aE) 1++(bu (ah o.ay) 1 ++
  (o.aE.flatMap gq++(o.ay.flatMap gD++(dY o.text 4++(dY o.bw 4++dY o.data 4)))))))))))
abbrev eK:=M×bc
def bZ(l:L aL)(n:M)(st:eK):L aL×eK :=
 if n<=ah l-st.1 then ((l.drop st.1).take n,(st.1+n,st.2))else ([],(st.1,T))
def bA(l:L aL)(n:M)(st:eK):Z×eK:=(gu (bZ l n st).1,(bZ l n st).2)
def ei(l:L aL)(size:M):M->eK->L Z×eK
 |0,st=>([],st)
 |c+1,st=>if st.2 then ([],st) else
   ((bA l size st).1::(ei l size c (bA l size st).2).1,(ei l size c (bA l size st).2).2)
def gf(l:L aL)(st:eK):dz×eK :=
 let a:=bA l 1 st
 let t:=bZ l a.1.toNat a.2
 let b:=bA l 1 t.2
 let c:=bA l 1 b.2
 let d:=bA l 2 c.2
 (⟨t.1,b.1,c.1,d.1⟩,d.2)
def oD(a:Z):Z:=if a≥32768 then a-65536 else a
def fQ(l:L aL)(st:eK):cg×eK :=
 let a:=bA l 1 st
 let b:=bA l 1 a.2
 let c:=bA l 2 b.2
 let d:=bA l 1 c.2
 let e:=bA l 2 d.2
 (⟨a.1,c.1,b.1,d.1,oD e.1⟩,e.2)
def dT{α:Type}(f:eK->α×eK):M->eK->L α×eK
 |0,st=>([],st)
 |c+1,st=>if st.2 then ([],st)else ((f st).1::(dT f c (f st).2).1,(dT f c (f st).2).2)
theorem NA(l:L aL)(a c:M)(st:eK):ei l a c st=dT (bA l a) c st:=by
 induction c generalizing st with
 |zero=>rfl
 |succ c b=>simp only[ei,dT,b]
def pJ(l:L aL)(st:eK):aF×eK :=
 let t:=bA l 2 st
 let f:=bA l 2 t.2
 let d:=bA l 2 f.2
 let b:=bA l 2 d.2
 let a:=ei l 1 4 b.2
 let s:=bA l 1 a.2
 let r:=bA l 1 s.2
 let ss:=dT (gf l) s.1.toNat r.2
 let rs:=dT (fQ l) r.1.toNat ss.2
 let tx:=ei l 4 t.1.toNat rs.2
 let fx:=ei l 4 f.1.toNat tx.2
 let tX:=ei l 4 d.1.toNat fx.2
 (⟨tx.1,fx.1,tX.1,b.1,a.1,ss.1,rs.1⟩,tX.2)
structure oC (l:L aL) {α:Type} (f:eK->α×eK) (enc:α->L aL) (good:α->Prop):Prop where
 mono:∀p,(f (p,T)).2.2=T
 sound:∀p x p',p<=l.length->f (p,F)=(x,(p',F))->p'<=l.length/\l.drop p=enc x++l.drop p'/\good x
 full:∀p x rest,p<=l.length->good x->l.drop p=enc x++rest->f (p,F)=(x,(p+(enc x).length,F))/\l.drop (p+(enc x).length)=rest/\p+(enc x).length<=l.length
theorem WJ{p:M}{a rest:L aL}(c:p<=ah l)(h:l.drop p=a++rest):
  (ah a)<=ah l-p/\(l.drop p).take (ah a)=a/\l.drop (p+ah a)=rest/\p+ah a<=ah l:=by
 have b:(l.drop p).length=(a++rest).length:=by rw[h]
 simp at b;refine⟨by omega,by rw[h];simp,?_,by omega⟩;rw[<- uJ,h];simp
theorem tN(l:L aL)(n:M):oC l (bZ l n) (λx=>x) (λx=>ah x=n) where
 mono p:=by unfold bZ;split<;>rfl
 sound p x p' hp h:=by
  unfold bZ at h;split at h
  ·simp only[ny]at h;obtain⟨rfl,rfl,_⟩:=h;simp only at *;refine⟨by omega,?_,by simp;omega⟩;rw[<- uJ];exact(List.take_append_drop n _).symm
  ·simp at h
 full p x rest hp hg h:=by
  obtain⟨a,b,c,d⟩:=WJ hp h;subst hg;refine⟨?_,c,d⟩;unfold bZ;simp only;rw[aD a,b]
theorem dE(l:L aL)(n:M):oC l (bA l n) (λv=>bu v n) (λv=>0<=v/\v<(256:Z) ^ n) where
 mono p:=by unfold bA;exact(tN l n).mono p
 sound p x p' hp h:=by
  unfold bA at h;simp only[ny]at h;obtain⟨d,i⟩:=h;have j:=(tN l n).sound p (bZ l n (p,F)).1 p' hp (by rw[<- i]);obtain⟨a,b,c⟩:=j;have g:=Au (bZ l n (p,F)).1;have f:=Cx (bZ l n (p,F)).1;have e:=I7 (bZ l n (p,F)).1;rw[c,d]at f e;rw[d]at g;exact⟨a,by rw[e];exact b,g,f⟩
 full p x rest hp hg h:=by
  have:=(tN l n).full p (bu x n) rest hp (dg _ _) h
  obtain⟨a,b,c⟩:=this;refine⟨?_,b,c⟩;unfold bA;rw[a];simp only[Nz x n hg.1 hg.2]
theorem we(l:L aL){α:Type}(f:eK->α×eK)(enc:α->L aL)(b:α->Prop)(a:oC l f enc b)(c:M):
  oC l (dT f c) (λa=>a.flatMap enc) (λa=>ah a=c/\∀x∈a,b x) where
 mono p:=by cases c<;>simp[dT]
 sound:=by
  induction c with
  |zero=>
   intro p x u i h;simp[dT]at h;obtain⟨rfl,rfl⟩:=h;simp[i]
  |succ c s=>
   intro p x u i h;simp only[dT,pB,if_false,ny]at h;obtain⟨v,w⟩:=h;have g:dT f c (f (p,F)).2=((dT f c (f (p,F)).2).1,(u,F)):=by rw[<- w]
   have d:(f (p,F)).2=((f (p,F)).2.1,F):=by
    cases j:(f (p,F)).2.2 with
    |false=>exact nw rfl j
    |true=>
     exfalso
     have e:(f (p,F)).2=((f (p,F)).2.1,T):=nw rfl j;rw[e]at g
     cases c with
     |zero=>simp[dT]at g
     |succ c=>simp[dT]at g
   obtain⟨m,n,o⟩:=a.sound p (f (p,F)).1 (f (p,F)).2.1 i (by rw[<- d]);rw[d]at g;obtain⟨q,j,k,t⟩:=s _ _ _ m g;rw[<- d]at j k t;subst v;refine⟨q,?_,by simp[k],?_⟩
   ·rw[n,j];simp
   ·intro x r;rcases nk.1 r with rfl|r
    ·exact o
    ·exact t x r
 full:=by
  induction c with
  |zero=>
   intro p x g i d h;obtain⟨d,_⟩:=d
   have:x=[]:=List.length_eq_zero_iff.1 d
   subst this;simp[dT]at *;exact⟨h,i⟩
  |succ c s=>
   intro p x g i d h;obtain⟨r,d⟩:=d
   match x,r with
   |y::t,r=>
    simp only[kX,cy]at h;obtain⟨m,n,o⟩:=a.full p y _ i (d y (by simp)) h;obtain⟨q,j,k⟩:=s _ t g o ⟨by simpa using r,λz a=>d z (by simp[a])⟩ n;simp only[dT,pB,if_false,m,q,kX,bX];rw[<- wm];exact⟨R,j,k⟩
theorem oC.back{α:Type}{f:eK->α×eK}{enc:α->L aL}{a:α->Prop}(R:oC l f enc a){st:eK}(h:(f st).2.2=F):st.2=F:=by
 obtain⟨p,b⟩:=st
 cases b with
 |false=>rfl
 |true=>have:=R.mono p;rw[this]at h;simp at h
theorem oC.go{α:Type}{f:eK->α×eK}{enc:α->L aL}{a:α->Prop}(R:oC l f enc a){st:eK}(d:st.1<=ah l)(c:st.2=F)(h:(f st).2.2=F):
  (f st).2.1<=ah l/\l.drop st.1=enc (f st).1++l.drop (f st).2.1/\a (f st).1:=by
 obtain⟨p,b⟩:=st;simp only at c d;subst c;exact R.sound p _ (f (p,F)).2.1 d (nw rfl (nw rfl h))
theorem oC.on{α:Type}{f:eK->α×eK}{enc:α->L aL}{d:α->Prop}(R:oC l f enc d){st:eK}(g:st.1<=ah l)(e:st.2=F){x:α}{rest:L aL}(i:d x)(h:l.drop st.1=enc x++rest):
  (f st).1=x/\(f st).2.2=F/\(f st).2.1=st.1+(enc x).length/\(f st).2.1<=ah l/\l.drop (f st).2.1=rest:=by
 obtain⟨p,b⟩:=st;simp only at e g h;subst e;obtain⟨a,b,c⟩:=R.full p x rest g i h;rw[a];exact⟨rfl,rfl,rfl,c,b⟩
def At(y:dz):Prop:=ah y.name<256/\(0<=y.bind/\y.bind<256)/\(0<=y.au/\y.au<256)/\0<=y.off/\y.off<65536
theorem oC.lq{α:Type}{f:eK->α×eK}{enc:α->L aL}{a:α->Prop}(R:oC l f enc a){st:eK}(h:st.2=T):(f st).2.2=T:=by
 obtain⟨p,b⟩:=st;simp only at h;subst h;exact R.mono p
theorem Fe(l:L aL):oC l (gf l) gq At where
 mono p:=by
  unfold gf;exact(dE l 2).lq ((dE l 1).lq ((dE l 1).lq ((tN l _).lq ((dE l 1).lq R))))
 sound p x p' hp h:=by
  unfold gf at h;simp only[ny]at h;obtain⟨g,f⟩:=h;generalize v:bA l 1 (p,F)=a at g f;generalize m:bZ l a.1.toNat a.2=t at g f;generalize i:bA l 1 t.2=b at g f;generalize j:bA l 1 b.2=c at g f;generalize k:bA l 2 c.2=d at g f;have G:d.2.2=F:=by rw[f]
  have u:c.2.2=F:=by rw[<- k]at G;exact(dE l 2).back G
  have s:b.2.2=F:=by rw[<- j]at u;exact(dE l 1).back u
  have r:t.2.2=F:=by rw[<- i]at s;exact(dE l 1).back s
  have N:a.2.2=F:=by rw[<- m]at r;exact(tN l _).back r
  have H:=(dE l 1).go (st:=(p,F)) hp R (by rw[v];exact N);rw[v]at H;have K:=(tN l a.1.toNat).go (st:=a.2) H.1 N (by rw[m];exact r);rw[m]at K;have O:=(dE l 1).go (st:=t.2) K.1 r (by rw[i];exact s);rw[i]at O;have P:=(dE l 1).go (st:=b.2) O.1 s (by rw[j];exact u);rw[j]at P;have Q:=(dE l 2).go (st:=c.2) P.1 u (by rw[k];exact G);rw[k]at Q;have E:d.2.1=p':=by rw[f]
  rw[E]at Q;obtain⟨U,w,S,y⟩:=H;obtain⟨V,z,W⟩:=K;obtain⟨X,A,Y,n⟩:=O;obtain⟨I,B,J,o⟩:=P;obtain⟨C,D,M,q⟩:=Q;simp only[Int.reducePow]at y n o q;subst g;have e:((t.1.length:Nat):Z)=a.1:=by rw[W];omega
  refine⟨C,?_,?_⟩
  ·simp only[gq,cy,e];rw[<- D,<- B,<- A,<- z,<- w]
  ·refine⟨?_,⟨Y,n⟩,⟨J,o⟩,M,q⟩;simp only;omega
 full p x rest hp hg h:=by
  obtain⟨N,⟨f,O⟩,⟨r,Q⟩,g,P⟩:=hg;simp only[gq,cy]at h;obtain⟨U,w,S,y,s⟩:=(dE l 1).on (st:=(p,F)) hp R (x:=(ah x.name:Z)) ⟨by omega,by simp only[Int.reducePow];omega⟩ h;generalize v:bA l 1 (p,F)=a at *;obtain⟨V,z,W,u,G⟩:=(tN l a.1.toNat).on (st:=a.2) y w (x:=x.name) (by rw[U];simp) s;generalize m:bZ l a.1.toNat a.2=t at *;obtain⟨X,A,Y,n,H⟩:=(dE l 1).on (st:=t.2) u z (x:=x.bind) ⟨f,by simp only[Int.reducePow];omega⟩ G;generalize i:bA l 1 t.2=b at *;obtain⟨I,B,J,o,K⟩:=(dE l 1).on (st:=b.2) n A (x:=x.au) ⟨r,by simp only[Int.reducePow];omega⟩ H
  generalize j:bA l 1 b.2=c at *;obtain⟨C,D,M,q,E⟩:=(dE l 2).on (st:=c.2) o B (x:=x.off) ⟨g,by simp only[Int.reducePow];omega⟩ K;generalize k:bA l 2 c.2=d at *;have e:d.2.1=p+(gq x).length:=by
   simp only[gq,bX,dg]at *;omega
  refine⟨?_,by rw[<- e];exact E,by rw[<- e];exact q⟩;unfold gf;simp only[v,m,i,j,k,V,X,I,C];exact nw rfl (nw e D)
def Cw(r:cg):Prop:=(0<=r.au/\r.au<256)/\(0<=r.kind/\r.kind<256)/\(0<=r.off/\r.off<65536)/\(0<=r.sym/\r.sym<256)/\-32768<=r.bh/\r.bh<32768
theorem Nw(v:Z)(n:M):bu (v+(256:Z) ^ n) n=bu v n:=by
 induction n generalizing v with
 |zero=>rfl
 |succ n c=>
  have e:(256:Z) ^ (n+1)=256 ^ n*256:=vH ..;have a:(v+(256:Z) ^ (n+1))%256=v%256:=by rw[e];omega
  have b:(v+(256:Z) ^ (n+1))/256=v/256+256 ^ n:=by rw[e];omega
  simp only[bu,a,b,c]
theorem WK(v:Z):bu (oD v) 2=bu v 2:=by
 unfold oD;split
 ·have:=Nw (v-65536) 2
  simp only[Int.reducePow]at this;rw[<- this]
  congr 1
  omega
 ·rfl
def tM(a:Z):Z:=if a<0 then a+65536 else a
theorem Ny(v:Z):bu (tM v) 2=bu v 2:=by
 unfold tM;split
 ·have:=Nw v 2
  simp only[Int.reducePow]at this;exact this
 ·rfl
theorem Fc(l:L aL):oC l (fQ l) gD Cw where
 mono p:=by
  simp only[fQ];refine(dE l 2).lq ?_;refine(dE l 1).lq ?_;refine(dE l 2).lq ?_;refine(dE l 1).lq ?_;refine(dE l 1).lq ?_;rfl
 sound p x p' hp h:=by
  unfold fQ at h;simp only[ny]at h;obtain⟨f,e⟩:=h;generalize v:bA l 1 (p,F)=a at f e;generalize k:bA l 1 a.2=t at f e;generalize g:bA l 2 t.2=b at f e;generalize i:bA l 1 b.2=c at f e;generalize j:bA l 2 c.2=d at f e;have G:d.2.2=F:=by rw[e]
  have u:c.2.2=F:=by rw[<- j]at G;exact(dE l 2).back G
  have s:b.2.2=F:=by rw[<- i]at u;exact(dE l 1).back u
  have r:t.2.2=F:=by rw[<- g]at s;exact(dE l 2).back s
  have N:a.2.2=F:=by rw[<- k]at r;exact(dE l 1).back r
  have H:=(dE l 1).go (st:=(p,F)) hp R (by rw[v];exact N);rw[v]at H;have K:=(dE l 1).go (st:=a.2) H.1 N (by rw[k];exact r);rw[k]at K;have O:=(dE l 2).go (st:=t.2) K.1 r (by rw[g];exact s);rw[g]at O;have P:=(dE l 1).go (st:=b.2) O.1 s (by rw[i];exact u);rw[i]at P;have Q:=(dE l 2).go (st:=c.2) P.1 u (by rw[j];exact G);rw[j]at Q;have E:d.2.1=p':=by rw[e]
  rw[E]at Q;obtain⟨U,w,V,m⟩:=H;obtain⟨W,y,X,n⟩:=K;obtain⟨Y,z,I,o⟩:=O;obtain⟨J,A,M,q⟩:=P;obtain⟨B,C,S,D⟩:=Q;simp only[Int.reducePow]at m n o q D;subst f;refine⟨B,?_,?_⟩
  ·simp only[gD,cy,WK];rw[<- C,<- A,<- z,<- y,<- w]
  ·refine⟨⟨V,m⟩,⟨X,n⟩,⟨I,o⟩,⟨M,q⟩,?_,?_⟩<;>simp only[oD]<;>split<;>omega
 full p x rest hp hg h:=by
  obtain⟨⟨s,hs1⟩,⟨f,N⟩,⟨r,T⟩,⟨u,hy1⟩,P,Q⟩:=hg;simp only[gD,cy]at h;obtain⟨U,w,V,m,H⟩:=(dE l 1).on (st:=(p,F)) hp R (x:=x.au) ⟨s,by simp only[Int.reducePow];omega⟩ h;generalize v:bA l 1 (p,F)=a at *;obtain⟨W,y,X,n,K⟩:=(dE l 1).on (st:=a.2) m w (x:=x.kind) ⟨f,by simp only[Int.reducePow];omega⟩ H;generalize k:bA l 1 a.2=t at *;obtain⟨Y,z,I,o,O⟩:=(dE l 2).on (st:=t.2) n y (x:=x.off) ⟨r,by simp only[Int.reducePow];omega⟩ K;generalize g:bA l 2 t.2=b at *;obtain⟨J,A,M,q,G⟩:=(dE l 1).on (st:=b.2) o z (x:=x.sym) ⟨u,by simp only[Int.reducePow];omega⟩ O
  generalize i:bA l 1 b.2=c at *;rw[<- Ny]at G;obtain⟨B,C,S,D,E⟩:=(dE l 2).on (st:=c.2) q A (x:=tM x.bh) ⟨by unfold tM;split<;>omega,by simp only[Int.reducePow];unfold tM;split<;>omega⟩ G;generalize j:bA l 2 c.2=d at *;have e:d.2.1=p+(gD x).length:=by
   simp only[gD,bX,dg]at *;omega
  refine⟨?_,by rw[<- e];exact E,by rw[<- e];exact D⟩;unfold fQ;simp only[v,k,g,i,j,U,W,Y,J,B];have hu:oD (tM x.bh)=x.bh:=by unfold oD tM;split<;>split<;>omega
  rw[hu];exact nw rfl (nw e C)
def yM(n:M)(xs:L Z):Prop:=∀x∈xs,0<=x/\x<(256:Z) ^ n
def As(o:aF):Prop :=
 (ah o.text)<65536/\(ah o.bw)<65536/\(ah o.data)<65536/\(0<=o.bf/\o.bf<65536)/\(ah o.align)=4/\yM 1 o.align /\
 (ah o.aE)<256/\(ah o.ay)<256/\(∀y∈o.aE,At y)/\(∀r∈o.ay,Cw r)/\yM 4 o.text/\yM 4 o.bw/\yM 4 o.data
def uN(o:aF):L aL :=
 bu (ah o.text) 2++(bu (ah o.bw) 2++(bu (ah o.data) 2++(bu o.bf 2++(dY o.align 1++(bu (ah o.aE) 1++(bu (ah o.ay) 1 ++
  (o.aE.flatMap gq++(o.ay.flatMap gD++(dY o.text 4++(dY o.bw 4++dY o.data 4))))))))))
theorem Nv(o:aF):iX o=[76,75]++uN o:=R
theorem lK(l:L aL)(n c:M):oC l (ei l n c) (λa=>dY a n) (λa=>ah a=c/\yM n a):=by
 have h:=we l (bA l n) _ _ (dE l n) c;have e:ei l n c=dT (bA l n) c:=funext λa=>NA l n c a
 rw[e];exact h
theorem I6(l:L aL):oC l (pJ l) uN As where
 mono p:=by
  simp only[pJ];refine(lK l 4 _).lq ?_;refine(lK l 4 _).lq ?_;refine(lK l 4 _).lq ?_;refine(we l _ _ _ (Fc l) _).lq ?_;refine(we l _ _ _ (Fe l) _).lq ?_;refine(dE l 1).lq ?_;refine(dE l 1).lq ?_;refine(lK l 1 _).lq ?_;refine(dE l 2).lq ?_;refine(dE l 2).lq ?_;refine(dE l 2).lq ?_;refine(dE l 2).lq ?_;rfl
 sound p x p' hp h:=by
  simp only[pJ,ny]at h;obtain⟨e,c⟩:=h;generalize e1:bA l 2 (p,F)=t at e c;generalize D:bA l 2 t.2=f at e c;generalize E:bA l 2 f.2=d at e c;generalize G:bA l 2 d.2=b at e c;generalize H:ei l 1 4 b.2=a at e c;generalize K:bA l 1 a.2=s at e c;generalize O:bA l 1 s.2=r at e c;generalize P:dT (gf l) s.1.toNat r.2=y at e c;generalize Q:dT (fQ l) r.1.toNat y.2=w at e c;generalize g:ei l 4 t.1.toNat w.2=z at e c;generalize i:ei l 4 f.1.toNat z.2=o at e c;generalize j:ei l 4 d.1.toNat o.2=C at e c;have n:C.2.2=F:=by rw[c]
  have m:o.2.2=F:=by rw[<- j]at n;exact(lK l 4 _).back n
  have k:z.2.2=F:=by rw[<- i]at m;exact(lK l 4 _).back m
  have f9:w.2.2=F:=by rw[<- g]at k;exact(lK l 4 _).back k
  have f8:y.2.2=F:=by rw[<- Q]at f9;exact(we l _ _ _ (Fc l) _).back f9
  have f7:r.2.2=F:=by rw[<- P]at f8;exact(we l _ _ _ (Fe l) _).back f8
  have f6:s.2.2=F:=by rw[<- O]at f7;exact(dE l 1).back f7
  have f5:a.2.2=F:=by rw[<- K]at f6;exact(dE l 1).back f6
  have f4:b.2.2=F:=by rw[<- H]at f5;exact(lK l 1 _).back f5
  have f3:d.2.2=F:=by rw[<- G]at f4;exact(dE l 2).back f4
  have f2:f.2.2=F:=by rw[<- E]at f3;exact(dE l 2).back f3
  have f1:t.2.2=F:=by rw[<- D]at f2;exact(dE l 2).back f2
  obtain⟨p1,X,g1⟩:=(dE l 2).go (st:=(p,F)) hp R (by rw[e1];exact f1);rw[e1]at p1 X g1;obtain⟨p2,Y,g2⟩:=(dE l 2).go (st:=t.2) p1 f1 (by rw[D];exact f2);rw[D]at p2 Y g2;obtain⟨p3,I,g3⟩:=(dE l 2).go (st:=f.2) p2 f2 (by rw[E];exact f3);rw[E]at p3 I g3;obtain⟨p4,J,g4⟩:=(dE l 2).go (st:=d.2) p3 f3 (by rw[G];exact f4);rw[G]at p4 J g4;obtain⟨p5,N,g5⟩:=(lK l 1 4).go (st:=b.2) p4 f4 (by rw[H];exact f5);rw[H]at p5 N g5;obtain⟨p6,S,g6⟩:=(dE l 1).go (st:=a.2) p5 f5 (by rw[K];exact f6);rw[K]at p6 S g6;obtain⟨p7,T,g7⟩:=(dE l 1).go (st:=s.2) p6 f6 (by rw[O];exact f7)
  rw[O]at p7 T g7;obtain⟨oT,d8,g8⟩:=(we l _ _ _ (Fe l) s.1.toNat).go (st:=r.2) p7 f7 (by rw[P];exact f8);rw[P]at oT d8 g8;obtain⟨oU,uW,g9⟩:=(we l _ _ _ (Fc l) r.1.toNat).go (st:=y.2) oT f8 (by rw[Q];exact f9);rw[Q]at oU uW g9;obtain⟨ph,V,q⟩:=(lK l 4 t.1.toNat).go (st:=w.2) oU f9 (by rw[g];exact k);rw[g]at ph V q;obtain⟨U,W,u⟩:=(lK l 4 f.1.toNat).go (st:=z.2) ph k (by rw[i];exact m);rw[i]at U W u;obtain⟨A,B,v⟩:=(lK l 4 d.1.toNat).go (st:=o.2) U m (by rw[j];exact n);rw[j]at A B v;have e13:C.2.1=p':=by rw[c]
  rw[e13]at A B;simp only[Int.reducePow]at g1 g2 g3 g4 g6 g7;have l1:((z.1.length:M):Z)=t.1:=by rw[q.1];omega
  have l2:((o.1.length:M):Z)=f.1:=by rw[u.1];omega
  have l3:((C.1.length:M):Z)=d.1:=by rw[v.1];omega
  have l4:((y.1.length:M):Z)=s.1:=by rw[g8.1];omega
  have oM:((w.1.length:M):Z)=r.1:=by rw[g9.1];omega
  subst e;refine⟨A,?_,?_⟩
  ·simp only[uN,cy,l1,l2,l3,l4,oM];rw[<- B,<- W,<- V,<- uW,<- d8,<- T,<- S,<- N,<- J,<- I,<- Y,<- X]
  ·refine⟨?_,?_,?_,g4,g5.1,g5.2,?_,?_,g8.2,g9.2,q.2,u.2,v.2⟩<;>simp only<;>omega
 full p x rest hp hg h:=by
  obtain⟨k1,k2,k3,k4,k5,k6,k7,k8,k9,v,k11,k12,k13⟩:=hg;simp only[uN,cy]at h;obtain⟨a1,b1,c1,p1,X⟩:=(dE l 2).on (st:=(p,F)) hp R (x:=(ah x.text:Z)) ⟨by omega,by simp only[Int.reducePow];omega⟩ h;generalize e1:bA l 2 (p,F)=t at *;obtain⟨a2,b2,c2,p2,Y⟩:=(dE l 2).on (st:=t.2) p1 b1 (x:=(ah x.bw:Z)) ⟨by omega,by simp only[Int.reducePow];omega⟩ X;generalize D:bA l 2 t.2=f at *;obtain⟨a3,b3,c3,p3,I⟩:=(dE l 2).on (st:=f.2) p2 b2 (x:=(ah x.data:Z)) ⟨by omega,by simp only[Int.reducePow];omega⟩ Y;generalize E:bA l 2 f.2=d at *;obtain⟨a4,b4,c4,p4,J⟩:=(dE l 2).on (st:=d.2) p3 b3 (x:=x.bf) ⟨k4.1,by simp only[Int.reducePow];omega⟩ I
  generalize G:bA l 2 d.2=b at *;obtain⟨a5,b5,c5,p5,N⟩:=(lK l 1 4).on (st:=b.2) p4 b4 (x:=x.align) ⟨k5,k6⟩ J;generalize H:ei l 1 4 b.2=a at *;obtain⟨a6,b6,c6,p6,S⟩:=(dE l 1).on (st:=a.2) p5 b5 (x:=(ah x.aE:Z)) ⟨by omega,by simp only[Int.reducePow];omega⟩ N;generalize K:bA l 1 a.2=s at *;obtain⟨a7,b7,c7,p7,T⟩:=(dE l 1).on (st:=s.2) p6 b6 (x:=(ah x.ay:Z)) ⟨by omega,by simp only[Int.reducePow];omega⟩ S;generalize O:bA l 1 s.2=r at *;obtain⟨a8,b8,c8,oT,d8⟩:=(we l _ _ _ (Fe l) s.1.toNat).on (st:=r.2) p7 b7 (x:=x.aE) ⟨by rw[a6];simp,k9⟩ T;generalize P:dT (gf l) s.1.toNat r.2=y at *
  obtain⟨a9,b9,c9,oU,uW⟩:=(we l _ _ _ (Fc l) r.1.toNat).on (st:=y.2) oT b8 (x:=x.ay) ⟨by rw[a7];simp,v⟩ d8;generalize Q:dT (fQ l) r.1.toNat y.2=w at *;obtain⟨e,n,c10,ph,V⟩:=(lK l 4 t.1.toNat).on (st:=w.2) oU b9 (x:=x.text) ⟨by rw[a1];simp,k11⟩ uW;generalize g:ei l 4 t.1.toNat w.2=z at *;obtain⟨k,q,c11,U,W⟩:=(lK l 4 f.1.toNat).on (st:=z.2) ph n (x:=x.bw) ⟨by rw[a2];simp,k12⟩ V;generalize i:ei l 4 f.1.toNat z.2=o at *;obtain⟨m,u,c12,A,B⟩:=(lK l 4 d.1.toNat).on (st:=o.2) U q (x:=x.data) ⟨by rw[a3];simp,k13⟩ W;generalize j:ei l 4 d.1.toNat o.2=C at *
  have c:C.2.1=p+(uN x).length:=by
   simp only[uN,bX,dg]at *;omega
  refine⟨?_,by rw[<- c];exact B,by rw[<- c];exact A⟩;simp only[pJ,e1,D,E,G,H,K,O,P,Q,g,i,j,a4,a5,a8,a9,e,k,m];exact nw rfl (nw c u)
def rC(l:L aL):aR aF :=
 if (bZ l 2 (0,F)).1=[76,75] then
  (if (pJ l (bZ l 2 (0,F)).2).2=(ah l,F)then S (pJ l (bZ l 2 (0,F)).2).1 else N)
 else N
theorem Fb(l:L aL)(o:aF):rC l=S o↔As o/\l=iX o:=by
 unfold rC;constructor
 ·intro h;split at h
  ·rename_i j;split at h
   ·rename_i c;simp only[Option.some.injEq]at h;generalize e:bZ l 2 (0,F)=t at *;have f:t.2.2=F:=(I6 l).back (by rw[c]);obtain⟨d,a,i⟩:=(tN l 2).go (st:=(0,F)) (bG _) R (by rw[e];exact f);rw[e]at d a i;obtain⟨q,b,g⟩:=(I6 l).go (st:=t.2) d f (by rw[c]);rw[h]at b g;rw[c]at b;rw[j]at a;simp only[List.drop_zero,List.drop_length,List.append_nil]at a b;exact⟨g,by rw[Nv,<- b];exact a⟩
   ·simp at h
  ·simp at h
 ·rintro⟨n,p⟩;have k:l.drop 0=[76,75]++uN o:=by rw[p,Nv];rfl
  obtain⟨f,i,r,d,a⟩:=(tN l 2).on (st:=(0,F)) (bG _) R (x:=[76,75]) (rest:=uN o) R k;generalize e:bZ l 2 (0,F)=t at *;obtain⟨g,j,s,q,b⟩:=(I6 l).on (st:=t.2) d i (x:=o) (rest:=[]) n (by simpa using a);rw[aD f];have c:(pJ l t.2).2.1=ah l:=by
   have m:(l.drop (pJ l t.2).2.1).length=0:=by rw[b];rfl
   simp at m;omega
  rw[aD (nw c j),g]
end Go.Proofs.YtaldcojpkflgpaaGreatDoor

namespace Go.Proofs.YtaldcojpkflgpaaGreatDoor
structure eZ where
 kind:M
 pos:M
 text:L aL
 n:M
def eZ.nil:eZ:=⟨0,0,[],0⟩
structure jF where
 p:M
 tok:eZ
 fe:M
 fa:M
 op:eZ
 au:M
 obj:aF
def mb(c:aL):bc:=decide (48<=c.toNat)&&decide (c.toNat<=57)
def gA(c:aL):bc:=(decide (97<=c.toNat)&&decide (c.toNat<=122)) ||c.toNat==95 ||mb c ||c.toNat==46
def wQ(c:aL):bc:=c.toNat==44 ||c.toNat==58 ||c.toNat==40 ||c.toNat==41 ||c.toNat==43 ||c.toNat==45
def na(c:aL):bc:=c.toNat==32 ||c.toNat==9
def uk(c:aL):bc:=!(c.toNat==10)
def ng(c:aL):bc:=c.toNat==10 ||c.toNat==35
def fP(f:aL->bc)(s:L aL)(p:M):M:=p+((s.drop p).takeWhile f).length
def Ud(ds:L aL):M:=ds.foldl (λn c=>10*n+(c.toNat-48)) 0
def Uc(s:L aL)(p:M):eZ×(M×M)×M :=
 if 10<((s.drop p).takeWhile mb).length then (eZ.nil,(5,p),p+10)
 else if ((s[fP mb s p]?).map gA).getD F then (eZ.nil,(2,fP mb s p),fP mb s p)
 else (⟨2,p,(s.drop p).takeWhile mb,Ud ((s.drop p).takeWhile mb)⟩,(0,0),fP mb s p)
def Hv(s:L aL)(q:M):eZ×(M×M)×M :=
 match s[q]? with
 |none=>(⟨4,q,[],0⟩,(0,0),q)
 |some c=>
  if ng c then (⟨4,q,[],0⟩,(0,0),q)
  else if mb c then Uc s q
  else if gA c then (⟨1,q,(s.drop q).takeWhile gA,0⟩,(0,0),fP gA s q)
  else if wQ c then (⟨3,q,[c],0⟩,(0,0),q+1)
  else (eZ.nil,(2,q),q)
def zT(s:L aL)(p:M):eZ×(M×M)×M:=Hv s (fP na s p)
def eZ.is(t:eZ)(c:L aL):bc:=t.kind==3&&t.text==c
def xW(s:L aL)(p:M):bc×M :=
 if fP uk s p<(ah s)then (T,fP uk s p+1)else (F,fP uk s p)
def bP(n:Z)(low count:M):M:=((n/(2:Z) ^ low)%(2:Z) ^ count).toNat
def qi:L M:=[0,1,1,2,3,4,4,4,4,4,4,3,5,3,3,3,3,3,6,6,6,6,6,6,6,7]
def pw:L M:=[0,55,23,111,103,99,4195,16483,20579,24675,28771,8195,8227,19,8211,16403,24595,28691,51,1073741875,8243,12339,16435,24627,28723,115]
def fF(form:M)(n:Z):M :=
 if form=1 then bP n 0 20*4096
 else if form=2 then bP n 20 1*2147483648 |||bP n 1 10*2097152 |||bP n 11 1*1048576 |||bP n 12 8*4096
 else if form=3 then bP n 0 12*1048576
 else if form=4 then bP n 12 1*2147483648 |||bP n 5 6*33554432 |||bP n 1 4*256 |||bP n 11 1*128
 else if form=5 then bP n 5 7*33554432 |||bP n 0 5*128
 else 0
def pz(form:M):bc:=form==1 ||form==2 ||form==3 ||form==6
def px(form:M):bc:=form==3 ||form==4 ||form==5 ||form==6
def qR(form:M):bc:=form==4 ||form==5 ||form==6
def kW(form fixed:M)(rd dF eG:M)(n:Z):M :=
 let w0:=fixed |||fF form n
 let w1:=if pz form then w0 |||bP rd 0 5*128 else w0
 let w2:=if px form then w1 |||bP dF 0 5*32768 else w1
 if qR form then w2 |||bP eG 0 5*1048576 else w2
def fz(op rd dF eG:M)(n:Z):M:=kW (qi.getD op 0) (pw.getD op 0) rd dF eG n
def jN(v:Z):Z:=if v%4096<2048 then v%4096 else v%4096-4096
def ir(v:Z):Z:=(v-jN v)/4096%1048576
open Go.RowKit Go.Proofs.Tryz
variable {P:Program} {Y:Region.Mode} {v:aC} {U b p base size n cap:M} {O:dJ bc} {w a G wr X:av} {s:bT} {A:bc} {e:dm} {xs:L aC} {V:aR aY}
theorem dw{d:dJ Oper}{Q:Exit->Act->av->Prop}{S:av->Prop}{i:M}{f:Oper}{a:Act}(l:d[i]?=some f)(r:∀w,S w->(execOp a.eval f).run P w = .ok (.value v) w)(j:S w)(h:Cj P Y d Q S U (O.setIfInBounds i T) (a.put f.dst v) w)(o:M7 d=T:=by kernel_rfl)(k:M6 Y d O i=T:=by kernel_rfl)(m:(M8 Y d O).contains i=T:=by kernel_rfl)(q:M9 f (yielded d a.tmps)=T:=by kernel_rfl)(g:∀c a w,Q (.panic c) (a.put f.dst v) w->Q (.panic c) a w:=by exact λ_ _ _ h=>h):Cj P Y d Q S (U+1) O a w:=kt l o k m g (Or.inl ⟨q,r⟩) j h
theorem ly{d:dJ Oper}{Q:Exit->Act->av->Prop}{S:av->Prop}{i:M}{f:Oper}{a:Act}(l:d[i]?=some f)(j:S w)(h:Cj P Y d Q S U (O.setIfInBounds i T) (a.put f.dst undef) w)(o:M7 d=T:=by kernel_rfl)(k:M6 Y d O i=T:=by kernel_rfl)(m:(M8 Y d O).contains i=T:=by kernel_rfl)(q:M9 f (yielded d a.tmps)=F:=by kernel_rfl)(g:∀c a w,Q (.panic c) (a.put f.dst undef) w->Q (.panic c) a w:=by exact λ_ _ _ h=>h):Cj P Y d Q S (U+1) O a w:=kt l o k m g (Or.inr ⟨q,R⟩) j h
theorem bL:type_of% @WE:=@WE
def Hd(p:Prop):Prop:=p
theorem Hd.o{p:Prop}(h:Hd p):p:=h
def sl(s:bT):L aL:=s.data.toList
def bs(l:L aL):bT:=⟨l.toArray⟩
theorem iD(s:bT):(sl s).length=s.size:=by unfold sl;rw[Array.length_toList];rfl
theorem nK(l:L aL):(bs l).size=ah l:=by simp[bs,ByteArray.size]
theorem ou(l:L aL):sl (bs l)=l:=by simp[sl,bs]
theorem Lb(s:bT):bs (sl s)=s:=by simp[sl,bs]
theorem DB(s:bT)(a b:M):s.extract a b=bs (((sl s).drop a).take (b-a)):=Lib.extract_eq s a b
theorem fY{k:IntKind}{a b:Z}(h:a=b):aH (.int k a)=aH (.int k b):=by rw[h]
theorem AB{a b:bT}(h:a=b):aH (aB a)=aH (aB b):=by rw[h]
theorem ae{p:Prop}(h:p):Hd p:=h
theorem qg{d:dJ Oper}{Q:Exit->Act->av->Prop}{S:av->Prop}{g:Oper}{a:Act}(k:d[d.size-(U+1)]?=some g)
  (f:(M7 d&&(M6 Y d O (d.size-(U+1))&&((M8 Y d O).contains (d.size-(U+1))&&M9 g (yielded d a.tmps))))=T)
  (i:∀c a w,Q (.panic c) (a.put g.dst v) w->Q (.panic c) a w) (j:S w) (l:∀w,S w->(execOp a.eval g).run P w = .ok (.value v) w)
  (h:Cj P Y d Q S U (O.setIfInBounds (d.size-(U+1)) T) (a.put g.dst v) w):Cj P Y d Q S (U+1) O a w:=by
 simp only[Bool.and_eq_true]at f;exact kt k f.1 f.2.1 f.2.2.1 i (Or.inl ⟨f.2.2.2,l⟩) j h
theorem ya{b c:av}{d:aR M}(h:az a b d)(k:az b c d):az a c d :=
 ⟨k.os.trans h.os,k.tape.trans h.tape,k.output.trans h.output,fV h.size k.size,λi d f=>(k.block i (oc d h.size) f).trans (h.block i d f)⟩
theorem Sl{b:av}{c:aR M}(h:az a b N):az a b c:=⟨h.os,h.tape,h.output,h.size,λi c _=>h.block i c (by simp)⟩
theorem ye{b:av}{d:aR M}(h:az a b d)(n:M):az a (b.drewN n) d:=by
 induction n with
 |zero=>exact h
 |succ n c=>exact⟨c.os,c.tape,c.output,c.size,c.block⟩
theorem Kk{b:av}{c:aR M}(h:az a b c){B:M}(d:B<=a.heap.size)(f:∀k,c=S k->B<=k):Below B a b :=
 (Below.refl B a).grown h d f
theorem bK(w:av)(b o:M)(v:aC):az w (aK w ⟨b,o,N⟩ v) (S b) :=
 ⟨R,R,R,by simp[aK],λk _ c=>Below.heap_setCell _ _ _ _ (by simpa using c)⟩
theorem Rz(w:av)(n:M):(w.drewN n).heap=w.heap:=by
 induction n with
 |zero=>rfl
 |succ n c=>exact c
def cZ(w:av)(b:M)(s:bT)(p:M)(A:bc):Prop :=
 w.heap[b]?=S (.cells #[aB s,I J p,aJ A] 99 (0,0))
theorem cZ.lt(h:cZ w b s p A):b<w.heap.size:=(Mp.1 h).1
theorem cZ.c0(h:cZ w b s p A):aq w ⟨b,0,N⟩=S (aB s):=by simp[aq,show w.heap[b]?=_ from h]
theorem cZ.c1(h:cZ w b s p A):aq w ⟨b,1,N⟩=S (I J p):=by simp[aq,show w.heap[b]?=_ from h]
theorem cZ.c2(h:cZ w b s p A):aq w ⟨b,2,N⟩=S (aJ A):=by simp[aq,show w.heap[b]?=_ from h]
theorem cZ.free(h:cZ w b s p A)(o:M):dx w ⟨b,o,N⟩=F:=by simp[dx,show w.heap[b]?=_ from h]
theorem cZ.grown(h:cZ w b s p A){c:aR M}(f:az w G c)(d:S b≠c):cZ G b s p A :=
 (f.block b h.lt d).trans h
theorem cZ.drewN(h:cZ w b s p A)(n:M):cZ (w.drewN n) b s p A:=by
 unfold cZ;rw[Rz];exact h
theorem Dl{o:M}{c:dJ aC}{t:dm}(h:w.heap[b]?=S (.cells c t (0,0)))(v:aC):
  (aK w ⟨b,o,N⟩ v).heap[b]?=S (.cells (c.setIfInBounds o v) t (0,0)):=by
 simp[aK,Array.getElem?_modify,h]
theorem cZ.ZE(h:cZ w b s p A)(q:M):cZ (aK w ⟨b,1,N⟩ (I J q)) b s q A:=by
 have:=Dl (o:=1) h (I J q)
 simpa[cZ]using this
theorem cZ.ZF(h:cZ w b s p A)(q:bc):cZ (aK w ⟨b,2,N⟩ (aJ q)) b s p q:=by
 have:=Dl (o:=2) h (aJ q)
 simpa[cZ]using this
theorem Gb(b:M)(s:bT)(p:M)(A:bc)(w:av)(h:cZ w b s p A):
  Calls prog 205 #[aM (S ⟨b,0,N⟩)] w λe G=>e=aH (aJ A)/\G=w:=by
 have c:=h.c2;clear h;go_enter func205,ntmps205;go_wp2;go_ret;exact⟨R,R⟩
theorem Lo(b:M)(s:bT)(p:M)(A:bc)(w:av)(h:cZ w b s p A):
  Calls prog 44 #[aM (S ⟨b,0,N⟩)] w λe G=>e=aH (aJ (!A&&decide (p=s.size)))/\∃k,G=w.drewN k:=by
 have c:=h.c0;have d:=h.c1;have f:=h.c2;clear h
 cases A
 ·go_enter func44,ntmps44;go_wp2
  go_quiet (fail)
  go_wp2;go_ret;refine⟨?_,_,R⟩
  have:((p:Z)==(s.size:Z))=decide (p=s.size):=by rw[Bool.eq_iff_iff];simp;omega
  simp[this]
 ·go_enter func44,ntmps44;go_wp2
  go_quiet (fail)
  go_wp2;go_ret;exact⟨R,_,R⟩
theorem afR(b:M)(s:bT)(p n:M)(A:bc)(w:av)(h:cZ w b s p A)
  (o:s.size<=1048576) (m:p<=s.size) (d:n<=s.size-p) :
  Calls prog 88 #[aM (S ⟨b,0,N⟩),I J n] w λe G=>e=aH (aB (bs (bZ (sl s) n (p,A)).1))/\cZ G b s (bZ (sl s) n (p,A)).2.1 (bZ (sl s) n (p,A)).2.2/\az w G (S b):=by
 have c:bZ (sl s) n (p,A)=(((sl s).drop p).take n,(p+n,A)):=by
  unfold bZ;rw[aD (by rw[iD];exact d)]
 rw[c];clear c;have j:=h.c0;have k:=h.c1;have c:=h.free 1;have R:Hd (cZ w b s p A):=h;clear h;have f:(0:Z)<=n:=by omega
 have g:(n:Z)<=(s.size:Z)-p:=by omega
 have i:(p:Z)+n<=s.size:=by omega
 have l:decide ((n:Z)<0)=F:=by simp
 go_enter func88,ntmps88;go_wp2
 go_quiet (fail)
 go_wp2
 go_quiet (fail)
 go_wp2;go_ret;refine⟨AB ?_,?_,?_⟩
 ·rw[DB,Nat.add_sub_cancel_left]
 ·exact((R.o.drewN _).ZE (p+n)).drewN _
 ·exact ye (ya (ye (aW _ _) _) (bK _ _ _ _)) _
theorem agE(b:M)(s:bT)(p n:M)(A:bc)(w:av)(h:cZ w b s p A)
  (_:s.size<=1048576) (_:p<=s.size) (_:n<=1048576) (l:s.size-p<n) :
  Calls prog 88 #[aM (S ⟨b,0,N⟩),I J n] w λe G=>e=aH (aB (bs (bZ (sl s) n (p,A)).1))/\cZ G b s (bZ (sl s) n (p,A)).2.1 (bZ (sl s) n (p,A)).2.2/\az w G (S b):=by
 have c:bZ (sl s) n (p,A)=([],(p,T)):=by
  unfold bZ;rw[ax (by rw[iD];omega)]
 rw[c];clear c;have g:=h.c0;have i:=h.c1;have j:=h.c2;have c:=h.free 2;have R:Hd (cZ w b s p A):=h;clear h;have d:(0:Z)<=n:=by omega
 have f:(s.size:Z)-p<n:=by omega
 have k:decide ((n:Z)<0)=F:=by simp
 go_enter func88,ntmps88;go_wp2
 go_quiet (fail)
 go_wp2;go_ret;refine⟨rfl,?_,?_⟩
 ·exact(R.o.drewN _).ZF T
 ·exact ya (ye (aW _ _) _) (bK _ _ _ _)
theorem S9(b:M)(s:bT)(p n:M)(A:bc)(w:av)(h:cZ w b s p A)
  (d:s.size<=1048576) (c:p<=s.size) (f:n<=1048576) :
  Calls prog 88 #[aM (S ⟨b,0,N⟩),I J n] w λe G=>e=aH (aB (bs (bZ (sl s) n (p,A)).1))/\cZ G b s (bZ (sl s) n (p,A)).2.1 (bZ (sl s) n (p,A)).2.2/\az w G (S b):=by
 by_cases g:n<=s.size-p
 ·exact afR b s p n A w h d c g
 ·exact agE b s p n A w h d c f (by omega)
theorem aaB(l:L aL)(k:M)(c:k<ah l):gu (l.take (k+1))=gu (l.take k)+(l[k].toNat:Z)*(256:Z) ^ k:=by
 rw[List.take_succ_eq_append_getElem c,WM,E5 (by omega)];simp[gu,Int.mul_comm]
theorem GY(k:M)(h:k<=4):1<=(256:Z) ^ k/\(256:Z) ^ k<=4294967296:=by
 rcases (show k=0\/k=1\/k=2\/k=3\/k=4 from by omega)with rfl|rfl|rfl|rfl|rfl<;>decide
theorem afk(d:L aL)(k:M)(f:k<ah d)(r:ah d<=4)(i:k<(bs d).size):
  iN (gu (d.take k)+iN (iN (((bs d)[k]'i).toNat:Z)*(256:Z) ^ k))=gu (d.take (k+1)):=by
 have q:=Au (d.take k);have j:=Cx (d.take k);rw[E5 (by omega)]at j;have l:=GY k (by omega);have g:=aaB d k f;have m:(((bs d)[k]'i).toNat:Z)=((d[k]'f).toNat:Z):=R;have o:((d[k]'f).toNat:Z)<256:=by have:=(d[k]'f).toNat_lt;omega
 rw[m];generalize t:((d[k]'f).toNat:Z)=c at o g;have h:(0:Z)<=c:=by omega
 have x:c*(256:Z) ^ k<=255*4294967296:=Int.mul_le_mul (by omega) l.2 (by omega) (by omega);have u:(0:Z)<=c*(256:Z) ^ k:=Int.mul_nonneg h (by omega);rw[jt c ⟨by omega,by omega⟩,jt (c*(256:Z) ^ k) ⟨by omega,by omega⟩,jt _ ⟨by omega,by omega⟩,g]
theorem R9(b:M)(s:bT)(p n:M)(A:bc)(w:av)(h:cZ w b s p A)
  (y:s.size<=1048576) (x:p<=s.size) (D:n<=4) :
  Calls prog 89 #[aM (S ⟨b,0,N⟩),I J n] w λe G=>e=aH (I J (bA (sl s) n (p,A)).1)/\cZ G b s (bA (sl s) n (p,A)).2.1 (bA (sl s) n (p,A)).2.2/\az w G (S b):=by
 have c:=S9 b s p n A w h y x (by omega);unfold bA;have g:(bZ (sl s) n (p,A)).1.length<=4:=by
  unfold bZ;split
  ·simp;omega
  ·simp
 generalize bZ (sl s) n (p,A)=r at c g;obtain⟨f,m⟩:=r;simp only at c g ⊢;clear h;have C:=ae c;clear c;go_enter func89,ntmps89;go_wp2_with fail;refine C.o.mono ?_;rintro e G ⟨rfl,l,j⟩;have d:Hd (cZ G b s m.1 m.2/\az w G (S b)):=⟨l,j⟩
 clear l j C;go_wp2_with fail;have E:=nK f
 go_loop [6,7,8] (λt u i=>∃k:M,k<=ah f/\i=I J k/\u=I J ((256:Z) ^ k)/\t=I J (gu (f.take k))) (λ_ _ i=>ah f-(aN i).toNat)
 case atStart=>exact⟨0,bG _,R,R,R⟩
 case round=>
  obtain⟨k,q,rfl,rfl,rfl⟩:=hrel;have z:=Au (f.take k);have o:=Cx (f.take k);rw[E5 q]at o;have B:=GY k (by omega);by_cases j:k<ah f
  ·have l:k<(bs f).size:=by omega
   go_wp2
   go_round
   case rel=>exact⟨k+1,by omega,by go_num,by rw[vH],by rw[afk f k j g]⟩
   case measure=>simp[aN];omega
  ·go_wp2;go_ret;exact⟨fY (by rw[List.take_of_length_le (by omega)]),d.o.1,d.o.2⟩
theorem Tryz.pR:(Tryz.prog.info? 3).map (λi=>(i.zero,i.size,i.bytes))=S (S (I J 0),1,8):=by kernel_rfl
theorem Tryz.L9:(Tryz.prog.info? 107).map (λi=>(i.zero,i.size,i.bytes))=S (S (.agg #[aB ⟨#[]⟩,I J 0,I J 0,I J 0]),4,40):=by kernel_rfl
theorem Tryz.Mm:(Tryz.prog.info? 75).map (λi=>(i.zero,i.size,i.bytes))=S (S (.agg #[I J 0,I J 0,I J 0,I J 0,I J 0]),5,40):=by kernel_rfl
theorem zi(l:L aL)(n:M)(st:eK)(h:st.1<=ah l):(bZ l n st).2.1<=ah l:=by
 unfold bZ;split<;>simp<;>omega
theorem gU(l:L aL)(n:M)(st:eK)(h:st.1<=ah l):(bA l n st).2.1<=ah l:=zi l n st h
theorem tD{c:aR M}(h:az w wr (S b))(k:az wr X c)(f:∀g,c=S g->w.heap.size<=g):az w X (S b) :=
 ⟨k.os.trans h.os,k.tape.trans h.tape,k.output.trans h.output,fV h.size k.size,λi c d=>
  (k.block i (oc c h.size) (λe=>by have:=f i e.symm;omega)).trans (h.block i c d)⟩
theorem Tj{o:Obj}{d:aR M}(k:b<w.heap.size)(i:az w wr (S b))(j:cZ wr b s p A)(h:(wr.alloc o).grownBy X d)(c:∀g,d=S g->w.heap.size<=g):
  cZ X b s p A/\az w X (S b):=by
 have f:az wr (wr.alloc o) N:=aG wr o N;refine⟨(j.grown f (by simp)).grown h (λe=>by have:=c b e.symm;omega),?_⟩;exact tD (tD i f (by simp)) h c
theorem xg(h:aV w base e size v n xs)(f:b<base)(c:az w G (S b)):aV G base e size v n xs :=
 h.kept c (by
  cases d:v.ownBlock with
  |none=>exact .inl R
  |some g=>right;have:=(h.lt g d).1;simp;omega)
theorem abK(l:L aL)(n:M)(st:eK)(h:n<=4):0<=(bA l n st).1/\(bA l n st).1<4294967296:=by
 unfold bA;have c:=Au (bZ l n st).1;have f:=Cx (bZ l n st).1;have d:(bZ l n st).1.length<=4:=by
  unfold bZ;split
  ·simp;omega
  ·simp
 have:=GY _ d
 exact⟨c,by omega⟩
theorem aai(b:M)(s:bT)(p c size:M)(A:bc)(w:av)(h:cZ w b s p A)
  (hs:s.size<=1048576) (hp:p<=s.size) (hc:c<=65535) (hm:size<=4) :
  Calls prog 90 #[aM (S ⟨b,0,none⟩),I J c,I J size] w λe G=>∃v,e=aH v /\
   aV G w.heap.size 3 1 v (ei (sl s) size c (p,A)).1.length ((ei (sl s) size c (p,A)).1.map (I .i64)) /\
   cZ G b s (ei (sl s) size c (p,A)).2.1 (ei (sl s) size c (p,A)).2.2/\az w G (S b):=by
 obtain⟨i0,hi,N,T,Z⟩:=fG Tryz.pR;have hb:=h.lt;have H:=ae h;clear h;go_enter func90,ntmps90;go_wp2_with fail
 go_loopw [7,8] (λv i wr=>∃(k:M) (j:List Int) (f:eK),k<=c/\i=I J k/\(ah j)=k/\f.1<=s.size /\
   aV wr w.heap.size 3 1 v (ah j) (j.map (I .i64))/\cZ wr b s f.1 f.2/\az w wr (S b) /\
   ei (sl s) size c (p,A)=(j++(ei (sl s) size (c-k) f).1,(ei (sl s) size (c-k) f).2)) (λ_ i _=>c-(aN i).toNat)
 case atStart=>exact⟨0,[],(p,A),bG _,R,R,hp,eO _ _ _ _,H.o,aW _ _,by simp⟩
 case round=>
  obtain⟨k,j,f,hk,rfl,C,D,m,d,t,l⟩:=hrel;have B:=ae l;have HA:=ae C;clear l;by_cases hlt:k<c
  ·cases o:f.2
   ·rw[o]at d;have q:c-k=(c-(k+1))+1:=by omega
    have L:=abK (sl s) size (f.1,F) hm;have y:=gU (sl s) size (f.1,F) (by rw[iD];exact D);have z:=ae (R9 b s f.1 size F wr d hs D hm);have HN:=ae (show ei (sl s) size (c-k) f=((bA (sl s) size (f.1,F)).1::(ei (sl s) size (c-(k+1)) (bA (sl s) size (f.1,F)).2).1,(ei (sl s) size (c-(k+1)) (bA (sl s) size (f.1,F)).2).2)from by
     rw[q];have e:f=(f.1,F):=nw rfl o;rw[e];rfl)
    rw[iD]at y;clear q o;generalize bA (sl s) size (f.1,F)=r at *;obtain⟨x,st'⟩:=r;simp only at z HN L y;have k2:=d.c2;have q:=ae d;clear d;have Im:ah j<=65535:=by omega
    go_wp2_with fail;refine z.o.mono ?_;rintro e w2 ⟨rfl,xS,W⟩;have l:=xg m hb W;have uc:=ya t W;have Q:=ae xS;have E:=ae uc;have hsz:=uc.size;clear xS W uc m t q k2 z;go_wp2_with (at_builtin;refine jI _ R _ _ 23 rfl w.heap.size 3 i0 (I J 0) 1 8 underlying23 hi N T Z R (by decide) _ _ _ R (l.alloc _) ⟨w2.heap.size,0,none⟩ 1 1 [I J x] rfl rfl (cell_one_new _ _ _) (by intro u q;simp at q;subst q;rfl) (by unfold cu;omega) (by omega) (by simp;omega) ?_;intro W w3 z q _)
    have K:=Tj hb E.o Q.o q (λg c=>(l.lt g c).1);clear q l;go_wp2
    go_roundw
    case rel=>
     refine⟨k+1,j++[x],st',by omega,by go_num,by simp[HA.o],y,?_,K.1,K.2,?_⟩
     ·simpa using z
     ·rw[B.o,HN.o];simp
    case measure=>simp[aN];omega
   ·rw[o]at d;have l:ei (sl s) size c (p,A)=(j,(f.1,true)):=by
     have q:c-k=(c-(k+1))+1:=by omega
     rw[B.o,q];have e:f=(f.1,true):=nw rfl o;rw[e];simp[ei]
    have y:=ae l;clear l o B;have k2:=d.c2;have q:=ae d;clear d;go_wp2;go_ret;rw[y.o];exact⟨_,R,m,q.o,t⟩
  ·have l:ei (sl s) size c (p,A)=(j,f):=by
    have q:c-k=0:=by omega
    rw[B.o,q];simp[ei]
   have y:=ae l;clear l B;have q:=ae d;clear d;have l:decide ((k:Int)<(c:Int))=F:=by simp;omega
   go_wp2;go_ret;rw[y.o];exact⟨_,R,m,q.o,t⟩
def aA(w:av)(g:M)(cs:dJ aC)(t:dm):Prop:=w.heap[g]?=S (.cells cs t (0,0))
section
variable{w G:av}{g:M}{a:dJ aC}{t:dm}
theorem aA.lt(h:aA w g a t):g<w.heap.size:=(Mp.1 h).1
theorem aA.cell(h:aA w g a t)(o:M):aq w ⟨g,o,N⟩=a[o]?:=by simp[aq,show w.heap[g]?=_ from h]
theorem aA.free(h:aA w g a t)(o:M):dx w ⟨g,o,N⟩=F:=by simp[dx,show w.heap[g]?=_ from h]
theorem aA.set(h:aA w g a t)(o:M)(v:aC):aA (aK w ⟨g,o,N⟩ v) g (a.setIfInBounds o v) t:=Dl h v
theorem aA.grown(h:aA w g a t){c:aR M}(f:az w G c)(d:S g≠c):aA G g a t:=(f.block g h.lt d).trans h
theorem aA.new(w:av)(a:dJ aC)(t:dm):aA (w.alloc (.cells a t)) w.heap.size a t:=rm w _
theorem aA.drewN(h:aA w g a t)(n:M):aA (w.drewN n) g a t:=by unfold aA;rw[Rz];exact h
end
theorem Calls.fK{f:M}{c:dJ aC}{K:Ending->av->Prop}(R:av->Prop)(d:R w)(h:∀w,R w->Calls P f c w K):Calls P f c w K:=h w d
structure lx (w:av) (b:M) (s:bT) (t:dm) (zs:dJ aC) (p:M) (A:bc) (cs:dJ aC) (W:av):Prop where
 rd:cZ W b s p A
 own:aA W (w.heap.size+1) cs t
 eV:aA W w.heap.size zs t
 gr:w.grownBy W (S b)
section
variable{w W g:av}{b:M}{s:bT}{t:dm}{a d:dJ aC}{p i:M}{A e:bc}
theorem lx.begin(h:cZ w b s p A):lx w b s t a p A d ((w.alloc (.cells a t)).alloc (.cells d t)):=by
 refine⟨(h.grown (aG w _ N) (by simp)).grown (aG _ _ N) (by simp),?_,?_,?_⟩
 ·have:=aA.new (w.alloc (.cells a t)) d t
  simpa using this
 ·exact(aA.new w a t).grown (aG _ _ N) (by simp)
 ·exact ya (aG _ _ _) (aG _ _ _)
theorem lx.call(h:lx w b s t a p A d W)(j:b<w.heap.size)(f:cZ g b s i e)(c:az W g (S b)):lx w b s t a i e d g :=
 ⟨f,h.own.grown c (by simp;omega),h.eV.grown c (by simp;omega),ya h.gr c⟩
theorem lx.store(h:lx w b s t a p A d W)(c:b<w.heap.size)(o:M)(v:aC):lx w b s t a p A (d.setIfInBounds o v) (aK W ⟨w.heap.size+1,o,N⟩ v) :=
 ⟨h.rd.grown (bK W (w.heap.size+1) o v) (by simp;omega),h.own.set o v,h.eV.grown (bK W (w.heap.size+1) o v) (by simp),tD h.gr (bK W (w.heap.size+1) o v) (by simp)⟩
theorem lx.put(h:lx w b s t a p A d W)(c:b<w.heap.size)(o:M)(v:aC):lx w b s t (a.setIfInBounds o v) p A d (aK W ⟨w.heap.size,o,N⟩ v) :=
 ⟨h.rd.grown (bK W w.heap.size o v) (by simp;omega),h.own.grown (bK W w.heap.size o v) (by simp),h.eV.set o v,tD h.gr (bK W w.heap.size o v) (by simp)⟩
end
theorem ko(b:M)(s:bT)(p n:M)(m:Z)(c:m=(n:Z))(A:bc)(w:av)(h:cZ w b s p A)
  (g:s.size<=1048576) (f:p<=s.size) (d:n<=4) :
  Calls prog 89 #[aM (S ⟨b,0,N⟩),I J m] w λe G=>e=aH (I J (bA (sl s) n (p,A)).1)/\cZ G b s (bA (sl s) n (p,A)).2.1 (bA (sl s) n (p,A)).2.2/\az w G (S b):=by
 subst c;exact R9 b s p n A w h g f d
theorem yT(b:M)(s:bT)(p n:M)(m:Z)(c:m=(n:Z))(A:bc)(w:av)(h:cZ w b s p A)
  (g:s.size<=1048576) (f:p<=s.size) (d:n<=1048576) :
  Calls prog 88 #[aM (S ⟨b,0,N⟩),I J m] w λe G=>e=aH (aB (bs (bZ (sl s) n (p,A)).1))/\cZ G b s (bZ (sl s) n (p,A)).2.1 (bZ (sl s) n (p,A)).2.2/\az w G (S b):=by
 subst c;exact S9 b s p n A w h g f d
theorem aeM(a d:M):(256:Z) ^ a<=(256:Z) ^ (a+d):=by
 induction d with
 |zero=>simp
 |succ d g=>
  have c:=vH (256:Z) (a+d);have f:(0:Z)<256 ^ (a+d):=Int.pow_pos (by decide);rw[<- wm,c];omega
theorem lC(l:L aL)(n:M)(st:eK):0<=(bA l n st).1/\(bA l n st).1<(256:Z) ^ n:=by
 unfold bA;refine⟨Au _,?_⟩;have f:=Cx (bZ l n st).1;have c:(bZ l n st).1.length<=n:=by
  unfold bZ;split
  ·simp;omega
  ·simp
 have d:=aeM (bZ l n st).1.length (n-(bZ l n st).1.length);rw[Nat.add_sub_cancel' c]at d;omega
theorem Z7(b:Nat)(s:bT)(p:Nat)(A:bc)(w:av)(h:cZ w b s p A)
  (k:s.size<=1048576) (hp:p<=s.size) :
  Calls prog 206 #[aM (some ⟨b,0,none⟩)] w λe G=>
   e=aH (.agg #[aB (bs (gf (sl s) (p,A)).1.name),I J (gf (sl s) (p,A)).1.bind,I J (gf (sl s) (p,A)).1.au,I J (gf (sl s) (p,A)).1.off]) /\
   cZ G b s (gf (sl s) (p,A)).2.1 (gf (sl s) (p,A)).2.2/\az w G (some b):=by
 have g:=h.lt;have c:=iD s;unfold gf;simp only;have ba:=lC (sl s) 1 (p,A);have T:=gU (sl s) 1 (p,A) (by rw[c];exact hp);have z:=λW h=>ko b s p 1 1 rfl A W h k hp (by omega)
 generalize bA (sl s) 1 (p,A)=a at *;obtain⟨i,p1,s1⟩:=a;rw[c]at T;simp only[Int.reducePow]at *;have lt:=zi (sl s) i.toNat (p1,s1) (by rw[c];exact T)
 have B:=λW h=>yT b s p1 i.toNat i (by omega) s1 W h k T (by omega)
 generalize bZ (sl s) i.toNat (p1,s1)=t at *;obtain⟨d,l,o⟩:=t;rw[c]at lt;simp only at *;have Z:=gU (sl s) 1 (l,o) (by rw[c];exact lt);have C:=λW h=>ko b s l 1 1 rfl o W h k lt (by omega)
 generalize bA (sl s) 1 (l,o)=x3 at *;obtain⟨f,m,q⟩:=x3;rw[c]at Z;simp only at *;have lc:=gU (sl s) 1 (m,q) (by rw[c];exact Z);have D:=λW h=>ko b s m 1 1 rfl q W h k Z (by omega)
 generalize bA (sl s) 1 (m,q)=x4 at *;obtain⟨y,p4,s4⟩:=x4;rw[c]at lc;simp only at *;have E:=λW h=>ko b s p4 2 2 rfl s4 W h k lc (by omega)
 generalize bA (sl s) 2 (p4,s4)=x5 at *;obtain⟨j,p5,s5⟩:=x5;simp only at *;replace z:=ae z;replace B:=ae B;replace C:=ae C;replace D:=ae D;replace E:=ae E;have H:=ae h;clear h c;go_enter func206,ntmps206;go_wp2_with fail;refine Calls.fK (lx w b s 107 #[aB ⟨#[]⟩,I J 0,I J 0,I J 0] p A #[aB ⟨#[]⟩,I J 0,I J 0,I J 0]) (lx.begin H.o) ?_;intro W1 c;refine(z.o W1 c.rd).mono ?_;rintro e W2 ⟨rfl,x,u⟩;have r:=ae (c.call g x u);clear x u c;go_wp2_with fail;refine(B.o W2 r.o.rd).mono ?_;rintro e u ⟨rfl,K,x⟩;have c:=ae (r.o.call g K x)
 have L:=c.o.own.cell 0;have Q:=c.o.own.free 0;clear K x r;go_wp2_with fail;refine Calls.fK (lx w b s 107 #[aB ⟨#[]⟩,I J 0,I J 0,I J 0] l o #[aB (bs d),I J 0,I J 0,I J 0]) (c.o.store g 0 _) ?_;clear L Q c u;intro u x;refine(C.o u x.rd).mono ?_;rintro e r ⟨rfl,Q,K⟩;have c:=ae (x.call g Q K);have M:=c.o.own.cell 1;have L:=c.o.own.free 1;clear Q K x;go_wp2_with fail;refine Calls.fK (lx w b s 107 #[aB ⟨#[]⟩,I J 0,I J 0,I J 0] m q #[aB (bs d),I J f,I J 0,I J 0]) (c.o.store g 1 _) ?_
 clear M L c r;intro r K;refine(D.o r K.rd).mono ?_;rintro e x ⟨rfl,L,Q⟩;have c:=ae (K.call g L Q);have N:=c.o.own.cell 2;have M:=c.o.own.free 2;clear L Q K;go_wp2_with fail;refine Calls.fK (lx w b s 107 #[aB ⟨#[]⟩,I J 0,I J 0,I J 0] p4 s4 #[aB (bs d),I J f,I J y,I J 0]) (c.o.store g 2 _) ?_;clear N M c x;intro x Q;refine(E.o x Q.rd).mono ?_;rintro e W6 ⟨rfl,r6,q6⟩;have c:=ae (Q.call g r6 q6);have L:=c.o.own.cell 0;have M:=c.o.own.cell 1;have N:=c.o.own.cell 2;have S:=c.o.own.cell 3;have K:=c.o.own.free 3
 have Zp:=c.o.eV.cell 0;have Zq:=c.o.eV.cell 1;have Zr:=c.o.eV.cell 2;have Zs:=c.o.eV.cell 3;have n60:=c.o.eV.free 0;have n61:=c.o.eV.free 1;have n62:=c.o.eV.free 2;have n63:=c.o.eV.free 3;clear r6 q6 Q;go_wp2;have F:=((((c.o.store g 3 (I J j)).put g 0 (aB (bs d))).put g 1 (I J f)).put g 2 (I J y)).put g 3 (I J j);refine bj (v:=.agg #[aB (bs d),I J f,I J y,I J j]) ?_ R ⟨R,F.rd,F.gr⟩;have Q:=F.eV.cell 0;have e1:=F.eV.cell 1;have e2:=F.eV.cell 2;have e3:=F.eV.cell 3;clear c L M N S K Zp Zq Zr Zs n60 n61 n62 n63
 generalize aK _ _ _=c at *;simp[results,results206,go_sem,Q,e1,e2,e3]
theorem aaE(b:Nat)(s:bT)(p:Nat)(A:bc)(w:av)(h:cZ w b s p A)
  (m:s.size<=1048576) (hp:p<=s.size) :
  Calls prog 207 #[aM (some ⟨b,0,none⟩)] w λe G=>
   e=aH (.agg #[I J (fQ (sl s) (p,A)).1.au,I J (fQ (sl s) (p,A)).1.off,I J (fQ (sl s) (p,A)).1.kind,I J (fQ (sl s) (p,A)).1.sym,I J (fQ (sl s) (p,A)).1.bh]) /\
   cZ G b s (fQ (sl s) (p,A)).2.1 (fQ (sl s) (p,A)).2.2/\az w G (some b):=by
 have g:=h.lt;have c:=iD s;unfold fQ;simp only;have l1:=gU (sl s) 1 (p,A) (by rw[c];exact hp);have b1:=lC (sl s) 1 (p,A);have L:=λW h=>ko b s p 1 1 rfl A W h m hp (by omega)
 generalize bA (sl s) 1 (p,A)=x1 at *;obtain⟨k,o,t⟩:=x1;rw[c]at l1;simp only[Int.reducePow]at *;have l2:=gU (sl s) 1 (o,t) (by rw[c];exact l1);have b2:=lC (sl s) 1 (o,t);have M:=λW h=>ko b s o 1 1 rfl t W h m l1 (by omega)
 generalize bA (sl s) 1 (o,t)=x2 at *;obtain⟨f,q,u⟩:=x2;rw[c]at l2;simp only[Int.reducePow]at *;have l3:=gU (sl s) 2 (q,u) (by rw[c];exact l2);have b3:=lC (sl s) 2 (q,u);have N:=λW h=>ko b s q 2 2 rfl u W h m l2 (by omega)
 generalize bA (sl s) 2 (q,u)=x3 at *;obtain⟨i,r,x⟩:=x3;rw[c]at l3;simp only[Int.reducePow]at *;have l4:=gU (sl s) 1 (r,x) (by rw[c];exact l3);have b4:=lC (sl s) 1 (r,x);have S:=λW h=>ko b s r 1 1 rfl x W h m l3 (by omega)
 generalize bA (sl s) 1 (r,x)=x4 at *;obtain⟨j,E,K⟩:=x4;rw[c]at l4;simp only[Int.reducePow]at *;have b5:=lC (sl s) 2 (E,K);have T:=λW h=>ko b s E 2 2 rfl K W h m l4 (by omega)
 generalize bA (sl s) 2 (E,K)=x5 at *;obtain⟨d,p5,s5⟩:=x5;simp only[Int.reducePow]at *;replace L:=ae L;replace M:=ae M;replace N:=ae N;replace S:=ae S;replace T:=ae T;have H:=ae h;clear h c;go_enter func207,ntmps207;go_wp2_with fail;refine Calls.fK (lx w b s 75 #[I J 0,I J 0,I J 0,I J 0,I J 0] p A #[I J 0,I J 0,I J 0,I J 0,I J 0]) (lx.begin H.o) ?_;intro W1 l;refine(L.o W1 l.rd).mono ?_;rintro e C ⟨rfl,B,y⟩;have c:=ae (l.call g B y);have z:=c.o.own.cell 0;have D:=c.o.own.free 0;clear B y l
 go_wp2_with fail;refine Calls.fK (lx w b s 75 #[I J 0,I J 0,I J 0,I J 0,I J 0] o t #[I J k,I J 0,I J 0,I J 0,I J 0]) (c.o.store g 0 _) ?_;clear z D c C;intro W2 l;refine(M.o W2 l.rd).mono ?_;rintro e C ⟨rfl,z,y⟩;have c:=ae (l.call g z y);have B:=c.o.own.cell 2;have D:=c.o.own.free 2;clear z y l;go_wp2_with fail;refine Calls.fK (lx w b s 75 #[I J 0,I J 0,I J 0,I J 0,I J 0] q u #[I J k,I J 0,I J f,I J 0,I J 0]) (c.o.store g 2 _) ?_;clear B D c C
 intro W3 l;refine(N.o W3 l.rd).mono ?_;rintro e B ⟨rfl,z,y⟩;have c:=ae (l.call g z y);have C:=c.o.own.cell 1;have D:=c.o.own.free 1;clear z y l;go_wp2_with fail;refine Calls.fK (lx w b s 75 #[I J 0,I J 0,I J 0,I J 0,I J 0] r x #[I J k,I J i,I J f,I J 0,I J 0]) (c.o.store g 1 _) ?_;clear C D c B;intro W4 l;refine(S.o W4 l.rd).mono ?_;rintro e C ⟨rfl,B,z⟩;have c:=ae (l.call g B z);have D:=c.o.own.cell 3;have y:=c.o.own.free 3;clear B z l;go_wp2_with fail;refine Calls.fK (lx w b s 75 #[I J 0,I J 0,I J 0,I J 0,I J 0] E K #[I J k,I J i,I J f,I J j,I J 0]) (c.o.store g 3 _) ?_
 clear D y c C;intro W5 l;refine(T.o W5 l.rd).mono ?_;rintro e fp ⟨rfl,z,y⟩;have c:=ae (l.call g z y);clear z y l;have k0:=c.o.own.cell 0;have z:=c.o.own.cell 1;have B:=c.o.own.cell 2;have C:=c.o.own.cell 3;have D:=c.o.own.cell 4;have y:=c.o.own.free 4;have m0:=c.o.eV.cell 0;have n0:=c.o.eV.free 0;have m1:=c.o.eV.cell 1;have n1:=c.o.eV.free 1;have m2:=c.o.eV.cell 2;have n2:=c.o.eV.free 2;have m3:=c.o.eV.cell 3;have n3:=c.o.eV.free 3;have m4:=c.o.eV.cell 4;have n4:=c.o.eV.free 4;by_cases l:32768<=d
 ·have Q:=ae (show oD d=(d-65536)from by unfold oD;rw[aD l]);go_wp2;have F:=((((((c.o.store g 4 (I J d)).store g 4 (I J (d-65536))).put g 0 (I J k)).put g 1 (I J i)).put g 2 (I J f)).put g 3 (I J j)).put g 4 (I J (d-65536));refine bj (v:=.agg #[I J k,I J i,I J f,I J j,I J (d-65536)]) ?_ R ⟨by rw[Q.o],F.rd,F.gr⟩;have e0:=F.eV.cell 0;have e1:=F.eV.cell 1;have e2:=F.eV.cell 2;have e3:=F.eV.cell 3;have e4:=F.eV.cell 4;clear c k0 z B C D y m0 m1 m2 m3 m4 n0 n1 n2 n3 n4
  generalize aK _ _ _=WF at *;simp[results,results207,go_sem,e0,e1,e2,e3,e4]
 ·have Q:=ae (show oD d=d from by unfold oD;rw[ax l]);go_wp2;have F:=(((((c.o.store g 4 (I J d)).put g 0 (I J k)).put g 1 (I J i)).put g 2 (I J f)).put g 3 (I J j)).put g 4 (I J d);refine bj (v:=.agg #[I J k,I J i,I J f,I J j,I J d]) ?_ R ⟨by rw[Q.o],F.rd,F.gr⟩;have e0:=F.eV.cell 0;have e1:=F.eV.cell 1;have e2:=F.eV.cell 2;have e3:=F.eV.cell 3;have e4:=F.eV.cell 4;clear c k0 z B C D y m0 m1 m2 m3 m4 n0 n1 n2 n3 n4;generalize aK _ _ _=WF at *;simp[results,results207,go_sem,e0,e1,e2,e3,e4]
def gy(y:dz):L aC:=[aB (bs y.name),I J y.bind,I J y.au,I J y.off]
def jc(r:cg):L aC:=[I J r.au,I J r.off,I J r.kind,I J r.sym,I J r.bh]
theorem T7(W:av)(o:Obj)(c:dJ aC)(t:dm):∀j u,c.toList[j]?=S u->((W.alloc o).alloc (.cells c t)).cell? ((⟨W.heap.size+1,0,N⟩:aY).add j)=S u:=by
 have h:((W.alloc o).alloc (.cells c t)).heap[W.heap.size+1]?=S (.cells c t (0,0)):=by
  have:=rm (W.alloc o) (.cells c t)
  simpa using this
 exact World.news_of_block h
theorem SL{o l:Obj}{d:aR M}(h:b<w.heap.size)(i:az w wr (S b))(k:cZ wr b s p A)(j:((wr.alloc o).alloc l).grownBy X d)(c:∀g,d=S g->w.heap.size<=g):
  cZ X b s p A/\az w X (S b):=by
 have f:az wr (wr.alloc o) N:=aG wr o N;exact Tj h (tD i f (by simp)) (k.grown f (by simp)) j c
theorem Ku{α:Type}(l:L aL)(f:eK->α×eK)(d:∀st,st.1<=ah l->(f st).2.1<=ah l)(c:M)(st:eK)(h:st.1<=ah l):(dT f c st).2.1<=ah l:=by
 induction c generalizing st with
 |zero=>exact h
 |succ c g=>
  unfold dT;split
  ·exact h
  ·exact g _ (d st h)
theorem SK(l:L aL)(st:eK)(h:st.1<=ah l):(gf l st).2.1<=ah l:=by
 unfold gf;exact gU _ _ _ (gU _ _ _ (gU _ _ _ (zi _ _ _ (gU _ _ _ h))))
theorem SJ(l:L aL)(st:eK)(h:st.1<=ah l):(fQ l st).2.1<=ah l:=by
 simp only[fQ];refine gU _ _ _ ?_;refine gU _ _ _ ?_;refine gU _ _ _ ?_;refine gU _ _ _ ?_;exact gU _ _ _ h
theorem zh(l:L aL)(n c:M)(st:eK)(h:st.1<=ah l):(ei l n c st).2.1<=ah l:=by
 rw[NA];exact Ku l _ (λst h=>gU l n st h) c st h
theorem aaj(b:M)(s:bT)(p c:M)(A:bc)(w:av)(h:cZ w b s p A)
  (hs:s.size<=1048576) (hp:p<=s.size) (hc:c<=65535) :
  Calls prog 182 #[aM (S ⟨b,0,none⟩),I J c] w λe G=>∃v,e=aH v /\
   aV G w.heap.size 107 4 v (dT (gf (sl s)) c (p,A)).1.length ((dT (gf (sl s)) c (p,A)).1.flatMap gy) /\
   cZ G b s (dT (gf (sl s)) c (p,A)).2.1 (dT (gf (sl s)) c (p,A)).2.2/\az w G (S b):=by
 obtain⟨i0,hi,N,Z,hz2⟩:=fG Tryz.L9;have hb:=h.lt;have H:=ae h;clear h;go_enter func182,ntmps182;go_wp2_with fail
 go_loopw [5,6] (λv i wr=>∃(k:M) (j:List dz) (f:eK),k<=c/\i=I J k/\(ah j)=k/\f.1<=s.size /\
   aV wr w.heap.size 107 4 v (ah j) (j.flatMap gy)/\cZ wr b s f.1 f.2/\az w wr (S b) /\
   dT (gf (sl s)) c (p,A)=(j++(dT (gf (sl s)) (c-k) f).1,(dT (gf (sl s)) (c-k) f).2)) (λ_ i _=>c-(aN i).toNat)
 case atStart=>exact⟨0,[],(p,A),bG _,R,R,hp,eO _ _ _ _,H.o,aW _ _,by simp⟩
 case round=>
  obtain⟨k,j,f,hk,rfl,C,D,m,d,t,l⟩:=hrel;have B:=ae l;have HA:=ae C;clear l;by_cases hlt:k<c
  ·cases o:f.2
   ·rw[o]at d;have q:c-k=(c-(k+1))+1:=by omega
    have y:=SK (sl s) (f.1,F) (by rw[iD];exact D);have W:=ae (Z7 b s f.1 F wr d hs D);have HN:=ae (show dT (gf (sl s)) (c-k) f=((gf (sl s) (f.1,F)).1::(dT (gf (sl s)) (c-(k+1)) (gf (sl s) (f.1,F)).2).1,(dT (gf (sl s)) (c-(k+1)) (gf (sl s) (f.1,F)).2).2)from by
     rw[q];have e:f=(f.1,F):=nw rfl o;rw[e];rfl)
    rw[iD]at y;clear q o;generalize gf (sl s) (f.1,F)=r at *;obtain⟨x,st'⟩:=r;simp only at W HN y;have z:=ae (Gb b s f.1 F wr d);have q:=ae d;clear d;have Im:ah j<=65535:=by omega
    go_wp2_with fail;refine z.o.mono ?_;rintro e X ⟨rfl,rfl⟩;go_wp2_with fail;refine W.o.mono ?_;rintro e w2 ⟨rfl,xS,L⟩;have l:=xg m hb L;have uc:=ya t L;have Q:=ae xS;have E:=ae uc;have hsz:=uc.size;clear xS L uc m t q z W;go_wp2_with (at_builtin;refine jI _ R _ _ 69 rfl w.heap.size 107 i0 (.agg #[aB ⟨#[]⟩,I J 0,I J 0,I J 0]) 4 40 underlying69 hi N Z hz2 R (by decide) _ _ _ R ((l.alloc _).alloc _) ⟨w2.heap.size+1,0,none⟩ 1 1 (gy x) R R (T7 _ _ _ _) (by intro u q;simp[gy]at q;rcases q with rfl|rfl|rfl|rfl<;>rfl) (by unfold cu;omega) (by omega) (by simp;omega) ?_;intro W L z q _)
    have K:=SL hb E.o Q.o q (λg c=>(l.lt g c).1);clear q l;go_wp2
    go_roundw
    case rel=>
     refine⟨k+1,j++[x],st',by omega,by go_num,by simp[HA.o],y,?_,K.1,K.2,?_⟩
     ·simpa using z
     ·rw[B.o,HN.o];simp
    case measure=>simp[aN];omega
   ·rw[o]at d;have l:dT (gf (sl s)) c (p,A)=(j,(f.1,T)):=by
     have q:c-k=(c-(k+1))+1:=by omega
     rw[B.o,q];have e:f=(f.1,T):=nw rfl o;rw[e];simp[dT]
    have y:=ae l;clear l o B;have z:=ae (Gb b s f.1 T wr d);have q:=ae d;clear d;go_wp2_with fail;refine z.o.mono ?_;rintro e X ⟨rfl,rfl⟩;go_wp2;go_ret;rw[y.o];exact⟨_,R,m,q.o,t⟩
  ·have l:dT (gf (sl s)) c (p,A)=(j,f):=by
    have q:c-k=0:=by omega
    rw[B.o,q];simp[dT]
   have y:=ae l;clear l B;have q:=ae d;clear d;have l:decide ((k:Int)<(c:Int))=F:=by simp;omega
   go_wp2;go_ret;rw[y.o];exact⟨_,R,m,q.o,t⟩
theorem Z5(b:M)(s:bT)(p c:M)(A:bc)(w:av)(h:cZ w b s p A)
  (hs:s.size<=1048576) (hp:p<=s.size) (hc:c<=65535) :
  Calls prog 183 #[aM (S ⟨b,0,none⟩),I J c] w λe G=>∃v,e=aH v /\
   aV G w.heap.size 75 5 v (dT (fQ (sl s)) c (p,A)).1.length ((dT (fQ (sl s)) c (p,A)).1.flatMap jc) /\
   cZ G b s (dT (fQ (sl s)) c (p,A)).2.1 (dT (fQ (sl s)) c (p,A)).2.2/\az w G (S b):=by
 obtain⟨i0,hi,N,Z,hz2⟩:=fG Tryz.Mm;have hb:=h.lt;have H:=ae h;clear h;go_enter func183,ntmps183;go_wp2_with fail
 go_loopw [5,6] (λv i wr=>∃(k:M) (j:List cg) (f:eK),k<=c/\i=I J k/\(ah j)=k/\f.1<=s.size /\
   aV wr w.heap.size 75 5 v (ah j) (j.flatMap jc)/\cZ wr b s f.1 f.2/\az w wr (S b) /\
   dT (fQ (sl s)) c (p,A)=(j++(dT (fQ (sl s)) (c-k) f).1,(dT (fQ (sl s)) (c-k) f).2)) (λ_ i _=>c-(aN i).toNat)
 case atStart=>exact⟨0,[],(p,A),bG _,R,R,hp,eO _ _ _ _,H.o,aW _ _,by simp⟩
 case round=>
  obtain⟨k,j,f,hk,rfl,C,D,m,d,t,l⟩:=hrel;have B:=ae l;have HA:=ae C;clear l;by_cases hlt:k<c
  ·cases o:f.2
   ·rw[o]at d;have q:c-k=(c-(k+1))+1:=by omega
    have y:=SJ (sl s) (f.1,F) (by rw[iD];exact D);have W:=ae (aaE b s f.1 F wr d hs D);have HN:=ae (show dT (fQ (sl s)) (c-k) f=((fQ (sl s) (f.1,F)).1::(dT (fQ (sl s)) (c-(k+1)) (fQ (sl s) (f.1,F)).2).1,(dT (fQ (sl s)) (c-(k+1)) (fQ (sl s) (f.1,F)).2).2)from by
     rw[q];have e:f=(f.1,F):=nw rfl o;rw[e];rfl)
    rw[iD]at y;clear q o;generalize fQ (sl s) (f.1,F)=r at *;obtain⟨x,st'⟩:=r;simp only at W HN y;have z:=ae (Gb b s f.1 F wr d);have q:=ae d;clear d;have Im:ah j<=65535:=by omega
    go_wp2_with fail;refine z.o.mono ?_;rintro e X ⟨rfl,rfl⟩;go_wp2_with fail;refine W.o.mono ?_;rintro e w2 ⟨rfl,xS,L⟩;have l:=xg m hb L;have uc:=ya t L;have Q:=ae xS;have E:=ae uc;have hsz:=uc.size;clear xS L uc m t q z W;go_wp2_with (at_builtin;refine jI _ R _ _ 70 rfl w.heap.size 75 i0 (.agg #[I J 0,I J 0,I J 0,I J 0,I J 0]) 5 40 underlying70 hi N Z hz2 R (by decide) _ _ _ R ((l.alloc _).alloc _) ⟨w2.heap.size+1,0,none⟩ 1 1 (jc x) R R (T7 _ _ _ _) (by intro u q;simp[jc]at q;rcases q with rfl|rfl|rfl|rfl|rfl<;>rfl) (by unfold cu;omega) (by omega) (by simp;omega) ?_;intro W L z q _)
    have K:=SL hb E.o Q.o q (λg c=>(l.lt g c).1);clear q l;go_wp2
    go_roundw
    case rel=>
     refine⟨k+1,j++[x],st',by omega,by go_num,by simp[HA.o],y,?_,K.1,K.2,?_⟩
     ·simpa using z
     ·rw[B.o,HN.o];simp
    case measure=>simp[aN];omega
   ·rw[o]at d;have l:dT (fQ (sl s)) c (p,A)=(j,(f.1,T)):=by
     have q:c-k=(c-(k+1))+1:=by omega
     rw[B.o,q];have e:f=(f.1,T):=nw rfl o;rw[e];simp[dT]
    have y:=ae l;clear l o B;have z:=ae (Gb b s f.1 T wr d);have q:=ae d;clear d;go_wp2_with fail;refine z.o.mono ?_;rintro e X ⟨rfl,rfl⟩;go_wp2;go_ret;rw[y.o];exact⟨_,R,m,q.o,t⟩
  ·have l:dT (fQ (sl s)) c (p,A)=(j,f):=by
    have q:c-k=0:=by omega
    rw[B.o,q];simp[dT]
   have y:=ae l;clear l B;have q:=ae d;clear d;have l:decide ((k:Int)<(c:Int))=F:=by simp;omega
   go_wp2;go_ret;rw[y.o];exact⟨_,R,m,q.o,t⟩
theorem ik(l:L aL):(bs l).toList=l:=by
 rw[ByteArray.toList_eq];simp[bs]
theorem kE{c:M}(h:aV w base e size v n xs)(j:c<=base):aV w c e size v n xs:=by
 refine⟨h.1,?_⟩;rcases h.2 with f|⟨g,cap,d,i,k,r⟩
 ·exact .inl f
 ·exact .inr ⟨g,cap,d,i,by omega,r⟩
theorem yi(h:aV w base e size v n xs):∃V cap,v=ak V n cap:=by
 rcases h.2 with ⟨d,f⟩|⟨g,cap,c,i,_⟩
 ·exact⟨N,0,by rw[d,f]⟩
 ·exact⟨_,cap,i⟩
structure Row where
 e:dm
 size:M
 v:aC
 n:M
 xs:L aC
def Row.In(r:Row)(W:av)(base:M):Prop:=aV W base r.e r.size r.v r.n r.xs
structure lU (w:av) (b g:M) (s:bT) (p:M) (A:bc) (cs:dJ aC) (rows:L Row) (W:av):Prop where
 rd:cZ W b s p A
 obj:aA W g cs 72
 rows:∀r∈rows,r.In W (g+1)
 gr:w.grownBy W (S b)
section
variable{w W e:av}{b g:M}{s:bT}{a:dJ aC}{rows:L Row}{p i:M}{A d:bc}
theorem lU.begin(h:cZ W b s p A)(c:az w W (S b))(a:dJ aC):lU w b W.heap.size s p A a [] (W.alloc (.cells a 72)) :=
 ⟨h.grown (aG W _ N) (by simp),aA.new W a 72,(by simp),tD c (aG W _ N) (by simp)⟩
theorem lU.call(h:lU w b g s p A a rows W)(j:b<g)(f:cZ e b s i d)(c:az W e (S b)):lU w b g s i d a rows e :=
 ⟨f,h.obj.grown c (by simp;omega),λr f=>xg (h.rows r f) (by omega) c,ya h.gr c⟩
theorem lU.row(h:lU w b g s p A a rows W)(k:b<g)(m:cZ e b s i d)(l:az W e (S b))(r:Row)(c:r.In e W.heap.size):lU w b g s i d a (r::rows) e:=by
 have f:=h.call k m l;refine⟨f.rd,f.obj,?_,f.gr⟩;intro q j;rcases nk.1 j with rfl|j
 ·exact kE c h.obj.lt
 ·exact f.rows q j
theorem lU.store(h:lU w b g s p A a rows W)(c:b<g)(f:w.heap.size<=g)(o:M)(v:aC):lU w b g s p A (a.setIfInBounds o v) rows (aK W ⟨g,o,N⟩ v) :=
 ⟨h.rd.grown (bK W g o v) (by simp;omega),h.obj.set o v,λr c=>ownsRow_setCell_below (h.rows r c) (Nat.lt_succ_self g) v,tD h.gr (bK W g o v) (by simp;omega)⟩
end
def yr(W:av)(g:M)(o:aF):Prop :=
 ∃vt vf vd va vs vr,aA W g #[vt,vf,vd,I J o.bf,va,vs,vr] 72 /\
  aV W 0 3 1 vt (ah o.text) (o.text.map (I .i64))/\aV W 0 3 1 vf (ah o.bw) (o.bw.map (I .i64)) /\
  aV W 0 3 1 vd (ah o.data) (o.data.map (I .i64))/\aV W 0 3 1 va (ah o.align) (o.align.map (I .i64)) /\
  aV W 0 107 4 vs (ah o.aE) (o.aE.flatMap gy)/\aV W 0 75 5 vr (ah o.ay) (o.ay.flatMap jc)
theorem zg(b:M)(s:bT)(p c size:M)(g ms:Z)(d:g=(c:Z))(f:ms=(size:Z))(A:bc)(w:av)(h:cZ w b s p A)
  (l:s.size<=1048576) (k:p<=s.size) (i:c<=65535) (j:size<=4) :
  Calls prog 90 #[aM (S ⟨b,0,N⟩),I J g,I J ms] w λe G=>∃v,e=aH v /\
   aV G w.heap.size 3 1 v (ei (sl s) size c (p,A)).1.length ((ei (sl s) size c (p,A)).1.map (I .i64)) /\
   cZ G b s (ei (sl s) size c (p,A)).2.1 (ei (sl s) size c (p,A)).2.2/\az w G (S b):=by
 subst d f;exact aai b s p c size A w h l k i j
theorem aak(b:M)(s:bT)(p c:M)(f:Z)(d:f=(c:Z))(A:bc)(w:av)(h:cZ w b s p A)
  (j:s.size<=1048576) (i:p<=s.size) (g:c<=65535) :
  Calls prog 182 #[aM (S ⟨b,0,N⟩),I J f] w λe G=>∃v,e=aH v /\
   aV G w.heap.size 107 4 v (dT (gf (sl s)) c (p,A)).1.length ((dT (gf (sl s)) c (p,A)).1.flatMap gy) /\
   cZ G b s (dT (gf (sl s)) c (p,A)).2.1 (dT (gf (sl s)) c (p,A)).2.2/\az w G (S b):=by
 subst d;exact aaj b s p c A w h j i g
theorem Z6(b:M)(s:bT)(p c:M)(f:Z)(d:f=(c:Z))(A:bc)(w:av)(h:cZ w b s p A)
  (j:s.size<=1048576) (i:p<=s.size) (g:c<=65535) :
  Calls prog 183 #[aM (S ⟨b,0,N⟩),I J f] w λe G=>∃v,e=aH v /\
   aV G w.heap.size 75 5 v (dT (fQ (sl s)) c (p,A)).1.length ((dT (fQ (sl s)) c (p,A)).1.flatMap jc) /\
   cZ G b s (dT (fQ (sl s)) c (p,A)).2.1 (dT (fQ (sl s)) c (p,A)).2.2/\az w G (S b):=by
 subst d;exact Z5 b s p c A w h j i g
theorem Z4(b:M)(s:bT)(p:M)(A:bc)(w:av)(h:cZ w b s p A)
  (C:s.size<=1048576) (hp:p<=s.size) (E:(bZ (sl s) 2 (p,A)).1=[76,75]) :
  Calls prog 150 #[aM (S ⟨b,0,N⟩)] w λe G=>∃g,e=aH (aM (S ⟨g,0,N⟩))/\w.heap.size<=g /\
   yr G g (pJ (sl s) (bZ (sl s) 2 (p,A)).2).1 /\
   cZ G b s (pJ (sl s) (bZ (sl s) 2 (p,A)).2).2.1 (pJ (sl s) (bZ (sl s) 2 (p,A)).2).2.2/\az w G (S b):=by
 have hb:=h.lt;have c:=iD s;have l0:=zi (sl s) 2 (p,A) (by rw[c];exact hp);have c0:=λW h=>yT b s p 2 2 rfl A W h C hp (by omega)
 generalize bZ (sl s) 2 (p,A)=x0 at *;obtain⟨mk,p0,s0⟩:=x0;simp only at E;subst E;rw[c]at l0;unfold pJ;simp only at *;have b1:=lC (sl s) 2 (p0,s0);have l1:=gU (sl s) 2 (p0,s0) (by rw[c];exact l0);have c1:=λW h=>ko b s p0 2 2 rfl s0 W h C l0 (by omega)
 generalize bA (sl s) 2 (p0,s0)=x1 at *;obtain⟨B,p1,s1⟩:=x1;rw[c]at l1;simp only[Int.reducePow]at *;have b2:=lC (sl s) 2 (p1,s1);have l2:=gU (sl s) 2 (p1,s1) (by rw[c];exact l1);have c2:=λW h=>ko b s p1 2 2 rfl s1 W h C l1 (by omega)
 generalize bA (sl s) 2 (p1,s1)=x2 at *;obtain⟨L,p2,s2⟩:=x2;rw[c]at l2;simp only[Int.reducePow]at *;have b3:=lC (sl s) 2 (p2,s2);have l3:=gU (sl s) 2 (p2,s2) (by rw[c];exact l2);have c3:=λW h=>ko b s p2 2 2 rfl s2 W h C l2 (by omega)
 generalize bA (sl s) 2 (p2,s2)=x3 at *;obtain⟨y,p3,s3⟩:=x3;rw[c]at l3;simp only[Int.reducePow]at *;have b4:=lC (sl s) 2 (p3,s3);have l4:=gU (sl s) 2 (p3,s3) (by rw[c];exact l3);have c4:=λW h=>ko b s p3 2 2 rfl s3 W h C l3 (by omega)
 generalize bA (sl s) 2 (p3,s3)=x4 at *;obtain⟨l,p4,s4⟩:=x4;rw[c]at l4;simp only[Int.reducePow]at *;have oM:=zh (sl s) 1 4 (p4,s4) (by rw[c];exact l4);have c5:=λW h=>zg b s p4 4 1 4 1 rfl rfl s4 W h C l4 (by omega) (by omega)
 generalize ei (sl s) 1 4 (p4,s4)=x5 at *;obtain⟨d,p5,s5⟩:=x5;rw[c]at oM;simp only at *;have b6:=lC (sl s) 1 (p5,s5);have ua:=gU (sl s) 1 (p5,s5) (by rw[c];exact oM);have c6:=λW h=>ko b s p5 1 1 rfl s5 W h C oM (by omega)
 generalize bA (sl s) 1 (p5,s5)=x6 at *;obtain⟨z,p6,s6⟩:=x6;rw[c]at ua;simp only[Int.reducePow]at *;have b7:=lC (sl s) 1 (p6,s6);have pS:=gU (sl s) 1 (p6,s6) (by rw[c];exact ua);have c7:=λW h=>ko b s p6 1 1 rfl s6 W h C ua (by omega)
 generalize bA (sl s) 1 (p6,s6)=x7 at *;obtain⟨ay,p7,s7⟩:=x7;rw[c]at pS;simp only[Int.reducePow]at *;have uZ:=Ku (sl s) _ (SK (sl s)) z.toNat (p7,s7) (by rw[c];exact pS)
 have c8:=λW h=>aak b s p7 z.toNat z (by omega) s7 W h C pS (by omega)
 generalize dT (gf (sl s)) z.toNat (p7,s7)=x8 at *;obtain⟨i,oT,s8⟩:=x8;rw[c]at uZ;simp only at *;have zD:=Ku (sl s) _ (SJ (sl s)) ay.toNat (oT,s8) (by rw[c];exact uZ)
 have c9:=λW h=>Z6 b s oT ay.toNat ay (by omega) s8 W h C uZ (by omega)
 generalize dT (fQ (sl s)) ay.toNat (oT,s8)=Mc at *;obtain⟨j,oU,s9⟩:=Mc;rw[c]at zD;simp only at *;have l10:=zh (sl s) 4 B.toNat (oU,s9) (by rw[c];exact zD)
 have c10:=λW h=>zg b s oU B.toNat 4 B 4 (by omega) R s9 W h C zD (by omega) (by omega)
 generalize ei (sl s) 4 B.toNat (oU,s9)=x10 at *;obtain⟨x,ph,T⟩:=x10;rw[c]at l10;simp only at *;have BW:=zh (sl s) 4 L.toNat (ph,T) (by rw[c];exact l10)
 have c11:=λW h=>zg b s ph L.toNat 4 L 4 (by omega) R T W h C l10 (by omega) (by omega)
 generalize ei (sl s) 4 L.toNat (ph,T)=KE at *;obtain⟨D,Ag,s11⟩:=KE;rw[c]at BW;simp only at *;have V5:=zh (sl s) 4 y.toNat (Ag,s11) (by rw[c];exact BW)
 have c12:=λW h=>zg b s Ag y.toNat 4 y 4 (by omega) R s11 W h C BW (by omega) (by omega)
 generalize ei (sl s) 4 y.toNat (Ag,s11)=ZL at *;obtain⟨tX,Aa,s12⟩:=ZL;rw[c]at V5;simp only at *;replace c0:=ae c0;replace c1:=ae c1;replace c2:=ae c2;replace c3:=ae c3;replace c4:=ae c4;replace c5:=ae c5;replace c6:=ae c6;replace c7:=ae c7;replace c8:=ae c8;replace c9:=ae c9;replace c10:=ae c10;replace c11:=ae c11;replace c12:=ae c12;have H:=ae h;clear h c;have ht:((bs [76,75]).toList==[76,75])=true:=by rw[ik];rfl
 go_enter func150,ntmps150;go_wp2_with fail;refine(c0.o w H.o).mono ?_;rintro e W0 ⟨rfl,m,c⟩;replace m:=ae m;replace c:=ae c;go_wp2_with fail;refine(c1.o W0 m.o).mono ?_;rintro e W1 ⟨rfl,t,u⟩;have K:=ae (ya c.o u);replace t:=ae t;clear u m c;go_wp2_with fail;refine(c2.o W1 t.o).mono ?_;rintro e W2 ⟨rfl,c,m⟩;have Q:=ae (ya K.o m);replace c:=ae c;clear m t K;go_wp2_with fail;refine(c3.o W2 c.o).mono ?_;rintro e W3 ⟨rfl,t,m⟩;have u:=ae (ya Q.o m);replace t:=ae t;clear m c Q;go_wp2_with fail;have c:b<W3.heap.size:=t.o.lt;have m:w.heap.size<=W3.heap.size:=u.o.size
 generalize K:W3.heap.size=g at *;refine Calls.fK (lU w b g s p3 s3 #[ak N 0 0,ak N 0 0,ak N 0 0,I J 0,ak N 0 0,ak N 0 0,ak N 0 0] []) (by rw[<- K];exact lU.begin t.o u.o _) ?_;clear t u K;intro ke u;refine(c4.o ke u.rd).mono ?_;rintro e K ⟨rfl,r,q⟩;have t:=ae (u.call c r q);clear r q u;have k:=t.o.obj.cell 3;have f:=t.o.obj.free 3;go_wp2_with fail;refine Calls.fK (lU w b g s p4 s4 #[ak N 0 0,ak N 0 0,ak N 0 0,I J l,ak N 0 0,ak N 0 0,ak N 0 0] []) (t.o.store c m 3 _) ?_;clear k f t K
 intro gw Q;refine(c5.o gw Q.rd).mono ?_;rintro e wD ⟨va,rfl,o,r,q⟩;obtain⟨t,u,rfl⟩:=yi o;have K:=ae (Q.row c r q ⟨3,1,(ak t (ah d) u),ah d,d.map (I .i64)⟩ o);clear r q o Q;have k:=K.o.obj.cell 4;have f:=K.o.obj.free 4;go_wp2_with fail;refine Calls.fK (lU w b g s p5 s5 #[ak N 0 0,ak N 0 0,ak N 0 0,I J l,(ak t (ah d) u),ak N 0 0,ak N 0 0] [⟨3,1,(ak t (ah d) u),ah d,d.map (I .i64)⟩]) (K.o.store c m 4 _) ?_;clear k f K wD;intro fp K;refine(c6.o fp K.rd).mono ?_;rintro e Jy ⟨rfl,r,q⟩
 have Q:=ae (K.call c r q);clear r q K;go_wp2_with fail;refine Calls.fK (lU w b g s p6 s6 #[ak N 0 0,ak N 0 0,ak N 0 0,I J l,(ak t (ah d) u),ak N 0 0,ak N 0 0] [⟨3,1,(ak t (ah d) u),ah d,d.map (I .i64)⟩]) Q.o ?_;clear Q Jy;intro ja K;refine(c7.o ja K.rd).mono ?_;rintro e Yo ⟨rfl,r,q⟩;have Q:=ae (K.call c r q);clear r q K;go_wp2_with fail;refine Calls.fK (lU w b g s p7 s7 #[ak N 0 0,ak N 0 0,ak N 0 0,I J l,(ak t (ah d) u),ak N 0 0,ak N 0 0] [⟨3,1,(ak t (ah d) u),ah d,d.map (I .i64)⟩]) Q.o ?_
 clear Q Yo;intro wF h7;refine(c8.o wF h7.rd).mono ?_;rintro e Yp ⟨vs,rfl,o,r,q⟩;obtain⟨K,Q,rfl⟩:=yi o;have S8:=ae (h7.row c r q ⟨107,4,(ak K (ah i) Q),ah i,i.flatMap gy⟩ o);clear r q o h7;have k:=S8.o.obj.cell 5;have f:=S8.o.obj.free 5;go_wp2_with fail;refine Calls.fK (lU w b g s oT s8 #[ak N 0 0,ak N 0 0,ak N 0 0,I J l,(ak t (ah d) u),(ak K (ah i) Q),ak N 0 0] [⟨107,4,(ak K (ah i) Q),ah i,i.flatMap gy⟩,⟨3,1,(ak t (ah d) u),ah d,d.map (I .i64)⟩]) (S8.o.store c m 5 _) ?_;clear k f S8 Yp
 intro xN h8;refine(c9.o xN h8.rd).mono ?_;rintro e Yq ⟨vr,rfl,o,r,q⟩;obtain⟨nG,nH,rfl⟩:=yi o;have xL:=ae (h8.row c r q ⟨75,5,(ak nG (ah j) nH),ah j,j.flatMap jc⟩ o);clear r q o h8;have k:=xL.o.obj.cell 6;have f:=xL.o.obj.free 6;go_wp2_with fail;refine Calls.fK (lU w b g s oU s9 #[ak N 0 0,ak N 0 0,ak N 0 0,I J l,(ak t (ah d) u),(ak K (ah i) Q),(ak nG (ah j) nH)] [⟨75,5,(ak nG (ah j) nH),ah j,j.flatMap jc⟩,⟨107,4,(ak K (ah i) Q),ah i,i.flatMap gy⟩,⟨3,1,(ak t (ah d) u),ah d,d.map (I .i64)⟩]) (xL.o.store c m 6 _) ?_
 clear k f xL Yq;intro tW h9;refine(c10.o tW h9.rd).mono ?_;rintro e JI ⟨vt,rfl,o,r,q⟩;obtain⟨zJ,pg,rfl⟩:=yi o;have Hn:=ae (h9.row c r q ⟨3,1,(ak zJ (ah x) pg),ah x,x.map (I .i64)⟩ o);clear r q o h9;have k:=Hn.o.obj.cell 0;have f:=Hn.o.obj.free 0;go_wp2_with fail;refine Calls.fK (lU w b g s ph T #[(ak zJ (ah x) pg),ak N 0 0,ak N 0 0,I J l,(ak t (ah d) u),(ak K (ah i) Q),(ak nG (ah j) nH)] [⟨3,1,(ak zJ (ah x) pg),ah x,x.map (I .i64)⟩,⟨75,5,(ak nG (ah j) nH),ah j,j.flatMap jc⟩,⟨107,4,(ak K (ah i) Q),ah i,i.flatMap gy⟩,⟨3,1,(ak t (ah d) u),ah d,d.map (I .i64)⟩]) (Hn.o.store c m 0 _) ?_
 clear k f Hn JI;intro Cq h10;refine(c11.o Cq h10.rd).mono ?_;rintro e O7 ⟨vf,rfl,o,r,q⟩;obtain⟨rX,rT,rfl⟩:=yi o;have xR:=ae (h10.row c r q ⟨3,1,(ak rX (ah D) rT),ah D,D.map (I .i64)⟩ o);clear r q o h10;have k:=xR.o.obj.cell 1;have f:=xR.o.obj.free 1;go_wp2_with fail;refine Calls.fK (lU w b g s Ag s11 #[(ak zJ (ah x) pg),(ak rX (ah D) rT),ak N 0 0,I J l,(ak t (ah d) u),(ak K (ah i) Q),(ak nG (ah j) nH)] [⟨3,1,(ak rX (ah D) rT),ah D,D.map (I .i64)⟩,⟨3,1,(ak zJ (ah x) pg),ah x,x.map (I .i64)⟩,⟨75,5,(ak nG (ah j) nH),ah j,j.flatMap jc⟩,⟨107,4,(ak K (ah i) Q),ah i,i.flatMap gy⟩,⟨3,1,(ak t (ah d) u),ah d,d.map (I .i64)⟩]) (xR.o.store c m 1 _) ?_
 clear k f xR O7;intro Am h11;refine(c12.o Am h11.rd).mono ?_;rintro e ahS ⟨vd,rfl,o,r,q⟩;obtain⟨vo,vz,rfl⟩:=yi o;have Hs:=ae (h11.row c r q ⟨3,1,(ak vo (ah tX) vz),ah tX,tX.map (I .i64)⟩ o);clear r q o h11;have k:=Hs.o.obj.cell 2;have f:=Hs.o.obj.free 2;go_wp2;go_ret;have F:=Hs.o.store c m 2 (ak vo (ah tX) vz);refine⟨g,R,m,⟨(ak zJ (ah x) pg),(ak rX (ah D) rT),(ak vo (ah tX) vz),(ak t (ah d) u),(ak K (ah i) Q),(ak nG (ah j) nH),F.obj,?_,?_,?_,?_,?_,?_⟩,F.rd,F.gr⟩
 ·exact kE (F.rows ⟨3,1,(ak zJ (ah x) pg),ah x,x.map (I .i64)⟩ (by simp)) (bG _)
 ·exact kE (F.rows ⟨3,1,(ak rX (ah D) rT),ah D,D.map (I .i64)⟩ (by simp)) (bG _)
 ·exact kE (F.rows ⟨3,1,(ak vo (ah tX) vz),ah tX,tX.map (I .i64)⟩ (by simp)) (bG _)
 ·exact kE (F.rows ⟨3,1,(ak t (ah d) u),ah d,d.map (I .i64)⟩ (by simp)) (bG _)
 ·exact kE (F.rows ⟨107,4,(ak K (ah i) Q),ah i,i.flatMap gy⟩ (by simp)) (bG _)
 ·exact kE (F.rows ⟨75,5,(ak nG (ah j) nH),ah j,j.flatMap jc⟩ (by simp)) (bG _)
def yq(w:av)(V:aR aY)(xs:L Z):Prop :=
 0<ah xs->∃g off,V=S ⟨g,off,N⟩/\∀i (h:i<ah xs),aq w ⟨g,off+i,N⟩=S (I J xs[i])
theorem yq.dh{xs:L Z}(h:aV w base 3 1 (ak V n cap) n (xs.map (I .i64))):yq w V xs:=by
 intro l;have o:ah xs=n:=by have:=h.1;simpa using this
 rcases h.2 with ⟨j,m⟩|⟨g,c,f,d,_⟩
 ·simp at j;omega
 ·simp only[jQ]at d;obtain⟨rfl,_,rfl⟩:=d;refine⟨g,0,R,λi k=>?_⟩
  have:=h.cellAt i (by omega)
  rw[Nat.zero_add,this];simp[k]
theorem yq.kept{xs:L Z}(h:yq w V xs)(k:∀a v,aq w a=S v->aq G a=S v):yq G V xs:=by
 intro d;obtain⟨g,c,f,j⟩:=h d;exact⟨g,c,f,λi c=>k _ _ (j i c)⟩
def jm(xs:L Z):Prop:=∀i (h:i<ah xs),0<=xs[i]/\xs[i]<=4294967295
def pj(xs:L Z):Prop:=ah xs=4/\∀i (h:i<ah xs),2<=xs[i]/\xs[i]<=4
def aX(e:Ending)(P:Prop):Prop:=∃b,e=aH (aJ b)/\(b=T↔P)
theorem aX.iV{P:Prop}(h:P):aX (aH (aJ T)) P:=⟨T,R,by simp[h]⟩
theorem aX.no{P:Prop}(h:¬P):aX (aH (aJ F)) P:=⟨F,R,by simp[h]⟩
theorem aX.of{P:Prop}{b:bc}(h:b=T↔P):aX (aH (aJ b)) P:=⟨b,R,h⟩
theorem aX.split{e:Ending}{P:Prop}(h:aX e P):(e=aH (aJ F)/\Hd (¬P))\/(e=aH (aJ T)/\Hd P):=by
 obtain⟨b,rfl,c⟩:=h
 cases b
 ·exact .inl ⟨R,λd=>by have:=c.2 d;simp at this⟩
 ·exact .inr ⟨R,c.1 rfl⟩
theorem aX.iff{e:Ending}{P Q:Prop}(h:aX e P)(k:P↔Q):aX e Q:=by
 obtain⟨b,c,d⟩:=h;exact⟨b,c,d.trans k⟩
theorem KR(V:aR aY)(cap:M)(xs:L Z)(w:av)(h:yq w V xs)(u:ah xs<=65535):
  Calls prog 208 #[ak V (ah xs) cap] w λe G=>aX e (jm xs)/\G=w:=by
 have H:=ae h;clear h;go_enter func208,ntmps208;go_wp2
 go_loop [7] (λi=>∃k:M,k<=ah xs/\i=I J k/\∀j (d:j<ah xs),j<k->0<=xs[j]/\xs[j]<=4294967295) (λi=>ah xs-(aN i).toNat)
 case atStart=>exact⟨0,bG _,R,λj _ d=>absurd d (ji j)⟩
 case round=>
  obtain⟨k,t,rfl,c⟩:=hrel;have o:=ae c;clear c;by_cases c:k<ah xs
  ·obtain⟨g,r,rfl,d⟩:=H.o (by omega);have q:=d k c;clear d;by_cases f:0<=xs[k]
   ·by_cases l:xs[k]<=4294967295
    ·go_wp2
     go_round
     case rel=>exact⟨k+1,by omega,by go_num,λj d m=>(jY.1 m).elim (λh=>o.o j d h) (λh=>by subst h;exact⟨f,l⟩)⟩
     case measure=>simp[aN];omega
    ·have d:4294967295<xs[k]:=by omega
     have N:=ae (show ¬jm xs from λd=>l (d k c).2);clear l;go_wp2;go_ret;exact⟨aX.no N.o,R⟩
   ·have d:xs[k]<0:=by omega
    have N:=ae (show ¬jm xs from λd=>f (d k c).1);clear f;go_wp2;go_ret;exact⟨aX.no N.o,R⟩
  ·go_wp2;go_ret;exact⟨aX.iV λi c=>o.o i c (by omega),R⟩
theorem ZR(V:aR aY)(cap:M)(xs:L Z)(w:av)(h:yq w V xs)(z:ah xs<=65535):
  Calls prog 185 #[ak V (ah xs) cap] w λe G=>aX e (pj xs)/\G=w:=by
 have H:=ae h;clear h;by_cases f:ah xs=4
 ·have t:=ae f;have o:((ah xs:Z)==4)=T:=by rw[beq_iff_eq];omega
  clear f;go_enter func185,ntmps185;go_wp2
  go_loop [10] (λi=>∃k:M,k<=ah xs/\i=I J k/\∀j (d:j<ah xs),j<k->2<=xs[j]/\xs[j]<=4) (λi=>ah xs-(aN i).toNat)
  case atStart=>exact⟨0,bG _,R,λj _ d=>absurd d (ji j)⟩
  case round=>
   obtain⟨k,y,rfl,c⟩:=hrel;have r:=ae c;clear c;by_cases c:k<ah xs
   ·obtain⟨g,x,rfl,d⟩:=H.o (by omega);have u:=d k c;clear d;by_cases l:2<=xs[k]
    ·by_cases m:xs[k]<=4
     ·go_wp2
      go_round
      case rel=>exact⟨u2,I J xs[k],I J (k+1),⟨k+1,by omega,by go_num,λj d q=>(jY.1 q).elim (λh=>r.o j d h) (λh=>by subst h;exact⟨l,m⟩)⟩,R,R,R⟩
      case measure=>simp[aN];omega
     ·have d:4<xs[k]:=by omega
      have N:=ae (show ¬pj xs from λd=>m (d.2 k c).2);clear m;go_wp2;go_ret;exact⟨aX.no N.o,R⟩
    ·have d:xs[k]<2:=by omega
     have N:=ae (show ¬pj xs from λd=>l (d.2 k c).1);clear l;go_wp2;go_ret;exact⟨aX.no N.o,R⟩
   ·go_wp2;go_ret;exact⟨aX.iV ⟨t.o,λi c=>r.o i c (by omega)⟩,R⟩
 ·have N:=ae (show ¬pj xs from λd=>f d.1);have o:((ah xs:Z)==4)=F:=by rw[df];omega
  clear f;go_enter func185,ntmps185;go_wp2;go_ret;exact⟨aX.no N.o,R⟩
theorem yr.kept{W c:av}{g:M}{o:aF}(h:yr W g o)(d:az W c N):yr c g o:=by
 obtain⟨B,x,u,t,z,y,r,f,i,j,l,m,q⟩:=h;have k:∀ {e:dm} {size:M} {v:aC} {n:M} {xs:L aC},aV W 0 e size v n xs->aV c 0 e size v n xs:=by
  intro e size v n xs h;refine h.kept d ?_
  cases v.ownBlock<;>simp
 exact⟨B,x,u,t,z,y,r.grown d (by simp),k f,k i,k j,k l,k m,k q⟩
theorem yr.open{W:av}{g:Nat}{o:aF}(h:yr W g o):∃c t i m f l d k u r j q,
  aA W g #[ak c (ah o.text) t,ak i (ah o.bw) m,ak f (ah o.data) l,I J o.bf,ak d (ah o.align) k,ak u (ah o.aE) r,ak j (ah o.ay) q] 72 /\
  aV W 0 3 1 (ak c (ah o.text) t) (ah o.text) (o.text.map (I .i64))/\aV W 0 3 1 (ak i (ah o.bw) m) (ah o.bw) (o.bw.map (I .i64)) /\
  aV W 0 3 1 (ak f (ah o.data) l) (ah o.data) (o.data.map (I .i64))/\aV W 0 3 1 (ak d (ah o.align) k) (ah o.align) (o.align.map (I .i64)) /\
  aV W 0 107 4 (ak u (ah o.aE) r) (ah o.aE) (o.aE.flatMap gy)/\aV W 0 75 5 (ak j (ah o.ay) q) (ah o.ay) (o.ay.flatMap jc):=by
 obtain⟨M,Q,K,H,L,F,E,x,y,z,B,C,D⟩:=h;obtain⟨c,t,rfl⟩:=yi x;obtain⟨i,m,rfl⟩:=yi y;obtain⟨f,l,rfl⟩:=yi z;obtain⟨d,k,rfl⟩:=yi B;obtain⟨u,r,rfl⟩:=yi C;obtain⟨j,q,rfl⟩:=yi D;exact⟨c,t,i,m,f,l,d,k,u,r,j,q,E,x,y,z,B,C,D⟩
def uB(o:aF):Prop:=(ah o.text<=1200/\(ah o.bw)<=1200/\(ah o.data)<=64)/\(0<=o.bf/\o.bf<=64)/\(ah o.aE)<=16/\(ah o.ay)<=32
def mD(o:aF):Prop:=ah o.text<=65535/\(ah o.bw)<=65535/\(ah o.data)<=65535/\(ah o.align)<=65535/\(ah o.aE)<=65535/\(ah o.ay)<=65535
theorem aad(g:Nat)(o:aF)(w:av)(h:yr w g o)(l:mD o):
  Calls prog 184 #[aM (some ⟨g,0,none⟩)] w λe G=>aX e (uB o)/\G=w:=by
 obtain⟨k,L,r,W,q,Q,m,K,gP,J,t,I,c,-⟩:=h.open;have k0:=c.cell 0;have k1:=c.cell 1;have k2:=c.cell 2;have k3:=c.cell 3;have k5:=c.cell 5;have k6:=c.cell 6;obtain⟨n1,n2,n3,n4,n5,n6⟩:=l;clear h c;unfold uB;generalize (ah o.text)=j at *;generalize (ah o.bw)=d at *;generalize (ah o.data)=c at *;generalize (ah o.aE)=i at *;generalize (ah o.ay)=f at *;generalize o.bf=z at *;by_cases u:j<=1200
 rotate_left
 ·have D:decide ((1200:Z)<(j:Z))=T:=by simp;omega
  go_enter func184,ntmps184;go_wp2;go_ret;exact⟨aX.no (by omega),R⟩
 have M:decide ((1200:Z)<(j:Z))=F:=by simp;omega
 by_cases x:d<=1200
 rotate_left
 ·have D:decide ((1200:Z)<(d:Z))=T:=by simp;omega
  go_enter func184,ntmps184;go_wp2;go_ret;exact⟨aX.no (by omega),R⟩
 have N:decide ((1200:Z)<(d:Z))=F:=by simp;omega
 by_cases y:c<=64
 rotate_left
 ·have D:decide ((64:Z)<(c:Z))=T:=by simp;omega
  go_enter func184,ntmps184;go_wp2;go_ret;exact⟨aX.no (by omega),R⟩
 have S:decide ((64:Z)<(c:Z))=F:=by simp;omega
 by_cases B:0<=z
 rotate_left
 ·have D:decide (z<0)=T:=by simp;omega
  go_enter func184,ntmps184;go_wp2;go_ret;exact⟨aX.no (by omega),R⟩
 have d4:decide (z<0)=F:=by simp;omega
 by_cases C:z<=64
 rotate_left
 ·have D:decide ((64:Z)<z)=T:=by simp;omega
  go_enter func184,ntmps184;go_wp2;go_ret;exact⟨aX.no (by omega),R⟩
 have d5:decide ((64:Z)<z)=F:=by simp;omega
 by_cases E:i<=16
 rotate_left
 ·have D:decide ((i:Z)<=16)=F:=by simp;omega
  go_enter func184,ntmps184;go_wp2;go_ret;exact⟨aX.no (by omega),R⟩
 have d6:decide ((i:Z)<=16)=T:=by simp;omega
 by_cases H:f<=32
 rotate_left
 ·have D:decide ((f:Z)<=32)=F:=by simp;omega
  go_enter func184,ntmps184;go_wp2;go_ret;exact⟨aX.no (by omega),R⟩
 have d7:decide ((f:Z)<=32)=T:=by simp;omega
 go_enter func184,ntmps184;go_wp2;go_ret;exact⟨aX.iV (by omega),R⟩
def rh(o:aF):Prop:=jm o.text/\jm o.bw/\jm o.data
theorem aaf(g:Nat)(o:aF)(w:av)(h:yr w g o)(y:mD o):
  Calls prog 186 #[aM (some ⟨g,0,none⟩)] w λe G=>aX e (rh o)/\G=w:=by
 obtain⟨d,x,r,u,q,t,E,K,F,W,H,Q,c,f,l,m,-⟩:=h.open;have I:=c.cell 0;have J:=c.cell 1;have L:=c.cell 2;obtain⟨z,B,C,T,Z,n6⟩:=y;have i:=ae (KR d x o.text w (yq.dh f) z);have j:=ae (KR r u o.bw w (yq.dh l) B);have k:=ae (KR q t o.data w (yq.dh m) C);clear h c f l m;unfold rh;generalize (ah o.text)=M at *;generalize (ah o.bw)=N at *;generalize (ah o.data)=S at *;generalize jm o.text=l at *;generalize jm o.bw=m at *;generalize jm o.data=D at *;go_enter func186,ntmps186;go_wp2_with fail;refine i.o.mono ?_;rintro e X ⟨c,rfl⟩
 rcases c.split with ⟨rfl,f⟩|⟨rfl,f⟩<;>clear c i
 ·go_wp2;go_ret;exact⟨aX.no (λc=>f.o c.1),R⟩
 go_wp2_with fail;refine j.o.mono ?_;rintro e c ⟨t2,rfl⟩;rcases t2.split with ⟨rfl,i⟩|⟨rfl,i⟩<;>clear t2 j
 ·go_wp2;go_ret;exact⟨aX.no (λc=>i.o c.2.1),R⟩
 go_wp2_with fail;refine k.o.mono ?_;rintro e w3 ⟨t3,rfl⟩;rcases t3.split with ⟨rfl,j⟩|⟨rfl,j⟩<;>clear t3 k
 ·go_wp2;go_ret;exact⟨aX.no (λc=>j.o c.2.2),R⟩
 go_wp2;go_ret;exact⟨aX.iV ⟨f.o,i.o,j.o⟩,R⟩
theorem Kn(c:Z)(w:av)(d:48<=c)(f:c<=57):
  Calls prog 216 #[.int .u8 c] w λe G=>e=aH (aJ T)/\G=w:=by
 go_enter func216,ntmps216;go_wp2;go_ret;exact⟨by simp,R⟩
theorem AL(c:Z)(w:av)(h:c<48\/57<c):
  Calls prog 216 #[.int .u8 c] w λe G=>e=aH (aJ F)/\G=w:=by
 by_cases f:48<=c
 ·have d:57<c:=by omega
  clear h;go_enter func216,ntmps216;go_wp2;go_ret;exact⟨by simp;omega,R⟩
 ·have d:decide (48<=c)=F:=by simp;omega
  clear h;go_enter func216,ntmps216;go_wp2;go_ret;exact⟨R,R⟩
theorem kF(h:aV w base e size (ak V n cap) n xs):n<=cap/\cap<=cu:=by
 rcases h.2 with ⟨i,l⟩|⟨g,c,f,d,_,_,j,k,_⟩
 ·simp at i;omega
 ·simp only[jQ]at d;obtain⟨_,_,rfl⟩:=d;exact⟨j,k⟩
def yp(o:aF)(au:Z):L Z:=if au=1 then o.text else if au=2 then o.bw else if au=3 then o.data else []
theorem FU(g:Nat)(o:aF)(c:Z)(w:av)(h:yr w g o):
  Calls prog 121 #[aM (S ⟨g,0,none⟩),.int .i64 c] w λe G=>∃V cap,e=aH (ak V (yp o c).length cap)/\(yq w V (yp o c)/\(yp o c).length<=cap/\cap<=cu)/\G=w:=by
 obtain⟨j,t,m,r,l,q,D,H,J,Q,E,K,d,f,i,k,-⟩:=h.open;have L:=d.cell 0;have M:=d.cell 1;have N:=d.cell 2;have u:=ae (yq.dh f);have x:=ae (yq.dh i);have y:=ae (yq.dh k);have z:=ae (kF f);have B:=ae (kF i);have C:=ae (kF k);clear h d f i k;unfold yp;by_cases d:c=1
 ·subst d;go_enter func121,ntmps121;go_wp2;go_ret;exact⟨j,t,R,⟨u.o,z.o⟩,R⟩
 by_cases f:c=2
 ·subst f;go_enter func121,ntmps121;go_wp2;go_ret;exact⟨m,r,R,⟨x.o,B.o⟩,R⟩
 by_cases i:c=3
 ·subst i;go_enter func121,ntmps121;go_wp2;go_ret;exact⟨l,q,R,⟨y.o,C.o⟩,R⟩
 ·rw[ax d,ax f,ax i];have k:(c==1)=F:=df.2 d;have W:(c==2)=F:=df.2 f;have I:(c==3)=F:=df.2 i;clear d f i;go_enter func121,ntmps121;go_wp2;go_ret;exact⟨none,0,R,⟨λh=>by simp at h,by simp,by simp⟩,R⟩
def iU(o:aF)(au:Z):Z:=if au=4 then o.bf else (yp o au).length
theorem sd{o:aF}(h:mD o)(c:Z):(yp o c).length<=65535:=by
 obtain⟨d,f,g,i,j,k⟩:=h;unfold yp;split
 ·exact d
 split
 ·exact f
 split
 ·exact g
 ·simp
theorem KJ(g:M)(o:aF)(d:Z)(w:av)(h:yr w g o)(i:mD o)(k:0<=o.bf/\o.bf<=64):
  Calls prog 118 #[aM (S ⟨g,0,N⟩),I J d] w λe G=>e=aH (I J (4*iU o d))/\G=w:=by
 have c:=ae (FU g o d w h);have E:=sd i d;obtain⟨j,B,q,x,m,u,l,t,D,z,r,y,f,-⟩:=h.open;have H:=f.cell 3;clear h f i;unfold iU;by_cases f:d=4
 ·subst f;obtain⟨C,K⟩:=k;go_enter func118,ntmps118;go_wp2;go_ret;exact⟨by simp,R⟩
 ·rw[ax f];have C:(d==4)=F:=df.2 f;clear f;generalize yp o d=K at *;go_enter func118,ntmps118;go_wp2_with fail;refine c.o.mono ?_;rintro e X ⟨V,cap,rfl,-,rfl⟩;go_wp2;go_ret;exact⟨R,R⟩
def ic(c:Z):Prop:=c=95\/(48<=c/\c<=57)\/(97<=c/\c<=122)
def mW(s:bT):Prop:=1<=s.size/\s.size<=6/\(∀h:0<s.size,¬(48<=(s[0].toNat:Z)/\(s[0].toNat:Z)<=57))/\∀i (h:i<s.size),ic (s[i].toNat:Z)
theorem RL(c:Z)(w:av)(l:0<=c):
  Calls prog 250 #[.int .u8 c] w λe G=>aX e (ic c)/\G=w:=by
 rcases (show c<=47\/(48<=c/\c<=57)\/(58<=c/\c<=94)\/(95<=c/\c<=95)\/(96<=c/\c<=96)\/(97<=c/\c<=122)\/123<=c from by omega)with r|⟨f,g⟩|⟨f,g⟩|⟨f,g⟩|⟨f,g⟩|⟨f,g⟩|r
 ·have N:=ae (show ¬ic c from λh=>by unfold ic at h;omega);have i:decide (97<=c)=F:=by simp;omega
  have j:(c==95)=F:=by simp;omega
  have d:=ae (AL c w (by omega));go_enter func250,ntmps250;go_wp2_with fail;refine d.o.mono ?_;rintro e X ⟨rfl,rfl⟩;go_wp2;go_ret;exact⟨aX.no N.o,R⟩
 ·have N:=ae (show ic c from by unfold ic;omega);have i:decide (97<=c)=F:=by simp;omega
  have j:(c==95)=F:=by simp;omega
  have d:=ae (Kn c w f g);go_enter func250,ntmps250;go_wp2_with fail;refine d.o.mono ?_;rintro e X ⟨rfl,rfl⟩;go_wp2;go_ret;exact⟨aX.iV N.o,R⟩
 ·have N:=ae (show ¬ic c from λh=>by unfold ic at h;omega);have i:decide (97<=c)=F:=by simp;omega
  have j:(c==95)=F:=by simp;omega
  have d:=ae (AL c w (by omega));go_enter func250,ntmps250;go_wp2_with fail;refine d.o.mono ?_;rintro e X ⟨rfl,rfl⟩;go_wp2;go_ret;exact⟨aX.no N.o,R⟩
 ·obtain rfl:c=95:=by omega
  go_enter func250,ntmps250;go_wp2;go_ret;exact⟨aX.iV (by unfold ic;omega),R⟩
 ·obtain rfl:c=96:=by omega
  have d:=ae (AL 96 w (by omega));go_enter func250,ntmps250;go_wp2_with fail;refine d.o.mono ?_;rintro e X ⟨rfl,rfl⟩;go_wp2;go_ret;exact⟨aX.no (λh=>by unfold ic at h;omega),R⟩
 ·have N:=ae (show ic c from by unfold ic;omega);have i:decide (97<=c)=T:=by simp;omega
  have j:decide (c<=122)=T:=by simp;omega
  go_enter func250,ntmps250;go_wp2;go_ret;exact⟨aX.iV N.o,R⟩
 ·have N:=ae (show ¬ic c from λh=>by unfold ic at h;omega);have i:decide (97<=c)=T:=by simp;omega
  have k:decide (c<=122)=F:=by simp;omega
  have j:(c==95)=F:=by simp;omega
  have d:=ae (AL c w (by omega));go_enter func250,ntmps250;go_wp2_with fail;refine d.o.mono ?_;rintro e X ⟨rfl,rfl⟩;go_wp2;go_ret;exact⟨aX.no N.o,R⟩
theorem acW(s:bT)(w:av)(z:s.size<=1048576):
  Calls prog 244 #[aB s] w λe G=>aX e (mW s)/\G=w:=by
 by_cases u:s.size<1
 ·have N:=ae (show ¬mW s from λh=>by have:=h.1;omega);have D:decide ((s.size:Z)<1)=T:=by simp;omega
  go_enter func244,ntmps244;go_wp2;go_ret;exact⟨aX.no N.o,R⟩
 by_cases x:6<s.size
 ·have N:=ae (show ¬mW s from λh=>by have:=h.2.1;omega);have q:decide ((s.size:Z)<1)=F:=by simp;omega
  have D:decide ((6:Z)<(s.size:Z))=T:=by simp;omega
  go_enter func244,ntmps244;go_wp2;go_ret;exact⟨aX.no N.o,R⟩
 have q:decide ((s.size:Z)<1)=F:=by simp;omega
 have t:decide ((6:Z)<(s.size:Z))=F:=by simp;omega
 have r:0<s.size:=by omega
 by_cases c:48<=(s[0].toNat:Z)/\(s[0].toNat:Z)<=57
 ·have N:=ae (show ¬mW s from λh=>h.2.2.1 r c);have d:=ae (λw=>Kn (s[0].toNat:Z) w c.1 c.2);clear c;go_enter func244,ntmps244;go_wp2_with fail;refine(d.o _).mono ?_;rintro e X ⟨rfl,rfl⟩;go_wp2;go_ret;exact⟨aX.no N.o,R⟩
 have o:=ae c;have d:=ae (λw=>AL (s[0].toNat:Z) w (by omega));clear c;go_enter func244,ntmps244;go_wp2_with fail;refine(d.o _).mono ?_;rintro e X ⟨rfl,rfl⟩;go_wp2_with fail
 go_loop [3] (λi=>∃k:M,k<=s.size/\i=I J k/\∀j (c:j<s.size),j<k->ic (s[j].toNat:Z)) (λi=>s.size-(aN i).toNat)
 case atStart=>exact⟨0,bG _,R,λj _ c=>absurd c (ji j)⟩
 case round=>
  obtain⟨k,y,rfl,c⟩:=hrel;have m:=ae c;clear c;by_cases g:k<s.size
  ·have c:=ae (λw=>RL (s[k].toNat:Z) w (by omega));go_wp2_with fail;refine(c.o _).mono ?_;rintro e X ⟨f,rfl⟩;rcases f.split with ⟨rfl,l⟩|⟨rfl,l⟩<;>clear f c
   ·have N:=ae (show ¬mW s from λh=>l.o (h.2.2.2 k g));go_wp2;go_ret;exact⟨aX.no N.o,R⟩
   ·go_wp2
    go_round
    case rel=>exact⟨k+1,by omega,by go_num,λj c f=>(jY.1 f).elim (λh=>m.o j c h) (λh=>by subst h;exact l.o)⟩
    case measure=>simp[aN];omega
  ·go_wp2;go_ret;exact⟨aX.iV ⟨by omega,by omega,λ_=>o.o,λi c=>m.o i c (by omega)⟩,R⟩
def gH(w:av)(V:aR aY)(ys:L dz):Prop :=
 0<ah ys->∃g,V=S ⟨g,0,N⟩/\g<w.heap.size/\∀i (h:i<ah ys),aq w ⟨g,i*4,N⟩=S (aB (bs ys[i].name))/\aq w ⟨g,i*4+1,N⟩=S (I J ys[i].bind) /\
  aq w ⟨g,i*4+2,N⟩=S (I J ys[i].au)/\aq w ⟨g,i*4+3,N⟩=S (I J ys[i].off)
theorem yR{α:Type}(f:α->L aC)(size:M)(c:∀x,(f x).length=size)(l:L α)(i j:M)(d:i<ah l)(h:j<size):(l.flatMap f)[i*size+j]?=(f l[i])[j]?:=by
 induction l generalizing i with
 |nil=>simp at d
 |cons x t g=>
  rw[kX]
  cases i with
  |zero=>
   rw[List.getElem?_append_left (by rw[c];omega)];simp
  |succ i=>
   rw[List.getElem?_append_right (by rw[c,rG];omega),c]
   have:(i+1)*size+j-size=i*size+j:=by rw[rG];omega
   rw[this,g i (by simpa using d)];simp
theorem gH.dh{ys:L dz}(h:aV w base 107 4 (ak V n cap) n (ys.flatMap gy)):gH w V ys:=by
 intro l;have u:(ys.flatMap gy).length=ah ys*4:=by
  clear h l
  induction ys with
  |nil=>rfl
  |cons y t c=>rw[kX,bX,c];simp[gy];omega
 have x:ah ys=n:=by have:=h.1;omega
 have c:=h.lt;rcases h.2 with ⟨m,r⟩|⟨g,d,k,f,_⟩
 ·simp at m;omega
 ·simp only[jQ]at f;obtain⟨rfl,_,rfl⟩:=f;refine⟨g,R,(c g R).2,λi o=>?_⟩;have q:=λj (c:j<4)=>(h.cellAt (i*4+j) (by omega)).trans (yR gy 4 (λ_=>rfl) ys i j o c)
  exact⟨q 0 (by omega),q 1 (by omega),q 2 (by omega),q 3 (by omega)⟩
theorem gH.grown{ys:L dz}(h:gH w V ys)(f:az w G N):gH G V ys:=by
 intro j;obtain⟨g,k,l,m⟩:=h j;refine⟨g,k,oc l f.size,λi o=>?_⟩;obtain⟨a,b,c,d⟩:=m i o;exact⟨f.cell a (by simp),f.cell b (by simp),f.cell c (by simp),f.cell d (by simp)⟩
theorem adt(V:aR aY)(cap:M)(ys:L dz)(d:L aL)(w:av)(h:gH w V ys)(x:ah ys<=65535):
  Calls prog 210 #[ak V (ah ys) cap,aB (bs d)] w λe G=>aX e (∃i,∃h:i<ah ys,ys[i].name=d)/\az w G N:=by
 have H:=ae h;clear h;go_enter func210,ntmps210;go_wp2
 go_loopw [9] (λi wr=>∃k:M,k<=ah ys/\i=I J k/\(∀j (m:j<ah ys),j<k->ys[j].name≠d)/\az w wr N) (λi _=>ah ys-(aN i).toNat)
 case atStart=>exact⟨0,bG _,R,λj _ m=>absurd m (ji j),aW _ _⟩
 case round=>
  obtain⟨k,u,rfl,c,f⟩:=hrel;have q:=ae c;have l:=ae f;clear c f;by_cases f:k<ah ys
  ·obtain⟨g,rfl,t,c⟩:=H.o.grown l.o (by omega);obtain⟨y,z,B,C⟩:=c k f;clear c;by_cases c:ys[k].name=d
   ·have E:=ae c;have r:((bs ys[k].name).toList==(bs d).toList)=T:=by rw[c];simp
    clear c;go_wp2;go_ret;exact⟨aX.iV ⟨k,f,E.o⟩,ya l.o (aG _ _ _)⟩
   ·have E:=ae c;have r:((bs ys[k].name).toList==(bs d).toList)=F:=by rw[ik,ik];simpa using c
    clear c;go_wp2
    go_roundw
    case rel=>exact⟨k+1,by omega,by go_num,λj m o=>(jY.1 o).elim (λh=>q.o j m h) (λh=>by subst h;exact E.o),ya l.o (aG _ _ _)⟩
    case measure=>simp[aN];omega
  ·go_wp2;go_ret;exact⟨aX.no (λ⟨i,c,h⟩=>q.o i c (by omega) h),l.o⟩
