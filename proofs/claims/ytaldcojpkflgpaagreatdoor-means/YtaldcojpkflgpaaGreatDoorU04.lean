import Derived.Test.YtaldcojpkflgpaaGreatDoorU03
import Derived.Deep.CutRange
import Derived.Deep.RegionHeld3
import Derived.Deep.RegionWith
import Derived.Deep.LoopGhost
set_option maxHeartbeats 16000000
set_option maxRecDepth 100000
open Go.Value renaming int->I,slice->ak,pointer->aM,string->aB,bool->aJ,tuple->aZ,ownBlock->eW
open Go.IntKind renaming i64->J,wrap_i64->pD
open Go renaming World->av,TypeId->dm,Value->aC,Addr->aY,bodyPost_ret->bj,maxLen->cu,wpAnyH_ready->ee,wpAnyH_done->ox,bits->aT,results_none->gW,info_parts->fG,cell_one_new->qt
open _root_ renaming Nat->M,List->L,UInt8->aL,Int->Z,Option->aR,rfl->R,if_neg->ax,if_pos->aD,decide_eq_true->kB,decide_eq_false->gF,Bool->bc
open List renaming length->ah,drop_eq_getElem_cons->fv,getElem?_toArray->bI,getElem?_cons_succ->bB,getElem_mem->bN,getElem?_eq_getElem->bW,setIfInBounds_toArray->dt,set_cons_succ->dB,set_cons_zero->dC,drop_length->jJ,any_cons->yG,length_cons->dA,length_take->iO,getElem_toArray->nQ,getElem_cons_succ->lH,getElem_cons_zero->nj,length_set->lI,getD_eq_getElem?_getD->bQ,getElem?_map->jS,getElem_append_left->uM,mem_append->nR,getElem_of_mem->kY,getElem_set_self->Cu,getElem_set_ne->EZ,drop_drop->uJ,take_succ_eq_append_getElem->kI
open Option renaming some->S,none->N,bind_some->Xb,map_some->zt
open Go.World renaming grownBy->az,setCell->aK,grownBy_alloc->aG,alloc->wX,cell?->aq,block_lt_of_cell?->ow,ownsRow->aV,frozen?->dx
open Go.Ending renaming returned->aH
open Go.RowKit renaming intOf->aN
open Nat renaming zero_le->bG,le_refl->bz
open Go.World.grownBy renaming refl->aW
open Bool renaming true->T,false->F,false_or->D9,eq_iff_iff->vg
open Option.some renaming injEq->nv
open Array renaming size_push->js,getElem?_setIfInBounds->Ub
open Go.AllReadyH renaming cons->dX,nil->eN
open Int renaming eq_ofNat_of_zero_le->eX,toNat_natCast->dy
open Go.IntWalk renaming i64_in->dD
open Go.Exit renaming inBlock->gV
open BitVec renaming ofInt->de
namespace Go.Proofs.YtaldcojpkflgpaaGreatDoor
open Go.RowKit Go.Proofs.Tryz
variable {w W D A y wr w1:av} {b base n cap j B size:M} {e t:dm} {xs:L aC} {v:aC} {Y:Array aC} {o:aF} {ts:L dm} {O G:L aF}
theorem abm(n:L aL)(a:Z)(os:L aF)(k:M)(h:k<ah os):qC n a k (os.drop k)=match mi n a os[k].aE with|some (s,f)=>⟨S k,s,f⟩|none=>qC n a (k+1) (os.drop (k+1)):=by
 rw[fv h,qC]
 cases mi n a os[k].aE<;>rfl
theorem abn(n:L aL)(a:Z)(ys:L dz)(k:M)(h:k<ah ys):mi n a (ys.drop k)=if ys[k].name=n/\ys[k].bind=a/\ys[k].au≠0 then S (ys[k].au,ys[k].off)else mi n a (ys.drop (k+1)):=by
 rw[fv h,mi]
theorem iC{V:av}(h:az w V N)(r:M)(d:w.heap.size<=r)(a b c:aC):az w (((aK V ⟨r,0,N⟩ a).setCell ⟨r,1,N⟩ b).setCell ⟨r,2,N⟩ c) N :=
 eh (eh (eh h (bK V r 0 a) (by intro k e;simp at e;omega)) (bK _ r 1 b) (by intro k e;simp at e;omega)) (bK _ r 2 c) (by intro k e;simp at e;omega)
theorem SU(ao:aR aY)(cap:M)(m:L M)(os:L aF)(f:L aL)(d:Z)(w:av)(h:nF w ao m os):
  Calls prog 113 #[ak ao (ah m) cap,aB (bs f),I J d] w λe a=>e=aH (jC m (lh os f d))/\az w a N:=by
 have H:=ae h;have MV:=h.few;have HL:=ae h.len;have G0:=ae (aG w (.cells #[aM N,I J 0,I J 0] 149) N);have B0:=ae (aA.new w #[aM N,I J 0,I J 0] 149);have hbl:ah m<=4096:=by rw[h.len];exact MV
 clear h;go_enter func113,ntmps113;go_wp2;generalize w.alloc (.cells #[aM N,I J 0,I J 0] 149)=W1 at *
 go_loopw [13] (λi wr=>∃k:M,k<=ah m/\i=I J k/\lh os f d=qC f d k (os.drop k)/\az W1 wr N) (λi _=>ah m-(aN i).toNat)
 case atStart=>exact⟨0,bG _,R,R,aW _ _⟩
 case round=>
  obtain⟨k,hk,rfl,c,a⟩:=hrel;have HF:=ae c;have z:=ae a;clear c a;by_cases q:k<ah m
  ·have x:k<ah os:=by rw[<- HL.o];exact q
   have a:=H.o.kept (ya G0.o z.o);obtain⟨g0,off,hao,l⟩:=a.kD (by omega);subst hao;obtain⟨xQ,hm0,p⟩:=a.mod k q x;have ck:=l k q;obtain⟨at_,ct,af,cf,ad,cd,aa,ca,gP,Y,ar,cr,g,-,-,-,-,r,-⟩:=p.open;have c:=ae (gH.dh r);have k5:=g.cell 5;simp only[bI,bB,bL]at k5;have hns:=a.aE os[k] (bN x);have ks:=ae (abm f d os k x);clear l p g r a;generalize os[k].aE=p at *;generalize a:m[k]=bk at *;have Us:=ae a;clear a;have g1:(k:Z)<(ah m:Z):=by omega
   obtain⟨U,hU⟩:∃U:av,U=wr:=⟨_,R⟩
   subst hU;go_wp2
   go_loopw [25] (λi wr=>∃j:M,j<=ah p/\i=I J j/\mi f d p=mi f d (p.drop j)/\az U wr N) (λi _=>ah p-(aN i).toNat)
   case atStart=>exact⟨0,bG _,R,R,aW _ _⟩
   case round=>
    obtain⟨j,hj,rfl,a,g⟩:=hrel;have jl:=ae a;have l:=ae g;clear a g ck hm0 k5;by_cases s:j<ah p
    ·obtain⟨sg,hsg,hgs,a⟩:=c.o.grown l.o (by omega);subst hsg;obtain⟨q0,q1,q2,q3⟩:=a j s;clear a;have g2:(j:Z)<(ah p:Z):=by omega
     have nO:=ae (abn f d p j s);generalize p[j]=y at *;have iM:=ae (λa:Obj=>aG wr a N);have NX:=ae (λ(a:¬(y.name=f/\y.bind=d/\y.au≠0))=>show mi f d p=mi f d (p.drop (j+1)) by rw[jl.o,nO.o,ax a]);by_cases r:y.name=f
     ·have b1:((bs y.name).toList==(bs f).toList)=T:=by rw[r];simp
      by_cases u:y.bind=d
      ·have b2:(y.bind==d)=T:=by simpa using u
       by_cases C:y.au=0
       ·have b3:(y.au==0)=T:=by simpa using C
        have E:=ae (NX.o (λh=>h.2.2 C));clear r u C;go_wp2
        go_roundw
        case rel=>exact⟨j+1,by omega,by go_num,E.o,ya l.o (iM.o _)⟩
        case measure=>simp[aN];omega
       ·have b3:(y.au==0)=F:=by simpa using C
        have E:=ae (show lh os f d=⟨S k,y.au,y.off⟩ by rw[HF.o,ks.o,jl.o,nO.o,aD ⟨r,u,C⟩]);have g:=ae (B0.o.grown (ya z.o l.o) (by simp));have hRl:=g.o.lt;have V:=g.o.cell 0;have X:=g.o.cell 1;have z2:=g.o.cell 2;simp only[bI,bB,bL]at V X z2;have f0:=g.o.free 0;have f1:=g.o.free 1;have f2:=g.o.free 2;have Za:w.heap.size≠wr.heap.size:=by omega
        have Xe:=ae (show iT m (S k)=S ⟨bk,0,N⟩ by unfold iT;rw[Xb,bW q,zt,Us.o]);clear r u;go_wp2;have a:=(((g.o.set 0 (aM (S ⟨bk,0,N⟩))).set 1 (I J y.au)).set 2 (I J y.off)).grown (aG _ (.cells #[aB (bs y.name),I J y.bind,I J y.au,I J y.off] 107) N) (by simp);have K:=a.cell 0;have P:=a.cell 1;have Q:=a.cell 2;simp only[dt,dB,dC,bI,bB,bL]at K P Q;refine bj (v:=jC m ⟨S k,y.au,y.off⟩) ?_ R ⟨by rw[E.o],ya (iC (ya G0.o (ya z.o l.o)) _ (bz _) _ _ _) (aG _ _ N)⟩
        clear a V X z2 f0 f1 f2 q0 q1 q2 q3;generalize wX _ _=a at *;simp[results,results113,go_sem,jC,Xe.o,K,P,Q]
      ·have b2:(y.bind==d)=F:=by simpa using u
       have E:=ae (NX.o (λh=>u h.2.1));clear r u;go_wp2
       go_roundw
       case rel=>exact⟨j+1,by omega,by go_num,E.o,ya l.o (iM.o _)⟩
       case measure=>simp[aN];omega
     ·have b1:((bs y.name).toList==(bs f).toList)=F:=by rw[ik,ik];simpa using r
      have E:=ae (NX.o (λh=>r h.1));clear r;go_wp2
      go_roundw
      case rel=>exact⟨j+1,by omega,by go_num,E.o,ya l.o (iM.o _)⟩
      case measure=>simp[aN];omega
    ·obtain rfl:j=ah p:=by omega
     have E:=ae (show mi f d p=N by rw[jl.o,jJ];rfl);have r:decide ((ah p:Z)<(ah p:Z))=F:=by simp
     go_wp2
     go_roundw
     case rel=>exact⟨k+1,by omega,by go_num,by rw[HF.o,ks.o,E.o],ya z.o l.o⟩
     case measure=>simp[aN];omega
  ·obtain rfl:k=ah m:=by omega
   have E:=ae (show lh os f d=nX by rw[HF.o,HL.o,jJ];rfl);have r:decide ((ah m:Z)<(ah m:Z))=F:=by simp
   have g:=ae (B0.o.grown z.o (by simp));have V:=g.o.cell 0;have X:=g.o.cell 1;have z2:=g.o.cell 2;simp only[bI,bB,bL]at V X z2;have f0:=g.o.free 0;have f1:=g.o.free 1;have f2:=g.o.free 2;go_wp2;have a:=((g.o.set 0 (aM N)).set 1 (I J 0)).set 2 (I J 0);have K:=a.cell 0;have P:=a.cell 1;have Q:=a.cell 2;simp only[dt,dB,dC,bI,bB,bL]at K P Q;refine bj (v:=jC m nX) ?_ R ⟨by rw[E.o],iC (ya G0.o z.o) _ (bz _) _ _ _⟩
   clear a V X z2 f0 f1 f2;generalize aK _ _ _=a at *;simp[results,results113,go_sem,jC,iT,nX,K,P,Q]
theorem adA(os:L aF)(a:L aL)(k:M)(h:k<ah os):((os.drop k).any λo=>o.aE.any λy=>decide (y.name=a)&&jh y)=((os[k].aE.any λy=>decide (y.name=a)&&jh y) ||(os.drop (k+1)).any λo=>o.aE.any λy=>decide (y.name=a)&&jh y):=by
 rw[fv h,yG]
theorem afT(ys:L dz)(a:L aL)(k:M)(h:k<ah ys):((ys.drop k).any λy=>decide (y.name=a)&&jh y)=((decide (ys[k].name=a)&&jh ys[k]) ||(ys.drop (k+1)).any λy=>decide (y.name=a)&&jh y):=by
 rw[fv h,yG]
theorem adT(P:M)(ao:aR aY)(cap:M)(f:L M)(os:L aF)(a:L aL)(w:av)(hp:aq w ⟨P,3,N⟩=some (ak ao (ah f) cap))(h:nF w ao f os):
  Calls prog 190 #[aM (some ⟨P,0,N⟩),aB (bs a)] w λe c=>e=aH (aJ (pM os a))/\az w c N:=by
 have H:=ae h;have HL:=ae h.len;have hbl:ah f<=4096:=by rw[h.len];exact h.few
 have cC:=ae (λy W=>Se y W);unfold uh at cC;clear h;go_enter func190,ntmps190;go_wp2
 go_loopw [14] (λi wr=>∃k:M,k<=ah f/\i=I J k/\pM os a=((os.drop k).any λo=>o.aE.any λy=>decide (y.name=a)&&jh y)/\az w wr N) (λi _=>ah f-(aN i).toNat)
 case atStart=>exact⟨0,bG _,R,R,aW _ _⟩
 case round=>
  obtain⟨k,hk,rfl,d,c⟩:=hrel;have Q:=ae d;have s:=ae c;clear d c;by_cases p:k<ah f
  ·have m:k<ah os:=by rw[<- HL.o];exact p
   have c:=H.o.kept s.o;obtain⟨g0,off,V,g⟩:=c.kD (by omega);subst V;obtain⟨xQ,X,l⟩:=c.mod k p m;have ck:=g k p;obtain⟨at_,ct,af,cf,ad,cd,aa,ca,gP,Y,ar,cr,d,-,-,-,-,q,-⟩:=l.open;have S:=ae (gH.dh q);have k5:=d.cell 5;simp only[bI,bB,bL]at k5;have hns:=c.aE os[k] (bN m);have ks:=ae (adA os a k m);clear g l d q c;generalize os[k].aE=c at *;generalize f[k]=bk at *;have g1:(k:Z)<(ah f:Z):=by omega
   obtain⟨U,hU⟩:∃U:av,U=wr:=⟨_,R⟩
   subst hU;go_wp2
   go_loopw [26] (λi wr=>∃j:M,j<=ah c/\i=I J j/\(c.any λy=>decide (y.name=a)&&jh y)=((c.drop j).any λy=>decide (y.name=a)&&jh y)/\az U wr N) (λi _=>ah c-(aN i).toNat)
   case atStart=>exact⟨0,bG _,R,R,aW _ _⟩
   case round=>
    obtain⟨j,hj,rfl,g,l⟩:=hrel;have x:=ae g;have d:=ae l;clear g l ck X k5;by_cases g:j<ah c
    ·obtain⟨sg,T,hgs,l⟩:=S.o.grown d.o (by omega);subst T;obtain⟨q0,q1,q2,q3⟩:=l j g;clear l;have g2:(j:Z)<(ah c:Z):=by omega
     have z:=ae (afT c a j g);generalize c[j]=y at *;have u:=ae (cC.o y);have K:=ae (λa:Obj=>aG wr a N);by_cases l:y.name=a
     ·have b1:((bs y.name).toList==(bs a).toList)=true:=by rw[l];simp
      cases q:jh y
      ·have E:=ae (show (c.any λy=>decide (y.name=a)&&jh y)=((c.drop (j+1)).any λy=>decide (y.name=a)&&jh y) by rw[x.o,z.o,q];simp);rw[q]at u;clear l q;go_wp2_with fail;refine(u.o _).mono ?_;rintro e W5 ⟨rfl,r⟩;have C:=ae (ya d.o (ya (K.o _) r));clear r;go_wp2
       go_roundw
       case rel=>exact⟨j+1,by omega,by go_num,E.o,C.o⟩
       case measure=>simp[aN];omega
      ·have E:=ae (show pM os a=true by rw[Q.o,ks.o,x.o,z.o,q,kB l];simp);rw[q]at u;clear l q;go_wp2_with fail;refine(u.o _).mono ?_;rintro e W5 ⟨rfl,r⟩;have C:=ae (ya d.o (ya (K.o _) r));clear r;go_wp2;go_ret;exact⟨qe E.o.symm,ya s.o C.o⟩
     ·have b1:((bs y.name).toList==(bs a).toList)=F:=by rw[ik,ik];simpa using l
      have E:=ae (show (c.any λy=>decide (y.name=a)&&jh y)=((c.drop (j+1)).any λy=>decide (y.name=a)&&jh y) by rw[x.o,z.o,gF l];simp);clear l;go_wp2
      go_roundw
      case rel=>exact⟨j+1,by omega,by go_num,E.o,ya d.o (K.o _)⟩
      case measure=>simp[aN];omega
    ·obtain rfl:j=ah c:=by omega
     have E:=ae (show (c.any λy=>decide (y.name=a)&&jh y)=F by rw[x.o,jJ];rfl);have l:decide ((ah c:Z)<(ah c:Z))=F:=by simp
     go_wp2
     go_roundw
     case rel=>exact⟨k+1,by omega,by go_num,by rw[Q.o,ks.o,E.o,D9],ya s.o d.o⟩
     case measure=>simp[aN];omega
  ·obtain rfl:k=ah f:=by omega
   have E:=ae (show pM os a=F by rw[Q.o,HL.o,jJ];rfl);have l:decide ((ah f:Z)<(ah f:Z))=F:=by simp
   go_wp2;go_ret;exact⟨qe E.o.symm,s.o⟩
theorem aeY(os:L aF)(a:L aL)(k:M)(h:k<ah os):((os.drop k).any λo=>o.aE.any λy=>decide (y.name=a)&&gK y)=((os[k].aE.any λy=>decide (y.name=a)&&gK y) ||(os.drop (k+1)).any λo=>o.aE.any λy=>decide (y.name=a)&&gK y):=by
 rw[fv h,yG]
theorem agr(ys:L dz)(a:L aL)(k:M)(h:k<ah ys):((ys.drop k).any λy=>decide (y.name=a)&&gK y)=((decide (ys[k].name=a)&&gK ys[k]) ||(ys.drop (k+1)).any λy=>decide (y.name=a)&&gK y):=by
 rw[fv h,yG]
theorem afH(P:M)(ao:aR aY)(cap:M)(f:L M)(os:L aF)(a:L aL)(w:av)(hp:aq w ⟨P,3,N⟩=some (ak ao (ah f) cap))(h:nF w ao f os):
  Calls prog 191 #[aM (some ⟨P,0,N⟩),aB (bs a)] w λe c=>e=aH (aJ (oG os a))/\az w c N:=by
 have H:=ae h;have HL:=ae h.len;have hbl:ah f<=4096:=by rw[h.len];exact h.few
 have cC:=ae (λy W=>Q8 y W);unfold uh at cC;clear h;go_enter func191,ntmps191;go_wp2
 go_loopw [14] (λi wr=>∃k:M,k<=ah f/\i=I J k/\oG os a=((os.drop k).any λo=>o.aE.any λy=>decide (y.name=a)&&gK y)/\az w wr N) (λi _=>ah f-(aN i).toNat)
 case atStart=>exact⟨0,bG _,R,R,aW _ _⟩
 case round=>
  obtain⟨k,hk,rfl,d,c⟩:=hrel;have Q:=ae d;have s:=ae c;clear d c;by_cases p:k<ah f
  ·have m:k<ah os:=by rw[<- HL.o];exact p
   have c:=H.o.kept s.o;obtain⟨g0,off,V,g⟩:=c.kD (by omega);subst V;obtain⟨xQ,X,l⟩:=c.mod k p m;have ck:=g k p;obtain⟨at_,ct,af,cf,ad,cd,aa,ca,gP,Y,ar,cr,d,-,-,-,-,q,-⟩:=l.open;have S:=ae (gH.dh q);have k5:=d.cell 5;simp only[bI,bB,bL]at k5;have hns:=c.aE os[k] (bN m);have ks:=ae (aeY os a k m);clear g l d q c;generalize os[k].aE=c at *;generalize f[k]=bk at *;have g1:(k:Z)<(ah f:Z):=by omega
   obtain⟨U,hU⟩:∃U:av,U=wr:=⟨_,R⟩
   subst hU;go_wp2
   go_loopw [26] (λi wr=>∃j:M,j<=ah c/\i=I J j/\(c.any λy=>decide (y.name=a)&&gK y)=((c.drop j).any λy=>decide (y.name=a)&&gK y)/\az U wr N) (λi _=>ah c-(aN i).toNat)
   case atStart=>exact⟨0,bG _,R,R,aW _ _⟩
   case round=>
    obtain⟨j,hj,rfl,g,l⟩:=hrel;have x:=ae g;have d:=ae l;clear g l ck X k5;by_cases g:j<ah c
    ·obtain⟨sg,T,hgs,l⟩:=S.o.grown d.o (by omega);subst T;obtain⟨q0,q1,q2,q3⟩:=l j g;clear l;have g2:(j:Z)<(ah c:Z):=by omega
     have z:=ae (agr c a j g);generalize c[j]=y at *;have u:=ae (cC.o y);have K:=ae (λa:Obj=>aG wr a N);by_cases l:y.name=a
     ·have b1:((bs y.name).toList==(bs a).toList)=true:=by rw[l];simp
      cases q:gK y
      ·have E:=ae (show (c.any λy=>decide (y.name=a)&&gK y)=((c.drop (j+1)).any λy=>decide (y.name=a)&&gK y) by rw[x.o,z.o,q];simp);rw[q]at u;clear l q;go_wp2_with fail;refine(u.o _).mono ?_;rintro e W5 ⟨rfl,r⟩;have C:=ae (ya d.o (ya (K.o _) r));clear r;go_wp2
       go_roundw
       case rel=>exact⟨j+1,by omega,by go_num,E.o,C.o⟩
       case measure=>simp[aN];omega
      ·have E:=ae (show oG os a=true by rw[Q.o,ks.o,x.o,z.o,q,kB l];simp);rw[q]at u;clear l q;go_wp2_with fail;refine(u.o _).mono ?_;rintro e W5 ⟨rfl,r⟩;have C:=ae (ya d.o (ya (K.o _) r));clear r;go_wp2;go_ret;exact⟨qe E.o.symm,ya s.o C.o⟩
     ·have b1:((bs y.name).toList==(bs a).toList)=F:=by rw[ik,ik];simpa using l
      have E:=ae (show (c.any λy=>decide (y.name=a)&&gK y)=((c.drop (j+1)).any λy=>decide (y.name=a)&&gK y) by rw[x.o,z.o,gF l];simp);clear l;go_wp2
      go_roundw
      case rel=>exact⟨j+1,by omega,by go_num,E.o,ya d.o (K.o _)⟩
      case measure=>simp[aN];omega
    ·obtain rfl:j=ah c:=by omega
     have E:=ae (show (c.any λy=>decide (y.name=a)&&gK y)=F by rw[x.o,jJ];rfl);have l:decide ((ah c:Z)<(ah c:Z))=F:=by simp
     go_wp2
     go_roundw
     case rel=>exact⟨k+1,by omega,by go_num,by rw[Q.o,ks.o,E.o,D9],ya s.o d.o⟩
     case measure=>simp[aN];omega
  ·obtain rfl:k=ah f:=by omega
   have E:=ae (show oG os a=F by rw[Q.o,HL.o,jJ];rfl);have l:decide ((ah f:Z)<(ah f:Z))=F:=by simp
   go_wp2;go_ret;exact⟨qe E.o.symm,s.o⟩
theorem aef(P:M)(p:aR aY)(cap:M)(q:L M)(os:L aF)(xQ:M)(o:aF)(w:av)(C:aq w ⟨P,3,N⟩=S (ak p (ah q) cap))(h:nF w p q os)(X:yr w xQ o)(hns:ah o.aE<=65535):
  Calls prog 154 #[aM (S ⟨P,0,N⟩),aM (S ⟨xQ,0,N⟩)] w λe a=>e=aH (aJ (rE os o))/\az w a N:=by
 have V:=ae (λy W=>Q8 y W);have cW:=ae (λc W (a:az w W N)=>adT P p cap q os c W (yd C a) (h.kept a));have cH:=ae (λc W (a:az w W N)=>afH P p cap q os c W (yd C a) (h.kept a));unfold uh at V;obtain⟨at_,ct,af,cf,ad,cd,aa,ca,gP,Y,ar,cr,a,-,-,-,-,d,-⟩:=X.open;have c:=ae (gH.dh d);have k5:=a.cell 5;simp only[bI,bB,bL]at k5;have Ja:=ae (show rE os o=o.aE.any λy=>gK y&&(pM os y.name && !oG os y.name)from R);clear h X a d C;generalize rE os o=a at *;generalize o.aE=d at *
 go_enter func154,ntmps154;go_wp2
 go_loopw [12] (λi wr=>∃j:M,j<=ah d/\i=I J j/\a=((d.drop j).any λy=>gK y&&(pM os y.name && !oG os y.name))/\az w wr N) (λi _=>ah d-(aN i).toNat)
 case atStart=>exact⟨0,bG _,R,Ja.o,aW _ _⟩
 case round=>
  obtain⟨j,hj,rfl,f,k⟩:=hrel;have T:=ae f;have g:=ae k;clear f k k5;by_cases f:j<ah d
  ·obtain⟨sg,H,hgs,k⟩:=c.o.grown g.o (by omega);subst H;obtain⟨u,z,K,U⟩:=k j f;clear k;have g2:(j:Z)<(ah d:Z):=by omega
   have m:=ae (show a=((gK d[j]&&(pM os d[j].name && !oG os d[j].name)) ||(d.drop (j+1)).any λy=>gK y&&(pM os y.name && !oG os y.name)) by rw[T.o,fv f,yG]);generalize d[j]=y at *;have s:=ae (V.o y);have l:=ae (cW.o y.name);have k:=ae (cH.o y.name);have iF:=ae (aA.new wr #[aB (bs y.name),I J y.bind,I J y.au,I J y.off] 107);have iM:=ae (aG wr (.cells #[aB (bs y.name),I J y.bind,I J y.au,I J y.off] 107) N);have GW:=ae (ya g.o iM.o);go_wp2_with fail
   refine(s.o _).mono ?_;rintro e W5 ⟨rfl,r⟩;have x:=ae (ya GW.o r);have Q:=ae (iF.o.grown r (by simp));clear r s u z K U;have K:aq W5 ⟨wr.heap.size,0,N⟩=S (aB (bs y.name)):=Q.o.cell 0
   cases r:gK y
   ·have E:=ae (show a=((d.drop (j+1)).any λy=>gK y&&(pM os y.name && !oG os y.name)) by rw[m.o,r];simp);clear r;go_wp2
    go_roundw
    case rel=>exact⟨j+1,by omega,by go_num,E.o,x.o⟩
    case measure=>simp[aN];omega
   ·have E1:=ae r;clear r;go_wp2_with fail;refine(l.o _ x.o).mono ?_;rintro e W6 ⟨rfl,s⟩;have z:=ae (ya x.o s);have B6:=ae (Q.o.grown s (by simp));clear s l K;have K:aq W6 ⟨wr.heap.size,0,N⟩=S (aB (bs y.name)):=B6.o.cell 0
    cases s:pM os y.name
    ·have E:=ae (show a=((d.drop (j+1)).any λy=>gK y&&(pM os y.name && !oG os y.name)) by rw[m.o,s];simp);clear s;go_wp2
     go_roundw
     case rel=>exact⟨j+1,by omega,by go_num,E.o,z.o⟩
     case measure=>simp[aN];omega
    ·have E2:=ae s;clear s;go_wp2_with fail;refine(k.o _ z.o).mono ?_;rintro e W7 ⟨rfl,u⟩;have U:=ae (ya z.o u);clear u k K
     cases u:oG os y.name
     ·have E:=ae (show a=true by rw[m.o,E1.o,E2.o,u];simp);clear u;go_wp2;go_ret;exact⟨qe E.o.symm,U.o⟩
     ·have E:=ae (show a=((d.drop (j+1)).any λy=>gK y&&(pM os y.name && !oG os y.name)) by rw[m.o,u];simp);clear u;go_wp2
      go_roundw
      case rel=>exact⟨j+1,by omega,by go_num,E.o,U.o⟩
      case measure=>simp[aN];omega
  ·obtain rfl:j=ah d:=by omega
   have E:=ae (show a=F by rw[T.o,jJ];rfl);have k:decide ((ah d:Z)<(ah d:Z))=F:=by simp
   go_wp2;go_ret;exact⟨qe E.o.symm,g.o⟩
theorem ac7(n:L aL)(a:Z):∀(os:L aF) (k i:M),(qC n a k os).mod=S i->k<=i/\i<k+ah os:=by
 intro os
 induction os with
 |nil=>intro k i h;cases h
 |cons o os d=>
  intro k i h;rw[qC]at h
  cases c:mi n a o.aE with
  |none=>
   rw[c]at h
   have:=d (k+1) i h
   simp only[dA];omega
  |some p=>
   rw[c]at h;simp only[nv]at h;simp only[dA];omega
theorem GV(os:L aF)(n:L aL)(a:Z)(i:M)(h:(lh os n a).mod=S i):i<ah os:=by
 have:=ac7 n a os 0 i h
 omega
theorem Dr{a:L M}{i:M}(h:i<ah a):iT a (S i)=S ⟨a[i],0,N⟩:=by
 unfold iT;rw[Xb,bW h,zt]
theorem Kf(P:M)(X:aR aY)(cap:M)(d:L M)(os:L aF)(c:L aL)(w:av)(T:aq w ⟨P,3,N⟩=S (ak X (ah d) cap))(h:nF w X d os):
  Calls prog 73 #[aM (S ⟨P,0,N⟩),aB (bs c)] w λe a=>e=aH (jC d (gX os c))/\az w a N:=by
 have a:=ae (λa W (f:az w W N)=>SU X cap d os c a W (h.kept f));have HP:=ae T;have hP:=ow w _ T;have Z:=ae (λi (l:(lh os c 1).mod=S i)=>show i<(ah d) by rw[h.len];exact GV os c 1 i l);have k:=ae (a.o 1);have c2:=ae (a.o 2);have U:=ae (show gX os c=if (lh os c 1).mod.isSome then lh os c 1 else lh os c 2 from R);clear T h a;generalize gX os c=a at *;generalize lh os c 2=F2 at *;generalize lh os c 1=F1 at *;obtain⟨m1,C,z⟩:=F1;dsimp only at U Z;have Q:=ae (aG w (.cells #[aM N,I J 0,I J 0] 149) N)
 have B0:=ae (aA.new w #[aM N,I J 0,I J 0] 149);have m:=yd HP.o Q.o;unfold jC at k;dsimp only at k;go_enter func73,ntmps73;go_wp2_with fail;refine(k.o _ Q.o).mono ?_;rintro e r ⟨rfl,g⟩;have p:=ae (ya Q.o g);have f:=ae (B0.o.grown g (by simp));clear g k m;have hlt:=f.o.lt;have E:aq r ⟨w.heap.size,0,N⟩=S (aM N):=f.o.cell 0;have H:aq r ⟨w.heap.size,1,N⟩=S (I J 0):=f.o.cell 1;have K:aq r ⟨w.heap.size,2,N⟩=S (I J 0):=f.o.cell 2;have s:=f.o.free 0;have u:=f.o.free 1;have x:=f.o.free 2
 cases m1 with
 |some i=>
  have l:=Z.o i R;have V:=ae (Dr l);rw[V.o];generalize d[i]=bi at *;go_wp2;have F:=(((f.o.set 0 (aM (S ⟨bi,0,N⟩))).set 1 (I J C)).set 2 (I J z)).grown (aG _ (.cells #[aM (S ⟨bi,0,N⟩),I J C,I J z] 149) N) (by simp);have m:=F.cell 0;have g:=F.cell 1;have k:=F.cell 2;simp only[dt,dB,dC,bI,bB,bL]at m g k;refine bj (v:=jC d ⟨S i,C,z⟩) ?_ R ⟨by rw[U.o];rfl,ya (iC p.o _ (bz _) _ _ _) (aG _ _ N)⟩
  clear F E H K s u x;generalize wX _ _=WF at *;simp[results,results73,go_sem,jC,V.o,m,g,k]
 |none=>
  rw[show iT d N=N from R];have m:=yd HP.o (ya p.o (aG r (.cells #[aM N,I J C,I J z] 149) N));go_wp2_with fail;refine(c2.o _ (ya p.o (aG _ _ N))).mono ?_;rintro e V ⟨rfl,k⟩;have G2:=ae (ya (ya p.o (aG _ _ N)) k);have l:=ae ((f.o.grown (aG _ _ N) (by simp)).grown k (by simp));clear k c2 m E H K s u x;have E:aq V ⟨w.heap.size,0,N⟩=S (aM N):=l.o.cell 0;have H:aq V ⟨w.heap.size,1,N⟩=S (I J 0):=l.o.cell 1;have K:aq V ⟨w.heap.size,2,N⟩=S (I J 0):=l.o.cell 2
  have s:=l.o.free 0;have u:=l.o.free 1;have x:=l.o.free 2;unfold jC;obtain⟨m2,s2,o2⟩:=F2;dsimp only;generalize g:iT d m2=q at *;have HQ:=ae g;clear g;go_wp2;have F:=((l.o.set 0 (.pointer q)).set 1 (I J s2)).set 2 (I J o2);have m:=F.cell 0;have g:=F.cell 1;have k:=F.cell 2;simp only[dt,dB,dC,bI,bB,bL]at m g k;refine bj (v:=jC d ⟨m2,s2,o2⟩) ?_ R ⟨by rw[U.o];rfl,iC G2.o _ (bz _) _ _ _⟩;clear F E H K s u x;generalize aK _ _ _=WF at *
  simp[results,results73,go_sem,jC,HQ.o,m,g,k]
theorem abD(P:M)(l:aR aY)(cap:M)(c:L M)(os:L aF)(i:M)(hi:i<ah c)(y:dz)(w:av)(E:aq w ⟨P,3,N⟩=S (ak l (ah c) cap))(h:nF w l c os):
  Calls prog 72 #[aM (S ⟨P,0,N⟩),aM (S ⟨c[i],0,N⟩),uh y] w λe a=>e=aH (jC c (jW os i y))/\az w a N:=by
 obtain⟨n,b,s,o⟩:=y;have x:=ae (λW (a:az w W N)=>Kf P l cap c os n W (yd E a) (h.kept a));have X:=ae (Dr hi);have T:=ae (show (w.alloc (.cells #[aB (bs n),I J b,I J s,I J o] 107)).heap.size=w.heap.size+1 from js _);have p:=ae (aG w (.cells #[aB (bs n),I J b,I J s,I J o] 107) N);have r:=ae (aG (w.alloc (.cells #[aB (bs n),I J b,I J s,I J o] 107)) (.cells #[aM N,I J 0,I J 0] 149) N);have u:=ae (aA.new (w.alloc (.cells #[aB (bs n),I J b,I J s,I J o] 107)) #[aM N,I J 0,I J 0] 149)
 rw[T.o]at u;clear h E;unfold uh;dsimp only;by_cases m:b=0
 ·subst m;have g:=ae (show jW os i ⟨n,0,s,o⟩=⟨S i,s,o⟩from R);go_enter func72,ntmps72;go_wp2;refine bj (v:=jC c ⟨S i,s,o⟩) ?_ R ⟨by rw[g.o],ya (aG _ _ N) (aG _ _ N)⟩;simp[results,results72,go_sem,jC,X.o]
 ·have g:=ae (show jW os i ⟨n,b,s,o⟩=gX os n from ax m);have d1:(b==0)=false:=by simpa using m
  generalize gX os n=a at *;go_enter func72,ntmps72;go_wp2_with fail;refine(x.o _ (ya p.o r.o)).mono ?_;rintro e k ⟨rfl,f⟩;have U:=ae (ya (ya p.o r.o) f);have d:=ae (u.o.grown f (by simp));clear f x;have z0:aq k ⟨w.heap.size+1,0,N⟩=S (aM N):=d.o.cell 0;have z1:aq k ⟨w.heap.size+1,1,N⟩=S (I J 0):=d.o.cell 1;have z2:aq k ⟨w.heap.size+1,2,N⟩=S (I J 0):=d.o.cell 2;have Z:=d.o.free 0;have f1:=d.o.free 1;have f2:=d.o.free 2;unfold jC;obtain⟨H,Q,K⟩:=a;dsimp only;generalize f:iT c H=q at *;have V:=ae f;clear f
  go_wp2;have F:=((d.o.set 0 (.pointer q)).set 1 (I J Q)).set 2 (I J K);have z:=F.cell 0;have C:=F.cell 1;have f:=F.cell 2;simp only[dt,dB,dC,bI,bB,bL]at z C f;refine bj (v:=jC c ⟨H,Q,K⟩) ?_ R ⟨by rw[g.o],iC U.o _ (by omega) _ _ _⟩;clear F z0 z1 z2 Z f1 f2;generalize aK _ _ _=Z at *;simp[results,results72,go_sem,jC,V.o,z,C,f]
def bY(f:jv):aC:=.agg #[I J f.e,I J f.at_,aB (bs f.name)]
theorem abT(os r:L aF)(k:M)(h:k<ah r):Av os k (r.drop k)=match lM os k r[k].aE with|some f=>f|none=>Av os (k+1) (r.drop (k+1)):=by
 rw[fv h,Av]
 cases lM os k r[k].aE<;>rfl
theorem abU(os:L aF)(i:M)(ys:L dz)(k:M)(h:k<ah ys):lM os i (ys.drop k)=if ys[k].bind≠1\/ys[k].au=0 then lM os i (ys.drop (k+1))else if (lh (os.take i) ys[k].name 1).mod.isSome then S ⟨33,i,ys[k].name⟩else lM os i (ys.drop (k+1)):=by
 rw[fv h,lM]
theorem aaM(os r:L aF)(k:M)(h:k<ah r):Aw os k (r.drop k)=match mK os k r[k].aE with|some f=>f|none=>Aw os (k+1) (r.drop (k+1)):=by
 rw[fv h,Aw]
 cases mK os k r[k].aE<;>rfl
theorem aaN(os:L aF)(i:M)(ys:L dz)(k:M)(h:k<ah ys):mK os i (ys.drop k)=if jh ys[k]=F then mK os i (ys.drop (k+1))else if (gX os ys[k].name).mod.isSome then mK os i (ys.drop (k+1))else S ⟨34,i,ys[k].name⟩:=by
 rw[fv h,mK]
theorem Li(os:L aF)(n:L aL)(i:M)(h:(gX os n).mod=S i):i<ah os:=by
 unfold gX at h;split at h
 ·exact GV os n 1 i h
 ·exact GV os n 2 i h
theorem ZX(P:M)(ao:aR aY)(cap:M)(f:L M)(os:L aF)(w:av)(hp:aq w ⟨P,3,N⟩=some (ak ao (ah f) cap))(h:nF w ao f os)(hcap:ah f<=cap)(hcm:cap<=cu):
  Calls prog 74 #[aM (some ⟨P,0,N⟩)] w λe w'=>e=aH (bY (xH os))/\az w w' N:=by
 have H:=ae h;have HL:=ae h.len;have hbl:ah f<=4096:=by rw[h.len];exact h.few
 have HP:=ae hp;have G0:=ae (aG w (.cells #[I J 0,I J 0,aB ⟨#[]⟩] 27) N);have B0:=ae (aA.new w #[I J 0,I J 0,aB ⟨#[]⟩] 27);have c3:=yd hp G0.o;have Y9:=ow w _ hp;have hcm2:=hcm;unfold cu at hcm2;clear h hp hcm;go_enter func74,ntmps74;go_wp2;generalize w.alloc (.cells #[I J 0,I J 0,aB ⟨#[]⟩] 27)=W1 at *
 go_loopw [13] (λi wr=>∃k:M,k<=ah f/\i=I J k/\xH os=Av os k (os.drop k)/\az W1 wr N) (λi _=>ah f-(aN i).toNat)
 case atStart=>exact⟨0,bG _,R,R,aW _ _⟩
 case round=>
  obtain⟨k,hk,rfl,d,c⟩:=hrel;have HF:=ae d;have s:=ae c;clear d c;by_cases C:k<ah f
  ·have z:k<ah os:=by rw[<- HL.o];exact C
   have c:=H.o.kept (ya G0.o s.o);obtain⟨g0,off,hao,g⟩:=c.kD (by omega);subst hao;obtain⟨xQ,hm0,l⟩:=c.mod k C z;have ck:=g k C;obtain⟨at_,ct,af,cf,ad,cd,aa,ca,gP,Y,ar,cr,d,-,-,-,-,m,-⟩:=l.open;have S:=ae (gH.dh m);have k5:=d.cell 5;simp only[bI,bB,bL]at k5;have hns:=c.aE os[k] (bN z);have ks:=ae (abT os os k z);clear g l d m c c3;generalize os[k].aE=d at *;generalize f[k]=bk at *;have g1:(k:Z)<(ah f:Z):=by omega
   obtain⟨U,hU⟩:∃U:av,U=wr:=⟨_,R⟩
   subst hU;go_wp2
   go_loopw [26] (λi wr=>∃j:M,j<=ah d/\i=I J j/\lM os k d=lM os k (d.drop j)/\az U wr N) (λi _=>ah d-(aN i).toNat)
   case atStart=>exact⟨0,bG _,R,R,aW _ _⟩
   case round=>
    obtain⟨j,hj,rfl,c,g⟩:=hrel;have jl:=ae c;have q:=ae g;clear c g ck hm0 k5;by_cases u:j<ah d
    ·obtain⟨sg,hsg,hgs,c⟩:=S.o.grown q.o (by omega);subst hsg;obtain⟨q0,q1,q2,q3⟩:=c j u;clear c;have g2:(j:Z)<(ah d:Z):=by omega
     have nO:=ae (show lM os k d=_ from jl.o.trans (abU os k d j u));generalize d[j]=y at *;have iF:=ae (aA.new wr #[aB (bs y.name),I J y.bind,I J y.au,I J y.off] 107);have iM:=ae (aG wr (.cells #[aB (bs y.name),I J y.bind,I J y.au,I J y.off] 107) N);have GW:=ae (ya q.o iM.o);have c3:=yd HP.o (ya G0.o (ya s.o GW.o));by_cases e1:y.bind=1
     ·obtain⟨p,yb,zN,yo⟩:=y;dsimp only at *;subst e1;by_cases e2:zN=0
      ·have b2:(zN==0)=true:=by simpa using e2
       have E:=ae (show lM os k d=lM os k (d.drop (j+1)) by rw[nO.o,aD (.inr e2)]);go_wp2
       go_roundw
       case rel=>exact⟨j+1,by omega,by go_num,E.o,ya q.o (aG _ _ N)⟩
       case measure=>simp[aN];omega
      ·have b2:(zN==0)=F:=by simpa using e2
       have vq:=ae (show lM os k d=if (lh (os.take k) p 1).mod.isSome then some ⟨33,k,p⟩else lM os k (d.drop (j+1)) by rw[nO.o,ax (λh=>h.elim (λa=>a R) e2)]);have cF:=ae (λW (c:(wr.alloc (.cells #[aB (bs p),I J 1,I J zN,I J yo] 107)).grownBy W N)=>SU (some ⟨g0,off,N⟩) cap (f.take k) (os.take k) p 1 W (((H.o.kept (ya G0.o (ya s.o GW.o))).kept c).take k));have us:=ae (λi (hi:(lh (os.take k) p 1).mod=some i)=>show i<(f.take k).length by rw[iO,HL.o,<- iO];exact GV (os.take k) p 1 i hi);rw[show (f.take k).length=k by rw[iO];omega]at cF
       generalize lh (os.take k) p 1=F1 at *;obtain⟨m1,s1,o1⟩:=F1;unfold jC at cF;dsimp only at cF vq us;generalize c:iT (f.take k) m1=qq at *;have Qr:=ae c;clear c;have x0:=ae (show (wr.alloc (.cells #[aB (bs p),I J 1,I J zN,I J yo] 107)).cell? ⟨wr.heap.size,0,N⟩=some (aB (bs p))from iF.o.cell 0);have C3:=ae c3;have c:wr.heap.size<(wr.alloc (.cells #[aB (bs p),I J 1,I J zN,I J yo] 107)).heap.size:=iF.o.lt;have VO:=ae c;clear c;go_wp2;generalize hV:wr.alloc (.cells #[aB (bs p),I J 1,I J zN,I J yo] 107)=V at *
       generalize hX:wr.heap.size=X at *;have l:=x0.o;have m:=C3.o;have aiU:=VO.o;have gk:(k:Z)<=(cap:Z):=by omega
       go_cut [7]from 38 to 46 (λv c=>∃T,v=aM (some ⟨T,0,N⟩)/\aA c T #[.pointer qq,I J s1,I J o1] 149/\az V c N/\V.heap.size<=T)
       case first=>
        refine wp_region_held_drew (S:=(λw'=>aq w' ⟨P,3,N⟩=some (ak (some ⟨g0,off,N⟩) (ah f) cap)/\aq w' ⟨X,0,N⟩=some (aB (bs p)))) (by kernel_rfl) ⟨m,l⟩ ?_;intro hS
        iterate 5
         refine qg (v:=?_) R (by kernel_rfl) (λ_ _ _ h=>h) hS ?_ ?_
         rotate_left
         ·intro w' r;obtain⟨y0,y1⟩:=r;go_simp;with_reducible rfl
        refine wpAnyH_take (i:=5) (v:=ak (some ⟨g0,off,N⟩) k cap) R (by kernel_rfl) (by kernel_rfl) (by kernel_rfl) (λ_ _ _ h=>h) (Or.inl ⟨by kernel_rfl,?_⟩) hS ?_
        ·intro w' r;obtain⟨y0,y1⟩:=r;go_simp
        iterate 2
         refine qg (v:=?_) R (by kernel_rfl) (λ_ _ _ h=>h) hS ?_ ?_
         rotate_left
         ·intro w' r;obtain⟨y0,y1⟩:=r;go_simp;with_reducible rfl
        refine ee (rs:=[8,9]) (by kernel_rfl) (by simp) ?_;refine dX R (λK g=>?_) (dX R (λK g=>?_) eN)
        ·go_simp;refine(cF.o _ (ye (aW V N) 1)).mono ?_;rintro e w1 ⟨rfl,hq⟩;have c:=ya (ye (aW V N) 1) hq;refine g.out _ _ ⟨yd m c,yd l c⟩ (λhS2=>?_);clear g K;refine ee (rs:=[9]) (by kernel_rfl) (by simp) ?_;refine dX R (λK g=>?_) eN;go_simp;have T:=ya c (aG w1 (.cells #[aM N,I J 0,I J 0] 149) N);refine g.out _ _ ⟨yd m T,yd l T⟩ (λnC=>?_);clear g K;refine ee (rs:=[10]) (by kernel_rfl) (by simp) ?_;refine dX R (λK g=>?_) eN
         go_simp;have Q:=ya c (aG w1 (.cells #[.pointer qq,I J s1,I J o1] 149) N);refine g.out _ _ ⟨yd m Q,yd l Q⟩ (λiS=>?_);clear g K;refine ox (by kernel_rfl) ?_ _
         try simp only[Act.put,nQ,lH,nj]
         go_wp2_with fail;go_meet;exact⟨_,R,aA.new w1 #[.pointer qq,I J s1,I J o1] 149,Q,c.size⟩
        ·go_simp;have T:=ye (aG V (.cells #[aM N,I J 0,I J 0] 149) N) 1;refine g.out _ _ ⟨yd m T,yd l T⟩ (λhS2=>?_);clear g K;refine ee (rs:=[8]) (by kernel_rfl) (by simp) ?_;refine dX R (λK g=>?_) eN;go_simp;refine(cF.o _ T).mono ?_;rintro e w1 ⟨rfl,hq⟩;have c:=ya T hq;have x:=ae (((aA.new V #[aM N,I J 0,I J 0] 149).drewN 1).grown hq (by simp));have n0:aq w1 ⟨V.heap.size,0,N⟩=some (aM N):=x.o.cell 0;have n1:aq w1 ⟨V.heap.size,1,N⟩=some (I J 0):=x.o.cell 1
         have n2:aq w1 ⟨V.heap.size,2,N⟩=some (I J 0):=x.o.cell 2;have f0:=x.o.free 0;have f1:=x.o.free 1;have f2:=x.o.free 2;refine g.out _ _ ⟨yd m c,yd l c⟩ (λnC=>?_);clear g K;refine ee (rs:=[10]) (by kernel_rfl) (by simp) ?_;refine dX R (λK g=>?_) eN;go_simp;have Q:=iC c V.heap.size (bz _) (.pointer qq) (I J s1) (I J o1);refine g.out _ _ ⟨yd m Q,yd l Q⟩ (λiS=>?_);clear g K;refine ox (by kernel_rfl) ?_ _
         try simp only[Act.put,nQ,lH,nj]
         go_wp2_with fail;go_meet;exact⟨_,R,((x.o.set 0 (.pointer qq)).set 1 (I J s1)).set 2 (I J o1),Q,bz _⟩
       case rest=>
       obtain⟨T,rfl,g,c,aio⟩:=hcut;have Jj:=ae g;have nP:=ae (ya GW.o c);have B5:=ae (iF.o.grown c (by simp));have KD:=B5.o.cell 0;have t0:=Jj.o.cell 0;simp only[bI,bL]at KD t0;clear g c cF
       cases m1 with
       |none=>
        have E:=ae (show lM os k d=lM os k (d.drop (j+1))from vq.o);obtain rfl:N=qq:=Qr.o;go_wp2
        go_roundw
        case rel=>exact⟨j+1,by omega,by go_num,E.o,nP.o⟩
        case measure=>simp[aN];omega
       |some i=>
        have hi:=us.o i R;obtain rfl:some ⟨(f.take k)[i],0,N⟩=qq:=by rw[<- Qr.o,Dr hi]
        generalize (f.take k)[i]=bi at *;have E:=ae (show xH os=⟨33,k,p⟩ by rw[HF.o,ks.o,vq.o];rfl);have g:=ae (B0.o.grown (ya s.o nP.o) (by simp));have hRl:=g.o.lt;have z0:=g.o.cell 0;have z1:=g.o.cell 1;have z2:=g.o.cell 2;simp only[bI,bB,bL]at z0 z1 z2;have f0:=g.o.free 0;have f1:=g.o.free 1;have f2:=g.o.free 2;go_wp2;have c:=((g.o.set 0 (I J 33)).set 1 (I J k)).set 2 (aB (bs p));have r:=c.cell 0;have x:=c.cell 1;have Q:=c.cell 2;simp only[dt,dB,dC,bI,bB,bL]at r x Q
        refine bj (v:=bY ⟨33,k,p⟩) ?_ R ⟨by rw[E.o],iC (ya G0.o (ya s.o nP.o)) _ (bz _) _ _ _⟩;clear c z0 z1 z2 f0 f1 f2;generalize aK _ _ _=c at *;simp[results,results74,go_sem,bY,r,x,Q]
     ·have c:(y.bind==1)=F:=by simpa using e1
      have E:=ae (show lM os k d=lM os k (d.drop (j+1)) by rw[nO.o,aD (.inl e1)]);clear e1;go_wp2
      go_roundw
      case rel=>exact⟨j+1,by omega,by go_num,E.o,ya q.o (aG _ _ N)⟩
      case measure=>simp[aN];omega
    ·obtain rfl:j=ah d:=by omega
     have E:=ae (show lM os k d=N by rw[jl.o,jJ];rfl);have l:decide ((ah d:Z)<(ah d:Z))=F:=by simp
     go_wp2
     go_roundw
     case rel=>exact⟨k+1,by omega,by go_num,by rw[HF.o,ks.o,E.o],ya s.o q.o⟩
     case measure=>simp[aN];omega
  ·obtain rfl:k=ah f:=by omega
   have E:=ae (show xH os=eM by rw[HF.o,HL.o,jJ];rfl);have l:decide ((ah f:Z)<(ah f:Z))=F:=by simp
   have g:=ae (B0.o.grown s.o (by simp));have z0:aq wr ⟨w.heap.size,0,N⟩=some (I J 0):=g.o.cell 0;have z1:aq wr ⟨w.heap.size,1,N⟩=some (I J 0):=g.o.cell 1;have z2:aq wr ⟨w.heap.size,2,N⟩=some (aB ⟨#[]⟩):=g.o.cell 2;have f0:=g.o.free 0;have f1:=g.o.free 1;have f2:=g.o.free 2;go_wp2;have c:=((g.o.set 0 (I J 0)).set 1 (I J 0)).set 2 (aB ⟨#[]⟩);have r:=c.cell 0;have x:=c.cell 1;have Q:=c.cell 2;simp only[dt,dB,dC,bI,bB,bL]at r x Q;refine bj (v:=bY eM) ?_ R ⟨by rw[E.o],iC (ya G0.o s.o) _ (bz _) _ _ _⟩
   clear c z0 z1 z2 f0 f1 f2;generalize aK _ _ _=c at *;simp[results,results74,go_sem,bY,eM,bs,r,x,Q]
theorem ZU(P:M)(ao:aR aY)(cap:M)(g:L M)(os:L aF)(w:av)(K:aq w ⟨P,3,N⟩=S (ak ao (ah g) cap))(h:nF w ao g os):
  Calls prog 75 #[aM (S ⟨P,0,N⟩)] w λe a=>e=aH (bY (wh os))/\az w a N:=by
 have H:=ae h;have HL:=ae h.len;have hbl:ah g<=4096:=by rw[h.len];exact h.few
 have HP:=ae K;have s:=ae (aG w (.cells #[I J 0,I J 0,aB ⟨#[]⟩] 27) N);have B0:=ae (aA.new w #[I J 0,I J 0,aB ⟨#[]⟩] 27);have c3:=yd K s.o;have Y9:=ow w _ K;have cW:=ae (λy W=>Se y W);have YY:=ae (λc W (a:az w W N)=>Kf P ao cap g os c W (yd K a) (h.kept a));unfold uh at cW;clear h K;go_enter func75,ntmps75;go_wp2;generalize w.alloc (.cells #[I J 0,I J 0,aB ⟨#[]⟩] 27)=W1 at *
 go_loopw [13] (λi wr=>∃k:M,k<=ah g/\i=I J k/\wh os=Aw os k (os.drop k)/\az W1 wr N) (λi _=>ah g-(aN i).toNat)
 case atStart=>exact⟨0,bG _,R,R,aW _ _⟩
 case round=>
  obtain⟨k,hk,rfl,c,a⟩:=hrel;have HF:=ae c;have l:=ae a;clear c a;by_cases r:k<ah g
  ·have q:k<ah os:=by rw[<- HL.o];exact r
   have a:=H.o.kept (ya s.o l.o);obtain⟨g0,off,hao,f⟩:=a.kD (by omega);subst hao;obtain⟨xQ,hm0,m⟩:=a.mod k r q;have ck:=f k r;obtain⟨at_,ct,af,cf,ad,cd,aa,ca,gP,Y,ar,cr,d,-,-,-,-,p,-⟩:=m.open;have c:=ae (gH.dh p);have k5:=d.cell 5;simp only[bI,bB,bL]at k5;have hns:=a.aE os[k] (bN q);have ks:=ae (aaM os os k q);clear f m d p a c3;generalize os[k].aE=d at *;generalize g[k]=bk at *;have g1:(k:Z)<(ah g:Z):=by omega
   obtain⟨U,hU⟩:∃U:av,U=wr:=⟨_,R⟩
   subst hU;go_wp2
   go_loopw [26] (λi wr=>∃j:M,j<=ah d/\i=I J j/\mK os k d=mK os k (d.drop j)/\az U wr N) (λi _=>ah d-(aN i).toNat)
   case atStart=>exact⟨0,bG _,R,R,aW _ _⟩
   case round=>
    obtain⟨j,hj,rfl,a,f⟩:=hrel;have jl:=ae a;have p:=ae f;clear a f ck hm0 k5;by_cases m:j<ah d
    ·obtain⟨sg,hsg,hgs,a⟩:=c.o.grown p.o (by omega);subst hsg;obtain⟨u,x,z,C⟩:=a j m;clear a;have g2:(j:Z)<(ah d:Z):=by omega
     have nO:=ae (show mK os k d=_ from jl.o.trans (aaN os k d j m));generalize d[j]=y at *;have iF:=ae (aA.new wr #[aB (bs y.name),I J y.bind,I J y.au,I J y.off] 107);have iM:=ae (aG wr (.cells #[aB (bs y.name),I J y.bind,I J y.au,I J y.off] 107) N);have GW:=ae (ya p.o iM.o);have c3:=yd HP.o (ya s.o (ya l.o GW.o));have f:=ae (cW.o y);have Q:=ae (λW a=>YY.o y.name W a);have us:=ae (λi (a:(gX os y.name).mod=S i)=>show i<(ah g) by rw[HL.o];exact Li os y.name i a);go_wp2_with fail;refine(f.o _).mono ?_
     rintro e O8 ⟨rfl,a⟩;have X:=ae (ya GW.o a);have B4:=ae (iF.o.grown a (by simp));have x0:aq O8 ⟨wr.heap.size,0,N⟩=S (aB (bs y.name)):=B4.o.cell 0;clear a f c3 u x z C
     cases V:jh y
     ·have E:=ae (show mK os k d=mK os k (d.drop (j+1)) by rw[nO.o,aD V]);clear V;go_wp2
      go_roundw
      case rel=>exact⟨j+1,by omega,by go_num,E.o,X.o⟩
      case measure=>simp[aN];omega
     ·have vq:=ae (show mK os k d=if (gX os y.name).mod.isSome then mK os k (d.drop (j+1))else S ⟨34,k,y.name⟩ by rw[nO.o,ax (by rw[V];decide)]);clear V;generalize gX os y.name=F1 at *;obtain⟨m1,s1,o1⟩:=F1;unfold jC at Q;dsimp only at Q vq us;go_wp2_with fail;refine(Q.o _ (ya s.o (ya l.o X.o))).mono ?_;rintro e u ⟨rfl,a⟩;have T:=ae (ya X.o a);have B5:=ae (B4.o.grown a (by simp));clear a Q x0;have x0:aq u ⟨wr.heap.size,0,N⟩=S (aB (bs y.name)):=B5.o.cell 0;have hx:=B5.o.lt;have hxn:wr.heap.size≠u.heap.size:=by omega
      cases m1 with
      |some i=>
       have a:=us.o i R;rw[Dr a];generalize g[i]=f at *;have E:=ae (show mK os k d=mK os k (d.drop (j+1))from vq.o);go_wp2
       go_roundw
       case rel=>exact⟨j+1,by omega,by go_num,E.o,ya T.o (aG _ _ N)⟩
       case measure=>simp[aN];omega
      |none=>
       rw[show iT g N=N from R];have E:=ae (show wh os=⟨34,k,y.name⟩ by rw[HF.o,ks.o,vq.o];rfl);have f:=ae (B0.o.grown (ya l.o T.o) (by simp));have hRl:=f.o.lt;have z0:aq u ⟨w.heap.size,0,N⟩=S (I J 0):=f.o.cell 0;have z1:aq u ⟨w.heap.size,1,N⟩=S (I J 0):=f.o.cell 1;have z2:aq u ⟨w.heap.size,2,N⟩=S (aB ⟨#[]⟩):=f.o.cell 2;have f0:=f.o.free 0;have f1:=f.o.free 1;have f2:=f.o.free 2;have hne5:w.heap.size≠u.heap.size:=by omega
       go_wp2;have a:=(((f.o.set 0 (I J 34)).set 1 (I J k)).set 2 (aB (bs y.name))).grown (aG _ (.cells #[aM N,I J s1,I J o1] 149) N) (by simp);have x:=a.cell 0;have z:=a.cell 1;have C:=a.cell 2;simp only[dt,dB,dC,bI,bB,bL]at x z C;refine bj (v:=bY ⟨34,k,y.name⟩) ?_ R ⟨by rw[E.o],ya (iC (ya s.o (ya l.o T.o)) _ (bz _) _ _ _) (aG _ _ N)⟩;clear a z0 z1 z2 f0 f1 f2;generalize wX _ _=a at *
       simp[results,results75,go_sem,bY,x,z,C]
    ·obtain rfl:j=ah d:=by omega
     have E:=ae (show mK os k d=N by rw[jl.o,jJ];rfl);have u:decide ((ah d:Z)<(ah d:Z))=F:=by simp
     go_wp2
     go_roundw
     case rel=>exact⟨k+1,by omega,by go_num,by rw[HF.o,ks.o,E.o],ya l.o p.o⟩
     case measure=>simp[aN];omega
  ·obtain rfl:k=ah g:=by omega
   have E:=ae (show wh os=eM by rw[HF.o,HL.o,jJ];rfl);have u:decide ((ah g:Z)<(ah g:Z))=F:=by simp
   have f:=ae (B0.o.grown l.o (by simp));have z0:aq wr ⟨w.heap.size,0,N⟩=S (I J 0):=f.o.cell 0;have z1:aq wr ⟨w.heap.size,1,N⟩=S (I J 0):=f.o.cell 1;have z2:aq wr ⟨w.heap.size,2,N⟩=S (aB ⟨#[]⟩):=f.o.cell 2;have f0:=f.o.free 0;have f1:=f.o.free 1;have f2:=f.o.free 2;go_wp2;have a:=((f.o.set 0 (I J 0)).set 1 (I J 0)).set 2 (aB ⟨#[]⟩);have x:=a.cell 0;have z:=a.cell 1;have C:=a.cell 2;simp only[dt,dB,dC,bI,bB,bL]at x z C;refine bj (v:=bY eM) ?_ R ⟨by rw[E.o],iC (ya s.o l.o) _ (bz _) _ _ _⟩
   clear a z0 z1 z2 f0 f1 f2;generalize aK _ _ _=a at *;simp[results,results75,go_sem,bY,eM,bs,x,z,C]
theorem AW(q:av)(b g:M)(l:aC)(st:bC)(m p:aC)(n v:Z)(W:av)(h:yz q b g l st m p W)(x:0<=n)(z:n<32):
  Calls prog 141 #[aM (S ⟨b,0,N⟩),I J n,I J v] W λe D=>e=aH (aZ #[])/\yz q b g l (eu n v st) m p D/\az W D (S b):=by
 obtain⟨k,rfl⟩:=eX x;have r:k<32:=by omega
 have e:=T5 (k:Z) (by omega) (by omega);have i:(k:Z)%32=k:=by omega
 rw[i]at e;have H:=ae h;by_cases s:k=0
 ·subst s;have a:=ae (show eu ((0:M):Z) v st=st by unfold eu;rw[aD (by decide)]);clear h;go_enter func141,ntmps141;go_wp2
  go_end0
  rw[a.o];exact⟨R,H.o,aW _ _⟩
 ·have a:=ae (show eu (k:Z) v st={st with bM:=st.bM.set k (bn v)} by unfold eu;rw[i,ax (by omega)];rfl);have c:=h.cr k r;have f:=h.free (2+k);have d:((k:Z)==0)=false:=by simp;omega
  have u:=ae (λW=>tE v W);have F:=ae ((H.o.grown (ye (aW W N) 1)).put (2+k) (I J (bn v)) {st with bM:=st.bM.set k (bn v)} (aca g l st m p H.o.ok.bM k r _) R R (agI H.o.ok k v s));clear h i;go_enter func141,ntmps141;go_wp2
  go_region_with (go_at_call 106;refine(u.o _).mono ?_;rintro e C ⟨rfl,rfl⟩)
  all_goals
   go_wp2
   go_end0
   rw[a.o];exact⟨R,F.o,ye (bK W b (2+k) (I J (bn v))) 1⟩
theorem sf(a:av)(b g:M)(c:aC)(st:bC)(d f:aC)(n v:Z)(W:av)(h:yz a b g c st d f W)(i:0<=n)(l:n<32):
  Calls prog 141 #[aM (S ⟨b,0,N⟩),I J n,I J v] W λe D=>e=aH (aZ #[])/\yz a b g c (eu n v st) d f D :=
 (AW a b g c st d f n v W h i l).mono λ_ _ k=>⟨k.1,k.2.1⟩
theorem Dq(c:Z)(w:av):Calls prog 148 #[I J c] w λe a=>e=aH (I J (Cy c))/\a=w:=by
 by_cases d:c=13
 ·subst d;go_enter func148,ntmps148;go_wp2;go_ret;exact⟨R,R⟩
 by_cases f:c=14
 ·subst f;go_enter func148,ntmps148;go_wp2;go_ret;exact⟨R,R⟩
 by_cases g:c=15
 ·subst g;go_enter func148,ntmps148;go_wp2;go_ret;exact⟨R,R⟩
 by_cases h:c=16
 ·subst h;go_enter func148,ntmps148;go_wp2;go_ret;exact⟨R,R⟩
 by_cases i:c=17
 ·subst i;go_enter func148,ntmps148;go_wp2;go_ret;exact⟨R,R⟩
 have a:=ae (show Cy c=0 by unfold Cy;rw[ax d,ax f,ax g,ax h,ax i]);have k:(c==13)=F:=by simpa using d
 have l:(c==14)=F:=by simpa using f
 have m:(c==15)=F:=by simpa using g
 have p:(c==16)=F:=by simpa using h
 have q:(c==17)=F:=by simpa using i
 clear d f g h i;go_enter func148,ntmps148;go_wp2;go_ret;exact⟨fY a.o.symm,R⟩
theorem sC{a b:bc}(h:a=b):aH (aJ a)=aH (aJ b):=by rw[h]
theorem aeg(c:bc)(w:av):Calls prog 179 #[aJ c] w λe a=>e=aH (I J (if c then 1 else 0))/\a=w:=by
 cases c
 ·go_enter func179,ntmps179;go_wp2;go_ret;exact⟨R,R⟩
 ·go_enter func179,ntmps179;go_wp2;go_ret;exact⟨R,R⟩
theorem xi(d a b:Z)(w:av)(k:0<=a)(l:a<4294967296)(m:0<=b)(p:b<4294967296)(f:5<=d/\d<=10):
  Calls prog 144 #[I J d,I J a,I J b] w λe c=>e=aH (aJ (fg d a b))/\c=w:=by
 have g:=ae (λW=>Kp a W k l);have h:=ae (λW=>Kp b W m p);rcases (show d=5\/d=6\/d=7\/d=8\/d=9\/d=10 by omega)with rfl|rfl|rfl|rfl|rfl|rfl
 ·have c:=ae (show fg 5 a b=(a==b) by unfold fg;rw[vg];simp);clear f;go_enter func144,ntmps144;go_wp2;go_ret;exact⟨sC c.o.symm,R⟩
 ·have c:=ae (show fg 6 a b = !(a==b) by unfold fg;rw[vg];simp);clear f;go_enter func144,ntmps144;go_wp2;go_ret;exact⟨sC c.o.symm,R⟩
 ·have c:=ae (show fg 7 a b=decide (cK a<cK b) by unfold fg;simp);clear f;go_enter func144,ntmps144;go_wp2_with fail;refine(g.o _).mono ?_;rintro e V ⟨rfl,rfl⟩;go_wp2_with fail;refine(h.o _).mono ?_;rintro e i ⟨rfl,rfl⟩;go_wp2;go_ret;exact⟨sC c.o.symm,R⟩
 ·have c:=ae (show fg 8 a b=decide (cK b<=cK a) by unfold fg;simp);clear f;go_enter func144,ntmps144;go_wp2_with fail;refine(g.o _).mono ?_;rintro e V ⟨rfl,rfl⟩;go_wp2_with fail;refine(h.o _).mono ?_;rintro e i ⟨rfl,rfl⟩;go_wp2;go_ret;exact⟨sC c.o.symm,R⟩
 ·have c:=ae (show fg 9 a b=decide (a<b) by unfold fg;simp);clear f;go_enter func144,ntmps144;go_wp2;go_ret;exact⟨sC c.o.symm,R⟩
 ·have c:=ae (show fg 10 a b=decide (b<=a) by unfold fg;simp);clear f;go_enter func144,ntmps144;go_wp2;go_ret;exact⟨sC c.o.symm,R⟩
theorem rY(f a b:Z)(w:av)(l:0<=a)(m:a<4294967296)(p:0<=b)(q:b<4294967296)(i:18<=f/\f<=24):
  Calls prog 147 #[I J f,I J a,I J b] w λe d=>e=aH (I J (jX f a b))/\d=w:=by
 have g:=ae (λW=>xi 7 a b W l m p q (by omega));have h:=ae (λW=>xi 9 a b W l m p q (by omega));have k:=ae (λc W=>aeg c W);rcases (show f=18\/f=19\/f=20\/f=21\/f=22\/f=23\/f=24 by omega)with rfl|rfl|rfl|rfl|rfl|rfl|rfl
 ·have d:=ae (show a+b=jX 18 a b from R);have x:J.wrap (a+b)=a+b:=dD _ ⟨by omega,by omega⟩;clear i g h k;go_enter func147,ntmps147;go_wp2;go_ret;exact⟨fY d.o,R⟩
 ·have d:=ae (show a-b=jX 19 a b from R);have x:J.wrap (a-b)=a-b:=dD _ ⟨by omega,by omega⟩;clear i g h k;go_enter func147,ntmps147;go_wp2;go_ret;exact⟨fY d.o,R⟩
 ·have d:=ae (show (if fg 7 a b=T then (1:Z)else 0)=jX 20 a b by unfold fg jX;simp);clear i h;go_enter func147,ntmps147;go_wp2_with fail;refine(g.o _).mono ?_;rintro e V ⟨rfl,rfl⟩;go_wp2_with fail;refine(k.o _ _).mono ?_;rintro e r ⟨rfl,rfl⟩;rw[d.o];go_wp2;go_ret;exact⟨R,R⟩
 ·have d:=ae (show (if fg 9 a b=T then (1:Z)else 0)=jX 21 a b by unfold fg jX;simp);clear i g;go_enter func147,ntmps147;go_wp2_with fail;refine(h.o _).mono ?_;rintro e V ⟨rfl,rfl⟩;go_wp2_with fail;refine(k.o _ _).mono ?_;rintro e r ⟨rfl,rfl⟩;rw[d.o];go_wp2;go_ret;exact⟨R,R⟩
 ·have d:=ae (show aT .xor .i64 a b=jX 22 a b from R);clear i g h k;go_enter func147,ntmps147;go_wp2;go_ret;exact⟨fY d.o,R⟩
 ·have d:=ae (show aT .or .i64 a b=jX 23 a b from R);clear i g h k;go_enter func147,ntmps147;go_wp2;go_ret;exact⟨fY d.o,R⟩
 ·have d:=ae (show aT .and .i64 a b=jX 24 a b from R);clear i g h k;go_enter func147,ntmps147;go_wp2;go_ret;exact⟨fY d.o,R⟩
def gI(W0:av)(b g:M)(DV:aC)(st:bC)(W:av):Prop:=∃vd fO,yz W0 b g DV st vd fO W
section
variable{e W:av}{b g:M}{d vd a:aC}{st:bC}
theorem yz.Mb(h:yz e b g d st vd a W)(v:Z)(c:0<=v/\v<4294967296):yz e b g d {st with next:=v} vd a (aK W ⟨b,36,N⟩ (I J v)) :=
 h.put 36 _ _ (zd g d st {st with next:=v} vd a vd a h.ok.bM R 2 (I J v) R) R R ⟨h.ok.bM,h.ok.words,h.ok.zero,h.ok.data,h.ok.wJ,h.ok.pc,c,h.ok.o,h.ok.steps,h.ok.read⟩
theorem yz.kO(h:yz e b g d st vd a W)(v:Z)(c:0<=v/\v<4294967296):yz e b g d {st with pc:=v} vd a (aK W ⟨b,35,N⟩ (I J v)) :=
 h.put 35 _ _ (zd g d st {st with pc:=v} vd a vd a h.ok.bM R 1 (I J v) R) R R ⟨h.ok.bM,h.ok.words,h.ok.zero,h.ok.data,h.ok.wJ,c,h.ok.next,h.ok.o,h.ok.steps,h.ok.read⟩
theorem yz.jA(h:yz e b g d st vd a W)(v:Z):yz e b g d {st with aU:=v} vd a (aK W ⟨b,37,N⟩ (I J v)) :=
 h.put 37 _ _ (zd g d st {st with aU:=v} vd a vd a h.ok.bM R 3 (I J v) R) R R ⟨h.ok.bM,h.ok.words,h.ok.zero,h.ok.data,h.ok.wJ,h.ok.pc,h.ok.next,h.ok.o,h.ok.steps,h.ok.read⟩
theorem yz.Wg(h:yz e b g d st vd a W)(v:Z):yz e b g d {st with code:=v} vd a (aK W ⟨b,38,N⟩ (I J v)) :=
 h.put 38 _ _ (zd g d st {st with code:=v} vd a vd a h.ok.bM R 4 (I J v) R) R R ⟨h.ok.bM,h.ok.words,h.ok.zero,h.ok.data,h.ok.wJ,h.ok.pc,h.ok.next,h.ok.o,h.ok.steps,h.ok.read⟩
theorem yz.Vg(h:yz e b g d st vd a W)(v:M)(c:v<=65536):yz e b g d {st with steps:=v} vd a (aK W ⟨b,40,N⟩ (I J v)) :=
 h.put 40 _ _ (zd g d st {st with steps:=v} vd a vd a h.ok.bM R 6 (I J v) R) R R ⟨h.ok.bM,h.ok.words,h.ok.zero,h.ok.data,h.ok.wJ,h.ok.pc,h.ok.next,h.ok.o,c,h.ok.read⟩
theorem yz.LZ(h:yz e b g d st vd a W)(v:M)(c:v<=16):yz e b g d {st with read:=v} vd a (aK W ⟨b,41,N⟩ (I J v)) :=
 h.put 41 _ _ (zd g d st {st with read:=v} vd a vd a h.ok.bM R 7 (I J v) R) R R ⟨h.ok.bM,h.ok.words,h.ok.zero,h.ok.data,h.ok.wJ,h.ok.pc,h.ok.next,h.ok.o,h.ok.steps,c⟩
end
theorem eC{st:bC}(h:zc st)(n:Z):0<=bH st n/\bH st n<4294967296:=h.words _
theorem Sv(k:av)(b g:M)(l:aC)(st:bC)(m p:aC)(d a:Z)(W:av)(h:yz k b g l st m p W)(s:0<=d)(f:d<32):
  Calls prog 142 #[aM (S ⟨b,0,N⟩),I J d,I J a] W λe D=>e=aH (aZ #[])/\yz k b g l (tP d a st) m p D:=by
 have H:=ae h;have c:=h.c.2.2.2.1;have K:=h.ok.pc;have x:J.wrap (st.pc+4)=st.pc+4:=dD _ ⟨by omega,by omega⟩;have q:=ae (λW a=>sf k b g l st m p d (st.pc+4) W a s f);have r:=ae (λW=>tE a W);clear h;go_enter func142,ntmps142;go_wp2_with fail;refine(q.o _ H.o).mono ?_;rintro e V ⟨rfl,f⟩;have i:=ae f;clear f c x;go_wp2_with fail;refine(r.o _).mono ?_;rintro e z ⟨rfl,u⟩;subst u;have C:=i.o.c.2.2.2.2.1;have E:=i.o.free 36;go_wp2
 go_end0
 exact⟨R,i.o.Mb _ (mo a)⟩
theorem Bf(a:av)(b g:M)(d:aC)(st:bC)(f i:aC)(t:bc)(n:Z)(W:av)(h:yz a b g d st f i W)(r:-4294967296<=n)(s:n<=4294967296):
  Calls prog 143 #[aM (S ⟨b,0,N⟩),aJ t,I J n] W λe D=>e=aH (aZ #[])/\yz a b g d (sO t n st) f i D:=by
 have H:=ae h;have c:=h.c.2.2.2.1;have p:=h.c.2.2.2.2.1;have q:=h.free 36;have u:=h.ok.pc;have x:J.wrap (st.pc+n)=st.pc+n:=dD _ ⟨by omega,by omega⟩;have k:=ae (λW=>tE (st.pc+n) W);clear h
 cases t
 ·go_enter func143,ntmps143;go_wp2
  go_end0
  exact⟨R,H.o⟩
 ·go_enter func143,ntmps143;go_wp2_with fail;refine(k.o _).mono ?_;rintro e m ⟨rfl,l⟩;subst l;go_wp2
  go_end0
  exact⟨R,H.o.Mb _ (mo _)⟩
theorem Rg(f:av)(b g:M)(s:aC)(st:bC)(C E:aC)(m:cq)(a:Z)(W:av)(h:yz f b g s st C E W)(i:ij f g m)(c:ni m)(u:0<=a)(x:a<4294967296):
  Calls prog 178 #[aM (S ⟨b,0,N⟩),I J a] W λe D=>e=aH (I J (gB m.data (ah st.data) a))/\∃n,D=W.drewN n:=by
 obtain⟨l,r,d⟩:=yi h.data;subst d;have Q:=h.c.1;have p:=h.c.2.2.1;obtain⟨H,U,K,t2,P,t3,k,-,-,-⟩:=(i.kept h.gr).open;have z:=k.cell 3;simp only[bI,bB,bL]at z;have q:=ae (λW=>KX l (ah st.data) r m.data a W u x c.data.1 c.data.2);clear h i c k;go_enter func178,ntmps178;go_wp2
 go_quiet ((go_at_call 127;exact Calls.quiet_of_same (q.o _)))
 go_wp2;go_ret;exact⟨R,_,R⟩
theorem aez{a:M}{u:aC}(h:aV w base e 1 (ak (S ⟨a,0,N⟩) n cap) n xs):
  (aK w ⟨a,j,N⟩ u).ownsRow base e 1 (ak (S ⟨a,0,N⟩) n cap) n (xs.set j u):=by
 refine⟨by rw[lI];exact h.1,?_⟩;rcases h.2 with ⟨g,s⟩|⟨r,d,c,f,p,q,i,k,l,m⟩
 ·simp at g
 ·simp only[Value.slice.injEq,nv,Addr.mk.injEq]at f;obtain⟨⟨rfl,_⟩,_,rfl⟩:=f;refine .inr ⟨a,cap,c.setIfInBounds j u,R,p,Dl q u,i,k,by simpa using l,?_⟩;rw[Array.toList_setIfInBounds,List.take_set,m]
theorem vM{f:aR aY}(h:aV w base e 1 (ak f n cap) n xs)(r:0<n):∃d,f=S ⟨d,0,N⟩/\(∀o,dx w ⟨d,o,N⟩=F)/\n<=cap/\cap<=cu/\∀i,i<n->aq w ⟨d,i,N⟩=xs[i]?:=by
 rcases h.2 with ⟨s,u⟩|⟨c,g,a,l,_,k,m,p,x,q⟩
 ·omega
 ·simp only[Value.slice.injEq]at l;obtain⟨rfl,_,rfl⟩:=l;refine⟨c,R,λo=>(show aA w c a e from k).free o,m,p,λi d=>?_⟩;rw[(show aA w c a e from k).cell i,<- q,List.getElem?_take];simp[d]
section
variable{d W:av}{b g:M}{l a:aC}{st:bC}
theorem yz.Ma{f:M}(h:yz d b g l st (ak (S ⟨f,0,N⟩) n cap) a W)(r:n=ah st.data)(i:M)(v:Z)(x:0<=v/\v<4294967296):
  yz d b g l {st with data:=st.data.set i v} (ak (S ⟨f,0,N⟩) n cap) a (aK W ⟨f,i,N⟩ (I J v)):=by
 have s:f≠b:=h.apart.1 f R;have m:∀k,a.ownBlock=S k->k≠f:=λk e c=>h.apart.2.2 f R (by rw[e,c])
 have q:=(h.data.lt f R).1;subst r;refine⟨h.aO.grown (bK W f i _) (by simp;omega),?_,uy h.o m,h.apart,h.lo,eh h.gr (bK W f i _) (by intro k e;simp at e;omega),⟨h.ok.bM,h.ok.words,h.ok.zero,by simpa using h.ok.data,λj=>?_,h.ok.pc,h.ok.next,h.ok.o,h.ok.steps,h.ok.read⟩⟩
 ·have:=aez (j:=i) (u:=I J v) h.data
  simp only[lI,List.map_set];exact this
 ·show 0<=(st.data.set i v).getD j 0/\(st.data.set i v).getD j 0<4294967296;rw[bQ,List.getElem?_set];split
  ·split
   ·simpa using x
   ·rename_i p z;subst p;simp
  ·have:=h.ok.wJ j
   rw[bQ]at this;exact this
end
theorem acr(s:av)(b g:Nat)(u:aC)(st:bC)(C E:aC)(m:cq)(a v:Z)(W:av)(h:yz s b g u st C E W)(K:ij s g m)(P:ni m)(M:0<=a)(N:a<4294967296)(hv:0<=v/\v<4294967296):
  Calls prog 146 #[aM (some ⟨b,0,none⟩),I J a,I J v] W λe D=>e=aH (aZ #[])/\gI s b g u (pO m a v st) D:=by
 have x:=ae (Rg s b g u st C E m a W h K P M N);have H:=ae h;have r:=EH m.data (ah st.data) a;obtain⟨X,l⟩:∃X,X=pO m a v st:=⟨_,R⟩
 rw[<- l];unfold pO at l;have q:=ae l;clear h K P l;generalize gB m.data (ah st.data) a=i at *;go_enter func146,ntmps146;go_wp2_with fail;refine x.o.mono ?_;rintro e V ⟨rfl,n,l⟩;have p:Hd (yz s b g u st C E V):=by rw[l];exact H.o.grown (ye (aW _ _) n)
 clear l H x;by_cases x:0<=i
 ·have d:decide (i<0)=false:=by simp;omega
  rw[aD x]at q;obtain⟨k,rfl⟩:=eX x;have U:k<ah st.data:=by omega
  obtain⟨ad,cd,z⟩:=yi p.o.data;subst z;obtain⟨sg,rfl,Q,S,T,l⟩:=vM p.o.data (by omega);have F:=p.o.c.2.2.1;have L:=l k U;rw[jS,bW U,zt]at L;have fk:=Q k;have g1:(k:Z)<(ah st.data:Z):=by omega
  rw[dy]at q;clear Q l;go_wp2
  go_end0
  rw[q.o];exact⟨R,_,_,p.o.Ma R k v hv⟩
 ·have d:decide (i<0)=true:=by simp;omega
  rw[ax x]at q;have c:=p.o.c.2.2.2.2.2.1;have f:=p.o.free 37;go_wp2
  (try simp only[gV,Exit.then]);refine bj (gW R _ _ _) R ?_
  rw[q.o];exact⟨R,_,_,p.o.jA 5⟩
theorem adm(s:av)(b g:Nat)(u:aC)(st:bC)(z C:aC)(m:cq)(x a:Z)(W:av)(h:yz s b g u st z C W)(P:ij s g m)(Q:ni m)(h0:0<=a)(h1:a<4294967296)(M:0<=x)(N:x<32):
  Calls prog 145 #[aM (some ⟨b,0,none⟩),I J x,I J a] W λe D=>e=aH (aZ #[])/\gI s b g u (pN m x a st) D:=by
 have p:=ae (GN g m a W (P.kept h.gr) Q h0 h1);have T:=ae (λW l=>Rg s b g u st z C m a W l P Q h0 h1);have cS:=ae (λv W l=>sf s b g u st z C x v W l M N);have H:=ae h;have K:=h.c.1;have r:=EH m.data (ah st.data) a;obtain⟨X,l⟩:∃X,X=pN m x a st:=⟨_,R⟩
 rw[<- l];unfold pN at l;have q:=ae l;clear h P Q l;generalize gB m.data (ah st.data) a=i at *;generalize fi m a=cd at *;go_enter func145,ntmps145;go_wp2_with fail;refine p.o.mono ?_;rintro e V ⟨rfl,n,l⟩;have E:Hd (yz s b g u st z C V):=by rw[l];exact H.o.grown (ye (aW _ _) n)
 clear l H p K
 cases cd with
 |some U=>
  simp only at q;go_wp2_with fail;refine(cS.o U V E.o).mono ?_;rintro e K ⟨rfl,l⟩;have p:=ae l;clear l;go_wp2
  (try simp only[gV,Exit.then]);refine bj (gW R _ _ _) R ?_
  rw[q.o];exact⟨R,_,_,p.o⟩
 |none=>
  simp only at q;go_wp2_with fail;refine(T.o V E.o).mono ?_;rintro e K ⟨rfl,n2,l⟩;have p:Hd (yz s b g u st z C K):=by rw[l];exact E.o.grown (ye (aW _ _) n2)
  clear l E T;by_cases U:0<=i
  ·have d:decide (i<0)=false:=by simp;omega
   rw[aD U]at q;obtain⟨k,rfl⟩:=eX U;have F:k<ah st.data:=by omega
   obtain⟨ad,cd,S⟩:=yi p.o.data;subst S;obtain⟨sg,rfl,hf,hc1,hc2,l⟩:=vM p.o.data (by omega);have c34:=p.o.c.2.2.1;have ck:=l k F;rw[jS,bW F,zt]at ck;have g1:(k:Z)<(ah st.data:Z):=by omega
   rw[dy,bQ,bW F,Option.getD_some]at q;clear hf l;go_wp2_with fail;refine(cS.o _ K p.o).mono ?_;rintro e ke ⟨rfl,l⟩;have H3:=ae l;clear l;go_wp2
   go_end0
   rw[q.o];exact⟨R,_,_,H3.o⟩
  ·have d:decide (i<0)=true:=by simp;omega
   rw[ax U]at q;have c:=p.o.c.2.2.2.2.2.1;have f:=p.o.free 37;go_wp2
   (try simp only[gV,Exit.then]);refine bj (gW R _ _ _) R ?_
   rw[q.o];exact⟨R,_,_,p.o.jA 4⟩
section
variable{P:Program}(w:av)
theorem Dg{C:Array Oper}{rest:L Oper}{o:Oper}{a:Act}{Q:Exit->Act->av->Prop}(X:o.guard=none)(s x:Operand)(t:dm)
  (ho:o.op = .call {callee:=.builtin .append,args:=#[s,x],argTypes:=#[t,t]})
  (base:M) (e:dm) (i:TypeInfo) (z:aC) (size f:M) (ht:P.underlying t=S (.slice e)) (hi:P.info? e=S i) (hz:i.zero=S z)
  (p:i.size=size) (V:i.bytes=f) (I:z.cells.size=size) (F:0<size)
  (v:aC) (n:M) (xs:L aC) (hs:a.eval s=v) (r:aV w base e size v n xs)
  (H:aY) (m c:M) (d:L aC) (hx:a.eval x=ak (S H) m c) (hl:ah d=m*size) (l:∀j u,d[j]?=S u->aq w (H.add j)=S u) (J:∀u∈d,u.oneCell'=true)
  (U:n+m<=cu) (g:(n+m)*f<=140737488355328) (k:base<=w.heap.size)
  (h:∀q E,aV E base e size q (n+m) (xs++d)->az w E v.ownBlock->(q.ownBlock=v.ownBlock\/q.ownBlock=S w.heap.size)->wpList P C Q rest (a.put o.dst q) E):wpList P C Q (o::rest) a w:=by
 refine wpList_plain X λK Z=>?_
 obtain⟨q,E,hr,N,R,-,T⟩:=run_append_own_at (P:=P) w base t o.type e i z size f ht hi hz p V I F v n xs r H m c d hl l J U g k;unfold Oper.wp execOp;simp only[ho,resolve,invoke,builtin,Sem.run_bind,Sem.run_pure,Result.andThen_ok,List.map_toArray,List.map_cons,List.map_nil,hs,hx,hr];exact Z _ _ (h q E N R T)
end
section
variable{l W i:av}{b g:M}{j vd a d:aC}{st:bC}{ob:Obj}
theorem yz.D4(h:yz l b g j st vd a W)(c:(W.alloc ob).grownBy i a.ownBlock):aA i b (kR g j st vd a).toArray 138 :=
 (h.aO.grown (aG W ob N) (by simp)).grown c (λe=>h.apart.2.1 b e.symm R)
theorem yz.We(h:yz l b g j st vd a W)(c:(W.alloc ob).grownBy i a.ownBlock):aq i ⟨b,39,N⟩=S a :=
 ((h.D4 c).cell 39).trans (bI.trans (SF g j st vd a h.ok.bM 5))
theorem yz.Mj(h:yz l b g j st vd a W)(x:Z)(H:ah st.o<16)(m:aV i l.heap.size 3 1 d (ah st.o+1) (st.o.map (I .i64)++[I J x]))(q:(W.alloc ob).grownBy i a.ownBlock)(f:d.ownBlock=a.ownBlock\/d.ownBlock=S (W.alloc ob).heap.size):
  yz l b g j {st with o:=st.o++[x]} vd d (aK i ⟨b,39,N⟩ d):=by
 have p:(W.alloc ob).heap.size=W.heap.size+1:=js _;have C:=h.aO.lt;have r:∀k,d.ownBlock=S k->k≠b:=λk e=>by
  rcases f with f|f
  ·exact h.apart.2.1 k (by rw[<- f];exact e)
  ·rw[e,p]at f;simp at f;omega
 have z:=(h.data.alloc ob).kept q (by
  cases s:a.ownBlock with
  |none=>cases E:vd.ownBlock<;>simp
  |some k=>right;intro c;exact h.apart.2.2 k c s)
 refine⟨?_,uy z h.apart.1,?_,⟨h.apart.1,r,λk e=>?_⟩,h.lo,?_,⟨h.ok.bM,h.ok.words,h.ok.zero,h.ok.data,h.ok.wJ,h.ok.pc,h.ok.next,by simp;omega,h.ok.steps,h.ok.read⟩⟩
 ·have:=(h.D4 q).set 39 d
  rw[dt,zd g j st {st with o:=st.o++[x]} vd a vd d h.ok.bM R 5 d R]at this;exact this
 ·have:=uy (b:=b) (o:=39) (u:=d) m r
  simpa using this
 ·intro c;rcases f with f|f
  ·exact h.apart.2.2 k e (by rw[<- f];exact c)
  ·rw[c,p]at f
   have:=(h.data.lt k e).2
   simp at f;omega
 ·refine eh (eh (ya h.gr (aG W ob N)) q (λk e=>(h.o.lt k e).1)) (bK i b 39 d) (by intro k e;simp at e;have:=h.lo;omega)
end
theorem aeo(l:av)(b g:Nat)(s:aC)(st:bC)(M N:aC)(x:Z)(W:av)(h:yz l b g s st M N W):
  Calls prog 180 #[aM (some ⟨b,0,none⟩),I J x] W λe D=>e=aH (aZ #[])/\gI l b g s (if 16<=(ah st.o)then {st with aU:=6} else {st with o:=st.o++[x]}) D:=by
 obtain⟨F,V,m,p,q⟩:=fG Tryz.pR;obtain⟨T,co,E⟩:=yi h.o;subst E;have H:=ae h;have S:=h.c.2.2.2.2.2.2.2.1;have z:=kF h.o;have X:=h.gr.size;by_cases C:16<=ah st.o
 ·have d:decide ((16:Z)<=(ah st.o:Z))=true:=by simp;omega
  have c:=h.c.2.2.2.2.2.1;have f:=h.free 37;rw[aD C];clear h;go_enter func180,ntmps180;go_wp2
  (try simp only[gV,Exit.then]);refine bj (gW R _ _ _) R ?_
  exact⟨R,_,_,H.o.jA 6⟩
 ·have d:decide ((16:Z)<=(ah st.o:Z))=false:=by simp;omega
  rw[ax C];have P:=ae h.o;clear h;go_enter func180,ntmps180;go_wp2_with (at_builtin;refine Dg _ R _ _ 23 rfl l.heap.size 3 F (I J 0) 1 8 underlying23 V m p q R (by decide) _ _ _ R (P.o.alloc _) ⟨W.heap.size,0,none⟩ 1 1 [I J x] rfl rfl (qt _ _ _) (by intro u a;simp at a;subst a;rfl) (by unfold cu;omega) (by omega) (by simp;omega) ?_;intro v' w3 i a k;obtain⟨gR,Q,rfl⟩:=yi i;have r:=H.o.D4 a;have U:=r.free 39;have L:=H.o.We a;have K:=ae (H.o.Mj x (by omega) i a k);clear a i r k)
  go_wp2
  go_end0
  exact⟨R,_,_,K.o⟩
def bO(b:M):aC:=aM (S ⟨b,0,N⟩)
def rQ(g:M):Array aC:=#[bO g,ak N 0 0,ak N 0 0,ak N 0 0,ak N 0 0,I J 0,I J 0]
structure ki (W0:av) (P:M) (bt aj bd:Z) (vm:aC) (bl gl:L M) (os:L aF) (W:av):Prop where
 aO:aA W P #[I J bt,I J aj,I J bd,vm,aM N,I J 0,I J 0,I J 0] 151
 row:W.ownsRow W0.heap.size 147 1 vm bl.length (bl.map bO)
 iQ:gl.length=bl.length
 gx:os.length=bl.length
 lv:∀i (h:i<bl.length),aA W bl[i] (rQ (gl[i]'(by rw[iQ];exact h))) 155
 qL:∀i (h:i<bl.length),yr W (gl[i]'(by rw[iQ];exact h)) (os[i]'(by rw[gx];exact h))
 few:bl.length<=4096
 aE:∀o∈os,o.aE.length<=65535
 lo:W0.heap.size<=P
 ud:∀b∈bl,W0.heap.size<=b
 gr:W0.grownBy W N
 nd:bl.Nodup
def dr(W:av)(row:aR M)(e:dm):Prop:=∀k,row=S k->∃cur,aA W k cur e
theorem dr.own(h:aV W B e size v n xs):dr W v.ownBlock e:=by
 intro k a;rcases h.2 with ⟨d,_⟩|⟨g,cap,c,i,_,f,_⟩
 ·rw[d]at a;simp[eW]at a
 ·rw[i]at a;simp only[eW,nv]at a;subst a;exact⟨c,f⟩
theorem dr.aO(h:aA W b Y e):dr W (S b) e:=λk a=>by
 simp only[nv]at a;subst a;exact⟨Y,h⟩
theorem fh{a:aR M}(h:aA W b Y t)(i:az W D a)(k:dr W a e)(d:t≠e):aA D b Y t :=
 h.grown i (λc=>by
  obtain⟨f,g⟩:=k b c.symm
  have:=g.symm.trans h
  simp at this;exact d this.2.symm)
theorem ec{a:aR M}(h:aV W B t size v n xs)(l:az W D a)(m:dr W a e)(f:t≠e):aV D B t size v n xs :=
 h.kept l (by
  cases p:v.ownBlock with
  |none=>exact .inl R
  |some k=>
   right
   intro c;obtain⟨g,i⟩:=dr.own h k p;obtain⟨q,d⟩:=m k c.symm
   have:=i.symm.trans d
   simp at this;exact f this.2)
theorem kU{d:aR M}{g:M}(h:yr W g o)(a:az W D d)(c:dr W d e)(i:72≠e)(f:3≠e)(k:107≠e)(l:75≠e):yr D g o:=by
 obtain⟨P,E,C,z,K,H,m,p,q,r,s,u,x⟩:=h;exact⟨P,E,C,z,K,H,fh m a c i,ec p a c f,ec q a c f,ec r a c f,ec s a c f,ec u a c k,ec x a c l⟩
def iJ(ts:L dm)(W D:av):Prop:=∀k Y t,aA W k Y t->t ∉ ts->aA D k Y t
theorem iJ.grown(h:az W D N):iJ ts W D:=λ_ _ _ a _=>a.grown h (by simp)
theorem iJ.trans{B C:av}(h:iJ ts A B)(k:iJ ts B C):iJ ts A C:=λb Y t c a=>k b Y t (h b Y t c a) a
theorem iJ.row{a:aR M}(h:az W D a)(f:dr W a e)(d:e∈ts):iJ ts W D:=λ_ _ _ a g=>fh a h f (λc=>g (c ▸ d))
theorem iJ.own(h:iJ ts W D)(c:aV W B t size v n xs)(i:t ∉ ts):aV D B t size v n xs:=by
 refine⟨c.1,?_⟩;rcases c.2 with q|⟨g,cap,a,k,d,f,r⟩
 ·exact .inl q
 ·exact .inr ⟨g,cap,a,k,d,h g a t f i,r⟩
theorem iJ.obj(h:iJ ts W D){g:M}(k:yr W g o)(c:72 ∉ ts)(a:3 ∉ ts)(d:107 ∉ ts)(f:75 ∉ ts):yr D g o:=by
 obtain⟨H,z,x,u,E,C,i,l,m,p,q,r,s⟩:=k;exact⟨H,z,x,u,E,C,h _ _ _ i c,h.own l a,h.own m a,h.own p a,h.own q a,h.own r d,h.own s f⟩
theorem Tryz.ZO:(Tryz.prog.info? 147).map (λi=>(i.zero,i.size,i.bytes))=S (S (aM N),1,8):=by kernel_rfl
section
variable{g W D:av}{P:M}{bt aj bd:Z}{j:aC}{d gl:L M}{os:L aF}
theorem ki.kept(h:ki g P bt aj bd j d gl os W)(a:az W D N):ki g P bt aj bd j d gl os D :=
 ⟨h.aO.grown a (by simp),h.row.kept a (by cases j.ownBlock<;>simp),h.iQ,h.gx,λi c=>(h.lv i c).grown a (by simp),λi c=>(h.qL i c).kept a,h.few,h.aE,h.lo,h.ud,ya h.gr a,h.nd⟩
theorem ki.ty{a:aR M}(h:ki g P bt aj bd j d gl os W)(c:az W D a)(f:dr W a e)(l:∀k,a=S k->g.heap.size<=k)(m:151≠e)(p:147≠e)(q:155≠e)(r:72≠e)(s:3≠e)(u:107≠e)(x:75≠e):ki g P bt aj bd j d gl os D :=
 ⟨fh h.aO c f m,ec h.row c f p,h.iQ,h.gx,λi a=>fh (h.lv i a) c f q,λi a=>kU (h.qL i a) c f r s u x,h.few,h.aE,h.lo,h.ud,eh h.gr c l,h.nd⟩
theorem ki.rM{a:aR aY}{f:M}(h:ki g P bt aj bd (ak a (ah d) f) d gl os W):nF W a d os:=by
 refine⟨λl=>?_,h.gx.symm,λi a c=>⟨_,(h.lv i a).cell 0,h.qL i a⟩,by rw[h.gx];exact h.few,h.aE⟩;obtain⟨p,m,-,-,-,k⟩:=vM h.row l;refine⟨p,0,m,λi c=>?_⟩;rw[Nat.zero_add,k i c,jS,bW c];rfl
theorem ki.more{f:Nat}{Q:av}{H:aC}(h:ki g P bt aj bd j d gl os W)(M:yr W f o)(S:ah d<4096)(R:ah o.aE<=65535)
  (C:aV Q g.heap.size 147 1 H (ah d+1) (d.map bO++[bO W.heap.size])) (r:((W.alloc (.cells (rQ f) 155)).alloc (.cells #[bO W.heap.size] 147)).grownBy Q j.ownBlock) :
  ki g P bt aj bd H (d++[W.heap.size]) (gl++[f]) (os++[o]) (aK Q ⟨P,3,N⟩ H):=by
 have F:=aG W (.cells (rQ f) 155) N;have V:=aG (W.alloc (.cells (rQ f) 155)) (.cells #[bO W.heap.size] 147) N;have A:=ya F V;have K:=h.kept A;have z:=dr.own K.row;have I:=(aA.new W (rQ f) 155).grown V (by simp);have X:=fh K.aO r z (by decide);have u:=dr.aO X;have q:=bK Q P 3 H;have U:=h.gr.size;have E:∀k,j.ownBlock=some k->g.heap.size<=k:=λk e=>(h.row.lt k e).1
 refine⟨?_,?_,by simp[h.iQ],by simp[h.gx],?_,?_,by simp;omega,?_,h.lo,?_,?_,?_⟩
 ·have:=X.set 3 H
  rw[dt]at this;exact this
 ·have:=ec C q u (by decide)
  simpa using this
 ·intro i s;have J:(gl++[f])[i]?=some ((gl++[f])[i]'(by simp[h.iQ];simpa using s)):=bW _;by_cases c:i<ah d
  ·have l:(d++[W.heap.size])[i]=d[i]:=uM c;have m:(gl++[f])[i]'(by simp[h.iQ];omega)=gl[i]'(by rw[h.iQ];exact c):=uM _;rw[l,m];exact fh (fh (K.lv i c) r z (by decide)) q u (by decide)
  ·have p:i=ah d:=by simp at s;omega
   subst p;have l:(d++[W.heap.size])[ah d]=W.heap.size:=by simp
   have m:(gl++[f])[ah d]'(by simp[h.iQ])=f:=by simp[<- h.iQ]
   rw[l,m];exact fh (fh I r z (by decide)) q u (by decide)
 ·intro i s;by_cases c:i<ah d
  ·have l:(os++[o])[i]'(by simp[h.gx];omega)=os[i]'(by rw[h.gx];exact c):=uM _;have m:(gl++[f])[i]'(by simp[h.iQ];omega)=gl[i]'(by rw[h.iQ];exact c):=uM _;rw[l,m];exact kU (kU (K.qL i c) r z (by decide) (by decide) (by decide) (by decide)) q u (by decide) (by decide) (by decide) (by decide)
  ·have p:i=ah d:=by simp at s;omega
   subst p;have l:(os++[o])[ah d]'(by simp[h.gx])=o:=by simp[<- h.gx]
   have m:(gl++[f])[ah d]'(by simp[h.iQ])=f:=by simp[<- h.iQ]
   rw[l,m];exact kU (kU (M.kept A) r z (by decide) (by decide) (by decide) (by decide)) q u (by decide) (by decide) (by decide) (by decide)
 ·intro x c;rcases nR.1 c with c|c
  ·exact h.aE x c
  ·simp at c;subst c;exact R
 ·intro x c;rcases nR.1 c with c|c
  ·exact h.ud x c
  ·simp at c;subst c;exact U
 ·exact eh (eh (ya h.gr A) r E) q (by intro k e;simp at e;have:=h.lo;omega)
 ·rw[List.nodup_append];refine⟨h.nd,by simp,λa l b c=>?_⟩;simp at c;subst c;obtain⟨i,s,rfl⟩:=kY l;exact Nat.ne_of_lt (h.lv i s).lt
end
theorem SX(i:av)(P:Nat)(bt aj bd:Int)(vm:aC)(f x:List Nat)(os:List aF)(d:Nat)(o:aF)(W:av)(h:ki i P bt aj bd vm f x os W)(C:yr W d o)(I:ah f<4096)(L:ah o.aE<=65535):
  Calls prog 112 #[bO P,bO d] W λe D=>e=aH (aZ #[])/\(∃a b,ki i P bt aj bd a (f++[b]) (x++[d]) (os++[o]) D)/\iJ [147,151] W D:=by
 obtain⟨T,J,p,q,r⟩:=fG Tryz.ZO;obtain⟨X,F,rfl⟩:=yi h.row;have H:=ae h;have U:=ae C;have c3:aq W ⟨P,3,N⟩=S (ak X (ah f) F):=h.aO.cell 3;have hP:=h.aO.lt;have z:=kF h.row;have M:=h.gr.size;have a:(W.alloc (.cells (rQ d) 155)).heap.size=W.heap.size+1:=js _;have E:=ae (show ∀j u,[bO W.heap.size][j]?=S u->((W.alloc (.cells (rQ d) 155)).alloc (.cells #[bO W.heap.size] 147)).cell? ((⟨W.heap.size+1,0,N⟩:aY).add j)=S u by
  have:=qt (W.alloc (.cells (rQ d) 155)) (bO W.heap.size) 147
  rw[a]at this;exact this)
 have s:=ae ((h.kept (ya (aG W (.cells (rQ d) 155) N) (aG _ (.cells #[bO W.heap.size] 147) N))).row);have Q:=ae ((h.kept (ya (aG W (.cells (rQ d) 155) N) (aG _ (.cells #[bO W.heap.size] 147) N))).aO);have V:=ae (show i.heap.size<=((W.alloc (.cells (rQ d) 155)).alloc (.cells #[bO W.heap.size] 147)).heap.size from (h.kept (ya (aG W (.cells (rQ d) 155) N) (aG _ (.cells #[bO W.heap.size] 147) N))).gr.size);clear h C a;unfold bO;go_enter func112,ntmps112;go_wp2_with (at_builtin;refine Dg _ R _ _ 146 rfl i.heap.size 147 T (aM N) 1 8 underlying146 J p q r R (by decide) _ _ _ R s.o ⟨W.heap.size+1,0,N⟩ 1 1 [bO W.heap.size] rfl rfl E.o (by intro u a;simp at a;subst a;rfl) (by unfold cu;omega) (by omega) V.o ?_;intro v' w3 c a g;obtain⟨Z,m,rfl⟩:=yi c;have l:=dr.own s.o;have k:=fh Q.o a l (by decide);have f3:=k.free 3;have k3:=k.cell 3;have K:=ae (H.o.more U.o I L c a);have lF:=ae (((iJ.grown (ts:=[147,151]) (ya (aG W (.cells (rQ d) 155) N) (aG _ (.cells #[bO W.heap.size] 147) N))).trans (iJ.row a l (by decide))).trans (iJ.row (bK w3 P 3 (ak Z (ah f+1) m)) (dr.aO k) (by decide)));clear a c l k g)
 go_end0
 exact⟨R,⟨_,_,K.o⟩,lF.o⟩
structure lY (W:av) (di:M) (gs:L M) (ms:L (aF×bc)):Prop where
 len:gs.length=ms.length
 row:∃cur,aA W di cur 196/\∀i (h:i<ms.length),cur[i*2]?=S (bO (gs[i]'(by rw[len];exact h)))/\cur[i*2+1]?=S (aJ ms[i].2)
 qL:∀i (h:i<ms.length),yr W (gs[i]'(by rw[len];exact h)) ms[i].1
 aE:∀m∈ms,m.1.aE.length<=65535
def mV(ts:L dm)(di:M)(W D:av):Prop:=∀k Y t,aA W k Y t->t ∉ ts->k≠di->aA D k Y t
theorem mV.refl(ts:L dm)(a:M)(W:av):mV ts a W W:=λ_ _ _ h _ _=>h
theorem iJ.x{B:av}(h:iJ ts A B)(a:M):mV ts a A B:=λk Y t a c _=>h k Y t a c
theorem mV.trans{a:M}{B C:av}(h:mV ts a A B)(k:mV ts a B C):mV ts a A C:=λb Y t d c a=>k b Y t (h b Y t d c a) c a
theorem mV.set(ts:L dm)(W:av)(a o:M)(v:aC):mV ts a W (aK W ⟨a,o,N⟩ v):=λ_ _ _ c _ d=>c.grown (bK W a o v) (by simp;omega)
def km(ms:L (aF×bc)):M:=(ms.filter λm=>!m.2).length
section
variable{W D:av}{di:M}{a:L M}{ms:L (aF×bc)}
theorem lY.frame(h:lY W di a ms)(d:iJ ts W D)(f:196 ∉ ts)(g:72 ∉ ts)(k:3 ∉ ts)(l:107 ∉ ts)(m:75 ∉ ts):lY D di a ms:=by
 obtain⟨c,p,q⟩:=h.row;exact⟨h.len,⟨c,d _ _ _ p f,q⟩,λi c=>d.obj (h.qL i c) g k l m,h.aE⟩
theorem lY.kept(h:lY W di a ms)(c:az W D N):lY D di a ms:=h.frame (ts:=[]) (iJ.grown c) (by simp) (by simp) (by simp) (by simp) (by simp)
theorem lY.cells(h:lY W di a ms)(i:M)(d:i<ah ms):aq W ⟨di,i*2,N⟩=S (bO (a[i]'(by rw[h.len];exact d)))/\aq W ⟨di,i*2+1,N⟩=S (aJ ms[i].2)/\dx W ⟨di,i*2+1,N⟩=F:=by
 obtain⟨g,c,f⟩:=h.row;exact⟨(c.cell _).trans (f i d).1,(c.cell _).trans (f i d).2,c.free _⟩
theorem lY.put(h:lY W di a ms)(i:M)(p:i<ah ms):lY (aK W ⟨di,i*2+1,N⟩ (aJ T)) di a (ms.set i (ms[i].1,T)):=by
 obtain⟨d,l,g⟩:=h.row;have q:=dr.aO l;have f:=bK W di (i*2+1) (aJ T);have k:i*2+1<d.size:=by
  have:=(g i p).2
  exact(Array.getElem?_eq_some_iff.1 this).1
 refine⟨by rw[lI];exact h.len,⟨_,l.set (i*2+1) (aJ T),λj c=>?_⟩,λj c=>?_,λm r=>?_⟩
 ·rw[lI]at c;rw[Ub,Ub,ax (by omega)];refine⟨(g j c).1,?_⟩;by_cases e:i=j
  ·subst e;rw[aD R,aD k,Cu]
  ·rw[ax (by omega),EZ e];exact(g j c).2
 ·rw[lI]at c;have e:(ms.set i (ms[i].1,T))[j].1=ms[j].1:=by
   by_cases e:i=j
   ·subst e;rw[Cu]
   ·rw[EZ e]
  rw[e];exact kU (h.qL j c) f q (by decide) (by decide) (by decide) (by decide)
 ·obtain⟨j,c,rfl⟩:=kY r;rw[lI]at c;by_cases e:i=j
  ·subst e;rw[Cu];exact h.aE ms[i] (bN p)
  ·rw[EZ e];exact h.aE _ (bN c)
end
theorem SB(ms:L (aF×bc))(k:M)(os:L aF)(h:k<ah ms):fI (ms.drop k) os=if ms[k].2=F/\rE os ms[k].1=T then ((ms[k].1,T)::(fI (ms.drop (k+1)) (os++[ms[k].1])).1,(fI (ms.drop (k+1)) (os++[ms[k].1])).2.1,T)else (ms[k]::(fI (ms.drop (k+1)) os).1,(fI (ms.drop (k+1)) os).2.1,(fI (ms.drop (k+1)) os).2.2):=by
 rw[fv h];generalize ms[k]=m;obtain⟨o,t⟩:=m;rw[fI]
theorem Ks:∀(ms:L (aF×bc)) (i:M) (h:i<ah ms) (o:aF),ms[i].2=F->km (ms.set i (o,T))+1=km ms:=by
 intro ms
 induction ms with
 |nil=>intro i h;simp at h
 |cons m ms c=>
  intro i h o a;obtain⟨d,f⟩:=m
  cases i with
  |zero=>
   simp only[nj]at a;subst a;simp[km]
  |succ i=>
   have:=c i (by simpa using h) o (by simpa using a)
   unfold km at this ⊢;simp only[dB,List.filter_cons];split<;>(try simp only[dA])<;>omega
theorem ady(ms:L (aF×bc)):km ms<=ah ms:=List.length_filter_le _ _
structure ot (ms1:L (aF×bc)) (O:L aF) (j:M) (ms2:L (aF×bc)) (G:L aF) (more:bc):Prop where
 len:ms2.length=ms1.length
 rest:ms2.drop j=ms1.drop j
 eq:fI ms1 O=(ms2.take j++(fI (ms1.drop j) G).1,(fI (ms1.drop j) G).2.1,more ||(fI (ms1.drop j) G).2.2)
 un:km ms2+(if more then 1 else 0)<=km ms1
theorem ot.start(ms:L (aF×bc))(os:L aF):ot ms os 0 ms os F:=⟨R,R,by simp,by simp⟩
theorem ot.at{a d:L (aF×bc)}{c:bc}(h:ot a O j d G c)(f:j<ah a):d[j]'(by rw[h.len];exact f)=a[j]:=by
 have e:=h.rest;rw[fv (by rw[h.len];exact f),fv f]at e;exact(List.cons.inj e).1
theorem ot.iV{c a:L (aF×bc)}{f:bc}(h:ot c O j a G f)(k:j<ah c)(d:j<ah a)(g:a[j].2=F)(p:rE G a[j].1=T):ot c O (j+1) (a.set j (a[j].1,T)) (G++[a[j].1]) T:=by
 have m:=h.at k;have e:=h.eq;rw[SB c j G k,<- m,aD ⟨g,p⟩]at e;refine⟨by rw[lI];exact h.len,?_,?_,?_⟩
 ·have r:=h.rest;rw[List.drop_set_of_lt (by omega),<- uJ (i:=1) (j:=j),<- uJ (i:=1) (j:=j) (l:=c),r]
 ·rw[e];have t:(a.set j (a[j].1,T)).take (j+1)=a.take j++[(a[j].1,T)]:=by
   rw[kI (by rw[lI];exact d),Cu,List.take_set_of_le (by omega)]
  rw[t];simp
 ·have:=Ks a j d a[j].1 g
  have u:=h.un;simp only[if_true];omega
theorem ot.no{a c:L (aF×bc)}{d:bc}(h:ot a O j c G d)(g:j<ah a)(f:j<ah c)(m:¬(c[j].2=F/\rE G c[j].1=T)):ot a O (j+1) c G d:=by
 have k:=h.at g;have e:=h.eq;rw[SB a j G g,<- k,ax m]at e;refine⟨h.len,?_,?_,h.un⟩
 ·have r:=h.rest;rw[<- uJ (i:=1) (j:=j),<- uJ (i:=1) (j:=j) (l:=a),r]
 ·rw[e,kI f,List.append_assoc];rfl
theorem ot.fin{c d:L (aF×bc)}{a:bc}(h:ot c O j d G a)(f:j=ah c):fI c O=(d,G,a):=by
 have e:=h.eq;subst f;rw[jJ,fI,List.take_of_length_le (by rw[h.len];exact bz _)]at e;rw[e];simp
theorem aal(X:av)(P:M)(bt aj bd:Z)(vm:aC)(I gl:L M)(os:L aF)(p cm:M)(gs:L M)(ms:L (aF×bc))(W:av)(h:ki X P bt aj bd vm I gl os W)(J:lY W p gs ms)(hc:ah I+km ms<=4096)(hml:X.heap.size<=p)(hn:ah ms<=4096)(hcm:ah ms<=cm/\cm<=cu):
  Calls prog 111 #[bO P,ak (S ⟨p,0,N⟩) (ah ms) cm] W λe D=>e=aH (aZ #[])/\(∃d a f,ki X P bt aj bd d a f (nU (ah ms+1) ms os) D/\(ah a)<=ah I+km ms)/\mV [147,151] p W D:=by
 have H:=ae h;have HM:=ae J;have hcm1:=hcm.2;unfold cu at hcm1;clear h J;unfold bO;go_enter func111,ntmps111;obtain⟨a,d⟩:∃a,a=nU (ah ms+1) ms os:=⟨_,R⟩
 rw[<- d];have HT:=ae d;clear d;have hu:=ady ms;go_wp2
 go_loopg [4] (ah ms+1) (λg l wr=>∃(m:bc) (d:L (aF×bc)) (O:L aF) (Dc ti:L M) (Gf:aC),l=aJ m/\ki X P bt aj bd Gf Dc ti O wr/\lY wr p gs d/\(ah d)=ah ms/\(ah Dc)+km d<=ah I+km ms/\mV [147,151] p W wr/\(m=T->km d+1<=g/\a=nU g d O)/\(m=F->a=O))
 case atStart=>exact⟨T,ms,os,I,gl,vm,R,H.o,HM.o,R,bz _,mV.refl _ _ _,λ_=>⟨by omega,HT.o⟩,λc=>by cases c⟩
 case round=>
  obtain⟨m,d,O,Dc,ti,Gf,rfl,hg,J,hl,hb,r,hy,K⟩:=hrel
  cases m with
  |false=>
   have E:=ae (K R);have HG:=ae hg;have AY:=ae r;clear hg J r hy K;go_wp2
   go_end0
   rw[E.o];exact⟨R,⟨Gf,Dc,ti,HG.o,by omega⟩,AY.o⟩
  |true=>
   obtain⟨hk,f⟩:=hy R;obtain⟨gk',rfl⟩:∃k,gk=k+1:=⟨gk-1,by omega⟩
   have E:=ae f;have HG:=ae hg;have Jd:=ae J;have AY:=ae r;clear hg J r hy K f;obtain⟨U,hU⟩:∃U:av,U=wr:=⟨_,R⟩
   subst hU;go_wp2
   go_loopw [4,9] (λl i wr=>∃(j:M) (rN:bc) (f:L (aF×bc)) (G:L aF) (u BK:L M) (Ey:aC),j<=ah ms/\i = .int .i64 j/\l=aJ rN/\ki X P bt aj bd Ey u BK G wr/\lY wr p gs f/\ot d O j f G rN/\(ah u)+km f<=ah I+km ms/\mV [147,151] p W wr) (λ_ i _=>ah ms-(aN i).toNat)
   case atStart=>exact⟨0,F,d,O,Dc,ti,Gf,bG _,R,R,HG.o,Jd.o,ot.start _ _,hb,AY.o⟩
   case round=>
    obtain⟨j,rN,f,G,u,BK,Ey,hj,rfl,rfl,s,x,C,z,l⟩:=hrel;have q:=ae s;have Q:=ae x;have qN:=ae C;have jl:=ae l;clear s x C l;by_cases hlt:j<ah ms
    ·have C:j<ah d:=by omega
     have l:j<ah f:=by rw[qN.o.len];exact C
     obtain⟨m0,m1,JZ⟩:=Q.o.cells j l;have g1:(j:Z)<(ah ms:Z):=by omega
     have YES:=ae (qN.o.iV C l);have NO:=ae (qN.o.no C l);have sQ:=ae (Q.o.qL j l);have Oq:=Q.o.aE f[j] (bN l);have PT:=ae (λV (a:lY V p gs f)=>a.put j l);have US:=ae (Ks f j l f[j].1);generalize f[j]=mj at *;obtain⟨oj,tj⟩:=mj;dsimp only at *;unfold bO at m0;generalize s:gs[j]'_=gj at *;have Xg:=ae s;clear s
     cases tj with
     |true=>
      have x:=ae (NO.o (λc=>by cases c.1));go_wp2
      go_roundw
      case rel=>exact⟨j+1,rN,f,G,u,BK,Ey,by omega,by go_num,R,q.o,Q.o,x.o,z,jl.o⟩
      case measure=>simp[aN];omega
     |false=>
      obtain⟨am,Qg,Zi⟩:=yi q.o.row;subst Zi;have s:aq wr ⟨P,3,N⟩=S (ak am (ah u) Qg):=q.o.aO.cell 3;have x:=ae (aef P am Qg u G gj oj wr s q.o.rM sQ.o Oq);clear s;go_wp2_with fail;refine x.o.mono ?_;rintro e W5 ⟨rfl,s⟩;have FC:=ae (q.o.kept s);have EP:=ae (Q.o.kept s);have PQ:=ae (jl.o.trans ((iJ.grown s).x p));have Em:=ae (sQ.o.kept s);have m0':=yd m0 s;have Zo:=yd m1 s;clear s x m0 m1 JZ;obtain⟨-,-,JZ⟩:=EP.o.cells j l
      cases s:rE G oj with
      |false=>
       have x:=ae (NO.o (λc=>by rw[s]at c;cases c.2));clear s;go_wp2
       go_roundw
       case rel=>exact⟨j+1,rN,f,G,u,BK,_,by omega,by go_num,R,FC.o,EP.o,x.o,z,PQ.o⟩
       case measure=>simp[aN];omega
      |true=>
       have x:=ae (YES.o trivial s);have Zh:=US.o trivial;clear s;obtain⟨cur,hcb,-⟩:=EP.o.row;have RM:=dr.aO hcb;have GS:=bK W5 p (j*2+1) (aJ T);have CG:=ae (FC.o.ty GS RM (by intro k e;simp at e;omega) (by decide) (by decide) (by decide) (by decide) (by decide) (by decide) (by decide));have oX:=ae (PT.o W5 EP.o);have C9:=ae (kU Em.o GS RM (by decide) (by decide) (by decide) (by decide));have Vz:=ae (PQ.o.trans (mV.set _ W5 p (j*2+1) (aJ T)));have n0:(aK W5 ⟨p,j*2+1,N⟩ (aJ T)).cell? ⟨p,j*2,N⟩=S (aM (S ⟨gj,0,N⟩)):=by
        obtain⟨q0,-,-⟩:=oX.o.cells j (by rw[lI];exact l);exact q0.trans (by rw[<- Xg.o];rfl)
       clear hcb RM GS PT;have cT:=ae (SX X P bt aj bd _ u BK G gj oj _ CG.o C9.o (by omega) Oq);unfold bO at cT;go_wp2_with fail;refine cT.o.mono ?_;rintro e W7 ⟨rfl,⟨QH,b7,h7⟩,f7⟩;have CH:=ae h7;have LP:=ae (oX.o.frame f7 (by decide) (by decide) (by decide) (by decide) (by decide));have CY:=ae (Vz.o.trans (f7.x p));clear h7 f7 cT n0 m0' Zo JZ;go_wp2
       go_roundw
       case rel=>exact⟨j+1,T,_,_,_,_,_,by omega,by go_num,R,CH.o,LP.o,x.o,by simp;omega,CY.o⟩
       case measure=>simp[aN];omega
    ·obtain rfl:j=ah ms:=by omega
     have x:=ae (qN.o.fin (by omega));have g3:decide ((ah ms:Z)<(ah ms:Z))=F:=by simp
     have l:=ae (show a=if (fI d O).2.2=T then nU gk' (fI d O).1 (fI d O).2.1 else (fI d O).2.1 from E.o);rw[x.o]at l;dsimp only at l;have s:=qN.o.un;have C:=qN.o.len;go_wp2
     go_roundg gk'
     case measure=>omega
     case rel=>
      refine⟨rN,f,G,u,BK,Ey,R,q.o,Q.o,by omega,z,jl.o,λc=>?_,λc=>?_⟩
      ·subst c;simp only[if_true]at s;exact⟨by omega,by rw[l.o,aD R]⟩
      ·subst c;rw[l.o,ax (by decide)]
theorem Tryz.Me:(Tryz.prog.info? 5).map (λi=>(i.zero,i.size,i.bytes))=S (S (.int .u8 0),1,1):=by kernel_rfl
def my(l:L aL):L aC:=l.map λc=>.int .u8 c.toNat
def gG(W:av)(b:M)(l:L aL):Prop :=
 ∃ao cap,aA W b #[ak ao (ah l) cap] 166/\aV W (b+1) 5 1 (ak ao (ah l) cap) (ah l) (my l)
theorem Ta(W:av):gG (W.alloc (.cells #[ak N 0 0] 166)) W.heap.size [] :=
 ⟨N,0,aA.new W _ _,World.ownsRow_nil _ _ _ _⟩
theorem acU(n:Z):aT .and .i64 n 255=n%256:=by
 have c:(de 64 255).toNat=2 ^ 8-1:=by decide
 have a:(de 64 n &&& de 64 255).toNat=(n%((2 ^ 64:M):Z)).toNat%2 ^ 8:=by
  rw[BitVec.toNat_and,BitVec.toNat_ofInt,c,Nat.and_two_pow_sub_one_eq_mod]
 show J.wrap ((de 64 n &&& de 64 255).toNat:M)=n%256;rw[a,pD];omega
def Cg(x:Z):aL:=UInt8.ofNat (x%256).toNat
theorem ae7(x:Z):((Cg x).toNat:Z)=aT .and .i64 x 255%256:=by
 rw[acU];unfold Cg;rw[UInt8.toNat_ofNat'];omega
theorem ae8{x:Z}(h:aV w base 5 1 v n (xs++[.int .u8 (aT .and .i64 x 255%256)])):aV w base 5 1 v n (xs++[.int .u8 (Cg x).toNat]):=by
 rw[ae7];exact h
def vU(b:M)(w w':av):Prop:=∀k Y t,k≠b->t≠5->aA w k Y t->aA w' k Y t
theorem vU.refl(b:M)(w:av):vU b w w:=λ_ _ _ _ _ h=>h
theorem vU.trans{x z:av}(h:vU b x y)(k:vU b y z):vU b x z:=λi Y t a c d=>k i Y t a c (h i Y t a c d)
def Wk(b:M)(w w':av):Prop:=Below b w w'/\vU b w w'
theorem Wk.refl(b:M)(w:av):Wk b w w:=⟨Below.refl _ _,vU.refl _ _⟩
theorem Wk.trans{x z:av}(h:Wk b x y)(k:Wk b y z):Wk b x z:=⟨h.1.trans k.1,h.2.trans k.2⟩
theorem Wk.alloc{x:av}(h:Wk b x y)(a:b<=y.heap.size)(o:Obj):Wk b x (y.alloc o) :=
 ⟨h.1.alloc a o,h.2.trans λ_ _ _ _ _ a=>a.grown (aG y o N) (by simp)⟩
theorem ae1{o:Obj}{f:aC}(a:aV wr base 5 1 f n xs)(m:(wr.alloc o).grownBy w1 f.ownBlock)(v:aC):vU b wr (aK w1 ⟨b,0,N⟩ v):=by
 intro k Y t p q c;have i:=c.grown (aG wr o N) (by simp);have l:aA w1 k Y t:=i.grown m (by
  rcases a.2 with ⟨rfl,_⟩|⟨g,cap,h,rfl,_,d,_⟩
  ·simp[eW]
  ·intro e;simp only[eW,nv]at e;subst e;unfold aA at c;rw[c]at d;simp only[nv,Obj.cells.injEq]at d;exact q d.2.1)
 exact l.grown (bK w1 b 0 v) (by simpa using p)
theorem K8{l:L aL}{i:aR aY}{o:Obj}{c:aL}(r:aA wr b #[ak i (ah l) cap] 166)(p:Wk b w wr)(h:aV wr (b+1) 5 1 (ak i (ah l) cap) (ah l) (my l))
  (m:(wr.alloc o).grownBy w1 (eW (ak i (ah l) cap))) (f:∀g,eW (ak i (ah l) cap)=S g->b+1<=g) (d:aV w1 (b+1) 5 1 v (ah l+1) (my l++[.int .u8 c.toNat])) :
  gG (aK w1 ⟨b,0,N⟩ v) b (l++[c])/\Wk b w (aK w1 ⟨b,0,N⟩ v):=by
 have s:=ae1 (b:=b) h m v;have q:aA w1 b #[ak i (ah l) cap] 166:=(r.grown (aG wr o N) (by simp)).grown m (λe=>by have:=f b e.symm;omega);obtain⟨u,k,rfl⟩:=yi d;have a:(l++[c]).length=ah l+1:=by simp
 refine⟨⟨u,k,?_,?_⟩,?_⟩
 ·rw[a];exact q.set 0 _
 ·have e:my (l++[c])=my l++[.int .u8 c.toNat]:=by simp[my]
  rw[a,e];exact ownsRow_setCell_below d (Nat.lt_succ_self b) _
 ·refine⟨?_,p.2.trans s⟩;exact((p.1.alloc (Nat.le_of_lt r.lt) o).grown m (by have:=r.lt;simp;omega) (λg m=>by have:=f g m;omega)).setCell (bz b) _
theorem AE{o:Obj}{c:aR M}(d:aA wr b Y t)(f:(wr.alloc o).grownBy w1 c)(a:∀g,c=S g->b+1<=g):aA w1 b Y t :=
 (d.grown (aG wr o N) (by simp)).grown f (λe=>by have:=a b e.symm;omega)
theorem R4(b:M)(n:Int)(size:M)(l:L aL)(w:av)(h:gG w b l)(hl:ah l<=16777216)(hs:size<=4)(z:-1099511627776<=n)(C:n<=1099511627776):
  Calls prog 84 #[aM (some ⟨b,0,none⟩),I J n,I J size] w λe a=>e=aH (aZ #[])/\gG a b (l++bu n size)/\Wk b w a:=by
 obtain⟨i0,hi,K,Q,U⟩:=fG Tryz.Me;have H:=ae h;clear h;go_enter func84,ntmps84;go_wp2
 go_loopw [1,6] (λm i wr=>∃(k:M) (x:Int),k<=size/\i=I J k/\m=I J x/\-1099511627776<=x/\x<=1099511627776/\(∃a:L aL,ah a=ah l+k/\gG wr b a/\l++bu n size=a++bu x (size-k))/\Wk b w wr) (λ_ i _=>size-(aN i).toNat)
 case atStart=>exact⟨0,n,bG _,R,R,z,C,⟨l,R,H.o,by simp⟩,Wk.refl _ _⟩
 case round=>
  obtain⟨k,x,hk,rfl,rfl,hx0,hx1,a,c⟩:=hrel;have s:=ae a;have V:=ae c;clear a c;by_cases hlt:k<size
  ·obtain⟨a,q,E,d⟩:=s.o;obtain⟨X,cap,c,f⟩:=E;have S:=c.cell 0;have T:=c.free 0;have Z:=c.lt;have r:=ae c;have N:=ae d;have F:=ae q;have YJ:ah a<=16777220:=by omega
   have p:=ae (show ∀g,eW (ak X (ah a) cap)=some g->b+1<=g from λg a=>(f.lt g a).1);clear c d q s;go_wp2_with (at_builtin;refine wpList_append_own _ R _ _ 164 rfl (b+1) 5 i0 (.int .u8 0) 1 1 underlying164 hi K Q U R (by decide) (ak X (ah a) cap) (ah a) (my a) R (f.alloc _) ⟨wr.heap.size,0,none⟩ 1 1 [.int .u8 (aT .and .i64 x 255%256)] rfl rfl (qt _ _ _) (by intro u c;simp at c;subst c;rfl) (by unfold cu;omega) (by omega) (by simp;omega) ?_;intro v' w3 d c _;obtain⟨NW,q,rfl⟩:=yi d;have m0:=(AE r.o c p.o).cell 0;have n0:=(AE r.o c p.o).free 0;have P:=ae (K8 r.o V.o f c p.o (ae8 d));clear d c f S T)
   go_roundw
   case rel=>
    refine⟨k+1,x/256,by omega,by go_num,R,by omega,by omega,⟨a++[Cg x],?_,P.o.1,?_⟩,P.o.2⟩
    ·have:=F.o;simp;omega
    ·have e:size-k=(size-(k+1))+1:=by omega
     rw[N.o,e];simp[bu,Cg]
   case measure=>simp[aN];omega
  ·go_wp2
   go_end0
   obtain⟨a,q,E,d⟩:=s.o;have e:size-k=0:=by omega
   rw[e]at d;simp only[bu,List.append_nil]at d;rw[d];exact⟨R,E,V.o⟩
