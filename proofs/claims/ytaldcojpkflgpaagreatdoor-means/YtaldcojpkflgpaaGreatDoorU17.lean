import Derived.Test.YtaldcojpkflgpaaGreatDoorU16
set_option maxHeartbeats 16000000
set_option maxRecDepth 100000
open Go.Value renaming int->I,slice->ak,tuple->aZ,string->aB,bool->aJ,pointer->aM
open Go.IntKind renaming i64->J
open _root_ renaming List->L,Nat->M,UInt8->aL,if_pos->aD,if_neg->ax,Int->Z,rfl->R,Option->aR,decide_eq_true_iff->gO,decide_eq_false->gF,decide_eq_true->kB,congrArg->jz,ByteArray->bT
open List renaming length->ah,getElem_cons_succ->lH,mem_cons->nk,getElem_mem->bN,map_cons->jT,mem_cons_self->jU,mem_cons_of_mem->lJ,getD_eq_getElem?_getD->bQ,getElem?_eq_getElem->bW,length_set->lI,append_nil->lG,append_assoc->cy,foldl_cons->sL,replicate->eP,getElem_of_mem->kY,length_map->fZ,getElem?_map->jS,getElem?_replicate->Ao,range->rA,getElem?_append_right->oB,take_succ_eq_append_getElem->kI,take_length->nS,length_append->bX,drop_zero->EV,length_cons->dA,foldl_nil->vY
open Nat renaming not_lt_zero->ji,zero_add->mL,add_zero->sP,le_refl->bz,zero_le->bG,add_sub_cancel_left->rF,add_assoc->wm,sub_zero->Cz
open Bool renaming true->T,false->F,and_eq_true->jO
open Option renaming none->N,some->S,getD_some->rI
open Int renaming toNat_natCast->dy,add_zero->yx,eq_ofNat_of_zero_le->eX
open Go.Ending renaming returned->aH
open Go renaming World->av,bodyPost_ret->bj
open Go.World renaming grownBy->az,grownBy_alloc->aG,setCell->aK,cell?->aq,frozen?->dx
open Go.World.grownBy renaming refl->aW,trans->pE
open Decidable renaming not_not->Mx
namespace Go.Proofs.YtaldcojpkflgpaaGreatDoor
open Go.RowKit Go.Proofs.Tryz
variable {o:aF} {os:L aF} {st:bC} {i s k q:M} {l:L aL}
theorem X5{a b c:cg}(g:nI a b)(e:nI b c)(h:1<=yy b):nI a c:=by
 unfold nI at *;by_cases f:b.au=a.au
 ·rw[aD f]at g;by_cases d:c.au=b.au
  ·rw[aD d]at e;rw[aD (by omega)];omega
  ·rw[ax d]at e;rw[ax (by omega)];omega
 ·rw[ax f]at g;by_cases d:c.au=b.au
  ·rw[aD d]at e;rw[ax (by omega)];omega
  ·rw[ax d]at e;rw[ax (by omega)];omega
theorem Yk(h:yl o):∀(i j:M) (b:i<ah o.ay) (d:j<ah o.ay),i<j->nI o.ay[i] o.ay[j]:=by
 have g:∀(q:M) (a:q<ah o.ay),1<=yy o.ay[q]:=λq a=>(yW (h.rel q a).2.1).1
 intro i j
 induction j with
 |zero=>intro _ _ c;exact absurd c (ji _)
 |succ j f=>
  intro b d c;have a:nI o.ay[j] o.ay[j+1]:=(h.2.2.2.2 (j+1) d).2 (by omega);by_cases e:i=j
  ·subst e;exact a
  ·exact X5 (f b (by omega) (by omega)) a (g j (by omega))
theorem X4(b a:Z):∀(rs:L cg) (i q:M) (c:q<ah rs),(∀p (c:p<q),¬((rs[p]'(by omega)).au=b/\(rs[p]'(by omega)).off<=a/\a<(rs[p]'(by omega)).off+4*yy (rs[p]'(by omega))))->(rs[q].au=b/\rs[q].off<=a/\a<rs[q].off+4*yy rs[q])->cB b a i rs=(((i+q:M):Z),rs[q]):=by
 intro rs
 induction rs with
 |nil=>intro i q c;exact absurd c (ji _)
 |cons r rs g=>
  intro i q c f e;rw[cB]
  cases q with
  |zero=>
   have d:r.au=b/\r.off<=a/\a<r.off+4*yy r:=e;rw[aD d];rfl
  |succ q=>
   have d:¬(r.au=b/\r.off<=a/\a<r.off+4*yy r):=f 0 (by omega);rw[ax d,g (i+1) q (by simpa using c) (λp c=>f (p+1) (by omega)) e];simp only[lH]
   congr 1
   omega
theorem Jo(h:yl o)(b a:Z)(q:M)(d:q<ah o.ay)(e:o.ay[q].au=b/\o.ay[q].off<=a/\a<o.ay[q].off+4*yy o.ay[q]):cB b a 0 o.ay=((q:Z),o.ay[q]):=by
 have:=X4 b a o.ay 0 q d (λp g c=>by
  have f:=Yk h p q (by omega) d g;unfold nI at f;rw[aD (by omega)]at f;omega) e
 rw[mL]at this;exact this
theorem OJ(f a:Z)(h:(cB f a 0 o.ay).2.kind≠0):∃q,∃g:q<ah o.ay,cB f a 0 o.ay=((q:Z),o.ay[q])/\o.ay[q].au=f/\o.ay[q].off<=a/\a<o.ay[q].off+4*yy o.ay[q]:=by
 have K:∀(d:L cg) (i:M),(cB f a i d).2.kind≠0->∃q,∃g:q<ah d,cB f a i d=(((i+q:M):Z),d[q])/\d[q].au=f/\d[q].off<=a/\a<d[q].off+4*yy d[q]:=by
  intro d
  induction d with
  |nil=>intro i h;exact absurd R h
  |cons r d j=>
   intro i h;rw[cB]at h ⊢;by_cases c:r.au=f/\r.off<=a/\a<r.off+4*yy r
   ·rw[aD c];exact⟨0,by simp,R,c⟩
   ·rw[ax c]at h ⊢;obtain⟨q,g,e,b⟩:=j (i+1) h;refine⟨q+1,by simpa using g,?_,by simpa using b⟩;rw[e];simp only[lH]
    congr 1
    omega
 obtain⟨q,g,e,b⟩:=K o.ay 0 h;rw[mL]at e;exact⟨q,g,e,b⟩
theorem Xy(b:L aI):∀(l:L aI) (k:M),(yP b k l).e=0->∀m∈l,∀r∈m.obj.ay,oE r.kind (fT b m r)=T:=by
 have j:∀(m:aI) (k:M) (a:L cg),oF b m k a=N->∀r∈a,oE r.kind (fT b m r)=T:=by
  intro m k a
  induction a with
  |nil=>intro _ r d;cases d
  |cons r a d=>
   intro h x g;rw[oF]at h;by_cases c:oE r.kind (fT b m r)=T
   ·rw[aD c]at h;rcases nk.1 g with rfl|g
    ·exact c
    ·exact d h x g
   ·rw[ax c]at h;cases h
 have g:∀(m:aI) (k:M) (a:L cg) (f:jv),oF b m k a=S f->f.e≠0:=by
  intro m k a
  induction a with
  |nil=>intro f h;cases h
  |cons r a d=>
   intro f h;rw[oF]at h;split at h
   ·exact d f h
   ·cases h;show (37:Z)≠0;decide
 intro l
 induction l with
 |nil=>intro k _ m a;cases a
 |cons x l d=>
  intro k h m a;rw[yP]at h
  cases e:oF b x k x.obj.ay with
  |some f=>rw[e]at h;exact absurd h (g x k _ f e)
  |none=>
   rw[e]at h;rcases nk.1 a with rfl|a
   ·exact j _ k _ e
   ·exact d (k+1) h m a
section
variable{os:L aF}{bt aj bd:Z}{a ms:L aI}(C:cO os bt aj bd a ms)
include C
theorem cO.Ho(r:aR (M×M))(u:∀p,r=S p->lD os p/\1<=(fu os p.1 p.2).au)(b:Z)(D:-2048<=b/\b<=2047):
  fJ (bg bt aj bd ms) (gN os r b) (bn (fA os (bg bt aj bd ms) r+b))/\dP os (gN os r b)/\(0<=fA os (bg bt aj bd ms) r/\fA os (bg bt aj bd ms) r<=2147483648)/\fA os (bg bt aj bd ms) r%4=0:=by
 cases r with
 |none=>
  refine⟨uS _ _ _ ?_,sT os _,⟨Int.le_refl _,show (0:Z)<=2147483648 by decide⟩,R⟩;show bn (0+b)=bn b;rw[Int.zero_add]
 |some p=>
  obtain⟨⟨f,h⟩,t⟩:=u p R;have V:=C.val os[p.1] (bN f);have z:=(V.2.2.2.1 p.2 h).1;have n:=vP f h;unfold fA gN;dsimp only;rw[n]at t ⊢;generalize os[p.1].aE[p.2]=y at *;obtain⟨-,-,⟨-,G⟩,-,H,K,j⟩:=z;obtain⟨s,v⟩:∃s:M,y.au=(s:Z):=⟨y.au.toNat,by omega⟩
  have A:=Dz V s (by omega) (by omega);have sl:=vN V s;rw[v]at j ⊢;rw[<- A]at j;have x:=C.LW p.1 s (y.off/4).toNat (by omega) (by omega)
  have w:=ul C.gn C.kg ⟨C.tB.1,C.tB.2.1⟩ ⟨C.fL.1,C.fL.2.1⟩ ⟨C.gm.1,C.gm.2.1⟩ p.1 s (y.off/4).toNat (by omega) (by omega)
  rw[dy];refine⟨?_,?_,x,w⟩
  ·by_cases c:(s:Z)=1\/(s:Z)=2
   ·rw[aD c];by_cases d:b≠0
    ·rw[aD d];exact FK R
    ·rw[ax d];refine⟨λe=>absurd (show (2:Z)=0 from e) (by decide),λe=>absurd (show (2:Z)=1 from e) (by decide),λ_=>?_⟩;obtain rfl:b=0:=by omega
     show bn _=(bg bt aj bd ms ((p.1:Z)).toNat ((s:Z)).toNat).getD ((y.off+0)/4).toNat 0;rw[dy,dy,yx,yx,qG (by omega) (by omega)]
   ·rw[ax c];refine⟨λe=>absurd (show (1:Z)=0 from e) (by decide),λ_=>?_,λe=>absurd (show (1:Z)=2 from e) (by decide)⟩;show bn _=bn ((bg bt aj bd ms ((p.1:Z)).toNat ((s:Z)).toNat).getD 0 0+(y.off+b));rw[dy,dy,C.BG p.1 s (y.off/4).toNat f (by omega) (by omega)]
    congr 1
    omega
  ·have g:0<=(p.1:Z)/\(p.1:Z)<ah os:=by omega
   by_cases c:(s:Z)=1\/(s:Z)=2
   ·rw[aD c];by_cases d:b≠0
    ·rw[aD d];exact⟨⟨by show (0:Z)<=3;decide,by show (3:Z)<=3;decide⟩,⟨by show (0:Z)<=0;decide,by show (0:Z)<4294967296;decide⟩,by dsimp only;omega,λe=>absurd (show (3:Z)=1 from e) (by decide),λe=>absurd (show (3:Z)=2 from e) (by decide)⟩
    ·rw[ax d];refine⟨⟨by show (0:Z)<=2;decide,by show (2:Z)<=3;decide⟩,⟨by show (0:Z)<=0;decide,by show (0:Z)<4294967296;decide⟩,by dsimp only;omega,λe=>absurd (show (2:Z)=1 from e) (by decide),λ_=>⟨g,c,?_⟩⟩;show 0<=y.off+b/\y.off+b<=kN os (p.1:Z) (s:Z)/\(y.off+b)%4=0;unfold kN;obtain⟨i,E,B,m,-⟩:=sS g
     have:i=p.1:=by omega
     subst this;rw[m,dy];omega
   ·rw[ax c];exact⟨⟨by show (0:Z)<=1;decide,by show (1:Z)<=3;decide⟩,⟨by show (0:Z)<=0;decide,by show (0:Z)<4294967296;decide⟩,by dsimp only;omega,λ_=>⟨g,by dsimp only;omega,by dsimp only;omega⟩,λe=>absurd (show (1:Z)=2 from e) (by decide)⟩
end
theorem Xx{m b:aI}(h:yl m.obj)(e:yl b.obj)(s:Z)(c:s=3\/s=4):∀(ws:L Z) (i:M) (a:Z),dU m s i ws a=dU b s i ws a/\ff m s i ws a=ff b s i ws a:=by
 intro ws
 induction ws with
 |nil=>intro i a;exact⟨R,R⟩
 |cons w ws d=>
  intro i a;rw[dU,dU,ff,ff,H9 h s c,H9 e s c];exact⟨by rw[(d (i+1) _).1],(d (i+1) _).2⟩
theorem OD(s:M)(t:s=3\/s=4):∀(ms b:L aI) (a:Z),ms.map aI.obj=b.map aI.obj->(∀m∈ms,yl m.obj)->(∀m∈b,yl m.obj)->jg s ms a=jg s b a/\dn s ms a=dn s b a:=by
 intro ms
 induction ms with
 |nil=>
  intro b a e _ _
  cases b with
  |nil=>exact⟨R,R⟩
  |cons x y=>simp at e
 |cons m ms p=>
  intro b a e f c
  cases b with
  |nil=>simp at e
  |cons g b=>
   rw[jT,jT]at e;obtain⟨d,j⟩:=List.cons.inj e;have v:=f m jU;have r:=c g jU;have h:=Xx v r (s:Z) (by omega) (aQ m.obj s) 0 (du a (eJ m s));have n:eJ g s=eJ m s:=by unfold eJ;rw[d]
   rw[jg,jg,dn,dn,<- d,n,<- h.1,<- h.2];have q:=p b (ff m s 0 (aQ m.obj s) (du a (eJ m s))) j (λx b=>f x (lJ _ b)) (λx b=>c x (lJ _ b));exact⟨by rw[q.1],q.2⟩
section
variable{os:L aF}{bt aj bd:Z}{a ms:L aI}(C:cO os bt aj bd a ms)
include C
theorem cO.qL:ms.map aI.obj=a.map aI.obj:=by rw[C.eV.1,C.zO.1]
theorem cO.Uy(i s:M)(b:s=3\/s=4):bg bt aj bd ms i s=bg bt aj bd a i s:=by
 unfold bg;have c:=(OD 3 (.inl R) ms a bd C.qL C.gn C.Nk).2;have d:eD bt aj bd ms s=eD bt aj bd a s:=by
  unfold eD;rcases b with rfl|rfl
  ·rfl
  ·rw[c]
 rw[d,(OD s b ms a _ C.qL C.gn C.Nk).1]
theorem cO.QB(i s k:M)(g:s=1\/s=2)(c:i<ah os)(m:k<=(aQ os[i] s).length):(bg bt aj bd ms i s).getD k 0<=(bg bt aj bd a i s).getD k 0/\(bg bt aj bd a i s).getD k 0-(bg bt aj bd ms i s).getD k 0<=19008:=by
 have e:i<ah ms:=by rw[C.len];exact c
 have p:ah ms=ah a:=by rw[C.len,C.Oc]
 have n:∀j (h:j<ah ms) (b:j<ah a),ms[j].obj=a[j].obj/\∀k,lL a[j].short k=F:=by
  intro j h b;refine⟨?_,λk=>?_⟩
  ·have d:j<ah os:=by rw[<- C.len];exact h
   rw[C.eV.obj j h d,C.zO.obj j b d]
  ·have d:a[j].short=[]:=by
    have:a[j]∈fH os (os.map dV):=by rw[<- C.m0];exact bN b
    exact(Kv os C.val _ this).short
   unfold lL;rw[d];simp
 have d:eD bt aj bd ms s=eD bt aj bd a s:=by
  unfold eD;rcases g with rfl|rfl<;>rfl
 have b:0<=eD bt aj bd ms s/\eD bt aj bd ms s<=1100000000/\eD bt aj bd ms s%4=0:=by
  have t:=C.tB;have f:=C.fL;unfold eD;rcases g with rfl|rfl
  ·rw[aD R];omega
  ·rw[ax (by decide),aD R];omega
 have S:=XC s (by omega) (by omega) (eD bt aj bd ms s) p n C.gn b.1 b.2.1 b.2.2 C.kg i e k (by rw[C.obj i c e];exact m);unfold bg;rw[<- d];exact S
theorem cO.Um(r:aR (M×M))(h:∀p,r=S p->lD os p/\1<=(fu os p.1 p.2).au):fA os (bg bt aj bd ms) r<=fA os (bg bt aj bd a) r/\fA os (bg bt aj bd a) r-fA os (bg bt aj bd ms) r<=19008:=by
 cases r with
 |none=>exact⟨Int.le_refl _,by show (0:Z)-0<=19008;decide⟩
 |some p=>
  obtain⟨⟨b,d⟩,g⟩:=h p R;have V:=C.val os[p.1] (bN b);have m:=(V.2.2.2.1 p.2 d).1;have f:=vP b d;unfold fA;dsimp only;rw[f]at g ⊢;generalize os[p.1].aE[p.2]=y at *;obtain⟨-,-,⟨-,t⟩,-,u,v,e⟩:=m;obtain⟨s,j⟩:∃s:M,y.au=(s:Z):=⟨y.au.toNat,by omega⟩
  have n:=Dz V s (by omega) (by omega);rw[j]at e ⊢;rw[<- n]at e;rw[dy];by_cases c:s=1\/s=2
  ·exact C.QB p.1 s _ c b (by omega)
  ·rw[C.Uy p.1 s (by omega)];omega
theorem cO.Uu(i q:M)(b:i<ah os)(j:q<os[i].ay.length)(g:i<(aS bt aj bd ms).length)(c:lL (aS bt aj bd ms)[i].short q=T):
  os[i].ay[q].kind=4/\-1048576<=fT (aS bt aj bd ms) (aS bt aj bd ms)[i] os[i].ay[q]/\fT (aS bt aj bd ms) (aS bt aj bd ms)[i] os[i].ay[q]<1048576:=by
 have v:i<ah ms:=by rw[C.len];exact b
 have n:i<ah a:=by rw[C.Oc];exact b
 have h:i<(aS bt aj bd a).length:=by rw[sj];exact n
 have E:=(td (bt:=bt) (aj:=aj) (bd:=bd) i v g).2;have y:=C.val os[i] (bN b);have G:ms[i].short=yc (Ej os (bg bt aj bd a)) i os[i].ay.length:=by
  have m:=U4 C.zO C.val i b h (bt:=bt) (aj:=aj) (bd:=bd);have d:(aS bt aj bd a)[i].obj=os[i]:=(C.zO.lay bt aj bd).obj i h b;rw[<- m,<- d];have e:ms[i]=(fU (aS bt aj bd a))[i]'(by rw[<- C.m1];exact v):=by simp only[<- C.m1]
  rw[e];simp[fU]
 rw[E,G]at c;unfold lL at c;rw[jO,dy,bQ,bW (by rw[MC];exact j),rI,MB]at c;have f:=c.2;unfold Ej at f;rw[jO,jO,gO,gO,gO,DJ b j]at f;obtain⟨B,t,u⟩:=f;refine⟨B,?_⟩;rw[Ib C.eV C.val i q b g j (by omega)];have m:=y.rel q j;have d:=m.2.2.1;unfold pu at d;rw[ax (by omega)]at d;have D:=m.1;unfold lz at D;obtain⟨K,O,z⟩:=m.2.2.2.2.1;have Q:=yW m.2.1;obtain⟨x,r⟩:=eX d.1
 have A:=C.Um (dL os i x) (λp c=>DG C.val ⟨b,show x<os[i].aE.length by omega⟩ c);obtain⟨s,w⟩:∃s:M,os[i].ay[q].au=(s:Z):=⟨os[i].ay[q].au.toNat,by omega⟩
 have H:yp os[i] os[i].ay[q].au=aQ os[i] s:=by rw[w,me _ s (by omega)]
 rw[H]at z;have P:=C.QB i s (os[i].ay[q].off/4).toNat (by omega) b (by omega);unfold Ac Eb Ei at t u ⊢;rw[DJ b j,r,w,dy,dy]at t u ⊢;omega
end
structure rJ (os:L aF) (bt aj bd:Z) (ms:L aI) (S:bJ) (st:bC) (i s k q:M) (hi:i<os.length) (hq:q<os[i].ay.length):Prop where
 at_:Bo os bt aj bd ms S st i s k hi
 au:os[i].ay[q].au=(s:Z)
 off:os[i].ay[q].off=4*(k:Z)
 fits:k+(yy os[i].ay[q]).toNat<=(aQ os[i] s).length
 ok:pq os[i] os[i].ay[q]
 val:yl os[i]
theorem eA.rel{bt aj bd:Z}{ms:L aI}{S:bJ}{c:i<ah os}(a:Bo os bt aj bd ms S st i s k c)(n:∀o∈os,yl o)(j:(lj os S.pc).kind≠0)(d:S.pc.off=(lj os S.pc).off):
  ∃q,∃b:q<os[i].ay.length,rJ os bt aj bd ms S st i s k q c b/\lj os S.pc=os[i].ay[q]:=by
 rw[a.about]at j d ⊢;obtain⟨q,b,e,h,u,v⟩:=OJ (s:Z) (4*(k:Z)) j;rw[e]at d ⊢;dsimp only at d;have g:=n os[i] (bN c);have f:=g.rel q b;obtain⟨r,t,m⟩:=f.2.2.2.2.1;have p:=a.off;have w:=a.hs;have x:=yW f.2.1;rw[h,<- me _ s (by omega)]at m;exact⟨q,b,⟨a,h,by omega,by omega,f,g⟩,R⟩
section
variable{os:L aF}{bt aj bd:Z}{ms:L aI}{a:bJ}{st:bC}{i s k q:M}{hi:i < os.length}{b:q < os[i].ay.length}(r:rJ os bt aj bd ms a st i s k q hi b)
include r
theorem rJ.Il(j:M)(c:j<(yy os[i].ay[q]).toNat):cB s (4*((k+j:M):Z)) 0 os[i].ay=((q:Z),os[i].ay[q]):=by
 have e:=yW r.ok.2.1;have d:=r.off;exact Jo r.val s _ q b ⟨r.au,by omega,by omega⟩
theorem rJ.word(j:M)(c:j<(yy os[i].ay[q]).toNat):(Go.Proofs.YtaldcojpkflgpaaGreatDoor.about os[i] os[i].ay[q]).getD j 0=(aQ os[i] s).getD (k+j) 0:=by
 have d:=r.at_.hs;have e:=r.off;unfold Go.Proofs.YtaldcojpkflgpaaGreatDoor.about;rw[r.au,<- me _ s (by omega),bQ,List.getElem?_take,aD c,List.getElem?_drop,show (os[i].ay[q].off/4).toNat=k by omega,<- bQ]
theorem rJ.BM(j:M)(d:k+j<(aQ os[i] s).length):0<=(aQ os[i] s).getD (k+j) 0/\(aQ os[i] s).getD (k+j) 0<=4294967295:=by
 have e:=r.at_.hs;have c:=AP r.val (s:Z);rw[<- me _ s (by omega)]at c;rw[bQ,bW d];exact c _ (bN _)
end
section
variable{os:L aF}{bt aj bd:Z}{b ms:L aI}(C:cO os bt aj bd b ms)
include C
theorem cO.BH{S:bJ}{c:i<ah os}{x:q<os[i].ay.length}(r:rJ os bt aj bd ms S st i s k q c x)(d:i<(aS bt aj bd ms).length)(j:M)(w:j<(yy os[i].ay[q]).toNat)
  (g:∀a,(if os[i].ay[q].kind=6 then !decide (du a (os[i].ay[q].bh+4)=a)else if os[i].ay[q].kind=4 then decide (j=0) || !lL (aS bt aj bd ms)[i].short q else T)=T) :
  (bg bt aj bd ms i s).getD (k+j+1) 0=(bg bt aj bd ms i s).getD (k+j) 0+4/\fi (bS os ms bt aj bd) ((bg bt aj bd ms i s).getD (k+j) 0)=some (qD (aS bt aj bd ms) (aS bt aj bd ms)[i] q os[i].ay[q] (4*((k+j:M):Z)) ((aQ os[i] s).getD (k+j) 0)):=by
 have f:i<ah ms:=by rw[C.len];exact c
 have n:=C.obj i c f;have y:=r.at_.hs;have B:=r.fits;have A:=r.off;have h:k+j<(aQ os[i] s).length:=by omega
 have p:=td (bt:=bt) (aj:=aj) (bd:=bd) i f d;have u:=r.Il j w;have m:eQ ms[i] s (4*((k+j:M):Z)) ((bg bt aj bd ms i s).getD (k+j) 0)=T:=by
  have q:=g ((bg bt aj bd ms i s).getD (k+j) 0);unfold eQ;rw[n,u];dsimp only;rw[p.2]at q;rw[A];have e:decide (4*((k+j:M):Z)=4*(k:Z))=decide (j=0):=decide_eq_decide.2 (by omega);rw[e];exact q
 have t:=C.DX i s (k+j) c h f;rw[m,aD R]at t;have v:=C.Hp i s (k+j) c y h d (by omega);have z:(aS bt aj bd ms)[i].obj=os[i]:=p.1.trans n;refine⟨t,?_⟩;rw[v];unfold iZ;rw[z,u,bQ (l:=aQ os[i] s),bW h];rfl
theorem cO.Hj{S:bJ}{e:i<ah os}{h:q<os[i].ay.length}(r:rJ os bt aj bd ms S st i s k q e h)(f:i<(aS bt aj bd ms).length)(g:os[i].ay[q].kind≠6):
  fT (aS bt aj bd ms) (aS bt aj bd ms)[i] os[i].ay[q]=fA os (bg bt aj bd ms) (dL os i os[i].ay[q].sym.toNat)-st.pc/\jK (aS bt aj bd ms) (aS bt aj bd ms)[i] os[i].ay[q]=fA os (bg bt aj bd ms) (dL os i os[i].ay[q].sym.toNat) /\
  (fJ (bg bt aj bd ms) (gN os (dL os S.pc.part.toNat os[i].ay[q].sym.toNat) os[i].ay[q].bh) (bn (fA os (bg bt aj bd ms) (dL os i os[i].ay[q].sym.toNat)+os[i].ay[q].bh))/\dP os (gN os (dL os S.pc.part.toNat os[i].ay[q].sym.toNat) os[i].ay[q].bh))/\(0<=fA os (bg bt aj bd ms) (dL os i os[i].ay[q].sym.toNat)/\fA os (bg bt aj bd ms) (dL os i os[i].ay[q].sym.toNat)<=2147483648)/\fA os (bg bt aj bd ms) (dL os i os[i].ay[q].sym.toNat)%4=0/\st.pc%4=0:=by
 have a:=r.ok.2.2.1;unfold pu at a;rw[ax g]at a;obtain⟨j,d⟩:=eX a.1;have m:j<os[i].aE.length:=by omega
 have w:=r.at_.hs;have v:=r.off;have D:=Ib C.eV C.val i q e f h g (bt:=bt) (aj:=aj) (bd:=bd);have n:=Ig C.eV C.val i e f os[i].ay[q] j d m (bt:=bt) (aj:=aj) (bd:=bd);have t:-2048<=os[i].ay[q].bh/\os[i].ay[q].bh<=2047:=by
  have:=r.ok.2.1
  unfold fX at this;by_cases c:os[i].ay[q].kind=1\/os[i].ay[q].kind=5
  ·rw[aD c]at this;exact this
  ·rw[ax c,ax g]at this;omega
 have V:=C.Ho (dL os i j) (λp a=>DG C.val ⟨e,m⟩ a) os[i].ay[q].bh t;have u:=ul C.gn C.kg ⟨C.tB.1,C.tB.2.1⟩ ⟨C.fL.1,C.fL.2.1⟩ ⟨C.gm.1,C.gm.2.1⟩ i s k (by omega) (by omega);rw[r.at_.part,dy,d,dy];rw[r.at_.pc];refine⟨?_,n,⟨V.1,V.2.1⟩,V.2.2.1,V.2.2.2,u⟩;rw[D];unfold Ac Eb Ei;rw[DJ e h,d,r.au,v,dy,dy,show (4*(k:Z)/4).toNat=k by omega]
end
theorem eA.ZG{bt aj bd:Z}{ms:L aI}{S:bJ}(h:eA os bt aj bd ms S st)(r:Z)(e:0<=r)(f:r<32):eA os bt aj bd ms (dH r bV S) st:=by
 unfold dH;by_cases c:r=0
 ·rw[aD c];exact h
 rw[ax c];have a:=h.rl;refine⟨λq b=>?_,⟨by rw[lI];exact a.1,a.2⟩,h.rw,⟨h.r0.1,?_⟩,h.pc,h.dl,h.uY,h.rows,h.mem,h.o,h.read,h.aU⟩
 ·by_cases d:q=r.toNat
  ·subst d;rw[xM _ _ _ _ (by omega)];exact⟨Bt _ _,wA os⟩
  ·rw[wy _ _ _ _ _ (λc=>d c.symm)];exact h.bM q b
 ·rw[wy _ _ _ _ _ (by omega)];exact h.r0.2
section
variable{os:L aF}{bt aj bd:Z}{b ms:L aI}(C:cO os bt aj bd b ms)
include C
theorem cO.reaches(i q:M)(c:i<ah os)(e:q<os[i].ay.length)(a:i<(aS bt aj bd ms).length):oE os[i].ay[q].kind (fT (aS bt aj bd ms) (aS bt aj bd ms)[i] os[i].ay[q])=T:=by
 have d:i<ah ms:=by rw[C.len];exact c
 have f:(aS bt aj bd ms)[i].obj=os[i]:=(td i d a).1.trans (C.obj i c d);exact Xy (aS bt aj bd ms) (aS bt aj bd ms) 0 C.reach _ (bN a) _ (by rw[f];exact bN e)
theorem cO.zU(i:M)(a:i<ah os):i<(aS bt aj bd ms).length:=by rw[sj,C.len];exact a
theorem cO.Un{S:bJ}{v:i<ah os}{A:q<os[i].ay.length}(h:eA os bt aj bd ms S st)(r:rJ os bt aj bd ms S st i s k q v A)(p:os[i].ay[q].kind=2)(ins:L Z)(y:Z):
  mN os bt aj bd ms ins st S (mu os os[i].ay[q] ((aQ os[i] s).getD k 0) y S):=by
 have d:=C.zU i v;have E:(yy os[i].ay[q]).toNat=1:=by unfold yy;rw[ax (by omega),ax (by omega)];rfl
 obtain⟨x,m⟩:=C.BH r d 0 (by omega) (λa=>by rw[ax (by omega),ax (by omega)]);obtain⟨D,-,⟨V,K⟩,W,U,I⟩:=C.Hj r d (by omega);have g:=r.ok.2.2.2.2.2.1;unfold ey at g;rw[ax (by omega),aD p,r.word 0 (by omega)]at g;have X:=r.fits;have c:=r.BM 0 (by omega);have z:=C.reaches i q v A d;rw[D]at z;unfold oE at z;rw[aD p,jO,gO,gO]at z;have B:os[i].ay[q].bh=0:=by
  have:=r.ok.2.1
  unfold fX at this;rw[ax (by omega),ax (by omega)]at this;exact this
 simp only[sP]at x m g c;unfold qD at m;rw[ax (by omega),aD (.inl p),D,<- r.at_.pc]at m;rw[<- r.at_.pc]at x;obtain⟨F,H⟩:=OT c.1 c.2 g (n:=fA os (bg bt aj bd ms) (dL os i os[i].ay[q].sym.toNat)-st.pc) (by omega) (by omega) (by omega);have w:=wC (ins:=ins) m H;have P:=DQ (aP ((aQ os[i] s).getD k 0)) _ c.1 c.2;have Q:=DR (aP ((aQ os[i] s).getD k 0)) _ c.1 c.2;have O:=C.wO r.at_ h.pc.2.1 1 (by omega) 4 rfl;rw[x]at O;have u:eA os bt aj bd ms S {st with steps:=st.steps+1,next:=bn (st.pc+4)}:=h.same _ st.code (st.steps+1)
 have f:=u.mQ (r:=bR (aP ((aQ os[i] s).getD k 0)) ((aQ os[i] s).getD k 0)) (by omega) (by omega);have j:=u.mQ (r:=dW (aP ((aQ os[i] s).getD k 0)) ((aQ os[i] s).getD k 0)) (by omega) (by omega);rw[O1 _ _ _ _ _ _ _ _ (by omega)]at w;unfold mu;rw[ax (by omega),aD p];by_cases t:(lP os (cz ((aQ os[i] s).getD k 0)) (bU S (bR (aP ((aQ os[i] s).getD k 0)) ((aQ os[i] s).getD k 0))) (bU S (dW (aP ((aQ os[i] s).getD k 0)) ((aQ os[i] s).getD k 0)))).2=T
 ·rw[aD t];have G:=C.goes f.1 j.1 f.2.1 j.2.1 _ (by omega) t;rw[<- G]at w;refine .inl ⟨h.aU.1,1,by omega,_,kM.one h.aU.2,?_⟩;rw[w]
  cases Y:(lP os (cz ((aQ os[i] s).getD k 0)) (bU S (bR (aP ((aQ os[i] s).getD k 0)) ((aQ os[i] s).getD k 0))) (bU S (dW (aP ((aQ os[i] s).getD k 0)) ((aQ os[i] s).getD k 0)))).1 with
  |true=>
   rw[aD R];unfold sO;rw[aD R];have e:bn (st.pc+(fA os (bg bt aj bd ms) (dL os i os[i].ay[q].sym.toNat)-st.pc))=bn (fA os (bg bt aj bd ms) (dL os i os[i].ay[q].sym.toNat)+os[i].ay[q].bh):=by congr 1;omega
   exact(h.same (bn (st.pc+(fA os (bg bt aj bd ms) (dL os i os[i].ay[q].sym.toNat)-st.pc))) st.code (st.steps+1)).tp (by dsimp only;rw[e];exact V) K (mo _)
  |false=>
   rw[ax (by decide)];exact u.tp (by dsimp only;rw[qG O.2.2.1 O.2.2.2];exact O.1) O.2.1 (mo _)
 ·rw[ax t];exact mN.zK S R R
theorem cO.WR{S:bJ}{m:i<ah os}{w:q<os[i].ay.length}(h:eA os bt aj bd ms S st)(r:rJ os bt aj bd ms S st i s k q m w)(j:os[i].ay[q].kind=3)(ins:List Z)(y:Z):
  mN os bt aj bd ms ins st S (mu os os[i].ay[q] ((aQ os[i] s).getD k 0) y S):=by
 have d:=C.zU i m;have B:(yy os[i].ay[q]).toNat=1:=by unfold yy;rw[ax (by omega),ax (by omega)];rfl
 obtain⟨t,f⟩:=C.BH r d 0 (by omega) (λa=>by rw[ax (by omega),ax (by omega)]);obtain⟨D,-,⟨V,K⟩,H,G,U⟩:=C.Hj r d (by omega);have g:=r.ok.2.2.2.2.2.1;unfold ey at g;rw[ax (by omega),ax (by omega),aD j,r.word 0 (by omega)]at g;have P:=r.fits;have c:=r.BM 0 (by omega);have u:=C.reaches i q m w d;rw[D]at u;unfold oE at u;rw[ax (by omega),aD j,jO,gO,gO]at u;have z:os[i].ay[q].bh=0:=by
  have:=r.ok.2.1
  unfold fX at this;rw[ax (by omega),ax (by omega)]at this;exact this
 simp only[sP]at t f g c;unfold qD at f;rw[ax (by omega),aD (.inr j),D,<- r.at_.pc]at f;rw[<- r.at_.pc]at t;obtain⟨Q,E⟩:=XN c.1 c.2 g (n:=fA os (bg bt aj bd ms) (dL os i os[i].ay[q].sym.toNat)-st.pc) (by omega) (by omega) (by omega);have p:=wC (ins:=ins) f E;have R:=uT (aP ((aQ os[i] s).getD k 0)) _ c.1 c.2;have O:=C.wO r.at_ h.pc.2.1 1 (by omega) 4 rfl;rw[t]at O;have A:eA os bt aj bd ms S {st with steps:=st.steps+1,next:=bn (st.pc+4)}:=h.same _ st.code (st.steps+1);have L:=A.put (r:=bF (aP ((aQ os[i] s).getD k 0)) ((aQ os[i] s).getD k 0)) (by omega) (by omega) (v:=dI S 4) (x:=st.pc+4) (by rw[qG O.2.2.1 O.2.2.2];exact O.1) O.2.1
 rw[show (((3:M):Z))=3 from rfl,OH]at p;unfold tP at p;unfold mu;rw[ax (by omega),ax (by omega),aD j];refine .inl ⟨L.aU.1,1,by omega,_,kM.one h.aU.2,?_⟩;rw[p];have e:bn (st.pc+(fA os (bg bt aj bd ms) (dL os i os[i].ay[q].sym.toNat)-st.pc))=bn (fA os (bg bt aj bd ms) (dL os i os[i].ay[q].sym.toNat)+os[i].ay[q].bh):=by congr 1;omega
 exact(L.same (bn (st.pc+(fA os (bg bt aj bd ms) (dL os i os[i].ay[q].sym.toNat)-st.pc))) _ _).tp (by dsimp only;rw[e];exact V) K (mo _)
end
theorem X6{a t:Z}(h:bn a=bn t)(b:t%4=0):bn (a-a%2)=bn t:=by
 unfold bn at *;omega
theorem Ju(r:Z)(v p:bD)(S:bJ):dH r v (eB p S)=eB p (dH r v S):=by
 unfold dH;split<;>rfl
theorem Ox{r:Z}(a:0<r)(b:r<32)(v:Z)(st:bC)(c:ah st.bM=32):bH (eu r v st) r=bn v:=by
 have e:r%32=r:=by omega
 unfold bH eu;rw[e,ax (by omega)];exact xM _ _ _ _ (by omega)
section
variable{os:L aF}{bt aj bd:Z}{b ms:L aI}(C:cO os bt aj bd b ms)
include C
theorem cO.VP{S:bJ}{y:i<ah os}{hq:q<os[i].ay.length}(h:eA os bt aj bd ms S st)(r:rJ os bt aj bd ms S st i s k q y hq)(m:os[i].ay[q].kind=4)(ins:List Z):
  mN os bt aj bd ms ins st S (mu os os[i].ay[q] ((aQ os[i] s).getD k 0) ((aQ os[i] s).getD (k+1) 0) S):=by
 have c:=C.zU i y;have H:i<ah ms:=by rw[C.len];exact y
 have lo:(aS bt aj bd ms)[i].obj=os[i]:=(td i H c).1.trans (C.obj i y H);have sp2:(yy os[i].ay[q]).toNat=2:=by unfold yy;rw[aD (.inl m)];rfl
 obtain⟨D,-,⟨V,K⟩,ar,a4,p4⟩:=C.Hj r c (by omega);have g:=r.ok.2.2.2.2.2.1;unfold ey at g;rw[ax (by omega),ax (by omega),ax (by omega),aD (.inl m),r.word 0 (by omega),r.word 1 (by omega)]at g;obtain⟨F,I,g3⟩:=g;rw[aD m]at g3;obtain⟨Q,gs⟩:=g3;have ft:=r.fits;have j:=r.BM 0 (by omega);have w:=r.BM 1 (by omega);have X:os[i].ay[q].bh=0:=by
  have:=r.ok.2.1
  unfold fX at this;rw[ax (by omega),ax (by omega)]at this;exact this
 obtain⟨B,f⟩:=C.BH r c 0 (by omega) (λa=>by rw[ax (by omega),aD m];rfl);simp only[sP]at B f F I Q j;unfold qD at f;rw[ax (by omega),ax (by omega),aD m,<- r.at_.pc]at f;rw[<- r.at_.pc]at B;have A:=C.wO r.at_ h.pc.2.1 1 (by omega) 4 rfl;rw[B]at A;have p:=C.wO r.at_ h.pc.2.1 2 (by omega) 8 rfl;have Xo:=uT (aP ((aQ os[i] s).getD k 0)) _ j.1 j.2;have Jl:=uT (aP ((aQ os[i] s).getD (k+1) 0)) _ w.1 w.2;have J:eA os bt aj bd ms S {st with steps:=st.steps+1,next:=bn (st.pc+4)}:=h.same _ st.code (st.steps+1);have wn:bn (st.pc+4)=st.pc+4:=qG A.2.2.1 A.2.2.2
 unfold mu;rw[ax (by omega),ax (by omega),ax (by omega),aD m];by_cases z:lL (aS bt aj bd ms)[i].short q=true
 ·-- short: one ai7
  rw[aD z]at f;obtain⟨-,G,O⟩:=C.Uu i q y hq c z;rw[D]at G O;have N:(Go.Proofs.YtaldcojpkflgpaaGreatDoor.about (aS bt aj bd ms)[i].obj os[i].ay[q]).getD 1 0=(aQ os[i] s).getD (k+1) 0:=by rw[lo];exact r.word 1 (by omega)
  unfold yO at f;rw[N,D,zz (by omega)]at f;have W:=SO (bF (aP ((aQ os[i] s).getD (k+1) 0)) ((aQ os[i] s).getD (k+1) 0)).toNat (fA os (bg bt aj bd ms) (dL os i os[i].ay[q].sym.toNat)-st.pc) Jl.2 G O (by omega);rw[Jl.1]at W;have u:=wC (ins:=ins) f W;rw[show (((3:M):Z))=3 from R,OH]at u;unfold tP at u
  -- the Bu word is left out
  have T:=r.Il 1 (by omega);have d:(bg bt aj bd ms i s).getD (k+2) 0=st.pc+4:=by
   have P:=C.DX i s (k+1) y (by omega) H;have E:eQ ms[i] s (4*((k+1:M):Z)) ((bg bt aj bd ms i s).getD (k+1) 0)=false:=by
    unfold eQ;rw[C.obj i y H,T];dsimp only;rw[ax (by omega),aD m,<- (td (bt:=bt) (aj:=aj) (bd:=bd) i H c).2,z,gF (by have:=r.off;omega)];rfl
   rw[E,ax (by decide),B]at P;exact P
  rw[d]at p;have U:=J.ZG (bF (aP ((aQ os[i] s).getD k 0)) ((aQ os[i] s).getD k 0)) (by omega) (by omega);have L:=U.put (r:=bF (aP ((aQ os[i] s).getD (k+1) 0)) ((aQ os[i] s).getD (k+1) 0)) (by omega) (by omega) (v:=dI S 8) (x:=st.pc+4) (by rw[wn];exact p.1) p.2.1;refine .inl ⟨L.aU.1,1,by omega,_,kM.one h.aU.2,?_⟩;rw[u];have e:bn (st.pc+(fA os (bg bt aj bd ms) (dL os i os[i].ay[q].sym.toNat)-st.pc))=bn (fA os (bg bt aj bd ms) (dL os i os[i].ay[q].sym.toNat)+os[i].ay[q].bh):=by congr 1;omega
  exact(L.same (bn (st.pc+(fA os (bg bt aj bd ms) (dL os i os[i].ay[q].sym.toNat)-st.pc))) _ _).tp (by dsimp only;rw[e];exact V) K (mo _)
 ·-- long: aif, ah0
  rw[ax z,kB r.off.symm]at f;obtain⟨Du,G⟩:=C.BH r c 1 (by omega) (λa=>by
   rw[ax (by omega),aD m];simp only[Bool.not_eq_true]at z;rw[z];rfl)
  unfold qD at G;rw[ax (by omega),ax (by omega),aD m,ax z,gF (by have:=r.off;omega),B]at G;rw[show k+1+1=k+2 from R,B]at Du;rw[Du]at p;unfold uO at f G;rw[aD R,D]at f;rw[ax (by decide),D]at G;obtain⟨-,T⟩:=Yi j.1 j.2 Q (n:=ir (fA os (bg bt aj bd ms) (dL os i os[i].ay[q].sym.toNat)-st.pc));rw[O0]at T;have O:=zy w.1 w.2;have W:cz ((aQ os[i] s).getD k 0)=2:=by have:=((zy j.1 j.2).2.2.2.1.2 Q).1;omega
  have d:aP ((aQ os[i] s).getD k 0)=1:=tV W;have E:cz ((aQ os[i] s).getD (k+1) 0)=4:=by have:=(O.2.2.2.2.1.2 gs).1;omega
  have lr:=OW (fA os (bg bt aj bd ms) (dL os i os[i].ay[q].sym.toNat)-st.pc);have P:=Jq w.1 w.2 (.inl R) E lr.1 lr.2;have N:bR (aP ((aQ os[i] s).getD (k+1) 0)) ((aQ os[i] s).getD (k+1) 0)=bF (aP ((aQ os[i] s).getD k 0)) ((aQ os[i] s).getD k 0):=by
   have u:aP ((aQ os[i] s).getD (k+1) 0)=3:=tV E;rw[d,u,yU _ 3 w.1 w.2 (by omega),uC _ 1 j.1 j.2 (by omega)];exact I
  have ZC:bF (aP ((aQ os[i] s).getD k 0)) ((aQ os[i] s).getD k 0)≠0:=by
   rw[d,uC _ 1 j.1 j.2 (by omega)];exact F
  rw[N]at P;have u:=wC (ins:=ins) f T;rw[show (((2:M):Z))=2 from R,OG]at u;dsimp only at u;clear W d E O N Q gs F I;generalize bF (aP ((aQ os[i] s).getD k 0)) ((aQ os[i] s).getD k 0)=E at *;generalize bF (aP ((aQ os[i] s).getD (k+1) 0)) ((aQ os[i] s).getD (k+1) 0)=ry at *;generalize fA os (bg bt aj bd ms) (dL os i os[i].ay[q].sym.toNat)=d at *;have P1:=J.put (r:=E) (by omega) (by omega) (v:=bV) (x:=ir (d-st.pc)*4096+st.pc) (Bt _ _) (wA os);have rg:=Ox (r:=E) (by omega) (by omega) (ir (d-st.pc)*4096+st.pc) {st with steps:=st.steps+1,next:=bn (st.pc+4)} J.rl.2
  have kn:=DP E (ir (d-st.pc)*4096+st.pc) {st with steps:=st.steps+1,next:=bn (st.pc+4)};generalize eu E (ir (d-st.pc)*4096+st.pc) {st with steps:=st.steps+1,next:=bn (st.pc+4)}=Y at *;have W:Y.next=st.pc+4:=kn.1.trans wn;have N:=P1.tp (v:=dI S 4) (by rw[W];exact A.1) A.2.1 (by rw[W];exact A.2.2);have O:=wC (ins:=ins) (st:={Y with pc:=Y.next}) (by show fi _ Y.next=_;rw[W];exact G) P;rw[show (((4:M):Z))=4 from R,OI]at O;have re:bH {Y with pc:=Y.next,next:=bn (Y.next+4),steps:=Y.steps+1} E=bH Y E:=R;dsimp only at O
  rw[re,rg]at O;unfold tP at O;have w8:bn (Y.next+4)=st.pc+4+4:=by rw[W];exact qG p.2.2.1 p.2.2.2
  have L:=(N.same (bn (Y.next+4)) Y.code (Y.steps+1)).put (r:=ry) (by omega) (by omega) (v:=dI S 8) (x:=Y.next+4) (by rw[w8];exact p.1) p.2.1;have pt:=O4 (d-st.pc) st.pc;have ev:=X6 (t:=d) (pt.trans (by congr 1;omega)) a4;have et:bn d=bn (d+os[i].ay[q].bh):=by rw[X,yx]
  rw[Ju]at L;refine .inl ⟨L.aU.1,2,by omega,_,⟨h.aU.2,kM.one (by rw[u];exact N.aU.2)⟩,?_⟩;rw[u,O];exact(L.same (bn (bn (ir (d-st.pc)*4096+st.pc)+jN (d-st.pc)-(bn (ir (d-st.pc)*4096+st.pc)+jN (d-st.pc))%2)) _ _).tp (by dsimp only;rw[ev,et];exact V) K (mo _)
end
theorem XY(r:Z)(v:bD)(S:bJ)(n:Z):dI (dH r v S) n=dI S n:=by unfold dI;rw[(Js r v S).1]
theorem XW(v x p:bD)(S:bJ):mM v x (eB p S)=eB p (mM v x S):=by
 unfold mM;split<;>rfl
theorem XM(os:L aF)(v x p:bD)(S:bJ):iH os v x (eB p S)=eB p (iH os v x S):=by
 unfold iH;rw[XW]
 repeat' split
 all_goals rfl
theorem Xu(v:Z):bn (bn (ir v*4096)+jN v)=bn v:=by
 have:=O4 v 0
 rw[yx,Int.zero_add]at this;exact this
section
variable{os:L aF}{bt aj bd:Z}{b ms:L aI}(C:cO os bt aj bd b ms)
include C
theorem cO.Vr{S:bJ}{hi:i<ah os}{hq:q<os[i].ay.length}(h:eA os bt aj bd ms S st)(r:rJ os bt aj bd ms S st i s k q hi hq)(U:os[i].ay[q].kind=5)(ins:List Z):
  mN os bt aj bd ms ins st S (mu os os[i].ay[q] ((aQ os[i] s).getD k 0) ((aQ os[i] s).getD (k+1) 0) S):=by
 have E:=C.zU i hi;have sp2:(yy os[i].ay[q]).toNat=2:=by unfold yy;rw[aD (.inr U)];rfl
 obtain⟨-,O6,⟨V,K⟩,ar,a4,p4⟩:=C.Hj r E (by omega);have g:=r.ok.2.2.2.2.2.1;unfold ey at g;rw[ax (by omega),ax (by omega),ax (by omega),aD (.inr U),r.word 0 (by omega),r.word 1 (by omega)]at g;obtain⟨g1,g2,g3⟩:=g;rw[ax (by omega)]at g3;obtain⟨Qj,gs⟩:=g3;have ft:=r.fits;have A:=r.BM 0 (by omega);have u:=r.BM 1 (by omega);obtain⟨I,O⟩:=C.BH r E 0 (by omega) (λa=>by rw[ax (by omega),ax (by omega)]);obtain⟨Du,Q⟩:=C.BH r E 1 (by omega) (λa=>by rw[ax (by omega),ax (by omega)]);simp only[sP]at I O g1 g2 Qj A;unfold qD at O Q
 rw[<- r.at_.pc]at I;rw[ax (by omega),ax (by omega),ax (by omega),aD U,kB r.off.symm,<- r.at_.pc,O6]at O;rw[ax (by omega),ax (by omega),ax (by omega),aD U,gF (by have:=r.off;omega),I,O6]at Q;rw[show k+1+1=k+2 from R,I]at Du;unfold uO at O Q;rw[aD R]at O;rw[ax (by decide)]at Q;have G:=C.wO r.at_ h.pc.2.1 1 (by omega) 4 rfl;rw[I]at G;have H:=C.wO r.at_ h.pc.2.1 2 (by omega) 8 rfl;rw[Du]at H;have Xo:=uT (aP ((aQ os[i] s).getD k 0)) _ A.1 A.2;have Jl:=uT (aP ((aQ os[i] s).getD (k+1) 0)) _ u.1 u.2
 have R2:=DR (aP ((aQ os[i] s).getD (k+1) 0)) _ u.1 u.2;have hX:eA os bt aj bd ms S {st with steps:=st.steps+1,next:=bn (st.pc+4)}:=h.same _ st.code (st.steps+1);have wn:bn (st.pc+4)=st.pc+4:=qG G.2.2.1 G.2.2.2;unfold mu;rw[ax (by omega),ax (by omega),ax (by omega),ax (by omega),aD U];generalize gN os (dL os S.pc.part.toNat os[i].ay[q].sym.toNat) os[i].ay[q].bh=f at *;generalize fA os (bg bt aj bd ms) (dL os i os[i].ay[q].sym.toNat)+os[i].ay[q].bh=m at *;obtain⟨o1,N7⟩:=XO A.1 A.2 Qj (n:=ir m);rw[O0]at N7;have f1:aP ((aQ os[i] s).getD k 0)=1:=tV o1
 have F2:=zy u.1 u.2;have P:=OW m;have o2:(cz ((aQ os[i] s).getD (k+1) 0)=13\/cz ((aQ os[i] s).getD (k+1) 0)=11)\/cz ((aQ os[i] s).getD (k+1) 0)=12:=by
  rcases gs with g|g|g
  ·have:=(F2.2.2.2.2.2.2.2.1.2 g).1;left;left;omega
  ·have:=(F2.2.2.2.2.2.1.2 g).1;left;right;omega
  ·have:=(F2.2.2.2.2.2.2.1.2 g).1;right;omega
 have rs:bR (aP ((aQ os[i] s).getD (k+1) 0)) ((aQ os[i] s).getD (k+1) 0)=bF (aP ((aQ os[i] s).getD k 0)) ((aQ os[i] s).getD k 0):=by
  have d:aP ((aQ os[i] s).getD (k+1) 0)=3\/aP ((aQ os[i] s).getD (k+1) 0)=5:=by
   rcases o2 with (o|o)|o
   ·left;rw[tV o];rfl
   ·left;rw[tV o];rfl
   ·right;rw[tV o];rfl
  rw[f1,uC _ 1 A.1 A.2 (by omega),yU _ _ u.1 u.2 (by omega)];exact g2
 have ZC:bF (aP ((aQ os[i] s).getD k 0)) ((aQ os[i] s).getD k 0)≠0:=by
  rw[f1,uC _ 1 A.1 A.2 (by omega)];exact g1
 have Hb:=wC (ins:=ins) O N7;rw[show (((1:M):Z))=1 from R,OE]at Hb;dsimp only at Hb;have P1:=hX.put (r:=bF (aP ((aQ os[i] s).getD k 0)) ((aQ os[i] s).getD k 0)) (by omega) (by omega) (v:=bV) (x:=ir m*4096) (Bt _ _) (wA os);have rg:=Ox (r:=bF (aP ((aQ os[i] s).getD k 0)) ((aQ os[i] s).getD k 0)) (by omega) (by omega) (ir m*4096) {st with steps:=st.steps+1,next:=bn (st.pc+4)} hX.rl.2;have kn:=DP (bF (aP ((aQ os[i] s).getD k 0)) ((aQ os[i] s).getD k 0)) (ir m*4096) {st with steps:=st.steps+1,next:=bn (st.pc+4)};generalize eu (bF (aP ((aQ os[i] s).getD k 0)) ((aQ os[i] s).getD k 0)) (ir m*4096) {st with steps:=st.steps+1,next:=bn (st.pc+4)}=Y at *
 have N:=λ(o:cz ((aQ os[i] s).getD (k+1) 0)=13)=>Jq u.1 u.2 (.inr (.inr R)) o P.1 P.2
 have T:=λ(o:cz ((aQ os[i] s).getD (k+1) 0)=11)=>Jq u.1 u.2 (.inr (.inl R)) o P.1 P.2
 have QE:=λ(o:cz ((aQ os[i] s).getD (k+1) 0)=12)=>XQ u.1 u.2 o P.1 P.2
 rw[rs]at N T QE;unfold Bu;generalize bF (aP ((aQ os[i] s).getD k 0)) ((aQ os[i] s).getD k 0)=j at *;generalize bF (aP ((aQ os[i] s).getD (k+1) 0)) ((aQ os[i] s).getD (k+1) 0)=ry at *;generalize dW (aP ((aQ os[i] s).getD (k+1) 0)) ((aQ os[i] s).getD (k+1) 0)=B at *;have yn:Y.next=st.pc+4:=kn.1.trans wn;have G1:=P1.tp (v:=dI S 4) (by rw[yn];exact G.1) G.2.1 (by rw[yn];exact G.2.2);have w8:bn (Y.next+4)=st.pc+4+4:=by rw[yn];exact qG H.2.2.1 H.2.2.2
 have hc2:fi (bS os ms bt aj bd) ({Y with pc:=Y.next}:bC).pc=some (kZ ((aQ os[i] s).getD (k+1) 0) (jN m)):=by
  show fi _ Y.next=_;rw[yn];exact Q
 have z:=G1.same (bn (Y.next+4)) Y.code (Y.steps+1);have Hr:({ ({Y with pc:=Y.next}:bC)with next:=bn (Y.next+4),code:=Y.code,steps:=Y.steps+1}:bC).next=st.pc+4+4:=w8;have zr:bH ({ ({Y with pc:=Y.next}:bC)with next:=bn (Y.next+4),code:=Y.code,steps:=Y.steps+1}:bC) j=bn (ir m*4096):=rg;have IU:∀(j:M) (p d f n:Z),nu (kZ ((aQ os[i] s).getD (k+1) 0) (jN m)) j p d f n->li (bS os ms bt aj bd) ins {Y with pc:=Y.next}={dp (bS os ms bt aj bd) ins j p d f n ({ ({Y with pc:=Y.next}:bC)with next:=bn (Y.next+4),code:=Y.code,steps:=Y.steps+1}:bC)with pc:=(dp (bS os ms bt aj bd) ins j p d f n ({ ({Y with pc:=Y.next}:bC)with next:=bn (Y.next+4),code:=Y.code,steps:=Y.steps+1}:bC)).next}:=λj p d f n F=>wC hc2 F
 have L0:∀t,li (bS os ms bt aj bd) ins {Y with pc:=Y.next}=t->kM (bS os ms bt aj bd) ins 2 st t:=by
  intro t e;exact⟨h.aU.2,by rw[Hb];exact G1.aU.2,by rw[Hb];exact e.symm⟩
 have pl:=Xu m;generalize ({ ({Y with pc:=Y.next}:bC)with next:=bn (Y.next+4),code:=Y.code,steps:=Y.steps+1}:bC)=d at *;have D:∀(p:bJ) (W:bC),eA os bt aj bd ms (eB (dI S 4) p) W->W.next=st.pc+4+4->li (bS os ms bt aj bd) ins {Y with pc:=Y.next}={W with pc:=W.next}->mN os bt aj bd ms ins st S (eB (dI S 8) p):=by
  intro p W w F J;refine .inl ⟨w.aU.1,2,by omega,_,L0 _ J,?_⟩;exact w.tp (by rw[F];exact H.1) H.2.1 (by rw[F];exact H.2.2)
 rw[XY];rcases o2 with (o|o)|o
 ·rw[aD (by rw[o])];have p:=IU _ _ _ _ _ (N o);rw[show (((13:M):Z))=13 from R,Jm _ _ _ _ _ _ _ _ (by decide),zr]at p;have w:jw 13 (bn (ir m*4096)) (bn (jN m))=bn (ir m*4096)+bn (jN m):=R;rw[w]at p;have L:=z.put (r:=ry) (by omega) (by omega) (v:=f) (x:=bn (ir m*4096)+bn (jN m)) (by
   have e:bn (bn (ir m*4096)+bn (jN m))=bn m:=by
    rw[<- pl];unfold bn;omega
   rw[e];exact V) K
  rw[Ju]at L;exact D _ _ L ((DP _ _ _).1.trans Hr) p
 ·rw[ax (by omega),aD (by rw[o])];have p:=IU _ _ _ _ _ (T o);rw[show (((11:M):Z))=11 from R,OA,zr,pl]at p;obtain⟨F,L2⟩:=C.load z V K ry;have Qs:kx os f (eB (dI S 4) (dH j bV S))=kx os f (dH j bV S):=R;rw[Qs]at F L2;have w:(kx os f (dH j bV S) = .inr 4\/kx os f (dH j bV S) = .inr (-1))\/∃y,kx os f (dH j bV S) = .inl y:=by
   unfold kx
   repeat' split
   all_goals first|exact .inr ⟨_,R⟩|exact .inl (.inl R)|exact .inl (.inr R)
  have J:=Js j bV S;rcases w with (w|w)|⟨y,w⟩
  ·rw[w];rw[L2 w]at p;exact .inr (.inl ⟨by show (0:Z)<4;decide,2,by omega,_,L0 _ R,by rw[p],by rw[p];exact z.o.1,by rw[p];exact z.read,λc=>absurd (show (4:Z)=1 from c) (by decide)⟩)
  ·rw[w];exact .inr (.inr ⟨R,J.2.2.1,J.2.2.2⟩)
  ·rw[w];obtain⟨y',e,hy,ky⟩:=F y w;rw[e]at p;have L:=z.put (r:=ry) (by omega) (by omega) hy ky;rw[Ju]at L;exact D _ _ L ((DP _ _ _).1.trans Hr) p
 ·rw[ax (by omega),ax (by omega),aD (by rw[o])];have p:=IU _ _ _ _ _ (QE o);rw[show (((12:M):Z))=12 from R,OB,zr,pl]at p;have w:=z.mQ (r:=B) (by omega) (by omega);have sg:=XM os f (bU (dH j bV S) B) (dI S 4) (dH j bV S);have ZB:bU (eB (dI S 4) (dH j bV S)) B=bU (dH j bV S) B:=R;have pp:=OQ os f (bU (dH j bV S) B) (dH j bV S);have J:=Js j bV S;have X:=C.store z V K w.1 w.2.1 w.2.2;rw[ZB,sg]at X;rcases X with ⟨e,F⟩|⟨e,F⟩|e
  ·have e':(iH os f (bU (dH j bV S) B) (dH j bV S)).aU=0:=e;rw[ax (by omega)];refine D _ _ F ?_ p;unfold pO;split
   ·exact Hr
   ·exact Hr
  ·have e':(iH os f (bU (dH j bV S) B) (dH j bV S)).aU=5:=e;rw[aD (by omega)];rw[F]at p;refine .inr (.inl ⟨by omega,2,by omega,_,L0 _ R,by rw[p];exact e'.symm,?_,?_,λc=>by omega⟩)
   ·rw[p,pp.2.2.1];exact z.o.1
   ·rw[p,pp.2.2.2];exact z.read
  ·have e':(iH os f (bU (dH j bV S) B) (dH j bV S)).aU = -1:=e;rw[aD (by omega)];exact .inr (.inr ⟨e',pp.2.2.1.trans J.2.2.1,pp.2.2.2.trans J.2.2.2⟩)
end
theorem XI:nu 19 13 0 0 0 0:=⟨by decide,by decide,by decide +kernel,by decide +kernel,by decide +kernel,by decide +kernel,by decide +kernel⟩
section
variable{os:L aF}{bt aj bd:Z}{d ms:L aI}(C:cO os bt aj bd d ms)
include C
theorem cO.Uw{S:bJ}{b:i<ah os}{P:q<os[i].ay.length}(h:eA os bt aj bd ms S st)(r:rJ os bt aj bd ms S st i s k q b P)(K:os[i].ay[q].kind=6)(ins:L Z):
  ∀j,j<=(yy os[i].ay[q]).toNat->∃c,c<=j/\∃st',kM (bS os ms bt aj bd) ins c st st'/\eA os bt aj bd ms (eB (dI S (4*(j:Z))) S) st'/\st'.pc=(bg bt aj bd ms i s).getD (k+j) 0:=by
 have f:=C.zU i b;have A:i<ah ms:=by rw[C.len];exact b
 have H:=C.obj i b A;have V:(aS bt aj bd ms)[i].obj=os[i]:=(td i A f).1.trans H;have W:=r.fits;have D:=r.at_.hs;have g:=r.ok.2.2.2.2.2.1;unfold ey at g;rw[ax (by omega),ax (by omega),ax (by omega),ax (by omega),aD K]at g;intro j
 induction j with
 |zero=>
  intro _;have O:=C.wO r.at_ h.pc.2.1 0 (by omega) (4*((0:M):Z)) R;refine⟨0,bz _,st,R,?_,r.at_.pc⟩;have e:dI S (4*((0:M):Z))=S.pc:=by unfold dI;simp
  rw[e];exact h
 |succ j Q=>
  intro Y;obtain⟨c,X,st',n,y,t⟩:=Q (by omega);have O:=C.wO r.at_ h.pc.2.1 (j+1) (by omega) (4*((j+1:M):Z)) R;have w:k+j<(aQ os[i] s).length:=by omega
  have a:=C.DX i s (k+j) b w A;by_cases p:eQ ms[i] s (4*((k+j:M):Z)) ((bg bt aj bd ms i s).getD (k+j) 0)=T
  ·rw[p,aD R]at a;have B:=C.Hp i s (k+j) b D w f (by omega);have U:iZ (aS bt aj bd ms) (aS bt aj bd ms)[i] s (4*((k+j:M):Z)) ((aQ os[i] s)[k+j]'w)=19:=by
    unfold iZ qD;rw[V,r.Il j (by omega)];dsimp only;rw[ax (by omega),ax (by omega),ax (by omega),ax (by omega)];have m:j<(Go.Proofs.YtaldcojpkflgpaaGreatDoor.about os[i] os[i].ay[q]).length:=by
     have:=(Dj r.ok.2.1 r.ok.2.2.2.2.1 (by
      have u:=r.val.2.2.1;rw[r.au];rcases D with rfl|rfl
      ·exact u.1
      ·exact u.2.1)).1
     omega
    have u:=r.word j (by omega);rw[bQ,bW m,rI,g j m,bQ,bW w,rI]at u;exact u.symm
   rw[U,<- t]at B;have u:=wC (ins:=ins) B XI;rw[show (((13:M):Z))=13 from R,Jm _ _ _ _ _ _ _ _ (by decide)]at u;have G:∀(v:Z) (z:bC),eu 0 v z=z:=λv z=>rfl
   rw[G]at u;rw[<- t]at a;have m:k+(j+1)=k+j+1:=R;rw[m,a]at O;have E:bn (st'.pc+4)=st'.pc+4:=qG O.2.2.1 O.2.2.2;refine⟨c+1,by omega,_,n.cat (kM.one y.aU.2),?_,?_⟩
   ·rw[u];exact(y.same (bn (st'.pc+4)) st'.code (st'.steps+1)).tp (by dsimp only;rw[E];exact O.1) O.2.1 (mo _)
   ·rw[u,m,a];exact E
  ·rw[ax p]at a;have m:k+(j+1)=k+j+1:=R;refine⟨c,by omega,st',n,?_,by rw[m,a];exact t⟩;rw[m,a,<- t]at O;exact y.go (v:=dI S (4*((j+1:M):Z))) (x:=st'.pc) st'.code st'.next st'.steps O.1 O.2.1 O.2.2
theorem cO.Ux{S:bJ}{j:i<ah os}{m:q<os[i].ay.length}(h:eA os bt aj bd ms S st)(r:rJ os bt aj bd ms S st i s k q j m)(a:os[i].ay[q].kind=6)(ins:L Z)(w y:Z):
  mN os bt aj bd ms ins st S (mu os os[i].ay[q] w y S):=by
 have n:os[i].ay[q].bh=4\/os[i].ay[q].bh=12:=by
  have:=r.ok.2.1
  unfold fX at this;rw[ax (by omega),aD a]at this;exact this
 have t:yy os[i].ay[q]=os[i].ay[q].bh/4:=by unfold yy;rw[ax (by omega),aD a]
 obtain⟨c,p,g,f,b,-⟩:=C.Uw h r a ins (yy os[i].ay[q]).toNat (bz _)
 unfold mu;rw[aD a];have e:(4*(((yy os[i].ay[q]).toNat:M):Z))=os[i].ay[q].bh:=by omega
 rw[e]at b;exact .inl ⟨b.aU.1,c,by omega,g,f,b⟩
theorem cO.Mo{S:bJ}(h:eA os bt aj bd ms S st)(ins:L Z):mN os bt aj bd ms ins st S (pP os ins S):=by
 have f:fi (bS os ms bt aj bd) st.pc=N->li (bS os ms bt aj bd) ins st={st with steps:=st.steps+1,aU:=2}:=by
  intro e;unfold li;rw[e]
 have g:fi (bS os ms bt aj bd) st.pc=N->mN os bt aj bd ms ins st S {S with aU:=2}:=by
  intro e;refine .inr (.inl ⟨by show (0:Z)<2;decide,1,by omega,_,kM.one h.aU.2,?_,?_,?_,λc=>absurd (show (2:Z)=1 from c) (by decide)⟩)
  ·rw[f e]
  ·rw[f e];exact h.o.1
  ·rw[f e];exact h.read
 unfold pP;by_cases m:S.pc.k=0
 ·rw[aD m];by_cases n:iy S.pc.n=T\/S.pc.n%4≠0
  ·rw[aD n];refine g ?_;rw[h.pc.1.n m];exact(C.Hg n (ah st.data) h.dl).1
  ·rw[ax n];exact .inr (.inr ⟨R,R,R⟩)
 rw[ax m];by_cases j:S.pc.k=1
 ·rw[aD j];by_cases n:fm os S.pc=T
  ·rw[aD n];refine g ?_;have p:=(Bp j).1 n;have P:=C.tZ h.pc.1 h.pc.2.1 j p.1 (by omega);exact C.D3 _ P.2.1 (P.2.2.2.2 p.2)
  ·rw[ax n];exact .inr (.inr ⟨R,R,R⟩)
 rw[ax j];by_cases t:S.pc.k=3
 ·rw[aD t];exact mN.zK S R R
 rw[ax t];have u:S.pc.k=2:=by have:=h.pc.2.1.k;omega
 by_cases b:nA os S.pc=F
 ·rw[aD b];exact mN.zK S R R
 rw[ax b];obtain⟨i,s,k,y,a⟩:=h.at_ u (by simpa using b);have v:(S.pc.off/4).toNat=k:=by have:=a.off;omega
 have p:(S.pc.off/4+1).toNat=k+1:=by have:=a.off;omega
 rw[a.sec,v,p];by_cases z:(lj os S.pc).kind=0
 ·rw[aD z];have e:(aQ os[i] s).getD k 0=(aQ os[i] s)[k]'(a.kl):=by rw[bQ,bW a.kl];rfl
  rw[e];exact C.Ve h a z ins
 rw[ax z];by_cases o:S.pc.off≠(lj os S.pc).off
 ·rw[aD o];exact mN.zK S R R
 rw[ax o];obtain⟨q,A,r,w⟩:=eA.rel a C.val z (by omega);rw[w];have x:=r.ok.1;unfold lz at x;rcases (show os[i].ay[q].kind=1\/os[i].ay[q].kind=2\/os[i].ay[q].kind=3\/os[i].ay[q].kind=4\/os[i].ay[q].kind=5\/os[i].ay[q].kind=6 by omega)with e|e|e|e|e|e
 ·unfold mu;rw[ax (by omega),ax (by omega),ax (by omega),ax (by omega),ax (by omega)];exact mN.zK S R R
 ·exact C.Un h r e ins _
 ·exact C.WR h r e ins _
 ·exact C.VP h r e ins
 ·exact C.Vr h r e ins
 ·exact C.Ux h r e ins _ _
end
theorem Xz{m:cq}{ins:L Z}(a:M):∀(j:M) (st st':bC),kM m ins j st st'->st.steps+j<=a->(∀k,mq m ins a (j+k) st=mq m ins a k st')/\st'.steps=st.steps+j:=by
 intro j
 induction j with
 |zero=>intro st st' h _;cases h;exact⟨λk=>by rw[mL],R⟩
 |succ j d=>
  intro st st' h f;obtain⟨b,c⟩:=h;have n:=Sc m ins st;obtain⟨e,g⟩:=d _ _ c (by omega);refine⟨λk=>?_,by omega⟩;rw[show j+1+k=(j+k)+1 by omega,mq,aD ⟨b,by omega⟩];exact e k
theorem XF(m:cq)(ins:L Z)(st:bC):(∃l,(li m ins st).o=st.o++l)/\st.read<=(li m ins st).read:=by
 have b:∀(n v:Z) (s:bC),(eu n v s).o=s.o/\(eu n v s).read=s.read:=by
  intro n v s;unfold eu;split<;>exact⟨R,R⟩
 have D:∀(e f c d n:Z) (s:bC),(∃l,(dp m ins e f c d n s).o=s.o++l)/\s.read<=(dp m ins e f c d n s).read:=by
  intro e f c d n s;have a:∀t:bC,t.o=s.o/\t.read=s.read->(∃l,t.o=s.o++l)/\s.read<=t.read:=λt h=>⟨⟨[],by rw[h.1,lG]⟩,by rw[h.2];exact bz _⟩
  unfold dp;split
  ·exact a _ ⟨R,R⟩
  split
  ·exact a _ (b _ _ _)
  split
  ·exact a _ (b _ _ _)
  split
  ·exact a _ (b _ _ _)
  split
  ·exact a _ (b _ _ _)
  split
  ·unfold sO;split
   ·exact a _ ⟨R,R⟩
   ·exact a _ ⟨R,R⟩
  split
  ·unfold pN;split
   ·exact a _ (b _ _ _)
   ·split
    ·exact a _ (b _ _ _)
    ·exact a _ ⟨R,R⟩
  split
  ·unfold pO;split
   ·exact a _ ⟨R,R⟩
   ·exact a _ ⟨R,R⟩
  split
  ·exact a _ (b _ _ _)
  split
  ·unfold oI;split
   ·exact a _ ⟨R,R⟩
   split
   ·split
    ·exact a _ ⟨R,R⟩
    ·exact⟨⟨_,R⟩,bz _⟩
   split
   ·split
    ·exact a _ ⟨R,R⟩
    ·exact⟨⟨[],by rw[lG];exact(b _ _ _).1⟩,Nat.le_succ _⟩
   ·exact a _ ⟨R,R⟩
  ·exact a _ (b _ _ _)
 unfold li
 cases fi m st.pc with
 |none=>exact⟨⟨[],by rw[lG]⟩,bz _⟩
 |some w=>exact D _ _ _ _ _ _
theorem OX(m:cq)(ins:L Z)(a:M):∀(k:M) (st:bC),(∃l,(mq m ins a k st).o=st.o++l)/\st.read<=(mq m ins a k st).read:=by
 intro k
 induction k with
 |zero=>intro st;exact⟨⟨[],by rw[lG];rfl⟩,bz _⟩
 |succ k d=>
  intro st;rw[mq];split
  ·obtain⟨⟨e,b⟩,g⟩:=d (li m ins st);obtain⟨⟨f,c⟩,h⟩:=XF m ins st;exact⟨⟨f++e,by rw[b,c,cy]⟩,Nat.le_trans h g⟩
  ·exact⟨⟨[],by rw[lG]⟩,bz _⟩
theorem Yg(m:cq)(ins:L Z)(a k:M)(st:bC)(h:st.aU≠0):mq m ins a k st=st:=by
 cases k with
 |zero=>rfl
 |succ k=>rw[mq,ax (λc=>h c.1)]
section
variable{os:L aF}{bt aj bd:Z}{a ms:L aI}(C:cO os bt aj bd a ms)
include C
theorem cO.Vm(ins:L Z):∀(n:M) (S:bJ) (st:bC),eA os bt aj bd ms S st ->
  ((dM os ins n S).aU=0/\∃j,j<=3*n/\∃st',kM (bS os ms bt aj bd) ins j st st'/\eA os bt aj bd ms (dM os ins n S) st') \/
  (0<(dM os ins n S).aU/\∃j,j<=3*n/\∃st',kM (bS os ms bt aj bd) ins j st st'/\st'.aU=(dM os ins n S).aU/\st'.o=(dM os ins n S).o/\st'.read=(dM os ins n S).read/\((dM os ins n S).aU=1->st'.code=(dM os ins n S).ret)) \/
  ((dM os ins n S).aU = -1/\∃j,j<=3*n/\∃st',kM (bS os ms bt aj bd) ins j st st'/\st'.o=(dM os ins n S).o/\st'.read=(dM os ins n S).read):=by
 intro n
 induction n with
 |zero=>intro S st h;exact .inl ⟨h.aU.1,0,by omega,st,R,h⟩
 |succ n w=>
  intro S st h;rw[dM,aD h.aU.1];rcases C.Mo h ins with ⟨e,j,v,st',b,t⟩|⟨e,j,v,st',b,p,r,x,y⟩|⟨e,p,r⟩
  ·rcases w _ st' t with ⟨d,g,f,c,m,u⟩|⟨d,g,f,c,m,q⟩|⟨d,g,f,c,m,q⟩
   ·exact .inl ⟨d,j+g,by omega,c,b.cat m,u⟩
   ·exact .inr (.inl ⟨d,j+g,by omega,c,b.cat m,q⟩)
   ·exact .inr (.inr ⟨d,j+g,by omega,c,b.cat m,q⟩)
  ·have s:dM os ins n (pP os ins S)=pP os ins S:=by
    cases n with
    |zero=>rfl
    |succ n=>rw[dM,ax (by omega)]
   rw[s];exact .inr (.inl ⟨e,j,by omega,st',b,p,r,x,y⟩)
  ·have s:dM os ins n (pP os ins S)=pP os ins S:=by
    cases n with
    |zero=>rfl
    |succ n=>rw[dM,ax (by omega)]
   rw[s];exact .inr (.inr ⟨e,0,by omega,st,R,by rw[p];exact h.o.1,by rw[r];exact h.read⟩)
theorem cO.WA(ins:L Z)(n:M)(S:bJ)(h:eA os bt aj bd ms S (iw (bS os ms bt aj bd))):
  (((dM os ins n S).aU=0\/(dM os ins n S).aU = -1)/\(∃l,(gM (bS os ms bt aj bd) ins (3*n+3)).o=(dM os ins n S).o++l)/\(dM os ins n S).read<=(gM (bS os ms bt aj bd) ins (3*n+3)).read) \/
  (0<(dM os ins n S).aU/\(gM (bS os ms bt aj bd) ins (3*n+3)).o=(dM os ins n S).o/\(gM (bS os ms bt aj bd) ins (3*n+3)).aU=(dM os ins n S).aU/\(gM (bS os ms bt aj bd) ins (3*n+3)).read=(dM os ins n S).read/\((dM os ins n S).aU=1->(gM (bS os ms bt aj bd) ins (3*n+3)).code=(dM os ins n S).ret)):=by
 have x:(iw (bS os ms bt aj bd)).steps=0:=R;have f:∀(j:M) (b:bC),j<=3*n->kM (bS os ms bt aj bd) ins j (iw (bS os ms bt aj bd)) b->mq (bS os ms bt aj bd) ins (3*n+3) (3*n+3) (iw (bS os ms bt aj bd))=mq (bS os ms bt aj bd) ins (3*n+3) (3*n+3-j) b:=by
  intro j b g d
  have:=(Xz (3*n+3) j _ _ d (by omega)).1 (3*n+3-j)
  rw[show j+(3*n+3-j)=3*n+3 by omega]at this;exact this
 have d:∀s:bC,mq (bS os ms bt aj bd) ins (3*n+3) (3*n+3) (iw (bS os ms bt aj bd))=s->(gM (bS os ms bt aj bd) ins (3*n+3)).o=s.o/\(gM (bS os ms bt aj bd) ins (3*n+3)).read=s.read/\(s.aU≠0->(gM (bS os ms bt aj bd) ins (3*n+3)).aU=s.aU/\(gM (bS os ms bt aj bd) ins (3*n+3)).code=s.code):=by
  intro s e;unfold gM;dsimp only;rw[e];split
  ·rename_i z;exact⟨R,R,λc=>absurd z c⟩
  ·exact⟨R,R,λ_=>⟨R,R⟩⟩
 rcases C.Vm ins n S _ h with ⟨e,j,g,b,r,u⟩|⟨e,j,g,b,r,m,t,v,w⟩|⟨e,j,g,b,r,m,t⟩
 ·have o:=d _ (f j b g r);have p:=OX (bS os ms bt aj bd) ins (3*n+3) (3*n+3-j) b;refine .inl ⟨.inl e,?_,?_⟩
  ·rw[o.1,<- u.o.1];exact p.1
  ·rw[o.2.1,<- u.read];exact p.2
 ·have q:=f j b g r;rw[Yg _ _ _ _ b (by omega)]at q;have o:=d _ q;exact .inr ⟨e,by rw[o.1];exact t,by rw[(o.2.2 (by omega)).1];exact m,by rw[o.2.1];exact v,λc=>by rw[(o.2.2 (by omega)).2];exact w c⟩
 ·have o:=d _ (f j b g r);have p:=OX (bS os ms bt aj bd) ins (3*n+3) (3*n+3-j) b;refine .inl ⟨.inr e,?_,?_⟩
  ·rw[o.1,<- m];exact p.1
  ·rw[o.2.1,<- t];exact p.2
end
theorem XJ(f:cg->bD):∀(rs:L cg) (d:L bD),(rs.foldl (λd r=>if r.au=3 then d.set (r.off/4).toNat (f r)else d) d).length=ah d:=by
 intro rs
 induction rs with
 |nil=>intro d;rfl
 |cons r rs a=>
  intro d;rw[sL,a];split
  ·rw[lI]
  ·rfl
theorem OZ(f:cg->bD)(k:M)(b:cg):∀(rs:L cg) (d:L bD),k<ah d->(∀r∈rs,r.au=3->(r.off/4).toNat=k->r=b) ->
  ((∃r∈rs,r.au=3/\(r.off/4).toNat=k)\/d.getD k bV=f b->(rs.foldl (λd r=>if r.au=3 then d.set (r.off/4).toNat (f r)else d) d).getD k bV=f b) /\
  ((¬ ∃r∈rs,r.au=3/\(r.off/4).toNat=k)->(rs.foldl (λd r=>if r.au=3 then d.set (r.off/4).toNat (f r)else d) d).getD k bV=d.getD k bV):=by
 intro rs
 induction rs with
 |nil=>
  intro d _ _;refine⟨λh=>?_,λ_=>rfl⟩;rcases h with ⟨r,a,-⟩|h
  ·cases a
  ·exact h
 |cons r rs u=>
  intro d j n;rw[sL];have m:∀x∈rs,x.au=3->(x.off/4).toNat=k->x=b:=λx a=>n x (lJ _ a)
  have v:k<(if r.au=3 then d.set (r.off/4).toNat (f r)else d).length:=by
   split
   ·rw[lI];exact j
   ·exact j
  obtain⟨p,t⟩:=u _ v m;by_cases c:r.au=3/\(r.off/4).toNat=k
  ·have e:r=b:=n r jU c.1 c.2;have g:(if r.au=3 then d.set (r.off/4).toNat (f r)else d).getD k bV=f b:=by
    rw[aD c.1,c.2,xM _ _ _ _ j,e]
   exact⟨λ_=>p (.inr g),λh=>absurd ⟨r,jU,c⟩ h⟩
  ·have g:(if r.au=3 then d.set (r.off/4).toNat (f r)else d).getD k bV=d.getD k bV:=by
    by_cases a:r.au=3
    ·rw[aD a,wy _ _ _ _ _ (λe=>c ⟨a,e⟩)]
    ·rw[ax a]
   refine⟨λh=>p ?_,λh=>?_⟩
   ·rcases h with ⟨x,a,q⟩|h
    ·rcases nk.1 a with rfl|a
     ·exact absurd q c
     ·exact .inl ⟨x,a,q⟩
    ·exact .inr (g.trans h)
   ·exact(t (λ⟨x,a,q⟩=>h ⟨x,lJ _ a,q⟩)).trans g
section
variable{os:L aF}{bt aj bd:Z}{a ms:L aI}(C:cO os bt aj bd a ms)
include C
theorem cO.Uo(i k:Nat)(h:i<ah os)(A:k<(aQ os[i] 3).length):
  fJ (bg bt aj bd ms) ((qH os i os[i]).getD k bV) (((bS os ms bt aj bd).D++eP (bS os ms bt aj bd).fD.toNat 0).getD ((((bg bt aj bd ms i 3).getD 0 0+4*k-bd)/4).toNat) 0)/\dP os ((qH os i os[i]).getD k bV):=by
 have j:=C.zU i h;have O:i<ah ms:=by rw[C.len];exact h
 have P:(aS bt aj bd ms)[i].obj=os[i]:=(td i O j).1.trans (C.obj i h O);have u:=C.val os[i] (bN h);have K:aQ os[i] 3=os[i].data:=by rw[me _ 3 (by omega)];rfl
 have b:k<os[i].data.length:=by rw[<- K];exact A
 rw[C.Wp i k h A j];have t:∀(q:Nat) (d:q<os[i].ay.length),os[i].ay[q].au=3->os[i].ay[q].kind=1/\yy os[i].ay[q]=1/\0<=os[i].ay[q].off/\os[i].ay[q].off%4=0:=by
  intro q d f;have z:=u.rel q d;have m:=z.1;unfold lz at m;have y:os[i].ay[q].kind=1:=by omega
  obtain⟨E,G,-⟩:=z.2.2.2.2.1;refine⟨y,?_,E,G⟩;unfold yy;rw[ax (by omega),ax (by omega)]
 by_cases c:(cB (3:Z) (4*(k:Z)) 0 os[i].ay).2.kind=0
 ·have n:¬ ∃r∈os[i].ay,r.au=3/\(r.off/4).toNat=k:=by
   rintro⟨r,w,f,m⟩;obtain⟨q,d,rfl⟩:=kY w;obtain⟨y,I,E,G⟩:=t q d f;rw[Jo u 3 (4*(k:Z)) q d ⟨f,by omega,by omega⟩]at c;dsimp only at c;omega
  have g:=(OZ (λr=>gN os (dL os i r.sym.toNat) r.bh) k ⟨0,0,0,0,0⟩ os[i].ay (os[i].data.map dv) (by rw[fZ];exact b) (λr w f m=>absurd ⟨r,w,f,m⟩ n)).2 n;have m:(qH os i os[i]).getD k bV=dv (os[i].data[k]):=by
   unfold qH;rw[g,bQ,jS,bW b];rfl
  have d:=(u.2.2.1.2.2) k b;have v:iZ (aS bt aj bd ms) (aS bt aj bd ms)[i] 3 (4*(k:Z)) ((aQ os[i] 3)[k]'A)=os[i].data[k]:=by
   unfold iZ qD;rw[P,c];simp only[K];rfl
  rw[m,v];exact⟨uS _ _ _ (by rw[qG (by omega) (by omega)]),sT os _⟩
 ·obtain⟨q,d,e,f,M,N⟩:=OJ (3:Z) (4*(k:Z)) c;obtain⟨y,I,E,G⟩:=t q d f;have z:=u.rel q d;have n:=z.2.2.1;unfold pu at n;rw[ax (by omega)]at n;obtain⟨D,x⟩:=eX n.1;have Q:D<os[i].aE.length:=by omega
  have W:-2048<=os[i].ay[q].bh/\os[i].ay[q].bh<=2047:=by
   have:=z.2.1
   unfold fX at this;rw[aD (.inl y)]at this;exact this
  have V:=C.Ho (dL os i D) (λp B=>DG C.val ⟨h,Q⟩ B) os[i].ay[q].bh W;have U:=Ig C.eV C.val i h j os[i].ay[q] D x Q (bt:=bt) (aj:=aj) (bd:=bd);have H:∀r∈os[i].ay,r.au=3->(r.off/4).toNat=k->r=os[i].ay[q]:=by
   intro r w v m;obtain⟨p,B,rfl⟩:=kY w;obtain⟨F,J,X,Y⟩:=t p B v
   have:=Jo u 3 (4*(k:Z)) p B ⟨v,by omega,by omega⟩
   rw[e]at this;exact(jz Prod.snd this).symm
  have g:=(OZ (λr=>gN os (dL os i r.sym.toNat) r.bh) k os[i].ay[q] os[i].ay (os[i].data.map dv) (by rw[fZ];exact b) H).1 (.inl ⟨os[i].ay[q],bN d,f,by omega⟩);have m:(qH os i os[i]).getD k bV=gN os (dL os i os[i].ay[q].sym.toNat) os[i].ay[q].bh:=g;have v:iZ (aS bt aj bd ms) (aS bt aj bd ms)[i] 3 (4*(k:Z)) ((aQ os[i] 3)[k]'A)=bn (fA os (bg bt aj bd ms) (dL os i D)+os[i].ay[q].bh):=by
   unfold iZ qD;rw[P,e];dsimp only;rw[aD y,U,G6]
  rw[m,v,x,dy];exact⟨V.1,V.2.1⟩
theorem cO.Mn:eA os bt aj bd ms (gY os) (iw (bS os ms bt aj bd)):=by
 have h:∀r,(eP 32 (0:Z)).getD r 0=0:=by
  intro r;rw[bQ,Ao];split<;>rfl
 have u:∀r,r<32->(eP 32 (dv 0)).getD r bV=dv 0:=by
  intro r f;rw[bQ,Ao,aD f];rfl
 have V:=C.Ho (jP os) (λp b=>⟨Ie b,by have:=MN b;omega⟩) 0 ⟨by decide,by decide⟩;have z:bn 0=0:=R;have y:∀i (b:i<ah os),(gY os).data.getD i []=qH os i os[i]:=by
  intro i b;show ((rA (ah os)).map (λi=>qH os i ((os[i]?).getD ⟨[],[],[],0,[],[],[]⟩))).getD i []=_;rw[bQ,jS,List.getElem?_range b];simp only[Option.map_some,rI,bW b]
 have d:∀i (b:i<ah os),(gY os).bf.getD i []=eP os[i].bf.toNat (dv 0):=by
  intro i b;show (os.map (λo=>eP o.bf.toNat (dv 0))).getD i []=_;rw[bQ,jS,bW b];rfl
 refine⟨λr f=>?_,⟨by show (eP 32 (dv 0)).length=32;simp,by show (eP 32 (0:Z)).length=32;simp⟩,λr=>?_,⟨h 0,u 0 (by omega)⟩,?_,C.Ml.2,λj=>?_,⟨by show ((rA (ah os)).map _).length=_;simp,by show (os.map _).length=_;simp⟩,λi s b A=>?_,⟨R,by show (0:M)<=16;omega⟩,R,⟨R,R⟩⟩
 ·show fJ _ ((eP 32 (dv 0)).getD r bV) ((eP 32 (0:Z)).getD r 0)/\dP os ((eP 32 (dv 0)).getD r bV);rw[h,u r f];exact⟨uS _ _ _ z.symm,sT os _⟩
 ·show 0<=(eP 32 (0:Z)).getD r 0/\_;rw[show (iw (bS os ms bt aj bd)).bM=eP 32 (0:Z)from R,h];decide
 ·have q:=V.1;rw[yx,qG V.2.2.1.1 (by have:=V.2.2.1;omega)]at q;exact⟨q,V.2.1,V.2.2.1.1,by show fA os (bg bt aj bd ms) (jP os)<4294967296;have:=V.2.2.1;omega⟩
 ·have w:=Ga (aS bt aj bd ms) 3 bd 0 (by omega) (aS bt aj bd ms) [] (qf (sk ms bt aj bd) C.gn) (λx n=>by simp at n);show 0<=((bS os ms bt aj bd).D++eP (bS os ms bt aj bd).fD.toNat 0).getD j 0/\((bS os ms bt aj bd).D++eP (bS os ms bt aj bd).fD.toNat 0).getD j 0<4294967296;rw[bQ];by_cases c:j<(bS os ms bt aj bd).D.length
  ·rw[List.getElem?_append_left c,bW c,rI]
   have:=w _ (bN c)
   omega
  ·rw[oB (by omega),Ao];split
   ·rw[rI];decide
   ·rw[Option.getD_none];decide
 ·have B:=C.val os[i] (bN b);rcases A with rfl|rfl
  ·have e:mv (gY os) 3 i=qH os i os[i]:=by unfold mv;rw[aD R,y i b]
   rw[e];refine⟨?_,λk n=>C.Uo i k b n⟩;unfold qH;rw[XJ,fZ,me _ 3 (by omega)];rfl
  ·have e:mv (gY os) 4 i=eP os[i].bf.toNat (dv 0):=by unfold mv;rw[ax (by decide),d i b]
   have t:i<ah ms:=by rw[C.len];exact b
   have v:=Ii (m:=ms[i]) (C.gn _ (bN t));rw[C.obj i b t]at v;rw[e];refine⟨by rw[List.length_replicate];omega,λk n=>?_⟩;have g:(eP os[i].bf.toNat (dv 0)).getD k bV=dv 0:=by
    rw[bQ,Ao,aD (by omega)];rfl
   rw[g];refine⟨uS _ _ _ ?_,sT os _⟩;rw[z];exact C.Xf i k b
theorem cO.means(ins:L Z)(n:M):
  (((dM os ins n (gY os)).aU=0\/(dM os ins n (gY os)).aU = -1)/\(∃l,(gM (bS os ms bt aj bd) ins (3*n+3)).o=(dM os ins n (gY os)).o++l)/\(dM os ins n (gY os)).read<=(gM (bS os ms bt aj bd) ins (3*n+3)).read) \/
  (0<(dM os ins n (gY os)).aU/\(gM (bS os ms bt aj bd) ins (3*n+3)).o=(dM os ins n (gY os)).o/\(gM (bS os ms bt aj bd) ins (3*n+3)).aU=(dM os ins n (gY os)).aU/\(gM (bS os ms bt aj bd) ins (3*n+3)).read=(dM os ins n (gY os)).read/\((dM os ins n (gY os)).aU=1->(gM (bS os ms bt aj bd) ins (3*n+3)).code=(dM os ins n (gY os)).ret)):=C.WA ins n (gY os) C.Mn
end
theorem aaG(g:wT os)(h:(mI os).e=0):jP os≠N:=by
 unfold mI at h;by_cases d:(xH os).e≠0
 ·rw[aD d]at h;exact absurd h d
 rw[ax d]at h;by_cases e:(wh os).e≠0
 ·rw[aD e]at h;exact absurd h e
 rw[ax e]at h;rw[show ml=nN from R,H8 g]at h;unfold jP
 cases f:(vh os nN).head? with
 |none=>
  rw[f]at h;have c:nX.au≠1/\nX.au≠2:=by decide
  unfold wU at h;dsimp only at h;rw[aD c]at h
  cases h
 |some p=>
  obtain⟨a,b⟩:=p;rw[f]at h;unfold wU at h;dsimp only at h ⊢;by_cases c:(fu os a b).au≠1/\(fu os a b).au≠2
  ·rw[aD c]at h;cases h
  ·rw[ax c];simp
open Classical in
noncomputable def lB(l:L aL):Bool×L aF:=if fq l then (F,[eE l])else (T,(gz l).map eE)
theorem J7(h:fq l):lB l=(F,[eE l]):=aD h
theorem KV(h:¬fq l):lB l=(T,(gz l).map eE):=ax h
theorem Lp(h:fq l\/jq l (gz l)):mU l (lB l).1 (lB l).2:=by
 by_cases a:fq l
 ·rw[J7 a];exact .inl ⟨R,a,R⟩
 ·rw[KV a];exact .inr ⟨R,a,_,h.resolve_left a,R⟩
theorem SR{a:Bool}(h:mU l a os):lB l=(a,os)/\(fq l\/jq l (gz l)):=by
 rcases h with ⟨rfl,b,rfl⟩|⟨rfl,b,d,c,rfl⟩
 ·exact⟨J7 b,.inl b⟩
 ·rw[KV b,GL c];exact⟨R,.inr c⟩
def IQ(fs:L (L aL))(f:jv):Prop :=
 ((ah fs<1\/8<ah fs)/\f=⟨31,0,[]⟩)\/(1<=ah fs/\(ah fs)<=8/\∃i,∃h:i<ah fs,f=⟨32,i,[]⟩/\Bh fs[i]/\∀j (hj:j<i),∃a os,mU (fs[j]'(by omega)) a os)
def SP(fs:L (L aL))(e:Ending)(w':av):Prop :=
 (∃f:jv,f.e≠0/\e=aH (aZ #[ak N 0 0,bY f])/\IQ fs f) \/
 (1<=ah fs/\(ah fs)<=8/\(∀l∈fs,fq l\/jq l (gz l))/\∃ap gl cp,e=aH (aZ #[ak ap (ah gl) cp,bY eM])/\oq w' ap gl (gh (fs.map lB)))
theorem abM(a:L (Bool×L aF))(x:Bool×L aF):gh (a++[x])=pK (gh a) x:=by
 unfold gh;rw[List.foldl_append];rfl
theorem adN{fs:L (L aL)}(h:∀l∈fs,fq l\/jq l (gz l))(k:M):(gh ((fs.take k).map lB)).length<=6*(fs.take k).length:=by
 have:=RY ((fs.take k).map lB) [] (λx b=>by
  obtain⟨l,a,rfl⟩:=List.mem_map.1 b;exact(Rr (Lp (h l (List.mem_of_mem_take a)))).2)
 unfold gh;simpa using this
theorem mO.Uj{g W c:av}{d:aR Addr}{cap:M}{b:L M}{a:aR M}(h:mO g (ak d (ah b) cap) b os W)(e:az W c a)(f:dr W a 27):oq c d b os :=
 ⟨RS (ec h.row e f (by decide)),h.len,λi a b=>kU (h.obj i a b) e f (by decide) (by decide) (by decide) (by decide),h.few,h.val⟩
theorem Sa(m:L aL)(f:ah m<=1048576)(w:av):
  Calls prog 19 #[aB (bs m)] w λe d=>∃b a,e=aH (aZ #[b,aJ a])/\(a=T↔fq m)/\az w d N:=by
 refine(Kt (bs m) w (by rw[nK];exact f)).mono ?_;rintro e d ⟨c,b⟩;rw[GJ,ou]at c;rcases c with ⟨h,g,a,j⟩|⟨h,v,a⟩
 ·exact⟨_,T,a,by simp[h],b⟩
 ·exact⟨_,F,a,by simp[h],b⟩
theorem RZ(m:L aL)(n:ah m<=1048576)(w:av):
  Calls prog 20 #[aB (bs m)] w λe f=>∃a c d,e=aH (aZ #[ak a (gz m).length c,aJ d])/\(d=T↔jq m (gz m))/\World.ownsRow f w.heap.size 9 1 (ak a (gz m).length c) (gz m).length (iR (gz m))/\az w f N:=by
 refine(adx (bs m) w (by rw[nK];exact n)).mono ?_;rintro e f ⟨⟨v,b,h,g,d⟩,j⟩;rw[ou]at g d;obtain⟨a,c,rfl⟩:=yi d;exact⟨a,c,b,h,g,d,j⟩
theorem acK(ao:aR Addr)(cf:M)(fs:L (L aL))(w:av)(hin:sE w ao fs)(hsz:∀f∈fs,ah f<=1048576)(hn:ah fs<=1048576):
  Calls prog 8 #[ak ao (ah fs) cf] w λe a=>SP fs e a/\az w a N:=by
 obtain⟨i2,hi2,hx0,hx1,hx2⟩:=info_parts Tryz.QG;have r:=ae hin;have SZ:=ae hsz;have G0:=ae (aG w (.cells #[I J 0,I J 0,aB ⟨#[]⟩] 27) N);have d:=ae (aA.new w #[I J 0,I J 0,aB ⟨#[]⟩] 27);clear hin hsz;go_enter func8,ntmps8
 go_upto_region 1 with fail
 generalize w.alloc (.cells #[I J 0,I J 0,aB ⟨#[]⟩] 27)=g at *;have Ep:Hd (∀(V:av) (p n:Z),az g V N->∀W,W=(((aK V ⟨w.heap.size,0,N⟩ (I J p)).setCell ⟨w.heap.size,1,N⟩ (I J n)).setCell ⟨w.heap.size,2,N⟩ (aB ⟨#[]⟩))->(aq W ⟨w.heap.size,0,N⟩=S (I J p)/\aq W ⟨w.heap.size,1,N⟩=S (I J n)/\aq W ⟨w.heap.size,2,N⟩=S (aB ⟨#[]⟩))/\az w W N):=by
  rintro V p n b W rfl;have a:=(((d.o.grown b (by simp)).set 0 (I J p)).set 1 (I J n)).set 2 (aB ⟨#[]⟩);exact⟨⟨a.cell 0,a.cell 1,a.cell 2⟩,iC (ya G0.o b) _ (bz _) _ _ _⟩
 have lE:Hd (∀(V:av),az g V N->(aq V ⟨w.heap.size,0,N⟩=S (I J 0)/\aq V ⟨w.heap.size,1,N⟩=S (I J 0)/\aq V ⟨w.heap.size,2,N⟩=S (aB ⟨#[]⟩))/\dx V ⟨w.heap.size,0,N⟩=F/\dx V ⟨w.heap.size,1,N⟩=F/\dx V ⟨w.heap.size,2,N⟩=F):=by
  intro V b;have B:=d.o.grown b (by simp);exact⟨⟨B.cell 0,B.cell 1,B.cell 2⟩,B.free 0,B.free 1,B.free 2⟩
 have hRl:=d.o.lt;have BT:=ae (λ(V:av) (b:az g V N)=>d.o.grown b (by simp));clear d;by_cases d:ah fs<1\/8<ah fs
 ·obtain⟨⟨P,Q,U⟩,H,K,O⟩:=lE.o g (aW _ _);have a:=ae (show IQ fs ⟨31,0,[]⟩from .inl ⟨d,R⟩);by_cases p:ah fs<1
  ·have d1:decide ((ah fs:Z)<1)=T:=by simp;omega
   have Y:(ah fs:Z)<1:=by omega
   clear d;go_wp2;obtain⟨⟨D,p,y⟩,G⟩:=Ep.o g 31 0 (aW _ _) _ R;refine bj (v:=aZ #[ak N 0 0,bY ⟨31,0,[]⟩]) ?_ R ⟨.inl ⟨_,by decide,R,a.o⟩,G⟩;clear P Q U H K O;generalize aK _ _ _=WF at *;simp[results,results8,go_sem,bY,bs,D,p,y]
  ·have d1:decide ((ah fs:Z)<1)=F:=by simp;omega
   have d2:decide ((8:Z)<(ah fs:Z))=T:=by simp;omega
   have Y:¬(ah fs:Z)<1:=by omega
   have h2':(8:Z)<(ah fs:Z):=by omega
   clear d;go_wp2;obtain⟨⟨D,p,y⟩,G⟩:=Ep.o g 31 0 (aW _ _) _ R;refine bj (v:=aZ #[ak N 0 0,bY ⟨31,0,[]⟩]) ?_ R ⟨.inl ⟨_,by decide,R,a.o⟩,G⟩;clear P Q U H K O;generalize aK _ _ _=WF at *;simp[results,results8,go_sem,bY,bs,D,p,y]
 have l1:1<=ah fs:=by omega
 have uZ:ah fs<=8:=by omega
 have d1:decide ((ah fs:Z)<1)=F:=by simp;omega
 have d2:decide ((8:Z)<(ah fs:Z))=F:=by simp;omega
 have Y:¬(ah fs:Z)<1:=by omega
 have h2':¬(8:Z)<(ah fs:Z):=by omega
 clear d;obtain⟨sg,so,rfl,a⟩:=r.o (by omega);have PN:=ae a;clear a r;go_wp2
 go_loopw [4] (λi wr=>∃k:M,k<=ah fs/\i=I J k/\(∀l∈fs.take k,fq l\/jq l (gz l))/\az g wr N) (λi _=>ah fs-(intOf i).toNat)
 case atStart=>exact⟨0,bG _,R,λl d=>by simp at d,aW _ _⟩
 case round=>
  obtain⟨k,hk,rfl,b,a⟩:=hrel;have HF:=ae b;have HG:=ae a;clear b a;by_cases b:k<ah fs
  ·have G:=yd (PN.o k b) (ya G0.o HG.o);have g1:(k:Z)<(ah fs:Z):=by omega
   have a:=ae (λW=>Sa fs[k] (SZ.o fs[k] (bN b)) W);have K:=ae (λW=>RZ fs[k] (SZ.o fs[k] (bN b)) W);have uj:=ae (λ(h:fq fs[k]\/jq fs[k] (gz fs[k]))=>show ∀l∈fs.take (k+1),fq l\/jq l (gz l) by
    intro l d;rw[kI b]at d;rcases List.mem_append.1 d with d|d
    ·exact HF.o l d
    ·simp only[List.mem_singleton]at d;subst d;exact h)
   have t:=ae (λ(p:¬fq fs[k]) (y:¬jq fs[k] (gz fs[k]))=>show IQ fs ⟨32,k,[]⟩from .inr ⟨l1,uZ,k,b,R,⟨p,λa d=>y (by rw[GL d];exact d)⟩,λj a=>by
    have d:fs[j]'(by omega)∈fs.take k:=by
     rw[List.mem_take_iff_getElem];exact⟨j,by omega,R⟩
    exact⟨_,_,Lp (HF.o _ d)⟩⟩)
   generalize fs[k]=l at *
   go_upto_region 7 with (go_at_call 19;refine(a.o _).mono ?_;rintro e X ⟨pv,pb,rfl,n,r⟩)
   have nP:=ae (ya HG.o r);have P:=yd G r;clear r a G
   go_upto_region 8 with (go_at_call 20;refine(K.o _).mono ?_;rintro e W6 ⟨am,cm,ub,rfl,A,z,h6⟩)
   have d:=ae (ya nP.o h6);have x:=ae n;have C:=ae A;clear h6 K P z n A
   cases pb with
   |true=>
    have E:=ae (uj.o (.inl (x.o.1 rfl)));go_wp2
    go_roundw
    case rel=>exact⟨k+1,by omega,by go_num,E.o,d.o⟩
    case measure=>simp[intOf];omega
   |false=>
    cases ub with
    |true=>
     have E:=ae (uj.o (.inr (C.o.1 rfl)));go_wp2
     go_roundw
     case rel=>exact⟨k+1,by omega,by go_num,E.o,d.o⟩
     case measure=>simp[intOf];omega
    |false=>
     have a:=ae (t.o (λc=>by have:=x.o.2 c;cases this) (λc=>by have:=C.o.2 c;cases this));obtain⟨⟨P,Q,U⟩,H,K,O⟩:=lE.o W6 d.o;go_wp2;obtain⟨⟨D,p,y⟩,G⟩:=Ep.o W6 32 k d.o _ R;refine bj (v:=aZ #[ak N 0 0,bY ⟨32,k,[]⟩]) ?_ R ⟨.inl ⟨_,by simp,R,a.o⟩,G⟩;clear P Q U H K O;generalize aK _ _ _=WF at *;simp[results,results8,go_sem,bY,bs,D,p,y]
  ·obtain rfl:k=ah fs:=by omega
   have t:=ae HF.o;rw[nS]at t;have g3:decide ((ah fs:Z)<(ah fs:Z))=F:=by simp
   have hsw:=G0.o.size;have Wj:=ae (adN t.o);have D0:=ae (show mO g (ak N 0 0) [] [] wr from ⟨World.ownsRow_nil _ _ _ _,R,λi h _=>by simp at h,by simp,λo p=>by simp at p,HG.o⟩);clear HF HG;go_wp2
   go_loopw [9,10] (λv i wr=>∃(k:M) (C:L M),k<=ah fs/\i=I J k/\mO g v C (gh ((fs.take k).map lB)) wr) (λ_ i _=>ah fs-(intOf i).toNat)
   case atStart=>exact⟨0,[],bG _,R,D0.o⟩
   case round=>
    clear D0;obtain⟨k,C,hk,rfl,a⟩:=hrel;have x:=ae a;obtain⟨ap,cp,rfl⟩:=yi a.row;clear a;have hfw:=Wj.o k;rw[List.length_take]at hfw;by_cases b:k<ah fs
    ·have G:=yd (PN.o k b) (ya G0.o x.o.gr);have g1:(k:Z)<(ah fs:Z):=by omega
     have D:=SZ.o fs[k] (bN b);have y:=t.o fs[k] (bN b);have F8:=ae (show gh ((fs.take (k+1)).map lB)=pK (gh ((fs.take k).map lB)) (lB fs[k]) by
      rw[kI b,List.map_append];exact abM _ _)
     generalize fs[k]=l at *;have a:=x.o.len;generalize gh ((fs.take k).map lB)=os at *;have aiv:ah C<=47:=by omega
     have ahB:=ae a;clear a;by_cases p:fq l
     ·have a:=ae (λW=>SA l p D W);have Q:=ae p.1;have O:=ae (show gh ((fs.take (k+1)).map lB)=os++[eE l] by rw[F8.o,J7 p];rfl);clear p y;generalize eE l=o at *;have U:ah os<48:=by omega
      go_upto_region 15 with (go_at_call 19;refine(a.o _).mono ?_;rintro e X ⟨z,rfl,H,r⟩)
      have d:=ae (x.o.kept r);have K:=ae H;have hs5:=d.o.gr.size;clear r a G H x;go_wp2_with (at_builtin;refine wpList_append_own_at _ R _ _ 36 rfl g.heap.size 67 i2 (.agg #[aM N]) 1 8 underlying36 hi2 hx0 hx1 hx2 R (by decide) _ _ _ R (d.o.row.alloc _) ⟨X.heap.size,0,N⟩ 1 1 [bO z] rfl rfl (vQ _ _ _) (by intro u a;simp at a;rcases a with rfl;rfl) (by unfold maxLen;omega) (by omega) (by simp;omega) ?_;intro v' w3 a n _ A;have P:=ae ((d.o.kept (aG X (.cells #[bO z] 67) N)).push (K.o.kept (aG X (.cells #[bO z] 67) N)) Q.o U n a);obtain⟨gR,cv',rfl⟩:=yi a;clear n a A)
      go_roundw
      case rel=>exact⟨k+1,C++[z],by omega,by go_num,by rw[O.o];exact P.o⟩
      case measure=>simp[intOf];omega
     ·have a:=ae (λW=>Sa l D W);have K:=ae (λW=>RZ l D W);have IA:=ae (y.resolve_left p);have NO:=ae p;have O:=ae (show gh ((fs.take (k+1)).map lB)=nU ((gz l).length+1) (fresh ((gz l).map eE)) os by
       rw[F8.o,KV p];unfold pK;rw[aD R,fZ])
      clear p y
      go_upto_region 15 with (go_at_call 19;refine(a.o _).mono ?_;rintro e X ⟨pv,pb,rfl,n,r⟩)
      have d:=ae (x.o.kept r);have P:=yd G r
      cases pb with
      |true=>exact absurd (n.1 rfl) NO.o
      |false=>
       clear r a G n x
       go_upto_region 18 with (go_at_call 20;refine(K.o _).mono ?_;rintro e W6 ⟨am,cm,ub,rfl,A,z,h6⟩)
       have H:=ae (d.o.kept h6);have hml:=IA.o.1.2;have cD:=ae (adK g _ C os am cm _ (gz l) W6 H.o z IA.o.2.1 (λm d=>by have:=Rk l _ m d;omega) hml (by omega));clear h6 K P A z d H;go_wp2_with fail;refine cD.o.mono ?_;rintro e W7 ⟨v7,Q,rfl,U⟩;have H:=ae U;obtain⟨aiB,aiG,rfl⟩:=yi U.row;clear U cD;go_wp2
       go_roundw
       case rel=>exact⟨k+1,Q,by omega,by go_num,by rw[O.o];exact H.o⟩
       case measure=>simp[intOf];omega
    ·obtain rfl:k=ah fs:=by omega
     have d:=ae x.o;rw[nS]at d;have a:=ae x.o.gr;have n:w.heap.size<g.heap.size:=hRl;obtain⟨⟨P,Q,U⟩,H,K,O⟩:=lE.o wr a.o;clear x;go_wp2;obtain⟨⟨D,p,y⟩,G⟩:=Ep.o wr 0 0 a.o _ R;refine bj (v:=aZ #[ak ap (ah C) cp,bY eM]) ?_ R ⟨.inr ⟨l1,uZ,t.o,ap,C,cp,R,?_⟩,G⟩
     ·clear P Q U H K O;generalize aK _ _ _=WF at *;simp[results,results8,go_sem,bY,eM,bs,D,p,y]
     ·exact d.o.Uj (pE (pE (bK _ _ 0 _) (bK _ _ 1 _)) (bK _ _ 2 _)) (dr.aO (BT.o wr a.o))
theorem V7(a l:L aL)(p n:M):br (a++l) (ah a+p) n=br l p n:=by
 induction n generalizing p with
 |zero=>rfl
 |succ n b=>
  have g:(a++l).getD (ah a+p) 0=l.getD p 0:=by rw[bQ,bQ,oB (by omega),rF]
  unfold br;rw[wm,b (p+1),g]
theorem V9(v:Z)(n:M)(b:L aL)(a:0<=v)(c:v<(256:Z) ^ n):br (bu v n++b) 0 n=v:=by
 have d:=dg v n;rw[<- Ng _ 0 n (by rw[bX];omega),EV,List.take_append_of_le_length (by omega),List.take_of_length_le (by omega)];exact Nz v n a c
theorem vE(a b:L aL)(v:Z)(n p:M)(e:ah a=p)(c:0<=v)(d:v<(256:Z) ^ n):br (a++(bu v n++b)) p n=v:=by
 have:=V7 a (bu v n++b) 0 n
 rw[sP,e]at this;rw[this,V9 v n b c d]
theorem IC(a:L Z):(dY a 4).length=4*ah a:=by
 induction a with
 |nil=>rfl
 |cons x a b=>
  have e:dY (x::a) 4=bu x 4++dY a 4:=R;rw[e,bX,dg,b,dA];omega
theorem IG(c:L Z):∀(a b:L aL) (p:M),ah a=p->(∀x∈c,0<=x/\x<4294967296)->qz (a++(dY c 4++b)) p (ah c)=c:=by
 induction c with
 |nil=>intro a b p _ _;rfl
 |cons x c g=>
  intro a b p d f;have e:dY (x::c) 4=bu x 4++dY c 4:=R;have h:=f x jU;rw[dA,Nf,e,cy,vE a (dY c 4++b) x 4 p d h.1 (by simpa using h.2)]
  congr 1
  have q:=g (a++bu x 4) b (p+4) (by rw[bX,dg,d]) (λy c=>f y (lJ _ c));rw[cy]at q;exact q
structure IB (m:cq):Prop where
 start:0<=m.start/\m.start<4294967296
 text:0<=m.text/\m.text<4294967296
 bw:0<=m.bw/\m.bw<4294967296
 data:0<=m.data/\m.data<4294967296
 Zn:m.T.length<=65535
 Zm:m.F.length<=65535
 Zl:m.D.length<=65535
 no:0<=m.fD/\m.fD<=65535
 T:∀x∈m.T,0<=x/\x<4294967296
 F:∀x∈m.F,0<=x/\x<4294967296
 D:∀x∈m.D,0<=x/\x<4294967296
theorem Wb(m:cq)(h:IB m):oy (iW m)=m/\vC (iW m)/\(iW m).take 2=[73,77]/\(iW m).length=26+4*(ah m.T+ah m.F+ah m.D):=by
 obtain⟨st,d,c,b,T,F,D,e⟩:=m;obtain⟨t,u,p,n,A,z,y,r,j,hF,g⟩:=h;simp only at t u p n A z y r j hF g;have E:iW ⟨st,d,c,b,T,F,D,e⟩=[73,77]++(bu st 4++(bu d 4++(bu c 4++(bu b 4++(bu (ah T:Z) 2++(bu (ah F:Z) 2++(bu (ah D:Z) 2++(bu e 2++(dY T 4++(dY F 4++(dY D 4++[]))))))))))):=by
  unfold iW;simp only[cy,lG]
 have a:(iW ⟨st,d,c,b,T,F,D,e⟩).length=26+4*(ah T+ah F+ah D):=by
  rw[E];simp only[bX,dg,IC,dA,List.length_nil];omega
 have U:(256:Z) ^ 2=65536:=by decide
 have f:(256:Z) ^ 4=4294967296:=by decide
 have B:br (iW ⟨st,d,c,b,T,F,D,e⟩) 2 4=st:=by rw[E];exact vE [73,77] _ st 4 2 rfl t.1 (by omega)
 have C:br (iW ⟨st,d,c,b,T,F,D,e⟩) 6 4=d:=by
  rw[E,<- cy];exact vE _ _ d 4 6 (by simp[dg]) u.1 (by omega)
 have G:br (iW ⟨st,d,c,b,T,F,D,e⟩) 10 4=c:=by
  rw[E,<- cy,<- cy];exact vE _ _ c 4 10 (by simp[dg]) p.1 (by omega)
 have H:br (iW ⟨st,d,c,b,T,F,D,e⟩) 14 4=b:=by
  rw[E,<- cy,<- cy,<- cy];exact vE _ _ b 4 14 (by simp[dg]) n.1 (by omega)
 have K:br (iW ⟨st,d,c,b,T,F,D,e⟩) 18 2=ah T:=by
  rw[E,<- cy,<- cy,<- cy,<- cy];exact vE _ _ _ 2 18 (by simp[dg]) (by omega) (by omega)
 have O:br (iW ⟨st,d,c,b,T,F,D,e⟩) 20 2=ah F:=by
  rw[E,<- cy,<- cy,<- cy,<- cy,<- cy];exact vE _ _ _ 2 20 (by simp[dg]) (by omega) (by omega)
 have P:br (iW ⟨st,d,c,b,T,F,D,e⟩) 22 2=ah D:=by
  rw[E,<- cy,<- cy,<- cy,<- cy,<- cy,<- cy];exact vE _ _ _ 2 22 (by simp[dg]) (by omega) (by omega)
 have Q:br (iW ⟨st,d,c,b,T,F,D,e⟩) 24 2=e:=by
  rw[E,<- cy,<- cy,<- cy,<- cy,<- cy,<- cy,<- cy];exact vE _ _ _ 2 24 (by simp[dg]) r.1 (by omega)
 have x:tK (iW ⟨st,d,c,b,T,F,D,e⟩)=ah T:=by unfold tK;rw[K];omega
 have w:uH (iW ⟨st,d,c,b,T,F,D,e⟩)=ah F:=by unfold uH;rw[O];omega
 have v:vF (iW ⟨st,d,c,b,T,F,D,e⟩)=ah D:=by unfold vF;rw[P];omega
 have V:qz (iW ⟨st,d,c,b,T,F,D,e⟩) 26 (ah T)=T:=by
  rw[E,<- cy,<- cy,<- cy,<- cy,<- cy,<- cy,<- cy,<- cy];exact IG T _ _ 26 (by simp[dg]) j
 have W:qz (iW ⟨st,d,c,b,T,F,D,e⟩) (26+4*ah T) (ah F)=F:=by
  rw[E,<- cy,<- cy,<- cy,<- cy,<- cy,<- cy,<- cy,<- cy,<- cy];exact IG F _ _ _ (by simp[dg,IC];omega) hF
 have X:qz (iW ⟨st,d,c,b,T,F,D,e⟩) (26+4*ah T+4*ah F) (ah D)=D:=by
  rw[E,<- cy,<- cy,<- cy,<- cy,<- cy,<- cy,<- cy,<- cy,<- cy,<- cy];exact IG D _ _ _ (by simp[dg,IC];omega) g
 refine⟨?_,?_,?_,a⟩
 ·unfold oy;rw[x,w,v,B,C,G,H,Q,V,W,X]
 ·unfold vC;rw[a,x,w,v]
 ·rw[E];rfl
theorem Sm(m:cq):Aj m↔(fc m.text/\fc m.bw/\fc m.data)/\rq m/\(fi m m.start).isSome=T:=by
 rw[EJ];unfold Aj rq qy qx pG;constructor
 ·rintro⟨a,b,c,d⟩;exact⟨a,⟨b,c⟩,d⟩
 ·rintro⟨a,⟨b,c⟩,d⟩;exact⟨a,b,c,d⟩
theorem abg(g:M)(m:cq)(w:av)(h:ij w g m)(a:ni m):
  Calls prog 45 #[aM (S ⟨g,0,none⟩)] w λe a=>aX e (Aj m)/\az w a none:=by
 have H:=ae h;have d:=ae a;obtain⟨B,K,D,G,C,E,c,-,-,-⟩:=h.open;have j:=c.cell 0;have x:=c.cell 1;have y:=c.cell 2;have z:=c.cell 3;simp only[List.getElem?_toArray,List.getElem?_cons_succ,bL]at j x y z;have f:=ae (λW=>Gy m.text W a.text.1 a.text.2);have u:=ae (λW=>Gy m.bw W a.bw.1 a.bw.2);have v:=ae (λW=>Gy m.data W a.data.1 a.data.2);have b:=ae (Sm m);generalize Aj m=Q at *;clear h a c;go_enter func45,ntmps45;go_wp2_with fail;refine(f.o w).mono ?_;rintro e V ⟨t,rfl⟩;rcases t.split with ⟨rfl,p⟩|⟨rfl,p⟩<;>clear t f
 ·go_wp2;go_ret;exact⟨aX.no λq=>p.o (b.o.1 q).1.1,aW _ _⟩
 go_wp2_with fail;refine(u.o _).mono ?_;rintro e V ⟨t,rfl⟩;rcases t.split with ⟨rfl,r⟩|⟨rfl,r⟩<;>clear t u
 ·go_wp2;go_ret;exact⟨aX.no λq=>r.o (b.o.1 q).1.2.1,aW _ _⟩
 go_wp2_with fail;refine(v.o _).mono ?_;rintro e V ⟨t,rfl⟩;rcases t.split with ⟨rfl,u⟩|⟨rfl,u⟩<;>clear t v
 ·go_wp2;go_ret;exact⟨aX.no λq=>u.o (b.o.1 q).1.2.2,aW _ _⟩
 go_wp2_with fail;refine(QT g m V H.o d.o).mono ?_;rintro e A ⟨t,f⟩;have c:=ae f;rcases t.split with ⟨rfl,v⟩|⟨rfl,v⟩<;>clear t
 ·go_wp2;go_ret;exact⟨aX.no λq=>v.o (b.o.1 q).2.1,c.o⟩
 replace j:=yd j f;clear f x y z;go_wp2_with fail;refine(GN g m m.start A (H.o.kept c.o) d.o d.o.start.1 d.o.start.2).mono ?_;rintro e y ⟨rfl,n,rfl⟩;have f:=ae (ye c.o n)
 cases x:(fi m m.start).isSome
 ·have N:=ae (show ¬Q from λq=>by have:=(b.o.1 q).2.2;rw[x]at this;cases this);go_wp2;go_ret;exact⟨aX.no N.o,f.o⟩
 ·have N:=ae (show Q from b.o.2 ⟨⟨p.o,r.o,u.o⟩,v.o,x⟩);go_wp2;go_ret;exact⟨aX.iV N.o,f.o⟩
theorem ab6(l:L aL)(a b:aL)(h:(bZ l 2 (0,F)).1=[a,b]):(bZ l 2 (0,F)).2=(2,F)/\2<=ah l/\l.take 2=[a,b]:=by
 unfold bZ at h ⊢;simp only[Cz,EV,mL]at h ⊢;split at h
 ·rename_i c;rw[aD c];exact⟨R,c,h⟩
 ·cases h
theorem abC(l:L aL)(a b:aL)(h:l.take 2=[a,b]):(bZ l 2 (0,F)).1=[a,b]:=by
 unfold bZ;simp only[Cz,EV]
 have:2<=ah l:=by have:=jz ah h;simp at this;omega
 rw[aD this];exact h
def afW(s:bT)(e:Ending)(w':av):Prop :=
 (xc (sl s)/\∃g,e=aH (aZ #[aM (S ⟨g,0,N⟩),I J 0])/\ij w' g (oy (sl s))) \/
 (¬xc (sl s)/\e=aH (aZ #[aM N,I J 23]))
theorem abp(s:bT)(w:av)(O:s.size<=1048576):
  Calls prog 18 #[aB s] w λe a=>afW s e a/\az w a none:=by
 have c:=iD s;have V:=ae (acV (sl s));go_enter func18,ntmps18;go_wp2_with fail;refine(KP s w).mono ?_;rintro e d ⟨rfl,f⟩;have a:cZ (d.alloc (.cells #[aB s,I J 0,aJ F] 99)) d.heap.size s 0 F:=heap_alloc_new d _;have E:=ae a;have A:=ae f;have B:=ae (aG d (.cells #[aB s,I J 0,aJ F] 99) none);have P:=ae f.size;clear a f;by_cases j:(bZ (sl s) 2 (0,F)).1=[73,77]
 ·have f:=ae (aaC d.heap.size s 0 F _ E.o O (bG _) j);obtain⟨a,n,u⟩:=ab6 _ _ _ j;rw[a]at f;have r:=ae (λh:vC (sl s)=>Wc (sl s) h);have G:=ae (Wd (sl s) n);have v:=ae (show xc (sl s)↔vC (sl s)/\Aj (oy (sl s))from ⟨λq=>q.2,λq=>⟨u,q⟩⟩);generalize vG (sl s) (2,F)=X at *;obtain⟨m,z,p⟩:=X;simp only at f G r;clear j a n u;go_wp2_with fail;refine f.o.mono ?_;rintro e x ⟨g,rfl,C,y,n,a⟩;have H:=ae y;have Q:=ae n;have u:=ae a;clear y n a C f;have a:=ae (Lo d.heap.size s z p x Q.o);go_wp2_with fail
  refine a.o.mono ?_;rintro e L ⟨rfl,n,rfl⟩;have C:=ae (ye (Ry (ya A.o B.o) u.o (by intro b e;simp at e;have:=P.o;omega)) n);clear a;by_cases f:p=F/\z=s.size
  ·obtain⟨rfl,rfl⟩:=f;have a:=G.o (by rw[c]);have U:=ae a;have y:m=oy (sl s):=jz Prod.fst (r.o a);subst y;have K:=ae (abg g (oy (sl s)) (x.drewN n) (H.o.kept (ye (aW _ _) n)) V.o);have Y:(!F&&decide (s.size=s.size))=T:=by simp
   clear a c;go_wp2_with fail;refine K.o.mono ?_;rintro e M ⟨t,q⟩;have D:=ae (ya C.o q);have W:=ae (H.o.kept (ya (ye (aW _ _) n) q));rcases t.split with ⟨rfl,a⟩|⟨rfl,a⟩<;>clear t q K
   ·go_wp2;go_ret2;exact⟨.inr ⟨λq=>a.o (v.o.1 q).2,R⟩,D.o⟩
   ·go_wp2;go_ret2;exact⟨.inl ⟨v.o.2 ⟨U.o,a.o⟩,g,R,W.o⟩,D.o⟩
  ·have N:=ae (show ¬xc (sl s)from λq=>by
    have:=jz Prod.snd (r.o (v.o.1 q).1)
    simp only[Prod.mk.injEq]at this;exact f ⟨this.2,by rw[<- c];exact this.1⟩)
   have Y:(!p&&decide (z=s.size))=F:=by
    cases p
    ·simp at f ⊢;exact f
    ·rfl
   clear c f;go_wp2;go_ret2;exact⟨.inr ⟨N.o,R⟩,C.o⟩
 ·have f:=ae (aa4 d.heap.size s 0 F _ E.o O (bG _) j);have N:=ae (show ¬xc (sl s)from λq=>j (abC _ _ _ q.1));clear j;go_wp2_with fail;refine f.o.mono ?_;rintro e x ⟨rfl,a⟩;have u:=ae a;clear a f;go_wp2;go_ret2;exact⟨.inr ⟨N.o,R⟩,Ry (ya A.o B.o) u.o (by intro b e;simp at e;have:=P.o;omega)⟩
def agH(W:av)(x:M)(m:cq):Prop:=∃g,aA W x #[aM (S ⟨g,0,N⟩)] 61/\ij W g m
def TO(s:bT)(e:Ending)(w':av):Prop :=
 (xc (sl s)/\∃x,e=aH (aZ #[aM (S ⟨x,0,N⟩),I J 0])/\agH w' x (oy (sl s))) \/
 (¬xc (sl s)/\e=aH (aZ #[aM N,I J 23]))
theorem ada(s:bT)(w:av)(h:s.size<=1048576):
  Calls prog 7 #[aB s] w λe a=>TO s e a/\az w a N:=by
 have a:=ae (abp s w h);go_enter func7,ntmps7;go_wp2_with fail;refine a.o.mono ?_;rintro e b ⟨f,c⟩;have G:=ae c;clear c a;rcases f with ⟨q,g,rfl,c⟩|⟨q,rfl⟩
 ·have Q:=ae q;have d:=ae c;clear q c;go_wp2;go_ret2;have a:=aG b (.cells #[aM (S ⟨g,0,N⟩)] 61) N;exact⟨.inl ⟨Q.o,b.heap.size,R,g,aA.new _ _ _,d.o.kept a⟩,ya G.o a⟩
 ·have Q:=ae q;clear q;go_wp2;go_ret2;exact⟨.inr ⟨Q.o,R⟩,G.o⟩
end Go.Proofs.YtaldcojpkflgpaaGreatDoor

namespace Go.Proofs.YtaldcojpkflgpaaGreatDoor
variable {bt aj bd:Z}
theorem agw{fs:L (L aL)}{s:L aL}{f:jv}(h:xm bt aj bd fs (aH (aZ #[aB (bs s),bY f])))(i:f.e≠0):s=[]:=by
 have g:∀l:L aL,bs s=bs l->s=l:=λl e=>by rw[<- ou s,e,ou]
 rcases h with ⟨j,-,a,-⟩|⟨-,-,-,m,k,-,a⟩
 ·simp[bY]at a;exact g [] a.1
 ·simp[bY]at a;obtain⟨a,b,-⟩:=a;rw[g _ a];unfold qE at b ⊢;split
  ·rfl
  ·split
   ·rfl
   ·rename_i c d;rw[ax c,ax d]at b;exact absurd b i
theorem Lw{l:L Z}(h:∀x∈l,0<=x/\x<4294967296)(i:M):0<=l.getD i 0/\l.getD i 0<4294967296:=by
 rw[bQ]
 cases e:l[i]? with
 |none=>decide
 |some x=>exact h x (List.mem_of_getElem? e)
theorem ae6{fs:L (L aL)}{s:L aL}{f:jv}(h:xm bt aj bd fs (aH (aZ #[aB (bs s),bY f])))(D:f.e=0):
  (1<=ah fs/\(ah fs)<=8)/\(∀l∈fs,fq l\/jq l (gz l))/\∃a ms,cO (gh (fs.map lB)) bt aj bd a ms/\xc s/\oy s=bS (gh (fs.map lB)) ms bt aj bd/\(ah s)<=1048576/\ni (bS (gh (fs.map lB)) ms bt aj bd)/\IB (bS (gh (fs.map lB)) ms bt aj bd):=by
 have Q:∀l:L aL,bs s=bs l->s=l:=λl e=>by rw[<- ou s,e,ou]
 rcases h with ⟨N,W,k,-⟩|⟨V,U,E,P,u,b,k⟩
 ·simp[bY]at k;omega
 ·have G:fs.map lB=P:=by
   refine List.ext_getElem (by simp[u]) λi a g=>?_
   rw[List.getElem_map];exact(SR (b i (by omega))).1
  refine⟨⟨U,E⟩,λl X=>?_,?_⟩
  ·obtain⟨i,a,rfl⟩:=kY X;exact(SR (b i a)).2
  ·rw[G];obtain⟨t,B⟩:=Ra u E b;obtain⟨z,y,w⟩:=Ru V;simp[bY]at k;obtain⟨k,n,-⟩:=k;have p:=Q _ k;generalize gh P=a at *;clear k b G;unfold qE at n p;by_cases c:(mI a).e≠0
   ·rw[aD c]at n;exact absurd (n ▸ D) c
   rw[ax c]at n p;by_cases d:(nT (kK a bt aj bd) (mJ a bt aj bd)).e≠0
   ·rw[aD d]at n;exact absurd (n ▸ D) d
   rw[ax d]at p;have O:=aaG (λo a=>(t o a).pos) (Mx.1 c);have M:jH a (fU (aS bt aj bd (fH a (a.map dV)))):=((jH.start a).lay bt aj bd).QD;obtain⟨v,J⟩:=UT (bt:=bt) (aj:=aj) (bd:=bd) R M t O;have K:=TF t B z y w;have d:=Mx.1 d;unfold nT at d;by_cases q:rq (kK a bt aj bd)
   case neg=>rw[aD q]at d;cases d
   rw[ax (not_not_intro q)]at d;by_cases r:(rD (mJ a bt aj bd)).e≠0
   ·rw[aD r]at d;exact absurd d r
   rw[ax r]at d;by_cases C:(fi (kK a bt aj bd) (kK a bt aj bd).start).isSome=T
   case neg=>rw[ax C]at d;cases d
   have A:=Rb (gX a ml) bt aj bd (oH bd (fU (aS bt aj bd (fH a (a.map dV))))) K.valid;have j:=K.Ex;have m:∀ {l:L Z},lV l->∀x∈l,0<=x/\x<4294967296:=λh x u=>by have:=h x u;omega
   have g:IB (kK a bt aj bd):=⟨j.start,j.text,j.bw,j.data,j.lens.1,j.lens.2.1,j.lens.2.2,j.fD,m A.1,m A.2.1,m A.2.2⟩
   obtain⟨H,Y,F,I⟩:=Wb _ g;refine⟨_,fU (aS bt aj bd (fH a (a.map dV))),⟨R,R,t,B,z,y,w,by rw[<- v];exact q,by rw[<- J];exact Mx.1 r,O⟩,?_,?_,?_,by rw[<- v];exact j,by rw[<- v];exact g⟩
   ·rw[p];exact⟨F,Y,by rw[H];exact(Sm _).2 ⟨⟨z,y,w⟩,q,C⟩⟩
   ·rw[p,H,v]
   ·rw[p,I]
    have:=g.Zn
    have:=g.Zm
    have:=g.Zl
    omega
theorem OC(os:L aF)(ins:L Z)(k:M)(S:bJ)(h:S.aU≠0):dM os ins k S=S:=by
 cases k with
 |zero=>rfl
 |succ k=>rw[dM,ax h]
theorem Jp(os:L aF)(ins:L Z):∀(k:M) (S:bJ),dM os ins (k+1) S=if (dM os ins k S).aU=0 then pP os ins (dM os ins k S)else dM os ins k S:=by
 intro k
 induction k with
 |zero=>intro S;rfl
 |succ k a=>
  intro S;by_cases h:S.aU=0
  ·rw[dM,aD h,a,show dM os ins (k+1) S=dM os ins k (pP os ins S) by rw[dM,aD h]]
  ·rw[OC os ins _ S h,OC os ins _ S h,ax h]
theorem Yf(os:L aF)(ins:L Z)(S:bJ)(j:M)(h:(dM os ins j S).aU≠0):∀n,j<=n->dM os ins n S=dM os ins j S:=by
 intro n a;obtain⟨d,rfl⟩:=Nat.exists_eq_add_of_le a;clear a
 induction d with
 |zero=>rfl
 |succ d a=>rw[<- wm,Jp,a,ax h]
theorem cO.YO{os:L aF}{b ms:L aI}(C:cO os bt aj bd b ms)(ins:L Z):∀k,(dM os ins k (gY os)).aU=0->∃st,eA os bt aj bd ms (dM os ins k (gY os)) st:=by
 intro k
 induction k with
 |zero=>intro _;exact⟨_,C.Mn⟩
 |succ k f=>
  intro h;rw[Jp]at h ⊢;by_cases c:(dM os ins k (gY os)).aU=0
  ·rw[aD c]at h ⊢;obtain⟨st,e⟩:=f c;rcases C.Mo e ins with ⟨-,_,_,d,-,a⟩|⟨a,-⟩|⟨a,-⟩
   ·exact⟨d,a⟩
   ·omega
   ·omega
  ·rw[ax c]at h;exact absurd h c
theorem cO.Wn{os:L aF}{b ms:L aI}(C:cO os bt aj bd b ms)(p c:M)(a:Z)(h:lD os (p,c))(d:-2048<=a/\a<=2047):dP os (gN os (dL os p c) a) :=
 (C.Ho (dL os p c) (λ_ a=>DG C.val h a) a d).2.1
end Go.Proofs.YtaldcojpkflgpaaGreatDoor

namespace Go.Proofs.YtaldcojpkflgpaaGreatDoor
open Go.RowKit Go.Proofs.Tryz
section
variable{s:bT}{b:M}{a:L Value}{w:av}{k:M}{W:av}
theorem mC.cells(h:mC s b a w k W):
  (aq W ⟨b,0,N⟩=S (aB s)/\aq W ⟨b,1,N⟩=S (I J k)/\dx W ⟨b,1,N⟩=F) /\
  (aq W ⟨w.heap.size,0,N⟩=S (I J 0)/\aq W ⟨w.heap.size,1,N⟩=S (I J 0)/\aq W ⟨w.heap.size,2,N⟩=S (aB ⟨#[]⟩)/\aq W ⟨w.heap.size,3,N⟩=S (I J 0)) /\
  (dx W ⟨w.heap.size,0,N⟩=F/\dx W ⟨w.heap.size,1,N⟩=F/\dx W ⟨w.heap.size,2,N⟩=F/\dx W ⟨w.heap.size,3,N⟩=F) /\
  (aq W ⟨w.heap.size+1,0,N⟩=S (I J 0)/\aq W ⟨w.heap.size+1,1,N⟩=S (I J 0)/\aq W ⟨w.heap.size+1,2,N⟩=S (aB ⟨#[]⟩)) /\
  (dx W ⟨w.heap.size+1,0,N⟩=F/\dx W ⟨w.heap.size+1,1,N⟩=F/\dx W ⟨w.heap.size+1,2,N⟩=F) :=
 ⟨⟨h.sc.c0,h.sc.c1,h.sc.f1⟩,⟨h.t.cell 0,h.t.cell 1,h.t.cell 2,h.t.cell 3⟩,⟨h.t.free 0,h.t.free 1,h.t.free 2,h.t.free 3⟩,⟨h.f.cell 0,h.f.cell 1,h.f.cell 2⟩,⟨h.f.free 0,h.f.free 1,h.f.free 2⟩⟩
theorem mC.laid(h:mC s b a w k W)(l:b<w.heap.size)(d i j:Value){c:av}(e:c=pV (pV W w.heap.size [(0,d),(1,i),(2,j),(3,I J 0)]) (w.heap.size+1) [(0,I J 0),(1,I J 0),(2,aB ⟨#[]⟩)]):
  (aq c ⟨w.heap.size,0,N⟩=S d/\aq c ⟨w.heap.size,1,N⟩=S i/\aq c ⟨w.heap.size,2,N⟩=S j/\aq c ⟨w.heap.size,3,N⟩=S (I J 0)) /\
  (aq c ⟨w.heap.size+1,0,N⟩=S (I J 0)/\aq c ⟨w.heap.size+1,1,N⟩=S (I J 0)/\aq c ⟨w.heap.size+1,2,N⟩=S (aB ⟨#[]⟩))/\fM s b a k c/\az w c (S b):=by
 subst e;obtain⟨t,f,m,g⟩:=h.put l d i j (I J 0) (I J 0) (I J 0) (aB ⟨#[]⟩);exact⟨⟨t.cell 0,t.cell 1,t.cell 2,t.cell 3⟩,⟨f.cell 0,f.cell 1,f.cell 2⟩,m,g⟩
end
theorem afi(s:bT)(b:M)(i:L Value)(p:M)(w:av)(h:fM s b i p w)(hs:s.size<=1000)(hp:p<=s.size)
  (D:∀c,(sl s)[fP na (sl s) p]?=S c->ng c=T\/(ng c=F/\mb c=F/\(gA c=T\/(gA c=F/\wQ c=T)))) :
  Calls prog 196 #[aM (S ⟨b,0,none⟩)] w λe a=>e=aH (xp (zT (sl s) p))/\fM s b i (zT (sl s) p).2.2 a/\az w a (S b):=by
 have l:=aA.lt h;have d:=ae (mC.begin h);have E:fP na (sl s) p<=s.size:=by have:=Tl (f:=na) (s:=sl s) (k:=p) (by rw[iD];exact hp);rw[iD]at this;exact this
 have n:=ae (λW a=>Z0 s b i p W a hs hp);have t:=ae (show zT (sl s) p=Hv (sl s) (fP na (sl s) p)from R);clear h;generalize zT (sl s) p=a at *;generalize fP na (sl s) p=q at *;have x:=ae (λW a=>adM s b i q W a hs E);have cW:=ae (λW a=>aa0 s b i q W a hs E);unfold Hv at t;have u:=ae D;clear D;go_enter func196,ntmps196;go_wp2_with fail;refine Calls.fK (mC s b i w p) d.o ?_;clear d;intro V m;refine(n.o V m.sc).mono ?_;rintro e V1 ⟨rfl,g,j⟩;have d:=ae (m.call l g j);clear m g j n V;have c1:=d.o.sc.c1
 go_wp2_with fail;refine(x.o V1 d.o.sc).mono ?_;rintro e V2 ⟨rfl,nn,rfl⟩;have n:=ae (d.o.drewN nn);clear d x c1;generalize V1.drewN nn=V2 at *;have K:((((sl s)[q]?.map ng).getD T)=T/\a=(⟨4,q,[],0⟩,(0,0),q))\/∃d:q<s.size,(((sl s)[q]?.map ng).getD T)=F/\mb (s[q]'d)=F/\((gA (s[q]'d)=T/\a=(⟨1,q,((sl s).drop q).takeWhile gA,0⟩,(0,0),fP gA (sl s) q))\/(gA (s[q]'d)=F/\wQ (s[q]'d)=T/\a=(⟨3,q,[s[q]'d],0⟩,(0,0),q+1))):=by
  have r:=t.o;by_cases d:q<s.size
  ·have e:(sl s)[q]?=S (s[q]'d):=by rw[bW (by rw[iD];exact d)];rfl
   have o:=u.o _ e;rw[e]at r ⊢;simp only at r;rcases o with o|⟨j,m,g|⟨g,x⟩⟩
   ·exact .inl ⟨o,by rw[r,aD o]⟩
   ·exact .inr ⟨d,j,m,.inl ⟨g,by rw[r,j,m,g];rfl⟩⟩
   ·exact .inr ⟨d,j,m,.inr ⟨g,x,by rw[r,j,m,g,x];rfl⟩⟩
  ·rw[List.getElem?_eq_none (by rw[iD];omega)]at r ⊢;exact .inl ⟨R,r⟩
 clear t u;rcases K with ⟨k1,C⟩|⟨d,k1,k2,⟨k3,C⟩|⟨k3,k4,C⟩⟩
 ·rw[k1];have B:=ae C;clear C;obtain⟨⟨c0,c1,f1⟩,⟨G,H,t2,t3⟩,⟨O,P,Q,U⟩,⟨X,Y,N⟩,⟨y0,y1,y2⟩⟩:=n.o.cells;go_wp2;obtain⟨⟨t,u,x,y⟩,⟨m,z,A⟩,g,j⟩:=n.o.laid l (I J 4) (I J q) (aB ⟨#[]⟩) R;refine bj (v:=xp a) ?_ R ⟨R,by rw[B.o];exact g,j⟩;rw[B.o];clear g j G H t2 t3 O P Q U X Y N y0 y1 y2 n;simp only[pV,sL,vY]at t u x y m z A;generalize aK _ _ _=g at *;simp[results,results196,go_sem,xp,gT,BX,bs,t,u,x,y,m,z,A]
 all_goals
  rw[k1];have g:=ae (λW=>adJ (s[q]'d) W);have j:=ae (λW=>RA (s[q]'d) W);rw[k2]at g;rw[k3]at j;have c0:=n.o.sc.c0;have m:(0:Z)<=(q:Z):=by omega
  have t:(q:Z)<(s.size:Z):=by omega
  have B:=ae C;clear k1 k2 k3 C;go_wp2_with (first|(go_at_call 216;refine(g.o _).mono ?_;rintro e w1 ⟨rfl,rfl⟩)|(go_at_call 218;refine(j.o _).mono ?_;rintro e w1 ⟨rfl,rfl⟩)|fail)
 ·have hr:=Tl (f:=gA) (s:=sl s) (k:=q) (by rw[iD];omega);rw[iD]at hr;have hr2:=agA gA (sl s) q;have th:=ae (show s.extract q (fP gA (sl s) q)=bs (((sl s).drop q).takeWhile gA)from by
   rw[DB];unfold fP;rw[rF];exact jz bs (List.prefix_iff_eq_take.1 (List.takeWhile_prefix gA)).symm)
  clear c0;refine(cW.o _ n.o.sc).mono ?_;rintro e ke ⟨rfl,g,j⟩;have H3:=ae (n.o.call l g j);clear g j cW n;generalize fP gA (sl s) q=r at *;generalize ((sl s).drop q).takeWhile gA=tx at *;have g3:(q:Z)<=(r:Z):=by omega
  have g4:(r:Z)<=(s.size:Z):=by omega
  obtain⟨⟨c0,c1,f1⟩,⟨G,H,t2,t3⟩,⟨O,P,Q,U⟩,⟨X,Y,N⟩,⟨y0,y1,y2⟩⟩:=H3.o.cells;go_wp2
  go_region
  go_wp2;rw[th.o];obtain⟨⟨t,u,x,y⟩,⟨m,z,A⟩,g,j⟩:=H3.o.laid l (I J 1) (I J q) (aB (bs tx)) R;refine bj (v:=xp a) ?_ R ⟨R,by rw[B.o];exact aA.Nh g,yf j⟩;rw[B.o];clear g j G H t2 t3 O P Q U X Y N y0 y1 y2 H3;simp only[pV,sL,vY]at t u x y m z A;simp[results,results196,go_sem,xp,gT,BX,t,u,x,y,m,z,A]
 ·have cS:=ae (λW=>acX (s[q]'d) W);rw[k4]at cS;clear k4;obtain⟨⟨-,c1,f1⟩,⟨G,H,t2,t3⟩,⟨O,P,Q,U⟩,⟨X,Y,N⟩,⟨y0,y1,y2⟩⟩:=n.o.cells;have th:=ae (show s.extract q (q+1)=bs [s[q]'d]from by rw[DB,rF];exact jz bs (by rw[List.drop_eq_getElem_cons (by rw[iD];exact d)];rfl));have g3:(q:Z)+1<=(s.size:Z):=by omega
  have g4:(q:Z)<=(q:Z)+1:=by omega
  refine(cS.o _).mono ?_;rintro e w1 ⟨rfl,rfl⟩;go_wp2
  go_region
  go_wp2;rw[th.o];obtain⟨⟨t,u,x,y⟩,⟨m,z,A⟩,g,j⟩:=(show mC s b i w (q+1) (aK w1 ⟨b,1,none⟩ (I J ((q:Z)+1)))from n.o.step l (q+1)).laid l (I J 3) (I J q) (aB (bs [s[q]'d])) R;refine bj (v:=xp a) ?_ R ⟨R,by rw[B.o];exact aA.Nh g,yf j⟩;rw[B.o];clear g j G H t2 t3 O P Q U X Y N y0 y1 y2 n;simp only[pV,sL,vY]at t u x y m z A;simp[results,results196,go_sem,xp,gT,BX,t,u,x,y,m,z,A]
