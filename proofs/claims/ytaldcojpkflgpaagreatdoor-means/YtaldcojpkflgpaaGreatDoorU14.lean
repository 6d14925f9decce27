import Derived.Test.YtaldcojpkflgpaaGreatDoorU13
import Derived.Deep.RegionHeld3
import Derived.Laws.CopyRow
import Derived.Deep.CutRange
set_option maxHeartbeats 16000000
set_option maxRecDepth 100000
open Go.Value renaming int->I,pointer->aM,bool->aJ,slice->ak,string->aB,tuple->aZ,ownBlock->eW
open Go.IntKind renaming i64->J
open _root_ renaming Int->Z,List->L,Nat->M,Array->dJ,rfl->R,if_pos->aD,if_neg->ax,decide_eq_true_iff->gO,decide_eq_false->gF,decide_eq_true->kB,decide_eq_false_iff_not->uX,decide_eq_decide->LJ,Option->aR
open Go renaming World->av,Value->aC,Addr->aY,bodyPost_ret->bj,TypeId->dm,wpList_append_own->jI,cell_one_new->qt,setRow_other->Na,wpAnyH_ready->ee,wpAnyH_done->ox
open List renaming length->ah,getElem_mem->bN,getD_eq_getElem?_getD->bQ,getElem?_eq_getElem->bW,replicate->eP,getElem?_append_left->rz,getElem?_append_right->oB,getElem?_replicate->Ao,getElem?_toArray->bI,getElem?_cons_succ->bB,getElem_toArray->nQ,getElem_cons_succ->lH,getElem_cons_zero->nj,length_set->lI,getElem?_set_self->I5,getElem?_set_ne->Ap,setIfInBounds_toArray->dt,getElem?_set->EY,set_cons_succ->dB
open Nat renaming le_refl->bz,zero_add->mL,zero_le->bG,add_sub_cancel_left->rF
open Bool renaming true->T,and_eq_true->jO,or_eq_true->BU,not_true->BS,false_or->D9,not_eq_true'->zW,true_and->Mt,false->F,decide_and->Ms
open Int renaming toNat_natCast->dy
open Option renaming some->S,none->N
open Go.Ending renaming returned->aH
open Go.World renaming grownBy->az,grownBy_alloc->aG,setCell->aK,cell?->aq,frozen?->dx,ownsRow->aV,ownsRow_nil->eO,cell?_of_block->Vt
open Go.World.grownBy renaming refl->aW
open Array renaming size_push->js
open Go.AllReadyH renaming cons->dX,nil->eN
namespace Go.Proofs.YtaldcojpkflgpaaGreatDoor
open Go.RowKit Go.Proofs.Tryz
variable {x y r:Z} {os:L aF} {n X g cap:M} {W:av} {m:cq} {O:dJ aC} {st:bC} {ins:L Z}
theorem Yb(s:M):∀(l r:L aI) (a:Z),dn s (l++r) a=dn s r (dn s l a):=by
 intro l
 induction l with
 |nil=>intro r a;rfl
 |cons m l b=>intro r a;rw[List.cons_append,dn,dn,b]
theorem OM(s:Nat)(c:1<=s)(d:s<=4)(ms:L aI)(a:Z)(f:∀m∈ms,yl m.obj)(h:0<=a)(k:a+9664*ah ms<=1099511627776)(i j:Nat)(b:i<=j):dn s (ms.take i) a<=dn s (ms.take j) a:=by
 have e:ms.take j=ms.take i++(ms.take j).drop i:=by
  have:=List.take_append_drop i (ms.take j)
  rw[List.take_take,Nat.min_eq_left b]at this;exact this.symm
 have M:=tc s c d ms a f h (by omega) i;have l:((ms.take j).drop i).length<=ah ms:=by rw[List.length_drop,List.length_take];omega
 rw[e,Yb]
 have:=yg s c d ((ms.take j).drop i) (dn s (ms.take i) a) (λm b=>f m (List.mem_of_mem_take (List.mem_of_mem_drop b))) (by omega) (by omega)
 exact this.1
section
variable{os:L aF}{bt aj bd:Z}{d ms:L aI}(C:cO os bt aj bd d ms)
include C
theorem cO.from_(s:M):0<=eD bt aj bd ms s/\eD bt aj bd ms s+9664*ah ms<=1099511627776:=by
 have:=My C.gn C.kg ⟨C.tB.1,C.tB.2.1⟩ ⟨C.fL.1,C.fL.2.1⟩ ⟨C.gm.1,C.gm.2.1⟩ s
 have:=C.kg
 omega
theorem cO.Ir(i s k:Nat)(e:i<ah os)(b:1<=s)(c:s<=4)(l:k<=(aQ os[i] s).length):
  dn s (ms.take i) (eD bt aj bd ms s)<=(bg bt aj bd ms i s).getD 0 0/\(bg bt aj bd ms i s).getD 0 0<=(bg bt aj bd ms i s).getD k 0/\(bg bt aj bd ms i s).getD k 0<=dn s (ms.take (i+1)) (eD bt aj bd ms s):=by
 have a:i<ah ms:=by rw[C.len];exact e
 have f:=C.obj i e a;have h:=C.from_ s;have M:=tc s b c ms (eD bt aj bd ms s) C.gn h.1 (by omega) i;have p:=C.kg;have R:=ma (dn s (ms.take i) (eD bt aj bd ms s)) (eJ ms[i] s) (by omega) (by omega) (Ad (C.gn _ (bN a)) s b c);unfold bg;rw[vi s ms _ i a,Ec s ms _ i a,HZ,f];have j:=UE ms[i] s (aQ os[i] s) 0 (du (dn s (ms.take i) (eD bt aj bd ms s)) (eJ ms[i] s)) k l;have o:=(ze ms[i] s (aQ os[i] s) 0 (du (dn s (ms.take i) (eD bt aj bd ms s)) (eJ ms[i] s))).2 ((dU ms[i] s 0 (aQ os[i] s) (du (dn s (ms.take i) (eD bt aj bd ms s)) (eJ ms[i] s))).getD k 0) (by
  rw[bQ,bW (by rw[(ze _ _ _ _ _).1];omega)];exact bN _)
 exact⟨R.1,o.1,j⟩
theorem cO.BG(i s k:M)(b:i<ah os)(h:s=3\/s=4)(f:k<=(aQ os[i] s).length):
  (bg bt aj bd ms i s).getD k 0=(bg bt aj bd ms i s).getD 0 0+4*k:=by
 have a:i<ah ms:=by rw[C.len];exact b
 have e:=C.obj i b a;have c:=C.gn _ (bN a);unfold bg;rw[vi s ms _ i a,HZ];exact(Cd c (s:Z) (by omega) (aQ ms[i].obj s) 0 _).1 k (by rw[e];exact f)
theorem cO.BJ(i s:M)(h:i<ah os)(k:s=3\/s=4):bd<=(bg bt aj bd ms i s).getD 0 0/\(bg bt aj bd ms i s).getD 0 0+4*((aQ os[i] s).length:Z)<=ez bt aj bd ms 4/\(s=3->(bg bt aj bd ms i s).getD 0 0+4*((aQ os[i] s).length:Z)<=ez bt aj bd ms 3)/\(s=4->ez bt aj bd ms 3<=(bg bt aj bd ms i s).getD 0 0):=by
 have I:=C.Ir i s (aQ os[i] s).length h (by omega) (by omega) (bz _);rw[C.BG i s _ h k (bz _)]at I;have l:=C.from_ 3;have o:=C.from_ 4;have e:=λj=>tc 3 (by omega) (by omega) ms (eD bt aj bd ms 3) C.gn l.1 (by omega) j
 have f:=λj=>tc 4 (by omega) (by omega) ms (eD bt aj bd ms 4) C.gn o.1 (by omega) j
 have p:eD bt aj bd ms 3=bd:=R;have q:eD bt aj bd ms 4=ez bt aj bd ms 3:=R;have t:ez bt aj bd ms 3=dn 3 ms (eD bt aj bd ms 3):=R;have u:ez bt aj bd ms 4=dn 4 ms (eD bt aj bd ms 4):=R;rcases k with rfl|rfl
 ·have a:=e i;have b:=e (i+1);have c:=f 0;refine⟨by omega,by omega,λ_=>by omega,λc=>absurd c (by decide)⟩
 ·have a:=f i;have b:=f (i+1);have c:=e 0;refine⟨by omega,by omega,λc=>absurd c (by decide),λ_=>by omega⟩
theorem cO.QC(i s c f:M)(o:i<ah os)(j:c<ah os)(l:s=3\/s=4)(p:f=3\/f=4)(t:i≠c\/s≠f):
  (bg bt aj bd ms i s).getD 0 0+4*((aQ os[i] s).length:Z)<=(bg bt aj bd ms c f).getD 0 0\/(bg bt aj bd ms c f).getD 0 0+4*((aQ os[c] f).length:Z)<=(bg bt aj bd ms i s).getD 0 0:=by
 have A:=C.BJ i s o l;have B:=C.BJ c f j p;by_cases e:s=f
 ·subst e;have k:=C.from_ s;have I:=C.Ir i s (aQ os[i] s).length o (by omega) (by omega) (bz _);have q:=C.Ir c s (aQ os[c] s).length j (by omega) (by omega) (bz _);rw[C.BG i s _ o l (bz _)]at I;rw[C.BG c s _ j l (bz _)]at q;rcases (show i<c\/c<i by omega)with h|h
  ·have:=OM s (by omega) (by omega) ms _ C.gn k.1 k.2 (i+1) c (by omega)
   left;omega
  ·have:=OM s (by omega) (by omega) ms _ C.gn k.1 k.2 (c+1) i (by omega)
   right;omega
 ·rcases l with rfl|rfl
  ·obtain rfl:f=4:=by omega
   have a:=A.2.2.1 rfl;have b:=B.2.2.2 rfl
   left;omega
  ·obtain rfl:f=3:=by omega
   have a:=A.2.2.2 rfl;have b:=B.2.2.1 rfl
   right;omega
theorem cO.Ml:((bS os ms bt aj bd).D.length:Z)=(ez bt aj bd ms 3-bd)/4/\bd+4*(((bS os ms bt aj bd).D++eP (bS os ms bt aj bd).fD.toNat 0).length:Z)=ez bt aj bd ms 4:=by
 obtain⟨j,k,l⟩:=AH C.gn C.kg C.tB C.fL C.gm;have E:=(MK (os:=os) C.gn C.kg C.tB C.fL C.gm).2.2;have f:=Rt bt aj bd C.gn;have c:=C.from_ 4;have h:=tc 4 (by omega) (by omega) ms (eD bt aj bd ms 4) C.gn c.1 (by omega) 0;have i:eD bt aj bd ms 4=ez bt aj bd ms 3:=R;have o:ez bt aj bd ms 4=dn 4 ms (eD bt aj bd ms 4):=R;have a:(bS os ms bt aj bd).D.length=(dZ (aS bt aj bd ms) 3 bd 0 (aS bt aj bd ms) []).length:=R;have e:(bS os ms bt aj bd).fD=oH bd ms:=R;have b:pG (bS os ms bt aj bd)=bd+4*(((bS os ms bt aj bd).D.length:Z)+(bS os ms bt aj bd).fD):=R
 rw[List.length_append,List.length_replicate];rw[b]at E;refine⟨by rw[a];omega,?_⟩
 have:0<=(bS os ms bt aj bd).fD:=by rw[e,f];omega
 omega
theorem cO.Wp(i k:M)(a:i<ah os)(l:k<(aQ os[i] 3).length)(b:i<(aS bt aj bd ms).length):
  ((bS os ms bt aj bd).D++eP (bS os ms bt aj bd).fD.toNat 0).getD ((((bg bt aj bd ms i 3).getD 0 0+4*k-bd)/4).toNat) 0=iZ (aS bt aj bd ms) (aS bt aj bd ms)[i] 3 (4*(k:Z)) (aQ os[i] 3)[k]:=by
 have f:i<ah ms:=by rw[C.len];exact a
 have h:=C.obj i a f;have e:yp ms[i].obj ((3:M):Z)=aQ os[i] 3:=by rw[h,me _ 3 (by omega)]
 have c:k<(yp ms[i].obj ((3:M):Z)).length:=by rw[e];exact l
 have q:=C.BG i 3 k a (.inl R) (by omega);have t2:=C.BG i 3 (k+1) a (.inl R) (by omega);obtain⟨g,W⟩:=H6 C.gn C.kg 3 (by omega) (by omega) bd 0 rfl C.gm.1 C.gm.2.1 C.gm.2.2 i k f b c (by omega);have j:(yp ms[i].obj ((3:M):Z))[k]=(aQ os[i] 3)[k]:=by simp only[e]
 rw[j,q]at W;have p:(((bg bt aj bd ms i 3).getD 0 0+4*k-bd)/4).toNat<(bS os ms bt aj bd).D.length:=(List.getElem?_eq_some_iff.1 W).1;rw[bQ,rz p];exact congrArg (λo=>Option.getD o 0) W
theorem cO.Xf(i k:M)(e:i<ah os):
  ((bS os ms bt aj bd).D++eP (bS os ms bt aj bd).fD.toNat 0).getD ((((bg bt aj bd ms i 4).getD 0 0+4*k-bd)/4).toNat) 0=0:=by
 have A:=C.BJ i 4 e (.inr R);have b:=A.2.2.2 rfl;have a:=C.Ml;have c:=C.from_ 3;have f:=tc 3 (by omega) (by omega) ms (eD bt aj bd ms 3) C.gn c.1 (by omega) 0;have h:eD bt aj bd ms 3=bd:=R;have j:ez bt aj bd ms 3=dn 3 ms (eD bt aj bd ms 3):=R;rw[bQ,oB (by omega),Ao];split<;>rfl
end
structure fJ (T:M->M->L Z) (v:bD) (x:Z):Prop where
 n:v.k=0->x=v.n
 p:v.k=1->x=bn ((T v.part.toNat v.au.toNat).getD 0 0+v.off)
 c:v.k=2->x=(T v.part.toNat v.au.toNat).getD (v.off/4).toNat 0
structure dP (os:L aF) (v:bD):Prop where
 k:0<=v.k/\v.k<=3
 n:0<=v.n/\v.n<4294967296
 off:-17179869184<=v.off/\v.off<=17179869184
 p:v.k=1->(0<=v.part/\v.part<os.length)/\(v.au=3\/v.au=4)/\(-1048576<=v.off/\v.off<=1048576)
 c:v.k=2->(0<=v.part/\v.part<os.length)/\(v.au=1\/v.au=2)/\(0<=v.off/\v.off<=kN os v.part v.au/\v.off%4=0)
theorem sT(os:L aF)(n:Z):dP os (dv n):=by
 have:=mo n
 exact⟨⟨by show (0:Z)<=0;decide,by show (0:Z)<=3;decide⟩,this,⟨by show (-17179869184:Z)<=0;decide,by show (0:Z)<=17179869184;decide⟩,λh=>absurd (show (0:Z)=1 from h) (by decide),λh=>absurd (show (0:Z)=2 from h) (by decide)⟩
theorem wA(os:L aF):dP os bV:=⟨⟨by decide,by decide⟩,⟨by decide,by decide⟩,⟨by decide,by decide⟩,λh=>absurd h (by decide),λh=>absurd h (by decide)⟩
theorem uS(T:M->M->L Z)(n x:Z)(h:x=bn n):fJ T (dv n) x:=⟨λ_=>h,λh=>absurd (show (0:Z)=1 from h) (by decide),λh=>absurd (show (0:Z)=2 from h) (by decide)⟩
theorem Bt(T:M->M->L Z)(x:Z):fJ T bV x:=⟨λh=>absurd h (by decide),λh=>absurd h (by decide),λh=>absurd h (by decide)⟩
theorem FK{T:M->M->L Z}{v:bD}(h:v.k=3):fJ T v x:=⟨λc=>by omega,λc=>by omega,λc=>by omega⟩
theorem X0(a n:Z):bn (bn a+n)=bn (a+n):=by unfold bn;omega
theorem qG(a:0<=x)(b:x<4294967296):bn x=x:=by unfold bn;omega
theorem Oz(x a:Z):bn (a+cK x)=bn (a+x):=by unfold bn cK;split<;>omega
theorem XX(x a:Z):bn (a + -(cK x))=bn (a-x):=by unfold bn cK;split<;>omega
theorem FM(a:0<=x)(b:x<4294967296):-2147483648<=cK x/\cK x<=2147483647:=by unfold cK;split<;>omega
theorem zA{v:bD}(h:dP os v)(n:Z)(e:-4294967296<=n)(f:n<=4294967296):dP os (fB v n):=by
 unfold fB;by_cases b:v.k=0
 ·rw[aD b];exact sT os _
 rw[ax b];by_cases a:v.k=1
 ·rw[aD a];have p:=h.p a;split
  ·exact⟨⟨by show (0:Z)<=3;decide,by show (3:Z)<=3;decide⟩,h.n,⟨by dsimp only;omega,by dsimp only;omega⟩,λc=>absurd c (by dsimp only;decide),λc=>absurd c (by dsimp only;decide)⟩
  ·exact⟨h.k,h.n,⟨by dsimp only;omega,by dsimp only;omega⟩,λ_=>⟨p.1,p.2.1,by dsimp only;omega⟩,λc=>absurd (a.symm.trans c) (by decide)⟩
 rw[ax a];by_cases d:v.k=2
 ·rw[aD d];split
  ·exact⟨⟨by show (0:Z)<=3;decide,by show (3:Z)<=3;decide⟩,h.n,h.off,λc=>absurd c (by dsimp only;decide),λc=>absurd c (by dsimp only;decide)⟩
  ·exact h
 ·rw[ax d];exact h
section
variable{os:L aF}{bt aj bd:Z}{d ms:L aI}(C:cO os bt aj bd d ms)
include C
theorem cO.LW(i s k:M)(a:1<=s)(b:s<=4):0<=(bg bt aj bd ms i s).getD k 0/\(bg bt aj bd ms i s).getD k 0<=2147483648:=agD C.gn C.kg ⟨C.tB.1,C.tB.2.1⟩ ⟨C.fL.1,C.fL.2.1⟩ ⟨C.gm.1,C.gm.2.1⟩ i s k a b
theorem cO.plus{v:bD}(h:fJ (bg bt aj bd ms) v x)(j:dP os v)(n:Z):fJ (bg bt aj bd ms) (fB v n) (bn (x+n)):=by
 unfold fB;by_cases f:v.k=0
 ·rw[aD f,h.n f];exact uS _ _ _ R
 rw[ax f];by_cases a:v.k=1
 ·rw[aD a];split
  ·exact FK R
  ·refine⟨λc=>absurd (a.symm.trans c) (by decide),λ_=>?_,λc=>absurd (a.symm.trans c) (by decide)⟩;rw[h.p a,X0]
   congr 1
   dsimp only;omega
 rw[ax a];by_cases b:v.k=2
 ·rw[aD b];by_cases i:n≠0
  ·rw[aD i];exact FK R
  ·rw[ax i];obtain rfl:n=0:=by omega
   have o:=j.c b;have r:=C.LW v.part.toNat v.au.toNat (v.off/4).toNat (by omega) (by omega)
   have e:=h.c b;rw[Int.add_zero,qG (by omega) (by omega)];exact h
 ·rw[ax b];exact FK (by have:=j.k;omega)
theorem cO.does{a b:bD}(f:fJ (bg bt aj bd ms) a x)(h:fJ (bg bt aj bd ms) b y)(q:dP os a)(s:dP os b)(c:Z):fJ (bg bt aj bd ms) (tT c a b) (bn (jw c x y)):=by
 have o:c=18\/c=13->jw c x y=x+y:=by
  rintro (rfl|rfl)<;>rfl
 have p:c=19->jw c x y=x-y:=by
  rintro rfl;rfl
 unfold tT;by_cases i:a.k=0/\b.k=0
 ·rw[aD i,f.n i.1,h.n i.2];exact uS _ _ _ (by unfold bn;omega)
 rw[ax i];by_cases j:(c=18\/c=13)/\b.k=0
 ·rw[aD j,o j.1,<- Oz,h.n j.2];exact C.plus f q _
 rw[ax j];by_cases k:c=18/\a.k=0
 ·rw[aD k,o (.inl k.1),Int.add_comm,<- Oz,f.n k.2];exact C.plus h s _
 rw[ax k];by_cases l:c=19/\b.k=0
 ·rw[aD l,p l.1,<- XX,h.n l.2];exact C.plus f q _
 rw[ax l];by_cases e:c=19/\a.k=1/\b.k=1/\a.part=b.part/\a.au=b.au
 ·rw[aD e,p e.1,f.p e.2.1,h.p e.2.2.1,e.2.2.2.1,e.2.2.2.2];refine uS _ _ _ ?_;unfold bn;omega
 ·rw[ax e];exact Bt _ _
end
theorem Ov{a b:bD}(c:dP os a)(d:dP os b)(e:Z):dP os (tT e a b):=by
 have f:=FM c.n.1 c.n.2;have h:=FM d.n.1 d.n.2;unfold tT;split
 ·exact sT os _
 split
 ·exact zA c _ (by omega) (by omega)
 split
 ·exact zA d _ (by omega) (by omega)
 split
 ·exact zA c _ (by omega) (by omega)
 split
 ·exact sT os _
 ·exact wA os
theorem sS{p:Z}(h:0<=p/\p<ah os):∃i,∃a:i<ah os,p=(i:Z)/\(∀s,uU os p s=aQ os[i] s.toNat)/\Jn os p=os[i].ay:=by
 refine⟨p.toNat,by omega,by omega,λs=>?_,?_⟩
 ·unfold uU;rw[bW (show p.toNat<(ah os) by omega)];rfl
 ·unfold Jn;rw[bW (show p.toNat<(ah os) by omega)];rfl
theorem XK(a x y:Z)(b:5<=a/\a<=10):fg a x y=if a=5 then decide (x=y)else if a=6 then decide (x≠y)else if a=7 then decide (cK x<cK y)else if a=8 then decide (cK y<=cK x)else if a=9 then decide (x<y)else decide (y<=x):=by
 unfold fg;rcases (show a=5\/a=6\/a=7\/a=8\/a=9\/a=10 by omega)with rfl|rfl|rfl|rfl|rfl|rfl<;>rfl
theorem Bq{v:bD}:nA os v=T↔(0<=v.off/\v.off<kN os v.part v.au):=by
 unfold nA;rw[jO,gO,gO]
theorem Bp{v:bD}(a:v.k=1):fm os v=T↔(0<=v.off/\v.off<kN os v.part v.au):=by
 unfold fm;rw[gF (show ¬v.k=2 by omega)];rw[Bool.not_false,Bool.true_or,Bool.and_true];exact Bq
theorem XL{n:Z}(h:iy n=T)(a:4096<=x/\x<1073741824):x≠n:=by
 unfold iy at h;rw[BU,gO,gO]at h;omega
section
variable{os:L aF}{bt aj bd:Z}{d ms:L aI}(C:cO os bt aj bd d ms)
include C
theorem cO.tZ{v:bD}(h:fJ (bg bt aj bd ms) v x)(o:dP os v)(b:v.k=1)(p:0<=v.off)(a:v.off<=kN os v.part v.au):
  x=(bg bt aj bd ms v.part.toNat v.au.toNat).getD 0 0+v.off/\bd<=x/\x<=ez bt aj bd ms 4/\x<=1073741824/\(v.off<kN os v.part v.au->x<ez bt aj bd ms 4):=by
 obtain⟨l,q,-⟩:=o.p b;obtain⟨i,k,f,j,-⟩:=sS l;have e:=h.p b;have s:=C.low;have F:=C.fit;unfold kN at a ⊢;rw[j]at a ⊢;have D:=C.BJ i v.au.toNat k (by omega);rw[f,dy]at e ⊢;have w:bn ((bg bt aj bd ms i v.au.toNat).getD 0 0+v.off)=(bg bt aj bd ms i v.au.toNat).getD 0 0+v.off:=qG (by omega) (by omega);rw[w]at e;refine⟨e,by omega,by omega,by omega,λc=>by omega⟩
theorem cO.DX(i s k:M)(c:i<ah os)(e:k<(aQ os[i] s).length)(a:i<ah ms):
  (bg bt aj bd ms i s).getD (k+1) 0=if eQ ms[i] s (4*(k:Z)) ((bg bt aj bd ms i s).getD k 0)then (bg bt aj bd ms i s).getD k 0+4 else (bg bt aj bd ms i s).getD k 0:=by
 have b:=C.obj i c a;unfold bg;rw[vi s ms _ i a]
 have:=X7 ms[i] s (aQ ms[i].obj s) 0 (du (dn s (ms.take i) (eD bt aj bd ms s)) (eJ ms[i] s)) k (by rw[b];exact e)
 rw[mL]at this;exact this
theorem cO.DW{v:bD}(h:fJ (bg bt aj bd ms) v x)(V:dP os v)(z:v.k=2)(a:fm os v=T):
  (∃w,fi (bS os ms bt aj bd) x=some w)/\4096<=x/\x<1073741824:=by
 obtain⟨U,M,I,J,L⟩:=V.c z;obtain⟨i,j,K,Q,P⟩:=sS U;have e:=h.c z;unfold fm at a;rw[jO]at a;have t:=Bq.1 a.1;have b:=a.2;rw[kB z,BS,D9,BU,jO,gO,gO,zW,uX]at b;unfold kN at t;rw[Q]at t;have A:i<ah ms:=by rw[C.len];exact j
 have u:i<(aS bt aj bd ms).length:=by rw[sj];exact A
 obtain⟨s,c⟩:∃s:Nat,v.au=s:=⟨v.au.toNat,by omega⟩
 obtain⟨k,f⟩:∃k:Nat,v.off/4=k:=⟨(v.off/4).toNat,by omega⟩
 rw[c,dy]at t;rw[K,c,f,dy,dy,dy]at e;have D:k<(aQ os[i] s).length:=by omega
 have H:=C.obj i j A;have st:eQ ms[i] s (4*(k:Z)) ((bg bt aj bd ms i s).getD k 0)=T:=by
  unfold lj at b;rw[P,c,f]at b;unfold eQ;rw[H];rcases b with b|b
  ·rw[b];rfl
  ·rw[ax b.2];split
   ·rw[kB b.1,Bool.true_or]
   ·rfl
 have Y:=C.DX i s k j D A;rw[st,aD R]at Y;have B:=C.Hp i s k j (by omega) D u (by omega);rw[e];refine⟨⟨_,B⟩,?_⟩;have E:(fi (bS os ms bt aj bd) ((bg bt aj bd ms i s).getD k 0)).isSome=T:=by rw[B];rfl
 rw[EJ]at E;obtain⟨S,n2,n3⟩:=AH C.gn C.kg C.tB C.fL C.gm;have F:=C.fit;have N:=C.low;rcases E with ⟨l,G,p⟩|⟨l,G,p⟩
 ·have o:bt<=(bg bt aj bd ms i s).getD k 0:=l;have q:((bg bt aj bd ms i s).getD k 0-bt)/4<((dZ (aS bt aj bd ms) 1 bt 19 (aS bt aj bd ms) []).length:Z):=p;omega
 ·have o:aj<=(bg bt aj bd ms i s).getD k 0:=l;have q:((bg bt aj bd ms i s).getD k 0-aj)/4<((dZ (aS bt aj bd ms) 2 aj 19 (aS bt aj bd ms) []).length:Z):=p;omega
theorem cO.Uq{v:bD}(h:fJ (bg bt aj bd ms) v x)(e:dP os v)(a:v.k=1\/v.k=2)(b:fm os v=T):4096<=x/\x<1073741824:=by
 rcases a with a|a
 ·have c:=(Bp a).1 b;have p:=C.tZ h e a c.1 (by omega)
  have:=p.2.2.2.2 c.2
  have F:=C.fit;have f:=C.low;omega
 ·exact(C.DW h e a b).2
theorem cO.Qo{a b:bD}(q:fJ (bg bt aj bd ms) a x)(l:fJ (bg bt aj bd ms) b y)(s:dP os a)(o:dP os b)(E:a.k=1\/a.k=2)(J:b.k≠3)(h:(tU os a b).2=T):(tU os a b).1=decide (x=y):=by
 unfold tU at h ⊢;by_cases z:b.k=0
 ·rw[aD z]at h ⊢;rw[jO]at h;have r:=C.Uq q s E h.1;rw[l.n z];exact(gF (XL h.2 r)).symm
 rw[ax z]at h ⊢;by_cases f:a.k=b.k/\a.part=b.part/\a.au=b.au
 ·rw[aD f]at h ⊢;by_cases e:a.off=b.off
  ·rw[aD e];refine(kB ?_).symm;rcases E with k|k
   ·rw[q.p k,l.p (by omega),f.2.1,f.2.2,e]
   ·rw[q.c k,l.c (by omega),f.2.1,f.2.2,e]
  ·rw[ax e]at h ⊢;have k:a.k=1:=by simpa using h
   refine(gF ?_).symm;rw[q.p k,l.p (by omega),f.2.1,f.2.2];have p:=(s.p k).2.2;have t:=(o.p (by omega)).2.2;unfold bn;omega
 ·rw[ax f]at h ⊢;rw[jO,jO,BU,zW,uX,gO]at h;obtain⟨⟨H,D⟩,I⟩:=h;refine(gF ?_).symm;have u:b.k=1\/b.k=2:=by have:=o.k;omega
  rcases E with k|k
  ·have v:=(Bp k).1 H;have K:=C.tZ q s k v.1 (by omega);have L:=K.2.2.2.2 v.2;rcases u with e|e
   ·have p:=(Bp e).1 D;have G:=C.tZ l o e p.1 (by omega);obtain⟨i,Y,U,V,-⟩:=sS (s.p k).1;obtain⟨j,F,t,B,-⟩:=sS (o.p e).1;have M:=(s.p k).2.1;have N:=(o.p e).2.1;have A:=C.QC i a.au.toNat j b.au.toNat Y F (by omega) (by omega) (by omega);unfold kN at v p;rw[V]at v;rw[B]at p;have P:=K.1;have Q:=G.1;rw[U,dy]at P;rw[t,dy]at Q;omega
   ·obtain⟨⟨w,t⟩,-⟩:=C.DW l o e D;intro c;rw[<- c,C.D3 x (by omega) (by omega)]at t
    cases t
  ·rcases u with e|e
   ·have p:=(Bp e).1 D;have G:=C.tZ l o e p.1 (by omega);have v:=G.2.2.2.2 p.2;obtain⟨⟨w,t⟩,-⟩:=C.DW q s k H;intro c;rw[c,C.D3 y (by omega) (by omega)]at t
    cases t
   ·omega
theorem cO.alike{a b:bD}(j:fJ (bg bt aj bd ms) a x)(k:fJ (bg bt aj bd ms) b y)(e:dP os a)(f:dP os b)(l:¬(a.k=0/\b.k=0))(h:(oK os a b).2=T):(oK os a b).1=decide (x=y):=by
 have o:=e.k;have p:=f.k;unfold oK at h ⊢;by_cases c:a.k=3\/b.k=3
 ·rw[aD c]at h;cases h
 rw[ax c]at h ⊢;by_cases i:a.k=0
 ·rw[aD i]at h ⊢;rw[C.Qo k j f e (by omega) (by omega) h];exact LJ.2 ⟨Eq.symm,Eq.symm⟩
 ·rw[ax i]at h ⊢;exact C.Qo j k e f (by omega) (by omega) h
theorem cO.ordered{a b:bD}(i:fJ (bg bt aj bd ms) a x)(j:fJ (bg bt aj bd ms) b y)(p:dP os a)(q:dP os b)(h:(oL os a b).2=T):(oL os a b).1=decide (x<y)/\cK x=x/\cK y=y:=by
 unfold oL at h ⊢;by_cases c:a.k≠1\/b.k≠1\/a.part≠b.part\/a.au≠b.au
 ·rw[aD c]at h;cases h
 rw[ax c]at h ⊢;rw[gO]at h;have k:a.k=1:=by omega
 have l:b.k=1:=by omega
 have e:a.part=b.part:=by omega
 have f:a.au=b.au:=by omega
 have t:=C.tZ i p k h.1 h.2.2.1;have o:=C.tZ j q l h.2.1 (by rw[<- e,<- f];exact h.2.2.2);have s:=C.low;rw[<- e,<- f]at o;refine⟨?_,?_,?_⟩
 ·exact LJ.2 (by omega)
 ·unfold cK;rw[aD (by omega)]
 ·unfold cK;rw[aD (by omega)]
theorem cO.goes{a b:bD}(j:fJ (bg bt aj bd ms) a x)(k:fJ (bg bt aj bd ms) b y)(o:dP os a)(p:dP os b)(c:Z)(l:5<=c/\c<=10)(h:(lP os c a b).2=T):(lP os c a b).1=fg c x y:=by
 unfold lP at h ⊢;by_cases f:a.k=0/\b.k=0
 ·rw[aD f,j.n f.1,k.n f.2]
 rw[ax f]at h ⊢;rw[XK c x y l];by_cases i:c=5\/c=6
 ·rw[aD i]at h ⊢;have e:=C.alike j k o p f h;rcases i with rfl|rfl
  ·rw[e,aD R];by_cases q:x=y<;>simp[q]
  ·rw[e,ax (by decide),aD R];by_cases q:x=y<;>simp[q]
 ·rw[ax i]at h ⊢;obtain⟨e,s,t⟩:=C.ordered j k o p h;rw[e,s,t];rcases (show c=7\/c=8\/c=9\/c=10 by omega)with rfl|rfl|rfl|rfl
  ·by_cases q:x<y<;>simp[q]
  ·by_cases q:x<y<;>simp[q]<;>omega
  ·by_cases q:x<y<;>simp[q]
  ·by_cases q:x<y<;>simp[q]<;>omega
end
def La(os:L aF)(v:bD):Prop:=(0<=v.part/\v.part<ah os)/\(1<=v.au/\v.au<=4)/\(-17179869184<=v.off/\v.off<=17179869184)
theorem RD(b:M)(q:aR aY)(cp:M)(u:L M)(os:L aF)(v:bD)(w:av)(h:qJ w b q cp u os)(P:La os v):
  Calls prog 29 #[aM (some ⟨b,0,N⟩),bq v] w λe a=>e=aH (aJ (nA os v))/\az w a N:=by
 obtain⟨K,S,R⟩:=P;obtain⟨i,H,D,a,-⟩:=sS K;obtain⟨s,j⟩:∃s:M,v.au=s:=⟨v.au.toNat,by omega⟩
 have t:=ae (λW (a:az w W N)=>St b q cp u os i s W (h.kept a) H (by omega) (by omega));have l:=ae (show nA os v=(decide (0<=v.off)&&decide (v.off<4*((aQ os[i] s).length:Z))) by unfold nA kN;rw[a,j,dy]);obtain⟨k,n,z,Y,f⟩:=v;dsimp only at *;subst D j;have B:=ae (aA.new w #[I J k,I J n,I J (i:Z),I J (s:Z),I J f] 44);have G:=ae (aG w (.cells #[I J k,I J n,I J (i:Z),I J (s:Z),I J f] 44) N);clear h a;generalize (4*((aQ os[i] s).length:Z))=a at *
 unfold bq;dsimp only;go_enter func29,ntmps29
 go_upto_region 1 with fail
 generalize w.alloc (.cells #[I J k,I J n,I J (i:Z),I J (s:Z),I J f] 44)=V at *;generalize w.heap.size=X at *;have A:=B.o.cell 2;have C:=B.o.cell 3;simp only[bI,bB,bL]at A C;go_wp2_with fail;refine(t.o _ G.o).mono ?_;rintro e U ⟨rfl,o⟩;have Q:=(B.o.grown o (by simp)).cell 4;have p:=ae (ya G.o o);simp only[bI,bB,bL]at Q;clear o A C t;by_cases c:0<=f
 ·have d:decide (0<=f)=T:=kB c;have E:=ae (show nA os ⟨k,n,i,s,f⟩=decide (f<a) by rw[l.o,d,Mt]);clear l c;go_wp2;go_ret;exact⟨by rw[E.o];rfl,p.o⟩
 ·have d:decide (0<=f)=F:=gF c;have E:=ae (show nA os ⟨k,n,i,s,f⟩=F by rw[l.o,d,Bool.false_and]);clear l c;go_wp2;go_ret;exact⟨by rw[E.o];rfl,p.o⟩
theorem Df(b:M)(ap:aR aY)(cp:M)(D:L M)(os:L aF)(v:bD)(w:av)(h:qJ w b ap cp D os)(hv:La os v):
  Calls prog 27 #[aM (some ⟨b,0,N⟩),bq v] w λe a=>e=aH (aJ (fm os v))/\az w a N:=by
 have d:=ae (λW (a:az w W N)=>RD b ap cp D os v W (h.kept a) hv);obtain⟨hp,hs,ho⟩:=hv;obtain⟨i,hi,ep,o,p⟩:=sS hp;obtain⟨s,j⟩:∃s:M,v.au=s:=⟨v.au.toNat,by omega⟩
 have l:=h.parts.len;have xO:=h.parts.val os[i] (bN hi);have f:i<ah D:=by omega
 have H:=ae h;have Mq:=ae (λ(c:nA os v=T)=>show 0<=v.off/\v.off<4*((aQ os[i] s).length:Z) by
  have:=Bq.1 c
  unfold kN at this;rw[o,j,dy]at this;exact this)
 have sl:=vN xO s;have cA:=ae (λ(x:M) W (a:az w W N) (o:x<=65535)=>RB D[i] os[i] (s:Z) x W ((h.parts.obj i f hi).kept a) xO o);have IN:=ae (λ(x:M) (o:v.off/4=x)=>show fm os v=(nA os v&&(!decide (v.k=2) ||(decide ((cB s (4*(x:Z)) 0 os[i].ay).2.kind=0) ||(decide (4*(x:Z)=(cB s (4*(x:Z)) 0 os[i].ay).2.off) && !decide ((cB s (4*(x:Z)) 0 os[i].ay).2.kind=6))))) by
  unfold fm lj;rw[p,j,o])
 have Pm:=ae (λ(c:nA os v=F)=>show fm os v=F by unfold fm;rw[c,Bool.false_and]);generalize a:fm os v=Y at *;clear a;generalize nA os v=BV at *;obtain⟨k,n,part,au,a⟩:=v;dsimp only at *;subst ep j;have B:=ae (aA.new w #[I J k,I J n,I J (i:Z),I J (s:Z),I J a] 44);have G:=ae (aG w (.cells #[I J k,I J n,I J (i:Z),I J (s:Z),I J a] 44) N);clear h o p l;unfold bq;dsimp only;unfold bq at d;dsimp only at d;go_enter func27,ntmps27
 go_upto_region 1 with fail
 generalize w.alloc (.cells #[I J k,I J n,I J (i:Z),I J (s:Z),I J a] 44)=V at *;generalize w.heap.size=X at *;have P:=B.o.cell 0;have l:=B.o.cell 1;have Q:=B.o.cell 2;have t:=B.o.cell 3;have u:=B.o.cell 4;simp only[bI,bB,bL]at P l Q t u;go_wp2_with fail;refine(d.o _ G.o).mono ?_;rintro e V1 ⟨rfl,S⟩;have U:=ae (B.o.grown S (by simp));have z:=ae (ya G.o S);clear S P l Q t u d B G;have P:=U.o.cell 0;have Q:=U.o.cell 2;have t:=U.o.cell 3;have u:=U.o.cell 4;simp only[bI,bB,bL]at P Q t u
 cases BV with
 |false=>
  have E:=ae (Pm.o R);go_wp2;go_ret;exact⟨by rw[E.o];rfl,z.o⟩
 |true=>
  obtain⟨b0,b1⟩:=Mq.o R;obtain⟨x,o⟩:∃x:M,a/4=x:=⟨(a/4).toNat,by omega⟩
  have C:=ae (IN.o x o);clear IN Pm Mq;by_cases p:k=2
  ·have d1:(k==2)=T:=by simpa using p
   have d2:(k != 2)=F:=by simpa using p
   have l:=(H.o.kept z.o).cell;obtain⟨g0,o0,hao,d⟩:=(H.o.kept z.o).parts.kD (by omega);subst hao;have A:=d i f;have S:(i:Z)<(ah D:Z):=by omega
   have Zj:x<=65535:=by omega
   have t4:Int.tdiv a 4=(x:Z):=by rw[Int.tdiv_eq_ediv_of_nonneg b0,o]
   have w4:J.wrap (x:Z)=x:=IntWalk.i64_in _ ⟨by omega,by omega⟩;clear d
   go_upto_region 4 with fail
   go_quiet (fail)
   have uw:=ae (ye (aW V1 N) nq);have G2:=ae (ya z.o uw.o);have K:=yd t uw.o;have y4:=yd u uw.o;clear P Q t u l A;generalize V1.drewN nq=V2 at *
   go_upto_region 5 with fail
   go_wp2_with fail;refine(cA.o x _ G2.o Zj).mono ?_;rintro e ke ⟨kk,jj,rfl,hrs,d⟩;have A:=ae (ya G2.o d);clear d K y4;rcases hrs with ⟨e0,rfl,rfl⟩|⟨q,hq,e0,rfl,e1,e2,e3,e4⟩
   ·have E:=ae (show Y=T by rw[C.o,e0];simp);clear C;go_wp2;go_ret;exact⟨by rw[E.o];rfl,A.o⟩
   ·have d:=(xO.rel q hq).1;unfold lz at d;have k0:os[i].ay[q].kind≠0:=by omega
    have E:=ae (show Y=(decide (jj=0) && !decide (os[i].ay[q].kind=6)) by
     rw[C.o,e0];dsimp only;rw[kB p,gF k0,BS,D9,D9,Mt]
     congr 1
     exact LJ.2 (by omega))
    have BA:decide ((q:Z)<0)=F:=gF (by omega);clear C;by_cases K:jj=0
    ·have dj:(jj==0)=T:=by simpa using K
     obtain⟨at_,ct,af,cf,ad,cd,aa,ca,gP,cs,ar,cr,hb,-,-,-,-,-,q6⟩:=((H.o.parts.obj i f hi).kept A.o).open;obtain⟨rg,hrg,-,l⟩:=pi.dh q6 (by omega);subst hrg;obtain⟨-,-,r2,-,-⟩:=l q hq;have k6:=hb.cell 6;simp only[bI,bB,bL]at k6;have Y8:(q:Z)<(os[i].ay.length:Z):=by omega
     have E2:=ae (show Y = !decide (os[i].ay[q].kind=6) by rw[E.o,kB K,Mt]);clear E K l hb q6 d k0;generalize os[i].ay[q].kind=d at *;by_cases l:d=6
     ·have dk:(d==6)=T:=by simpa using l
      have dk2:(d != 6)=F:=by simpa using l
      go_wp2;go_ret;exact⟨by rw[E2.o,kB l];rfl,A.o⟩
     ·have dk:(d==6)=F:=by simpa using l
      have dk2:(d != 6)=T:=by simpa using l
      go_wp2;go_ret;exact⟨by rw[E2.o,gF l];rfl,A.o⟩
    ·have dj:(jj==0)=F:=by simpa using K
     go_wp2;go_ret;exact⟨by rw[E.o,gF K];rfl,A.o⟩
  ·have d1:(k==2)=F:=by simpa using p
   have d2:(k != 2)=T:=by simpa using p
   have E:=ae (show Y=T by rw[C.o,gF p];rfl);go_wp2;go_ret;exact⟨by rw[E.o];rfl,z.o⟩
theorem aax(b:M)(c:Z)(w:av):Calls prog 24 #[aM (S ⟨b,0,N⟩),kQ N,I J c] w λe a=>e=aH (bq (gN [] N c))/\az w a N:=by
 have s:=ae (λW=>xe c W);have a:(w.alloc (.cells #[I J (-1),I J 0] 77)).heap.size=w.heap.size+1:=js _;have f:=aG w (.cells #[I J (-1),I J 0] 77) N;have h:=aG (w.alloc (.cells #[I J (-1),I J 0] 77)) (.cells #[I J 0,I J 0,I J 0,I J 0,I J 0] 44) N;have d:=aA.new (w.alloc (.cells #[I J (-1),I J 0] 77)) #[I J 0,I J 0,I J 0,I J 0,I J 0] 44;rw[a]at d;have o:=ae d;have G:=ae (ya f h);clear f h d a;have q:=ae (show w.heap.size<=w.heap.size+1 by omega)
 unfold kQ;go_enter func24,ntmps24;go_wp2_with fail;generalize (w.alloc (.cells #[I J (-1),I J 0] 77)).alloc (.cells #[I J 0,I J 0,I J 0,I J 0,I J 0] 44)=V at *;generalize w.heap.size+1=a at *;refine(s.o _).mono ?_;rintro e Q ⟨rfl,f⟩;have d:=ae (o.o.grown f (by simp));have p:=ae (ya G.o f);have h:=d.o.cell 0;have i:=d.o.cell 1;have j:=d.o.cell 2;have k:=d.o.cell 3;have l:=d.o.cell 4;have t:=d.o.free 0;have u:=d.o.free 1;have z:=d.o.free 2;have A:=d.o.free 3;have B:=d.o.free 4;simp only[bI,bB,bL]at h i j k l
 unfold bq;go_wp2;obtain⟨⟨D,E,H,K,P⟩,C⟩:=qj p.o d.o q.o (I J (dv c).k) (I J (dv c).n) (I J (dv c).part) (I J (dv c).au) (I J (dv c).off) _ R;refine bj (v:=bq (dv c)) ?_ R ⟨R,C⟩;clear h i j k l t u z A B;generalize aK _ _ _=h at *;simp[results,results24,go_sem,bq,D,E,H,K,P]
theorem aay(b:M)(ap:aR aY)(cp:M)(u:L M)(os:L aF)(i k:M)(f:Z)(w:av)(h:qJ w b ap cp u os)(xY:i<ah os)(hk:k<os[i].aE.length)(ha:-4294967296<=f/\f<=4294967296):
  Calls prog 24 #[aM (S ⟨b,0,N⟩),kQ (S (i,k)),I J f] w λe a=>e=aH (bq (gN os (S (i,k)) f))/\az w a N:=by
 have C:i<ah u:=by rw[h.parts.len];exact xY
 have hgl:ah u<=48:=by rw[h.parts.len];exact h.parts.few
 have xO:=h.parts.val os[i] (bN xY);have so:=(xO.2.2.2.1 k hk).1;have j:=vP xY hk;have o:=ae (show gN os (S (i,k)) f=⟨if (fu os i k).au=1\/(fu os i k).au=2 then (if f≠0 then 3 else 2)else 1,0,i,(fu os i k).au,(fu os i k).off+f⟩from R);rw[j]at o;have p:=h.cell;obtain⟨g0,D,hao,s⟩:=h.parts.kD (by omega);subst hao;have d:=s i C;obtain⟨at_,ct,af,cf,ad,l,Db,C6,gP,cs,ar,cr,q,-,-,-,-,A,-⟩:=(h.parts.obj i C xY).open;have HB:=ae q;have hns:=xO.sX;have tR:=ae (gH.dh A);generalize t:os[i].aE[k]=y at *;obtain⟨-,-,⟨s0,s4⟩,-,o0,o4,a⟩:=so
 have ol:y.off<=1048576:=by
  have e:=vN xO y.au.toNat
  by_cases z:y.au=0
  ·rw[z]at a;unfold iU at a;rw[ax (by decide)]at a;unfold yp at a;simp at a;omega
  ·have:=Dz xO y.au.toNat (by omega) (by omega)
   rw[show ((y.au.toNat:M):Z)=y.au by omega]at this;omega
 have Ew:=ae t;have CC:=ae p;have xZ:=ae d;clear s q A h j t p d a;generalize gN os (S (i,k)) f=Hu at *;unfold kQ;dsimp only;have a:(w.alloc (.cells #[I J (i:Z),I J (k:Z)] 77)).heap.size=w.heap.size+1:=js _;have s:=aG w (.cells #[I J (i:Z),I J (k:Z)] 77) N;have p:=aG (w.alloc (.cells #[I J (i:Z),I J (k:Z)] 77)) (.cells #[I J 0,I J 0,I J 0,I J 0,I J 0] 44) N;have t:=aA.new w #[I J (i:Z),I J (k:Z)] 77;have q:=aA.new (w.alloc (.cells #[I J (i:Z),I J (k:Z)] 77)) #[I J 0,I J 0,I J 0,I J 0,I J 0] 44
 rw[a]at q;have j:=ae (t.grown p (by simp));have A:=ae q;have d:=ae (ya s p);have HR:=ae (show w.heap.size<=w.heap.size+1 by omega);clear s p t q a;go_enter func24,ntmps24
 go_upto_region 1 with fail
 generalize (w.alloc (.cells #[I J (i:Z),I J (k:Z)] 77)).alloc (.cells #[I J 0,I J 0,I J 0,I J 0,I J 0] 44)=s at *;generalize w.heap.size+1=a at *;generalize p:w.heap.size=X at j ⊢;clear p;have Q:aq s ⟨X,0,N⟩=S (I J i):=j.o.cell 0;have x1:aq s ⟨X,1,N⟩=S (I J k):=j.o.cell 1;have cb:=yd CC.o d.o;have ck:=yd xZ.o d.o;have q:=(HB.o.grown d.o (by simp)).cell 5;simp only[bI,bB,bL]at q;obtain⟨G,hsg,hgs,p⟩:=tR.o.grown d.o (by omega);subst hsg;obtain⟨H,K,q2,q3⟩:=p k hk
 rw[Ew.o]at H K q2 q3;have j1:(i:Z)<(ah u:Z):=by omega
 have j2:(k:Z)<(os[i].aE.length:Z):=by omega
 clear p;generalize u[i]=bk at *
 go_upto_region 3 with fail
 go_region_held3 (λa=>aq a ⟨b,0,N⟩=S (ak (S ⟨g0,D,N⟩) (ah u) cp)/\aq a ⟨X,0,N⟩=S (I J i)/\aq a ⟨X,1,N⟩=S (I J k)/\aq a ⟨g0,D+i,N⟩=S (aM (S ⟨bk,0,N⟩))/\aq a ⟨bk,5,N⟩=S (.slice (S ⟨G,0,N⟩) os[i].aE.length cs)/\aq a ⟨G,k*4,N⟩=S (aB (bs y.name))/\aq a ⟨G,k*4+1,N⟩=S (I J y.bind)/\aq a ⟨G,k*4+2,N⟩=S (I J y.au)/\aq a ⟨G,k*4+3,N⟩=S (I J y.off))
  (go_keep)
  (fail)
 have p:=ae (yf (aG s (.cells #[aB (bs y.name),I J y.bind,I J y.au,I J y.off] 107) N));have t:=ae (mA (aA.new s #[aB (bs y.name),I J y.bind,I J y.au,I J y.off] 107));have B:=ae (ya d.o p.o);have iF:=ae (j.o.grown p.o (by simp));have P:=ae (A.o.grown p.o (by simp));clear Q x1 cb ck q H K q2 q3 p d j A;generalize (s.alloc (.cells #[aB (bs y.name),I J y.bind,I J y.au,I J y.off] 107)).drew=V at *;generalize s.heap.size=Y at *;have Q:aq V ⟨X,0,N⟩=S (I J i):=iF.o.cell 0;have H:aq V ⟨Y,2,N⟩=S (I J y.au):=t.o.cell 2
 have v3:aq V ⟨Y,3,N⟩=S (I J y.off):=t.o.cell 3;have w1:J.wrap (y.off+f)=y.off+f:=IntWalk.i64_in _ ⟨by omega,by omega⟩;have d:=aG V (.cells #[I J 1,I J 0,I J (i:Z),I J y.au,I J (y.off+f)] 44) N;have q:=ae (aA.new V #[I J 1,I J 0,I J (i:Z),I J y.au,I J (y.off+f)] 44);have j:=ae (P.o.grown d (by simp));have Ip:=ae (t.o.grown d (by simp));have MZ:=ae (ya B.o d);have K:=P.o.lt;have p:=B.o.size;clear d
 go_upto_region 5 with fail
 generalize V.alloc (.cells #[I J 1,I J 0,I J (i:Z),I J y.au,I J (y.off+f)] 44)=U at *;have A:V.heap.size≠a:=by omega
 have qw:=ae (show w.heap.size<=V.heap.size from p);generalize V.heap.size=d at *;clear Q H v3 iF t P B K p;have H:aq U ⟨Y,2,N⟩=S (I J y.au):=Ip.o.cell 2;have u0:=q.o.cell 0;have u1:=q.o.cell 1;have u2:=q.o.cell 2;have u3:=q.o.cell 3;have u4:=q.o.cell 4;have e0:=q.o.free 0;have z0:=j.o.cell 0;have z1:=j.o.cell 1;have z2:=j.o.cell 2;have z3:=j.o.cell 3;have z4:=j.o.cell 4;have f0:=j.o.free 0;have f1:=j.o.free 1;have f2:=j.o.free 2;have f3:=j.o.free 3;have f4:=j.o.free 4;simp only[bI,bB,bL]at u0 u1 u2 u3 u4 z0 z1 z2 z3 z4
 have iM:=ae (eh MZ.o (bK U d 0 (I J 2)) (by intro b e;simp at e;have:=qw.o;omega));have BP:=ae (fE j.o A 0 (I J 2));have GB:=ae (eh iM.o (bK (aK U ⟨d,0,N⟩ (I J 2)) d 0 (I J 3)) (by intro b e;simp at e;have:=qw.o;omega));have BB:=ae (fE BP.o A 0 (I J 3));by_cases l:y.au=1\/y.au=2
 ·have t:(y.au==1)=T\/((y.au==1)=F/\(y.au==2)=T):=by
   rcases l with c|c
   ·left;simpa using c
   ·right;exact⟨by simp;omega,by simpa using c⟩
  by_cases p:f=0
  ·have d1:(f==0)=T:=by simpa using p
   have d2:(f != 0)=F:=by simpa using p
   have E:=ae (show Hu=⟨2,0,i,y.au,y.off+f⟩ by rw[o.o,aD l,ax (by omega)]);clear o l p;rcases t with t|⟨t,Y3⟩
   all_goals
    go_wp2;obtain⟨⟨K,P,Q,y3,y4⟩,B⟩:=qj iM.o BP.o HR.o (I J 2) (I J 0) (I J (i:Z)) (I J y.au) (I J (y.off+f)) _ R;refine bj (v:=bq ⟨2,0,i,y.au,y.off+f⟩) ?_ R ⟨by rw[E.o],B⟩;clear u0 u1 u2 u3 u4 e0 z0 z1 z2 z3 z4 f0 f1 f2 f3 f4 H;generalize aK _ _ _=WF at *;simp[results,results24,go_sem,bq,K,P,Q,y3,y4]
  ·have d1:(f==0)=F:=by simpa using p
   have d2:(f != 0)=T:=by simpa using p
   have E:=ae (show Hu=⟨3,0,i,y.au,y.off+f⟩ by rw[o.o,aD l,aD p]);clear o l p;rcases t with t|⟨t,Y3⟩
   all_goals
    go_wp2;obtain⟨⟨K,P,Q,y3,y4⟩,B⟩:=qj GB.o BB.o HR.o (I J 3) (I J 0) (I J (i:Z)) (I J y.au) (I J (y.off+f)) _ R;refine bj (v:=bq ⟨3,0,i,y.au,y.off+f⟩) ?_ R ⟨by rw[E.o],B⟩;clear u0 u1 u2 u3 u4 e0 z0 z1 z2 z3 z4 f0 f1 f2 f3 f4 H;generalize aK _ _ _=WF at *;simp[results,results24,go_sem,bq,K,P,Q,y3,y4]
 ·have d1:(y.au==1)=F:=by simp;omega
  have d2:(y.au==2)=F:=by simp;omega
  have E:=ae (show Hu=⟨1,0,i,y.au,y.off+f⟩ by rw[o.o,ax l]);clear o l;go_wp2;obtain⟨⟨K,P,Q,y3,y4⟩,B⟩:=qj MZ.o j.o HR.o (I J 1) (I J 0) (I J (i:Z)) (I J y.au) (I J (y.off+f)) _ R;refine bj (v:=bq ⟨1,0,i,y.au,y.off+f⟩) ?_ R ⟨by rw[E.o],B⟩;clear u0 u1 u2 u3 u4 e0 z0 z1 z2 z3 z4 f0 f1 f2 f3 f4 H;generalize aK _ _ _=WF at *;simp[results,results24,go_sem,bq,K,P,Q,y3,y4]
theorem KI(b:M)(c:aR aY)(cp:M)(d:L M)(os:L aF)(r:aR (M×M))(a:Z)(w:av)(h:qJ w b c cp d os)(k:∀p,r=S p->lD os p)(j:-4294967296<=a/\a<=4294967296):
  Calls prog 24 #[aM (S ⟨b,0,N⟩),kQ r,I J a] w λe c=>e=aH (bq (gN os r a))/\az w c N:=by
 cases r with
 |none=>exact aax b a w
 |some p=>
  obtain⟨f,i⟩:=k p R;exact aay b c cp d os p.1 p.2 a w h f i j
theorem dP.zH{v:bD}(h:dP os v)(a:v.k=1\/v.k=2):La os v:=by
 rcases a with e|e
 ·have:=h.p e
  exact⟨this.1,by omega,h.off⟩
 ·have:=h.c e
  exact⟨this.1,by omega,h.off⟩
theorem Tt{w V:av}{i j k l o:aC}(q:az w V N)(h:aA V X #[i,j,k,l,o] 44)(p:w.heap.size<=X)(a b c d e:aC):∀W,W=(((((aK V ⟨X,0,N⟩ a).setCell ⟨X,1,N⟩ b).setCell ⟨X,2,N⟩ c).setCell ⟨X,3,N⟩ d).setCell ⟨X,4,N⟩ e)->aA W X #[a,b,c,d,e] 44/\az w W N/\∀Y f t,aA V Y f t->X≠Y->aA W Y f t:=by
 rintro W rfl;exact⟨G5 h a b c d e,(qj q h p a b c d e _ R).2,λY f t b a=>fE (fE (fE (fE (fE b a _ _) a _ _) a _ _) a _ _) a _ _⟩
theorem dS{a b c d e:aC}{t:dm}(h:aA W X #[a,b,c,d,e] t):aq W ⟨X,0,N⟩=S a/\aq W ⟨X,1,N⟩=S b/\aq W ⟨X,2,N⟩=S c/\aq W ⟨X,3,N⟩=S d/\aq W ⟨X,4,N⟩=S e:=⟨h.cell 0,h.cell 1,h.cell 2,h.cell 3,h.cell 4⟩
theorem qc{a:dJ aC}{t:dm}(h:aA W X a t):dx W ⟨X,0,N⟩=F/\dx W ⟨X,1,N⟩=F/\dx W ⟨X,2,N⟩=F/\dx W ⟨X,3,N⟩=F/\dx W ⟨X,4,N⟩=F:=⟨h.free 0,h.free 1,h.free 2,h.free 3,h.free 4⟩
theorem acY(b:Nat)(ap:aR aY)(cp:Nat)(gl:List Nat)(os:List aF)(a c:bD)(w:av)(h:qJ w b ap cp gl os)(ha:dP os a)(hc:dP os c)(hn:¬(a.k=0/\c.k=0)):
  Calls prog 103 #[aM (some ⟨b,0,N⟩),bq a,bq c] w λe f=>e=aH (aZ #[aJ (oK os a c).1,aJ (oK os a c).2])/\az w f N:=by
 have f:(w.alloc (.cells (jM a) 44)).heap.size=w.heap.size+1:=js _;have P:=aA.new w (jM a) 44;have H:=aG w (.cells (jM a) 44) N;have D:=aA.new (w.alloc (.cells (jM a) 44)) (jM c) 44;have C:=aG (w.alloc (.cells (jM a) 44)) (.cells (jM c) 44) N;rw[f]at D;have B:=ae (P.grown C (by simp));have K:=ae D;have G:=ae (ya H C);have HP:=ae h;have S:=ae ha;have Z:=ae hc;clear P D H C f;have ka:=ha.k;have kc:=hc.k;by_cases c3:a.k=3\/c.k=3
 ·have E:=ae (show oK os a c=(F,F) by unfold oK;rw[aD c3]);have f:(a.k==3)=T\/((a.k==3)=F/\(c.k==3)=T):=by
   by_cases e:a.k=3
   ·left;simpa using e
   ·right;exact⟨by simpa using e,by simp;omega⟩
  generalize oK os a c=BO at *;clear c3 ka kc hn h ha hc HP S Z;unfold bq;unfold jM at *;rcases f with d|⟨d,d2⟩
  all_goals
   go_enter func103,ntmps103;go_wp2;go_ret2;exact⟨by rw[E.o];rfl,G.o⟩
 ·have d1:(a.k==3)=F:=by simp;omega
  have d2:(c.k==3)=F:=by simp;omega
  have NB:=ae (show ∀p q:bD,tU os p q=if q.k=0 then (F,fm os p&&iy q.n)
   else if p.k=q.k/\p.part=q.part/\p.au=q.au then (if p.off=q.off then (T,T)else (F,decide (p.k=1)))
   else (F,fm os p&&fm os q&&(!decide (p.k=q.k) ||decide (p.k=1)))from λ_ _=>rfl)
  have BO:=ae (show oK os a c=if a.k=0 then tU os c a else tU os a c by unfold oK;rw[ax c3]);have N3:=ae c3;have HN:=ae hn;generalize oK os a c=RR at *;clear c3 h ha hc;unfold bq;unfold jM at *;go_enter func103,ntmps103
  go_upto_region 3 with fail
  generalize (w.alloc (.cells #[I J a.k,I J a.n,I J a.part,I J a.au,I J a.off] 44)).alloc (.cells #[I J c.k,I J c.n,I J c.part,I J c.au,I J c.off] 44)=V at *;have D:w.heap.size<=w.heap.size+1:=by omega
  have hne:w.heap.size≠w.heap.size+1:=by omega
  generalize f:w.heap.size=X at *;generalize C:X+1=Y at *;have HX:=ae (show w.heap.size<=X by omega);have Ew:=ae (show w.heap.size<=Y by omega);clear f C D;obtain⟨i,j,k,l,s⟩:=dS B.o;obtain⟨t,u,v,z,A⟩:=dS K.o;by_cases c0:a.k=0;have Ha:(a.k==0)=T:=by simpa using c0
  have Q:=ae c0;clear c0 d1 d2 hn ka kc;have U:=B.o.lt;have D:=K.o.lt;have BT:=ae (aA.new V #[I J a.k,I J a.n,I J a.part,I J a.au,I J a.off] 44);have f:=aG V (.cells #[I J a.k,I J a.n,I J a.part,I J a.au,I J a.off] 44) N;have H:=ae (B.o.grown f (by simp));have L:=ae (K.o.grown f (by simp));have C:=ae (ya G.o f);have P:X≠V.heap.size:=by omega
  have Zu:Y≠V.heap.size:=by omega
  clear f
  go_upto_region 5 with fail
  generalize V.alloc (.cells #[I J a.k,I J a.n,I J a.part,I J a.au,I J a.off] 44)=V1 at *;generalize V.heap.size=f at *;clear U D B K G i j k l s t u v z A;obtain⟨t,u,v,z,A⟩:=dS L.o;obtain⟨i,j,k,l,s⟩:=dS H.o;obtain⟨f0,f1,f2,f3,f4⟩:=qc H.o
  go_upto_region 6 with fail
  obtain⟨oV,D,U⟩:=Tt C.o H.o HX.o (I J c.k) (I J c.n) (I J c.part) (I J c.au) (I J c.off) _ R;have M:=ae (U _ _ _ L.o hne);have Pb:=ae (U _ _ _ BT.o P);have D:=ae D;have oV:=ae oV;clear U H L BT C i j k l s t u v z A f0 f1 f2 f3 f4;generalize aK _ _ _=V2 at *;obtain⟨t,u,v,z,A⟩:=dS M.o;obtain⟨L,t1,t2,t3,t4⟩:=dS Pb.o;obtain⟨f0,f1,f2,f3,f4⟩:=qc M.o
  go_upto_region 7 with fail
  obtain⟨U,C,H⟩:=Tt D.o M.o Ew.o (I J a.k) (I J a.n) (I J a.part) (I J a.au) (I J a.off) _ R;have B:=ae (H _ _ _ oV.o (Ne.symm hne));have K:=ae U;have G:=ae C;have EE:=ae (show RR=tU os c a by rw[BO.o,aD Q.o]);have kp:=ae (show c.k=1\/c.k=2 by have:=Z.o.k;have:=N3.o;have:=HN.o;have:=Q.o;omega);clear H oV M Pb D C U t u v z A L t1 t2 t3 t4 f0 f1 f2 f3 f4 BO Q HN P Zu Ha;generalize aK _ _ _=VV at *;have sU:=ae Z.o;have Pn:=ae (show a.k≠3 by have:=N3.o;omega);have G9:=ae S.o;clear Z S N3;generalize c=p at *;generalize a=q at *
  rotate_left
  have Ha:(a.k==0)=F:=by simpa using c0
  have EE:=ae (show RR=tU os a c by rw[BO.o,ax c0]);have kp:=ae (show a.k=1\/a.k=2 by have:=S.o.k;have:=N3.o;omega);clear BO HN c0 d1 d2 ka kc hn
  go_upto_region 7 with fail
  clear Ha i j k l s t u v z A;generalize V=VV at *;have sU:=ae S.o;have Pn:=ae (show c.k≠3 by have:=N3.o;omega);have G9:=ae Z.o;clear Z S N3;generalize a=p at *;generalize c=q at *
  all_goals
   have D:=ae (λW (f:az w W N)=>Df b ap cp gl os p W (HP.o.kept f) (sU.o.zH kp.o));have cJ:=ae (λW (f:az w W N) (i:q.k≠0/\q.k≠3)=>Df b ap cp gl os q W (HP.o.kept f) (G9.o.zH (by have:=G9.o.k;omega)));have NN:=ae (NB.o p q);have q3:=ae (show q.k≠3 from Pn.o);generalize tU os p q=AN at *;generalize fm os p=IP at *;generalize fm os q=Iz at *;unfold bq at D cJ;obtain⟨i,j,k,l,s⟩:=dS B.o
   go_upto_region 8 with (go_at_call 27;refine(D.o _ G.o).mono ?_;rintro e W1 ⟨rfl,g1⟩)
   have H:=ae (B.o.grown g1 (by simp));have L:=ae (K.o.grown g1 (by simp));have C:=ae (ya G.o g1);clear g1 B K G D i j k l s;obtain⟨i,j,k,l,s⟩:=dS H.o;obtain⟨t,u,v,z,A⟩:=dS L.o;by_cases U:q.k=0
   ·have dq:(q.k==0)=T:=by simpa using U
    have P:=ae (show RR=(F,IP&&iy q.n) by rw[EE.o,NN.o,aD U]);clear U NN EE
    cases IP
    ·go_upto_region 10 with (go_at_call 26;refine(Dp q.n _).mono ?_;rintro e W2 ⟨rfl,rfl⟩)
     go_wp2;go_ret2;exact⟨by rw[P.o];rfl,C.o⟩
    ·go_upto_region 10 with (go_at_call 26;refine(Dp q.n _).mono ?_;rintro e W2 ⟨rfl,rfl⟩)
     go_wp2;go_ret2;exact⟨by rw[P.o];rfl,C.o⟩
   ·have dq:(q.k==0)=F:=by simpa using U
    have P:=ae (show RR=if p.k=q.k/\p.part=q.part/\p.au=q.au then (if p.off=q.off then (T,T)else (F,decide (p.k=1)))else (F,IP&&Iz&&(!decide (p.k=q.k) ||decide (p.k=1))) by rw[EE.o,NN.o,ax U]);have Q:=ae U;clear U NN EE
    go_upto_region 12 with (go_at_call 27;refine(cJ.o _ C.o ⟨Q.o,q3.o⟩).mono ?_;rintro e W2 ⟨rfl,g2⟩)
    have oV:=ae (H.o.grown g2 (by simp));have M:=ae (L.o.grown g2 (by simp));have D:=ae (ya C.o g2);clear g2 H L C cJ i j k l s t u v z A Q q3 sU G9 kp;obtain⟨i,j,k,l,s⟩:=dS oV.o;obtain⟨t,u,v,z,A⟩:=dS M.o;by_cases m:p.k=q.k/\p.part=q.part/\p.au=q.au
    ·have e1:(p.k==q.k)=T:=by simpa using m.1
     have e2:(p.part==q.part)=T:=by simpa using m.2.1
     have e3:(p.au==q.au)=T:=by simpa using m.2.2
     have Q:=ae (P.o.trans (aD m));clear m P;by_cases o:p.off=q.off
     ·have e4:(p.off==q.off)=T:=by simpa using o
      have E4:=ae (Q.o.trans (aD o));clear o Q;go_wp2;go_ret2;exact⟨by rw[E4.o];rfl,D.o⟩
     ·have e4:(p.off==q.off)=F:=by simpa using o
      have E4:=ae (Q.o.trans (ax o));clear o Q;go_wp2
      go_quiet (fail)
      go_wp2;go_ret2;exact⟨by rw[E4.o];rfl,ye D.o nq⟩
    ·have Q:=ae (P.o.trans (ax m));clear P;have W:((p.k==q.k)=F/\(p.k != q.k)=T)\/((p.k==q.k)=T/\(p.k != q.k)=F/\((p.part==q.part)=F\/((p.part==q.part)=T/\(p.au==q.au)=F))):=by
      by_cases z1:p.k=q.k
      ·right
       refine⟨by simpa using z1,by simpa using z1,?_⟩;by_cases z2:p.part=q.part
       ·exact .inr ⟨by simpa using z2,by simpa using λf=>m ⟨z1,z2,f⟩⟩
       ·exact .inl (by simpa using z2)
      ·left;exact⟨by simpa using z1,by simpa using z1⟩
     have E4:=ae (show RR=(F,IP&&Iz&&((p.k != q.k) ||(p.k==1))) by
      rw[Q.o]
      congr 2)
     clear m Q;rcases W with ⟨e1,e2⟩|⟨e1,e2,e3|⟨e3,Q⟩⟩
     all_goals
      cases IP
      all_goals
       cases Iz
       all_goals
        go_wp2
        go_quiet (fail)
        go_wp2;go_ret2;exact⟨by rw[E4.o,e2];rfl,ye D.o nq⟩
theorem SV(p q r s:Bool):(p=F\/(p=T/\(q=F\/(q=T/\(r=F\/(r=T/\s=F))))))\/(p=T/\q=T/\r=T/\s=T):=by
 cases p<;>cases q<;>cases r<;>cases s<;>simp
theorem aaQ(b:M)(K:aR aY)(cp:M)(T:List M)(os:List aF)(a c:bD)(w:av)(h:qJ w b K cp T os)(D:dP os a):
  Calls prog 104 #[aM (S ⟨b,0,N⟩),bq a,bq c] w λe f=>e=aH (aZ #[aJ (oL os a c).1,aJ (oL os a c).2])/\az w f N:=by
 have f:(w.alloc (.cells (jM a) 44)).heap.size=w.heap.size+1:=js _;have o:=aA.new w (jM a) 44;have l:=aG w (.cells (jM a) 44) N;have k:=aA.new (w.alloc (.cells (jM a) 44)) (jM c) 44;have j:=aG (w.alloc (.cells (jM a) 44)) (.cells (jM c) 44) N;rw[f]at k;have u:=ae (o.grown j (by simp));have H:=ae k;have G:=ae (ya l j);clear o k l j f;rcases SV (a.k==1) (c.k==1) (a.part==c.part) (a.au==c.au)with d|⟨f,j,k,A⟩
 ·have E:=ae (show oL os a c=(F,F) by
   unfold oL;rw[aD];rcases d with d|⟨-,d|⟨-,d|⟨-,d⟩⟩⟩
   ·exact .inl (by simpa using d)
   ·exact .inr (.inl (by simpa using d))
   ·exact .inr (.inr (.inl (by simpa using d)))
   ·exact .inr (.inr (.inr (by simpa using d))))
  generalize oL os a c=B at *;clear h D;unfold bq;unfold jM at *;have o:(a.k != 1) = !(a.k==1):=R;have p:(c.k != 1) = !(c.k==1):=R;have q:(a.part != c.part) = !(a.part==c.part):=R;have t:(a.au != c.au) = !(a.au==c.au):=R;rcases d with d|⟨f,d|⟨j,d|⟨k,d⟩⟩⟩
  ·rw[d]at o;clear p q t d;go_enter func104,ntmps104;go_wp2;go_ret2;exact⟨by rw[E.o];rfl,G.o⟩
  ·rw[f]at o;rw[d]at p;clear q t d f;go_enter func104,ntmps104;go_wp2;go_ret2;exact⟨by rw[E.o];rfl,G.o⟩
  ·rw[f]at o;rw[j]at p;rw[d]at q;clear t d f j;go_enter func104,ntmps104;go_wp2;go_ret2;exact⟨by rw[E.o];rfl,G.o⟩
  ·rw[f]at o;rw[j]at p;rw[k]at q;rw[d]at t;clear d f j k;go_enter func104,ntmps104;go_wp2;go_ret2;exact⟨by rw[E.o];rfl,G.o⟩
 ·have C:a.k=1:=by simpa using f
  obtain⟨hp,hs,-⟩:=D.zH (.inl C);obtain⟨i,hi,Q,U,-⟩:=sS hp;obtain⟨s,l⟩:∃s:M,a.au=s:=⟨a.au.toNat,by omega⟩
  have P:=ae (λW (f:az w W N)=>St b K cp T os i s W (h.kept f) hi (by omega) (by omega));have E:=ae (show oL os a c=(decide (a.off<c.off),decide (0<=a.off)&&(decide (0<=c.off)&&(decide (a.off<=4*((aQ os[i] s).length:Z))&&decide (c.off<=4*((aQ os[i] s).length:Z))))) by
   unfold oL kN;rw[ax (by
    rintro (z|z|z|z)
    ·exact z C
    ·exact z (by simpa using j)
    ·exact z (by simpa using k)
    ·exact z (by simpa using A)),U,l,dy,Ms,Ms,Ms])
  have o:(a.k != 1)=F:=by simpa using f
  have p:(c.k != 1)=F:=by simpa using j
  have q:(a.part != c.part)=F:=by simpa using k
  have t:(a.au != c.au)=F:=by simpa using A
  generalize oL os a c=B at *;generalize (4*((aQ os[i] s).length:Z))=L at *;have sG:=ae Q;have Vh:=ae l;clear h D f j k A C U Q l hp hs;unfold bq;unfold jM at *;go_enter func104,ntmps104
  go_upto_region 3 with fail
  clear o p q t;generalize (w.alloc (.cells #[I J a.k,I J a.n,I J a.part,I J a.au,I J a.off] 44)).alloc (.cells #[I J c.k,I J c.n,I J c.part,I J c.au,I J c.off] 44)=V at *;generalize w.heap.size+1=Y at *;generalize l:w.heap.size=X at u ⊢;clear l;have o:aq V ⟨X,2,N⟩=S (I J i):=by rw[(dS u.o).2.2.1,sG.o]
  have q:aq V ⟨X,3,N⟩=S (I J s):=by rw[(dS u.o).2.2.2.1,Vh.o]
  go_upto_region 4 with (go_at_call 55;refine(P.o _ G.o).mono ?_;rintro e t ⟨rfl,l⟩)
  have C:=(dS (u.o.grown l (by simp))).2.2.2.2;have Q:=(dS (H.o.grown l (by simp))).2.2.2.2;have p:=ae (ya G.o l);clear o q l u H G P;have o:=ae (show ∀v,v=(decide (0<=a.off)&&(decide (0<=c.off)&&(decide (a.off<=L)&&decide (c.off<=L))))->aH (aZ #[aJ (decide (a.off<c.off)),aJ v])=aH (aZ #[aJ B.1,aJ B.2]) by rintro v rfl;rw[E.o]);clear E;rcases SV (decide (0<=a.off)) (decide (0<=c.off)) (decide (a.off<=L)) (decide (c.off<=L))with (d|⟨f,d|⟨j,d|⟨k,d⟩⟩⟩)|⟨f,j,k,A⟩
  all_goals
   go_wp2;go_ret2;exact⟨o.o _ (by simp[*]),p.o⟩
theorem Sp(b:Nat)(K:aR aY)(cp:Nat)(U:List Nat)(os:List aF)(i:Int)(a c:bD)(w:av)(h:qJ w b K cp U os)(u:dP os a)(V:dP os c)(v:5<=i/\i<=10):
  Calls prog 64 #[aM (some ⟨b,0,N⟩),.int .i64 i,bq a,bq c] w λe j=>e=aH (aZ #[aJ (lP os i a c).1,aJ (lP os i a c).2])/\az w j N:=by
 have l:(w.alloc (.cells (jM a) 44)).heap.size=w.heap.size+1:=js _;have s:=aA.new w (jM a) 44;have j:=aG w (.cells (jM a) 44) N;have p:=aA.new (w.alloc (.cells (jM a) 44)) (jM c) 44;have k:=aG (w.alloc (.cells (jM a) 44)) (.cells (jM c) 44) N;rw[l]at p;have L:=ae (s.grown k (by simp));have M:=ae p;have G:=ae (ya j k);clear s p j k l;have s:=u.n;have t:=V.n;have P:=ae (λW (i:az w W N) (j:¬(a.k=0/\c.k=0))=>acY b K cp U os a c W (h.kept i) u V j);have Q:=ae (λW (i:az w W N)=>aaQ b K cp U os a c W (h.kept i) u)
 have D:=ae (show lP os i a c=if a.k=0/\c.k=0 then (fg i a.n c.n,T)
  else if i=5\/i=6 then ((oK os a c).1==decide (i=5),(oK os a c).2)
  else ((oL os a c).1==decide (i=7\/i=9),(oL os a c).2)from R)
 generalize lP os i a c=Y at *;generalize oK os a c=A at *;generalize oL os a c=H at *;clear h u V;unfold bq at *;unfold jM at *;by_cases z:a.k=0/\c.k=0
 ·have E:=ae (D.o.trans (aD z));have k:(a.k==0)=T:=by simpa using z.1
  have J:(c.k==0)=T:=by simpa using z.2
  have j:=ae (λW=>aer i a.n c.n W s.1 s.2 t.1 t.2 v);clear z P Q s t v;go_enter func64,ntmps64
  go_upto_region 3 with (go_at_call 102;refine(j.o _).mono ?_;rintro e I ⟨rfl,rfl⟩)
  go_wp2;go_ret2;exact⟨by rw[E.o];rfl,G.o⟩
 ·have d:(a.k==0)=F\/((a.k==0)=T/\(c.k==0)=F):=by
   by_cases y:a.k=0
   ·exact .inr ⟨by simpa using y,by simpa using λq=>z ⟨y,q⟩⟩
   ·exact .inl (by simpa using y)
  have Z:=ae z;have p:=ae (D.o.trans (ax z));clear z D s t;by_cases o:i=5\/i=6
  ·have E:=ae (p.o.trans (aD o));have e:((i==5)=T)\/((i==5)=F/\(i==6)=T):=by
    by_cases y:i=5
    ·exact .inl (by simpa using y)
    ·exact .inr ⟨by simpa using y,by simp;omega⟩
   have B:=ae (show Y=(A.1==(i==5),A.2) by rw[E.o];rfl);clear o E p v Q;obtain⟨j,k⟩:=A
   cases j
   all_goals
    rcases d with d|⟨d,J⟩
    all_goals
    rcases e with f|⟨f,S⟩
    all_goals
     go_enter func64,ntmps64
     go_upto_region 6 with (go_at_call 103;refine(P.o _ G.o Z.o).mono ?_;rintro e I ⟨rfl,l⟩)
     have C:=ae (ya G.o l);clear l;go_wp2;go_ret2;exact⟨by rw[B.o,f];rfl,C.o⟩
  ·have E:=ae (p.o.trans (ax o));have S:(i==5)=F:=by simp;omega
   have e2:(i==6)=F:=by simp;omega
   have B:=ae (show Y=(H.1==((i==7) ||(i==9)),H.2) by rw[E.o,Bool.decide_or];rfl);clear o E p v P;obtain⟨j,k⟩:=H
   cases j
   all_goals
    rcases d with d|⟨d,J⟩
    all_goals
    cases f:(i==7)
    all_goals
     go_enter func64,ntmps64
     go_upto_region 8 with (go_at_call 104;refine(Q.o _ G.o).mono ?_;rintro e I ⟨rfl,l⟩)
     have C:=ae (ya G.o l);clear l;go_wp2;go_ret2;exact⟨by rw[B.o,f];first|rfl|(cases (i==9)<;>rfl),C.o⟩
theorem aaw(g:M)(m:cq)(w:av)(G:ij w g m)(B:ni m):
  Calls prog 67 #[aM (some ⟨g,0,N⟩)] w λe c=>∃v,e=aH v/\aV c w.heap.size 3 1 v (ah m.D+m.fD.toNat) ((m.D++eP m.fD.toNat 0).map (I .i64))/\az w c N:=by
 obtain⟨Y,P,q,s,t⟩:=info_parts Tryz.pR;obtain⟨a1,t1,a2,t2,ad,cd,d,-,-,c⟩:=G.open;have HB:=ae d;have T:=ae (yq.dh c);have H:=kF c;have hl:=B.lens.2.2;have hn:=B.fD;have f:=d.cell 6;simp only[bI,bB,bL]at f;clear G B d c;obtain⟨j,p⟩:=Int.eq_ofNat_of_zero_le hn.1;have D:=ae p;rw[p];simp only[dy];go_enter func67,ntmps67;go_wp2;clear f
 go_loopw [3,12] (λv i wr=>∃k:M,k<=ah m.D/\i=I J k/\aV wr w.heap.size 3 1 v k ((m.D.take k).map (I .i64))/\az w wr N) (λ_ i _=>ah m.D-(intOf i).toNat)
 case atStart=>exact⟨0,bG _,R,eO _ _ _ _,aW _ _⟩
 case round=>
  obtain⟨k,hk,rfl,c,h⟩:=hrel;obtain⟨eR,cv,rfl⟩:=yi c;have C:=ae h;have hsz:=h.size;by_cases o:k<ah m.D
  ·obtain⟨V,l,rfl,d⟩:=T.o.kept (λa v e=>yd e h) (by omega);have Q:=d k o;clear d h;have E:=ae (show (m.D.take (k+1)).map (I .i64)=(m.D.take k).map (I .i64)++[I J m.D[k]] by rw[List.take_succ_eq_append_getElem o,List.map_append];rfl);have g1:(k:Z)<(ah m.D:Z):=by omega
   generalize m.D[k]=x at *;go_wp2_with (at_builtin;refine jI _ R _ _ 23 rfl w.heap.size 3 Y (I J 0) 1 8 underlying23 P q s t R (by decide) _ _ _ R (c.alloc _) ⟨wr.heap.size,0,N⟩ 1 1 [I J x] rfl rfl (qt _ _ _) (by intro u d;simp at d;subst d;rfl) (by unfold maxLen;omega) (by omega) (by simp;omega) ?_;intro v' w3 d f _;obtain⟨gR,A,rfl⟩:=yi d;have K:=ae d;have z:=ae (eh (ya C.o (aG _ _ _)) f (λb d=>(c.lt b d).1));clear f d)
   go_wp2
   go_roundw
   case rel=>exact⟨k+1,by omega,by go_num,by rw[E.o];exact K.o,z.o⟩
   case measure=>simp[intOf];omega
  ·obtain rfl:k=ah m.D:=by omega
   have g0:decide ((ah m.D:Z)<(ah m.D:Z))=F:=by simp
   rw[List.take_length]at c;have HO:=ae c;clear c h;obtain⟨U,hU⟩:∃U:av,U=wr:=⟨_,R⟩
   subst hU;go_wp2
   go_loopw [3,6] (λv i wr=>∃k:M,k<=j/\i=I J k/\aV wr w.heap.size 3 1 v (ah m.D+k) ((m.D++eP k 0).map (I .i64))/\az w wr N) (λ_ i _=>j-(intOf i).toNat)
   case atStart=>exact⟨0,bG _,R,by simpa using HO.o,C.o⟩
   case round=>
    obtain⟨k,hk2,rfl,c,h⟩:=hrel;obtain⟨Ba,Bb,rfl⟩:=yi c;have l:=ae h;have V:=h.size;have S:=(HB.o.grown h (by simp)).cell 7;simp only[bI,bB,bL]at S;rw[D.o]at S;clear h;have aiy:j<=65535:=by have:=D.o;omega
    by_cases Q:k<j
    ·have g1:(k:Z)<(j:Z):=by omega
     have E:=ae (show (m.D++eP (k+1) 0).map (I .i64)=(m.D++eP k 0).map (I .i64)++[I J 0] by simp[List.replicate_succ']);go_wp2_with (at_builtin;refine jI _ R _ _ 23 rfl w.heap.size 3 Y (I J 0) 1 8 underlying23 P q s t R (by decide) _ _ _ R (c.alloc _) ⟨wr.heap.size,0,N⟩ 1 1 [I J 0] rfl rfl (qt _ _ _) (by intro u d;simp at d;subst d;rfl) (by unfold maxLen;omega) (by omega) (by simp;omega) ?_;intro v' w3 d f _;obtain⟨gR,A,rfl⟩:=yi d;have K:=ae d;have z:=ae (eh (ya l.o (aG _ _ _)) f (λb d=>(c.lt b d).1));clear f d)
     go_wp2
     go_roundw
     case rel=>exact⟨k+1,by omega,by go_num,by rw[E.o];exact K.o,z.o⟩
     case measure=>simp[intOf];omega
    ·obtain rfl:k=j:=by omega
     have d:=ae c;clear c;have f:decide ((k:Z)<(k:Z))=F:=by simp
     go_wp2;go_ret;exact⟨_,R,d.o,l.o⟩
section
variable{P:Program}(w:av)
theorem acb(t:dm)(b:M)(e:dm)(O:dJ aC)(V:aC)(i:TypeInfo)(k:P.info? t=S i)(c:V.cells.size=i.size)(j:w.heap[b]?=S (.cells O e (0,0)))(d:O.size=V.cells.size)(h:∀u∈V.cells.toList,u.oneCell'=T):
  (Instr.storeAt t (aM (S ⟨b,0,N⟩)) V).run P w = .ok () (w.setRow b V.cells):=by
 have a:=run_storeCells_at P b 0 e V.cells.toList 0 O w j (by simp;omega) h;have f:(O.toList.take (0+0)++V.cells.toList++O.toList.drop (0+0+ah V.cells.toList)).toArray=V.cells:=by
  have:O.toList.drop V.cells.size=[]:=List.drop_eq_nil_of_le (by simp;omega)
  simp[this]
 rw[f]at a;simp[Instr.storeAt,storeVar,Instr.sureAddr,sizeOf,typeInfo,k,c,a]
theorem QN{o:Oper}{a:Act}{K:Act->av->Prop}{Q:Exit->Act->av->Prop}(t:dm)(p x:Operand)(l:o.op = .store t p x)(b:M)(e:dm)(O:dJ aC)(q:a.eval p=aM (S ⟨b,0,N⟩))(V:aC)(v:a.eval x=V)
  (i:TypeInfo) (k:P.info? t=S i) (d:V.cells.size=i.size) (j:w.heap[b]?=S (.cells O e (0,0))) (c:O.size=V.cells.size) (f:∀u∈V.cells.toList,u.oneCell'=T) (h:K (a.put o.dst undef) (w.setRow b V.cells)):o.wp P a w K Q:=by
 have s:=acb (P:=P) w t b e O V i k d j c f;unfold Oper.wp execOp;simp only[l,q,v,Sem.run_bind,Sem.run_pure,Result.andThen_ok,s];unfold Oper.upon;exact h
end
def iw(m:cq):bC:=⟨eP 32 0,m.D++eP m.fD.toNat 0,m.start,0,0,0,[],0,0⟩
def gM(m:cq)(ins:L Z)(fuel:M):bC :=
 let s:=mq m ins fuel fuel (iw m)
 if s.aU=0 then {s with aU:=7} else s
theorem ij.start(h:ij W g m):aq W ⟨g,0,N⟩=S (I J m.start):=by
 obtain⟨d,c,b,a,-⟩:=h;exact a.cell 0
def sA:dJ aC:=#[aM N,ak N 0 0,I J 0,I J 0,I J 0,I J 0,I J 0,I J 0,I J 0,I J 0,I J 0,I J 0,I J 0,I J 0,I J 0,I J 0,I J 0,I J 0,I J 0,I J 0,I J 0,I J 0,I J 0,I J 0,I J 0,I J 0,I J 0,I J 0,I J 0,I J 0,I J 0,I J 0,I J 0,I J 0,ak N 0 0,I J 0,I J 0,I J 0,I J 0,ak N 0 0,I J 0,I J 0]
theorem Tryz.VQ:(Tryz.prog.info? 138).map (λi=>i.size)=S 42:=by kernel_rfl
theorem xh(g:M)(ai:aR aY)(n ci:M)(m:cq)(a:aR aY)(k b:M):(Value.agg (kR g (ak ai n ci) (iw m) (ak a k b) (ak N 0 0)).toArray).cells=(kR g (ak ai n ci) (iw m) (ak a k b) (ak N 0 0)).toArray:=R
theorem ads(m:cq)(a:ni m)(b:∀i,0<=m.D.getD i 0/\m.D.getD i 0<4294967296):zc (iw m):=by
 have c:=a.lens;have d:=a.fD;refine⟨by simp[iw],λi=>?_,by simp[iw],by simp[iw];omega,λi=>?_,a.start,by simp[iw],by simp[iw],by simp[iw],by simp[iw]⟩
 ·have:(iw m).bM.getD i 0=0:=by
   show (eP 32 (0:Z)).getD i 0=0;rw[bQ,Ao];split<;>rfl
  rw[this];decide
 ·show 0<=(m.D++eP m.fD.toNat 0).getD i 0/\(m.D++eP m.fD.toNat 0).getD i 0<4294967296;rw[bQ];by_cases h:i<ah m.D
  ·rw[rz h,<- bQ];exact b i
  ·rw[oB (by omega),Ao];split<;>decide
theorem SN(g:M)(ai:aR aY)(n ci:M)(m:cq)(b:aR aY)(k c:M):∀u∈(kR g (ak ai n ci) (iw m) (ak b k c) (ak N 0 0)).toArray.toList,u.oneCell'=T:=by
 intro u a;simp only[kR,iw,List.mem_append,List.mem_cons,List.map_replicate,List.mem_replicate,List.not_mem_nil,or_false]at a;rcases a with (rfl|rfl)|(⟨_,rfl⟩|rfl|rfl|rfl|rfl|rfl|rfl|rfl|rfl)<;>rfl
theorem ij.lt(h:ij W g m):g<W.heap.size:=by
 obtain⟨d,c,b,a,-⟩:=h;exact a.lt
theorem yz.begin{f U:av}{b:M}{ai:aR aY}{ci:M}{a:aR aY}{k c:M}(o:aA U b O 138)(h:f.heap.size<=b)(q:az f U N)
  (p:aV U f.heap.size 3 1 (ak a k c) k ((m.D++eP m.fD.toNat 0).map (I .i64))) (s:k=ah m.D+m.fD.toNat) (d:∀j,eW (ak a k c)=S j->j≠b) (i:zc (iw m)) :
  yz f b g (ak ai n ci) (iw m) (ak a k c) (ak N 0 0) (U.setRow b (kR g (ak ai n ci) (iw m) (ak a k c) (ak N 0 0)).toArray):=by
 have l:az U (U.setRow b (kR g (ak ai n ci) (iw m) (ak a k c) (ak N 0 0)).toArray) (S b) :=
  ⟨R,R,R,by simp,λj _ a=>Na U b j _ (λe=>a (by simp[e]))⟩
 have t:(iw m).data.length=k:=by rw[s];simp[iw]
 refine⟨setRow_heap U b O _ 138 _ o,?_,eO _ _ _ _,⟨d,by simp[eW],by simp[eW]⟩,h,eh q l (by intro j e;simp at e;omega),i⟩;rw[t];exact p.kept l (by
  cases u:eW (ak a k c) with
  |none=>exact .inl R
  |some j=>right;intro e;exact d j u (by simpa using e))
def BI(b:M)(W:av):M:=match aq W ⟨b,40,N⟩ with
 |some (.int _ i)=>i.toNat
 |_=>0
theorem yz.BI{a:av}{b:M}{c d e:aC}(h:yz a b g c st d e W):BI b W=st.steps:=by
 unfold Proofs.YtaldcojpkflgpaaGreatDoor.BI;rw[h.c.2.2.2.2.2.2.2.2.1];simp
theorem vL(n v:Z)(st:bC):(eu n v st).steps=st.steps:=by unfold eu;split<;>rfl
theorem ab5(ins:L Z)(st:bC):(oI ins st).steps=st.steps:=by
 unfold oI;split
 ·rfl
 split
 ·split<;>rfl
 split
 ·split
  ·rfl
  ·exact vL _ _ _
 ·rfl
theorem acq(m:cq)(b a:Z)(st:bC):(pN m b a st).steps=st.steps:=by
 unfold pN;split
 ·exact vL _ _ _
 split
 ·exact vL _ _ _
 ·rfl
theorem acM(m:cq)(ins:L Z)(c d a b n:Z)(st:bC):(dp m ins c d a b n st).steps=st.steps:=by
 unfold dp;split
 ·rfl
 split
 ·exact vL _ _ _
 split
 ·exact vL _ _ _
 split
 ·exact vL _ _ _
 split
 ·exact vL _ _ _
 split
 ·unfold sO;split<;>rfl
 split
 ·exact acq _ _ _ _
 split
 ·unfold pO;split<;>rfl
 split
 ·exact vL _ _ _
 split
 ·exact ab5 _ _
 ·exact vL _ _ _
theorem Sc(m:cq)(ins:L Z)(st:bC):(li m ins st).steps=st.steps+1:=by
 unfold li;split
 ·rfl
 ·exact acM _ _ _ _ _ _ _ _
theorem acF(m:cq)(ins:L Z)(a k:M)(st:bC)(h:st.aU=0/\st.steps<a):mq m ins a (k+1) st=mq m ins a k (li m ins st):=by
 simp only[mq];rw[aD h]
theorem On(m:cq)(ins:L Z)(a k:M)(st:bC)(h:¬(st.aU=0/\st.steps<a)):mq m ins a k st=st:=by
 cases k with
 |zero=>rfl
 |succ k=>simp only[mq];rw[ax h]
def TP(W0:av)(s:bC)(e:Ending)(w':av):Prop :=
 ∃fO,e=aH (aZ #[.agg #[I J s.aU,I J s.code,fO,I J s.steps,I J s.read],I J 0])/\aV w' W0.heap.size 3 1 fO (ah s.o) (s.o.map (I .i64))
def oQ:dJ aC:=#[I J 0,I J 0,ak N 0 0,I J 0,I J 0]
theorem DK{w V:av}{r B:M}{p q s t u:aC}{j:aC}{l:L aC}(b c d f i:aC)(z:aA V r #[p,q,s,t,u] 49)(D:w.heap.size<=r)(A:az w V N)(C:aV V B 3 1 j n l)(a:∀k,j.ownBlock=S k->k≠r):
  aA (((((aK V ⟨r,0,N⟩ b).setCell ⟨r,1,N⟩ c).setCell ⟨r,2,N⟩ d).setCell ⟨r,3,N⟩ f).setCell ⟨r,4,N⟩ i) r #[b,c,d,f,i] 49 /\
  az w (((((aK V ⟨r,0,N⟩ b).setCell ⟨r,1,N⟩ c).setCell ⟨r,2,N⟩ d).setCell ⟨r,3,N⟩ f).setCell ⟨r,4,N⟩ i) N /\
  (((((aK V ⟨r,0,N⟩ b).setCell ⟨r,1,N⟩ c).setCell ⟨r,2,N⟩ d).setCell ⟨r,3,N⟩ f).setCell ⟨r,4,N⟩ i).ownsRow B 3 1 j n l:=by
 have g:∀ {U:av} (o:M) (v:aC),az w U N->az w (aK U ⟨r,o,N⟩ v) N:=fun {U} o v h=>eh h (bK U r o v) (by intro k e;simp at e;omega)
 exact⟨((((z.set 0 b).set 1 c).set 2 d).set 3 f).set 4 i,g _ _ (g _ _ (g _ _ (g _ _ (g _ _ A)))),uy (uy (uy (uy (uy C a) a) a) a) a⟩
theorem ae9(g:M)(m:cq)(ai:aR aY)(ci:M)(ins:L Z)(f:M)(w:av)(hI:ij w g m)(hT:ni m)(hD:∀i,0<=m.D.getD i 0/\m.D.getD i 0<4294967296)(hl:ah ins<=16)(hf:f<=65536)(hW:Cn m)(hin:yq w ai ins)(ht:eH w)
  (cD:∀(l:av) (b:M) (st:bC) (s G:aC) (d p f o n:Z) (W:av),jd l b g ai ci ins st s G m p f o n W->0<=d/\d<=25 ->
   Calls prog 108 #[aM (some ⟨b,0,N⟩),cQ d p f o n] W λe q=>e=aH (aZ #[])/\gI l b g (ak ai (ah ins) ci) (dp m ins d p f o n st) q) :
  Calls prog 34 #[aM (some ⟨g,0,N⟩),ak ai (ah ins) ci,I J f] w λe q=>TP w (gM m ins f) e q/\az w q N:=by
 have d1:decide ((16:Z)<(ah ins:Z))=F:=by simp;omega
 have d2:decide ((f:Z)<0)=F:=by simp
 have d3:decide ((65536:Z)<(f:Z))=F:=by simp;omega
 have u:=ae (hI.kept (aG w (.cells oQ 49) N));have R0:=ae (aA.new w oQ 49);have t:=ae (show w.heap.size<(w.alloc (.cells oQ 49)).heap.size by rw[show (w.alloc (.cells oQ 49)).heap.size=w.heap.size+1 from js _];omega);have G0:=ae (aG w (.cells oQ 49) N);have N0:=ae (hin.kept (λa v e=>yd e (aG w (.cells oQ 49) N)));have T0:=ae (ht.grown (aG w (.cells oQ 49) N));have CD:=ae cD;have HT:=ae hT;have HW:=ae hW;have T:=ae (λV d=>aaw g m V d hT);have OK:=ae (ads m hT hD);obtain⟨Qp,Qm,hsR⟩:∃i,prog.info? 138=some i/\i.size=42:=by
  have h:=Tryz.VQ
  cases d:prog.info? 138 with
  |none=>rw[d]at h;cases h
  |some i=>rw[d]at h;simp at h;exact⟨i,R,h⟩
 clear hI hin ht cD;go_enter func34,ntmps34
 go_upto_region 5 with fail
 unfold oQ at u R0 G0 N0 T0 t;generalize w.alloc (.cells #[I J 0,I J 0,ak N 0 0,I J 0,I J 0] 49)=l at *;have s0:=u.o.start;have I1:=ae (u.o.kept (ye (aW l N) 1))
 go_cut [8]from 20 to 28 (λv d=>∃b s,v=aM (some ⟨b,0,N⟩)/\yz l b g (ak ai (ah ins) ci) (iw m) s (ak N 0 0) d)
 case first=>
  refine wp_region_held_drew (S:=(λq=>aq q ⟨g,0,N⟩=some (I J m.start))) (by kernel_rfl) s0 ?_;intro P
  iterate 3
   refine qg (v:=?_) R (by kernel_rfl) (λ_ _ _ h=>h) P ?_ ?_
   rotate_left
   ·intro q o;go_simp;with_reducible rfl
  refine dw (i:=4) (v:=?_) R ?_ P ?_
  rotate_left
  ·intro q o;go_simp;with_reducible rfl
  refine dw (i:=5) (v:=?_) R ?_ P ?_
  rotate_left
  ·intro q o;go_simp;with_reducible rfl
  refine dw (i:=6) (v:=?_) R ?_ P ?_
  rotate_left
  ·intro q o;go_simp;with_reducible rfl
  refine dw (i:=7) (v:=?_) R ?_ P ?_
  rotate_left
  ·intro q o;go_simp;with_reducible rfl
  refine ee (rs:=[3,9]) (by kernel_rfl) (by simp) ?_;refine dX R (λK d=>?_) (dX R (λK d=>?_) eN)
  ·go_simp;refine(T.o _ I1.o).mono ?_;rintro e U ⟨v,rfl,A,z⟩;obtain⟨E,G,rfl⟩:=yi A;have C:=(I1.o.kept z).start;refine d.out _ _ C (λQ=>?_);clear d K;refine dw (i:=8) (v:=?_) R ?_ Q ?_
   rotate_left
   ·intro q o;go_simp;with_reducible rfl
   refine ee (rs:=[9]) (by kernel_rfl) (by simp) ?_;refine dX R (λK d=>?_) eN;go_simp;refine d.out _ _ (yd C (aG _ _ N)) (λnC=>?_);clear d K;refine ee (rs:=[10]) (by kernel_rfl) (by simp) ?_;refine dX R (λK d=>?_) eN;rw[aD (by kernel_rfl)];have D:=ae (aA.new U sA 138);have B:=A.lt;have LK:=ae (ya (ya (ye (aW l N) 1) z) (aG U (.cells sA 138) N));have p:=z.size;have s:=ae (kE (A.alloc (.cells sA 138)) (show l.heap.size<=(l.drewN 1).heap.size from bz _))
   have Y:=ae (yz.begin (g:=g) (ai:=ai) (n:=ah ins) (ci:=ci) D.o (by simpa using p) LK.o s.o R (λj e=>by have:=(B j e).2;omega) OK.o);refine QN _ 138 (.tmp 8) (.tmp 28) R U.heap.size 138 sA (by kernel_rfl) (.agg (kR g (ak ai (ah ins) ci) (iw m) (ak E (ah m.D+m.fD.toNat) G) (ak N 0 0)).toArray) (by kernel_rfl) Qp Qm (by rw[xh,hsR];rfl) D.o (by rw[xh];rfl) (by rw[xh];exact SN g ai (ah ins) ci m E _ G) ?_;rw[xh];refine d.out _ _ ?_ (λiS=>?_)
   ·exact(Vt (Na _ _ g _ (by have:=u.o.lt;simp at p;omega))).trans (yd C (aG U (.cells sA 138) N))
   clear d K;refine ox (by kernel_rfl) ?_ _
   try simp only[Act.put,nQ,lH,nj]
   go_wp2_with fail;go_meet;exact⟨_,_,R,Y.o⟩
  ·go_simp;have hS1:=yd s0 (ye (aG l (.cells sA 138) N) 1);refine d.out _ _ hS1 (λQ=>?_);clear d K;refine ee (rs:=[3]) (by kernel_rfl) (by simp) ?_;refine dX R (λK d=>?_) eN;go_simp;have I2:=ae (u.o.kept (ye (aG l (.cells sA 138) N) 1));refine(T.o _ I2.o).mono ?_;rintro e U ⟨v,rfl,A,z⟩;obtain⟨E,G,rfl⟩:=yi A;have C:=(I2.o.kept z).start;refine d.out _ _ C (λnC=>?_);clear d K;refine dw (i:=8) (v:=?_) R ?_ nC ?_
   rotate_left
   ·intro q o;go_simp;with_reducible rfl
   refine ee (rs:=[10]) (by kernel_rfl) (by simp) ?_;refine dX R (λK d=>?_) eN;rw[aD (by kernel_rfl)];have D:=ae (((aA.new l sA 138).drewN 1).grown z (by simp));have B:=A.lt;have LK:=ae (ya (ye (aG l (.cells sA 138) N) 1) z);have p:((l.alloc (.cells sA 138)).drewN 1).heap.size=l.heap.size+1:=js _;have s:=ae (kE A (show l.heap.size<=((l.alloc (.cells sA 138)).drewN 1).heap.size by omega));have Y:=ae (yz.begin (g:=g) (ai:=ai) (n:=ah ins) (ci:=ci) D.o (bz _) LK.o s.o R (λj e=>by have:=(B j e).1;omega) OK.o)
   refine QN _ 138 (.tmp 8) (.tmp 28) R l.heap.size 138 sA (by kernel_rfl) (.agg (kR g (ak ai (ah ins) ci) (iw m) (ak E (ah m.D+m.fD.toNat) G) (ak N 0 0)).toArray) (by kernel_rfl) Qp Qm (by rw[xh,hsR];rfl) D.o (by rw[xh];rfl) (by rw[xh];exact SN g ai (ah ins) ci m E _ G) ?_;rw[xh];refine d.out _ _ ?_ (λiS=>?_)
   ·exact(Vt (Na _ _ g _ (by have:=u.o.lt;omega))).trans C
   clear d K;refine ox (by kernel_rfl) ?_ _
   try simp only[Act.put,nQ,lH,nj]
   go_wp2_with fail;go_meet;exact⟨_,_,R,Y.o⟩
 case rest=>
 obtain⟨b,ZH,rfl,d⟩:=hcut;have H0:=ae d;clear d T;go_wp2
 go_loopw [] (λwr=>∃(st:bC) (s G:aC) (k:M),yz l b g (ak ai (ah ins) ci) st s G wr/\mq m ins f f (iw m)=mq m ins f k st/\f<=st.steps+k/\st.steps<=f) (λwr=>f-BI b wr)
 case atStart=>exact⟨iw m,ZH,_,f,H0.o,R,by omega,bG _⟩
 case round=>
  obtain⟨st,s,G,k,d,o,hk,hs⟩:=hrel;have H:=ae d;have HE:=ae o;clear d o H0;have Q:=H.o.c.2.2.2.2.2.1;have U:=H.o.c.2.2.2.2.2.2.2.2.1;by_cases E:st.aU=0
  ·have q0:(st.aU==0)=true:=by simpa using E
   by_cases hlt:st.steps<f
   ·have q1:decide ((st.steps:Z)<(f:Z))=true:=by simp;omega
    obtain⟨o,rfl⟩:∃o,k=o+1:=⟨k-1,by omega⟩
    have d:=ae (acF m ins f o st ⟨E,hlt⟩);have p:=ae (Sc m ins st);have B:=ae H.o.BI;go_wp2_with fail;refine(adq l b g ai ci ins st s G m wr H.o u.o HT.o HW.o N0.o hl T0.o (by omega) (λst d p f o n W=>CD.o l b st s G d p f o n W)).mono ?_;rintro e V ⟨rfl,C,A,q⟩;have z:=ae q;clear q;go_wp2
    go_roundw
    case rel=>exact⟨li m ins st,C,A,o,z.o,by rw[HE.o,d.o],by rw[p.o];omega,by rw[p.o];omega⟩
    case measure=>rw[B.o,z.o.BI,p.o];omega
   ·have q1:decide ((st.steps:Z)<(f:Z))=F:=by simp;omega
    have P:=ae (show gM m ins f={st with aU:=7} by unfold gM;dsimp only;rw[HE.o,On m ins f k st (λc=>hlt c.2)];rw[aD E]);obtain⟨z,A,yj⟩:=yi H.o.o;subst yj;have d:=ae (R0.o.grown H.o.gr (by simp));have D:w.heap.size<l.heap.size:=t.o;have C:b≠w.heap.size:=by have:=H.o.lo;omega
    have hwb:w.heap.size≠b:=λe=>C e.symm
    have x0:=d.o.cell 0;have x1:=d.o.cell 1;have x2:=d.o.cell 2;have x3:=d.o.cell 3;have x4:=d.o.cell 4;simp only[bI,bB,bL]at x0 x1 x2 x3 x4;have y0:=d.o.free 0;have y1:=d.o.free 1;have y2:=d.o.free 2;have y3:=d.o.free 3;have y4:=d.o.free 4;have Jv:=H.o.c.2.2.2.2.2.2.1;have Jw:=H.o.c.2.2.2.2.2.2.2.1;have Iu:=H.o.c.2.2.2.2.2.2.2.2.2;have B:=H.o.free 37;go_wp2;have p:=ae (H.o.jA 7);have o:=DK (w:=w) (I J 7) (I J st.code) (ak z (ah st.o) A) (I J st.steps) (I J st.read) (d.o.grown (bK wr b 37 (I J 7)) (by simp;omega)) (bz _) (ya G0.o p.o.gr) p.o.o (λj e=>by have:=(p.o.o.lt j e).1;omega)
    have Y:=o.1.cell 0;have T:=o.1.cell 1;have q:=o.1.cell 2;have h3:=o.1.cell 3;have h4:=o.1.cell 4;simp only[bI,bB,bL]at Y T q h3 h4;refine bj (v:=aZ #[.agg #[I J 7,I J st.code,ak z (ah st.o) A,I J st.steps,I J st.read],I J 0]) ?_ R ⟨⟨ak z (ah st.o) A,by rw[P.o],by rw[P.o];exact kE o.2.2 (Nat.le_of_lt D)⟩,o.2.1⟩;clear o p x0 x1 x2 x3 x4 y0 y1 y2 y3 y4 Q Jv Jw U Iu B;generalize aK _ _ _=o at *;simp[results,results34,go_sem,Y,T,q,h3,h4]
  ·have q0:(st.aU==0)=F:=by simpa using E
   have P:=ae (show gM m ins f=st by unfold gM;dsimp only;rw[HE.o,On m ins f k st (λc=>E c.1)];rw[ax E]);obtain⟨z,A,yj⟩:=yi H.o.o;subst yj;have d:=ae (R0.o.grown H.o.gr (by simp));have D:w.heap.size<l.heap.size:=t.o;have C:b≠w.heap.size:=by have:=H.o.lo;omega
   have hwb:w.heap.size≠b:=λe=>C e.symm
   have x0:=d.o.cell 0;have x1:=d.o.cell 1;have x2:=d.o.cell 2;have x3:=d.o.cell 3;have x4:=d.o.cell 4;simp only[bI,bB,bL]at x0 x1 x2 x3 x4;have y0:=d.o.free 0;have y1:=d.o.free 1;have y2:=d.o.free 2;have y3:=d.o.free 3;have y4:=d.o.free 4;have Jv:=H.o.c.2.2.2.2.2.2.1;have Jw:=H.o.c.2.2.2.2.2.2.2.1;have Iu:=H.o.c.2.2.2.2.2.2.2.2.2;have B:=H.o.free 37;go_wp2;have p:=ae H.o;have o:=DK (w:=w) (I J st.aU) (I J st.code) (ak z (ah st.o) A) (I J st.steps) (I J st.read) (d.o) (bz _) (ya G0.o p.o.gr) p.o.o (λj e=>by have:=(p.o.o.lt j e).1;omega)
   have Y:=o.1.cell 0;have T:=o.1.cell 1;have q:=o.1.cell 2;have h3:=o.1.cell 3;have h4:=o.1.cell 4;simp only[bI,bB,bL]at Y T q h3 h4;refine bj (v:=aZ #[.agg #[I J st.aU,I J st.code,ak z (ah st.o) A,I J st.steps,I J st.read],I J 0]) ?_ R ⟨⟨ak z (ah st.o) A,by rw[P.o],by rw[P.o];exact kE o.2.2 (Nat.le_of_lt D)⟩,o.2.1⟩;clear o p x0 x1 x2 x3 x4 y0 y1 y2 y3 y4 Q Jv Jw U Iu B;generalize aK _ _ _=o at *;simp[results,results34,go_sem,Y,T,q,h3,h4]
def mv(S:bJ)(s i:M):L bD:=if s=3 then S.data.getD i []else S.bf.getD i []
structure eA (os:L aF) (bt aj bd:Z) (ms:L aI) (S:bJ) (st:bC):Prop where
 bM:∀r,r<32->fJ (bg bt aj bd ms) (S.bM.getD r bV) (st.bM.getD r 0)/\dP os (S.bM.getD r bV)
 rl:S.bM.length=32/\st.bM.length=32
 rw:∀r,0<=st.bM.getD r 0/\st.bM.getD r 0<4294967296
 r0:st.bM.getD 0 0=0/\S.bM.getD 0 bV=dv 0
 pc:fJ (bg bt aj bd ms) S.pc st.pc/\dP os S.pc/\(0<=st.pc/\st.pc<4294967296)
 dl:bd+4*(st.data.length:Z)=ez bt aj bd ms 4
 uY:∀j,0<=st.data.getD j 0/\st.data.getD j 0<4294967296
 rows:S.data.length=os.length/\S.bf.length=os.length
 mem:∀i s (hi:i<os.length),s=3\/s=4->(mv S s i).length=(aQ os[i] s).length/\∀k,k<(aQ os[i] s).length->fJ (bg bt aj bd ms) ((mv S s i).getD k bV) (st.data.getD (((bg bt aj bd ms i s).getD 0 0+4*k-bd)/4).toNat 0)/\dP os ((mv S s i).getD k bV)
 o:st.o=S.o/\S.o.length<=16
 read:st.read=S.read
 aU:S.aU=0/\st.aU=0
def kM(m:cq)(ins:L Z):M->bC->bC->Prop
 |0,st,st'=>st'=st
 |k+1,st,st'=>st.aU=0/\kM m ins k (li m ins st) st'
theorem kM.one(h:st.aU=0):kM m ins 1 st (li m ins st):=⟨h,R⟩
theorem kM.cat:∀ {j k:M} {a b c:bC},kM m ins j a b->kM m ins k b c->kM m ins (j+k) a c:=by
 intro j
 induction j with
 |zero=>intro k a b c d e;cases d;rw[mL];exact e
 |succ j f=>intro k a b c d e;rw[Nat.succ_add];exact⟨d.1,f d.2 e⟩
theorem wC{w:Z}{d:M}{e b c n:Z}(f:fi m st.pc=S w)(a:nu w d e b c n):
  li m ins st={dp m ins d e b c n {st with steps:=st.steps+1,next:=bn (st.pc+4)} with pc:=(dp m ins d e b c n {st with steps:=st.steps+1,next:=bn (st.pc+4)}).next}:=by
 unfold li;rw[f];dsimp only;rw[a.op,a.rd,a.dF,a.eG,a.n]
theorem XB{w:Z}(a:0<=w)(b:w<=4294967295):nu w (cz w) (bF (aP w) w) (bR (aP w) w) (dW (aP w) w) (dO (aP w) w):=⟨a,b,R,R,R,R,R⟩
section
variable(m:cq)(ins:L Z)(rd dF eG n:Z)(st:bC)
theorem X2:dp m ins 0 rd dF eG n st={st with aU:=3}:=R
theorem OE:dp m ins 1 rd dF eG n st=eu rd (n*4096) st:=R
theorem OG:dp m ins 2 rd dF eG n st=eu rd (n*4096+st.pc) st:=R
theorem OH:dp m ins 3 rd dF eG n st=tP rd (st.pc+n) st:=R
theorem OI:dp m ins 4 rd dF eG n st=tP rd ((bH st dF+n)-(bH st dF+n)%2) st:=R
theorem O1(a:Z)(h:5<=a/\a<=10):dp m ins a rd dF eG n st=sO (fg a (bH st dF) (bH st eG)) n st:=by
 rcases (show a=5\/a=6\/a=7\/a=8\/a=9\/a=10 by omega)with rfl|rfl|rfl|rfl|rfl|rfl<;>rfl
theorem OA:dp m ins 11 rd dF eG n st=pN m rd (bn (bH st dF+n)) st:=R
theorem OB:dp m ins 12 rd dF eG n st=pO m (bn (bH st dF+n)) (bH st eG) st:=R
theorem Jm(a:Z)(h:13<=a/\a<=17):dp m ins a rd dF eG n st=eu rd (jw a (bH st dF) (bn n)) st:=by
 rcases (show a=13\/a=14\/a=15\/a=16\/a=17 by omega)with rfl|rfl|rfl|rfl|rfl<;>rfl
theorem X3(a:Z)(h:18<=a/\a<=24):dp m ins a rd dF eG n st=eu rd (jw a (bH st dF) (bH st eG)) st:=by
 rcases (show a=18\/a=19\/a=20\/a=21\/a=22\/a=23\/a=24 by omega)with rfl|rfl|rfl|rfl|rfl|rfl|rfl<;>rfl
theorem X1:dp m ins 25 rd dF eG n st=oI ins st:=R
end
section
variable{os:L aF}{bt aj bd:Z}{ms:L aI}{a:bJ}{st:bC}
theorem eA.mQ(h:eA os bt aj bd ms a st)(b:0<=r)(c:r<32):fJ (bg bt aj bd ms) (bU a r) (bH st r)/\dP os (bU a r)/\(0<=bH st r/\bH st r<4294967296):=by
 have e:r%32=r:=by omega
 unfold bU bH;rw[e]
 have:=h.bM r.toNat (by omega)
 exact⟨this.1,this.2,h.rw _⟩
theorem eA.put(h:eA os bt aj bd ms a st)(k:0<=r)(l:r<32){v:bD}(j:fJ (bg bt aj bd ms) v (bn x))(f:dP os v):eA os bt aj bd ms (dH r v a) (eu r x st):=by
 have e:r%32=r:=by omega
 unfold dH eu;rw[e];by_cases c:r=0
 ·rw[aD c,aD c];exact h
 rw[ax c,ax c];have b:=h.rl;have wr:=mo x;refine⟨λq i=>?_,⟨by rw[lI];exact b.1,by rw[lI];exact b.2⟩,λq=>?_,?_,h.pc,h.dl,h.uY,h.rows,h.mem,h.o,h.read,h.aU⟩
 ·by_cases d:q=r.toNat
  ·subst d;rw[bQ,bQ,I5 (by omega),I5 (by omega)];exact⟨j,f⟩
  ·have:=h.bM q i
   rw[bQ,bQ,Ap (λc=>d c.symm),Ap (λc=>d c.symm),<- bQ,<- bQ];exact this
 ·by_cases d:q=r.toNat
  ·subst d;rw[bQ,I5 (by omega)];exact wr
  ·rw[bQ,Ap (λc=>d c.symm),<- bQ];exact h.rw q
 ·have d:r.toNat≠0:=by omega
  rw[bQ,bQ,Ap d,Ap d,<- bQ,<- bQ];exact h.r0
theorem eA.go(h:eA os bt aj bd ms a st){v:bD}(k e:Z)(j:M)(c:fJ (bg bt aj bd ms) v x)(b:dP os v)(d:0<=x/\x<4294967296):eA os bt aj bd ms (eB v a) {st with pc:=x,next:=e,code:=k,steps:=j} :=
 ⟨h.bM,h.rl,h.rw,h.r0,⟨c,b,d⟩,h.dl,h.uY,h.rows,h.mem,h.o,h.read,h.aU⟩
theorem eA.same(h:eA os bt aj bd ms a st)(b k:Z)(j:M):eA os bt aj bd ms a {st with next:=b,code:=k,steps:=j} :=
 ⟨h.bM,h.rl,h.rw,h.r0,h.pc,h.dl,h.uY,h.rows,h.mem,h.o,h.read,h.aU⟩
end
structure ex where
 b:M
 ap:aR aY
 cp:M
 gl:L M
 os:L aF
 ai:aR aY
 ci:M
 ins:L Z
 vd:aC
 vb:aC
 vr:aC
 ds:L aC
 bs:L aC
def ex.vs(P:ex):L aC:=P.vr::(P.ds++P.bs)
def jx(S:bJ):L (L bD):=S.bM::(S.data++S.bf)
def iI(P:ex)(fO:aC)(S:bJ):L aC :=
 [ak P.ap (ah P.gl) P.cp,P.vr,I J S.pc.k,I J S.pc.n,I J S.pc.part,I J S.pc.au,I J S.pc.off,P.vd,P.vb,ak P.ai (ah P.ins) P.ci,I J S.aU,I J S.ret,fO,I J S.read]
structure bE (W0:av) (P:ex) (fO:aC) (S:bJ) (W:av):Prop where
 aO:aA W P.b (iI P fO S).toArray 47
 lens:P.ds.length=S.data.length/\P.bs.length=S.bf.length
 row:∀(i:M) (v:aC) (l:L bD),P.vs[i]?=some v->(jx S)[i]?=some l->W.ownsRow W0.heap.size 44 5 v l.length (l.flatMap lT)
 apart:∀(i j:M) (v u:aC) (k:M),i≠j->P.vs[i]?=some v->P.vs[j]?=some u->v.ownBlock=some k->u.ownBlock≠some k
 data:W.ownsRow W0.heap.size 42 1 P.vd P.ds.length P.ds
 bf:W.ownsRow W0.heap.size 42 1 P.vb P.bs.length P.bs
 o:W.ownsRow W0.heap.size 3 1 fO S.o.length (S.o.map (I .i64))
 lo:W0.heap.size<=P.b
 gr:W0.grownBy W N
 parts:oq W0 P.ap P.gl P.os
 ins:yq W0 P.ai P.ins
def yv(P:ex)(W W':av):Prop:=∀X cs t,aA W X cs t->t≠47->t≠3->(∀v∈P.vs,v.ownBlock≠S X)->aA W' X cs t
theorem yv.trans{P:ex}{A B C:av}(h:yv P A B)(k:yv P B C):yv P A C:=λX a t e b c d=>k X a t (h X a t e b c d) b c d
theorem yv.grown{P:ex}{a:av}(h:az W a N):yv P W a:=λ_ _ _ a _ _ _=>a.grown h (by simp)
theorem Ls:∀(l:L bD) (j:M) (x:bD),(((((l.flatMap lT).set (j*5) (I J x.k)).set (j*5+1) (I J x.n)).set (j*5+2) (I J x.part)).set (j*5+3) (I J x.au)).set (j*5+4) (I J x.off)=(l.set j x).flatMap lT
 | [],j,x=>by simp
 |a::l,0,x=>rfl
 |a::l,j+1,x=>by
  rw[show (j+1)*5=j*5+5 by omega];exact congrArg (λr=>lT a++r) (Ls l j x)
def kC(W:av)(g o:M)(x:bD):av:=((((aK W ⟨g,o,N⟩ (I J x.k)).setCell ⟨g,o+1,N⟩ (I J x.n)).setCell ⟨g,o+2,N⟩ (I J x.part)).setCell ⟨g,o+3,N⟩ (I J x.au)).setCell ⟨g,o+4,N⟩ (I J x.off)
theorem zm(W:av)(g o:M)(x:bD):az W (kC W g o x) (S g) :=
 AJ (AJ (AJ (AJ (bK W g o _) _ _) _ _) _ _) _ _
section
variable{b W r:av}{P:ex}{d:aC}{a:bJ}
theorem bE.cells(h:bE b P d a W)(i:M):aq W ⟨P.b,i,N⟩=(iI P d a)[i]?:=(h.aO.cell i).trans bI
theorem bE.free(h:bE b P d a W)(o:M):dx W ⟨P.b,o,N⟩=F:=h.aO.free o
theorem bE.ps(h:bE b P d a W):qJ W P.b P.ap P.cp P.gl P.os:=⟨h.cells 0,h.parts.kept h.gr⟩
theorem bE.grown(h:bE b P d a W)(c:az W r N):bE b P d a r :=
 ⟨h.aO.grown c (by simp),h.lens,λi v l e f=>lZ (h.row i v l e f) c,h.apart,lZ h.data c,lZ h.bf c,lZ h.o c,h.lo,ya h.gr c,h.parts,h.ins⟩
theorem bE.put(h:bE b P d a W)(o:M)(v:aC)(f:bJ)(w:(iI P d a).set o v=iI P d f)(A:f.bM=a.bM)(s:f.data=a.data)(q:f.bf=a.bf)(z:f.o=a.o):
  bE b P d f (aK W ⟨P.b,o,N⟩ v):=by
 have j:∀ {e:dm} {f n:M} {u:aC} {p:L aC},e≠47->aV W b.heap.size e f u n p->(aK W ⟨P.b,o,N⟩ v).ownsRow b.heap.size e f u n p:=λq j=>vI j (λk e c=>mR j e (c ▸ h.aO) q)
 refine⟨?_,by rw[s,q];exact h.lens,λi u l t p=>j (by decide) (h.row i u l t (by unfold jx at p ⊢;rw[<- A,<- s,<- q];exact p)),h.apart,j (by decide) h.data,j (by decide) h.bf,by rw[z];exact j (by decide) h.o,h.lo,eh h.gr (bK W P.b o v) (by intro k e;simp at e;have:=h.lo;omega),h.parts,h.ins⟩
 have:=h.aO.set o v
 rw[dt,w]at this;exact this
theorem bE.gZ(h:bE b P d a W)(o:M)(v:aC):yv P W (aK W ⟨P.b,o,N⟩ v):=λX i t c f _ _=>
 fE c (λe=>f (by have c:=e ▸ c;have:=h.aO.symm.trans c;simp at this;exact this.2.symm)) o v
theorem bE.jA(h:bE b P d a W)(v:Z):bE b P d {a with aU:=v} (aK W ⟨P.b,10,N⟩ (I J v)):=h.put 10 _ _ R R R R R
theorem bE.Wu(h:bE b P d a W)(v:Z):bE b P d {a with ret:=v} (aK W ⟨P.b,11,N⟩ (I J v)):=h.put 11 _ _ R R R R R
theorem bE.LZ(h:bE b P d a W)(v:M):bE b P d {a with read:=v} (aK W ⟨P.b,13,N⟩ (I J v)):=h.put 13 _ _ R R R R R
theorem bE.kO(h:bE b P d a W)(v:bD):bE b P d (eB v a) (kC W P.b 2 v)/\yv P W (kC W P.b 2 v):=by
 have c:=h.put 2 (I J v.k) {a with pc:={a.pc with k:=v.k}} rfl rfl rfl rfl rfl;have e:=c.put 3 (I J v.n) {a with pc:={a.pc with k:=v.k,n:=v.n}} rfl rfl rfl rfl rfl;have f:=e.put 4 (I J v.part) {a with pc:={a.pc with k:=v.k,n:=v.n,part:=v.part}} rfl rfl rfl rfl rfl;have i:=f.put 5 (I J v.au) {a with pc:={a.pc with k:=v.k,n:=v.n,part:=v.part,au:=v.au}} rfl rfl rfl rfl rfl;exact⟨i.put 6 (I J v.off) (eB v a) R R R R R,(h.gZ 2 _).trans ((c.gZ 3 _).trans ((e.gZ 4 _).trans ((f.gZ 5 _).trans (i.gZ 6 _))))⟩
theorem bE.newRow(h:bE b P d a W)(i:M){v:L bD}(A:P.vs[i]?=S (ak (S ⟨g,0,N⟩) n cap))(l:bJ)(Q:jx l=(jx a).set i v)(E:iI P d l=iI P d a)(K:l.o=a.o)(f:ah l.data=ah a.data/\(ah l.bf)=ah a.bf)
  (B:aA W g O 44) (H:b.heap.size<=g) (s:az W r (S g)) (p:aV r b.heap.size 44 5 (ak (S ⟨g,0,N⟩) n cap) (ah v) (v.flatMap lT)):bE b P d l r/\yv P W r:=by
 have C:∀ {e:dm} {f n:M} {u:aC} {l:L aC},aV W b.heap.size e f u n l->u.ownBlock≠S g->aV r b.heap.size e f u n l:=λo p=>o.kept s (.inr p)
 have z:∀ {e:dm} {f n:M} {u:aC} {l:L aC},e≠44->aV W b.heap.size e f u n l->aV r b.heap.size e f u n l:=λp o=>C o (λc=>mR o c B p)
 have w:P.b≠g:=λe=>by
  have:=h.aO.symm.trans (e ▸ B)
  simp at this
 refine⟨⟨by rw[E];exact h.aO.grown s (by simpa using w),⟨by rw[f.1];exact h.lens.1,by rw[f.2];exact h.lens.2⟩,λj u m q o=>?_,h.apart,z (by decide) h.data,z (by decide) h.bf,by rw[K];exact z (by decide) h.o,h.lo,eh h.gr s (by intro k e;simp at e;omega),h.parts,h.ins⟩,λX U t G _ _ D=>G.grown s (λc=>D _ (List.mem_of_getElem? A) (by simp at c;subst c;rfl))⟩;rw[Q]at o;by_cases c:i=j
 ·subst c
  have:u=ak (S ⟨g,0,N⟩) n cap:=by rw[A]at q;simpa using q.symm
  subst this;have e:m=v:=by
   rw[EY]at o;simp at o;exact o.2.symm
  subst e;exact p
 ·rw[Ap c]at o;exact C (h.row j u m q o) (λe=>h.apart i j _ u g c A q R e)
theorem bE.rowAt(h:bE b P d a W)(i:M){v:aC}{l:L bD}(u:P.vs[i]?=S v)(p:(jx a)[i]?=S l)(o:0<ah l):∃g cap O,v=ak (S ⟨g,0,N⟩) (ah l) cap/\(ah l)<=cap/\aA W g O 44/\b.heap.size<=g/\g<W.heap.size /\
  ∀j (k:j<ah l),aq W ⟨g,j*5,N⟩=S (I J l[j].k)/\aq W ⟨g,j*5+1,N⟩=S (I J l[j].n)/\aq W ⟨g,j*5+2,N⟩=S (I J l[j].part)/\aq W ⟨g,j*5+3,N⟩=S (I J l[j].au)/\aq W ⟨g,j*5+4,N⟩=S (I J l[j].off):=by
 have e:=h.row i v l u p;obtain⟨w,cap,rfl⟩:=yi e;obtain⟨g,O,rfl,f,z,t,c⟩:=Ly e o;refine⟨g,cap,O,R,c,f,(e.lt g R).1,(e.lt g R).2,λj k=>?_⟩;have c:∀q,q<5->aq W ⟨g,j*5+q,N⟩=(lT l[j])[q]?:=λq s=>by
  rw[f.cell,<- yR lT 5 (λ_=>rfl) l j q k s,<- t,List.getElem?_take,aD (by omega),Array.getElem?_toList]
 exact⟨c 0 (by omega),c 1 (by omega),c 2 (by omega),c 3 (by omega),c 4 (by omega)⟩
theorem bE.LV(h:bE b P d a W)(i j:M){l:L bD}(x:bD)(p:P.vs[i]?=S (ak (S ⟨g,0,N⟩) n cap))(t:(jx a)[i]?=S l)(A:j<ah l)(s:aA W g O 44)(c:bJ)(w:jx c=(jx a).set i (l.set j x))(q:iI P d c=iI P d a)(v:c.o=a.o)(f:ah c.data=ah a.data/\(ah c.bf)=ah a.bf):bE b P d c (kC W g (j*5) x)/\yv P W (kC W g (j*5) x):=by
 have k:=h.row i _ l p t;obtain⟨z,o,e⟩:=yi k;simp only[Value.slice.injEq]at e;obtain⟨-,rfl,-⟩:=e;refine h.newRow i p c w q v f s (k.lt g R).1 (zm W g _ x) ?_
 have:=tq (j:=j*5+4) (u:=I J x.off) (tq (j:=j*5+3) (u:=I J x.au) (tq (j:=j*5+2) (u:=I J x.part) (tq (j:=j*5+1) (u:=I J x.n) (tq (j:=j*5) (u:=I J x.k) k (by omega)) (by omega)) (by omega)) (by omega)) (by omega)
 rw[Ls]at this;rw[lI];exact this
theorem bE.MT(h:bE b P d a W)(j:M)(x:bD)(f:P.vr=ak (S ⟨g,0,N⟩) n cap)(e:j<ah a.bM)(c:aA W g O 44):bE b P d {a with bM:=a.bM.set j x} (kC W g (j*5) x)/\yv P W (kC W g (j*5) x) :=
 h.LV 0 j x (by unfold ex.vs;rw[f];rfl) R e c _ R R R ⟨R,R⟩
theorem bE.Ma(h:bE b P d a W)(p j:M)(x:bD)(c:p<ah a.data)(i:P.ds[p]?=S (ak (S ⟨g,0,N⟩) n cap))(f:j<a.data[p].length)(e:aA W g O 44):bE b P d {a with data:=a.data.set p (a.data[p].set j x)} (kC W g (j*5) x)/\yv P W (kC W g (j*5) x):=by
 refine h.LV (p+1) j (n:=n) (cap:=cap) (l:=a.data[p]) x ?_ ?_ f e _ ?_ R R ⟨by simp,R⟩
 ·unfold ex.vs;rw[bB,rz (by rw[h.lens.1];exact c)];exact i
 ·unfold jx;rw[bB,rz c,bW c]
 ·unfold jx;rw[dB,List.set_append_left _ _ c]
theorem bE.Wt(h:bE b P d a W)(p j:M)(x:bD)(f:p<ah a.bf)(i:P.bs[p]?=S (ak (S ⟨g,0,N⟩) n cap))(e:j<a.bf[p].length)(c:aA W g O 44):bE b P d {a with bf:=a.bf.set p (a.bf[p].set j x)} (kC W g (j*5) x)/\yv P W (kC W g (j*5) x):=by
 refine h.LV (ah a.data+p+1) j (n:=n) (cap:=cap) (l:=a.bf[p]) x ?_ ?_ e c _ ?_ R R ⟨R,by simp⟩
 ·unfold ex.vs;rw[bB,oB (by rw[h.lens.1];omega),h.lens.1,rF];exact i
 ·unfold jx;rw[bB,oB (by omega),rF,bW f]
 ·unfold jx;rw[dB,List.set_append_right _ _ (by omega),rF]
theorem bE.fresh(h:bE b P d a W)(f:(jx a).length=ah P.vs)(k:W.heap.size<=X):∀v∈P.vs,v.ownBlock≠S X:=λv j e=>by
 obtain⟨i,c,rfl⟩:=List.getElem_of_mem j
 have:=(h.row i _ ((jx a)[i]'(by omega)) (bW c) (bW (by omega))).lt X e
 omega
theorem bE.rL(h:bE b P d a W):(jx a).length=ah P.vs:=by
 unfold jx ex.vs;simp[h.lens.1,h.lens.2]
end
section
variable{j W d:av}{P:ex}{m b:aC}{a:bJ}
theorem bE.Mj(h:bE j P m a W)(x:Z)(p:aV d j.heap.size 3 1 b (ah a.o+1) (a.o.map (I .i64)++[I J x]))(z:az W d m.ownBlock):
  bE j P b {a with o:=a.o++[x]} (aK d ⟨P.b,12,N⟩ b)/\yv P W (aK d ⟨P.b,12,N⟩ b):=by
 have C:∀k,m.ownBlock=S k->∀f t,aA W k f t->t≠3->False:=λk e f t q p=>mR h.o e q (Ne.symm p)
 have q:aA d P.b (iI P m a).toArray 47:=h.aO.grown z (λe=>C P.b e.symm _ _ h.aO (by decide));have B:∀ {e:dm} {f n:M} {u:aC} {A:L aC},e≠3->e≠47->aV W j.heap.size e f u n A->(aK d ⟨P.b,12,N⟩ b).ownsRow j.heap.size e f u n A:=by
  intro e f n u A s v D;have w:aV d j.heap.size e f u n A:=by
   refine D.kept z ?_;rcases D.2 with ⟨rfl,_⟩|⟨E,cap,O,rfl,_,G,_⟩
   ·exact .inl R
   ·exact .inr (λc=>C E c.symm O e G s)
  exact vI w (λk e c=>mR w e (c ▸ q) v)
 refine⟨⟨?_,h.lens,λi u l s v=>B (by decide) (by decide) (h.row i u l s v),h.apart,B (by decide) (by decide) h.data,B (by decide) (by decide) h.bf,?_,h.lo,?_,h.parts,h.ins⟩,λX f t w s v _=>?_⟩
 ·have:=q.set 12 b
  rw[dt]at this;exact this
 ·have:=vI (g:=P.b) (o:=12) (u:=b) p (λk e c=>mR p e (c ▸ q) (by decide))
  simpa using this
 ·exact eh (eh h.gr z (λk e=>(h.o.lt k e).1)) (bK d P.b 12 b) (by intro k e;simp at e;have:=h.lo;omega)
 ·refine fE (w.grown z (λe=>C X e.symm f t w v)) (λe=>s ?_) 12 b
  have:=h.aO.symm.trans (e ▸ w)
  simp at this;exact this.2.symm
end
structure qF (os:L aF) (S:bJ):Prop where
 rl:S.bM.length=32
 bM:∀r,r<32->dP os (S.bM.getD r bV)
 pc:dP os S.pc
 rows:S.data.length=os.length/\S.bf.length=os.length
 mem:∀i s (hi:i<os.length),s=3\/s=4->(mv S s i).length=(aQ os[i] s).length
 o:S.o.length<=16
theorem eA.gd{bt aj bd:Z}{ms:L aI}{S:bJ}(h:eA os bt aj bd ms S st):qF os S:=⟨h.rl.1,λr b=>(h.bM r b).2,h.pc.2.1,h.rows,λi s a c=>(h.mem i s a c).1,h.o.2⟩
theorem qF.mQ{S:bJ}(h:qF os S)(a:0<=r)(b:r<32):dP os (bU S r):=h.bM r.toNat (by omega)
theorem qF.put{S:bJ}(h:qF os S)(r:Z)(v:bD)(b:dP os v):qF os (dH r v S):=by
 unfold dH;split
 ·exact h
 refine⟨by rw[lI];exact h.rl,λq a=>?_,h.pc,h.rows,h.mem,h.o⟩;show dP os ((S.bM.set r.toNat v).getD q bV);rw[bQ,EY];split
 ·split
  ·exact b
  ·exact wA os
 ·have:=h.bM q a
  rw[bQ]at this;exact this
