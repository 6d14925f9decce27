import Derived.Test.YtaldcojpkflgpaaGreatDoorU04
import Derived.Deep.RegionLaw
import Derived.Deep.AppendLies
set_option maxHeartbeats 16000000
set_option maxRecDepth 100000
open Go.Value renaming int->I,slice->ak,pointer->aM,string->aB,tuple->aZ,ownBlock->eW,bool->aJ
open Go.IntKind renaming i64->J
open Go renaming World->av,Addr->aY,TypeId->dm,Value->aC,info_parts->fG,heap_alloc_new->rm,maxLen->cu,wpAny_take->kH,wpAny_ready->wZ,wpList_append_own->jI,cell_one_new->qt,bodyPost_ret->bj
open _root_ renaming Option->aR,List->L,UInt8->aL,Nat->M,Int->Z,Array->dJ,ByteArray->bT,rfl->R,if_pos->aD,congrArg->jz,if_neg->ax,Bool->bc
open List renaming length->ah,take_succ_eq_append_getElem->kI,append_assoc->cy,take_of_length_le->mH,getElem?_take->vZ,flatMap_append->ru,flatMap_cons->kX,length_append->bX,length_cons->dA,drop_of_length_le->xD,length_drop->yI,getElem_of_mem->kY,length_nil->yJ,drop_drop->uJ,drop_eq_getElem_cons->fv,take_append_drop->rB,length_take->iO,getElem_mem->bN,flatMap->IZ,flatMap_nil->EW,append_nil->lG,take_length->nS,mem_append->nR,mem_singleton->yL,setIfInBounds_toArray->dt,set_cons_succ->dB,set_cons_zero->dC,getElem?_toArray->bI,getElem?_cons_succ->bB,mem_map->mh,getElem_append_left->uM,length_map->fZ
open Go.Ending renaming returned->aH
open Option renaming some->S,none->N
open Go.RowKit renaming intOf->aN
open Nat renaming zero_le->bG,zero_add->mL,min_eq_left->zq,add_assoc->wm,le_refl->bz,le_trans->fV,lt_of_lt_of_le->oc
open Bool renaming true->T,false->F
open Go.AllReady renaming cons->vu,nil->wW
open Go.World renaming ownsRow->aV,grownBy_alloc->aG,grownBy->az,ownsRow_nil->eO,cell?->aq,setCell->aK,alloc->wX
open Go.Value.slice renaming injEq->jQ
open Int renaming toNat_natCast->dy,eq_ofNat_of_zero_le->eX
open Prod.mk renaming injEq->ny
open Array renaming size_push->js
namespace Go.Proofs.YtaldcojpkflgpaaGreatDoor
open Go.RowKit Go.Proofs.Tryz
variable {w:av} {D:aR aY} {l rest:L aL} {b p di:M} {xs:L Z} {t:dm} {G:dJ aC} {o:aF} {ts:L dm}
theorem Tm(s:bT)(k:M)(h:k<s.size):(sl s).take (k+1)=(sl s).take k++[s[k]]:=by
 have a:k<ah s.data.toList:=by rw[Array.length_toList];exact h
 unfold sl;rw[kI a];rfl
theorem Ky(b:Nat)(s:bT)(l:L aL)(w:av)(h:gG w b l)(hl:ah l<=16777216)(hs:s.size<=1048576):
  Calls prog 83 #[aM (S ⟨b,0,N⟩),aB s] w λe a=>e=aH (aZ #[])/\gG a b (l++sl s)/\Wk b w a:=by
 obtain⟨i0,hi,Q,U,V⟩:=fG Tryz.Me;have H:=ae h;clear h;go_enter func83,ntmps83;go_wp2
 go_loopw [4] (λi wr=>∃(k:Nat),k<=s.size/\i = .int .i64 k/\(∃c:L aL,ah c=ah l+k/\gG wr b c/\l++(sl s).take k=c)/\Wk b w wr) (λi _=>s.size-(aN i).toNat)
 case atStart=>exact⟨0,bG _,R,⟨l,R,H.o,by simp⟩,Wk.refl _ _⟩
 case round=>
  obtain⟨k,hk,rfl,a,c⟩:=hrel;have I:=ae a;have F:=ae c;clear a c;by_cases E:k<s.size
  ·obtain⟨c,q,M,f⟩:=I.o;obtain⟨D,n,a,d⟩:=M;have J:=a.cell 0;have f0:=a.free 0;have hbl:=a.lt;have z:=ae a;have Ot:=ae f;have Of:=ae q;have YJ:ah c<=33554432:=by omega
   have m:=ae (show ∀g,eW (ak D (ah c) n)=S g->b+1<=g from λg a=>(d.lt g a).1);have A:=ae d;have O:=World.new_ne wr ⟨b,0,N⟩ (by simpa using J);have g1:(0:Z)<=(k:Z):=by omega
   have g2:(k:Z)<(s.size:Z):=by omega
   have W:Hd ((wr.alloc (.cells #[.int .u8 s[k].toNat] 5)).drew.ownsRow (b+1) 5 1 (ak D (ah c) n) (ah c) (my c)):=(d.alloc _).drew;have X:Hd (∀j u,[Value.int .u8 s[k].toNat][j]?=S u->(wr.alloc (.cells #[.int .u8 s[k].toNat] 5)).drew.cell? ((⟨wr.heap.size,0,N⟩:aY).add j)=S u):=World.news_of_block (rm wr (.cells #[.int .u8 s[k].toNat] 5));have Y:Hd (∀u∈[Value.int .u8 (s[k].toNat:Z)],u.oneCell'=true):=by intro u hu;simp at hu;subst hu;rfl
   have r:Hd (ah c+1<=cu):=by show _<=_;unfold cu;omega
   have y:Hd ((ah c+1)*1<=140737488355328):=by show _<=_;omega
   have x:Hd (b+1<=(wr.alloc (.cells #[.int .u8 s[k].toNat] 5)).drew.heap.size):=by show _<=_;simp;omega
   have C:Hd ((wr.alloc (.cells #[.int .u8 s[k].toNat] 5)).drew.heap.size=wr.heap.size+1):=by show _=_;simp
   clear a f q I d;go_wp2;refine wp_region_any (by kernel_rfl) ?_
   change wpAny _ Region.Mode.any _ _ _ _ _ wr.drew
   refine kH (i:=0) (v:=?_) R (by kernel_rfl) (by kernel_rfl) (by kernel_rfl) (λ_ _ _ h=>h) (Or.inl ⟨by kernel_rfl,?_⟩) ?_
   rotate_left
   ·intro w;go_simp;with_reducible rfl
   refine kH (i:=1) (v:=?_) R (by kernel_rfl) (by kernel_rfl) (by kernel_rfl) (λ_ _ _ h=>h) (Or.inl ⟨by kernel_rfl,?_⟩) ?_
   rotate_left
   ·intro w;go_simp;with_reducible rfl
   refine kH (i:=2) (v:=?_) R (by kernel_rfl) (by kernel_rfl) (by kernel_rfl) (λ_ _ _ h=>h) (Or.inl ⟨by kernel_rfl,?_⟩) ?_
   rotate_left
   ·intro w;go_simp;with_reducible rfl
   refine kH (i:=3) (v:=?_) R (by kernel_rfl) (by kernel_rfl) (by kernel_rfl) (λ_ _ _ h=>h) (Or.inl ⟨by kernel_rfl,?_⟩) ?_
   rotate_left
   ·intro w;go_simp;with_reducible rfl
   refine kH (i:=5) (v:=?_) R (by kernel_rfl) (by kernel_rfl) (by kernel_rfl) (λ_ _ _ h=>h) (Or.inl ⟨by kernel_rfl,?_⟩) ?_
   rotate_left
   ·intro w;go_simp;with_reducible rfl
   refine kH (i:=6) (v:=?_) R (by kernel_rfl) (by kernel_rfl) (by kernel_rfl) (λ_ _ _ h=>h) (Or.inl ⟨by kernel_rfl,?_⟩) ?_
   rotate_left
   ·intro w;go_simp;with_reducible rfl
   refine kH (i:=7) (v:=?_) R (by kernel_rfl) (by kernel_rfl) (by kernel_rfl) (λ_ _ _ h=>h) (Or.inl ⟨by kernel_rfl,?_⟩) ?_
   rotate_left
   ·intro w;go_simp;with_reducible rfl
   refine wZ (rs:=[4,8]) (by kernel_rfl) (by simp) ?_;refine vu R (λK f=>?_) (vu R (λK f=>?_) wW)
   ·go_simp;refine f _ _ ?_;clear f K;refine wZ (rs:=[8]) (by kernel_rfl) (by simp) ?_;refine vu R (λK f=>?_) wW;go_simp;refine f _ _ ?_;clear f K;refine wZ (rs:=[9]) (by kernel_rfl) (by simp) ?_;refine vu R (λK f=>?_) wW;rw[aD (by kernel_rfl)];refine wp_append_own _ (.tmp 15) (.tmp 19) 164 rfl (b+1) 5 i0 (.int .u8 0) 1 1 underlying164 hi Q U V R (by decide) (ak D (ah c) n) (ah c) (my c) (by kernel_rfl) W.o ⟨wr.heap.size,0,N⟩ 1 1 [.int .u8 s[k].toNat] (by kernel_rfl) R X.o Y.o r.o y.o x.o ?_
    intro v' T d a _;obtain⟨NW,B,rfl⟩:=yi d;have q:(wr.alloc (.cells #[.int .u8 s[k].toNat] 5)).grownBy T (eW (ak D (ah c) n)):=⟨a.os,a.tape,a.output,a.size,a.block⟩
    have m0:=(AE z.o q m.o).cell 0;have n0:=(AE z.o q m.o).free 0;have P:=ae (K8 z.o F.o A.o q m.o d);clear d a q;refine f _ _ ?_;clear f K;refine kH (i:=10) (v:=?_) R (by kernel_rfl) (by kernel_rfl) (by kernel_rfl) (λ_ _ _ h=>h) (Or.inl ⟨by kernel_rfl,?_⟩) ?_
    rotate_left
    ·intro w;go_simp;with_reducible rfl
    refine kH (i:=11) (v:=?_) R (by kernel_rfl) (by kernel_rfl) (by kernel_rfl) (λ_ _ _ h=>h) (Or.inl ⟨by kernel_rfl,?_⟩) ?_
    rotate_left
    ·intro w;go_simp;with_reducible rfl
    refine wZ (rs:=[12]) (by kernel_rfl) (by simp) ?_;refine vu R (λK f=>?_) wW;go_simp;refine f _ _ ?_;clear f K;refine wpAny_done (by kernel_rfl) ?_ _;clear W X Y r y x C J f0 O;go_wp2
    go_roundw
    case rel=>
     refine⟨k+1,by omega,by go_num,⟨c++[s[k]],?_,P.o.1,?_⟩,P.o.2⟩
     ·have:=Of.o;simp;omega
     ·rw[<- Ot.o,cy,Tm s k E]
    case measure=>simp[aN];omega
   ·go_simp;refine f _ _ ?_;clear f K;refine wZ (rs:=[4]) (by kernel_rfl) (by simp) ?_;refine vu R (λK f=>?_) wW;go_simp;refine f _ _ ?_;clear f K;refine wZ (rs:=[9]) (by kernel_rfl) (by simp) ?_;refine vu R (λK f=>?_) wW;rw[aD (by kernel_rfl)];refine wp_append_own _ (.tmp 15) (.tmp 19) 164 rfl (b+1) 5 i0 (.int .u8 0) 1 1 underlying164 hi Q U V R (by decide) (ak D (ah c) n) (ah c) (my c) (by kernel_rfl) W.o ⟨wr.heap.size,0,N⟩ 1 1 [.int .u8 s[k].toNat] (by kernel_rfl) R X.o Y.o r.o y.o x.o ?_
    intro v' T d a _;obtain⟨NW,B,rfl⟩:=yi d;have q:(wr.alloc (.cells #[.int .u8 s[k].toNat] 5)).grownBy T (eW (ak D (ah c) n)):=⟨a.os,a.tape,a.output,a.size,a.block⟩
    have m0:=(AE z.o q m.o).cell 0;have n0:=(AE z.o q m.o).free 0;have P:=ae (K8 z.o F.o A.o q m.o d);clear d a q;refine f _ _ ?_;clear f K;refine kH (i:=10) (v:=?_) R (by kernel_rfl) (by kernel_rfl) (by kernel_rfl) (λ_ _ _ h=>h) (Or.inl ⟨by kernel_rfl,?_⟩) ?_
    rotate_left
    ·intro w;go_simp;with_reducible rfl
    refine kH (i:=11) (v:=?_) R (by kernel_rfl) (by kernel_rfl) (by kernel_rfl) (λ_ _ _ h=>h) (Or.inl ⟨by kernel_rfl,?_⟩) ?_
    rotate_left
    ·intro w;go_simp;with_reducible rfl
    refine wZ (rs:=[12]) (by kernel_rfl) (by simp) ?_;refine vu R (λK f=>?_) wW;go_simp;refine f _ _ ?_;clear f K;refine wpAny_done (by kernel_rfl) ?_ _;clear W X Y r y x C J f0 O;go_wp2
    go_roundw
    case rel=>
     refine⟨k+1,by omega,by go_num,⟨c++[s[k]],?_,P.o.1,?_⟩,P.o.2⟩
     ·have:=Of.o;simp;omega
     ·rw[<- Ot.o,cy,Tm s k E]
    case measure=>simp[aN];omega
  ·go_wp2
   go_end0
   obtain⟨c,q,M,f⟩:=I.o;rw[mH (by rw[iD];omega)]at f;rw[f];exact⟨R,M,F.o⟩
theorem aeU(l:L aL):strOfNums (l.map λc=>(c.toNat:Z))=bs l:=by
 unfold strOfNums bs;rw[List.map_map,List.map_congr_left (g:=id) (λc _=>by simp),List.map_id]
theorem RO{base:M}{cap:M}(h:aV w base 5 1 (ak D (ah l) cap) (ah l) (my l)):
  (convert 164 9 (ak D (ah l) cap)).run prog w = .ok (aB (bs l)) w:=by
 rcases h.2 with ⟨d,k⟩|⟨g,a,f,e,_⟩
 ·simp only[jQ]at d;obtain⟨rfl,j,rfl⟩:=d
  have:l=[]:=List.length_eq_zero_iff.1 j
  subst this;exact run_convert_bytes_nil w 164 5 underlying164 underlying5 _ _ 9 underlying9
 ·simp only[jQ]at e;obtain⟨rfl,_,rfl⟩:=e
  have:=run_convert_bytes_arg (P:=prog) w 164 5 underlying164 underlying5 g 0 (ah l) cap (l.map λc=>(c.toNat:Z)) (by simp) (λi a=>by
   have q:=h.cellAt i (by omega);rw[mL,q];simp[my,a]) 9 underlying9
  rw[aeU]at this;exact this
theorem Sd(b:M)(l:L aL)(w:av)(h:gG w b l):
  Calls prog 86 #[aM (S ⟨b,0,N⟩)] w λe a=>e=aH (aB (bs l))/\a=w:=by
 obtain⟨D,d,a,c⟩:=h;have f:=a.cell 0;have g:=RO c;clear a c;go_enter func86,ntmps86;go_wp2;go_ret;exact⟨R,R⟩
def mB(w:av)(b:M)(D:aR aY)(xs:L Z):Prop :=
 0<ah xs->∃g G,D=S ⟨g,0,N⟩/\g≠b/\aA w g G 3/\∀i (h:i<ah xs),G[i]?=S (I J xs[i])
theorem mB.kept{c:av}(h:mB w b D xs)(j:Wk b w c):mB c b D xs:=by
 intro d;obtain⟨g,G,e,a,f,i⟩:=h d;exact⟨g,G,e,a,j.2 g G _ a (by decide) f,i⟩
theorem mB.dh{base:M}{n cap:M}(h:aV w base 3 1 (ak D n cap) n (xs.map (I .i64)))(k:∀g,eW (ak D n cap)=S g->g≠b):mB w b D xs:=by
 intro s;have v:ah xs=n:=by have:=h.1;simpa using this
 rcases h.2 with ⟨j,u⟩|⟨g,d,a,f,_,q,_,_,m,c⟩
 ·simp at j;omega
 ·simp only[jQ]at f;obtain⟨rfl,_,rfl⟩:=f;refine⟨g,a,R,k g R,q,λi r=>?_⟩;have e:(a.toList.take (n*1))[i]?=(xs.map (I .i64))[i]?:=by rw[c]
  rw[vZ,aD (by omega)]at e;rw[<- Array.getElem?_toList,e];simp[r]
theorem kV(b:M)(n:Z)(a:M)(ms:Z)(c:ms=(a:Z))(l:L aL)(w:av)(h:gG w b l)(g:ah l<=16777216)(i:a<=4)(d:-1099511627776<=n)(f:n<=1099511627776):
  Calls prog 84 #[aM (S ⟨b,0,N⟩),I J n,I J ms] w λe c=>e=aH (aZ #[])/\gG c b (l++bu n a)/\Wk b w c:=by
 subst c;exact R4 b n a l w h g i d f
theorem Kd(xs:L Z)(k a:M)(h:k<ah xs):dY (xs.take (k+1)) a=dY (xs.take k) a++bu xs[k] a:=by
 unfold dY;rw[kI h,ru];simp
theorem qh(xs:L Z)(a:M):(dY xs a).length=ah xs*a:=by
 unfold dY
 induction xs with
 |nil=>simp
 |cons x t c=>simp only[kX,bX,c,dg,dA,Nat.succ_mul];omega
theorem zf(b:M)(D:aR aY)(cap a:M)(ms:Z)(s:ms=(a:Z))(xs:L Z)(l:L aL)(w:av)(h:gG w b l)(v:mB w b D xs)
  (K:ah l<=1048576) (x:a<=4) (O:ah xs<=65535) (y:∀i (h:i<ah xs),-1099511627776<=xs[i]/\xs[i]<=1099511627776) :
  Calls prog 85 #[aM (S ⟨b,0,N⟩),ak D (ah xs) cap,I J ms] w λe c=>e=aH (aZ #[])/\gG c b (l++dY xs a)/\Wk b w c:=by
 subst s;have H:=ae h;have z:=ae v;have A:=ae y;clear h v y;go_enter func85,ntmps85;go_wp2
 go_loopw [10] (λi wr=>∃k:M,k<=ah xs/\i=I J k/\gG wr b (l++dY (xs.take k) a)/\Wk b w wr) (λi _=>ah xs-(aN i).toNat)
 case atStart=>exact⟨0,bG _,R,by simpa[dY]using H.o,Wk.refl _ _⟩
 case round=>
  obtain⟨k,E,rfl,d,c⟩:=hrel;have u:=ae d;have m:=ae c;clear d c;by_cases c:k<ah xs
  ·obtain⟨g,G,r,-,d,f⟩:=z.o.kept m.o (by omega);subst r;have C:=(d.cell k).trans (f k c);clear d;have j:=A.o k c;have d:(l++dY (xs.take k) a).length<=16777216:=by
    rw[bX,qh,List.length_take_of_le (by omega)]
    have:k*a<=k*4:=Nat.mul_le_mul_left k x
    omega
   have B:=ae (λW h=>R4 b xs[k] a (l++dY (xs.take k) a) W h d x j.1 j.2);clear f d;go_wp2_with fail;refine(B.o _ u.o).mono ?_;rintro e P ⟨rfl,f,d⟩;have q:=ae f;have n:=ae (m.o.trans d);clear f d;go_wp2
   go_roundw
   case rel=>exact⟨k+1,by omega,by go_num,by rw[Kd xs k a c,<- cy];exact q.o,n.o⟩
   case measure=>simp[aN];omega
  ·go_wp2
   go_end0
   have e:xs.take k=xs:=mH (by omega);have d:=u.o;rw[e]at d;exact⟨R,d,m.o⟩
structure sY (w:av) (b v:M) (t:dm) (G:dJ aC) (l:L aL) (W:av):Prop where
 wr:gG W b l
 own:aA W v G t
 wk:Wk b w W
theorem sY.begin(h:gG w b l)(G:dJ aC)(t:dm):sY w b w.heap.size t G l (w.alloc (.cells G t)):=by
 obtain⟨D,a,c,d⟩:=h;exact⟨⟨D,a,c.grown (aG _ _ N) (by simp),d.alloc _⟩,aA.new _ _ _,(Wk.refl b w).alloc (Nat.le_of_lt c.lt) _⟩
theorem sY.step{W a:av}{v:M}{d:L aL}(h:sY w b v t G l W)(f:v≠b)(e:t≠5)(g:gG a b d)(c:Wk b W a):sY w b v t G d a :=
 ⟨g,c.2 v G t f e h.own,h.wk.trans c⟩
theorem aap(b:Nat)(y:dz)(l:L aL)(w:av)(h:gG w b l)(M:ah l<=1048576)(P:At y):
  Calls prog 170 #[aM (S ⟨b,0,none⟩),.agg #[aB (bs y.name),I J y.bind,I J y.au,I J y.off]] w λe a=>e=aH (aZ #[])/\gG a b (l++gq y)/\Wk b w a:=by
 obtain⟨N,⟨K,O⟩,⟨V,X⟩,Q,U⟩:=P;have d:w.heap.size≠b:=by obtain⟨_,_,H,_⟩:=h;have:=H.lt;omega
 have q:=ae (sY.begin h #[aB (bs y.name),I J y.bind,I J y.au,I J y.off] 107);have a:((bs y.name).size:Z)=(ah y.name:Z):=by rw[nK]
 have c:(bs y.name).size=ah y.name:=nK _;have z:=ae (λW (h:gG W b l)=>kV b ((bs y.name).size:Z) 1 1 rfl l W h (by omega) (by omega) (by omega) (by omega));have A:=ae (λW (h:gG W b (l++bu (ah y.name) 1))=>Ky b (bs y.name) (l++bu (ah y.name) 1) W h (by rw[bX,dg];omega) (by omega));have B:=ae (λW (h:gG W b (l++bu (ah y.name) 1++y.name))=>kV b y.bind 1 1 rfl (l++bu (ah y.name) 1++y.name) W h (by rw[bX,bX,dg];omega) (by omega) (by omega) (by omega));have C:=ae (λW (h:gG W b (l++bu (ah y.name) 1++y.name++bu y.bind 1))=>kV b y.au 1 1 rfl (l++bu (ah y.name) 1++y.name++bu y.bind 1) W h (by rw[bX,bX,bX,dg,dg];omega) (by omega) (by omega) (by omega))
 have E:=ae (λW (h:gG W b (l++bu (ah y.name) 1++y.name++bu y.bind 1++bu y.au 1))=>kV b y.off 2 2 rfl (l++bu (ah y.name) 1++y.name++bu y.bind 1++bu y.au 1) W h (by rw[bX,bX,bX,bX,dg,dg,dg];omega) (by omega) (by omega) (by omega));have n:=ae a;have f:=ae (ou y.name);clear h a c;go_enter func170,ntmps170;go_wp2_with fail;refine Calls.fK (sY w b w.heap.size 107 #[aB (bs y.name),I J y.bind,I J y.au,I J y.off] l) q.o ?_;intro r i;refine(z.o r i.wr).mono ?_
 rintro e s ⟨rfl,a,c⟩;rw[n.o]at a;have g:=ae (i.step d (by decide) a c);have j:=g.o.own.cell 0;clear a c i;go_wp2_with fail;refine(A.o s g.o.wr).mono ?_;rintro e u ⟨rfl,a,c⟩;rw[f.o]at a;have i:=ae (g.o.step d (by decide) a c);have k:=i.o.own.cell 1;clear a c j;go_wp2_with fail;refine(B.o u i.o.wr).mono ?_;rintro e v ⟨rfl,a,c⟩;have j:=ae (i.o.step d (by decide) a c);have m:=j.o.own.cell 2;clear a c k;go_wp2_with fail;refine(C.o v j.o.wr).mono ?_;rintro e x ⟨rfl,a,c⟩;have k:=ae (j.o.step d (by decide) a c);have Y:=k.o.own.cell 3
 clear a c m;go_wp2_with fail;refine(E.o x k.o.wr).mono ?_;rintro e F ⟨rfl,a,c⟩;have m:=ae (k.o.step d (by decide) a c);clear a c Y;go_wp2
 go_end0
 refine⟨R,?_,m.o.wk⟩
 have:=m.o.wr
 simpa[gq]using this
def pU(l:L aL)(p n:M):L aL:=(l.drop p).take n
theorem af3(s:bT)(p n:M)(w:av)(j:s.size<=1048576)(i:p<=16777216)(h:n<=16777216):
  Calls prog 47 #[aB s,I J p,I J n] w λe a=>e=aH (aB (bs (pU (sl s) p n)))/\a=w:=by
 have a:=ae (iD s);by_cases g:s.size<p
 ·have C:=ae (show pU (sl s) p n=[]from by unfold pU;rw[xD (by rw[a.o];omega)];simp);have d:(s.size:Z)<(p:Z):=by omega
  by_cases f:0<n
  ·have c:(0:Z)<(n:Z):=by omega
   go_enter func47,ntmps47;go_wp2;go_ret;exact⟨AB (by rw[C.o];rfl),R⟩
  ·have e:n=0:=by omega
   subst e;go_enter func47,ntmps47;go_wp2;go_ret;exact⟨AB (by rw[C.o];rfl),R⟩
 ·have d:(p:Z)<=(s.size:Z):=by omega
  by_cases f:s.size-p<n
  ·have c:(s.size:Z)-(p:Z)<(n:Z):=by omega
   go_enter func47,ntmps47;go_wp2;go_ret;refine⟨AB ?_,R⟩;rw[DB];unfold pU
   congr 1
   rw[mH (by rw[yI,a.o];omega),mH (by rw[yI,a.o];omega)]
  ·have c:(n:Z)<=(s.size:Z)-(p:Z):=by omega
   go_enter func47,ntmps47;go_wp2;go_ret;refine⟨AB ?_,R⟩;rw[DB,Nat.add_sub_cancel_left];rfl
def jr(l:L aL)(p:M):M->L Z
 |0=>[]
 |n+1=>jr l p n++[br l (p+4*n) 4]
theorem Bd(l:L aL)(p n:M):(jr l p n).length=n:=by
 induction n with
 |zero=>rfl
 |succ n a=>simp[jr,a]
theorem abI(s:bT)(p n:M)(w:av)(K:s.size<=1048576)(Y:p<=8388608)(X:n<=65535):
  Calls prog 48 #[aB s,I J p,I J n] w λe a=>∃v,e=aH v/\aV a w.heap.size 3 1 v (min n 1201) ((jr (sl s) p (min n 1201)).map (I .i64))/\az w a N:=by
 obtain⟨P,E,j,m,q⟩:=fG Tryz.pR;go_enter func48,ntmps48;go_wp2
 go_loopw [7,8] (λv i wr=>∃k:M,k<=n/\k<=1201/\i=I J k/\aV wr w.heap.size 3 1 v k ((jr (sl s) p k).map (I .i64))/\az w wr N) (λ_ i _=>n-(aN i).toNat)
 case atStart=>exact⟨0,bG _,bG _,R,eO _ _ _ _,World.grownBy.refl _ _⟩
 case round=>
  obtain⟨k,V,H,rfl,c,a⟩:=hrel;have f:=ae a;have O:=a.size;clear a;by_cases h:k<n/\k<1201
  ·obtain⟨g,y⟩:=h;have r:(k:Z)<(n:Z):=by omega
   have C:(k:Z)<1201:=by omega
   have B:=ae (λW=>mX s (p+4*k) 4 ((p:Z)+4*(k:Z)) 4 (by omega) R W K (by omega) (by omega));go_wp2_with fail;refine(B.o _).mono ?_;rintro e Q ⟨rfl,rfl⟩;have A:=ae (show jr (sl s) p (k+1)=jr (sl s) p k++[br (sl s) (p+4*k) 4]from R);generalize br (sl s) (p+4*k) 4=x at *;go_wp2_with (at_builtin;refine jI _ R _ _ 23 rfl w.heap.size 3 P (I J 0) 1 8 underlying23 E j m q R (by decide) _ _ _ R (c.alloc _) ⟨Q.heap.size,0,N⟩ 1 1 [I J x] rfl rfl (qt _ _ _) (by intro u a;simp at a;subst a;rfl) (by unfold cu;omega) (by omega) (by simp;omega) ?_;intro L U d a _)
   have z:=ae (show az w U N from ⟨a.os.trans f.o.os,a.tape.trans f.o.tape,a.output.trans f.o.output,by have:=a.size;simp at this;omega,λi d _=>
    (a.block i (by simp;omega) (λe=>by have:=(c.lt i e.symm).1;omega)).trans ((Below.heap_alloc _ _ i (by omega)).trans (f.o.block i d (by simp)))⟩)
   clear a c;go_wp2
   go_roundw
   case rel=>exact⟨k+1,by omega,by omega,by go_num,by rw[A.o];simpa using d,z.o⟩
   case measure=>simp[aN];omega
  ·have a:min n 1201=k:=by omega
   have d:=ae a;by_cases g:k<n
   ·have r:decide ((k:Z)<(n:Z))=T:=by simp;omega
    have C:decide ((k:Z)<1201)=F:=by simp;omega
    clear a;go_wp2;go_ret;rw[d.o];exact⟨_,R,c,f.o⟩
   ·have r:decide ((k:Z)<(n:Z))=F:=by simp;omega
    clear a;go_wp2;go_ret;rw[d.o];exact⟨_,R,c,f.o⟩
theorem RX(y:dz):(gq y).length=5+ah y.name:=by
 simp only[gq,bX,dg];omega
theorem Kr(r:cg):(gD r).length=7:=by
 simp only[gD,bX,dg]
theorem AQ(ys:L Z)(n:M):(dY ys n).length=n*ah ys:=by
 induction ys with
 |nil=>rfl
 |cons y t a=>simp only[dY,kX,bX,dg,dA,Nat.mul_add]at *;omega
theorem Sf(h:uB o)(a:Z):(yp o a).length<=1200:=by
 obtain⟨⟨c,d,e⟩,-⟩:=h;unfold yp;split
 ·exact c
 split
 ·exact d
 split
 ·omega
 ·simp
theorem Kh(h:jm xs):yM 4 xs:=λx c=>by
 obtain⟨i,a,rfl⟩:=kY c
 have:=h i a
 simp only[Int.reducePow];omega
theorem AO(h:yl o):As o:=by
 obtain⟨n,m,c,s,q⟩:=h;have d:=n;obtain⟨⟨A,B,C⟩,E,H,K⟩:=n;refine⟨by omega,by omega,by omega,by omega,m.1,?_,by omega,by omega,?_,?_,Kh c.1,Kh c.2.1,Kh c.2.2⟩
 ·intro x e;obtain⟨i,a,rfl⟩:=kY e
  have:=m.2 i a
  simp only[Int.reducePow];omega
 ·intro y g;obtain⟨i,a,rfl⟩:=kY g;obtain⟨⟨j,e,k,-,v,-,f⟩,-⟩:=s i a;have u:(bs (o.aE[i]).name).size=(o.aE[i]).name.length:=R;have z:=j.2.1;have c:=Sf d (o.aE[i]).au;refine⟨by omega,by omega,by omega,by omega,?_⟩;unfold iU at f;split at f<;>omega
 ·intro r g;obtain⟨i,a,rfl⟩:=kY g;obtain⟨⟨j,e,k,-,f,-,-⟩,-⟩:=q i a;have u:=yW e;have c:=Sf d (o.ay[i]).au;unfold pY at f;unfold lz at j;unfold pu at k;unfold fX at e;refine⟨by omega,by omega,by omega,?_,?_⟩
  ·split at k<;>omega
  ·split at e
   ·omega
   ·split at e<;>omega
theorem Lq{α:Type}(f:α->L aL)(m:M)(xs:L α)(h:∀x∈xs,(f x).length<=m):(xs.flatMap f).length<=m*ah xs:=by
 induction xs with
 |nil=>simp
 |cons x t a=>
  have c:=h x (by simp);have d:=a (λy a=>h y (by simp[a]));simp only[kX,bX,dA,Nat.mul_add];omega
theorem R3(h:yl o):(iX o).length<=65535:=by
 obtain⟨f,a,q,d,n⟩:=h;obtain⟨⟨r,s,u⟩,v,x,z⟩:=f;have g:(o.aE.flatMap gq).length<=11*ah o.aE:=Lq _ _ _ λy e=>by
  obtain⟨i,c,rfl⟩:=kY e;have j:=(d i c).1.1.2.1;have e:(bs (o.aE[i]).name).size=(o.aE[i]).name.length:=R;rw[RX];omega
 have c:(o.ay.flatMap gD).length<=7*ah o.ay:=Lq _ _ _ λy _=>by rw[Kr];omega
 have e:=AQ o.align 1;have j:=AQ o.text 4;have k:=AQ o.bw 4;have m:=AQ o.data 4
 have:=a.1
 simp only[iX,bX,dg,dA,yJ];omega
theorem iq{a:L aL}(h:l.drop p=a++rest):l.drop (p+ah a)=rest:=by
 rw[<- uJ,h,List.drop_left]
theorem lA{v:Z}{n:M}(h:l.drop p=bu v n++rest)(j:0<=v)(c:v<(256:Z) ^ n):br l p n=v:=by
 induction n generalizing p v with
 |zero=>simp[br];simp at c;omega
 |succ n i=>
  simp only[bu,List.cons_append]at h;have f:p<ah l:=by
   have:=jz ah h
   simp at this;omega
  have d:l.getD p 0=UInt8.ofNat (v%256).toNat:=by
   have a:(l.drop p)[0]?=S (UInt8.ofNat (v%256).toNat):=by rw[h];rfl
   rw[List.getElem?_drop]at a;rw[List.getD_eq_getElem?_getD];simp only[Nat.add_zero]at a;rw[a];rfl
  have a:l.drop (p+1)=bu (v/256) n++rest:=by
   rw[<- uJ,h];rfl
  rw[Int.pow_succ]at c;have e:=i a (by omega) (by omega);simp only[br,e,d];have g:(UInt8.ofNat (v%256).toNat).toNat=(v%256).toNat:=by
   rw[UInt8.toNat_ofNat'];omega
  rw[g];omega
theorem TA{x:L aL}(h:l.drop p=x++rest):pU l p (ah x)=x:=by
 unfold pU;rw[h,List.take_left]
theorem Kc(h:l.drop p=dY xs 4++rest)(f:yM 4 xs)(k:M)(i:k<=ah xs):jr l p k=xs.take k:=by
 induction k with
 |zero=>rfl
 |succ k g=>
  have a:k<ah xs:=by omega
  rw[jr,g (by omega),kI a]
  congr 2
  have c:∀d:L Z,(dY d 4).length=4*ah d:=by
   intro d
   induction d with
   |nil=>rfl
   |cons y t g=>simp only[dY,kX,bX,dg,dA]at *;omega
  have e:l.drop p=dY (xs.take k) 4++(bu xs[k] 4++(dY (xs.drop (k+1)) 4++rest)):=by
   have d:xs=xs.take k++xs[k]::xs.drop (k+1):=by rw[<- fv a,rB]
   rw[h];refine(jz (λz=>dY z 4++rest) d).trans ?_;simp only[dY,ru,kX,cy]
  have d:=iq e;rw[c,iO,zq (by omega)]at d;exact lA d (f _ (bN a)).1 (f _ (bN a)).2
def Bw(l:L aL)(p:M):dz :=
 ⟨pU l (p+1) (br l p 1).toNat,br l (p+1+(br l p 1).toNat) 1,br l (p+2+(br l p 1).toNat) 1,br l (p+3+(br l p 1).toNat) 2⟩
def fy(l:L aL):M->L dz×M
 |0=>([],16)
 |k+1=>((fy l k).1++[Bw l (fy l k).2],(fy l k).2+5+(br l (fy l k).2 1).toNat)
def Bj(l:L aL)(p:M):cg:=⟨br l p 1,br l (p+2) 2,br l (p+1) 1,br l (p+4) 1,oD (br l (p+5) 2)⟩
def nL(l:L aL)(p:M):M->L cg
 |0=>[]
 |k+1=>nL l p k++[Bj l (p+7*k)]
theorem QV(l:L aL)(k:M):(fy l k).1.length=k:=by
 induction k with
 |zero=>rfl
 |succ k a=>simp[fy,a]
theorem QU(l:L aL)(p k:M):(nL l p k).length=k:=by
 induction k with
 |zero=>rfl
 |succ k a=>simp[nL,a]
theorem ach(l:L aL)(k:M):(fy l k).2<=16+260*k:=by
 induction k with
 |zero=>simp[fy]
 |succ k a=>
  have h:=mz l (fy l k).2 1;simp only[fy,Int.reducePow]at *;omega
def eE(l:L aL):aF :=
 ⟨jr l ((fy l (br l 14 1).toNat).2+7*(br l 15 1).toNat) (min (br l 2 2).toNat 1201),
 jr l ((fy l (br l 14 1).toNat).2+7*(br l 15 1).toNat+4*(br l 2 2).toNat) (min (br l 4 2).toNat 1201),
 jr l ((fy l (br l 14 1).toNat).2+7*(br l 15 1).toNat+4*(br l 2 2).toNat+4*(br l 4 2).toNat) (min (br l 6 2).toNat 1201),
 br l 8 2,[br l 10 1,br l 11 1,br l 12 1,br l 13 1],(fy l (br l 14 1).toNat).1,nL l (fy l (br l 14 1).toNat).2 (br l 15 1).toNat⟩
theorem afL{y:dz}(h:l.drop p=gq y++rest)(z:At y):Bw l p=y/\(br l p 1).toNat=ah y.name:=by
 obtain⟨a,b,s,f⟩:=y;obtain⟨x,e,g,i⟩:=z;simp only at x e g i;simp only[gq,cy]at h;have n:br l p 1=(ah a:Z):=lA h (by omega) (by simp;omega);have c:=iq h;rw[dg]at c;have j:=iq c;have d:=iq j;rw[dg]at d;have k:=iq d;rw[dg]at k;have m:(br l p 1).toNat=ah a:=by rw[n];omega
 refine⟨?_,m⟩;unfold Bw;rw[m];have q:=TA c;have r:br l (p+1+ah a) 1=b:=lA j e.1 (by simpa using e.2);have u:br l (p+2+ah a) 1=s:=by
  rw[show p+2+ah a=p+1+ah a+1 from by omega];exact lA d g.1 (by simpa using g.2)
 have v:br l (p+3+ah a) 2=f:=by
  rw[show p+3+ah a=p+1+ah a+1+1 from by omega];exact lA k i.1 (by simpa using i.2)
 rw[q,r,u,v]
theorem acI{ys:L dz}(h:l.drop 16=ys.flatMap gq++rest)(d:∀y∈ys,At y)(k:M)(j:k<=ah ys):
  fy l k=(ys.take k,16+((ys.take k).flatMap gq).length):=by
 induction k with
 |zero=>rfl
 |succ k f=>
  have a:k<ah ys:=by omega
  have e:l.drop 16=(ys.take k).flatMap gq++(gq ys[k]++((ys.drop (k+1)).flatMap gq++rest)):=by
   have c:ys=ys.take k++ys[k]::ys.drop (k+1):=by rw[<- fv a,rB]
   rw[h];refine(jz (λz=>IZ gq z++rest) c).trans ?_;simp only[ru,kX,cy]
  have c:=iq e;obtain⟨g,i⟩:=afL c (d _ (bN a));simp only[fy,f (by omega)];rw[g,i,kI a,ru,bX];simp only[kX,EW,lG,RX];rw[wm,wm]
theorem aes{r:cg}(h:l.drop p=gD r++rest)(C:Cw r):Bj l p=r:=by
 obtain⟨s,f,d,y,a⟩:=r;obtain⟨i,j,k,m,A,B⟩:=C;simp only at i j k m A B;simp only[gD,cy]at h;rw[<- Ny a]at h;have c:=iq h;rw[dg]at c;have e:=iq c;rw[dg]at e;have g:=iq e;rw[dg]at g;have n:=iq g;rw[dg]at n;have q:br l p 1=s:=lA h i.1 (by simpa using i.2);have u:br l (p+1) 1=d:=lA c j.1 (by simpa using j.2);have v:br l (p+2) 2=f:=lA e k.1 (by simpa using k.2);have x:br l (p+4) 1=y:=lA g m.1 (by simpa using m.2);have z:br l (p+5) 2=tM a:=lA n (by unfold tM;split<;>omega) (by unfold tM;simp only[Int.reducePow];split<;>omega)
 unfold Bj;rw[q,u,v,x,z]
 congr 1
 unfold oD tM;split<;>split<;>omega
theorem acA{rs:L cg}(h:l.drop p=rs.flatMap gD++rest)(g:∀r∈rs,Cw r)(k:M)(i:k<=ah rs):
  nL l p k=rs.take k:=by
 induction k with
 |zero=>rfl
 |succ k f=>
  have a:k<ah rs:=by omega
  have c:∀d:L cg,(d.flatMap gD).length=7*ah d:=by
   intro d
   induction d with
   |nil=>rfl
   |cons y t f=>simp only[kX,bX,Kr,dA]at *;omega
  have e:l.drop p=(rs.take k).flatMap gD++(gD rs[k]++((rs.drop (k+1)).flatMap gD++rest)):=by
   have d:rs=rs.take k++rs[k]::rs.drop (k+1):=by rw[<- fv a,rB]
   rw[h];refine(jz (λz=>IZ gD z++rest) d).trans ?_;simp only[ru,kX,cy]
  have d:=iq e;rw[c,iO,zq (by omega)]at d;simp only[nL,f (by omega),kI a];rw[aes d (g _ (bN a))]
theorem ab8(rs:L cg):(rs.flatMap gD).length=7*ah rs:=by
 induction rs with
 |nil=>rfl
 |cons y t a=>simp only[kX,bX,Kr,dA]at *;omega
theorem aeO(hg:As o)(hz:ah o.text<=1200/\(ah o.bw)<=1200/\(ah o.data)<=1200):eE (iX o)=o:=by
 obtain⟨g1,g2,g3,R,g5,v,g7,g8,g9,E,H,K,O⟩:=hg;obtain⟨B,u,s,i,J,C,m⟩:=o;simp only at *;obtain⟨a,b,c,d,rfl⟩:∃a b c d,J=[a,b,c,d]:=by
  match J,g5 with
  | [a,b,c,d],_=>exact⟨a,b,c,d,rfl⟩
 generalize hl:iX ⟨B,u,s,i,[a,b,c,d],C,m⟩=l;have S:l.drop 0=[76,75]++uN ⟨B,u,s,i,[a,b,c,d],C,m⟩:=by rw[<- hl];rfl
 simp only[uN]at S;have P:=iq S;have x:=iq P;rw[dg]at x;have y:=iq x;rw[dg]at y;have z:=iq y;rw[dg]at z;have e:=iq z;rw[dg]at e;have Q:dY [a,b,c,d] 1=bu a 1++(bu b 1++(bu c 1++bu d 1)):=by simp only[dY,kX,EW,lG]
 rw[Q]at e;simp only[cy]at e;have f:=iq e;rw[dg]at f;have g:=iq f;rw[dg]at g;have n:=iq g;rw[dg]at n;have q:=iq n;rw[dg]at q;have r:=iq q;rw[dg]at r;have h:=iq r;rw[dg]at h;have U:=iq h;have A:=iq U;have k:=iq A;have j:=iq k;simp only[dA,yJ,mL,Nat.reduceAdd]at P x y z e f g n q r h U A k j;have v2:br l 2 2=(ah B:Z):=lA P (by omega) (by simp;omega);have v4:br l 4 2=(ah u:Z):=lA x (by omega) (by simp;omega);have v6:br l 6 2=(ah s:Z):=lA y (by omega) (by simp;omega)
 have v8:br l 8 2=i:=lA z R.1 (by simpa using R.2);have T:=v a (by simp);have w2:=v b (by simp);have w3:=v c (by simp);have w4:=v d (by simp);have V:br l 10 1=a:=lA e T.1 T.2;have W:br l 11 1=b:=lA f w2.1 w2.2;have X:br l 12 1=c:=lA g w3.1 w3.2;have Y:br l 13 1=d:=lA n w4.1 w4.2;have F:br l 14 1=(ah C:Z):=lA q (by omega) (by simp;omega);have I:br l 15 1=(ah m:Z):=lA r (by omega) (by simp;omega);have Xk:=ab8 m;have N:=acI h g9 (ah C) (bz _);rw[nS]at N;unfold eE;rw[v2,v4,v6,v8,V,W,X,Y,F,I];simp only[dy,N]
 rw[acA U E (ah m) (bz _),nS];rw[Xk]at A k j;rw[AQ]at k j;rw[AQ]at j;rw[zq (by omega),zq (by omega),zq (by omega)];rw[Kc A H (ah B) (bz _),nS,Kc k K (ah u) (bz _),nS];rw[Kc (rest:=[]) (by rw[lG];exact j) O (ah s) (bz _),nS]
def fq(l:L aL):Prop:=yl (eE l)/\iX (eE l)=l
theorem FW(h:rC l=S o)(a:yl o):fq l/\eE l=o:=by
 obtain⟨d,rfl⟩:=(Fb l o).1 h;have c:=a.1.1;have e:=aeO d ⟨c.1,c.2.1,by omega⟩;unfold fq;rw[e];exact⟨⟨a,R⟩,R⟩
theorem aaF(h:fq l):rC l=S (eE l):=(Fb l _).2 ⟨AO h.1,h.2.symm⟩
theorem Dk(h:fq l):ah l<=65535:=by
 have:=R3 h.1
 rw[h.2]at this;exact this
theorem KF(h:∀o,rC l=S o->¬yl o):¬fq l:=λk=>h _ (aaF k) k.1
def iB(m:L aL):L aL:=bu (ah m) 2++m
def ur(ms:L (L aL)):L aL:=[65,82]++(bu (ah ms) 1++ms.flatMap iB)
def jq(l:L aL)(ms:L (L aL)):Prop:=(1<=ah ms/\(ah ms)<=6)/\(∀m∈ms,fq m)/\ur ms=l
theorem Rl:¬fq []:=λh=>by
 have:=jz ah h.2
 simp[iX]at this
def iK(l:L aL):M->L (L aL)×M
 |0=>([],3)
 |k+1=>((iK l k).1++[pU l ((iK l k).2+2) (br l (iK l k).2 2).toNat],(iK l k).2+2+(br l (iK l k).2 2).toNat)
def gz(l:L aL):L (L aL):=(iK l (min (br l 2 1).toNat 6)).1
theorem ZZ(l:L aL)(k:M):(iK l k).1.length=k:=by
 induction k with
 |zero=>rfl
 |succ k a=>simp[iK,a]
theorem abH(l:L aL)(k:M):(iK l k).2<=3+65537*k:=by
 induction k with
 |zero=>simp[iK]
 |succ k a=>
  have h:=mz l (iK l k).2 2;simp only[iK,Int.reducePow]at *;omega
theorem Rk(l:L aL)(k:M):∀m∈(iK l k).1,ah m<=65535:=by
 induction k with
 |zero=>intro m a;simp[iK]at a
 |succ k c=>
  intro m a;simp only[iK,nR,yL]at a;rcases a with a|rfl
  ·exact c m a
  ·have h:=mz l (iK l k).2 2;simp only[Int.reducePow]at h;simp only[pU,iO];omega
theorem acw{ms:L (L aL)}(h:l.drop 3=ms.flatMap iB++rest)(g:∀m∈ms,ah m<=65535)(k:M)(n:k<=ah ms):
  iK l k=(ms.take k,3+((ms.take k).flatMap iB).length):=by
 induction k with
 |zero=>rfl
 |succ k i=>
  have a:k<ah ms:=by omega
  have e:l.drop 3=(ms.take k).flatMap iB++(iB ms[k]++((ms.drop (k+1)).flatMap iB++rest)):=by
   have c:ms=ms.take k++ms[k]::ms.drop (k+1):=by rw[<- fv a,rB]
   rw[h];refine(jz (λz=>IZ iB z++rest) c).trans ?_;simp only[ru,kX,cy]
  have c:=iq e;have q:=g _ (bN a);unfold iB at c;rw[cy]at c;have f:br l (3+((ms.take k).flatMap iB).length) 2=(ms[k].length:Z):=lA c (by omega) (by simp only[Int.reducePow];omega);have d:=iq c;rw[dg]at d;have j:=TA d;simp only[iK,i (by omega)];rw[f,dy];refine Prod.ext ?_ ?_
  ·simp only;rw[kI a]
   congr 2
  ·simp only;rw[kI a,ru,bX];simp only[kX,EW,lG,iB,bX,dg];omega
theorem GL{ms:L (L aL)}(h:jq l ms):gz l=ms:=by
 obtain⟨⟨j,f⟩,g,i⟩:=h;have e:l.drop 0=[65,82]++(bu (ah ms) 1++ms.flatMap iB):=by rw[<- i];rfl
 have c:=iq e;have d:=iq c;rw[dg]at d;simp only[dA,yJ,mL,Nat.reduceAdd]at c d;have a:br l 2 1=(ah ms:Z):=lA c (by omega) (by simp only[Int.reducePow];omega);unfold gz;rw[a,dy,zq f,acw (rest:=[]) (by rw[lG];exact d) (λm c=>Dk (g m c)) (ah ms) (bz _),nS]
theorem Tryz.Hi:(Tryz.prog.info? 9).map (λi=>(i.zero,i.size,i.bytes))=S (S (aB ⟨#[]⟩),1,16):=by kernel_rfl
theorem afd(r:p<=ah l)(h:fq (bZ l (bA l 2 (p,F)).1.toNat (bA l 2 (p,F)).2).1):
  ∃m,bZ l (bA l 2 (p,F)).1.toNat (bA l 2 (p,F)).2=(m,(p+2+ah m,F))/\l.drop p=iB m++l.drop (p+2+ah m)/\p+2+ah m<=ah l:=by
 by_cases j:2<=ah l-p
 ·have f:bA l 2 (p,F)=(gu ((l.drop p).take 2),(p+2,F)):=by simp[bA,bZ,j]
  rw[f]at h ⊢;simp only at h ⊢;have q:=Au ((l.drop p).take 2);have e:((l.drop p).take 2).length=2:=by simp;omega
  have c:=I7 ((l.drop p).take 2);rw[e]at c;obtain⟨n,g⟩:=eX q;rw[g]at h c ⊢;simp only[dy]at h ⊢;by_cases k:n<=ah l-(p+2)
  ·have a:((l.drop (p+2)).take n).length=n:=by simp;omega
   have d:bZ l n (p+2,F)=((l.drop (p+2)).take n,(p+2+n,F)):=by simp[bZ,k]
   refine⟨(l.drop (p+2)).take n,by rw[d,a],?_,by rw[a];omega⟩;rw[a];unfold iB;rw[a,c,cy,<- uJ (i:=n),rB,<- uJ (i:=2),rB]
  ·have d:(bZ l n (p+2,F)).1=[]:=by simp[bZ,k]
   rw[d]at h;exact absurd h Rl
 ·have f:bA l 2 (p,F)=(0,(p,T)):=by simp[bA,bZ,j,gu]
  rw[f]at h;have d:(bZ l (0:Z).toNat (p,T)).1=[]:=by simp[bZ]
  rw[d]at h;exact absurd h Rl
theorem agt{m:L aL}(e:p<=ah l)(h:l.drop p=iB m++rest)(i:ah m<=65535):(bZ l (bA l 2 (p,F)).1.toNat (bA l 2 (p,F)).2).1=m:=by
 unfold iB at h;rw[cy]at h;obtain⟨a,c,g,f,d⟩:=(dE l 2).on (st:=(p,F)) e R (x:=(ah m:Z)) ⟨by omega,by simp only[Int.reducePow];omega⟩ h;rw[a,dy];exact((tN l (ah m)).on f c (x:=m) R d).1
theorem aab(n:Z)(w:av):
  Calls prog 152 #[I J n] w λe a=>aX e (1<=n/\n<=6)/\a=w:=by
 go_enter func152,ntmps152;by_cases a:1<=n
 ·by_cases d:n<=6
  ·have c:decide (1<=n)=T:=by simpa using a
   have f:decide (n<=6)=T:=by simpa using d
   go_wp2;go_ret;exact⟨aX.iV ⟨a,d⟩,R⟩
  ·have c:decide (1<=n)=T:=by simpa using a
   have f:decide (n<=6)=F:=by simp;omega
   go_wp2;go_ret;exact⟨aX.no (λh=>by omega),R⟩
 ·have c:decide (1<=n)=F:=by simp;omega
  go_wp2;go_ret;exact⟨aX.no (λh=>by omega),R⟩
theorem aar(s:bT)(w:av)(j:eH w)(i:s.size<=1048576):
  Calls prog 153 #[aB s] w λe a=>aX e (fq (sl s))/\az w a N:=by
 have f:=ae (Lj s w j i);go_enter func153,ntmps153;go_wp2_with fail;refine f.o.mono ?_;rintro e m ⟨⟨o,g,h,k,rfl,-,-⟩|⟨c,rfl⟩,d⟩
 ·have H:=ae (FW h k).1;have a:=ae d;go_wp2;go_ret;exact⟨aX.iV H.o,a.o⟩
 ·have H:=ae (KF c);have a:=ae d;go_wp2;go_ret;exact⟨aX.no H.o,a.o⟩
def iR(ms:L (L aL)):L aC:=ms.map (λm=>aB (bs m))
def ab2(l:L aL)(base:M)(e:Ending)(w':av):Prop :=
 (∃ms v,jq l ms/\e=aH (aZ #[v,I J 0])/\aV w' base 9 1 v (ah ms) (iR ms)) \/
 ((∀ms,¬jq l ms)/\e=aH (aZ #[ak N 0 0,I J 21]))
theorem abG(s:bT)(w:av)(ht:eH w)(hs:s.size<=1048576):
  Calls prog 110 #[aB s] w λe a=>ab2 (sl s) w.heap.size e a/\az w a N:=by
 obtain⟨i0,hi,hz0,hz1,hz2⟩:=fG Tryz.Hi;have HT:=ae ht;clear ht;have f:=iD s;have l0:=zi (sl s) 2 (0,F) (by rw[f];omega);have z:=λW b h=>yT b s 0 2 2 rfl F W h hs (bG _) (by omega)
 have g:=ae (tN (sl s) 2);have r:=ae (show (bZ (sl s) 2 (0,F)).1=[65,82]->bZ (sl s) 2 (0,F)=([65,82],(2,F))/\(sl s).drop 0=[65,82]++(sl s).drop 2/\2<=(sl s).length from λh=>by
  unfold bZ at h ⊢;simp only at h ⊢;by_cases c:2<=(sl s).length-0
  ·rw[aD c]at h ⊢;simp only at h ⊢;refine⟨by rw[h],?_,by omega⟩;rw[<- h,List.drop_zero,rB]
  ·rw[ax c]at h;simp at h)
 have j:=ae (show ∀a,jq (sl s) a->(bZ (sl s) 2 (0,F)).1=[65,82]from λa h=>(g.o.on (st:=(0,F)) (bG _) R (x:=[65,82]) (rest:=bu (ah a) 1++a.flatMap iB) R (by rw[<- h.2.2];rfl)).1);clear g;rw[f]at l0;generalize bZ (sl s) 2 (0,F)=x0 at *;obtain⟨mk,X,Y⟩:=x0;simp only at z r j l0;have A:=λW b h=>ko b s X 1 1 rfl Y W h hs l0 (by omega)
 have l1:=gU (sl s) 1 (X,Y) (by rw[f];exact l0);rw[f]at l1;have b1:=lC (sl s) 1 (X,Y);simp only[Int.reducePow]at b1;have y:=ae (show mk=[65,82]->1<=(bA (sl s) 1 (X,Y)).1->(bA (sl s) 1 (X,Y)).2=(3,F)/\(sl s).drop 0=[65,82]++(bu (bA (sl s) 1 (X,Y)).1 1++(sl s).drop 3)/\3<=(sl s).length from λhm h=>by
  obtain⟨e,d,g⟩:=r.o hm;simp only[ny]at e;obtain⟨-,rfl,rfl⟩:=e;by_cases c:1<=(sl s).length-2
  ·have q:bA (sl s) 1 (2,F)=(gu (((sl s).drop 2).take 1),(3,F)):=by simp[bA,bZ,c]
   rw[q];have E:=I7 (((sl s).drop 2).take 1);rw[show (((sl s).drop 2).take 1).length=1 from by simp;omega]at E;refine⟨R,?_,by omega⟩;simp only;rw[d,E,show (sl s).drop 3=((sl s).drop 2).drop 1 from by rw[uJ],rB]
  ·have q:bA (sl s) 1 (2,F)=(0,(2,T)):=by simp[bA,bZ,c,gu]
   rw[q]at h;simp at h)
 have q:=ae (show ∀a,jq (sl s) a->(bA (sl s) 1 (X,Y)).1=(ah a:Z)from λa h=>by
  obtain⟨e,d,g⟩:=r.o (j.o a h);simp only[ny]at e;obtain⟨-,rfl,rfl⟩:=e;have C:(sl s).drop 0=[65,82]++(bu (ah a) 1++a.flatMap iB):=by rw[<- h.2.2];rfl
  exact((dE (sl s) 1).on (st:=(2,F)) g R (x:=(ah a:Z)) (rest:=a.flatMap iB) ⟨by omega,by have:=h.1.2;simp only[Int.reducePow];omega⟩ (iq C)).1)
 generalize bA (sl s) 1 (X,Y)=x1 at *;obtain⟨cnt,p1,s1⟩:=x1;simp only at A y q l1 b1;have E:=ae z;have O:=ae A;clear z A;have H:=ae f;clear f;have cV:=ae (λW=>aab cnt W);go_enter func110,ntmps110;go_wp2_with fail;refine(KP s w).mono ?_;rintro e W1 ⟨rfl,f⟩;have a:cZ (W1.alloc (.cells #[aB s,I J 0,aJ F] 99)) W1.heap.size s 0 F:=rm W1 _;have z:=ae a;have g:=ae (ya f (aG W1 (.cells #[aB s,I J 0,aJ F] 99) N));have P:w.heap.size<=W1.heap.size:=f.size;clear a f;generalize C:W1.heap.size=b at *
 go_wp2_with fail;refine(E.o _ b z.o).mono ?_;rintro e W2 ⟨rfl,B,A⟩;have f:=ae B;have a:=ae (tz g.o A P);clear B A z g C;go_wp2_with fail;refine(O.o _ b f.o).mono ?_;rintro e W3 ⟨rfl,z,g⟩;have sR:=ae z;have G3:=ae (tz a.o g P);clear z g f a;have CK:=ae (ik mk);by_cases c:mk=[65,82]
 rotate_left
 ·have d:((bs mk).toList==[65,82])=F:=by rw[CK.o,beq_eq_false_iff_ne];exact c
  have CC:=ae c;clear c;go_wp2;go_ret2;exact⟨.inr ⟨λa h=>CC.o (j.o a h),R⟩,G3.o⟩
 have d:((bs mk).toList==[65,82])=T:=by rw[CK.o,beq_iff_eq];exact c
 have CC:=ae c;clear c;go_wp2_with fail;refine(cV.o _).mono ?_;rintro e K ⟨t,rfl⟩;rcases t.split with ⟨rfl,B⟩|⟨rfl,B⟩<;>clear t
 ·go_wp2;go_ret2;exact⟨.inr ⟨λa h=>B.o (by rw[q.o a h];have:=h.1;omega),R⟩,G3.o⟩
 obtain⟨hst,A,f⟩:=y.o CC.o B.o.1;simp only[ny]at hst;obtain⟨rfl,rfl⟩:=hst;obtain⟨n,rfl⟩:=eX b1.1;have VF:=ae B.o;have Zf:n<=6:=by have:=B.o.2;omega
 have z:=ae q.o;have A3:=ae (show ∀a,jq (sl s) a->ah a=n/\∃g,a=[]++g/\(sl s).drop 3=g.flatMap iB from λa h=>by
  refine⟨by have:=z.o a h;omega,a,R,?_⟩;have C:(sl s).drop 0=[65,82]++(bu (ah a) 1++a.flatMap iB):=by rw[<- h.2.2];rfl
  have:=iq (iq C)
  rw[dg]at this;exact this)
 have HD:=ae A;clear A f B q z r y j E O;have hbs:K.heap.size<=K.heap.size:=bz _;have U:b<K.heap.size:=sR.o.lt;have hw4:w.heap.size<=K.heap.size:=G3.o.size;go_wp2
 go_loopw [7,8] (λv i wr=>∃(k:M) (j:L (L aL)) (p:M),k<=n/\i=I J k/\(ah j)=k/\p<=s.size /\
   aV wr K.heap.size 9 1 v k (iR j)/\cZ wr b s p F/\az w wr N/\K.heap.size<=wr.heap.size/\(∀m∈j,fq m)/\(sl s).drop 3=j.flatMap iB++(sl s).drop p /\
   ∀a,jq (sl s) a->ah a=n/\∃g,a=j++g/\(sl s).drop p=g.flatMap iB) (λ_ i _=>n-(aN i).toNat)
 case atStart=>exact⟨0,[],3,bG _,R,R,l1,eO _ _ _ _,sR.o,G3.o,bz _,by simp,by simp,A3.o⟩
 case round=>
  obtain⟨k,j,p,hk,rfl,f,hp,y,B,A,hsz,q,z,r⟩:=hrel;have S:=ae f;have Ck:=ae B;have HG:=ae A;have Qw:=ae q;have HDR:=ae z;have Jf:=ae r;clear f B A q z r;by_cases hlt:k<n
  ·have hlt':(k:Z)<(n:Z):=by omega
   have q:=ae (λh=>afd (l:=sl s) (p:=p) (by rw[H.o];exact hp) h);have z:=ae (λ(m rest:L aL) h hm=>agt (l:=sl s) (m:=m) (rest:=rest) (p:=p) (by rw[H.o];exact hp) h hm);have C:=ae (λW h=>ko b s p 2 2 rfl F W h hs hp (by omega));have r0:=lC (sl s) 2 (p,F);have q0:=gU (sl s) 2 (p,F) (by rw[H.o];exact hp);rw[H.o]at q0;simp only[Int.reducePow]at r0;generalize bA (sl s) 2 (p,F)=y0 at *;obtain⟨A,p2,s2⟩:=y0;simp only at C r0 q0 q z;obtain⟨A,rfl⟩:=eX r0.1;simp only[dy]at q z;have V:=ae (λW h=>yT b s p2 A (A:Z) R s2 W h hs q0 (by omega))
   have q1:=zi (sl s) A (p2,s2) (by rw[H.o];exact q0);rw[H.o]at q1;have q2:(bZ (sl s) A (p2,s2)).1.length<=65535:=by
    unfold bZ;split
    ·simp only[iO];omega
    ·simp
   generalize bZ (sl s) A (p2,s2)=y1 at *;obtain⟨m,p3,s3⟩:=y1;simp only at V q1 q2 q z;go_wp2_with fail;refine(C.o _ Ck.o).mono ?_;rintro e Jx ⟨rfl,O,f⟩;have zv:=ae O;have iM:=ae (tz HG.o f P);have r:=xg y U f;have B:=fV hsz f.size;clear O f y hsz Ck HG C;go_wp2_with fail;refine(V.o _ zv.o).mono ?_;rintro e nB ⟨rfl,O,f⟩;have Og:=ae O;have Q:=ae (tz iM.o f P);have C:=xg r U f;have E:=fV B f.size;clear O f r B zv iM V;have O:=ae (aar (bs m) nB (HT.o.grown Q.o) (by show (ah m)<=1048576;omega))
   rw[ou]at O;go_wp2_with fail;refine O.o.mono ?_;rintro e kz ⟨t,f⟩;have RC:=ae (Og.o.grown f (by simp));have GC:=ae (ya Q.o f);have r:=C.kept f (by cases (eW _)<;>simp);have ahZ:=fV E f.size;rcases t.split with ⟨rfl,B⟩|⟨rfl,B⟩<;>clear t f C E Og Q O
   ·have E:=ae (show ∀a,¬jq (sl s) a from λa h=>by
     obtain⟨O,g,f,C⟩:=Jf.o a h;have h4:=S.o
     match g,f,C with
     | [],f,_=>rw[f]at O;simp at O;omega
     |V::EG,f,C=>
      have Q:fq V:=h.2.1 V (by rw[f];simp);have e:=z.o V (EG.flatMap iB) (by rw[C];rfl) (Dk Q);subst e;exact B.o Q)
    clear B;go_wp2;go_ret2;exact⟨.inr ⟨E.o,R⟩,GC.o⟩
   ·obtain⟨V,he,hdp,E⟩:=q.o B.o;simp only[ny]at he;obtain⟨rfl,rfl,rfl⟩:=he;rw[H.o]at E;have PO:=ae hdp;have Yu:=ae B.o;have Yn:=ae (show ∀a,jq (sl s) a->ah a=n/\∃g,a=(j++[m])++g/\(sl s).drop (p+2+ah m)=g.flatMap iB from λa h=>by
     obtain⟨O,g,f,C⟩:=Jf.o a h;refine⟨O,?_⟩;have h4:=S.o
     match g,f,C with
     | [],f,_=>rw[f]at O;simp at O;omega
     |V::EG,f,C=>
      have Q:fq V:=h.2.1 V (by rw[f];simp);have e:=z.o V (EG.flatMap iB) (by rw[C];rfl) (Dk Q);subst e;refine⟨EG,by rw[f];simp,?_⟩;rw[PO.o]at C;exact List.append_cancel_left C)
    clear B hdp q z;have Im:ah j<=6:=by have:=S.o;omega
    go_wp2_with (at_builtin;refine jI _ R _ _ 22 rfl K.heap.size 9 i0 (aB ⟨#[]⟩) 1 16 underlying22 hi hz0 hz1 hz2 R (by decide) _ _ _ R (r.alloc _) ⟨kz.heap.size,0,N⟩ 1 1 [aB (bs m)] rfl rfl (qt _ _ _) (by intro u f;simp at f;subst f;rfl) (by unfold cu;omega) (by omega) (by simp;omega) ?_;intro v' Q C f _)
    have K1:=ae (show aV Q K.heap.size 9 1 v' (k+1) (iR (j++[m]))from by unfold iR;rw[List.map_append];exact C);have K2:=ae ((RC.o.grown (aG _ _ N) (by simp)).grown f (λe=>by have:=(r.lt b e.symm).1;omega));have qA:=ae (show az w Q N from by
     cases O:eW _ with
     |none=>rw[O]at f;exact ya (ya GC.o (aG _ _ N)) f
     |some bb=>rw[O]at f;exact tz (ya GC.o (aG _ _ N)) f (by have:=(r.lt bb O).1;omega))
    have O:=ae (show K.heap.size<=Q.heap.size from by have:=f.size;simp at this;omega);clear f C r;go_wp2
    go_roundw
    case rel=>exact⟨k+1,j++[m],p+2+ah m,by omega,by go_num,by simp[S.o],E,K1.o,K2.o,qA.o,O.o,λx a=>(nR.1 a).elim (Qw.o x) (λh=>by rw[yL.1 h];exact Yu.o),by rw[HDR.o,PO.o];simp,Yn.o⟩
    case measure=>simp[aN];omega
  ·obtain rfl:k=n:=by omega
   have r:=ae (Lo b s p F wr Ck.o);go_wp2_with fail;refine r.o.mono ?_;rintro e Jx ⟨he,A,rfl⟩;by_cases c:p=s.size
   ·rw[show (!F&&decide (p=s.size))=T from by simp[c]]at he;subst he;have f:=ae (show jq (sl s) j from ⟨by have:=VF.o;have:=S.o;omega,Qw.o,by
     have q:=HDR.o;have z:(sl s).drop p=[]:=xD (by rw[H.o];omega);rw[z,lG]at q;unfold ur;rw[<- q,S.o];exact HD.o.symm⟩)
    have q:=ae (kE y hw4);obtain⟨z,B,rfl⟩:=yi y;clear c y;go_wp2;go_ret2;refine⟨.inl ⟨j,_,f.o,R,?_⟩,ye HG.o _⟩;rw[S.o];exact q.o.kept (ye (World.grownBy.refl _ N) A) (by cases (eW _)<;>simp)
   ·rw[show (!F&&decide (p=s.size))=F from by simp[c]]at he;subst he;have E:=ae (show ∀a,¬jq (sl s) a from λa h=>by
     obtain⟨O,g,f,C⟩:=Jf.o a h;have h4:=S.o;rw[f]at O;simp only[bX]at O;have q:g=[]:=List.eq_nil_of_length_eq_zero (by omega);rw[q]at C;have z:=jz ah C;simp only[EW,yJ,yI,H.o]at z;omega)
    clear c;go_wp2;go_ret2;exact⟨.inr ⟨E.o,R⟩,ye HG.o _⟩
theorem adh(a:Z)(w:av):Calls prog 91 #[I J a] w λe f=>aX e (fc a)/\f=w:=by
 by_cases c:4096<=a
 ·by_cases d:a<1073741824
  ·exact Gy a w (by omega) (by omega)
  ·have N:=ae (show ¬fc a from λh=>d h.1.2);have f:decide (4096<=a)=T:=by simpa using c
   have g:decide (a<1073741824)=F:=by simpa using d
   go_enter func91,ntmps91;go_wp2;go_ret;exact⟨aX.no N.o,R⟩
 ·have N:=ae (show ¬fc a from λh=>c h.1.1);have f:decide (4096<=a)=F:=by simpa using c
  go_enter func91,ntmps91;go_wp2;go_ret;exact⟨aX.no N.o,R⟩
open Classical in
noncomputable def kj(bt aj bd:Z):jv:=if ¬fc bt then ⟨30,0,[]⟩else if ¬fc aj then ⟨30,1,[]⟩else if ¬fc bd then ⟨30,2,[]⟩else eM
theorem ZV(bt aj bd:Z)(w:av):
  Calls prog 69 #[.agg #[I J bt,I J aj,I J bd]] w λe d=>e=aH (bY (kj bt aj bd))/\az w d N:=by
 have K:=ae (λa W=>adh a W);have f:(w.alloc (.cells #[I J bt,I J aj,I J bd] 31)).heap.size=w.heap.size+1:=js _;have u:=ae (ya (aG w (.cells #[I J bt,I J aj,I J bd] 31) N) (aG (w.alloc (.cells #[I J bt,I J aj,I J bd] 31)) (.cells #[I J 0,I J 0,aB ⟨#[]⟩] 27) N));have d:=ae (aA.new (w.alloc (.cells #[I J bt,I J aj,I J bd] 31)) #[I J 0,I J 0,aB ⟨#[]⟩] 27);rw[f]at d;clear f;go_enter func69,ntmps69;go_wp2;generalize (w.alloc (.cells #[I J bt,I J aj,I J bd] 31)).alloc (.cells #[I J 0,I J 0,aB ⟨#[]⟩] 27)=Q at *
 go_loopw [12] (λi wr=>∃k:M,k<=3/\i=I J k/\wr=Q/\(0<k->fc bt)/\(1<k->fc aj)/\(2<k->fc bd)) (λi _=>3-(aN i).toNat)
 case atStart=>exact⟨0,by omega,R,R,λc=>by omega,λc=>by omega,λc=>by omega⟩
 case round=>
  obtain⟨k,X,rfl,rfl,s,O,U⟩:=hrel;have A:aq wr ⟨w.heap.size+1,0,N⟩=S (I J 0):=d.o.cell 0;have B:aq wr ⟨w.heap.size+1,1,N⟩=S (I J 0):=d.o.cell 1;have C:aq wr ⟨w.heap.size+1,2,N⟩=S (aB ⟨#[]⟩):=d.o.cell 2;have x:=d.o.free 0;have y:=d.o.free 1;have z:=d.o.free 2;rcases (show k=0\/k=1\/k=2\/k=3 by omega)with rfl|rfl|rfl|rfl
  ·have j:=ae (K.o bt);rw[show ((0:M):Z)=0 from R];have P:∀W:av,Sem.run prog (Instr.index 192 (.agg #[I J bt,I J aj,I J bd]) (I J 0)) W = .ok (I J bt) W:=λ_=>by kernel_rfl
   go_wp2_with fail;refine(j.o _).mono ?_;rintro e V ⟨q,m⟩;subst m;rcases q.split with ⟨rfl,n⟩|⟨rfl,r⟩
   ·have E:=ae (show kj bt aj bd=⟨30,0,[]⟩ by unfold kj;rw[aD n.o]);go_wp2;have F:=((d.o.set 0 (I J 30)).set 1 (I J 0)).set 2 (aB ⟨#[]⟩);have f:=F.cell 0;have g:=F.cell 1;have h:=F.cell 2;simp only[dt,dB,dC,bI,bB,bL]at f g h;refine bj (v:=bY ⟨30,0,[]⟩) ?_ R ⟨by rw[E.o],iC u.o _ (by omega) _ _ _⟩;clear F A B C x y z;generalize aK _ _ _=H at *;simp[results,results69,go_sem,bY,bs,f,g,h]
   ·go_wp2
    go_roundw
    case rel=>exact⟨1,by omega,by go_num,trivial,λ_=>r.o,λc=>by omega,λc=>by omega⟩
    case measure=>simp[aN]
  ·have j:=ae (K.o aj);rw[show ((1:M):Z)=1 from R];have P:∀W:av,Sem.run prog (Instr.index 192 (.agg #[I J bt,I J aj,I J bd]) (I J 1)) W = .ok (I J aj) W:=λ_=>by kernel_rfl
   go_wp2_with fail;refine(j.o _).mono ?_;rintro e V ⟨q,m⟩;subst m;rcases q.split with ⟨rfl,n⟩|⟨rfl,r⟩
   ·have E:=ae (show kj bt aj bd=⟨30,1,[]⟩ by unfold kj;rw[ax (λc=>c (s (by omega)))];rw[aD n.o]);go_wp2;have F:=((d.o.set 0 (I J 30)).set 1 (I J 1)).set 2 (aB ⟨#[]⟩);have f:=F.cell 0;have g:=F.cell 1;have h:=F.cell 2;simp only[dt,dB,dC,bI,bB,bL]at f g h;refine bj (v:=bY ⟨30,1,[]⟩) ?_ R ⟨by rw[E.o],iC u.o _ (by omega) _ _ _⟩;clear F A B C x y z;generalize aK _ _ _=H at *;simp[results,results69,go_sem,bY,bs,f,g,h]
   ·go_wp2
    go_roundw
    case rel=>exact⟨2,by omega,by go_num,trivial,λ_=>s (by omega),λ_=>r.o,λc=>by omega⟩
    case measure=>simp[aN]
  ·have j:=ae (K.o bd);rw[show ((2:M):Z)=2 from R];have P:∀W:av,Sem.run prog (Instr.index 192 (.agg #[I J bt,I J aj,I J bd]) (I J 2)) W = .ok (I J bd) W:=λ_=>by kernel_rfl
   go_wp2_with fail;refine(j.o _).mono ?_;rintro e V ⟨q,m⟩;subst m;rcases q.split with ⟨rfl,n⟩|⟨rfl,r⟩
   ·have E:=ae (show kj bt aj bd=⟨30,2,[]⟩ by unfold kj;rw[ax (λc=>c (s (by omega))),ax (λc=>c (O (by omega)))];rw[aD n.o]);go_wp2;have F:=((d.o.set 0 (I J 30)).set 1 (I J 2)).set 2 (aB ⟨#[]⟩);have f:=F.cell 0;have g:=F.cell 1;have h:=F.cell 2;simp only[dt,dB,dC,bI,bB,bL]at f g h;refine bj (v:=bY ⟨30,2,[]⟩) ?_ R ⟨by rw[E.o],iC u.o _ (by omega) _ _ _⟩;clear F A B C x y z;generalize aK _ _ _=H at *;simp[results,results69,go_sem,bY,bs,f,g,h]
   ·go_wp2
    go_roundw
    case rel=>exact⟨3,by omega,by go_num,trivial,λ_=>s (by omega),λ_=>O (by omega),λ_=>r.o⟩
    case measure=>simp[aN]
  ·have E:=ae (show kj bt aj bd=eM by unfold kj;rw[ax (λc=>c (s (by omega))),ax (λc=>c (O (by omega))),ax (λc=>c (U (by omega)))]);go_wp2;have F:=((d.o.set 0 (I J 0)).set 1 (I J 0)).set 2 (aB ⟨#[]⟩);have f:=F.cell 0;have g:=F.cell 1;have h:=F.cell 2;simp only[dt,dB,dC,bI,bB,bL]at f g h;refine bj (v:=bY eM) ?_ R ⟨by rw[E.o],iC u.o _ (by omega) _ _ _⟩;clear F A B C x y z;generalize aK _ _ _=H at *;simp[results,results69,go_sem,bY,eM,bs,f,g,h]
def mU(l:L aL)(a:bc)(os:L aF):Prop :=
 (a=F/\fq l/\os=[eE l])\/(a=T/\¬fq l/\∃ms,jq l ms/\os=ms.map eE)
def Bh(l:L aL):Prop:=¬fq l/\∀ms,¬jq l ms
def fresh(os:L aF):L (aF×bc):=os.map λo=>(o,F)
theorem Tryz.ZN:(Tryz.prog.info? 196).map (λi=>(i.zero,i.size,i.bytes))=S (S (.agg #[aM N,aJ F]),2,16):=by kernel_rfl
def TM(W:av)(B:M)(v:aC)(a:bc)(os:L aF):Prop :=
 ∃di cap gs,v = .agg #[aJ a,ak (S ⟨di,0,N⟩) (ah os) cap]/\B<=di/\lY W di gs (fresh os)/\(ah os)<=cap/\cap<=cu
def abX(B:M)(l:L aL)(e:Ending)(w':av):Prop :=
 (∃v a os,mU l a os/\e=aH (aZ #[v,aJ T])/\TM w' B v a os)\/(Bh l/\e=aH (aZ #[.agg #[aJ F,ak N 0 0],aJ F]))
theorem K4{V:av}(h:az w V N)(r:M)(c:w.heap.size<=r)(a b:aC):az w ((aK V ⟨r,0,N⟩ a).setCell ⟨r,1,N⟩ b) N :=
 eh (eh h (bK V r 0 a) (by intro k e;simp at e;omega)) (bK _ r 1 b) (by intro k e;simp at e;omega)
theorem TI{V:av}{r:M}(c:aA V r G t)(a b:aC):iJ [t] V ((aK V ⟨r,0,N⟩ a).setCell ⟨r,1,N⟩ b) :=
 (iJ.row (bK V r 0 a) (dr.aO c) (by simp)).trans (iJ.row (bK _ r 1 b) (dr.aO (c.set 0 a)) (by simp))
theorem ag5(V:av)(r:M)(a b:aC):((aK V ⟨r,0,N⟩ a).setCell ⟨r,1,N⟩ b).heap.size=V.heap.size:=by simp[aK]
def ug(gs:L M):L aC:=gs.flatMap λg=>[bO g,aJ F]
theorem afb:∀(a:L M) (i:M) (h:i<ah a),(ug a)[i*2]?=S (bO a[i])/\(ug a)[i*2+1]?=S (aJ F):=by
 intro a
 induction a with
 |nil=>intro i h;simp at h
 |cons g a c=>
  intro i h
  cases i with
  |zero=>exact⟨R,R⟩
  |succ i=>
   have:=c i (by simpa using h)
   have e:ug (g::a)=bO g::aJ F::ug a:=R;rw[e,show (i+1)*2=i*2+1+1 by omega];simp only[bB,List.getElem_cons_succ];exact this
theorem adr(a:L M)(g:M):ug a++[bO g,aJ F]=ug (a++[g]):=by simp[ug]
theorem ag4(U:av)(g:M):∀j u,[bO g,aJ F][j]?=S u->(U.alloc (.cells #[bO g,aJ F] 196)).cell? ((⟨U.heap.size,0,N⟩:aY).add j)=S u:=by
 intro j u c;have e:(⟨U.heap.size,0,N⟩:aY).add j=⟨U.heap.size,j,N⟩:=by
  unfold Addr.add;by_cases a:j=0
  ·subst a;simp
  ·simp[a]
 rw[e,(aA.new U #[bO g,aJ F] 196).cell j];simpa using c
theorem RN{W:av}{c:L M}{os:L aF}{a:dJ aC}(s:aA W di a 196)(n:a.toList.take (ah c*2)=ug c)(j:ah c=ah os)(u:∀i (h:i<ah os),yr W (c[i]'(by rw[j];exact h)) os[i])(v:∀o∈os,ah o.aE<=65535):lY W di c (fresh os):=by
 have f:(fresh os).length=ah os:=by simp[fresh]
 refine⟨by rw[f];exact j,⟨a,s,λi d=>?_⟩,λi d=>?_,λm k=>?_⟩
 ·rw[f]at d;have g:i<ah c:=by omega
  obtain⟨q,r⟩:=afb c i g;rw[<- n,vZ,aD (by omega)]at q;rw[<- n,vZ,aD (by omega)]at r;have e:(fresh os)[i]'(by rw[f];exact d)=(os[i],F):=by simp[fresh]
  rw[e];exact⟨by simpa using q,by simpa using r⟩
 ·rw[f]at d;have e:(fresh os)[i]'(by rw[f];exact d)=(os[i],F):=by simp[fresh]
  rw[e];exact u i d
 ·simp only[fresh,mh]at k;obtain⟨o,g,rfl⟩:=k;exact v o g
theorem aa3(s:bT)(w:av)(ht:eH w)(hs:s.size<=1048576):
  Calls prog 70 #[aB s] w λe a=>abX w.heap.size (sl s) e a/\az w a N:=by
 have G0:=ae (aG w (.cells #[aJ F,ak N 0 0] 143) N);have B0:=ae (aA.new w #[aJ F,ak N 0 0] 143);have cR:=ae (λW (U:az w W N)=>Lj s W (ht.grown U) hs);have cM:=ae (λW (U:az w W N)=>abG s W (ht.grown U) hs);have HT:=ae ht;clear ht;go_enter func70,ntmps70;go_wp2_with fail;refine(cR.o _ G0.o).mono ?_;rintro e n ⟨hr,a⟩;have G1:=ae (ya G0.o a);have P:=ae (B0.o.grown a (by simp));clear a;have z0:aq n ⟨w.heap.size,0,N⟩=S (aJ F):=P.o.cell 0;have z1:aq n ⟨w.heap.size,1,N⟩=S (ak N 0 0):=P.o.cell 1
 have f0:=P.o.free 0;have f1:=P.o.free 1;have O:=P.o.lt;rcases hr with ⟨o,g,f,H,rfl,h3,h4⟩|⟨f,rfl⟩
 ·have HO:=ae h3;have HI:=ae (FW f H);have K:w.heap.size≠n.heap.size:=by omega
  have hsy:ah o.aE<=65535:=(De (AO H)).1.2.2.2.2.1;clear f H h3 cM cR;go_wp2;have a:=TI P.o (aJ F) (ak (S ⟨n.heap.size,0,N⟩) 1 1);have r:=K4 G1.o w.heap.size (bz _) (aJ F) (ak (S ⟨n.heap.size,0,N⟩) 1 1);have E:=ag5 n w.heap.size (aJ F) (ak (S ⟨n.heap.size,0,N⟩) 1 1);have d:=(P.o.set 0 (aJ F)).set 1 (ak (S ⟨n.heap.size,0,N⟩) 1 1);have C:=a.obj HO.o (by decide) (by decide) (by decide) (by decide);generalize (aK n ⟨w.heap.size,0,N⟩ (aJ F)).setCell ⟨w.heap.size,1,N⟩ (ak (S ⟨n.heap.size,0,N⟩) 1 1)=V at *
  have c:=aG V (.cells #[aM (S ⟨g,0,N⟩),aJ F] 196) N;have y:=aA.new V #[aM (S ⟨g,0,N⟩),aJ F] 196;rw[E]at y;have z:=d.grown c (by simp);have q:=z.cell 0;have f:=z.cell 1;simp only[dt,dB,dC,bI,bB,bL]at q f;have A:lY (V.alloc (.cells #[aM (S ⟨g,0,N⟩),aJ F] 196)) n.heap.size [g] (fresh [o]):=RN y R R (λi hi=>by
   obtain rfl:i=0:=by simp at hi;omega
   exact C.kept c) (λx B=>by simp at B;subst B;exact hsy)
  refine bj (v:=aZ #[.agg #[aJ F,ak (S ⟨n.heap.size,0,N⟩) 1 1],aJ T]) ?_ R ⟨.inl ⟨_,F,[o],.inl ⟨R,HI.o.1,by rw[HI.o.2]⟩,R,n.heap.size,1,[g],R,by omega,A,by simp,by decide⟩,ya r c⟩;clear A z d c a r y z0 z1 f0 f1;generalize wX _ _=d at *;simp[results,results70,go_sem,q,f]
 ·have HI:=ae (KF f);clear f cR;go_wp2_with fail;refine(cM.o _ G1.o).mono ?_;rintro e C ⟨hm,hg2⟩;have G2:=ae (ya G1.o hg2);have I:=ae (P.o.grown hg2 (by simp));clear z0 z1 f0 f1 cM;have z0:aq C ⟨w.heap.size,0,N⟩=S (aJ F):=I.o.cell 0;have z1:aq C ⟨w.heap.size,1,N⟩=S (ak N 0 0):=I.o.cell 1;have f0:=I.o.free 0;have f1:=I.o.free 1;rcases hm with ⟨c,v,hA,rfl,A⟩|⟨hA,rfl⟩
  ·obtain⟨eR,cv,rfl⟩:=yi A;have HA:=ae hA;have HO:=ae A;have hml:=hA.1;have Cp:=ae hA.2.1;clear hA A z0 z1 f0 f1;have hcv:=kF HO.o;have hX:w.heap.size<C.heap.size:=I.o.lt;have A3:=ae (aG C (.cells #[aJ T,ak N 0 0] 143) N);have B3:=ae (aA.new C #[aJ T,ak N 0 0] 143);have sR:=ae (I.o.grown A3.o (by simp));have S3:=ae (HO.o.alloc (.cells #[aJ T,ak N 0 0] 143));have Xs:=ae (show (C.alloc (.cells #[aJ T,ak N 0 0] 143)).heap.size=C.heap.size+1 from js _);have G3:=ae (ya G2.o A3.o);obtain⟨i0,hi,hz0,hz1,hz2⟩:=fG Tryz.ZN
   go_wp2;generalize C.alloc (.cells #[aJ T,ak N 0 0] 143)=W3 at *;generalize C.heap.size=X at *
   go_loopw [34] (λi wr=>∃(k:M) (E:L M) (vm:aC),k<=ah c/\i = .int .i64 k/\(ah E)=k/\aA wr X #[aJ T,vm] 143/\aV wr (X+1) 196 2 vm k (ug E)/\(∀j (h:j<k) (f:j<ah E) (H:j<ah c),yr wr E[j] (eE c[j]))/\aA wr w.heap.size #[aJ F,ak N 0 0] 143/\aV wr n.heap.size 9 1 (ak eR (ah c) cv) (ah c) (iR c)/\az w wr N/\X+1<=wr.heap.size) (λi _=>ah c-(aN i).toNat)
   case atStart=>exact⟨0,[],_,bG _,R,R,B3.o,eO _ _ _ _,λj h=>by omega,sR.o,S3.o,G3.o,by rw[Xs.o];exact bz _⟩
   case round=>
    obtain⟨k,E,vm,hk,rfl,K,Y,a,y,d,q,r,hxs⟩:=hrel;obtain⟨B,z,rfl⟩:=yi a;have HB:=ae Y;have J:=ae a;have JQ:=ae y;have Q:=ae d;have HST:=ae q;have qP:=ae r;clear Y a y d q r B3 sR S3;by_cases O:k<ah c
    ·have d:=Cp.o c[k] (bN O);have q:=Dk d;obtain⟨sg,hsg,-,-,-,a⟩:=vM HST.o (by omega);have ck:=a k O;rw[show (iR c)[k]?=S (aB (bs c[k])) by simp[iR,List.getElem?_map,List.getElem?_eq_getElem O]]at ck;have cR:=ae (Lj (bs c[k]) wr (HT.o.grown qP.o) (by rw[nK];omega));have g1:(k:Z)<(ah c:Z):=by omega
     have Wm:=ae d;clear a d q;generalize a:c[k]=mk at *;have VD:=ae a;clear a;subst hsg;go_wp2_with fail;refine cR.o.mono ?_;rintro e wD ⟨JX,Y⟩;rcases JX with ⟨o,g,q1,q2,rfl,q3,q4⟩|⟨q1,rfl⟩
     ·rw[ou]at q1;have Vf:=ae (FW q1 q2).2;have hsy:ah o.aE<=65535:=(De (AO q2)).1.2.2.2.2.1;have Em:=ae q3;have Fs:=ae (HB.o.grown Y (by simp));have Ps:=ae (J.o.kept Y (by cases eW _<;>simp));have PZ:=ae (λj h f H=>(JQ.o j h f H).kept Y);have Ol:=ae (Q.o.grown Y (by simp));have Oo:=ae (HST.o.kept Y (by cases eW _<;>simp));have Ax:=ae (ya qP.o Y);have hx5:X+1<=wD.heap.size:=fV hxs Y.size;clear q1 q2 q3 cR ck Y HB J JQ Q HST qP;have x1:aq wD ⟨X,1,N⟩=S (ak B k z):=Fs.o.cell 1;have xf:=Fs.o.free 1;have hcm:=kF Ps.o
      have CN:=ae (ag4 wD g);have AM:=ae (aG wD (.cells #[bO g,aJ F] 196) N);have uo:=ae (Ps.o.alloc (.cells #[bO g,aJ F] 196));have Vx:=ae (Fs.o.grown AM.o (by simp));have Zd:X≠w.heap.size:=by omega
      have U:=ae (λ(r:aC) (y:av) (d:aV y (X+1) 196 2 r (k+1) (ug E++[bO g,aJ F])) (a:(wD.alloc (.cells #[bO g,aJ F] 196)).grownBy y (eW (ak B k z)))=>show (aA y X #[aJ T,ak B k z] 143)/\∃(q:L M),ah q=k+1/\aA (aK y ⟨X,1,N⟩ r) X #[aJ T,r] 143/\(aK y ⟨X,1,N⟩ r).ownsRow (X+1) 196 2 r (k+1) (ug q)/\(∀j (h:j<k+1) (f:j<ah q) (H:j<ah c),yr (aK y ⟨X,1,N⟩ r) q[j] (eE c[j]))/\aA (aK y ⟨X,1,N⟩ r) w.heap.size #[aJ F,ak N 0 0] 143/\(aK y ⟨X,1,N⟩ r).ownsRow n.heap.size 9 1 (ak (S ⟨sg,0,N⟩) (ah c) cv) (ah c) (iR c)/\az w (aK y ⟨X,1,N⟩ r) N/\X+1<=(aK y ⟨X,1,N⟩ r).heap.size by
       have RT:=dr.own uo.o;have b3:=fh Vx.o a RT (by decide);have gS:=bK y X 1 r;have Fu:=dr.aO b3;refine⟨b3,E++[g],by simp[K],b3.set 1 r,?_,λj h f H=>?_,?_,?_,?_,?_⟩
       ·rw[<- adr];exact ec d gS Fu (by decide)
       ·by_cases hjk:j<k
        ·rw[uM (by omega)];exact kU (kU ((PZ.o j hjk (by omega) H).kept AM.o) a RT (by decide) (by decide) (by decide) (by decide)) gS Fu (by decide) (by decide) (by decide) (by decide)
        ·obtain rfl:j=k:=by omega
         have e1:(E++[g])[j]=g:=by simp[<- K]
         rw[e1,VD.o,Vf.o];exact kU (kU (Em.o.kept AM.o) a RT (by decide) (by decide) (by decide) (by decide)) gS Fu (by decide) (by decide) (by decide) (by decide)
       ·exact(fh (Ol.o.grown AM.o (by simp)) a RT (by decide)).grown gS (by simp;omega)
       ·exact ec (ec (Oo.o.alloc _) a RT (by decide)) gS Fu (by decide)
       ·exact eh (eh (ya Ax.o AM.o) a (λb e=>by have:=(uo.o.lt b e).1;omega)) gS (by intro b e;simp at e;omega)
       ·have:=gS.size
        have:=a.size
        have:=AM.o.size
        omega)
      clear PZ Em Ol Oo Ax Fs;unfold bO at CN uo U;go_wp2_with (at_builtin;refine Dg _ R _ _ 141 rfl (X+1) 196 i0 (.agg #[aM N,aJ F]) 2 16 underlying141 hi hz0 hz1 hz2 R (by decide) _ _ _ R uo.o ⟨wD.heap.size,0,N⟩ 1 1 [aM (S ⟨g,0,N⟩),aJ F] rfl rfl CN.o (by intro u hu;simp at hu;rcases hu with rfl|rfl<;>rfl) (by unfold cu;omega) (by omega) (by simp;omega) ?_;intro r y d a hblk;obtain⟨gR,cv',rfl⟩:=yi d;obtain⟨b3,q,r1,r2,r3,r4,r5,r6,r7,r8⟩:=U.o _ _ d a;have k1:=b3.cell 1;have ai8:=b3.free 1;have Q1:=ae r2;have Q2:=ae r3;have Q3:=ae r4;have Q4:=ae r5;have Jj:=ae r6;have Fl:=ae r7;have Jk:=ae r8;clear a d b3 r2 r3 r4 r5 r6 r7 r8 hblk)
      go_roundw
      case rel=>exact⟨k+1,q,_,by omega,by go_num,r1,Q1.o,Q2.o,Q3.o,Q4.o,Jj.o,Fl.o,Jk.o⟩
      case measure=>simp[aN];omega
     ·exact absurd Wm.o (KF (by rw[ou]at q1;exact q1))
    ·obtain rfl:k=ah c:=by omega
     have g3:decide ((ah c:Z)<(ah c:Z))=F:=by simp
     have x0:aq wr ⟨X,0,N⟩=S (aJ T):=HB.o.cell 0;have x1:aq wr ⟨X,1,N⟩=S (ak B (ah c) z):=HB.o.cell 1;have z0:aq wr ⟨w.heap.size,0,N⟩=S (aJ F):=Q.o.cell 0;have z1:aq wr ⟨w.heap.size,1,N⟩=S (ak N 0 0):=Q.o.cell 1;have f0:=Q.o.free 0;have f1:=Q.o.free 1;have Zd:X≠w.heap.size:=by omega
     have aik:w.heap.size≠X:=by omega
     go_wp2;have a:=TI Q.o (aJ T) (ak B (ah c) z);have r:=K4 qP.o w.heap.size (bz _) (aJ T) (ak B (ah c) z);have d:=(Q.o.set 0 (aJ T)).set 1 (ak B (ah c) z);have q:=d.cell 0;have f:=d.cell 1;simp only[dt,dB,dC,bI,bB,bL]at q f;have y:=a.own J.o (by decide);have FA:TM ((aK wr ⟨w.heap.size,0,N⟩ (aJ T)).setCell ⟨w.heap.size,1,N⟩ (ak B (ah c) z)) w.heap.size (.agg #[aJ T,ak B (ah c) z]) T (c.map eE):=by
      rcases y.2 with ⟨q1,q2⟩|⟨di,cap,cur,hv,Y,U,r3,r4,r5,r6⟩
      ·omega
      ·simp only[jQ]at hv;obtain⟨rfl,-,rfl⟩:=hv;refine⟨di,z,E,by simp,by omega,RN U (by rw[K];exact r6) (by simp[K]) (λi hi=>?_) (λo ho=>?_),by simpa using r3,r4⟩
       ·simp only[fZ]at hi;rw[List.getElem_map];exact a.obj (JQ.o i hi (by omega) hi) (by decide) (by decide) (by decide) (by decide)
       ·obtain⟨m,hm,rfl⟩:=mh.1 ho;exact(De (AO (Cp.o m hm).1)).1.2.2.2.2.1
     refine bj (v:=aZ #[.agg #[aJ T,ak B (ah c) z],aJ T]) ?_ R ⟨.inl ⟨_,T,c.map eE,.inr ⟨R,HI.o,c,HA.o,R⟩,R,FA⟩,r⟩;clear FA y d r a x0 x1 z0 z1 f0 f1;generalize aK _ _ _=d at *;simp[results,results70,go_sem,q,f]
  ·have a:=ae (show Bh (sl s)from ⟨HI.o,hA⟩);clear hA;go_wp2;have d:=(I.o.set 0 (aJ F)).set 1 (ak N 0 0);have q:=d.cell 0;have f:=d.cell 1;simp only[dt,dB,dC,bI,bB,bL]at q f;refine bj (v:=aZ #[.agg #[aJ F,ak N 0 0],aJ F]) ?_ R ⟨.inr ⟨a.o,R⟩,K4 G2.o w.heap.size (bz _) _ _⟩;clear d z0 z1 f0 f1;generalize aK _ _ _=d at *;simp[results,results70,go_sem,q,f]
def pK(os:L aF)(x:bc×L aF):L aF:=if x.1 then nU (x.2.length+1) (fresh x.2) os else os++x.2
def gh(xs:L (bc×L aF)):L aF:=xs.foldl pK []
theorem F5(os:L aF):(fresh os).length=ah os:=by simp[fresh]
theorem FX(os:L aF):km (fresh os)=ah os:=by
 unfold km fresh;rw[List.filter_eq_self.2 (by intro x a;obtain⟨o,_,rfl⟩:=mh.1 a;rfl),fZ]
theorem abQ(g:av)(P:M)(bt aj bd:Z)(J:aC)(j X:L M)(os:L aF)(di d:M)(A:L M)(a:bc)(ms:L aF)(W:av)(h:ki g P bt aj bd J j X os W)(m:lY W di A (fresh ms))(hc:ah j+ah ms<=4096)(Y:g.heap.size<=di)(n:ah ms<=d/\d<=cu):
  Calls prog 71 #[bO P,.agg #[aJ a,ak (S ⟨di,0,N⟩) (ah ms) d]] W λe d=>e=aH (aZ #[])/\(∃f c m,ki g P bt aj bd f c m (pK os (a,ms)) d/\(ah c)<=ah j+ah ms)/\mV [147,151] di W d:=by
 have C:=ae (aG W (.cells #[aJ a,ak (S ⟨di,0,N⟩) (ah ms) d] 143) N);have B0:=ae (aA.new W #[aJ a,ak (S ⟨di,0,N⟩) (ah ms) d] 143);have K:=ae (h.kept C.o);have O:=ae (m.kept C.o);have H:=ae ((iJ.grown (ts:=[147,151]) C.o).x di);have q:=n.2;unfold cu at q;have hmm:di<W.heap.size:=by
  obtain⟨c,hb,-⟩:=m.row;exact hb.lt
 clear h m
 cases a with
 |true=>
  have c:=ae (aal g P bt aj bd J j X os di d A (fresh ms) _ K.o O.o (by rw[FX];omega) Y (by rw[F5];omega) (by rw[F5];exact n));rw[F5,FX]at c;have E:=ae (show pK os (true,ms)=nU (ah ms+1) (fresh ms) os from R);unfold bO at *;go_enter func71,ntmps71;go_wp2_with fail;refine c.o.mono ?_;rintro e s ⟨rfl,r,f⟩;have x:=ae r;have v:=ae (H.o.trans f);clear r f c;go_wp2
  (try simp only[Exit.inBlock,Exit.then]);refine bj (results_none R _ _ _) R ?_
  rw[E.o];exact⟨R,x.o,v.o⟩
 |false=>
  have E:=ae (show pK os (F,ms)=os++ms from R);unfold bO at *;go_enter func71,ntmps71;go_wp2;generalize W.alloc (.cells #[aJ F,ak (S ⟨di,0,N⟩) (ah ms) d] 143)=W1 at *
  go_loopw [15] (λi wr=>∃(k:M) (s B:L M) (z:aC),k<=ah ms/\i = .int .i64 k/\ki g P bt aj bd z s B (os++ms.take k) wr/\lY wr di A (fresh ms)/\(ah s)=ah j+k/\mV [147,151] di W wr) (λi _=>ah ms-(aN i).toNat)
  case atStart=>exact⟨0,j,X,J,bG _,R,by simpa using K.o,O.o,R,H.o⟩
  case round=>
   obtain⟨k,s,B,z,hk,rfl,r,m,hb,f⟩:=hrel;have x:=ae r;have y:=ae m;have v:=ae f;clear r m f K O H;by_cases r:k<ah ms
   ·have f:k<(fresh ms).length:=by rw[F5];exact r
    obtain⟨m0,I,-⟩:=y.o.cells k f;have Q:=ae (y.o.qL k f);have U:=y.o.aE _ (bN f);have V:(fresh ms)[k]=(ms[k],F):=by simp[fresh]
    rw[V]at I Q U;dsimp only at I Q U;have uV:=ae (show ms.take (k+1)=ms.take k++[ms[k]]from kI r);unfold bO at m0;generalize A[k]'_=T at *;generalize ms[k]=oj at *;have g1:(k:Z)<(ah ms:Z):=by omega
    have u:=ae (aG wr (.cells #[aM (S ⟨T,0,N⟩),aJ F] 196) N);have c:=ae (SX g P bt aj bd z s B (os++ms.take k) T oj _ (x.o.kept u.o) (Q.o.kept u.o) (by omega) U);have Wi:=ae (y.o.kept u.o);have jl:=ae (v.o.trans ((iJ.grown u.o).x di));clear V;unfold bO at c;go_wp2_with fail;refine c.o.mono ?_;rintro e W7 ⟨rfl,⟨QH,b7,h7⟩,V⟩;have CH:=ae h7;have LP:=ae (Wi.o.frame V (by decide) (by decide) (by decide) (by decide) (by decide));have CY:=ae (jl.o.trans (V.x di));clear h7 V c m0 I;go_wp2
    go_roundw
    case rel=>exact⟨k+1,_,_,_,by omega,by go_num,by rw[uV.o,<- cy];exact CH.o,LP.o,by simp;omega,CY.o⟩
    case measure=>simp[aN];omega
   ·obtain rfl:k=ah ms:=by omega
    have c:decide ((ah ms:Z)<(ah ms:Z))=F:=by simp
    go_wp2
    go_end0
    rw[E.o];exact⟨R,⟨z,s,B,by have:=x.o;rw[nS]at this;exact this,by omega⟩,v.o⟩
def sE(w:av)(D:aR aY)(fs:L (L aL)):Prop :=
 0<ah fs->∃g off,D=S ⟨g,off,N⟩/\∀i (h:i<ah fs),aq w ⟨g,off+i,N⟩=S (aB (bs fs[i]))
theorem sE.kept{c:av}{fs:L (L aL)}(h:sE w D fs)(f:az w c N):sE c D fs:=by
 intro j;obtain⟨g,a,e,d⟩:=h j;exact⟨g,a,e,λi a=>yd (d i a) f⟩
theorem Tryz.Vi:(Tryz.prog.info? 143).map (λi=>(i.zero,i.size,i.bytes))=S (S (.agg #[aJ F,ak N 0 0]),2,32):=by kernel_rfl
structure lF where
 a:bc
 di:M
 n:M
 cap:M
def Bm(r:lF):L aC:=[aJ r.a,ak (S ⟨r.di,0,N⟩) r.n r.cap]
def qm(W:av)(r:lF)(x:bc×L aF):Prop:=r.a=x.1/\r.n=x.2.length/\∃gs,lY W r.di gs (fresh x.2)/\x.2.length<=r.cap/\r.cap<=cu
structure vJ (W:av) (B:M) (v:aC) (fl:L lF) (xs:L (bc×L aF)):Prop where
 len:fl.length=xs.length
 row:W.ownsRow B 143 2 v xs.length (fl.flatMap Bm)
 at_:∀i (h:i<xs.length),qm W (fl[i]'(by rw[len];exact h)) xs[i]
 pair:fl.Pairwise (λr s=>r.di<s.di)
 Bz:∀r∈fl,B<=r.di/\r.di<W.heap.size
section
variable{W a d:av}{B:M}{v e:aC}{r:lF}{b:L lF}{xs:L (bc×L aF)}{x:bc×L aF}
theorem qm.frame(h:qm W r x)(m:iJ ts W a)(f:196 ∉ ts)(g:72 ∉ ts)(i:3 ∉ ts)(j:107 ∉ ts)(k:75 ∉ ts):qm a r x:=by
 obtain⟨n,q,c,s,u⟩:=h;exact⟨n,q,c,s.frame m f g i j k,u⟩
theorem qm.Wr(h:qm W r x)(u:mV ts di W a)(j:r.di≠di)(n:∀g o,yr W g o->yr a g o)(m:196 ∉ ts):qm a r x:=by
 obtain⟨y,z,k,c,A⟩:=h;obtain⟨f,q,s⟩:=c.row;exact⟨y,z,k,⟨c.len,⟨f,u _ _ _ q m j,s⟩,λi f=>n _ _ (c.qL i f),c.aE⟩,A⟩
theorem mV.frame{f:dJ aC}{i:dm}(m:mV ts di W a)(j:aA W di f i):iJ (i::ts) W a:=λk G t g h=>m k G t g (λc=>h (List.mem_cons_of_mem _ c)) (by
 rintro rfl
 have:=j.symm.trans g
 simp at this;exact h (by rw[this.2];exact List.mem_cons_self))
theorem qm.kept(h:qm W r x)(c:az W a N):qm a r x:=h.frame (ts:=[]) (iJ.grown c) (by simp) (by simp) (by simp) (by simp) (by simp)
theorem vJ.kept(h:vJ W B v b xs)(c:az W a N):vJ a B v b xs :=
 ⟨h.len,h.row.kept c (by cases v.ownBlock<;>simp),λi g=>(h.at_ i g).kept c,h.pair,λm f=>⟨(h.Bz m f).1,oc (h.Bz m f).2 c.size⟩⟩
theorem vJ.more(h:vJ W B v b xs)(E:qm W r x)(n:∀q∈b,q.di<r.di)(C:B<=r.di)(s:r.di<W.heap.size)(g:aV d B 143 2 e (ah xs+1) (b.flatMap Bm++Bm r))(j:az W d v.ownBlock):vJ d B e (b++[r]) (xs++[x]):=by
 have lF:iJ [143] W d:=iJ.row j (dr.own h.row) (by simp);refine⟨by simp[h.len],by simpa using g,λi H=>?_,?_,λm f=>?_⟩
 ·by_cases c:i<ah xs
  ·rw[uM (by rw[h.len];exact c),uM c];exact(h.at_ i c).frame lF (by decide) (by decide) (by decide) (by decide) (by decide)
  ·have k:i=ah xs:=by simp at H;omega
   subst k;have u:(b++[r])[ah xs]'(by simp[h.len])=r:=by simp[<- h.len]
   have A:(xs++[x])[ah xs]=x:=by simp
   rw[u,A];exact E.frame lF (by decide) (by decide) (by decide) (by decide) (by decide)
 ·rw[List.pairwise_append];exact⟨h.pair,List.pairwise_singleton _ _,λy k z c=>by simp at c;subst c;exact n y k⟩
 ·rcases nR.1 f with f|f
  ·exact⟨(h.Bz m f).1,oc (h.Bz m f).2 j.size⟩
  ·simp at f;subst f;exact⟨C,oc s j.size⟩
end
theorem ag3(U:av)(b:bc)(a:aC):∀j u,[aJ b,a][j]?=S u->(U.alloc (.cells #[aJ b,a] 143)).cell? ((⟨U.heap.size,0,N⟩:aY).add j)=S u:=by
 intro j u d;have e:(⟨U.heap.size,0,N⟩:aY).add j=⟨U.heap.size,j,N⟩:=by
  unfold Addr.add;by_cases c:j=0
  ·subst c;simp
  ·simp[c]
 rw[e,(aA.new U #[aJ b,a] 143).cell j];simpa using d
def adB(W0:av)(bt aj bd:Z)(fs:L (L aL))(e:Ending)(w':av):Prop :=
 (∃f:jv,f.e≠0/\e=aH (aZ #[aM N,bY f]) /\
  (f=kj bt aj bd \/
  (kj bt aj bd=eM/\(ah fs<1\/8<ah fs)/\f=⟨31,0,[]⟩) \/
  (kj bt aj bd=eM/\1<=ah fs/\(ah fs)<=8/\∃i,∃h:i<ah fs,f=⟨32,i,[]⟩/\Bh fs[i]/\∀j (hj:j<i),∃a os,mU (fs[j]'(by omega)) a os))) \/
 (kj bt aj bd=eM/\1<=ah fs/\(ah fs)<=8/\∃(xs:L (bc×L aF)) (hx:ah xs=ah fs) (P:M) (vm:aC) (bl gl:L M),(∀i (h:i<ah fs),mU fs[i] (xs[i]'(by omega)).1 (xs[i]'(by omega)).2)/\e=aH (aZ #[bO P,bY eM])/\ki W0 P bt aj bd vm bl gl (gh xs) w')
theorem mA{g:M}(h:aA w g G t):aA w.drew g G t:=h.drewN 1
theorem af1(bt aj bd:Z)(f:jv)(h:f=kj bt aj bd)(a:f.e=0):f=eM:=by
 subst h;unfold kj at a ⊢;by_cases c:¬fc bt
 ·rw[aD c]at a;cases a
 rw[ax c]at a ⊢;by_cases d:¬fc aj
 ·rw[aD d]at a;cases a
 rw[ax d]at a ⊢;by_cases e:¬fc bd
 ·rw[aD e]at a;cases a
 rw[ax e]
theorem acT(bt aj bd:Z)(af:aR aY)(cf:M)(fs:L (L aL))(w:av)(hin:sE w af fs)(hsz:∀f∈fs,ah f<=1048576)(ht:eH w)(hn:ah fs<=1048576):
  Calls prog 35 #[ak af (ah fs) cf,.agg #[I J bt,I J aj,I J bd]] w λe c=>adB w bt aj bd fs e c/\az w c N:=by
 have d:=ae (λW=>ZV bt aj bd W);have c:(w.alloc (.cells #[I J bt,I J aj,I J bd] 31)).heap.size=w.heap.size+1:=js _;have O:=aG (w.alloc (.cells #[I J bt,I J aj,I J bd] 31)) (.cells #[I J 0,I J 0,aB ⟨#[]⟩] 27) N;have z:=ae (ya (aG w (.cells #[I J bt,I J aj,I J bd] 31) N) O);have s:=ae ((aA.new w #[I J bt,I J aj,I J bd] 31).grown O (by simp));have n:=ae (aA.new (w.alloc (.cells #[I J bt,I J aj,I J bd] 31)) #[I J 0,I J 0,aB ⟨#[]⟩] 27)
 rw[c]at n;have HI:=ae hin;have HT:=ae ht;clear c O hin ht;obtain⟨f,c⟩:∃f,f=kj bt aj bd:=⟨_,R⟩
 rw[<- c]at d;have vv:=ae c;clear c;unfold bY at d;go_enter func35,ntmps35;go_wp2_with fail;refine(d.o _).mono ?_;rintro e Q ⟨rfl,y⟩;have G2:=ae (ya z.o y);have Ue:=ae (s.o.grown y (by simp));have U:=ae (n.o.grown y (by simp));clear y d s n z;have z0:aq Q ⟨w.heap.size+1,0,N⟩=S (I J 0):=U.o.cell 0;have z1:aq Q ⟨w.heap.size+1,1,N⟩=S (I J 0):=U.o.cell 1;have z2:aq Q ⟨w.heap.size+1,2,N⟩=S (aB ⟨#[]⟩):=U.o.cell 2;have f0:=U.o.free 0;have f1:=U.o.free 1;have f2:=U.o.free 2;have ai1:=U.o.lt;have hnF:w.heap.size+1≠Q.heap.size:=by omega
 by_cases he:f.e=0
 case neg=>
  have E:(f.e==0)=F:=by simpa using he
  have n:=ae he;go_wp2;have d:=ae (aA.new Q #[I J f.e,I J f.at_,aB (bs f.name)] 27);have zR:=ae (aG Q (.cells #[I J f.e,I J f.at_,aB (bs f.name)] 27) N);have T:=ae (U.o.grown zR.o (by simp));have G3:=ae (ya G2.o zR.o);clear z0 z1 z2 f0 f1 f2;generalize H:Q.alloc (.cells #[I J f.e,I J f.at_,aB (bs f.name)] 27)=V at *;generalize K:Q.heap.size=X at *;have z0:aq V ⟨w.heap.size+1,0,N⟩=S (I J 0):=T.o.cell 0;have z1:aq V ⟨w.heap.size+1,1,N⟩=S (I J 0):=T.o.cell 1;have z2:aq V ⟨w.heap.size+1,2,N⟩=S (aB ⟨#[]⟩):=T.o.cell 2
  have f0:=T.o.free 0;have f1:=T.o.free 1;have f2:=T.o.free 2;have z:aq V ⟨X,0,N⟩=S (I J f.e):=d.o.cell 0;have B:aq V ⟨X,1,N⟩=S (I J f.at_):=d.o.cell 1;have C:aq V ⟨X,2,N⟩=S (aB (bs f.name)):=d.o.cell 2
  go_region_held3 (λc=>aq c ⟨X,0,N⟩=S (I J f.e)/\aq c ⟨X,1,N⟩=S (I J f.at_)/\aq c ⟨X,2,N⟩=S (aB (bs f.name)))
   (go_keep)
   (fail)
  go_wp2;have c:=mA (((T.o.set 0 (I J f.e)).set 1 (I J f.at_)).set 2 (aB (bs f.name)));have O:=c.cell 0;have s:=c.cell 1;have y:=c.cell 2;simp only[dt,dB,dC,bI,bB,bL]at O s y;refine bj (v:=aZ #[aM N,bY f]) ?_ R ⟨.inl ⟨f,n.o,R,.inl vv.o⟩,yf (iC G3.o _ (by omega) _ _ _)⟩;clear c z0 z1 z2 f0 f1 f2 z B C T d;generalize World.drew _=c at *;simp[results,results35,go_sem,bY,O,s,y]
 case pos=>
  have hok:f=eM:=af1 bt aj bd f vv.o he;subst hok;by_cases hc:1<=ah fs/\(ah fs)<=8
  case neg=>
   have d:=ae (show (ah fs<1\/8<ah fs) by omega);unfold eM;by_cases s:ah fs<1
   ·have d2:decide ((ah fs:Z)<1)=true:=by simp;omega
    go_wp2;have c:=(((U.o.set 0 (I J 31)).set 1 (I J 0)).set 2 (aB ⟨#[]⟩)).grown (aG _ (.cells #[I J 0,I J 0,aB (bs [])] 27) N) (by simp);have O:=c.cell 0;have s:=c.cell 1;have y:=c.cell 2;simp only[dt,dB,dC,bI,bB,bL]at O s y;refine bj (v:=aZ #[aM N,bY ⟨31,0,[]⟩]) ?_ R ⟨.inl ⟨⟨31,0,[]⟩,by decide,R,.inr (.inl ⟨vv.o.symm,d.o,R⟩)⟩,ya (iC G2.o _ (by omega) _ _ _) (aG _ _ N)⟩;clear c z0 z1 z2 f0 f1 f2
    generalize wX _ _=c at *;simp[results,results35,go_sem,bY,bs,O,s,y]
   ·have d2:decide ((ah fs:Z)<1)=F:=by simp;omega
    have d3:decide ((8:Z)<(ah fs:Z))=true:=by simp;omega
    go_wp2;have c:=(((U.o.set 0 (I J 31)).set 1 (I J 0)).set 2 (aB ⟨#[]⟩)).grown (aG _ (.cells #[I J 0,I J 0,aB (bs [])] 27) N) (by simp);have O:=c.cell 0;have s:=c.cell 1;have y:=c.cell 2;simp only[dt,dB,dC,bI,bB,bL]at O s y;refine bj (v:=aZ #[aM N,bY ⟨31,0,[]⟩]) ?_ R ⟨.inl ⟨⟨31,0,[]⟩,by decide,R,.inr (.inl ⟨vv.o.symm,d.o,R⟩)⟩,ya (iC G2.o _ (by omega) _ _ _) (aG _ _ N)⟩;clear c z0 z1 z2 f0 f1 f2
    generalize wX _ _=c at *;simp[results,results35,go_sem,bY,bs,O,s,y]
  case pos=>
   have d2:decide ((ah fs:Z)<1)=F:=by simp;omega
   have d3:decide ((8:Z)<(ah fs:Z))=F:=by simp;omega
   have zR:=ae (aG Q (.cells #[I J 0,I J 0,aB (bs [])] 27) N);have T:=ae (U.o.grown zR.o (by simp));have Uf:=ae (Ue.o.grown zR.o (by simp));have G3:=ae (ya G2.o zR.o);have c:(Q.alloc (.cells #[I J 0,I J 0,aB (bs [])] 27)).heap.size=Q.heap.size+1:=js _;have ahF:=ae c;clear c z0 z1 z2 f0 f1 f2;obtain⟨i0,hi,hz0,hz1,hz2⟩:=fG Tryz.Vi;unfold eM;go_wp2;generalize Q.alloc (.cells #[I J 0,I J 0,aB (bs [])] 27)=W3 at *
   go_loopw [7,32] (λc i wr=>∃(k:M) (B:L lF) (xs:L (bc×L aF)),k<=ah fs/\i=I J k/\(ah xs)=k/\(∀j (h:j<k) (s:j<ah fs) (y:j<ah xs),mU fs[j] xs[j].1 xs[j].2)/\vJ wr w.heap.size c B xs/\aA wr w.heap.size #[I J bt,I J aj,I J bd] 31/\aA wr (w.heap.size+1) #[I J 0,I J 0,aB ⟨#[]⟩] 27/\az w wr N) (λ_ i _=>ah fs-(aN i).toNat)
   case atStart=>exact⟨0,[],[],bG _,R,R,λj h=>by omega,⟨R,eO _ _ _ _,λi h=>by simp at h,List.Pairwise.nil,λm y=>by simp at y⟩,Uf.o,T.o,G3.o⟩
   case round=>
    obtain⟨k,B,xs,hk,rfl,E,s,d,n,c,y⟩:=hrel;obtain⟨al,cl,rfl⟩:=yi d.row;have Fp:=ae s;have Fo:=ae d;have kS:=ae n;have H:=ae c;have qP:=ae y;clear s d n c y;by_cases C:k<ah fs
    ·obtain⟨sg,off,hsg,c⟩:=HI.o.kept qP.o (by omega);have ck:=c k C;have cR:=ae (aa3 (bs fs[k]) wr (HT.o.grown qP.o) (by rw[nK];exact hsz _ (bN C)));rw[ou]at cR;have g1:(k:Z)<(ah fs:Z):=by omega
     generalize d:fs[k]=fk at *;have PS:=ae d;clear c d;subst hsg;go_wp2_with fail;refine cR.o.mono ?_;rintro e K ⟨JX,h5⟩;rcases JX with ⟨v,a,z,q1,rfl,di,n,gs,rfl,q2,q3,q4,q5⟩|⟨q1,rfl⟩
     ·have Ch:=ae (show qm K ⟨a,di,ah z,n⟩ (a,z)from ⟨R,R,gs,q3,q4,q5⟩);have Xi:=ae q1;have Ze:di<K.heap.size:=by
       obtain⟨O,c,-⟩:=q3.row;exact c.lt
      have hsz5:=h5.size;have Pg:=ae (Fo.o.kept h5);have Ph:=ae (kS.o.grown h5 (by simp));have Y:=ae (H.o.grown h5 (by simp));have Ax:=ae (ya qP.o h5);have zV:=ae (λ(q:lF) (c:q∈B)=>show q.di<(⟨a,di,ah z,n⟩:lF).di from oc (Fo.o.Bz q c).2 q2);have hwl:=qP.o.size;clear q1 q3 h5 cR ck Fo kS H qP;have O:=ae (aG K (.cells #[aJ a,ak (S ⟨di,0,N⟩) (ah z) n] 143) N);have s:(K.alloc (.cells #[aJ a,ak (S ⟨di,0,N⟩) (ah z) n] 143)).heap.size=K.heap.size+1:=js _;have A2:=ae (aG (K.alloc (.cells #[aJ a,ak (S ⟨di,0,N⟩) (ah z) n] 143)) (.cells #[aJ a,ak (S ⟨di,0,N⟩) (ah z) n] 143) N)
      have CN:=ae (ag3 (K.alloc (.cells #[aJ a,ak (S ⟨di,0,N⟩) (ah z) n] 143)) a (ak (S ⟨di,0,N⟩) (ah z) n));rw[s]at CN;have JE:=ae (Pg.o.kept (ya O.o A2.o));have uo:=ae JE.o.row;have hcl:=kF uo.o;have y:w.heap.size<=((K.alloc (.cells #[aJ a,ak (S ⟨di,0,N⟩) (ah z) n] 143)).alloc (.cells #[aJ a,ak (S ⟨di,0,N⟩) (ah z) n] 143)).heap.size:=fV Ax.o.size (ya O.o A2.o).size;have CV:=ae y;rw[E]at uo hcl;have STEP:=ae (λ(v':aC) (w3:av) (d:aV w3 w.heap.size 143 2 v' (k+1) (B.flatMap Bm++[aJ a,ak (S ⟨di,0,N⟩) (ah z) n])) (c:((K.alloc (.cells #[aJ a,ak (S ⟨di,0,N⟩) (ah z) n] 143)).alloc (.cells #[aJ a,ak (S ⟨di,0,N⟩) (ah z) n] 143)).grownBy w3 (eW (ak al k cl)))=>show vJ w3 w.heap.size v' (B++[⟨a,di,ah z,n⟩]) (xs++[(a,z)])/\aA w3 w.heap.size #[I J bt,I J aj,I J bd] 31/\aA w3 (w.heap.size+1) #[I J 0,I J 0,aB ⟨#[]⟩] 27/\az w w3 N by
       have A:=ya O.o A2.o;have RT:=dr.own uo.o;refine⟨?_,fh (Ph.o.grown A (by simp)) c RT (by decide),fh (Y.o.grown A (by simp)) c RT (by decide),eh (ya Ax.o A) c (λb e=>(uo.o.lt b e).1)⟩;refine vJ.more JE.o (Ch.o.kept A) zV.o (show w.heap.size<=di by omega) (show di<_ from oc Ze A.size) (by rw[E];exact d) (by rw[E];exact c))
      clear s y Pg Ph Y Ax Ch zV JE;have vq:=ae (show ∀j (h:j<k+1) (s:j<ah fs) (y:j<(xs++[(a,z)]).length),mU fs[j] (xs++[(a,z)])[j].1 (xs++[(a,z)])[j].2 from λj h s y=>by
       by_cases Y:j<k
       ·rw[uM (by omega)];exact Fp.o j Y s (by omega)
       ·obtain rfl:j=k:=by omega
        have e1:(xs++[(a,z)])[j]=(a,z):=by simp[<- E]
        rw[e1,PS.o];exact Xi.o)
      rw[E];go_wp2_with (at_builtin;refine Dg _ R _ _ 140 rfl w.heap.size 143 i0 (.agg #[aJ F,ak N 0 0]) 2 32 underlying140 hi hz0 hz1 hz2 R (by decide) _ _ _ R uo.o ⟨K.heap.size+1,0,N⟩ 1 1 [aJ a,ak (S ⟨di,0,N⟩) (ah z) n] rfl rfl CN.o (by intro u s;simp at s;rcases s with rfl|rfl<;>rfl) (by unfold cu;omega) (by omega) CV.o ?_;intro v' w3 d c s;obtain⟨gR,cv',rfl⟩:=yi d;obtain⟨y,Y,r3,r4⟩:=STEP.o _ _ d c;have Q1:=ae y;have Q2:=ae Y;have Q3:=ae r3;have Q4:=ae r4;clear c d y Y r3 r4 s)
      go_roundw
      case rel=>exact⟨k+1,_,_,by omega,by go_num,by simp[E],vq.o,Q1.o,Q2.o,Q3.o,Q4.o⟩
      case measure=>simp[aN];omega
     ·have d:=ae q1;have Y:=ae (H.o.grown h5 (by simp));have nP:=ae (ya qP.o h5);have aiR:=Y.o.lt;have Za:w.heap.size+1≠K.heap.size:=by omega
      have z0:aq K ⟨w.heap.size+1,0,N⟩=S (I J 0):=Y.o.cell 0;have z1:aq K ⟨w.heap.size+1,1,N⟩=S (I J 0):=Y.o.cell 1;have z2:aq K ⟨w.heap.size+1,2,N⟩=S (aB ⟨#[]⟩):=Y.o.cell 2;have f0:=Y.o.free 0;have f1:=Y.o.free 1;have f2:=Y.o.free 2;clear q1 h5 cR ck;go_wp2;have c:=(((Y.o.set 0 (I J 32)).set 1 (I J k)).set 2 (aB ⟨#[]⟩)).grown (aG _ (.cells #[aJ F,ak N 0 0] 143) N) (by simp);have O:=c.cell 0;have s:=c.cell 1;have y:=c.cell 2;simp only[dt,dB,dC,bI,bB,bL]at O s y
      refine bj (v:=aZ #[aM N,bY ⟨32,k,[]⟩]) ?_ R ⟨.inl ⟨⟨32,k,[]⟩,(show (32:Z)≠0 by decide),R,.inr (.inr ⟨vv.o.symm,hc.1,hc.2,k,C,R,by rw[PS.o];exact d.o,λj Y=>⟨_,_,Fp.o j Y (by omega) (by omega)⟩⟩)⟩,ya (iC nP.o _ (by omega) _ _ _) (aG _ _ N)⟩;clear c z0 z1 z2 f0 f1 f2;generalize wX _ _=c at *;simp[results,results35,go_sem,bY,bs,O,s,y]
    ·obtain rfl:k=ah fs:=by omega
     have g3:decide ((ah fs:Z)<(ah fs:Z))=F:=by simp
     have n:aq wr ⟨w.heap.size,0,N⟩=S (I J bt):=kS.o.cell 0;have s:aq wr ⟨w.heap.size,1,N⟩=S (I J aj):=kS.o.cell 1;have y:aq wr ⟨w.heap.size,2,N⟩=S (I J bd):=kS.o.cell 2;have Ht:=ae (aG wr (.cells #[I J bt,I J aj,I J bd,ak N 0 0,aM N,I J 0,I J 0,I J 0] 151) N);have D7:=ae (aA.new wr #[I J bt,I J aj,I J bd,ak N 0 0,aM N,I J 0,I J 0,I J 0] 151);have hwr:=qP.o.size;have Vo:=ae (show ki w wr.heap.size bt aj bd (ak N 0 0) [] [] [] (wr.alloc (.cells #[I J bt,I J aj,I J bd,ak N 0 0,aM N,I J 0,I J 0,I J 0] 151))from ⟨D7.o,eO _ _ _ _,R,R,λi h=>by simp at h,λi h=>by simp at h,by simp,λo d=>by simp at d,hwr,λb c=>by simp at c,ya qP.o Ht.o,List.nodup_nil⟩)
     have z:=ae (Fo.o.kept Ht.o);have Uh:=ae (H.o.grown Ht.o (by simp));have LN:=ae (show ∀i (h:i<ah xs),xs[i].2.length<=6 from λi h=>by
      rcases Fp.o i (by omega) (by omega) h with ⟨-,-,e⟩|⟨-,-,d,e,c⟩
      ·rw[e];simp
      ·rw[c];simpa using e.1.2)
     rw[E];go_wp2;generalize wr.alloc (.cells #[I J bt,I J aj,I J bd,ak N 0 0,aM N,I J 0,I J 0,I J 0] 151)=W4 at *;generalize c:wr.heap.size=P at *;have ahD:=ae c;clear c n s y
     go_loopw [56] (λi c=>∃(k:M) (K gl:L M) (vm:aC),k<=ah xs/\i=I J k/\ki w P bt aj bd vm K gl (gh (xs.take k)) c/\(ah K)<=6*k/\(∀i (s:i<ah B) (h:i<ah xs),k<=i->qm c B[i] xs[i])/\aV c w.heap.size 143 2 (ak al (ah xs) cl) (ah xs) (B.flatMap Bm)/\aA c (w.heap.size+1) #[I J 0,I J 0,aB ⟨#[]⟩] 27) (λi _=>ah xs-(aN i).toNat)
     case atStart=>exact⟨0,[],[],_,bG _,R,Vo.o,bz _,λi s h _=>z.o.at_ i h,z.o.row,Uh.o⟩
     case round=>
      obtain⟨k,K,gl,vm,hk2,rfl,s,hbl,n,y,c⟩:=hrel;have PU:=ae s;have AY:=ae n;have d:=ae y;have H:=ae c;clear s n y c;by_cases C:k<ah xs
      ·have c:k<ah B:=by rw[z.o.len];exact C
       obtain⟨sg,hsg⟩:∃sg,al=S ⟨sg,0,N⟩:=by
        rcases d.o.2 with ⟨s,y⟩|⟨g,n,O,Y,_⟩
        ·simp at s;omega
        ·simp only[jQ]at Y;exact⟨g,Y.1⟩
       subst hsg;have q:=λj (Y:j<2)=>(d.o.cellAt (k*2+j) (by omega)).trans (yR Bm 2 (λ_=>rfl) B k j c Y)
       have m0:aq wr ⟨sg,k*2,N⟩=S (aJ B[k].a):=q 0 (by omega);have m1:aq wr ⟨sg,k*2+1,N⟩=S (.slice (S ⟨B[k].di,0,N⟩) B[k].n B[k].cap):=q 1 (by omega);clear q;obtain⟨e0,e1,gs,y,s⟩:=AY.o k c C (bz _);rw[e0]at m0;rw[e1]at m1;have HL:=LN.o k C;have uV:=ae (show gh (xs.take (k+1))=pK (gh (xs.take k)) xs[k] by
        unfold gh;rw[kI C,List.foldl_append];rfl)
       have Ul:=z.o.Bz _ (bN c);have NE:=ae (show ∀i (s:i<ah B),k+1<=i->B[i].di≠B[k].di from λi s hi=>by
        have:=(List.pairwise_iff_getElem.1 z.o.pair) k i c s (by omega)
        omega)
       generalize hr:B[k]=r at *;generalize hx:xs[k]=x at *;obtain⟨ra,Y,rn,N6⟩:=r;obtain⟨xa,xo⟩:=x;dsimp only at *;subst e0 e1;have n:=ae (aG wr (.cells #[aJ ra,ak (S ⟨Y,0,N⟩) (ah xo) N6] 143) N);have cT:=ae (abQ w P bt aj bd vm K gl (gh (xs.take k)) Y N6 gs ra xo _ (PU.o.kept n.o) (y.kept n.o) (by omega) Ul.1 s);have HM:=ae (y.kept n.o);clear y;have g1:(k:Z)<(ah xs:Z):=by omega
       have y:=s.2;unfold cu at y;unfold bO at cT;go_wp2_with fail;refine cT.o.mono ?_;rintro e W7 ⟨rfl,⟨QH,b7,g7,h7,pS⟩,f7⟩;have CH:=ae h7;obtain⟨O,hcb,-⟩:=HM.o.row;have Fq:=f7.frame hcb;have CY:=ae (show ∀i (s:i<ah B) (h:i<ah xs),k+1<=i->qm W7 B[i] xs[i]from λi s h hi=>((AY.o i s h (by omega)).kept n.o).Wr f7 (NE.o i s hi) (λg o d=>Fq.obj d (by decide) (by decide) (by decide) (by decide)) (by decide));have Xn:=ae (Fq.own (d.o.kept n.o (Decidable.em _)) (by decide));have Ui:=ae (Fq _ _ _ (H.o.grown n.o (by simp)) (by decide));clear h7 f7 cT m0 m1 Fq
       go_wp2
       go_roundw
       case rel=>exact⟨k+1,_,_,_,by omega,by go_num,by rw[uV.o];exact CH.o,by omega,CY.o,Xn.o,Ui.o⟩
       case measure=>simp[aN];omega
      ·obtain rfl:k=ah xs:=by omega
       have g3:decide ((ah xs:Z)<(ah xs:Z))=F:=by simp
       have z0:aq wr ⟨w.heap.size+1,0,N⟩=S (I J 0):=H.o.cell 0;have z1:aq wr ⟨w.heap.size+1,1,N⟩=S (I J 0):=H.o.cell 1;have z2:aq wr ⟨w.heap.size+1,2,N⟩=S (aB ⟨#[]⟩):=H.o.cell 2;have f0:=H.o.free 0;have f1:=H.o.free 1;have f2:=H.o.free 2;have hR:=H.o.lt;go_wp2;have c0:=H.o.set 0 (I J 0);have c1:=c0.set 1 (I J 0);have c:=c1.set 2 (aB ⟨#[]⟩);have Y:∀b,S (w.heap.size+1)=S b->w.heap.size<=b:=λb e=>by simp at e;omega
       have n:=(((PU.o.ty (bK _ _ 0 (I J 0)) (dr.aO H.o) Y (by decide) (by decide) (by decide) (by decide) (by decide) (by decide) (by decide)).ty (bK _ _ 1 (I J 0)) (dr.aO c0) Y (by decide) (by decide) (by decide) (by decide) (by decide) (by decide) (by decide)).ty (bK _ _ 2 (aB ⟨#[]⟩)) (dr.aO c1) Y (by decide) (by decide) (by decide) (by decide) (by decide) (by decide) (by decide))
       have O:=c.cell 0;have s:=c.cell 1;have y:=c.cell 2;simp only[dt,dB,dC,bI,bB,bL]at O s y;refine bj (v:=aZ #[bO P,bY eM]) ?_ R ⟨.inr ⟨vv.o.symm,hc.1,hc.2,xs,E,P,vm,K,gl,λi h=>Fp.o i h h (by omega),R,by have:=n;rw[nS]at this;exact this⟩,n.gr⟩;clear c n z0 z1 z2 f0 f1 f2 c0 c1;generalize aK _ _ _=c at *;simp[results,results35,go_sem,bY,eM,bO,bs,O,s,y]
