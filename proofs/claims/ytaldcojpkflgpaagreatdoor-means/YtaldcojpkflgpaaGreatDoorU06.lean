import Derived.Test.YtaldcojpkflgpaaGreatDoorU05
import Derived.Maps.AppendAt
import Derived.BigQuiet
import Derived.BigRegion
import Derived.Deep.RegionHeld3
import Derived.Deep.CutRange
set_option maxHeartbeats 16000000
set_option maxRecDepth 100000
open Go.Value renaming int->I,slice->ak,bool->aJ,string->aB,pointer->aM,tuple->aZ,ownBlock->eW
open Go.IntKind renaming i64->J
open Go renaming World->av,TypeId->dm,Value->aC,Addr->aY,maxLen->cu,wpAnyH_ready->ee,bodyPost_ret->bj
open _root_ renaming Nat->M,List->L,Option->aR,Int->Z,Array->dJ,ByteArray->bT,rfl->R,Bool->bc,UInt8->aL,beq_iff_eq->dQ,beq_eq_false_iff_ne->df,if_pos->aD,if_neg->ax,congrArg->jz
open Go.World renaming ownsRow->aV,grownBy->az,setCell->aK,ownsRow_nil->eO,cell?->aq,frozen?->dx,grownBy_alloc->aG
open List renaming length->ah,pairwise_iff_getElem->Nt,getElem_mem->bN,length_map->fZ,getElem?_map->jS,getElem?_eq_getElem->bW,getElem_map->wb,mem_map->mh,length_take->iO,drop_eq_getElem_cons->fv,set_cons_zero->dC,take_succ_eq_append_getElem->kI,getElem?_eq_none->uL,setIfInBounds_toArray->dt,set_cons_succ->dB,map_append->pH,getElem?_toArray->bI,getElem?_cons_succ->bB,drop_of_length_le->xD,append_nil->lG,take_of_length_le->mH,getD_eq_getElem?_getD->bQ,mem_of_getElem?->pI
open Option renaming none->N,some->S
open Nat renaming zero_le->bG,le_refl->bz,le_trans->fV
open Go.World.grownBy renaming trans->pE,refl->aW
open Go.Ending renaming returned->aH
open Bool renaming true->T,eq_iff_iff->vg,false->F,or_eq_false_iff->Up
open Go.AllReadyH renaming cons->dX,nil->eN
open Int renaming tdiv_eq_ediv_of_nonneg->sJ
open Go.IntWalk renaming i64_in->dD
namespace Go.Proofs.YtaldcojpkflgpaaGreatDoor
open Go.RowKit Go.Proofs.Tryz
variable {W U Y w:av} {size n k P b g C:M} {e t:dm} {v vm:aC} {xs O:L aC} {row:aR M} {bt aj bd no:Z} {D gl:L M} {cs:dJ aC} {s:bT} {ms:L aI} {st:gL}
def sF(D:L M)(s:gL):L aC:=[.pointer (iT D s.mod),I J s.au,I J s.off]
def eF(W:av)(D:L M)(b g:M)(m:aI):Prop :=
 ∃vm vs vt vf,aA W b #[bO g,vm,vs,vt,vf,I J m.data,I J m.bf] 155/\yr W g m.obj /\
  aV W 0 149 3 vm (ah m.means) (m.means.flatMap (sF D))/\aV W 0 4 1 vs (ah m.short) (m.short.map aJ) /\
  aV W 0 3 1 vt (ah m.text) (m.text.map (I .i64))/\aV W 0 3 1 vf (ah m.bw) (m.bw.map (I .i64)) /\
  (m.means=[]->vm=ak N 0 0)/\(m.short=[]->vs=ak N 0 0)
structure iP (U:av) (P:M) (bt aj bd:Z) (vm:aC) (D gl:L M) (ms:L aI) (st:gL) (no:Z) (W:av):Prop where
 aO:aA W P #[I J bt,I J aj,I J bd,vm,.pointer (iT D st.mod),I J st.au,I J st.off,I J no] 151
 row:W.ownsRow U.heap.size 147 1 vm D.length (D.map bO)
 iQ:gl.length=D.length
 gx:ms.length=D.length
 lv:∀i (h:i<D.length),eF W D D[i] (gl[i]'(by rw[iQ];exact h)) (ms[i]'(by rw[gx];exact h))
 few:D.length<=4096
 aE:∀m∈ms,m.obj.aE.length<=65535
 lo:U.heap.size<=P
 ud:∀b∈D,U.heap.size<=b
 gr:U.grownBy W N
 nd:D.Nodup
theorem zl{B:M}(h:aV W B e size v n xs):aV W 0 e size v n xs:=by
 refine⟨h.1,?_⟩;rcases h.2 with q|⟨g,a,c,d,_,r⟩
 ·exact .inl q
 ·exact .inr ⟨g,a,c,d,bG _,r⟩
theorem afj{l:L M}(h:l.Nodup){i j:M}(d:i<ah l)(f:j<ah l)(a:i≠j):l[i]≠l[j]:=by
 rcases Nat.lt_or_gt_of_ne a with q|q
 ·exact Nt.1 h i j d f q
 ·exact λc=>Nt.1 h j i f d q c.symm
section
variable{U W Y:av}{P:M}{bt aj bd:Z}{a:aC}{D gl:L M}{ms:L aI}{st:gL}{no:Z}{b g:M}{m:aI}
theorem eF.kept(h:eF W D b g m)(c:az W Y N):eF Y D b g m:=by
 obtain⟨q,r,u,x,d,f,i,j,l,o,p⟩:=h;have k:∀(v:aC),v.ownBlock=N\/v.ownBlock≠N:=λv=>Decidable.em _
 exact⟨q,r,u,x,d.grown c (by simp),f.kept c,i.kept c (k _),j.kept c (k _),l.kept c (k _),o.kept c (k _),p⟩
theorem eF.ty(h:eF W D b g m)(c:az W Y row)(d:dr W row e)(i:155≠e)(j:72≠e)(f:3≠e)(l:107≠e)(o:75≠e)(p:149≠e)(q:4≠e):eF Y D b g m:=by
 obtain⟨E,G,H,K,r,u,x,y,z,A,B⟩:=h;exact⟨E,G,H,K,fh r c d i,kU u c d j f l o,ec x c d p,ec y c d q,ec z c d f,ec A c d f,B⟩
theorem eF.other{d:dJ aC}(h:eF W D b g m)(c:az W Y (S k))(i:aA W k d 155)(f:b≠k):eF Y D b g m:=by
 obtain⟨x,y,z,A,j,l,o,p,q,r,u⟩:=h;have C:=dr.aO i;exact⟨x,y,z,A,j.grown c (by simp;omega),kU l c C (by decide) (by decide) (by decide) (by decide),ec o c C (by decide),ec p c C (by decide),ec q c C (by decide),ec r c C (by decide),u⟩
theorem iP.kept(h:iP U P bt aj bd a D gl ms st no W)(c:az W Y N):iP U P bt aj bd a D gl ms st no Y :=
 ⟨h.aO.grown c (by simp),h.row.kept c (by cases a.ownBlock<;>simp),h.iQ,h.gx,λi d=>(h.lv i d).kept c,h.few,h.aE,h.lo,h.ud,ya h.gr c,h.nd⟩
theorem iP.ty(h:iP U P bt aj bd a D gl ms st no W)(c:az W Y row)(j:dr W row e)(f:∀k,row=S k->U.heap.size<=k)(l:151≠e)(d:147≠e)(o:155≠e)(p:72≠e)(q:3≠e)(r:107≠e)(u:75≠e)(x:149≠e)(y:4≠e):iP U P bt aj bd a D gl ms st no Y :=
 ⟨fh h.aO c j l,ec h.row c j d,h.iQ,h.gx,λi d=>(h.lv i d).ty c j o p q r u x y,h.few,h.aE,h.lo,h.ud,eh h.gr c f,h.nd⟩
theorem iP.BL{m':aI}(h:iP U P bt aj bd a D gl ms st no W)(f:k<ah D)(l:k<ah ms)(d:az W Y (S D[k]))(r:eF Y D D[k] (gl[k]'(by rw[h.iQ];exact f)) m')(u:m'.obj=ms[k].obj):iP U P bt aj bd a D gl (ms.set k m') st no Y:=by
 obtain⟨z,A,B,E,p,-⟩:=h.lv k f;have C:=dr.aO p;refine⟨fh h.aO d C (by decide),ec h.row d C (by decide),h.iQ,by rw[List.length_set];exact h.gx,λi o=>?_,h.few,λx y=>?_,h.lo,h.ud,eh h.gr d (by intro j e;simp at e;subst e;exact h.ud _ (bN f)),h.nd⟩
 ·by_cases e:i=k
  ·subst e;rw[List.getElem_set_self];exact r
  ·rw[List.getElem_set_ne (by omega)];exact(h.lv i o).other d p (λc=>afj h.nd o f e c)
 ·rcases List.mem_or_eq_of_mem_set y with q|rfl
  ·exact h.aE x q
  ·rw[u];exact h.aE _ (bN l)
theorem iP.rM{c:aR aY}{f:M}(h:iP U P bt aj bd (ak c (ah D) f) D gl ms st no W):nF W c D (ms.map aI.obj):=by
 refine⟨λq=>?_,by rw[fZ,h.gx],λi j y=>?_,by rw[fZ,h.gx];exact h.few,λo p=>?_⟩
 ·obtain⟨u,r,-,-,-,l⟩:=vM h.row q;refine⟨u,0,r,λi d=>?_⟩;rw[Nat.zero_add,l i d,jS,bW d];rfl
 ·obtain⟨r,u,z,A,d,l,-⟩:=h.lv i j;refine⟨_,d.cell 0,?_⟩;rw[wb];exact l
 ·obtain⟨x,d,rfl⟩:=mh.1 p;exact h.aE x d
theorem iP.spot{st':gL}(h:iP U P bt aj bd a D gl ms st no W):iP U P bt aj bd a D gl ms st' no (((aK W ⟨P,4,N⟩ (.pointer (iT D st'.mod))).setCell ⟨P,5,N⟩ (I J st'.au)).setCell ⟨P,6,N⟩ (I J st'.off)):=by
 have c:=h.aO.set 4 (.pointer (iT D st'.mod));have d:=c.set 5 (I J st'.au);have f:=d.set 6 (I J st'.off);have l:=bK W P 4 (.pointer (iT D st'.mod));have o:=bK (aK W ⟨P,4,N⟩ (.pointer (iT D st'.mod))) P 5 (I J st'.au);have p:=bK ((aK W ⟨P,4,N⟩ (.pointer (iT D st'.mod))).setCell ⟨P,5,N⟩ (I J st'.au)) P 6 (I J st'.off);have G:=pE (pE l o) p;have C:=dr.aO h.aO;refine⟨?_,ec h.row G C (by decide),h.iQ,h.gx,λi q=>(h.lv i q).ty G C (by decide) (by decide) (by decide) (by decide) (by decide) (by decide) (by decide),h.few,h.aE,h.lo,h.ud,eh h.gr G (by intro j e;simp at e;have:=h.lo;omega),h.nd⟩
 simpa using f
theorem iP.LQ{no':Z}(h:iP U P bt aj bd a D gl ms st no W):iP U P bt aj bd a D gl ms st no' (aK W ⟨P,7,N⟩ (I J no')):=by
 have c:=h.aO.set 7 (I J no');have G:=bK W P 7 (I J no');have C:=dr.aO h.aO;refine⟨?_,ec h.row G C (by decide),h.iQ,h.gx,λi d=>(h.lv i d).ty G C (by decide) (by decide) (by decide) (by decide) (by decide) (by decide) (by decide),h.few,h.aE,h.lo,h.ud,eh h.gr G (by intro j e;simp at e;have:=h.lo;omega),h.nd⟩;simpa using c
end
def dV(o:aF):aI:=⟨o,[],[],[],[],0,0⟩
def sN(os:L aF)(i:M)(m:aI):aI:={m with means:=m.obj.aE.map (jW os i)}
def fH(os:L aF)(ms:L aI):L aI:=ms.mapIdx (sN os)
theorem ki.prog{os:L aF}(h:ki U P bt aj bd vm D gl os W):iP U P bt aj bd vm D gl (os.map dV) nX 0 W :=
 ⟨h.aO,h.row,h.iQ,by rw[fZ];exact h.gx,λi a=>by
  rw[wb];exact⟨_,_,_,_,h.lv i a,h.qL i a,eO _ _ _ _,eO _ _ _ _,eO _ _ _ _,eO _ _ _ _,λ_=>rfl,λ_=>rfl⟩,h.few,λm c=>by
  obtain⟨o,d,rfl⟩:=mh.1 c;exact h.aE o d,h.lo,h.ud,h.gr,h.nd⟩
theorem Gc{α:Type}(xs ys:L α)(k:M)(a:k<ah xs)(c:k<ah ys)(_:ah ys=ah xs):(ys.take k++xs.drop k).set k ys[k]=ys.take (k+1)++xs.drop (k+1):=by
 rw[List.set_append_right _ _ (by rw[iO];omega)];have e:k-(ys.take k).length=0:=by rw[iO];omega
 rw[e,fv a,dC,kI c,List.append_assoc,List.singleton_append]
theorem BN{α:Type}(xs ys:L α)(k:M)(a:k<ah xs)(_hy:k<=ah ys)(h:k<(ys.take k++xs.drop k).length):(ys.take k++xs.drop k)[k]=xs[k]:=by
 rw[List.getElem_append_right (by rw[iO];omega)];simp[iO,Nat.min_eq_left _hy]
structure fC (Wf U:av) (P:M) (bt aj bd:Z) (vm:aC) (D gl:L M) (ms:L aI) (st:gL) (no:Z) (W:av):Prop extends iP U P bt aj bd vm D gl ms st no W where
 kf:∀k cs,aA Wf k cs 27->aA W k cs 27
 le:U.heap.size<=Wf.heap.size
 sz:Wf.heap.size<=W.heap.size
section
variable{b U W Y:av}{P:M}{bt aj bd:Z}{a:aC}{D gl:L M}{ms:L aI}{st:gL}{no:Z}
theorem iP.f(h:iP U P bt aj bd a D gl ms st no W):fC W U P bt aj bd a D gl ms st no W:=⟨h,λ_ _ q=>q,h.gr.size,bz _⟩
theorem fC.kept(h:fC b U P bt aj bd a D gl ms st no W)(c:az W Y N):fC b U P bt aj bd a D gl ms st no Y :=
 ⟨h.toiP.kept c,λk cs q=>(h.kf k cs q).grown c (by simp),h.le,fV h.sz c.size⟩
theorem fC.BL{m':aI}(h:fC b U P bt aj bd a D gl ms st no W)(d:k<ah D)(f:k<ah ms)(c:az W Y (S D[k]))(i:eF Y D D[k] (gl[k]'(by rw[h.iQ];exact d)) m')(j:m'.obj=ms[k].obj):fC b U P bt aj bd a D gl (ms.set k m') st no Y:=by
 obtain⟨m,o,p,r,l,-⟩:=h.lv k d;exact⟨h.toiP.BL d f c i j,λk cs q=>fh (h.kf k cs q) c (dr.aO l) (by decide),h.le,fV h.sz c.size⟩
theorem fC.spot{st':gL}(h:fC b U P bt aj bd a D gl ms st no W):fC b U P bt aj bd a D gl ms st' no (((aK W ⟨P,4,N⟩ (.pointer (iT D st'.mod))).setCell ⟨P,5,N⟩ (I J st'.au)).setCell ⟨P,6,N⟩ (I J st'.off)):=by
 have G:=pE (pE (bK W P 4 (.pointer (iT D st'.mod))) (bK _ P 5 (I J st'.au))) (bK _ P 6 (I J st'.off));exact⟨h.toiP.spot,λk cs q=>fh (h.kf k cs q) G (dr.aO h.aO) (by decide),h.le,fV h.sz G.size⟩
theorem fC.LQ{no':Z}(h:fC b U P bt aj bd a D gl ms st no W):fC b U P bt aj bd a D gl ms st no' (aK W ⟨P,7,N⟩ (I J no')) :=
 ⟨h.toiP.LQ,λk cs q=>fh (h.kf k cs q) (bK W P 7 (I J no')) (dr.aO h.aO) (by decide),h.le,fV h.sz (bK W P 7 (I J no')).size⟩
end
def gT(t:eZ):aC:=.agg #[I J t.kind,I J t.pos,aB (bs t.text),I J t.n]
def yQ(s:bT)(g:M)(st:jF):dJ aC :=
 #[aB s,I J st.p,I J st.tok.kind,I J st.tok.pos,aB (bs st.tok.text),I J st.tok.n,I J st.fe,I J st.fa,aB ⟨#[]⟩,
  I J st.op.kind,I J st.op.pos,aB (bs st.op.text),I J st.op.n,I J st.au,aM (S ⟨g,0,N⟩)]
section
variable{B:M}{s:bT}{b g:M}{st:jF}{W Y:av}{o:aF}{j d vd a i vr:aC}
theorem aaZ(h:aV W B e size v n xs)(q:∀k,v.ownBlock=S k->Y.heap[k]?=W.heap[k]?):aV Y B e size v n xs:=by
 refine⟨h.1,?_⟩;rcases h.2 with r|⟨g,f,l,rfl,p,m,c⟩
 ·exact .inl r
 ·exact .inr ⟨g,f,l,R,p,(q g R).trans m,c⟩
end
def pV(W:av)(b:M)(l:L (M×aC)):av:=l.foldl (λw q=>aK w ⟨b,q.1,N⟩ q.2) W
def Gu(cs:dJ aC)(l:L (M×aC)):dJ aC:=l.foldl (λa q=>a.setIfInBounds q.1 q.2) cs
theorem vO(l:L (M×aC))(h:aA W b cs t):aA (pV W b l) b (Gu cs l) t:=by
 induction l generalizing W cs with
 |nil=>exact h
 |cons q l a=>exact a (h.set q.1 q.2)
theorem Ds(W:av)(b:M)(l:L (M×aC)):az W (pV W b l) (S b):=by
 induction l generalizing W with
 |nil=>exact aW _ _
 |cons q l a=>exact ya (bK W b q.1 q.2) (a _)
def xu(W Y:av):Prop:=∀k cs t,t≠218->t≠72->t≠3->t≠107->t≠75->aA W k cs t->aA Y k cs t
theorem xu.trans{a b c:av}(h:xu a b)(k:xu b c):xu a c:=λi cs t d f j l m o=>k i cs t d f j l m (h i cs t d f j l m o)
theorem xu.none(h:az W Y N):xu W Y:=λ_ _ _ _ _ _ _ _ a=>a.grown h (by simp)
theorem adw{e:Ending}{P:Prop}{x:bc}(h:aX e P)(k:x=T↔P):e=aH (aJ x):=by
 obtain⟨y,rfl,a⟩:=h
 have:y=x:=by rw[vg,a,k]
 rw[this]
theorem af2(c:aL):ic (c.toNat:Z)↔((97<=c.toNat/\c.toNat<=122)\/c.toNat=95\/(48<=c.toNat/\c.toNat<=57)):=by unfold ic;omega
theorem RA(c:aL)(w:av):
  Calls prog 218 #[.int .u8 c.toNat] w λe a=>e=aH (aJ (gA c))/\a=w:=by
 have h:=ae (RL (c.toNat:Z) w (by omega));have j:=ae (af2 c);by_cases f:c.toNat=46
 ·have N:=ae (show gA c=T from by unfold gA mb;simp[f]);have i:¬ic (c.toNat:Z):=by unfold ic;omega
  have d:((c.toNat:Z)==46)=T:=by simp;omega
  clear f;go_enter func218,ntmps218;go_wp2_with fail;refine h.o.mono ?_;rintro e l ⟨a,rfl⟩;obtain rfl:=adw (x:=F) a (by simp[i]);go_wp2;go_ret;exact⟨by rw[N.o];rfl,R⟩
 ·have N:=ae (show gA c=T↔ic (c.toNat:Z)from by
   rw[j.o];unfold gA mb;simp only[Bool.or_eq_true,Bool.and_eq_true,decide_eq_true_eq,dQ];omega)
  have d:((c.toNat:Z)==46)=F:=by simp;omega
  clear f;go_enter func218,ntmps218;go_wp2_with fail;refine h.o.mono ?_;rintro e l ⟨a,rfl⟩;rcases a.split with ⟨rfl,i⟩|⟨rfl,i⟩<;>clear a h
  ·have P:=ae (show gA c=F from by rw[<- Bool.not_eq_true,N.o];exact i.o);go_wp2;go_ret;exact⟨by rw[P.o];rfl,R⟩
  ·have P:=ae (show gA c=T from N.o.2 i.o);go_wp2;go_ret;exact⟨by rw[P.o];rfl,R⟩
theorem acX(c:aL)(w:av):
  Calls prog 220 #[.int .u8 c.toNat] w λe a=>e=aH (aJ (wQ c))/\a=w:=by
 have N:=ae (show wQ c=(c.toNat==44 ||c.toNat==58 ||c.toNat==40 ||c.toNat==41 ||c.toNat==43 ||c.toNat==45)from R);generalize wQ c=x at *;generalize a:c.toNat=n at *;clear a;have a:∀m:M,((n:Z)==(m:Z))=(n==m):=λm=>by rw[vg,dQ,dQ];omega
 have j:=a 44;have l:=a 58;have o:=a 40;have p:=a 41;have q:=a 43;have r:=a 45;clear a;simp only[Int.cast_ofNat_Int]at j l o p q r;generalize (n==44)=a at *;generalize (n==58)=d at *;generalize (n==40)=f at *;generalize (n==41)=h at *;generalize (n==43)=i at *;generalize (n==45)=u at *
 cases a
 ·cases d
  ·cases f
   ·cases h
    ·cases i
     ·go_enter func220,ntmps220;go_wp2;go_ret;exact⟨by rw[N.o];rfl,R⟩
     ·go_enter func220,ntmps220;go_wp2;go_ret;exact⟨by rw[N.o];rfl,R⟩
    ·go_enter func220,ntmps220;go_wp2;go_ret;exact⟨by rw[N.o];rfl,R⟩
   ·go_enter func220,ntmps220;go_wp2;go_ret;exact⟨by rw[N.o];rfl,R⟩
  ·go_enter func220,ntmps220;go_wp2;go_ret;exact⟨by rw[N.o];rfl,R⟩
 ·go_enter func220,ntmps220;go_wp2;go_ret;exact⟨by rw[N.o];rfl,R⟩
theorem adJ(c:aL)(w:av):
  Calls prog 216 #[.int .u8 c.toNat] w λe a=>e=aH (aJ (mb c))/\a=w:=by
 by_cases h:48<=c.toNat/\c.toNat<=57
 ·have e:mb c=T:=by unfold mb;simp[h]
  rw[e];exact Kn _ w (by omega) (by omega)
 ·have e:mb c=F:=by unfold mb;simp;omega
  rw[e];exact AL _ w (by omega)
def fM(s:bT)(b:M)(O:L aC)(p:M)(W:av):Prop:=aA W b (aB s::I J p::O).toArray 218
section
variable{s:bT}{b:M}{O:L aC}{p:M}{W Y:av}
theorem fM.c0(h:fM s b O p W):aq W ⟨b,0,N⟩=S (aB s):=by rw[aA.cell h];simp
theorem fM.c1(h:fM s b O p W):aq W ⟨b,1,N⟩=S (I J p):=by rw[aA.cell h];simp
theorem fM.f1(h:fM s b O p W):dx W ⟨b,1,N⟩=F:=aA.free h 1
theorem fM.drewN(h:fM s b O p W)(n:M):fM s b O p (W.drewN n):=aA.drewN h n
theorem fM.set(h:fM s b O p W)(q:M):fM s b O q (aK W ⟨b,1,N⟩ (I J q)):=by
 have:=aA.set h 1 (I J q)
 simpa[fM]using this
theorem fM.grown(h:fM s b O p W)(a:az W Y N):fM s b O p Y:=aA.grown h a (by simp)
theorem fM.step(h:fM s b O p W)(n:M)(q:M):fM s b O q ((W.drewN n).setCell ⟨b,1,N⟩ (I J q)):=(h.drewN n).set q
end
theorem Dn(h:az w W (S b))(n:M)(v:aC):az w ((W.drewN n).setCell ⟨b,1,N⟩ v) (S b) :=
 ya (ye h n) (bK _ _ _ _)
def zb(b:M)(W:av):M:=match aq W ⟨b,1,N⟩ with
 |some (.int _ i)=>i.toNat
 |_=>0
theorem fM.pos{p:M}(h:fM s b O p W):zb b W=p:=by unfold zb;rw[h.c1];simp
theorem F7(h:fM s b O k W)(n:M)(a:k<s.size):s.size-zb b ((W.drewN n).setCell ⟨b,1,N⟩ (I J ((k:Z)+1)))<s.size-zb b W:=by
 rw[h.pos,show ((k:Z)+1)=((k+1:M):Z)from by omega,(h.step n (k+1)).pos];omega
theorem GZ{f:aL->bc}{s:L aL}(h:k<ah s)(a:f s[k]=T):fP f s k=fP f s (k+1):=by
 unfold fP;rw[fv h,List.takeWhile_cons_of_pos a];simp;omega
theorem Kw{f:aL->bc}{s:L aL}(h:k<ah s)(a:f s[k]=F):fP f s k=k:=by
 unfold fP;rw[fv h,List.takeWhile_cons_of_neg (by simp[a])];simp
theorem Lk{f:aL->bc}{s:L aL}(h:ah s<=k):fP f s k=k:=by
 unfold fP;rw[List.drop_eq_nil_of_le h];simp
theorem Tl{f:aL->bc}{s:L aL}(h:k<=ah s):fP f s k<=ah s:=by
 unfold fP;have a:=(List.takeWhile_prefix f (l:=s.drop k)).length_le;rw[List.length_drop]at a;omega
theorem agA(f:aL->bc)(s:L aL)(k:M):k<=fP f s k:=by unfold fP;omega
theorem K5(s:bT)(k:M)(h:k<s.size):(sl s)[k]'(by rw[iD];exact h)=s[k]:=R
theorem Z0(s:bT)(b:M)(O:L aC)(p:M)(w:av)(h:fM s b O p w)(X:s.size<=1000)(y:p<=s.size):
  Calls prog 214 #[aM (S ⟨b,0,N⟩)] w λe a=>e=aH (aZ #[])/\fM s b O (fP na (sl s) p) a/\az w a (S b):=by
 have H:=ae h;clear h;have r:=ae (iD s);go_enter func214,ntmps214;go_wp2
 go_loopw [] (λwr=>∃k:M,k<=s.size/\fM s b O k wr/\fP na (sl s) k=fP na (sl s) p/\az w wr (S b)) (λwr=>s.size-zb b wr)
 case atStart=>exact⟨p,y,H.o,R,aW _ _⟩
 case round=>
  obtain⟨k,V,a,j,c⟩:=hrel;have A:=a.c0;have B:=a.c1;have G:=a.f1;have i:=ae a;have m:=ae j;have l:=ae c;have z:=ae a.pos;clear a j c;by_cases a:k<s.size
  ·have d:decide ((k:Z)<(s.size:Z))=T:=by simp;omega
   have K:(0:Z)<=(k:Z):=by omega
   have Q:(k:Z)<(s.size:Z):=by omega
   have q:=ae (show k<(sl s).length by rw[r.o];exact a);have c:=ae (K5 s k a);by_cases j:(s[k]'a).toNat=32
   ·have u:(((s[k]'a).toNat:Z)==32)=T:=by simp;omega
    have E:=ae (GZ (f:=na) q.o (by rw[c.o];unfold na;rw[j];rfl));clear j;go_wp2
    go_quiet (fail)
    go_wp2
    go_roundw
    case rel=>exact⟨k+1,by omega,i.o.step _ (k+1),by rw[<- E.o,m.o],Dn l.o _ _⟩
    case measure=>exact F7 i.o _ a
   ·by_cases o:(s[k]'a).toNat=9
    ·have u:(((s[k]'a).toNat:Z)==32)=F:=by simp;omega
     have x:(((s[k]'a).toNat:Z)==9)=T:=by simp;omega
     have E:=ae (GZ (f:=na) q.o (by rw[c.o];unfold na;rw[o];rfl));clear j o;go_wp2
     go_quiet (fail)
     go_wp2
     go_roundw
     case rel=>exact⟨k+1,by omega,i.o.step _ (k+1),by rw[<- E.o,m.o],Dn l.o _ _⟩
     case measure=>exact F7 i.o _ a
    ·have u:(((s[k]'a).toNat:Z)==32)=F:=by simp;omega
     have x:(((s[k]'a).toNat:Z)==9)=F:=by simp;omega
     have E:=ae (Kw (f:=na) q.o (by rw[c.o];unfold na;rw[Up,df,df];exact⟨j,o⟩));clear j o;go_wp2
     go_quiet (fail)
     go_wp2
     go_end0
     exact⟨R,by rw[<- m.o,E.o];exact i.o.drewN _,ye l.o _⟩
  ·have d:decide ((k:Z)<(s.size:Z))=F:=by simp;omega
   have E:=ae (Lk (f:=na) (s:=sl s) (k:=k) (by rw[r.o];omega));go_wp2
   go_quiet (fail)
   go_wp2
   go_end0
   exact⟨R,by rw[<- m.o,E.o];exact i.o.drewN _,ye l.o _⟩
theorem aa0(s:bT)(b:M)(O:L aC)(p:M)(w:av)(h:fM s b O p w)(K:s.size<=1000)(u:p<=s.size):
  Calls prog 219 #[aM (S ⟨b,0,N⟩)] w λe a=>e=aH (aZ #[])/\fM s b O (fP gA (sl s) p) a/\az w a (S b):=by
 have H:=ae h;clear h;have r:=ae (iD s);go_enter func219,ntmps219;go_wp2
 go_loopw [] (λwr=>∃k:M,k<=s.size/\fM s b O k wr/\fP gA (sl s) k=fP gA (sl s) p/\az w wr (S b)) (λwr=>s.size-zb b wr)
 case atStart=>exact⟨p,u,H.o,R,aW _ _⟩
 case round=>
  obtain⟨k,G,a,i,c⟩:=hrel;have x:=a.c0;have y:=a.c1;have z:=a.f1;have j:=ae a;have o:=ae i;have m:=ae c;clear a i c;by_cases a:k<s.size
  ·have d:decide ((k:Z)<(s.size:Z))=T:=by simp;omega
   have A:(0:Z)<=(k:Z):=by omega
   have B:(k:Z)<(s.size:Z):=by omega
   have q:=ae (show k<(sl s).length by rw[r.o];exact a);have i:=ae (K5 s k a);have l:=ae (λW=>RA (s[k]'a) W)
   cases c:gA (s[k]'a)
   ·have E:=ae (Kw (f:=gA) q.o (by rw[i.o];exact c));rw[c]at l;clear c;go_wp2
    go_quiet ((go_at_call 218;exact Calls.quiet_of_same (l.o _)))
    go_wp2
    go_end0
    exact⟨R,by rw[<- o.o,E.o];exact j.o.drewN _,ye m.o _⟩
   ·have E:=ae (GZ (f:=gA) q.o (by rw[i.o];exact c));rw[c]at l;clear c;go_wp2
    go_quiet ((go_at_call 218;exact Calls.quiet_of_same (l.o _)))
    go_wp2
    go_roundw
    case rel=>exact⟨k+1,by omega,j.o.step _ (k+1),by rw[<- E.o,o.o],Dn m.o _ _⟩
    case measure=>exact F7 j.o _ a
  ·have d:decide ((k:Z)<(s.size:Z))=F:=by simp;omega
   have E:=ae (Lk (f:=gA) (s:=sl s) (k:=k) (by rw[r.o];omega));go_wp2
   go_quiet (fail)
   go_wp2
   go_end0
   exact⟨R,by rw[<- o.o,E.o];exact j.o.drewN _,ye m.o _⟩
theorem adM(s:bT)(b:M)(O:L aC)(p:M)(w:av)(h:fM s b O p w)(_:s.size<=1000)(_:p<=s.size):
  Calls prog 215 #[aM (S ⟨b,0,N⟩)] w λe a=>e=aH (aJ (((sl s)[p]?.map ng).getD T))/\∃n,a=w.drewN n:=by
 have q:=h.c0;have r:=h.c1;clear h;have l:=ae (iD s);generalize a:(((sl s)[p]?.map ng).getD T)=x;have j:=ae a.symm;clear a;by_cases a:p<s.size
 ·have d:decide (s.size<=p)=F:=by simp;omega
  have u:(0:Z)<=(p:Z):=by omega
  have y:(p:Z)<(s.size:Z):=by omega
  have E:=ae (show x=ng (s[p]'a) by rw[j.o,bW (by rw[l.o];exact a)];rfl);clear j;by_cases f:(s[p]'a).toNat=10
  ·have m:(((s[p]'a).toNat:Z)==10)=T:=by simp;omega
   have c:=ae (show ng (s[p]'a)=T by unfold ng;rw[f];rfl);clear f;go_enter func215,ntmps215;go_wp2
   go_quiet (fail)
   go_wp2;go_ret;exact⟨by rw[E.o,c.o];rfl,_,R⟩
  ·by_cases i:(s[p]'a).toNat=35
   ·have m:(((s[p]'a).toNat:Z)==10)=F:=by simp;omega
    have o:(((s[p]'a).toNat:Z)==35)=T:=by simp;omega
    have c:=ae (show ng (s[p]'a)=T by unfold ng;rw[i];rfl);clear f i;go_enter func215,ntmps215;go_wp2
    go_quiet (fail)
    go_wp2;go_ret;exact⟨by rw[E.o,c.o];rfl,_,R⟩
   ·have m:(((s[p]'a).toNat:Z)==10)=F:=by simp;omega
    have o:(((s[p]'a).toNat:Z)==35)=F:=by simp;omega
    have c:=ae (show ng (s[p]'a)=F by unfold ng;rw[Up,df,df];exact⟨f,i⟩);clear f i;go_enter func215,ntmps215;go_wp2
    go_quiet (fail)
    go_wp2;go_ret;exact⟨by rw[E.o,c.o];rfl,_,R⟩
 ·have d:decide (s.size<=p)=T:=by simp;omega
  have E:=ae (show x=T by rw[j.o,uL (by rw[l.o];omega)];rfl);go_enter func215,ntmps215;go_wp2
  go_quiet (fail)
  go_wp2;go_ret;exact⟨by rw[E.o];rfl,_,R⟩
def BX(e pos:M):aC:=.agg #[I J e,I J pos,aB ⟨#[]⟩]
def xp(r:eZ×(M×M)×M):aC:=aZ #[gT r.1,BX r.2.1.1 r.2.1.2]
theorem AK{r:M}(h:az w W row)(a:w.heap.size<=r)(l:L (M×aC)):az w (pV W r l) row:=by
 have g:=Ds W r l;exact⟨g.os.trans h.os,g.tape.trans h.tape,g.output.trans h.output,fV h.size g.size,λi a c=>(g.block i (Nat.lt_of_lt_of_le a h.size) (by simp;omega)).trans (h.block i a c)⟩
theorem aA.BF{r:M}(h:aA W g cs t)(a:g≠r)(l:L (M×aC)):aA (pV W r l) g cs t :=
 h.grown (Ds W r l) (by simpa using a)
structure mC (s:bT) (b:M) (O:L aC) (w:av) (k:M) (W:av):Prop where
 t:aA W w.heap.size #[I J 0,I J 0,aB ⟨#[]⟩,I J 0] 216
 f:aA W (w.heap.size+1) #[I J 0,I J 0,aB ⟨#[]⟩] 27
 sc:fM s b O k W
 gr:w.grownBy W (S b)
theorem mC.drewN(h:mC s b O w k W)(n:M):mC s b O w k (W.drewN n) :=
 ⟨h.t.drewN n,h.f.drewN n,h.sc.drewN n,ye h.gr n⟩
theorem mC.step(h:mC s b O w k W)(a:b<w.heap.size)(q:M):mC s b O w q (aK W ⟨b,1,N⟩ (I J q)) :=
 ⟨h.t.grown (bK _ _ _ _) (by simp;omega),h.f.grown (bK _ _ _ _) (by simp;omega),h.sc.set q,ya h.gr (bK _ _ _ _)⟩
theorem mC.put(h:mC s b O w k W)(q:b<w.heap.size)(a c d f i j l:aC):
  let Y:=pV (pV W w.heap.size [(0,a),(1,c),(2,d),(3,f)]) (w.heap.size+1) [(0,i),(1,j),(2,l)]
  aA Y w.heap.size #[a,c,d,f] 216/\aA Y (w.heap.size+1) #[i,j,l] 27/\fM s b O k Y/\az w Y (S b):=by
 have o:=vO [(0,a),(1,c),(2,d),(3,f)] h.t;have p:=h.f.BF (r:=w.heap.size) (by omega) [(0,a),(1,c),(2,d),(3,f)];have m:=vO [(0,i),(1,j),(2,l)] p;simp only[Gu,List.foldl_cons,List.foldl_nil,dt,dB,dC]at o m;exact⟨o.BF (by omega) _,m,aA.BF (aA.BF h.sc (by omega) _) (by omega) _,AK (AK h.gr (by omega) _) (by omega) _⟩
theorem aA.Nh(h:aA W g cs t):aA W.drew g cs t:=h
theorem mC.begin{p:M}(h:fM s b O p w):mC s b O w p ((w.alloc (.cells #[I J 0,I J 0,aB ⟨#[]⟩,I J 0] 216)).alloc (.cells #[I J 0,I J 0,aB ⟨#[]⟩] 27)):=by
 refine⟨(aA.new w _ _).grown (aG _ _ N) (by simp),?_,(h.grown (aG _ _ N)).grown (aG _ _ N),ya (aG _ _ _) (aG _ _ _)⟩
 have:=aA.new (w.alloc (.cells #[I J 0,I J 0,aB ⟨#[]⟩,I J 0] 216)) #[I J 0,I J 0,aB ⟨#[]⟩] 27
 rw[show (w.alloc (.cells #[I J 0,I J 0,aB ⟨#[]⟩,I J 0] 216)).heap.size=w.heap.size+1 by simp]at this;exact this
theorem mC.call{d:M}(h:mC s b O w k W)(f:b<w.heap.size)(c:fM s b O d Y)(a:az W Y (S b)):mC s b O w d Y :=
 ⟨h.t.grown a (by simp;omega),h.f.grown a (by simp;omega),c,ya h.gr a⟩
theorem abA(s:bT)(b:M)(O:L aC)(p:M)(w:av)(h:fM s b O p w)(X:s.size<=1000)(z:p<=s.size):
  Calls prog 169 #[aM (S ⟨b,0,N⟩)] w λe a=>e=aH (aJ (xW (sl s) p).1)/\fM s b O (xW (sl s) p).2 a/\az w a (S b):=by
 have H:=ae h;clear h;have r:=ae (iD s);go_enter func169,ntmps169;go_wp2
 go_loopw [] (λwr=>∃k:M,k<=s.size/\fM s b O k wr/\fP uk (sl s) k=fP uk (sl s) p/\az w wr (S b)) (λwr=>s.size-zb b wr)
 case atStart=>exact⟨p,z,H.o,R,aW _ _⟩
 case round=>
  obtain⟨k,V,a,i,c⟩:=hrel;have A:=a.c0;have B:=a.c1;have G:=a.f1;have j:=ae a;have o:=ae i;have m:=ae c;clear a i c;by_cases c:k<s.size
  ·have d:decide ((k:Z)<(s.size:Z))=T:=by simp;omega
   have K:(0:Z)<=(k:Z):=by omega
   have Q:(k:Z)<(s.size:Z):=by omega
   have q:=ae (show k<(sl s).length by rw[r.o];exact c);have i:=ae (K5 s k c);by_cases l:(s[k]'c).toNat=10
   ·have u:(((s[k]'c).toNat:Z)==10)=T:=by simp;omega
    have x:(((s[k]'c).toNat:Z) != 10)=F:=by simp;omega
    have y:decide ((s.size:Z)<=(k:Z))=F:=by simp;omega
    have E:=ae (Kw (f:=uk) q.o (by rw[i.o];unfold uk;rw[l];rfl));clear l;go_wp2
    go_quiet (fail)
    go_wp2
    go_quiet (fail)
    go_wp2;go_ret;have a:xW (sl s) p=(T,k+1):=by unfold xW;rw[<- o.o,E.o,aD q.o]
    rw[a];exact⟨R,j.o.step _ (k+1),Dn m.o _ _⟩
   ·have u:(((s[k]'c).toNat:Z)==10)=F:=by simp;omega
    have x:(((s[k]'c).toNat:Z) != 10)=T:=by simp;omega
    have E:=ae (GZ (f:=uk) q.o (by rw[i.o];unfold uk;rw[df.2 l];rfl));clear l;go_wp2
    go_quiet (fail)
    go_wp2
    go_roundw
    case rel=>exact⟨k+1,by omega,j.o.step _ (k+1),by rw[<- E.o,o.o],Dn m.o _ _⟩
    case measure=>exact F7 j.o _ c
  ·have d:decide ((k:Z)<(s.size:Z))=F:=by simp;omega
   have y:decide ((s.size:Z)<=(k:Z))=T:=by simp;omega
   have E:=ae (Lk (f:=uk) (s:=sl s) (k:=k) (by rw[r.o];omega));go_wp2
   go_quiet (fail)
   go_wp2
   go_quiet (fail)
   go_wp2;go_ret;have a:xW (sl s) p=(F,k):=by unfold xW;rw[<- o.o,E.o,ax (by rw[r.o];exact c)]
   rw[a];exact⟨R,(j.o.drewN _).drewN _,ye (ye m.o _) _⟩
theorem SH(t:eZ)(c:L aL)(w:av):
  Calls prog 165 #[gT t,aB (bs c)] w λe a=>e=aH (aJ (t.is c))/\az w a N:=by
 obtain⟨a,j,f,n⟩:=t;have E:=ae (show eZ.is ⟨a,j,f,n⟩ c=(a==3&&f==c)from R);generalize eZ.is ⟨a,j,f,n⟩ c=x at *;unfold gT;simp only;have G:=ae (λo:Obj=>aG w o N)
 cases h:(a==3)
 ·have d:((a:Z)==3)=F:=by simp at h ⊢;omega
  rw[h]at E;clear h;go_enter func165,ntmps165;go_wp2;go_ret;exact⟨by rw[E.o];rfl,G.o _⟩
 ·have d:((a:Z)==3)=T:=by simp at h ⊢;omega
  rw[h]at E;clear h
  cases i:(f==c)
  ·have l:((bs f).toList==(bs c).toList)=F:=by rw[ik,ik];exact i
   rw[i]at E;clear i;go_enter func165,ntmps165;go_wp2;go_ret;exact⟨by rw[E.o];rfl,G.o _⟩
  ·have l:((bs f).toList==(bs c).toList)=T:=by rw[ik,ik];exact i
   rw[i]at E;clear i;go_enter func165,ntmps165;go_wp2;go_ret;exact⟨by rw[E.o];rfl,G.o _⟩
def Ty(g:M)(st:jF):L aC :=
 [I J st.tok.kind,I J st.tok.pos,aB (bs st.tok.text),I J st.tok.n,I J st.fe,I J st.fa,aB ⟨#[]⟩,
  I J st.op.kind,I J st.op.pos,aB (bs st.op.text),I J st.op.n,I J st.au,aM (S ⟨g,0,N⟩)]
theorem aA.Qt(W:av)(o:Obj)(cs:dJ aC)(t:dm):aA ((W.alloc o).alloc (.cells cs t)) (W.heap.size+1) cs t:=by
 have:=aA.new (W.alloc o) cs t
 rw[show (W.alloc o).heap.size=W.heap.size+1 by simp]at this;exact this
section
variable{P:Program}(w:av)
theorem vB{o:Oper}{a:Act}{K:Act->av->Prop}{Q:Exit->Act->av->Prop}(s x:Operand)(t:dm)
  (ho:o.op = .call {callee:=.builtin .append,args:=#[s,x],argTypes:=#[t,t]})
  (base:M) (e:dm) (i:TypeInfo) (z:aC) (size f:M) (ht:P.underlying t=S (.slice e)) (T:P.info? e=S i) (hz:i.zero=S z)
  (r:i.size=size) (H:i.bytes=f) (X:z.cells.size=size) (V:0<size)
  (v:aC) (n:M) (xs:L aC) (hs:a.eval s=v) (A:aV w base e size v n xs)
  (E:aY) (m c:M) (d:L aC) (hx:a.eval x=ak (S E) m c) (Z:ah d=m*size) (q:∀j u,d[j]?=S u->aq w (E.add j)=S u) (F:∀u∈d,u.oneCell'=true)
  (G:n+m<=cu) (l:(n+m)*f<=140737488355328) (p:base<=w.heap.size)
  (h:∀y B,aV B base e size y (n+m) (xs++d)->az w B v.ownBlock->(y=ak none 0 0↔v=ak none 0 0/\m=0)->(y.ownBlock=v.ownBlock\/y.ownBlock=S w.heap.size)->K (a.put o.dst y) B):o.wp P a w K Q:=by
 obtain⟨y,B,hr,I,J,N,R⟩:=run_append_own_at (P:=P) w base t o.type e i z size f ht T hz r H X V v n xs A E m c d Z q F G l p;unfold Oper.wp execOp;simp only[ho,resolve,invoke,builtin,Sem.run_bind,Sem.run_pure,Result.andThen_ok,List.map_toArray,List.map_cons,List.map_nil,hs,hx,hr];exact h y B I J N R
end
theorem vI{base:M}{o:M}{u:aC}(h:aV w base e size v n xs)(c:∀k,v.ownBlock=S k->g≠k):(aK w ⟨g,o,N⟩ u).ownsRow base e size v n xs :=
 aaZ h λk a=>Below.heap_setCell _ _ _ _ (λe=>c k a e.symm)
theorem Tryz.Vj:(Tryz.prog.info? 149).map (λi=>(i.zero,i.size,i.bytes))=S (S (.agg #[aM N,I J 0,I J 0]),3,24):=by kernel_rfl
structure qk (jb:av) (bi:M) (g:M) (v2 v3 v4:aC) (d b:Z) (sl:L aC) (j:M) (ui:aC) (wr:av):Prop where
 gr:jb.grownBy wr (S bi)
 aO:aA wr bi #[bO g,ui,v2,v3,v4,I J d,I J b] 155
 row:wr.ownsRow jb.heap.size 149 3 ui j sl
 nil:j=0->ui=ak N 0 0
section
variable{i V wr r:av}{e g j:M}{n p q m l:aC}{d b:Z}{sl a:L aC}
theorem qk.kept(h:qk i e g n p q d b sl j m wr)(c:az wr V N):qk i e g n p q d b sl j m V :=
 ⟨h.gr.trans (c.but _),h.aO.grown c (by simp),h.row.kept c (Decidable.em _),h.nil⟩
theorem qk.step(h:qk i e g n p q d b sl j m V)(f:aV r i.heap.size 149 3 l (j+1) (sl++a))(x:az V r m.ownBlock):qk i e g n p q d b (sl++a) (j+1) l (aK r ⟨e,1,N⟩ l):=by
 have o:=fh h.aO x (dr.own h.row) (by decide);have u:=bK r e 1 l;refine⟨(h.gr.andThen x (λk f=>.inl (h.row.lt k f).1)).trans u,?_,ec f u (dr.aO o) (by decide),λc=>by omega⟩;simpa using o.set 1 l
end
theorem qk.mod{a wr:av}{c:M}{f i j y:aC}{m:aI}{l:L gL}{d:dJ aC}(p:aA a c d 155)(o:yr a g m.obj)(q:aV a 0 4 1 f (ah m.short) (m.short.map aJ))(r:aV a 0 3 1 i (ah m.text) (m.text.map (I .i64)))(u:aV a 0 3 1 j (ah m.bw) (m.bw.map (I .i64)))(x:m.short=[]->f=ak N 0 0)(h:qk a c g f i j m.data m.bf (l.flatMap (sF D)) (ah l) y wr):eF wr D c g {m with means:=l}:=by
 have C:=dr.aO p;exact⟨_,_,_,_,h.aO,kU o h.gr C (by decide) (by decide) (by decide) (by decide),zl h.row,ec q h.gr C (by decide),ec r h.gr C (by decide),ec u h.gr C (by decide),λe=>h.nil (by simp only at e;rw[e];rfl),x⟩
def ml:L aL:=[95,115,116,97,114,116]
def mI(os:L aF):jv :=
 if (xH os).e≠0 then xH os
 else if (wh os).e≠0 then wh os
 else if (gX os ml).au≠1/\(gX os ml).au≠2 then ⟨35,0,[]⟩
 else wh os
theorem iP.rK(h:iP U P bt aj bd vm D gl ms st no W)(f:aA W C cs 27)(d:U.heap.size<=C)(a b c:aC):iP U P bt aj bd vm D gl ms st no (((aK W ⟨C,0,N⟩ a).setCell ⟨C,1,N⟩ b).setCell ⟨C,2,N⟩ c) :=
 h.ty (pE (pE (bK _ C 0 a) (bK _ C 1 b)) (bK _ C 2 c)) (dr.aO f) (λk e=>by simp at e;subst e;exact d) (by decide) (by decide) (by decide) (by decide) (by decide) (by decide) (by decide) (by decide) (by decide)
theorem fC.rK{d:av}(h:fC d U P bt aj bd vm D gl ms st no W)(i:aA W C cs 27)(f:d.heap.size<=C)(a b c:aC):fC d U P bt aj bd vm D gl ms st no (((aK W ⟨C,0,N⟩ a).setCell ⟨C,1,N⟩ b).setCell ⟨C,2,N⟩ c):=by
 have G:=pE (pE (bK W C 0 a) (bK _ C 1 b)) (bK _ C 2 c);exact⟨h.toiP.rK i (fV h.le f) a b c,λk cs q=>(h.kf k cs q).grown G (by have:=q.lt;simp;omega),h.le,fV h.sz G.size⟩
theorem F4{L:M}(f:aA W C cs t)(d:C≠L)(a b c:aC):aA (((aK W ⟨L,0,N⟩ a).setCell ⟨L,1,N⟩ b).setCell ⟨L,2,N⟩ c) C cs t :=
 f.grown (pE (pE (bK _ L 0 a) (bK _ L 1 b)) (bK _ L 2 c)) (by simpa using d)
theorem ab9(Wf U:av)(P:M)(bt aj bd:Z)(vm:aC)(D gl:L M)(os:L aF)(W:av)(h:fC Wf U P bt aj bd vm D gl (os.map dV) nX 0 W):
  Calls prog 36 #[bO P] W λe Y=>e=aH (bY (mI os))/\fC Wf U P bt aj bd vm D gl (fH os (os.map dV)) (gX os ml) 0 Y:=by
 obtain⟨i0,hi,hz0,hz1,hz2⟩:=info_parts Tryz.Vj;obtain⟨am,cm,rfl⟩:=yi h.row;have a:=aG W (.cells #[I J 0,I J 0,aB ⟨#[]⟩] 27) N;have iu:=ae (aA.new W #[I J 0,I J 0,aB ⟨#[]⟩] 27);have H0:=ae (h.kept a);have c3:(W.alloc (.cells #[I J 0,I J 0,aB ⟨#[]⟩] 27)).cell? ⟨P,3,N⟩=some (ak am (ah D) cm):=H0.o.aO.cell 3;have hbl:=h.few;have HRW:=ae h.sz;have LO:=ae (show (ah os)=(ah D) by have:=h.gx;rwa [fZ]at this);clear h a;unfold bO;go_enter func36,ntmps36;go_wp2;generalize W.alloc (.cells #[I J 0,I J 0,aB ⟨#[]⟩] 27)=W1 at *
 generalize W.heap.size=C at *;have zw:=ae (show (fH os (os.map dV)).length=(os.map dV).length by simp[fH]);have sQ:=ae (show ∀k,k<=ah os->((fH os (os.map dV)).take k++(os.map dV).drop k).map aI.obj=os from λk hk=>by
  rw[pH,List.map_take,List.map_drop];have H:(fH os (os.map dV)).map aI.obj=os:=by
   apply List.ext_getElem
   ·simp[fH]
   ·intro i G r;simp[fH,sN,dV]
  have G:(os.map dV).map aI.obj=os:=by
   rw[List.map_map];exact List.map_id _
  rw[H,G,List.take_append_drop])
 go_loopw [14] (λi wr=>∃k:M,k<=ah D/\i=I J k/\fC Wf U P bt aj bd (ak am (ah D) cm) D gl ((fH os (os.map dV)).take k++(os.map dV).drop k) nX 0 wr/\aA wr C #[I J 0,I J 0,aB ⟨#[]⟩] 27) (λi _=>ah D-(intOf i).toNat)
 case atStart=>exact⟨0,bG _,R,by simpa using H0.o,iu.o⟩
 case round=>
  obtain⟨k,hk,rfl,d,a⟩:=hrel;have HP:=ae d;have HB:=ae a;clear d a H0 iu;by_cases z:k<ah D
  ·have hko:k<ah os:=by rw[LO.o];exact z
   obtain⟨sg,off,hsg,d⟩:=HP.o.rM.kD (by omega);have ck:=d k z;subst hsg;have X:k<ah gl:=by rw[HP.o.iQ];exact z
   have HM:eF wr D D[k] (gl[k]'X) _:=HP.o.lv k z;have x:((fH os (os.map dV)).take k++(os.map dV).drop k)[k]'(by rw[HP.o.gx];exact z)=dV os[k]:=by
    rw[BN _ _ k (by simpa using hko) (by rw[zw.o,fZ];omega) (by rw[HP.o.gx];exact z),wb]
   rw[x]at HM;obtain⟨v1,v2,v3,v4,a,f,-,r,q4,q5,q6,q7⟩:=HM;have e6:=q6 R;subst e6;obtain⟨at_,ct,af,cf,ad,cd,aa,ca,gP,cs,ar,cr,Q,-,-,-,-,p5,-⟩:=f.open;have S:=ae (gH.dh p5);have o:=Q.cell 5;simp only[bI,bB,bL]at o;have k0:aq wr ⟨D[k],0,N⟩=some (bO (gl[k]'X)):=a.cell 0;unfold bO at k0;have xJ:=ae (show qk wr D[k] (gl[k]'X) v2 v3 v4 0 0 [] 0 (ak N 0 0) wr from ⟨aW _ _,a,eO _ _ _ _,λ_=>rfl⟩);have C7:=ae (λ(l:L gL) (ui:aC) (p:av) (hm:qk wr D[k] (gl[k]'X) v2 v3 v4 0 0 (l.flatMap (sF D)) (ah l) ui p)=>show fC Wf U P bt aj bd (ak (some ⟨sg,off,N⟩) (ah D) cm) D gl (((fH os (os.map dV)).take k++(os.map dV).drop k).set k {dV os[k]with means:=l}) nX 0 p from
    HP.o.BL z (by rw[HP.o.gx];exact z) hm.gr (qk.mod (m:=dV os[k]) a f r q4 q5 q7 hm) (by rw[x]))
   have Xd:=ae (λ(l:L gL) (ui:aC) (p:av) (hm:qk wr D[k] (gl[k]'X) v2 v3 v4 0 0 (l.flatMap (sF D)) (ah l) ui p)=>show aq p ⟨P,3,N⟩=some (ak (some ⟨sg,off,N⟩) (ah D) cm)/\nF p (some ⟨sg,off,N⟩) D os from by
    have A:=C7.o l ui p hm;refine⟨A.aO.cell 3,?_⟩;have B:=A.rM;have e:((((fH os (os.map dV)).take k++(os.map dV).drop k).set k {dV os[k]with means:=l}).map aI.obj)=os:=by
     rw[List.map_set,sQ.o k (by omega)];exact List.set_getElem_self hko
    rw[e]at B;exact B)
   have zu:=ae (λ(p:av) (d:az wr p (some D[k]))=>show gH p gP (dV os[k]).obj.aE from gH.dh (ec p5 d (dr.aO a) (by decide)));have PB:=ae (λ(p:av) (d:az wr p (some D[k]))=>show aA p C #[I J 0,I J 0,aB ⟨#[]⟩] 27 from fh HB.o d (dr.aO a) (by decide));have hys:os[k].aE.length<=65535:=HP.o.rM.aE _ (by rw[sQ.o k (by omega)];exact bN hko);have FIN:=ae (show ((fH os (os.map dV)).take k++(os.map dV).drop k).set k {dV os[k]with means:=os[k].aE.map (jW os k)}=(fH os (os.map dV)).take (k+1)++(os.map dV).drop (k+1) by
    rw[<- Gc _ _ k (by simpa using hko) (by rw[zw.o,fZ];exact hko) zw.o]
    congr 1
    simp[fH,sN,dV])
   have hbk:D[k]<wr.heap.size:=a.lt;have H:(dV os[k]).obj.aE=os[k].aE:=R;rw[H]at zu S o;generalize hY:os[k].aE=G at *;have g1:(k:Z)<(ah D:Z):=by omega
   clear d a f r q4 q5 q6 q7 Q p5 HP HB x hY H zw sQ;generalize (gl[k]'X)=gk at *;generalize a:D[k]=bk at *;have kS:=ae a;clear a;go_wp2;generalize wr=jb at *;clear ck k0 o
   go_loopw [26] (λi p=>∃(j:M) (ui:aC),j<=ah G/\i=I J j/\qk jb bk gk v2 v3 v4 0 0 (((G.take j).map (jW os k)).flatMap (sF D)) j ui p) (λi _=>ah G-(intOf i).toNat)
   case atStart=>exact⟨0,_,bG _,R,xJ.o⟩
   case round=>
    obtain⟨j,ui,hj,rfl,a⟩:=hrel;have HM:=ae a;clear a xJ;obtain⟨eR,cv,rfl⟩:=yi HM.o.row;have sK:((G.take j).map (jW os k)).length=j:=by rw[fZ,iO];omega
    obtain⟨J4,J5⟩:=Xd.o ((G.take j).map (jW os k)) _ wr (by rw[sK];exact HM.o);by_cases hlt2:j<ah G
    ·obtain⟨sg2,Ce,hgs,d⟩:=zu.o wr HM.o.gr (by omega);subst Ce;obtain⟨a,f,Q,r⟩:=d j hlt2;clear d;have g2:(j:Z)<(ah G:Z):=by omega
     have H:=ae (show (((G.take (j+1)).map (jW os k)).flatMap (sF D))=(((G.take j).map (jW os k)).flatMap (sF D))++sF D (jW os k G[j]) by
      rw[kI hlt2,pH,List.flatMap_append];simp)
     generalize G[j]=y at *;generalize d:((G.take j).map (jW os k)).flatMap (sF D)=sl at *;have iM:=ae (aG wr (.cells #[aB (bs y.name),I J y.bind,I J y.au,I J y.off] 107) N);have o:=ae (abD P (some ⟨sg,off,N⟩) cm D os k z y _ (yd J4 iM.o) (J5.kept iM.o));rw[kS.o]at o;have Jd:=ae (HM.o.kept iM.o);clear J4 J5 d;unfold uh at o;go_wp2_with fail;refine o.o.mono ?_;rintro e W5 ⟨rfl,d⟩;have x:=ae (Jd.o.kept d);clear d o a f Q r;unfold jC;generalize jW os k y=d at *;obtain⟨nm,o,f⟩:=d;have Yl:=ae (show (((G.take (j+1)).map (jW os k)).flatMap (sF D))=sl++[.pointer (iT D nm),I J o,I J f]from H.o)
     clear H;dsimp only;generalize r:iT D nm=q at *;clear r;have a:=aG W5 (.cells #[.pointer q,I J o,I J f] 149) N;have r:=ae (aA.new W5 #[.pointer q,I J o,I J f] 149);have oX:=ae (x.o.kept a);have Xa:=ae (show ∀b,eW (ak eR j cv)=some b->b≠W5.heap.size from λb e c=>by
      have:=(x.o.row.lt b e).2
      omega)
     clear a x;go_wp2;generalize W5.alloc (.cells #[.pointer q,I J o,I J f] 149)=H at *;generalize W5.heap.size=a at *;have s0:aq H ⟨a,0,N⟩=some (.pointer q):=r.o.cell 0;have s1:aq H ⟨a,1,N⟩=some (I J o):=r.o.cell 1;have s2:aq H ⟨a,2,N⟩=some (I J f):=r.o.cell 2;have m1:aq H ⟨bk,1,N⟩=some (ak eR j cv):=oX.o.aO.cell 1;have A7:=yf (aG H (.cells #[.pointer q,I J o,I J f] 149) N);have x:=ae (r.o.grown A7 (by simp));have Q:=ae (oX.o.kept A7);have hA:=ae Q.o.row;have n1:(H.alloc (.cells #[.pointer q,I J o,I J f] 149)).drew.cell? ⟨bk,1,N⟩=some (ak eR j cv):=Q.o.aO.cell 1
     have hN:Hd (∀j u,[aM q,I J o,I J f][j]?=some u->(H.alloc (.cells #[.pointer q,I J o,I J f] 149)).drew.cell? ((⟨H.heap.size,0,N⟩:aY).add j)=some u):=World.news_of_block (heap_alloc_new H (.cells #[.pointer q,I J o,I J f] 149));have od:Hd (∀u∈[aM q,I J o,I J f],u.oneCell'=T):=by intro u hu;simp at hu;rcases hu with rfl|rfl|rfl<;>rfl
     have h63:Hd (j+1<=cu):=by show _<=_;unfold cu;omega
     have hby:Hd ((j+1)*24<=140737488355328):=by show _<=_;omega
     have hbs:Hd (jb.heap.size<=(H.alloc (.cells #[.pointer q,I J o,I J f] 149)).drew.heap.size):=Q.o.gr.size;have kL:Hd ((H.alloc (.cells #[.pointer q,I J o,I J f] 149)).drew.cell? ⟨a,0,N⟩=some (.pointer q)/\(H.alloc (.cells #[.pointer q,I J o,I J f] 149)).drew.cell? ⟨a,1,N⟩=some (I J o)/\(H.alloc (.cells #[.pointer q,I J o,I J f] 149)).drew.cell? ⟨a,2,N⟩=some (I J f)):=⟨x.o.cell 0,x.o.cell 1,x.o.cell 2⟩
     have STEP:=ae (λ(v':aC) (w3:av) (r:aV w3 jb.heap.size 149 3 v' (j+1) (sl++[.pointer q,I J o,I J f])) (d:(H.alloc (.cells #[.pointer q,I J o,I J f] 149)).drew.grownBy w3 (eW (ak eR j cv)))=>show qk jb bk gk v2 v3 v4 0 0 (sl++[.pointer q,I J o,I J f]) (j+1) v' (aK w3 ⟨bk,1,N⟩ v')/\aA w3 a #[.pointer q,I J o,I J f] 149/\aA (aK w3 ⟨bk,1,N⟩ v') a #[.pointer q,I J o,I J f] 149/\aq w3 ⟨bk,1,N⟩=some (ak eR j cv)/\dx w3 ⟨bk,1,N⟩=F by
      have st:=Q.o.step r d;have b3:=fh Q.o.aO d (dr.own Q.o.row) (by decide);have l3:=x.o.grown d (λe=>Xa.o a e.symm R);exact⟨st,l3,fh l3 (bK w3 bk 1 v') (dr.aO b3) (by decide),b3.cell 1,b3.free 1⟩)
     clear A7 x Q oX r;refine wp_region_held_drew (S:=(λw'=>aq w' ⟨a,0,N⟩=some (.pointer q)/\aq w' ⟨a,1,N⟩=some (I J o)/\aq w' ⟨a,2,N⟩=some (I J f))) (by kernel_rfl) ⟨s0,s1,s2⟩ ?_;intro hS
     iterate 4
      refine qg (v:=?_) R (by kernel_rfl) (λ_ _ _ h=>h) hS ?_ ?_
      rotate_left
      ·intro w' x;obtain⟨x0,x1,x2⟩:=x;go_simp;with_reducible rfl
     refine dw (i:=5) (v:=?_) R ?_ hS ?_
     rotate_left
     ·intro w' x;obtain⟨x0,x1,x2⟩:=x;go_simp;with_reducible rfl
     refine ee (rs:=[4,6]) (by kernel_rfl) (by simp) ?_;refine dX R (λK Q=>?_) (dX R (λK Q=>?_) eN);go_simp;refine Q.out _ _ hS (λhS2=>?_);clear Q K;refine ee (rs:=[6]) (by kernel_rfl) (by simp) ?_
     rotate_left
     go_simp;refine Q.out _ _ kL.o (λhS2=>?_);clear Q K;refine ee (rs:=[4]) (by kernel_rfl) (by simp) ?_
     all_goals
      refine dX R (λK Q=>?_) eN;go_simp;refine Q.out _ _ kL.o (λnC=>?_);clear Q K hS2 nC;refine ee (rs:=[7]) (by kernel_rfl) (by simp) ?_;refine dX R (λK Q=>?_) eN;rw[aD (by kernel_rfl)];refine vB _ (.tmp 38) (.tmp 40) 153 rfl jb.heap.size 149 i0 (.agg #[aM N,I J 0,I J 0]) 3 24 underlying153 hi hz0 hz1 hz2 R (by decide) (ak eR j cv) j sl (by kernel_rfl) hA.o ⟨H.heap.size,0,N⟩ 1 1 [.pointer q,I J o,I J f] (by kernel_rfl) R hN.o od.o h63.o hby.o hbs.o ?_;intro v' w3 r hgrow _ _
      obtain⟨gR,cv',rfl⟩:=yi r;obtain⟨t1,t2,t3,t4,t5⟩:=STEP.o _ _ r hgrow;have T1:=ae t1;have T3:Hd ((aK w3 ⟨bk,1,N⟩ (ak gR (j+1) cv')).cell? ⟨a,0,N⟩=some (.pointer q)/\(aK w3 ⟨bk,1,N⟩ (ak gR (j+1) cv')).cell? ⟨a,1,N⟩=some (I J o)/\(aK w3 ⟨bk,1,N⟩ (ak gR (j+1) cv')).cell? ⟨a,2,N⟩=some (I J f)):=⟨t3.cell 0,t3.cell 1,t3.cell 2⟩
      refine Q.out _ _ ⟨t2.cell 0,t2.cell 1,t2.cell 2⟩ (λiS=>?_);clear Q K r hgrow t1 t2 t3;refine dw (i:=8) (v:=?_) R ?_ iS ?_
      rotate_left
      ·intro w' x;obtain⟨x0,x1,x2⟩:=x;go_simp;with_reducible rfl
      refine dw (i:=9) (v:=?_) R ?_ iS ?_
      rotate_left
      ·intro w' x;obtain⟨x0,x1,x2⟩:=x;go_simp;with_reducible rfl
      refine ee (rs:=[10]) (by kernel_rfl) (by simp) ?_;refine dX R (λK Q=>?_) eN;go_simp;refine Q.out _ _ T3.o (λr=>?_);clear Q K;refine wpAnyH_done (by kernel_rfl) ?_ _
      try simp only[ql,List.getElem_toArray,List.getElem_cons_succ,List.getElem_cons_zero,dt,dB,dC]
      clear hA hN od h63 hby hbs m1 n1 t4 t5 iS r hS STEP kL T3;go_wp2
      go_roundw
      case rel=>exact⟨j+1,_,by omega,by go_num,by rw[Yl.o];exact T1.o⟩
      case measure=>simp[intOf];omega
    ·obtain rfl:j=ah G:=by omega
     have g3:decide ((ah G:Z)<(ah G:Z))=F:=by simp
     have d:=ae (C7.o ((G.take (ah G)).map (jW os k)) _ wr (by rw[sK];exact HM.o));have a:=ae (PB.o wr HM.o.gr);rw[List.take_length,FIN.o]at d;clear J4 J5 sK;go_wp2
     go_roundw
     case rel=>exact⟨k+1,by omega,by go_num,d.o,a.o⟩
     case measure=>simp[intOf];omega
  ·obtain rfl:k=ah D:=by omega
   have g3:decide ((ah D:Z)<(ah D:Z))=F:=by simp
   have hR:=HB.o.lt;have NL:=ae (show (fH os (os.map dV)).map aI.obj=os by
    have B:=sQ.o (ah os) (bz _)
    rwa [xD (by simp),lG,mH (by rw[zw.o,fZ];exact bz _)]at B)
   obtain⟨d,a⟩:fC Wf U P bt aj bd (ak am (ah D) cm) D gl (fH os (os.map dV)) nX 0 wr/\nF wr am D os:=by
    have A:=HP.o;have B:=A.rM;rw[sQ.o (ah D) (by rw[LO.o];exact bz _)]at B;rw[xD (by simp[LO.o]),lG,mH (by rw[zw.o,fZ,LO.o];exact bz _)]at A;exact⟨A,B⟩
   have o:=ae d;have p:=ae a;have hcap:=kF d.row;clear d a HP zw sQ;have f:=ae (Kf P am cm D os ml wr (o.o.aO.cell 3) p.o);have e0:bs ml=⟨#[95,115,116,97,114,116]⟩:=R;rw[e0]at f;unfold jC at f;go_wp2_with fail;refine f.o.mono ?_;rintro e W5 ⟨rfl,d⟩;have a:=ae (o.o.kept d);have G:=ae (HB.o.grown d (by simp));clear d f o HB p;have p:=ae (a.o.spot (st':=gX os ml));have H:=ae (show aA (((aK W5 ⟨P,4,N⟩ (.pointer (iT D (gX os ml).mod))).setCell ⟨P,5,N⟩ (I J (gX os ml).au)).setCell ⟨P,6,N⟩ (I J (gX os ml).off)) C #[I J 0,I J 0,aB ⟨#[]⟩] 27 from
    fh G.o (pE (pE (bK W5 P 4 _) (bK _ P 5 _)) (bK _ P 6 _)) (dr.aO a.o.aO) (by decide))
   have p4:aq W5 ⟨P,4,N⟩=some (.pointer (iT D nX.mod)):=a.o.aO.cell 4;have p5:aq W5 ⟨P,5,N⟩=some (I J 0):=a.o.aO.cell 5;have p6:aq W5 ⟨P,6,N⟩=some (I J 0):=a.o.aO.cell 6;have Q:=a.o.aO.free 4;have X:=a.o.aO.free 5;have f6:=a.o.aO.free 6;have x:=ae (λV (d:fC Wf U P bt aj bd (ak am (ah D) cm) D gl (fH os (os.map dV)) (gX os ml) 0 V)=>ZX P am cm D os V (d.aO.cell 3) (by have:=d.rM;rwa [NL.o]at this) hcap.1 hcap.2);have cW:=ae (λV (d:fC Wf U P bt aj bd (ak am (ah D) cm) D gl (fH os (os.map dV)) (gX os ml) 0 V)=>ZU P am cm D os V (d.aO.cell 3) (by have:=d.rM;rwa [NL.o]at this))
   generalize o:xH os=t at *;generalize hu:wh os=u at *;generalize f:gX os ml=d at *;have CL:=ae o;have FI:=ae hu;have uu:=ae f;clear o hu f;obtain⟨nm,o,f⟩:=d;dsimp only at *;generalize r:iT D nm=q at *;have HQ:=ae r;clear r a G;unfold bY at x cW;go_wp2_with fail;refine(x.o _ (by exact p.o)).mono ?_;rintro e V2 ⟨rfl,r⟩;have P2:=ae (p.o.kept r);have B2:=ae (H.o.grown r (by simp));clear r x p H p4 p5 p6 Q X f6;have a:=aG V2 (.cells #[I J t.e,I J t.at_,aB (bs t.name)] 27) N;have Mr:=ae (aA.new V2 #[I J t.e,I J t.at_,aB (bs t.name)] 27)
   have P3:=ae (P2.o.kept a);have B3:=ae (B2.o.grown a (by simp));have Qk:C≠V2.heap.size:=by have:=B2.o.lt;omega
   clear a;have z0:aq V2 ⟨C,0,N⟩=some (I J 0):=B2.o.cell 0;have z1:aq V2 ⟨C,1,N⟩=some (I J 0):=B2.o.cell 1;have z2:aq V2 ⟨C,2,N⟩=some (aB ⟨#[]⟩):=B2.o.cell 2;have f0:=B2.o.free 0;have f1:=B2.o.free 1;have f2:=B2.o.free 2;have aiS:=B2.o.lt;have vv:=ae P2.o.sz;by_cases he:t.e=0
   case neg=>
    have d1:(t.e==0)=F:=by simpa using he
    have E:=ae (show mI os=t by unfold mI;rw[CL.o,aD he]);go_wp2;have p:=aG (((aK V2 ⟨C,0,N⟩ (I J t.e)).setCell ⟨C,1,N⟩ (I J t.at_)).setCell ⟨C,2,N⟩ (aB (bs t.name))) (.cells #[I J t.e,I J t.at_,aB (bs t.name)] 27) N;have a:=(((B2.o.set 0 (I J t.e)).set 1 (I J t.at_)).set 2 (aB (bs t.name))).grown p (by simp);have H:=(P2.o.rK B2.o HRW.o (I J t.e) (I J t.at_) (aB (bs t.name))).kept p;have Q:=a.cell 0;have G:=a.cell 1;have r:=a.cell 2;simp only[dt,dB,dC,bI,bB,bL]at Q G r
    refine bj (v:=bY t) ?_ R ⟨by rw[E.o],by rw[uu.o];exact H⟩;clear a H z0 z1 z2 f0 f1 f2 p;generalize World.alloc _ _=a at *;simp[results,results36,go_sem,bY,Q,G,r]
   case pos=>
    have d1:(t.e==0)=T:=by simpa using he
    have HE:=ae he;clear he z0 z1 z2 f0 f1 f2;go_wp2_with fail;refine(cW.o _ P3.o).mono ?_;rintro e gw ⟨rfl,p⟩;have Q:=ae (P3.o.kept p);have r:=ae (B3.o.grown p (by simp));have a:=ae (Mr.o.grown p (by simp));clear p cW P3 P2 B3 B2 Mr;generalize V2.heap.size=p at *;have z0:aq gw ⟨C,0,N⟩=some (I J 0):=r.o.cell 0;have z1:aq gw ⟨C,1,N⟩=some (I J 0):=r.o.cell 1;have z2:aq gw ⟨C,2,N⟩=some (aB ⟨#[]⟩):=r.o.cell 2;have f0:=r.o.free 0;have f1:=r.o.free 1;have f2:=r.o.free 2;have y0:aq gw ⟨p,0,N⟩=some (I J t.e):=a.o.cell 0;have y1:aq gw ⟨p,1,N⟩=some (I J t.at_):=a.o.cell 1
    have y2:aq gw ⟨p,2,N⟩=some (aB (bs t.name)):=a.o.cell 2;have e0:=a.o.free 0;have H:=a.o.free 1;have G:=a.o.free 2;have p5:aq gw ⟨P,5,N⟩=some (I J o):=Q.o.aO.cell 5;have aiP:P≠p:=λc=>by
     have:=a.o
     rw[<- c]at this
     have:=this.symm.trans Q.o.aO
     simp at this
    have p7:=(Q.o).rK (a.o) vv.o (I J u.e) (I J u.at_) (aB (bs u.name));have X:=F4 (r.o) Qk (I J u.e) (I J u.at_) (aB (bs u.name));have pS:aA (((aK gw ⟨p,0,N⟩ (I J u.e)).setCell ⟨p,1,N⟩ (I J u.at_)).setCell ⟨p,2,N⟩ (aB (bs u.name))) p #[I J u.e,I J u.at_,aB (bs u.name)] 27:=by simpa using ((a.o.set 0 (I J u.e)).set 1 (I J u.at_)).set 2 (aB (bs u.name))
    have CZ:=ae p7;have x:=ae X;have L7:=ae pS;clear p7 X pS Q r a
    go_upto_region 15 with fail
    clear p5 y0 y1 y2 z0 z1 z2 e0 H G f0 f1 f2;generalize ((aK gw ⟨p,0,N⟩ (I J u.e)).setCell ⟨p,1,N⟩ (I J u.at_)).setCell ⟨p,2,N⟩ (aB (bs u.name))=fp at *;have z0:aq fp ⟨C,0,N⟩=some (I J 0):=x.o.cell 0;have z1:aq fp ⟨C,1,N⟩=some (I J 0):=x.o.cell 1;have z2:aq fp ⟨C,2,N⟩=some (aB ⟨#[]⟩):=x.o.cell 2;have f0:=x.o.free 0;have f1:=x.o.free 1;have f2:=x.o.free 2;have y0:aq fp ⟨p,0,N⟩=some (I J u.e):=L7.o.cell 0;have y1:aq fp ⟨p,1,N⟩=some (I J u.at_):=L7.o.cell 1;have y2:aq fp ⟨p,2,N⟩=some (aB (bs u.name)):=L7.o.cell 2
    have p5:aq fp ⟨P,5,N⟩=some (I J o):=CZ.o.aO.cell 5;by_cases X:u.e=0
    case neg=>
     have d2:(u.e==0)=F:=by simpa using X
     have E:=ae (show mI os=u by unfold mI;rw[CL.o,FI.o,ax (by simpa using HE.o),aD X]);clear X;go_wp2;have H:=CZ.o.rK x.o HRW.o (I J u.e) (I J u.at_) (aB (bs u.name));have a:=((x.o.set 0 (I J u.e)).set 1 (I J u.at_)).set 2 (aB (bs u.name));have Q:=a.cell 0;have G:=a.cell 1;have r:=a.cell 2;simp only[dt,dB,dC,bI,bB,bL]at Q G r;refine bj (v:=bY u) ?_ R ⟨by rw[E.o],by rw[uu.o];exact H⟩;clear a H z0 z1 z2 f0 f1 f2 y0 y1 y2
     generalize aK _ _ _=a at *;simp[results,results36,go_sem,bY,Q,G,r]
    case pos=>
     have d2:(u.e==0)=T:=by simpa using X
     have HU:=ae X;clear X;by_cases n1:o=1
     ·subst n1;have E:=ae (show mI os=u by unfold mI;rw[CL.o,FI.o,uu.o,ax (by simpa using HE.o),ax (by simpa using HU.o),ax (by simp)]);go_wp2;have H:=CZ.o.rK x.o HRW.o (I J u.e) (I J u.at_) (aB (bs u.name));have a:=((x.o.set 0 (I J u.e)).set 1 (I J u.at_)).set 2 (aB (bs u.name));have Q:=a.cell 0;have G:=a.cell 1;have r:=a.cell 2;simp only[dt,dB,dC,bI,bB,bL]at Q G r;refine bj (v:=bY u) ?_ R ⟨by rw[E.o],by rw[uu.o];exact H⟩
      clear a H z0 z1 z2 f0 f1 f2 y0 y1 y2;generalize aK _ _ _=a at *;simp[results,results36,go_sem,bY,Q,G,r]
     by_cases n2:o=2
     ·subst n2;have E:=ae (show mI os=u by unfold mI;rw[CL.o,FI.o,uu.o,ax (by simpa using HE.o),ax (by simpa using HU.o),ax (by simp)]);go_wp2;have H:=CZ.o.rK x.o HRW.o (I J u.e) (I J u.at_) (aB (bs u.name));have a:=((x.o.set 0 (I J u.e)).set 1 (I J u.at_)).set 2 (aB (bs u.name));have Q:=a.cell 0;have G:=a.cell 1;have r:=a.cell 2;simp only[dt,dB,dC,bI,bB,bL]at Q G r;refine bj (v:=bY u) ?_ R ⟨by rw[E.o],by rw[uu.o];exact H⟩
      clear a H z0 z1 z2 f0 f1 f2 y0 y1 y2;generalize aK _ _ _=a at *;simp[results,results36,go_sem,bY,Q,G,r]
     have d3:(o==1)=F:=by simpa using n1
     have d4:(o==2)=F:=by simpa using n2
     have d5:(o != 1)=T:=by simpa using n1
     have d6:(o != 2)=T:=by simpa using n2
     have E:=ae (show mI os=⟨35,0,[]⟩ by unfold mI;rw[CL.o,FI.o,uu.o,ax (by simpa using HE.o),ax (by simpa using HU.o),aD ⟨n1,n2⟩]);have Q:=CZ.o.rK L7.o vv.o (I J 35) (I J 0) (aB ⟨#[]⟩);have a:=F4 x.o Qk (I J 35) (I J 0) (aB ⟨#[]⟩);have r:aA (((aK fp ⟨p,0,N⟩ (I J 35)).setCell ⟨p,1,N⟩ (I J 0)).setCell ⟨p,2,N⟩ (aB ⟨#[]⟩)) p #[I J 35,I J 0,aB ⟨#[]⟩] 27:=by simpa using ((L7.o.set 0 (I J 35)).set 1 (I J 0)).set 2 (aB ⟨#[]⟩)
     have e0:=L7.o.free 0;have H:=L7.o.free 1;have G:=L7.o.free 2;have Fk:=ae Q;have B8:=ae a;have IR:=ae r;clear n1 n2 Q a r
     go_upto_region 17 with fail
     clear p5 y0 y1 y2 z0 z1 z2 e0 H G f0 f1 f2;generalize ((aK fp ⟨p,0,N⟩ (I J 35)).setCell ⟨p,1,N⟩ (I J 0)).setCell ⟨p,2,N⟩ (aB ⟨#[]⟩)=ja at *;have z0:aq ja ⟨C,0,N⟩=some (I J 0):=B8.o.cell 0;have z1:aq ja ⟨C,1,N⟩=some (I J 0):=B8.o.cell 1;have z2:aq ja ⟨C,2,N⟩=some (aB ⟨#[]⟩):=B8.o.cell 2;have f0:=B8.o.free 0;have f1:=B8.o.free 1;have f2:=B8.o.free 2;have y0:aq ja ⟨p,0,N⟩=some (I J 35):=IR.o.cell 0;have y1:aq ja ⟨p,1,N⟩=some (I J 0):=IR.o.cell 1;have y2:aq ja ⟨p,2,N⟩=some (aB ⟨#[]⟩):=IR.o.cell 2
     go_wp2;have H:=Fk.o.rK B8.o HRW.o (I J 35) (I J 0) (aB ⟨#[]⟩);have a:=((B8.o.set 0 (I J 35)).set 1 (I J 0)).set 2 (aB ⟨#[]⟩);have Q:=a.cell 0;have G:=a.cell 1;have r:=a.cell 2;simp only[dt,dB,dC,bI,bB,bL]at Q G r;refine bj (v:=bY ⟨35,0,[]⟩) ?_ R ⟨by rw[E.o],by rw[uu.o];exact H⟩;clear a H z0 z1 z2 f0 f1 f2 y0 y1 y2;generalize aK _ _ _=a at *;simp[results,results36,go_sem,bY,bs,Q,G,r]
theorem Gn(a b:Z)(w:av)(c:0<=a)(d:a<=1125899906842624)(f:1<=b)(h:b<=16):
  Calls prog 116 #[I J a,I J b] w λe c=>e=aH (I J (du a b))/\c=w:=by
 go_enter func116,ntmps116;go_wp2;go_ret;exact⟨R,R⟩
theorem RP(d:aR aY)(cap:M)(ps:L Z)(a:Z)(w:av)(h:yq w d ps)(r:ah ps<=65536)(f:0<=a)(q:a<=1125899906842624):
  Calls prog 157 #[ak d (ah ps) cap,I J a] w λe c=>e=aH (I J (lN ps a))/\c=w:=by
 obtain⟨k,j⟩:∃k:M,Int.tdiv a 4=(k:Z):=⟨(Int.tdiv a 4).toNat,by rw[sJ f];omega⟩
 have m:(k:Z)<=1125899906842624:=by rw[<- j,sJ f];omega
 have C:=ae (show lN ps a=ps.getD k 0 by unfold lN;rw[j,ax (by omega)];rfl);have p:decide ((k:Z)<0)=F:=by simp
 by_cases c:k<ah ps
 ·obtain⟨y,u,rfl,i⟩:=h (by omega);have o:=i k c;have l:decide ((ah ps:Z)<=(k:Z))=F:=by simp;omega
  have E:=ae (show lN ps a=ps[k] by rw[C.o,bQ,bW c];rfl);generalize ps[k]=x at *;clear i;go_enter func157,ntmps157;go_wp2;go_ret;exact⟨by rw[E.o];rfl,R⟩
 ·have l:decide ((ah ps:Z)<=(k:Z))=T:=by simp;omega
  have E:=ae (show lN ps a=0 by rw[C.o,bQ,uL (by omega)];rfl);clear h;go_enter func157,ntmps157;go_wp2;go_ret;exact⟨by rw[E.o];rfl,R⟩
theorem Rc(D:L M)(b g:M)(m:aI)(i:Z)(w:av)(h:eF w D b g m)(B:0<=i)(G:i<=65535)(H:ah m.short<=65535):
  Calls prog 160 #[bO b,.int .i64 i] w λe a=>e=aH (aJ (lL m.short i))/\a=w:=by
 obtain⟨V,X,I,J,d,l,o,c,p,q,r,u⟩:=h;obtain⟨z,cs,rfl⟩:=yi c;have K:aq w ⟨b,2,N⟩=S (ak z (ah m.short) cs):=d.cell 2;unfold bO;obtain⟨k,rfl⟩:∃k:M,i=(k:Z):=⟨i.toNat,by omega⟩
 have C:=ae (show lL m.short k=m.short.getD k F by unfold lL;simp);have A:decide ((0:Z)<=(k:Z))=T:=by simp
 by_cases a:k<ah m.short
 ·obtain⟨Q,rfl,-,-,-,j⟩:=vM c (by omega);have f:=j k a;rw[jS,bW a]at f;have E:=ae (show lL m.short k=m.short[k] by rw[C.o,bQ,bW a];rfl);dsimp only[Option.map]at f;generalize m.short[k]=x at *;have y:decide ((k:Z)<(ah m.short:Z))=T:=by simp;omega
  clear j d l o c p q r u;go_enter func160,ntmps160;go_wp2;go_ret;exact⟨by rw[E.o];rfl,R⟩
 ·have y:decide ((k:Z)<(ah m.short:Z))=F:=by simp;omega
  have E:=ae (show lL m.short k=F by rw[C.o,bQ,uL (by omega)];rfl);clear d l o c p q r u;go_enter func160,ntmps160;go_wp2;go_ret;exact⟨by rw[E.o];rfl,R⟩
theorem Q0(c a:Z)(rs:L cg)(k:M)(h:k<ah rs):cB c a k (rs.drop k)=if rs[k].au=c/\rs[k].off<=a/\a<rs[k].off+4*yy rs[k]then ((k:Z),rs[k])else cB c a (k+1) (rs.drop (k+1)):=by
 rw[fv h];rfl
theorem RW{V:av}(h:az w V N)(r:M)(f:w.heap.size<=r)(a b c d e:aC):az w (((((aK V ⟨r,0,N⟩ a).setCell ⟨r,1,N⟩ b).setCell ⟨r,2,N⟩ c).setCell ⟨r,3,N⟩ d).setCell ⟨r,4,N⟩ e) N :=
 eh (eh (iC h r f a b c) (bK _ r 3 d) (by intro k q;simp at q;omega)) (bK _ r 4 e) (by intro k q;simp at q;omega)
def Tv(r:cg):Prop:=fX r/\-1125899906842624<=r.off/\r.off<=1125899906842624
theorem RV(D:L M)(b g:M)(m:aI)(q l:Z)(w:av)(h:eF w D b g m)(hr:∀r∈m.obj.ay,Tv r)(hl:ah m.obj.ay<=65535):
  Calls prog 158 #[bO b,I J q,I J l] w λe o=>e=aH (aZ #[I J (cB q l 0 m.obj.ay).1,eU (cB q l 0 m.obj.ay).2])/\az w o N:=by
 have a:=aG w (.cells #[I J 0,I J 0,I J 0,I J 0,I J 0] 75) N;have iu:=ae (aA.new w #[I J 0,I J 0,I J 0,I J 0,I J 0] 75);have G0:=ae a;obtain⟨v1,v2,v3,v4,d,o,-⟩:=h.kept a;obtain⟨at_,ct,af,cf,ad,cd,aa,ca,gP,cs,ar,cr,f,-,-,-,-,-,p⟩:=o.open;have x:=f.cell 6;simp only[bI,bB,bL]at x;have u:=d.cell 0;simp only[bI,bL,bO]at u;have j:=ae (pi.dh p);have cS:=ae (λr W (h:Tv r)=>DF r W h.1.six);unfold eU at cS;clear d o f p a h;have HR:=ae hr
 have ks:=ae (show cB q l 0 m.obj.ay=cB q l 0 (m.obj.ay.drop 0)from R);generalize a:cB q l 0 m.obj.ay=f at *;have HN:=ae a;clear a hr;generalize m.obj.ay=p at *;unfold bO;go_enter func158,ntmps158;go_wp2;generalize w.alloc (.cells #[I J 0,I J 0,I J 0,I J 0,I J 0] 75)=W1 at *;clear u x
 go_loopw [18] (λi wr=>∃k:M,k<=ah p/\i=I J k/\f=cB q l k (p.drop k)/\az W1 wr N) (λi _=>ah p-(intOf i).toNat)
 case atStart=>exact⟨0,bG _,R,ks.o,aW _ _⟩
 case round=>
  obtain⟨k,hk,rfl,a,d⟩:=hrel;have HF:=ae a;have Q:=ae d;clear a d ks;by_cases z:k<ah p
  ·obtain⟨sg,hsg,hgs,a⟩:=j.o.grown Q.o (by omega);subst hsg;obtain⟨d,o,u,x,y⟩:=a k z;clear a;have g1:(k:Z)<(ah p:Z):=by omega
   have a:=HR.o _ (bN z);have nO:=ae (HF.o.trans (Q0 q l p k z));have cY:=ae (λW=>cS.o p[k] W a);have hof:=a.2;have hsp:=yW a.1;generalize yy p[k]=A at *;generalize p[k]=r at *;clear a;have a:=aG wr (.cells #[I J r.au,I J r.off,I J r.kind,I J r.sym,I J r.bh] 75) N;have G2:=ae (ya Q.o a);have B:=ae (aA.new wr #[I J r.au,I J r.off,I J r.kind,I J r.sym,I J r.bh] 75);have wI:=ae (iu.o.grown G2.o (by simp));clear a
   go_upto_region 4 with fail
   clear d o u x y;generalize wr.alloc (.cells #[I J r.au,I J r.off,I J r.kind,I J r.sym,I J r.bh] 75)=G at *;have Pt:w.heap.size≠wr.heap.size:=by have:=iu.o.lt;have:=Q.o.size;omega
   generalize wr.heap.size=d at *;have c0:aq G ⟨d,0,N⟩=S (I J r.au):=B.o.cell 0;have c1:aq G ⟨d,1,N⟩=S (I J r.off):=B.o.cell 1;have c2:aq G ⟨d,2,N⟩=S (I J r.kind):=B.o.cell 2;have c3:aq G ⟨d,3,N⟩=S (I J r.sym):=B.o.cell 3;have c4:aq G ⟨d,4,N⟩=S (I J r.bh):=B.o.cell 4;have Hw:=ae (λW (K:az G.drew W N)=>show aA W d #[I J r.au,I J r.off,I J r.kind,I J r.sym,I J r.bh] 75 from (mA B.o).grown K (by simp));by_cases y:r.au=q
   ·have d1:(r.au==q)=T:=by simpa using y
    by_cases H:r.off<=l
    ·have d2:decide (r.off<=l)=T:=by simpa using H
     have Fg:=ae (And.intro y H);have w1:J.wrap (4*A)=4*A:=dD _ ⟨by omega,by omega⟩;have w2:J.wrap (r.off+4*A)=r.off+4*A:=dD _ ⟨by omega,by omega⟩;clear y H
     go_region_held3 (λo=>aq o ⟨d,0,N⟩=S (I J r.au)/\aq o ⟨d,1,N⟩=S (I J r.off)/\aq o ⟨d,2,N⟩=S (I J r.kind)/\aq o ⟨d,3,N⟩=S (I J r.sym)/\aq o ⟨d,4,N⟩=S (I J r.bh))
      (go_keep)
      (first|(go_at_call 192;refine(cY.o _).mono ?_;rintro e o ⟨rfl,K⟩;have x:=Hw.o _ K;have s0:=x.cell 0;have s1:=x.cell 1;have s2:=x.cell 2;have s3:=x.cell 3;have s4:=x.cell 4;simp only[bI,bB,bL]at s0 s1 s2 s3 s4))
     have uw:=ae (ya (yf G2.o) K);have u:=ae ((mA wI.o).grown K (by simp));have ahI:=ae x;clear K x c0 c1 c2 c3 c4;by_cases e3:l<r.off+4*A
     ·have d3:decide (l<r.off+4*A)=T:=by simpa using e3
      have E:=ae (show f=((k:Z),r) by rw[nO.o,aD ⟨Fg.o.1,Fg.o.2,e3⟩]);have z0:aq o ⟨w.heap.size,0,N⟩=S (I J 0):=u.o.cell 0;have z1:aq o ⟨w.heap.size,1,N⟩=S (I J 0):=u.o.cell 1;have z2:aq o ⟨w.heap.size,2,N⟩=S (I J 0):=u.o.cell 2;have z3:aq o ⟨w.heap.size,3,N⟩=S (I J 0):=u.o.cell 3;have z4:aq o ⟨w.heap.size,4,N⟩=S (I J 0):=u.o.cell 4;have f0:=u.o.free 0;have f1:=u.o.free 1;have f2:=u.o.free 2;have f3:=u.o.free 3;have f4:=u.o.free 4;go_wp2
      go_region_held3 (λo=>aq o ⟨d,0,N⟩=S (I J r.au)/\aq o ⟨d,1,N⟩=S (I J r.off)/\aq o ⟨d,2,N⟩=S (I J r.kind)/\aq o ⟨d,3,N⟩=S (I J r.sym)/\aq o ⟨d,4,N⟩=S (I J r.bh))
       (go_keep)
       (fail)
      go_wp2;have a:=mA (((((u.o.set 0 (I J r.au)).set 1 (I J r.off)).set 2 (I J r.kind)).set 3 (I J r.sym)).set 4 (I J r.bh));have V:=a.cell 0;have X:=a.cell 1;have h2:=a.cell 2;have h3:=a.cell 3;have h4:=a.cell 4;simp only[dt,dB,dC,bI,bB,bL]at V X h2 h3 h4;refine bj (v:=aZ #[I J k,eU r]) ?_ R ⟨by rw[E.o],yf (RW (ya G0.o uw.o) _ (bz _) _ _ _ _ _)⟩;clear a z0 z1 z2 z3 z4 f0 f1 f2 f3 f4 s0 s1 s2 s3 s4;generalize World.drew _=a at *
      simp[results,results158,go_sem,eU,V,X,h2,h3,h4]
     ·have d3:decide (l<r.off+4*A)=F:=by simpa using e3
      have E:=ae (show f=cB q l (k+1) (p.drop (k+1)) by rw[nO.o,ax (λc=>e3 c.2.2)]);go_wp2
      go_roundw
      case rel=>exact⟨k+1,by omega,by go_num,E.o,uw.o⟩
      case measure=>simp[intOf];omega
    ·have d2:decide (r.off<=l)=F:=by simpa using H
     have E:=ae (show f=cB q l (k+1) (p.drop (k+1)) by rw[nO.o,ax (λc=>H c.2.1)]);clear H y
     go_quiet (fail)
     go_wp2
     go_roundw
     case rel=>exact⟨k+1,by omega,by go_num,E.o,ye G2.o _⟩
     case measure=>simp[intOf];omega
   ·have d1:(r.au==q)=F:=by simpa using y
    have E:=ae (show f=cB q l (k+1) (p.drop (k+1)) by rw[nO.o,ax (λc=>y c.1)]);clear y
    go_quiet (fail)
    go_wp2
    go_roundw
    case rel=>exact⟨k+1,by omega,by go_num,E.o,ye G2.o _⟩
    case measure=>simp[intOf];omega
  ·obtain rfl:k=ah p:=by omega
   have u:decide ((ah p:Z)<(ah p:Z))=F:=by simp
   have E:=ae (show f=(0,⟨0,0,0,0,0⟩) by rw[HF.o,List.drop_length];rfl);have d:=ae (iu.o.grown Q.o (by simp));have o:=ae (ya G0.o Q.o);have z0:aq wr ⟨w.heap.size,0,N⟩=S (I J 0):=d.o.cell 0;have z1:aq wr ⟨w.heap.size,1,N⟩=S (I J 0):=d.o.cell 1;have z2:aq wr ⟨w.heap.size,2,N⟩=S (I J 0):=d.o.cell 2;have z3:aq wr ⟨w.heap.size,3,N⟩=S (I J 0):=d.o.cell 3;have z4:aq wr ⟨w.heap.size,4,N⟩=S (I J 0):=d.o.cell 4;have f0:=d.o.free 0;have f1:=d.o.free 1;have f2:=d.o.free 2;have f3:=d.o.free 3;have f4:=d.o.free 4;go_wp2
   have a:=((((d.o.set 0 (I J 0)).set 1 (I J 0)).set 2 (I J 0)).set 3 (I J 0)).set 4 (I J 0);have V:=a.cell 0;have X:=a.cell 1;have h2:=a.cell 2;have h3:=a.cell 3;have h4:=a.cell 4;simp only[dt,dB,dC,bI,bB,bL]at V X h2 h3 h4;refine bj (v:=aZ #[I J 0,eU ⟨0,0,0,0,0⟩]) ?_ R ⟨by rw[E.o],RW o.o _ (bz _) _ _ _ _ _⟩;clear a z0 z1 z2 z3 z4 f0 f1 f2 f3 f4;generalize aK _ _ _=a at *;simp[results,results158,go_sem,eU,V,X,h2,h3,h4]
structure eI (n:M) (m:aI):Prop where
 text:m.text.length<=65536/\∀p∈m.text,0<=p/\p<=1125899906842624
 bw:m.bw.length<=65536/\∀p∈m.bw,0<=p/\p<=1125899906842624
 data:0<=m.data/\m.data<=1125899906842624
 bf:0<=m.bf/\m.bf<=1125899906842624
 means:m.means.length<=65535/\∀s∈m.means,(0<=s.off/\s.off<=1125899906842624)/\∀i,s.mod=S i->i<n
 short:m.short.length<=65535
 ay:m.obj.ay.length<=65535/\∀r∈m.obj.ay,fX r/\0<=r.off/\r.off<=1125899906842624
theorem Rm(ps:L Z)(a:Z)(h:∀p∈ps,0<=p/\p<=1125899906842624):0<=lN ps a/\lN ps a<=1125899906842624:=by
 unfold lN;split
 ·omega
 ·rw[bQ]
  cases e:ps[(a.tdiv 4).toNat]? with
  |none=>simp
  |some p=>exact h p (pI e)
theorem QP{m:aI}(h:eI n m)(i f:Z)(j:0<=f)(l:f<=1125899906842624):0<=dR m i f/\dR m i f<=2251799813685248:=by
 have a:=Rm m.text f h.text.2;have b:=Rm m.bw f h.bw.2;have c:=h.data;have d:=h.bf;unfold dR
 repeat' split
 all_goals omega
theorem Kj(D:List Nat)(b g n:Nat)(m:aI)(c a:Int)(w:av)(h:eF w D b g m)(i:eI n m)(x:0<=a)(y:a<=1125899906842624):
  Calls prog 120 #[bO b,I J c,I J a] w λe f=>e=aH (I J (dR m c a))/\f=w:=by
 obtain⟨v1,v2,v3,v4,j,-,-,-,l,o,-⟩:=h;obtain⟨f,u,rfl⟩:=yi l;obtain⟨q,r,rfl⟩:=yi o;have T:aq w ⟨b,3,N⟩=S (ak f (ah m.text) u):=j.cell 3;have Z:aq w ⟨b,4,N⟩=S (ak q (ah m.bw) r):=j.cell 4;have k5:aq w ⟨b,5,N⟩=S (I J m.data):=j.cell 5;have k6:aq w ⟨b,6,N⟩=S (I J m.bf):=j.cell 6;have B:=ae (RP f u m.text a w (yq.dh l) i.text.1 x y);have A:=ae (RP q r m.bw a w (yq.dh o) i.bw.1 x y);have M:=i.data;have L:=i.bf;clear j l o i;have C:=ae (show dR m c a=if c=1 then lN m.text a else if c=2 then lN m.bw a else if c=3 then m.data+a else if c=4 then m.bf+a else 0 from R)
 generalize lN m.text a=H at *;generalize lN m.bw a=G at *;generalize m.data=d at *;generalize m.bf=z at *;unfold bO;by_cases j:c=1
 ·subst j;have E:=ae (show dR m 1 a=H by rw[C.o];rfl);clear C;go_enter func120,ntmps120;go_wp2_with fail;refine B.o.mono ?_;rintro e o ⟨rfl,rfl⟩;go_wp2;go_ret;exact⟨by rw[E.o];rfl,R⟩
 by_cases l:c=2
 ·subst l;have E:=ae (show dR m 2 a=G by rw[C.o];rfl);clear C;go_enter func120,ntmps120;go_wp2_with fail;refine A.o.mono ?_;rintro e o ⟨rfl,rfl⟩;go_wp2;go_ret;exact⟨by rw[E.o];rfl,R⟩
 by_cases o:c=3
 ·subst o;have E:=ae (show dR m 3 a=d+a by rw[C.o];rfl);have K:J.wrap (d+a)=d+a:=dD _ ⟨by omega,by omega⟩;clear C;go_enter func120,ntmps120;go_wp2;go_ret;exact⟨by rw[E.o];rfl,R⟩
 by_cases p:c=4
 ·subst p;have E:=ae (show dR m 4 a=z+a by rw[C.o];rfl);have K:J.wrap (z+a)=z+a:=dD _ ⟨by omega,by omega⟩;clear C;go_enter func120,ntmps120;go_wp2;go_ret;exact⟨by rw[E.o];rfl,R⟩
 have E:=ae (show dR m c a=0 by rw[C.o,ax j,ax l,ax o,ax p]);have K:(c==1)=F:=by simpa using j
 have Q:(c==2)=F:=by simpa using l
 have V:(c==3)=F:=by simpa using o
 have X:(c==4)=F:=by simpa using p
 clear C j l o p;go_enter func120,ntmps120;go_wp2;go_ret;exact⟨by rw[E.o];rfl,R⟩
structure uz (W:av) (D:L M) (ms:L aI):Prop where
 len:ms.length=D.length
 at_:∀i (h:i<D.length),∃g,eF W D D[i] g (ms[i]'(by rw[len];exact h))
 nice:∀m∈ms,eI D.length m
theorem uz.kept(h:uz W D ms)(a:az W Y N):uz Y D ms :=
 ⟨h.len,λi c=>(h.at_ i c).imp λ_ q=>q.kept a,h.nice⟩
theorem iP.Mf(h:iP U P bt aj bd vm D gl ms st no W)(c:∀m∈ms,eI (ah D) m):uz W D ms :=
 ⟨h.gx,λi a=>⟨_,h.lv i a⟩,c⟩
def Gq(n:M)(s:gL):Prop:=(0<=s.off/\s.off<=1125899906842624)/\∀i,s.mod=S i->i<n
theorem Z8(c:∀m∈ms,eI n m)(s:gL)(a:Gq n s):0<=kJ ms s/\kJ ms s<=2251799813685248:=by
 unfold kJ
 cases s.mod with
 |none=>simp
 |some i=>
  dsimp only
  cases e:ms[i]? with
  |none=>simp
  |some m=>exact QP (c m (pI e)) _ _ a.1.1 a.1.2
theorem abS(d:∀m∈ms,eI n m)(m:aI)(c:eI n m)(r:cg):0<=jK ms m r/\jK ms m r<=2251799813685248:=by
 unfold jK;split
 ·omega
 ·rename_i h;have a:r.sym.toNat<ah m.means:=by omega
  rw[bQ,bW a];exact Z8 d _ (c.means.2 _ (bN a))
theorem QK(D:L M)(ms:L aI)(s:gL)(w:av)(h:uz w D ms)(m:Gq (ah D) s):
  Calls prog 79 #[jC D s] w λe a=>e=aH (I J (kJ ms s))/\az w a N:=by
 obtain⟨q,j,f⟩:=s;have a:=ae (aG w (.cells #[.pointer (iT D q),I J j,I J f] 149) N)
 cases q with
 |none=>
  unfold jC;dsimp only at *;have d:iT D N=N:=R;rw[d]at a ⊢;go_enter func79,ntmps79;go_wp2;go_ret;exact⟨R,a.o⟩
 |some i=>
  have l:i<ah D:=m.2 i R;have c:i<ah ms:=by rw[h.len];exact l
  obtain⟨g,p⟩:=h.at_ i l;have d:=Dr l;have E:=ae (show kJ ms ⟨S i,j,f⟩=dR ms[i] j f by unfold kJ;dsimp only;rw[bW c]);unfold jC;dsimp only at *;rw[d]at a ⊢;have o:=ae (Kj D D[i] g (ah D) ms[i] j f _ (p.kept a.o) (h.nice _ (bN c)) m.1.1 m.1.2);unfold bO at o;clear p h d;go_enter func79,ntmps79;go_wp2_with fail;refine o.o.mono ?_;rintro e d ⟨rfl,rfl⟩;go_wp2;go_ret;exact⟨by rw[E.o];rfl,a.o⟩
theorem RJ(D:L Nat)(ms:L aI)(b g:Nat)(m:aI)(r:cg)(w:av)(h:uz w D ms)(hm:eF w D b g m)(K:eI (ah D) m):
  Calls prog 156 #[bO b,eU r] w λe x=>e=aH (I J (jK ms m r))/\az w x N:=by
 obtain⟨u,p,o,c,l⟩:=r;have B:=ae (aG w (.cells #[I J u,I J p,I J o,I J c,I J l] 75) N);have C:=ae (show jK ms m ⟨u,p,o,c,l⟩=if c<0\/(ah m.means:Z)<=c then 0 else kJ ms (m.means.getD c.toNat nX)from R);obtain⟨v1,v2,v3,v4,f,-,a,-⟩:=hm;obtain⟨X,T,rfl⟩:=yi a;have Q:aq w ⟨b,1,N⟩=S (ak X (ah m.means) T):=f.cell 1;have hbl:=f.lt;have hbn:b≠w.heap.size:=by omega
 have hl:=K.means.1;unfold bO eU;dsimp only;by_cases A:c<0
 ·have d1:decide (c<0)=true:=by simpa using A
  have E:=ae (show jK ms m ⟨u,p,o,c,l⟩=0 by rw[C.o,aD (.inl A)]);clear C f a A;go_enter func156,ntmps156;go_wp2
  go_quiet (fail)
  go_wp2;go_ret;exact⟨by rw[E.o];rfl,ye B.o _⟩
 have d1:decide (c<0)=F:=by simpa using A
 obtain⟨y,rfl⟩:∃y:Nat,c=(y:Z):=⟨c.toNat,by omega⟩
 by_cases e2:ah m.means<=y
 ·have d2:decide ((ah m.means:Z)<=(y:Z))=true:=by simpa using e2
  have E:=ae (show jK ms m ⟨u,p,o,y,l⟩=0 by rw[C.o,aD (.inr (by omega))]);clear C f a;go_enter func156,ntmps156;go_wp2
  go_quiet (fail)
  go_wp2;go_ret;exact⟨by rw[E.o];rfl,ye B.o _⟩
 have d2:decide ((ah m.means:Z)<=(y:Z))=F:=by simp;omega
 have z:y<ah m.means:=by omega
 have E:=ae (show jK ms m ⟨u,p,o,y,l⟩=kJ ms m.means[y] by rw[C.o,ax (by omega),Int.toNat_natCast,bQ,bW z];rfl);obtain⟨d,rfl⟩:∃d,X=S ⟨d,0,N⟩:=by
  rcases a.2 with ⟨H,V⟩|⟨g,i,G,x,_⟩
  ·simp at H;omega
  ·simp only[Value.slice.injEq]at x;exact⟨g,x.1⟩
 have q:=λj (c:j<3)=>(a.cellAt (y*3+j) (by omega)).trans (yR (sF D) 3 (λ_=>rfl) m.means y j z c)
 have x:aq w ⟨d,y*3,N⟩=S (.pointer (iT D m.means[y].mod)):=q 0 (by omega);have G:aq w ⟨d,y*3+1,N⟩=S (I J m.means[y].au):=q 1 (by omega);have H:aq w ⟨d,y*3+2,N⟩=S (I J m.means[y].off):=q 2 (by omega);have hsn:d≠w.heap.size:=by have:d<w.heap.size:=World.block_lt_of_cell? w _ x;omega
 have M:=ae (λW (a:az w W N)=>QK D ms m.means[y] W (h.kept a) (K.means.2 _ (bN z)));unfold jC at M;clear C q f a h K;generalize m.means[y]=s at *;obtain⟨sm,ss,so⟩:=s;dsimp only at *;generalize iT D sm=pm at *;go_enter func156,ntmps156;go_wp2
 go_quiet (fail)
 have f:=ae (ye B.o nq);have l3:((w.alloc (.cells #[I J u,I J p,I J o,I J y,I J l] 75)).drewN nq).cell? ⟨w.heap.size,3,N⟩=S (I J y):=((aA.new w #[I J u,I J p,I J o,I J y,I J l] 75).drewN nq).cell 3;go_wp2;generalize (w.alloc (.cells #[I J u,I J p,I J o,I J y,I J l] 75)).drewN nq=V at *;generalize w.heap.size=a at *;have x0:=yd x f.o;have x1:=yd G f.o;have x2:=yd H f.o;have x3:=yd Q f.o;have ES:=ae (λW (i:az V.drew W N)=>And.intro (yd (yd Q (yf f.o)) i) (And.intro (yd (show aq V.drew ⟨a,3,N⟩=S (I J y)from l3) i) (And.intro (yd (yd x (yf f.o)) i) (And.intro (yd (yd G (yf f.o)) i) (yd (yd H (yf f.o)) i)))))
 clear x G H Q
 go_region_held3 (λx=>aq x ⟨b,1,N⟩=S (ak (S ⟨d,0,N⟩) (ah m.means) T)/\aq x ⟨a,3,N⟩=S (I J y)/\aq x ⟨d,y*3,N⟩=S (.pointer pm)/\aq x ⟨d,y*3+1,N⟩=S (I J ss)/\aq x ⟨d,y*3+2,N⟩=S (I J so))
  (go_keep)
  (first|(go_at_call 79;refine(M.o _ (yf f.o)).mono ?_;rintro e x ⟨rfl,i⟩;obtain⟨G,H,Q,s3,s4⟩:=ES.o _ i))
 go_wp2;go_ret;exact⟨by rw[E.o];rfl,ya (yf f.o) i⟩
theorem FY(D:L Nat)(ms:L aI)(b g:Nat)(m:aI)(r:cg)(w:av)(h:uz w D ms)(z:eF w D b g m)(x:eI (ah D) m)(B:0<=r.off)(E:r.off<=1125899906842624):
  Calls prog 119 #[bO b,eU r] w λe d=>e=aH (I J (fT ms m r))/\az w d N:=by
 have tr:=abS h.nice m x r;have ar:=QP x r.au r.off B E;have K:=ae (λW (c:az w W N)=>RJ D ms b g m r W (h.kept c) (z.kept c) x);have H:=ae (λW (c:az w W N)=>Kj D b g (ah D) m r.au r.off W (z.kept c) x B E);have C:=ae (show fT ms m r=jK ms m r-dR m r.au r.off from R);generalize jK ms m r=t at *;generalize dR m r.au r.off=a at *;have w1:J.wrap (t-a)=t-a:=dD _ ⟨by omega,by omega⟩;have Q:b<w.heap.size:=by obtain⟨v1,v2,v3,v4,V,-⟩:=z;exact V.lt
 clear h z x B E;unfold bO eU at *;obtain⟨p,o,l,q,j⟩:=r;dsimp only at *;have A:=ae (aG w (.cells #[I J p,I J o,I J l,I J q,I J j] 75) N);have f:=ae (aA.new w #[I J p,I J o,I J l,I J q,I J j] 75);go_enter func119,ntmps119;go_wp2;generalize w.alloc (.cells #[I J p,I J o,I J l,I J q,I J j] 75)=i at *;generalize w.heap.size=c at *;have c0:aq i ⟨c,0,N⟩=S (I J p):=f.o.cell 0;have c1:aq i ⟨c,1,N⟩=S (I J o):=f.o.cell 1;have c2:aq i ⟨c,2,N⟩=S (I J l):=f.o.cell 2
 have c3:aq i ⟨c,3,N⟩=S (I J q):=f.o.cell 3;have c4:aq i ⟨c,4,N⟩=S (I J j):=f.o.cell 4;have G:=ae (λW (y:az i.drew W N)=>show aA W c #[I J p,I J o,I J l,I J q,I J j] 75 from (mA f.o).grown y (by simp))
 go_region_held3 (λd=>aq d ⟨c,0,N⟩=S (I J p)/\aq d ⟨c,1,N⟩=S (I J o)/\aq d ⟨c,2,N⟩=S (I J l)/\aq d ⟨c,3,N⟩=S (I J q)/\aq d ⟨c,4,N⟩=S (I J j))
  (go_keep)
  (first|(go_at_call 156;refine(K.o _ (yf A.o)).mono ?_;rintro e d ⟨rfl,y⟩;have u:=G.o _ y;have X:=u.cell 0;have F:=u.cell 1;have M:=u.cell 2;have T:=u.cell 3;have Z:=u.cell 4;simp only[bI,bB,bL]at X F M T Z)|(go_at_call 120;refine(H.o _ (ya (yf A.o) y)).mono ?_;rintro e w2 ⟨rfl,rfl⟩))
 go_wp2;go_ret;exact⟨by rw[C.o];rfl,ya (yf A.o) y⟩
theorem GI(c a:Z):∀(rs:L cg) (k:M),cB c a k rs=(0,⟨0,0,0,0,0⟩)\/∃i,∃h:i<ah rs,cB c a k rs=(((k+i:M):Z),rs[i]):=by
 intro rs
 induction rs with
 |nil=>intro k;exact .inl R
 |cons r rs f=>
  intro k;unfold cB;split
  ·exact .inr ⟨0,by simp,R⟩
  ·rcases f (k+1)with e|⟨i,d,e⟩
   ·exact .inl e
   ·exact .inr ⟨i+1,by simpa using d,by rw[e];simp;omega⟩
theorem adP(D:List Nat)(b g n:Nat)(m:aI)(f a d:Int)(w:av)(z:eF w D b g m)(h:eI n m)(S:0<=d)(Z:d<=1125899906842624):
  Calls prog 155 #[bO b,I J f,I J a,I J d] w λe h=>e=aH (aJ (eQ m f a d))/\az w h N:=by
 have u:=ae (RV D b g m f a w z (λr a=>⟨(h.ay.2 r a).1,by have:=(h.ay.2 r a).2;omega,(h.ay.2 r a).2.2⟩) h.ay.1);have C:=ae (show eQ m f a d=if (cB f a 0 m.obj.ay).2.kind=6 then !decide (du d ((cB f a 0 m.obj.ay).2.bh+4)=d)else if (cB f a 0 m.obj.ay).2.kind=4 then decide (a=(cB f a 0 m.obj.ay).2.off) || !lL m.short (cB f a 0 m.obj.ay).1 else T from R);have X:=ae (show (cB f a 0 m.obj.ay).2.kind=6->(cB f a 0 m.obj.ay).2.bh=4\/(cB f a 0 m.obj.ay).2.bh=12 by
  rcases GI f a m.obj.ay 0 with e|⟨i,j,e⟩
  ·rw[e];intro c;simp at c
  ·rw[e];intro c;exact(h.ay.2 _ (bN j)).1.six c)
 have B:0<=(cB f a 0 m.obj.ay).1/\(cB f a 0 m.obj.ay).1<=65535:=by
  rcases GI f a m.obj.ay 0 with e|⟨i,j,e⟩
  ·rw[e];simp
  ·rw[e];have:=h.ay.1;simp;omega
 have x:=ae (λW (d:az w W N)=>Rc D b g m (cB f a 0 m.obj.ay).1 W (z.kept d) B.1 B.2 h.short);generalize cB f a 0 m.obj.ay=p at *;obtain⟨i,K,q,l,Q,A⟩:=p;dsimp only at *;clear z h;unfold bO eU at *;go_enter func155,ntmps155;go_wp2_with fail;refine u.o.mono ?_;rintro e G ⟨rfl,o⟩;have G2:=ae o;dsimp only;have j:=ae (ya o (aG G (.cells #[I J K,I J q,I J l,I J Q,I J A] 75) N));have y:=ae (x.o _ j.o);have H:=ae (λb a f=>Gn d b (G.alloc (.cells #[I J K,I J q,I J l,I J Q,I J A] 75)) S Z a f)
 clear o u x;by_cases o:l=6
 ·subst o;have E:=ae (show eQ m f a d = !decide (du d (A+4)=d) by rw[C.o,aD R]);rcases X.o R with rfl|rfl
  ·have u:=ae (H.o 8 (by omega) (by omega));go_wp2_with fail;refine u.o.mono ?_;rintro e V ⟨rfl,rfl⟩;go_wp2;go_ret;exact⟨by rw[E.o];exact jz (λb=>aH (aJ b)) (by simp[bne,BEq.beq]),j.o⟩
  ·have u:=ae (H.o 16 (by omega) (by omega));go_wp2_with fail;refine u.o.mono ?_;rintro e V ⟨rfl,rfl⟩;go_wp2;go_ret;exact⟨by rw[E.o];exact jz (λb=>aH (aJ b)) (by simp[bne,BEq.beq]),j.o⟩
 ·have d6:(l==6)=F:=by simpa using o
  by_cases u:l=4
  ·subst u;have E:=ae (show eQ m f a d=(decide (a=q) || !lL m.short i) by rw[C.o,ax (by simp),aD R]);clear o;by_cases x:a=q
   ·subst x;have M:(a==a)=T:=by simp
    go_wp2;go_ret;exact⟨by rw[E.o];exact jz (λb=>aH (aJ b)) (by simp),j.o⟩
   ·have M:(a==q)=F:=by simpa using x
    have L:=ae x;clear x;go_wp2_with fail;refine y.o.mono ?_;rintro e V ⟨rfl,rfl⟩;go_wp2;go_ret;exact⟨by rw[E.o];exact jz (λb=>aH (aJ b)) (by simp[L.o]),j.o⟩
  ·have x:(l==4)=F:=by simpa using u
   have E:=ae (show eQ m f a d=T by rw[C.o,ax o,ax u]);clear u o;go_wp2;go_ret;exact⟨by rw[E.o];rfl,j.o⟩
theorem aeT(n v:Z)(st:bC):(eu n v st).read=st.read:=by unfold eu;split<;>rfl
theorem adn(U:av)(b g:M)(ai:aR aY)(ci:M)(ins:L Z)(st:bC)(r u:aC)(W:av)(h:yz U b g (ak ai (ah ins) ci) st r u W)(m:yq U ai ins)(G:ah ins<=16):
  Calls prog 181 #[aM (S ⟨b,0,N⟩)] W λe Y=>e=aH (aZ #[])/\gI U b g (ak ai (ah ins) ci) (if (ah ins)<=st.read then {st with aU:=6} else {eu 10 (ins.getD st.read 0) st with read:=st.read+1}) Y:=by
 have H:=ae h;have p:=h.c.2.1;have l:=h.c.2.2.2.2.2.2.2.2.2;by_cases o:ah ins<=st.read
 ·rw[aD o];have d:decide ((ah ins:Z)<=(st.read:Z))=T:=by simp;omega
  clear h;go_enter func181,ntmps181;go_wp2
  go_quiet (fail)
  have i:=ae (H.o.grown (ye (aW _ N) nq));clear p l;generalize W.drewN nq=V at *;have c:=i.o.c.2.2.2.2.2.1;have f:=i.o.free 37;go_wp2
  (try simp only[Exit.inBlock,Exit.then]);refine bj (results_none R _ _ _) R ?_
  exact⟨R,_,_,i.o.jA 6⟩
 ·rw[ax o];have d:decide ((ah ins:Z)<=(st.read:Z))=F:=by simp;omega
  obtain⟨y,j,rfl,i⟩:=m.kept (λa v e=>yd e h.gr) (by omega);have q:=i st.read (by omega);have z:=ae (show ins.getD st.read 0=ins[st.read]'(by omega) by rw[bQ,bW (by omega)];rfl);rw[z.o];generalize ins[st.read]'(by omega)=v at *;have x:=ae q;have B:=ae (λW i=>sf U b g (ak (S ⟨y,j,N⟩) (ah ins) ci) st r u 10 v W i (by decide) (by decide));have K:(st.read:Z)<(ah ins:Z):=by omega
  clear h i q z m;go_enter func181,ntmps181;go_wp2
  go_quiet (fail)
  go_wp2;have i:=ae (H.o.grown (ye (aW _ N) nq));have q:(W.drewN nq).cell? ⟨y,j+st.read,N⟩=S (I J v):=x.o;clear p l H x;generalize W.drewN nq=V at *;have p:=i.o.c.2.1;have l:=i.o.c.2.2.2.2.2.2.2.2.2;have z:Hd (yz U b g (ak (S ⟨y,j,N⟩) (ah ins) ci) st r u V.drew):=i.o.grown (ye (aW _ N) 1)
  go_region_with (go_at_call 141;refine(B.o _ z.o).mono ?_;rintro e Q ⟨rfl,A⟩)
  all_goals
   have x:=ae A;clear A p l q z i;have l:=x.o.c.2.2.2.2.2.2.2.2.2;rw[aeT]at l;have E:=x.o.free 41;go_wp2
   go_end0
   refine⟨R,r,u,?_⟩;exact x.o.LZ (st.read+1) (by omega)
theorem adl(U:av)(b g:M)(ai:aR aY)(ci:M)(ins:List Z)(st:bC)(d f:aC)(W:av)(h:yz U b g (ak ai (ah ins) ci) st d f W)(l:yq U ai ins)(E:ah ins<=16):
  Calls prog 149 #[aM (S ⟨b,0,N⟩)] W λe Y=>e=aH (aZ #[])/\gI U b g (ak ai (ah ins) ci) (oI ins st) Y:=by
 have H:=ae h;have o:=ae (λW a=>ej U b g (ak ai (ah ins) ci) st d f 17 W a (by decide) (by decide));have u:=ae (λW a=>ej U b g (ak ai (ah ins) ci) st d f 10 W a (by decide) (by decide));have Q:Hd (∀W,yz U b g (ak ai (ah ins) ci) {st with aU:=1} d f W->Calls prog 140 #[aM (S ⟨b,0,N⟩),I J 10] W λe Y=>e=aH (I J (bH st 10))/\Y=W) :=
  λW a=>ej U b g (ak ai (ah ins) ci) {st with aU:=1} d f 10 W a (by decide) (by decide)
 have i:=eC h.ok 10;have y:=ae (λW=>Kp (bH st 10) W i.1 i.2);have G:=ae (λx W a=>aeo U b g (ak ai (ah ins) ci) st d f x W a);have K:=ae (λW a=>adn U b g ai ci ins st d f W a l E);obtain⟨X,a⟩:∃X,X=oI ins st:=⟨_,R⟩
 rw[<- a];unfold oI at a;have c:=ae a;clear h a l i;generalize bH st 17=q at *;generalize bH st 10=x at *;by_cases p:q=0
 ·subst p;rw[aD R]at c;have i:=H.o.c.2.2.2.2.2.1;have j:=H.o.free 37;go_enter func149,ntmps149;go_wp2_with fail;refine(o.o _ H.o).mono ?_;rintro e V ⟨rfl,a⟩;subst a;have r:=ae (H.o.jA 1);go_wp2_with fail;refine(Q.o _ r.o).mono ?_;rintro e z ⟨rfl,a⟩;subst a;go_wp2_with fail;refine(y.o _).mono ?_;rintro e A ⟨rfl,a⟩;have m:=ae r.o;rw[<- a]at m;clear a r i j H;have i:=m.o.c.2.2.2.2.2.2.1;have a:=m.o.free 38;go_wp2
  go_end0
  rw[c.o];exact⟨R,_,_,m.o.Wg _⟩
 rw[ax p]at c;have L:(q==0)=F:=by simpa using p
 by_cases m:q=1
 ·subst m;rw[aD R]at c;go_enter func149,ntmps149;go_wp2_with fail;refine(o.o _ H.o).mono ?_;rintro e V ⟨rfl,a⟩;subst a;go_wp2_with fail;refine(u.o _ H.o).mono ?_;rintro e z ⟨rfl,a⟩;subst a;go_wp2_with fail;refine(y.o _).mono ?_;rintro e A ⟨rfl,a⟩;subst a;go_wp2_with fail;refine(G.o _ _ H.o).mono ?_;rintro e B ⟨rfl,i⟩;have j:=ae i;clear i;go_wp2
  go_end0
  rw[c.o];exact⟨R,j.o⟩
 rw[ax m]at c;have z:(q==1)=F:=by simpa using m
 by_cases r:q=2
 ·subst r;rw[aD R]at c;go_enter func149,ntmps149;go_wp2_with fail;refine(o.o _ H.o).mono ?_;rintro e V ⟨rfl,a⟩;subst a;go_wp2_with fail;refine(K.o _ H.o).mono ?_;rintro e B ⟨rfl,i⟩;have j:=ae i;clear i;go_wp2
  go_end0
  rw[c.o];exact⟨R,j.o⟩
 rw[ax r]at c;have A:(q==2)=F:=by simpa using r
 have i:=H.o.c.2.2.2.2.2.1;have j:=H.o.free 37;clear p m r;go_enter func149,ntmps149;go_wp2_with fail;refine(o.o _ H.o).mono ?_;rintro e V ⟨rfl,a⟩;subst a;go_wp2
 go_end0
 rw[c.o];exact⟨R,_,_,H.o.jA 6⟩
