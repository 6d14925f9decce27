import Derived.Test.YtaldcojpkflgpaaGreatDoorCards
import Derived.Test.YtaldcojpkflgpaaGreatDoorTie
import Derived.Test.YtaldcojpkflgpaaGreatDoorU19
import Derived.Deep.Strs
import Derived.SizedLaws
set_option maxHeartbeats 16000000
set_option maxRecDepth 100000
open Go.Value renaming int->I,okWide->yw,cells->Iw,slice->ak
open Go.IntKind renaming i64->J
open Bool renaming true->T,false->F
open _root_ renaming Nat->M,List->L,ByteArray->bT,rfl->R
open Go renaming Value->aC,TypeId->dm,trodAll_cons_mk->mf
open Go.World renaming cell?->aq,grownBy->az,block_lt_of_cell?->ow
open Option renaming some->S,none->N
open Go.DataW renaming weightsAll->Vs,Trod->M1
open List renaming mem_cons->nk,length->ah,length_map->fZ,length_range->Nr,mem_map->mh,mem_range->Cv
open Nat renaming zero_le->bG,le_refl->bz,not_lt_zero->ji
open Prod.mk renaming injEq->ny
open Go.OpenSpec renaming ofChange->Iv
namespace Go.Proofs.YtaldcojpkflgpaaGreatDoor
open Go.ChangeShapes Go.WideShapes Go.ChangeAt Go.RowKit
variable {W:World}
theorem adj{c:Int}(h:(Lit.int .i64 c).wf=T):-9223372036854775808<=c/\c<=9223372036854775807:=by
 simp[Lit.wf]at h;have e:J.min = -9223372036854775808:=by decide
 omega
theorem adW{b:World}{a:Addr}{i:M}{v:aC}(h:aq W (a.add i)=S v)(c:az W b N):aq b (a.add i)=S v:=yd h c
theorem QW{H:Type}{P:Program}{e:dm}:∀ {l:L (DataW H)} {d:DataW H},d∈l->∀n∈d.weights P e,n∈Vs P e l
 |x::l,d,h,n,a=>by
  simp only[Vs,List.mem_append];rcases nk.1 h with rfl|h
  ·exact Or.inl a
  ·exact Or.inr (QW h n a)
 | [],_,h,_,_=>by cases h
def xT(Sx:M->bT)(n:M):L (L UInt8):=(List.range n).map λi=>sl (Sx i)
theorem Ll(a:M->bT)(n:M):(xT a n).length=n:=by simp[xT]
theorem afS(a:M->bT)(n i:M)(h:i<(xT a n).length):bs ((xT a n)[i])=a i:=by simp[xT,Lb]
theorem acE{H:Type}{enc:dm×aC->H}{held:Bool}(b:M->Bool)(a:Addr):∃ps,M1 enc Tryz.prog W 0 b held 22 (.slice (S a) 0 0) (.slice [] []) ps:=by
 cases h:b a.block with
 |false=>exact⟨_,Deep.shut_slice Tryz.underlying22 (bG _) (bz _) (bG _) h (λ_=>.nil) (λ_=>[]) (λi b=>absurd b (ji _))⟩
 |true=>exact⟨_,Deep.shut_slice_whole Tryz.underlying22 (bG _) (bz _) (bG _) h (λ_=>.nil) (λ_=>[]) (λi b=>absurd b (ji _))⟩
theorem ade{H:Type}{enc:dm×aC->H}{base:M}{v:aC}{d:DataW H}{p:L MemPlace}(B:yw Tryz.prog W .any base 23 v)(h:M1 enc Tryz.prog W 0 (λ_=>T) T 23 v d p):
  ∃ai ci ins,v = .slice ai (ah ins) ci/\yq W ai ins/\∀e,az W e N->∃ps,M1 enc Tryz.prog e 0 (λb=>decide (b<W.heap.size)) T 23 v d ps:=by
 obtain⟨C,j,l,rfl⟩:=okWide_slice Tryz.underlying23 B;obtain⟨w,z⟩:=h;rcases open_ints Tryz.underlying23 mE GM z with ⟨f,n⟩|⟨a,x,u,o,f,_,r,m,e,n,c,s⟩
 ·simp[Iw]at f;obtain⟨rfl,rfl,rfl⟩:=f;simp only[ny]at n;obtain⟨rfl,rfl⟩:=n;exact⟨N,0,[],R,λh=>absurd h (by simp),λe _=>⟨_,shut_slice_nil Tryz.underlying23⟩⟩
 ·simp[Iw]at f;obtain⟨rfl,rfl,rfl⟩:=f;simp only[ny]at n;obtain⟨rfl,rfl⟩:=n;simp only[if_true]at e;have g:(o.take j).length=j:=by rw[List.length_take];omega
  have k:ah o=(if decide (a.block<W.heap.size)=T then l else j):=by
   by_cases y:0<ah o
   ·have t:=ow W _ (c 0 y);have q:a.block<W.heap.size:=by rw[block_add]at t;exact t
    rw[decide_eq_true q,if_pos R,e]
   ·have q:l=0:=by omega
    have t:j=0:=by omega
    rw[e,q,t];simp
  refine⟨S a,l,o.take j,by rw[g],?_,λe f=>⟨_,⟨2,shut_ints 0 Tryz.underlying23 mE GM (bG _) r m k (λi q=>adW (c i q) f) s⟩⟩⟩;intro A;rw[g]at A;obtain⟨b,t,rfl,y⟩:=ints_at c (by omega);refine⟨b,t,R,λi q=>?_⟩;rw[g]at q;rw[y i (by omega),List.getElem_take,List.getD_eq_getElem?_getD,List.getElem?_eq_getElem (by omega)];rfl
theorem ZY(H:Type)(enc:dm×aC->H)(W:World)(base:Nat)(c:Array aC)(ds gs:L (DataW H))(o:L MemPlace)
  (g:∀(j:Nat) t v,Tryz.f3.params[j]?=S t->c[j]?=S v->yw Tryz.prog W .any base t v)
  (hW:DataW.Whole enc Tryz.prog Tryz.f3.params.toList Rows.meansSpec.vars F W c.toList ds gs o) (hL:laidMetH Tryz.prog Rows.meansRow.laid W)
  (hz:(DataW.weightsEach Tryz.prog (Tryz.f3.params.toList++(Iv Rows.meansSpec).bare.plain.varTypes Tryz.prog) (ds++gs)).all (·<=reachBytes)=T) :
  Calls Tryz.prog 3 c W λe x=>∃v,e = .returned v/\Rows.meansSpec.post enc Tryz.prog Tryz.f3 F T F F W c v x:=by
 have A:=hW;obtain⟨p,q,k,hV,rfl,hfz,hnd⟩:=hW;have hA:DataW.TrodAll enc Tryz.prog W 0 (λ_=>T) T Tryz.f3.params.toList c.toList ds p:=k;rw[Tryz.params3]at hA g hz;obtain⟨v0,ajj,d0,ds0,p0,q0,hargs,rfl,rfl,h0,r0⟩:=trodAll_cons hA;obtain⟨v1,vs1,d1,ds1,p1,q1,WC,rfl,rfl,h1,r1⟩:=trodAll_cons r0;obtain⟨v2,vs2,d2,aiK,p2,q2,WI,rfl,rfl,h2,r2⟩:=trodAll_cons r1;obtain⟨v3,vs3,d3,ds3,p3,q3,WN,rfl,rfl,h3,r3⟩:=trodAll_cons r2;obtain⟨v4,ajk,d4,aiL,p4,q4,WO,rfl,rfl,h4,r4⟩:=trodAll_cons r3;obtain⟨v5,ajl,d5,aiM,p5,q5,WQ,rfl,rfl,h5,r5⟩:=trodAll_cons r4;obtain⟨rfl,rfl,rfl⟩:=trodAll_nil r5
 subst WQ;subst WO;subst WN;subst WI;subst WC;obtain rfl:c = #[v0,v1,v2,v3,v4,v5]:=by cases c;simp_all
 obtain⟨rfl,rfl⟩:=trodVars_none hV;have hv0:yw Tryz.prog W .any base 22 v0:=g 0 22 v0 R R;have hv1:yw Tryz.prog W .any base 3 v1:=g 1 3 v1 R R;have hv2:yw Tryz.prog W .any base 3 v2:=g 2 3 v2 R R;have hv3:yw Tryz.prog W .any base 3 v3:=g 3 3 v3 R R;have hv4:yw Tryz.prog W .any base 23 v4:=g 4 23 v4 R R;have hv5:yw Tryz.prog W .any base 3 v5:=g 5 3 v5 R R;obtain⟨f5,rfl,rfl,rfl,I⟩:=open_int (t:=3) mE hv5 h5;obtain⟨Z,ci,K,rfl,B,M⟩:=ade hv4 h4;obtain⟨hT,hN,hB⟩:=aaK hL;have lr:=adj I;obtain⟨f1,rfl,rfl,rfl,D⟩:=open_int (t:=3) mE hv1 h1
 obtain⟨f2,rfl,rfl,rfl,E⟩:=open_int (t:=3) mE hv2 h2;obtain⟨f3,rfl,rfl,rfl,G⟩:=open_int (t:=3) mE hv3 h3;obtain⟨a0,u,cap,rfl⟩:=okWide_slice Tryz.underlying22 hv0;obtain⟨fuel,J⟩:=h0;clear k;rcases Deep.open_strs Tryz.underlying22 K6 Ln J with ⟨l,U⟩|⟨a,len',cap',m,z,l,_,hle,Q,y,U,k⟩
 ·simp[Iw]at l;obtain⟨rfl,rfl,rfl⟩:=l;simp only[ny]at U;obtain⟨rfl,rfl⟩:=U;refine(Ke f1 f2 f3 N 0 [] Z ci K f5 W (λh=>absurd h (by simp)) (by simp) (by simp) B lr hT hN hB).mono λe x ⟨P,r⟩=>?_
  subst P;obtain⟨X,O⟩:=M x r;exact⟨_,R,_,_,_,[],_,[],A,mf (shut_bool Tryz.underlying4 _) trodAll_mk0,mf (shut_slice_nil Tryz.underlying22) (mf (shut_int mE D) (mf (shut_int mE E) (mf (shut_int mE G) (mf O (mf (shut_int mE I) trodAll_mk0))))),R,KO r _,λh=>by cases h⟩
 ·simp[Iw]at l;obtain⟨rfl,rfl,rfl⟩:=l;simp only[ny]at U;obtain⟨rfl,rfl⟩:=U;simp only[if_true]at y;subst y;have zs:=sized_slice (j:=0) hz R R Tryz.underlying22;rw[fZ,fZ,Nr,Nr,show Tryz.prog.bytesOf 9=16 by kernel_rfl]at zs;have zr:=reachBytes_lt;have ahw:∀i,i<u->(z i).data.toList.length<=reachBytes:=λi n=>by
   have:=List.all_eq_true.1 hz _ (DataW.weights_mem_each (j:=0) R R (z i).data.toList.length (by
    simp only[DataW.weights,Tryz.underlying22];refine List.mem_cons_of_mem _ (List.mem_append_left _ (QW (d:=.lit (.string (z i).data.toList)) (mh.2 ⟨i,Cv.2 n,R⟩) _ ?_));simp[DataW.weights]))
   simpa using this
  by_cases V:0<m
  ·obtain⟨b,w,Y⟩:=a;have C:Y=N:=by simpa[Addr.add]using World.cell?_spot (k 0 V).1
   subst C;have hc:∀i,i<m->aq W ⟨b,w+i,N⟩=S (.string (z i)):=λi n=>by rw[<- Go.WideShapes.add_plain];exact(k i n).1
   have hin:sE W (S ⟨b,w,N⟩) (xT z u):=λ_=>⟨b,w,R,λi n=>by
    rw[afS];rw[Ll]at n;exact hc i (by omega)⟩
   have hbl:b<W.heap.size:=ow W _ (hc 0 V);have s:=Ke f1 f2 f3 (S ⟨b,w,N⟩) m (xT z u) Z ci K f5 W hin (λf J=>by
    simp only[xT,mh,Cv]at J;obtain⟨i,n,rfl⟩:=J
    have:=ahw i n
    unfold sl;omega) (by rw[Ll];omega) B lr hT hN hB
   rw[Ll]at s;refine s.mono λe x ⟨P,r⟩=>?_
   subst P;obtain⟨X,O⟩:=M x r;exact⟨_,R,_,_,_,[],_,[],A,mf (shut_bool Tryz.underlying4 _) trodAll_mk0,mf (Deep.shut_strs_whole Tryz.underlying22 K6 Ln (bG _) hle Q (by simpa using hbl) z (λi n=>yd (hc i n) r) (λi n=>(k i n).2)) (mf (shut_int mE D) (mf (shut_int mE E) (mf (shut_int mE G) (mf O (mf (shut_int mE I) trodAll_mk0))))),R,KO r _,λh=>by cases h⟩
  ·obtain rfl:m=0:=by omega
   obtain rfl:u=0:=by omega
   have s:=Ke f1 f2 f3 (S a) 0 [] Z ci K f5 W (λh=>absurd h (by simp)) (by simp) (by simp) B lr hT hN hB;refine s.mono λe x ⟨P,r⟩=>?_
   subst P;obtain⟨X,O⟩:=M x r;obtain⟨C,w⟩:=acE (enc:=enc) (W:=x) (held:=T) (λb=>decide (b<W.heap.size)) a;exact⟨_,R,_,_,_,[],_,[],A,mf (shut_bool Tryz.underlying4 _) trodAll_mk0,mf w (mf (shut_int mE D) (mf (shut_int mE E) (mf (shut_int mE G) (mf O (mf (shut_int mE I) trodAll_mk0))))),R,KO r _,λh=>by cases h⟩
theorem ae2(os:Os):laidMet Tryz.prog Rows.meansRow.laid ((J8 os).forCall (λ_ _=>0) ⟨#[],#[ak N 0 0,I J 0,I J 0,I J 0,ak N 0 0,I J 0],[]⟩).memory :=
 laidMet_of_run' 8 (by kernel_rfl) (by kernel_rfl)
theorem aaO(os:Os){H:Type}(enc:dm×aC->H):∃a,DataW.whole enc Tryz.prog ((J8 os).forCall (λ_ _=>0) ⟨#[],#[.slice N 0 0,I J 0,I J 0,I J 0,.slice N 0 0,I J 0],[]⟩).memory Tryz.f3.params.toList Rows.meansSpec.vars F #[ak N 0 0,I J 0,I J 0,I J 0,.slice N 0 0,I J 0].toList 8=S ([.nil,.lit (.int .i64 0),.lit (.int .i64 0),.lit (.int .i64 0),.nil,.lit (.int .i64 0)],[],a) :=
 ⟨[],by kernel_rfl⟩
theorem aaY(os:Os)(b:os.Started)(H:Type)(enc:dm×aC->H)(a:Stop.Interp):
  ReturnsInHanded {} Tryz.checked os 3 .any ((Iv Rows.meansSpec).preRow enc Tryz.prog Tryz.f3 Rows.meansRow.domain F Rows.meansRow.laid) (((Iv Rows.meansSpec).at a).post enc Tryz.prog Tryz.f3 F T F F):=by
 obtain⟨g,m⟩:=aaO os enc;refine returnsInHanded_of_row (C:=Tryz.checked) (s:=Iv Rows.meansSpec) abJ b (by kernel_rfl) Tryz.func3
  (witness_row_at (enc:=enc) (C:=Tryz.checked) F (J8 os) #[ak N 0 0,I J 0,I J 0,I J 0,ak N 0 0,I J 0] rfl (by kernel_rfl) (by kernel_rfl) (by kernel_rfl)
   (OpenSpec.preRow_of_cond 8 m (by kernel_rfl) (λk c=>by cases c) (by kernel_rfl) (ae2 os))) ?_
 intro W e d h i c f l _ _ n j _ _;exact ZY H enc W e d h i c f l j n
theorem acv:Rows.MeansSaid :=
 OpenClaim.holds_of_cond 3 Tryz.f3 R R R R R R R ⟨R,R,R,R,R⟩ R R R R R (by kernel_rfl) Tryz.func3 (by kernel_rfl)
  (of_decide_eq_true (by kernel_rfl)) (by unfold Func.isWrapper;first|(rw[if_pos (by decide +kernel)];kernel_rfl)|(rw[if_neg (by decide +kernel)];exact⟨R,R⟩))
  (λc a H b _ F=>by rw[OpenClaim.pre_eq_preRow];exact aaY c a H b F)
theorem abF (f : FuncId) (a : Func) (e : Tryz.pinned.checked.prog.funcNamed "linker/linkerkeep.Means" = S f) (b : Tryz.pinned.checked.prog.funcs[f]? = S a) :
  F=Tryz.pinned.checked.prog.looks []/\∀ (j:M) t,a.params[j]?=S t->Tryz.pinned.checked.prog.wantsStandIn t=F:=by
 obtain rfl : f = 3 := Option.some.inj ((show Tryz.prog.funcNamed "linker/linkerkeep.Means" = S 3 by kernel_rfl).symm.trans e) |>.symm
 obtain rfl:a=Tryz.f3:=(Option.some.inj (Tryz.func3.symm.trans b)).symm;refine⟨by kernel_rfl,fun j t d=>?_⟩;rw[Tryz.params3]at d;have c:=Array.mem_of_getElem? d;simp only[List.mem_toArray,nk,List.not_mem_nil,or_false]at c;rcases c with rfl | rfl | rfl | rfl | rfl | rfl
 ·exact(show Tryz.prog.wantsStandIn 22=F by kernel_rfl)
 ·exact(show Tryz.prog.wantsStandIn 3=F by kernel_rfl)
 ·exact(show Tryz.prog.wantsStandIn 3=F by kernel_rfl)
 ·exact(show Tryz.prog.wantsStandIn 3=F by kernel_rfl)
 ·exact(show Tryz.prog.wantsStandIn 23=F by kernel_rfl)
 ·exact(show Tryz.prog.wantsStandIn 3=F by kernel_rfl)
theorem means_card:Rows.MeansCardSaid :=
 Claim7.holds_tied_plain_at .later [] _ _ _ _ acv (λ_ h=>by cases h) (by kernel_rfl) (λ_ h=>by cases h) means_row_tie R ⟨R,R⟩ (by kernel_rfl) R abF (by kernel_rfl)
