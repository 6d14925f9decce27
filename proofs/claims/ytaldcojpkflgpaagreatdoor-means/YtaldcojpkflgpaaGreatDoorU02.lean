import Derived.Test.YtaldcojpkflgpaaGreatDoorU01
import Derived.Deep.RegionHeld3
import Derived.Laws.BitsAllLaws
import Derived.WalkKit
set_option maxHeartbeats 16000000
set_option maxRecDepth 100000
open Go.Value renaming int->I,pointer->aM,string->aB,bool->aJ,slice->ak
open Go.IntKind renaming i64->J
open Go renaming World->av,Obj->dN,Addr->aY,Value->aC,wpAny_take->kH,wpAny_ready->wZ,undef->tI,bits->aT,ofInt_u64->Ix,bodyPost_ret->bj
open _root_ renaming Nat->M,beq_eq_false_iff_ne->df,beq_iff_eq->dQ,decide_eq_true_iff->gO,rfl->R,List->L,UInt8->aL,Option->aR,Array->dJ,Int->Z,if_neg->ax,if_pos->aD,ByteArray->bT,Bool->bc
open Go.World.grownBy renaming refl->aW
open Go.Ending renaming returned->aH
open List renaming length->ah,length_take->iO,getElem_take->yH,range->rA,mem_range->Cv,getD_eq_getElem?_getD->bQ,getElem?_eq_getElem->bW
open Option renaming some->S,none->N
open Go.World renaming grownBy->az,grownBy_alloc->aG,cell?->aq,setCell->aK,ownsRow->aV,drewN_drewN->Vu
open Bool renaming false->F,true->T,false_eq_true->pB
open Nat renaming le_refl->bz,zero_le->bG,not_lt_zero->ji,lt_succ_iff_lt_or_eq->jY,add_assoc->wm,or_lt_two_pow->kw,pow_le_pow_right->Jc,and_two_pow_sub_one_eq_mod->lO,and_or_distrib_left->NG,shiftRight_eq_div_pow->A5
open Go.RowKit renaming intOf->aN,wrap64->iN
open Go.IntWalk renaming i64_in->dD,wrap64_in->jt
open Int renaming eq_ofNat_of_zero_le->eX,toNat_natCast->dy
namespace Go.Proofs.YtaldcojpkflgpaaGreatDoor
open Go.RowKit Go.Proofs.Tryz
variable {W w:av} {g:M}
def tu(o:aF)(y:dz):Prop :=
 mW (bs y.name)/\(0<=y.bind/\y.bind<=2)/\(0<=y.au/\y.au<=4)/\¬(y.au=0/\y.bind=0)/\0<=y.off/\y.off%4=0/\y.off<=4*iU o y.au
theorem yr.drewN{o:aF}(h:yr W g o)(n:M):yr (W.drewN n) g o:=h.kept (ye (aW _ _) n)
theorem QQ(g:Nat)(o:aF)(y:dz)(w:av)(h:yr w g o)(p:mD o)(u:0<=o.bf/\o.bf<=64)(z:ah y.name<=255):
  Calls prog 209 #[aM (some ⟨g,0,N⟩),.agg #[aB (bs y.name),I J y.bind,I J y.au,I J y.off]] w λe c=>aX e (tu o y)/\az w c N:=by
 have s:0<=iU o y.au/\iU o y.au<=65535:=by
  have:=sd p y.au
  unfold iU;split<;>omega
 have v:=ae (λW (h:yr W g o)=>KJ g o y.au W h p u);have x:=ae (λW=>acW (bs y.name) W (by rw[nK];omega));have H:=ae h;have j:=ae (show tu o y↔mW (bs y.name)/\(0<=y.bind/\y.bind<=2)/\(0<=y.au/\y.au<=4)/\¬(y.au=0/\y.bind=0)/\0<=y.off/\y.off%4=0/\y.off<=4*iU o y.au from Iff.rfl);clear h p u z;generalize tu o y=Q at *;generalize iU o y.au=L at *;generalize bs y.name=A at *;generalize mW A=P at *;obtain⟨_,c,i,f⟩:=y;simp only at *;have G:=ae (λo:dN=>aG w o N);have k:Hd (∀W,(¬Q)->az w W N->aX (aH (aJ F)) Q/\az w W N):=λW a b=>⟨aX.no a,b⟩
 go_enter func209,ntmps209;go_wp2_with fail;refine(x.o _).mono ?_;rintro e w1 ⟨t,rfl⟩;rcases t.split with ⟨rfl,q⟩|⟨rfl,q⟩<;>clear t
 ·go_wp2;go_ret;exact k.o _ (λc=>q.o (j.o.1 c).1) (G.o _)
 by_cases X:c<0
 ·have d:decide (c<0)=T:=by simp;omega
  go_wp2;go_ret;exact k.o _ (λc=>by have:=(j.o.1 c).2.1.1;omega) (G.o _)
 have D:decide (c<0)=F:=by simp;omega
 by_cases Y:2<c
 ·have d:decide (2<c)=T:=by simp;omega
  go_wp2;go_ret;exact k.o _ (λc=>by have:=(j.o.1 c).2.1.2;omega) (G.o _)
 have E:decide (2<c)=F:=by simp;omega
 by_cases M:i<0
 ·have d:decide (i<0)=T:=by simp;omega
  go_wp2;go_ret;exact k.o _ (λc=>by have:=(j.o.1 c).2.2.1.1;omega) (G.o _)
 have K:decide (i<0)=F:=by simp;omega
 by_cases S:4<i
 ·have d:decide (4<i)=T:=by simp;omega
  go_wp2;go_ret;exact k.o _ (λc=>by have:=(j.o.1 c).2.2.1.2;omega) (G.o _)
 have O:decide (4<i)=F:=by simp;omega
 by_cases l:i=0/\c=0
 ·have B:i<=0:=by omega
  have C:c<=0:=by omega
  have m:=ae l;clear l;go_wp2;go_ret;exact k.o _ (λc=>(j.o.1 c).2.2.2.1 m.o) (G.o _)
 have m:=ae l;rcases (show 1<=i\/(i=0/\1<=c)from by omega)with B|⟨rfl,C⟩<;>clear l
 all_goals
  by_cases Z:f<0
  ·have d:decide (0<=f)=F:=by simp;omega
   go_wp2
   go_quiet (fail)
   go_wp2;go_ret;exact k.o _ (λc=>by have:=(j.o.1 c).2.2.2.2.1;omega) (ye (G.o _) _)
  have U:decide (0<=f)=T:=by simp;omega
  have r:0<=f:=by omega
  by_cases l:f%4=0
  rotate_left
  ·have d:(f%4==0)=F:=df.2 l;have n:=ae l;clear l;go_wp2
   go_quiet (fail)
   go_wp2;go_ret;exact k.o _ (λc=>n.o (j.o.1 c).2.2.2.2.2.1) (ye (G.o _) _)
  have V:(f%4==0)=T:=dQ.2 l;have n:=ae l;clear l;go_wp2
  go_quiet ((go_at_call 118;exact Calls.quiet_of_same (v.o _ ((H.o.kept (G.o _)).drewN _))))
  go_wp2;go_ret;refine⟨aX.of ?_,ye (G.o _) _⟩;rw[j.o,gO];exact⟨λh=>⟨q.o,⟨by omega,by omega⟩,⟨by omega,by omega⟩,m.o,r,n.o,h⟩,λh=>h.2.2.2.2.2.2⟩
def xl(o:aF):Prop:=∀i (h:i<ah o.aE),tu o o.aE[i]/\¬ ∃j,∃hj:j<ah o.aE,j<i/\o.aE[j].name=o.aE[i].name
theorem aao(g:M)(o:aF)(y:dz)(w:av)(h:yr w g o)(c:mD o)(f:0<=o.bf/\o.bf<=64)(b:ah y.name<=255)(d:tu o y):
  Calls prog 209 #[aM (S ⟨g,0,N⟩),.agg #[aB (bs y.name),I J y.bind,I J y.au,I J y.off]] w λe a=>e=aH (aJ T)/\az w a N :=
 (QQ g o y w h c f b).mono λe a ⟨t,k⟩=>by
  rcases t.split with ⟨_,p⟩|⟨rfl,_⟩
  ·exact absurd d p.o
  ·exact⟨R,k⟩
theorem aae(g:M)(o:aF)(y:dz)(w:av)(h:yr w g o)(c:mD o)(f:0<=o.bf/\o.bf<=64)(b:ah y.name<=255)(d:¬tu o y):
  Calls prog 209 #[aM (S ⟨g,0,N⟩),.agg #[aB (bs y.name),I J y.bind,I J y.au,I J y.off]] w λe a=>e=aH (aJ F)/\az w a N :=
 (QQ g o y w h c f b).mono λe a ⟨t,k⟩=>by
  rcases t.split with ⟨rfl,_⟩|⟨_,p⟩
  ·exact⟨R,k⟩
  ·exact absurd p.o d
theorem acJ(ys:L dz)(k:M)(d:k<ah ys)(a:L aL):(∃i,∃h:i<(ys.take k).length,(ys.take k)[i].name=a)↔∃j,∃b:j<ah ys,j<k/\ys[j].name=a:=by
 constructor
 ·rintro⟨i,h,e⟩;simp only[iO]at h;refine⟨i,by omega,by omega,?_⟩;rw[yH]at e;exact e
 ·rintro⟨j,b,c,e⟩;refine⟨j,by simp;omega,?_⟩;rw[yH];exact e
theorem gH.take{b:aR aY}{ys:L dz}(h:gH w b ys)(k:M):gH w b (ys.take k):=by
 intro c;simp only[iO]at c;obtain⟨g,d,e,f⟩:=h (by omega);refine⟨g,d,e,λi j=>?_⟩;have a:i<ah ys:=by simp at j;omega
 have:=f i a
 simpa[yH]using this
theorem R7(b:aR aY)(cap k:M)(ys:L dz)(a:L aL)(w:av)(h:gH w b ys)(i:ah ys<=65535)(f:k<ah ys):
  Calls prog 210 #[ak b k cap,aB (bs a)] w λe b=>aX e (∃j,∃f:j<ah ys,j<k/\ys[j].name=a)/\az w b N:=by
 have d:(ys.take k).length=k:=by simp;omega
 have c:=(adt b cap (ys.take k) a w (h.take k) (by omega)).mono λe b (d:_/\_)=>(⟨d.1.iff (acJ ys k f a),d.2⟩:aX e (∃j,∃f:j<ah ys,j<k/\ys[j].name=a)/\az w b N)
 rw[d]at c;exact c
theorem aec(a:aR aY)(cap k:M)(ys:L dz)(b:L aL)(w:av)(h:gH w a ys)(f:ah ys<=65535)(d:k<ah ys)(i:∃j,∃a:j<ah ys,j<k/\ys[j].name=b):
  Calls prog 210 #[ak a k cap,aB (bs b)] w λe c=>e=aH (aJ T)/\az w c N :=
 (R7 a cap k ys b w h f d).mono λe c ⟨t,q⟩=>by
  rcases t.split with ⟨_,p⟩|⟨rfl,_⟩
  ·exact absurd i p.o
  ·exact⟨R,q⟩
theorem afg(a:aR aY)(cap k:M)(ys:L dz)(b:L aL)(w:av)(h:gH w a ys)(f:ah ys<=65535)(d:k<ah ys)(i:¬ ∃j,∃a:j<ah ys,j<k/\ys[j].name=b):
  Calls prog 210 #[ak a k cap,aB (bs b)] w λe c=>e=aH (aJ F)/\az w c N :=
 (R7 a cap k ys b w h f d).mono λe c ⟨t,q⟩=>by
  rcases t.split with ⟨rfl,_⟩|⟨_,p⟩
  ·exact⟨R,q⟩
  ·exact absurd p.o i
theorem yr.drew{o:aF}(h:yr W g o):yr W.drew g o:=h.kept ⟨R,R,R,bz _,λ_ _ _=>rfl⟩
theorem ql(t:dJ aC)(a:L Deferred)(i:Tmp)(v:aC):Act.put ⟨t,a⟩ (S i) v=⟨t.setIfInBounds i v,a⟩:=R
theorem yf{a b:av}{c:aR M}(h:az a b c):az a b.drew c:=⟨h.os,h.tape,h.output,h.size,h.block⟩
theorem yd{b:av}{a:aY}{v:aC}(h:aq w a=S v)(c:az w b N):aq b a=S v:=c.cell h (by simp)
theorem ZS(g:M)(o:aF)(w:av)(h:yr w g o)(O:mD o)(hz:0<=o.bf/\o.bf<=64)(x:∀y∈o.aE,ah y.name<=255):
  Calls prog 187 #[aM (S ⟨g,0,N⟩)] w λe d=>aX e (xl o)/\az w d N:=by
 obtain⟨at_,ct,af,cf,ad,cd,aa,ca,gP,n,ar,cr,c,f,l,m,p,d,q⟩:=h.open;have k5:=c.cell 5;have a:=ae (gH.dh d);have b:=kF d;have z:=O.2.2.2.2.1;have qw:=ae hz;have HL:=ae x;have B:=ae h;have HN:=ae O;have T:=ae c;have hgw:=c.lt;clear h O x c f l m p d q hz;have G:=b.1;have p:=b.2;unfold maxLen at p;clear b;go_enter func187,ntmps187;go_wp2
 go_loopw [10] (λi wr=>∃k:M,k<=ah o.aE/\i=I J k/\(∀i (h:i<ah o.aE),i<k->tu o o.aE[i]/\¬ ∃j,∃u:j<ah o.aE,j<i/\o.aE[j].name=o.aE[i].name)/\az w wr N) (λi _=>ah o.aE-(aN i).toNat)
 case atStart=>exact⟨0,bG _,R,λj _ u=>absurd u (ji j),aW _ _⟩
 case round=>
  obtain⟨k,hk,rfl,b,c⟩:=hrel;have F:=ae b;have l:=ae c;clear b c;by_cases f:k<ah o.aE
  ·obtain⟨m,s,hgs,b⟩:=a.o.grown l.o (by omega);have JH:=ae s;subst s;obtain⟨q0,q1,q2,q3⟩:=b k f;clear b;have x:=HL.o o.aE[k] (List.getElem_mem f);have hgl:g<wr.heap.size:=(T.o.grown l.o (by simp)).lt;have t:=(T.o.grown l.o (by simp)).cell 5;have hne:=World.new_ne wr ⟨g,5,N⟩ (by simpa using t);have c:=aG wr (.cells #[aB (bs o.aE[k].name),I J o.aE[k].bind,I J o.aE[k].au,I J o.aE[k].off] 107) N;have b:=aA.new wr #[aB (bs o.aE[k].name),I J o.aE[k].bind,I J o.aE[k].au,I J o.aE[k].off] 107
   have c0:Hd (((wr.alloc (.cells #[aB (bs o.aE[k].name),I J o.aE[k].bind,I J o.aE[k].au,I J o.aE[k].off] 107)).drew).cell? ⟨wr.heap.size,0,N⟩=S (aB (bs o.aE[k].name))):=b.cell 0;have c1:Hd (((wr.alloc (.cells #[aB (bs o.aE[k].name),I J o.aE[k].bind,I J o.aE[k].au,I J o.aE[k].off] 107)).drew).cell? ⟨wr.heap.size,1,N⟩=S (I J o.aE[k].bind)):=b.cell 1;have c2:Hd (((wr.alloc (.cells #[aB (bs o.aE[k].name),I J o.aE[k].bind,I J o.aE[k].au,I J o.aE[k].off] 107)).drew).cell? ⟨wr.heap.size,2,N⟩=S (I J o.aE[k].au)):=b.cell 2
   have c3:Hd (((wr.alloc (.cells #[aB (bs o.aE[k].name),I J o.aE[k].bind,I J o.aE[k].au,I J o.aE[k].off] 107)).drew).cell? ⟨wr.heap.size,3,N⟩=S (I J o.aE[k].off)):=b.cell 3;have c4:Hd (((wr.alloc (.cells #[aB (bs o.aE[k].name),I J o.aE[k].bind,I J o.aE[k].au,I J o.aE[k].off] 107)).drew).cell? ⟨g,5,N⟩=S (ak (S ⟨m,0,N⟩) (ah o.aE) n)):=yd (show aq wr ⟨g,5,N⟩=S (ak (S ⟨m,0,N⟩) (ah o.aE) n)from by simpa using t) (yf c);clear c b;have hk1:(0:Z)<=(k:Z):=by omega
   have hk2:(k:Z)<=(n:Z):=by omega
   by_cases r:tu o o.aE[k]
   ·have A:=ae (λW (a:yr W g o)=>aao g o o.aE[k] W a HN.o qw.o x r);have C:=ae r;clear r;by_cases q:∃j,∃u:j<ah o.aE,j<k/\o.aE[j].name=o.aE[k].name
    ·have E:=ae (λW (a:gH W (S ⟨m,0,N⟩) o.aE)=>aec (S ⟨m,0,N⟩) n k o.aE o.aE[k].name W a z f q);have D:=ae q;clear q;go_wp2
     go_region_held3 (λd=>aq d ⟨wr.heap.size,0,N⟩=S (aB (bs o.aE[k].name))/\aq d ⟨wr.heap.size,1,N⟩=S (I J o.aE[k].bind)/\aq d ⟨wr.heap.size,2,N⟩=S (I J o.aE[k].au)/\aq d ⟨wr.heap.size,3,N⟩=S (I J o.aE[k].off)/\aq d ⟨g,5,N⟩=S (ak (S ⟨m,0,N⟩) (ah o.aE) n))
      (go_keep)
      (first|(go_at_call 209;refine(A.o _ (yr.drew (yr.kept (B.o.kept l.o) (aG _ _ _)))).mono ?_;rintro e d ⟨rfl,c⟩;have P:=yd c0.o c;have Q:=yd c1.o c;have U:=yd c2.o c;have V:=yd c3.o c;have X:=yd c4.o c)|(go_at_call 210;refine(E.o _ ?_).mono ?_;(exact((a.o.grown l.o).grown (yf (aG _ _ _))).grown c);rintro e Y ⟨rfl,b⟩;have z0:=yd P b;have z1:=yd Q b;have z2:=yd U b;have z3:=yd V b;have z4:=yd X b))
     go_wp2;go_ret;exact⟨aX.no (λa=>(a k f).2 D.o),ya (ya l.o (ya (yf (aG _ _ _)) c)) b⟩
    ·have E:=ae (λW (a:gH W (S ⟨m,0,N⟩) o.aE)=>afg (S ⟨m,0,N⟩) n k o.aE o.aE[k].name W a z f q);have D:=ae q;clear q;go_wp2
     go_region_held3 (λd=>aq d ⟨wr.heap.size,0,N⟩=S (aB (bs o.aE[k].name))/\aq d ⟨wr.heap.size,1,N⟩=S (I J o.aE[k].bind)/\aq d ⟨wr.heap.size,2,N⟩=S (I J o.aE[k].au)/\aq d ⟨wr.heap.size,3,N⟩=S (I J o.aE[k].off)/\aq d ⟨g,5,N⟩=S (ak (S ⟨m,0,N⟩) (ah o.aE) n))
      (go_keep)
      (first|(go_at_call 209;refine(A.o _ (yr.drew (yr.kept (B.o.kept l.o) (aG _ _ _)))).mono ?_;rintro e d ⟨rfl,c⟩;have P:=yd c0.o c;have Q:=yd c1.o c;have U:=yd c2.o c;have V:=yd c3.o c;have X:=yd c4.o c)|(go_at_call 210;refine(E.o _ ?_).mono ?_;(exact((a.o.grown l.o).grown (yf (aG _ _ _))).grown c);rintro e Y ⟨rfl,b⟩;have z0:=yd P b;have z1:=yd Q b;have z2:=yd U b;have z3:=yd V b;have z4:=yd X b))
     go_wp2
     go_roundw
     case rel=>exact⟨k+1,by omega,by go_num,λj u H=>(jY.1 H).elim (λh=>F.o j u h) (λh=>by subst h;exact⟨C.o,D.o⟩),ya (ya l.o (ya (yf (aG _ _ _)) c)) b⟩
     case measure=>simp[aN];omega
   ·have A:=ae (λW (a:yr W g o)=>aae g o o.aE[k] W a HN.o qw.o x r);have C:=ae r;clear r;go_wp2;refine wp_region_any (by kernel_rfl) ?_
    change wpAny _ Region.Mode.any _ _ _ _ _ (World.drew (wr.alloc _))
    refine kH (i:=0) (v:=?_) R (by kernel_rfl) (by kernel_rfl) (by kernel_rfl) (λ_ _ _ h=>h) (Or.inl ⟨by rfl,?_⟩) ?_
    rotate_left
    ·intro w;go_simp;with_reducible rfl
    refine wZ (rs:=[1]) (by kernel_rfl) (by simp) ?_;refine AllReady.cons R (λK b=>?_) AllReady.nil;go_simp;refine b _ _ ?_;clear b K;refine wZ (rs:=[2]) (by kernel_rfl) (by simp) ?_;refine AllReady.cons R (λK b=>?_) AllReady.nil;go_simp;go_wp2_with (go_at_call 209;refine(A.o _ ?_).mono ?_;(exact(yr.drew (yr.kept (B.o.kept l.o) (aG _ _ _))));rintro e d ⟨rfl,c⟩)
    refine kH (i:=3) (v:=?_) R (by kernel_rfl) (by kernel_rfl) (by kernel_rfl) (λ_ _ _ h=>h) (Or.inl ⟨by rfl,?_⟩) ?_
    rotate_left
    ·intro w;go_simp;with_reducible rfl
    refine kH (i:=4) (v:=?_) R (by kernel_rfl) (by kernel_rfl) (by kernel_rfl) (λ_ _ _ h=>h) (Or.inl ⟨by rfl,?_⟩) ?_
    rotate_left
    ·intro w;go_simp;with_reducible rfl
    refine kH (i:=5) (v:=tI) R (by kernel_rfl) (by kernel_rfl) (by kernel_rfl) (λ_ _ _ h=>h) (Or.inr ⟨by kernel_rfl,R⟩) ?_;refine kH (i:=6) (v:=tI) R (by kernel_rfl) (by kernel_rfl) (by kernel_rfl) (λ_ _ _ h=>h) (Or.inr ⟨by kernel_rfl,R⟩) ?_;refine kH (i:=7) (v:=tI) R (by kernel_rfl) (by kernel_rfl) (by kernel_rfl) (λ_ _ _ h=>h) (Or.inr ⟨by kernel_rfl,R⟩) ?_;refine kH (i:=8) (v:=tI) R (by kernel_rfl) (by kernel_rfl) (by kernel_rfl) (λ_ _ _ h=>h) (Or.inr ⟨by kernel_rfl,R⟩) ?_;refine kH (i:=9) (v:=tI) R (by kernel_rfl) (by kernel_rfl) (by kernel_rfl) (λ_ _ _ h=>h) (Or.inr ⟨by kernel_rfl,R⟩) ?_
    refine kH (i:=10) (v:=tI) R (by kernel_rfl) (by kernel_rfl) (by kernel_rfl) (λ_ _ _ h=>h) (Or.inr ⟨by kernel_rfl,R⟩) ?_;refine kH (i:=11) (v:=tI) R (by kernel_rfl) (by kernel_rfl) (by kernel_rfl) (λ_ _ _ h=>h) (Or.inr ⟨by kernel_rfl,R⟩) ?_;refine kH (i:=12) (v:=tI) R (by kernel_rfl) (by kernel_rfl) (by kernel_rfl) (λ_ _ _ h=>h) (Or.inr ⟨by kernel_rfl,R⟩) ?_;refine kH (i:=13) (v:=tI) R (by kernel_rfl) (by kernel_rfl) (by kernel_rfl) (λ_ _ _ h=>h) (Or.inr ⟨by kernel_rfl,R⟩) ?_;refine kH (i:=14) (v:=aJ true) R (by kernel_rfl) (by kernel_rfl) (by kernel_rfl) (λ_ _ _ h=>h) (Or.inl ⟨by kernel_rfl,λ_=>by kernel_rfl⟩) ?_
    refine wpAny_done (by kernel_rfl) ?_ _;simp only[ql,List.getElem_toArray,List.getElem_cons_succ,List.getElem_cons_zero,List.setIfInBounds_toArray,List.set_cons_succ,List.set_cons_zero];go_wp2;go_ret;exact⟨aX.no (λa=>C.o (a k f).1),ya l.o (ya (yf (aG _ _ _)) c)⟩
  ·go_wp2;go_ret;exact⟨aX.iV λi a=>F.o i a (by omega),l.o⟩
def lz(r:cg):Prop:=((r.au=1\/r.au=2)/\1<=r.kind/\r.kind<=6)\/(r.au=3/\r.kind=1)
def fX(r:cg):Prop:=if r.kind=1\/r.kind=5 then -2048<=r.bh/\r.bh<=2047 else if r.kind=6 then r.bh=4\/r.bh=12 else r.bh=0
def pu(o:aF)(r:cg):Prop:=if r.kind=6 then r.sym=0 else 0<=r.sym/\r.sym<ah o.aE
def yy(r:cg):Z:=if r.kind=4\/r.kind=5 then 2 else if r.kind=6 then r.bh/4 else 1
def eU(r:cg):aC:=.agg #[I J r.au,I J r.off,I J r.kind,I J r.sym,I J r.bh]
theorem yW{r:cg}(h:fX r):1<=yy r/\yy r<=3:=by
 unfold fX at h;unfold yy;split
 ·omega
 ·split
  ·rename_i b a;rw[ax (by omega),aD a]at h;omega
  ·omega
theorem aaL(r:cg)(w:av):
  Calls prog 245 #[eU r] w λe a=>aX e (lz r)/\az w a N:=by
 have G:=ae (λo:dN=>aG w o N);have c:=ae (show lz r↔((r.au=1\/r.au=2)/\1<=r.kind/\r.kind<=6)\/(r.au=3/\r.kind=1)from Iff.rfl);unfold eU;generalize lz r=Q at *;obtain⟨b,k,a,l,h⟩:=r;simp only at *;by_cases d:b=1
 ·subst d;by_cases j:1<=a
  ·have i:decide (1<=a)=T:=by simpa using j
   go_enter func245,ntmps245;go_wp2;go_ret;exact⟨aX.of (by rw[c.o,gO];simp;omega),G.o _⟩
  ·have i:decide (1<=a)=F:=by simp;omega
   go_enter func245,ntmps245;go_wp2;go_ret;exact⟨aX.no (by rw[c.o];omega),G.o _⟩
 have i:(b==1)=F:=df.2 d;by_cases f:b=2
 ·subst f;clear d;by_cases j:1<=a
  ·have i:decide (1<=a)=T:=by simpa using j
   go_enter func245,ntmps245;go_wp2;go_ret;exact⟨aX.of (by rw[c.o,gO];simp;omega),G.o _⟩
  ·have i:decide (1<=a)=F:=by simp;omega
   go_enter func245,ntmps245;go_wp2;go_ret;exact⟨aX.no (by rw[c.o];omega),G.o _⟩
 have m:(b==2)=F:=df.2 f;by_cases j:b=3
 ·subst j;clear d f;go_enter func245,ntmps245;go_wp2;go_ret;exact⟨aX.of (by rw[c.o,dQ];simp),G.o _⟩
 have n:(b==3)=F:=df.2 j;have E:=ae (⟨d,f,j⟩:b≠1/\b≠2/\b≠3);clear d f j;go_enter func245,ntmps245;go_wp2;go_ret;exact⟨aX.no (by rw[c.o];have:=E.o;omega),G.o _⟩
theorem aam(r:cg)(w:av):
  Calls prog 246 #[eU r] w λe a=>aX e (fX r)/\az w a N:=by
 have G:=ae (λo:dN=>aG w o N);have d:=ae (show fX r↔if r.kind=1\/r.kind=5 then -2048<=r.bh/\r.bh<=2047 else if r.kind=6 then r.bh=4\/r.bh=12 else r.bh=0 from Iff.rfl);unfold eU;generalize fX r=Q at *;obtain⟨n,l,b,m,a⟩:=r;simp only at *;by_cases h:b=1\/b=5
 ·have c:=ae (show Q↔-2048<=a/\a<=2047 from by rw[d.o,aD h]);clear d;by_cases f:-2048<=a
  ·have i:decide (-2048<=a)=T:=by simpa using f
   rcases h with rfl|rfl
   all_goals
    go_enter func246,ntmps246;go_wp2;go_ret;exact⟨aX.of (by rw[c.o,gO];omega),G.o _⟩
  ·have i:decide (-2048<=a)=F:=by simp;omega
   rcases h with rfl|rfl
   all_goals
    go_enter func246,ntmps246;go_wp2;go_ret;exact⟨aX.no (by rw[c.o];omega),G.o _⟩
 by_cases j:b=6
 ·subst j;have c:=ae (show Q↔a=4\/a=12 from by rw[d.o,ax (by omega),aD R]);clear d h;by_cases f:a=4
  ·subst f;go_enter func246,ntmps246;go_wp2;go_ret;exact⟨aX.iV (by rw[c.o];simp),G.o _⟩
  ·have i:(a==4)=F:=df.2 f;have k:=ae f;clear f;go_enter func246,ntmps246;go_wp2;go_ret;exact⟨aX.of (by rw[c.o,dQ];have:=k.o;omega),G.o _⟩
 ·have c:=ae (show Q↔a=0 from by rw[d.o,ax h,ax j]);have i:(b==1)=F:=df.2 (by omega);have f:(b==5)=F:=df.2 (by omega);have k:(b==6)=F:=df.2 (by omega);clear d h j;go_enter func246,ntmps246;go_wp2;go_ret;exact⟨aX.of (by rw[c.o,dQ]),G.o _⟩
theorem DF(r:cg)(w:av)(h:r.kind=6->r.bh=4\/r.bh=12):
  Calls prog 192 #[eU r] w λe a=>e=aH (I J (yy r))/\az w a N:=by
 have G:=ae (λo:dN=>aG w o N);unfold eU yy;obtain⟨l,j,a,k,c⟩:=r;simp only at *;by_cases b:a=4
 ·subst b;go_enter func192,ntmps192;go_wp2;go_ret;exact⟨by simp,G.o _⟩
 by_cases d:a=5
 ·subst d;clear b;go_enter func192,ntmps192;go_wp2;go_ret;exact⟨by simp,G.o _⟩
 by_cases f:a=6
 ·subst f;have i:=h R;clear b d h;rcases i with rfl|rfl
  all_goals
   go_enter func192,ntmps192;go_wp2;go_ret;exact⟨by simp,G.o _⟩
 have i:(a==4)=F:=df.2 b;have m:(a==5)=F:=df.2 d;have n:(a==6)=F:=df.2 f;rw[ax (by omega),ax f];clear b d f h;go_enter func192,ntmps192;go_wp2;go_ret;exact⟨R,G.o _⟩
theorem fX.six{r:cg}(h:fX r)(a:r.kind=6):r.bh=4\/r.bh=12:=by
 unfold fX at h;rw[ax (by omega),aD a]at h;exact h
theorem abV(g:M)(o:aF)(r:cg)(w:av)(h:yr w g o)(k:mD o):
  Calls prog 247 #[aM (S ⟨g,0,N⟩),eU r] w λe a=>aX e (pu o r)/\az w a N:=by
 have G:=ae (λo:dN=>aG w o N);have d:=ae (show pu o r↔if r.kind=6 then r.sym=0 else 0<=r.sym/\r.sym<(ah o.aE)from Iff.rfl);obtain⟨m,C,u,z,t,y,s,x,E,B,v,A,a,-⟩:=h.open;have f:=λb:dN=>(a.grown (aG w b N) (by simp)).cell 5
 have p:=k.2.2.2.2.1;clear h a k;unfold eU;generalize pu o r=Q at *;generalize (ah o.aE)=n at *;obtain⟨l,j,b,a,c⟩:=r;simp only at *;have q:=f (.cells #[I J l,I J j,I J b,I J a,I J c] 75);clear f;by_cases f:b=6
 ·subst f;have i:=ae (show Q↔a=0 from by rw[d.o,aD R]);clear d;go_enter func247,ntmps247;go_wp2;go_ret;exact⟨aX.of (by rw[i.o,dQ]),G.o _⟩
 have i:=ae (show Q↔0<=a/\a<n from by rw[d.o,ax f]);have D:(b==6)=F:=df.2 f;clear d f;by_cases d:0<=a
 ·have f:decide (0<=a)=T:=by simpa using d
  go_enter func247,ntmps247;go_wp2
  go_quiet (fail)
  go_wp2;go_ret;exact⟨aX.of (by rw[i.o,gO];omega),ye (G.o _) _⟩
 ·have f:decide (0<=a)=F:=by simp;omega
  go_enter func247,ntmps247;go_wp2
  go_quiet (fail)
  go_wp2;go_ret;exact⟨aX.no (by rw[i.o];omega),ye (G.o _) _⟩
def lX(x:Z):Z:=if x=2 then 4 else if x=3 then 8 else 16
theorem Ro(g:M)(o:aF)(a:M)(w:av)(h:yr w g o)(c:pj o.align)(H:1<=a)(K:a<=3):
  Calls prog 117 #[aM (S ⟨g,0,N⟩),I J a] w λe d=>e=aH (I J (lX (o.align[a-1]'(by have:=c.1;omega))))/\d=w:=by
 obtain⟨l,C,t,z,s,y,r,v,G,B,u,A,b,-,-,-,k,-⟩:=h.open;have p:=c.1;have f:=c.2 (a-1) (by omega);obtain⟨m,i,rfl,j⟩:=yq.dh k (by omega);have d:=j (a-1) (by omega);have P:=b.cell 4;clear h b j k;have D:(1:Z)<=(a:Z):=by omega
 have E:(a:Z)<=3:=by omega
 have j:=ae p;have k:4<=ah o.align:=by omega
 have q:ah o.align<=4:=by omega
 have b:a-1<ah o.align:=by omega
 have O:aq w ⟨m,i+(a-1),N⟩=S (I J (o.align[a-1]'b)):=d;clear d;show Calls _ _ _ _ λe d=>e=aH (I J (lX (o.align[a-1]'b)))/\d=w
 replace f:2<=o.align[a-1]'b/\o.align[a-1]'b<=4:=f;generalize o.align[a-1]'b=x at *;generalize (ah o.align)=n at *;rcases (show x=2\/x=3\/x=4 from by omega)with rfl|rfl|rfl
 all_goals
  clear f j c;go_enter func117,ntmps117;go_wp2;go_ret;exact⟨by simp[lX],R⟩
def nI(a r:cg):Prop:=if r.au=a.au then a.off+4*yy a<=r.off else a.au<r.au
theorem abo(a r:cg)(w:av)(h:fX a)(O:0<=a.off)(P:a.off<=1048576):
  Calls prog 212 #[eU a,eU r] w λe c=>aX e (nI a r)/\az w c N:=by
 have K:=yW h;have G:=ae (λW=>DF a W h.six);have i:=ae (show nI a r↔if r.au=a.au then a.off+4*yy a<=r.off else a.au<r.au from Iff.rfl);have s:=ae (λo:dN=>aG w o N);have t:=ae (λo b:dN=>aG (w.alloc o) b N);generalize nI a r=Q at *;generalize yy a=y at *;obtain⟨p,j,m,n,l⟩:=a;obtain⟨b,f,v,x,u⟩:=r;unfold eU at *;simp only at *;clear h;by_cases k:b=p
 ·subst k;have q:=ae (show Q↔j+4*y<=f from by rw[i.o,aD R]);clear i;have H:(b==b)=T:=by simp
  go_enter func212,ntmps212;go_wp2;have c:=(aA.new w #[I J b,I J j,I J m,I J n,I J l] 75).grown (yf (aG _ (.cells #[I J b,I J f,I J v,I J x,I J u] 75) N)) (by simp);have z:=ae (c.cell 0);have A:=ae (c.cell 1);have B:=ae (c.cell 2);have C:=ae (c.cell 3);have D:=ae (c.cell 4);have d:(((w.alloc (.cells #[I J b,I J j,I J m,I J n,I J l] 75)).alloc (.cells #[I J b,I J f,I J v,I J x,I J u] 75)).drew).cell? ⟨w.heap.size+1,1,N⟩=S (I J f):=by simp
  have E:=ae d;clear d;clear c
  go_region_held3 (λc=>aq c ⟨w.heap.size,0,N⟩=S (I J b)/\aq c ⟨w.heap.size,1,N⟩=S (I J j)/\aq c ⟨w.heap.size,2,N⟩=S (I J m)/\aq c ⟨w.heap.size,3,N⟩=S (I J n)/\aq c ⟨w.heap.size,4,N⟩=S (I J l)/\aq c ⟨w.heap.size+1,1,N⟩=S (I J f))
   (go_keep)
   (first|(go_at_call 192;refine(G.o _).mono ?_;rintro e c ⟨rfl,d⟩;have U:=yd z.o d;have V:=yd A.o d;have X:=yd B.o d;have Y:=yd C.o d;have F:=yd D.o d;have L:=yd E.o d))
  go_wp2;go_ret;exact⟨aX.of (by rw[q.o,gO,dD (4*y) ⟨by omega,by omega⟩,dD _ ⟨by omega,by omega⟩]),ya (ya (s.o _) (yf (t.o _ _))) d⟩
 ·have q:=ae (show Q↔p<b from by rw[i.o,ax k]);have H:(b==p)=false:=df.2 k;clear i k;go_enter func212,ntmps212;go_wp2;go_ret;exact⟨aX.of (by rw[q.o,gO]),ya (s.o _) (t.o _ _)⟩
def pY(o:aF)(r:cg):Prop:=0<=r.off/\r.off%4=0/\r.off/4+yy r<=(yp o r.au).length
def about(o:aF)(r:cg):L Z:=((yp o r.au).drop (r.off/4).toNat).take (yy r).toNat
theorem KG(g:M)(o:aF)(r:cg)(w:av)(h:yr w g o)(x:mD o)(s:fX r)(t:pY o r):
  Calls prog 194 #[aM (S ⟨g,0,N⟩),eU r] w λe a=>∃m cap,e=aH (ak m (yy r).toNat cap)/\yq a m (about o r)/\az w a N:=by
 obtain⟨p,q,l⟩:=t;have c:=yW s;have K:=ae (λW=>DF r W s.six);have O:=ae (λW (a:yr W g o)=>FU g o r.au W a);have Y:=sd x r.au;have G:=ae (λa:dN=>aG w a N);have H:=ae h;unfold about;clear h x s;generalize yy r=sp at *;obtain⟨n,rfl⟩:=eX (show 0<=sp from by omega);generalize yp o r.au=z at *;obtain⟨v,d,f,j,a⟩:=r;unfold eU at *;simp only at *;obtain⟨k,Q⟩:∃k:M,d=4*(k:Z):=⟨(d/4).toNat,by omega⟩
 have b:d/4=(k:Z):=by omega
 have m:(d/4).toNat=k:=by omega
 rw[m,dy];rw[b]at l;have C:=ae b;clear b m;subst Q;clear p q;have U:k+n<=ah z:=by omega
 have V:1<=n:=by omega
 have X:n<=3:=by omega
 clear l c;go_enter func194,ntmps194;go_wp2_with fail;refine(O.o _ (H.o.kept (G.o _))).mono ?_;rintro e w1 ⟨m,cap,rfl,⟨q,P,u⟩,b⟩;have B:=aA.new w #[I J v,I J (4*(k:Z)),I J f,I J j,I J a] 75;have l:=G.o (.cells #[I J v,I J (4*(k:Z)),I J f,I J j,I J a] 75);rw[<- b]at q B l;clear b;unfold maxLen at u;obtain⟨p,c,rfl,b⟩:=q (by omega);have D:=ae b;have F:=B.cell 0;have y:=B.cell 1;have L:=B.cell 2;have T:=B.cell 3;have k4:=B.cell 4;have A:=ae B;have E:=ae l
 clear B l q b;go_wp2_with fail;refine(K.o _).mono ?_;rintro e w2 ⟨rfl,b⟩;have m1:=yd y b;have l:=ae b;clear F y L T k4 b A;go_wp2;go_ret;refine⟨S ⟨p,c+k,N⟩,cap-k,?_,?_,ya E.o l.o⟩
 ·show aH (ak (S ⟨p,c+k,N⟩) (k+n-k) (cap-k))=_;rw[Nat.add_sub_cancel_left]
 ·intro _;refine⟨p,c+k,R,λi q=>?_⟩;have b:k+i<ah z:=by simp at q;omega
  have:=yd (D.o (k+i) b) l.o
  rw[wm,this];simp
theorem QO(g:M)(o:aF)(r:cg)(w:av)(h:yr w g o)(n:mD o)(l:fX r)(c:¬pY o r)(O:r.off<=9223372036854775807):
  Calls prog 194 #[aM (S ⟨g,0,N⟩),eU r] w λe a=>e=aH (ak N 0 0)/\az w a N:=by
 have A:=yW l;have t:=ae (λW=>DF r W l.six);have u:=ae (λW (a:yr W g o)=>FU g o r.au W a);have z:=sd n r.au;have G:=ae (λa:dN=>aG w a N);have H:=ae h;unfold pY at c;clear h n l;generalize yy r=q at *;generalize yp o r.au=D at *;obtain⟨m,a,d,i,b⟩:=r;unfold eU at *;simp only at *;have E:decide (q<1)=F:=by simp;omega
 go_enter func194,ntmps194;go_wp2_with fail;refine(u.o _ (H.o.kept (G.o _))).mono ?_;rintro e Q ⟨K,v,rfl,-,f⟩;have B:=aA.new w #[I J m,I J a,I J d,I J i,I J b] 75;have j:=G.o (.cells #[I J m,I J a,I J d,I J i,I J b] 75);rw[<- f]at B j;clear f;have s:=B.cell 0;have p:=B.cell 1;have x:=B.cell 2;have y:=B.cell 3;have C:=B.cell 4;have k:=ae j;clear B j;go_wp2_with fail;refine(t.o _).mono ?_;rintro e U ⟨rfl,f⟩;have P:=yd p f;have j:=ae f;clear s p x y C f;by_cases p:a<0
 ·have x:decide (a<0)=T:=by simpa using p
  clear c;go_wp2;go_ret;exact⟨R,ya k.o j.o⟩
 have s:0<=a:=by omega
 have x:decide (a<0)=F:=by simp;omega
 by_cases f:a%4=0
 ·have y:(a%4==0)=T:=by simpa using f
  have C:(ah D:Z)-q<a/4:=by omega
  clear c f;go_wp2;go_ret;exact⟨R,ya k.o j.o⟩
 ·have y:(a%4==0)=F:=by simpa using f
  clear c f;go_wp2;go_ret;exact⟨R,ya k.o j.o⟩
def vK(o:aF)(r:cg):Prop:=∃i,∃h:i<ah o.aE,o.aE[i].au=r.au/\r.off<o.aE[i].off/\o.aE[i].off<r.off+4*yy r
theorem QI(g:M)(o:aF)(r:cg)(w:av)(h:yr w g o)(P:mD o)(H:fX r)(h0:0<=r.off)(h1:r.off<=1048576):
  Calls prog 249 #[aM (S ⟨g,0,N⟩),eU r] w λe t=>aX e (vK o r)/\az w t N:=by
 have hsp:=yW H;have Y:=ae (λW=>DF r W H.six);obtain⟨X,ct,af,cf,ad,cd,aa,ca,gP,cs,ar,cr,a,-,-,-,-,c,-⟩:=h.open;have b:=ae (gH.dh c);have U:=ae a;have hns:=P.2.2.2.2.1;have G:=ae (λa:dN=>aG w a N);have O:=ae (show vK o r↔∃i,∃h:i<ah o.aE,o.aE[i].au=r.au/\r.off<o.aE[i].off/\o.aE[i].off<r.off+4*yy r from Iff.rfl);clear h a P H c;generalize vK o r=Q at *;generalize yy r=q at *;generalize o.aE=l at *;obtain⟨n,c,f,m,d⟩:=r;unfold eU at *;simp only at *;have B:=aA.new w #[I J n,I J c,I J f,I J m,I J d] 75
 have p:=ae (show (w.alloc (.cells #[I J n,I J c,I J f,I J m,I J d] 75)).drew.cell? ⟨w.heap.size,0,N⟩=S (I J n)from B.cell 0);have u:=ae (show (w.alloc (.cells #[I J n,I J c,I J f,I J m,I J d] 75)).drew.cell? ⟨w.heap.size,1,N⟩=S (I J c)from B.cell 1);have v:=ae (show (w.alloc (.cells #[I J n,I J c,I J f,I J m,I J d] 75)).drew.cell? ⟨w.heap.size,2,N⟩=S (I J f)from B.cell 2);have x:=ae (show (w.alloc (.cells #[I J n,I J c,I J f,I J m,I J d] 75)).drew.cell? ⟨w.heap.size,3,N⟩=S (I J m)from B.cell 3)
 have y:=ae (show (w.alloc (.cells #[I J n,I J c,I J f,I J m,I J d] 75)).drew.cell? ⟨w.heap.size,4,N⟩=S (I J d)from B.cell 4);have kS:=ae B;clear B;have a:J.wrap (4*q)=4*q:=dD _ ⟨by omega,by omega⟩;have z:J.wrap (c+4*q)=c+4*q:=dD _ ⟨by omega,by omega⟩;go_enter func249,ntmps249;go_wp2
 go_region_held3 (λt=>aq t ⟨w.heap.size,0,N⟩=S (I J n)/\aq t ⟨w.heap.size,1,N⟩=S (I J c)/\aq t ⟨w.heap.size,2,N⟩=S (I J f)/\aq t ⟨w.heap.size,3,N⟩=S (I J m)/\aq t ⟨w.heap.size,4,N⟩=S (I J d))
  (go_keep)
  (first|(go_at_call 192;refine(Y.o _).mono ?_;rintro e t ⟨rfl,s⟩;have s0:=yd p.o s;have s1:=yd u.o s;have s2:=yd v.o s;have s3:=yd x.o s;have s4:=yd y.o s))
 have A:=ae (ya (yf (G.o (.cells #[I J n,I J c,I J f,I J m,I J d] 75))) s);have k5:=(U.o.grown A.o (by simp)).cell 5;have V:=ae (kS.o.grown (ya (yf (aW _ _)) s) (by simp));clear s s0 s1 s2 s3 s4 a z p u v x y;go_wp2
 go_loopw [19] (λi wr=>∃k:M,k<=ah l/\i=I J k/\(∀j (v:j<ah l),j<k->¬(l[j].au=n/\c<l[j].off/\l[j].off<c+4*q))/\az t wr N) (λi _=>ah l-(aN i).toNat)
 case atStart=>exact⟨0,bG _,rfl,λj _ v=>absurd v (ji j),aW _ _⟩
 case round=>
  obtain⟨k,hk,rfl,a,p⟩:=hrel;have C:=ae a;have x:=ae p;clear a p;by_cases y:k<ah l
  ·obtain⟨sg,K,hgs,p⟩:=(b.o.grown A.o).grown x.o (by omega);subst K;obtain⟨q0,q1,q2,q3⟩:=p k y;have a:=V.o.grown x.o (by simp);have hne:=a.lt;have r0:=a.cell 0;have r1:=a.cell 1;have hnn:w.heap.size≠wr.heap.size:=by omega
   clear p a;have z:=ae (λa:dN=>aG wr a N);by_cases u:l[k].au=n
   ·have L:(l[k].au==n)=T:=dQ.2 u;by_cases D:c<l[k].off
    ·have R:decide (c<l[k].off)=T:=by simpa using D
     by_cases E:l[k].off<c+4*q
     ·have Z:decide (l[k].off<c+4*q)=T:=by simpa using E
      have a:=ae (show Q from O.o.2 ⟨k,y,u,D,E⟩);clear u;go_wp2;go_ret;exact⟨aX.iV a.o,ya (ya A.o x.o) (z.o _)⟩
     ·have Z:decide (l[k].off<c+4*q)=F:=by simp;omega
      have a:=ae (show ¬(l[k].au=n/\c<l[k].off/\l[k].off<c+4*q)from λh=>E h.2.2);clear u E;go_wp2
      go_roundw
      case rel=>exact⟨k+1,by omega,by go_num,λj v p=>(jY.1 p).elim (λh=>C.o j v h) (λh=>by subst h;exact a.o),ya x.o (z.o _)⟩
      case measure=>simp[aN];omega
    ·have R:decide (c<l[k].off)=F:=by simp;omega
     have a:=ae (show ¬(l[k].au=n/\c<l[k].off/\l[k].off<c+4*q)from λh=>D h.2.1);clear u D;go_wp2
     go_roundw
     case rel=>exact⟨k+1,by omega,by go_num,λj v p=>(jY.1 p).elim (λh=>C.o j v h) (λh=>by subst h;exact a.o),ya x.o (z.o _)⟩
     case measure=>simp[aN];omega
   ·have L:(l[k].au==n)=F:=df.2 u;have a:=ae (show ¬(l[k].au=n/\c<l[k].off/\l[k].off<c+4*q)from λh=>u h.1);clear u;go_wp2
    go_roundw
    case rel=>exact⟨k+1,by omega,by go_num,λj v p=>(jY.1 p).elim (λh=>C.o j v h) (λh=>by subst h;exact a.o),ya x.o (z.o _)⟩
    case measure=>simp[aN];omega
  ·go_wp2;go_ret;exact⟨aX.no (λs=>by obtain⟨i,p,a⟩:=O.o.1 s;exact C.o i p (by omega) a),ya A.o x.o⟩
theorem Kl(a b:M)(c:a<9223372036854775808)(d:b<9223372036854775808):aT .and .i64 (a:Z) (b:Z)=((a &&& b:M):Z):=by
 have e:a &&& b<2 ^ 63:=Nat.and_lt_two_pow _ (by omega);show J.wrap ((BitVec.ofInt 64 (a:Z) &&& BitVec.ofInt 64 (b:Z)).toNat:Z)=_;rw[BitVec.toNat_and,Ix a (by omega),Ix b (by omega)];exact dD _ ⟨by omega,by omega⟩
theorem sB(a b:M)(c:a<9223372036854775808)(d:b<9223372036854775808):aT .or .i64 (a:Z) (b:Z)=((a |||b:M):Z):=by
 have e:a |||b<2 ^ 63:=kw (by omega) (by omega);show J.wrap ((BitVec.ofInt 64 (a:Z) |||BitVec.ofInt 64 (b:Z)).toNat:Z)=_;rw[BitVec.toNat_or,Ix a (by omega),Ix b (by omega)];exact dD _ ⟨by omega,by omega⟩
theorem LD(n:Z)(k:M)(c:k<=40)(m:Z)(d:m=(2:Z) ^ k-1)(b:0<=n)(h:n<=4294967295):aT .and .i64 n m=n%(2:Z) ^ k:=by
 obtain⟨a,rfl⟩:=eX b;have f:0<2 ^ k:=Nat.two_pow_pos k;have i:2 ^ k<=2 ^ 40:=Jc (by decide) c;have e:m=((2 ^ k-1:M):Z):=by
  rw[d,Int.natCast_sub f];simp
 rw[e,Kl a _ (by omega) (by omega),lO];simp
theorem zn(a b:Z)(c:0<=a)(d:a<9223372036854775808)(e:0<=b)(f:b<9223372036854775808):0<=aT .or .i64 a b/\(aT .or .i64 a b=0↔a=0/\b=0):=by
 obtain⟨x,rfl⟩:=eX c;obtain⟨y,rfl⟩:=eX e;rw[sB x y (by omega) (by omega)];refine⟨by omega,?_⟩;constructor
 ·intro h;have i:x |||y=0:=by omega
  have j:x<=x |||y:=Nat.left_le_or;have k:y<=x |||y:=Nat.right_le_or;omega
 ·rintro⟨i,j⟩
  have:x=0:=by omega
  have:y=0:=by omega
  subst x y;simp
theorem za(a b:Z)(k:M)(i:k<=60)(f:0<=a)(c:a<(2:Z) ^ k)(h:0<=b)(d:b<(2:Z) ^ k):aT .or .i64 a b<(2:Z) ^ k:=by
 obtain⟨x,rfl⟩:=eX f;obtain⟨y,rfl⟩:=eX h;have e:((2 ^ k:M):Z)=(2:Z) ^ k:=by simp
 rw[<- e]at c d ⊢;have j:2 ^ k<=2 ^ 60:=Jc (by decide) i
 have:=kw (x:=x) (y:=y) (n:=k) (by omega) (by omega)
 rw[sB x y (by omega) (by omega)];omega
theorem zp(a b:M)(k:M):a &&& (b <<< k)=((a >>> k) &&& b) <<< k:=by
 apply Nat.eq_of_testBit_eq;intro i;simp only[Nat.testBit_and,Nat.testBit_shiftLeft,Nat.testBit_shiftRight];by_cases h:k<=i
 ·simp[h]
 ·simp[h]
theorem KZ(a b k:M)(h:a<2 ^ k):a |||(b <<< k)=a+b*2 ^ k:=by
 rw[Nat.or_comm,<- Nat.shiftLeft_add_eq_or_of_lt h,Nat.shiftLeft_eq];omega
theorem qo(n:Z)(d:0<=n)(f:n<=4294967295):aT .and .i64 n 28799=n%128+4096*(n/4096%8):=by
 obtain⟨a,rfl⟩:=eX d;have e:(28799:Z)=((127 |||(7 <<< 12):M):Z):=by decide
 rw[e,Kl a _ (by omega) (by decide),NG,zp];have b:a &&& 127=a%128:=lO a 7;have c:(a >>> 12) &&& 7=a/4096%8:=by rw[A5];exact lO _ 3
 rw[b,c,KZ _ _ 12 (by omega)];omega
theorem yZ(n:Z)(f:0<=n)(h:n<=4294967295):aT .and .i64 n 4261441663=n%128+4096*(n/4096%8)+33554432*(n/33554432):=by
 obtain⟨a,rfl⟩:=eX f;have e:(4261441663:Z)=(((127 |||(7 <<< 12)) |||(127 <<< 25):M):Z):=by decide
 rw[e,Kl a _ (by omega) (by decide),NG,NG,zp,zp];have b:a &&& 127=a%128:=lO a 7;have c:(a >>> 12) &&& 7=a/4096%8:=by rw[A5];exact lO _ 3
 have d:(a >>> 25) &&& 127=a/33554432%128:=by rw[A5];exact lO _ 7
 rw[b,c,d,KZ _ _ 12 (by omega),KZ _ _ 25 (by omega)];omega
theorem Lc(n:Z)(a:0<=n)(b:n<=4294967295):aT .and .i64 n 127=n%128:=LD n 7 (by decide) 127 rfl a b
theorem ag2(n:Z)(a:0<=n)(b:n<=4294967295):aT .and .i64 n 4294967295=n:=by
 rw[LD n 32 (by decide) 4294967295 rfl a b];simp only[Int.reducePow];omega
def qT(e:Ending)(P:Prop):Prop:=∃v,e=aH (I J v)/\(v=0↔P)
theorem qT.of{P:Prop}{v:Z}(h:v=0↔P):qT (aH (I J v)) P:=⟨v,R,h⟩
def ym(form n:Z):Prop :=
 if form=1\/form=2 then n/4096=0 else if form=3 then n/1048576=0 else if form=4\/form=5 then n/33554432=0/\n/128%32=0 else True
theorem low(n:Z)(k:M)(f:k<=32)(m d:Z)(e:m=(2:Z) ^ k-1)(c:d=(2:Z) ^ k)(a:0<=n)(b:n<=4294967295):aT .and .i64 n m=n%d:=by
 rw[c];exact LD n k (by omega) m e a b
theorem agC(n:Z)(a:0<=n)(b:n<=4294967295):aT .and .i64 (n/4096) 1048575=0↔ym 1 n:=by
 rw[low (n/4096) 20 (by decide) 1048575 1048576 rfl rfl (by omega) (by omega)];unfold ym;rw[aD (.inl R)];omega
def t2(n:Z):Z:=aT .or .i64 (aT .or .i64 (aT .or .i64 (iN (aT .and .i64 (n/2147483648) 1*1048576)) (iN (aT .and .i64 (n/4096) 255*4096))) (iN (aT .and .i64 (n/1048576) 1*2048))) (iN (aT .and .i64 (n/2097152) 1023*2))
theorem Tp(n:Z)(j:0<=n)(k:n<=4294967295):0<=t2 n/\t2 n<2097152/\(t2 n=0↔ym 2 n):=by
 unfold t2;rw[low (n/2147483648) 1 (by decide) 1 2 rfl rfl (by omega) (by omega),low (n/4096) 8 (by decide) 255 256 rfl rfl (by omega) (by omega),low (n/1048576) 1 (by decide) 1 2 rfl rfl (by omega) (by omega),low (n/2097152) 10 (by decide) 1023 1024 rfl rfl (by omega) (by omega)];rw[jt (n/2147483648%2*1048576) ⟨by omega,by omega⟩,jt (n/4096%256*4096) ⟨by omega,by omega⟩,jt (n/1048576%2*2048) ⟨by omega,by omega⟩,jt (n/2097152%1024*2) ⟨by omega,by omega⟩];have e:=zn (n/2147483648%2*1048576) (n/4096%256*4096) (by omega) (by omega) (by omega) (by omega)
 have h:=za (n/2147483648%2*1048576) (n/4096%256*4096) 21 (by decide) (by omega) (by simp only[Int.reducePow];omega) (by omega) (by simp only[Int.reducePow];omega);generalize aT .or .i64 (n/2147483648%2*1048576) (n/4096%256*4096)=a at *;simp only[Int.reducePow]at h;have f:=zn a (n/1048576%2*2048) (by omega) (by omega) (by omega) (by omega);have i:=za a (n/1048576%2*2048) 21 (by decide) (by omega) (by simp only[Int.reducePow];omega) (by omega) (by simp only[Int.reducePow];omega);generalize aT .or .i64 a (n/1048576%2*2048)=d at *;simp only[Int.reducePow]at i
 have b:=zn d (n/2097152%1024*2) (by omega) (by omega) (by omega) (by omega);have c:=za d (n/2097152%1024*2) 21 (by decide) (by omega) (by simp only[Int.reducePow];omega) (by omega) (by simp only[Int.reducePow];omega);simp only[Int.reducePow]at c;refine⟨b.1,c,?_⟩;rw[b.2,f.2,e.2];unfold ym;rw[aD (.inr R)];omega
def t3(n:Z):Z:=aT .and .i64 (n/1048576) 4095
theorem Tq(n:Z)(a:0<=n)(b:n<=4294967295):0<=t3 n/\t3 n<4096/\(t3 n=0↔ym 3 n):=by
 unfold t3;rw[low (n/1048576) 12 (by decide) 4095 4096 rfl rfl (by omega) (by omega)];unfold ym;rw[ax (by decide),aD R];omega
def t4(n:Z):Z:=aT .or .i64 (aT .or .i64 (aT .or .i64 (iN (aT .and .i64 (n/2147483648) 1*4096)) (iN (aT .and .i64 (n/128) 1*2048))) (iN (aT .and .i64 (n/33554432) 63*32))) (iN (aT .and .i64 (n/256) 15*2))
theorem Tr(n:Z)(j:0<=n)(k:n<=4294967295):0<=t4 n/\t4 n<8192/\(t4 n=0↔ym 4 n):=by
 unfold t4;rw[low (n/2147483648) 1 (by decide) 1 2 rfl rfl (by omega) (by omega),low (n/128) 1 (by decide) 1 2 rfl rfl (by omega) (by omega),low (n/33554432) 6 (by decide) 63 64 rfl rfl (by omega) (by omega),low (n/256) 4 (by decide) 15 16 rfl rfl (by omega) (by omega)];rw[jt (n/2147483648%2*4096) ⟨by omega,by omega⟩,jt (n/128%2*2048) ⟨by omega,by omega⟩,jt (n/33554432%64*32) ⟨by omega,by omega⟩,jt (n/256%16*2) ⟨by omega,by omega⟩];have e:=zn (n/2147483648%2*4096) (n/128%2*2048) (by omega) (by omega) (by omega) (by omega)
 have h:=za (n/2147483648%2*4096) (n/128%2*2048) 13 (by decide) (by omega) (by simp only[Int.reducePow];omega) (by omega) (by simp only[Int.reducePow];omega);generalize aT .or .i64 (n/2147483648%2*4096) (n/128%2*2048)=a at *;simp only[Int.reducePow]at h;have f:=zn a (n/33554432%64*32) (by omega) (by omega) (by omega) (by omega);have i:=za a (n/33554432%64*32) 13 (by decide) (by omega) (by simp only[Int.reducePow];omega) (by omega) (by simp only[Int.reducePow];omega);generalize aT .or .i64 a (n/33554432%64*32)=d at *;simp only[Int.reducePow]at i
 have b:=zn d (n/256%16*2) (by omega) (by omega) (by omega) (by omega);have c:=za d (n/256%16*2) 13 (by decide) (by omega) (by simp only[Int.reducePow];omega) (by omega) (by simp only[Int.reducePow];omega);simp only[Int.reducePow]at c;refine⟨b.1,c,?_⟩;rw[b.2,f.2,e.2];unfold ym;rw[ax (by decide),ax (by decide),aD (.inl R)];omega
def t5(n:Z):Z:=aT .or .i64 (iN (aT .and .i64 (n/33554432) 127*32)) (aT .and .i64 (n/128) 31)
theorem Ts(n:Z)(c:0<=n)(d:n<=4294967295):0<=t5 n/\t5 n<4096/\(t5 n=0↔ym 5 n):=by
 unfold t5;rw[low (n/33554432) 7 (by decide) 127 128 rfl rfl (by omega) (by omega),low (n/128) 5 (by decide) 31 32 rfl rfl (by omega) (by omega)];rw[jt (n/33554432%128*32) ⟨by omega,by omega⟩];have a:=zn (n/33554432%128*32) (n/128%32) (by omega) (by omega) (by omega) (by omega);have b:=za (n/33554432%128*32) (n/128%32) 12 (by decide) (by omega) (by simp only[Int.reducePow];omega) (by omega) (by simp only[Int.reducePow];omega);simp only[Int.reducePow]at b;refine⟨a.1,b,?_⟩;rw[a.2];unfold ym;rw[ax (by decide),ax (by decide),aD (.inr R)]
 omega
theorem Gz(t d:Z)(P:Prop)(_:0<=t)(b:t<d)(c:d<=4294967296)(h:t=0↔P)(a:1<=t):iN (t-d)=0↔P:=by
 rw[jt _ ⟨by omega,by omega⟩,<- h];omega
theorem aaa(a n:Z)(w:av)(f:0<=n)(h:n<=4294967295):
  Calls prog 172 #[I J a,I J n] w λe b=>qT e (ym a n)/\b=w:=by
 by_cases b:a=1
 ·subst b;go_enter func172,ntmps172;go_wp2;go_ret;exact⟨qT.of (agC n f h),R⟩
 by_cases c:a=2
 ·subst c;have T:=ae (Tp n f h);clear b;go_enter func172,ntmps172;go_wp2
  ·go_ret;exact⟨qT.of T.o.2.2,R⟩
  ·rename_i d;go_ret;refine⟨qT.of (Gz (t2 n) 2097152 _ T.o.1 T.o.2.1 (by decide) T.o.2.2 ?_),R⟩
   have:(1048576:Z)<=t2 n:=by assumption
   omega
 by_cases d:a=3
 ·subst d;have T:=ae (Tq n f h);clear b c;go_enter func172,ntmps172;go_wp2
  ·go_ret;exact⟨qT.of T.o.2.2,R⟩
  ·go_ret;refine⟨qT.of (Gz (t3 n) 4096 _ T.o.1 T.o.2.1 (by decide) T.o.2.2 ?_),R⟩
   have:(2048:Z)<=t3 n:=by assumption
   omega
 by_cases i:a=4
 ·subst i;have T:=ae (Tr n f h);clear b c d;go_enter func172,ntmps172;go_wp2
  ·go_ret;exact⟨qT.of T.o.2.2,R⟩
  ·go_ret;refine⟨qT.of (Gz (t4 n) 8192 _ T.o.1 T.o.2.1 (by decide) T.o.2.2 ?_),R⟩
   have:(4096:Z)<=t4 n:=by assumption
   omega
 by_cases j:a=5
 ·subst j;have T:=ae (Ts n f h);clear b c d i;go_enter func172,ntmps172;go_wp2
  ·go_ret;exact⟨qT.of T.o.2.2,R⟩
  ·go_ret;refine⟨qT.of (Gz (t5 n) 4096 _ T.o.1 T.o.2.1 (by decide) T.o.2.2 ?_),R⟩
   have:(2048:Z)<=t5 n:=by assumption
   omega
 have T:=ae (show ym a n from by unfold ym;rw[ax (by omega),ax d,ax (by omega)];trivial);have k:(a==1)=F:=df.2 b;have l:(a==2)=F:=df.2 c;have m:(a==3)=F:=df.2 d;have o:(a==4)=F:=df.2 i;have p:(a==5)=F:=df.2 j;clear b c d i j;go_enter func172,ntmps172;go_wp2;go_ret;exact⟨qT.of ⟨λ_=>T.o,λ_=>rfl⟩,R⟩
def bF(form n:Z):Z:=if form=1\/form=2\/form=3\/form=6 then aT .and .i64 (n/128) 31 else 0
def bR(form n:Z):Z:=if form=3\/form=4\/form=5\/form=6 then aT .and .i64 (n/32768) 31 else 0
def dW(form n:Z):Z:=if form=4\/form=5\/form=6 then aT .and .i64 (n/1048576) 31 else 0
def cQ(op rd dF eG m:Z):aC:=.agg #[I J op,I J rd,I J dF,I J eG,I J m]
def TQ(e:Ending)(op form n:Z):Prop:=∃m,e=aH (cQ op (bF form n) (bR form n) (dW form n) m)/\(m=0↔ym form n)
theorem acP(d c n:Int)(w:av)(l:0<=n)(p:n<=4294967295)(q:1<=c/\c<=7):
  Calls prog 139 #[I J d,I J c,I J n] w λe f=>TQ e d c n/\az w f N:=by
 have h:=ae (λW=>aaa c n W l p);have i:=ae (λo:dN=>aG w o N);have j:=ae (λo c:dN=>aG (w.alloc o) c N);have Z:Hd (∀m,(m=0↔ym c n)->∀e,e=aH (cQ d (bF c n) (bR c n) (dW c n) m)->TQ e d c n):=λm f e c=>⟨m,c,f⟩
 have S:=ae (show ∀(W:av) (a b:M) (c d:dJ aC),True from λ_ _ _ _ _=>trivial);rcases (show c=1\/c=2\/c=3\/c=4\/c=5\/c=6\/c=7 from by omega)with rfl|rfl|rfl|rfl|rfl|rfl|rfl
 all_goals
  clear q S;go_enter func139,ntmps139;go_wp2_with fail;refine(h.o _).mono ?_;rintro e r ⟨⟨m,rfl,f⟩,rfl⟩;have k:=ae f;clear f h;go_wp2;refine bj (v:=cQ d (bF _ n) (bR _ n) (dW _ n) m) ?_ R ⟨⟨m,R,k.o⟩,ya (i.o _) (j.o _ _)⟩;simp[results,results139,go_sem,cQ,bF,bR,dW]
def je:L Z:=[0,1,1,2,3,4,4,4,4,4,4,3,5,3,3,3,3,3,6,6,6,6,6,6,6,7]
def qU:L Z:=[0,55,23,111,103,99,4195,16483,20579,24675,28771,8195,8227,19,8211,16403,24595,28691,51,1073741875,8243,12339,16435,24627,28723,115]
structure eH (w:av):Prop where
 form:∀i,i<26->w.cell? ⟨0,i,N⟩=S (I J (je.getD i 0))
 fix:∀i,i<26->w.cell? ⟨1,i,N⟩=S (I J (qU.getD i 0))
theorem eH.grown{a:av}(h:eH w)(b:az w a N):eH a:=⟨λi a=>yd (h.form i a) b,λi a=>yd (h.fix i a) b⟩
def ri(form:Z):Z:=if form=1\/form=2 then 127 else if form=3\/form=4\/form=5 then 28799 else if form=6 then 4261441663 else 4294967295
theorem Rh(a:Z)(w:av)(b:1<=a/\a<=7):
  Calls prog 138 #[I J a] w λe b=>e=aH (I J (ri a))/\b=w:=by
 rcases (show a=1\/a=2\/a=3\/a=4\/a=5\/a=6\/a=7 from by omega)with rfl|rfl|rfl|rfl|rfl|rfl|rfl
 all_goals
  clear b;go_enter func138,ntmps138;go_wp2;go_ret;exact⟨by simp[ri],R⟩
def Is(k:M)(n:Z):Prop:=aT .and .i64 n (ri (je.getD k 0))=qU.getD k 0
def Ea(n op rd dF m:Z):Prop :=
 (op=0/\rd=0/\dF=0/\m=0/\∀k,1<=k->k<=25->¬Is k n) \/
 ∃k:M,1<=k/\k<=25/\Is k n/\(∀j,1<=j->j<k->¬Is j n)/\op=k/\rd=bF (je.getD k 0) n/\dF=bR (je.getD k 0) n/\(m=0↔ym (je.getD k 0) n)
def agJ(e:Ending)(n:Z):Prop:=∃op rd dF eG m,e=aH (cQ op rd dF eG m)/\Ea n op rd dF m
theorem Dm(k:M)(a:1<=k)(b:k<=25):1<=je.getD k 0/\je.getD k 0<=7:=by
 have:∀k,k<26->1<=k->1<=je.getD k 0/\je.getD k 0<=7:=by decide
 exact this k (by omega) a
theorem fW(h:az w W N){b:M}(a:w.heap.size<=b)(o:M)(v:aC):az w (aK W ⟨b,o,N⟩ v) N :=
 ⟨h.os,h.tape,h.output,by simpa[aK]using h.size,λi a _=>(Below.heap_setCell W ⟨b,o,N⟩ v i (by simp;omega)).trans (h.block i a (by simp))⟩
theorem EM{f i j k l:aC}(h:az w W N)(m:aA W w.heap.size #[f,i,j,k,l] 189)(a b c d e:aC):
  aA (((((aK W ⟨w.heap.size,0,N⟩ a).setCell ⟨w.heap.size,1,N⟩ b).setCell ⟨w.heap.size,2,N⟩ c).setCell ⟨w.heap.size,3,N⟩ d).setCell ⟨w.heap.size,4,N⟩ e) w.heap.size #[a,b,c,d,e] 189 /\
  az w (((((aK W ⟨w.heap.size,0,N⟩ a).setCell ⟨w.heap.size,1,N⟩ b).setCell ⟨w.heap.size,2,N⟩ c).setCell ⟨w.heap.size,3,N⟩ d).setCell ⟨w.heap.size,4,N⟩ e) N :=
 ⟨((((m.set 0 a).set 1 b).set 2 c).set 3 d).set 4 e,fW (fW (fW (fW (fW h (bz _) _ _) (bz _) _ _) (bz _) _ _) (bz _) _ _) (bz _) _ _⟩
theorem KU(n:Z)(w:av)(ht:eH w)(h0:0<=n)(u:n<=4294967295):
  Calls prog 107 #[I J n] w λe a=>agJ e n/\az w a N:=by
 have HT:=ae ht;clear ht;have G:=ae (λo:dN=>aG w o N);go_enter func107,ntmps107;go_wp2
 go_loopw [3] (λi wr=>∃k:Nat,1<=k/\k<=26/\i=I J k/\(∀j,1<=j->j<k->¬Is j n)/\az w wr N/\aA wr w.heap.size #[I J 0,I J 0,I J 0,I J 0,I J 0] 189) (λi _=>26-(aN i).toNat)
 case atStart=>exact⟨1,bz _,by omega,R,λj u a=>by omega,G.o _,aA.new _ _ _⟩
 case round=>
  obtain⟨k,p,hk2,rfl,b,l,c⟩:=hrel;have y:=ae b;have t:=ae l;have a:=ae c;clear b l c;by_cases q:k<=25
  ·have T:=HT.o.grown t.o;have cf:=T.form k (by omega);have cx:=T.fix k (by omega);have l:=Dm k p q;clear T;have xq:=ae (show Is k n↔aT .and .i64 n (ri (je.getD k 0))=qU.getD k 0 from Iff.rfl);generalize hF:je.getD k 0=f at *;generalize qU.getD k 0=x at *;have z:=ae hF;clear hF;have cM:=ae (λW=>Rh f W l);have g1:(1:Z)<=(k:Z):=by omega
   have g2:(k:Z)<=25:=by omega
   by_cases c:Is k n
   ·have d:(aT .and .i64 n (ri f)==x)=true:=dQ.2 (xq.o.1 c);have A:=ae c;have cF:=ae (λW=>acP k f n W h0 u l);clear c;go_wp2
    go_quiet ((go_at_call 138;exact Calls.quiet_of_same (cM.o _)))
    go_wp2_with fail;refine(cF.o _).mono ?_;rintro e w2 ⟨⟨m,rfl,s⟩,r⟩;unfold cQ;have b:=ae ((a.o.drewN nq).grown r (by simp));have G2:=ae (ya (ye t.o nq) r);have HM:=ae s;have U:=b.o.cell 0;have V:=b.o.cell 1;have X:=b.o.cell 2;have Y:=b.o.cell 3;have L:=b.o.cell 4;have H:=b.o.free 0;have K:=b.o.free 1;have O:=b.o.free 2;have P:=b.o.free 3;have Q:=b.o.free 4;clear s r;generalize s:bF f n=rd at *;generalize r:bR f n=M at *;have Ck:=ae s;have B:=ae r;clear s r;generalize dW f n=S at *;go_wp2;have F:=EM G2.o b.o (I J k) (I J rd) (I J M) (I J S) (I J m)
    have r:=F.1.cell 0;have s:=F.1.cell 1;have C:=F.1.cell 2;have D:=F.1.cell 3;have E:=F.1.cell 4;refine bj (v:=cQ k rd M S m) ?_ R ⟨⟨k,rd,M,S,m,R,.inr ⟨k,p,q,A.o,y.o,R,?_,?_,?_⟩⟩,F.2⟩
    ·clear F U V X Y L H K O P Q b G2;generalize aK _ _ _=WF at *;simp[results,results107,go_sem,cQ,r,s,C,D,E]
    ·rw[z.o,Ck.o]
    ·rw[z.o,B.o]
    ·rw[z.o];exact HM.o
   ·have d:(aT .and .i64 n (ri f)==x)=false:=df.2 (λh=>c (xq.o.2 h));have A:=ae c;clear c;go_wp2
    go_quiet ((go_at_call 138;exact Calls.quiet_of_same (cM.o _)))
    go_wp2
    go_roundw
    case rel=>exact⟨k+1,by omega,by omega,by go_num,λj r b=>(jY.1 b).elim (λh=>y.o j r h) (λh=>by subst h;exact A.o),ye t.o _,a.o.drewN _⟩
    case measure=>simp[aN];omega
  ·have U:=a.o.cell 0;have V:=a.o.cell 1;have X:=a.o.cell 2;have Y:=a.o.cell 3;have L:=a.o.cell 4;have H:=a.o.free 0;have K:=a.o.free 1;have O:=a.o.free 2;have P:=a.o.free 3;have Q:=a.o.free 4;go_wp2;have F:=EM t.o a.o (I J 0) (I J 0) (I J 0) (I J 0) (I J 0);have r:=F.1.cell 0;have s:=F.1.cell 1;have C:=F.1.cell 2;have D:=F.1.cell 3;have E:=F.1.cell 4;refine bj (v:=cQ 0 0 0 0 0) ?_ R ⟨⟨0,0,0,0,0,R,.inl ⟨R,R,R,R,λj u a=>y.o j u (by omega)⟩⟩,F.2⟩;clear F U V X Y L H K O P Q;generalize aK _ _ _=WF at *
   simp[results,results107,go_sem,cQ,r,s,C,D,E]
theorem xx(a b:Z)(k:M)(d:0<=a)(f:a<9223372036854775808)(m:a%(2:Z) ^ k=0)(j:0<=b)(c:b<(2:Z) ^ k)(l:b<9223372036854775808):aT .or .i64 a b=a+b:=by
 obtain⟨x,rfl⟩:=eX d;obtain⟨y,rfl⟩:=eX j;have e:((2 ^ k:M):Z)=(2:Z) ^ k:=by simp
 rw[<- e]at c m;rw[sB x y (by omega) (by omega)];have n:x=2 ^ k*(x/2 ^ k):=by
  have o:x%2 ^ k=0:=by omega
  have:=Nat.div_add_mod x (2 ^ k)
  omega
 have h:=Nat.two_pow_add_eq_or_of_lt (i:=k) (b:=y) (by omega) (x/2 ^ k);rw[<- n]at h;omega
def mr(n:Z):Z:=n/2147483648%2*1048576+n/4096%256*4096+n/1048576%2*2048+n/2097152%1024*2
def nY(n:Z):Z:=n/2147483648%2*4096+n/128%2*2048+n/33554432%64*32+n/256%16*2
def nZ(n:Z):Z:=n/33554432%128*32+n/128%32
def dO(form n:Z):Z :=
 if form=1 then n/4096%1048576
 else if form=2 then (if mr n<1048576 then mr n else mr n-2097152)
 else if form=3 then (if n/1048576%4096<2048 then n/1048576%4096 else n/1048576%4096-4096)
 else if form=4 then (if nY n<4096 then nY n else nY n-8192)
 else if form=5 then (if nZ n<2048 then nZ n else nZ n-4096)
 else 0
theorem afN(n:Z)(a:0<=n)(b:n<=4294967295):t2 n=mr n:=by
 unfold t2 mr;rw[low (n/2147483648) 1 (by decide) 1 2 rfl rfl (by omega) (by omega),low (n/4096) 8 (by decide) 255 256 rfl rfl (by omega) (by omega),low (n/1048576) 1 (by decide) 1 2 rfl rfl (by omega) (by omega),low (n/2097152) 10 (by decide) 1023 1024 rfl rfl (by omega) (by omega)];rw[jt (n/2147483648%2*1048576) ⟨by omega,by omega⟩,jt (n/4096%256*4096) ⟨by omega,by omega⟩,jt (n/1048576%2*2048) ⟨by omega,by omega⟩,jt (n/2097152%1024*2) ⟨by omega,by omega⟩];rw[xx (n/2147483648%2*1048576) (n/4096%256*4096) 20 (by omega) (by omega) (by simp only[Int.reducePow];omega) (by omega) (by simp only[Int.reducePow];omega) (by omega),
  xx (n/2147483648%2*1048576+n/4096%256*4096) (n/1048576%2*2048) 12 (by omega) (by omega) (by simp only[Int.reducePow];omega) (by omega) (by simp only[Int.reducePow];omega) (by omega),
  xx (n/2147483648%2*1048576+n/4096%256*4096+n/1048576%2*2048) (n/2097152%1024*2) 11 (by omega) (by omega) (by simp only[Int.reducePow];omega) (by omega) (by simp only[Int.reducePow];omega) (by omega)]
theorem afP(n:Z)(a:0<=n)(b:n<=4294967295):t4 n=nY n:=by
 unfold t4 nY;rw[low (n/2147483648) 1 (by decide) 1 2 rfl rfl (by omega) (by omega),low (n/128) 1 (by decide) 1 2 rfl rfl (by omega) (by omega),low (n/33554432) 6 (by decide) 63 64 rfl rfl (by omega) (by omega),low (n/256) 4 (by decide) 15 16 rfl rfl (by omega) (by omega)];rw[jt (n/2147483648%2*4096) ⟨by omega,by omega⟩,jt (n/128%2*2048) ⟨by omega,by omega⟩,jt (n/33554432%64*32) ⟨by omega,by omega⟩,jt (n/256%16*2) ⟨by omega,by omega⟩];rw[xx (n/2147483648%2*4096) (n/128%2*2048) 12 (by omega) (by omega) (by simp only[Int.reducePow];omega) (by omega) (by simp only[Int.reducePow];omega) (by omega),
  xx (n/2147483648%2*4096+n/128%2*2048) (n/33554432%64*32) 11 (by omega) (by omega) (by simp only[Int.reducePow];omega) (by omega) (by simp only[Int.reducePow];omega) (by omega),
  xx (n/2147483648%2*4096+n/128%2*2048+n/33554432%64*32) (n/256%16*2) 5 (by omega) (by omega) (by simp only[Int.reducePow];omega) (by omega) (by simp only[Int.reducePow];omega) (by omega)]
theorem afQ(n:Z)(a:0<=n)(b:n<=4294967295):t5 n=nZ n:=by
 unfold t5 nZ;rw[low (n/33554432) 7 (by decide) 127 128 rfl rfl (by omega) (by omega),low (n/128) 5 (by decide) 31 32 rfl rfl (by omega) (by omega)];rw[jt (n/33554432%128*32) ⟨by omega,by omega⟩];rw[xx (n/33554432%128*32) (n/128%32) 5 (by omega) (by omega) (by simp only[Int.reducePow];omega) (by omega) (by simp only[Int.reducePow];omega) (by omega)]
theorem afO(n:Z)(a:0<=n)(b:n<=4294967295):t3 n=n/1048576%4096:=by
 unfold t3;rw[low (n/1048576) 12 (by decide) 4095 4096 rfl rfl (by omega) (by omega)]
theorem F3(t v d h:Z)(e:t=v)(a:t<h):t=if v<h then v else v-d:=by rw[e]at a ⊢;rw[aD a]
theorem FZ(t v d h:Z)(e:t=v)(f:h<=t)(a:0<=t)(c:0<=d/\d<=4294967296)(b:t<=4294967296):iN (t-d)=if v<h then v else v-d:=by
 rw[jt _ ⟨by omega,by omega⟩,<- e,ax (by omega)]
theorem ZQ(a n:Z)(w:av)(d:0<=n)(f:n<=4294967295):
  Calls prog 172 #[I J a,I J n] w λe b=>e=aH (I J (dO a n))/\b=w:=by
 by_cases c:a=1
 ·subst c;have E:=ae (show aT .and .i64 (n/4096) 1048575=dO 1 n by rw[low (n/4096) 20 (by decide) 1048575 1048576 rfl rfl (by omega) (by omega)];rfl);go_enter func172,ntmps172;go_wp2;go_ret;exact⟨fY E.o,R⟩
 by_cases h:a=2
 ·subst h;have T:=ae (Tp n d f);have X:=ae (afN n d f);have b:=ae (show dO 2 n=if mr n<1048576 then mr n else mr n-2097152 from R);clear c;go_enter func172,ntmps172;go_wp2
  ·go_ret;refine⟨fY ?_,R⟩;rw[b.o];exact F3 (t2 n) _ 2097152 1048576 X.o (by assumption)
  ·go_ret;refine⟨fY ?_,R⟩;rw[b.o];exact FZ (t2 n) _ 2097152 1048576 X.o (by assumption) T.o.1 (by decide) (by have:=T.o.2.1;omega)
 by_cases i:a=3
 ·subst i;have T:=ae (Tq n d f);have X:=ae (afO n d f);have b:=ae (show dO 3 n=if n/1048576%4096<2048 then n/1048576%4096 else n/1048576%4096-4096 from R);clear c h;go_enter func172,ntmps172;go_wp2
  ·go_ret;refine⟨fY ?_,R⟩;rw[b.o];exact F3 (t3 n) _ 4096 2048 X.o (by assumption)
  ·go_ret;refine⟨fY ?_,R⟩;rw[b.o];exact FZ (t3 n) _ 4096 2048 X.o (by assumption) T.o.1 (by decide) (by have:=T.o.2.1;omega)
 by_cases j:a=4
 ·subst j;have T:=ae (Tr n d f);have X:=ae (afP n d f);have b:=ae (show dO 4 n=if nY n<4096 then nY n else nY n-8192 from R);clear c h i;go_enter func172,ntmps172;go_wp2
  ·go_ret;refine⟨fY ?_,R⟩;rw[b.o];exact F3 (t4 n) _ 8192 4096 X.o (by assumption)
  ·go_ret;refine⟨fY ?_,R⟩;rw[b.o];exact FZ (t4 n) _ 8192 4096 X.o (by assumption) T.o.1 (by decide) (by have:=T.o.2.1;omega)
 by_cases k:a=5
 ·subst k;have T:=ae (Ts n d f);have X:=ae (afQ n d f);have b:=ae (show dO 5 n=if nZ n<2048 then nZ n else nZ n-4096 from R);clear c h i j;go_enter func172,ntmps172;go_wp2
  ·go_ret;refine⟨fY ?_,R⟩;rw[b.o];exact F3 (t5 n) _ 4096 2048 X.o (by assumption)
  ·go_ret;refine⟨fY ?_,R⟩;rw[b.o];exact FZ (t5 n) _ 4096 2048 X.o (by assumption) T.o.1 (by decide) (by have:=T.o.2.1;omega)
 have b:=ae (show dO a n=0 by unfold dO;rw[ax c,ax h,ax i,ax j,ax k]);have l:(a==1)=F:=by simpa using c
 have m:(a==2)=F:=by simpa using h
 have o:(a==3)=F:=by simpa using i
 have p:(a==4)=F:=by simpa using j
 have q:(a==5)=F:=by simpa using k
 clear c h i j k;go_enter func172,ntmps172;go_wp2;go_ret;exact⟨fY b.o.symm,R⟩
theorem abf(b a n:Z)(w:av)(h:0<=n)(i:n<=4294967295)(j:1<=a/\a<=7):
  Calls prog 139 #[I J b,I J a,I J n] w λe c=>e=aH (cQ b (bF a n) (bR a n) (dW a n) (dO a n))/\az w c N:=by
 have c:=ae (λW=>ZQ a n W h i);generalize dO a n=m at *;have d:=ae (λo:dN=>aG w o N);have f:=ae (λo a:dN=>aG (w.alloc o) a N);rcases (show a=1\/a=2\/a=3\/a=4\/a=5\/a=6\/a=7 from by omega)with rfl|rfl|rfl|rfl|rfl|rfl|rfl
 all_goals
  clear j;go_enter func139,ntmps139;go_wp2_with fail;refine(c.o _).mono ?_;rintro e k ⟨rfl,rfl⟩;clear c;go_wp2;refine bj (v:=cQ b (bF _ n) (bR _ n) (dW _ n) m) ?_ R ⟨R,ya (d.o _) (f.o _ _)⟩;simp[results,results139,go_sem,cQ,bF,bR,dW]
instance (k:M) (n:Z):Decidable (Is k n):=by unfold Is;infer_instance
def cz(n:Z):M:=((rA 26).find? λk=>decide (1<=k)&&decide (Is k n)).getD 0
theorem oJ(n:Z)(k:M)(d:1<=k)(l:k<=25)(f:Is k n)(b:∀j,1<=j->j<k->¬Is j n):cz n=k:=by
 unfold cz;have h:(rA 26).find? (λk=>decide (1<=k)&&decide (Is k n))=S k:=by
  rw[List.find?_eq_some_iff_append];refine⟨by simp[d,f],rA k,(rA (25-k)).map (k+1 + ·),?_,?_⟩
  ·have e:26=k+(1+(25-k)):=by omega
   rw[e,List.range_add,List.range_add];simp[wm]
  ·intro j i;have c:=Cv.1 i;by_cases a:1<=j
   ·simp[a,b j a c]
   ·simp[a]
 rw[h];rfl
theorem I9(n:Z)(b:∀j,1<=j->j<=25->¬Is j n):cz n=0:=by
 unfold cz;have h:(rA 26).find? (λk=>decide (1<=k)&&decide (Is k n))=N:=by
  rw[List.find?_eq_none];intro j c;have d:=Cv.1 c;by_cases a:1<=j
  ·simp[a,b j a (by omega)]
  ·simp[a]
 rw[h];rfl
def aP(n:Z):Z:=je.getD (cz n) 0
theorem KH(n:Z)(w:av)(ht:eH w)(h0:0<=n)(u:n<=4294967295):
  Calls prog 107 #[I J n] w λe a=>e=aH (cQ (cz n) (bF (aP n) n) (bR (aP n) n) (dW (aP n) n) (dO (aP n) n))/\az w a N:=by
 have HT:=ae ht;clear ht;obtain⟨a,b⟩:∃a,a=cQ (cz n) (bF (aP n) n) (bR (aP n) n) (dW (aP n) n) (dO (aP n) n):=⟨_,R⟩
 rw[<- b];have HR:=ae b;clear b;have G:=ae (λo:dN=>aG w o N);go_enter func107,ntmps107;go_wp2
 go_loopw [3] (λi wr=>∃k:Nat,1<=k/\k<=26/\i=I J k/\(∀j,1<=j->j<k->¬Is j n)/\az w wr N/\aA wr w.heap.size #[I J 0,I J 0,I J 0,I J 0,I J 0] 189) (λi _=>26-(aN i).toNat)
 case atStart=>exact⟨1,bz _,by omega,R,λj u a=>by omega,G.o _,aA.new _ _ _⟩
 case round=>
  obtain⟨k,r,hk2,rfl,c,p,l⟩:=hrel;have z:=ae c;have t:=ae p;have b:=ae l;clear c p l;by_cases s:k<=25
  ·have T:=HT.o.grown t.o;have cf:=T.form k (by omega);have cx:=T.fix k (by omega);have q:=Dm k r s;clear T;have xq:=ae (show Is k n↔aT .and .i64 n (ri (je.getD k 0))=qU.getD k 0 from Iff.rfl);generalize hF:je.getD k 0=f at *;generalize qU.getD k 0=x at *;have HF:=ae hF;clear hF;have cM:=ae (λW=>Rh f W q);have g1:(1:Z)<=(k:Z):=by omega
   have g2:(k:Z)<=25:=by omega
   by_cases l:Is k n
   ·have d:(aT .and .i64 n (ri f)==x)=true:=dQ.2 (xq.o.1 l);have A:=ae l;have cF:=ae (λW=>abf k f n W h0 u q);clear l;go_wp2
    go_quiet ((go_at_call 138;exact Calls.quiet_of_same (cM.o _)))
    go_wp2_with fail;refine(cF.o _).mono ?_;rintro e w2 ⟨rfl,B⟩;have p:=ae (oJ n k r s A.o z.o);have y:=ae (show aP n=f by unfold aP;rw[p.o];exact HF.o);unfold cQ;have c:=ae ((b.o.drewN nq).grown B (by simp));have G2:=ae (ya (ye t.o nq) B);have X:=c.o.cell 0;have Y:=c.o.cell 1;have L:=c.o.cell 2;have M:=c.o.cell 3;have S:=c.o.cell 4;have O:=c.o.free 0;have P:=c.o.free 1;have Q:=c.o.free 2;have U:=c.o.free 3;have V:=c.o.free 4;clear B;have B:=ae (show a=cQ k (bF f n) (bR f n) (dW f n) (dO f n) by rw[HR.o,p.o,y.o]);generalize bF f n=rd at *
    generalize bR f n=r1 at *;generalize dW f n=r2 at *;generalize dO f n=m at *;go_wp2;have F:=EM G2.o c.o (I J k) (I J rd) (I J r1) (I J r2) (I J m);have C:=F.1.cell 0;have D:=F.1.cell 1;have E:=F.1.cell 2;have H:=F.1.cell 3;have K:=F.1.cell 4;refine bj (v:=a) ?_ R ⟨R,F.2⟩;rw[B.o];clear F X Y L M S O P Q U V c G2;generalize aK _ _ _=c at *;simp[results,results107,go_sem,cQ,C,D,E,H,K]
   ·have d:(aT .and .i64 n (ri f)==x)=false:=df.2 (λh=>l (xq.o.2 h));have A:=ae l;clear l;go_wp2
    go_quiet ((go_at_call 138;exact Calls.quiet_of_same (cM.o _)))
    go_wp2
    go_roundw
    case rel=>exact⟨k+1,by omega,by omega,by go_num,λj p c=>(jY.1 c).elim (λh=>z.o j p h) (λh=>by subst h;exact A.o),ye t.o _,b.o.drewN _⟩
    case measure=>simp[aN];omega
  ·have X:=b.o.cell 0;have Y:=b.o.cell 1;have L:=b.o.cell 2;have M:=b.o.cell 3;have S:=b.o.cell 4;have O:=b.o.free 0;have P:=b.o.free 1;have Q:=b.o.free 2;have U:=b.o.free 3;have V:=b.o.free 4;go_wp2;have F:=EM t.o b.o (I J 0) (I J 0) (I J 0) (I J 0) (I J 0);have C:=F.1.cell 0;have D:=F.1.cell 1;have E:=F.1.cell 2;have H:=F.1.cell 3;have K:=F.1.cell 4;have p:=I9 n (λj u a=>z.o j u (by omega));have y:aP n=0:=by unfold aP;rw[p];rfl
   have B:a=cQ 0 0 0 0 0:=by rw[HR.o,p,y];rfl
   refine bj (v:=a) ?_ R ⟨R,F.2⟩;rw[B];clear F X Y L M S O P Q U V;generalize aK _ _ _=c at *;simp[results,results107,go_sem,cQ,C,D,E,H,K]
def br(l:L aL)(p:M):M->Z
 |0=>0
 |n+1=>((l.getD p 0).toNat:Z)+256*br l (p+1) n
theorem mz(l:L aL)(p n:M):0<=br l p n/\br l p n<(256:Z) ^ n:=by
 induction n generalizing p with
 |zero=>simp[br]
 |succ n a=>
  have h:=a (p+1);have b:(l.getD p 0).toNat<256:=(l.getD p 0).toNat_lt;simp only[br,Int.pow_succ];omega
theorem agB(s:bT)(k:M)(h:k<s.size):((sl s).getD k 0)=s[k]:=by
 have a:k<(sl s).length:=by rw[iD];exact h
 rw[bQ,bW a];rfl
theorem abL(s:bT)(k:M)(h:s.size<=k):((sl s).getD k 0)=0:=by
 rw[bQ,List.getElem?_eq_none (by rw[iD];exact h)];rfl
theorem agP(s:bT)(p n:M)(w:av)(x:s.size<=1048576)(u:p<=16777216)(t:n<=4):
  Calls prog 46 #[aB s,I J p,I J n] w λe a=>e=aH (I J (br (sl s) p n))/\a=w:=by
 go_enter func46,ntmps46;go_wp2
 go_loop [7,8] (λv i=>∃k:M,k<=n/\i=I J ((k:Z)-1)/\v=I J (br (sl s) (p+k) (n-k))) (λ_ i=>(aN i+1).toNat)
 case atStart=>exact⟨n,bz _,R,by simp[br]⟩
 case round=>
  obtain⟨k,r,rfl,rfl⟩:=hrel;have f:=mz (sl s) (p+k) (n-k);have c:=GY (n-k) (by omega)
  cases k with
  |zero=>
   go_wp2;go_ret;exact⟨R,R⟩
  |succ m=>
   have a:((m+1:M):Z)-1=(m:Z):=by omega
   rw[a];have l:br (sl s) (p+(m+1)) (n-(m+1))<4294967296:=by omega
   have j:=f.1;have d:=ae (show br (sl s) (p+m) (n-m)=((sl s).getD (p+m) 0).toNat+256*br (sl s) (p+(m+1)) (n-(m+1))from by
    have e:n-m=(n-(m+1))+1:=by omega
    rw[e];rfl)
   generalize br (sl s) (p+(m+1)) (n-(m+1))=v at *;have o:decide ((0:Z)<=(p:Z)+(m:Z))=T:=by simp;omega
   clear f c a;by_cases a:p+m<s.size
   ·have h:(p:Z)+(m:Z)<(s.size:Z):=by omega
    have b:=ae (agB s (p+m) a);go_wp2
    go_round
    case rel=>
     refine⟨m,by omega,R,?_⟩;have q:((s[p+m]'a).toNat:Z)<256:=by have:=(s[p+m]'a).toNat_lt;omega
     rw[d.o,b.o,jt ((s[p+m]'a).toNat:Z) ⟨by omega,by omega⟩,jt _ ⟨by omega,by omega⟩,Int.add_comm]
    case measure=>simp[aN]
   ·have h:(s.size:Z)<=(p:Z)+(m:Z):=by omega
    have b:=ae (abL s (p+m) (by omega));go_wp2
    go_round
    case rel=>exact⟨m,by omega,R,by rw[d.o,b.o];simp⟩
    case measure=>simp[aN]
theorem mX(s:bT)(p n:M)(d c:Z)(b:d=(p:Z))(a:c=(n:Z))(w:av)(i:s.size<=1048576)(h:p<=16777216)(f:n<=4):
  Calls prog 46 #[aB s,I J d,I J c] w λe a=>e=aH (I J (br (sl s) p n))/\a=w:=by
 subst b a;exact agP s p n w i h f
structure cq where
 start:Z
 text:Z
 bw:Z
 data:Z
 T:L Z
 F:L Z
 D:L Z
 fD:Z
def qz(l:L aL)(p c:M):L Z:=(rA c).map λi=>br l (p+4*i) 4
theorem ID(l:L aL)(p c:M):(qz l p c).length=c:=by simp[qz]
theorem Nf(l:L aL)(p c:M):qz l p (c+1)=br l p 4::qz l (p+4) c:=by
 unfold qz;rw[List.range_succ_eq_map,List.map_cons,List.map_map]
 congr 1
 apply List.map_congr_left;intro i _;show br l (p+4*(i+1)) 4=br l (p+4+4*i) 4
 congr 1
 omega
theorem Ng(l:L aL)(p n:M)(h:p+n<=ah l):gu ((l.drop p).take n)=br l p n:=by
 induction n generalizing p with
 |zero=>simp[br,gu]
 |succ n b=>
  have a:p<ah l:=by omega
  rw[List.drop_eq_getElem_cons a,List.take_succ_cons];simp only[gu,br];rw[b (p+1) (by omega),bQ,bW a];rfl
theorem uG(l:L aL)(n p:M)(h:p+n<=ah l):bA l n (p,F)=(br l p n,(p+n,F)):=by
 unfold bA bZ;simp only;rw[aD (by omega)];simp only;rw[Ng l p n h]
theorem vD(l:L aL)(n:M)(st:eK)(d:st.1<=ah l)(h:(bA l n st).2.2=F):
  st.2=F/\st.1+n<=ah l/\bA l n st=(br l st.1 n,(st.1+n,F)):=by
 have a:=(dE l n).back h;obtain⟨p,b⟩:=st;simp only at a d;subst a;have c:p+n<=ah l:=by
  unfold bA bZ at h;simp only at h;split at h
  ·omega
  ·simp at h
 exact⟨R,c,uG l n p c⟩
theorem EI(l:L aL)(c p:M)(h:p+4*c<=ah l):ei l 4 c (p,F)=(qz l p c,(p+4*c,F)):=by
 induction c generalizing p with
 |zero=>rfl
 |succ c a=>
  simp only[ei,pB,if_false];rw[uG l 4 p (by omega)];simp only;rw[a (p+4) (by omega),Nf];simp only[Prod.mk.injEq,true_and,and_true];omega
theorem IF(l:L aL)(c:M)(st:eK)(d:st.1<=ah l)(h:(ei l 4 c st).2.2=F):
  st.2=F/\st.1+4*c<=ah l/\ei l 4 c st=(qz l st.1 c,(st.1+4*c,F)):=by
 have a:=(lK l 4 c).back h;obtain⟨p,b⟩:=st;simp only at a d;subst a
 suffices e:p+4*c<=(ah l)from ⟨R,e,EI l c p e⟩
 induction c generalizing p with
 |zero=>omega
 |succ c i=>
  simp only[ei,pB,if_false]at h;have f:=(lK l 4 c).back h;have k:=vD l 4 (p,F) d f;rw[k.2.2]at h
  have:=i (p+4) k.2.1 h
  omega
def vG(l:L aL)(st:eK):cq×eK :=
 let a:=bA l 4 st
 let b:=bA l 4 a.2
 let c:=bA l 4 b.2
 let d:=bA l 4 c.2
 let nt:=bA l 2 d.2
 let nf:=bA l 2 nt.2
 let nd:=bA l 2 nf.2
 let nb:=bA l 2 nd.2
 let t:=ei l 4 nt.1.toNat nb.2
 let f:=ei l 4 nf.1.toNat t.2
 let e:=ei l 4 nd.1.toNat f.2
 (⟨a.1,b.1,c.1,d.1,t.1,f.1,e.1,nb.1⟩,e.2)
def tK(l:L aL):M:=(br l 18 2).toNat
def uH(l:L aL):M:=(br l 20 2).toNat
def vF(l:L aL):M:=(br l 22 2).toNat
def Nd(l:L aL):M:=(br l 24 2).toNat
theorem Cm(l:L aL)(p:M):0<=br l p 2/\br l p 2<65536:=by have:=mz l p 2;simpa using this
theorem Wa(l:L aL):tK l<=65535/\uH l<=65535/\vF l<=65535/\Nd l<=65535:=by
 have a:=Cm l 18;have b:=Cm l 20;have c:=Cm l 22;have d:=Cm l 24;unfold tK uH vF Nd;omega
def oy(l:L aL):cq:=⟨br l 2 4,br l 6 4,br l 10 4,br l 14 4,qz l 26 (tK l),qz l (26+4*tK l) (uH l),qz l (26+4*tK l+4*uH l) (vF l),br l 24 2⟩
def vC(l:L aL):Prop:=ah l=26+4*(tK l+uH l+vF l)
theorem Wc(l:L aL)(h:vC l):vG l (2,F)=(oy l,(ah l,F)):=by
 unfold vC at h;unfold vG;simp only;rw[uG l 4 2 (by omega)];simp only[Nat.reduceAdd];rw[uG l 4 6 (by omega)];simp only[Nat.reduceAdd];rw[uG l 4 10 (by omega)];simp only[Nat.reduceAdd];rw[uG l 4 14 (by omega)];simp only[Nat.reduceAdd];rw[uG l 2 18 (by omega)];simp only[Nat.reduceAdd];rw[uG l 2 20 (by omega)];simp only[Nat.reduceAdd];rw[uG l 2 22 (by omega)];simp only[Nat.reduceAdd];rw[uG l 2 24 (by omega)];simp only[Nat.reduceAdd];rw[show (br l 18 2).toNat=tK l from R,show (br l 20 2).toNat=uH l from R,show (br l 22 2).toNat=vF l from R];rw[EI l (tK l) 26 (by omega)];simp only
 rw[EI l (uH l) _ (by omega)];simp only;rw[EI l (vF l) _ (by omega)];simp only[oy,Prod.mk.injEq,true_and,and_true];omega
theorem Wd(l:List aL)(R:2<=ah l)(h:(vG l (2,F)).2=(ah l,F)):vC l:=by
 unfold vG at h;simp only at h;generalize B:bA l 4 (2,F)=a at h;generalize n:bA l 4 a.2=b at h;generalize o:bA l 4 b.2=c at h;generalize p:bA l 4 c.2=d at h;generalize q:bA l 2 d.2=A at h;generalize hF:bA l 2 A.2=z at h;generalize r:bA l 2 z.2=y at h;generalize s:bA l 2 y.2=Q at h;generalize u:ei l 4 A.1.toNat Q.2=t at h;generalize v:ei l 4 z.1.toNat t.2=f at h;generalize x:ei l 4 y.1.toNat f.2=e at h;have j:e.2.2=F:=by rw[h]
 have i:f.2.2=F:=(lK l 4 _).back (by rw[x];exact j);have P:t.2.2=F:=(lK l 4 _).back (by rw[v];exact i);have O:Q.2.2=F:=(lK l 4 _).back (by rw[u];exact P);have K:y.2.2=F:=(dE l 2).back (by rw[s];exact O);have H:z.2.2=F:=(dE l 2).back (by rw[r];exact K);have G:A.2.2=F:=(dE l 2).back (by rw[hF];exact H);have E:d.2.2=F:=(dE l 2).back (by rw[q];exact G);have D:c.2.2=F:=(dE l 4).back (by rw[p];exact E);have C:b.2.2=F:=(dE l 4).back (by rw[o];exact D);have T:a.2.2=F:=(dE l 4).back (by rw[n];exact C)
 obtain⟨-,Z,U⟩:=vD l 4 (2,F) R (by rw[B];exact T);rw[B]at U;subst U;obtain⟨-,p2,V⟩:=vD l 4 _ Z (by rw[n];exact C);rw[n]at V;subst V;obtain⟨-,p3,X⟩:=vD l 4 _ p2 (by rw[o];exact D);rw[o]at X;subst X;obtain⟨-,p4,Y⟩:=vD l 4 _ p3 (by rw[p];exact E);rw[p]at Y;subst Y;obtain⟨-,p5,I⟩:=vD l 2 _ p4 (by rw[q];exact G);rw[q]at I;subst I;obtain⟨-,p6,J⟩:=vD l 2 _ p5 (by rw[hF];exact H);rw[hF]at J;subst J;obtain⟨-,p7,L⟩:=vD l 2 _ p6 (by rw[r];exact K);rw[r]at L;subst L;obtain⟨-,oT,M⟩:=vD l 2 _ p7 (by rw[s];exact O)
 rw[s]at M;subst M;obtain⟨-,oU,N⟩:=IF l _ _ oT (by rw[u];exact P);rw[u]at N;subst N;obtain⟨-,ph,k⟩:=IF l _ _ oU (by rw[v];exact i);rw[v]at k;subst k;obtain⟨-,Ag,m⟩:=IF l _ _ ph (by rw[x];exact j);rw[x]at m;subst m;simp only[Prod.mk.injEq]at h;have S:=h.1;simp only[Nat.reduceAdd]at S;unfold vC tK uH vF;omega
def fc(a:Z):Prop:=(4096<=a/\a<1073741824)/\a%16=0
def ku(a b c d:Z):Prop:=a≠b/\c≠d/\a<d/\c<b
def sI(base:Z)(n:M)(a:Z):Prop:=base<=a/\(a-base)%4=0/\(a-base)/4<n
def Aj(m:cq):Prop :=
 (fc m.text/\fc m.bw/\fc m.data) /\
 (m.text+4*(ah m.T:Z)<=1073741824/\m.bw+4*(ah m.F:Z)<=1073741824/\m.data+4*((ah m.D:Z)+m.fD)<=1073741824) /\
 (¬ku m.text (m.text+4*(ah m.T:Z)) m.bw (m.bw+4*(ah m.F:Z))/\¬ku m.text (m.text+4*(ah m.T:Z)) m.data (m.data+4*((ah m.D:Z)+m.fD)) /\
  ¬ku m.bw (m.bw+4*(ah m.F:Z)) m.data (m.data+4*((ah m.D:Z)+m.fD))) /\
 (sI m.text (ah m.T) m.start\/sI m.bw (ah m.F) m.start)
def xc(l:L aL):Prop:=l.take 2=[73,77]/\vC l/\Aj (oy l)
theorem aaD(b:M)(s:bT)(p:M)(d:bc)(w:av)(h:cZ w b s p d)
  (k:s.size<=1048576) (j:p<=s.size) (a:(bZ (sl s) 2 (p,d)).1≠[76,75]) :
  Calls prog 150 #[aM (S ⟨b,0,N⟩)] w λe a=>e=aH (aM N)/\az w a (S b):=by
 have c:=λW h=>yT b s p 2 2 rfl d W h k j (by omega)
 generalize bZ (sl s) 2 (p,d)=m at *;obtain⟨l,q,r⟩:=m;simp only at a c;replace c:=ae c;have H:=ae h;clear h;have o:((bs l).toList==[76,75])=F:=by rw[ik];simpa using a
 clear a;go_enter func150,ntmps150;go_wp2_with fail;refine(c.o w H.o).mono ?_;rintro e n ⟨rfl,i,f⟩;replace i:=ae i;replace f:=ae f;go_wp2;go_ret;exact⟨R,f.o⟩
theorem KP(s:bT)(w:av):
  Calls prog 42 #[aB s] w λe a=>e=aH (.agg #[aB s,I J 0,aJ F])/\az w a N:=by
 go_enter func42,ntmps42;go_wp2;have B:=aA.new w #[aB s,I J 0,aJ F] 99;have a:=B.cell 0;have b:=B.cell 1;have c:=B.cell 2;have G:=aG w (.cells #[aB s,I J 0,aJ F] 99) N;refine bj (v:=.agg #[aB s,I J 0,aJ F]) ?_ R ⟨R,G⟩;simp[results,results42,go_sem]
structure kT (w:av) (b g:M) (s:bT) (p:M) (sh:bc) (cs:dJ aC) (rows:L Row) (W:av):Prop where
 rd:cZ W b s p sh
 obj:aA W g cs 135
 rows:∀r∈rows,r.In W (g+1)
 gr:w.grownBy W (S b)
section
variable{w W e:av}{b g:M}{s:bT}{a:dJ aC}{rows:L Row}{p j:M}{i d:bc}
theorem kT.begin(h:cZ W b s p i)(c:az w W (S b))(a:dJ aC):kT w b W.heap.size s p i a [] (W.alloc (.cells a 135)) :=
 ⟨h.grown (aG W _ N) (by simp),aA.new W a 135,(by simp),tD c (aG W _ N) (by simp)⟩
theorem kT.call(h:kT w b g s p i a rows W)(k:b<g)(f:cZ e b s j d)(c:az W e (S b)):kT w b g s j d a rows e :=
 ⟨f,h.obj.grown c (by simp;omega),λr f=>xg (h.rows r f) (by omega) c,ya h.gr c⟩
theorem kT.row(h:kT w b g s p i a rows W)(l:b<g)(n:cZ e b s j d)(m:az W e (S b))(r:Row)(c:r.In e W.heap.size):kT w b g s j d a (r::rows) e:=by
 have f:=h.call l n m;refine⟨f.rd,f.obj,?_,f.gr⟩;intro q k;rcases List.mem_cons.1 k with rfl|k
 ·exact kE c h.obj.lt
 ·exact f.rows q k
theorem kT.store(h:kT w b g s p i a rows W)(c:b<g)(f:w.heap.size<=g)(o:M)(v:aC):kT w b g s p i (a.setIfInBounds o v) rows (aK W ⟨g,o,N⟩ v) :=
 ⟨h.rd.grown (bK W g o v) (by simp;omega),h.obj.set o v,λr c=>ownsRow_setCell_below (h.rows r c) (Nat.lt_succ_self g) v,tD h.gr (bK W g o v) (by simp;omega)⟩
end
def ij(W:av)(g:M)(m:cq):Prop :=
 ∃vt vf vd,aA W g #[I J m.start,I J m.text,I J m.bw,I J m.data,vt,vf,vd,I J m.fD] 135 /\
  aV W 0 3 1 vt (ah m.T) (m.T.map (I .i64))/\aV W 0 3 1 vf (ah m.F) (m.F.map (I .i64))/\aV W 0 3 1 vd (ah m.D) (m.D.map (I .i64))
theorem aaC(b:M)(s:bT)(p:M)(z:bc)(w:av)(h:cZ w b s p z)
  (l:s.size<=1048576) (hp:p<=s.size) (n:(bZ (sl s) 2 (p,z)).1=[73,77]) :
  Calls prog 43 #[aM (S ⟨b,0,N⟩)] w λe a=>∃g,e=aH (aM (S ⟨g,0,N⟩))/\w.heap.size<=g /\
   ij a g (vG (sl s) (bZ (sl s) 2 (p,z)).2).1 /\
   cZ a b s (vG (sl s) (bZ (sl s) 2 (p,z)).2).2.1 (vG (sl s) (bZ (sl s) 2 (p,z)).2).2.2/\az w a (S b):=by
 have hb:=h.lt;have a:=iD s;have l0:=zi (sl s) 2 (p,z) (by rw[a];exact hp);have c0:=λW h=>yT b s p 2 2 rfl z W h l hp (by omega)
 generalize bZ (sl s) 2 (p,z)=x0 at *;obtain⟨mk,P,s0⟩:=x0;simp only at n;subst n;rw[a]at l0;unfold vG;simp only at *;have b1:=lC (sl s) 4 (P,s0);have l1:=gU (sl s) 4 (P,s0) (by rw[a];exact l0);have c1:=λW h=>ko b s P 4 4 rfl s0 W h l l0 (by omega)
 generalize bA (sl s) 4 (P,s0)=x1 at *;obtain⟨c,Q,s1⟩:=x1;rw[a]at l1;simp only[Int.reducePow]at *;have b2:=lC (sl s) 4 (Q,s1);have l2:=gU (sl s) 4 (Q,s1) (by rw[a];exact l1);have c2:=λW h=>ko b s Q 4 4 rfl s1 W h l l1 (by omega)
 generalize bA (sl s) 4 (Q,s1)=x2 at *;obtain⟨t,U,s2⟩:=x2;rw[a]at l2;simp only[Int.reducePow]at *;have b3:=lC (sl s) 4 (U,s2);have l3:=gU (sl s) 4 (U,s2) (by rw[a];exact l2);have c3:=λW h=>ko b s U 4 4 rfl s2 W h l l2 (by omega)
 generalize bA (sl s) 4 (U,s2)=x3 at *;obtain⟨x,V,s3⟩:=x3;rw[a]at l3;simp only[Int.reducePow]at *;have b4:=lC (sl s) 4 (V,s3);have l4:=gU (sl s) 4 (V,s3) (by rw[a];exact l3);have c4:=λW h=>ko b s V 4 4 rfl s3 W h l l3 (by omega)
 generalize bA (sl s) 4 (V,s3)=x4 at *;obtain⟨B,X,s4⟩:=x4;rw[a]at l4;simp only[Int.reducePow]at *;have b5:=lC (sl s) 2 (X,s4);have oM:=gU (sl s) 2 (X,s4) (by rw[a];exact l4);have c5:=λW h=>ko b s X 2 2 rfl s4 W h l l4 (by omega)
 generalize bA (sl s) 2 (X,s4)=x5 at *;obtain⟨nt,Y,s5⟩:=x5;rw[a]at oM;simp only[Int.reducePow]at *;have b6:=lC (sl s) 2 (Y,s5);have ua:=gU (sl s) 2 (Y,s5) (by rw[a];exact oM);have c6:=λW h=>ko b s Y 2 2 rfl s5 W h l oM (by omega)
 generalize bA (sl s) 2 (Y,s5)=x6 at *;obtain⟨nf,L,s6⟩:=x6;rw[a]at ua;simp only[Int.reducePow]at *;have b7:=lC (sl s) 2 (L,s6);have pS:=gU (sl s) 2 (L,s6) (by rw[a];exact ua);have c7:=λW h=>ko b s L 2 2 rfl s6 W h l ua (by omega)
 generalize bA (sl s) 2 (L,s6)=x7 at *;obtain⟨nd,T,s7⟩:=x7;rw[a]at pS;simp only[Int.reducePow]at *;have b8:=lC (sl s) 2 (T,s7);have uZ:=gU (sl s) 2 (T,s7) (by rw[a];exact pS);have c8:=λW h=>ko b s T 2 2 rfl s7 W h l pS (by omega)
 generalize bA (sl s) 2 (T,s7)=x8 at *;obtain⟨nb,oT,s8⟩:=x8;rw[a]at uZ;simp only[Int.reducePow]at *;have zD:=zh (sl s) 4 nt.toNat (oT,s8) (by rw[a];exact uZ)
 have c9:=λW h=>zg b s oT nt.toNat 4 nt 4 (by omega) R s8 W h l uZ (by omega) (by omega)
 generalize ei (sl s) 4 nt.toNat (oT,s8)=Mc at *;obtain⟨j,oU,s9⟩:=Mc;rw[a]at zD;simp only at *;have G:=zh (sl s) 4 nf.toNat (oU,s9) (by rw[a];exact zD)
 have C:=λW h=>zg b s oU nf.toNat 4 nf 4 (by omega) R s9 W h l zD (by omega) (by omega)
 generalize ei (sl s) 4 nf.toNat (oU,s9)=x10 at *;obtain⟨m,ph,u⟩:=x10;rw[a]at G;simp only at *;have BW:=zh (sl s) 4 nd.toNat (ph,u) (by rw[a];exact G)
 have D:=λW h=>zg b s ph nd.toNat 4 nd 4 (by omega) R u W h l G (by omega) (by omega)
 generalize ei (sl s) 4 nd.toNat (ph,u)=KE at *;obtain⟨y,Ag,s11⟩:=KE;rw[a]at BW;simp only at *;replace c0:=ae c0;replace c1:=ae c1;replace c2:=ae c2;replace c3:=ae c3;replace c4:=ae c4;replace c5:=ae c5;replace c6:=ae c6;replace c7:=ae c7;replace c8:=ae c8;replace c9:=ae c9;replace C:=ae C;replace D:=ae D;have H:=ae h;clear h a;have ht:((bs [73,77]).toList==[73,77])=true:=by rw[ik];rfl
 go_enter func43,ntmps43;go_wp2_with fail;refine(c0.o w H.o).mono ?_;rintro e W0 ⟨rfl,A,i⟩;replace A:=ae A;replace i:=ae i;go_wp2_with fail;have a:b<W0.heap.size:=A.o.lt;have d:w.heap.size<=W0.heap.size:=i.o.size;generalize E:W0.heap.size=g at *;refine Calls.fK (kT w b g s P s0 #[I J 0,I J 0,I J 0,I J 0,ak N 0 0,ak N 0 0,ak N 0 0,I J 0] []) (by rw[<- E];exact kT.begin A.o i.o _) ?_;clear A i E;intro V0 A;refine(c1.o V0 A.rd).mono ?_;rintro e E ⟨rfl,r,q⟩;have i:=ae (A.call a r q);clear r q A;have k:=i.o.obj.cell 0
 have f:=i.o.obj.free 0;go_wp2_with fail;refine Calls.fK (kT w b g s Q s1 #[I J c,I J 0,I J 0,I J 0,ak N 0 0,ak N 0 0,ak N 0 0,I J 0] []) (i.o.store a d 0 _) ?_;clear k f i E;intro V1 A;refine(c2.o V1 A.rd).mono ?_;rintro e E ⟨rfl,r,q⟩;have i:=ae (A.call a r q);clear r q A;have k:=i.o.obj.cell 1;have f:=i.o.obj.free 1;go_wp2_with fail;refine Calls.fK (kT w b g s U s2 #[I J c,I J t,I J 0,I J 0,ak N 0 0,ak N 0 0,ak N 0 0,I J 0] []) (i.o.store a d 1 _) ?_;clear k f i E
 intro V2 A;refine(c3.o V2 A.rd).mono ?_;rintro e E ⟨rfl,r,q⟩;have i:=ae (A.call a r q);clear r q A;have k:=i.o.obj.cell 2;have f:=i.o.obj.free 2;go_wp2_with fail;refine Calls.fK (kT w b g s V s3 #[I J c,I J t,I J x,I J 0,ak N 0 0,ak N 0 0,ak N 0 0,I J 0] []) (i.o.store a d 2 _) ?_;clear k f i E;intro ke A;refine(c4.o ke A.rd).mono ?_;rintro e E ⟨rfl,r,q⟩;have i:=ae (A.call a r q);clear r q A;have k:=i.o.obj.cell 3;have f:=i.o.obj.free 3;go_wp2_with fail;refine Calls.fK (kT w b g s X s4 #[I J c,I J t,I J x,I J B,ak N 0 0,ak N 0 0,ak N 0 0,I J 0] []) (i.o.store a d 3 _) ?_
 clear k f i E;intro gw i;refine(c5.o gw i.rd).mono ?_;rintro e E ⟨rfl,r,q⟩;have A:=ae (i.call a r q);clear r q i;go_wp2_with fail;refine Calls.fK (kT w b g s Y s5 #[I J c,I J t,I J x,I J B,ak N 0 0,ak N 0 0,ak N 0 0,I J 0] []) A.o ?_;clear A E;intro fp i;refine(c6.o fp i.rd).mono ?_;rintro e E ⟨rfl,r,q⟩;have A:=ae (i.call a r q);clear r q i;go_wp2_with fail;refine Calls.fK (kT w b g s L s6 #[I J c,I J t,I J x,I J B,ak N 0 0,ak N 0 0,ak N 0 0,I J 0] []) A.o ?_
 clear A E;intro ja i;refine(c7.o ja i.rd).mono ?_;rintro e E ⟨rfl,r,q⟩;have A:=ae (i.call a r q);clear r q i;go_wp2_with fail;refine Calls.fK (kT w b g s T s7 #[I J c,I J t,I J x,I J B,ak N 0 0,ak N 0 0,ak N 0 0,I J 0] []) A.o ?_;clear A E;intro wF A;refine(c8.o wF A.rd).mono ?_;rintro e E ⟨rfl,r,q⟩;have i:=ae (A.call a r q);clear r q A;have k:=i.o.obj.cell 7;have f:=i.o.obj.free 7;go_wp2_with fail;refine Calls.fK (kT w b g s oT s8 #[I J c,I J t,I J x,I J B,ak N 0 0,ak N 0 0,ak N 0 0,I J nb] []) (i.o.store a d 7 _) ?_
 clear k f i E;intro xN K;refine(c9.o xN K.rd).mono ?_;rintro e O ⟨v,rfl,o,r,q⟩;obtain⟨A,i,rfl⟩:=yi o;have E:=ae (K.row a r q ⟨3,1,(ak A (ah j) i),ah j,j.map (I .i64)⟩ o);clear r q o K;have k:=E.o.obj.cell 4;have f:=E.o.obj.free 4;go_wp2_with fail;refine Calls.fK (kT w b g s oU s9 #[I J c,I J t,I J x,I J B,(ak A (ah j) i),ak N 0 0,ak N 0 0,I J nb] [⟨3,1,(ak A (ah j) i),ah j,j.map (I .i64)⟩]) (E.o.store a d 4 _) ?_;clear k f E O;intro tW h9;refine(C.o tW h9.rd).mono ?_
 rintro e JI ⟨v,rfl,o,r,q⟩;obtain⟨O,K,rfl⟩:=yi o;have E:=ae (h9.row a r q ⟨3,1,(ak O (ah m) K),ah m,m.map (I .i64)⟩ o);clear r q o h9;have k:=E.o.obj.cell 5;have f:=E.o.obj.free 5;go_wp2_with fail;refine Calls.fK (kT w b g s ph u #[I J c,I J t,I J x,I J B,(ak A (ah j) i),(ak O (ah m) K),ak N 0 0,I J nb] [⟨3,1,(ak O (ah m) K),ah m,m.map (I .i64)⟩,⟨3,1,(ak A (ah j) i),ah j,j.map (I .i64)⟩]) (E.o.store a d 5 _) ?_;clear k f E JI;intro Cq E;refine(D.o Cq E.rd).mono ?_
 rintro e O7 ⟨v,rfl,o,r,q⟩;obtain⟨FQ,FB,rfl⟩:=yi o;have xR:=ae (E.row a r q ⟨3,1,(ak FQ (ah y) FB),ah y,y.map (I .i64)⟩ o);clear r q o E;have k:=xR.o.obj.cell 6;have f:=xR.o.obj.free 6;go_wp2;go_ret;have F:=xR.o.store a d 6 (ak FQ (ah y) FB);refine⟨g,R,d,⟨(ak A (ah j) i),(ak O (ah m) K),(ak FQ (ah y) FB),F.obj,?_,?_,?_⟩,F.rd,F.gr⟩
 ·exact kE (F.rows ⟨3,1,(ak A (ah j) i),ah j,j.map (I .i64)⟩ (by simp)) (bG _)
 ·exact kE (F.rows ⟨3,1,(ak O (ah m) K),ah m,m.map (I .i64)⟩ (by simp)) (bG _)
 ·exact kE (F.rows ⟨3,1,(ak FQ (ah y) FB),ah y,y.map (I .i64)⟩ (by simp)) (bG _)
theorem aa4(b:M)(s:bT)(p:M)(d:bc)(w:av)(h:cZ w b s p d)
  (k:s.size<=1048576) (j:p<=s.size) (a:(bZ (sl s) 2 (p,d)).1≠[73,77]) :
  Calls prog 43 #[aM (S ⟨b,0,N⟩)] w λe a=>e=aH (aM N)/\az w a (S b):=by
 have c:=λW h=>yT b s p 2 2 rfl d W h k j (by omega)
 generalize bZ (sl s) 2 (p,d)=m at *;obtain⟨l,q,r⟩:=m;simp only at a c;replace c:=ae c;have H:=ae h;clear h;have o:((bs l).toList==[73,77])=F:=by rw[ik];simpa using a
 clear a;go_enter func43,ntmps43;go_wp2_with fail;refine(c.o w H.o).mono ?_;rintro e n ⟨rfl,i,f⟩;replace i:=ae i;replace f:=ae f;go_wp2;go_ret;exact⟨R,f.o⟩
theorem Gy(a:Z)(w:av)(k:0<=a)(l:a<4294967296):
  Calls prog 91 #[I J a] w λe b=>aX e (fc a)/\b=w:=by
 by_cases b:4096<=a
 ·by_cases c:a<1073741824
  ·by_cases d:a%16=0
   ·have f:decide (4096<=a)=T:=by simpa using b
    have i:decide (a<1073741824)=T:=by simpa using c
    have j:(a%16==0)=T:=by simpa using d
    have Q:=ae (show fc a from ⟨⟨b,c⟩,d⟩);clear b c d;go_enter func91,ntmps91;go_wp2;go_ret;exact⟨aX.iV Q.o,R⟩
   ·have f:decide (4096<=a)=T:=by simpa using b
    have i:decide (a<1073741824)=T:=by simpa using c
    have j:(a%16==0)=F:=by simpa using d
    have Q:=ae (show ¬fc a from λh=>d h.2);clear b c d;go_enter func91,ntmps91;go_wp2;go_ret;exact⟨aX.no Q.o,R⟩
  ·have f:decide (4096<=a)=T:=by simpa using b
   have i:decide (a<1073741824)=F:=by simpa using c
   have Q:=ae (show ¬fc a from λh=>c h.1.2);clear b c;go_enter func91,ntmps91;go_wp2;go_ret;exact⟨aX.no Q.o,R⟩
 ·have f:decide (4096<=a)=F:=by simpa using b
  have Q:=ae (show ¬fc a from λh=>b h.1.1);clear b;go_enter func91,ntmps91;go_wp2;go_ret;exact⟨aX.no Q.o,R⟩
theorem KM(a:Z)(n:Z)(w:av)(d:0<=a)(f:a<4294967296)(h:0<=n)(i:n<=1048576):
  Calls prog 123 #[I J a,I J n] w λe b=>e=aH (.agg #[I J a,I J (a+4*n)])/\b=w.alloc (.cells #[I J a,I J (a+4*n)] 207):=by
 have b:J.wrap (4*n)=4*n:=dD _ ⟨by omega,by omega⟩;have c:J.wrap (a+4*n)=a+4*n:=dD _ ⟨by omega,by omega⟩;go_enter func123,ntmps123;go_wp2;refine bj (v:=.agg #[I J a,I J (a+4*n)]) ?_ R ⟨R,R⟩;simp[results,results123,go_sem]
theorem Lh(a b c d:Z)(w:av):
  Calls prog 124 #[.agg #[I J a,I J b],.agg #[I J c,I J d]] w λe f=>aX e (ku a b c d)/\az w f N:=by
 have G:=ae (ya (aG w (.cells #[I J a,I J b] 207) N) (aG _ (.cells #[I J c,I J d] 207) N));by_cases f:a=b
 ·have Q:=ae (show ¬ku a b c d from λh=>h.1 f);have k:(a==b)=T:=by simpa using f
  clear f;go_enter func124,ntmps124;go_wp2;go_ret;exact⟨aX.no Q.o,G.o⟩
 ·by_cases i:c=d
  ·have Q:=ae (show ¬ku a b c d from λh=>h.2.1 i);have k:(a==b)=F:=by simpa using f
   have l:(c==d)=T:=by simpa using i
   clear f i;go_enter func124,ntmps124;go_wp2;go_ret;exact⟨aX.no Q.o,G.o⟩
  ·have k:(a==b)=F:=by simpa using f
   have l:(c==d)=F:=by simpa using i
   by_cases j:a<d
   ·have m:decide (a<d)=T:=by simpa using j
    have Q:=ae (show decide (c<b)=T↔ku a b c d from by rw[gO];exact⟨λh=>⟨f,i,j,h⟩,λh=>h.2.2.2⟩);clear f i j;go_enter func124,ntmps124;go_wp2;go_ret;exact⟨aX.of Q.o,G.o⟩
   ·have m:decide (a<d)=F:=by simpa using j
    have Q:=ae (show ¬ku a b c d from λh=>j h.2.2.1);clear f i j;go_enter func124,ntmps124;go_wp2;go_ret;exact⟨aX.no Q.o,G.o⟩
def gB(base:Z)(n:M)(a:Z):Z:=if base<=a/\(a-base)%4=0/\(a-base)/4<n then (a-base)/4 else -1
theorem V8{base:Z}{n:M}{a:Z}(h:sI base n a):gB base n a=(a-base)/4:=aD h
theorem IE{base:Z}{n:M}{a:Z}(h:¬sI base n a):gB base n a = -1:=ax h
theorem KX(i:aR aY)(n cap:M)(base a:Z)(w:av)(q:0<=a)(r:a<4294967296)(s:0<=base)(t:base<4294967296):
  Calls prog 127 #[ak i n cap,I J base,I J a] w λe b=>e=aH (I J (gB base n a))/\b=w:=by
 by_cases d:a<base
 ·have b:=ae (IE (n:=n) (show ¬sI base n a from λh=>by have:=h.1;omega));have j:decide (a<base)=T:=by simpa using d
  clear d;go_enter func127,ntmps127;go_wp2;go_ret;rw[b.o];exact⟨R,R⟩
 ·have j:decide (a<base)=F:=by simpa using d
  have m:J.wrap (a-base)=a-base:=dD _ ⟨by omega,by omega⟩;have o:(a-base).tmod 4=(a-base)%4:=Int.tmod_eq_emod_of_nonneg (by omega);have p:(a-base).tdiv 4=(a-base)/4:=Int.tdiv_eq_ediv_of_nonneg (by omega);by_cases c:(a-base)%4=0
  ·have k:((a-base)%4==0)=T:=by simpa using c
   by_cases f:(a-base)/4<n
   ·have b:=ae (V8 (show sI base n a from ⟨by omega,c,f⟩));have l:decide ((n:Z)<=(a-base)/4)=F:=by simp;omega
    go_enter func127,ntmps127;go_wp2;go_ret;rw[b.o];exact⟨R,R⟩
   ·have b:=ae (IE (show ¬sI base n a from λh=>f h.2.2));have l:decide ((n:Z)<=(a-base)/4)=T:=by simp;omega
    go_enter func127,ntmps127;go_wp2;go_ret;rw[b.o];exact⟨R,R⟩
  ·have k:((a-base)%4==0)=F:=by simpa using c
   have b:=ae (IE (n:=n) (show ¬sI base n a from λh=>c h.2.1));go_enter func127,ntmps127;go_wp2;go_ret;rw[b.o];exact⟨R,R⟩
def fi(m:cq)(a:Z):aR Z :=
 if 0<=gB m.text (ah m.T) a then S (m.T.getD (gB m.text (ah m.T) a).toNat 0)
 else if 0<=gB m.bw (ah m.F) a then S (m.F.getD (gB m.bw (ah m.F) a).toNat 0)else N
theorem EH(base:Z)(n:M)(a:Z):gB base n a = -1\/(0<=gB base n a/\gB base n a<n):=by
 unfold gB;split
 ·right;omega
 ·left;rfl
theorem Cl(base:Z)(n:M)(a:Z):0<=gB base n a↔sI base n a:=by
 unfold gB sI;split
 ·rename_i h;exact⟨λ_=>h,λ_=>by omega⟩
 ·rename_i h;exact⟨λk=>by omega,λk=>absurd k h⟩
theorem EJ(m:cq)(a:Z):(fi m a).isSome=T↔sI m.text (ah m.T) a\/sI m.bw (ah m.F) a:=by
 unfold fi;rw[<- Cl,<- Cl];by_cases h:0<=gB m.text (ah m.T) a
 ·simp[h]
 ·by_cases k:0<=gB m.bw (ah m.F) a<;>simp[h,k]
structure ni (m:cq):Prop where
 start:0<=m.start/\m.start<4294967296
 text:0<=m.text/\m.text<4294967296
 bw:0<=m.bw/\m.bw<4294967296
 data:0<=m.data/\m.data<4294967296
 lens:m.T.length<=65535/\m.F.length<=65535/\m.D.length<=65535
 fD:0<=m.fD/\m.fD<=65535
theorem ij.open{m:cq}(h:ij W g m):∃a f c e b d,
  aA W g #[I J m.start,I J m.text,I J m.bw,I J m.data,ak a (ah m.T) f,ak c (ah m.F) e,ak b (ah m.D) d,I J m.fD] 135 /\
  aV W 0 3 1 (ak a (ah m.T) f) (ah m.T) (m.T.map (I .i64))/\aV W 0 3 1 (ak c (ah m.F) e) (ah m.F) (m.F.map (I .i64)) /\
  aV W 0 3 1 (ak b (ah m.D) d) (ah m.D) (m.D.map (I .i64)):=by
 obtain⟨p,o,n,l,i,j,k⟩:=h;obtain⟨a,f,rfl⟩:=yi i;obtain⟨c,e,rfl⟩:=yi j;obtain⟨b,d,rfl⟩:=yi k;exact⟨a,f,c,e,b,d,l,i,j,k⟩
theorem ij.kept{a:av}{m:cq}(h:ij W g m)(c:az W a N):ij a g m:=by
 obtain⟨p,o,l,j,e,f,i⟩:=h;have k:∀ {v:aC} {n:M} {d:L aC},aV W 0 3 1 v n d->aV a 0 3 1 v n d:=λh=>h.kept c (by
  cases q:Value.ownBlock _ with
  |none=>exact .inl R
  |some b=>right;simp)
 exact⟨p,o,l,j.grown c (by simp),k e,k f,k i⟩
theorem GN(g:Nat)(m:cq)(a:Z)(w:av)(h:ij w g m)(l:ni m)(G:0<=a)(H:a<4294967296):
  Calls prog 82 #[aM (S ⟨g,0,N⟩),I J a] w λe b=>e=aH (.tuple #[I J ((fi m a).getD 0),aJ (fi m a).isSome])/\∃n,b=w.drewN n:=by
 obtain⟨y,P,E,B,ad,cd,c,k,o,-⟩:=h.open;have M:=kF k;have T:=kF o;have u:=ae (yq.dh k);have x:=ae (yq.dh o);have k1:=c.cell 1;have p:=c.cell 2;have k4:=c.cell 4;have r:=c.cell 5;simp only[List.getElem?_toArray,List.getElem?_cons_succ,bL]at k1 p k4 r;have A:=ae (λW=>KX y (ah m.T) P m.text a W G H l.text.1 l.text.2);have z:=ae (λW=>KX E (ah m.F) B m.bw a W G H l.bw.1 l.bw.2);obtain⟨X,d⟩:∃X,X=fi m a:=⟨_,R⟩
 rw[<- d];unfold fi at d;have f:=ae d;have K:=EH m.text (ah m.T) a;have O:=EH m.bw (ah m.F) a;have b:=ae l.lens;clear d h l c k o;generalize gB m.text (ah m.T) a=i at *;generalize gB m.bw (ah m.F) a=j at *;have hl1:=b.o.1;have hl2:=b.o.2.1;by_cases s:0<=i
 ·have Q:decide (0<=i)=true:=by simpa using s
  have t:i.toNat<ah m.T:=by omega
  obtain⟨D,k,rfl,c⟩:=u.o (by omega);have d:=c i.toNat t;rw[aD s]at f;have o:=ae (show m.T.getD i.toNat 0=m.T[i.toNat]from by rw[bQ,bW t];rfl);rw[o.o]at f;have Y:i<(ah m.T:Z):=by omega
  clear c K O z u x b o;generalize m.T[i.toNat]=v at *;obtain⟨n,rfl⟩:∃n:Nat,i=n:=⟨i.toNat,by omega⟩
  rw[dy]at d t;go_enter func82,ntmps82;go_wp2
  go_quiet ((go_at_call 127;exact Calls.quiet_of_same (A.o _)))
  go_wp2;go_ret2;rw[f.o];exact⟨R,_,R⟩
 ·have Q:decide (0<=i)=F:=by simpa using s
  rw[ax s]at f;obtain rfl:i = -1:=by omega
  clear u K;by_cases t:0<=j
  ·have U:decide (0<=j)=true:=by simpa using t
   have C:j.toNat<ah m.F:=by omega
   obtain⟨D,k,rfl,c⟩:=x.o (by omega);have d:=c j.toNat C;rw[aD t]at f;have o:=ae (show m.F.getD j.toNat 0=m.F[j.toNat]from by rw[bQ,bW C];rfl);rw[o.o]at f;have Y:j<(ah m.F:Z):=by omega
   clear c O x b o;generalize m.F[j.toNat]=v at *;obtain⟨n,rfl⟩:∃n:Nat,j=n:=⟨j.toNat,by omega⟩
   rw[dy]at d C;go_enter func82,ntmps82;go_wp2
   go_quiet ((go_at_call 127;exact Calls.quiet_of_same (A.o _)))
   go_wp2;have c:=ae (show ∃n,w.drewN nq=w.drewN n from ⟨_,R⟩);replace p:(w.drewN nq).cell? ⟨g,2,N⟩=S (I J m.bw):=p;replace r:(w.drewN nq).cell? ⟨g,5,N⟩=S (ak (S ⟨D,k,N⟩) (ah m.F) B):=r;replace d:(w.drewN nq).cell? ⟨D,k+n,N⟩=S (I J v):=d;generalize w.drewN nq=V at *
   go_quiet ((go_at_call 127;exact Calls.quiet_of_same (z.o _)))
   go_wp2;go_ret2;rw[f.o];exact⟨R,by obtain⟨q,o⟩:=c.o;exact⟨_,by rw[o,Vu]⟩⟩
  ·have U:decide (0<=j)=F:=by simpa using t
   rw[ax t]at f;obtain rfl:j = -1:=by omega
   go_enter func82,ntmps82;go_wp2
   go_quiet ((go_at_call 127;exact Calls.quiet_of_same (A.o _)))
   go_wp2;have c:=ae (show ∃n,w.drewN nq=w.drewN n from ⟨_,R⟩);replace p:(w.drewN nq).cell? ⟨g,2,N⟩=S (I J m.bw):=p;replace r:(w.drewN nq).cell? ⟨g,5,N⟩=S (ak E (ah m.F) B):=r;generalize w.drewN nq=V at *
   go_quiet ((go_at_call 127;exact Calls.quiet_of_same (z.o _)))
   go_wp2;go_ret2;rw[f.o];exact⟨R,by obtain⟨q,o⟩:=c.o;exact⟨_,by rw[o,Vu]⟩⟩
