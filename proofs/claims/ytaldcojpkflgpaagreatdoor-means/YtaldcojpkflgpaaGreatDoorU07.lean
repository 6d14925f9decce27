import Derived.Test.YtaldcojpkflgpaaGreatDoorU06
import Derived.Laws.AppendOwnNone
import Derived.BigRegion
set_option maxHeartbeats 16000000
set_option maxRecDepth 100000
open Go.Value renaming int->I,slice->ak,pointer->aM,tuple->aZ,ownBlock->eW,string->aB
open Go.IntKind renaming i64->J,wrap_i64->pD
open _root_ renaming Int->Z,Nat->M,Option->aR,List->L,rfl->R,if_pos->aD,if_neg->ax,beq_eq_false_iff_ne->df
open Go renaming bits->aT,World->av,Addr->aY,Value->aC,info_parts->fG,wpList_append_own->jI,cell_one_new->qt,maxLen->cu
open BitVec renaming ofInt->de,toNat_and->ov,toNat_ofInt->pA
open Nat renaming and_two_pow_sub_one_eq_mod->lO,shiftRight_eq_div_pow->A5,shiftLeft_eq->Fj,or_lt_two_pow->kw,zero_le->bG,not_lt_zero->ji,lt_succ_iff_lt_or_eq->jY,eq_zero_or_pos->WX,le_refl->bz,succ_mul->rG
open Option renaming none->N,some->S
open Go.Ending renaming returned->aH
open List renaming length->ah,drop_eq_getElem_cons->fv,map_append->pH,drop_length->jJ,replicate->eP
open Go.World renaming grownBy_alloc->aG,ownsRow->aV,grownBy->az,block_lt_of_cell?->ow,setCell->aK,cell?->aq,frozen?->dx,ownsRow_nil->eO
open Go.IntWalk renaming i64_in->dD,wrap64_in->jt
open Go.RowKit renaming wrap64->iN,intOf->aN
open Int renaming pow_pos->uI,eq_ofNat_of_zero_le->eX
open Bool renaming false->F,true->T
open Go.World.grownBy renaming refl->aW
namespace Go.Proofs.YtaldcojpkflgpaaGreatDoor
open Go.RowKit Go.Proofs.Tryz
theorem KS(n:Z)(c:-9223372036854775808<=n)(d:n<=9223372036854775807):aT .andNot .i64 n 1=n-n%2:=by
 have b:(~~~ (de 64 1)).toNat=(2 ^ 63-1) <<< 1:=by decide
 have a:(de 64 n &&& ~~~ (de 64 1)).toNat=(n%((2 ^ 64:M):Z)).toNat/2*2:=by
  rw[ov,b,pA,zp,lO,A5,Fj];omega
 show J.wrap ((de 64 n &&& ~~~ (de 64 1)).toNat:M)=_;rw[a,pD];omega
structure jd (W0:av) (b g:M) (ai:aR aY) (ci:M) (ins:L Z) (st:bC) (vd fO:aC) (m:cq) (rd dF eG n:Z) (W:av):Prop where
 h:yz W0 b g (ak ai ins.length ci) st vd fO W
 sW:ij W0 g m
 Ex:ni m
 ai5:yq W0 ai ins
 few:ins.length<=16
 BD:0<=rd/\rd<32
 aiA:0<=dF/\dF<32
 ahY:0<=eG/\eG<32
 hn:-2147483648<=n/\n<=2147483647
theorem jL(W:av)(a b c d e:aC):(W.alloc (.cells #[a,b,c,d,e] 189)).cell? ⟨W.heap.size,0,N⟩=S a/\(W.alloc (.cells #[a,b,c,d,e] 189)).cell? ⟨W.heap.size,1,N⟩=S b/\(W.alloc (.cells #[a,b,c,d,e] 189)).cell? ⟨W.heap.size,2,N⟩=S c /\
  (W.alloc (.cells #[a,b,c,d,e] 189)).cell? ⟨W.heap.size,3,N⟩=S d/\(W.alloc (.cells #[a,b,c,d,e] 189)).cell? ⟨W.heap.size,4,N⟩=S e:=by
 have B:=aA.new W #[a,b,c,d,e] 189;exact⟨B.cell 0,B.cell 1,B.cell 2,B.cell 3,B.cell 4⟩
theorem afs(k:av)(b g:M)(ai:aR aY)(ci:M)(ins:L Z)(st:bC)(r s:aC)(m:cq)(f d a c n:Z)(W:av)(j:jd k b g ai ci ins st r s m d a c n W)(q:f=0):
  Calls prog 108 #[aM (S ⟨b,0,N⟩),cQ f d a c n] W λe i=>e=aH (aZ #[])/\gI k b g (ak ai (ah ins) ci) (dp m ins f d a c n st) i:=by
 obtain⟨h,w,x,p,C,B,t,u,D⟩:=j;have i:=ae (h.grown (aG W (.cells #[I J f,I J d,I J a,I J c,I J n] 189) N));have A:=ae (show W.heap.size≠b from λe=>by have:=h.aO.lt;omega);have v:=ae (jL W (I J f) (I J d) (I J a) (I J c) (I J n));have y:=ae (λW d=>ej k b g (ak ai (ah ins) ci) st r s a W d t.1 t.2);have z:=ae (λW d=>ej k b g (ak ai (ah ins) ci) st r s c W d u.1 u.2);have U:=eC h.ok a;have Y:=eC h.ok c;have E:=h.ok.pc;obtain⟨X,o⟩:∃X,X=dp m ins f d a c n st:=⟨_,R⟩
 rw[<- o];have l:=ae o;clear o;unfold cQ;subst q;replace l:=ae (show X={st with aU:=3} from l.o);clear h w x p;go_enter func108,ntmps108;go_wp2_with fail;generalize W.alloc (.cells #[I J 0,I J d,I J a,I J c,I J n] 189)=V at *;generalize W.heap.size=Q at *;obtain⟨G,H,K,O,P⟩:=v.o;refine(y.o _ i.o).mono ?_;rintro e p ⟨rfl,o⟩;subst o;go_wp2_with fail;refine(z.o _ i.o).mono ?_;rintro e p ⟨rfl,o⟩;subst o;have w:=i.o.c.2.2.2.2.2.1;have x:=i.o.free 37;go_wp2
 go_end0
 rw[l.o];exact⟨R,_,_,i.o.jA 3⟩
theorem ago(i:av)(b g:Nat)(ai:aR aY)(ci:Nat)(ins:List Z)(st:bC)(k l:aC)(m:cq)(f d a c n:Z)(W:av)(j:jd i b g ai ci ins st k l m d a c n W)(s:f=1):
  Calls prog 108 #[aM (S ⟨b,0,N⟩),cQ f d a c n] W λe j=>e=aH (aZ #[])/\gI i b g (ak ai (ah ins) ci) (dp m ins f d a c n st) j:=by
 obtain⟨h,w,z,r,G,t,u,v,H⟩:=j;have o:=ae (h.grown (aG W (.cells #[I J f,I J d,I J a,I J c,I J n] 189) N));have D:=ae (show W.heap.size≠b from λe=>by have:=h.aO.lt;omega);have y:=ae (jL W (I J f) (I J d) (I J a) (I J c) (I J n));have B:=ae (λW f=>ej i b g (ak ai (ah ins) ci) st k l a W f u.1 u.2);have C:=ae (λW f=>ej i b g (ak ai (ah ins) ci) st k l c W f v.1 v.2);have L:=eC h.ok a;have M:=eC h.ok c;have K:=h.ok.pc;obtain⟨X,q⟩:∃X,X=dp m ins f d a c n st:=⟨_,R⟩
 rw[<- q];have p:=ae q;clear q;unfold cQ;subst s;replace p:=ae (show X=eu d (n*4096) st from p.o);have x:J.wrap (n*4096)=n*4096:=dD _ ⟨by omega,by omega⟩;have A:=ae (λW f=>sf i b g (ak ai (ah ins) ci) st k l d (n*4096) W f t.1 t.2);clear h w z r;go_enter func108,ntmps108;go_wp2_with fail;generalize W.alloc (.cells #[I J 1,I J d,I J a,I J c,I J n] 189)=V at *;generalize W.heap.size=F at *;obtain⟨O,P,Q,U,Y⟩:=y.o;refine(B.o _ o.o).mono ?_;rintro e z ⟨rfl,q⟩;subst q;go_wp2_with fail
 refine(C.o _ o.o).mono ?_;rintro e z ⟨rfl,q⟩;subst q;go_wp2_with fail;refine(A.o _ o.o).mono ?_;rintro e E ⟨rfl,r⟩;have w:=ae r;clear r;go_wp2
 go_end0
 rw[p.o];exact⟨R,_,_,w.o⟩
theorem afr(j:av)(b g:Nat)(ai:aR aY)(ci:Nat)(ins:List Z)(st:bC)(l o:aC)(m:cq)(i f c d n:Z)(W:av)(k:jd j b g ai ci ins st l o m f c d n W)(t:i=4):
  Calls prog 108 #[aM (some ⟨b,0,none⟩),cQ i f c d n] W λe k=>e=aH (aZ #[])/\gI j b g (ak ai (ah ins) ci) (dp m ins i f c d n st) k:=by
 obtain⟨h,z,B,s,K,u,v,w,O⟩:=k;have p:=ae (h.grown (aG W (.cells #[I J i,I J f,I J c,I J d,I J n] 189) none));have G:=ae (show W.heap.size≠b from λe=>by have:=h.aO.lt;omega);have A:=ae (jL W (I J i) (I J f) (I J c) (I J d) (I J n));have D:=ae (λW i=>ej j b g (ak ai (ah ins) ci) st l o c W i v.1 v.2);have E:=ae (λW i=>ej j b g (ak ai (ah ins) ci) st l o d W i w.1 w.2);have N:=eC h.ok c;have S:=eC h.ok d;have P:=h.ok.pc;obtain⟨X,r⟩:∃X,X=dp m ins i f c d n st:=⟨_,R⟩
 rw[<- r];have q:=ae r;clear r;unfold cQ;subst t;replace q:=ae (show X=tP f ((bH st c+n)-(bH st c+n)%2) st from q.o);generalize bH st c=a at *;have x:J.wrap (a+n)=a+n:=dD _ ⟨by omega,by omega⟩;have y:aT .andNot .i64 (a+n) 1=(a+n)-(a+n)%2:=KS _ (by omega) (by omega);have C:=ae (λW i=>Sv j b g (ak ai (ah ins) ci) st l o f ((a+n)-(a+n)%2) W i u.1 u.2);clear h z B s;go_enter func108,ntmps108;go_wp2_with fail;generalize W.alloc (.cells #[I J 4,I J f,I J c,I J d,I J n] 189)=V at *
 generalize W.heap.size=M at *;obtain⟨Q,U,Y,F,L⟩:=A.o;refine(D.o _ p.o).mono ?_;rintro e B ⟨rfl,r⟩;subst r;go_wp2_with fail;refine(E.o _ p.o).mono ?_;rintro e B ⟨rfl,r⟩;subst r;go_wp2_with fail;refine(C.o _ p.o).mono ?_;rintro e H ⟨rfl,s⟩;have z:=ae s;clear s;go_wp2
 go_end0
 rw[q.o];exact⟨R,_,_,z.o⟩
theorem ahn(j:av)(b g:Nat)(ai:aR aY)(ci:Nat)(ins:List Z)(st:bC)(o p:aC)(m:cq)(i f c d n:Z)(W:av)(l:jd j b g ai ci ins st o p m f c d n W)(t:i=12):
  Calls prog 108 #[aM (some ⟨b,0,none⟩),cQ i f c d n] W λe k=>e=aH (aZ #[])/\gI j b g (ak ai (ah ins) ci) (dp m ins i f c d n st) k:=by
 obtain⟨h,u,v,s,P,O,w,y,Q⟩:=l;have q:=ae (h.grown (aG W (.cells #[I J i,I J f,I J c,I J d,I J n] 189) none));have K:=ae (show W.heap.size≠b from λe=>by have:=h.aO.lt;omega);have z:=ae (jL W (I J i) (I J f) (I J c) (I J d) (I J n));have G:=ae (λW f=>ej j b g (ak ai (ah ins) ci) st o p c W f w.1 w.2);have H:=ae (λW f=>ej j b g (ak ai (ah ins) ci) st o p d W f y.1 y.2);have T:=eC h.ok c;have E:=eC h.ok d;have U:=h.ok.pc;obtain⟨X,k⟩:∃X,X=dp m ins i f c d n st:=⟨_,R⟩
 rw[<- k];have r:=ae k;clear k;unfold cQ;subst t;replace r:=ae (show X=pO m (bn (bH st c+n)) (bH st d) st from r.o);generalize bH st c=a at *;generalize bH st d=B at *;have x:J.wrap (a+n)=a+n:=dD _ ⟨by omega,by omega⟩;have D:=ae (λW=>tE (a+n) W);have wr:=mo (a+n);have C:=ae (λW f=>acr j b g (ak ai (ah ins) ci) st o p m (bn (a+n)) B W f u v wr.1 wr.2 E);clear h u v s;go_enter func108,ntmps108;go_wp2_with fail;generalize W.alloc (.cells #[I J 12,I J f,I J c,I J d,I J n] 189)=V at *
 generalize W.heap.size=S at *;obtain⟨Y,F,L,M,N⟩:=z.o;refine(G.o _ q.o).mono ?_;rintro e v ⟨rfl,k⟩;subst k;go_wp2_with fail;refine(H.o _ q.o).mono ?_;rintro e v ⟨rfl,k⟩;subst k;go_wp2_with fail;refine(D.o _).mono ?_;rintro e A ⟨rfl,k⟩;subst k;go_wp2_with fail;refine(C.o _ q.o).mono ?_;rintro e A ⟨rfl,s⟩;have u:=ae s;clear s;go_wp2
 go_end0
 rw[r.o];exact⟨R,u.o⟩
theorem ad1(i:av)(b g:M)(ai:aR aY)(ci:M)(ins:List Z)(st:bC)(l o:aC)(m:cq)(f d a c n:Z)(W:av)(k:jd i b g ai ci ins st l o m d a c n W)(s:f=25):
  Calls prog 108 #[aM (S ⟨b,0,N⟩),cQ f d a c n] W λe j=>e=aH (aZ #[])/\gI i b g (ak ai (ah ins) ci) (dp m ins f d a c n st) j:=by
 obtain⟨h,v,x,j,z,E,t,u,G⟩:=k;have p:=ae (h.grown (aG W (.cells #[I J f,I J d,I J a,I J c,I J n] 189) N));have C:=ae (show W.heap.size≠b from λe=>by have:=h.aO.lt;omega);have w:=ae (jL W (I J f) (I J d) (I J a) (I J c) (I J n));have A:=ae (λW d=>ej i b g (ak ai (ah ins) ci) st l o a W d t.1 t.2);have B:=ae (λW d=>ej i b g (ak ai (ah ins) ci) st l o c W d u.1 u.2);have F:=eC h.ok a;have L:=eC h.ok c;have H:=h.ok.pc;obtain⟨X,r⟩:∃X,X=dp m ins f d a c n st:=⟨_,R⟩
 rw[<- r];have q:=ae r;clear r;unfold cQ;subst s;replace q:=ae (show X=oI ins st from q.o);have y:=ae (λW d=>adl i b g ai ci ins st l o W d j z);clear h v x j;go_enter func108,ntmps108;go_wp2_with fail;generalize W.alloc (.cells #[I J 25,I J d,I J a,I J c,I J n] 189)=V at *;generalize W.heap.size=Y at *;obtain⟨K,O,P,Q,U⟩:=w.o;refine(A.o _ p.o).mono ?_;rintro e x ⟨rfl,j⟩;subst j;go_wp2_with fail;refine(B.o _ p.o).mono ?_;rintro e x ⟨rfl,j⟩;subst j;go_wp2_with fail;refine(y.o _ p.o).mono ?_;rintro e D ⟨rfl,r⟩
 have v:=ae r;clear r;go_wp2
 go_end0
 rw[q.o];exact⟨R,v.o⟩
variable {w W:av} {base size n:M} {e t:TypeId} {xs:L aC} {q:Array aC}
theorem mR{v:aC}{k:M}(h:aV w base e size v n xs)(b:v.ownBlock=S k)(g:aA w k q t)(a:e≠t):False:=by
 rcases h.2 with ⟨rfl,_⟩|⟨f,c,d,rfl,_,i,_⟩
 ·simp[eW]at b
 ·obtain rfl:f=k:=by simpa[eW]using b
  have:=i.symm.trans g
  simp at this;exact a this.2
theorem K3(n:Z):aT .and .i64 n 1=((n%2).toNat:Z):=by
 have b:(de 64 1).toNat=2 ^ 1-1:=by decide
 have a:(de 64 n &&& de 64 1).toNat=(n%((2 ^ 64:M):Z)).toNat%2 ^ 1:=by
  rw[ov,pA,b,lO]
 show J.wrap ((de 64 n &&& de 64 1).toNat:M)=_;rw[a,pD];omega
theorem agK(n:Z):aT .and .i64 n 15=((n%16).toNat:Z):=by
 have b:(de 64 15).toNat=2 ^ 4-1:=by decide
 have a:(de 64 n &&& de 64 15).toNat=(n%((2 ^ 64:M):Z)).toNat%2 ^ 4:=by
  rw[ov,pA,b,lO]
 show J.wrap ((de 64 n &&& de 64 15).toNat:M)=_;rw[a,pD];omega
theorem agL(n:Z):aT .and .i64 n 31=((n%32).toNat:Z):=by
 have b:(de 64 31).toNat=2 ^ 5-1:=by decide
 have a:(de 64 n &&& de 64 31).toNat=(n%((2 ^ 64:M):Z)).toNat%2 ^ 5:=by
  rw[ov,pA,b,lO]
 show J.wrap ((de 64 n &&& de 64 31).toNat:M)=_;rw[a,pD];omega
theorem agM(n:Z):aT .and .i64 n 63=((n%64).toNat:Z):=by
 have b:(de 64 63).toNat=2 ^ 6-1:=by decide
 have a:(de 64 n &&& de 64 63).toNat=(n%((2 ^ 64:M):Z)).toNat%2 ^ 6:=by
  rw[ov,pA,b,lO]
 show J.wrap ((de 64 n &&& de 64 63).toNat:M)=_;rw[a,pD];omega
theorem agN(n:Z):aT .and .i64 n 127=((n%128).toNat:Z):=by
 have b:(de 64 127).toNat=2 ^ 7-1:=by decide
 have a:(de 64 n &&& de 64 127).toNat=(n%((2 ^ 64:M):Z)).toNat%2 ^ 7:=by
  rw[ov,pA,b,lO]
 show J.wrap ((de 64 n &&& de 64 127).toNat:M)=_;rw[a,pD];omega
theorem agO(n:Z):aT .and .i64 n 255=((n%256).toNat:Z):=by
 have b:(de 64 255).toNat=2 ^ 8-1:=by decide
 have a:(de 64 n &&& de 64 255).toNat=(n%((2 ^ 64:M):Z)).toNat%2 ^ 8:=by
  rw[ov,pA,b,lO]
 show J.wrap ((de 64 n &&& de 64 255).toNat:M)=_;rw[a,pD];omega
theorem afZ(n:Z):aT .and .i64 n 1023=((n%1024).toNat:Z):=by
 have b:(de 64 1023).toNat=2 ^ 10-1:=by decide
 have a:(de 64 n &&& de 64 1023).toNat=(n%((2 ^ 64:M):Z)).toNat%2 ^ 10:=by
  rw[ov,pA,b,lO]
 show J.wrap ((de 64 n &&& de 64 1023).toNat:M)=_;rw[a,pD];omega
theorem Tx(n:Z):aT .and .i64 n 4095=((n%4096).toNat:Z):=by
 have b:(de 64 4095).toNat=2 ^ 12-1:=by decide
 have a:(de 64 n &&& de 64 4095).toNat=(n%((2 ^ 64:M):Z)).toNat%2 ^ 12:=by
  rw[ov,pA,b,lO]
 show J.wrap ((de 64 n &&& de 64 4095).toNat:M)=_;rw[a,pD];omega
theorem LF(n:Z):aT .and .i64 n 1048575=((n%1048576).toNat:Z):=by
 have b:(de 64 1048575).toNat=2 ^ 20-1:=by decide
 have a:(de 64 n &&& de 64 1048575).toNat=(n%((2 ^ 64:M):Z)).toNat%2 ^ 20:=by
  rw[ov,pA,b,lO]
 show J.wrap ((de 64 n &&& de 64 1048575).toNat:M)=_;rw[a,pD];omega
theorem afV(a:M)(h:a<9223372036854775808):iN (a:Z)=(a:Z):=jt _ ⟨by omega,by omega⟩
theorem kh(n:Z)(low a:M):bP n low a<2 ^ a:=by
 unfold bP;have h:=Int.emod_lt_of_pos (n/(2:Z) ^ low) (show (0:Z)<(2:Z) ^ a from uI (by decide));have b:=Int.emod_nonneg (n/(2:Z) ^ low) (show (2:Z) ^ a≠0 from Int.ne_of_gt (uI (by decide)));have e:((2 ^ a:M):Z)=(2:Z) ^ a:=by simp
 omega
theorem ad5(n:Z):aT .and .i64 n 1048575=(bP n 0 20:Z):=by rw[LF];unfold bP;simp
theorem TH(n:Z):bP n 0 20<1048576:=kh n 0 20
theorem ad9(n:Z):aT .and .i64 (n/1048576) 1=(bP n 20 1:Z):=by rw[K3];unfold bP;simp
theorem Te(n:Z):bP n 20 1<2:=kh n 20 1
theorem ad8(n:Z):aT .and .i64 (n/2) 1023=(bP n 1 10:Z):=by rw[afZ];unfold bP;simp
theorem Td(n:Z):bP n 1 10<1024:=kh n 1 10
theorem SW(n:Z):aT .and .i64 (n/2048) 1=(bP n 11 1:Z):=by rw[K3];unfold bP;simp
theorem Lx(n:Z):bP n 11 1<2:=kh n 11 1
theorem ad7(n:Z):aT .and .i64 (n/4096) 255=(bP n 12 8:Z):=by rw[agO];unfold bP;simp
theorem Tc(n:Z):bP n 12 8<256:=kh n 12 8
theorem ad4(n:Z):aT .and .i64 n 4095=(bP n 0 12:Z):=by rw[Tx];unfold bP;simp
theorem TG(n:Z):bP n 0 12<4096:=kh n 0 12
theorem ad6(n:Z):aT .and .i64 (n/4096) 1=(bP n 12 1:Z):=by rw[K3];unfold bP;simp
theorem Tb(n:Z):bP n 12 1<2:=kh n 12 1
theorem afE(n:Z):aT .and .i64 (n/32) 63=(bP n 5 6:Z):=by rw[agM];unfold bP;simp
theorem TK(n:Z):bP n 5 6<64:=kh n 5 6
theorem afD(n:Z):aT .and .i64 (n/2) 15=(bP n 1 4:Z):=by rw[agK];unfold bP;simp
theorem TJ(n:Z):bP n 1 4<16:=kh n 1 4
theorem afF(n:Z):aT .and .i64 (n/32) 127=(bP n 5 7:Z):=by rw[agN];unfold bP;simp
theorem TL(n:Z):bP n 5 7<128:=kh n 5 7
theorem TC(n:Z):aT .and .i64 n 31=(bP n 0 5:Z):=by rw[agL];unfold bP;simp
theorem LG(n:Z):bP n 0 5<32:=kh n 0 5
theorem ag7(a m:M)(h:a*m<9223372036854775808):iN ((a:Z)*(m:Z))=((a*m:M):Z):=by
 rw[<- Int.natCast_mul];exact afV _ h
theorem qV(a m:Nat)(M:Z)(b:M=(m:Z))(h:a*m<9223372036854775808):iN ((a:Z)*M)=((a*m:Nat):Z):=by
 rw[b];exact ag7 a m h
theorem aag(f:M)(n:Z)(w:av)(i:1<=f/\f<=7):
  Calls prog 213 #[I J f,I J n] w λe g=>e=aH (I J (fF f n:M))/\g=w:=by
 rcases (show f=1\/f=2\/f=3\/f=4\/f=5\/f=6\/f=7 from by omega)with rfl|rfl|rfl|rfl|rfl|rfl|rfl
 ·have E:=ae (show iN (aT .and .i64 n 1048575*4096)=((fF 1 n:M):Z)from by
   have a:=TH n;rw[ad5,qV _ 4096 4096 rfl (by omega)];unfold fF;rw[aD R])
  go_enter func213,ntmps213;go_wp2;go_ret;exact⟨fY E.o,R⟩
 ·have E:=ae (show aT .or .i64 (aT .or .i64 (aT .or .i64 (iN (aT .and .i64 (n/1048576) 1*2147483648)) (iN (aT .and .i64 (n/2) 1023*2097152))) (iN (aT .and .i64 (n/2048) 1*1048576))) (iN (aT .and .i64 (n/4096) 255*4096))=((fF 2 n:M):Z)from by
   have a:=Te n;have b:=Td n;have c:=Lx n;have d:=Tc n;have g:bP n 20 1*2147483648 |||bP n 1 10*2097152<2 ^ 33:=kw (by omega) (by omega);have h:bP n 20 1*2147483648 |||bP n 1 10*2097152 |||bP n 11 1*1048576<2 ^ 33:=kw g (by omega);rw[ad9,ad8,SW,ad7,qV _ 2147483648 2147483648 rfl (by omega),qV _ 2097152 2097152 rfl (by omega),qV _ 1048576 1048576 rfl (by omega),qV _ 4096 4096 rfl (by omega),sB _ _ (by omega) (by omega),sB _ _ (by omega) (by omega),sB _ _ (by omega) (by omega)];unfold fF;rw[ax (by decide),aD R])
  go_enter func213,ntmps213;go_wp2;go_ret;exact⟨fY E.o,R⟩
 ·have E:=ae (show iN (aT .and .i64 n 4095*1048576)=((fF 3 n:M):Z)from by
   have a:=TG n;rw[ad4,qV _ 1048576 1048576 rfl (by omega)];unfold fF;rw[ax (by decide),ax (by decide),aD R])
  go_enter func213,ntmps213;go_wp2;go_ret;exact⟨fY E.o,R⟩
 ·have E:=ae (show aT .or .i64 (aT .or .i64 (aT .or .i64 (iN (aT .and .i64 (n/4096) 1*2147483648)) (iN (aT .and .i64 (n/32) 63*33554432))) (iN (aT .and .i64 (n/2) 15*256))) (iN (aT .and .i64 (n/2048) 1*128))=((fF 4 n:M):Z)from by
   have a:=Tb n;have b:=TK n;have c:=TJ n;have d:=Lx n;have g:bP n 12 1*2147483648 |||bP n 5 6*33554432<2 ^ 33:=kw (by omega) (by omega);have h:bP n 12 1*2147483648 |||bP n 5 6*33554432 |||bP n 1 4*256<2 ^ 33:=kw g (by omega);rw[ad6,afE,afD,SW,qV _ 2147483648 2147483648 rfl (by omega),qV _ 33554432 33554432 rfl (by omega),qV _ 256 256 rfl (by omega),qV _ 128 128 rfl (by omega),sB _ _ (by omega) (by omega),sB _ _ (by omega) (by omega),sB _ _ (by omega) (by omega)];unfold fF;rw[ax (by decide),ax (by decide),ax (by decide),aD R])
  go_enter func213,ntmps213;go_wp2;go_ret;exact⟨fY E.o,R⟩
 ·have E:=ae (show aT .or .i64 (iN (aT .and .i64 (n/32) 127*33554432)) (iN (aT .and .i64 n 31*128))=((fF 5 n:M):Z)from by
   have a:=TL n;have b:=LG n;rw[afF,TC,qV _ 33554432 33554432 rfl (by omega),qV _ 128 128 rfl (by omega),sB _ _ (by omega) (by omega)];unfold fF;rw[ax (by decide),ax (by decide),ax (by decide),ax (by decide),aD R])
  go_enter func213,ntmps213;go_wp2;go_ret;exact⟨fY E.o,R⟩
 ·go_enter func213,ntmps213;go_wp2;go_ret;exact⟨R,R⟩
 ·go_enter func213,ntmps213;go_wp2;go_ret;exact⟨R,R⟩
theorem aeD(a:M)(n:Z):fF a n<2 ^ 33:=by
 have d:=TH n;have f:=Te n;have g:=Td n;have h:=Lx n;have i:=Tc n;have j:=TG n;have k:=Tb n;have l:=TK n;have m:=TJ n;have b:=TL n;have c:=LG n;unfold fF
 repeat' split
 ·omega
 ·exact kw (kw (kw (by omega) (by omega)) (by omega)) (by omega)
 ·omega
 ·exact kw (kw (kw (by omega) (by omega)) (by omega)) (by omega)
 ·exact kw (by omega) (by omega)
 ·omega
theorem SG(k:M)(h:k<=25):je.getD k 0=((qi.getD k 0:M):Z):=by
 rcases (show k=0\/k=1\/k=2\/k=3\/k=4\/k=5\/k=6\/k=7\/k=8\/k=9\/k=10\/k=11\/k=12\/k=13\/k=14\/k=15\/k=16\/k=17\/k=18\/k=19\/k=20\/k=21\/k=22\/k=23\/k=24\/k=25 by omega)with rfl|rfl|rfl|rfl|rfl|rfl|rfl|rfl|rfl|rfl|rfl|rfl|rfl|rfl|rfl|rfl|rfl|rfl|rfl|rfl|rfl|rfl|rfl|rfl|rfl|rfl<;>rfl
theorem adR(k:M)(h:k<=25):qU.getD k 0=((pw.getD k 0:M):Z):=by
 rcases (show k=0\/k=1\/k=2\/k=3\/k=4\/k=5\/k=6\/k=7\/k=8\/k=9\/k=10\/k=11\/k=12\/k=13\/k=14\/k=15\/k=16\/k=17\/k=18\/k=19\/k=20\/k=21\/k=22\/k=23\/k=24\/k=25 by omega)with rfl|rfl|rfl|rfl|rfl|rfl|rfl|rfl|rfl|rfl|rfl|rfl|rfl|rfl|rfl|rfl|rfl|rfl|rfl|rfl|rfl|rfl|rfl|rfl|rfl|rfl<;>rfl
theorem ad2(k:M)(h:k<=25):pw.getD k 0<2147483648:=by
 rcases (show k=0\/k=1\/k=2\/k=3\/k=4\/k=5\/k=6\/k=7\/k=8\/k=9\/k=10\/k=11\/k=12\/k=13\/k=14\/k=15\/k=16\/k=17\/k=18\/k=19\/k=20\/k=21\/k=22\/k=23\/k=24\/k=25 by omega)with rfl|rfl|rfl|rfl|rfl|rfl|rfl|rfl|rfl|rfl|rfl|rfl|rfl|rfl|rfl|rfl|rfl|rfl|rfl|rfl|rfl|rfl|rfl|rfl|rfl|rfl<;>decide
theorem afG(k:M)(h:1<=k)(a:k<=25):1<=qi.getD k 0/\qi.getD k 0<=7:=by
 have:=Dm k h a
 rw[SG k a]at this;omega
theorem T8(a b:M)(c:a<2 ^ 40)(d:b<2 ^ 40):a |||b<2 ^ 40:=kw c d
theorem tF(a:M)(r:M)(m:M)(b:Z)(c:b=(m:Z))(d:a<2 ^ 40)(f:m<=1048576):aT .or .i64 (a:Z) (iN (aT .and .i64 (r:Z) 31*b))=((a |||bP r 0 5*m:M):Z)/\a |||bP r 0 5*m<2 ^ 40:=by
 have h:=LG (r:Z);have g:bP r 0 5*m<=31*1048576:=Nat.mul_le_mul (by omega) f;rw[TC,qV _ m b c (by omega),sB _ _ (by omega) (by omega)];exact⟨R,T8 _ _ d (by omega)⟩
def zX(op rd dF eG:M)(n:Z):aC:=.agg #[I J op,I J rd,I J dF,I J eG,I J n]
theorem acN(d g f i:M)(n:Z)(w:av)(u:eH w)(v:1<=d)(s:d<=25):
  Calls prog 193 #[zX d g f i n] w λe a=>e=aH (I J (fz d g f i n:M))/\az w a N:=by
 have G:=ae (λo:Obj=>aG w o N);have y:=u.form d (by omega);have t2:=u.fix d (by omega);have B:0<w.heap.size:=ow w ⟨0,d,N⟩ y;have C:1<w.heap.size:=ow w ⟨1,d,N⟩ t2;rw[SG d s]at y;rw[adR d s]at t2;have P:=ad2 d s;have z:=afG d v s;have p:=ae (show fz d g f i n=kW (qi.getD d 0) (pw.getD d 0) g f i n from R);generalize qi.getD d 0=c at *;generalize pw.getD d 0=x at *;generalize fz d g f i n=a at *;have A:=aeD c n;have r:=ae (λW=>aag c n W z)
 have l:=ae (show aT .or .i64 (x:Z) (fF c n:M)=((x |||fF c n:M):Z)/\x |||fF c n<2 ^ 40 from ⟨sB _ _ (by omega) (by omega),T8 _ _ (by omega) (by omega)⟩);have K:(1:Z)<=(d:Z):=by omega
 have O:(d:Z)<=25:=by omega
 have E:decide ((d:Z)<1)=F:=by simp;omega
 have H:decide ((25:Z)<(d:Z))=F:=by simp;omega
 clear u v s;unfold zX;rcases (show c=1\/c=2\/c=3\/c=4\/c=5\/c=6\/c=7 from by omega)with rfl|rfl|rfl|rfl|rfl|rfl|rfl
 ·have j:=ae (show a=kW 1 x g f i n from p.o);generalize b:fF 1 n=h at *;have k:=ae b;clear b;go_enter func193,ntmps193;go_wp2
  go_quiet ((go_at_call 213;exact Calls.quiet_of_same (r.o _)))
  go_wp2;go_ret;refine⟨fY ?_,ye (G.o _) _⟩;rw[j.o];unfold kW;rw[k.o];simp only[];rw[aD (show pz 1=T from R),ax (show ¬px 1=T by decide),ax (show ¬qR 1=T by decide)];rw[l.o.1];have b:=tF (x |||h) g 128 128 rfl l.o.2 (by omega);rw[b.1]
 ·have j:=ae (show a=kW 2 x g f i n from p.o);generalize b:fF 2 n=h at *;have k:=ae b;clear b;go_enter func193,ntmps193;go_wp2
  go_quiet ((go_at_call 213;exact Calls.quiet_of_same (r.o _)))
  go_wp2;go_ret;refine⟨fY ?_,ye (G.o _) _⟩;rw[j.o];unfold kW;rw[k.o];simp only[];rw[aD (show pz 2=T from R),ax (show ¬px 2=T by decide),ax (show ¬qR 2=T by decide)];rw[l.o.1];have b:=tF (x |||h) g 128 128 rfl l.o.2 (by omega);rw[b.1]
 ·have j:=ae (show a=kW 3 x g f i n from p.o);generalize b:fF 3 n=h at *;have k:=ae b;clear b;go_enter func193,ntmps193;go_wp2
  go_quiet ((go_at_call 213;exact Calls.quiet_of_same (r.o _)))
  go_wp2;go_ret;refine⟨fY ?_,ye (G.o _) _⟩;rw[j.o];unfold kW;rw[k.o];simp only[];rw[aD (show pz 3=T from R),aD (show px 3=T from R),ax (show ¬qR 3=T by decide)];rw[l.o.1];have b:=tF (x |||h) g 128 128 rfl l.o.2 (by omega);rw[b.1];have m:=tF ((x |||h) |||bP g 0 5*128) f 32768 32768 rfl b.2 (by omega);rw[m.1]
 ·have j:=ae (show a=kW 4 x g f i n from p.o);generalize b:fF 4 n=h at *;have k:=ae b;clear b;go_enter func193,ntmps193;go_wp2
  go_quiet ((go_at_call 213;exact Calls.quiet_of_same (r.o _)))
  go_wp2;go_ret;refine⟨fY ?_,ye (G.o _) _⟩;rw[j.o];unfold kW;rw[k.o];simp only[];rw[ax (show ¬pz 4=T by decide),aD (show px 4=T from R),aD (show qR 4=T from R)];rw[l.o.1];have b:=tF (x |||h) f 32768 32768 rfl l.o.2 (by omega);rw[b.1];have m:=tF ((x |||h) |||bP f 0 5*32768) i 1048576 1048576 rfl b.2 (by omega);rw[m.1]
 ·have j:=ae (show a=kW 5 x g f i n from p.o);generalize b:fF 5 n=h at *;have k:=ae b;clear b;go_enter func193,ntmps193;go_wp2
  go_quiet ((go_at_call 213;exact Calls.quiet_of_same (r.o _)))
  go_wp2;go_ret;refine⟨fY ?_,ye (G.o _) _⟩;rw[j.o];unfold kW;rw[k.o];simp only[];rw[ax (show ¬pz 5=T by decide),aD (show px 5=T from R),aD (show qR 5=T from R)];rw[l.o.1];have b:=tF (x |||h) f 32768 32768 rfl l.o.2 (by omega);rw[b.1];have m:=tF ((x |||h) |||bP f 0 5*32768) i 1048576 1048576 rfl b.2 (by omega);rw[m.1]
 ·have j:=ae (show a=kW 6 x g f i n from p.o);generalize b:fF 6 n=h at *;have k:=ae b;clear b;go_enter func193,ntmps193;go_wp2
  go_quiet ((go_at_call 213;exact Calls.quiet_of_same (r.o _)))
  go_wp2;go_ret;refine⟨fY ?_,ye (G.o _) _⟩;rw[j.o];unfold kW;rw[k.o];simp only[];rw[aD (show pz 6=T from R),aD (show px 6=T from R),aD (show qR 6=T from R)];rw[l.o.1];have b:=tF (x |||h) g 128 128 rfl l.o.2 (by omega);rw[b.1];have m:=tF ((x |||h) |||bP g 0 5*128) f 32768 32768 rfl b.2 (by omega);rw[m.1];have D:=tF (((x |||h) |||bP g 0 5*128) |||bP f 0 5*32768) i 1048576 1048576 rfl m.2 (by omega);rw[D.1]
 ·have j:=ae (show a=kW 7 x g f i n from p.o);generalize b:fF 7 n=h at *;have k:=ae b;clear b;go_enter func193,ntmps193;go_wp2
  go_quiet ((go_at_call 213;exact Calls.quiet_of_same (r.o _)))
  go_wp2;go_ret;refine⟨fY ?_,ye (G.o _) _⟩;rw[j.o];unfold kW;rw[k.o];simp only[];rw[ax (show ¬pz 7=T by decide),ax (show ¬px 7=T by decide),ax (show ¬qR 7=T by decide)];rw[l.o.1]
theorem aek(v:Z)(w:av)(j:-2147483648<=v)(k:v<=2147483647):
  Calls prog 195 #[I J v] w λe a=>e=aH (aZ #[I J (ir v),I J (jN v)])/\a=w:=by
 have a:=Tx v;have l:0<=v%4096/\v%4096<4096:=by omega
 have i:aT .and .i64 v 4095=v%4096:=by rw[a];omega
 have f:=ae (show ir v=(v-jN v)/4096%1048576 from R);have d:=ae (show jN v=if v%4096<2048 then v%4096 else v%4096-4096 from R);clear a;by_cases c:v%4096<2048
 ·have a:=ae (show jN v=v%4096 by rw[d.o,aD c]);have b:=ae (show aT .and .i64 ((v-v%4096)/4096) 1048575=ir v by rw[LF,f.o,a.o];omega);generalize jN v=h at *;generalize ir v=g at *;go_enter func195,ntmps195;go_wp2;go_ret2;exact⟨by rw[a.o,<- b.o];rfl,R⟩
 ·have a:=ae (show jN v=v%4096-4096 by rw[d.o,ax c]);have b:=ae (show aT .and .i64 ((v-(v%4096-4096))/4096) 1048575=ir v by rw[LF,f.o,a.o];omega);generalize jN v=h at *;generalize ir v=g at *;go_enter func195,ntmps195;go_wp2;go_ret2;exact⟨by rw[a.o,<- b.o];rfl,R⟩
theorem Ly{cap:M}{b:aR aY}(h:aV w base e size (ak b n cap) n xs)(m:0<n):∃f a,b=S ⟨f,0,N⟩/\aA w f a e/\a.size=cap*size/\a.toList.take (n*size)=xs/\n<=cap:=by
 rcases h.2 with ⟨o,p⟩|⟨g,c,a,d,_,l,i,_,j,k⟩
 ·omega
 ·simp only[Value.slice.injEq]at d;obtain⟨rfl,_,rfl⟩:=d;exact⟨g,a,R,l,j,k,i⟩
theorem tq{cap a j:M}{u:aC}(h:aV w base e size (ak (S ⟨a,0,N⟩) n cap) n xs)(_:j<n*size):
  (aK w ⟨a,j,N⟩ u).ownsRow base e size (ak (S ⟨a,0,N⟩) n cap) n (xs.set j u):=by
 refine⟨by rw[List.length_set];exact h.1,?_⟩;rcases h.2 with ⟨f,r⟩|⟨p,c,b,d,m,o,g,i,k,l⟩
 ·simp at f
 ·simp only[Value.slice.injEq,Option.some.injEq,Addr.mk.injEq]at d;obtain⟨⟨rfl,_⟩,_,rfl⟩:=d;refine .inr ⟨a,cap,b.setIfInBounds j u,R,m,Dl o u,g,i,by simpa using k,?_⟩;rw[Array.toList_setIfInBounds,List.take_set,l]
theorem KW{wr b:av}{a:aR M}(h:az w wr N)(k:az wr b a)(c:∀g,a=S g->w.heap.size<=g):az w b N :=
 ⟨k.os.trans h.os,k.tape.trans h.tape,k.output.trans h.output,Nat.le_trans h.size k.size,λi a b=>
  (k.block i (Nat.lt_of_lt_of_le a h.size) (λe=>by have:=c i e.symm;omega)).trans (h.block i a b)⟩
theorem aba(n:Z)(c:-9223372036854775808<=n)(d:n<=9223372036854775807):aT .andNot .i64 n 3=n-n%4:=by
 have b:(~~~ (de 64 3)).toNat=(2 ^ 62-1) <<< 2:=by decide
 have a:(de 64 n &&& ~~~ (de 64 3)).toNat=(n%((2 ^ 64:M):Z)).toNat/4*4:=by
  rw[ov,b,pA,zp,lO,A5,Fj];omega
 show J.wrap ((de 64 n &&& ~~~ (de 64 3)).toNat:M)=_;rw[a,pD];omega
theorem aa9(n:Z)(c:-9223372036854775808<=n)(d:n<=9223372036854775807):aT .andNot .i64 n 7=n-n%8:=by
 have b:(~~~ (de 64 7)).toNat=(2 ^ 61-1) <<< 3:=by decide
 have a:(de 64 n &&& ~~~ (de 64 7)).toNat=(n%((2 ^ 64:M):Z)).toNat/8*8:=by
  rw[ov,b,pA,zp,lO,A5,Fj];omega
 show J.wrap ((de 64 n &&& ~~~ (de 64 7)).toNat:M)=_;rw[a,pD];omega
theorem aaq(n:Z)(c:-9223372036854775808<=n)(d:n<=9223372036854775807):aT .andNot .i64 n 15=n-n%16:=by
 have b:(~~~ (de 64 15)).toNat=(2 ^ 60-1) <<< 4:=by decide
 have a:(de 64 n &&& ~~~ (de 64 15)).toNat=(n%((2 ^ 64:M):Z)).toNat/16*16:=by
  rw[ov,b,pA,zp,lO,A5,Fj];omega
 show J.wrap ((de 64 n &&& ~~~ (de 64 15)).toNat:M)=_;rw[a,pD];omega
theorem G7(a b:Z)(d:0<=a)(f:a<=1125899906842624)(c:b=4\/b=8\/b=16):du a b=(a+b-1)-(a+b-1)%b:=by
 unfold du;rcases c with rfl|rfl|rfl
 ·exact aba _ (by omega) (by omega)
 ·exact aa9 _ (by omega) (by omega)
 ·exact aaq _ (by omega) (by omega)
theorem ma(a b:Z)(d:0<=a)(f:a<=1125899906842624)(c:b=4\/b=8\/b=16):a<=du a b/\du a b<=a+15/\du a b%4=0:=by
 rw[G7 a b d f c];rcases c with rfl|rfl|rfl<;>omega
theorem pX(x:Z):lX x=4\/lX x=8\/lX x=16:=by
 unfold lX;split
 ·exact .inl R
 ·split
  ·exact .inr (.inl R)
  ·exact .inr (.inr R)
theorem aah(m:aI)(b:Z)(ws:L Z)(k:M)(h:k<ah ws)(a:Z):dU m b k (ws.drop k) a=a::dU m b (k+1) (ws.drop (k+1)) (if eQ m b (4*k) a then a+4 else a):=by
 rw[fv h];rfl
theorem abe(m:aI)(b:Z)(ws:L Z)(k:M)(h:k<ah ws)(a:Z):ff m b k (ws.drop k) a=ff m b (k+1) (ws.drop (k+1)) (if eQ m b (4*k) a then a+4 else a):=by
 rw[fv h];rfl
def Lf(m:aI)(au:M)(ps:L Z):aI:=if au=1 then {m with text:=ps} else {m with bw:=ps}
section
variable{w a:av}{e:L M}{b g B:M}{m:aI}{d:aC}{ps:L Z}
theorem eF.Hk(h:eF w e b g m)(j:az w a N)(f:aV a B 3 1 d (ah ps) (ps.map (I .i64))):eF (aK a ⟨b,3,N⟩ d) e b g {m with text:=ps}/\az w (aK a ⟨b,3,N⟩ d) (S b)/\∃u,aq a ⟨b,3,N⟩=S u/\dx a ⟨b,3,N⟩=F:=by
 obtain⟨v,x,A,y,i,k,l,o,z,p,r,s⟩:=h.kept j;have c:=bK a b 3 d;have R:=dr.aO i;refine⟨⟨v,x,d,y,by simpa using i.set 3 d,kU k c R (by decide) (by decide) (by decide) (by decide),ec l c R (by decide),ec o c R (by decide),zl (ec f c R (by decide)),ec p c R (by decide),r,s⟩,(j.but _).trans c,_,i.cell 3,i.free 3⟩
theorem eF.Mh(h:eF w e b g m)(j:az w a N)(f:aV a B 3 1 d (ah ps) (ps.map (I .i64))):eF (aK a ⟨b,4,N⟩ d) e b g {m with bw:=ps}/\az w (aK a ⟨b,4,N⟩ d) (S b)/\∃u,aq a ⟨b,4,N⟩=S u/\dx a ⟨b,4,N⟩=F:=by
 obtain⟨v,x,y,A,i,k,l,o,p,z,r,s⟩:=h.kept j;have c:=bK a b 4 d;have R:=dr.aO i;refine⟨⟨v,x,y,d,by simpa using i.set 4 d,kU k c R (by decide) (by decide) (by decide) (by decide),ec l c R (by decide),ec o c R (by decide),ec p c R (by decide),zl (ec f c R (by decide)),r,s⟩,(j.but _).trans c,_,i.cell 4,i.free 4⟩
end
theorem RK(X:L M)(b g n:M)(m:aI)(f:M)(c:Z)(w:av)(hm:eF w X b g m)(T:eI n m)(hv:yl m.obj)(hs:f=1\/f=2)(H:0<=c)(h1:c<=562949953421312):
  Calls prog 115 #[bO b,I J f,I J c] w λe d=>e=aH (I J (iG m f c))/\az w d (S b)/\eF d X b g (Lf m f (ju m f c)):=by
 obtain⟨i0,Y,y,z,A⟩:=fG Tryz.pR;have P:=ae hm;obtain⟨v1,v2,v3,v4,B,j,-⟩:=hm;have k0:aq w ⟨b,0,N⟩=S (aM (S ⟨g,0,N⟩)):=B.cell 0;have l:=hv.2.1;have d:f-1<ah m.obj.align:=by rw[l.1];omega
 have p:=ae (show dG m.obj f=lX (m.obj.align[f-1]'d) by unfold dG;rw[List.getD_eq_getElem?_getD,List.getElem?_eq_getElem d];rfl);have o:dG m.obj f=4\/dG m.obj f=8\/dG m.obj f=16:=pX _;have h:=ae (Ro g m.obj f w j l (by omega) (by omega));rw[<- p.o]at h;have RR:=ma c (dG m.obj f) H (by omega) o;have r:=ae (Gn c (dG m.obj f) w H (by omega) (by omega) (by omega));have s:=ae (FU g m.obj f w j);have hwl:(yp m.obj f).length<=1200:=by
  have:=hv.1.1
  rcases hs with rfl|rfl
  ·exact this.1
  ·exact this.2.1
 have sG:=ae (show ju m f c=dU m f 0 ((yp m.obj f).drop 0) (du c (dG m.obj f))from R);have EE:=ae (show iG m f c=ff m f 0 ((yp m.obj f).drop 0) (du c (dG m.obj f))from R);clear p o;generalize du c (dG m.obj f)=V at *;generalize dG m.obj f=bd at *;generalize ju m f c=x at *;generalize iG m f c=G at *;generalize yp m.obj f=o at *;have cS:=ae (λ(d c:Z) W (h:az w W N) H h1=>adP X b g n m f d c W (P.o.kept h) T H h1);have HN:=ae T;clear B j l T hv d;unfold bO at *;go_enter func115,ntmps115
 go_wp2_with fail;refine h.o.mono ?_;rintro e B ⟨rfl,rfl⟩;go_wp2_with fail;refine r.o.mono ?_;rintro e B ⟨rfl,rfl⟩;go_wp2_with fail;refine s.o.mono ?_;rintro e B ⟨aw,cw,rfl,-,rfl⟩;clear h r s;go_wp2
 go_loopw [7,8,25] (λc v i wr=>∃(k:M) (a:Z) (l:L Z),k<=ah o/\i=I J k/\c=I J a/\(ah l)=k/\x=l++dU m f k (o.drop k) a/\G=ff m f k (o.drop k) a/\V<=a/\a<=V+4*k/\aV wr B.heap.size 3 1 v k (l.map (I .i64))/\az B wr N) (λ_ _ i _=>ah o-(aN i).toNat)
 case atStart=>exact⟨0,V,[],bG _,R,R,R,sG.o,EE.o,Int.le_refl _,by omega,eO _ _ _ _,aW _ _⟩
 case round=>
  obtain⟨k,a,l,hk,rfl,rfl,p,r,h,ha1,ha2,j,d⟩:=hrel;obtain⟨eR,cv,rfl⟩:=yi j;have O:=ae d;have hsz:=d.size;have Pr:=ae r;have Pq:=ae h;clear d r h sG EE;by_cases D:k<ah o
  ·have hlt':(k:Z)<(ah o:Z):=by omega
   have s:=ae (Pr.o.trans (by rw[aah m f o k D a]));have r:=ae (Pq.o.trans (abe m f o k D a));have w4:J.wrap (4*(k:Z))=4*k:=dD _ ⟨by omega,by omega⟩;go_wp2_with (at_builtin;refine jI _ R _ _ 23 rfl B.heap.size 3 i0 (I J 0) 1 8 underlying23 Y y z A R (by decide) _ _ _ R (j.alloc _) ⟨wr.heap.size,0,N⟩ 1 1 [I J a] rfl rfl (qt _ _ _) (by intro u d;simp at d;subst d;rfl) (by unfold cu;omega) (by omega) (by simp;omega) ?_;intro v' w3 d h _;obtain⟨gR,C,rfl⟩:=yi d;have K:=ae (KW (ya O.o (aG wr (.cells #[I J a] 3) N)) h (λb c=>(j.lt b c).1));have U:=ae d;clear h d)
   refine(cS.o (4*k) a w3 K.o (by omega) (by omega)).mono ?_;rintro e w5 ⟨rfl,d⟩;have mg:=ae (ya K.o d);have Q:=ae (U.o.kept d (Decidable.em _));clear d U K j
   cases d:eQ m f (4*k) a
   ·rw[d]at s r;have E:=ae (show x=(l++[a])++dU m f (k+1) (o.drop (k+1)) a by rw[s.o];simp);have h:=ae (show G=ff m f (k+1) (o.drop (k+1)) a from r.o);clear d s r;go_wp2
    go_roundw
    case rel=>exact⟨k+1,a,l++[a],by omega,by go_num,R,by simp[p],E.o,h.o,by omega,by omega,by rw[pH];exact Q.o,mg.o⟩
    case measure=>simp[aN];omega
   ·rw[d]at s r;have E:=ae (show x=(l++[a])++dU m f (k+1) (o.drop (k+1)) (a+4) by rw[s.o];simp);have h:=ae (show G=ff m f (k+1) (o.drop (k+1)) (a+4)from r.o);have wa:J.wrap (a+4)=a+4:=dD _ ⟨by omega,by omega⟩;clear d s r;go_wp2
    go_roundw
    case rel=>exact⟨k+1,a+4,l++[a],by omega,by go_num,R,by simp[p],E.o,h.o,by omega,by omega,by rw[pH];exact Q.o,mg.o⟩
    case measure=>simp[aN];omega
  ·obtain rfl:k=ah o:=by omega
   have g3:decide ((ah o:Z)<(ah o:Z))=F:=by simp
   have s:=ae (show x=l++[a] by rw[Pr.o,jJ];rfl);have r:=ae (show G=a by rw[Pq.o,jJ];rfl);have Nn:ah x=ah o+1:=by rw[s.o];simp[p]
   have ND:=ae (show x.map (I .i64)=l.map (I .i64)++[I J a] by rw[s.o];simp);rcases hs with rfl|rfl
   ·have d1:((1:Z)==1)=true:=R;go_wp2_with (at_builtin;refine jI _ R _ _ 23 rfl B.heap.size 3 i0 (I J 0) 1 8 underlying23 Y y z A R (by decide) _ _ _ R (j.alloc _) ⟨wr.heap.size,0,N⟩ 1 1 [I J a] rfl rfl (qt _ _ _) (by intro u d;simp at d;subst d;rfl) (by unfold cu;omega) (by omega) (by simp;omega) ?_;intro v' w3 d h _;obtain⟨gR,C,rfl⟩:=yi d;have K:=ae (KW (ya O.o (aG wr (.cells #[I J a] 3) N)) h (λb c=>(j.lt b c).1));obtain⟨E,t2,u,c3,f3⟩:=P.o.Hk (ps:=x) K.o (by rw[Nn,ND.o];exact d);have Q:=ae E;have U:=ae t2;clear h d E t2)
    go_ret;exact⟨by rw[r.o];rfl,U.o,by unfold Lf;rw[aD R];exact Q.o⟩
   ·have d1:((2:Z)==1)=F:=R;go_wp2_with (at_builtin;refine jI _ R _ _ 23 rfl B.heap.size 3 i0 (I J 0) 1 8 underlying23 Y y z A R (by decide) _ _ _ R (j.alloc _) ⟨wr.heap.size,0,N⟩ 1 1 [I J a] rfl rfl (qt _ _ _) (by intro u d;simp at d;subst d;rfl) (by unfold cu;omega) (by omega) (by simp;omega) ?_;intro v' w3 d h _;obtain⟨gR,C,rfl⟩:=yi d;have K:=ae (KW (ya O.o (aG wr (.cells #[I J a] 3) N)) h (λb c=>(j.lt b c).1));obtain⟨E,t2,u,c3,f3⟩:=P.o.Mh (ps:=x) K.o (by rw[Nn,ND.o];exact d);have Q:=ae E;have U:=ae t2;clear h d E t2)
    go_ret;exact⟨by rw[r.o];rfl,U.o,by unfold Lf;rw[ax (by decide)];exact Q.o⟩
theorem KT(r:cg)(w:av)(h:r.kind=6->r.bh=4\/r.bh=12):
  Calls prog 56 #[eU r] w λe a=>e=aH (I J (yy r))/\az w a N:=by
 have G:=ae (λo:Obj=>aG w o N);unfold eU yy;obtain⟨k,i,a,j,c⟩:=r;simp only at *;by_cases b:a=4
 ·subst b;go_enter func56,ntmps56;go_wp2;go_ret;exact⟨by simp,G.o _⟩
 by_cases d:a=5
 ·subst d;clear b;go_enter func56,ntmps56;go_wp2;go_ret;exact⟨by simp,G.o _⟩
 by_cases f:a=6
 ·subst f;have g:=h R;clear b d h;rcases g with rfl|rfl
  all_goals
   go_enter func56,ntmps56;go_wp2;go_ret;exact⟨by simp,G.o _⟩
 have g:(a==4)=F:=df.2 b;have l:(a==5)=F:=df.2 d;have m:(a==6)=F:=df.2 f;rw[ax (by omega),ax f];clear b d f h;go_enter func56,ntmps56;go_wp2;go_ret;exact⟨R,G.o _⟩
theorem afe(s:ByteArray)(w:av)(y:s.size<=1048576):
  Calls prog 134 #[aB s] w λe a=>aX e (mW s)/\a=w:=by
 go_enter func134,ntmps134;go_wp2
 go_loop [3] (λi=>∃k:M,k<=s.size/\i=I J k/\(∀j (d:j<s.size),j<k->ic (s[j].toNat:Z))/\∀h:0<s.size,0<k->¬(48<=(s[0].toNat:Z)/\(s[0].toNat:Z)<=57)) (λi=>s.size-(aN i).toNat)
 case atStart=>exact⟨0,bG _,R,λj _ d=>absurd d (ji j),λ_ h=>absurd h (Nat.lt_irrefl _)⟩
 case round=>
  obtain⟨k,x,rfl,a,b⟩:=hrel;have o:=ae a;have p:=ae b;clear a b;by_cases c:k<s.size
  ·have v:(0:Z)<=(s[k].toNat:Z):=by omega
   rcases (show (s[k].toNat:Z)<=47\/(48<=(s[k].toNat:Z)/\(s[k].toNat:Z)<=57)\/(58<=(s[k].toNat:Z)/\(s[k].toNat:Z)<=94)\/(95<=(s[k].toNat:Z)/\(s[k].toNat:Z)<=95)\/(96<=(s[k].toNat:Z)/\(s[k].toNat:Z)<=96)\/(97<=(s[k].toNat:Z)/\(s[k].toNat:Z)<=122)\/123<=(s[k].toNat:Z)from by omega)with r|⟨l,m⟩|⟨l,m⟩|⟨l,m⟩|⟨l,m⟩|⟨l,m⟩|r
   ·have N:=ae (show ¬mW s from λh=>by have:=h.2.2.2 k c;unfold ic at this;omega);go_wp2
    all_goals first|(go_ret;exact⟨aX.no N.o,R⟩)|(exfalso;rename_i b;simp at b;omega)
   ·have g:=ae (show ic (s[k].toNat:Z)from by unfold ic;omega);by_cases a:k=0
    ·subst a;have N:=ae (show ¬mW s from λh=>h.2.2.1 c ⟨l,m⟩);go_wp2
     all_goals first|(go_ret;exact⟨aX.no N.o,R⟩)|(exfalso;rename_i b;simp at b;omega)
    ·have f:1<=k:=by omega
     have u:((k:Z)==0)=F:=df.2 (by omega);clear a;go_wp2
     all_goals go_round
     all_goals first
      |(case rel=>exact⟨k+1,by omega,by go_num,λj d b=>(jY.1 b).elim (λh=>o.o j d h) (λh=>by subst h;exact g.o),λf _=>p.o f (by omega)⟩)
      |(case measure=>simp[aN];omega)
   ·have N:=ae (show ¬mW s from λh=>by have:=h.2.2.2 k c;unfold ic at this;omega);go_wp2
    all_goals first|(go_ret;exact⟨aX.no N.o,R⟩)|(exfalso;rename_i b;simp at b;omega)
   ·have g:=ae (show ic (s[k].toNat:Z)from by unfold ic;omega);have u:=ae (show ¬(48<=(s[k].toNat:Z)/\(s[k].toNat:Z)<=57)from by omega);go_wp2
    all_goals go_round
    all_goals first
     |(case rel=>exact⟨k+1,by omega,by go_num,λj d b=>(jY.1 b).elim (λh=>o.o j d h) (λh=>by subst h;exact g.o),λf _=>(WX k).elim (λa=>by subst a;exact u.o) (λa=>p.o f a)⟩)
     |(case measure=>simp[aN];omega)
   ·have N:=ae (show ¬mW s from λh=>by have:=h.2.2.2 k c;unfold ic at this;omega);go_wp2
    all_goals first|(go_ret;exact⟨aX.no N.o,R⟩)|(exfalso;rename_i b;simp at b;omega)
   ·have g:=ae (show ic (s[k].toNat:Z)from by unfold ic;omega);have u:=ae (show ¬(48<=(s[k].toNat:Z)/\(s[k].toNat:Z)<=57)from by omega);go_wp2
    all_goals go_round
    all_goals first
     |(case rel=>exact⟨k+1,by omega,by go_num,λj d b=>(jY.1 b).elim (λh=>o.o j d h) (λh=>by subst h;exact g.o),λf _=>(WX k).elim (λa=>by subst a;exact u.o) (λa=>p.o f a)⟩)
     |(case measure=>simp[aN];omega)
   ·have N:=ae (show ¬mW s from λh=>by have:=h.2.2.2 k c;unfold ic at this;omega);go_wp2
    all_goals first|(go_ret;exact⟨aX.no N.o,R⟩)|(exfalso;rename_i b;simp at b;omega)
  ·by_cases a:1<=s.size
   ·have b:decide ((1:Z)<=(s.size:Z))=T:=by simp;omega
    go_wp2;go_ret;refine⟨aX.of ?_,R⟩;rw[decide_eq_true_iff];exact⟨λh=>⟨a,by omega,λf=>p.o f (by omega),λi a=>o.o i a (by omega)⟩,λh=>by have:=h.2.1;omega⟩
   ·have b:decide ((1:Z)<=(s.size:Z))=F:=by simp;omega
    have N:=ae (show ¬mW s from λh=>by have:=h.1;omega);go_wp2;go_ret;exact⟨aX.no N.o,R⟩
structure qY (W:av) (B:M) (o:aF) (at_:aR aY) (ct:M) (af:aR aY) (cf:M) (ad:aR aY) (cd:M) (Z:M):Prop where
 aO:aA W B #[ak N 0 0,ak at_ o.text.length ct,ak af o.bw.length cf,ak ad o.data.length cd,ak (S ⟨Z,0,N⟩) o.bf.toNat o.bf.toNat] 23
 text:yq W at_ o.text
 bw:yq W af o.bw
 data:yq W ad o.data
 zero:yq W (S ⟨Z,0,N⟩) (eP o.bf.toNat 0)
 ct:o.text.length<=ct/\ct<=cu
 cf:o.bw.length<=cf/\cf<=cu
 cd:o.data.length<=cd/\cd<=cu
theorem qY.grown{c:av}{B:M}{o:aF}{a:aR aY}{j:M}{f:aR aY}{i:M}{d:aR aY}{g:M}{Z:M}(h:qY W B o a j f i d g Z)(b:az W c N):qY c B o a j f i d g Z :=
 ⟨h.aO.grown b (by simp),h.text.kept (λ_ _ a=>yd a b),h.bw.kept (λ_ _ a=>yd a b),h.data.kept (λ_ _ a=>yd a b),h.zero.kept (λ_ _ a=>yd a b),h.ct,h.cf,h.cd⟩
theorem Gk(g:Nat)(o:aF)(w:av)(h:yr w g o)(p:0<=o.bf/\o.bf<=64):
  Calls prog 30 #[aM (S ⟨g,0,N⟩)] w λe d=>∃B c m j l i k b,e=aH (ak (S ⟨B,0,N⟩) 5 5)/\qY d B o c m j l i k b/\az w d N:=by
 obtain⟨X,V,u,x,y⟩:=fG Tryz.pR;obtain⟨c,m,j,l,i,k,Y,ca,gP,q,F,cr,r,b,d,f,-⟩:=h.open;have s:=r.cell 3;have E:=ae r;have K:=ae (yq.dh b);have O:=ae (yq.dh d);have P:=ae (yq.dh f);have A:=ae (kF b);have C:=ae (kF d);have D:=ae (kF f);clear h r b d f;obtain⟨n,b⟩:=eX p.1;have G:=ae b;have Q:n<=64:=by omega
 rw[b]at s;clear b p;go_enter func30,ntmps30;go_wp2_with (first|(refine wpList_make_full _ R _ _ 23 rfl w.heap.size 3 X (I J 0) 1 underlying23 V u x .i64 .i64 (n:Z) (n:Z) n R R R R (by rw[y];omega) (by unfold cu;omega) (bz _) ?_;intro r f b))
 have H:=ae f;have z:=ae b;have d:=E.o.grown b (by simp);have L:=d.cell 0;have M:=d.cell 1;have T:=d.cell 2;clear f b d s;go_wp2
 go_region
 go_wp2;go_ret;have d:=yf (aG r (.cells #[ak N 0 0,ak c (ah o.text) m,ak j (ah o.bw) l,ak i (ah o.data) k,ak (S ⟨w.heap.size,0,N⟩) n n] 23) N);have e:o.bf.toNat=n:=by rw[G.o];simp
 have s:=λ(a:aY) (v:aC) (b:aq w a=S v)=>yd (yd b z.o) d
 refine⟨r.heap.size,c,m,j,l,i,k,w.heap.size,R,⟨?_,K.o.kept s,O.o.kept s,P.o.kept s,?_,A.o,C.o,D.o⟩,ya z.o d⟩
 ·rw[e];exact aA.new r _ _
 ·rw[e];have p:yq r (S ⟨w.heap.size,0,N⟩) (eP n 0):=by
   refine yq.dh (n:=n) (cap:=n) (base:=w.heap.size) ?_;have h:=H.o;have U:(madeCells (I .i64 0).cells (n*1)).toList=(eP n (0:Z)).map (I .i64):=by
    rw[Nat.mul_one];show (madeCells #[I .i64 0] n).toList=_;rw[toList_madeCells_one];simp
   rw[U]at h;exact h
  exact p.kept (λ_ _ b=>yd b d)
def DM(o:aF)(k:M)(h:k<ah o.aE):Prop:=tu o o.aE[k]/\¬ ∃j,∃hj:j<ah o.aE,j<k/\o.aE[j].name=o.aE[k].name
theorem qY.len{B:M}{o:aF}{a:aR aY}{g:M}{c:aR aY}{f:M}{b:aR aY}{d:M}{Z:M}(h:qY W B o a g c f b d Z)(j:0<=o.bf)(n:M)(i:n<=4):
  ∃a L cap,aq W ⟨B,n,N⟩=S (ak a L cap)/\(L:Int)=iU o n:=by
 rcases (show n=0\/n=1\/n=2\/n=3\/n=4 from by omega)with rfl|rfl|rfl|rfl|rfl
 ·exact⟨_,_,_,h.aO.cell 0,by simp[iU,yp]⟩
 ·exact⟨_,_,_,h.aO.cell 1,by simp[iU,yp]⟩
 ·exact⟨_,_,_,h.aO.cell 2,by simp[iU,yp]⟩
 ·exact⟨_,_,_,h.aO.cell 3,by simp[iU,yp]⟩
 ·exact⟨_,_,_,h.aO.cell 4,by simp[iU];omega⟩
theorem abj(g B k:M)(o:aF)(U:aR aY)(ct:M)(af:aR aY)(cf:M)(ad:aR aY)(cd:M)(c:M)(w:av)(h:yr w g o)(hs:qY w B o U ct af cf ad cd c)(hn:mD o)(hz:0<=o.bf/\o.bf<=64)
  (hl:∀y∈o.aE,ah y.name<=255) (E:k<ah o.aE) :
  Calls prog 92 #[aM (S ⟨g,0,N⟩),ak (S ⟨B,0,N⟩) 5 5,I J k] w λe c=>aX e (DM o k E)/\az w c N:=by
 obtain⟨_,_,_,_,_,_,_,_,gP,q,_,_,f,-,-,-,-,s,-⟩:=h.open;have hns:=hn.2.2.2.2.1;obtain⟨sg,V,hgs,l⟩:=gH.dh s (by omega);subst V;obtain⟨q0,q1,q2,q3⟩:=l k E;have HC:=ae l;have k5:=f.cell 5;have HB:=ae f;have HS:=ae hs;have hnl:=hl o.aE[k] (List.getElem_mem E);have m:0<=iU o o.aE[k].au/\iU o o.aE[k].au<=65535:=by
  have:=sd hn o.aE[k].au
  unfold iU;split<;>omega
 have P:=ae (aA.new w #[aB (bs o.aE[k].name),I J o.aE[k].bind,I J o.aE[k].au,I J o.aE[k].off] 107);have p:=ae (aG w (.cells #[aB (bs o.aE[k].name),I J o.aE[k].bind,I J o.aE[k].au,I J o.aE[k].off] 107) N);have cN:=ae (λW=>afe (bs o.aE[k].name) W (by rw[nK];omega));have r:=ae (show DM o k E↔(mW (bs o.aE[k].name)/\(0<=o.aE[k].bind/\o.aE[k].bind<=2)/\(0<=o.aE[k].au/\o.aE[k].au<=4)/\¬(o.aE[k].au=0/\o.aE[k].bind=0)/\0<=o.aE[k].off/\o.aE[k].off%4=0/\o.aE[k].off<=4*iU o o.aE[k].au)/\¬ ∃j,∃X:j<ah o.aE,j<k/\o.aE[j].name=o.aE[k].name from Iff.rfl)
 have g1:(k:Z)<(ah o.aE:Z):=by omega
 clear h hs s f l hn hl;generalize DM o k E=Q at *;go_enter func92,ntmps92;go_wp2_with fail;refine(cN.o _).mono ?_;rintro e w1 ⟨t,hw1⟩;subst hw1;have s1:=P.o.cell 1;have s2:=P.o.cell 2;have s3:=P.o.cell 3;rcases t.split with ⟨rfl,p1⟩|⟨rfl,p1⟩<;>clear t
 ·go_wp2;go_ret;exact⟨aX.no (λm=>p1.o (r.o.1 m).1.1),p.o⟩
 have u:Hd (∀W,(¬Q)->az w W N->aX (aH (.bool F)) Q/\az w W N):=λW a b=>⟨aX.no a,b⟩
 generalize s:o.aE[k].bind=f at *;generalize z:o.aE[k].au=v at *;generalize x:o.aE[k].off=l at *;have Ew:=ae (show o.aE[k].bind=f/\o.aE[k].au=v/\o.aE[k].off=l from ⟨s,z,x⟩);clear s z x;by_cases r1:f<0
 ·have d:decide (f<0)=T:=by simp;omega
  go_wp2;go_ret;exact u.o _ (λm=>by have:=(r.o.1 m).1.2.1.1;omega) p.o
 have d1:decide (f<0)=F:=by simp;omega
 by_cases r2:2<f
 ·have d:decide (2<f)=T:=by simp;omega
  go_wp2;go_ret;exact u.o _ (λm=>by have:=(r.o.1 m).1.2.1.2;omega) p.o
 have d2:decide (2<f)=F:=by simp;omega
 by_cases r3:v<0
 ·have d:decide (v<0)=T:=by simp;omega
  go_wp2;go_ret;exact u.o _ (λm=>by have:=(r.o.1 m).1.2.2.1.1;omega) p.o
 have d3:decide (v<0)=F:=by simp;omega
 by_cases r4:4<v
 ·have d:decide (4<v)=T:=by simp;omega
  go_wp2;go_ret;exact u.o _ (λm=>by have:=(r.o.1 m).1.2.2.1.2;omega) p.o
 have d4:decide (4<v)=F:=by simp;omega
 by_cases r6:l<0
 ·have d:decide (l<0)=T:=by simp;omega
  go_wp2;go_ret;exact u.o _ (λm=>by have:=(r.o.1 m).1.2.2.2.2.1;omega) p.o
 have d6:decide (l<0)=F:=by simp;omega
 have ajb:0<=l:=by omega
 by_cases s:l%4=0
 rotate_left
 ·have d:(l%4==0)=F:=df.2 s;have O:=ae s;clear s;go_wp2;go_ret;exact u.o _ (λm=>O.o (r.o.1 m).1.2.2.2.2.2.1) p.o
 have d7:(l%4==0)=T:=beq_iff_eq.2 s;have O:=ae s;clear s;obtain⟨n,hsn⟩:=eX (show 0<=v from by omega);have Dt:n<=4:=by omega
 obtain⟨ao,L,cap,hcl,x⟩:=(HS.o.grown (p.o)).len hz.1 n Dt;subst hsn;have s:iU o (n:Z)=(L:Z):=x.symm;have A:=ae s;rw[s]at m;have aiO:L<=65535:=by omega
 clear x s m;have hwl:J.wrap (4*(L:Z))=4*(L:Z):=dD _ ⟨by omega,by omega⟩;have ai3:n<5:=by omega
 by_cases r8:4*(L:Z)<l
 ·have s:decide (4*(L:Z)<l)=T:=by simp;omega
  go_wp2
  go_quiet (fail)
  go_wp2;go_ret;exact u.o _ (λm=>by have:=(r.o.1 m).1.2.2.2.2.2.2;rw[A.o]at this;omega) (ye p.o _)
 have e8:decide (4*(L:Z)<l)=F:=by simp;omega
 by_cases r5:n=0/\f=0
 ·obtain⟨m,s⟩:=r5;have x:(n:Z)<=0:=by omega
  have z:f<=0:=by omega
  have x3:(((n:Z))==0)=T:=by simp;omega
  have x4:(f==0)=T:=by simp;omega
  have K:=ae (show (n:Z)=0/\f=0 from by omega);clear m s;go_wp2
  go_quiet (fail)
  go_wp2;go_ret;exact u.o _ (λm=>(r.o.1 m).1.2.2.2.1 K.o) (ye p.o _)
 have K:=ae (show ¬((n:Z)=0/\f=0)from λh=>r5 ⟨by omega,h.2⟩);have HP:=ae (show mW (bs o.aE[k].name)/\(0<=f/\f<=2)/\(0<=(n:Z)/\(n:Z)<=4)/\¬((n:Z)=0/\f=0)/\0<=l/\l%4=0/\l<=4*iU o n from ⟨p1.o,⟨by omega,by omega⟩,⟨by omega,by omega⟩,K.o,by omega,O.o,by rw[A.o];omega⟩);rcases (show (((n:Z)==0)=F)\/((((n:Z))==0)=T/\(f==0)=F)from by
   by_cases m:n=0
   ·exact Or.inr ⟨by simp[m],by simp;omega⟩
   ·exact Or.inl (by simp;omega))with x3|⟨x3,x4⟩<;>clear r5
 all_goals
  go_wp2
  go_quiet (fail)
  go_wp2
  go_loopw [9] (λi wr=>∃j:M,j<=k/\i=I J j/\(∀a (z:a<ah o.aE),a<j->¬o.aE[a].name=o.aE[k].name)/\az w wr N/\aq wr ⟨w.heap.size,0,N⟩=S (aB (bs o.aE[k].name))) (λi _=>k-(aN i).toNat)
  case atStart=>exact⟨0,bG _,R,λj _ X=>absurd X (ji j),ye p.o _,by simp⟩
  case round=>
   obtain⟨j,X,rfl,m,s,C⟩:=hrel;have H:=ae m;have x:=ae s;clear m s;by_cases Y:j<k
   ·have hb5:=(HB.o.grown x.o (by simp)).cell 5;have D:j<ah o.aE:=by omega
    have hq0:=yd (HC.o j D).1 x.o;have g2:(j:Z)<(k:Z):=by omega
    have g3:(j:Z)<(ah o.aE:Z):=by omega
    by_cases m:o.aE[j].name=o.aE[k].name
    ·have BA:((bs o.aE[j].name).toList==(bs o.aE[k].name).toList)=T:=by rw[m];simp
     have G:=ae m;clear m;go_wp2
     go_quiet (fail)
     go_wp2;go_ret;exact u.o _ (λm=>(r.o.1 m).2 ⟨j,D,Y,G.o⟩) (ye x.o _)
    ·have BA:((bs o.aE[j].name).toList==(bs o.aE[k].name).toList)=F:=by rw[ik,ik];simpa using m
     have G:=ae m;clear m;go_wp2
     go_quiet (fail)
     go_wp2
     all_goals first
      |(refine⟨⟨j+1,by omega,by go_num,λa z s=>(jY.1 s).elim (λh=>H.o a z h) (λh=>by subst h;exact G.o),ye x.o _,C⟩,?_⟩;simp[aN];omega)
      |(go_roundw;all_goals first|(case rel=>exact⟨j+1,by omega,by go_num,λa z s=>(jY.1 s).elim (λh=>H.o a z h) (λh=>by subst h;exact G.o),ye x.o _,C⟩)|(case measure=>simp[aN];omega))
   ·go_wp2;go_ret;exact⟨aX.iV (r.o.2 ⟨HP.o,λ⟨a,z,s,e⟩=>H.o a z (by omega) e⟩),x.o⟩
theorem Tz(v:Z)(j:M)(w:av)(c:0<=v)(f:v<=4294967295)(g:j<=31):
  Calls prog 98 #[I J v,I J j] w λe c=>e=aH (I J (v/2 ^ j%2))/\c=w:=by
 go_enter func98,ntmps98;go_wp2;go_ret;have d:(0:Z)<2 ^ j:=uI (by decide);have a:0<=v/2 ^ j:=Int.ediv_nonneg c (Int.le_of_lt d);have b:v/2 ^ j<=v:=Int.ediv_le_self _ c;refine⟨?_,R⟩;rw[<- low (v/2 ^ j) 1 (by decide) 1 2 rfl rfl a (by omega)];rfl
def qb(form:Z):Z:=if form=1 then 85 else if form=2 then 74 else if form=3 then 73 else if form=4 then 66 else if form=5 then 83 else if form=6 then 82 else 69
def mT(form:Z):M:=if form=1 then 20 else if form=2 then 21 else if form=4 then 13 else 12
theorem afU(a:Z)(w:av)(b:1<=a/\a<=7):
  Calls prog 99 #[.int .u8 (qb a)] w λe b=>e=aH (I J (mT a))/\b=w:=by
 rcases (show a=1\/a=2\/a=3\/a=4\/a=5\/a=6\/a=7 from by omega)with rfl|rfl|rfl|rfl|rfl|rfl|rfl
 all_goals
  clear b;simp only[qb,mT,Int.reduceEq,if_true,if_false];go_enter func99,ntmps99;go_wp2;go_ret;exact⟨R,R⟩
theorem tC(w:av)(l:L aC)(t:TypeId):∀j u,l[j]?=S u->(w.alloc (.cells l.toArray t)).cell? ((⟨w.heap.size,0,N⟩:aY).add j)=S u:=by
 intro j u a
 have:=(aA.new w l.toArray t).cell (0+j)
 rw[show (⟨w.heap.size,0,N⟩:aY).add j=⟨w.heap.size,0+j,N⟩from by simp[Addr.add];omega,this];simpa using a
def jo(f:M->Z)(a:M):M->L Z
 |0=>[]
 |k+1=>jo f a k++[((a+k:M):Z),f (a+k)]
theorem Di(f:M->Z)(a k:M):(jo f a k).length=k*2:=by
 induction k with
 |zero=>rfl
 |succ k b=>simp[jo,b];omega
def zB(i:M):Z:=12+(i:Z)
def sV(i:M):Z:=20+(i:Z)
def fS(i:M):Z:=if 5<=i then 20+(i:Z)else 7+(i:Z)
def tY(i:M):Z:=if i=11 then 20 else if 12<=i then (i:Z)else 20+(i:Z)
def iL(form:Z):L Z:=if form=1 then jo zB 0 20 else if form=2 then jo tY 1 19++[20,31]else if form=3 then jo sV 0 12 else if form=4 then jo fS 1 10++[11,7,12,31]else if form=5 then jo fS 0 12 else []
theorem tA{wr d:av}{v:aC}{o:Obj}(b:az w wr N)(c:aV wr w.heap.size 3 1 v n xs)(a:(wr.alloc o).grownBy d v.ownBlock):az w d N:=by
 have f:=b.size;exact⟨a.os.trans b.os,a.tape.trans b.tape,a.output.trans b.output,by have:=a.size;simp at this;omega,λi d _=>
  (a.block i (by simp;omega) (λe=>by have:=(c.lt i e.symm).1;omega)).trans ((Below.heap_alloc _ _ i (by omega)).trans (b.block i d (by simp)))⟩
theorem aeK(w:av):
  Calls prog 97 #[.int .u8 85] w λe a=>∃v,e=aH v/\aV a w.heap.size 3 1 v ((iL 1).length) ((iL 1).map (I .i64))/\az w a N:=by
 obtain⟨B,x,f,g,h⟩:=fG Tryz.pR;have s:=ae (λk=>show jo zB 0 (k+1)=jo zB 0 k++[((0+k:M):Z),zB (0+k)]from R);have r:=ae (show iL 1=jo zB 0 20 from R);go_enter func97,ntmps97;go_wp2
 go_loopw [3,4] (λv i wr=>∃k:M,k<=20/\i=I J ((0+k:M):Z)/\aV wr w.heap.size 3 1 v (k*2) ((jo zB 0 k).map (I .i64))/\az w wr N) (λ_ i _=>20-(aN i).toNat)
 case atStart=>exact⟨0,bG _,R,eO _ _ _ _,aW _ _⟩
 case round=>
  obtain⟨k,C,rfl,a,b⟩:=hrel;have l:=ae b;have A:=b.size;clear b;by_cases z:k<20
  ·generalize b:0+k=j at *;have m:=ae b;have y:j<20:=by omega
   have p:=ae (show zB j=12+(j:Z)from R);clear b;go_wp2_with (at_builtin;refine jI _ R _ _ 23 rfl w.heap.size 3 B (I J 0) 1 8 underlying23 x f g h R (by decide) _ _ _ R (a.alloc _) ⟨wr.heap.size,0,N⟩ 2 2 [I J (j:Z),I J (12+(j:Z))] rfl rfl (tC _ _ _) (by intro u d;simp at d;first|(subst d;rfl)|(rcases d with d|d<;>(subst d;rfl))) (by unfold cu;omega) (by omega) (by simp;omega) ?_;intro D E c b _)
   have o:=ae (tA l.o a b);clear b a;go_wp2
   go_roundw
   case rel=>exact⟨k+1,by omega,by have:=m.o;go_num,by rw[s.o k,m.o,p.o];simpa[rG]using c,o.o⟩
   case measure=>simp[aN];omega
  ·have b:k=20:=by omega
   subst b;go_wp2;go_ret;rw[r.o];exact⟨_,R,by simpa[Di]using a,l.o⟩
theorem aeG(w:av):
  Calls prog 97 #[.int .u8 73] w λe a=>∃v,e=aH v/\aV a w.heap.size 3 1 v ((iL 3).length) ((iL 3).map (I .i64))/\az w a N:=by
 obtain⟨B,x,f,g,h⟩:=fG Tryz.pR;have s:=ae (λk=>show jo sV 0 (k+1)=jo sV 0 k++[((0+k:M):Z),sV (0+k)]from R);have r:=ae (show iL 3=jo sV 0 12 from R);go_enter func97,ntmps97;go_wp2
 go_loopw [3,5] (λv i wr=>∃k:M,k<=12/\i=I J ((0+k:M):Z)/\aV wr w.heap.size 3 1 v (k*2) ((jo sV 0 k).map (I .i64))/\az w wr N) (λ_ i _=>12-(aN i).toNat)
 case atStart=>exact⟨0,bG _,R,eO _ _ _ _,aW _ _⟩
 case round=>
  obtain⟨k,C,rfl,a,b⟩:=hrel;have l:=ae b;have A:=b.size;clear b;by_cases z:k<12
  ·generalize b:0+k=j at *;have m:=ae b;have y:j<12:=by omega
   have p:=ae (show sV j=20+(j:Z)from R);clear b;go_wp2_with (at_builtin;refine jI _ R _ _ 23 rfl w.heap.size 3 B (I J 0) 1 8 underlying23 x f g h R (by decide) _ _ _ R (a.alloc _) ⟨wr.heap.size,0,N⟩ 2 2 [I J (j:Z),I J (20+(j:Z))] rfl rfl (tC _ _ _) (by intro u d;simp at d;first|(subst d;rfl)|(rcases d with d|d<;>(subst d;rfl))) (by unfold cu;omega) (by omega) (by simp;omega) ?_;intro D E c b _)
   have o:=ae (tA l.o a b);clear b a;go_wp2
   go_roundw
   case rel=>exact⟨k+1,by omega,by have:=m.o;go_num,by rw[s.o k,m.o,p.o];simpa[rG]using c,o.o⟩
   case measure=>simp[aN];omega
  ·have b:k=12:=by omega
   subst b;go_wp2;go_ret;rw[r.o];exact⟨_,R,by simpa[Di]using a,l.o⟩
theorem aeJ(w:av):
  Calls prog 97 #[.int .u8 83] w λe a=>∃v,e=aH v/\aV a w.heap.size 3 1 v ((iL 5).length) ((iL 5).map (I .i64))/\az w a N:=by
 obtain⟨y,x,f,g,h⟩:=fG Tryz.pR;have s:=ae (λk=>show jo fS 0 (k+1)=jo fS 0 k++[((0+k:M):Z),fS (0+k)]from R);have z:=ae (show iL 5=jo fS 0 12 from R);go_enter func97,ntmps97;go_wp2
 go_loopw [3,6] (λv i wr=>∃k:M,k<=12/\i=I J ((0+k:M):Z)/\aV wr w.heap.size 3 1 v (k*2) ((jo fS 0 k).map (I .i64))/\az w wr N) (λ_ i _=>12-(aN i).toNat)
 case atStart=>exact⟨0,bG _,R,eO _ _ _ _,aW _ _⟩
 case round=>
  obtain⟨k,H,rfl,b,a⟩:=hrel;have p:=ae a;have D:=a.size;clear a;by_cases C:k<12
  ·generalize r:0+k=j at *;have l:=ae r;have B:j<12:=by omega
   rcases (show (j<5)\/(5<=j)from by omega)with A|A
   ·have o:=ae (show fS j=7+(j:Z)from ax (by omega));clear r;go_wp2_with (at_builtin;refine jI _ R _ _ 23 rfl w.heap.size 3 y (I J 0) 1 8 underlying23 x f g h R (by decide) _ _ _ R (b.alloc _) ⟨wr.heap.size,0,N⟩ 2 2 [I J (j:Z),I J (7+(j:Z))] rfl rfl (tC _ _ _) (by intro u d;simp at d;first|(subst d;rfl)|(rcases d with d|d<;>(subst d;rfl))) (by unfold cu;omega) (by omega) (by simp;omega) ?_;intro E G c a _)
    have m:=ae (tA p.o b a);clear a b;go_wp2
    go_roundw
    case rel=>exact⟨k+1,by omega,by have:=l.o;go_num,by rw[s.o k,l.o,o.o];simpa[rG]using c,m.o⟩
    case measure=>simp[aN];omega
   ·have o:=ae (show fS j=20+(j:Z)from aD (by omega));clear r;go_wp2_with (at_builtin;refine jI _ R _ _ 23 rfl w.heap.size 3 y (I J 0) 1 8 underlying23 x f g h R (by decide) _ _ _ R (b.alloc _) ⟨wr.heap.size,0,N⟩ 2 2 [I J (j:Z),I J (20+(j:Z))] rfl rfl (tC _ _ _) (by intro u d;simp at d;first|(subst d;rfl)|(rcases d with d|d<;>(subst d;rfl))) (by unfold cu;omega) (by omega) (by simp;omega) ?_;intro E G c a _)
    have m:=ae (tA p.o b a);clear a b;go_wp2
    go_roundw
    case rel=>exact⟨k+1,by omega,by have:=l.o;go_num,by rw[s.o k,l.o,o.o];simpa[rG]using c,m.o⟩
    case measure=>simp[aN];omega
  ·have a:k=12:=by omega
   subst a;go_wp2;go_ret;rw[z.o];exact⟨_,R,by simpa[Di]using b,p.o⟩
theorem aeE(w:av):
  Calls prog 97 #[.int .u8 66] w λe a=>∃v,e=aH v/\aV a w.heap.size 3 1 v ((iL 4).length) ((iL 4).map (I .i64))/\az w a N:=by
 obtain⟨x,r,f,g,h⟩:=fG Tryz.pR;have y:=ae (λk=>show jo fS 1 (k+1)=jo fS 1 k++[((1+k:M):Z),fS (1+k)]from R);have B:=ae (show iL 4=jo fS 1 10++[11,7,12,31]from R);go_enter func97,ntmps97;go_wp2
 go_loopw [3,8] (λv i wr=>∃k:M,k<=10/\i=I J ((1+k:M):Z)/\aV wr w.heap.size 3 1 v (k*2) ((jo fS 1 k).map (I .i64))/\az w wr N) (λ_ i _=>11-(aN i).toNat)
 case atStart=>exact⟨0,bG _,R,eO _ _ _ _,aW _ _⟩
 case round=>
  obtain⟨k,H,rfl,b,a⟩:=hrel;have p:=ae a;have G:=a.size;clear a;by_cases E:k<10
  ·generalize s:1+k=j at *;have m:=ae s;have D:j<11:=by omega
   rcases (show (j<5)\/(5<=j)from by omega)with C|C
   ·have o:=ae (show fS j=7+(j:Z)from ax (by omega));clear s;go_wp2_with (at_builtin;refine jI _ R _ _ 23 rfl w.heap.size 3 x (I J 0) 1 8 underlying23 r f g h R (by decide) _ _ _ R (b.alloc _) ⟨wr.heap.size,0,N⟩ 2 2 [I J (j:Z),I J (7+(j:Z))] rfl rfl (tC _ _ _) (by intro u d;simp at d;first|(subst d;rfl)|(rcases d with d|d<;>(subst d;rfl))) (by unfold cu;omega) (by omega) (by simp;omega) ?_;intro z A c a _)
    have l:=ae (tA p.o b a);clear a b;go_wp2
    go_roundw
    case rel=>exact⟨k+1,by omega,by have:=m.o;go_num,by rw[y.o k,m.o,o.o];simpa[rG]using c,l.o⟩
    case measure=>simp[aN];omega
   ·have o:=ae (show fS j=20+(j:Z)from aD (by omega));clear s;go_wp2_with (at_builtin;refine jI _ R _ _ 23 rfl w.heap.size 3 x (I J 0) 1 8 underlying23 r f g h R (by decide) _ _ _ R (b.alloc _) ⟨wr.heap.size,0,N⟩ 2 2 [I J (j:Z),I J (20+(j:Z))] rfl rfl (tC _ _ _) (by intro u d;simp at d;first|(subst d;rfl)|(rcases d with d|d<;>(subst d;rfl))) (by unfold cu;omega) (by omega) (by simp;omega) ?_;intro z A c a _)
    have l:=ae (tA p.o b a);clear a b;go_wp2
    go_roundw
    case rel=>exact⟨k+1,by omega,by have:=m.o;go_num,by rw[y.o k,m.o,o.o];simpa[rG]using c,l.o⟩
    case measure=>simp[aN];omega
  ·have m:k=10:=by omega
   subst m;go_wp2_with (at_builtin;refine jI _ R _ _ 23 rfl w.heap.size 3 x (I J 0) 1 8 underlying23 r f g h R (by decide) _ _ _ R (b.alloc _) ⟨wr.heap.size,0,N⟩ 4 4 [I J 11,I J 7,I J 12,I J 31] rfl rfl (tC _ _ _) (by intro u d;simp at d;first|(subst d;rfl)|(rcases d with d|d|d|d<;>(subst d;rfl))) (by unfold cu;omega) (by omega) (by simp;omega) ?_;intro z A c a _)
   have l:=ae (tA p.o b a);clear a b;go_wp2;go_ret;rw[B.o];exact⟨_,R,by simpa[Di]using c,l.o⟩
theorem aeH(w:av):
  Calls prog 97 #[.int .u8 74] w λe a=>∃v,e=aH v/\aV a w.heap.size 3 1 v ((iL 2).length) ((iL 2).map (I .i64))/\az w a N:=by
 obtain⟨x,r,f,g,h⟩:=fG Tryz.pR;have y:=ae (λk=>show jo tY 1 (k+1)=jo tY 1 k++[((1+k:M):Z),tY (1+k)]from R);have C:=ae (show iL 2=jo tY 1 19++[20,31]from R);go_enter func97,ntmps97;go_wp2
 go_loopw [3,10] (λv i wr=>∃k:M,k<=19/\i=I J ((1+k:M):Z)/\aV wr w.heap.size 3 1 v (k*2) ((jo tY 1 k).map (I .i64))/\az w wr N) (λ_ i _=>20-(aN i).toNat)
 case atStart=>exact⟨0,bG _,R,eO _ _ _ _,aW _ _⟩
 case round=>
  obtain⟨k,K,rfl,b,a⟩:=hrel;have p:=ae a;have G:=a.size;clear a;by_cases E:k<19
  ·generalize s:1+k=j at *;have m:=ae s;have D:j<20:=by omega
   rcases (show (j<11)\/(11<=j/\j<=11)\/(12<=j)from by omega)with B|⟨B,H⟩|B
   ·have o:=ae (show tY j=20+(j:Z)from by unfold tY;rw[ax (by omega),ax (by omega)]);clear s;go_wp2_with (at_builtin;refine jI _ R _ _ 23 rfl w.heap.size 3 x (I J 0) 1 8 underlying23 r f g h R (by decide) _ _ _ R (b.alloc _) ⟨wr.heap.size,0,N⟩ 2 2 [I J (j:Z),I J (20+(j:Z))] rfl rfl (tC _ _ _) (by intro u d;simp at d;first|(subst d;rfl)|(rcases d with d|d<;>(subst d;rfl))) (by unfold cu;omega) (by omega) (by simp;omega) ?_;intro z A c a _)
    have l:=ae (tA p.o b a);clear a b;go_wp2
    go_roundw
    case rel=>exact⟨k+1,by omega,by have:=m.o;go_num,by rw[y.o k,m.o,o.o];simpa[rG]using c,l.o⟩
    case measure=>simp[aN];omega
   ·have o:=ae (show tY j=20 from aD (by omega));clear s;go_wp2_with (at_builtin;refine jI _ R _ _ 23 rfl w.heap.size 3 x (I J 0) 1 8 underlying23 r f g h R (by decide) _ _ _ R (b.alloc _) ⟨wr.heap.size,0,N⟩ 2 2 [I J (j:Z),I J (20)] rfl rfl (tC _ _ _) (by intro u d;simp at d;first|(subst d;rfl)|(rcases d with d|d<;>(subst d;rfl))) (by unfold cu;omega) (by omega) (by simp;omega) ?_;intro z A c a _)
    have l:=ae (tA p.o b a);clear a b;go_wp2
    go_roundw
    case rel=>exact⟨k+1,by omega,by have:=m.o;go_num,by rw[y.o k,m.o,o.o];simpa[rG]using c,l.o⟩
    case measure=>simp[aN];omega
   ·have o:=ae (show tY j=(j:Z)from by unfold tY;rw[ax (by omega),aD (by omega)]);clear s;go_wp2_with (at_builtin;refine jI _ R _ _ 23 rfl w.heap.size 3 x (I J 0) 1 8 underlying23 r f g h R (by decide) _ _ _ R (b.alloc _) ⟨wr.heap.size,0,N⟩ 2 2 [I J (j:Z),I J ((j:Z))] rfl rfl (tC _ _ _) (by intro u d;simp at d;first|(subst d;rfl)|(rcases d with d|d<;>(subst d;rfl))) (by unfold cu;omega) (by omega) (by simp;omega) ?_;intro z A c a _)
    have l:=ae (tA p.o b a);clear a b;go_wp2
    go_roundw
    case rel=>exact⟨k+1,by omega,by have:=m.o;go_num,by rw[y.o k,m.o,o.o];simpa[rG]using c,l.o⟩
    case measure=>simp[aN];omega
  ·have m:k=19:=by omega
   subst m;go_wp2_with (at_builtin;refine jI _ R _ _ 23 rfl w.heap.size 3 x (I J 0) 1 8 underlying23 r f g h R (by decide) _ _ _ R (b.alloc _) ⟨wr.heap.size,0,N⟩ 2 2 [I J 20,I J 31] rfl rfl (tC _ _ _) (by intro u d;simp at d;first|(subst d;rfl)|(rcases d with d|d<;>(subst d;rfl))) (by unfold cu;omega) (by omega) (by simp;omega) ?_;intro z A c a _)
   have l:=ae (tA p.o b a);clear a b;go_wp2;go_ret;rw[C.o];exact⟨_,R,by simpa[Di]using c,l.o⟩
theorem aeI(w:av):
  Calls prog 97 #[.int .u8 82] w λe a=>∃v,e=aH v/\aV a w.heap.size 3 1 v ((iL 6).length) ((iL 6).map (I .i64))/\az w a N:=by
 go_enter func97,ntmps97;go_wp2;go_ret;exact⟨_,R,eO _ _ _ _,aW _ _⟩
theorem aeF(w:av):
  Calls prog 97 #[.int .u8 69] w λe a=>∃v,e=aH v/\aV a w.heap.size 3 1 v ((iL 7).length) ((iL 7).map (I .i64))/\az w a N:=by
 go_enter func97,ntmps97;go_wp2;go_ret;exact⟨_,R,eO _ _ _ _,aW _ _⟩
theorem acz(a:Z)(w:av)(b:1<=a/\a<=7):
  Calls prog 97 #[.int .u8 (qb a)] w λe b=>∃v,e=aH v/\aV b w.heap.size 3 1 v ((iL a).length) ((iL a).map (I .i64))/\az w b N:=by
 rcases (show a=1\/a=2\/a=3\/a=4\/a=5\/a=6\/a=7 from by omega)with rfl|rfl|rfl|rfl|rfl|rfl|rfl
 ·exact aeK w
 ·exact aeH w
 ·exact aeG w
 ·exact aeE w
 ·exact aeJ w
 ·exact aeI w
 ·exact aeF w
def qX(form:Z)(a:M):M:=((iL form).getD (a*2+1) 0).toNat
def mZ(form:Z)(a:M):M:=((iL form).getD (a*2) 0).toNat
def qW(form:Z):M:=(iL form).length/2
theorem QZ(b:Z)(c:1<=b/\b<=7):(iL b).length=qW b*2/\qW b<=20/\∀a,a<qW b->(iL b).getD (a*2) 0=(mZ b a:Z)/\(iL b).getD (a*2+1) 0=(qX b a:Z)/\mZ b a<mT b/\qX b a<=31:=by
 rcases (show b=1\/b=2\/b=3\/b=4\/b=5\/b=6\/b=7 from by omega)with rfl|rfl|rfl|rfl|rfl|rfl|rfl<;>decide
def DL(k:M)(w:av)(b:M):Prop:=aq w ⟨b,k*5+1,N⟩=S (I J ((k:Z)+1))/\aq w ⟨b,k*5+2,N⟩=S (I J (qU.getD (k+1) 0))/\aq w ⟨b,k*5+3,N⟩=S (I J (ri (je.getD (k+1) 0)))/\aq w ⟨b,k*5+4,N⟩=S (.int .u8 (qb (je.getD (k+1) 0)))
theorem adS(w:av):
  Calls prog 96 #[] w λe a=>e=aH (ak (S ⟨w.heap.size,0,N⟩) 25 25)/\(∀k,k<25->DL k a w.heap.size)/\w.heap.size<a.heap.size/\az w a N:=by
 have G:=ae (λo:Obj=>aG w o N);go_enter func96,ntmps96;go_wp2;go_ret;refine⟨R,λk a=>?_,by simp,G.o _⟩;refine⟨((aA.new w _ _).cell _).trans ?_,((aA.new w _ _).cell _).trans ?_,((aA.new w _ _).cell _).trans ?_,((aA.new w _ _).cell _).trans ?_⟩
 all_goals
  clear G;rcases (show k=0\/k=1\/k=2\/k=3\/k=4\/k=5\/k=6\/k=7\/k=8\/k=9\/k=10\/k=11\/k=12\/k=13\/k=14\/k=15\/k=16\/k=17\/k=18\/k=19\/k=20\/k=21\/k=22\/k=23\/k=24 from by omega)with rfl|rfl|rfl|rfl|rfl|rfl|rfl|rfl|rfl|rfl|rfl|rfl|rfl|rfl|rfl|rfl|rfl|rfl|rfl|rfl|rfl|rfl|rfl|rfl|rfl<;>rfl
def eT(op rd dF eG m fb:Z):aC:=.agg #[I J op,I J rd,I J dF,I J eG,I J m,.int .u8 fb]
def aha(e:Ending)(n:Z):Prop:=∃op rd dF eG m fb ok,e=aH (aZ #[eT op rd dF eG m fb,.bool ok])/\Ea n op rd dF m/\(ok=T↔op≠0)/\(fb=66↔(5<=op/\op<=10))
theorem DL.grown{k:M}{c:av}{b:M}(h:DL k w b)(a:az w c N):DL k c b:=⟨yd h.1 a,yd h.2.1 a,yd h.2.2.1 a,yd h.2.2.2 a⟩
theorem ag8(b:Z)(p:M)(c:0<=b)(d:b<=1)(a:p<=20):iN (b*2 ^ p)=b*2 ^ p:=by
 have:(2:Z) ^ p<=1048576:=by
  have:=Nat.pow_le_pow_right (show 0<2 by decide) a
  rw[show (2:Z) ^ p=((2 ^ p:M):Z)from by simp];omega
 have f:(0:Z)<2 ^ p:=uI (by decide);rcases (show b=0\/b=1 from by omega)with rfl|rfl
 ·rw[Int.zero_mul];exact jt _ ⟨by omega,by omega⟩
 ·exact jt _ ⟨by omega,by omega⟩
theorem AJ{X:M}(h:az w W (S X))(o:M)(v:aC):az w (aK W ⟨X,o,N⟩ v) (S X) :=
 ⟨h.os,h.tape,h.output,by simpa[aK]using h.size,λi b a=>(Below.heap_setCell W ⟨X,o,N⟩ v i (by simp at a ⊢;omega)).trans (h.block i b a)⟩
theorem AX(v:Z)(j:M)(m:Z)(c:m=(j:Z))(w:av)(d:0<=v)(a:v<=4294967295)(b:j<=31):
  Calls prog 98 #[I J v,I J m] w λe a=>e=aH (I J (v/2 ^ j%2))/\a=w:=by
 subst c;exact Tz v j w d a b
theorem fE{R X:M}(h:aA W R q t)(a:X≠R)(o:M)(v:aC):aA (aK W ⟨X,o,N⟩ v) R q t:=(Below.heap_setCell W ⟨X,o,N⟩ v R (by simp;omega)).trans h
theorem qK{i j k l m o:aC}(h:az w W N)(p:aA W w.heap.size #[i,j,k,l,m,o] 120)(a b c d f g:aC):
  aA ((((((aK W ⟨w.heap.size,0,N⟩ a).setCell ⟨w.heap.size,1,N⟩ b).setCell ⟨w.heap.size,2,N⟩ c).setCell ⟨w.heap.size,3,N⟩ d).setCell ⟨w.heap.size,4,N⟩ f).setCell ⟨w.heap.size,5,N⟩ g) w.heap.size #[a,b,c,d,f,g] 120 /\
  az w ((((((aK W ⟨w.heap.size,0,N⟩ a).setCell ⟨w.heap.size,1,N⟩ b).setCell ⟨w.heap.size,2,N⟩ c).setCell ⟨w.heap.size,3,N⟩ d).setCell ⟨w.heap.size,4,N⟩ f).setCell ⟨w.heap.size,5,N⟩ g) N :=
 ⟨(((((p.set 0 a).set 1 b).set 2 c).set 3 d).set 4 f).set 5 g,fW (fW (fW (fW (fW (fW h (bz _) _ _) (bz _) _ _) (bz _) _ _) (bz _) _ _) (bz _) _ _) (bz _) _ _⟩
theorem aA.drew{g:M}(h:aA w g q t):aA w.drew g q t:=h.drewN 1
theorem LB(a:Z)(b:1<=a/\a<=7):mT a<=21:=by
 rcases (show a=1\/a=2\/a=3\/a=4\/a=5\/a=6\/a=7 from by omega)with rfl|rfl|rfl|rfl|rfl|rfl|rfl<;>decide
