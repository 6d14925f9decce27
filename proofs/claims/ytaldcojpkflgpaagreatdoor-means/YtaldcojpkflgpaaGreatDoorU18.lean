import Derived.Deep.RegionHeld3
import Derived.Test.YtaldcojpkflgpaaGreatDoorU14
set_option maxHeartbeats 16000000
set_option maxRecDepth 100000
open Go.Value renaming int->I,slice->ak,pointer->aM,tuple->aZ,ownBlock->eW
open Go.IntKind renaming i64->J
open Go.Ending renaming returned->aH
open Go renaming World->av,Addr->aY,Value->aC,bodyPost_ret->bj
open _root_ renaming Nat->M,Option->aR,List->L,Int->Z,rfl->R
open Option renaming some->S,none->N
open List renaming length->ah,getElem?_toArray->bI,getElem?_cons_succ->bB
open Go.World renaming grownBy_alloc->aG,cell?->aq,grownBy->az,ownsRow_nil->eO,setCell->aK
open Go.IntWalk renaming i64_in->dD
open Go.World.grownBy renaming refl->aW
namespace Go.Proofs.YtaldcojpkflgpaaGreatDoor
open Go.RowKit Go.Proofs.Tryz
theorem adZ(i:av)(b g:Nat)(ai:aR aY)(ci:Nat)(ins:List Int)(st:bC)(l o:aC)(m:cq)(f d a c n:Int)(W:av)(j:jd i b g ai ci ins st l o m d a c n W)(s:f=2):
  Calls prog 108 #[aM (some ⟨b,0,N⟩),cQ f d a c n] W λe j=>e=aH (aZ #[])/\gI i b g (ak ai (ah ins) ci) (dp m ins f d a c n st) j:=by
 obtain⟨h,w,z,r,H,t,u,v,K⟩:=j;have k:=ae (h.grown (aG W (.cells #[I J f,I J d,I J a,I J c,I J n] 189) N));have G:=ae (show W.heap.size≠b from λe=>by have:=h.aO.lt;omega);have A:=ae (jL W (I J f) (I J d) (I J a) (I J c) (I J n));have D:=ae (λW f=>ej i b g (ak ai (ah ins) ci) st l o a W f u.1 u.2);have E:=ae (λW f=>ej i b g (ak ai (ah ins) ci) st l o c W f v.1 v.2);have M:=eC h.ok a;have S:=eC h.ok c;have O:=h.ok.pc;obtain⟨X,q⟩:∃X,X=dp m ins f d a c n st:=⟨_,R⟩
 rw[<- q];have p:=ae q;clear q;unfold cQ;subst s;replace p:=ae (show X=eu d (n*4096+st.pc) st from p.o);have x:J.wrap (n*4096)=n*4096:=dD _ ⟨by omega,by omega⟩;have y:J.wrap (n*4096+st.pc)=n*4096+st.pc:=dD _ ⟨by omega,by omega⟩;have C:=ae (λW f=>sf i b g (ak ai (ah ins) ci) st l o d (n*4096+st.pc) W f t.1 t.2);clear h w z r;go_enter func108,ntmps108;go_wp2_with fail;generalize W.alloc (.cells #[I J 2,I J d,I J a,I J c,I J n] 189)=V at *;generalize W.heap.size=L at *
 obtain⟨P,Q,U,Y,F⟩:=A.o;refine(D.o _ k.o).mono ?_;rintro e B ⟨rfl,q⟩;subst q;go_wp2_with fail;refine(E.o _ k.o).mono ?_;rintro e B ⟨rfl,q⟩;subst q;have z:=ae (k.o.grown (ye (aW _ N) 1));have T:=k.o.c.2.2.2.1;go_wp2
 go_region_with (first|(go_at_call 141;refine(C.o _ z.o).mono ?_;rintro e Z ⟨rfl,r⟩))
 all_goals
  have w:=ae r;clear r;go_wp2
  go_end0
  rw[p.o];exact⟨R,_,_,w.o⟩
theorem agn(i:av)(b g:Nat)(ai:aR aY)(ci:Nat)(ins:List Z)(st:bC)(l o:aC)(m:cq)(f d a c n:Z)(W:av)(j:jd i b g ai ci ins st l o m d a c n W)(s:f=3):
  Calls prog 108 #[aM (some ⟨b,0,N⟩),cQ f d a c n] W λe j=>e=aH (aZ #[])/\gI i b g (ak ai (ah ins) ci) (dp m ins f d a c n st) j:=by
 obtain⟨h,w,x,r,G,t,u,v,H⟩:=j;have k:=ae (h.grown (aG W (.cells #[I J f,I J d,I J a,I J c,I J n] 189) N));have E:=ae (show W.heap.size≠b from λe=>by have:=h.aO.lt;omega);have z:=ae (jL W (I J f) (I J d) (I J a) (I J c) (I J n));have C:=ae (λW f=>ej i b g (ak ai (ah ins) ci) st l o a W f u.1 u.2);have D:=ae (λW f=>ej i b g (ak ai (ah ins) ci) st l o c W f v.1 v.2);have L:=eC h.ok a;have M:=eC h.ok c;have K:=h.ok.pc;obtain⟨X,q⟩:∃X,X=dp m ins f d a c n st:=⟨_,R⟩
 rw[<- q];have p:=ae q;clear q;unfold cQ;subst s;replace p:=ae (show X=tP d (st.pc+n) st from p.o);have y:J.wrap (st.pc+n)=st.pc+n:=dD _ ⟨by omega,by omega⟩;have B:=ae (λW f=>Sv i b g (ak ai (ah ins) ci) st l o d (st.pc+n) W f t.1 t.2);clear h w x r;go_enter func108,ntmps108;go_wp2_with fail;generalize W.alloc (.cells #[I J 3,I J d,I J a,I J c,I J n] 189)=V at *;generalize W.heap.size=F at *;obtain⟨O,P,Q,U,Y⟩:=z.o;refine(C.o _ k.o).mono ?_;rintro e A ⟨rfl,q⟩;subst q;go_wp2_with fail
 refine(D.o _ k.o).mono ?_;rintro e A ⟨rfl,q⟩;subst q;have x:=ae (k.o.grown (ye (aW _ N) 1));have S:=k.o.c.2.2.2.1;go_wp2
 go_region_with (first|(go_at_call 142;refine(B.o _ x.o).mono ?_;rintro e T ⟨rfl,r⟩))
 all_goals
  have w:=ae r;clear r;go_wp2
  go_end0
  rw[p.o];exact⟨R,_,_,w.o⟩
theorem ahm(j:av)(b g:Nat)(ai:aR aY)(ci:Nat)(ins:List Int)(st:bC)(o p:aC)(m:cq)(i f c d n:Int)(W:av)(k:jd j b g ai ci ins st o p m f c d n W)(t:i=11):
  Calls prog 108 #[aM (some ⟨b,0,N⟩),cQ i f c d n] W λe k=>e=aH (aZ #[])/\gI j b g (ak ai (ah ins) ci) (dp m ins i f c d n st) k:=by
 obtain⟨h,v,w,s,O,u,y,z,P⟩:=k;have l:=ae (h.grown (aG W (.cells #[I J i,I J f,I J c,I J d,I J n] 189) N));have K:=ae (show W.heap.size≠b from λe=>by have:=h.aO.lt;omega);have A:=ae (jL W (I J i) (I J f) (I J c) (I J d) (I J n));have E:=ae (λW i=>ej j b g (ak ai (ah ins) ci) st o p c W i y.1 y.2);have G:=ae (λW i=>ej j b g (ak ai (ah ins) ci) st o p d W i z.1 z.2);have T:=eC h.ok c;have Z:=eC h.ok d;have Q:=h.ok.pc;obtain⟨X,r⟩:∃X,X=dp m ins i f c d n st:=⟨_,R⟩
 rw[<- r];have q:=ae r;clear r;unfold cQ;subst t;replace q:=ae (show X=pN m f (bn (bH st c+n)) st from q.o);generalize bH st c=a at *;have x:J.wrap (a+n)=a+n:=dD _ ⟨by omega,by omega⟩;have D:=ae (λW=>tE (a+n) W);have wr:=mo (a+n);have C:=ae (λW i=>adm j b g (ak ai (ah ins) ci) st o p m f (bn (a+n)) W i v w wr.1 wr.2 u.1 u.2);clear h v w s;go_enter func108,ntmps108;go_wp2_with fail;generalize W.alloc (.cells #[I J 11,I J f,I J c,I J d,I J n] 189)=V at *;generalize W.heap.size=S at *
 obtain⟨U,Y,F,L,M⟩:=A.o;refine(E.o _ l.o).mono ?_;rintro e B ⟨rfl,r⟩;subst r;go_wp2_with fail;refine(G.o _ l.o).mono ?_;rintro e B ⟨rfl,r⟩;subst r;have w:=ae (l.o.grown (ye (aW _ N) 1));have nD:=l.o.c.2.2.2.1;go_wp2
 go_region_with (first|(go_at_call 106;refine(D.o _).mono ?_;rintro e H ⟨rfl,rfl⟩)|(go_at_call 145;refine(C.o _ w.o).mono ?_;rintro e H ⟨rfl,s⟩))
 all_goals
  have v:=ae s;clear s;go_wp2
  go_end0
  rw[q.o];exact⟨R,v.o⟩
theorem agi(j:av)(b g:Nat)(ai:aR aY)(ci:Nat)(ins:List Int)(st:bC)(o p:aC)(m:cq)(i f c d n:Int)(W:av)(k:jd j b g ai ci ins st o p m f c d n W)(u:i=5):
  Calls prog 108 #[aM (some ⟨b,0,N⟩),cQ i f c d n] W λe k=>e=aH (aZ #[])/\gI j b g (ak ai (ah ins) ci) (dp m ins i f c d n st) k:=by
 obtain⟨h,z,A,s,U,Q,x,y,Y⟩:=k;have l:=ae (h.grown (aG W (.cells #[I J i,I J f,I J c,I J d,I J n] 189) N));have P:=ae (show W.heap.size≠b from λe=>by have:=h.aO.lt;omega);have B:=ae (jL W (I J i) (I J f) (I J c) (I J d) (I J n));have H:=ae (λW f=>ej j b g (ak ai (ah ins) ci) st o p c W f x.1 x.2);have K:=ae (λW f=>ej j b g (ak ai (ah ins) ci) st o p d W f y.1 y.2);have v:=eC h.ok c;have w:=eC h.ok d;have F:=h.ok.pc;obtain⟨X,r⟩:∃X,X=dp m ins i f c d n st:=⟨_,R⟩
 rw[<- r];have q:=ae r;clear r;unfold cQ;subst u;replace q:=ae (show X=sO (fg 5 (bH st c) (bH st d)) n st from q.o);generalize bH st c=a at *;generalize bH st d=D at *;have G:=ae (λW=>xi 5 a D W v.1 v.2 w.1 w.2 (by omega));have E:=ae (λt W f=>Bf j b g (ak ai (ah ins) ci) st o p t n W f (by omega) (by omega));clear h z A s;go_enter func108,ntmps108;go_wp2_with fail;generalize W.alloc (.cells #[I J 5,I J f,I J c,I J d,I J n] 189)=V at *;generalize W.heap.size=ib at *;obtain⟨L,M,S,T,Z⟩:=B.o
 refine(H.o _ l.o).mono ?_;rintro e C ⟨rfl,r⟩;subst r;go_wp2_with fail;refine(K.o _ l.o).mono ?_;rintro e C ⟨rfl,r⟩;subst r;have A:=ae (l.o.grown (ye (aW _ N) 1));have nD:=l.o.c.2.2.2.1;go_wp2
 go_region_with (first|(go_at_call 144;refine(G.o _).mono ?_;rintro e O ⟨rfl,rfl⟩)|(go_at_call 143;refine(E.o _ _ A.o).mono ?_;rintro e O ⟨rfl,s⟩))
 all_goals
  have z:=ae s;clear s;go_wp2
  go_end0
  rw[q.o];exact⟨R,_,_,z.o⟩
theorem agj(j:av)(b g:Nat)(ai:aR aY)(ci:Nat)(ins:List Int)(st:bC)(o p:aC)(m:cq)(i f c d n:Int)(W:av)(k:jd j b g ai ci ins st o p m f c d n W)(u:i=6):
  Calls prog 108 #[aM (some ⟨b,0,N⟩),cQ i f c d n] W λe k=>e=aH (aZ #[])/\gI j b g (ak ai (ah ins) ci) (dp m ins i f c d n st) k:=by
 obtain⟨h,z,A,s,U,Q,x,y,Y⟩:=k;have l:=ae (h.grown (aG W (.cells #[I J i,I J f,I J c,I J d,I J n] 189) N));have P:=ae (show W.heap.size≠b from λe=>by have:=h.aO.lt;omega);have B:=ae (jL W (I J i) (I J f) (I J c) (I J d) (I J n));have H:=ae (λW f=>ej j b g (ak ai (ah ins) ci) st o p c W f x.1 x.2);have K:=ae (λW f=>ej j b g (ak ai (ah ins) ci) st o p d W f y.1 y.2);have v:=eC h.ok c;have w:=eC h.ok d;have F:=h.ok.pc;obtain⟨X,r⟩:∃X,X=dp m ins i f c d n st:=⟨_,R⟩
 rw[<- r];have q:=ae r;clear r;unfold cQ;subst u;replace q:=ae (show X=sO (fg 6 (bH st c) (bH st d)) n st from q.o);generalize bH st c=a at *;generalize bH st d=D at *;have G:=ae (λW=>xi 6 a D W v.1 v.2 w.1 w.2 (by omega));have E:=ae (λt W f=>Bf j b g (ak ai (ah ins) ci) st o p t n W f (by omega) (by omega));clear h z A s;go_enter func108,ntmps108;go_wp2_with fail;generalize W.alloc (.cells #[I J 6,I J f,I J c,I J d,I J n] 189)=V at *;generalize W.heap.size=ib at *;obtain⟨L,M,S,T,Z⟩:=B.o
 refine(H.o _ l.o).mono ?_;rintro e C ⟨rfl,r⟩;subst r;go_wp2_with fail;refine(K.o _ l.o).mono ?_;rintro e C ⟨rfl,r⟩;subst r;have A:=ae (l.o.grown (ye (aW _ N) 1));have nD:=l.o.c.2.2.2.1;go_wp2
 go_region_with (first|(go_at_call 144;refine(G.o _).mono ?_;rintro e O ⟨rfl,rfl⟩)|(go_at_call 143;refine(E.o _ _ A.o).mono ?_;rintro e O ⟨rfl,s⟩))
 all_goals
  have z:=ae s;clear s;go_wp2
  go_end0
  rw[q.o];exact⟨R,_,_,z.o⟩
theorem agk(j:av)(b g:Nat)(ai:aR aY)(ci:Nat)(ins:List Int)(st:bC)(o p:aC)(m:cq)(i f c d n:Int)(W:av)(k:jd j b g ai ci ins st o p m f c d n W)(u:i=7):
  Calls prog 108 #[aM (some ⟨b,0,N⟩),cQ i f c d n] W λe k=>e=aH (aZ #[])/\gI j b g (ak ai (ah ins) ci) (dp m ins i f c d n st) k:=by
 obtain⟨h,z,A,s,U,Q,x,y,Y⟩:=k;have l:=ae (h.grown (aG W (.cells #[I J i,I J f,I J c,I J d,I J n] 189) N));have P:=ae (show W.heap.size≠b from λe=>by have:=h.aO.lt;omega);have B:=ae (jL W (I J i) (I J f) (I J c) (I J d) (I J n));have H:=ae (λW f=>ej j b g (ak ai (ah ins) ci) st o p c W f x.1 x.2);have K:=ae (λW f=>ej j b g (ak ai (ah ins) ci) st o p d W f y.1 y.2);have v:=eC h.ok c;have w:=eC h.ok d;have F:=h.ok.pc;obtain⟨X,r⟩:∃X,X=dp m ins i f c d n st:=⟨_,R⟩
 rw[<- r];have q:=ae r;clear r;unfold cQ;subst u;replace q:=ae (show X=sO (fg 7 (bH st c) (bH st d)) n st from q.o);generalize bH st c=a at *;generalize bH st d=D at *;have G:=ae (λW=>xi 7 a D W v.1 v.2 w.1 w.2 (by omega));have E:=ae (λt W f=>Bf j b g (ak ai (ah ins) ci) st o p t n W f (by omega) (by omega));clear h z A s;go_enter func108,ntmps108;go_wp2_with fail;generalize W.alloc (.cells #[I J 7,I J f,I J c,I J d,I J n] 189)=V at *;generalize W.heap.size=ib at *;obtain⟨L,M,S,T,Z⟩:=B.o
 refine(H.o _ l.o).mono ?_;rintro e C ⟨rfl,r⟩;subst r;go_wp2_with fail;refine(K.o _ l.o).mono ?_;rintro e C ⟨rfl,r⟩;subst r;have A:=ae (l.o.grown (ye (aW _ N) 1));have nD:=l.o.c.2.2.2.1;go_wp2
 go_region_with (first|(go_at_call 144;refine(G.o _).mono ?_;rintro e O ⟨rfl,rfl⟩)|(go_at_call 143;refine(E.o _ _ A.o).mono ?_;rintro e O ⟨rfl,s⟩))
 all_goals
  have z:=ae s;clear s;go_wp2
  go_end0
  rw[q.o];exact⟨R,_,_,z.o⟩
theorem agl(j:av)(b g:Nat)(ai:aR aY)(ci:Nat)(ins:List Int)(st:bC)(o p:aC)(m:cq)(i f c d n:Int)(W:av)(k:jd j b g ai ci ins st o p m f c d n W)(u:i=8):
  Calls prog 108 #[aM (some ⟨b,0,N⟩),cQ i f c d n] W λe k=>e=aH (aZ #[])/\gI j b g (ak ai (ah ins) ci) (dp m ins i f c d n st) k:=by
 obtain⟨h,z,A,s,U,Q,x,y,Y⟩:=k;have l:=ae (h.grown (aG W (.cells #[I J i,I J f,I J c,I J d,I J n] 189) N));have P:=ae (show W.heap.size≠b from λe=>by have:=h.aO.lt;omega);have B:=ae (jL W (I J i) (I J f) (I J c) (I J d) (I J n));have H:=ae (λW f=>ej j b g (ak ai (ah ins) ci) st o p c W f x.1 x.2);have K:=ae (λW f=>ej j b g (ak ai (ah ins) ci) st o p d W f y.1 y.2);have v:=eC h.ok c;have w:=eC h.ok d;have F:=h.ok.pc;obtain⟨X,r⟩:∃X,X=dp m ins i f c d n st:=⟨_,R⟩
 rw[<- r];have q:=ae r;clear r;unfold cQ;subst u;replace q:=ae (show X=sO (fg 8 (bH st c) (bH st d)) n st from q.o);generalize bH st c=a at *;generalize bH st d=D at *;have G:=ae (λW=>xi 8 a D W v.1 v.2 w.1 w.2 (by omega));have E:=ae (λt W f=>Bf j b g (ak ai (ah ins) ci) st o p t n W f (by omega) (by omega));clear h z A s;go_enter func108,ntmps108;go_wp2_with fail;generalize W.alloc (.cells #[I J 8,I J f,I J c,I J d,I J n] 189)=V at *;generalize W.heap.size=ib at *;obtain⟨L,M,S,T,Z⟩:=B.o
 refine(H.o _ l.o).mono ?_;rintro e C ⟨rfl,r⟩;subst r;go_wp2_with fail;refine(K.o _ l.o).mono ?_;rintro e C ⟨rfl,r⟩;subst r;have A:=ae (l.o.grown (ye (aW _ N) 1));have nD:=l.o.c.2.2.2.1;go_wp2
 go_region_with (first|(go_at_call 144;refine(G.o _).mono ?_;rintro e O ⟨rfl,rfl⟩)|(go_at_call 143;refine(E.o _ _ A.o).mono ?_;rintro e O ⟨rfl,s⟩))
 all_goals
  have z:=ae s;clear s;go_wp2
  go_end0
  rw[q.o];exact⟨R,_,_,z.o⟩
theorem agm(j:av)(b g:Nat)(ai:aR aY)(ci:Nat)(ins:List Int)(st:bC)(o p:aC)(m:cq)(i f c d n:Int)(W:av)(k:jd j b g ai ci ins st o p m f c d n W)(u:i=9):
  Calls prog 108 #[aM (some ⟨b,0,N⟩),cQ i f c d n] W λe k=>e=aH (aZ #[])/\gI j b g (ak ai (ah ins) ci) (dp m ins i f c d n st) k:=by
 obtain⟨h,z,A,s,U,Q,x,y,Y⟩:=k;have l:=ae (h.grown (aG W (.cells #[I J i,I J f,I J c,I J d,I J n] 189) N));have P:=ae (show W.heap.size≠b from λe=>by have:=h.aO.lt;omega);have B:=ae (jL W (I J i) (I J f) (I J c) (I J d) (I J n));have H:=ae (λW f=>ej j b g (ak ai (ah ins) ci) st o p c W f x.1 x.2);have K:=ae (λW f=>ej j b g (ak ai (ah ins) ci) st o p d W f y.1 y.2);have v:=eC h.ok c;have w:=eC h.ok d;have F:=h.ok.pc;obtain⟨X,r⟩:∃X,X=dp m ins i f c d n st:=⟨_,R⟩
 rw[<- r];have q:=ae r;clear r;unfold cQ;subst u;replace q:=ae (show X=sO (fg 9 (bH st c) (bH st d)) n st from q.o);generalize bH st c=a at *;generalize bH st d=D at *;have G:=ae (λW=>xi 9 a D W v.1 v.2 w.1 w.2 (by omega));have E:=ae (λt W f=>Bf j b g (ak ai (ah ins) ci) st o p t n W f (by omega) (by omega));clear h z A s;go_enter func108,ntmps108;go_wp2_with fail;generalize W.alloc (.cells #[I J 9,I J f,I J c,I J d,I J n] 189)=V at *;generalize W.heap.size=ib at *;obtain⟨L,M,S,T,Z⟩:=B.o
 refine(H.o _ l.o).mono ?_;rintro e C ⟨rfl,r⟩;subst r;go_wp2_with fail;refine(K.o _ l.o).mono ?_;rintro e C ⟨rfl,r⟩;subst r;have A:=ae (l.o.grown (ye (aW _ N) 1));have nD:=l.o.c.2.2.2.1;go_wp2
 go_region_with (first|(go_at_call 144;refine(G.o _).mono ?_;rintro e O ⟨rfl,rfl⟩)|(go_at_call 143;refine(E.o _ _ A.o).mono ?_;rintro e O ⟨rfl,s⟩))
 all_goals
  have z:=ae s;clear s;go_wp2
  go_end0
  rw[q.o];exact⟨R,_,_,z.o⟩
theorem afl(j:av)(b g:Nat)(ai:aR aY)(ci:Nat)(ins:List Int)(st:bC)(o p:aC)(m:cq)(i f c d n:Int)(W:av)(k:jd j b g ai ci ins st o p m f c d n W)(u:i=10):
  Calls prog 108 #[aM (some ⟨b,0,N⟩),cQ i f c d n] W λe k=>e=aH (aZ #[])/\gI j b g (ak ai (ah ins) ci) (dp m ins i f c d n st) k:=by
 obtain⟨h,z,A,s,U,Q,x,y,Y⟩:=k;have l:=ae (h.grown (aG W (.cells #[I J i,I J f,I J c,I J d,I J n] 189) N));have P:=ae (show W.heap.size≠b from λe=>by have:=h.aO.lt;omega);have B:=ae (jL W (I J i) (I J f) (I J c) (I J d) (I J n));have H:=ae (λW f=>ej j b g (ak ai (ah ins) ci) st o p c W f x.1 x.2);have K:=ae (λW f=>ej j b g (ak ai (ah ins) ci) st o p d W f y.1 y.2);have v:=eC h.ok c;have w:=eC h.ok d;have F:=h.ok.pc;obtain⟨X,r⟩:∃X,X=dp m ins i f c d n st:=⟨_,R⟩
 rw[<- r];have q:=ae r;clear r;unfold cQ;subst u;replace q:=ae (show X=sO (fg 10 (bH st c) (bH st d)) n st from q.o);generalize bH st c=a at *;generalize bH st d=D at *;have G:=ae (λW=>xi 10 a D W v.1 v.2 w.1 w.2 (by omega));have E:=ae (λt W f=>Bf j b g (ak ai (ah ins) ci) st o p t n W f (by omega) (by omega));clear h z A s;go_enter func108,ntmps108;go_wp2_with fail;generalize W.alloc (.cells #[I J 10,I J f,I J c,I J d,I J n] 189)=V at *;generalize W.heap.size=ib at *;obtain⟨L,M,S,T,Z⟩:=B.o
 refine(H.o _ l.o).mono ?_;rintro e C ⟨rfl,r⟩;subst r;go_wp2_with fail;refine(K.o _ l.o).mono ?_;rintro e C ⟨rfl,r⟩;subst r;have A:=ae (l.o.grown (ye (aW _ N) 1));have nD:=l.o.c.2.2.2.1;go_wp2
 go_region_with (first|(go_at_call 144;refine(G.o _).mono ?_;rintro e O ⟨rfl,rfl⟩)|(go_at_call 143;refine(E.o _ _ A.o).mono ?_;rintro e O ⟨rfl,s⟩))
 all_goals
  have z:=ae s;clear s;go_wp2
  go_end0
  rw[q.o];exact⟨R,_,_,z.o⟩
theorem afm(o:av)(b g:Nat)(ai:aR aY)(ci:Nat)(ins:List Int)(st:bC)(s t:aC)(m:cq)(l d c f n:Int)(W:av)(p:jd o b g ai ci ins st s t m d c f n W)(A:l=13):
  Calls prog 108 #[aM (S ⟨b,0,N⟩),cQ l d c f n] W λe i=>e=aH (aZ #[])/\gI o b g (ak ai (ah ins) ci) (dp m ins l d c f n st) i:=by
 obtain⟨h,r,u,k,hl,C,G,H,hn⟩:=p;have q:=ae (h.grown (aG W (.cells #[I J l,I J d,I J c,I J f,I J n] 189) N));have F:=ae (show W.heap.size≠b from λe=>by have:=h.aO.lt;omega);have P:=ae (jL W (I J l) (I J d) (I J c) (I J f) (I J n));have r1:=ae (λW i=>ej o b g (ak ai (ah ins) ci) st s t c W i G.1 G.2);have r2:=ae (λW i=>ej o b g (ak ai (ah ins) ci) st s t f W i H.1 H.2);have E:=eC h.ok c;have q2:=eC h.ok f;have hp:=h.ok.pc;obtain⟨X,i⟩:∃X,X=dp m ins l d c f n st:=⟨_,R⟩
 rw[<- i];have w:=ae i;clear i;unfold cQ;subst A;replace w:=ae (show X=eu d (jX 18 (bH st c) (bn n)) st from w.o);generalize bH st c=a at *;have wr:=mo n;have y:=ae (λW=>Dq 13 W);replace y:Hd (∀W,Calls prog 148 #[I J 13] W λe i=>e=aH (I J 18)/\i=W):=y.o;have T:=ae (λW=>tE n W);have L:=ae (λW=>rY 18 a (bn n) W E.1 E.2 wr.1 wr.2 (by omega));have M:=ae (λv W i=>AW o b g (ak ai (ah ins) ci) st s t d v W i C.1 C.2);clear h r u k;go_enter func108,ntmps108;go_wp2_with fail;generalize W.alloc (.cells #[I J 13,I J d,I J c,I J f,I J n] 189)=V at *
 generalize W.heap.size=k at *;obtain⟨i0,i1,i2,i3,i4⟩:=P.o;refine(r1.o _ q.o).mono ?_;rintro e r ⟨rfl,z⟩;subst z;go_wp2_with fail;refine(r2.o _ q.o).mono ?_;rintro e r ⟨rfl,z⟩;subst z;have O:=ae (q.o.grown (ye (aW _ N) 1));have nD:=q.o.c.2.2.2.1;have Z:k≠b:=F.o;have u:=ae (λ(j:Nat) (x:aC) (i:av) (c:(r.drew).grownBy i (S b)) (d:aq r ⟨k,j,N⟩=S x)=>c.cell (a:=⟨k,j,N⟩) (show aq r.drew ⟨k,j,N⟩=S x from d) (by simp;omega));have Q:=ae i0;have U:=ae i1;have Y:=ae i4;go_wp2
 go_region_held3 (λi=>aq i ⟨k,0,N⟩=S (I J 13)/\aq i ⟨k,1,N⟩=S (I J d)/\aq i ⟨k,4,N⟩=S (I J n))
  (go_keep)
  (first|(go_at_call 148;refine(y.o _).mono ?_;rintro e i ⟨rfl,rfl⟩)|(go_at_call 106;refine(T.o _).mono ?_;rintro e i ⟨rfl,rfl⟩)|(go_at_call 147;refine(L.o _).mono ?_;rintro e i ⟨rfl,rfl⟩)|(go_at_call 141;refine(M.o _ _ O.o).mono ?_;rintro e i ⟨rfl,D,B⟩;have j0:=u.o 0 _ _ B Q.o;have j1:=u.o 1 _ _ B U.o;have Hc:=u.o 4 _ _ B Y.o))
 all_goals
  have K:=ae D;clear D;go_wp2
  go_end0
  rw[w.o];exact⟨R,_,_,K.o⟩
theorem afn(o:av)(b g:Nat)(ai:aR aY)(ci:Nat)(ins:List Int)(st:bC)(s t:aC)(m:cq)(l d c f n:Int)(W:av)(p:jd o b g ai ci ins st s t m d c f n W)(A:l=14):
  Calls prog 108 #[aM (S ⟨b,0,N⟩),cQ l d c f n] W λe i=>e=aH (aZ #[])/\gI o b g (ak ai (ah ins) ci) (dp m ins l d c f n st) i:=by
 obtain⟨h,r,u,k,hl,C,G,H,hn⟩:=p;have q:=ae (h.grown (aG W (.cells #[I J l,I J d,I J c,I J f,I J n] 189) N));have F:=ae (show W.heap.size≠b from λe=>by have:=h.aO.lt;omega);have P:=ae (jL W (I J l) (I J d) (I J c) (I J f) (I J n));have r1:=ae (λW i=>ej o b g (ak ai (ah ins) ci) st s t c W i G.1 G.2);have r2:=ae (λW i=>ej o b g (ak ai (ah ins) ci) st s t f W i H.1 H.2);have E:=eC h.ok c;have q2:=eC h.ok f;have hp:=h.ok.pc;obtain⟨X,i⟩:∃X,X=dp m ins l d c f n st:=⟨_,R⟩
 rw[<- i];have w:=ae i;clear i;unfold cQ;subst A;replace w:=ae (show X=eu d (jX 20 (bH st c) (bn n)) st from w.o);generalize bH st c=a at *;have wr:=mo n;have y:=ae (λW=>Dq 14 W);replace y:Hd (∀W,Calls prog 148 #[I J 14] W λe i=>e=aH (I J 20)/\i=W):=y.o;have T:=ae (λW=>tE n W);have L:=ae (λW=>rY 20 a (bn n) W E.1 E.2 wr.1 wr.2 (by omega));have M:=ae (λv W i=>AW o b g (ak ai (ah ins) ci) st s t d v W i C.1 C.2);clear h r u k;go_enter func108,ntmps108;go_wp2_with fail;generalize W.alloc (.cells #[I J 14,I J d,I J c,I J f,I J n] 189)=V at *
 generalize W.heap.size=k at *;obtain⟨i0,i1,i2,i3,i4⟩:=P.o;refine(r1.o _ q.o).mono ?_;rintro e r ⟨rfl,z⟩;subst z;go_wp2_with fail;refine(r2.o _ q.o).mono ?_;rintro e r ⟨rfl,z⟩;subst z;have O:=ae (q.o.grown (ye (aW _ N) 1));have nD:=q.o.c.2.2.2.1;have Z:k≠b:=F.o;have u:=ae (λ(j:Nat) (x:aC) (i:av) (c:(r.drew).grownBy i (S b)) (d:aq r ⟨k,j,N⟩=S x)=>c.cell (a:=⟨k,j,N⟩) (show aq r.drew ⟨k,j,N⟩=S x from d) (by simp;omega));have Q:=ae i0;have U:=ae i1;have Y:=ae i4;go_wp2
 go_region_held3 (λi=>aq i ⟨k,0,N⟩=S (I J 14)/\aq i ⟨k,1,N⟩=S (I J d)/\aq i ⟨k,4,N⟩=S (I J n))
  (go_keep)
  (first|(go_at_call 148;refine(y.o _).mono ?_;rintro e i ⟨rfl,rfl⟩)|(go_at_call 106;refine(T.o _).mono ?_;rintro e i ⟨rfl,rfl⟩)|(go_at_call 147;refine(L.o _).mono ?_;rintro e i ⟨rfl,rfl⟩)|(go_at_call 141;refine(M.o _ _ O.o).mono ?_;rintro e i ⟨rfl,D,B⟩;have j0:=u.o 0 _ _ B Q.o;have j1:=u.o 1 _ _ B U.o;have Hc:=u.o 4 _ _ B Y.o))
 all_goals
  have K:=ae D;clear D;go_wp2
  go_end0
  rw[w.o];exact⟨R,_,_,K.o⟩
theorem afo(o:av)(b g:Nat)(ai:aR aY)(ci:Nat)(ins:List Int)(st:bC)(s t:aC)(m:cq)(l d c f n:Int)(W:av)(p:jd o b g ai ci ins st s t m d c f n W)(A:l=15):
  Calls prog 108 #[aM (S ⟨b,0,N⟩),cQ l d c f n] W λe i=>e=aH (aZ #[])/\gI o b g (ak ai (ah ins) ci) (dp m ins l d c f n st) i:=by
 obtain⟨h,r,u,k,hl,C,G,H,hn⟩:=p;have q:=ae (h.grown (aG W (.cells #[I J l,I J d,I J c,I J f,I J n] 189) N));have F:=ae (show W.heap.size≠b from λe=>by have:=h.aO.lt;omega);have P:=ae (jL W (I J l) (I J d) (I J c) (I J f) (I J n));have r1:=ae (λW i=>ej o b g (ak ai (ah ins) ci) st s t c W i G.1 G.2);have r2:=ae (λW i=>ej o b g (ak ai (ah ins) ci) st s t f W i H.1 H.2);have E:=eC h.ok c;have q2:=eC h.ok f;have hp:=h.ok.pc;obtain⟨X,i⟩:∃X,X=dp m ins l d c f n st:=⟨_,R⟩
 rw[<- i];have w:=ae i;clear i;unfold cQ;subst A;replace w:=ae (show X=eu d (jX 22 (bH st c) (bn n)) st from w.o);generalize bH st c=a at *;have wr:=mo n;have y:=ae (λW=>Dq 15 W);replace y:Hd (∀W,Calls prog 148 #[I J 15] W λe i=>e=aH (I J 22)/\i=W):=y.o;have T:=ae (λW=>tE n W);have L:=ae (λW=>rY 22 a (bn n) W E.1 E.2 wr.1 wr.2 (by omega));have M:=ae (λv W i=>AW o b g (ak ai (ah ins) ci) st s t d v W i C.1 C.2);clear h r u k;go_enter func108,ntmps108;go_wp2_with fail;generalize W.alloc (.cells #[I J 15,I J d,I J c,I J f,I J n] 189)=V at *
 generalize W.heap.size=k at *;obtain⟨i0,i1,i2,i3,i4⟩:=P.o;refine(r1.o _ q.o).mono ?_;rintro e r ⟨rfl,z⟩;subst z;go_wp2_with fail;refine(r2.o _ q.o).mono ?_;rintro e r ⟨rfl,z⟩;subst z;have O:=ae (q.o.grown (ye (aW _ N) 1));have nD:=q.o.c.2.2.2.1;have Z:k≠b:=F.o;have u:=ae (λ(j:Nat) (x:aC) (i:av) (c:(r.drew).grownBy i (S b)) (d:aq r ⟨k,j,N⟩=S x)=>c.cell (a:=⟨k,j,N⟩) (show aq r.drew ⟨k,j,N⟩=S x from d) (by simp;omega));have Q:=ae i0;have U:=ae i1;have Y:=ae i4;go_wp2
 go_region_held3 (λi=>aq i ⟨k,0,N⟩=S (I J 15)/\aq i ⟨k,1,N⟩=S (I J d)/\aq i ⟨k,4,N⟩=S (I J n))
  (go_keep)
  (first|(go_at_call 148;refine(y.o _).mono ?_;rintro e i ⟨rfl,rfl⟩)|(go_at_call 106;refine(T.o _).mono ?_;rintro e i ⟨rfl,rfl⟩)|(go_at_call 147;refine(L.o _).mono ?_;rintro e i ⟨rfl,rfl⟩)|(go_at_call 141;refine(M.o _ _ O.o).mono ?_;rintro e i ⟨rfl,D,B⟩;have j0:=u.o 0 _ _ B Q.o;have j1:=u.o 1 _ _ B U.o;have Hc:=u.o 4 _ _ B Y.o))
 all_goals
  have K:=ae D;clear D;go_wp2
  go_end0
  rw[w.o];exact⟨R,_,_,K.o⟩
theorem afp(o:av)(b g:Nat)(ai:aR aY)(ci:Nat)(ins:List Int)(st:bC)(s t:aC)(m:cq)(l d c f n:Int)(W:av)(p:jd o b g ai ci ins st s t m d c f n W)(A:l=16):
  Calls prog 108 #[aM (S ⟨b,0,N⟩),cQ l d c f n] W λe i=>e=aH (aZ #[])/\gI o b g (ak ai (ah ins) ci) (dp m ins l d c f n st) i:=by
 obtain⟨h,r,u,k,hl,C,G,H,hn⟩:=p;have q:=ae (h.grown (aG W (.cells #[I J l,I J d,I J c,I J f,I J n] 189) N));have F:=ae (show W.heap.size≠b from λe=>by have:=h.aO.lt;omega);have P:=ae (jL W (I J l) (I J d) (I J c) (I J f) (I J n));have r1:=ae (λW i=>ej o b g (ak ai (ah ins) ci) st s t c W i G.1 G.2);have r2:=ae (λW i=>ej o b g (ak ai (ah ins) ci) st s t f W i H.1 H.2);have E:=eC h.ok c;have q2:=eC h.ok f;have hp:=h.ok.pc;obtain⟨X,i⟩:∃X,X=dp m ins l d c f n st:=⟨_,R⟩
 rw[<- i];have w:=ae i;clear i;unfold cQ;subst A;replace w:=ae (show X=eu d (jX 23 (bH st c) (bn n)) st from w.o);generalize bH st c=a at *;have wr:=mo n;have y:=ae (λW=>Dq 16 W);replace y:Hd (∀W,Calls prog 148 #[I J 16] W λe i=>e=aH (I J 23)/\i=W):=y.o;have T:=ae (λW=>tE n W);have L:=ae (λW=>rY 23 a (bn n) W E.1 E.2 wr.1 wr.2 (by omega));have M:=ae (λv W i=>AW o b g (ak ai (ah ins) ci) st s t d v W i C.1 C.2);clear h r u k;go_enter func108,ntmps108;go_wp2_with fail;generalize W.alloc (.cells #[I J 16,I J d,I J c,I J f,I J n] 189)=V at *
 generalize W.heap.size=k at *;obtain⟨i0,i1,i2,i3,i4⟩:=P.o;refine(r1.o _ q.o).mono ?_;rintro e r ⟨rfl,z⟩;subst z;go_wp2_with fail;refine(r2.o _ q.o).mono ?_;rintro e r ⟨rfl,z⟩;subst z;have O:=ae (q.o.grown (ye (aW _ N) 1));have nD:=q.o.c.2.2.2.1;have Z:k≠b:=F.o;have u:=ae (λ(j:Nat) (x:aC) (i:av) (c:(r.drew).grownBy i (S b)) (d:aq r ⟨k,j,N⟩=S x)=>c.cell (a:=⟨k,j,N⟩) (show aq r.drew ⟨k,j,N⟩=S x from d) (by simp;omega));have Q:=ae i0;have U:=ae i1;have Y:=ae i4;go_wp2
 go_region_held3 (λi=>aq i ⟨k,0,N⟩=S (I J 16)/\aq i ⟨k,1,N⟩=S (I J d)/\aq i ⟨k,4,N⟩=S (I J n))
  (go_keep)
  (first|(go_at_call 148;refine(y.o _).mono ?_;rintro e i ⟨rfl,rfl⟩)|(go_at_call 106;refine(T.o _).mono ?_;rintro e i ⟨rfl,rfl⟩)|(go_at_call 147;refine(L.o _).mono ?_;rintro e i ⟨rfl,rfl⟩)|(go_at_call 141;refine(M.o _ _ O.o).mono ?_;rintro e i ⟨rfl,D,B⟩;have j0:=u.o 0 _ _ B Q.o;have j1:=u.o 1 _ _ B U.o;have Hc:=u.o 4 _ _ B Y.o))
 all_goals
  have K:=ae D;clear D;go_wp2
  go_end0
  rw[w.o];exact⟨R,_,_,K.o⟩
theorem afq(o:av)(b g:Nat)(ai:aR aY)(ci:Nat)(ins:List Int)(st:bC)(s t:aC)(m:cq)(l d c f n:Int)(W:av)(p:jd o b g ai ci ins st s t m d c f n W)(A:l=17):
  Calls prog 108 #[aM (S ⟨b,0,N⟩),cQ l d c f n] W λe i=>e=aH (aZ #[])/\gI o b g (ak ai (ah ins) ci) (dp m ins l d c f n st) i:=by
 obtain⟨h,r,u,k,hl,C,G,H,hn⟩:=p;have q:=ae (h.grown (aG W (.cells #[I J l,I J d,I J c,I J f,I J n] 189) N));have F:=ae (show W.heap.size≠b from λe=>by have:=h.aO.lt;omega);have P:=ae (jL W (I J l) (I J d) (I J c) (I J f) (I J n));have r1:=ae (λW i=>ej o b g (ak ai (ah ins) ci) st s t c W i G.1 G.2);have r2:=ae (λW i=>ej o b g (ak ai (ah ins) ci) st s t f W i H.1 H.2);have E:=eC h.ok c;have q2:=eC h.ok f;have hp:=h.ok.pc;obtain⟨X,i⟩:∃X,X=dp m ins l d c f n st:=⟨_,R⟩
 rw[<- i];have w:=ae i;clear i;unfold cQ;subst A;replace w:=ae (show X=eu d (jX 24 (bH st c) (bn n)) st from w.o);generalize bH st c=a at *;have wr:=mo n;have y:=ae (λW=>Dq 17 W);replace y:Hd (∀W,Calls prog 148 #[I J 17] W λe i=>e=aH (I J 24)/\i=W):=y.o;have T:=ae (λW=>tE n W);have L:=ae (λW=>rY 24 a (bn n) W E.1 E.2 wr.1 wr.2 (by omega));have M:=ae (λv W i=>AW o b g (ak ai (ah ins) ci) st s t d v W i C.1 C.2);clear h r u k;go_enter func108,ntmps108;go_wp2_with fail;generalize W.alloc (.cells #[I J 17,I J d,I J c,I J f,I J n] 189)=V at *
 generalize W.heap.size=k at *;obtain⟨i0,i1,i2,i3,i4⟩:=P.o;refine(r1.o _ q.o).mono ?_;rintro e r ⟨rfl,z⟩;subst z;go_wp2_with fail;refine(r2.o _ q.o).mono ?_;rintro e r ⟨rfl,z⟩;subst z;have O:=ae (q.o.grown (ye (aW _ N) 1));have nD:=q.o.c.2.2.2.1;have Z:k≠b:=F.o;have u:=ae (λ(j:Nat) (x:aC) (i:av) (c:(r.drew).grownBy i (S b)) (d:aq r ⟨k,j,N⟩=S x)=>c.cell (a:=⟨k,j,N⟩) (show aq r.drew ⟨k,j,N⟩=S x from d) (by simp;omega));have Q:=ae i0;have U:=ae i1;have Y:=ae i4;go_wp2
 go_region_held3 (λi=>aq i ⟨k,0,N⟩=S (I J 17)/\aq i ⟨k,1,N⟩=S (I J d)/\aq i ⟨k,4,N⟩=S (I J n))
  (go_keep)
  (first|(go_at_call 148;refine(y.o _).mono ?_;rintro e i ⟨rfl,rfl⟩)|(go_at_call 106;refine(T.o _).mono ?_;rintro e i ⟨rfl,rfl⟩)|(go_at_call 147;refine(L.o _).mono ?_;rintro e i ⟨rfl,rfl⟩)|(go_at_call 141;refine(M.o _ _ O.o).mono ?_;rintro e i ⟨rfl,D,B⟩;have j0:=u.o 0 _ _ B Q.o;have j1:=u.o 1 _ _ B U.o;have Hc:=u.o 4 _ _ B Y.o))
 all_goals
  have K:=ae D;clear D;go_wp2
  go_end0
  rw[w.o];exact⟨R,_,_,K.o⟩
theorem aft(j:av)(b g:Nat)(ai:aR aY)(ci:Nat)(ins:List Int)(st:bC)(o p:aC)(m:cq)(i f c d n:Int)(W:av)(k:jd j b g ai ci ins st o p m f c d n W)(t:i=18):
  Calls prog 108 #[aM (some ⟨b,0,N⟩),cQ i f c d n] W λe k=>e=aH (aZ #[])/\gI j b g (ak ai (ah ins) ci) (dp m ins i f c d n st) k:=by
 obtain⟨h,A,B,s,U,u,y,z,Y⟩:=k;have l:=ae (h.grown (aG W (.cells #[I J i,I J f,I J c,I J d,I J n] 189) N));have Q:=ae (show W.heap.size≠b from λe=>by have:=h.aO.lt;omega);have C:=ae (jL W (I J i) (I J f) (I J c) (I J d) (I J n));have K:=ae (λW i=>ej j b g (ak ai (ah ins) ci) st o p c W i y.1 y.2);have O:=ae (λW i=>ej j b g (ak ai (ah ins) ci) st o p d W i z.1 z.2);have w:=eC h.ok c;have x:=eC h.ok d;have F:=h.ok.pc;obtain⟨X,r⟩:∃X,X=dp m ins i f c d n st:=⟨_,R⟩
 rw[<- r];have q:=ae r;clear r;unfold cQ;subst t;replace q:=ae (show X=eu f (jX 18 (bH st c) (bH st d)) st from q.o);generalize bH st c=a at *;generalize bH st d=E at *;have G:=ae (λW=>rY 18 a E W w.1 w.2 x.1 x.2 (by omega));have H:=ae (λv W i=>sf j b g (ak ai (ah ins) ci) st o p f v W i u.1 u.2);clear h A B s;go_enter func108,ntmps108;go_wp2_with fail;generalize W.alloc (.cells #[I J 18,I J f,I J c,I J d,I J n] 189)=V at *;generalize W.heap.size=ib at *;obtain⟨L,M,S,T,Z⟩:=C.o
 refine(K.o _ l.o).mono ?_;rintro e D ⟨rfl,r⟩;subst r;go_wp2_with fail;refine(O.o _ l.o).mono ?_;rintro e D ⟨rfl,r⟩;subst r;have B:=ae (l.o.grown (ye (aW _ N) 1));have nD:=l.o.c.2.2.2.1;go_wp2
 go_region_with (first|(go_at_call 147;refine(G.o _).mono ?_;rintro e P ⟨rfl,rfl⟩)|(go_at_call 141;refine(H.o _ _ B.o).mono ?_;rintro e P ⟨rfl,s⟩))
 all_goals
  have A:=ae s;clear s;go_wp2
  go_end0
  rw[q.o];exact⟨R,_,_,A.o⟩
theorem afu(j:av)(b g:Nat)(ai:aR aY)(ci:Nat)(ins:List Int)(st:bC)(o p:aC)(m:cq)(i f c d n:Int)(W:av)(k:jd j b g ai ci ins st o p m f c d n W)(t:i=19):
  Calls prog 108 #[aM (some ⟨b,0,N⟩),cQ i f c d n] W λe k=>e=aH (aZ #[])/\gI j b g (ak ai (ah ins) ci) (dp m ins i f c d n st) k:=by
 obtain⟨h,A,B,s,U,u,y,z,Y⟩:=k;have l:=ae (h.grown (aG W (.cells #[I J i,I J f,I J c,I J d,I J n] 189) N));have Q:=ae (show W.heap.size≠b from λe=>by have:=h.aO.lt;omega);have C:=ae (jL W (I J i) (I J f) (I J c) (I J d) (I J n));have K:=ae (λW i=>ej j b g (ak ai (ah ins) ci) st o p c W i y.1 y.2);have O:=ae (λW i=>ej j b g (ak ai (ah ins) ci) st o p d W i z.1 z.2);have w:=eC h.ok c;have x:=eC h.ok d;have F:=h.ok.pc;obtain⟨X,r⟩:∃X,X=dp m ins i f c d n st:=⟨_,R⟩
 rw[<- r];have q:=ae r;clear r;unfold cQ;subst t;replace q:=ae (show X=eu f (jX 19 (bH st c) (bH st d)) st from q.o);generalize bH st c=a at *;generalize bH st d=E at *;have G:=ae (λW=>rY 19 a E W w.1 w.2 x.1 x.2 (by omega));have H:=ae (λv W i=>sf j b g (ak ai (ah ins) ci) st o p f v W i u.1 u.2);clear h A B s;go_enter func108,ntmps108;go_wp2_with fail;generalize W.alloc (.cells #[I J 19,I J f,I J c,I J d,I J n] 189)=V at *;generalize W.heap.size=ib at *;obtain⟨L,M,S,T,Z⟩:=C.o
 refine(K.o _ l.o).mono ?_;rintro e D ⟨rfl,r⟩;subst r;go_wp2_with fail;refine(O.o _ l.o).mono ?_;rintro e D ⟨rfl,r⟩;subst r;have B:=ae (l.o.grown (ye (aW _ N) 1));have nD:=l.o.c.2.2.2.1;go_wp2
 go_region_with (first|(go_at_call 147;refine(G.o _).mono ?_;rintro e P ⟨rfl,rfl⟩)|(go_at_call 141;refine(H.o _ _ B.o).mono ?_;rintro e P ⟨rfl,s⟩))
 all_goals
  have A:=ae s;clear s;go_wp2
  go_end0
  rw[q.o];exact⟨R,_,_,A.o⟩
theorem afv(j:av)(b g:Nat)(ai:aR aY)(ci:Nat)(ins:List Int)(st:bC)(o p:aC)(m:cq)(i f c d n:Int)(W:av)(k:jd j b g ai ci ins st o p m f c d n W)(t:i=20):
  Calls prog 108 #[aM (some ⟨b,0,N⟩),cQ i f c d n] W λe k=>e=aH (aZ #[])/\gI j b g (ak ai (ah ins) ci) (dp m ins i f c d n st) k:=by
 obtain⟨h,A,B,s,U,u,y,z,Y⟩:=k;have l:=ae (h.grown (aG W (.cells #[I J i,I J f,I J c,I J d,I J n] 189) N));have Q:=ae (show W.heap.size≠b from λe=>by have:=h.aO.lt;omega);have C:=ae (jL W (I J i) (I J f) (I J c) (I J d) (I J n));have K:=ae (λW i=>ej j b g (ak ai (ah ins) ci) st o p c W i y.1 y.2);have O:=ae (λW i=>ej j b g (ak ai (ah ins) ci) st o p d W i z.1 z.2);have w:=eC h.ok c;have x:=eC h.ok d;have F:=h.ok.pc;obtain⟨X,r⟩:∃X,X=dp m ins i f c d n st:=⟨_,R⟩
 rw[<- r];have q:=ae r;clear r;unfold cQ;subst t;replace q:=ae (show X=eu f (jX 20 (bH st c) (bH st d)) st from q.o);generalize bH st c=a at *;generalize bH st d=E at *;have G:=ae (λW=>rY 20 a E W w.1 w.2 x.1 x.2 (by omega));have H:=ae (λv W i=>sf j b g (ak ai (ah ins) ci) st o p f v W i u.1 u.2);clear h A B s;go_enter func108,ntmps108;go_wp2_with fail;generalize W.alloc (.cells #[I J 20,I J f,I J c,I J d,I J n] 189)=V at *;generalize W.heap.size=ib at *;obtain⟨L,M,S,T,Z⟩:=C.o
 refine(K.o _ l.o).mono ?_;rintro e D ⟨rfl,r⟩;subst r;go_wp2_with fail;refine(O.o _ l.o).mono ?_;rintro e D ⟨rfl,r⟩;subst r;have B:=ae (l.o.grown (ye (aW _ N) 1));have nD:=l.o.c.2.2.2.1;go_wp2
 go_region_with (first|(go_at_call 147;refine(G.o _).mono ?_;rintro e P ⟨rfl,rfl⟩)|(go_at_call 141;refine(H.o _ _ B.o).mono ?_;rintro e P ⟨rfl,s⟩))
 all_goals
  have A:=ae s;clear s;go_wp2
  go_end0
  rw[q.o];exact⟨R,_,_,A.o⟩
theorem afw(j:av)(b g:Nat)(ai:aR aY)(ci:Nat)(ins:List Int)(st:bC)(o p:aC)(m:cq)(i f c d n:Int)(W:av)(k:jd j b g ai ci ins st o p m f c d n W)(t:i=21):
  Calls prog 108 #[aM (some ⟨b,0,N⟩),cQ i f c d n] W λe k=>e=aH (aZ #[])/\gI j b g (ak ai (ah ins) ci) (dp m ins i f c d n st) k:=by
 obtain⟨h,A,B,s,U,u,y,z,Y⟩:=k;have l:=ae (h.grown (aG W (.cells #[I J i,I J f,I J c,I J d,I J n] 189) N));have Q:=ae (show W.heap.size≠b from λe=>by have:=h.aO.lt;omega);have C:=ae (jL W (I J i) (I J f) (I J c) (I J d) (I J n));have K:=ae (λW i=>ej j b g (ak ai (ah ins) ci) st o p c W i y.1 y.2);have O:=ae (λW i=>ej j b g (ak ai (ah ins) ci) st o p d W i z.1 z.2);have w:=eC h.ok c;have x:=eC h.ok d;have F:=h.ok.pc;obtain⟨X,r⟩:∃X,X=dp m ins i f c d n st:=⟨_,R⟩
 rw[<- r];have q:=ae r;clear r;unfold cQ;subst t;replace q:=ae (show X=eu f (jX 21 (bH st c) (bH st d)) st from q.o);generalize bH st c=a at *;generalize bH st d=E at *;have G:=ae (λW=>rY 21 a E W w.1 w.2 x.1 x.2 (by omega));have H:=ae (λv W i=>sf j b g (ak ai (ah ins) ci) st o p f v W i u.1 u.2);clear h A B s;go_enter func108,ntmps108;go_wp2_with fail;generalize W.alloc (.cells #[I J 21,I J f,I J c,I J d,I J n] 189)=V at *;generalize W.heap.size=ib at *;obtain⟨L,M,S,T,Z⟩:=C.o
 refine(K.o _ l.o).mono ?_;rintro e D ⟨rfl,r⟩;subst r;go_wp2_with fail;refine(O.o _ l.o).mono ?_;rintro e D ⟨rfl,r⟩;subst r;have B:=ae (l.o.grown (ye (aW _ N) 1));have nD:=l.o.c.2.2.2.1;go_wp2
 go_region_with (first|(go_at_call 147;refine(G.o _).mono ?_;rintro e P ⟨rfl,rfl⟩)|(go_at_call 141;refine(H.o _ _ B.o).mono ?_;rintro e P ⟨rfl,s⟩))
 all_goals
  have A:=ae s;clear s;go_wp2
  go_end0
  rw[q.o];exact⟨R,_,_,A.o⟩
theorem afx(j:av)(b g:Nat)(ai:aR aY)(ci:Nat)(ins:List Int)(st:bC)(o p:aC)(m:cq)(i f c d n:Int)(W:av)(k:jd j b g ai ci ins st o p m f c d n W)(t:i=22):
  Calls prog 108 #[aM (some ⟨b,0,N⟩),cQ i f c d n] W λe k=>e=aH (aZ #[])/\gI j b g (ak ai (ah ins) ci) (dp m ins i f c d n st) k:=by
 obtain⟨h,A,B,s,U,u,y,z,Y⟩:=k;have l:=ae (h.grown (aG W (.cells #[I J i,I J f,I J c,I J d,I J n] 189) N));have Q:=ae (show W.heap.size≠b from λe=>by have:=h.aO.lt;omega);have C:=ae (jL W (I J i) (I J f) (I J c) (I J d) (I J n));have K:=ae (λW i=>ej j b g (ak ai (ah ins) ci) st o p c W i y.1 y.2);have O:=ae (λW i=>ej j b g (ak ai (ah ins) ci) st o p d W i z.1 z.2);have w:=eC h.ok c;have x:=eC h.ok d;have F:=h.ok.pc;obtain⟨X,r⟩:∃X,X=dp m ins i f c d n st:=⟨_,R⟩
 rw[<- r];have q:=ae r;clear r;unfold cQ;subst t;replace q:=ae (show X=eu f (jX 22 (bH st c) (bH st d)) st from q.o);generalize bH st c=a at *;generalize bH st d=E at *;have G:=ae (λW=>rY 22 a E W w.1 w.2 x.1 x.2 (by omega));have H:=ae (λv W i=>sf j b g (ak ai (ah ins) ci) st o p f v W i u.1 u.2);clear h A B s;go_enter func108,ntmps108;go_wp2_with fail;generalize W.alloc (.cells #[I J 22,I J f,I J c,I J d,I J n] 189)=V at *;generalize W.heap.size=ib at *;obtain⟨L,M,S,T,Z⟩:=C.o
 refine(K.o _ l.o).mono ?_;rintro e D ⟨rfl,r⟩;subst r;go_wp2_with fail;refine(O.o _ l.o).mono ?_;rintro e D ⟨rfl,r⟩;subst r;have B:=ae (l.o.grown (ye (aW _ N) 1));have nD:=l.o.c.2.2.2.1;go_wp2
 go_region_with (first|(go_at_call 147;refine(G.o _).mono ?_;rintro e P ⟨rfl,rfl⟩)|(go_at_call 141;refine(H.o _ _ B.o).mono ?_;rintro e P ⟨rfl,s⟩))
 all_goals
  have A:=ae s;clear s;go_wp2
  go_end0
  rw[q.o];exact⟨R,_,_,A.o⟩
theorem afy(j:av)(b g:Nat)(ai:aR aY)(ci:Nat)(ins:List Int)(st:bC)(o p:aC)(m:cq)(i f c d n:Int)(W:av)(k:jd j b g ai ci ins st o p m f c d n W)(t:i=23):
  Calls prog 108 #[aM (some ⟨b,0,N⟩),cQ i f c d n] W λe k=>e=aH (aZ #[])/\gI j b g (ak ai (ah ins) ci) (dp m ins i f c d n st) k:=by
 obtain⟨h,A,B,s,U,u,y,z,Y⟩:=k;have l:=ae (h.grown (aG W (.cells #[I J i,I J f,I J c,I J d,I J n] 189) N));have Q:=ae (show W.heap.size≠b from λe=>by have:=h.aO.lt;omega);have C:=ae (jL W (I J i) (I J f) (I J c) (I J d) (I J n));have K:=ae (λW i=>ej j b g (ak ai (ah ins) ci) st o p c W i y.1 y.2);have O:=ae (λW i=>ej j b g (ak ai (ah ins) ci) st o p d W i z.1 z.2);have w:=eC h.ok c;have x:=eC h.ok d;have F:=h.ok.pc;obtain⟨X,r⟩:∃X,X=dp m ins i f c d n st:=⟨_,R⟩
 rw[<- r];have q:=ae r;clear r;unfold cQ;subst t;replace q:=ae (show X=eu f (jX 23 (bH st c) (bH st d)) st from q.o);generalize bH st c=a at *;generalize bH st d=E at *;have G:=ae (λW=>rY 23 a E W w.1 w.2 x.1 x.2 (by omega));have H:=ae (λv W i=>sf j b g (ak ai (ah ins) ci) st o p f v W i u.1 u.2);clear h A B s;go_enter func108,ntmps108;go_wp2_with fail;generalize W.alloc (.cells #[I J 23,I J f,I J c,I J d,I J n] 189)=V at *;generalize W.heap.size=ib at *;obtain⟨L,M,S,T,Z⟩:=C.o
 refine(K.o _ l.o).mono ?_;rintro e D ⟨rfl,r⟩;subst r;go_wp2_with fail;refine(O.o _ l.o).mono ?_;rintro e D ⟨rfl,r⟩;subst r;have B:=ae (l.o.grown (ye (aW _ N) 1));have nD:=l.o.c.2.2.2.1;go_wp2
 go_region_with (first|(go_at_call 147;refine(G.o _).mono ?_;rintro e P ⟨rfl,rfl⟩)|(go_at_call 141;refine(H.o _ _ B.o).mono ?_;rintro e P ⟨rfl,s⟩))
 all_goals
  have A:=ae s;clear s;go_wp2
  go_end0
  rw[q.o];exact⟨R,_,_,A.o⟩
theorem afz(j:av)(b g:Nat)(ai:aR aY)(ci:Nat)(ins:List Int)(st:bC)(o p:aC)(m:cq)(i f c d n:Int)(W:av)(k:jd j b g ai ci ins st o p m f c d n W)(t:i=24):
  Calls prog 108 #[aM (some ⟨b,0,N⟩),cQ i f c d n] W λe k=>e=aH (aZ #[])/\gI j b g (ak ai (ah ins) ci) (dp m ins i f c d n st) k:=by
 obtain⟨h,A,B,s,U,u,y,z,Y⟩:=k;have l:=ae (h.grown (aG W (.cells #[I J i,I J f,I J c,I J d,I J n] 189) N));have Q:=ae (show W.heap.size≠b from λe=>by have:=h.aO.lt;omega);have C:=ae (jL W (I J i) (I J f) (I J c) (I J d) (I J n));have K:=ae (λW i=>ej j b g (ak ai (ah ins) ci) st o p c W i y.1 y.2);have O:=ae (λW i=>ej j b g (ak ai (ah ins) ci) st o p d W i z.1 z.2);have w:=eC h.ok c;have x:=eC h.ok d;have F:=h.ok.pc;obtain⟨X,r⟩:∃X,X=dp m ins i f c d n st:=⟨_,R⟩
 rw[<- r];have q:=ae r;clear r;unfold cQ;subst t;replace q:=ae (show X=eu f (jX 24 (bH st c) (bH st d)) st from q.o);generalize bH st c=a at *;generalize bH st d=E at *;have G:=ae (λW=>rY 24 a E W w.1 w.2 x.1 x.2 (by omega));have H:=ae (λv W i=>sf j b g (ak ai (ah ins) ci) st o p f v W i u.1 u.2);clear h A B s;go_enter func108,ntmps108;go_wp2_with fail;generalize W.alloc (.cells #[I J 24,I J f,I J c,I J d,I J n] 189)=V at *;generalize W.heap.size=ib at *;obtain⟨L,M,S,T,Z⟩:=C.o
 refine(K.o _ l.o).mono ?_;rintro e D ⟨rfl,r⟩;subst r;go_wp2_with fail;refine(O.o _ l.o).mono ?_;rintro e D ⟨rfl,r⟩;subst r;have B:=ae (l.o.grown (ye (aW _ N) 1));have nD:=l.o.c.2.2.2.1;go_wp2
 go_region_with (first|(go_at_call 147;refine(G.o _).mono ?_;rintro e P ⟨rfl,rfl⟩)|(go_at_call 141;refine(H.o _ _ B.o).mono ?_;rintro e P ⟨rfl,s⟩))
 all_goals
  have A:=ae s;clear s;go_wp2
  go_end0
  rw[q.o];exact⟨R,_,_,A.o⟩
theorem agh(i:av)(b g:M)(ai:aR aY)(ci:M)(ins:L Z)(st:bC)(j k:aC)(m:cq)(c h d f n:Z)(W:av)(a:jd i b g ai ci ins st j k m h d f n W)(l:0<=c/\c<=25):
  Calls prog 108 #[aM (S ⟨b,0,N⟩),cQ c h d f n] W λe a=>e=aH (aZ #[])/\gI i b g (ak ai (ah ins) ci) (dp m ins c h d f n st) a:=by
 rcases (show c=0\/c=1\/c=2\/c=3\/c=4\/c=5\/c=6\/c=7\/c=8\/c=9\/c=10\/c=11\/c=12\/c=13\/c=14\/c=15\/c=16\/c=17\/c=18\/c=19\/c=20\/c=21\/c=22\/c=23\/c=24\/c=25 by omega) with
  e|e|e|e|e|e|e|e|e|e|e|e|e|e|e|e|e|e|e|e|e|e|e|e|e|e
 ·exact afs i b g ai ci ins st j k m c h d f n W a e
 ·exact ago i b g ai ci ins st j k m c h d f n W a e
 ·exact adZ i b g ai ci ins st j k m c h d f n W a e
 ·exact agn i b g ai ci ins st j k m c h d f n W a e
 ·exact afr i b g ai ci ins st j k m c h d f n W a e
 ·exact agi i b g ai ci ins st j k m c h d f n W a e
 ·exact agj i b g ai ci ins st j k m c h d f n W a e
 ·exact agk i b g ai ci ins st j k m c h d f n W a e
 ·exact agl i b g ai ci ins st j k m c h d f n W a e
 ·exact agm i b g ai ci ins st j k m c h d f n W a e
 ·exact afl i b g ai ci ins st j k m c h d f n W a e
 ·exact ahm i b g ai ci ins st j k m c h d f n W a e
 ·exact ahn i b g ai ci ins st j k m c h d f n W a e
 ·exact afm i b g ai ci ins st j k m c h d f n W a e
 ·exact afn i b g ai ci ins st j k m c h d f n W a e
 ·exact afo i b g ai ci ins st j k m c h d f n W a e
 ·exact afp i b g ai ci ins st j k m c h d f n W a e
 ·exact afq i b g ai ci ins st j k m c h d f n W a e
 ·exact aft i b g ai ci ins st j k m c h d f n W a e
 ·exact afu i b g ai ci ins st j k m c h d f n W a e
 ·exact afv i b g ai ci ins st j k m c h d f n W a e
 ·exact afw i b g ai ci ins st j k m c h d f n W a e
 ·exact afx i b g ai ci ins st j k m c h d f n W a e
 ·exact afy i b g ai ci ins st j k m c h d f n W a e
 ·exact afz i b g ai ci ins st j k m c h d f n W a e
 ·exact ad1 i b g ai ci ins st j k m c h d f n W a e
def oR:aC:=.agg #[I J 0,I J 0,ak N 0 0,I J 0,I J 0]
theorem agx(g:M)(ai:aR aY)(n ci:M)(a:Z)(w:av)(c:16<n):
  Calls prog 34 #[aM (S ⟨g,0,N⟩),ak ai n ci,I J a] w λe a=>e=aH (aZ #[oR,I J 40])/\az w a N:=by
 have b:decide ((16:Z)<(n:Z))=true:=by simp;omega
 go_enter func34,ntmps34;go_wp2;refine bj (v:=aZ #[oR,I J 40]) ?_ R ⟨R,aG w (.cells oQ 49) N⟩;simp[results,results34,go_sem,oR]
theorem ado(g:M)(ai:aR aY)(n ci:M)(a:Z)(w:av)(i:n<=16)(c:a<0\/65536<a):
  Calls prog 34 #[aM (S ⟨g,0,N⟩),ak ai n ci,I J a] w λe a=>e=aH (aZ #[oR,I J 41])/\az w a N:=by
 have f:decide ((16:Z)<(n:Z))=false:=by simp;omega
 by_cases b:a<0
 ·have d:decide (a<0)=true:=by simpa using b
  clear c b;go_enter func34,ntmps34;go_wp2;refine bj (v:=aZ #[oR,I J 41]) ?_ R ⟨R,aG w (.cells oQ 49) N⟩;simp[results,results34,go_sem,oR]
 ·have d:decide (a<0)=false:=by simpa using b
  have h:decide ((65536:Z)<a)=true:=by simp;omega
  clear c b;go_enter func34,ntmps34;go_wp2;refine bj (v:=aZ #[oR,I J 41]) ?_ R ⟨R,aG w (.cells oQ 49) N⟩;simp[results,results34,go_sem,oR]
def Tw(W0:av)(m:cq)(ins:L Z)(fuel:Z)(e:Ending)(w':av):Prop :=
 (16<ah ins/\e=aH (aZ #[oR,I J 40])) \/
 (ah ins<=16/\(fuel<0\/65536<fuel)/\e=aH (aZ #[oR,I J 41])) \/
 (ah ins<=16/\0<=fuel/\fuel<=65536/\TP W0 (gM m ins fuel.toNat) e w')
theorem adp(g:M)(m:cq)(ai:aR aY)(ci:M)(ins:L Z)(a:Z)(w:av)(j:ij w g m)(l:ni m)(h:∀i,0<=m.D.getD i 0/\m.D.getD i 0<4294967296)(o:Cn m)(c:yq w ai ins)(p:eH w):
  Calls prog 34 #[aM (S ⟨g,0,N⟩),ak ai (ah ins) ci,I J a] w λe c=>Tw w m ins a e c/\az w c N:=by
 by_cases f:16<ah ins
 ·exact(agx g ai (ah ins) ci a w f).mono λe c k=>⟨.inl ⟨f,k.1⟩,k.2⟩
 by_cases d:a<0\/65536<a
 ·exact(ado g ai (ah ins) ci a w (by omega) d).mono λe c k=>⟨.inr (.inl ⟨by omega,d,k.1⟩),k.2⟩
 ·obtain⟨k,rfl⟩:=Int.eq_ofNat_of_zero_le (show 0<=a by omega);exact(ae9 g m ai ci ins k w j l h (by omega) (by omega) o c p (λa b j l o f h c d n W=>agh a b g ai ci ins j l o m f h c d n W)).mono λe c q=>⟨.inr (.inr ⟨by omega,by omega,by omega,q.1⟩),q.2⟩
theorem aaW(x g:M)(m:cq)(ai:aR aY)(ci:M)(ins:L Int)(b:Int)(w:av)(X:aq w ⟨x,0,N⟩=S (aM (S ⟨g,0,N⟩)))(W:ij w g m)(F:ni m)(Y:∀i,0<=m.D.getD i 0/\m.D.getD i 0<4294967296)(T:Cn m)(q:yq w ai ins)(r:eH w):
  Calls prog 12 #[aM (S ⟨x,0,N⟩),ak ai (ah ins) ci,I J b] w λe c=>Tw w m ins b e c/\az w c N:=by
 have p:=ae (aG w (.cells oQ 49) N);have P:=ae (aA.new w oQ 49);have c:(w.alloc (.cells oQ 49)).heap.size=w.heap.size+1:=Array.size_push _;have B:=ae c;have f:=yd X p.o;have d:=ae (adp g m ai ci ins b (w.alloc (.cells oQ 49)) (W.kept p.o) F Y T (q.kept (λa v e=>yd e p.o)) (r.grown p.o));unfold oQ at p P f d B;clear X W q r c;go_enter func12,ntmps12;go_wp2_with fail;refine d.o.mono ?_;rintro e V ⟨r,c⟩;have A:=ae (ya p.o c);have h:=ae (P.o.grown c (by simp));have s:=h.o.cell 0;have t:=h.o.cell 1;have u:=h.o.cell 2
 have y:=h.o.cell 3;have z:=h.o.cell 4;simp only[bI,bB,bL]at s t u y z;have D:=h.o.free 0;have E:=h.o.free 1;have G:=h.o.free 2;have H:=h.o.free 3;have K:=h.o.free 4;clear c d f;rcases r with ⟨d,rfl⟩|⟨d,f,rfl⟩|⟨d,f,k,Z,rfl,C⟩
 ·have o:=ae d;clear d;unfold oR;go_wp2;have c:=DK (w:=w) (I J 0) (I J 0) (ak N 0 0) (I J 0) (I J 0) h.o (Nat.le_refl _) A.o (eO V 0 3 1) (by simp[eW]);have l:=c.1.cell 0;have d:=c.1.cell 1;have f:=c.1.cell 2;have k:=c.1.cell 3;have n:=c.1.cell 4;simp only[bI,bB,bL]at l d f k n;refine bj (v:=aZ #[oR,I J 40]) ?_ R ⟨.inl ⟨o.o,R⟩,c.2.1⟩;clear c s t u y z D E G H K;generalize aK _ _ _=c at *;simp[results,results12,go_sem,oR,l,d,f,k,n]
 ·have o:=ae d;have O:=ae f;clear d f;unfold oR;go_wp2;have c:=DK (w:=w) (I J 0) (I J 0) (ak N 0 0) (I J 0) (I J 0) h.o (Nat.le_refl _) A.o (eO V 0 3 1) (by simp[eW]);have l:=c.1.cell 0;have d:=c.1.cell 1;have f:=c.1.cell 2;have k:=c.1.cell 3;have n:=c.1.cell 4;simp only[bI,bB,bL]at l d f k n;refine bj (v:=aZ #[oR,I J 41]) ?_ R ⟨.inr (.inl ⟨o.o,O.o,R⟩),c.2.1⟩;clear c s t u y z D E G H K;generalize aK _ _ _=c at *;simp[results,results12,go_sem,oR,l,d,f,k,n]
 ·have o:=ae (And.intro d (And.intro f k));clear d f k;obtain⟨Q,U,rfl⟩:=yi C;have O:=ae C;clear C;go_wp2;have c:=DK (w:=w) (I J (gM m ins b.toNat).aU) (I J (gM m ins b.toNat).code) (ak Q (gM m ins b.toNat).o.length U) (I J (gM m ins b.toNat).steps) (I J (gM m ins b.toNat).read) h.o (Nat.le_refl _) A.o O.o (λj e=>by have:=(O.o.lt j e).1;have:=B.o;omega);have l:=c.1.cell 0;have d:=c.1.cell 1;have f:=c.1.cell 2;have k:=c.1.cell 3;have n:=c.1.cell 4;simp only[bI,bB,bL]at l d f k n
  refine bj (v:=aZ #[.agg #[I J (gM m ins b.toNat).aU,I J (gM m ins b.toNat).code,ak Q (gM m ins b.toNat).o.length U,I J (gM m ins b.toNat).steps,I J (gM m ins b.toNat).read],I J 0]) ?_ R ⟨.inr (.inr ⟨o.o.1,o.o.2.1,o.o.2.2,_,R,kE c.2.2 (Nat.le_trans (Nat.le_succ _) (Nat.le_of_eq B.o.symm))⟩),c.2.1⟩;clear c s t u y z D E G H K;generalize aK _ _ _=c at *;simp[results,results12,go_sem,l,d,f,k,n]
