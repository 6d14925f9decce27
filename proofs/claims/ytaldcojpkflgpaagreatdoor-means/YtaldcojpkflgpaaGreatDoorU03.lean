import Derived.Test.YtaldcojpkflgpaaGreatDoorU02
import Derived.Maps.AppendAt
import Derived.Deep.CutRange
import Derived.Deep.RegionHeld3
set_option maxHeartbeats 16000000
set_option maxRecDepth 100000
open Go.Value renaming int->I,pointer->aM,slice->ak,bool->aJ,string->aB
open Go.IntKind renaming i64->J,wrap_i64->pD
open _root_ renaming Nat->M,Option->aR,List->L,Int->Z,Bool->bc,rfl->R,if_pos->aD,if_neg->ax,UInt8->aL,iff_true->zC,beq_iff_eq->dQ,beq_eq_false_iff_ne->df,decide_eq_true->kB,decide_eq_false->gF
open Go renaming World->av,Addr->aY,bits->aT,Value->aC,wp_region_held_drew->qu,wpAnyH_ready->ee,wpAnyH_take->kt,wpAnyH_done->ox,heap_alloc_new->rm
open Bool renaming false->F,true->T
open List renaming length->ah,getElem?_append_right->oB,getElem?_eq_getElem->bW,getD_eq_getElem?_getD->bQ,getElem?_toArray->bI,setIfInBounds_toArray->dt,set_append_right->Fa,getElem?_set->EY,getElem_take->yH,getElem_toArray->nQ,getElem_cons_succ->lH,getElem_cons_zero->nj,set_cons_succ->dB,set_cons_zero->dC,length_append->bX,getElem_mem->bN,length_take->iO,drop_eq_getElem_cons->fv,length_cons->dA,getElem?_cons_succ->bB,drop_length->jJ
open BitVec renaming ofInt->de
open Option renaming some->S,none->N
open Go.World renaming cell?->aq,ownsRow->aV,setCell->aK,grownBy->az,grownBy_alloc->aG,block_lt_of_cell?->ow,new_ne->tH
open Go.Ending renaming returned->aH
open Nat renaming le_trans->fV,lt_of_lt_of_le->oc,zero_le->bG,not_lt_zero->ji,lt_succ_iff_lt_or_eq->jY,le_refl->bz
open Go.RowKit renaming intOf->aN
open Go.AllReadyH renaming cons->dX,nil->eN
open Go.World.grownBy renaming refl->aW
open Classical renaming byContradiction->zZ
namespace Go.Proofs.YtaldcojpkflgpaaGreatDoor
open Go.RowKit Go.Proofs.Tryz
variable {b:M} {o:aF} {w l:av} {z:aR aY} {A:L M} {os:L aF}
def bn(x:Z):Z:=x%4294967296
def cK(x:Z):Z:=if x<2147483648 then x else x-4294967296
theorem mo(x:Z):0<=bn x/\bn x<4294967296:=by unfold bn;omega
structure bC where
 bM:L Z
 data:L Z
 pc:Z
 next:Z
 aU:Z
 code:Z
 o:L Z
 steps:M
 read:M
def bH(st:bC)(n:Z):Z:=st.bM.getD (n%32).toNat 0
def eu(n v:Z)(st:bC):bC:=if n%32=0 then st else {st with bM:=st.bM.set (n%32).toNat (bn v)}
def fg(op a b:Z):bc :=
 if op=5 then decide (a=b)else if op=6 then decide (a≠b)else if op=7 then decide (cK a<cK b)else if op=8 then decide (cK b<=cK a)
 else if op=9 then decide (a<b)else if op=10 then decide (b<=a)else F
def jX(op a b:Z):Z :=
 if op=18 then a+b else if op=19 then a-b else if op=20 then (if cK a<cK b then 1 else 0)else if op=21 then (if a<b then 1 else 0)
 else if op=22 then aT .xor .i64 a b else if op=23 then aT .or .i64 a b else if op=24 then aT .and .i64 a b else 0
def Cy(op:Z):Z:=if op=13 then 18 else if op=14 then 20 else if op=15 then 22 else if op=16 then 23 else if op=17 then 24 else 0
def tP(rd dest:Z)(st:bC):bC:={eu rd (st.pc+4) st with next:=bn dest}
def sO(taken:bc)(n:Z)(st:bC):bC:=if taken then {st with next:=bn (st.pc+n)} else st
def pN(m:cq)(rd a:Z)(st:bC):bC :=
 match fi m a with
 |some w=>eu rd w st
 |none=>if 0<=gB m.data (ah st.data) a then eu rd (st.data.getD (gB m.data (ah st.data) a).toNat 0) st else {st with aU:=4}
def pO(m:cq)(a v:Z)(st:bC):bC :=
 if 0<=gB m.data (ah st.data) a then {st with data:=st.data.set (gB m.data (ah st.data) a).toNat v} else {st with aU:=5}
def oI(ins:L Z)(st:bC):bC :=
 if bH st 17=0 then {st with aU:=1,code:=cK (bH st 10)}
 else if bH st 17=1 then (if 16<=(ah st.o)then {st with aU:=6} else {st with o:=st.o++[cK (bH st 10)]})
 else if bH st 17=2 then (if (ah ins)<=st.read then {st with aU:=6} else {eu 10 (ins.getD st.read 0) st with read:=st.read+1})
 else {st with aU:=6}
def dp(m:cq)(ins:L Z)(op rd dF eG n:Z)(st:bC):bC :=
 if op=0 then {st with aU:=3}
 else if op=1 then eu rd (n*4096) st
 else if op=2 then eu rd (n*4096+st.pc) st
 else if op=3 then tP rd (st.pc+n) st
 else if op=4 then tP rd ((bH st dF+n)-(bH st dF+n)%2) st
 else if 5<=op/\op<=10 then sO (fg op (bH st dF) (bH st eG)) n st
 else if op=11 then pN m rd (bn (bH st dF+n)) st
 else if op=12 then pO m (bn (bH st dF+n)) (bH st eG) st
 else if 13<=op/\op<=17 then eu rd (jX (Cy op) (bH st dF) (bn n)) st
 else if op=25 then oI ins st
 else eu rd (jX op (bH st dF) (bH st eG)) st
def li(m:cq)(ins:L Z)(st:bC):bC :=
 match fi m st.pc with
 |none=>{st with steps:=st.steps+1,aU:=2}
 |some w=>
  let s:=dp m ins (cz w) (bF (aP w) w) (bR (aP w) w) (dW (aP w) w) (dO (aP w) w) {st with steps:=st.steps+1,next:=bn (st.pc+4)}
  {s with pc:=s.next}
def mq(m:cq)(ins:L Z)(fuel:M):M->bC->bC
 |0,st=>st
 |k+1,st=>if st.aU=0/\st.steps<fuel then mq m ins fuel k (li m ins st)else st
structure zc (st:bC):Prop where
 bM:st.bM.length=32
 words:∀i,0<=st.bM.getD i 0/\st.bM.getD i 0<4294967296
 zero:st.bM.getD 0 0=0
 data:st.data.length<=131070
 wJ:∀i,0<=st.data.getD i 0/\st.data.getD i 0<4294967296
 pc:0<=st.pc/\st.pc<4294967296
 next:0<=st.next/\st.next<4294967296
 o:st.o.length<=16
 steps:st.steps<=65536
 read:st.read<=16
theorem G6(n:Z):aT .and .i64 n 4294967295=bn n:=by
 have c:(de 64 4294967295).toNat=2 ^ 32-1:=by decide
 have a:(de 64 n &&& de 64 4294967295).toNat=(n%((2 ^ 64:M):Z)).toNat%2 ^ 32:=by
  rw[BitVec.toNat_and,BitVec.toNat_ofInt,c,Nat.and_two_pow_sub_one_eq_mod]
 show J.wrap ((de 64 n &&& de 64 4294967295).toNat:M)=n%4294967296;rw[a,pD];omega
def kR(g:M)(DV:aC)(st:bC)(vd fO:aC):L aC :=
 [aM (S ⟨g,0,N⟩),DV]++(st.bM.map (I .i64)++[vd,I J st.pc,I J st.next,I J st.aU,I J st.code,fO,I J st.steps,I J st.read])
structure yz (W0:av) (b g:M) (DV:aC) (st:bC) (vd fO:aC) (W:av):Prop where
 aO:aA W b (kR g DV st vd fO).toArray 138
 data:W.ownsRow W0.heap.size 3 1 vd st.data.length (st.data.map (I .i64))
 o:W.ownsRow W0.heap.size 3 1 fO st.o.length (st.o.map (I .i64))
 apart:(∀k,vd.ownBlock=S k->k≠b)/\(∀k,fO.ownBlock=S k->k≠b)/\∀k,vd.ownBlock=S k->fO.ownBlock≠S k
 lo:W0.heap.size<=b
 gr:W0.grownBy W N
 ok:zc st
theorem aeS(g:M)(a:aC)(st:bC)(c d:aC)(h:ah st.bM=32)(i:M)(f:i<32):(kR g a st c d)[2+i]?=S (I J (st.bM.getD i 0)):=by
 unfold kR;rw[oB (by simp),List.getElem?_append_left (by simp;omega)];have e:2+i - [aM (S ⟨g,0,N⟩),a].length=i:=by simp
 rw[e,List.getElem?_map,bW (by omega),bQ,bW (by omega)];rfl
theorem SF(g:M)(d:aC)(st:bC)(a c:aC)(h:ah st.bM=32)(i:M):(kR g d st a c)[34+i]?=[a,I J st.pc,I J st.next,I J st.aU,I J st.code,c,I J st.steps,I J st.read][i]?:=by
 unfold kR;rw[oB (by simp;omega),oB (by simp;omega)]
 congr 1
 simp;omega
section
variable{e W:av}{b g:M}{a vd d:aC}{st:bC}
theorem yz.c(h:yz e b g a st vd d W):aq W ⟨b,0,N⟩=S (aM (S ⟨g,0,N⟩))/\aq W ⟨b,1,N⟩=S a/\aq W ⟨b,34,N⟩=S vd/\aq W ⟨b,35,N⟩=S (I J st.pc)/\aq W ⟨b,36,N⟩=S (I J st.next) /\
  aq W ⟨b,37,N⟩=S (I J st.aU)/\aq W ⟨b,38,N⟩=S (I J st.code)/\aq W ⟨b,39,N⟩=S d/\aq W ⟨b,40,N⟩=S (I J st.steps)/\aq W ⟨b,41,N⟩=S (I J st.read):=by
 have k:∀i,aq W ⟨b,i,N⟩=(kR g a st vd d)[i]?:=λi=>(h.aO.cell i).trans bI
 have t:=SF g a st vd d h.ok.bM;refine⟨k 0,k 1,(k 34).trans (t 0),(k 35).trans (t 1),(k 36).trans (t 2),(k 37).trans (t 3),(k 38).trans (t 4),(k 39).trans (t 5),(k 40).trans (t 6),(k 41).trans (t 7)⟩
theorem yz.cr(h:yz e b g a st vd d W)(i:M)(c:i<32):aq W ⟨b,2+i,N⟩=S (I J (st.bM.getD i 0)):=((h.aO.cell (2+i)).trans bI).trans (aeS g a st vd d h.ok.bM i c)
end
theorem tE(n:Z)(w:av):Calls prog 106 #[I J n] w λe l=>e=aH (I J (bn n))/\l=w:=by
 have E:=ae (G6 n);go_enter func106,ntmps106;go_wp2;go_ret;exact⟨fY E.o,R⟩
theorem Kp(n:Z)(w:av)(c:0<=n)(f:n<4294967296):Calls prog 177 #[I J n] w λe l=>e=aH (I J (cK n))/\l=w:=by
 by_cases h:n<2147483648
 ·have E:=ae (show n=cK n by unfold cK;rw[aD h]);go_enter func177,ntmps177;go_wp2;go_ret;exact⟨fY E.o,R⟩
 ·have E:=ae (show n-4294967296=cK n by unfold cK;rw[ax h]);have d:decide (n<2147483648)=F:=by simpa using h
  have a:J.wrap (n-4294967296)=n-4294967296:=IntWalk.i64_in _ ⟨by omega,by omega⟩;go_enter func177,ntmps177;go_wp2;go_ret;exact⟨fY E.o,R⟩
theorem T5(n:Z)(a:0<=n)(c:n<=4294967295):aT .and .i64 n 31=n%32:=low n 5 (by decide) 31 32 rfl rfl a c
theorem ej(d:av)(b g:M)(f:aC)(st:bC)(m p:aC)(n:Z)(W:av)(h:yz d b g f st m p W)(i:0<=n)(q:n<32):
  Calls prog 140 #[aM (S ⟨b,0,N⟩),I J n] W λe a=>e=aH (I J (bH st n))/\a=W:=by
 obtain⟨k,rfl⟩:=Int.eq_ofNat_of_zero_le i;have j:k<32:=by omega
 have c:=h.cr k j;have e:=T5 (k:Z) (by omega) (by omega);have a:(k:Z)%32=k:=by omega
 rw[a]at e;have R:=ae (show bH st (k:Z)=st.bM.getD k 0 by unfold bH;rw[a];rfl);clear h a;generalize st.bM.getD k 0=v at *;go_enter func140,ntmps140;go_wp2;go_ret;exact⟨fY R.o.symm,rfl⟩
theorem uy{W:av}{B o:M}{v u:aC}{n:M}{c:L aC}(h:aV W B 3 1 v n c)(a:∀k,v.ownBlock=S k->k≠b):(aK W ⟨b,o,N⟩ u).ownsRow B 3 1 v n c :=
 h.kept (bK W b o u) (by
  cases d:v.ownBlock with
  |none=>exact .inl R
  |some k=>right;intro e;exact a k d (by simpa using e))
theorem eh{a c:av}{d:aR M}(h:az w a N)(k:az a c d)(f:∀b,d=S b->w.heap.size<=b):az w c N :=
 ⟨k.os.trans h.os,k.tape.trans h.tape,k.output.trans h.output,fV h.size k.size,λi d _=>
  (k.block i (oc d h.size) (λe=>by have:=f i e.symm;omega)).trans (h.block i d (by simp))⟩
section
variable{i W j:av}{b g:M}{d vd a:aC}{st:bC}
theorem yz.put(h:yz i b g d st vd a W)(o:M)(v:aC)(st':bC)(f:(kR g d st vd a).set o v=kR g d st' vd a)(m:st'.data=st.data)(n:st'.o=st.o)(c:zc st'):
  yz i b g d st' vd a (aK W ⟨b,o,N⟩ v):=by
 refine⟨?_,by rw[m];exact uy h.data h.apart.1,by rw[n];exact uy h.o h.apart.2.1,h.apart,h.lo,eh h.gr (bK W b o v) (by intro k e;simp at e;have:=h.lo;omega),c⟩
 have:=h.aO.set o v
 rw[dt,f]at this;exact this
theorem yz.grown(h:yz i b g d st vd a W)(c:az W j N):yz i b g d st vd a j :=
 ⟨h.aO.grown c (by simp),h.data.kept c (by cases e:vd.ownBlock<;>simp),h.o.kept c (by cases e:a.ownBlock<;>simp),h.apart,h.lo,ya h.gr c,h.ok⟩
theorem yz.free(h:yz i b g d st vd a W)(o:M):World.frozen? W ⟨b,o,N⟩=F:=h.aO.free o
end
theorem aca(g:M)(a:aC)(st:bC)(c d:aC)(h:ah st.bM=32)(i:M)(f:i<32)(v:Z):(kR g a st c d).set (2+i) (I J v)=kR g a {st with bM:=st.bM.set i v} c d:=by
 unfold kR;rw[Fa _ _ (by simp),List.set_append_left _ _ (by simp;omega)];have e:2+i - [aM (S ⟨g,0,N⟩),a].length=i:=by simp
 rw[e,List.map_set]
theorem zd(g:M)(d:aC)(st st':bC)(e f c a:aC)(h:ah st.bM=32)(k:st'.bM=st.bM)(i:M)(v:aC)
  (j:[e,I J st.pc,I J st.next,I J st.aU,I J st.code,f,I J st.steps,I J st.read].set i v=[c,I J st'.pc,I J st'.next,I J st'.aU,I J st'.code,a,I J st'.steps,I J st'.read]) :
  (kR g d st e f).set (34+i) v=kR g d st' c a:=by
 unfold kR;rw[Fa _ _ (by simp;omega),Fa _ _ (by simp;omega),k]
 congr 2
 rw[<- j]
 congr 1
 simp;omega
theorem agI{st:bC}(h:zc st)(i:M)(v:Z)(c:i≠0):zc {st with bM:=st.bM.set i (bn v)}:=by
 have d:=mo v;have g:∀j,(st.bM.set i (bn v)).getD j 0=st.bM.getD j 0\/(st.bM.set i (bn v)).getD j 0=bn v:=by
  intro j;rw[bQ,bQ,EY];split
  ·split
   ·exact .inr R
   ·left
    rename_i a f;subst a;rw[List.getElem?_eq_none (by omega)]
  ·exact .inl R
 refine⟨by simpa using h.bM,λj=>?_,?_,h.data,h.wJ,h.pc,h.next,h.o,h.steps,h.read⟩
 ·rcases g j with e|e
  ·rw[e];exact h.words j
  ·rw[e];exact d
 ·show (st.bM.set i (bn v)).getD 0 0=0;rw[bQ,EY,ax c];exact h.zero
structure gL where
 mod:aR M
 au:Z
 off:Z
structure aI where
 obj:aF
 means:L gL
 short:L bc
 text:L Z
 bw:L Z
 data:Z
 bf:Z
def nX:gL:=⟨N,0,0⟩
def gK(y:dz):bc:=!decide (y.bind=0) && !decide (y.au=0)
def jh(y:dz):bc:=decide (y.bind=1)&&decide (y.au=0)
def pM(os:L aF)(n:L aL):bc:=os.any λo=>o.aE.any λy=>decide (y.name=n)&&jh y
def oG(os:L aF)(n:L aL):bc:=os.any λo=>o.aE.any λy=>decide (y.name=n)&&gK y
def rE(os:L aF)(o:aF):bc:=o.aE.any λy=>gK y&&(pM os y.name && !oG os y.name)
def mi(n:L aL)(bind:Z):L dz->aR (Z×Z)
 | []=>N
 |y::ys=>if y.name=n/\y.bind=bind/\y.au≠0 then S (y.au,y.off)else mi n bind ys
def qC(n:L aL)(bind:Z):M->L aF->gL
 |_,[]=>nX
 |i,o::os=>match mi n bind o.aE with
  |some (s,f)=>⟨S i,s,f⟩
  |none=>qC n bind (i+1) os
def lh(os:L aF)(n:L aL)(bind:Z):gL:=qC n bind 0 os
def gX(os:L aF)(n:L aL):gL:=if (lh os n 1).mod.isSome then lh os n 1 else lh os n 2
def jW(os:L aF)(i:M)(y:dz):gL:=if y.bind=0 then ⟨S i,y.au,y.off⟩else gX os y.name
structure jv where
 e:Z
 at_:Z
 name:L aL
def eM:jv:=⟨0,0,[]⟩
def lM(os:L aF)(i:M):L dz->aR jv
 | []=>N
 |y::ys=>if y.bind≠1\/y.au=0 then lM os i ys else if (lh (os.take i) y.name 1).mod.isSome then S ⟨33,i,y.name⟩else lM os i ys
def Av(os:L aF):M->L aF->jv
 |_,[]=>eM
 |i,o::r=>match lM os i o.aE with
  |some f=>f
  |none=>Av os (i+1) r
def xH(os:L aF):jv:=Av os 0 os
def mK(os:L aF)(i:M):L dz->aR jv
 | []=>N
 |y::ys=>if jh y=F then mK os i ys else if (gX os y.name).mod.isSome then mK os i ys else S ⟨34,i,y.name⟩
def Aw(os:L aF):M->L aF->jv
 |_,[]=>eM
 |i,o::r=>match mK os i o.aE with
  |some f=>f
  |none=>Aw os (i+1) r
def wh(os:L aF):jv:=Aw os 0 os
def fI:L (aF×bc)->L aF->L (aF×bc)×L aF×bc
 | [],os=>([],os,F)
 |(o,t)::r,os=>if t=F/\rE os o=T then ((o,T)::(fI r (os++[o])).1,(fI r (os++[o])).2.1,T)else ((o,t)::(fI r os).1,(fI r os).2.1,(fI r os).2.2)
def nU:M->L (aF×bc)->L aF->L aF
 |0,_,os=>os
 |k+1,ms,os=>if (fI ms os).2.2=T then nU k (fI ms os).1 (fI ms os).2.1 else (fI ms os).2.1
def cB(au off:Z):M->L cg->Z×cg
 |_,[]=>(0,⟨0,0,0,0,0⟩)
 |i,r::rs=>if r.au=au/\r.off<=off/\off<r.off+4*yy r then (i,r)else cB au off (i+1) rs
def lL(sh:L bc)(i:Z):bc:=decide (0<=i)&&sh.getD i.toNat F
def du(a b:Z):Z:=aT .andNot .i64 (a+b-1) (b-1)
def eQ(m:aI)(au off at_:Z):bc :=
 if (cB au off 0 m.obj.ay).2.kind=6 then !decide (du at_ ((cB au off 0 m.obj.ay).2.bh+4)=at_)
 else if (cB au off 0 m.obj.ay).2.kind=4 then decide (off=(cB au off 0 m.obj.ay).2.off) || !lL m.short (cB au off 0 m.obj.ay).1
 else T
def dU(m:aI)(au:Z):M->L Z->Z->L Z
 |_,[],at_=>[at_]
 |i,_::ws,at_=>at_::dU m au (i+1) ws (if eQ m au (4*i) at_ then at_+4 else at_)
def ff(m:aI)(au:Z):M->L Z->Z->Z
 |_,[],at_=>at_
 |i,_::ws,at_=>ff m au (i+1) ws (if eQ m au (4*i) at_ then at_+4 else at_)
def dG(o:aF)(au:M):Z:=lX (o.align.getD (au-1) 0)
def sM(m:aI)(au:M)(from_:Z):Z:=du from_ (dG m.obj au)
def iG(m:aI)(au:M)(from_:Z):Z:=ff m au 0 (yp m.obj au) (sM m au from_)
def ju(m:aI)(au:M)(from_:Z):L Z:=dU m au 0 (yp m.obj au) (sM m au from_)
def xI(m:aI)(t f d:Z):aI:={m with text:=ju m 1 t,bw:=ju m 2 f,data:=du d (dG m.obj 3)}
def iv:L aI->Z->Z->Z->L aI
 | [],_,_,_=>[]
 |m::ms,t,f,d=>xI m t f d::iv ms (iG m 1 t) (iG m 2 f) (du d (dG m.obj 3)+4*ah m.obj.data)
def iY:L aI->Z->Z
 | [],d=>d
 |m::ms,d=>iY ms (du d (dG m.obj 3)+4*ah m.obj.data)
def gE:L aI->Z->L aI
 | [],_=>[]
 |m::ms,b=>{m with bf:=du b (dG m.obj 4)}::gE ms (du b (dG m.obj 4)+4*m.obj.bf)
def nl:L aI->Z->Z
 | [],b=>b
 |m::ms,b=>nl ms (du b (dG m.obj 4)+4*m.obj.bf)
def aS(t f d:Z)(ms:L aI):L aI:=gE (iv ms t f d) (iY ms d)
def oH(d:Z)(ms:L aI):Z:=(nl ms (iY ms d)-iY ms d)/4
def lN(ps:L Z)(off:Z):Z:=if off.tdiv 4<0 then 0 else ps.getD (off.tdiv 4).toNat 0
def dR(m:aI)(au off:Z):Z :=
 if au=1 then lN m.text off else if au=2 then lN m.bw off else if au=3 then m.data+off else if au=4 then m.bf+off else 0
def kJ(ms:L aI)(s:gL):Z:=match s.mod with
 |none=>0
 |some i=>match ms[i]? with
  |none=>0
  |some m=>dR m s.au s.off
def jK(ms:L aI)(m:aI)(r:cg):Z:=if r.sym<0\/(ah m.means:Z)<=r.sym then 0 else kJ ms (m.means.getD r.sym.toNat nX)
def fT(ms:L aI)(m:aI)(r:cg):Z:=jK ms m r-dR m r.au r.off
def lg(ms:L aI)(m:aI)(r:cg):bc:=decide (r.kind=4)&&(decide (-1015808<fT ms m r)&&decide (fT ms m r<1015808))
def fU(ms:L aI):L aI:=ms.map λm=>{m with short:=m.obj.ay.map (lg ms m)}
def uP(t f d:Z)(ms:L aI):L aI:=aS t f d (fU (aS t f d ms))
def iE(n:Z):Prop:=n%128=99/\(n/4096%8=0\/n/4096%8=1\/n/4096%8=4\/n/4096%8=5\/n/4096%8=6\/n/4096%8=7)/\n/33554432=0/\n/128%32=0
def iA(n:Z):Prop:=n%128=111/\n/4096=0
def ig(J3 n:Z):Prop:=n%128=J3/\n/4096=0
def ie(J3 f n:Z):Prop:=n%128=J3/\n/4096%8=f/\n/1048576=0
def jf(n:Z):Prop:=n%128=35/\n/4096%8=2/\n/33554432=0/\n/128%32=0
theorem zM(n:Z)(a:0<=n)(c:n<=4294967295):Is 1 n↔n%128=55:=by
 show aT .and .i64 n 127=55↔_;rw[Lc n a c]
theorem zY(n:Z)(a:0<=n)(c:n<=4294967295):Is 2 n↔n%128=23:=by
 show aT .and .i64 n 127=23↔_;rw[Lc n a c]
theorem Cf(n:Z)(a:0<=n)(c:n<=4294967295):Is 3 n↔n%128=111:=by
 show aT .and .i64 n 127=111↔_;rw[Lc n a c]
theorem Ez(n:Z)(a:0<=n)(c:n<=4294967295):Is 4 n↔n%128+4096*(n/4096%8)=103:=by
 show aT .and .i64 n 28799=103↔_;rw[qo n a c]
theorem EA(n:Z)(a:0<=n)(c:n<=4294967295):Is 5 n↔n%128+4096*(n/4096%8)=99:=by
 show aT .and .i64 n 28799=99↔_;rw[qo n a c]
theorem EB(n:Z)(a:0<=n)(c:n<=4294967295):Is 6 n↔n%128+4096*(n/4096%8)=4195:=by
 show aT .and .i64 n 28799=4195↔_;rw[qo n a c]
theorem EC(n:Z)(a:0<=n)(c:n<=4294967295):Is 7 n↔n%128+4096*(n/4096%8)=16483:=by
 show aT .and .i64 n 28799=16483↔_;rw[qo n a c]
theorem ED(n:Z)(a:0<=n)(c:n<=4294967295):Is 8 n↔n%128+4096*(n/4096%8)=20579:=by
 show aT .and .i64 n 28799=20579↔_;rw[qo n a c]
theorem EF(n:Z)(a:0<=n)(c:n<=4294967295):Is 9 n↔n%128+4096*(n/4096%8)=24675:=by
 show aT .and .i64 n 28799=24675↔_;rw[qo n a c]
theorem Gr(n:Z)(a:0<=n)(c:n<=4294967295):Is 10 n↔n%128+4096*(n/4096%8)=28771:=by
 show aT .and .i64 n 28799=28771↔_;rw[qo n a c]
theorem Gs(n:Z)(a:0<=n)(c:n<=4294967295):Is 11 n↔n%128+4096*(n/4096%8)=8195:=by
 show aT .and .i64 n 28799=8195↔_;rw[qo n a c]
theorem Gt(n:Z)(a:0<=n)(c:n<=4294967295):Is 12 n↔n%128+4096*(n/4096%8)=8227:=by
 show aT .and .i64 n 28799=8227↔_;rw[qo n a c]
theorem Le(n:Z)(a:0<=n)(c:n<=4294967295):Is 13 n↔n%128+4096*(n/4096%8)=19:=by
 show aT .and .i64 n 28799=19↔_;rw[qo n a c]
theorem ahq(n:Z)(a:0<=n)(c:n<=4294967295):Is 14 n↔n%128+4096*(n/4096%8)=8211:=by
 show aT .and .i64 n 28799=8211↔_;rw[qo n a c]
theorem ahr(n:Z)(a:0<=n)(c:n<=4294967295):Is 15 n↔n%128+4096*(n/4096%8)=16403:=by
 show aT .and .i64 n 28799=16403↔_;rw[qo n a c]
theorem ahs(n:Z)(a:0<=n)(c:n<=4294967295):Is 16 n↔n%128+4096*(n/4096%8)=24595:=by
 show aT .and .i64 n 28799=24595↔_;rw[qo n a c]
theorem aht(n:Z)(a:0<=n)(c:n<=4294967295):Is 17 n↔n%128+4096*(n/4096%8)=28691:=by
 show aT .and .i64 n 28799=28691↔_;rw[qo n a c]
theorem ahu(n:Z)(a:0<=n)(c:n<=4294967295):Is 18 n↔n%128+4096*(n/4096%8)+33554432*(n/33554432)=51:=by
 show aT .and .i64 n 4261441663=51↔_;rw[yZ n a c]
theorem ahv(n:Z)(a:0<=n)(c:n<=4294967295):Is 19 n↔n%128+4096*(n/4096%8)+33554432*(n/33554432)=1073741875:=by
 show aT .and .i64 n 4261441663=1073741875↔_;rw[yZ n a c]
theorem agW(n:Z)(a:0<=n)(c:n<=4294967295):Is 20 n↔n%128+4096*(n/4096%8)+33554432*(n/33554432)=8243:=by
 show aT .and .i64 n 4261441663=8243↔_;rw[yZ n a c]
theorem agX(n:Z)(a:0<=n)(c:n<=4294967295):Is 21 n↔n%128+4096*(n/4096%8)+33554432*(n/33554432)=12339:=by
 show aT .and .i64 n 4261441663=12339↔_;rw[yZ n a c]
theorem agY(n:Z)(a:0<=n)(c:n<=4294967295):Is 22 n↔n%128+4096*(n/4096%8)+33554432*(n/33554432)=16435:=by
 show aT .and .i64 n 4261441663=16435↔_;rw[yZ n a c]
theorem agZ(n:Z)(a:0<=n)(c:n<=4294967295):Is 23 n↔n%128+4096*(n/4096%8)+33554432*(n/33554432)=24627:=by
 show aT .and .i64 n 4261441663=24627↔_;rw[yZ n a c]
theorem ag0(n:Z)(a:0<=n)(c:n<=4294967295):Is 24 n↔n%128+4096*(n/4096%8)+33554432*(n/33554432)=28723:=by
 show aT .and .i64 n 4261441663=28723↔_;rw[yZ n a c]
theorem ag1(n:Z)(a:0<=n)(c:n<=4294967295):Is 25 n↔n=115:=by
 show aT .and .i64 n 4294967295=115↔_;rw[ag2 n a c]
def eg(n op rd dF m:Z):Prop :=
  ((5<=op/\op<=10/\m=0)↔iE n)/\((op=3/\m=0)↔iA n)/\((op=1/\m=0)↔ig 55 n)/\((op=2/\m=0)↔ig 23 n) /\
  ((op=4/\m=0)↔ie 103 0 n)/\((op=11/\m=0)↔ie 3 2 n)/\((op=12/\m=0)↔jf n)/\((op=13/\m=0)↔ie 19 0 n) /\
  ((op=1\/op=2)->rd=n/128%32)/\((op=4\/op=11\/op=12\/op=13)->dF=n/32768%32)
theorem eY(n d:Z)(c:0<=n)(e:n<=4294967295)(f:1<=d):aT .and .i64 (n/d) 31=n/d%32:=by
 have a:0<=n/d:=Int.ediv_nonneg c (by omega);have b:n/d<=n:=Int.ediv_le_self d c;exact low (n/d) 5 (by decide) 31 32 rfl rfl a (by omega)
theorem agf(n:Z)(a:0<=n)(c:n<=4294967295)(h:∀k,1<=k->k<=25->¬Is k n):eg n 0 0 0 0:=by
 have i:=h 1 (by decide) (by decide);rw[zM n a c]at i;have j:=h 2 (by decide) (by decide);rw[zY n a c]at j;have m:=h 3 (by decide) (by decide);rw[Cf n a c]at m;have p:=h 4 (by decide) (by decide);rw[Ez n a c]at p;have q:=h 5 (by decide) (by decide);rw[EA n a c]at q;have r:=h 6 (by decide) (by decide);rw[EB n a c]at r;have s:=h 7 (by decide) (by decide);rw[EC n a c]at s;have t:=h 8 (by decide) (by decide);rw[ED n a c]at t;have u:=h 9 (by decide) (by decide);rw[EF n a c]at u;have d:=h 10 (by decide) (by decide);rw[Gr n a c]at d;have e:=h 11 (by decide) (by decide)
 rw[Gs n a c]at e;have f:=h 12 (by decide) (by decide);rw[Gt n a c]at f;have g:=h 13 (by decide) (by decide);rw[Le n a c]at g;clear h;unfold eg iE iA ig ie jf;refine⟨?_,?_,?_,?_,?_,?_,?_,?_,?_,?_⟩<;>omega
theorem ahd(n m:Z)(d:0<=n)(e:n<=4294967295)(g:Is 1 n)(_hm:m=0↔ym 1 n):eg n 1 (bF 1 n) (bR 1 n) m:=by
 rw[zM n d e]at g;have f:ym 1 n↔n/4096=0:=by simp[ym]
 rw[f]at _hm;have a:bF 1 n=n/128%32:=by rw[<- eY n 128 d e (by decide)];rfl
 have c:bR 1 n=0:=by rfl
 unfold eg iE iA ig ie jf;rw[a,c];clear f;refine⟨?_,?_,?_,?_,?_,?_,?_,?_,?_,?_⟩<;>omega
theorem ahe(n m:Z)(d:0<=n)(e:n<=4294967295)(g:Is 2 n)(_hm:m=0↔ym 1 n):eg n 2 (bF 1 n) (bR 1 n) m:=by
 rw[zY n d e]at g;have f:ym 1 n↔n/4096=0:=by simp[ym]
 rw[f]at _hm;have a:bF 1 n=n/128%32:=by rw[<- eY n 128 d e (by decide)];rfl
 have c:bR 1 n=0:=by rfl
 unfold eg iE iA ig ie jf;rw[a,c];clear f;refine⟨?_,?_,?_,?_,?_,?_,?_,?_,?_,?_⟩<;>omega
theorem ahf(n m:Z)(d:0<=n)(e:n<=4294967295)(g:Is 3 n)(_hm:m=0↔ym 2 n):eg n 3 (bF 2 n) (bR 2 n) m:=by
 rw[Cf n d e]at g;have f:ym 2 n↔n/4096=0:=by simp[ym]
 rw[f]at _hm;have a:bF 2 n=n/128%32:=by rw[<- eY n 128 d e (by decide)];rfl
 have c:bR 2 n=0:=by rfl
 unfold eg iE iA ig ie jf;rw[a,c];clear f;refine⟨?_,?_,?_,?_,?_,?_,?_,?_,?_,?_⟩<;>omega
theorem ahg(n m:Z)(a:0<=n)(c:n<=4294967295)(g:Is 4 n)(_hm:m=0↔ym 3 n):eg n 4 (bF 3 n) (bR 3 n) m:=by
 rw[Ez n a c]at g;have f:ym 3 n↔n/1048576=0:=by simp[ym]
 rw[f]at _hm;have d:bF 3 n=n/128%32:=by rw[<- eY n 128 a c (by decide)];rfl
 have e:bR 3 n=n/32768%32:=by rw[<- eY n 32768 a c (by decide)];rfl
 unfold eg iE iA ig ie jf;rw[d,e];clear f;refine⟨?_,?_,?_,?_,?_,?_,?_,?_,?_,?_⟩<;>omega
theorem ahh(n m:Z)(d:0<=n)(e:n<=4294967295)(g:Is 5 n)(_hm:m=0↔ym 4 n):eg n 5 (bF 4 n) (bR 4 n) m:=by
 rw[EA n d e]at g;have f:ym 4 n↔n/33554432=0/\n/128%32=0:=by simp[ym]
 rw[f]at _hm;have a:bF 4 n=0:=by rfl
 have c:bR 4 n=n/32768%32:=by rw[<- eY n 32768 d e (by decide)];rfl
 unfold eg iE iA ig ie jf;rw[a,c];clear f;refine⟨?_,?_,?_,?_,?_,?_,?_,?_,?_,?_⟩<;>omega
theorem ahi(n m:Z)(d:0<=n)(e:n<=4294967295)(g:Is 6 n)(_hm:m=0↔ym 4 n):eg n 6 (bF 4 n) (bR 4 n) m:=by
 rw[EB n d e]at g;have f:ym 4 n↔n/33554432=0/\n/128%32=0:=by simp[ym]
 rw[f]at _hm;have a:bF 4 n=0:=by rfl
 have c:bR 4 n=n/32768%32:=by rw[<- eY n 32768 d e (by decide)];rfl
 unfold eg iE iA ig ie jf;rw[a,c];clear f;refine⟨?_,?_,?_,?_,?_,?_,?_,?_,?_,?_⟩<;>omega
theorem ahj(n m:Z)(d:0<=n)(e:n<=4294967295)(g:Is 7 n)(_hm:m=0↔ym 4 n):eg n 7 (bF 4 n) (bR 4 n) m:=by
 rw[EC n d e]at g;have f:ym 4 n↔n/33554432=0/\n/128%32=0:=by simp[ym]
 rw[f]at _hm;have a:bF 4 n=0:=by rfl
 have c:bR 4 n=n/32768%32:=by rw[<- eY n 32768 d e (by decide)];rfl
 unfold eg iE iA ig ie jf;rw[a,c];clear f;refine⟨?_,?_,?_,?_,?_,?_,?_,?_,?_,?_⟩<;>omega
theorem ahk(n m:Z)(d:0<=n)(e:n<=4294967295)(g:Is 8 n)(_hm:m=0↔ym 4 n):eg n 8 (bF 4 n) (bR 4 n) m:=by
 rw[ED n d e]at g;have f:ym 4 n↔n/33554432=0/\n/128%32=0:=by simp[ym]
 rw[f]at _hm;have a:bF 4 n=0:=by rfl
 have c:bR 4 n=n/32768%32:=by rw[<- eY n 32768 d e (by decide)];rfl
 unfold eg iE iA ig ie jf;rw[a,c];clear f;refine⟨?_,?_,?_,?_,?_,?_,?_,?_,?_,?_⟩<;>omega
theorem ahl(n m:Z)(d:0<=n)(e:n<=4294967295)(g:Is 9 n)(_hm:m=0↔ym 4 n):eg n 9 (bF 4 n) (bR 4 n) m:=by
 rw[EF n d e]at g;have f:ym 4 n↔n/33554432=0/\n/128%32=0:=by simp[ym]
 rw[f]at _hm;have a:bF 4 n=0:=by rfl
 have c:bR 4 n=n/32768%32:=by rw[<- eY n 32768 d e (by decide)];rfl
 unfold eg iE iA ig ie jf;rw[a,c];clear f;refine⟨?_,?_,?_,?_,?_,?_,?_,?_,?_,?_⟩<;>omega
theorem agQ(n m:Z)(d:0<=n)(e:n<=4294967295)(g:Is 10 n)(_hm:m=0↔ym 4 n):eg n 10 (bF 4 n) (bR 4 n) m:=by
 rw[Gr n d e]at g;have f:ym 4 n↔n/33554432=0/\n/128%32=0:=by simp[ym]
 rw[f]at _hm;have a:bF 4 n=0:=by rfl
 have c:bR 4 n=n/32768%32:=by rw[<- eY n 32768 d e (by decide)];rfl
 unfold eg iE iA ig ie jf;rw[a,c];clear f;refine⟨?_,?_,?_,?_,?_,?_,?_,?_,?_,?_⟩<;>omega
theorem agR(n m:Z)(a:0<=n)(c:n<=4294967295)(g:Is 11 n)(_hm:m=0↔ym 3 n):eg n 11 (bF 3 n) (bR 3 n) m:=by
 rw[Gs n a c]at g;have f:ym 3 n↔n/1048576=0:=by simp[ym]
 rw[f]at _hm;have d:bF 3 n=n/128%32:=by rw[<- eY n 128 a c (by decide)];rfl
 have e:bR 3 n=n/32768%32:=by rw[<- eY n 32768 a c (by decide)];rfl
 unfold eg iE iA ig ie jf;rw[d,e];clear f;refine⟨?_,?_,?_,?_,?_,?_,?_,?_,?_,?_⟩<;>omega
theorem agS(n m:Z)(d:0<=n)(e:n<=4294967295)(g:Is 12 n)(_hm:m=0↔ym 5 n):eg n 12 (bF 5 n) (bR 5 n) m:=by
 rw[Gt n d e]at g;have f:ym 5 n↔n/33554432=0/\n/128%32=0:=by simp[ym]
 rw[f]at _hm;have a:bF 5 n=0:=by rfl
 have c:bR 5 n=n/32768%32:=by rw[<- eY n 32768 d e (by decide)];rfl
 unfold eg iE iA ig ie jf;rw[a,c];clear f;refine⟨?_,?_,?_,?_,?_,?_,?_,?_,?_,?_⟩<;>omega
theorem agT(n m:Z)(a:0<=n)(c:n<=4294967295)(g:Is 13 n)(_hm:m=0↔ym 3 n):eg n 13 (bF 3 n) (bR 3 n) m:=by
 rw[Le n a c]at g;have f:ym 3 n↔n/1048576=0:=by simp[ym]
 rw[f]at _hm;have d:bF 3 n=n/128%32:=by rw[<- eY n 128 a c (by decide)];rfl
 have e:bR 3 n=n/32768%32:=by rw[<- eY n 32768 a c (by decide)];rfl
 unfold eg iE iA ig ie jf;rw[d,e];clear f;refine⟨?_,?_,?_,?_,?_,?_,?_,?_,?_,?_⟩<;>omega
theorem agU(n m:Z)(a:0<=n)(c:n<=4294967295)(g:Is 14 n)(_hm:m=0↔ym 3 n):eg n 14 (bF 3 n) (bR 3 n) m:=by
 rw[ahq n a c]at g;have f:ym 3 n↔n/1048576=0:=by simp[ym]
 rw[f]at _hm;have d:bF 3 n=n/128%32:=by rw[<- eY n 128 a c (by decide)];rfl
 have e:bR 3 n=n/32768%32:=by rw[<- eY n 32768 a c (by decide)];rfl
 unfold eg iE iA ig ie jf;rw[d,e];clear f;refine⟨?_,?_,?_,?_,?_,?_,?_,?_,?_,?_⟩<;>omega
theorem agV(n m:Z)(a:0<=n)(c:n<=4294967295)(g:Is 15 n)(_hm:m=0↔ym 3 n):eg n 15 (bF 3 n) (bR 3 n) m:=by
 rw[ahr n a c]at g;have f:ym 3 n↔n/1048576=0:=by simp[ym]
 rw[f]at _hm;have d:bF 3 n=n/128%32:=by rw[<- eY n 128 a c (by decide)];rfl
 have e:bR 3 n=n/32768%32:=by rw[<- eY n 32768 a c (by decide)];rfl
 unfold eg iE iA ig ie jf;rw[d,e];clear f;refine⟨?_,?_,?_,?_,?_,?_,?_,?_,?_,?_⟩<;>omega
theorem af5(n m:Z)(a:0<=n)(c:n<=4294967295)(g:Is 16 n)(_hm:m=0↔ym 3 n):eg n 16 (bF 3 n) (bR 3 n) m:=by
 rw[ahs n a c]at g;have f:ym 3 n↔n/1048576=0:=by simp[ym]
 rw[f]at _hm;have d:bF 3 n=n/128%32:=by rw[<- eY n 128 a c (by decide)];rfl
 have e:bR 3 n=n/32768%32:=by rw[<- eY n 32768 a c (by decide)];rfl
 unfold eg iE iA ig ie jf;rw[d,e];clear f;refine⟨?_,?_,?_,?_,?_,?_,?_,?_,?_,?_⟩<;>omega
theorem af6(n m:Z)(a:0<=n)(c:n<=4294967295)(g:Is 17 n)(_hm:m=0↔ym 3 n):eg n 17 (bF 3 n) (bR 3 n) m:=by
 rw[aht n a c]at g;have f:ym 3 n↔n/1048576=0:=by simp[ym]
 rw[f]at _hm;have d:bF 3 n=n/128%32:=by rw[<- eY n 128 a c (by decide)];rfl
 have e:bR 3 n=n/32768%32:=by rw[<- eY n 32768 a c (by decide)];rfl
 unfold eg iE iA ig ie jf;rw[d,e];clear f;refine⟨?_,?_,?_,?_,?_,?_,?_,?_,?_,?_⟩<;>omega
theorem af7(n m:Z)(a:0<=n)(c:n<=4294967295)(f:Is 18 n)(_hm:m=0↔ym 6 n):eg n 18 (bF 6 n) (bR 6 n) m:=by
 rw[ahu n a c]at f;have g:ym 6 n↔True:=by simp[ym]
 rw[g]at _hm;have d:bF 6 n=n/128%32:=by rw[<- eY n 128 a c (by decide)];rfl
 have e:bR 6 n=n/32768%32:=by rw[<- eY n 32768 a c (by decide)];rfl
 unfold eg iE iA ig ie jf;rw[d,e];simp only[zC]at _hm;refine⟨?_,?_,?_,?_,?_,?_,?_,?_,?_,?_⟩<;>omega
theorem af8(n m:Z)(a:0<=n)(c:n<=4294967295)(f:Is 19 n)(_hm:m=0↔ym 6 n):eg n 19 (bF 6 n) (bR 6 n) m:=by
 rw[ahv n a c]at f;have g:ym 6 n↔True:=by simp[ym]
 rw[g]at _hm;have d:bF 6 n=n/128%32:=by rw[<- eY n 128 a c (by decide)];rfl
 have e:bR 6 n=n/32768%32:=by rw[<- eY n 32768 a c (by decide)];rfl
 unfold eg iE iA ig ie jf;rw[d,e];simp only[zC]at _hm;refine⟨?_,?_,?_,?_,?_,?_,?_,?_,?_,?_⟩<;>omega
theorem af9(n m:Z)(a:0<=n)(c:n<=4294967295)(f:Is 20 n)(_hm:m=0↔ym 6 n):eg n 20 (bF 6 n) (bR 6 n) m:=by
 rw[agW n a c]at f;have g:ym 6 n↔True:=by simp[ym]
 rw[g]at _hm;have d:bF 6 n=n/128%32:=by rw[<- eY n 128 a c (by decide)];rfl
 have e:bR 6 n=n/32768%32:=by rw[<- eY n 32768 a c (by decide)];rfl
 unfold eg iE iA ig ie jf;rw[d,e];simp only[zC]at _hm;refine⟨?_,?_,?_,?_,?_,?_,?_,?_,?_,?_⟩<;>omega
theorem aga(n m:Z)(a:0<=n)(c:n<=4294967295)(f:Is 21 n)(_hm:m=0↔ym 6 n):eg n 21 (bF 6 n) (bR 6 n) m:=by
 rw[agX n a c]at f;have g:ym 6 n↔True:=by simp[ym]
 rw[g]at _hm;have d:bF 6 n=n/128%32:=by rw[<- eY n 128 a c (by decide)];rfl
 have e:bR 6 n=n/32768%32:=by rw[<- eY n 32768 a c (by decide)];rfl
 unfold eg iE iA ig ie jf;rw[d,e];simp only[zC]at _hm;refine⟨?_,?_,?_,?_,?_,?_,?_,?_,?_,?_⟩<;>omega
theorem agb(n m:Z)(a:0<=n)(c:n<=4294967295)(f:Is 22 n)(_hm:m=0↔ym 6 n):eg n 22 (bF 6 n) (bR 6 n) m:=by
 rw[agY n a c]at f;have g:ym 6 n↔True:=by simp[ym]
 rw[g]at _hm;have d:bF 6 n=n/128%32:=by rw[<- eY n 128 a c (by decide)];rfl
 have e:bR 6 n=n/32768%32:=by rw[<- eY n 32768 a c (by decide)];rfl
 unfold eg iE iA ig ie jf;rw[d,e];simp only[zC]at _hm;refine⟨?_,?_,?_,?_,?_,?_,?_,?_,?_,?_⟩<;>omega
theorem agc(n m:Z)(a:0<=n)(c:n<=4294967295)(f:Is 23 n)(_hm:m=0↔ym 6 n):eg n 23 (bF 6 n) (bR 6 n) m:=by
 rw[agZ n a c]at f;have g:ym 6 n↔True:=by simp[ym]
 rw[g]at _hm;have d:bF 6 n=n/128%32:=by rw[<- eY n 128 a c (by decide)];rfl
 have e:bR 6 n=n/32768%32:=by rw[<- eY n 32768 a c (by decide)];rfl
 unfold eg iE iA ig ie jf;rw[d,e];simp only[zC]at _hm;refine⟨?_,?_,?_,?_,?_,?_,?_,?_,?_,?_⟩<;>omega
theorem agd(n m:Z)(a:0<=n)(c:n<=4294967295)(f:Is 24 n)(_hm:m=0↔ym 6 n):eg n 24 (bF 6 n) (bR 6 n) m:=by
 rw[ag0 n a c]at f;have g:ym 6 n↔True:=by simp[ym]
 rw[g]at _hm;have d:bF 6 n=n/128%32:=by rw[<- eY n 128 a c (by decide)];rfl
 have e:bR 6 n=n/32768%32:=by rw[<- eY n 32768 a c (by decide)];rfl
 unfold eg iE iA ig ie jf;rw[d,e];simp only[zC]at _hm;refine⟨?_,?_,?_,?_,?_,?_,?_,?_,?_,?_⟩<;>omega
theorem age(n m:Z)(d:0<=n)(e:n<=4294967295)(f:Is 25 n)(_hm:m=0↔ym 7 n):eg n 25 (bF 7 n) (bR 7 n) m:=by
 rw[ag1 n d e]at f;have g:ym 7 n↔True:=by simp[ym]
 rw[g]at _hm;have a:bF 7 n=0:=by rfl
 have c:bR 7 n=0:=by rfl
 unfold eg iE iA ig ie jf;rw[a,c];simp only[zC]at _hm;refine⟨?_,?_,?_,?_,?_,?_,?_,?_,?_,?_⟩<;>omega
theorem oW(n g i f m:Z)(a:0<=n)(c:n<=4294967295)(h:Ea n g i f m):eg n g i f m:=by
 rcases h with ⟨rfl,rfl,rfl,rfl,h⟩|⟨k,j,p,d,-,rfl,rfl,rfl,e⟩
 ·exact agf n a c h
 ·rcases (show k=1\/k=2\/k=3\/k=4\/k=5\/k=6\/k=7\/k=8\/k=9\/k=10\/k=11\/k=12\/k=13\/k=14\/k=15\/k=16\/k=17\/k=18\/k=19\/k=20\/k=21\/k=22\/k=23\/k=24\/k=25 from by omega)with rfl|rfl|rfl|rfl|rfl|rfl|rfl|rfl|rfl|rfl|rfl|rfl|rfl|rfl|rfl|rfl|rfl|rfl|rfl|rfl|rfl|rfl|rfl|rfl|rfl
  ·exact ahd n m a c d e
  ·exact ahe n m a c d e
  ·exact ahf n m a c d e
  ·exact ahg n m a c d e
  ·exact ahh n m a c d e
  ·exact ahi n m a c d e
  ·exact ahj n m a c d e
  ·exact ahk n m a c d e
  ·exact ahl n m a c d e
  ·exact agQ n m a c d e
  ·exact agR n m a c d e
  ·exact agS n m a c d e
  ·exact agT n m a c d e
  ·exact agU n m a c d e
  ·exact agV n m a c d e
  ·exact af5 n m a c d e
  ·exact af6 n m a c d e
  ·exact af7 n m a c d e
  ·exact af8 n m a c d e
  ·exact af9 n m a c d e
  ·exact aga n m a c d e
  ·exact agb n m a c d e
  ·exact agc n m a c d e
  ·exact agd n m a c d e
  ·exact age n m a c d e
def zS(xs:L Z):Prop:=∀i (h:i<ah xs),xs[i]=19
theorem abZ(z:aR aY)(cap:M)(a:L Z)(w:av)(h:yq w z a)(u:ah a<=65535):
  Calls prog 267 #[ak z (ah a) cap] w λe l=>aX e (zS a)/\l=w:=by
 have H:=ae h;clear h;go_enter func267,ntmps267;go_wp2
 go_loop [7] (λi=>∃k:M,k<=ah a/\i=I J k/\∀j (f:j<ah a),j<k->a[j]=19) (λi=>ah a-(aN i).toNat)
 case atStart=>exact⟨0,bG _,R,λj _ f=>absurd f (ji j)⟩
 case round=>
  obtain⟨k,t,rfl,c⟩:=hrel;have n:=ae c;clear c;by_cases d:k<ah a
  ·obtain⟨g,s,rfl,c⟩:=H.o (by omega);have r:=c k d;clear c;by_cases c:a[k]=19
   ·have p:=ae c;have q:(a[k]==19)=T:=dQ.2 c;clear c;go_wp2
    go_round
    case rel=>exact⟨k+1,by omega,by go_num,λj f m=>(jY.1 m).elim (λh=>n.o j f h) (λh=>by subst h;exact p.o)⟩
    case measure=>simp[aN];omega
   ·have N:=ae (show ¬zS a from λa=>c (a k d));have q:(a[k]==19)=F:=df.2 c;clear c;go_wp2;go_ret;exact⟨aX.no N.o,R⟩
  ·go_wp2;go_ret;exact⟨aX.iV λi a=>n.o i a (by omega),R⟩
def vV(kind op1 rd m1 op2 rs m2:Z):Prop:=(rd≠0/\rs=rd/\m1=0/\m2=0)/\(if kind=4 then op1=2/\op2=4 else op1=1/\(op2=13\/op2=11\/op2=12))
theorem QY(f d k D E r c G p t2 s:Z)(w:av):
  Calls prog 266 #[I J f,cQ d k D E r,cQ c G p t2 s] w λe l=>aX e (vV f d k r c p s)/\az w l N:=by
 have i:=ae (λo:Obj=>aG w o N);have j:=ae (λo a:Obj=>aG (w.alloc o) a N);have g:=ae (show vV f d k r c p s↔(k≠0/\p=k/\r=0/\s=0)/\(if f=4 then d=2/\c=4 else d=1/\(c=13\/c=11\/c=12))from Iff.rfl);generalize vV f d k r c p s=Q at *;unfold cQ;by_cases m:k=0
 ·have a:=ae (show ¬Q from λq=>(g.o.1 q).1.1 m);subst m;clear g;go_enter func266,ntmps266;go_wp2;go_ret;exact⟨aX.no a.o,ya (i.o _) (j.o _ _)⟩
 have H:(k==0)=F:=df.2 m;by_cases t:p=k
 rotate_left
 ·have a:=ae (show ¬Q from λq=>t (g.o.1 q).1.2.1);have C:(p != k)=T:=by simpa using t
  clear g m t;go_enter func266,ntmps266;go_wp2;go_ret;exact⟨aX.no a.o,ya (i.o _) (j.o _ _)⟩
 subst t;have C:(p==p)=T:=by simp
 by_cases u:r=0
 rotate_left
 ·have a:=ae (show ¬Q from λq=>u (g.o.1 q).1.2.2.1);have n:(r==0)=F:=df.2 u;clear g m u;go_enter func266,ntmps266;go_wp2;go_ret;exact⟨aX.no a.o,ya (i.o _) (j.o _ _)⟩
 subst u;by_cases v:s=0
 rotate_left
 ·have a:=ae (show ¬Q from λq=>v (g.o.1 q).1.2.2.2);have n:(s==0)=F:=df.2 v;clear g m v;go_enter func266,ntmps266;go_wp2;go_ret;exact⟨aX.no a.o,ya (i.o _) (j.o _ _)⟩
 subst v;have B:=ae m;clear m;by_cases x:f=4
 ·subst x;have m:=ae (show Q↔d=2/\c=4 from by rw[g.o,aD R];exact⟨λh=>h.2,λh=>⟨⟨B.o,R,R,R⟩,h⟩⟩);clear g;by_cases n:d=2
  ·subst n;go_enter func266,ntmps266;go_wp2;go_ret;exact⟨aX.of (by rw[m.o,dQ];simp),ya (i.o _) (j.o _ _)⟩
  ·have a:=ae (show ¬Q from λq=>n (m.o.1 q).1);have y:(d==2)=F:=df.2 n;clear m n;go_enter func266,ntmps266;go_wp2;go_ret;exact⟨aX.no a.o,ya (i.o _) (j.o _ _)⟩
 ·have m:=ae (show Q↔d=1/\(c=13\/c=11\/c=12)from by rw[g.o,ax x];exact⟨λh=>h.2,λh=>⟨⟨B.o,R,R,R⟩,h⟩⟩);have K:(f==4)=F:=df.2 x;clear g x;by_cases n:d=1
  rotate_left
  ·have a:=ae (show ¬Q from λq=>n (m.o.1 q).1);have y:(d==1)=F:=df.2 n;clear m n;go_enter func266,ntmps266;go_wp2;go_ret;exact⟨aX.no a.o,ya (i.o _) (j.o _ _)⟩
  subst n;by_cases a:c=13
  ·subst a;go_enter func266,ntmps266;go_wp2;go_ret;exact⟨aX.iV (by rw[m.o];simp),ya (i.o _) (j.o _ _)⟩
  have P:(c==13)=F:=df.2 a;by_cases y:c=11
  ·subst y;go_enter func266,ntmps266;go_wp2;go_ret;exact⟨aX.iV (by rw[m.o];simp),ya (i.o _) (j.o _ _)⟩
  have U:(c==11)=F:=df.2 y;have O:=ae (⟨a,y⟩:c≠13/\c≠11);clear a y;go_enter func266,ntmps266;go_wp2;go_ret;exact⟨aX.of (by rw[m.o,dQ];have:=O.o;simp;omega),ya (i.o _) (j.o _ _)⟩
def xv(kind a b:Z):Prop:=a/128%32≠0/\b/32768%32=a/128%32/\(if kind=4 then ig 23 a/\ie 103 0 b else ig 55 a/\(ie 19 0 b\/ie 3 2 b\/jf b))
theorem GA(g a b m y H u n K x v:Z)(E:eg a m y H u)(G:eg b n K x v):vV g m y u n x v↔xv g a b:=by
 obtain⟨-,-,B,C,-,-,-,-,p,-⟩:=E;obtain⟨-,-,-,-,D,r,s,t,-,e⟩:=G;unfold vV xv;rw[<- B,<- C,<- D,<- r,<- s,<- t];split
 ·constructor
  ·rintro⟨⟨f,c,h,q⟩,d,i⟩;have j:=p (.inr d);have k:=e (.inl i);rw[<- j,<- k];exact⟨f,c,⟨d,h⟩,i,q⟩
  ·rintro⟨f,c,⟨d,h⟩,i,q⟩;have j:=p (.inr d);have k:=e (.inl i);rw[<- j]at f c;rw[<- k]at c;exact⟨⟨f,c,h,q⟩,d,i⟩
 ·constructor
  ·rintro⟨⟨f,c,h,q⟩,d,i⟩;have j:=p (.inl d);have k:=e (by omega);rw[<- j,<- k];exact⟨f,c,⟨d,h⟩,by omega⟩
  ·rintro⟨f,c,⟨d,h⟩,i⟩;have j:=p (.inl d);have k:=e (by omega);rw[<- j]at f c;rw[<- k]at c;exact⟨⟨f,c,h,by omega⟩,d,by omega⟩
def ey(kind:Z)(xs:L Z):Prop :=
 if kind=1 then xs.getD 0 0=0 else if kind=2 then iE (xs.getD 0 0)else if kind=3 then iA (xs.getD 0 0)else if kind=4\/kind=5 then xv kind (xs.getD 0 0) (xs.getD 1 0)else if kind=6 then zS xs else False
theorem R6(a:Z)(w:av):
  Calls prog 248 #[I J a,ak N 0 0] w λe l=>e=aH (aJ F)/\l=w:=by
 go_enter func248,ntmps248;go_wp2;go_ret;exact⟨R,R⟩
theorem R5(j:Z)(z:aR aY)(cap:Nat)(c:L Z)(w:av)(X:eH w)(h:yq w z c)(Y:jm c)(hn:ah c<=3)(hn1:1<=ah c)(hk:1<=j/\j<=6)(h2:j=4\/j=5->ah c=2):
  Calls prog 248 #[I J j,ak z (ah c) cap] w λe l=>aX e (ey j c)/\az w l N:=by
 obtain⟨g,x,rfl,V⟩:=h (by omega);have s:=Y 0 (by omega);have G:c.getD 0 0=c[0]:=by rw[bQ,bW (by omega)];rfl
 have K:=V 0 (by omega);have M:=ae (KU c[0] w X s.1 s.2);have cN:=ae (λW (d:yq W (S ⟨g,x,N⟩) c)=>abZ (S ⟨g,x,N⟩) cap c W d (by omega));have HI:=ae h;simp only[Nat.add_zero]at K;rcases (show j=1\/j=2\/j=3\/j=6\/j=4\/j=5 from by omega)with rfl|rfl|rfl|rfl|rfl|rfl
 ·have D:=ae (show ey 1 c↔c[0]=0 from by simp only[ey,if_true];rw[G]);generalize ey 1 c=Q at *;clear h2 hk h V Y X HI;go_enter func248,ntmps248;go_wp2_with fail;refine M.o.mono ?_;rintro e d ⟨⟨i,n,p,r,m,rfl,y⟩,f⟩;have C:=yd K f;unfold cQ;have q:=ae f;clear f K y;have k:=ae (λc:Obj=>aG d c N);have q2:=λc:Obj=>yd C (aG d c N)
  go_wp2;go_ret;exact⟨aX.of (by rw[D.o,dQ]),ya q.o (k.o _)⟩
 ·have D:=ae (show ey 2 c↔iE c[0]from by unfold ey;rw[ax (by decide),aD R,G]);generalize ey 2 c=Q at *;clear h2 hk h V Y X HI;go_enter func248,ntmps248;go_wp2_with fail;refine M.o.mono ?_;rintro e d ⟨⟨i,n,p,r,m,rfl,y⟩,f⟩;have C:=yd K f;unfold cQ;have q:=ae f;have E:=ae (oW c[0] i n p m s.1 s.2 y);clear f K y;have k:=ae (λc:Obj=>aG d c N);by_cases f:5<=i
  ·have u:decide (5<=i)=T:=by simpa using f
   by_cases y:i<=10
   ·have H:decide (i<=10)=T:=by simpa using y
    go_wp2;go_ret;exact⟨aX.of (by rw[D.o,<- E.o.1,dQ];exact⟨λh=>⟨f,y,h⟩,λh=>h.2.2⟩),ya q.o (k.o _)⟩
   ·have H:decide (i<=10)=F:=by simp;omega
    go_wp2;go_ret;exact⟨aX.no (by rw[D.o,<- E.o.1];omega),ya q.o (k.o _)⟩
  ·have u:decide (5<=i)=F:=by simp;omega
   go_wp2;go_ret;exact⟨aX.no (by rw[D.o,<- E.o.1];omega),ya q.o (k.o _)⟩
 ·have D:=ae (show ey 3 c↔iA c[0]from by unfold ey;rw[ax (by decide),ax (by decide),aD R,G]);generalize ey 3 c=Q at *;clear h2 hk h V Y X HI;go_enter func248,ntmps248;go_wp2_with fail;refine M.o.mono ?_;rintro e d ⟨⟨i,n,p,r,m,rfl,y⟩,f⟩;have C:=yd K f;unfold cQ;have q:=ae f;have E:=ae (oW c[0] i n p m s.1 s.2 y);clear f K y;have k:=ae (λc:Obj=>aG d c N);by_cases f:i=3
  ·subst f;go_wp2;go_ret;exact⟨aX.of (by rw[D.o,<- E.o.2.1,dQ];simp),ya q.o (k.o _)⟩
  ·have u:(i==3)=F:=df.2 f;have O:=ae f;clear f;go_wp2;go_ret;exact⟨aX.no (by rw[D.o,<- E.o.2.1];have:=O.o;omega),ya q.o (k.o _)⟩
 ·have D:=ae (show ey 6 c↔zS c from by unfold ey;rw[ax (by decide),ax (by decide),ax (by decide),ax (by decide),aD R]);generalize ey 6 c=Q at *;clear h2 hk h V Y X;go_enter func248,ntmps248;go_wp2_with fail;refine M.o.mono ?_;rintro e d ⟨⟨i,n,p,r,m,rfl,y⟩,f⟩;have C:=yd K f;unfold cQ;have q:=ae f;have E:=ae (oW c[0] i n p m s.1 s.2 y);clear f K y;have k:=ae (λc:Obj=>aG d c N);go_wp2_with fail;refine(cN.o _ ((HI.o.kept (λa v c=>yd c q.o)).kept (λa v c=>yd c (k.o _)))).mono ?_;rintro e f ⟨t,rfl⟩
  obtain⟨b,rfl,hb⟩:=t;have kS:=ae hb;clear hb;go_wp2;go_ret;exact⟨aX.of (by rw[D.o];exact kS.o),ya q.o (k.o _)⟩
 ·have d:=h2 (by omega);have q:1<ah c:=by omega
  have u:=Y 1 q;have H:c.getD 1 0=c[1]'q:=by rw[bQ,bW q];rfl
  have D:=ae (show ey 4 c↔xv 4 c[0] c[1]from by unfold ey;rw[ax (by decide),ax (by decide),ax (by decide),aD (by decide),G,H]);have C:=V 1 q;have yB:=ae (λW (d:eH W)=>KU c[1] W d u.1 u.2);have HT:=ae X;generalize ey 4 c=Q at *;have dl:((ah c:Z)==2)=T:=by rw[dQ];omega
  have hl3:2<=ah c:=by omega
  have g1:(1:Z)<(ah c:Z):=by omega
  have g2:(0:Z)<(ah c:Z):=by omega
  clear h2 hk h V Y X HI cN d;go_enter func248,ntmps248;go_wp2_with fail;refine M.o.mono ?_;rintro e d ⟨⟨i,n,p,r,m,rfl,y⟩,f⟩;unfold cQ;have B:=aA.new d #[I J i,I J n,I J p,I J r,I J m] 189;have k:=aG d (.cells #[I J i,I J n,I J p,I J r,I J m] 189) N;have c0:Hd ((d.alloc (.cells #[I J i,I J n,I J p,I J r,I J m] 189)).drew.cell? ⟨d.heap.size,0,N⟩=S (I J i)):=B.cell 0;have c1:Hd ((d.alloc (.cells #[I J i,I J n,I J p,I J r,I J m] 189)).drew.cell? ⟨d.heap.size,1,N⟩=S (I J n)):=B.cell 1
  have c2:Hd ((d.alloc (.cells #[I J i,I J n,I J p,I J r,I J m] 189)).drew.cell? ⟨d.heap.size,2,N⟩=S (I J p)):=B.cell 2;have c3:Hd ((d.alloc (.cells #[I J i,I J n,I J p,I J r,I J m] 189)).drew.cell? ⟨d.heap.size,3,N⟩=S (I J r)):=B.cell 3;have c4:Hd ((d.alloc (.cells #[I J i,I J n,I J p,I J r,I J m] 189)).drew.cell? ⟨d.heap.size,4,N⟩=S (I J m)):=B.cell 4;have c5:Hd ((d.alloc (.cells #[I J i,I J n,I J p,I J r,I J m] 189)).drew.cell? ⟨g,x+1,N⟩=S (I J c[1])):=yd (yd C f) (yf k)
  have hgl:g<d.heap.size:=ow d _ (yd C f);have hnew:=tH d ⟨g,x+1,N⟩ (yd C f);have q2:=yd C f;have GG:=ae (ya f (yf k));have E:=ae (oW c[0] i n p m s.1 s.2 y);clear f K C y B k M;go_wp2
  go_region_held3 (λl=>aq l ⟨d.heap.size,0,N⟩=S (I J i)/\aq l ⟨d.heap.size,1,N⟩=S (I J n)/\aq l ⟨d.heap.size,2,N⟩=S (I J p)/\aq l ⟨d.heap.size,3,N⟩=S (I J r)/\aq l ⟨d.heap.size,4,N⟩=S (I J m)/\aq l ⟨g,x+1,N⟩=S (I J c[1]))
   (go_keep)
   (first|(go_at_call 107;refine(yB.o _ (HT.o.grown GG.o)).mono ?_;rintro e l ⟨⟨y,rR,s2,t2,m2,rfl,C⟩,f⟩;have s0:=yd c0.o f;have P:=yd c1.o f;have U:=yd c2.o f;have s3:=yd c3.o f;have s4:=yd c4.o f;have s5:=yd c5.o f)|(go_at_call 266;refine(QY 4 i n p r m y rR s2 t2 m2 _).mono ?_;rintro e w'' ⟨⟨b,rfl,hb⟩,k⟩;have z0:=yd s0 k;have z1:=yd P k;have z2:=yd U k;have z3:=yd s3 k;have z4:=yd s4 k;have z5:=yd s5 k))
  have kS:=ae hb;have D2:=ae (oW c[1] y rR s2 m2 u.1 u.2 C);have GF:=ae (ya (ya GG.o f) k);clear hb C f k s0 P U s3 s4 s5 z0 z1 z2 z3 z4 z5;go_wp2;go_ret;exact⟨aX.of (by rw[D.o,<- GA 4 c[0] c[1] i n p m y rR s2 m2 E.o D2.o];exact kS.o),GF.o⟩
 ·have d:=h2 (by omega);have q:1<ah c:=by omega
  have u:=Y 1 q;have H:c.getD 1 0=c[1]'q:=by rw[bQ,bW q];rfl
  have D:=ae (show ey 5 c↔xv 5 c[0] c[1]from by unfold ey;rw[ax (by decide),ax (by decide),ax (by decide),aD (by decide),G,H]);have C:=V 1 q;have yB:=ae (λW (d:eH W)=>KU c[1] W d u.1 u.2);have HT:=ae X;generalize ey 5 c=Q at *;have dl:((ah c:Z)==2)=T:=by rw[dQ];omega
  have hl3:2<=ah c:=by omega
  have g1:(1:Z)<(ah c:Z):=by omega
  have g2:(0:Z)<(ah c:Z):=by omega
  clear h2 hk h V Y X HI cN d;go_enter func248,ntmps248;go_wp2_with fail;refine M.o.mono ?_;rintro e d ⟨⟨i,n,p,r,m,rfl,y⟩,f⟩;unfold cQ;have B:=aA.new d #[I J i,I J n,I J p,I J r,I J m] 189;have k:=aG d (.cells #[I J i,I J n,I J p,I J r,I J m] 189) N;have c0:Hd ((d.alloc (.cells #[I J i,I J n,I J p,I J r,I J m] 189)).drew.cell? ⟨d.heap.size,0,N⟩=S (I J i)):=B.cell 0;have c1:Hd ((d.alloc (.cells #[I J i,I J n,I J p,I J r,I J m] 189)).drew.cell? ⟨d.heap.size,1,N⟩=S (I J n)):=B.cell 1
  have c2:Hd ((d.alloc (.cells #[I J i,I J n,I J p,I J r,I J m] 189)).drew.cell? ⟨d.heap.size,2,N⟩=S (I J p)):=B.cell 2;have c3:Hd ((d.alloc (.cells #[I J i,I J n,I J p,I J r,I J m] 189)).drew.cell? ⟨d.heap.size,3,N⟩=S (I J r)):=B.cell 3;have c4:Hd ((d.alloc (.cells #[I J i,I J n,I J p,I J r,I J m] 189)).drew.cell? ⟨d.heap.size,4,N⟩=S (I J m)):=B.cell 4;have c5:Hd ((d.alloc (.cells #[I J i,I J n,I J p,I J r,I J m] 189)).drew.cell? ⟨g,x+1,N⟩=S (I J c[1])):=yd (yd C f) (yf k)
  have hgl:g<d.heap.size:=ow d _ (yd C f);have hnew:=tH d ⟨g,x+1,N⟩ (yd C f);have q2:=yd C f;have GG:=ae (ya f (yf k));have E:=ae (oW c[0] i n p m s.1 s.2 y);clear f K C y B k M;go_wp2
  go_region_held3 (λl=>aq l ⟨d.heap.size,0,N⟩=S (I J i)/\aq l ⟨d.heap.size,1,N⟩=S (I J n)/\aq l ⟨d.heap.size,2,N⟩=S (I J p)/\aq l ⟨d.heap.size,3,N⟩=S (I J r)/\aq l ⟨d.heap.size,4,N⟩=S (I J m)/\aq l ⟨g,x+1,N⟩=S (I J c[1]))
   (go_keep)
   (first|(go_at_call 107;refine(yB.o _ (HT.o.grown GG.o)).mono ?_;rintro e l ⟨⟨y,rR,s2,t2,m2,rfl,C⟩,f⟩;have s0:=yd c0.o f;have P:=yd c1.o f;have U:=yd c2.o f;have s3:=yd c3.o f;have s4:=yd c4.o f;have s5:=yd c5.o f)|(go_at_call 266;refine(QY 5 i n p r m y rR s2 t2 m2 _).mono ?_;rintro e w'' ⟨⟨b,rfl,hb⟩,k⟩;have z0:=yd s0 k;have z1:=yd P k;have z2:=yd U k;have z3:=yd s3 k;have z4:=yd s4 k;have z5:=yd s5 k))
  have kS:=ae hb;have D2:=ae (oW c[1] y rR s2 m2 u.1 u.2 C);have GF:=ae (ya (ya GG.o f) k);clear hb C f k s0 P U s3 s4 s5 z0 z1 z2 z3 z4 z5;go_wp2;go_ret;exact⟨aX.of (by rw[D.o,<- GA 5 c[0] c[1] i n p m y rR s2 m2 E.o D2.o];exact kS.o),GF.o⟩
def vS(o:aF)(r:cg):Prop:=r.kind=6->r.bh+4<=lX (o.align.getD (r.au.toNat-1) 0)
def pq(o:aF)(r:cg):Prop:=lz r/\fX r/\pu o r/\vS o r/\pY o r/\ey r.kind (about o r)/\¬vK o r
theorem Dj{r:cg}(d:fX r)(a:pY o r)(g:jm (yp o r.au)):(about o r).length=(yy r).toNat/\jm (about o r)/\(about o r).length<=3/\1<=(about o r).length:=by
 have n:=yW d;obtain⟨h,j,k⟩:=a;have f:(about o r).length=(yy r).toNat:=by unfold about;simp;omega
 refine⟨f,?_,by omega,by omega⟩;intro i m;have c:(r.off/4).toNat+i<(yp o r.au).length:=by omega
 have e:(about o r)[i]=(yp o r.au)[(r.off/4).toNat+i]:=by
  simp only[about,yH,List.getElem_drop]
 rw[e];exact g _ c
theorem KQ(h:rh o)(a:Z):jm (yp o a):=by
 unfold yp;split
 ·exact h.1
 split
 ·exact h.2.1
 split
 ·exact h.2.2
 ·intro i c;simp at c
theorem Kx{e:Ending}{P:Prop}(h:aX e P)(c:P):e=aH (aJ T):=by
 rcases h.split with ⟨_,q⟩|⟨a,_⟩
 ·exact absurd c q.o
 ·exact a
theorem SY{e:Ending}{P:Prop}(h:aX e P)(c:¬P):e=aH (aJ F):=by
 rcases h.split with ⟨a,_⟩|⟨_,q⟩
 ·exact a
 ·exact absurd q.o c
theorem aac(g:Nat)(o:aF)(r:cg)(w:av)(ht:eH w)(h:yr w g o)(hn:mD o)(hb4:pj o.align)(hw:rh o)(hr:r.off<=9223372036854775807):
  Calls prog 211 #[aM (some ⟨g,0,N⟩),eU r] w λe l=>aX e (pq o r)/\az w l N:=by
 have T:Hd (∀W,(¬pq o r)->az w W N->aX (aH (aJ F)) (pq o r)/\az w W N):=λW a b=>⟨aX.no a,b⟩
 have HO:=ae h;have HT:=ae ht;have V:=ae hn;have yD:=ae hb4;have HW:=ae hw;clear h ht hn hb4 hw;have B:=aA.new w #[I J r.au,I J r.off,I J r.kind,I J r.sym,I J r.bh] 75;have c:=aG w (.cells #[I J r.au,I J r.off,I J r.kind,I J r.sym,I J r.bh] 75) N;have Vy:=ae B;have VB:=ae c;clear B c;have Qc:=ae (λW=>aaL r W);have cA:=ae (λW=>aam r W);have cS:=ae (λW (p:yr W g o)=>abV g o r W p V.o);have c:eU r = .agg #[I J r.au,I J r.off,I J r.kind,I J r.sym,I J r.bh]:=R
 rw[c];rw[c]at Qc cA cS;clear c;go_enter func211,ntmps211;go_wp2_with fail;refine Calls.fK (λW=>aA W w.heap.size #[I J r.au,I J r.off,I J r.kind,I J r.sym,I J r.bh] 75/\az w W N) ⟨Vy.o,VB.o⟩ ?_;rintro W1 ⟨d,f⟩;refine(Qc.o W1).mono ?_;rintro e W2 ⟨t,q⟩;have c:=d.grown q (by simp);have G2:=ae (ya f q);rcases t.split with ⟨rfl,p1⟩|⟨rfl,p1⟩<;>clear t q d f
 ·clear c;go_wp2;go_ret;exact T.o _ (λh=>p1.o h.1) G2.o
 have c0:=c.cell 0;have c1:=c.cell 1;have c2:=c.cell 2;have c3:=c.cell 3;have c4:=c.cell 4;have HB2:=ae c;clear c;go_wp2_with fail;refine(cA.o W2).mono ?_;rintro e W3 ⟨t,q⟩;have c:=HB2.o.grown q (by simp);have G3:=ae (ya G2.o q);clear c0 c1 c2 c3 c4;rcases t.split with ⟨rfl,E⟩|⟨rfl,E⟩<;>clear t q
 ·clear c;go_wp2;go_ret;exact T.o _ (λh=>E.o h.2.1) G3.o
 have c0:=c.cell 0;have c1:=c.cell 1;have c2:=c.cell 2;have c3:=c.cell 3;have c4:=c.cell 4;have HB3:=ae c;clear c;go_wp2_with fail;refine(cS.o W3 (HO.o.kept G3.o)).mono ?_;rintro e G ⟨t,q⟩;have c:=HB3.o.grown q (by simp);have G4:=ae (ya G3.o q);clear c0 c1 c2 c3 c4;rcases t.split with ⟨rfl,p3⟩|⟨rfl,p3⟩<;>clear t q
 ·clear c;go_wp2;go_ret;exact T.o _ (λh=>p3.o h.2.2.1) G4.o
 have c0:=c.cell 0;have c1:=c.cell 1;have c2:=c.cell 2;have c3:=c.cell 3;have c4:=c.cell 4;have NS:=ae c;clear c;have D:=p1.o;unfold lz at D;by_cases U:r.kind=6
 ·have hs:1<=r.au/\r.au<=2:=by omega
  have ha:=E.o.six U;obtain⟨sn,c⟩:∃sn:Nat,r.au=(sn:Int):=⟨r.au.toNat,by omega⟩
  have d:=yD.o.1;have qI:=ae (λW (p:yr W g o)=>show Calls prog 117 #[aM (some ⟨g,0,N⟩),I J r.au] W λe l=>e=aH (I J (lX (o.align.getD (r.au.toNat-1) 0)))/\l=W from by
   have:=Ro g o sn W p yD.o (by omega) (by omega)
   rw[c,Int.toNat_natCast,bQ,bW (by omega)];exact this)
  have BB:=ae (show vS o r↔r.bh+4<=lX (o.align.getD (r.au.toNat-1) 0)from ⟨λh=>h U,λh _=>h⟩);generalize lX (o.align.getD (r.au.toNat-1) 0)=bd at *;have d6:(r.kind==6)=true:=dQ.2 U;have hw4:J.wrap (r.bh+4)=r.bh+4:=IntWalk.i64_in _ ⟨by omega,by omega⟩;have tL:=ae U;clear U D c d;by_cases hbd:bd<r.bh+4
  ·have db:decide (bd<r.bh+4)=true:=by simpa using hbd
   go_wp2
   go_quiet ((go_at_call 117;exact Calls.quiet_of_same (qI.o _ ((HO.o.kept G4.o).drewN _))))
   go_wp2;go_ret;exact T.o _ (λh=>by have:=BB.o.1 h.2.2.2.1;omega) (ye G4.o _)
  ·have db:decide (bd<r.bh+4)=F:=by simp;omega
   have JO:=ae (show vS o r from BB.o.2 (by omega));go_wp2
   go_quiet ((go_at_call 117;exact Calls.quiet_of_same (qI.o _ ((HO.o.kept G4.o).drewN _))))
   go_wp2;have c:=NS.o.drewN nq;have nP:=ae (ye G4.o nq);have s:Hd ((G.drewN nq).drew.cell? ⟨w.heap.size,0,N⟩=some (I J r.au)):=c.cell 0;have u:Hd ((G.drewN nq).drew.cell? ⟨w.heap.size,1,N⟩=some (I J r.off)):=c.cell 1;have x:Hd ((G.drewN nq).drew.cell? ⟨w.heap.size,2,N⟩=some (I J r.kind)):=c.cell 2;have y:Hd ((G.drewN nq).drew.cell? ⟨w.heap.size,3,N⟩=some (I J r.sym)):=c.cell 3;have C:Hd ((G.drewN nq).drew.cell? ⟨w.heap.size,4,N⟩=some (I J r.bh)):=c.cell 4;have Q:Hd (yr (G.drewN nq).drew g o):=yr.drew (HO.o.kept nP.o);have CJ:Hd (eH (G.drewN nq).drew):=HT.o.grown (yf nP.o)
   have uv:=ae (yf nP.o);clear c;have hcr:=ae (show 1<=r.kind/\r.kind<=6 from by have:=p1.o;unfold lz at this;omega);by_cases f:pY o r
   ·have d:=Dj E.o f (KQ HW.o r.au);have c:0<=r.off/\r.off<=1048576:=by
     obtain⟨j,k,m⟩:=f;have y1:=sd V.o r.au;have y2:=yW E.o;omega
    have H:=ae (λW (p:yr W g o)=>KG g o r W p V.o E.o f);have X:=ae (λW z k (p:eH W) (O:yq W z (about o r))=>show Calls prog 248 #[I J r.kind,ak z (yy r).toNat k] W λe l=>aX e (ey r.kind (about o r))/\az W l N from by
     rw[<- d.1];exact R5 r.kind z k (about o r) W p O d.2.1 d.2.2.1 d.2.2.2 hcr.o (λh=>by rw[d.1];unfold yy;rw[aD h];rfl))
    have Dd:=ae (λW (p:yr W g o)=>QI g o r W p V.o E.o c.1 c.2);have Z:=ae f;unfold eU at H Dd;clear f d c;generalize (yy r).toNat=sp at *;by_cases M:ey r.kind (about o r)
    ·have P:=ae M;clear M
     go_region_held3 (λl=>aq l ⟨w.heap.size,0,N⟩=some (I J r.au)/\aq l ⟨w.heap.size,1,N⟩=some (I J r.off)/\aq l ⟨w.heap.size,2,N⟩=some (I J r.kind)/\aq l ⟨w.heap.size,3,N⟩=some (I J r.sym)/\aq l ⟨w.heap.size,4,N⟩=some (I J r.bh))
      (go_keep)
      (first|(go_at_call 194;refine(H.o _ Q.o).mono ?_;rintro e w5 ⟨z,k,rfl,O,c⟩;have s0:=yd s.o c;have s1:=yd u.o c;have s2:=yd x.o c;have s3:=yd y.o c;have s4:=yd C.o c)|(go_at_call 248;refine(X.o _ z k (CJ.o.grown c) O).mono ?_;rintro e w6 ⟨Y,d⟩;obtain rfl:=Kx Y P.o;have z0:=yd s0 d;have z1:=yd s1 d;have z2:=yd s2 d;have z3:=yd s3 d;have z4:=yd s4 d)|(go_at_call 249;refine(Dd.o _ ((Q.o.kept c).kept d)).mono ?_;rintro e w7 ⟨⟨b,rfl,hb⟩,j⟩;have y0:=yd z0 j;have y1:=yd z1 j;have y2:=yd z2 j;have y3:=yd z3 j;have y4:=yd z4 j))
     have GF:=ae (ya (ya (ya uv.o c) d) j);have kS:=ae hb;clear hb c d j s0 s1 s2 s3 s4 z0 z1 z2 z3 z4 y0 y1 y2 y3 y4 O Y;go_wp2;go_ret;refine⟨aX.of ?_,GF.o⟩;have m:=kS.o;constructor
     ·intro h;refine⟨p1.o,E.o,p3.o,JO.o,Z.o,P.o,λn=>?_⟩;rw[m.2 n]at h;simp at h
     ·intro h
      cases b
      ·rfl
      ·exact absurd (m.1 rfl) h.2.2.2.2.2.2
    ·have P:=ae M;clear M;refine qu (S:=(λl=>aq l ⟨w.heap.size,0,N⟩=some (I J r.au)/\aq l ⟨w.heap.size,1,N⟩=some (I J r.off)/\aq l ⟨w.heap.size,2,N⟩=some (I J r.kind)/\aq l ⟨w.heap.size,3,N⟩=some (I J r.sym)/\aq l ⟨w.heap.size,4,N⟩=some (I J r.bh))) (by kernel_rfl) ⟨s.o,u.o,x.o,y.o,C.o⟩ ?_;intro n;refine dw (i:=0) (v:=?_) R ?_ n ?_
     rotate_left
     ·intro l _;go_simp;with_reducible rfl
     refine dw (i:=1) (v:=?_) R ?_ n ?_
     rotate_left
     ·intro l c;obtain⟨d,j,k,m,O⟩:=c;go_simp;with_reducible rfl
     refine dw (i:=2) (v:=?_) R ?_ n ?_
     rotate_left
     ·intro l _;go_simp;with_reducible rfl
     refine dw (i:=3) (v:=?_) R ?_ n ?_
     rotate_left
     ·intro l c;obtain⟨d,j,k,m,O⟩:=c;go_simp;with_reducible rfl
     refine ee (rs:=[4]) (by kernel_rfl) (by simp) ?_;refine dX R (λK m=>?_) eN;go_simp;go_wp2_with (go_at_call 194;refine(H.o _ Q.o).mono ?_;rintro e w5 ⟨z,k,rfl,O,c⟩)
     refine m.out _ _ ⟨yd s.o c,yd u.o c,yd x.o c,yd y.o c,yd C.o c⟩ (λhS2=>?_);clear m K;refine ee (rs:=[5]) (by kernel_rfl) (by simp) ?_;refine dX R (λK m=>?_) eN;go_simp;go_wp2_with (go_at_call 248;refine(X.o _ z k (CJ.o.grown c) O).mono ?_;rintro e w6 ⟨Y,d⟩;obtain rfl:=SY Y P.o)
     refine m.out _ _ ⟨yd (yd s.o c) d,yd (yd u.o c) d,yd (yd x.o c) d,yd (yd y.o c) d,yd (yd C.o c) d⟩ (λj=>?_);clear m K;refine dw (i:=6) (v:=?_) R ?_ j ?_
     rotate_left
     ·intro l _;go_simp;with_reducible rfl
     refine ly (i:=7) R j ?_;refine ly (i:=8) R j ?_;refine ly (i:=9) R j ?_;refine ly (i:=10) R j ?_;refine kt (i:=11) (v:=aJ F) R (by kernel_rfl) (by kernel_rfl) (by kernel_rfl) (λ_ _ _ h=>h) (Or.inl ⟨by kernel_rfl,λ_ _=>by kernel_rfl⟩) j ?_;refine kt (i:=12) (v:=aJ F) R (by kernel_rfl) (by kernel_rfl) (by kernel_rfl) (λ_ _ _ h=>h) (Or.inl ⟨by kernel_rfl,λ_ _=>by kernel_rfl⟩) j ?_;refine ox (by kernel_rfl) ?_ _;simp only[ql,nQ,lH,nj,dt,dB,dC]
     go_wp2;go_ret;exact T.o _ (λh=>P.o h.2.2.2.2.2.1) (ya (ya uv.o c) d)
   ·have H:=ae (λW (p:yr W g o)=>QO g o r W p V.o E.o f hr);have X:=ae (λW=>R6 r.kind W);have Z:=ae f;unfold eU at H;clear f;refine qu (S:=(λl=>aq l ⟨w.heap.size,0,N⟩=some (I J r.au)/\aq l ⟨w.heap.size,1,N⟩=some (I J r.off)/\aq l ⟨w.heap.size,2,N⟩=some (I J r.kind)/\aq l ⟨w.heap.size,3,N⟩=some (I J r.sym)/\aq l ⟨w.heap.size,4,N⟩=some (I J r.bh))) (by kernel_rfl) ⟨s.o,u.o,x.o,y.o,C.o⟩ ?_;intro n;refine dw (i:=0) (v:=?_) R ?_ n ?_
    rotate_left
    ·intro l _;go_simp;with_reducible rfl
    refine dw (i:=1) (v:=?_) R ?_ n ?_
    rotate_left
    ·intro l c;obtain⟨d,j,k,m,O⟩:=c;go_simp;with_reducible rfl
    refine dw (i:=2) (v:=?_) R ?_ n ?_
    rotate_left
    ·intro l _;go_simp;with_reducible rfl
    refine dw (i:=3) (v:=?_) R ?_ n ?_
    rotate_left
    ·intro l c;obtain⟨d,j,k,m,O⟩:=c;go_simp;with_reducible rfl
    refine ee (rs:=[4]) (by kernel_rfl) (by simp) ?_;refine dX R (λK m=>?_) eN;go_simp;go_wp2_with (go_at_call 194;refine(H.o _ Q.o).mono ?_;rintro e w5 ⟨rfl,c⟩)
    refine m.out _ _ ⟨yd s.o c,yd u.o c,yd x.o c,yd y.o c,yd C.o c⟩ (λhS2=>?_);clear m K;refine ee (rs:=[5]) (by kernel_rfl) (by simp) ?_;refine dX R (λK m=>?_) eN;go_simp;go_wp2_with (go_at_call 248;refine(X.o _).mono ?_;rintro e w6 ⟨rfl,d⟩)
    subst d;refine m.out _ _ ⟨yd s.o c,yd u.o c,yd x.o c,yd y.o c,yd C.o c⟩ (λj=>?_);clear m K;refine dw (i:=6) (v:=?_) R ?_ j ?_
    rotate_left
    ·intro l _;go_simp;with_reducible rfl
    refine ly (i:=7) R j ?_;refine ly (i:=8) R j ?_;refine ly (i:=9) R j ?_;refine ly (i:=10) R j ?_;refine kt (i:=11) (v:=aJ F) R (by kernel_rfl) (by kernel_rfl) (by kernel_rfl) (λ_ _ _ h=>h) (Or.inl ⟨by kernel_rfl,λ_ _=>by kernel_rfl⟩) j ?_;refine kt (i:=12) (v:=aJ F) R (by kernel_rfl) (by kernel_rfl) (by kernel_rfl) (λ_ _ _ h=>h) (Or.inl ⟨by kernel_rfl,λ_ _=>by kernel_rfl⟩) j ?_;refine ox (by kernel_rfl) ?_ _;simp only[ql,nQ,lH,nj,dt,dB,dC]
    go_wp2;go_ret;exact T.o _ (λh=>Z.o h.2.2.2.2.1) (ya uv.o c)
 ·have JO:=ae (show vS o r from λh=>absurd h U);have d6:(r.kind==6)=F:=df.2 U;have tL:=ae U;clear U D;go_wp2
  go_quiet (fail)
  go_wp2;have c:=NS.o.drewN nq;have nP:=ae (ye G4.o nq);have s:Hd ((G.drewN nq).drew.cell? ⟨w.heap.size,0,N⟩=some (I J r.au)):=c.cell 0;have u:Hd ((G.drewN nq).drew.cell? ⟨w.heap.size,1,N⟩=some (I J r.off)):=c.cell 1;have x:Hd ((G.drewN nq).drew.cell? ⟨w.heap.size,2,N⟩=some (I J r.kind)):=c.cell 2;have y:Hd ((G.drewN nq).drew.cell? ⟨w.heap.size,3,N⟩=some (I J r.sym)):=c.cell 3;have C:Hd ((G.drewN nq).drew.cell? ⟨w.heap.size,4,N⟩=some (I J r.bh)):=c.cell 4;have Q:Hd (yr (G.drewN nq).drew g o):=yr.drew (HO.o.kept nP.o);have CJ:Hd (eH (G.drewN nq).drew):=HT.o.grown (yf nP.o)
  have uv:=ae (yf nP.o);clear c;have hcr:=ae (show 1<=r.kind/\r.kind<=6 from by have:=p1.o;unfold lz at this;omega);by_cases f:pY o r
  ·have d:=Dj E.o f (KQ HW.o r.au);have c:0<=r.off/\r.off<=1048576:=by
    obtain⟨j,k,m⟩:=f;have y1:=sd V.o r.au;have y2:=yW E.o;omega
   have H:=ae (λW (p:yr W g o)=>KG g o r W p V.o E.o f);have X:=ae (λW z k (p:eH W) (O:yq W z (about o r))=>show Calls prog 248 #[I J r.kind,ak z (yy r).toNat k] W λe l=>aX e (ey r.kind (about o r))/\az W l N from by
    rw[<- d.1];exact R5 r.kind z k (about o r) W p O d.2.1 d.2.2.1 d.2.2.2 hcr.o (λh=>by rw[d.1];unfold yy;rw[aD h];rfl))
   have Dd:=ae (λW (p:yr W g o)=>QI g o r W p V.o E.o c.1 c.2);have Z:=ae f;unfold eU at H Dd;clear f d c;generalize (yy r).toNat=sp at *;by_cases M:ey r.kind (about o r)
   ·have P:=ae M;clear M
    go_region_held3 (λl=>aq l ⟨w.heap.size,0,N⟩=some (I J r.au)/\aq l ⟨w.heap.size,1,N⟩=some (I J r.off)/\aq l ⟨w.heap.size,2,N⟩=some (I J r.kind)/\aq l ⟨w.heap.size,3,N⟩=some (I J r.sym)/\aq l ⟨w.heap.size,4,N⟩=some (I J r.bh))
     (go_keep)
     (first|(go_at_call 194;refine(H.o _ Q.o).mono ?_;rintro e w5 ⟨z,k,rfl,O,c⟩;have s0:=yd s.o c;have s1:=yd u.o c;have s2:=yd x.o c;have s3:=yd y.o c;have s4:=yd C.o c)|(go_at_call 248;refine(X.o _ z k (CJ.o.grown c) O).mono ?_;rintro e w6 ⟨Y,d⟩;obtain rfl:=Kx Y P.o;have z0:=yd s0 d;have z1:=yd s1 d;have z2:=yd s2 d;have z3:=yd s3 d;have z4:=yd s4 d)|(go_at_call 249;refine(Dd.o _ ((Q.o.kept c).kept d)).mono ?_;rintro e w7 ⟨⟨b,rfl,hb⟩,j⟩;have y0:=yd z0 j;have y1:=yd z1 j;have y2:=yd z2 j;have y3:=yd z3 j;have y4:=yd z4 j))
    have GF:=ae (ya (ya (ya uv.o c) d) j);have kS:=ae hb;clear hb c d j s0 s1 s2 s3 s4 z0 z1 z2 z3 z4 y0 y1 y2 y3 y4 O Y;go_wp2;go_ret;refine⟨aX.of ?_,GF.o⟩;have m:=kS.o;constructor
    ·intro h;refine⟨p1.o,E.o,p3.o,JO.o,Z.o,P.o,λn=>?_⟩;rw[m.2 n]at h;simp at h
    ·intro h
     cases b
     ·rfl
     ·exact absurd (m.1 rfl) h.2.2.2.2.2.2
   ·have P:=ae M;clear M;refine qu (S:=(λl=>aq l ⟨w.heap.size,0,N⟩=some (I J r.au)/\aq l ⟨w.heap.size,1,N⟩=some (I J r.off)/\aq l ⟨w.heap.size,2,N⟩=some (I J r.kind)/\aq l ⟨w.heap.size,3,N⟩=some (I J r.sym)/\aq l ⟨w.heap.size,4,N⟩=some (I J r.bh))) (by kernel_rfl) ⟨s.o,u.o,x.o,y.o,C.o⟩ ?_;intro n;refine dw (i:=0) (v:=?_) R ?_ n ?_
    rotate_left
    ·intro l _;go_simp;with_reducible rfl
    refine dw (i:=1) (v:=?_) R ?_ n ?_
    rotate_left
    ·intro l c;obtain⟨d,j,k,m,O⟩:=c;go_simp;with_reducible rfl
    refine dw (i:=2) (v:=?_) R ?_ n ?_
    rotate_left
    ·intro l _;go_simp;with_reducible rfl
    refine dw (i:=3) (v:=?_) R ?_ n ?_
    rotate_left
    ·intro l c;obtain⟨d,j,k,m,O⟩:=c;go_simp;with_reducible rfl
    refine ee (rs:=[4]) (by kernel_rfl) (by simp) ?_;refine dX R (λK m=>?_) eN;go_simp;go_wp2_with (go_at_call 194;refine(H.o _ Q.o).mono ?_;rintro e w5 ⟨z,k,rfl,O,c⟩)
    refine m.out _ _ ⟨yd s.o c,yd u.o c,yd x.o c,yd y.o c,yd C.o c⟩ (λhS2=>?_);clear m K;refine ee (rs:=[5]) (by kernel_rfl) (by simp) ?_;refine dX R (λK m=>?_) eN;go_simp;go_wp2_with (go_at_call 248;refine(X.o _ z k (CJ.o.grown c) O).mono ?_;rintro e w6 ⟨Y,d⟩;obtain rfl:=SY Y P.o)
    refine m.out _ _ ⟨yd (yd s.o c) d,yd (yd u.o c) d,yd (yd x.o c) d,yd (yd y.o c) d,yd (yd C.o c) d⟩ (λj=>?_);clear m K;refine dw (i:=6) (v:=?_) R ?_ j ?_
    rotate_left
    ·intro l _;go_simp;with_reducible rfl
    refine ly (i:=7) R j ?_;refine ly (i:=8) R j ?_;refine ly (i:=9) R j ?_;refine ly (i:=10) R j ?_;refine kt (i:=11) (v:=aJ F) R (by kernel_rfl) (by kernel_rfl) (by kernel_rfl) (λ_ _ _ h=>h) (Or.inl ⟨by kernel_rfl,λ_ _=>by kernel_rfl⟩) j ?_;refine kt (i:=12) (v:=aJ F) R (by kernel_rfl) (by kernel_rfl) (by kernel_rfl) (λ_ _ _ h=>h) (Or.inl ⟨by kernel_rfl,λ_ _=>by kernel_rfl⟩) j ?_;refine ox (by kernel_rfl) ?_ _;simp only[ql,nQ,lH,nj,dt,dB,dC]
    go_wp2;go_ret;exact T.o _ (λh=>P.o h.2.2.2.2.2.1) (ya (ya uv.o c) d)
  ·have H:=ae (λW (p:yr W g o)=>QO g o r W p V.o E.o f hr);have X:=ae (λW=>R6 r.kind W);have Z:=ae f;unfold eU at H;clear f;refine qu (S:=(λl=>aq l ⟨w.heap.size,0,N⟩=some (I J r.au)/\aq l ⟨w.heap.size,1,N⟩=some (I J r.off)/\aq l ⟨w.heap.size,2,N⟩=some (I J r.kind)/\aq l ⟨w.heap.size,3,N⟩=some (I J r.sym)/\aq l ⟨w.heap.size,4,N⟩=some (I J r.bh))) (by kernel_rfl) ⟨s.o,u.o,x.o,y.o,C.o⟩ ?_;intro n;refine dw (i:=0) (v:=?_) R ?_ n ?_
   rotate_left
   ·intro l _;go_simp;with_reducible rfl
   refine dw (i:=1) (v:=?_) R ?_ n ?_
   rotate_left
   ·intro l c;obtain⟨d,j,k,m,O⟩:=c;go_simp;with_reducible rfl
   refine dw (i:=2) (v:=?_) R ?_ n ?_
   rotate_left
   ·intro l _;go_simp;with_reducible rfl
   refine dw (i:=3) (v:=?_) R ?_ n ?_
   rotate_left
   ·intro l c;obtain⟨d,j,k,m,O⟩:=c;go_simp;with_reducible rfl
   refine ee (rs:=[4]) (by kernel_rfl) (by simp) ?_;refine dX R (λK m=>?_) eN;go_simp;go_wp2_with (go_at_call 194;refine(H.o _ Q.o).mono ?_;rintro e w5 ⟨rfl,c⟩)
   refine m.out _ _ ⟨yd s.o c,yd u.o c,yd x.o c,yd y.o c,yd C.o c⟩ (λhS2=>?_);clear m K;refine ee (rs:=[5]) (by kernel_rfl) (by simp) ?_;refine dX R (λK m=>?_) eN;go_simp;go_wp2_with (go_at_call 248;refine(X.o _).mono ?_;rintro e w6 ⟨rfl,d⟩)
   subst d;refine m.out _ _ ⟨yd s.o c,yd u.o c,yd x.o c,yd y.o c,yd C.o c⟩ (λj=>?_);clear m K;refine dw (i:=6) (v:=?_) R ?_ j ?_
   rotate_left
   ·intro l _;go_simp;with_reducible rfl
   refine ly (i:=7) R j ?_;refine ly (i:=8) R j ?_;refine ly (i:=9) R j ?_;refine ly (i:=10) R j ?_;refine kt (i:=11) (v:=aJ F) R (by kernel_rfl) (by kernel_rfl) (by kernel_rfl) (λ_ _ _ h=>h) (Or.inl ⟨by kernel_rfl,λ_ _=>by kernel_rfl⟩) j ?_;refine kt (i:=12) (v:=aJ F) R (by kernel_rfl) (by kernel_rfl) (by kernel_rfl) (λ_ _ _ h=>h) (Or.inl ⟨by kernel_rfl,λ_ _=>by kernel_rfl⟩) j ?_;refine ox (by kernel_rfl) ?_ _;simp only[ql,nQ,lH,nj,dt,dB,dC]
   go_wp2;go_ret;exact T.o _ (λh=>Z.o h.2.2.2.2.1) (ya uv.o c)
def pi(w:av)(z:aR aY)(ys:L cg):Prop :=
 0<ah ys->∃g,z=S ⟨g,0,N⟩/\g<w.heap.size/\∀i (h:i<ah ys),aq w ⟨g,i*5,N⟩=S (I J ys[i].au)/\aq w ⟨g,i*5+1,N⟩=S (I J ys[i].off) /\
  aq w ⟨g,i*5+2,N⟩=S (I J ys[i].kind)/\aq w ⟨g,i*5+3,N⟩=S (I J ys[i].sym)/\aq w ⟨g,i*5+4,N⟩=S (I J ys[i].bh)
theorem pi.dh{base:M}{n cap:M}{ys:L cg}(h:aV w base 75 5 (ak z n cap) n (ys.flatMap jc)):pi w z ys:=by
 intro f;have r:(ys.flatMap jc).length=ah ys*5:=by
  clear h f
  induction ys with
  |nil=>rfl
  |cons y t a=>rw[List.flatMap_cons,bX,a];simp[jc];omega
 have s:ah ys=n:=by have:=h.1;omega
 have a:=h.lt;rcases h.2 with ⟨k,p⟩|⟨g,c,e,d,_⟩
 ·simp at k;omega
 ·simp only[Value.slice.injEq]at d;obtain⟨rfl,_,rfl⟩:=d;refine⟨g,R,(a g R).2,λi m=>?_⟩;have q:=λj (a:j<5)=>(h.cellAt (i*5+j) (by omega)).trans (yR jc 5 (λ_=>rfl) ys i j m a)
  exact⟨q 0 (by omega),q 1 (by omega),q 2 (by omega),q 3 (by omega),q 4 (by omega)⟩
theorem pi.grown{ys:L cg}(h:pi w z ys)(f:az w l N):pi l z ys:=by
 intro j;obtain⟨g,k,m,n⟩:=h j;refine⟨g,k,oc m f.size,λi p=>?_⟩;obtain⟨a,b,c,d,e⟩:=n i p;exact⟨yd a f,yd b f,yd c f,yd d f,yd e f⟩
def xk(o:aF):Prop:=∀i (h:i<ah o.ay),pq o o.ay[i]/\(∀_:0<i,nI (o.ay[i-1]'(by omega)) o.ay[i])
theorem aan(g:M)(o:aF)(w:av)(ht:eH w)(h:yr w g o)(V:mD o)(y:pj o.align)(hw:rh o)(hr:∀r∈o.ay,r.off<=9223372036854775807):
  Calls prog 188 #[aM (S ⟨g,0,N⟩)] w λe l=>aX e (xk o)/\az w l N:=by
 obtain⟨at_,ct,af,cf,ad,cd,aa,ca,gP,cs,ar,cr,s,d,f,m,n,p,c⟩:=h.open;have k6:=s.cell 6;have a:=ae (pi.dh c);have hns:=V.2.2.2.2.2;have HB:=ae s;have HO:=ae h;have Y:=ae V;have HT:=ae ht;have yD:=ae y;have HW:=ae hw;have HR:=ae hr;clear h V s d f m n p c ht y hw hr;go_enter func188,ntmps188;go_wp2
 go_loopw [10] (λi wr=>∃k:M,k<=ah o.ay/\i=I J k/\(∀i (h:i<ah o.ay),i<k->pq o o.ay[i]/\(∀_:0<i,nI (o.ay[i-1]'(by omega)) o.ay[i]))/\az w wr N) (λi _=>ah o.ay-(aN i).toNat)
 case atStart=>exact⟨0,bG _,R,λj _ H=>absurd H (ji j),aW _ _⟩
 case round=>
  obtain⟨k,hk,rfl,c,d⟩:=hrel;have P:=ae c;have x:=ae d;clear c d;by_cases p:k<ah o.ay
  ·obtain⟨m,Q,hgs,c⟩:=a.o.grown x.o (by omega);subst Q;obtain⟨q0,q1,q2,q3,q4⟩:=c k p;have HC:=ae c;clear c;have cV:=ae (λW (a:eH W) (c:yr W g o)=>aac g o o.ay[k] W a c Y.o yD.o HW.o (HR.o _ (bN p)));unfold eU at cV;have B1:=ae (aA.new wr #[I J o.ay[k].au,I J o.ay[k].off,I J o.ay[k].kind,I J o.ay[k].sym,I J o.ay[k].bh] 75);have G:=ae (aG wr (.cells #[I J o.ay[k].au,I J o.ay[k].off,I J o.ay[k].kind,I J o.ay[k].sym,I J o.ay[k].bh] 75) N);go_wp2_with fail;refine(cV.o _ (HT.o.grown (ya x.o G.o)) (HO.o.kept (ya x.o G.o))).mono ?_
   rintro e n ⟨t,q⟩;have E:=ae (ya (ya x.o G.o) q);have u:=ae (B1.o.grown q (by simp));have v:=ae (ya G.o q);rcases t.split with ⟨rfl,O⟩|⟨rfl,O⟩<;>clear t q
   ·go_wp2;go_ret;exact⟨aX.no (λh=>O.o (h k p).1),E.o⟩
   by_cases C:k=0
   ·subst C;have d0:decide ((0:Z)<0)=false:=by simp
    go_wp2
    go_quiet (fail)
    go_wp2
    go_roundw
    case rel=>exact⟨1,by omega,R,λj H B=>by
     have:j=0:=by omega
     subst this;exact⟨O.o,λh=>by omega⟩,ye E.o _⟩
    case measure=>simp[aN];omega
   ·have hk1:1<=k:=by omega
    have c:k-1<ah o.ay:=by omega
    have B:=(P.o (k-1) c (by omega)).1;have d:0<=(o.ay[k-1]'c).off/\(o.ay[k-1]'c).off<=1048576:=by
     obtain⟨f,s,D⟩:=B.2.2.2.2.1;have H:=sd Y.o (o.ay[k-1]'c).au;have K:=yW B.2.1;omega
    have cF:=ae (λW=>abo (o.ay[k-1]'c) o.ay[k] W B.2.1 d.1 d.2);have U:=HC.o (k-1) c;generalize s:o.ay[k-1]'c=f at *;have F:=ae s;clear s;obtain⟨s,K,X,r3,r4⟩:=U;unfold eU at cF;have m6:=(HB.o.grown E.o (by simp)).cell 6;have n0:=yd s v.o;have n1:=yd K v.o;have n2:=yd X v.o;have n3:=yd r3 v.o;have n4:=yd r4 v.o;have H:=u.o.cell 0;have L:=u.o.cell 1;have T:=u.o.cell 2;have c3:=u.o.cell 3;have c4:=u.o.cell 4;have WS:Hd (aq n.drew ⟨g,6,N⟩=S (ak (S ⟨m,0,N⟩) (ah o.ay) cr)):=m6;have N0:Hd (aq n.drew ⟨m,(k-1)*5,N⟩=S (I J f.au)):=n0
    have N1:Hd (aq n.drew ⟨m,(k-1)*5+1,N⟩=S (I J f.off)):=n1;have N2:Hd (aq n.drew ⟨m,(k-1)*5+2,N⟩=S (I J f.kind)):=n2;have N3:Hd (aq n.drew ⟨m,(k-1)*5+3,N⟩=S (I J f.sym)):=n3;have N4:Hd (aq n.drew ⟨m,(k-1)*5+4,N⟩=S (I J f.bh)):=n4;have C0:Hd (aq n.drew ⟨wr.heap.size,0,N⟩=S (I J o.ay[k].au)):=H;have C1:Hd (aq n.drew ⟨wr.heap.size,1,N⟩=S (I J o.ay[k].off)):=L;have C2:Hd (aq n.drew ⟨wr.heap.size,2,N⟩=S (I J o.ay[k].kind)):=T;have C3:Hd (aq n.drew ⟨wr.heap.size,3,N⟩=S (I J o.ay[k].sym)):=c3
    have C4:Hd (aq n.drew ⟨wr.heap.size,4,N⟩=S (I J o.ay[k].bh)):=c4;have D:0<k:=by omega
    have aiI:decide (0<k)=true:=by simpa using D
    have d0:decide ((0:Z)<(k:Z))=true:=by simp;omega
    have g1:(1:Z)<=(k:Z):=by omega
    have g2:(k:Z)-1<(ah o.ay:Z):=by omega
    have g3:(0:Z)<=(k:Z)-1:=by omega
    have hwk:J.wrap ((k:Z)-1)=(k:Z)-1:=IntWalk.i64_in _ ⟨by omega,by omega⟩;have HP:=ae B;clear B d q0 q1 q2 q3 q4 s K X r3 r4 C;go_wp2
    go_region_held3 (λl=>aq l ⟨g,6,N⟩=S (ak (S ⟨m,0,N⟩) (ah o.ay) cr)/\aq l ⟨wr.heap.size,0,N⟩=S (I J o.ay[k].au)/\aq l ⟨wr.heap.size,1,N⟩=S (I J o.ay[k].off)/\aq l ⟨wr.heap.size,2,N⟩=S (I J o.ay[k].kind)/\aq l ⟨wr.heap.size,3,N⟩=S (I J o.ay[k].sym)/\aq l ⟨wr.heap.size,4,N⟩=S (I J o.ay[k].bh)/\aq l ⟨m,(k-1)*5,N⟩=S (I J f.au)/\aq l ⟨m,(k-1)*5+1,N⟩=S (I J f.off)/\aq l ⟨m,(k-1)*5+2,N⟩=S (I J f.kind)/\aq l ⟨m,(k-1)*5+3,N⟩=S (I J f.sym)/\aq l ⟨m,(k-1)*5+4,N⟩=S (I J f.bh))
     (go_keep)
     (first|(go_at_call 212;refine(cF.o _).mono ?_;rintro e w5 ⟨⟨b,rfl,s⟩,d⟩;have s6:=yd WS.o d;have s0:=yd C0.o d;have s1:=yd C1.o d;have s2:=yd C2.o d;have s3:=yd C3.o d;have s4:=yd C4.o d;have t0:=yd N0.o d;have t1:=yd N1.o d;have t2:=yd N2.o d;have t3:=yd N3.o d;have t4:=yd N4.o d))
    have K:=ae s;have X:=ae (ya (yf E.o) d);clear s d s6 s0 s1 s2 s3 s4 t0 t1 t2 t3 t4 H L T c3 c4 n0 n1 n2 n3 n4 m6
    cases b
    ·have B:=ae (show ¬nI f o.ay[k]from λh=>by have:=K.o.2 h;simp at this);clear K;go_wp2;go_ret;exact⟨aX.no (λh=>B.o (F.o ▸ (h k p).2 D)),X.o⟩
    ·have L:=ae (show nI f o.ay[k]from K.o.1 rfl);clear K;go_wp2
     go_roundw
     case rel=>exact⟨k+1,by omega,by go_num,λj H B=>(jY.1 B).elim (λh=>P.o j H h) (λh=>by subst h;exact⟨O.o,λ_=>by rw[F.o];exact L.o⟩),X.o⟩
     case measure=>simp[aN];omega
  ·go_wp2;go_ret;exact⟨aX.iV λi a=>P.o i a (by omega),x.o⟩
def yl(o:aF):Prop:=uB o/\pj o.align/\rh o/\xl o/\xk o
def He(o:aF):Prop:=mD o/\(∀y∈o.aE,ah y.name<=255)/\∀r∈o.ay,r.off<=9223372036854775807
theorem Sg(g:M)(o:aF)(w:av)(r:eH w)(h:yr w g o)(a:He o):
  Calls prog 151 #[aM (S ⟨g,0,N⟩)] w λe l=>aX e (yl o)/\az w l N:=by
 obtain⟨x,Q,E,K,D,H,v,y,U,P,G,O,i,m,p,q,f,s,B⟩:=h.open;have V:=i.cell 4;have d:=ae (aad g o w h a.1);have j:=ae (ZR v y o.align w (yq.dh f) a.1.2.2.2.1);have k:=ae (aaf g o w h a.1);have n:=ae h;have u:=ae r;have c:=ae a;clear h r a i m p q f s B;go_enter func151,ntmps151;go_wp2_with fail;refine d.o.mono ?_;rintro e W ⟨t,rfl⟩;rcases t.split with ⟨rfl,f⟩|⟨rfl,f⟩<;>clear t d
 ·go_wp2;go_ret;exact⟨aX.no (λh=>f.o h.1),aW _ _⟩
 go_wp2_with fail;refine j.o.mono ?_;rintro e X ⟨t,rfl⟩;rcases t.split with ⟨rfl,i⟩|⟨rfl,i⟩<;>clear t j
 ·go_wp2;go_ret;exact⟨aX.no (λh=>i.o h.2.1),aW _ _⟩
 go_wp2_with fail;refine k.o.mono ?_;rintro e B ⟨t,rfl⟩;rcases t.split with ⟨rfl,j⟩|⟨rfl,j⟩<;>clear t k
 ·go_wp2;go_ret;exact⟨aX.no (λh=>j.o h.2.2.1),aW _ _⟩
 have m:=ae (ZS g o B n.o c.o.1 f.o.2.1 c.o.2.1);go_wp2_with fail;refine m.o.mono ?_;rintro e C ⟨t,p⟩;have d:=ae p;rcases t.split with ⟨rfl,k⟩|⟨rfl,k⟩<;>clear t m p
 ·go_wp2;go_ret;exact⟨aX.no (λh=>k.o h.2.2.2.1),d.o⟩
 have q:=ae (aan g o C (u.o.grown d.o) (n.o.kept d.o) c.o.1 i.o j.o c.o.2.2);go_wp2_with fail;refine q.o.mono ?_;rintro e Y ⟨t,s⟩;have p:=ae (ya d.o s);rcases t.split with ⟨rfl,m⟩|⟨rfl,m⟩<;>clear t q s
 ·go_wp2;go_ret;exact⟨aX.no (λh=>m.o h.2.2.2.2),p.o⟩
 go_wp2;go_ret;exact⟨aX.iV ⟨f.o,i.o,j.o,k.o,m.o⟩,p.o⟩
theorem tz{a c:av}(h:az w a N)(k:az a c (S b))(d:w.heap.size<=b):az w c N :=
 ⟨k.os.trans h.os,k.tape.trans h.tape,k.output.trans h.output,fV h.size k.size,λi d _=>
  (k.block i (oc d h.size) (by simp;omega)).trans (h.block i d (by simp))⟩
theorem De(h:As o):He o:=by
 obtain⟨j,k,m,n,p,q,s,t,e,a,c,d,i⟩:=h;refine⟨⟨by omega,by omega,by omega,by omega,by omega,by omega⟩,λy g=>?_,λr f=>?_⟩
 ·have:=(e y g).1;omega
 ·have:=(a r f).2.2.1.2;omega
def afX(w:av)(s:ByteArray)(e:Ending)(l:av):Prop :=
 (∃o g,rC (sl s)=S o/\yl o/\e=aH (.tuple #[aM (S ⟨g,0,N⟩),I J 0])/\yr l g o/\w.heap.size<=g) \/
 ((∀o,rC (sl s)=S o->¬yl o)/\e=aH (.tuple #[aM N,I J 20]))
theorem Lj(s:ByteArray)(w:av)(P:eH w)(O:s.size<=1048576):
  Calls prog 109 #[aB s] w λe l=>afX w s e l/\az w l N:=by
 have U:=ae P;clear P;go_enter func109,ntmps109;go_wp2_with fail;refine(KP s w).mono ?_;rintro e i ⟨rfl,c⟩;have a:cZ (i.alloc (.cells #[aB s,I J 0,aJ F] 99)) i.heap.size s 0 F:=rm i _;have G:=ae a;have C:=ae c;have D:=ae (aG i (.cells #[aB s,I J 0,aJ F] 99) N);have x:=ae c.size;clear a c;by_cases j:(bZ (sl s) 2 (0,F)).1=[76,75]
 ·have d:=ae (Z4 i.heap.size s 0 F _ G.o O (bG _) j);have a:=ae (show rC (sl s)=if (pJ (sl s) (bZ (sl s) 2 (0,F)).2).2=((sl s).length,F)then S (pJ (sl s) (bZ (sl s) 2 (0,F)).2).1 else N from by unfold rC;rw[aD j]);generalize pJ (sl s) (bZ (sl s) 2 (0,F)).2=X at *;obtain⟨o,y,n⟩:=X;simp only at d a;clear j;go_wp2_with fail;refine d.o.mono ?_;rintro e v ⟨g,rfl,m,k,f,c⟩;have H:=ae k;have Q:=ae f;have u:=ae c;have V:=ae m;clear k f c m d;have c:=ae (Lo i.heap.size s y n v Q.o);go_wp2_with fail
  refine c.o.mono ?_;rintro e L ⟨rfl,m,rfl⟩;have r:=ae (ye (tz (ya C.o D.o) u.o x.o) m);clear c;have d:=iD s;by_cases k:n=F/\y=s.size
  ·obtain⟨rfl,rfl⟩:=k;have f:rC (sl s)=S o:=by rw[a.o,aD (by rw[d])]
   have p:=ae f;have c:=((Fb (sl s) o).1 f).1;have K:=ae (Sg g o (v.drewN m) (U.o.grown r.o) (H.o.drewN m) (De c));have Y:(!F&&decide (s.size=s.size))=T:=by simp
   clear f c d a;go_wp2_with fail;refine K.o.mono ?_;rintro e M ⟨t,q⟩;have E:=ae (ya r.o q);have W:=ae ((H.o.drewN m).kept q);rcases t.split with ⟨rfl,B⟩|⟨rfl,B⟩<;>clear t q K
   ·go_wp2;go_ret2;exact⟨.inr ⟨λK c=>by have f:=p.o.symm.trans c;simp only[Option.some.injEq]at f;subst f;exact B.o,R⟩,E.o⟩
   ·go_wp2;go_ret2;refine⟨.inl ⟨o,g,p.o,B.o,R,W.o,?_⟩,E.o⟩;have f:=V.o;have c:=x.o;simp at f;omega
  ·have f:rC (sl s)=N:=by
    rw[a.o,ax];intro h;simp only[Prod.mk.injEq]at h;exact k ⟨h.2,by rw[<- d];exact h.1⟩
   have p:=ae f;have Y:(!n&&decide (y=s.size))=F:=by
    cases n
    ·simp at k ⊢;exact k
    ·rfl
   clear f a d k;go_wp2;go_ret2;exact⟨.inr ⟨λK c=>by have f:=p.o.symm.trans c;simp at f,R⟩,r.o⟩
 ·have d:=ae (aaD i.heap.size s 0 F _ G.o O (bG _) j);have a:=ae (show rC (sl s)=N from by unfold rC;rw[ax j]);clear j;go_wp2_with fail;refine d.o.mono ?_;rintro e v ⟨rfl,c⟩;have u:=ae c;clear c d;go_wp2;go_ret2;exact⟨.inr ⟨λK c=>by have f:=a.o.symm.trans c;simp at f,R⟩,tz (ya C.o D.o) u.o x.o⟩
def uh(y:dz):aC:=.agg #[aB (bs y.name),I J y.bind,I J y.au,I J y.off]
def Bi(w:av)(z:aR aY)(A:L M):Prop :=
 0<ah A->∃g off,z=S ⟨g,off,N⟩/\∀i (h:i<ah A),aq w ⟨g,off+i,N⟩=S (aM (S ⟨A[i],0,N⟩))
def Eu(w:av)(b:M)(o:aF):Prop:=∃g,aq w ⟨b,0,N⟩=S (aM (S ⟨g,0,N⟩))/\yr w g o
structure nF (w:av) (z:aR aY) (A:L M) (os:L aF):Prop where
 kD:Bi w z A
 len:A.length=os.length
 mod:∀i (h:i<A.length) (h':i<os.length),Eu w A[i] os[i]
 few:os.length<=4096
 aE:∀o∈os,o.aE.length<=65535
theorem Eu.kept(h:Eu w b o)(a:az w l N):Eu l b o:=by
 obtain⟨g,c,d⟩:=h;exact⟨g,yd c a,d.kept a⟩
theorem Bi.kept(h:Bi w z A)(d:az w l N):Bi l z A:=by
 intro f;obtain⟨g,a,e,c⟩:=h f;exact⟨g,a,e,λi a=>yd (c i a) d⟩
theorem nF.kept(h:nF w z A os)(a:az w l N):nF l z A os :=
 ⟨h.kD.kept a,h.len,λi c d=>(h.mod i c d).kept a,h.few,h.aE⟩
theorem nF.take(h:nF w z A os)(k:M):nF w z (A.take k) (os.take k):=by
 refine⟨?_,by rw[iO,iO,h.len],λi d f=>?_,?_,λo a=>h.aE o (List.mem_of_mem_take a)⟩
 ·intro n;have a:0<ah A:=by rw[iO]at n;omega
  obtain⟨g,c,e,j⟩:=h.kD a;refine⟨g,c,e,λi m=>?_⟩;rw[iO]at m;rw[yH];exact j i (by omega)
 ·rw[iO]at d f;rw[yH,yH];exact h.mod i (by omega) (by omega)
 ·have:=h.few;rw[iO];omega
def iT(A:L M)(m:aR M):aR aY:=m.bind λi=>A[i]?.map λb=>⟨b,0,N⟩
def jC(A:L M)(s:gL):aC:=.agg #[.pointer (iT A s.mod),I J s.au,I J s.off]
theorem qe{a b:bc}(h:a=b):aH (aJ a)=aH (aJ b):=by rw[h]
theorem Se(y:dz)(w:av):Calls prog 114 #[uh y] w λe l=>e=aH (aJ (jh y))/\az w l N:=by
 unfold uh;by_cases a:y.bind=1
 ·have d:(y.bind==1)=T:=by simpa using a
  by_cases c:y.au=0
  ·have R:=ae (show jh y=T by unfold jh;rw[kB a,kB c];rfl);have f:(y.au==0)=T:=by simpa using c
   clear a c;go_enter func114,ntmps114;go_wp2;go_ret;exact⟨qe R.o.symm,aG _ _ _⟩
  ·have R:=ae (show jh y=F by unfold jh;rw[gF c];simp);have f:(y.au==0)=F:=by simpa using c
   clear a c;go_enter func114,ntmps114;go_wp2;go_ret;exact⟨qe R.o.symm,aG _ _ _⟩
 ·have R:=ae (show jh y=F by unfold jh;rw[gF a];simp);have d:(y.bind==1)=F:=by simpa using a
  clear a;go_enter func114,ntmps114;go_wp2;go_ret;exact⟨qe R.o.symm,aG _ _ _⟩
theorem Q8(y:dz)(w:av):Calls prog 189 #[uh y] w λe l=>e=aH (aJ (gK y))/\az w l N:=by
 obtain⟨n,b,s,o⟩:=y;unfold uh;dsimp only;by_cases a:b=0
 ·subst a;have R:=ae (show gK ⟨n,0,s,o⟩=F from rfl);go_enter func189,ntmps189;go_wp2;go_ret;exact⟨qe R.o.symm,aG _ _ _⟩
 ·by_cases c:s=0
  ·subst c;have R:=ae (show gK ⟨n,b,0,o⟩=F by unfold gK;simp);go_enter func189,ntmps189;go_wp2;go_ret;exact⟨qe R.o.symm,aG _ _ _⟩
  ·have R:=ae (show gK ⟨n,b,s,o⟩=T by unfold gK;rw[gF a,gF c];rfl);go_enter func189,ntmps189;go_wp2;go_ret;exact⟨qe ((show (b != 0&&s != 0)=T by simp[a,c]).trans R.o.symm),aG _ _ _⟩
def su(n:L aL)(y:dz):bc:=decide (y.name=n)&&(decide (0<y.bind)&&decide (0<y.au))
def mF(o:aF)(n:L aL):bc:=o.aE.any (su n)
def pC(n:L aL)(b:Z)(y:dz):bc:=decide (y.name=n)&&(decide (y.bind=b)&&decide (0<y.au))
def nh(n:L aL)(b:Z)(i:M):M->L dz->L (M×M)
 |_,[]=>[]
 |k,y::ys=>if pC n b y then (i,k)::nh n b i (k+1) ys else nh n b i (k+1) ys
def mG(n:L aL)(b:Z):M->L aF->L (M×M)
 |_,[]=>[]
 |i,o::os=>nh n b i 0 o.aE++mG n b (i+1) os
def jG(os:L aF)(n:L aL)(b:Z):L (M×M):=mG n b 0 os
theorem UZ(n:L aL)(b:Z)(i k:M)(ys:L dz)(h:k<ah ys):nh n b i k (ys.drop k)=if pC n b ys[k]then (i,k)::nh n b i (k+1) (ys.drop (k+1))else nh n b i (k+1) (ys.drop (k+1)):=by
 rw[fv h,nh]
theorem UY(n:L aL)(b:Z)(i:M)(os:L aF)(h:i<ah os):mG n b i (os.drop i)=nh n b i 0 os[i].aE++mG n b (i+1) (os.drop (i+1)):=by
 rw[fv h,mG]
theorem UC(n:L aL)(b:Z)(i:M):∀(ys:L dz) (k:M),(nh n b i k ys).length<=ah ys:=by
 intro ys
 induction ys with
 |nil=>intro k;exact bz _
 |cons y ys a=>
  intro k
  have:=a (k+1)
  rw[nh];split<;>simp only[dA]<;>omega
theorem MO(n:L aL)(b:Z):∀(os:L aF) (i:M),(∀o∈os,ah o.aE<=16)->(mG n b i os).length<=16*ah os:=by
 intro os
 induction os with
 |nil=>intro i _;exact bz _
 |cons o os a=>
  intro i h;have c:=a (i+1) λx a=>h x (List.mem_cons_of_mem _ a)
  have d:=UC n b i o.aE 0;have e:=h o List.mem_cons_self;rw[mG,bX,dA];omega
structure oq (w:av) (z:aR aY) (gl:L M) (os:L aF):Prop where
 kD:Bi w z gl
 len:gl.length=os.length
 obj:∀i (h:i<gl.length) (h':i<os.length),yr w gl[i] os[i]
 few:os.length<=48
 val:∀o∈os,yl o
theorem oq.kept{a:L M}(h:oq w z a os)(c:az w l N):oq l z a os :=
 ⟨h.kD.kept c,h.len,λi a d=>(h.obj i a d).kept c,h.few,h.val⟩
theorem yl.sX(h:yl o):ah o.aE<=16:=h.1.2.2.1
theorem yl.Mk(h:yl o):ah o.ay<=32:=h.1.2.2.2
theorem Sk(g:Nat)(o:aF)(k:L aL)(w:av)(v:yr w g o)(P:ah o.aE<=65535):
  Calls prog 53 #[aM (some ⟨g,0,N⟩),aB (bs k)] w λe l=>e=aH (aJ (mF o k))/\az w l N:=by
 obtain⟨D,ct,W,J,V,I,U,Y,gP,cs,X,M,d,-,-,-,-,f,-⟩:=v.open;have S:=ae (gH.dh f);have B:=ae d;have C:=ae (show mF o k=o.aE.any (su k)from R);clear v d f;generalize mF o k=d at *;generalize o.aE=m at *;go_enter func53,ntmps53;go_wp2
 go_loopw [5] (λi wr=>∃j:Nat,j<=ah m/\i = .int .i64 j/\d=(m.drop j).any (su k)/\az w wr N) (λi _=>ah m-(aN i).toNat)
 case atStart=>exact⟨0,bG _,R,C.o,aW _ _⟩
 case round=>
  obtain⟨j,hj,rfl,n,p⟩:=hrel;have x:=ae n;have f:=ae p;clear n p;have Q:=(B.o.grown f.o (by simp)).cell 5;simp only[bI,bB,bL]at Q;by_cases p:j<ah m
  ·obtain⟨sg,t,O,n⟩:=S.o.grown f.o (by omega);subst t;obtain⟨q0,q1,q2,q3⟩:=n j p;clear n;have g2:(j:Z)<(ah m:Z):=by omega
   have u:=ae (show d=(su k m[j] ||(m.drop (j+1)).any (su k)) by rw[x.o,fv p,List.any_cons]);generalize m[j]=y at *;have q:=ae (λ(h:¬(y.name=k/\0<y.bind/\0<y.au))=>show d=(m.drop (j+1)).any (su k) by
    rw[u.o,show su k y=F by unfold su;simpa using λa b=>zZ λc=>h ⟨a,b,by omega⟩];rfl)
   by_cases n:y.name=k
   ·have G:((bs y.name).toList==(bs k).toList)=T:=by rw[n];simp
    by_cases r:0<y.bind
    ·have H:decide (0<y.bind)=T:=by simpa using r
     by_cases s:0<y.au
     ·have K:decide (0<y.au)=T:=by simpa using s
      have E:=ae (show d=T by rw[u.o,show su k y=T by unfold su;simp[n,r,s]];rfl);clear n r s q;go_wp2;go_ret;exact⟨qe E.o.symm,f.o⟩
     ·have K:decide (0<y.au)=F:=by simpa using s
      have E:=ae (q.o λh=>s h.2.2);clear n r s q;go_wp2
      go_roundw
      case rel=>exact⟨j+1,by omega,by go_num,E.o,f.o⟩
      case measure=>simp[aN];omega
    ·have H:decide (0<y.bind)=F:=by simpa using r
     have E:=ae (q.o λh=>r h.2.1);clear n r q;go_wp2
     go_roundw
     case rel=>exact⟨j+1,by omega,by go_num,E.o,f.o⟩
     case measure=>simp[aN];omega
   ·have G:((bs y.name).toList==(bs k).toList)=F:=by rw[ik,ik];simpa using n
    have E:=ae (q.o λh=>n h.1);clear n q;go_wp2
    go_roundw
    case rel=>exact⟨j+1,by omega,by go_num,E.o,f.o⟩
    case measure=>simp[aN];omega
  ·obtain rfl:j=ah m:=by omega
   have E:=ae (show d=F by rw[x.o,jJ];rfl);have n:decide ((ah m:Z)<(ah m:Z))=F:=by simp
   go_wp2;go_ret;exact⟨qe E.o.symm,f.o⟩
theorem Tryz.L8:(Tryz.prog.info? 77).map (λi=>(i.zero,i.size,i.bytes))=S (S (.agg #[I J 0,I J 0]),2,16):=by kernel_rfl
def mP(p:M×M):L aC:=[I J p.1,I J p.2]
theorem vQ(W:av)(a:Array aC)(t:TypeId):∀j u,a.toList[j]?=S u->(W.alloc (.cells a t)).cell? ((⟨W.heap.size,0,N⟩:aY).add j)=S u :=
 World.news_of_block (rm W (.cells a t))
theorem Gw(z:aR aY)(cap:M)(s:L M)(os:L aF)(g:L aL)(f:Z)(w:av)(h:oq w z s os):
  Calls prog 54 #[ak z (ah s) cap,aB (bs g),I J f] w λe l=>∃v,e=aH v/\aV l w.heap.size 77 2 v (jG os g f).length ((jG os g f).flatMap mP)/\az w l N:=by
 obtain⟨i2,hi2,hx0,hx1,hx2⟩:=info_parts Tryz.L8;have H:=ae h;have HL:=ae h.len;have hgl:ah s<=48:=by rw[h.len];exact h.few
 have yt:=ae (show jG os g f=mG g f 0 (os.drop 0)from R);have hG:(jG os g f).length<=768:=by
  have:=MO g f os 0 λo d=>(h.val o d).sX
  have:=h.few
  unfold jG;omega
 clear h;generalize jG os g f=P at *;go_enter func54,ntmps54;go_wp2
 go_loopw [7,8] (λv i wr=>∃(k:M) (q:L (M×M)),k<=ah s/\i=I J k/\P=q++mG g f k (os.drop k)/\aV wr w.heap.size 77 2 v (ah q) (q.flatMap mP)/\az w wr N) (λ_ i _=>ah s-(aN i).toNat)
 case atStart=>exact⟨0,[],bG _,R,yt.o,World.ownsRow_nil _ _ _ _,aW _ _⟩
 case round=>
  obtain⟨k,q,hk,rfl,n,d,m⟩:=hrel;have HF:=ae n;have HG:=ae m;have CQ:=ae d;obtain⟨aa,ca,rfl⟩:=yi d;clear n m d;by_cases O:k<ah s
  ·have K:k<ah os:=by rw[<- HL.o];exact O
   obtain⟨g0,off,hao,n⟩:=H.o.kD (by omega);subst hao;have xZ:=ae (n k O);obtain⟨at_,ct,af,cf,ad,cd,Db,C6,gP,cs,ar,cr,m,-,-,-,-,p,-⟩:=(H.o.obj k O K).open;have d:=ae (gH.dh p);have HB:=ae m;have hns:=(H.o.val os[k] (bN K)).sX;have ks:=ae (UY g f k os K);clear n m p;generalize os[k].aE=r at *;generalize s[k]=bk at *;have g1:(k:Z)<(ah s:Z):=by omega
   go_wp2
   go_loopw [7,9] (λv i wr=>∃(j:M) (m:L (M×M)),j<=ah r/\i=I J j/\P=m++(nh g f k j (r.drop j)++mG g f (k+1) (os.drop (k+1)))/\aV wr w.heap.size 77 2 v (ah m) (m.flatMap mP)/\az w wr N) (λ_ i _=>ah r-(aN i).toNat)
   case atStart=>exact⟨0,q,bG _,R,by rw[HF.o,ks.o];rfl,CQ.o,HG.o⟩
   case round=>
    obtain⟨j,m,hj,rfl,t,n,x⟩:=hrel;have W:=ae t;have p:=ae x;have NI:=ae n;obtain⟨ab,cb,rfl⟩:=yi n;clear t x n;have ck:=yd xZ.o p.o;have k5:=(HB.o.grown p.o (by simp)).cell 5;simp only[bI,bB,bL]at k5;by_cases C:j<ah r
    ·obtain⟨sg,hsg,hgs,n⟩:=d.o.grown p.o (by omega);subst hsg;obtain⟨q0,q1,q2,q3⟩:=n j C;clear n;have g2:(j:Z)<(ah r:Z):=by omega
     have Y:=ae (UZ g f k j r C);generalize r[j]=y at *;have iM:=ae (aG wr (.cells #[aB (bs y.name),I J y.bind,I J y.au,I J y.off] 107) N);have D:=ae (λ(h:¬(y.name=g/\y.bind=f/\0<y.au))=>show P=m++(nh g f k (j+1) (r.drop (j+1))++mG g f (k+1) (os.drop (k+1))) by
      rw[W.o,Y.o,ax (by unfold pC;simpa using λa b=>zZ λc=>h ⟨a,b,by omega⟩)])
     have al:ah m+1<=768\/¬(y.name=g/\y.bind=f/\0<y.au):=by
      refine zZ λn=>?_
      have x:y.name=g/\y.bind=f/\0<y.au:=zZ λd=>n (.inr d)
      have t:=congrArg ah W.o;rw[Y.o,aD (by unfold pC;simp[x]),bX,bX,dA]at t;omega
     have U:=ae (NI.o.alloc (.cells #[aB (bs y.name),I J y.bind,I J y.au,I J y.off] 107));have Q:=ae (ya p.o iM.o);by_cases x:y.name=g
     ·have b1:((bs y.name).toList==(bs g).toList)=T:=by rw[x];simp
      by_cases B:y.bind=f
      ·have b2:(y.bind==f)=T:=by simpa using B
       by_cases G:0<y.au
       ·have b3:decide (0<y.au)=T:=by simpa using G
        have E:=ae (show P=(m++[(k,j)])++(nh g f k (j+1) (r.drop (j+1))++mG g f (k+1) (os.drop (k+1))) by
         rw[W.o,Y.o,aD (by unfold pC;simp[x,B,G])];simp)
        have al':ah m+1<=768:=al.resolve_right λh=>h ⟨x,B,G⟩
        have hsw:=Q.o.size;clear x B G D al;have n:=ae (aA.new wr #[aB (bs y.name),I J y.bind,I J y.au,I J y.off] 107)
        go_upto_region 9 with fail
        generalize wr.alloc (.cells #[aB (bs y.name),I J y.bind,I J y.au,I J y.off] 107)=V at *;generalize wr.heap.size=X at *;have x0:aq V ⟨X,0,N⟩=S (aB (bs y.name)):=n.o.cell 0;have x1:aq V ⟨X,1,N⟩=S (I J y.bind):=n.o.cell 1;have x2:aq V ⟨X,2,N⟩=S (I J y.au):=n.o.cell 2;clear n iM p;go_wp2_with (at_builtin;refine wpList_append_own_at _ R _ _ 116 rfl w.heap.size 77 i2 (.agg #[I J 0,I J 0]) 2 16 underlying116 hi2 hx0 hx1 hx2 R (by decide) _ _ _ R (U.o.alloc _) ⟨V.heap.size,0,N⟩ 1 1 (mP (k,j)) R R (vQ _ _ _) (by intro u n;simp[mP]at n;rcases n with rfl|rfl<;>rfl) (by unfold maxLen;omega) (by omega) (by simp;omega) ?_;intro v' w3 n t _ hat;have N3:=ae (eh (ya Q.o (aG _ _ N)) t (λb m=>(U.o.lt b m).1));have O3:=ae (show aV w3 w.heap.size 77 2 v' (m++[(k,j)]).length ((m++[(k,j)]).flatMap mP) by rw[bX,List.flatMap_append];simpa using n);obtain⟨gR,cv',rfl⟩:=yi n;clear t n hat)
        go_roundw
        case rel=>exact⟨j+1,m++[(k,j)],by omega,by go_num,E.o,O3.o,N3.o⟩
        case measure=>simp[aN];omega
       ·have b3:decide (0<y.au)=F:=by simpa using G
        have E:=ae (D.o λh=>G h.2.2);clear x B G D;go_wp2
        go_roundw
        case rel=>exact⟨j+1,m,by omega,by go_num,E.o,U.o,Q.o⟩
        case measure=>simp[aN];omega
      ·have b2:(y.bind==f)=F:=by simpa using B
       have E:=ae (D.o λh=>B h.2.1);clear x B D;go_wp2
       go_roundw
       case rel=>exact⟨j+1,m,by omega,by go_num,E.o,U.o,Q.o⟩
       case measure=>simp[aN];omega
     ·have b1:((bs y.name).toList==(bs g).toList)=F:=by rw[ik,ik];simpa using x
      have E:=ae (D.o λh=>x h.1);clear x D;go_wp2
      go_roundw
      case rel=>exact⟨j+1,m,by omega,by go_num,E.o,U.o,Q.o⟩
      case measure=>simp[aN];omega
    ·obtain rfl:j=ah r:=by omega
     have E:=ae (show P=m++mG g f (k+1) (os.drop (k+1)) by rw[W.o,jJ];rfl);have n:decide ((ah r:Z)<(ah r:Z))=F:=by simp
     go_wp2
     go_roundw
     case rel=>exact⟨k+1,m,by omega,by go_num,E.o,NI.o,p.o⟩
     case measure=>simp[aN];omega
  ·obtain rfl:k=ah s:=by omega
   have E:=ae (show P=q by rw[HF.o,HL.o,jJ];simp[mG]);have n:decide ((ah s:Z)<(ah s:Z))=F:=by simp
   go_wp2;go_ret;exact⟨_,R,by rw[E.o];exact CQ.o,HG.o⟩
