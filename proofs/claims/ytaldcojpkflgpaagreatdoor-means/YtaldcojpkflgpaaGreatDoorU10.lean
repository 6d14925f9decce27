import Derived.Test.YtaldcojpkflgpaaGreatDoorU09
set_option maxHeartbeats 16000000
set_option maxRecDepth 100000
open Go.Value renaming int->I,slice->ak,pointer->aM,bool->aJ,tuple->aZ,ownBlock->eW
open Go.IntKind renaming i64->J,wrap_i64->pD
open _root_ renaming List->L,Nat->M,Int->Z,rfl->R,Bool->bc,if_pos->aD,if_neg->ax,beq_eq_false_iff_ne->df
open Go.Ending renaming returned->aH
open Go renaming World->av,Value->aC,info_parts->fG,Addr->aY,heap_alloc_new->rm,maxLen->cu,wp_region_held_drew->qu,wpAnyH_take->kt,wpAnyH_ready->ee,wpAnyH_done->ox
open List renaming length->ah,getElem_mem->bN,getElem?_toArray->bI,getElem?_cons_succ->bB,map_map->Aq,map_append->pH,getElem_map->wb,mem_append->nR,mem_map->mh,length_map->fZ,getElem_toArray->nQ,getElem_cons_succ->lH,getElem_cons_zero->nj,setIfInBounds_toArray->dt,set_cons_succ->dB,set_cons_zero->dC,append_nil->lG,map_cons->jT,mem_map_of_mem->E8,length_cons->dA,mem_cons->nk,range->rA,mem_range->Cv,mem_of_find?_eq_some->WH,getElem_of_mem->kY,getD_eq_getElem?_getD->bQ,getElem?_eq_getElem->bW,mem_of_getElem?->pI,length_append->bX,length_singleton->xF
open Go.World renaming cell?->aq,grownBy->az,grownBy_alloc->aG,news_of_block->uF,ownsRow->aV,setCell->aK,frozen?->dx
open Option renaming none->N,some->S
open Nat renaming zero_le->bG,le_refl->bz,lt_of_lt_of_le->oc,le_trans->fV,or_lt_two_pow->kw
open Go.World.grownBy renaming refl->aW
open Bool renaming true->T,false->F
open Go.AllReadyH renaming cons->dX,nil->eN
open Option.some renaming injEq->nv
open Go.IntWalk renaming i64_in->dD
open Int renaming toNat_natCast->dy,tdiv_eq_ediv_of_nonneg->sJ
open BitVec renaming ofInt->de
namespace Go.Proofs.YtaldcojpkflgpaaGreatDoor
open Go.RowKit Go.Proofs.Tryz
variable {ms:L aI} {n:M} {t f d base A b:Z} {o:aF} {ws:L Z}
theorem ace(Wf W0:av)(P:M)(bt aj bd:Z)(vm:aC)(Q gl:L M)(ms:L aI)(st:gL)(no:Z)(W:av)(h:fC Wf W0 P bt aj bd vm Q gl ms st no W)(hn:∀m∈ms,eI (ah Q) m)(hz:∀m∈ms,m.short=[]):
  Calls prog 77 #[bO P] W λe a=>e=aH (aZ #[])/\fC Wf W0 P bt aj bd vm Q gl (fU ms) st no a:=by
 obtain⟨i0,hi,hz0,hz1,hz2⟩:=fG Tryz.QF;obtain⟨am,cm,rfl⟩:=yi h.row;have H0:=ae h;have c:aq W ⟨P,3,N⟩=some (ak am (ah Q) cm):=h.aO.cell 3;have hbl:=h.few;have LO:=ae h.gx;have HN:=ae hn;have qw:=ae hz;obtain⟨L1,a⟩:∃L1,L1=fU ms:=⟨_,R⟩
 have LL:=ae (show (ah L1)=(ah ms) by rw[a];simp[fU]);have Ws:=ae (show ∀k (h:k<ah ms) (g:k<ah L1),L1[k]={ms[k]with short:=ms[k].obj.ay.map (lg ms ms[k])} by intro k h g;subst a;simp[fU]);have qO:=ae a;clear h hn hz a;unfold bO;go_enter func77,ntmps77;go_wp2;clear c
 go_loopw [12] (λi wr=>∃k:M,k<=ah Q/\i=I J k/\fC Wf W0 P bt aj bd (ak am (ah Q) cm) Q gl (L1.take k++ms.drop k) st no wr) (λi _=>ah Q-(intOf i).toNat)
 case atStart=>exact⟨0,bG _,R,by simpa using H0.o⟩
 case round=>
  obtain⟨k,hk,rfl,a⟩:=hrel;have HP:=ae a;clear a H0;by_cases hlt:k<ah Q
  ·have hko:k<ah ms:=by rw[LO.o];exact hlt
   have hkg:k<ah gl:=by rw[HP.o.iQ];exact hlt
   have Mu:k<ah L1:=by rw[LL.o];exact hko
   obtain⟨sg,off,hsg,p⟩:=HP.o.rM.kD (by omega);have ck:=p k hlt;subst hsg;have D:(L1.take k++ms.drop k)[k]'(by rw[HP.o.gx];exact hlt)=ms[k]:=BN ms L1 k hko (by rw[LL.o];omega) (by rw[HP.o.gx];exact hlt);have HM:eF wr Q Q[k] (gl[k]'hkg) ms[k]:=by
    have:=HP.o.lv k hlt
    rwa [D]at this
   have c:=HN.o _ (bN hko);have E:=qw.o _ (bN hko);obtain⟨v1,v2,v3,v4,g,s,a,-,B,Y,q6,q7⟩:=HM;have e7:=q7 E;subst e7;obtain⟨at_,ct,af,cf,ad,cd,aa,ca,gP,cs,ar,cr,U,-,-,-,-,-,X⟩:=s.open;have V:=U.cell 6;simp only[bI,bB,bL]at V;have k0:aq wr ⟨Q[k],0,N⟩=some (aM (some ⟨gl[k]'hkg,0,N⟩)):=g.cell 0;have xJ:=ae (show nJ wr Q[k] (gl[k]'hkg) v1 v3 v4 ms[k].data ms[k].bf [] 0 (ak N 0 0) wr from ⟨aW _ _,g,World.ownsRow_nil _ _ _ _,λ_=>rfl⟩);have C:=ae (λ(l:L bc) (vs:aC) (O:av) (hm:nJ wr Q[k] (gl[k]'hkg) v1 v3 v4 ms[k].data ms[k].bf (l.map aJ) (ah l) vs O)=>show eF O Q Q[k] (gl[k]'hkg) {ms[k]with short:=l} from nJ.mod (m:=ms[k]) g s a B Y q6 hm)
   have C7:=ae (λ(l:L bc) (vs:aC) (O:av) (hm:nJ wr Q[k] (gl[k]'hkg) v1 v3 v4 ms[k].data ms[k].bf (l.map aJ) (ah l) vs O)=>show fC Wf W0 P bt aj bd (ak (some ⟨sg,off,N⟩) (ah Q) cm) Q gl ((L1.take k++ms.drop k).set k {ms[k]with short:=l}) st no O from
    HP.o.BL hlt (by rw[HP.o.gx];exact hlt) hm.gr (C.o l vs O hm) (by rw[D]))
   have H:=ae (show ∀l:L bc,((L1.take k++ms.drop k).set k {ms[k]with short:=l}).map nV=ms.map nV from λl=>by
    have w:L1.map nV=ms.map nV:=by rw[qO.o];unfold fU;rw[Aq];rfl
    rw[List.map_set,pH,List.map_take,List.map_drop,w,List.take_append_drop]
    have:nV {ms[k]with short:=l}=(ms.map nV)[k]'(by simpa using hko):=by rw[wb];rfl
    rw[this];exact List.set_getElem_self _)
   have G:=ae (show ∀l:L bc,ah l<=65535->∀x∈(L1.take k++ms.drop k).set k {ms[k]with short:=l},eI (ah Q) x from λl hl x O=>by
    rcases List.mem_or_eq_of_mem_set O with q|rfl
    ·rcases nR.1 q with q|q
     ·have a:=List.mem_of_mem_take q;rw[qO.o]at a;unfold fU at a;obtain⟨y,w,rfl⟩:=mh.1 a;exact(HN.o y w).Hh (by rw[fZ];exact(HN.o y w).ay.1)
     ·exact HN.o x (List.mem_of_mem_drop q)
    ·exact c.Hh hl)
   have cD:=ae (λ(l:L bc) (hl:ah l<=65535) (vs:aC) (O:av) (hm:nJ wr Q[k] (gl[k]'hkg) v1 v3 v4 ms[k].data ms[k].bf (l.map aJ) (ah l) vs O) (W3:av) (hg:az O W3 N) (r:cg) (hr:r∈ms[k].obj.ay)=>show Calls prog 119 #[bO Q[k],eU r] W3 (λe w=>e=aH (I J (fT ms ms[k] r))/\az W3 w N) by
    have d:=FY Q _ Q[k] (gl[k]'hkg) {ms[k]with short:=l} r W3 (((C7.o l vs O hm).Mf (G.o l hl)).kept hg) ((C.o l vs O hm).kept hg) (c.Hh hl) (c.ay.2 r hr).2.1 (c.ay.2 r hr).2.2;refine d.mono ?_;rintro e w ⟨rfl,q⟩;exact⟨congrArg (λz=>aH (I .i64 z)) (aau (H.o l) R r),q⟩)
   have zu:=ae (λ(O:av) (hg:az wr O (some Q[k]))=>show pi O ar ms[k].obj.ay from pi.dh (ec X hg (dr.aO g) (by decide)));have hrl:=c.ay.1;have FIN:=ae (show (L1.take k++ms.drop k).set k {ms[k]with short:=ms[k].obj.ay.map (lg ms ms[k])}=L1.take (k+1)++ms.drop (k+1) by rw[<- Gc ms L1 k hko Mu LL.o,Ws.o k hko Mu]);have HR:=ae (show ∀r∈ms[k].obj.ay,r∈ms[k].obj.ay from λr h=>h);have g1:(k:Z)<(ah Q:Z):=by omega
   clear p g s a B Y q6 q7 U X HP D G H C c E;generalize (gl[k]'hkg)=gk at *;generalize a:Q[k]=H at *;clear a;generalize hm:ms[k]=m at *;clear hm;go_wp2;generalize wr=jb at *;clear ck k0 V
   go_loopw [24] (λi O=>∃(j:M) (vs:aC),j<=ah m.obj.ay/\i=I J j/\nJ jb H gk v1 v3 v4 m.data m.bf (((m.obj.ay.take j).map (lg ms m)).map aJ) j vs O) (λi _=>ah m.obj.ay-(intOf i).toNat)
   case atStart=>exact⟨0,_,bG _,R,xJ.o⟩
   case round=>
    obtain⟨j,vs,hj,rfl,a⟩:=hrel;have HM:=ae a;clear a xJ;obtain⟨eR,cv,rfl⟩:=yi HM.o.row;have sK:((m.obj.ay.take j).map (lg ms m)).length=j:=by rw[fZ,List.length_take];omega
    by_cases hlt2:j<ah m.obj.ay
    ·obtain⟨sg2,Ce,hgs,c⟩:=zu.o wr HM.o.gr (by omega);subst Ce;obtain⟨g,s,a,U,B⟩:=c j hlt2;clear c;have g2:(j:Z)<(ah m.obj.ay:Z):=by omega
     have uV:=ae (show ((m.obj.ay.take (j+1)).map (lg ms m)).map aJ=(((m.obj.ay.take j).map (lg ms m)).map aJ)++[aJ (lg ms m m.obj.ay[j])] by
      rw[List.take_succ_eq_append_getElem hlt2,pH,pH];simp)
     have c:m.obj.ay[j]∈m.obj.ay:=bN hlt2;have w:=ae (aG wr (.cells #[I J m.obj.ay[j].au,I J m.obj.ay[j].off,I J m.obj.ay[j].kind,I J m.obj.ay[j].sym,I J m.obj.ay[j].bh] 75) N);have p:=ae (cD.o ((m.obj.ay.take j).map (lg ms m)) (by rw[sK];omega) _ wr (by rw[sK];exact HM.o) _ w.o m.obj.ay[j] c);have CX:=ae (show fT ms m m.obj.ay[j]=fT ms m m.obj.ay[j]from R);generalize m.obj.ay[j]=r at *;generalize C:((m.obj.ay.take j).map (lg ms m)).map aJ=sl at *;have E:=ae (HM.o.kept w.o);have G:=ae (aA.new wr #[I J r.au,I J r.off,I J r.kind,I J r.sym,I J r.bh] 75)
     clear C c;unfold bO eU at p;obtain⟨ds,c⟩:∃ds,fT ms m r=ds:=⟨_,R⟩
     rw[c]at p;clear CX;have CX:=ae c;clear c;go_wp2_with fail;refine p.o.mono ?_;rintro e D ⟨rfl,c⟩;have oX:=ae (E.o.kept c);have B6:=ae (G.o.grown c (by simp));clear c p g s a U B E G w;go_wp2;generalize wr.heap.size=a at *;have s2:aq D ⟨a,2,N⟩=some (I J r.kind):=B6.o.cell 2;have m2:aq D ⟨H,2,N⟩=some (ak eR j cv):=oX.o.aO.cell 2;by_cases e1:r.kind=4
     ·have d1:(r.kind==4)=T:=by simpa using e1
      by_cases e2:-1015808<ds
      ·have d2:decide (-1015808<ds)=T:=by simpa using e2
       by_cases e3:ds<1015808
       ·have d3:decide (ds<1015808)=T:=by simpa using e3
        have th:=ae (show aJ (lg ms m r)=aJ T by unfold lg;rw[CX.o];simp[e1,e2,e3]);clear e1 e2 e3;have g:=yf (aG D (.cells #[aJ T] 4) N);have p:=ae (B6.o.grown g (by simp));have c:=ae (oX.o.kept g);have hA:=ae c.o.row;have n2:(D.alloc (.cells #[aJ T] 4)).drew.cell? ⟨H,2,N⟩=some (ak eR j cv):=c.o.aO.cell 2;have hN:Hd (∀j u,[aJ T][j]?=some u->(D.alloc (.cells #[aJ T] 4)).drew.cell? ((⟨D.heap.size,0,N⟩:aY).add j)=some u):=uF (rm D (.cells #[aJ T] 4));have od:Hd (∀u∈[aJ T],u.oneCell'=T):=by intro u hu;simp at hu;subst hu;rfl
        have V:Hd (j+1<=cu):=by show _<=_;unfold cu;omega
        have hby:Hd ((j+1)*1<=140737488355328):=by show _<=_;omega
        have Y:Hd (jb.heap.size<=(D.alloc (.cells #[aJ T] 4)).drew.heap.size):=c.o.gr.size;have kL:Hd ((D.alloc (.cells #[aJ T] 4)).drew.cell? ⟨a,2,N⟩=some (I J r.kind)):=p.o.cell 2;have G:=ae (λ(U:aC) (C:av) (g:aV C jb.heap.size 4 1 U (j+1) (sl++[aJ T])) (hg:(D.alloc (.cells #[aJ T] 4)).drew.grownBy C (eW (ak eR j cv)))=>show nJ jb H gk v1 v3 v4 m.data m.bf (sl++[aJ T]) (j+1) U (aK C ⟨H,2,N⟩ U)/\aA C a #[I J r.au,I J r.off,I J r.kind,I J r.sym,I J r.bh] 75/\aA (aK C ⟨H,2,N⟩ U) a #[I J r.au,I J r.off,I J r.kind,I J r.sym,I J r.bh] 75/\aq C ⟨H,2,N⟩=some (ak eR j cv)/\dx C ⟨H,2,N⟩=F by
         have st:=c.o.step g hg;have s:=fh c.o.aO hg (dr.own c.o.row) (by decide);have w:=fh p.o hg (dr.own c.o.row) (by decide);exact⟨st,w,fh w (bK C H 2 U) (dr.aO s) (by decide),s.cell 2,s.free 2⟩)
        clear g p c oX B6;refine qu (S:=(λw=>aq w ⟨a,2,N⟩=some (I J r.kind))) (by kernel_rfl) s2 ?_;intro s
        iterate 4
         refine qg (v:=?_) R (by kernel_rfl) (λ_ _ _ h=>h) s ?_ ?_
         rotate_left
         ·intro w c;have E:=c;go_simp;with_reducible rfl
        refine dw (i:=5) (v:=?_) R ?_ s ?_
        rotate_left
        ·intro w c;have E:=c;go_simp;with_reducible rfl
        refine dw (i:=6) (v:=?_) R ?_ s ?_
        rotate_left
        ·intro w c;have E:=c;go_simp;with_reducible rfl
        refine dw (i:=7) (v:=?_) R ?_ s ?_
        rotate_left
        ·intro w c;have E:=c;go_simp;with_reducible rfl
        refine dw (i:=8) (v:=?_) R ?_ s ?_
        rotate_left
        ·intro w c;have E:=c;go_simp;with_reducible rfl
        refine dw (i:=9) (v:=?_) R ?_ s ?_
        rotate_left
        ·intro w c;have E:=c;go_simp;with_reducible rfl
        refine dw (i:=10) (v:=?_) R ?_ s ?_
        rotate_left
        ·intro w c;have E:=c;go_simp;with_reducible rfl
        refine kt (i:=11) (v:=aJ T) R (by kernel_rfl) (by kernel_rfl) (by kernel_rfl) (λ_ _ _ h=>h) (Or.inl ⟨by kernel_rfl,λ_ _=>by kernel_rfl⟩) s ?_;refine kt (i:=12) (v:=aJ T) R (by kernel_rfl) (by kernel_rfl) (by kernel_rfl) (λ_ _ _ h=>h) (Or.inl ⟨by kernel_rfl,λ_ _=>by kernel_rfl⟩) s ?_;refine dw (i:=13) (v:=?_) R ?_ s ?_
        rotate_left
        ·intro w c;have E:=c;go_simp;with_reducible rfl
        refine dw (i:=14) (v:=?_) R ?_ s ?_
        rotate_left
        ·intro w c;have E:=c;go_simp;with_reducible rfl
        refine kt (i:=15) (v:=aJ T) R (by kernel_rfl) (by kernel_rfl) (by kernel_rfl) (λ_ _ _ h=>h) (Or.inl ⟨by kernel_rfl,λ_ _=>by kernel_rfl⟩) s ?_;refine ee (rs:=[4,16]) (by kernel_rfl) (by simp) ?_;refine dX R (λK p=>?_) (dX R (λK p=>?_) eN);go_simp;refine p.out _ _ s (λX=>?_);clear p K;refine ee (rs:=[16]) (by kernel_rfl) (by simp) ?_
        rotate_left
        go_simp;refine p.out _ _ kL.o (λX=>?_);clear p K;refine ee (rs:=[4]) (by kernel_rfl) (by simp) ?_
        all_goals
         refine dX R (λK p=>?_) eN;go_simp;refine p.out _ _ kL.o (λnC=>?_);clear p K X nC;refine ee (rs:=[17]) (by kernel_rfl) (by simp) ?_;refine dX R (λK p=>?_) eN;rw[aD (by kernel_rfl)];refine vB _ (.tmp 35) (.tmp 47) 113 rfl jb.heap.size 4 i0 (aJ F) 1 1 underlying113 hi hz0 hz1 hz2 R (by decide) (ak eR j cv) j sl (by kernel_rfl) hA.o ⟨D.heap.size,0,N⟩ 1 1 [aJ T] (by kernel_rfl) R hN.o od.o V.o hby.o Y.o ?_;intro U C g B _ _;obtain⟨gR,cv',rfl⟩:=yi g;obtain⟨t1,t2,t3,t4,t5⟩:=G.o _ _ g B
         have T1:=ae t1;have T3:Hd ((aK C ⟨H,2,N⟩ (ak gR (j+1) cv')).cell? ⟨a,2,N⟩=some (I J r.kind)):=t3.cell 2;refine p.out _ _ (t2.cell 2) (λiS=>?_);clear p K g B t1 t2 t3;refine dw (i:=18) (v:=?_) R ?_ iS ?_
         rotate_left
         ·intro w c;have E:=c;go_simp;with_reducible rfl
         refine dw (i:=19) (v:=?_) R ?_ iS ?_
         rotate_left
         ·intro w c;have E:=c;go_simp;with_reducible rfl
         refine ee (rs:=[20]) (by kernel_rfl) (by simp) ?_;refine dX R (λK p=>?_) eN;go_simp;refine p.out _ _ T3.o (λg=>?_);clear p K;refine ox (by kernel_rfl) ?_ _
         try simp only[ql,nQ,lH,nj,dt,dB,dC]
         clear hA hN od V hby Y m2 n2 t4 t5 iS g s G kL T3;go_wp2
         go_roundw
         case rel=>exact⟨j+1,_,by omega,by go_num,by rw[uV.o,th.o];exact T1.o⟩
         case measure=>simp[intOf];omega
       ·have d3:decide (ds<1015808)=F:=by simpa using e3
        have th:=ae (show aJ (lg ms m r)=aJ F by unfold lg;rw[CX.o];simp[e3]);clear e1 e2 e3;have g:=yf (aG D (.cells #[aJ F] 4) N);have p:=ae (B6.o.grown g (by simp));have c:=ae (oX.o.kept g);have hA:=ae c.o.row;have n2:(D.alloc (.cells #[aJ F] 4)).drew.cell? ⟨H,2,N⟩=some (ak eR j cv):=c.o.aO.cell 2;have hN:Hd (∀j u,[aJ F][j]?=some u->(D.alloc (.cells #[aJ F] 4)).drew.cell? ((⟨D.heap.size,0,N⟩:aY).add j)=some u):=uF (rm D (.cells #[aJ F] 4));have od:Hd (∀u∈[aJ F],u.oneCell'=T):=by intro u hu;simp at hu;subst hu;rfl
        have V:Hd (j+1<=cu):=by show _<=_;unfold cu;omega
        have hby:Hd ((j+1)*1<=140737488355328):=by show _<=_;omega
        have Y:Hd (jb.heap.size<=(D.alloc (.cells #[aJ F] 4)).drew.heap.size):=c.o.gr.size;have kL:Hd ((D.alloc (.cells #[aJ F] 4)).drew.cell? ⟨a,2,N⟩=some (I J r.kind)):=p.o.cell 2;have G:=ae (λ(U:aC) (C:av) (g:aV C jb.heap.size 4 1 U (j+1) (sl++[aJ F])) (hg:(D.alloc (.cells #[aJ F] 4)).drew.grownBy C (eW (ak eR j cv)))=>show nJ jb H gk v1 v3 v4 m.data m.bf (sl++[aJ F]) (j+1) U (aK C ⟨H,2,N⟩ U)/\aA C a #[I J r.au,I J r.off,I J r.kind,I J r.sym,I J r.bh] 75/\aA (aK C ⟨H,2,N⟩ U) a #[I J r.au,I J r.off,I J r.kind,I J r.sym,I J r.bh] 75/\aq C ⟨H,2,N⟩=some (ak eR j cv)/\dx C ⟨H,2,N⟩=F by
         have st:=c.o.step g hg;have s:=fh c.o.aO hg (dr.own c.o.row) (by decide);have w:=fh p.o hg (dr.own c.o.row) (by decide);exact⟨st,w,fh w (bK C H 2 U) (dr.aO s) (by decide),s.cell 2,s.free 2⟩)
        clear g p c oX B6;refine qu (S:=(λw=>aq w ⟨a,2,N⟩=some (I J r.kind))) (by kernel_rfl) s2 ?_;intro s
        iterate 4
         refine qg (v:=?_) R (by kernel_rfl) (λ_ _ _ h=>h) s ?_ ?_
         rotate_left
         ·intro w c;have E:=c;go_simp;with_reducible rfl
        refine dw (i:=5) (v:=?_) R ?_ s ?_
        rotate_left
        ·intro w c;have E:=c;go_simp;with_reducible rfl
        refine dw (i:=6) (v:=?_) R ?_ s ?_
        rotate_left
        ·intro w c;have E:=c;go_simp;with_reducible rfl
        refine dw (i:=7) (v:=?_) R ?_ s ?_
        rotate_left
        ·intro w c;have E:=c;go_simp;with_reducible rfl
        refine dw (i:=8) (v:=?_) R ?_ s ?_
        rotate_left
        ·intro w c;have E:=c;go_simp;with_reducible rfl
        refine dw (i:=9) (v:=?_) R ?_ s ?_
        rotate_left
        ·intro w c;have E:=c;go_simp;with_reducible rfl
        refine dw (i:=10) (v:=?_) R ?_ s ?_
        rotate_left
        ·intro w c;have E:=c;go_simp;with_reducible rfl
        refine kt (i:=11) (v:=aJ T) R (by kernel_rfl) (by kernel_rfl) (by kernel_rfl) (λ_ _ _ h=>h) (Or.inl ⟨by kernel_rfl,λ_ _=>by kernel_rfl⟩) s ?_;refine kt (i:=12) (v:=aJ T) R (by kernel_rfl) (by kernel_rfl) (by kernel_rfl) (λ_ _ _ h=>h) (Or.inl ⟨by kernel_rfl,λ_ _=>by kernel_rfl⟩) s ?_;refine dw (i:=13) (v:=?_) R ?_ s ?_
        rotate_left
        ·intro w c;have E:=c;go_simp;with_reducible rfl
        refine dw (i:=14) (v:=?_) R ?_ s ?_
        rotate_left
        ·intro w c;have E:=c;go_simp;with_reducible rfl
        refine kt (i:=15) (v:=aJ F) R (by kernel_rfl) (by kernel_rfl) (by kernel_rfl) (λ_ _ _ h=>h) (Or.inl ⟨by kernel_rfl,λ_ _=>by kernel_rfl⟩) s ?_;refine ee (rs:=[4,16]) (by kernel_rfl) (by simp) ?_;refine dX R (λK p=>?_) (dX R (λK p=>?_) eN);go_simp;refine p.out _ _ s (λX=>?_);clear p K;refine ee (rs:=[16]) (by kernel_rfl) (by simp) ?_
        rotate_left
        go_simp;refine p.out _ _ kL.o (λX=>?_);clear p K;refine ee (rs:=[4]) (by kernel_rfl) (by simp) ?_
        all_goals
         refine dX R (λK p=>?_) eN;go_simp;refine p.out _ _ kL.o (λnC=>?_);clear p K X nC;refine ee (rs:=[17]) (by kernel_rfl) (by simp) ?_;refine dX R (λK p=>?_) eN;rw[aD (by kernel_rfl)];refine vB _ (.tmp 35) (.tmp 47) 113 rfl jb.heap.size 4 i0 (aJ F) 1 1 underlying113 hi hz0 hz1 hz2 R (by decide) (ak eR j cv) j sl (by kernel_rfl) hA.o ⟨D.heap.size,0,N⟩ 1 1 [aJ F] (by kernel_rfl) R hN.o od.o V.o hby.o Y.o ?_;intro U C g B _ _;obtain⟨gR,cv',rfl⟩:=yi g;obtain⟨t1,t2,t3,t4,t5⟩:=G.o _ _ g B
         have T1:=ae t1;have T3:Hd ((aK C ⟨H,2,N⟩ (ak gR (j+1) cv')).cell? ⟨a,2,N⟩=some (I J r.kind)):=t3.cell 2;refine p.out _ _ (t2.cell 2) (λiS=>?_);clear p K g B t1 t2 t3;refine dw (i:=18) (v:=?_) R ?_ iS ?_
         rotate_left
         ·intro w c;have E:=c;go_simp;with_reducible rfl
         refine dw (i:=19) (v:=?_) R ?_ iS ?_
         rotate_left
         ·intro w c;have E:=c;go_simp;with_reducible rfl
         refine ee (rs:=[20]) (by kernel_rfl) (by simp) ?_;refine dX R (λK p=>?_) eN;go_simp;refine p.out _ _ T3.o (λg=>?_);clear p K;refine ox (by kernel_rfl) ?_ _
         try simp only[ql,nQ,lH,nj,dt,dB,dC]
         clear hA hN od V hby Y m2 n2 t4 t5 iS g s G kL T3;go_wp2
         go_roundw
         case rel=>exact⟨j+1,_,by omega,by go_num,by rw[uV.o,th.o];exact T1.o⟩
         case measure=>simp[intOf];omega
      ·have d2:decide (-1015808<ds)=F:=by simpa using e2
       have th:=ae (show aJ (lg ms m r)=aJ F by unfold lg;rw[CX.o];simp[e2]);clear e1 e2;have g:=yf (aG D (.cells #[aJ F] 4) N);have p:=ae (B6.o.grown g (by simp));have c:=ae (oX.o.kept g);have hA:=ae c.o.row;have n2:(D.alloc (.cells #[aJ F] 4)).drew.cell? ⟨H,2,N⟩=some (ak eR j cv):=c.o.aO.cell 2;have hN:Hd (∀j u,[aJ F][j]?=some u->(D.alloc (.cells #[aJ F] 4)).drew.cell? ((⟨D.heap.size,0,N⟩:aY).add j)=some u):=uF (rm D (.cells #[aJ F] 4));have od:Hd (∀u∈[aJ F],u.oneCell'=T):=by intro u hu;simp at hu;subst hu;rfl
       have V:Hd (j+1<=cu):=by show _<=_;unfold cu;omega
       have hby:Hd ((j+1)*1<=140737488355328):=by show _<=_;omega
       have Y:Hd (jb.heap.size<=(D.alloc (.cells #[aJ F] 4)).drew.heap.size):=c.o.gr.size;have kL:Hd ((D.alloc (.cells #[aJ F] 4)).drew.cell? ⟨a,2,N⟩=some (I J r.kind)):=p.o.cell 2;have G:=ae (λ(U:aC) (C:av) (g:aV C jb.heap.size 4 1 U (j+1) (sl++[aJ F])) (hg:(D.alloc (.cells #[aJ F] 4)).drew.grownBy C (eW (ak eR j cv)))=>show nJ jb H gk v1 v3 v4 m.data m.bf (sl++[aJ F]) (j+1) U (aK C ⟨H,2,N⟩ U)/\aA C a #[I J r.au,I J r.off,I J r.kind,I J r.sym,I J r.bh] 75/\aA (aK C ⟨H,2,N⟩ U) a #[I J r.au,I J r.off,I J r.kind,I J r.sym,I J r.bh] 75/\aq C ⟨H,2,N⟩=some (ak eR j cv)/\dx C ⟨H,2,N⟩=F by
        have st:=c.o.step g hg;have s:=fh c.o.aO hg (dr.own c.o.row) (by decide);have w:=fh p.o hg (dr.own c.o.row) (by decide);exact⟨st,w,fh w (bK C H 2 U) (dr.aO s) (by decide),s.cell 2,s.free 2⟩)
       clear g p c oX B6;refine qu (S:=(λw=>aq w ⟨a,2,N⟩=some (I J r.kind))) (by kernel_rfl) s2 ?_;intro s
       iterate 4
        refine qg (v:=?_) R (by kernel_rfl) (λ_ _ _ h=>h) s ?_ ?_
        rotate_left
        ·intro w c;have E:=c;go_simp;with_reducible rfl
       refine dw (i:=5) (v:=?_) R ?_ s ?_
       rotate_left
       ·intro w c;have E:=c;go_simp;with_reducible rfl
       refine dw (i:=6) (v:=?_) R ?_ s ?_
       rotate_left
       ·intro w c;have E:=c;go_simp;with_reducible rfl
       refine dw (i:=7) (v:=?_) R ?_ s ?_
       rotate_left
       ·intro w c;have E:=c;go_simp;with_reducible rfl
       refine dw (i:=8) (v:=?_) R ?_ s ?_
       rotate_left
       ·intro w c;have E:=c;go_simp;with_reducible rfl
       refine dw (i:=9) (v:=?_) R ?_ s ?_
       rotate_left
       ·intro w c;have E:=c;go_simp;with_reducible rfl
       refine dw (i:=10) (v:=?_) R ?_ s ?_
       rotate_left
       ·intro w c;have E:=c;go_simp;with_reducible rfl
       refine kt (i:=11) (v:=aJ F) R (by kernel_rfl) (by kernel_rfl) (by kernel_rfl) (λ_ _ _ h=>h) (Or.inl ⟨by kernel_rfl,λ_ _=>by kernel_rfl⟩) s ?_;refine kt (i:=12) (v:=aJ F) R (by kernel_rfl) (by kernel_rfl) (by kernel_rfl) (λ_ _ _ h=>h) (Or.inl ⟨by kernel_rfl,λ_ _=>by kernel_rfl⟩) s ?_;refine ly (i:=13) R s ?_;refine ly (i:=14) R s ?_;refine kt (i:=15) (v:=aJ F) R (by kernel_rfl) (by kernel_rfl) (by kernel_rfl) (λ_ _ _ h=>h) (Or.inl ⟨by kernel_rfl,λ_ _=>by kernel_rfl⟩) s ?_;refine ee (rs:=[4,16]) (by kernel_rfl) (by simp) ?_
       refine dX R (λK p=>?_) (dX R (λK p=>?_) eN);go_simp;refine p.out _ _ s (λX=>?_);clear p K;refine ee (rs:=[16]) (by kernel_rfl) (by simp) ?_
       rotate_left
       go_simp;refine p.out _ _ kL.o (λX=>?_);clear p K;refine ee (rs:=[4]) (by kernel_rfl) (by simp) ?_
       all_goals
        refine dX R (λK p=>?_) eN;go_simp;refine p.out _ _ kL.o (λnC=>?_);clear p K X nC;refine ee (rs:=[17]) (by kernel_rfl) (by simp) ?_;refine dX R (λK p=>?_) eN;rw[aD (by kernel_rfl)];refine vB _ (.tmp 35) (.tmp 47) 113 rfl jb.heap.size 4 i0 (aJ F) 1 1 underlying113 hi hz0 hz1 hz2 R (by decide) (ak eR j cv) j sl (by kernel_rfl) hA.o ⟨D.heap.size,0,N⟩ 1 1 [aJ F] (by kernel_rfl) R hN.o od.o V.o hby.o Y.o ?_;intro U C g B _ _;obtain⟨gR,cv',rfl⟩:=yi g;obtain⟨t1,t2,t3,t4,t5⟩:=G.o _ _ g B
        have T1:=ae t1;have T3:Hd ((aK C ⟨H,2,N⟩ (ak gR (j+1) cv')).cell? ⟨a,2,N⟩=some (I J r.kind)):=t3.cell 2;refine p.out _ _ (t2.cell 2) (λiS=>?_);clear p K g B t1 t2 t3;refine dw (i:=18) (v:=?_) R ?_ iS ?_
        rotate_left
        ·intro w c;have E:=c;go_simp;with_reducible rfl
        refine dw (i:=19) (v:=?_) R ?_ iS ?_
        rotate_left
        ·intro w c;have E:=c;go_simp;with_reducible rfl
        refine ee (rs:=[20]) (by kernel_rfl) (by simp) ?_;refine dX R (λK p=>?_) eN;go_simp;refine p.out _ _ T3.o (λg=>?_);clear p K;refine ox (by kernel_rfl) ?_ _
        try simp only[ql,nQ,lH,nj,dt,dB,dC]
        clear hA hN od V hby Y m2 n2 t4 t5 iS g s G kL T3;go_wp2
        go_roundw
        case rel=>exact⟨j+1,_,by omega,by go_num,by rw[uV.o,th.o];exact T1.o⟩
        case measure=>simp[intOf];omega
     ·have d1:(r.kind==4)=F:=by simpa using e1
      have th:=ae (show aJ (lg ms m r)=aJ F by unfold lg;simp[e1]);clear e1;have g:=yf (aG D (.cells #[aJ F] 4) N);have p:=ae (B6.o.grown g (by simp));have c:=ae (oX.o.kept g);have hA:=ae c.o.row;have n2:(D.alloc (.cells #[aJ F] 4)).drew.cell? ⟨H,2,N⟩=some (ak eR j cv):=c.o.aO.cell 2;have hN:Hd (∀j u,[aJ F][j]?=some u->(D.alloc (.cells #[aJ F] 4)).drew.cell? ((⟨D.heap.size,0,N⟩:aY).add j)=some u):=uF (rm D (.cells #[aJ F] 4));have od:Hd (∀u∈[aJ F],u.oneCell'=T):=by intro u hu;simp at hu;subst hu;rfl
      have V:Hd (j+1<=cu):=by show _<=_;unfold cu;omega
      have hby:Hd ((j+1)*1<=140737488355328):=by show _<=_;omega
      have Y:Hd (jb.heap.size<=(D.alloc (.cells #[aJ F] 4)).drew.heap.size):=c.o.gr.size;have kL:Hd ((D.alloc (.cells #[aJ F] 4)).drew.cell? ⟨a,2,N⟩=some (I J r.kind)):=p.o.cell 2;have G:=ae (λ(U:aC) (C:av) (g:aV C jb.heap.size 4 1 U (j+1) (sl++[aJ F])) (hg:(D.alloc (.cells #[aJ F] 4)).drew.grownBy C (eW (ak eR j cv)))=>show nJ jb H gk v1 v3 v4 m.data m.bf (sl++[aJ F]) (j+1) U (aK C ⟨H,2,N⟩ U)/\aA C a #[I J r.au,I J r.off,I J r.kind,I J r.sym,I J r.bh] 75/\aA (aK C ⟨H,2,N⟩ U) a #[I J r.au,I J r.off,I J r.kind,I J r.sym,I J r.bh] 75/\aq C ⟨H,2,N⟩=some (ak eR j cv)/\dx C ⟨H,2,N⟩=F by
       have st:=c.o.step g hg;have s:=fh c.o.aO hg (dr.own c.o.row) (by decide);have w:=fh p.o hg (dr.own c.o.row) (by decide);exact⟨st,w,fh w (bK C H 2 U) (dr.aO s) (by decide),s.cell 2,s.free 2⟩)
      clear g p c oX B6;refine qu (S:=(λw=>aq w ⟨a,2,N⟩=some (I J r.kind))) (by kernel_rfl) s2 ?_;intro s
      iterate 4
       refine qg (v:=?_) R (by kernel_rfl) (λ_ _ _ h=>h) s ?_ ?_
       rotate_left
       ·intro w c;have E:=c;go_simp;with_reducible rfl
      refine dw (i:=5) (v:=?_) R ?_ s ?_
      rotate_left
      ·intro w c;have E:=c;go_simp;with_reducible rfl
      refine dw (i:=6) (v:=?_) R ?_ s ?_
      rotate_left
      ·intro w c;have E:=c;go_simp;with_reducible rfl
      refine dw (i:=7) (v:=?_) R ?_ s ?_
      rotate_left
      ·intro w c;have E:=c;go_simp;with_reducible rfl
      refine dw (i:=8) (v:=?_) R ?_ s ?_
      rotate_left
      ·intro w c;have E:=c;go_simp;with_reducible rfl
      refine ly (i:=9) R s ?_;refine ly (i:=10) R s ?_;refine kt (i:=11) (v:=aJ F) R (by kernel_rfl) (by kernel_rfl) (by kernel_rfl) (λ_ _ _ h=>h) (Or.inl ⟨by kernel_rfl,λ_ _=>by kernel_rfl⟩) s ?_;refine kt (i:=12) (v:=aJ F) R (by kernel_rfl) (by kernel_rfl) (by kernel_rfl) (λ_ _ _ h=>h) (Or.inl ⟨by kernel_rfl,λ_ _=>by kernel_rfl⟩) s ?_;refine ly (i:=13) R s ?_;refine ly (i:=14) R s ?_;refine kt (i:=15) (v:=aJ F) R (by kernel_rfl) (by kernel_rfl) (by kernel_rfl) (λ_ _ _ h=>h) (Or.inl ⟨by kernel_rfl,λ_ _=>by kernel_rfl⟩) s ?_
      refine ee (rs:=[4,16]) (by kernel_rfl) (by simp) ?_;refine dX R (λK p=>?_) (dX R (λK p=>?_) eN);go_simp;refine p.out _ _ s (λX=>?_);clear p K;refine ee (rs:=[16]) (by kernel_rfl) (by simp) ?_
      rotate_left
      go_simp;refine p.out _ _ kL.o (λX=>?_);clear p K;refine ee (rs:=[4]) (by kernel_rfl) (by simp) ?_
      all_goals
       refine dX R (λK p=>?_) eN;go_simp;refine p.out _ _ kL.o (λnC=>?_);clear p K X nC;refine ee (rs:=[17]) (by kernel_rfl) (by simp) ?_;refine dX R (λK p=>?_) eN;rw[aD (by kernel_rfl)];refine vB _ (.tmp 35) (.tmp 47) 113 rfl jb.heap.size 4 i0 (aJ F) 1 1 underlying113 hi hz0 hz1 hz2 R (by decide) (ak eR j cv) j sl (by kernel_rfl) hA.o ⟨D.heap.size,0,N⟩ 1 1 [aJ F] (by kernel_rfl) R hN.o od.o V.o hby.o Y.o ?_;intro U C g B _ _;obtain⟨gR,cv',rfl⟩:=yi g;obtain⟨t1,t2,t3,t4,t5⟩:=G.o _ _ g B
       have T1:=ae t1;have T3:Hd ((aK C ⟨H,2,N⟩ (ak gR (j+1) cv')).cell? ⟨a,2,N⟩=some (I J r.kind)):=t3.cell 2;refine p.out _ _ (t2.cell 2) (λiS=>?_);clear p K g B t1 t2 t3;refine dw (i:=18) (v:=?_) R ?_ iS ?_
       rotate_left
       ·intro w c;have E:=c;go_simp;with_reducible rfl
       refine dw (i:=19) (v:=?_) R ?_ iS ?_
       rotate_left
       ·intro w c;have E:=c;go_simp;with_reducible rfl
       refine ee (rs:=[20]) (by kernel_rfl) (by simp) ?_;refine dX R (λK p=>?_) eN;go_simp;refine p.out _ _ T3.o (λg=>?_);clear p K;refine ox (by kernel_rfl) ?_ _
       try simp only[ql,nQ,lH,nj,dt,dB,dC]
       clear hA hN od V hby Y m2 n2 t4 t5 iS g s G kL T3;go_wp2
       go_roundw
       case rel=>exact⟨j+1,_,by omega,by go_num,by rw[uV.o,th.o];exact T1.o⟩
       case measure=>simp[intOf];omega
    ·obtain rfl:j=ah m.obj.ay:=by omega
     have c:decide ((ah m.obj.ay:Z)<(ah m.obj.ay:Z))=F:=by simp
     have a:=ae (C7.o ((m.obj.ay.take (ah m.obj.ay)).map (lg ms m)) _ wr (by rw[sK];exact HM.o));rw[List.take_length,FIN.o]at a;clear sK;go_wp2
     go_roundw
     case rel=>exact⟨k+1,by omega,by go_num,a.o⟩
     case measure=>simp[intOf];omega
  ·obtain rfl:k=ah Q:=by omega
   have c:decide ((ah Q:Z)<(ah Q:Z))=F:=by simp
   have a:=ae (show fC Wf W0 P bt aj bd (ak am (ah Q) cm) Q gl L1 st no wr by
    have:=HP.o
    rwa [List.drop_of_length_le (by rw[LO.o];exact bz _),lG,List.take_of_length_le (by rw[LL.o,LO.o];exact bz _)]at this)
   clear HP;go_wp2
   go_end0
   rw[<- qO.o];exact⟨R,a.o⟩
theorem aaA:∀(ms:L aI) (t f d:Z),(iv ms t f d).map aI.short=ms.map aI.short:=by
 intro ms
 induction ms with
 |nil=>intro t f d;rfl
 |cons m ms a=>intro t f d;unfold iv;rw[jT,a,jT];rfl
theorem aaT:∀(ms:L aI) (b:Z),(gE ms b).map aI.short=ms.map aI.short:=by
 intro ms
 induction ms with
 |nil=>intro b;rfl
 |cons m ms a=>intro b;unfold gE;rw[jT,a,jT]
theorem ac3:∀(ms:L aI) (b:Z),(gE ms b).map aI.obj=ms.map aI.obj:=by
 intro ms
 induction ms with
 |nil=>intro b;rfl
 |cons m ms a=>intro b;unfold gE;rw[jT,a,jT]
theorem sk(ms:L aI)(t f d:Z):(aS t f d ms).map aI.obj=ms.map aI.obj:=by unfold aS;rw[ac3,AG]
theorem Su(ms:L aI)(t f d:Z):(aS t f d ms).map aI.short=ms.map aI.short:=by unfold aS;rw[aaT,aaA]
theorem DA(ms:L aI):(fU ms).map aI.obj=ms.map aI.obj:=by unfold fU;rw[Aq];rfl
theorem qf{a:L aI}(h:a.map aI.obj=ms.map aI.obj)(g:∀m∈ms,yl m.obj):∀m∈a,yl m.obj:=by
 intro m c
 have:m.obj∈ms.map aI.obj:=by rw[<- h];exact E8 c
 obtain⟨x,i,e⟩:=mh.1 this;rw[<- e];exact g x i
theorem Rf:∀(ms:L aI) (d:Z),(∀m∈ms,yl m.obj)->0<=d->d+5000*ah ms<=562949953421312->d<=iY ms d/\iY ms d<=d+5000*ah ms:=by
 intro ms
 induction ms with
 |nil=>intro d _ _ _;simp[iY]
 |cons m ms g=>
  intro d a c e;simp only[dA]at e ⊢;unfold iY;have r:=ma d (dG m.obj 3) c (by omega) (pX _);have h:ah m.obj.data<=64:=(a m (by simp)).1.1.2.2;have q:=g (du d (dG m.obj 3)+4*ah m.obj.data) (λx c=>a x (by simp[c])) (by omega) (by omega);omega
theorem aaU(n:M):∀(ms:L aI) (t f d:Z),(∀m∈ms,eI n m)->(∀m∈ms,yl m.obj)->0<=t->t+5000*ah ms<=562949953421312->0<=f->f+5000*ah ms<=562949953421312->0<=d->d+5000*ah ms<=562949953421312->∀m∈iv ms t f d,eI n m:=by
 intro ms
 induction ms with
 |nil=>intro t f d _ _ _ _ _ _ _ _ m a;simp[iv]at a
 |cons x ms r=>
  intro t f d e g h i j k l q m a;simp only[dA]at i k q;have c:=g x (by simp);have s:=xj c 1 (.inl R) t h (by omega);have u:=xj c 2 (.inr R) f j (by omega);have B:=ma d (dG x.obj 3) l (by omega) (pX _);have z:ah x.obj.data<=64:=c.1.1.2.2;unfold iv at a;rcases nk.1 a with rfl|a
  ·have v:=eI.Hk (ps:=ju x 1 t) (e x (by simp)) (by omega) (λp a=>by have:=s.2.2 p a;omega);have w:=eI.Mh (ps:=ju x 2 f) v (by omega) (λp a=>by have:=u.2.2 p a;omega);exact eI.L6 (x:=du d (dG x.obj 3)) w ⟨by omega,by omega⟩
  ·exact r _ _ _ (λy a=>e y (by simp[a])) (λy a=>g y (by simp[a])) (by omega) (by omega) (by omega) (by omega) (by omega) (by omega) m a
theorem abw(n:M):∀(ms:L aI) (b:Z),(∀m∈ms,eI n m)->(∀m∈ms,yl m.obj)->0<=b->b+5000*ah ms<=562949953421312->∀m∈gE ms b,eI n m:=by
 intro ms
 induction ms with
 |nil=>intro b _ _ _ _ m a;simp[gE]at a
 |cons x ms i=>
  intro b c e g h m a;simp only[dA]at h;have j:=e x (by simp);have l:=ma b (dG x.obj 4) g (by omega) (pX _);have k:=j.1.2.1;unfold gE at a;rcases nk.1 a with rfl|a
  ·exact(c x (by simp)).Mg ⟨by omega,by omega⟩
  ·exact i _ (λy a=>c y (by simp[a])) (λy a=>e y (by simp[a])) (by omega) (by omega) m a
theorem Lt(g:∀m∈ms,eI n m)(a:∀m∈ms,yl m.obj)(i:ah ms<=4096)(h:0<=t/\t<=4294967296)(e:0<=f/\f<=4294967296)(c:0<=d/\d<=4294967296):∀m∈aS t f d ms,eI n m:=by
 have r:=Rf ms d a c.1 (by omega);exact abw n _ _ (aaU n ms t f d g a h.1 (by omega) e.1 (by omega) c.1 (by omega)) (qf (AG ms t f d) a) (by omega) (by rw[Dx];omega)
theorem Q5(c:∀m∈ms,eI n m):∀m∈fU ms,eI n m:=by
 intro m a;unfold fU at a;obtain⟨y,e,rfl⟩:=mh.1 a;exact(c y e).Hh (by rw[fZ];exact(c y e).ay.1)
theorem ac5(k j:av)(P:M)(bt aj bd:Z)(p:aC)(i l:L M)(ms:L aI)(st:gL)(C:Z)(W:av)(h:fC k j P bt aj bd p i l ms st C W)(u:∀m∈ms,eI (ah i) m)(s:∀m∈ms,yl m.obj)(B:∀m∈ms,m.short=[])
  (g:0<=bt/\bt<=4294967296) (c:0<=aj/\aj<=4294967296) (a:0<=bd/\bd<=4294967296) :
  Calls prog 37 #[bO P] W λe a=>e=aH (aZ #[])/\fC k j P bt aj bd p i l (uP bt aj bd ms) st (oH bd (fU (aS bt aj bd ms))) a:=by
 have q:ah ms<=4096:=by rw[h.gx];exact h.few
 have v:=Lt u s q g c a;have D:=qf (sk ms bt aj bd) s;have G:∀m∈aS bt aj bd ms,m.short=[]:=by
  intro m r
  have:m.short∈ms.map aI.short:=by rw[<- Su ms bt aj bd];exact E8 r
  obtain⟨x,w,e⟩:=mh.1 this;rw[<- e];exact B x w
 have w:=ae (RG k j P bt aj bd p i l ms st C W h u s g c a);have y:=ae (λq s (r:fC k j P bt aj bd p i l (aS bt aj bd ms) st s q)=>ace k j P bt aj bd p i l _ st s q r v G);have z:=ae (λq s (r:fC k j P bt aj bd p i l (fU (aS bt aj bd ms)) st s q)=>RG k j P bt aj bd p i l _ st s q r (Q5 v) (qf (DA _) D) g c a);have E:=ae (show uP bt aj bd ms=aS bt aj bd (fU (aS bt aj bd ms))from R);clear h u s B v D G g c a q;unfold bO at *;go_enter func37,ntmps37;go_wp2_with fail
 refine w.o.mono ?_;rintro e q ⟨rfl,r⟩;have v:=ae r;clear r w;go_wp2_with fail;refine(y.o _ _ v.o).mono ?_;rintro e D ⟨rfl,r⟩;have w:=ae r;clear r y;go_wp2_with fail;refine(z.o _ _ w.o).mono ?_;rintro e G ⟨rfl,r⟩;have y:=ae r;clear r z;go_wp2
 go_end0
 rw[E.o];exact⟨R,y.o⟩
theorem zo(f n:Z)(a:0<=n)(c:n<=4294967295):0<=bF f n/\bF f n<32:=by
 unfold bF;split
 ·rw[low (n/128) 5 (by decide) 31 32 rfl rfl (by omega) (by omega)];omega
 ·decide
theorem GQ(f n:Z)(a:0<=n)(c:n<=4294967295):0<=bR f n/\bR f n<32:=by
 unfold bR;split
 ·rw[low (n/32768) 5 (by decide) 31 32 rfl rfl (by omega) (by omega)];omega
 ·decide
theorem AU(f n:Z)(a:0<=n)(c:n<=4294967295):0<=dW f n/\dW f n<32:=by
 unfold dW;split
 ·rw[low (n/1048576) 5 (by decide) 31 32 rfl rfl (by omega) (by omega)];omega
 ·decide
theorem SM(f n:Z)(a:0<=n)(c:n<=4294967295):-2147483648<=dO f n/\dO f n<=2147483647:=by
 unfold dO mr nY nZ;split
 ·omega
 split
 ·split<;>omega
 split
 ·split<;>omega
 split
 ·split<;>omega
 split
 ·split<;>omega
 ·decide
theorem Kg(n:Z):cz n<=25:=by
 unfold cz
 cases h:(rA 26).find? (λk=>decide (1<=k)&&decide (Is k n)) with
 |none=>simp
 |some k=>
  have:=Cv.1 (WH h)
  simp;omega
def Cn(m:cq):Prop:=(∀i,0<=m.T.getD i 0/\m.T.getD i 0<4294967296)/\∀i,0<=m.F.getD i 0/\m.F.getD i 0<4294967296
theorem adI{m:cq}(h:Cn m){a w:Z}(c:fi m a=S w):0<=w/\w<=4294967295:=by
 unfold fi at c;split at c
 ·simp only[nv]at c
  have:=h.1 (gB m.text (ah m.T) a).toNat
  omega
 split at c
 ·simp only[nv]at c
  have:=h.2 (gB m.bw (ah m.F) a).toNat
  omega
 ·cases c
theorem adq(c:av)(b g:Nat)(ai:Option aY)(ci:Nat)(ins:List Z)(st:bC)(x y:aC)(m:cq)(W:av)(h:yz c b g (ak ai (ah ins) ci) st x y W)(C:ij c g m)(D:ni m)(hW:Cn m)(s:yq c ai ins)(hl:ah ins<=16)(L:eH c)(hs:st.steps<65536)
  (P:∀(st:bC) (j p k l n:Z) (W:av),jd c b g ai ci ins st x y m p k l n W->0<=j/\j<=25 ->
   Calls prog 108 #[aM (S ⟨b,0,N⟩),cQ j p k l n] W λe a=>e=aH (aZ #[])/\gI c b g (ak ai (ah ins) ci) (dp m ins j p k l n st) a) :
  Calls prog 68 #[aM (S ⟨b,0,N⟩)] W λe a=>e=aH (aZ #[])/\gI c b g (ak ai (ah ins) ci) (li m ins st) a:=by
 have H:=ae h;have j:=h.c.2.2.2.2.2.2.2.2.1;have k:=h.free 40;have F:=h.ok.pc;have p:J.wrap ((st.steps:Z)+1)=(st.steps:Z)+1:=dD _ ⟨by omega,by omega⟩;have x2:J.wrap (st.pc+4)=st.pc+4:=dD _ ⟨by omega,by omega⟩;have a:Hd (yz c b g (ak ai (ah ins) ci) {st with steps:=st.steps+1} x y (aK W ⟨b,40,N⟩ (I J ((st.steps:Z)+1)))):=by
  have:=h.Vg (st.steps+1) (by omega)
  rw[show ((st.steps+1:Nat):Z)=(st.steps:Z)+1 by omega]at this;exact this
 have l:=ae (λV (E:yz c b g (ak ai (ah ins) ci) {st with steps:=st.steps+1} x y V)=>GN g m st.pc V (C.kept E.gr) D F.1 F.2);have U:=ae (λW=>tE (st.pc+4) W);have G:=ae P;have M:=ae C;have HT:=ae D;have T:=ae s;have O5:=ae L;have z:=ae (λw (a:fi m st.pc=S w)=>adI hW a);obtain⟨X,i⟩:∃X,X=li m ins st:=⟨_,R⟩
 rw[<- i];unfold li at i;have u:=ae i;clear h C D s L P i;generalize fi m st.pc=cd at *;go_enter func68,ntmps68;go_wp2;generalize aK W ⟨b,40,N⟩ (I J ((st.steps:Z)+1))=V at *;clear j k p H;have j:=a.o.c.1;have v:=a.o.c.2.2.2.1
 go_quiet ((go_at_call 82;refine Calls.quiet_of (l.o _ ?_);exact a.o.grown (ye (aW _ N) _)))
 have i:=ae (a.o.grown (ye (aW _ N) nq));clear j v a l;generalize V.drewN nq=V2 at *;have v:=i.o.c.2.2.2.1;have r:=i.o.c.2.2.2.2.1;have B:=i.o.free 36
 cases cd with
 |none=>
  simp only at u;have a:=i.o.c.2.2.2.2.2.1;have j:=i.o.free 37;go_wp2
  (try simp only[Exit.inBlock,Exit.then]);refine bodyPost_ret (results_none R _ _ _) R ?_
  rw[u.o];exact⟨R,_,_,i.o.jA 2⟩
 |some a=>
  have wr:=z.o a R;simp only at u;go_wp2_with fail;refine(U.o _).mono ?_;rintro e ke ⟨rfl,E⟩;subst E;have q:=ae (i.o.Mb (bn (st.pc+4)) (mo _));go_wp2_with fail;generalize aK ke ⟨b,36,N⟩ (I J (bn (st.pc+4)))=gw at *;clear v r B i U x2;have o1:=Kg a;have p1:=zo (aP a) a wr.1 wr.2;have p2:=GQ (aP a) a wr.1 wr.2;have p3:=AU (aP a) a wr.1 wr.2;have p4:=SM (aP a) a wr.1 wr.2;have Q:=ae (KH a gw (O5.o.grown q.o.gr) wr.1 wr.2);generalize cz a=j at *;generalize bF (aP a) a=p at *;generalize bR (aP a) a=k at *;generalize dW (aP a) a=l at *
  generalize dO (aP a) a=n at *;refine Q.o.mono ?_;rintro e fp ⟨rfl,Y⟩;have K:=ae (q.o.grown Y);have O:=ae (K.o.grown (aG fp (.cells #[I J j,I J p,I J k,I J l,I J n] 189) N));clear Y q Q;unfold cQ;go_wp2_with fail;refine(G.o _ j p k l n _ ⟨O.o,M.o,HT.o,T.o,hl,p1,p2,p3,p4⟩ (by omega)).mono ?_;rintro e ja ⟨rfl,ahM,Y,Q⟩;have q:=ae Q;clear Q K O G;have v:=q.o.c.2.2.2.1;have r:=q.o.c.2.2.2.2.1;have K:=q.o.free 35;go_wp2
  go_end0
  rw[u.o];exact⟨R,_,_,q.o.kO _ q.o.ok.next⟩
theorem Th(n:Z):cz n<=25:=by
 unfold cz
 cases e:(rA 26).find? (λk=>decide (1<=k)&&decide (Is k n)) with
 |none=>simp
 |some k=>
  have:=WH e
  have:=Cv.1 this
  simp only[Option.getD_some];omega
def tO(op rd dF eG:M)(n:Z):Z:=if op=0 then 0 else (fz op rd dF eG n:M)
def kZ(w n:Z):Z:=tO (cz w) (bF (aP w) w).toNat (bR (aP w) w).toNat (dW (aP w) w).toNat n
def uO(w:Z)(first:bc)(v:Z):Z:=kZ w (if first then ir v else jN v)
theorem Q9(a i c g:M)(n:Z)(w:av)(l:eH w)(k:a<=25):
  Calls prog 193 #[zX a i c g n] w λe j=>e=aH (I J (tO a i c g n))/\az w j N:=by
 by_cases h:a=0
 ·subst h;have j:=ae (aG w (.cells #[I J 0,I J i,I J c,I J g,I J n] 189) N);unfold zX;go_enter func193,ntmps193;go_wp2;go_ret;exact⟨R,j.o⟩
 ·have:=acN a i c g n w l (by omega) k
  unfold tO;rw[ax h];exact this
theorem QM(x n:Z)(w:av)(k:eH w)(g:0<=x)(h:x<=4294967295):
  Calls prog 159 #[I J x,I J n] w λe g=>e=aH (I J (kZ x n))/\az w g N:=by
 have i:=ae (KH x w k g h);have l:=zo (aP x) x g h;have q:=GQ (aP x) x g h;have u:=AU (aP x) x g h;have E:=ae (show kZ x n=tO (cz x) (bF (aP x) x).toNat (bR (aP x) x).toNat (dW (aP x) x).toNat n from R);have z:=Th x;have v:=ae k;generalize cz x=r at *;generalize dO (aP x) x=C at *;generalize bF (aP x) x=s at *;generalize bR (aP x) x=m at *;generalize dW (aP x) x=p at *;obtain⟨a,rfl⟩:∃a:M,s=(a:Z):=⟨s.toNat,by omega⟩
 obtain⟨b,rfl⟩:∃b:M,m=(b:Z):=⟨m.toNat,by omega⟩
 obtain⟨c,rfl⟩:∃c:M,p=(c:Z):=⟨p.toNat,by omega⟩
 rw[dy,dy,dy]at E;have j:=ae (λW g=>Q9 r a b c n W g z);clear k l q u;unfold cQ at i;unfold zX at j;go_enter func159,ntmps159;go_wp2_with fail;refine i.o.mono ?_;rintro e y ⟨rfl,q⟩;have l:=ae (ya q (aG y (.cells #[I J r,I J a,I J b,I J c,I J n] 189) N));clear q;go_wp2_with fail;refine(j.o _ (v.o.grown l.o)).mono ?_;rintro e B ⟨rfl,q⟩;have u:=ae (ya l.o q);clear q j i;go_wp2;go_ret;exact⟨by rw[E.o];rfl,u.o⟩
theorem abW(x:Z)(f:bc)(v:Z)(w:av)(i:eH w)(j:0<=x)(k:x<=4294967295)(l:-2147483648<=v)(m:v<=2147483647):
  Calls prog 162 #[I J x,aJ f,I J v] w λe c=>e=aH (I J (uO x f v))/\az w c N:=by
 have h:=ae (aek v w l m);have g:=ae (λn=>QM x n w i j k)
 cases f
 ·have E:=ae (show uO x F v=kZ x (jN v)from R);clear i;go_enter func162,ntmps162;go_wp2_with fail;refine h.o.mono ?_;rintro e c ⟨rfl,a⟩;rw[a];clear a c h;go_wp2_with fail;refine(g.o _).mono ?_;rintro e c ⟨rfl,a⟩;have G:=ae a;clear a g;go_wp2;go_ret;exact⟨by rw[E.o];rfl,G.o⟩
 ·have E:=ae (show uO x T v=kZ x (ir v)from R);clear i;go_enter func162,ntmps162;go_wp2_with fail;refine h.o.mono ?_;rintro e c ⟨rfl,a⟩;rw[a];clear a c h;go_wp2_with fail;refine(g.o _).mono ?_;rintro e c ⟨rfl,a⟩;have G:=ae a;clear a g;go_wp2;go_ret;exact⟨by rw[E.o];rfl,G.o⟩
def yO(ms:L aI)(m:aI)(r:cg):Z:=tO 3 (bF (aP ((about m.obj r).getD 1 0)) ((about m.obj r).getD 1 0)).toNat 0 0 (fT ms m r)
theorem aaH(Q:L Nat)(ms:L aI)(b g:Nat)(m:aI)(r:cg)(w:av)(ht:eH w)(h:uz w Q ms)(hm:eF w Q b g m)(V:eI (ah Q) m)(G:yl m.obj)(X:r∈m.obj.ay)(hk:r.kind=4):
  Calls prog 161 #[bO b,eU r] w λe l=>e=aH (I J (yO ms m r))/\az w l N:=by
 obtain⟨i,C,y⟩:=kY X;have p:pq m.obj r:=by rw[<- y];exact(G.2.2.2.2 i C).1
 have s:=p.2.1;have j:=p.2.2.2.2.1;have c:jm (yp m.obj r.au):=by
  unfold yp
  repeat' split
  ·exact G.2.2.1.1
  ·exact G.2.2.1.2.1
  ·exact G.2.2.1.2.2
  ·intro i h;simp at h
 obtain⟨z,B,-,-⟩:=Dj s j c;have v:(yy r).toNat=2:=by unfold yy;rw[aD (.inl hk)];rfl
 rw[v]at z;have HM:=ae hm;have HH:=ae h;have HT:=ae ht;obtain⟨v1,v2,v3,v4,u,D,-⟩:=hm;have H:aq w ⟨b,0,N⟩=S (aM (S ⟨g,0,N⟩)):=u.cell 0;have cA:=ae (λW (c:az w W N)=>KG g m.obj r W (D.kept c) (FT G) s j);rw[v]at cA;have cD:=ae (λW (c:az w W N)=>FY Q ms b g m r W (HH.o.kept c) (HM.o.kept c) V (V.ay.2 r X).2.1 (V.ay.2 r X).2.2);have l:1<(about m.obj r).length:=by omega
 have E:=ae (show yO ms m r=tO 3 (bF (aP (about m.obj r)[1]) (about m.obj r)[1]).toNat 0 0 (fT ms m r) by unfold yO;rw[bQ,bW l];rfl);have k:=B 1 l;have P:=zo (aP (about m.obj r)[1]) (about m.obj r)[1] k.1 k.2;have cC:=ae (λW (c:az w W N)=>KH (about m.obj r)[1] W (HT.o.grown c) k.1 k.2);have V4:=ae (λW Z (U:yq W Z (about m.obj r))=>show ∃O q,Z=S ⟨O,q,N⟩/\aq W ⟨O,q+1,N⟩=S (I J (about m.obj r)[1])from by
  obtain⟨O,q,e,K⟩:=U (by omega);exact⟨O,q,e,K 1 l⟩)
 generalize cz (about m.obj r)[1]=op at *;generalize dO (aP (about m.obj r)[1]) (about m.obj r)[1]=nf at *;generalize bR (aP (about m.obj r)[1]) (about m.obj r)[1]=M at *;generalize dW (aP (about m.obj r)[1]) (about m.obj r)[1]=T at *;generalize bF (aP (about m.obj r)[1]) (about m.obj r)[1]=rd at *;obtain⟨a,rfl⟩:∃a:Nat,rd=(a:Int):=⟨rd.toNat,by omega⟩
 rw[dy]at E;generalize (about m.obj r)[1]=x at *;have cE:=ae (λW (c:az w W N)=>Q9 3 a 0 0 (fT ms m r) W (HT.o.grown c) (by omega));generalize fT ms m r=ds at *;have hbl:b<w.heap.size:=u.lt;clear u D h ht V G X p s j c z B v l k P y C hk;unfold bO eU cQ zX at *;obtain⟨y,v,u,z,s⟩:=r;dsimp only at *;have Y:=ae (aG w (.cells #[I J y,I J v,I J u,I J z,I J s] 75) N);have D:=ae (aA.new w #[I J y,I J v,I J u,I J z,I J s] 75);have hbn:b≠w.heap.size:=by omega
 go_enter func161,ntmps161;go_wp2;have K:=yd H Y.o;clear H;generalize w.alloc (.cells #[I J y,I J v,I J u,I J z,I J s] 75)=B at *;generalize w.heap.size=j at *;have c0:aq B ⟨j,0,N⟩=S (I J y):=D.o.cell 0;have c1:aq B ⟨j,1,N⟩=S (I J v):=D.o.cell 1;have c2:aq B ⟨j,2,N⟩=S (I J u):=D.o.cell 2;have c3:aq B ⟨j,3,N⟩=S (I J z):=D.o.cell 3;have c4:aq B ⟨j,4,N⟩=S (I J s):=D.o.cell 4;have H:=ae (show aq B.drew ⟨b,0,N⟩=S (aM (S ⟨g,0,N⟩))from K)
 have c:=ae (λW (k:az B.drew W N)=>show aA W j #[I J y,I J v,I J u,I J z,I J s] 75 from (mA D.o).grown k (by simp))
 go_region_held3 (λl=>aq l ⟨b,0,N⟩=S (aM (S ⟨g,0,N⟩))/\aq l ⟨j,0,N⟩=S (I J y)/\aq l ⟨j,1,N⟩=S (I J v)/\aq l ⟨j,2,N⟩=S (I J u)/\aq l ⟨j,3,N⟩=S (I J z)/\aq l ⟨j,4,N⟩=S (I J s))
  (go_keep)
  (first|(go_at_call 194;refine(cA.o _ (yf Y.o)).mono ?_;rintro e l ⟨Z,cap,rfl,U,k⟩;have C:=c.o _ k;have kq:=yd H.o k;have s0:=C.cell 0;have s1:=C.cell 1;have s2:=C.cell 2;have s3:=C.cell 3;have s4:=C.cell 4;simp only[bI,bB,bL]at s0 s1 s2 s3 s4))
 obtain⟨O,q,rfl,cx⟩:=V4.o _ _ U;have p:=ae (ya (yf Y.o) k);have D8:=ae C;clear k U C kq s0 s1 s2 s3 s4 c0 c1 c2 c3 c4 K H c;go_wp2_with fail;refine(cC.o _ p.o).mono ?_;rintro e P ⟨rfl,K⟩;have c:=aG P (.cells #[I J op,I J a,I J M,I J T,I J nf] 189) N;have F:=ae (ya (ya p.o K) c);have H:=ae (D8.o.grown (ya K c) (by simp));have Al:=ae (aA.new P #[I J op,I J a,I J M,I J T,I J nf] 189);clear K c cC cx D8 p;go_wp2;generalize P.alloc (.cells #[I J op,I J a,I J M,I J T,I J nf] 189)=p at *
 generalize P.heap.size=c at *;have c0:aq p ⟨j,0,N⟩=S (I J y):=H.o.cell 0;have c1:aq p ⟨j,1,N⟩=S (I J v):=H.o.cell 1;have c2:aq p ⟨j,2,N⟩=S (I J u):=H.o.cell 2;have c3:aq p ⟨j,3,N⟩=S (I J z):=H.o.cell 3;have c4:aq p ⟨j,4,N⟩=S (I J s):=H.o.cell 4;have cj:aq p ⟨c,1,N⟩=S (I J a):=Al.o.cell 1;have ES:=ae (λW (k:az p.drew W N)=>And.intro (yd (show aq p.drew ⟨c,1,N⟩=S (I J a)from cj) k) (And.intro (yd (show aq p.drew ⟨j,0,N⟩=S (I J y)from c0) k) (And.intro (yd (show aq p.drew ⟨j,1,N⟩=S (I J v)from c1) k) (And.intro (yd (show aq p.drew ⟨j,2,N⟩=S (I J u)from c2) k) (And.intro (yd (show aq p.drew ⟨j,3,N⟩=S (I J z)from c3) k) (yd (show aq p.drew ⟨j,4,N⟩=S (I J s)from c4) k))))))
 go_region_held3 (λl=>aq l ⟨c,1,N⟩=S (I J a)/\aq l ⟨j,0,N⟩=S (I J y)/\aq l ⟨j,1,N⟩=S (I J v)/\aq l ⟨j,2,N⟩=S (I J u)/\aq l ⟨j,3,N⟩=S (I J z)/\aq l ⟨j,4,N⟩=S (I J s))
  (go_keep)
  (first|(go_at_call 119;refine(cD.o _ (yf F.o)).mono ?_;rintro e l ⟨rfl,k⟩;obtain⟨s0,s1,s2,s3,s4,s5⟩:=ES.o _ k)|(go_at_call 193;refine(cE.o _ (ya (yf F.o) k)).mono ?_;rintro e w2 ⟨rfl,K⟩;obtain⟨r0,r1,r2,r3,r4,r5⟩:=ES.o _ (ya k K)))
 go_wp2;go_ret;exact⟨by rw[E.o];rfl,ya (ya (yf F.o) k) K⟩
def qD(ms:L aI)(m:aI)(i:Z)(r:cg)(off w:Z):Z :=
 if r.kind=1 then bits .and .i64 (jK ms m r+r.bh) 4294967295
 else if r.kind=2\/r.kind=3 then kZ w (fT ms m r)
 else if r.kind=4 then (if lL m.short i then yO ms m r else uO w (decide (off=r.off)) (fT ms m r))
 else if r.kind=5 then uO w (decide (off=r.off)) (jK ms m r+r.bh)
 else w
def iZ(ms:L aI)(m:aI)(au off w:Z):Z:=qD ms m (cB au off 0 m.obj.ay).1 (cB au off 0 m.obj.ay).2 off w
def Lm(ms:L aI)(m:aI):Prop:=∀r∈m.obj.ay,(-2147483648<=fT ms m r/\fT ms m r<=2147483647)/\(0<=jK ms m r/\jK ms m r<=2147480000)
theorem acp(V:L Nat)(ms:L aI)(b g:Nat)(m:aI)(z k x:Int)(w:av)(ht:eH w)(h:uz w V ms)(hm:eF w V b g m)(K:eI (ah V) m)(hv:yl m.obj)(hd:Lm ms m)(h0:0<=x)(h1:x<=4294967295):
  Calls prog 122 #[bO b,I J z,I J k,I J x] w λe y=>e=aH (I J (iZ ms m z k x))/\az w y N:=by
 have HT:=ae ht;have HH:=ae h;have HM:=ae hm;have y:=ae (RV V b g m z k w hm (λr a=>⟨(K.ay.2 r a).1,by have:=(K.ay.2 r a).2;omega,(K.ay.2 r a).2.2⟩) K.ay.1);have j:=ae (show iZ ms m z k x=qD ms m (cB z k 0 m.obj.ay).1 (cB z k 0 m.obj.ay).2 k x from R);have Y:=ae (show (cB z k 0 m.obj.ay).2.kind≠0->(cB z k 0 m.obj.ay).2∈m.obj.ay by
  rcases GI z k m.obj.ay 0 with e|⟨i,a,e⟩
  ·rw[e];intro c;simp at c
  ·rw[e];intro _;exact bN a)
 have l:0<=(cB z k 0 m.obj.ay).1/\(cB z k 0 m.obj.ay).1<=65535:=by
  rcases GI z k m.obj.ay 0 with e|⟨i,a,e⟩
  ·rw[e];simp
  ·rw[e];have:=K.ay.1;simp;omega
 have cS:=ae (λW (j:az w W N)=>Rc V b g m (cB z k 0 m.obj.ay).1 W (HM.o.kept j) l.1 l.2 K.short);generalize cB z k 0 m.obj.ay=p at *;obtain⟨i,r⟩:=p;dsimp only at *;have cD:=ae (λW (j:az w W N) (a:r∈m.obj.ay)=>FY V ms b g m r W (HH.o.kept j) (HM.o.kept j) K (K.ay.2 r a).2.1 (K.ay.2 r a).2.2);have cT:=ae (λW (j:az w W N)=>RJ V ms b g m r W (HH.o.kept j) (HM.o.kept j) K);have cC:=ae (λW (j:az w W N) (a:r∈m.obj.ay) (q:r.kind=4)=>aaH V ms b g m r W (HT.o.grown j) (HH.o.kept j) (HM.o.kept j) K hv a q);have cN:=ae (λn W (j:az w W N)=>QM x n W (HT.o.grown j) h0 h1)
 have cP:=ae (λf v W (j:az w W N) a k=>abW x f v W (HT.o.grown j) h0 h1 a k);have AD:=ae (show r∈m.obj.ay->(r.kind=1\/r.kind=5)->-2048<=r.bh/\r.bh<=2047 from λa q=>by
  have:=(K.ay.2 r a).1
  unfold fX at this;rw[aD q]at this;exact this)
 have HD:=ae hd;clear ht h hm K hv hd l;obtain⟨s,q,O,u,l⟩:=r;unfold bO eU at *;dsimp only at *;go_enter func122,ntmps122;go_wp2_with fail;refine y.o.mono ?_;rintro e U ⟨rfl,a⟩;dsimp only;have H:=ae (ya a (aG U (.cells #[I J s,I J q,I J O,I J u,I J l] 75) N));have C:=ae (aA.new U #[I J s,I J q,I J O,I J u,I J l] 75);clear a y;by_cases e1:O=1
 ·subst e1;have a:=Y.o (by decide);have E:=ae (show iZ ms m z k x=bits .and .i64 (jK ms m ⟨s,q,1,u,l⟩+l) 4294967295 by rw[j.o];rfl);have tn:=(HD.o _ a).2;have an:=AD.o a (.inl R);generalize jK ms m ⟨s,q,1,u,l⟩=t at *;have w1:J.wrap (t+l)=t+l:=dD _ ⟨by omega,by omega⟩;clear a;go_wp2;generalize U.alloc (.cells #[I J s,I J q,I J 1,I J u,I J l] 75)=B at *;generalize U.heap.size=a at *;have c0:aq B ⟨a,0,N⟩=S (I J s):=C.o.cell 0;have c1:aq B ⟨a,1,N⟩=S (I J q):=C.o.cell 1
  have c2:aq B ⟨a,2,N⟩=S (I J 1):=C.o.cell 2;have c3:aq B ⟨a,3,N⟩=S (I J u):=C.o.cell 3;have c4:aq B ⟨a,4,N⟩=S (I J l):=C.o.cell 4;have X:=ae (λW (D:az B.drew W N)=>show aA W a #[I J s,I J q,I J 1,I J u,I J l] 75 from (mA C.o).grown D (by simp))
  go_region_held3 (λy=>aq y ⟨a,0,N⟩=S (I J s)/\aq y ⟨a,1,N⟩=S (I J q)/\aq y ⟨a,2,N⟩=S (I J 1)/\aq y ⟨a,3,N⟩=S (I J u)/\aq y ⟨a,4,N⟩=S (I J l))
   (go_keep)
   (first|(go_at_call 156;refine(cT.o _ (yf H.o)).mono ?_;rintro e y ⟨rfl,D⟩;have G:=X.o _ D;have M:=G.cell 0;have T:=G.cell 1;have Z:=G.cell 2;have s3:=G.cell 3;have s4:=G.cell 4;simp only[bI,bB,bL]at M T Z s3 s4))
  go_wp2;go_ret;exact⟨by rw[E.o];rfl,ya (yf H.o) D⟩
 by_cases e2:O=2
 ·subst e2;have a:=Y.o (by decide);have E:=ae (show iZ ms m z k x=kZ x (fT ms m ⟨s,q,2,u,l⟩) by rw[j.o];rfl);have B:=ae (cD.o _ H.o a);generalize fT ms m ⟨s,q,2,u,l⟩=t at *;clear a;go_wp2_with fail;refine B.o.mono ?_;rintro e D ⟨rfl,a⟩;have y:=ae (ya H.o a);clear a B;go_wp2_with fail;refine(cN.o t _ y.o).mono ?_;rintro e G ⟨rfl,a⟩;have B:=ae (ya y.o a);clear a;go_wp2;go_ret;exact⟨by rw[E.o];rfl,B.o⟩
 by_cases e3:O=3
 ·subst e3;have a:=Y.o (by decide);have E:=ae (show iZ ms m z k x=kZ x (fT ms m ⟨s,q,3,u,l⟩) by rw[j.o];rfl);have B:=ae (cD.o _ H.o a);generalize fT ms m ⟨s,q,3,u,l⟩=t at *;clear a;go_wp2_with fail;refine B.o.mono ?_;rintro e D ⟨rfl,a⟩;have y:=ae (ya H.o a);clear a B;go_wp2_with fail;refine(cN.o t _ y.o).mono ?_;rintro e G ⟨rfl,a⟩;have B:=ae (ya y.o a);clear a;go_wp2;go_ret;exact⟨by rw[E.o];rfl,B.o⟩
 by_cases e4:O=4
 ·subst e4;have a:=Y.o (by decide);have RR:=ae (show iZ ms m z k x=if lL m.short i then yO ms m ⟨s,q,4,u,l⟩else uO x (decide (k=q)) (fT ms m ⟨s,q,4,u,l⟩) by rw[j.o];rfl);have NZ:=ae (cC.o _ H.o a R);have YX:=ae (λW j=>cD.o W j a);have BA:=(HD.o _ a).1;have B:=ae (cS.o _ H.o);clear a cC cD cS;generalize fT ms m ⟨s,q,4,u,l⟩=t at *;go_wp2_with fail;refine B.o.mono ?_;rintro e y ⟨rfl,a⟩;rw[a];clear a y B
  cases es:lL m.short i
  ·have E:=ae (show iZ ms m z k x=uO x (decide (k=q)) t by rw[RR.o,es];rfl);clear es RR;have ux:=ae (λf W j=>cP.o f t W j BA.1 BA.2);go_wp2;generalize U.alloc (.cells #[I J s,I J q,I J 4,I J u,I J l] 75)=B at *;generalize U.heap.size=a at *;have c0:aq B ⟨a,0,N⟩=S (I J s):=C.o.cell 0;have c1:aq B ⟨a,1,N⟩=S (I J q):=C.o.cell 1;have c2:aq B ⟨a,2,N⟩=S (I J 4):=C.o.cell 2;have c3:aq B ⟨a,3,N⟩=S (I J u):=C.o.cell 3;have c4:aq B ⟨a,4,N⟩=S (I J l):=C.o.cell 4
   have X:=ae (λW (D:az B.drew W N)=>show aA W a #[I J s,I J q,I J 4,I J u,I J l] 75 from (mA C.o).grown D (by simp));have EQ:decide (k=q)=(k==q):=R
   go_region_held3 (λy=>aq y ⟨a,0,N⟩=S (I J s)/\aq y ⟨a,1,N⟩=S (I J q)/\aq y ⟨a,2,N⟩=S (I J 4)/\aq y ⟨a,3,N⟩=S (I J u)/\aq y ⟨a,4,N⟩=S (I J l))
    (go_keep)
    (first|(go_at_call 119;refine(YX.o _ (yf H.o)).mono ?_;rintro e y ⟨rfl,D⟩;have G:=X.o _ D;have M:=G.cell 0;have T:=G.cell 1;have Z:=G.cell 2;have s3:=G.cell 3;have s4:=G.cell 4;simp only[bI,bB,bL]at M T Z s3 s4)|(go_at_call 162;refine(ux.o _ _ (ya (yf H.o) D)).mono ?_;rintro e w2 ⟨rfl,Q⟩;have P:=X.o _ (ya D Q);have r0:=P.cell 0;have r1:=P.cell 1;have r2:=P.cell 2;have r3:=P.cell 3;have r4:=P.cell 4;simp only[bI,bB,bL]at r0 r1 r2 r3 r4))
   go_wp2;go_ret;exact⟨by rw[E.o];rfl,ya (ya (yf H.o) D) Q⟩
  ·have E:=ae (show iZ ms m z k x=yO ms m ⟨s,q,4,u,l⟩ by rw[RR.o,es];rfl);clear es RR;go_wp2_with fail;refine NZ.o.mono ?_;rintro e D ⟨rfl,a⟩;have y:=ae (ya H.o a);clear a NZ;go_wp2;go_ret;exact⟨by rw[E.o];rfl,y.o⟩
 by_cases e5:O=5
 ·subst e5;have a:=Y.o (by decide);have E:=ae (show iZ ms m z k x=uO x (decide (k=q)) (jK ms m ⟨s,q,5,u,l⟩+l) by rw[j.o];rfl);have tn:=(HD.o _ a).2;have an:=AD.o a (.inr R);generalize jK ms m ⟨s,q,5,u,l⟩=t at *;have w1:J.wrap (t+l)=t+l:=dD _ ⟨by omega,by omega⟩;have ux:=ae (λf W j=>cP.o f (t+l) W j (by omega) (by omega));clear a;go_wp2;generalize U.alloc (.cells #[I J s,I J q,I J 5,I J u,I J l] 75)=B at *;generalize U.heap.size=a at *;have c0:aq B ⟨a,0,N⟩=S (I J s):=C.o.cell 0
  have c1:aq B ⟨a,1,N⟩=S (I J q):=C.o.cell 1;have c2:aq B ⟨a,2,N⟩=S (I J 5):=C.o.cell 2;have c3:aq B ⟨a,3,N⟩=S (I J u):=C.o.cell 3;have c4:aq B ⟨a,4,N⟩=S (I J l):=C.o.cell 4;have X:=ae (λW (D:az B.drew W N)=>show aA W a #[I J s,I J q,I J 5,I J u,I J l] 75 from (mA C.o).grown D (by simp))
  go_region_held3 (λy=>aq y ⟨a,0,N⟩=S (I J s)/\aq y ⟨a,1,N⟩=S (I J q)/\aq y ⟨a,2,N⟩=S (I J 5)/\aq y ⟨a,3,N⟩=S (I J u)/\aq y ⟨a,4,N⟩=S (I J l))
   (go_keep)
   (first|(go_at_call 156;refine(cT.o _ (yf H.o)).mono ?_;rintro e y ⟨rfl,D⟩;have G:=X.o _ D;have M:=G.cell 0;have T:=G.cell 1;have Z:=G.cell 2;have s3:=G.cell 3;have s4:=G.cell 4;simp only[bI,bB,bL]at M T Z s3 s4)|(go_at_call 162;refine(ux.o _ _ (ya (yf H.o) D)).mono ?_;rintro e w2 ⟨rfl,Q⟩;have P:=X.o _ (ya D Q);have r0:=P.cell 0;have r1:=P.cell 1;have r2:=P.cell 2;have r3:=P.cell 3;have r4:=P.cell 4;simp only[bI,bB,bL]at r0 r1 r2 r3 r4))
  go_wp2;go_ret;exact⟨by rw[E.o];rfl,ya (ya (yf H.o) D) Q⟩
 have E:=ae (show iZ ms m z k x=x by rw[j.o];unfold qD;rw[ax e1,ax (by dsimp only;omega),ax e4,ax e5]);have a:(O==1)=F:=by simpa using e1
 have y:(O==2)=F:=by simpa using e2
 have B:(O==3)=F:=by simpa using e3
 have D:(O==4)=F:=by simpa using e4
 have G:(O==5)=F:=by simpa using e5
 clear e1 e2 e3 e4 e5;go_wp2;go_ret;exact⟨by rw[E.o];rfl,H.o⟩
structure uf (m:aI):Prop where
 text:∀p∈m.text,0<=p/\p<=1200000000
 bw:∀p∈m.bw,0<=p/\p<=1200000000
 data:0<=m.data/\m.data<=1200000000
 bf:0<=m.bf/\m.bf<=1200000000
theorem abx:∀(ms:L aI) (t f d:Z),(∀m∈ms,yl m.obj)->0<=t->t+5000*ah ms<=1200000000->0<=f->f+5000*ah ms<=1200000000->0<=d->d+5000*ah ms<=1200000000 ->
  ∀m∈iv ms t f d,(∀p∈m.text,0<=p/\p<=1200000000)/\(∀p∈m.bw,0<=p/\p<=1200000000)/\(0<=m.data/\m.data<=1200000000):=by
 intro ms
 induction ms with
 |nil=>intro t f d _ _ _ _ _ _ _ m a;simp[iv]at a
 |cons x ms r=>
  intro t f d g h i j k l q m a;simp only[dA]at i k q;have e:=g x (by simp);have s:=xj e 1 (.inl R) t h (by omega);have u:=xj e 2 (.inr R) f j (by omega);have w:=ma d (dG x.obj 3) l (by omega) (pX _);have v:ah x.obj.data<=64:=e.1.1.2.2;unfold iv at a;rcases nk.1 a with rfl|a
  ·refine⟨λp c=>?_,λp c=>?_,?_⟩
   ·have:=s.2.2 p c;omega
   ·have:=u.2.2 p c;omega
   ·show 0<=du d (dG x.obj 3)/\du d (dG x.obj 3)<=1200000000;omega
  ·exact r _ _ _ (λy a=>g y (by simp[a])) (by omega) (by omega) (by omega) (by omega) (by omega) (by omega) m a
theorem ac2:∀(ms:L aI) (b:Z),(∀m∈ms,yl m.obj)->0<=b->b+5000*ah ms<=1200000000->(∀m∈ms,(∀p∈m.text,0<=p/\p<=1200000000)/\(∀p∈m.bw,0<=p/\p<=1200000000)/\(0<=m.data/\m.data<=1200000000))->∀m∈gE ms b,uf m:=by
 intro ms
 induction ms with
 |nil=>intro b _ _ _ _ m a;simp[gE]at a
 |cons x ms i=>
  intro b e g h c m a;simp only[dA]at h;have j:=e x (by simp);have l:=ma b (dG x.obj 4) g (by omega) (pX _);have k:=j.1.2.1;unfold gE at a;rcases nk.1 a with rfl|a
  ·have q:=c x (by simp);exact⟨q.1,q.2.1,q.2.2,by dsimp only;omega⟩
  ·exact i _ (λy a=>e y (by simp[a])) (by omega) (by omega) (λy a=>c y (by simp[a])) m a
theorem afI(a:∀m∈ms,yl m.obj)(h:ah ms<=4096)(g:0<=t/\t<=1073741824)(e:0<=f/\f<=1073741824)(c:0<=d/\d<=1073741824):∀m∈aS t f d ms,uf m:=by
 have r:=Rf ms d a c.1 (by omega);exact ac2 _ _ (qf (AG ms t f d) a) (by omega) (by rw[Dx];omega) (abx ms t f d a g.1 (by omega) e.1 (by omega) c.1 (by omega))
theorem RQ(ps:L Z)(a:Z)(h:∀p∈ps,0<=p/\p<=1200000000):0<=lN ps a/\lN ps a<=1200000000:=by
 unfold lN;split
 ·omega
 ·rw[bQ]
  cases e:ps[(a.tdiv 4).toNat]? with
  |none=>simp
  |some p=>exact h p (pI e)
theorem Gl{m:aI}(h:uf m)(g e:Z)(i:0<=e)(j:e<=100000):0<=dR m g e/\dR m g e<=1200100000:=by
 have a:=RQ m.text e h.text;have b:=RQ m.bw e h.bw;have c:=h.data;have d:=h.bf;unfold dR
 repeat' split
 all_goals omega
def oN(s:gL):Prop:=0<=s.off/\s.off<=100000
theorem Q6(c:∀m∈ms,uf m)(s:gL)(a:oN s):0<=kJ ms s/\kJ ms s<=1200100000:=by
 unfold kJ
 cases s.mod with
 |none=>simp
 |some i=>
  dsimp only
  cases e:ms[i]? with
  |none=>simp
  |some m=>exact Gl (c m (pI e)) _ _ a.1 a.2
theorem adv(c:∀m∈ms,uf m)(m:aI)(e:∀s∈m.means,oN s)(r:cg):0<=jK ms m r/\jK ms m r<=1200100000:=by
 unfold jK;split
 ·omega
 ·rename_i h;have a:r.sym.toNat<ah m.means:=by omega
  rw[bQ,bW a];exact Q6 c _ (e _ (bN a))
theorem FV(c:yl o)(a:Z):(yp o a).length<=1200:=by
 have:=c.1.1
 unfold yp
 repeat' split
 ·exact this.1
 ·exact this.2.1
 ·have:=this.2.2;omega
 ·simp
theorem Tk(e:yl o){r:cg}(k:r∈o.ay):fX r/\0<=r.off/\r.off<=4800:=by
 obtain⟨i,j,g⟩:=kY k;have a:pq o r:=by rw[<- g];exact(e.2.2.2.2 i j).1
 have c:=a.2.2.2.2.1;have q:=yW a.2.1;have p:=FV e r.au;obtain⟨h,l,m⟩:=c;exact⟨a.2.1,h,by omega⟩
theorem aa5(e:∀m∈ms,uf m)(m:aI)(g:∀s∈m.means,oN s)(c:uf m)(i:yl m.obj):Lm ms m:=by
 intro r h;have t:=adv e m g r;have o:=Tk i h;have a:=Gl c r.au r.off o.2.1 (by omega);unfold fT;omega
theorem aaz:∀(ms:L aI) (t f d:Z),(iv ms t f d).map aI.means=ms.map aI.means:=by
 intro ms
 induction ms with
 |nil=>intro t f d;rfl
 |cons m ms a=>intro t f d;unfold iv;rw[jT,a,jT];rfl
theorem aaS:∀(ms:L aI) (b:Z),(gE ms b).map aI.means=ms.map aI.means:=by
 intro ms
 induction ms with
 |nil=>intro b;rfl
 |cons m ms a=>intro b;unfold gE;rw[jT,a,jT]
theorem J9(ms:L aI)(t f d:Z):(aS t f d ms).map aI.means=ms.map aI.means:=by unfold aS;rw[aaS,aaz]
theorem aaI(ms:L aI):(fU ms).map aI.means=ms.map aI.means:=by unfold fU;rw[Aq];rfl
theorem aaV(ms:L aI)(t f d:Z):(uP t f d ms).map aI.means=ms.map aI.means:=by unfold uP;rw[J9,aaI,J9]
theorem ack(ms:L aI)(t f d:Z):(uP t f d ms).map aI.obj=ms.map aI.obj:=by unfold uP;rw[sk,DA,sk]
theorem sj(ms:L aI)(t f d:Z):(aS t f d ms).length=ah ms:=by unfold aS;rw[RH,Dx]
theorem afc{α β:Type}(g:α->β){ms a:L α}(h:a.map g=ms.map g){P:β->Prop}(i:∀m∈ms,P (g m)):∀m∈a,P (g m):=by
 intro m c
 have:g m∈ms.map g:=by rw[<- h];exact E8 c
 obtain⟨x,j,e⟩:=mh.1 this;rw[<- e];exact i x j
theorem abz(e:∀m∈ms,eI n m)(c:∀m∈ms,yl m.obj)(a:ah ms<=4096)(k:0<=t/\t<=1073741824)(j:0<=f/\f<=1073741824)(i:0<=d/\d<=1073741824):∀m∈uP t f d ms,eI n m:=by
 have g:=Lt e c a (t:=t) (f:=f) (d:=d) (by omega) (by omega) (by omega);have h:=qf (sk ms t f d) c;exact Lt (Q5 g) (qf (DA _) h) (by unfold fU;rw[fZ,sj];exact a) (by omega) (by omega) (by omega)
theorem ac6(h:∀m∈ms,yl m.obj)(e:ah ms<=4096)(g:0<=t/\t<=1073741824)(c:0<=f/\f<=1073741824)(a:0<=d/\d<=1073741824):∀m∈uP t f d ms,uf m:=by
 have i:=qf (sk ms t f d) h;exact afI (qf (DA _) i) (by unfold fU;rw[fZ,sj];exact e) g c a
theorem acD(c:yl o)(a:Z):iU o a<=1200:=by
 unfold iU;split
 ·have:=c.1.2.1;omega
 ·have:=FV c a;omega
theorem To(g:yl o){y:dz}(j:y∈o.aE):0<=y.off/\y.off<=4800:=by
 obtain⟨i,h,e⟩:=kY j
 have:=(g.2.2.2.1 i h).1
 rw[e]at this;have s:=acD g y.au;obtain⟨-,-,-,-,a,-,c⟩:=this;omega
theorem acS(n:L UInt8)(a:Z):∀(ys:L dz) (s f:Z),mi n a ys=S (s,f)->∃y∈ys,y.au=s/\y.off=f:=by
 intro ys
 induction ys with
 |nil=>intro s f h;simp[mi]at h
 |cons y ys g=>
  intro s f h;unfold mi at h;split at h
  ·simp at h;exact⟨y,by simp,h.1,h.2⟩
  ·obtain⟨z,c,e⟩:=g s f h;exact⟨z,by simp[c],e⟩
theorem Rx(n:L UInt8)(a:Z):∀(os:L aF) (i:M),(∀o∈os,yl o)->oN (qC n a i os):=by
 intro os
 induction os with
 |nil=>intro i _;unfold qC oN;simp[nX]
 |cons o os h=>
  intro i c;unfold qC
  cases e:mi n a o.aE with
  |none=>exact h _ (λx a=>c x (by simp[a]))
  |some p=>
   obtain⟨s,f⟩:=p;obtain⟨y,g,-,rfl⟩:=acS n a o.aE s f e
   have:=To (c o (by simp)) g
   unfold oN;dsimp only;omega
theorem Sy(os:L aF)(n:L UInt8)(a:∀o∈os,yl o):oN (gX os n):=by
 unfold gX lh;split
 ·exact Rx n 1 os 0 a
 ·exact Rx n 2 os 0 a
theorem abE(os:L aF)(i:M)(o:aF)(a:yl o)(y:dz)(e:y∈o.aE)(c:∀o∈os,yl o):oN (jW os i y):=by
 unfold jW;split
 ·have:=To a e;unfold oN;dsimp only;omega
 ·exact Sy os _ c
theorem acu(os:L aF)(i:M)(a:i<ah os)(y:dz)(j:M)(h:(jW os i y).mod=S j):j<ah os:=by
 unfold jW at h;split at h
 ·simp at h;omega
 ·exact Li os _ j h
structure ahb (os:L aF) (m:aI):Prop where
 obj:yl m.obj
 nice:eI os.length m
 low:∀s∈m.means,oN s
 short:m.short=[]
theorem Kv(os:L aF)(k:∀o∈os,yl o):∀m∈fH os (os.map dV),ahb os m:=by
 intro m h;unfold fH at h;obtain⟨i,g,rfl⟩:=kY h;rw[List.length_mapIdx,fZ]at g;rw[List.getElem_mapIdx,wb];have e:=k _ (bN g);generalize os[i]=o at *;have c:=(FT e)
 have a:∀s∈(o.aE.map (jW os i)),oN s/\∀j,s.mod=S j->j<ah os:=by
  intro s c;obtain⟨y,l,rfl⟩:=mh.1 c;exact⟨abE os i o e y l k,λj a=>acu os i g y j a⟩
 refine⟨e,⟨⟨by simp[sN,dV],by simp[sN,dV]⟩,⟨by simp[sN,dV],by simp[sN,dV]⟩,by simp[sN,dV],by simp[sN,dV],⟨?_,λs c=>?_⟩,by simp[sN,dV],⟨c.2.2.2.2.2,λr l=>?_⟩⟩,λs c=>(a s c).1,R⟩
 ·show (o.aE.map (jW os i)).length<=65535;rw[fZ];exact c.2.2.2.2.1
 ·have q:=a s c
  have:=q.1
  unfold oN at this;exact⟨by omega,q.2⟩
 ·have:=Tk e l
  exact⟨this.1,by omega,by omega⟩
def nW(base A begin_:Z)(ws:L Z):L Z:=ws++List.replicate (((begin_-base+3)/4).toNat-ah ws) A
def jV(ms:L aI)(m:aI)(au:Z):M->L Z->L Z
 |_,[]=>[]
 |i,w::ws=>if dR m au (4*i)<dR m au (4*i+4)then iZ ms m au (4*i) w::jV ms m au (i+1) ws else jV ms m au (i+1) ws
def pL(ms:L aI)(m:aI)(au base A:Z)(ws:L Z):L Z:=nW base A (dR m au 0) ws++jV ms m au 0 (yp m.obj au)
def dZ(ms:L aI)(au base A:Z):L aI->L Z->L Z
 | [],ws=>ws
 |m::r,ws=>dZ ms au base A r (pL ms m au base A ws)
theorem aeW(h:base+4*(ah ws:Z)<b):nW base A b ws=nW base A b (ws++[A]):=by
 unfold nW;have e:((b-base+3)/4).toNat-ah ws=((b-base+3)/4).toNat-(ws++[A]).length+1:=by rw[bX,xF];omega
 rw[e,List.replicate_succ,List.append_assoc,List.singleton_append]
theorem aeV(h:¬base+4*(ah ws:Z)<b):nW base A b ws=ws:=by
 unfold nW;have e:((b-base+3)/4).toNat-ah ws=0:=by omega
 rw[e,List.replicate_zero,lG]
theorem DI(base A b:Z)(ws:L Z):(nW base A b ws).length=max (ah ws) ((b-base+3)/4).toNat:=by
 unfold nW;rw[bX,List.length_replicate];omega
theorem aas(ms:L aI)(m:aI)(a:Z)(ws:L Z)(k:M)(h:k<ah ws):jV ms m a k (ws.drop k)=if dR m a (4*k)<dR m a (4*k+4)then iZ ms m a (4*k) ws[k]::jV ms m a (k+1) (ws.drop (k+1))else jV ms m a (k+1) (ws.drop (k+1)):=by
 rw[List.drop_eq_getElem_cons h];rfl
theorem aa7(ms:L aI)(m:aI)(a:Z):∀(ws:L Z) (k:M),(jV ms m a k ws).length<=ah ws:=by
 intro ws
 induction ws with
 |nil=>intro k;simp[jV]
 |cons w ws c=>
  intro k
  have:=c (k+1)
  unfold jV;split
  ·simp only[dA];omega
  ·simp only[dA];omega
structure jB (W0:av) (R:M) (base A:Z) (ws:L Z) (v:aC) (W:av):Prop where
 gr:W0.grownBy W N
 lo:W0.heap.size<=R
 aO:aA W R #[I J base,I J A,v] 159
 row:W.ownsRow W0.heap.size 3 1 v ws.length (ws.map (I .i64))
structure mS (V W':av) (R:M) (v v':aC):Prop where
 gQ:∀k,k<V.heap.size->S k≠v.ownBlock->k≠R->W'.heap[k]?=V.heap[k]?
 aO:∀k,v'.ownBlock=S k->v.ownBlock=S k\/V.heap.size<=k
 size:V.heap.size<=W'.heap.size
section
variable{j V W i p:av}{a m:M}{base A b n x:Z}{ws s:L Z}{v d u l:aC}
theorem mS.refl(V:av)(a:M)(v:aC):mS V V a v v:=⟨λ_ _ _ _=>rfl,λ_ h=>.inl h,bz _⟩
theorem mS.grown(h:mS V W a v u)(e:az W i N):mS V i a v u :=
 ⟨λk c g q=>(e.block k (oc c h.size) (by simp)).trans (h.gQ k c g q),h.aO,fV h.size e.size⟩
theorem mS.trans(h:mS V W a v u)(q:mS W i a u l):mS V i a v l :=
 ⟨λk r w y=>(q.gQ k (oc r h.size) (λc=>by
   rcases h.aO k c.symm with e|e
   ·exact w e.symm
   ·omega) y).trans (h.gQ k r w y),
  λk e=>by
   rcases q.aO k e with g|g
   ·exact h.aO k g
   ·exact .inr (fV h.size g),
  fV h.size q.size⟩
theorem jB.kept(h:jB j a base A ws v W)(c:az W i N):jB j a base A ws v i :=
 ⟨ya h.gr c,h.lo,h.aO.grown c (by simp),h.row.kept c (Decidable.em _)⟩
theorem jB.step(h:jB j a base A ws v V)(g:aV p j.heap.size 3 1 d (ah ws+1) (ws.map (I .i64)++[I J x]))(c:az V p v.ownBlock)(w:d.ownBlock=v.ownBlock\/d.ownBlock=S V.heap.size):
  jB j a base A (ws++[x]) d (aK p ⟨a,2,N⟩ d)/\mS V (aK p ⟨a,2,N⟩ d) a v d:=by
 have y:=fh h.aO c (dr.own h.row) (by decide);have r:=bK p a 2 d;refine⟨⟨?_,h.lo,?_,?_⟩,⟨λk z B C=>?_,λk e=>?_,fV c.size r.size⟩⟩
 ·exact eh (eh h.gr c (λk e=>(h.row.lt k e).1)) r (by intro k e;simp at e;have:=h.lo;omega)
 ·simpa using y.set 2 d
 ·have:=ec g r (dr.aO y) (by decide)
  rw[bX,xF,pH];exact this
 ·rw[r.block k (oc z c.size) (by simp;omega)];exact c.block k z B
 ·rcases w with q|q
  ·exact .inl (q ▸ e)
  ·rw[q]at e;simp at e;exact .inr (by omega)
theorem jB.other(h:jB j m b n s l V)(g:jB j a base A ws v V)(t:mS V i a v d)(H:az j i N)(B:m≠a)(D:∀k,l.ownBlock=S k->v.ownBlock≠S k):
  jB j m b n s l i/\∀k,l.ownBlock=S k->d.ownBlock≠S k:=by
 have O:S m≠v.ownBlock:=λc=>by
  obtain⟨w,y⟩:=dr.own g.row m c.symm
  have:=y.symm.trans h.aO
  simp at this
 refine⟨⟨H,h.lo,?_,?_⟩,λk e c=>?_⟩
 ·have:=t.gQ m h.aO.lt O B
  exact this.trans h.aO
 ·refine⟨h.row.1,?_⟩;rcases h.row.2 with q|⟨y,z,w,G,K,E,r⟩
  ·exact .inl q
  ·refine .inr ⟨y,z,w,G,K,?_,r⟩;have C:l.ownBlock=S y:=by rw[G];rfl
   rw[t.gQ y (h.row.lt y C).2 (λc=>D y C c.symm) (λc=>by
    have:=E.symm.trans (c ▸ g.aO)
    simp at this)]
   exact E
 ·rcases t.aO k c with q|q
  ·exact D k e q
  ·have:=(h.row.lt k e).2
   omega
end
theorem af0(n:Z):bits .and .i64 n 4294967295=n%4294967296:=by
 have c:(de 64 4294967295).toNat=2 ^ 32-1:=by decide
 have a:(de 64 n &&& de 64 4294967295).toNat=(n%((2 ^ 64:M):Z)).toNat%2 ^ 32:=by
  rw[BitVec.toNat_and,BitVec.toNat_ofInt,c,Nat.and_two_pow_sub_one_eq_mod]
 show J.wrap ((de 64 n &&& de 64 4294967295).toNat:M)=_;rw[a,pD];omega
theorem aem(a:M)(n:Z):fF a n<2 ^ 32:=by
 have c:=kh n 0 20;have e:=kh n 20 1;have g:=kh n 1 10;have h:=kh n 11 1;have i:=kh n 12 8;have j:=kh n 0 12;have k:=kh n 12 1;have l:=kh n 5 6;have m:=kh n 1 4;have p:=kh n 5 7;have q:=kh n 0 5;unfold fF
 repeat' split
 ·omega
 ·exact kw (kw (kw (by omega) (by omega)) (by omega)) (by omega)
 ·omega
 ·exact kw (kw (kw (by omega) (by omega)) (by omega)) (by omega)
 ·exact kw (by omega) (by omega)
 ·omega
theorem ac8(a:M):pw.getD a 0<2 ^ 32:=by
 have h:∀x∈pw,x<2 ^ 32:=by decide
 rw[bQ]
 cases e:pw[a]? with
 |none=>simp
 |some x=>exact h x (pI e)
theorem agp(c g e j:M)(n:Z):fz c g e j n<2 ^ 32:=by
 unfold fz kW;have p:=aem (qi.getD c 0) n;have f:=ac8 c;have q:=kh g 0 5;have r:=kh e 0 5;have s:=kh j 0 5;generalize qi.getD c 0=a at *;have k:=kw f p;generalize pw.getD c 0 |||fF a n=h at *;have l:(if pz a then h |||bP g 0 5*128 else h)<2 ^ 32:=by
  split
  ·exact kw k (by omega)
  ·exact k
 dsimp only;generalize (if pz a then h |||bP g 0 5*128 else h)=i at *;have m:(if px a then i |||bP e 0 5*32768 else i)<2 ^ 32:=by
  split
  ·exact kw l (by omega)
  ·exact l
 generalize (if px a then i |||bP e 0 5*32768 else i)=u at *;split
 ·exact kw m (by omega)
 ·exact m
theorem FR(e g a c:M)(n:Z):0<=tO e g a c n/\tO e g a c n<=4294967295:=by
 unfold tO;split
 ·omega
 ·have:=agp e g a c n
  omega
theorem aaX(ms:L aI)(m:aI)(c a x:Z)(e:0<=x)(g:x<=4294967295):0<=iZ ms m c a x/\iZ ms m c a x<=4294967295:=by
 unfold iZ qD;generalize (cB c a 0 m.obj.ay).2=r
 repeat' split
 ·rw[af0];omega
 ·exact FR _ _ _ _ _
 ·exact FR _ _ _ _ _
 ·exact FR _ _ _ _ _
 ·exact FR _ _ _ _ _
 ·exact⟨e,g⟩
def lV(xs:L Z):Prop:=∀x∈xs,0<=x/\x<=4294967295
theorem lV.LX{a:L Z}(h:jm a):lV a:=by
 intro x e;obtain⟨i,c,rfl⟩:=kY e;exact h i c
theorem lV.P8{a ys:L Z}(h:lV a)(k:lV ys):lV (a++ys):=by
 intro x c;rcases nR.1 c with q|q
 ·exact h x q
 ·exact k x q
theorem abY(ms:L aI)(m:aI)(c:Z):∀(ws:L Z) (k:M),lV ws->lV (jV ms m c k ws):=by
 intro ws
 induction ws with
 |nil=>intro k _ x a;simp[jV]at a
 |cons w ws g=>
  intro k e;have i:=g (k+1) (λx a=>e x (by simp[a]));unfold jV;split
  ·intro x a;rcases nk.1 a with rfl|a
   ·have:=e w (by simp)
    exact aaX ms m c _ w this.1 this.2
   ·exact i x a
  ·exact i
theorem AP(a:yl o)(c:Z):lV (yp o c):=by
 unfold yp
 repeat' split
 ·exact lV.LX a.2.2.1.1
 ·exact lV.LX a.2.2.1.2.1
 ·exact lV.LX a.2.2.1.2.2
 ·intro x e;simp at e
theorem agq(c:0<=A/\A<=4294967295)(h:lV ws):lV (nW base A b ws):=by
 unfold nW;refine h.P8 λx a=>?_
 have:=List.eq_of_mem_replicate a
 omega
theorem Ga(ms:L aI)(a base A:Z)(e:0<=A/\A<=4294967295):∀(l:L aI) (ws:L Z),(∀m∈l,yl m.obj)->lV ws->lV (dZ ms a base A l ws):=by
 intro l
 induction l with
 |nil=>intro ws _ h;exact h
 |cons m l g=>
  intro ws c h;unfold dZ;refine g _ (λx a=>c x (by simp[a])) ?_;unfold pL;exact(agq e h).P8 (abY ms m a _ 0 (AP (c m (by simp)) a))
theorem Dh(m:aI)(c:Z)(ws:L Z)(k:M)(a:Z):(dU m c k ws a)[0]?=S a:=by
 cases ws<;>rfl
theorem QR(ms:L aI)(m:aI)(c:Z):∀(ws:L Z) (k:M) (a:Z),(∀i,i<=ah ws->S (dR m c (4*(k+i:M)))=(dU m c k ws a)[i]?)->4*((jV ms m c k ws).length:Z)=ff m c k ws a-a:=by
 intro ws
 induction ws with
 |nil=>intro k a _;simp[jV,ff]
 |cons w ws p=>
  intro k a h;have j:=h 0 (by simp);have g:=h 1 (by simp);have s:∀i,i<=ah ws->S (dR m c (4*(k+1+i:M)))=(dU m c (k+1) ws (if eQ m c (4*k) a then a+4 else a))[i]?:=by
   intro i l
   have:=h (i+1) (by simp;omega)
   rw[show k+(i+1)=k+1+i by omega]at this;exact this
  have e:=p (k+1) _ s;have r:(dU m c k (w::ws) a)[1]?=S (if eQ m c (4*k) a then a+4 else a):=Dh m c ws (k+1) _;have q:(dU m c k (w::ws) a)[0]?=S a:=R;rw[q]at j;rw[r]at g;simp only[nv,Nat.add_zero]at j g;have u:(4*((k+1:M):Z))=4*(k:Z)+4:=by omega
  rw[u]at g;have l:ff m c k (w::ws) a=ff m c (k+1) ws (if eQ m c (4*k) a then a+4 else a):=R;rw[l];unfold jV;rw[j,g];clear s q r j g l h p;generalize eQ m c (4*k) a=b at *
  cases b
  ·simp only[Bool.false_eq_true,if_false]at e ⊢;rw[ax (by omega)];exact e
  ·simp only[if_true]at e ⊢;rw[aD (by omega),dA];omega
def qa(au:M)(ps:aI->L Z):L aI->Z->Z->Prop
 | [],t,e=>e=t
 |m::r,t,e=>ps m=ju m au t/\qa au ps r (iG m au t) e
theorem Rn(m:aI)(k:M):dR m 1 (4*(k:Z))=m.text.getD k 0:=by
 unfold dR lN;rw[aD R,sJ (by omega),ax (by omega)]
 congr 1
 omega
theorem Q7(m:aI)(k:M):dR m 2 (4*(k:Z))=m.bw.getD k 0:=by
 unfold dR lN;rw[ax (by decide),aD R,sJ (by omega),ax (by omega)]
 congr 1
 omega
theorem adC(ms:L aI)(m:aI)(a:M)(base A t:Z)(ws:L Z)(ps:L Z)(g:ps=ju m a t)(c:∀k:M,dR m a (4*(k:Z))=ps.getD k 0)(l:0<=t)(q:t<=562949953421312)(r:base%4=0)(u:base+4*(ah ws:Z)=t):
  base+4*((pL ms m a base A ws).length:Z)=iG m a t:=by
 have R:=ma t (dG m.obj a) l (by omega) (pX _);have e:sM m a t=du t (dG m.obj a):=rfl;have p:=ze m a (yp m.obj a) 0 (sM m a t);have h:ps=dU m a 0 (yp m.obj a) (sM m a t):=g;have j:dR m a 0=sM m a t:=by
  have:=c 0
  rw[Int.ofNat_zero,Int.mul_zero]at this;rw[this,bQ,h,Dh];rfl
 have C:=QR ms m a (yp m.obj a) 0 (sM m a t) (λi s=>by
  rw[Nat.zero_add,c i,h,bQ,bW (by rw[p.1];omega)];rfl)
 unfold pL;rw[bX,DI,j];unfold iG;rw[e]at C ⊢;omega
theorem GH(ms:L aI)(a:M)(s:a=1\/a=2)(ps:aI->L Z)(base A:Z)(q:base%4=0)(g:∀(m:aI) (k:M),dR m a (4*(k:Z))=(ps m).getD k 0):
  ∀(l:L aI) (ws:L Z) (t e:Z),(∀m∈l,yl m.obj)->0<=t->t+5000*ah l<=1200000000->base+4*(ah ws:Z)=t->qa a ps l t e->base+4*((dZ ms a base A l ws).length:Z)=e:=by
 intro l
 induction l with
 |nil=>intro ws t e _ _ _ i c;unfold dZ;unfold qa at c;omega
 |cons m l u=>
  intro ws t e j h p i c;unfold qa at c;simp only[dA]at p;have r:=xj (j m (by simp)) a s t h (by omega);unfold dZ;exact u _ (iG m a t) e (λx a=>j x (by simp[a])) (by omega) (by omega) (adC ms m a base A t ws (ps m) c.1 (g m) h (by omega) q i) c.2
def pZ(au:M):L aI->Z->Z
 | [],t=>t
 |m::r,t=>pZ au r (iG m au t)
theorem Re(a:M)(h:a=1\/a=2):∀(l:L aI) (t:Z),(∀m∈l,yl m.obj)->0<=t->t+5000*ah l<=1200000000->t<=pZ a l t/\pZ a l t<=t+4815*ah l:=by
 intro l
 induction l with
 |nil=>intro t _ _ _;simp[pZ]
 |cons m l i=>
  intro t c e g;simp only[dA]at g ⊢;have r:=xj (c m (by simp)) a h t e (by omega);have q:=i (iG m a t) (λx a=>c x (by simp[a])) (by omega) (by omega);unfold pZ;omega
theorem Rj:∀(ms:L aI) (t f d:Z),qa 1 aI.text (iv ms t f d) t (pZ 1 ms t)/\qa 2 aI.bw (iv ms t f d) f (pZ 2 ms f):=by
 intro ms
 induction ms with
 |nil=>intro t f d;exact⟨R,R⟩
 |cons m ms e=>
  intro t f d;have q:=e (iG m 1 t) (iG m 2 f) (du d (dG m.obj 3)+4*ah m.obj.data);unfold iv qa pZ;have a:iG (xI m t f d) 1 t=iG m 1 t:=Gm (m:=m) (m':=xI m t f d) R R 1 t;have c:iG (xI m t f d) 2 f=iG m 2 f:=Gm (m:=m) (m':=xI m t f d) R R 2 f;rw[a,c];exact⟨⟨(Gh (m:=m) (m':=xI m t f d) R R 1 t).symm,q.1⟩,(Gh (m:=m) (m':=xI m t f d) R R 2 f).symm,q.2⟩
theorem Gj(a:M)(ps:aI->L Z)(c:∀(m:aI) (b:Z),ps {m with bf:=b}=ps m):∀(ms:L aI) (b t e:Z),qa a ps ms t e->qa a ps (gE ms b) t e:=by
 intro ms
 induction ms with
 |nil=>intro b t e h;exact h
 |cons m ms j=>
  intro b t e h;unfold qa at h;unfold gE qa;have g:iG {m with bf:=du b (dG m.obj 4)} a t=iG m a t:=Gm (m:=m) (m':={m with bf:=du b (dG m.obj 4)}) R R a t;have i:ju {m with bf:=du b (dG m.obj 4)} a t=ju m a t:=Gh (m:=m) (m':={m with bf:=du b (dG m.obj 4)}) R R a t;rw[g,i,c];exact⟨h.1,j _ _ _ h.2⟩
def sD:L aI->Z->Z->Prop
 | [],d,e=>e=d
 |m::r,d,e=>m.data=du d (dG m.obj 3)/\sD r (du d (dG m.obj 3)+4*ah m.obj.data) e
theorem QS:∀(ms:L aI) (t f d:Z),sD (iv ms t f d) d (iY ms d):=by
 intro ms
 induction ms with
 |nil=>intro t f d;rfl
 |cons m ms a=>intro t f d;unfold iv sD iY;exact⟨R,a _ _ _⟩
theorem Ri:∀(ms:L aI) (b d e:Z),sD ms d e->sD (gE ms b) d e:=by
 intro ms
 induction ms with
 |nil=>intro b d e h;exact h
 |cons m ms a=>intro b d e h;unfold sD at h;unfold gE sD;exact⟨h.1,a _ _ _ h.2⟩
theorem aa6(ms:L aI)(m:aI):∀(ws:L Z) (k:M),(jV ms m 3 k ws).length=ah ws:=by
 intro ws
 induction ws with
 |nil=>intro k;rfl
 |cons w ws a=>
  intro k;unfold jV
  have:dR m 3 (4*(k:Z))<dR m 3 (4*(k:Z)+4):=by
   unfold dR;simp only[ax (show ¬(3:Z)=1 by decide),ax (show ¬(3:Z)=2 by decide),aD];omega
  rw[aD this,dA,a,dA]
theorem RU(ms:L aI)(base A:Z)(r:base%4=0):∀(l:L aI) (ws:L Z) (d e:Z),(∀m∈l,yl m.obj)->0<=d->d+5000*ah l<=1200000000->base+4*(ah ws:Z)=d->sD l d e->base+4*((dZ ms 3 base A l ws).length:Z)=e:=by
 intro l
 induction l with
 |nil=>intro ws d e _ _ _ p a;unfold dZ;unfold sD at a;omega
 |cons m l q=>
  intro ws d e c i j p a;unfold sD at a;simp only[dA]at j;have R:=ma d (dG m.obj 3) i (by omega) (pX _);have k:ah m.obj.data<=64:=(c m (by simp)).1.1.2.2;unfold dZ;refine q _ _ e (λx a=>c x (by simp[a])) ?_ ?_ ?_ a.2
  ·omega
  ·omega
  ·have g:dR m 3 0=m.data:=by unfold dR;simp
   have h:yp m.obj 3=m.obj.data:=rfl;unfold pL;rw[bX,DI,g,aa6,h,a.1];omega
theorem abd:∀(ms:L aI) (b:Z),(∀m∈ms,yl m.obj)->0<=b->b+5000*ah ms<=1200000000->b<=nl ms b/\nl ms b<=b+271*ah ms:=by
 intro ms
 induction ms with
 |nil=>intro b _ _ _;simp[nl]
 |cons m ms g=>
  intro b a c e;simp only[dA]at e ⊢;have R:=ma b (dG m.obj 4) c (by omega) (pX _);have h:=(a m (by simp)).1.2.1;have q:=g (du b (dG m.obj 4)+4*m.obj.bf) (λx c=>a x (by simp[c])) (by omega) (by omega);unfold nl;omega
theorem Rp:∀(ms:L aI) (d:Z),(∀m∈ms,yl m.obj)->0<=d->d+5000*ah ms<=1200000000->d<=iY ms d/\iY ms d<=d+271*ah ms:=by
 intro ms
 induction ms with
 |nil=>intro b _ _ _;simp[iY]
 |cons m ms h=>
  intro d a c e;simp only[dA]at e ⊢;have R:=ma d (dG m.obj 3) c (by omega) (pX _);have g:ah m.obj.data<=64:=(a m (by simp)).1.1.2.2;have q:=h (du d (dG m.obj 3)+4*ah m.obj.data) (λx c=>a x (by simp[c])) (by omega) (by omega);unfold iY;omega
theorem jB.put{i V a:av}{R:M}{x:Z}{v c:aC}(h:jB i R base A ws v V)(e:aV a i.heap.size 3 1 c (ah ws+1) (ws.map (I .i64)++[I J x]))(k:az V a v.ownBlock)(j:c.ownBlock=v.ownBlock\/c.ownBlock=S V.heap.size):
  (jB i R base A (ws++[x]) c (aK a ⟨R,2,N⟩ c)/\mS V (aK a ⟨R,2,N⟩ c) R v c)/\aA a R #[I J base,I J A,v] 159/\aq a ⟨R,2,N⟩=S v/\dx a ⟨R,2,N⟩=F/\aq a ⟨R,1,N⟩=S (I J A):=by
 have g:=fh h.aO k (dr.own h.row) (by decide);exact⟨h.step e k j,g,g.cell 2,g.free 2,g.cell 1⟩
theorem ac1(k:av)(g:M)(o:aF)(a:Z)(w:av)(h:yr k g o)(q:az k w N):
  Calls prog 121 #[aM (S ⟨g,0,N⟩),I J a] w λe i=>∃c cap,e=aH (ak c (yp o a).length cap)/\(yq k c (yp o a)/\(yp o a).length<=cap/\cap<=cu)/\i=w:=by
 obtain⟨l,x,s,v,r,u,G,K,U,P,H,O,p,i,j,m,-⟩:=h.open;have c:=p.grown q (by simp);have V:=c.cell 0;have W:=c.cell 1;have X:=c.cell 2;have y:=ae (yq.dh i);have z:=ae (yq.dh j);have B:=ae (yq.dh m);have C:=ae (kF i);have D:=ae (kF j);have E:=ae (kF m);clear h p c i j m q;unfold yp;by_cases c:a=1
 ·subst c;go_enter func121,ntmps121;go_wp2;go_ret;exact⟨l,x,R,⟨y.o,C.o⟩,R⟩
 by_cases i:a=2
 ·subst i;go_enter func121,ntmps121;go_wp2;go_ret;exact⟨s,v,R,⟨z.o,D.o⟩,R⟩
 by_cases j:a=3
 ·subst j;go_enter func121,ntmps121;go_wp2;go_ret;exact⟨r,u,R,⟨B.o,E.o⟩,R⟩
 ·rw[ax c,ax i,ax j];have m:(a==1)=F:=df.2 c;have p:(a==2)=F:=df.2 i;have Q:(a==3)=F:=df.2 j;clear c i j;go_enter func121,ntmps121;go_wp2;go_ret;exact⟨N,0,R,⟨λh=>by simp at h,by simp,by simp⟩,R⟩
theorem afY(D:av)(Y:L M)(ms:L aI)(b g:M)(m:aI)(q:Z)(a:M)(base A:Z)(ws:L Z)(v:aC)(w:av)(ht:eH D)(h:uz D Y ms)(hm:eF D Y b g m)(hn:eI (ah Y) m)(hv:yl m.obj)(hd:Lm ms m)(hr:jB D a base A ws v w)(hb0:0<=base)(hb1:base<=1200000000)(hl:ah ws<=300090000)(ha:dR m q 0<=1200100000):
  Calls prog 78 #[bO a,bO b,I J q] w λe C=>e=aH (aZ #[])/\∃Q,jB D a base A (pL ms m q base A ws) Q C/\mS w C a v Q:=by
 obtain⟨i0,hi,hz0,hz1,hz2⟩:=fG Tryz.pR;have HT:=ae ht;have HH:=ae h;have HM:=ae hm;have HR:=ae hr;have cA:=ae (λ(P:Z) W (p:az D W N) a c=>Kj Y b g (ah Y) m q P W (HM.o.kept p) hn a c);have cL:=ae (λ(P x:Z) W (p:az D W N) a c=>acp Y ms b g m q P x W (HT.o.grown p) (HH.o.kept p) (HM.o.kept p) hn hv hd a c);have cW:Hd (∀W,az D W N->Calls prog 121 #[aM (some ⟨g,0,N⟩),I J q] W λe C=>∃c a,e=aH (ak c (yp m.obj q).length a)/\(yq D c (yp m.obj q)/\(yp m.obj q).length<=a/\a<=cu)/\C=W):=λW p=>by
  obtain⟨v1,v2,r,s,c,l,-⟩:=hm;exact ac1 D g m.obj q W l p
 have Ur:=ae (λW (p:az D W N)=>show aq W ⟨b,0,N⟩=some (aM (some ⟨g,0,N⟩))from by
  obtain⟨v1,v2,r,s,c,-⟩:=hm;exact(c.grown p (by simp)).cell 0)
 have hwl:=FV hv q;have Yx:=ae (AP hv q);have Ek:=ae (show pL ms m q base A ws=nW base A (dR m q 0) ws++jV ms m q 0 ((yp m.obj q).drop 0)from R);generalize pL ms m q base A ws=AT at *;generalize yp m.obj q=H at *;have c:=ae (cA.o 0 w HR.o.gr (by omega) (by omega));generalize dR m q 0=O at *;clear ht h hm hr hn hv hd;unfold bO at *;go_enter func78,ntmps78;go_wp2_with fail;refine c.o.mono ?_;rintro e C ⟨rfl,l⟩;rw[l];clear l C c;go_wp2
 go_loopg [] ((O-base-4*(ah ws:Z)).toNat) (λk wr=>∃(c:L Z) (v1:aC),jB D a base A c v1 wr/\mS w wr a v v1/\nW base A O ws=nW base A O c/\(ah c)<=300090000/\(O-base-4*(ah c:Z)).toNat<=k)
 case atStart=>exact⟨ws,v,HR.o,mS.refl _ _ _,R,by omega,bz _⟩
 case round=>
  obtain⟨c,v1,l,p,z,hal,Ql⟩:=hrel;obtain⟨X,cv,rfl⟩:=yi l.row;have s:=ae l;have r:=ae p;have Fm:=ae z;clear l p z HR;have c0:aq wr ⟨a,0,N⟩=some (I J base):=s.o.aO.cell 0;have c1:aq wr ⟨a,1,N⟩=some (I J A):=s.o.aO.cell 1;have c2:aq wr ⟨a,2,N⟩=some (ak X (ah c) cv):=s.o.aO.cell 2;have w1:J.wrap (4*(ah c:Z))=4*ah c:=dD _ ⟨by omega,by omega⟩;have w2:J.wrap (base+4*(ah c:Z))=base+4*ah c:=dD _ ⟨by omega,by omega⟩;by_cases B:base+4*(ah c:Z)<O
  ·have Ik:=ae (show nW base A O ws=nW base A O (c++[A])from Fm.o.trans (aeW B));have hb2:base+4*(ah c:Z)<O:=B;have d1:decide (base+4*(ah c:Z)<O)=T:=by simpa using B
   clear B Fm;go_wp2
   go_quiet (fail)
   have V:=ae (s.o.kept (ye (aW wr N) nq));have CO:=ae (r.o.grown (ye (aW wr N) nq));go_wp2;clear c0 c1 c2 s r;generalize wr.drewN nq=wr at *;have s:=V;have r:=CO;have c0:aq wr ⟨a,0,N⟩=some (I J base):=s.o.aO.cell 0;have c1:aq wr ⟨a,1,N⟩=some (I J A):=s.o.aO.cell 1;have c2:aq wr ⟨a,2,N⟩=some (ak X (ah c) cv):=s.o.aO.cell 2;clear V CO;have l:=yf (aG wr (.cells #[I J A] 3) N);have z:=ae (s.o.kept l);have RT:=ae (r.o.grown l);have hA:=ae z.o.row;have n2:(wr.alloc (.cells #[I J A] 3)).drew.cell? ⟨a,2,N⟩=some (ak X (ah c) cv):=z.o.aO.cell 2
   have hN:Hd (∀j u,[I .i64 A][j]?=some u->(wr.alloc (.cells #[I J A] 3)).drew.cell? ((⟨wr.heap.size,0,N⟩:aY).add j)=some u):=uF (rm wr (.cells #[I J A] 3));have od:Hd (∀u∈[I .i64 A],u.oneCell'=T):=by intro u hu;simp at hu;subst hu;rfl
   have h63:Hd (ah c+1<=cu):=by show _<=_;unfold cu;omega
   have hby:Hd ((ah c+1)*8<=140737488355328):=by show _<=_;omega
   have hbs:Hd (D.heap.size<=(wr.alloc (.cells #[I J A] 3)).drew.heap.size):=z.o.gr.size;have kL:Hd ((wr.alloc (.cells #[I J A] 3)).drew.cell? ⟨a,1,N⟩=some (I J A)):=z.o.aO.cell 1;have P:=ae (λ(Q:aC) (w3:av) (l:aV w3 D.heap.size 3 1 Q (ah c+1) (c.map (I .i64)++[I J A])) (p:(wr.alloc (.cells #[I J A] 3)).drew.grownBy w3 (eW (ak X (ah c) cv))) (E:Q.ownBlock=eW (ak X (ah c) cv)\/Q.ownBlock=some (wr.alloc (.cells #[I J A] 3)).drew.heap.size)=>z.o.put l p E)
   clear l z s r c0;refine qu (S:=(λC=>aq C ⟨a,1,N⟩=some (I J A))) (by kernel_rfl) c1 ?_;intro V
   iterate 4
    refine qg (v:=?_) R (by kernel_rfl) (λ_ _ _ h=>h) V ?_ ?_
    rotate_left
    ·intro C p;have x2:=p;go_simp;with_reducible rfl
   refine dw (i:=5) (v:=?_) R ?_ V ?_
   rotate_left
   ·intro C p;have x2:=p;go_simp;with_reducible rfl
   refine dw (i:=6) (v:=?_) R ?_ V ?_
   rotate_left
   ·intro C p;have x2:=p;go_simp;with_reducible rfl
   refine dw (i:=7) (v:=?_) R ?_ V ?_
   rotate_left
   ·intro C p;have x2:=p;go_simp;with_reducible rfl
   refine dw (i:=8) (v:=?_) R ?_ V ?_
   rotate_left
   ·intro C p;have x2:=p;go_simp;with_reducible rfl
   refine ee (rs:=[4,9]) (by kernel_rfl) (by simp) ?_;refine dX R (λK G=>?_) (dX R (λK G=>?_) eN);go_simp;refine G.out _ _ V (λhS2=>?_);clear G K;refine ee (rs:=[9]) (by kernel_rfl) (by simp) ?_
   rotate_left
   go_simp;refine G.out _ _ kL.o (λhS2=>?_);clear G K;refine ee (rs:=[4]) (by kernel_rfl) (by simp) ?_
   all_goals
    refine dX R (λK G=>?_) eN;go_simp;refine G.out _ _ kL.o (λnC=>?_);clear G K hS2 nC;refine ee (rs:=[10]) (by kernel_rfl) (by simp) ?_;refine dX R (λK G=>?_) eN;refine vB _ (.tmp 30) (.tmp 35) 23 rfl D.heap.size 3 i0 (I J 0) 1 8 underlying23 hi hz0 hz1 hz2 R (by decide) (ak X (ah c) cv) (ah c) (c.map (I .i64)) (by kernel_rfl) hA.o ⟨wr.heap.size,0,N⟩ 1 1 [I J A] (by kernel_rfl) R hN.o od.o h63.o hby.o hbs.o ?_;intro Q w3 l z _ E
    obtain⟨gR,cv',rfl⟩:=yi l;obtain⟨⟨t1,t2⟩,t3,t4,t5,t6⟩:=P.o _ _ l z E
    have T1:=ae t1;have T2:=ae t2;have T3:Hd ((aK w3 ⟨a,2,N⟩ (ak gR (ah c+1) cv')).cell? ⟨a,1,N⟩=some (I J A)):=t1.aO.cell 1;refine G.out _ _ t6 (λiS=>?_);clear G K l z t1 t2 t6 E
    refine dw (i:=11) (v:=?_) R ?_ iS ?_
    rotate_left
    ·intro C p;have x2:=p;go_simp;with_reducible rfl
    refine dw (i:=12) (v:=?_) R ?_ iS ?_
    rotate_left
    ·intro C p;have x2:=p;go_simp;with_reducible rfl
    refine ee (rs:=[13]) (by kernel_rfl) (by simp) ?_;refine dX R (λK G=>?_) eN;go_simp;refine G.out _ _ T3.o (λl=>?_);clear G K;refine ox (by kernel_rfl) ?_ _
    try simp only[ql,nQ,lH,nj,dt,dB,dC]
    clear hA hN od h63 hby hbs c2 n2 t3 t4 t5 iS l V P kL T3;go_wp2
    go_roundg (gk-1)
    case measure=>omega
    case rel=>exact⟨c++[A],_,T1.o,RT.o.trans T2.o,Ik.o,by rw[bX,xF];omega,by rw[bX,xF];omega⟩
  ·have Ik:=ae (show nW base A O ws=c from Fm.o.trans (aeV B));have d1:decide (base+4*(ah c:Z)<O)=F:=by simpa using B
   clear B Fm;go_wp2
   go_quiet (fail)
   have V:=ae (s.o.kept (ye (aW wr N) nq));have CO:=ae (r.o.grown (ye (aW wr N) nq));have z:=Ur.o _ V.o.gr;go_wp2_with fail;refine(cW.o _ V.o.gr).mono ?_;rintro e C ⟨aw,cw,rfl,⟨p,-,-⟩,l⟩;rw[l];clear l C cW z c0 c1 c2 s r w1 w2;have HI:=ae p;clear p;generalize wr.drewN nq=U at *;go_wp2
   go_loopw [46] (λi wr=>∃(k:M) (G:L Z) (v2:aC),k<=ah H/\i=I J k/\jB D a base A G v2 wr/\mS w wr a v v2/\AT=G++jV ms m q k (H.drop k)/\(ah G)<=300090000+k) (λi _=>ah H-(intOf i).toNat)
   case atStart=>exact⟨0,c,_,bG _,R,V.o,CO.o,by rw[Ek.o,Ik.o],by omega⟩
   case round=>
    obtain⟨k,G,v2,hk,rfl,l,p,z,ail⟩:=hrel;obtain⟨Ba,Bb,rfl⟩:=yi l.row;have s:=ae l;have r:=ae p;have HA2:=ae z;clear l p z V CO;by_cases B:k<ah H
    ·have g1:(k:Z)<(ah H:Z):=by omega
     obtain⟨sg,P,rfl,l⟩:=HI.o (by omega);have ck:=yd (l k B) s.o.gr;clear l;have p:=ae (HA2.o.trans (by rw[aas ms m q H k B]));have xr:=Yx.o _ (bN B);have w4:J.wrap (4*(k:Z))=4*k:=dD _ ⟨by omega,by omega⟩;have w5:J.wrap (4*(k:Z)+4)=4*k+4:=dD _ ⟨by omega,by omega⟩;have z:=ae (cA.o (4*k) wr s.o.gr (by omega) (by omega));have E:=ae (cA.o (4*k+4) wr s.o.gr (by omega) (by omega));have N5:=ae (cL.o (4*k) H[k] wr s.o.gr xr.1 xr.2);generalize iZ ms m q (4*k) H[k]=y at *;generalize dR m q (4*k)=a1 at *
     generalize dR m q (4*k+4)=a2 at *;generalize H[k]=x at *;go_wp2_with fail;refine z.o.mono ?_;rintro e C ⟨rfl,l⟩;rw[l];clear l C z;go_wp2_with fail;refine E.o.mono ?_;rintro e C ⟨rfl,l⟩;rw[l];clear l C E;by_cases C:a1<a2
     ·have d2:decide (a1<a2)=T:=by simpa using C
      have P3:=ae (show AT=(G++[y])++jV ms m q (k+1) (H.drop (k+1)) by rw[p.o,aD C];simp);clear C p;go_wp2_with fail;refine N5.o.mono ?_;rintro e W5 ⟨rfl,z⟩;have l:=ya z (aG W5 (.cells #[I J y] 3) N);have FC:=ae (s.o.kept z);have CG:=ae (s.o.kept l);have VK:=ae (r.o.grown l);have c2:aq W5 ⟨a,2,N⟩=some (ak Ba (ah G) Bb):=FC.o.aO.cell 2;clear z l N5 s r ck;go_wp2_with (at_builtin;refine wpList_append_own_at _ R _ _ 23 rfl D.heap.size 3 i0 (I J 0) 1 8 underlying23 hi hz0 hz1 hz2 R (by decide) _ _ _ R CG.o.row ⟨W5.heap.size,0,N⟩ 1 1 [I J y] rfl rfl (cell_one_new _ _ _) (by intro u hu;simp at hu;subst hu;rfl) (by unfold cu;omega) (by omega) CG.o.gr.size ?_;intro Q w3 l z _ E;obtain⟨gR,cv',rfl⟩:=yi l;obtain⟨⟨t1,t2⟩,t3,t4,t5,t6⟩:=CG.o.put l z E;have T1:=ae t1;have T2:=ae (VK.o.trans t2);clear l z E t1 t2 t3 t6)
      go_roundw
      case rel=>exact⟨k+1,G++[y],_,by omega,by go_num,T1.o,T2.o,P3.o,by rw[bX,xF];omega⟩
      case measure=>simp[intOf];omega
     ·have d2:decide (a1<a2)=F:=by simpa using C
      have P3:=ae (show AT=G++jV ms m q (k+1) (H.drop (k+1)) by rw[p.o,ax C]);clear C p;go_wp2
      go_roundw
      case rel=>exact⟨k+1,G,_,by omega,by go_num,s.o,r.o,P3.o,by omega⟩
      case measure=>simp[intOf];omega
    ·obtain rfl:k=ah H:=by omega
     have l:decide ((ah H:Z)<(ah H:Z))=F:=by simp
     have p:=ae (show AT=G by rw[HA2.o,List.drop_length];simp[jV]);go_wp2
     go_end0
     rw[p.o];exact⟨R,_,s.o,r.o⟩
