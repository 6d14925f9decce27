import Derived.Test.YtaldcojpkflgpaaGreatDoorU08
set_option maxHeartbeats 16000000
set_option maxRecDepth 100000
open Go.Value renaming int->I,slice->ak,ownBlock->eW,pointer->aM,string->aB,tuple->aZ,bool->aJ
open Go.IntKind renaming i64->J
open _root_ renaming Nat->M,List->L,Option->aR,UInt8->aL,Int->Z,rfl->R,ByteArray->bT,Array->dJ,beq_iff_eq->dQ,beq_eq_false_iff_ne->df,decide_eq_true->kB,if_pos->aD,if_neg->ax
open Go renaming World->av,Addr->aY,TypeId->dm,Value->aC,info_parts->fG,wpList_append_own->jI,cell_one_new->qt,maxLen->cu,bodyPost_ret->bj
open Go.World renaming ownsRow->aV,grownBy_alloc->aG,grownBy->az,setCell->aK,ownsRow_nil->eO,cell?->aq,frozen?->dx
open Option renaming some->S,none->N
open List renaming length->ah,take_succ_eq_append_getElem->kI,flatMap_append->ru,flatMap_cons->kX,length_append->bX,length_cons->dA,mem_of_mem_take->xG,getElem_mem->bN,append_assoc->cy,take_of_length_le->mH,length_take->iO,mem_cons->nk,mem_append->nR,mem_singleton->yL,setIfInBounds_toArray->dt,set_cons_succ->dB,set_cons_zero->dC,map_append->pH,append_nil->lG,getElem_of_mem->kY,drop_eq_getElem_cons->fv,mem_cons_of_mem->lJ,mem_cons_self->jU,getElem?_toArray->bI,getElem?_cons_succ->bB,drop_length->jJ,getElem?_eq_some_iff->xE,mem_of_mem_head?->Ns,head?_append->Nq,map_cons->jT,drop_of_length_le->xD,getElem?_map->jS
open Go.Ending renaming returned->aH
open Nat renaming le_refl->bz,zero_le->bG,le_trans->fV,sub_zero->Cz
open Go.RowKit renaming intOf->aN,ownsRow_setCell_below->Ci
open Bool renaming true->T,false->F
open Go.World.grownBy renaming refl->aW
open Int renaming eq_ofNat_of_zero_le->eX,toNat_natCast->dy
namespace Go.Proofs.YtaldcojpkflgpaaGreatDoor
open Go.RowKit Go.Proofs.Tryz
variable {o:aF} {n:M} {os:L aF} {m m':aI}
structure Ca (W:av) (b g:M) (o:aF) (at_:aR aY) (ct:M) (af:aR aY) (cf:M) (ad:aR aY) (cd:M) (aa:aR aY) (ca:M) (gP:aR aY) (cs:M) (ar:aR aY) (cr:M):Prop where
 aO:aA W g #[ak at_ o.text.length ct,ak af o.bw.length cf,ak ad o.data.length cd,I J o.bf,ak aa o.align.length ca,ak gP o.aE.length cs,ak ar o.ay.length cr] 72
 ne:g≠b
 text:mB W b at_ o.text
 bw:mB W b af o.bw
 data:mB W b ad o.data
 align:mB W b aa o.align
 aE:yX W b gP o.aE
 ay:yV W b ar o.ay
section
variable{W a:av}{b g:M}{o:aF}{at_ i e d n j:aR aY}{ct cf cd k m l:M}
theorem Ca.kept(h:Ca W b g o at_ ct i cf e cd d k n m j l)(c:Wk b W a):Ca a b g o at_ ct i cf e cd d k n m j l :=
 ⟨c.2 g _ _ h.ne (by decide) h.aO,h.ne,h.text.kept c,h.bw.kept c,h.data.kept c,h.align.kept c,h.aE.kept c,h.ay.kept c⟩
end
theorem yr.LY{W:av}{g:M}(h:yr W g o)(B:Obj):∃a s f p d l c j t r i q,Ca (W.alloc B) W.heap.size g o a s f p d l c j t r i q:=by
 obtain⟨a,s,f,p,d,l,c,j,t,r,i,q,A,u,v,w,x,y,z⟩:=h.open;have b:∀ {e:dm} {b:M} {c:aR aY} {n a:M} {f:L aC},aV W 0 e b (ak c n a) n f->∀k,eW (ak c n a)=S k->k≠W.heap.size:=λh k d=>by have:=(h.lt k d).2;omega
 refine⟨a,s,f,p,d,l,c,j,t,r,i,q,A.grown (aG _ _ N) (by simp),by have:=A.lt;omega,?_,?_,?_,?_,?_,?_⟩
 ·exact mB.dh (u.alloc _) (b u)
 ·exact mB.dh (v.alloc _) (b v)
 ·exact mB.dh (w.alloc _) (b w)
 ·exact mB.dh (x.alloc _) (b x)
 ·exact yX.dh (y.alloc _) (b y)
 ·exact yV.dh (z.alloc _) (b z)
structure yA (w:av) (b g:M) (o:aF) (at_:aR aY) (ct:M) (af:aR aY) (cf:M) (ad:aR aY) (cd:M) (aa:aR aY) (ca:M) (gP:aR aY) (cs:M) (ar:aR aY) (cr:M) (l:L aL) (W:av):Prop where
 wr:gG W b l
 ob:Ca W b g o at_ ct af cf ad cd aa ca gP cs ar cr
 be:Below b w W
section
variable{w W a:av}{b g:M}{o:aF}{at_ i e d p j:aR aY}{ct cf cd k n m:M}{l q:L aL}
theorem yA.step(h:yA w b g o at_ ct i cf e cd d k p n j m l W)(f:gG a b q)(c:Wk b W a):yA w b g o at_ ct i cf e cd d k p n j m q a :=
 ⟨f,h.ob.kept c,h.be.trans c.1⟩
end
theorem Gd{α:Type}(f:α->L aL)(ys:L α)(k:M)(h:k<ah ys):(ys.take (k+1)).flatMap f=(ys.take k).flatMap f++f ys[k]:=by
 rw[kI h,ru];simp
theorem Lv{α:Type}(f:α->L aL)(c:M)(ys:L α)(a:∀y∈ys,(f y).length<=c):(ys.flatMap f).length<=ah ys*c:=by
 induction ys with
 |nil=>simp
 |cons y t b=>
  have d:=a y (by simp);have e:=b (λz b=>a z (by simp[b]));rw[kX,bX,dA,Nat.succ_mul];omega
theorem Gi{α:Type}(f:α->L aL)(c k:M)(ys:L α)(a:∀y∈ys,(f y).length<=c):((ys.take k).flatMap f).length<=ah ys*c:=by
 have b:=Lv f c (ys.take k) (λy b=>a y (xG b));have d:(ys.take k).length*c<=ah ys*c:=Nat.mul_le_mul_right c (by simp;omega);omega
theorem Tn(y:dz)(h:At y):(gq y).length<=260:=by
 have:=h.1
 simp only[gq,bX,dg];omega
theorem Lz(r:cg):(gD r).length<=7:=by
 simp only[gD,bX,dg];omega
theorem adU(g:M)(o:aF)(w:av)(ht:eH w)(h:yr w g o)(f:As o)(hv:yl o):
  Calls prog 133 #[aM (some ⟨g,0,N⟩)] w λe a=>e=aH (aZ #[aB (bs (iX o)),I J 0])/\az w a N:=by
 have k:=ae (Sg g o w ht h (De f));have qv:=ae hv;have HO:=ae h;have ahy:=ae f;obtain⟨z1,z2,z3,z4,q,l,z7,ajq,p,a,c,d,j⟩:=f;obtain⟨⟨s1,s2,s3⟩,s4,s5,s6⟩:=hv.1;have F:=ae p;have Pt:=ae a;have S:=ae l;have VN:=ae c;have VM:=ae d;have T:=ae j;have ajp:ah o.align<=4:=by omega
 clear ht h hv p a l c d j q;go_enter func133,ntmps133;go_wp2_with fail;refine k.o.mono ?_;rintro e r ⟨a,q⟩;obtain rfl:=Kx a qv.o;have t:=ae q;have Y:=ae (HO.o.kept q);clear a q k;go_wp2_with fail;obtain⟨l,D,z,C,x,B,v,A,X,V,Q,U,a⟩:=Y.o.LY (.cells #[ak N 0 0] 166);have d:Hd (yA r r.heap.size g o l D z C x B v A X V Q U [] (r.alloc (.cells #[ak N 0 0] 166))):=⟨Ta r,a,(Below.refl _ _).alloc (bz _) _⟩
 clear a;generalize a:r.heap.size=b at *;have kS:=ae a;clear a;refine Calls.fK (yA r b g o l D z C x B v A X V Q U []) d.o ?_;clear d;intro V0 a;have d:=ae a;clear a;refine(Ky b ⟨#[76,75]⟩ [] V0 d.o.wr (by simp) (by decide)).mono ?_;rintro e V1 ⟨rfl,c,a⟩;have j:=ae (d.o.step c a);clear d;generalize d:[]++sl ⟨#[76,75]⟩=l1 at *;have n1:ah l1<=2:=by rw[<- d];decide
 have E1:=ae d;clear d c a;have d:=j.o.ob.aO.cell 0;go_wp2_with fail;refine(kV b (ah o.text:Z) 2 2 rfl l1 V1 j.o.wr (by omega) (by omega) (by omega) (by omega)).mono ?_;rintro e V2 ⟨rfl,c,a⟩;have p:=ae (j.o.step c a);clear j d;generalize d:l1++bu (ah o.text:Z) 2=l2 at *;have n2:ah l2<=4:=by rw[<- d,bX,dg];omega
 have E2:=ae d;clear d c a;have d:=p.o.ob.aO.cell 1;go_wp2_with fail;refine(kV b (ah o.bw:Z) 2 2 rfl l2 V2 p.o.wr (by omega) (by omega) (by omega) (by omega)).mono ?_;rintro e ke ⟨rfl,c,a⟩;have j:=ae (p.o.step c a);clear p d;generalize d:l2++bu (ah o.bw:Z) 2=l3 at *;have n3:ah l3<=6:=by rw[<- d,bX,dg];omega
 have E3:=ae d;clear d c a;have d:=j.o.ob.aO.cell 2;go_wp2_with fail;refine(kV b (ah o.data:Z) 2 2 rfl l3 ke j.o.wr (by omega) (by omega) (by omega) (by omega)).mono ?_;rintro e gw ⟨rfl,c,a⟩;have k:=ae (j.o.step c a);clear j d;generalize d:l3++bu (ah o.data:Z) 2=l4 at *;have n4:ah l4<=8:=by rw[<- d,bX,dg];omega
 have E4:=ae d;clear d c a;have d:=k.o.ob.aO.cell 3;go_wp2_with fail;refine(kV b o.bf 2 2 rfl l4 gw k.o.wr (by omega) (by omega) (by omega) (by omega)).mono ?_;rintro e fp ⟨rfl,c,a⟩;have j:=ae (k.o.step c a);clear k d;generalize d:l4++bu o.bf 2=oM at *;have n5:ah oM<=10:=by rw[<- d,bX,dg];omega
 have Vb:=ae d;clear d c a;have d:=j.o.ob.aO.cell 4;go_wp2_with fail;refine(zf b v A 1 1 rfl o.align oM fp j.o.wr j.o.ob.align (by omega) (by omega) (by omega) (λi a=>by have:=S.o _ (bN a);simp only[Int.reducePow]at this;omega)).mono ?_;rintro e ja ⟨rfl,c,a⟩;have k:=ae (j.o.step c a);clear j d;generalize d:oM++dY o.align 1=ua at *;have n6:ah ua<=14:=by rw[<- d,bX,qh];omega
 have E6:=ae d;clear d c a;have d:=k.o.ob.aO.cell 5;go_wp2_with fail;refine(kV b (ah o.aE:Z) 1 1 rfl ua ja k.o.wr (by omega) (by omega) (by omega) (by omega)).mono ?_;rintro e wF ⟨rfl,c,a⟩;have j:=ae (k.o.step c a);clear k d;generalize d:ua++bu (ah o.aE:Z) 1=pS at *;have n7:ah pS<=15:=by rw[<- d,bX,dg];omega
 have E7:=ae d;clear d c a;have d:=j.o.ob.aO.cell 6;go_wp2_with fail;refine(kV b (ah o.ay:Z) 1 1 rfl pS wF j.o.wr (by omega) (by omega) (by omega) (by omega)).mono ?_;rintro e xN ⟨rfl,c,a⟩;have S8:=ae (j.o.step c a);clear j d;generalize d:pS++bu (ah o.ay:Z) 1=G at *;have n8:ah G<=16:=by rw[<- d,bX,dg];omega
 have Vc:=ae d;clear d c a;have d:=S8.o.ob.aO.cell 5;go_wp2
 go_loopw [63] (λi wr=>∃n:M,n<=ah o.aE/\i=I J n/\yA r b g o l D z C x B v A X V Q U (G++(o.aE.take n).flatMap gq) wr) (λi _=>ah o.aE-(aN i).toNat)
 case atStart=>exact⟨0,bG _,R,by simpa using S8.o⟩
 case round=>
  obtain⟨n,hn,rfl,a⟩:=hrel;have k:=ae a;clear a;by_cases j:n<ah o.aE
  ·obtain⟨sg,YU,s,hne,a,E⟩:=k.o.ob.aE (by omega);subst s;obtain⟨K,q,O,P⟩:=E n j;have m0:=(a.cell (n*4)).trans K;have m1:=(a.cell (n*4+1)).trans q;have m2:=(a.cell (n*4+2)).trans O;have m3:=(a.cell (n*4+3)).trans P;have hgl:=a.lt;have hwb:b<wr.heap.size:=by obtain⟨_,_,x1,_⟩:=k.o.wr;exact x1.lt
   have p:=F.o _ (bN j);have c:(G++(o.aE.take n).flatMap gq).length<=1048576:=by
    have:=Gi gq 260 n o.aE (λy a=>Tn y (F.o y a))
    rw[bX];omega
   have u:=ae (sY.begin k.o.wr #[aB (bs o.aE[n].name),I J o.aE[n].bind,I J o.aE[n].au,I J o.aE[n].off] 107);have cW:=ae (λW a=>aap b o.aE[n] (G++(o.aE.take n).flatMap gq) W a c p);clear a E K q O P p c d;go_wp2_with fail;refine(cW.o _ u.o.wr).mono ?_;rintro e q ⟨rfl,c,a⟩;have p:=ae (k.o.step c (u.o.wk.trans a));clear c a;go_wp2
   go_roundw
   case rel=>exact⟨n+1,by omega,by go_num,by rw[Gd gq o.aE n j,<- cy];exact p.o⟩
   case measure=>simp[aN];omega
  ·have a:=k.o;rw[mH (show (ah o.aE)<=n by omega)]at a;have xL:=ae a;clear a k d S8;generalize a:G++o.aE.flatMap gq=H at *;have n9:ah H<=4176:=by
    have:=Lv gq 260 o.aE (λy a=>Tn y (F.o y a))
    rw[<- a,bX];omega
   have Vd:=ae a;clear a;have d:=xL.o.ob.aO.cell 6;go_wp2
   go_loopw [75] (λi wr=>∃n:M,n<=ah o.ay/\i=I J n/\yA r b g o l D z C x B v A X V Q U (H++(o.ay.take n).flatMap gD) wr) (λi _=>ah o.ay-(aN i).toNat)
   case atStart=>exact⟨0,bG _,R,by simpa using xL.o⟩
   case round=>
    obtain⟨n,hn,rfl,a⟩:=hrel;have k:=ae a;clear a;by_cases j:n<ah o.ay
    ·obtain⟨sg,YU,s,hne,a,E⟩:=k.o.ob.ay (by omega);subst s;obtain⟨K,q,O,P,q4⟩:=E n j;have m0:=(a.cell (n*5)).trans K;have m1:=(a.cell (n*5+1)).trans q;have m2:=(a.cell (n*5+2)).trans O;have m3:=(a.cell (n*5+3)).trans P;have m4:=(a.cell (n*5+4)).trans q4;have hgl:=a.lt;have hwb:b<wr.heap.size:=by obtain⟨_,_,x1,_⟩:=k.o.wr;exact x1.lt
     have p:=Pt.o _ (bN j);have c:(H++(o.ay.take n).flatMap gD).length<=1048576:=by
      have:=Gi gD 7 n o.ay (λy a=>Lz y)
      rw[bX];omega
     have u:=ae (sY.begin k.o.wr #[I J o.ay[n].au,I J o.ay[n].off,I J o.ay[n].kind,I J o.ay[n].sym,I J o.ay[n].bh] 75);have cW:=ae (λW a=>aaP b o.ay[n] (H++(o.ay.take n).flatMap gD) W a c p);clear a E K q O P q4 p c d;go_wp2_with fail;refine(cW.o _ u.o.wr).mono ?_;rintro e q ⟨rfl,c,a⟩;have p:=ae (k.o.step c (u.o.wk.trans a));clear c a;go_wp2
     go_roundw
     case rel=>exact⟨n+1,by omega,by go_num,by rw[Gd gD o.ay n j,<- cy];exact p.o⟩
     case measure=>simp[aN];omega
    ·have a:=k.o;rw[mH (show (ah o.ay)<=n by omega)]at a;have q:=ae a;clear a k d xL;generalize a:H++o.ay.flatMap gD=p at *;have n10:ah p<=4400:=by
      have:=Lv gD 7 o.ay (λy a=>Lz y)
      rw[<- a,bX];omega
     have JC:=ae a;clear a;have d:=q.o.ob.aO.cell 0;go_wp2_with fail;refine(zf b l D 4 4 rfl o.text p wr q.o.wr q.o.ob.text (by omega) (by omega) (by omega) (λi a=>by have:=VN.o _ (bN a);simp only[Int.reducePow]at this;omega)).mono ?_;rintro e Am ⟨rfl,c,a⟩;have s:=ae (q.o.step c a);clear q d;generalize q:p++dY o.text 4=u at *;have n11:ah u<=9200:=by rw[<- q,bX,qh];omega
     have JD:=ae q;clear q c a;have d:=s.o.ob.aO.cell 1;go_wp2_with fail;refine(zf b z C 4 4 rfl o.bw u Am s.o.wr s.o.ob.bw (by omega) (by omega) (by omega) (λi a=>by have:=VM.o _ (bN a);simp only[Int.reducePow]at this;omega)).mono ?_;rintro e Ji ⟨rfl,c,a⟩;have q:=ae (s.o.step c a);clear s d;generalize s:u++dY o.bw 4=E at *;have wL:ah E<=14000:=by rw[<- s,bX,qh];omega
     have Fg:=ae s;clear s c a;have d:=q.o.ob.aO.cell 2;go_wp2_with fail;refine(zf b x B 4 4 rfl o.data E Ji q.o.wr q.o.ob.data (by omega) (by omega) (by omega) (λi a=>by have:=T.o _ (bN a);simp only[Int.reducePow]at this;omega)).mono ?_;rintro e O ⟨rfl,c,a⟩;have s:=ae (q.o.step c a);clear q d;generalize K:E++dY o.data 4=P at *;have xP:ah P<=14256:=by rw[<- K,bX,qh];omega
     have q:=ae K;clear K c a;go_wp2_with fail;refine(Sd b P O s.o.wr).mono ?_;rintro e K ⟨rfl,Yz⟩;subst Yz;go_wp2;go_ret2;have a:P=iX o:=by
      rw[<- q.o,<- Fg.o,<- JD.o,<- JC.o,<- Vd.o,<- Vc.o,<- E7.o,<- E6.o,<- Vb.o,<- E4.o,<- E3.o,<- E2.o,<- E1.o];simp[iX,sl]
     refine⟨by rw[a];rfl,?_⟩;have c:=s.o.be;exact⟨c.os.trans t.o.os,c.tape.trans t.o.tape,c.output.trans t.o.output,fV t.o.size c.size,λi a _=>(c.block i (by have:=t.o.size;have:=kS.o;omega)).trans (t.o.block i a (by simp))⟩
theorem adk(b:L aL):(⟨#[76,75]⟩:bT)++bs b=bs ([76,75]++b):=kG [76,75] b
theorem afM(y:dz)(h:ah y.name<=255):(gq y).length<=260:=by
 simp only[gq,bX,dg];omega
theorem nE(v:Z)(n:M)(a:n<=4):(bs (bu v n)).size<=4:=by rw[nK,dg];exact a
theorem tw(l:L aL)(k:M)(h:ah l<=k):(bs l).size<=k:=by rw[nK];exact h
theorem adG(g:M)(o:aF)(w:av)(h:yr w g o)(hn:mD o)(ha:ah o.align=4)(hz:ah o.aE<=16/\(ah o.ay)<=32)(hl:∀y∈o.aE,ah y.name<=255):
  Calls prog 50 #[aM (some ⟨g,0,N⟩)] w λe b=>e=aH (aB (bs (iX o)))/\az w b N:=by
 obtain⟨Y,ct,af,cf,ad,cd,aa,ca,gP,cs,ar,cr,b,c,d,f,j,k,l⟩:=h.open;have p:=ae b;have I1:=ae (yq.dh c);have I2:=ae (yq.dh d);have I3:=ae (yq.dh f);have VS:=ae (yq.dh j);have VT:=ae (gH.dh k);have VU:=ae (pi.dh l);have q:=b.cell 0;obtain⟨m1,m2,m3,m4,m5,m6⟩:=hn;have HA:=ae ha;have HL:=ae hl;have aiY:4<=ah o.align:=by omega
 have aiZ:ah o.align<=4:=by omega
 clear h b c d f j k l hl ha;have z1:=nE (ah o.text) 2 (by decide);have z2:=nE (ah o.bw) 2 (by decide);have z3:=nE (ah o.data) 2 (by decide);have z4:=nE o.bf 2 (by decide);go_enter func50,ntmps50;go_wp2_with fail;refine(mY (ah o.text:Z) 2 2 rfl w (by omega)).mono ?_;rintro e w1 ⟨rfl,D⟩;have d:=(p.o.grown D (by simp)).cell 1;have c:=ae D;clear D q;go_wp2_with fail;refine(mY (ah o.bw:Z) 2 2 rfl w1 (by omega)).mono ?_;rintro e w2 ⟨rfl,G⟩;have b:=ae (ya c.o G);have f:=(p.o.grown b.o (by simp)).cell 2;clear G d c;go_wp2_with fail;refine(mY (ah o.data:Z) 2 2 rfl w2 (by omega)).mono ?_
 rintro e w3 ⟨rfl,H⟩;have c:=ae (ya b.o H);have d:=(p.o.grown c.o (by simp)).cell 3;clear H f b;go_wp2_with fail;refine(mY o.bf 2 2 rfl w3 (by omega)).mono ?_;rintro e w4 ⟨rfl,q4⟩;have Q4:=ae (ya c.o q4);clear q4 d c;go_wp2;obtain⟨z,b⟩:∃z,z=[76,75]++(bu (ah o.text) 2++(bu (ah o.bw) 2++(bu (ah o.data) 2++bu o.bf 2))):=⟨_,R⟩
 have Af:=ae b;have hl1:ah z<=10:=by rw[b];simp[dg]
 clear b
 go_loopw [3,8] (λt i wr=>∃n:M,n<=4/\i=I J n/\(∃b:L aL,t=aB (bs b)/\b=z++dY (o.align.take n) 1)/\az w wr N) (λ_ i _=>4-(aN i).toNat)
 case atStart=>
  refine⟨0,bG _,R,⟨z,?_,by simp[dY]⟩,Q4.o⟩;rw[Af.o,adk,kG,kG,kG];simp
 case round=>
  obtain⟨n,Dt,rfl,f,j⟩:=hrel;obtain⟨b,q,c⟩:=f;subst q;have d:=ae j;have l:=ae c;clear j c;have B:=p.o.grown d.o (by simp);by_cases k:n<4
  ·obtain⟨D,A,j,s⟩:=(VS.o.kept (λa v b=>yd b d.o)) (by omega)
   subst j;have x:=s n (by omega);have E:=B.cell 4;have c:n<ah o.align:=by omega
   have g1:(n:Z)<4:=by omega
   have C:(n:Z)<(ah o.align:Z):=by omega
   have u:=ae (λW=>mY (o.align[n]'c) 1 1 rfl W (by omega));clear s B;go_wp2_with fail;refine(u.o _).mono ?_;rintro e G ⟨rfl,r⟩;have s:=ae (ya d.o r);clear r;have y1:=tw b 14 (by rw[l.o,bX,qh,iO];omega);have y2:=nE (o.align[n]'c) 1 (by decide);go_wp2
   go_roundw
   case rel=>exact⟨n+1,by omega,by go_num,⟨b++bu (o.align[n]'c) 1,by rw[<- kG],by rw[l.o,Kd o.align n 1 c,cy]⟩,s.o⟩
   case measure=>simp[aN];omega
  ·have c:=l.o;rw[mH (show (ah o.align)<=n by omega)]at c;have qN:=ae c;have T:ah b<=14:=by rw[c,bX,qh];omega
   have j:=B.cell 5;have g1:(4:Z)<=(n:Z):=by omega
   clear c l B;go_wp2_with fail;refine(mY (ah o.aE:Z) 1 1 rfl wr (by omega)).mono ?_;rintro e w6 ⟨rfl,c⟩;have Fl:=ae (ya d.o c);have r:=(p.o.grown Fl.o (by simp)).cell 6;clear c j;go_wp2_with fail;refine(mY (ah o.ay:Z) 1 1 rfl w6 (by omega)).mono ?_;rintro e w7 ⟨rfl,c⟩;have Jk:=ae (ya Fl.o c);clear c r;have y1:=tw b 14 T;have y2:=nE (ah o.aE) 1 (by decide);have y3:=nE (ah o.ay) 1 (by decide);go_wp2;obtain⟨A,c⟩:∃A,A=b++(bu (ah o.aE) 1++bu (ah o.ay) 1):=⟨_,R⟩
   have P7:=ae c;have hl3:ah A<=16:=by rw[c,bX,bX,dg,dg];omega
   clear c
   go_loopw [3,9] (λt i wr=>∃n:M,n<=ah o.aE/\i=I J n/\(∃b:L aL,t=aB (bs b)/\b=A++(o.aE.take n).flatMap gq)/\az w wr N) (λ_ i _=>ah o.aE-(aN i).toNat)
   case atStart=>
    refine⟨0,bG _,R,⟨A,?_,by simp⟩,Jk.o⟩;rw[P7.o,kG,kG];simp
   case round=>
    obtain⟨n,Dt,rfl,f,j⟩:=hrel;obtain⟨b,q,c⟩:=f;subst q;have d:=ae j;have l:=ae c;have r:ah b<=4176:=by
     have:=Gi gq 260 n o.aE (λy b=>afM y (HL.o y b))
     rw[c,bX];omega
    clear j c;have B:=p.o.grown d.o (by simp);have kk:=B.cell 5;by_cases k:n<ah o.aE
    ·obtain⟨sg,j,S,s⟩:=(VT.o.grown d.o) (by omega)
     subst j;obtain⟨q0,D,G,H⟩:=s n k;have X:=ae (aA.new wr #[aB (bs o.aE[n].name),I J o.aE[n].bind,I J o.aE[n].au,I J o.aE[n].off] 107);have K:=ae (ya d.o (aG wr (.cells #[aB (bs o.aE[n].name),I J o.aE[n].bind,I J o.aE[n].au,I J o.aE[n].off] 107) N));clear s B;go_wp2_with fail;refine(mY ((bs o.aE[n].name).size:Z) 1 1 rfl (wr.alloc (.cells #[aB (bs o.aE[n].name),I J o.aE[n].bind,I J o.aE[n].au,I J o.aE[n].off] 107)) (by omega)).mono ?_;rintro e v1 ⟨rfl,c⟩;have s:=ae (X.o.grown c (by simp))
     have O:=ae (ya K.o c);clear c;have C:=s.o.cell 1;go_wp2_with fail;refine(mY o.aE[n].bind 1 1 rfl v1 (by omega)).mono ?_;rintro e v2 ⟨rfl,c⟩;have u:=ae (s.o.grown c (by simp));have P:=ae (ya O.o c);clear c;have V:=u.o.cell 2;go_wp2_with fail;refine(mY o.aE[n].au 1 1 rfl v2 (by omega)).mono ?_;rintro e v3 ⟨rfl,c⟩;have x:=ae (u.o.grown c (by simp));have Q:=ae (ya P.o c);clear c;have F:=x.o.cell 3;go_wp2_with fail;refine(mY o.aE[n].off 2 2 rfl v3 (by omega)).mono ?_;rintro e v4 ⟨rfl,c⟩;have E:=ae (x.o.grown c (by simp));have U:=ae (ya Q.o c);clear c
     have c40:=E.o.cell 0;have x0:=tw b 4176 r;have x1:=nE ((bs o.aE[n].name).size:Z) 1 (by decide);have x2:=nE o.aE[n].bind 1 (by decide);have x3:=nE o.aE[n].au 1 (by decide);have x4:=nE o.aE[n].off 2 (by decide);have xn:=tw o.aE[n].name 255 (HL.o _ (bN k));have c:=ae (nK o.aE[n].name);go_wp2
     go_roundw
     case rel=>
      refine⟨n+1,by omega,by go_num,⟨b++gq o.aE[n],?_,by rw[l.o,Gd gq o.aE n k,cy]⟩,U.o⟩;rw[kG,kG,kG,kG,kG,c.o];simp[gq]
     case measure=>simp[aN];omega
    ·have c:=l.o;rw[mH (show (ah o.aE)<=n by omega)]at c;have V:=ae c;clear c l;have B2:=p.o.grown d.o (by simp);go_wp2;obtain⟨C,c⟩:∃C,C=b:=⟨_,R⟩
     have Pp:=ae c;have hl4:ah C<=4176:=by rw[c];exact r
     clear c
     go_loopw [3,11] (λt i wr=>∃n:M,n<=ah o.ay/\i=I J n/\(∃b:L aL,t=aB (bs b)/\b=C++(o.ay.take n).flatMap gD)/\az w wr N) (λ_ i _=>ah o.ay-(aN i).toNat)
     case atStart=>
      exact⟨0,bG _,R,⟨C,by rw[Pp.o],by simp⟩,d.o⟩
     case round=>
      obtain⟨n,Dt,rfl,f,j⟩:=hrel;obtain⟨b,q,c⟩:=f;subst q;have d:=ae j;have l:=ae c;have r:ah b<=4400:=by
       have:=Gi gD 7 n o.ay (λy b=>Lz y)
       rw[c,bX];omega
      clear j c;have B:=p.o.grown d.o (by simp);have kk:=B.cell 6;by_cases k:n<ah o.ay
      ·obtain⟨sg,j,S,s⟩:=(VU.o.grown d.o) (by omega)
       subst j;obtain⟨q0,D,G,H,q4⟩:=s n k;have X:=ae (aA.new wr #[I J o.ay[n].au,I J o.ay[n].off,I J o.ay[n].kind,I J o.ay[n].sym,I J o.ay[n].bh] 75);have K:=ae (ya d.o (aG wr (.cells #[I J o.ay[n].au,I J o.ay[n].off,I J o.ay[n].kind,I J o.ay[n].sym,I J o.ay[n].bh] 75) N));clear s B;have x0:=tw b 4400 r;have x1:=nE o.ay[n].au 1 (by decide);have x2:=nE o.ay[n].kind 1 (by decide);have x3:=nE o.ay[n].off 2 (by decide);have x4:=nE o.ay[n].sym 1 (by decide);have x5:=nE o.ay[n].bh 2 (by decide)
       go_wp2_with fail;refine(mY o.ay[n].au 1 1 rfl (wr.alloc (.cells #[I J o.ay[n].au,I J o.ay[n].off,I J o.ay[n].kind,I J o.ay[n].sym,I J o.ay[n].bh] 75)) (by omega)).mono ?_;rintro e v1 ⟨rfl,c⟩;have s:=ae (X.o.grown c (by simp));have O:=ae (ya K.o c);clear c;have c12:=s.o.cell 2;go_wp2_with fail;refine(mY o.ay[n].kind 1 1 rfl v1 (by omega)).mono ?_;rintro e v2 ⟨rfl,c⟩;have u:=ae (s.o.grown c (by simp));have P:=ae (ya O.o c);clear c;have c21:=u.o.cell 1;go_wp2_with fail;refine(mY o.ay[n].off 2 2 rfl v2 (by omega)).mono ?_;rintro e v3 ⟨rfl,c⟩
       have x:=ae (u.o.grown c (by simp));have Q:=ae (ya P.o c);clear c;have F:=x.o.cell 3;go_wp2_with fail;refine(mY o.ay[n].sym 1 1 rfl v3 (by omega)).mono ?_;rintro e v4 ⟨rfl,c⟩;have E:=ae (x.o.grown c (by simp));have U:=ae (ya Q.o c);clear c;have aiE:=E.o.cell 4;go_wp2_with fail;refine(mY o.ay[n].bh 2 2 rfl v4 (by omega)).mono ?_;rintro e v5 ⟨rfl,c⟩;have S5:=ae (E.o.grown c (by simp));have nP:=ae (ya U.o c);clear c;go_wp2
       go_roundw
       case rel=>
        refine⟨n+1,by omega,by go_num,⟨b++gD o.ay[n],?_,by rw[l.o,Gd gD o.ay n k,cy]⟩,nP.o⟩;rw[kG,kG,kG,kG,kG];simp[gD]
       case measure=>simp[aN];omega
      ·have c:=l.o;rw[mH (show (ah o.ay)<=n by omega)]at c;have u:=ae c;clear c l;have K:=(p.o.grown d.o (by simp)).cell 0;go_wp2_with fail;refine(Ka Y ct o.text wr (I1.o.kept (λa v b=>yd b d.o)) (by omega)).mono ?_;rintro e G ⟨rfl,c⟩;have j:=ae (ya d.o c);have D:=(p.o.grown j.o (by simp)).cell 1;clear c;go_wp2_with fail;refine(Ka af cf o.bw G (I2.o.kept (λa v b=>yd b j.o)) (by omega)).mono ?_;rintro e H ⟨rfl,c⟩;have s:=ae (ya j.o c);have E:=(p.o.grown s.o (by simp)).cell 2;clear c;go_wp2_with fail;refine(Ka ad cd o.data H (I3.o.kept (λa v b=>yd b s.o)) (by omega)).mono ?_
       rintro e O ⟨rfl,c⟩;have x:=ae (ya s.o c);clear c;have x0:=tw b 4400 (by omega);have x1:=tw (dY o.text 4) 262140 (by rw[qh];omega);have x2:=tw (dY o.bw 4) 262140 (by rw[qh];omega);have x3:=tw (dY o.data 4) 262140 (by rw[qh];omega);go_wp2;go_ret;refine⟨AB ?_,x.o⟩;rw[kG,kG,kG]
       congr 1
       rw[u.o,Pp.o,V.o,P7.o,qN.o,Af.o];simp[iX]
theorem TB(s:bT)(p n:M)(d c:Z)(b:d=(p:Z))(a:c=(n:Z))(w:av)(h:s.size<=1048576)(g:p<=16777216)(f:n<=16777216):
  Calls prog 47 #[aB s,I J d,I J c] w λe a=>e=aH (aB (bs (pU (sl s) p n)))/\a=w:=by
 subst b a;exact af3 s p n w h g f
theorem Kq(s:bT)(p n:M)(d c:Z)(b:d=(p:Z))(a:c=(n:Z))(w:av)(h:s.size<=1048576)(g:p<=8388608)(f:n<=65535):
  Calls prog 48 #[aB s,I J d,I J c] w λe a=>∃v,e=aH v/\aV a w.heap.size 3 1 v (min n 1201) ((jr (sl s) p (min n 1201)).map (I .i64))/\az w a N:=by
 subst b a;exact abI s p n w h g f
def sZ(l:L aL):M->L Z
 |0=>[]
 |k+1=>sZ l k++[br l (10+k) 1]
structure om (w:av) (g:M) (cs:dJ aC) (rows:L Row) (W:av):Prop where
 obj:aA W g cs 72
 rows:∀r∈rows,r.In W (g+1)
 gr:w.grownBy W N
section
variable{w W j d:av}{g:M}{a k:dJ aC}{rows:L Row}
theorem om.begin(w:av)(a:dJ aC):om w w.heap.size a [] (w.alloc (.cells a 72)) :=
 ⟨aA.new w a 72,(by simp),aG w _ N⟩
theorem om.store(h:om w g a rows W)(c:w.heap.size<=g)(o:M)(v:aC):om w g (a.setIfInBounds o v) rows (aK W ⟨g,o,N⟩ v) :=
 ⟨h.obj.set o v,λr b=>Ci (h.rows r b) (Nat.lt_succ_self g) v,tz h.gr (bK W g o v) c⟩
theorem om.row(h:om w g a rows W)(i:w.heap.size<=g)(f:aA j g k 72)(e:az W j (S g))(r:Row)(b:r.In j W.heap.size):om w g k (r::rows) j:=by
 refine⟨f,?_,tz h.gr e i⟩;intro q c;rcases nk.1 c with rfl|c
 ·exact kE b h.obj.lt
 ·exact xg (h.rows q c) (Nat.lt_succ_self g) e
theorem om.put(h:om w g a rows W)(f:w.heap.size<=g)(b:az W j N)(r:Row)(c:r.In j W.heap.size)(o:M):om w g (a.setIfInBounds o r.v) (r::rows) (aK j ⟨g,o,N⟩ r.v):=by
 have e:=h.obj.grown b (by simp);refine om.row h f (e.set o r.v) (ya (World.grownBy.mk b.os b.tape b.output b.size (λi c _=>b.block i c (by simp))) (bK j g o r.v)) r ?_;exact Ci c h.obj.lt r.v
theorem GU{dK wr:av}{h:Obj}{f:aR M}(p:g<dK.heap.size)(i:aA wr g a 72)(l:(wr.alloc h).grownBy d f)(c:∀b,f=S b->dK.heap.size<=b):aA d g a 72 :=
 (i.grown (aG wr h N) (by simp)).grown l (λe=>by have:=c g e.symm;omega)
theorem GK{dK wr:av}{o:M}{e:dm}{h:M}{c:aC}{s:L aC}{p:Obj}{l:aR M}(x:g<dK.heap.size)(u:aA wr g a 72)(v:az dK wr (S g))(r:(wr.alloc p).grownBy d l)(f:∀b,l=S b->dK.heap.size<=b)(i:aV d dK.heap.size e h c n s):
  aA (aK d ⟨g,o,N⟩ c) g (a.setIfInBounds o c) 72/\(aK d ⟨g,o,N⟩ c).ownsRow dK.heap.size e h c n s/\az dK (aK d ⟨g,o,N⟩ c) (S g):=by
 have q:az wr (wr.alloc p) N:=aG wr p N;have t:aA d g a 72:=(u.grown q (by simp)).grown r (λe=>by have:=f g e.symm;omega);exact⟨t.set o c,Ci i x c,ya (tD (tD v q (by simp)) r f) (bK d g o c)⟩
end
theorem Ld(W:av)(a:dJ aC)(t:dm):∀j u,a.toList[j]?=S u->(W.alloc (.cells a t)).cell? ((⟨W.heap.size,0,N⟩:aY).add j)=S u :=
 World.news_of_block (heap_alloc_new W (.cells a t))
def GJ(s:bT)(e:Ending)(w':av):Prop :=
 (fq (sl s)/\∃g,e=aH (aZ #[aM (S ⟨g,0,N⟩),aJ T])/\yr w' g (eE (sl s))) \/
 (¬fq (sl s)/\∃v,e=aH (aZ #[v,aJ F]))
theorem aeP(l:L aL):He (eE l):=by
 have e:=mz l 2 2;have c:=mz l 14 1;have d:=mz l 15 1;simp only[Int.reducePow]at e c d;refine⟨⟨?_,?_,?_,?_,?_,?_⟩,?_,?_⟩
 ·simp only[eE,Bd];omega
 ·simp only[eE,Bd];omega
 ·simp only[eE,Bd];omega
 ·simp[eE]
 ·simp only[eE,QV];omega
 ·simp only[eE,QU];omega
 ·have H:∀k,∀y∈(fy l k).1,ah y.name<=255:=by
   intro k
   induction k with
   |zero=>intro y a;simp[fy]at a
   |succ k b=>
    intro y a;simp only[fy,nR,yL]at a;rcases a with a|rfl
    ·exact b y a
    ·have h:=mz l (fy l k).2 1;simp only[Int.reducePow]at h;simp only[Bw,pU,iO];omega
  exact H _
 ·have H:∀p k,∀r∈nL l p k,r.off<=9223372036854775807:=by
   intro p k
   induction k with
   |zero=>intro y a;simp[nL]at a
   |succ k b=>
    intro y a;simp only[nL,nR,yL]at a;rcases a with a|rfl
    ·exact b y a
    ·have h:=mz l (p+7*k+2) 2;simp only[Int.reducePow]at h;simp only[Bj];omega
  exact H _ _
theorem Kt(s:bT)(w:av)(B:s.size<=1048576):
  Calls prog 19 #[aB s] w λe a=>GJ s e a/\az w a N:=by
 obtain⟨i0,hi,hz0,hz1,hz2⟩:=fG Tryz.pR;obtain⟨i1,hi1,hy0,hy1,hy2⟩:=fG Tryz.L9;obtain⟨i2,hi2,hx0,hx1,hx2⟩:=fG Tryz.Mm;by_cases hlen:65536<s.size
 ·have d:decide (65536<(s.size:Z))=T:=by simp;omega
  have a:=ae (iD s);go_enter func19,ntmps19;go_wp2;go_ret2;exact⟨.inr ⟨λh=>by have:=Dk h;rw[a.o]at this;omega,_,R⟩,aW _ _⟩
 have aii:decide (65536<(s.size:Z))=F:=by simp;omega
 have q2:=mz (sl s) 2 2;have q4:=mz (sl s) 4 2;have q6:=mz (sl s) 6 2;have Hm:=mz (sl s) 14 1;have IV:=mz (sl s) 15 1;simp only[Int.reducePow]at q2 q4 q6 Hm IV;have En:=ae (show eE (sl s)=⟨jr (sl s) ((fy (sl s) (br (sl s) 14 1).toNat).2+7*(br (sl s) 15 1).toNat) (min (br (sl s) 2 2).toNat 1201),
  jr (sl s) ((fy (sl s) (br (sl s) 14 1).toNat).2+7*(br (sl s) 15 1).toNat+4*(br (sl s) 2 2).toNat) (min (br (sl s) 4 2).toNat 1201),
  jr (sl s) ((fy (sl s) (br (sl s) 14 1).toNat).2+7*(br (sl s) 15 1).toNat+4*(br (sl s) 2 2).toNat+4*(br (sl s) 4 2).toNat) (min (br (sl s) 6 2).toNat 1201),
  br (sl s) 8 2,sZ (sl s) 4,(fy (sl s) (br (sl s) 14 1).toNat).1,nL (sl s) (fy (sl s) (br (sl s) 14 1).toNat).2 (br (sl s) 15 1).toNat⟩from R)
 have NP:=ae (ach (sl s));have a2:=ae (λW=>mX s 2 2 2 2 rfl rfl W B (by omega) (by omega));have a4:=ae (λW=>mX s 4 2 4 2 rfl rfl W B (by omega) (by omega));have a6:=ae (λW=>mX s 6 2 6 2 rfl rfl W B (by omega) (by omega));have a8:=ae (λW=>mX s 8 2 8 2 rfl rfl W B (by omega) (by omega));have JJ:=ae (λW=>mX s 14 1 14 1 rfl rfl W B (by omega) (by omega));have JK:=ae (λW=>mX s 15 1 15 1 rfl rfl W B (by omega) (by omega));generalize br (sl s) 8 2=C at *;obtain⟨y,D⟩:=eX q2.1;obtain⟨A,z⟩:=eX q4.1;obtain⟨H,r⟩:=eX q6.1
 obtain⟨ns,l⟩:=eX Hm.1;obtain⟨nr,a⟩:=eX IV.1;rw[D]at q2;rw[z]at q4;rw[r]at q6;rw[l]at Hm;rw[a]at IV;rw[D]at a2;rw[z]at a4;rw[r]at a6;rw[l]at JJ;rw[a]at JK;rw[D,z,r,l,a]at En;simp only[dy]at En;clear D z r l a;go_enter func19,ntmps19;go_wp2_with fail;refine Calls.fK (om w w.heap.size #[ak N 0 0,ak N 0 0,ak N 0 0,I J 0,ak N 0 0,ak N 0 0,ak N 0 0] []) (om.begin w _) ?_;generalize a:w.heap.size=g at *;have G:w.heap.size<=g:=by omega
 clear a;intro V0 a;refine(a8.o V0).mono ?_;rintro e V ⟨rfl,rfl⟩;have k:=a.obj.cell 3;have f:=a.obj.free 3;have P0:=ae (a.store G 3 (I J C));clear a;simp only[dt,dB,dC]at P0;go_wp2;have O:=P0.o.obj.lt;generalize aK V ⟨g,3,N⟩ (I J C)=V1 at *;clear k f V
 go_loopw [5] (λi wr=>∃k:M,∃v:aC,k<=4/\i=I J k/\aA wr g #[ak N 0 0,ak N 0 0,ak N 0 0,I J C,v,ak N 0 0,ak N 0 0] 72/\aV wr V1.heap.size 3 1 v k ((sZ (sl s) k).map (I .i64))/\az V1 wr (S g)) (λi _=>4-(aN i).toNat)
 case atStart=>exact⟨0,_,bG _,R,P0.o.obj,eO _ _ _ _,aW _ _⟩
 case round=>
  obtain⟨k,v,hk4,rfl,r,a,l⟩:=hrel;obtain⟨X,Y,rfl⟩:=yi a;have E:=ae r;have P:=ae l;have c4:=r.cell 4;have f4:=r.free 4;have U:=l.size;clear r l;by_cases hlt:k<4
  ·have hlt':(k:Z)<4:=by omega
   have Q:=ae (λW=>mX s (10+k) 1 (10+(k:Z)) 1 (by omega) R W B (by omega) (by omega));have D:=ae (show sZ (sl s) (k+1)=sZ (sl s) k++[br (sl s) (10+k) 1]from R);generalize br (sl s) (10+k) 1=x at *;go_wp2_with fail;refine(Q.o _).mono ?_;rintro e V ⟨rfl,rfl⟩;go_wp2_with (at_builtin;refine jI _ R _ _ 23 rfl V1.heap.size 3 i0 (I J 0) 1 8 underlying23 hi hz0 hz1 hz2 R (by decide) _ _ _ R (a.alloc _) ⟨V.heap.size,0,N⟩ 1 1 [I J x] rfl rfl (qt _ _ _) (by intro u l;simp at l;subst l;rfl) (by unfold cu;omega) (by omega) (by simp;omega) ?_;intro v' w3 r l _;obtain⟨gR,cv',rfl⟩:=yi r;have z:=GU O E.o l (λb l=>(a.lt b l).1);have P9:=z.cell 4;have Qh:=z.free 4;have K:=ae (GK (o:=4) O E.o P.o l (λb l=>(a.lt b l).1) r);clear l r z)
   simp only[dt,dB,dC]at K;go_wp2
   go_roundw
   case rel=>exact⟨k+1,_,by omega,by go_num,K.o.1,by rw[D.o,pH];exact K.o.2.1,K.o.2.2⟩
   case measure=>simp[aN];omega
  ·obtain rfl:k=4:=by omega
   have P1:=ae (P0.o.row G E.o P.o ⟨3,1,ak X 4 Y,4,(sZ (sl s) 4).map (I .i64)⟩ a);obtain⟨V2,hV2⟩:∃a:av,a=wr:=⟨_,R⟩
   subst hV2;clear a E P c4 f4 U P0 O;have O:=P1.o.obj.lt;go_wp2_with fail;refine(JJ.o _).mono ?_;rintro e V ⟨rfl,rfl⟩;go_wp2_with fail;refine(JK.o _).mono ?_;rintro e ke ⟨rfl,rfl⟩;go_wp2
   go_loopw [9,10] (λp i wr=>∃k:M,∃v:aC,k<=ns/\i=I J k/\p=I J ((fy (sl s) k).2:Z)/\aA wr g #[ak N 0 0,ak N 0 0,ak N 0 0,I J C,ak X 4 Y,v,ak N 0 0] 72/\aV wr ke.heap.size 107 4 v k ((fy (sl s) k).1.flatMap gy)/\az ke wr (S g)) (λ_ i _=>ns-(aN i).toNat)
   case atStart=>exact⟨0,_,bG _,R,R,P1.o.obj,eO _ _ _ _,aW _ _⟩
   case round=>
    obtain⟨k,v,hkn,rfl,rfl,r,a,l⟩:=hrel;obtain⟨wM,wN,rfl⟩:=yi a;have E:=ae r;have P:=ae l;have c5:=r.cell 5;have f5:=r.free 5;have U:=l.size;have hpos:=NP.o k;clear r l;by_cases hlt:k<ns
    ·have hlt':(k:Z)<(ns:Z):=by omega
     have HE:=ae (show (fy (sl s) (k+1)).1=(fy (sl s) k).1++[Bw (sl s) (fy (sl s) k).2]from R);have HP:=ae (show (fy (sl s) (k+1)).2=(fy (sl s) k).2+5+(br (sl s) (fy (sl s) k).2 1).toNat from R);generalize (fy (sl s) k).2=p at *;have rn:=mz (sl s) p 1;simp only[Int.reducePow]at rn;have b0:=ae (λW=>mX s p 1 (p:Z) 1 rfl rfl W B (by omega) (by omega));have HX:=ae (show Bw (sl s) p=⟨pU (sl s) (p+1) (br (sl s) p 1).toNat,br (sl s) (p+1+(br (sl s) p 1).toNat) 1,br (sl s) (p+2+(br (sl s) p 1).toNat) 1,br (sl s) (p+3+(br (sl s) p 1).toNat) 2⟩from R);obtain⟨n,l⟩:=eX rn.1
     rw[l]at rn b0 HX HP;simp only[dy]at HX HP;clear l;have b1:=ae (λW=>mX s (p+1+n) 1 ((p:Z)+1+(n:Z)) 1 (by omega) R W B (by omega) (by omega));have b2:=ae (λW=>mX s (p+2+n) 1 ((p:Z)+2+(n:Z)) 1 (by omega) R W B (by omega) (by omega));have b3:=ae (λW=>mX s (p+3+n) 2 ((p:Z)+3+(n:Z)) 2 (by omega) R W B (by omega) (by omega));have b4:=ae (λW=>TB s (p+1) n ((p:Z)+1) (n:Z) (by omega) R W B (by omega) (by omega));generalize br (sl s) (p+1+n) 1=y1 at *;generalize br (sl s) (p+2+n) 1=y2 at *;generalize br (sl s) (p+3+n) 2=y3 at *;generalize pU (sl s) (p+1) n=y0 at *
     go_wp2_with fail;refine(b0.o _).mono ?_;rintro e V ⟨rfl,rfl⟩;go_wp2_with fail;refine(b1.o _).mono ?_;rintro e V ⟨rfl,rfl⟩;go_wp2_with fail;refine(b2.o _).mono ?_;rintro e V ⟨rfl,rfl⟩;go_wp2_with fail;refine(b3.o _).mono ?_;rintro e V ⟨rfl,rfl⟩;go_wp2_with fail;refine(b4.o _).mono ?_;rintro e V ⟨rfl,rfl⟩;go_wp2_with (at_builtin;refine jI _ R _ _ 69 rfl ke.heap.size 107 i1 (.agg #[aB ⟨#[]⟩,I J 0,I J 0,I J 0]) 4 40 underlying69 hi1 hy0 hy1 hy2 R (by decide) _ _ _ R (a.alloc _) ⟨V.heap.size,0,N⟩ 1 1 (gy ⟨y0,y1,y2,y3⟩) R R (Ld _ _ _) (by intro u l;simp[gy]at l;rcases l with rfl|rfl|rfl|rfl<;>rfl) (by unfold cu;omega) (by omega) (by simp;omega) ?_;intro v' w3 r l _;obtain⟨gR,cv',rfl⟩:=yi r;have z:=GU O E.o l (λb l=>(a.lt b l).1);have Q:=z.cell 5;have D:=z.free 5;have K:=ae (GK (o:=5) O E.o P.o l (λb l=>(a.lt b l).1) r);clear l r z)
     simp only[dt,dB,dC]at K;go_wp2
     go_roundw
     case rel=>exact⟨k+1,_,by omega,by go_num,by rw[HP.o];go_num,K.o.1,by rw[HE.o,HX.o,ru];simpa using K.o.2.1,K.o.2.2⟩
     case measure=>simp[aN];omega
    ·obtain rfl:k=ns:=by omega
     have P2:=ae (P1.o.row G E.o P.o ⟨107,4,ak wM k wN,k,(fy (sl s) k).1.flatMap gy⟩ a);obtain⟨gw,Zb⟩:∃a:av,a=wr:=⟨_,R⟩
     subst Zb;clear a E P c5 f5 U P1 O;have O:=P2.o.obj.lt;generalize (fy (sl s) k).2=D at *;go_wp2
     go_loopw [9,17] (λp i wr=>∃j:M,∃v:aC,j<=nr/\i=I J j/\p=I J ((D+7*j:M):Z)/\aA wr g #[ak N 0 0,ak N 0 0,ak N 0 0,I J C,ak X 4 Y,ak wM k wN,v] 72/\aV wr gw.heap.size 75 5 v j ((nL (sl s) D j).flatMap jc)/\az gw wr (S g)) (λ_ i _=>nr-(aN i).toNat)
     case atStart=>exact⟨0,_,bG _,R,R,P2.o.obj,eO _ _ _ _,aW _ _⟩
     case round=>
      obtain⟨j,v,hjn,rfl,rfl,r,a,l⟩:=hrel;obtain⟨nG,nH,rfl⟩:=yi a;have E:=ae r;have P:=ae l;have c6:=r.cell 6;have f6:=r.free 6;have U:=l.size;clear r l;by_cases hlt:j<nr
      ·have hlt':(j:Z)<(nr:Z):=by omega
       have HE:=ae (show nL (sl s) D (j+1)=nL (sl s) D j++[Bj (sl s) (D+7*j)]from R);have HP:=ae (show D+7*(j+1)=D+7*j+7 from by omega);have hpp:D+7*j<=1048576:=by omega
       generalize D+7*j=p at *;have HX:=ae (show Bj (sl s) p=⟨br (sl s) p 1,br (sl s) (p+2) 2,br (sl s) (p+1) 1,br (sl s) (p+4) 1,oD (br (sl s) (p+5) 2)⟩from R);have rn:=mz (sl s) (p+5) 2;simp only[Int.reducePow]at rn;have b0:=ae (λW=>mX s p 1 (p:Z) 1 rfl rfl W B (by omega) (by omega));have b1:=ae (λW=>mX s (p+1) 1 ((p:Z)+1) 1 (by omega) R W B (by omega) (by omega));have b2:=ae (λW=>mX s (p+2) 2 ((p:Z)+2) 2 (by omega) R W B (by omega) (by omega));have b3:=ae (λW=>mX s (p+4) 1 ((p:Z)+4) 1 (by omega) R W B (by omega) (by omega));have b4:=ae (λW=>mX s (p+5) 2 ((p:Z)+5) 2 (by omega) R W B (by omega) (by omega))
       generalize br (sl s) p 1=y0 at *;generalize br (sl s) (p+1) 1=y1 at *;generalize br (sl s) (p+2) 2=y2 at *;generalize br (sl s) (p+4) 1=y3 at *;generalize br (sl s) (p+5) 2=y4 at *;go_wp2_with fail;refine(b0.o _).mono ?_;rintro e V ⟨rfl,rfl⟩;go_wp2_with fail;refine(b1.o _).mono ?_;rintro e V ⟨rfl,rfl⟩;go_wp2_with fail;refine(b2.o _).mono ?_;rintro e V ⟨rfl,rfl⟩;go_wp2_with fail;refine(b3.o _).mono ?_;rintro e V ⟨rfl,rfl⟩;go_wp2_with fail;refine(b4.o _).mono ?_;rintro e V ⟨rfl,rfl⟩;rcases (show (y4-65536=oD y4/\decide (32767<y4)=T)\/(y4=oD y4/\decide (32767<y4)=F)from by unfold oD;by_cases c:32767<y4<;>simp<;>omega)with ⟨Q,hdc⟩|⟨Q,hdc⟩
       ·have JR:=ae Q;clear Q;go_wp2_with (at_builtin;refine jI _ R _ _ 70 rfl gw.heap.size 75 i2 (.agg #[I J 0,I J 0,I J 0,I J 0,I J 0]) 5 40 underlying70 hi2 hx0 hx1 hx2 R (by decide) _ _ _ R (a.alloc _) ⟨V.heap.size,0,N⟩ 1 1 (jc ⟨y0,y2,y1,y3,y4-65536⟩) R R (Ld _ _ _) (by intro u l;simp[jc]at l;rcases l with rfl|rfl|rfl|rfl|rfl<;>rfl) (by unfold cu;omega) (by omega) (by simp;omega) ?_;intro v' w3 r l _;obtain⟨gR,cv',rfl⟩:=yi r;have z:=GU O E.o l (λb l=>(a.lt b l).1);have YW:=z.cell 6;have Y6:=z.free 6;have K:=ae (GK (o:=6) O E.o P.o l (λb l=>(a.lt b l).1) r);clear l r z)
        simp only[dt,dB,dC]at K;go_wp2
        go_roundw
        case rel=>exact⟨j+1,_,by omega,by go_num,by rw[HP.o];go_num,K.o.1,by rw[HE.o,HX.o,<- JR.o,ru];simpa using K.o.2.1,K.o.2.2⟩
        case measure=>simp[aN];omega
       ·have JR:=ae Q;clear Q;go_wp2_with (at_builtin;refine jI _ R _ _ 70 rfl gw.heap.size 75 i2 (.agg #[I J 0,I J 0,I J 0,I J 0,I J 0]) 5 40 underlying70 hi2 hx0 hx1 hx2 R (by decide) _ _ _ R (a.alloc _) ⟨V.heap.size,0,N⟩ 1 1 (jc ⟨y0,y2,y1,y3,y4⟩) R R (Ld _ _ _) (by intro u l;simp[jc]at l;rcases l with rfl|rfl|rfl|rfl|rfl<;>rfl) (by unfold cu;omega) (by omega) (by simp;omega) ?_;intro v' w3 r l _;obtain⟨gR,cv',rfl⟩:=yi r;have z:=GU O E.o l (λb l=>(a.lt b l).1);have YW:=z.cell 6;have Y6:=z.free 6;have K:=ae (GK (o:=6) O E.o P.o l (λb l=>(a.lt b l).1) r);clear l r z)
        simp only[dt,dB,dC]at K;go_wp2
        go_roundw
        case rel=>exact⟨j+1,_,by omega,by go_num,by rw[HP.o];go_num,K.o.1,by rw[HE.o,HX.o,<- JR.o,ru];simpa using K.o.2.1,K.o.2.2⟩
        case measure=>simp[aN];omega
      ·obtain rfl:j=nr:=by omega
       have P3:=ae (P2.o.row G E.o P.o ⟨75,5,ak nG j nH,j,(nL (sl s) D j).flatMap jc⟩ a);obtain⟨fp,Zc⟩:∃a:av,a=wr:=⟨_,R⟩
       subst Zc;clear a E P c6 f6 U P2 O;have hpe:D+7*j<=1048576:=by omega
       generalize D+7*j=l at *;have n1:=ae (λW=>Kq s l y (l:Z) (y:Z) R R W B (by omega) (by omega));have n2:=ae (λW=>Kq s (l+4*y) A ((l:Z)+4*(y:Z)) (A:Z) (by omega) R W B (by omega) (by omega));have n3:=ae (λW=>Kq s (l+4*y+4*A) H ((l:Z)+4*(y:Z)+4*(A:Z)) (H:Z) (by omega) R W B (by omega) (by omega));go_wp2_with fail;refine(a2.o _).mono ?_;rintro e V ⟨rfl,rfl⟩;go_wp2_with fail;refine(a4.o _).mono ?_;rintro e V ⟨rfl,rfl⟩;go_wp2_with fail;refine(a6.o _).mono ?_;rintro e V ⟨rfl,rfl⟩;go_wp2_with fail;refine(n1.o _).mono ?_;rintro e ja ⟨vt,rfl,o,q⟩
       obtain⟨Q,pg,rfl⟩:=yi o;have P4:=ae (P3.o.put G q ⟨3,1,ak Q (min y 1201) pg,min y 1201,(jr (sl s) l (min y 1201)).map (I .i64)⟩ o 0);have z:=P3.o.obj.grown q (by simp);have r:=z.cell 0;have kf:=z.free 0;clear z o q P3;simp only[dt,dC]at P4;go_wp2_with fail;refine Calls.fK (om w g #[ak Q (min y 1201) pg,ak N 0 0,ak N 0 0,I J C,ak X 4 Y,ak wM k wN,ak nG j nH] [⟨3,1,ak Q (min y 1201) pg,min y 1201,(jr (sl s) l (min y 1201)).map (I .i64)⟩,⟨75,5,ak nG j nH,j,(nL (sl s) D j).flatMap jc⟩,⟨107,4,ak wM k wN,k,(fy (sl s) k).1.flatMap gy⟩,⟨3,1,ak X 4 Y,4,(sZ (sl s) 4).map (I .i64)⟩]) P4.o ?_
       clear P4 r kf ja;intro wF h7;refine(n2.o wF).mono ?_;rintro e xN ⟨vf,rfl,o,q⟩;obtain⟨rX,rT,rfl⟩:=yi o;have Jg:=ae (h7.put G q ⟨3,1,ak rX (min A 1201) rT,min A 1201,(jr (sl s) (l+4*y) (min A 1201)).map (I .i64)⟩ o 1);have z:=h7.obj.grown q (by simp);have r:=z.cell 1;have kf:=z.free 1;clear z o q h7;simp only[dt,dB,dC]at Jg;go_wp2_with fail;refine Calls.fK (om w g #[ak Q (min y 1201) pg,ak rX (min A 1201) rT,ak N 0 0,I J C,ak X 4 Y,ak wM k wN,ak nG j nH] [⟨3,1,ak rX (min A 1201) rT,min A 1201,(jr (sl s) (l+4*y) (min A 1201)).map (I .i64)⟩,⟨3,1,ak Q (min y 1201) pg,min y 1201,(jr (sl s) l (min y 1201)).map (I .i64)⟩,⟨75,5,ak nG j nH,j,(nL (sl s) D j).flatMap jc⟩,⟨107,4,ak wM k wN,k,(fy (sl s) k).1.flatMap gy⟩,⟨3,1,ak X 4 Y,4,(sZ (sl s) 4).map (I .i64)⟩]) Jg.o ?_
       clear Jg r kf xN;intro tW h9;refine(n3.o tW).mono ?_;rintro e Cq ⟨vd,rfl,o,q⟩;obtain⟨vo,vz,rfl⟩:=yi o;have Jh:=ae (h9.put G q ⟨3,1,ak vo (min H 1201) vz,min H 1201,(jr (sl s) (l+4*y+4*A) (min H 1201)).map (I .i64)⟩ o 2);have z:=h9.obj.grown q (by simp);have r:=z.cell 2;have kf:=z.free 2;clear z o q h9;simp only[dt,dB,dC]at Jh;go_wp2_with fail;refine Calls.fK (om w g #[ak Q (min y 1201) pg,ak rX (min A 1201) rT,ak vo (min H 1201) vz,I J C,ak X 4 Y,ak wM k wN,ak nG j nH] [⟨3,1,ak vo (min H 1201) vz,min H 1201,(jr (sl s) (l+4*y+4*A) (min H 1201)).map (I .i64)⟩,⟨3,1,ak rX (min A 1201) rT,min A 1201,(jr (sl s) (l+4*y) (min A 1201)).map (I .i64)⟩,⟨3,1,ak Q (min y 1201) pg,min y 1201,(jr (sl s) l (min y 1201)).map (I .i64)⟩,⟨75,5,ak nG j nH,j,(nL (sl s) D j).flatMap jc⟩,⟨107,4,ak wM k wN,k,(fy (sl s) k).1.flatMap gy⟩,⟨3,1,ak X 4 Y,4,(sZ (sl s) 4).map (I .i64)⟩]) Jh.o ?_
       clear Jh r kf Cq;intro Am r;have Cp:=ae (show yr Am g (eE (sl s))from by
        have z:=Bd (sl s) l (min y 1201);have e2:=Bd (sl s) (l+4*y) (min A 1201);have e3:=Bd (sl s) (l+4*y+4*A) (min H 1201);have e4:(sZ (sl s) 4).length=4:=R;have e5:=QV (sl s) k;have e6:=QU (sl s) D j;rw[En.o];refine⟨_,_,_,_,_,_,r.obj,?_,?_,?_,?_,?_,?_⟩
        ·simp only[z];exact kE (r.rows ⟨3,1,ak Q (min y 1201) pg,min y 1201,(jr (sl s) l (min y 1201)).map (I .i64)⟩ (by simp)) (bG _)
        ·simp only[e2];exact kE (r.rows ⟨3,1,ak rX (min A 1201) rT,min A 1201,(jr (sl s) (l+4*y) (min A 1201)).map (I .i64)⟩ (by simp)) (bG _)
        ·simp only[e3];exact kE (r.rows ⟨3,1,ak vo (min H 1201) vz,min H 1201,(jr (sl s) (l+4*y+4*A) (min H 1201)).map (I .i64)⟩ (by simp)) (bG _)
        ·simp only[e4];exact kE (r.rows ⟨3,1,ak X 4 Y,4,(sZ (sl s) 4).map (I .i64)⟩ (by simp)) (bG _)
        ·simp only[e5];exact kE (r.rows ⟨107,4,ak wM k wN,k,(fy (sl s) k).1.flatMap gy⟩ (by simp)) (bG _)
        ·simp only[e6];exact kE (r.rows ⟨75,5,ak nG j nH,j,(nL (sl s) D j).flatMap jc⟩ (by simp)) (bG _))
       have Vq:=ae r.gr;clear r En n1 n2 n3 a2 a4 a6 a8 JJ JK NP;have JS:=ae (aeP (sl s));have ahC:=ae (show fq (sl s)↔yl (eE (sl s))/\iX (eE (sl s))=sl s from Iff.rfl);have ahA:=ae (Lb s);have z:=ae (abi g (eE (sl s)) Am Cp.o JS.o);refine z.o.mono ?_;rintro e Ji ⟨t,q⟩;have PJ:=ae (ya Vq.o q);have MX:=ae (Cp.o.kept q);rcases t.split with ⟨rfl,r⟩|⟨rfl,r⟩<;>clear t q z
       ·go_wp2;go_ret2;exact⟨.inr ⟨λh=>r.o h.1,_,R⟩,PJ.o⟩
       ·have z:=ae (adG g (eE (sl s)) Ji MX.o JS.o.1 r.o.2.1.1 ⟨r.o.1.2.2.1,r.o.1.2.2.2⟩ JS.o.2.1);go_wp2_with fail;refine z.o.mono ?_;rintro e ahT ⟨rfl,q⟩;have PK:=ae (ya PJ.o q);have VE:=ae (MX.o.kept q);clear q z;have NR:=ae (ik (iX (eE (sl s))));have PD:=ae (show s.toList=sl s from ByteArray.toList_eq s);by_cases c:iX (eE (sl s))=sl s
        ·have d:((bs (iX (eE (sl s)))).toList==s.toList)=T:=by rw[NR.o,PD.o,dQ];exact c
         have z:=ae c;clear c;go_wp2;go_ret2;exact⟨.inl ⟨⟨r.o,z.o⟩,g,R,VE.o⟩,PK.o⟩
        ·have d:((bs (iX (eE (sl s)))).toList==s.toList)=F:=by rw[NR.o,PD.o,df];exact c
         have z:=ae c;clear c;go_wp2;go_ret2;exact⟨.inr ⟨λh=>z.o h.2,_,R⟩,PK.o⟩
def uA(w:av)(ao:aR aY)(ms:L (L aL)):Prop :=
 0<ah ms->∃g off,ao=S ⟨g,off,N⟩/\∀i (h:i<ah ms),aq w ⟨g,off+i,N⟩=S (aB (bs ms[i]))
theorem uA.dh{w:av}{base:M}{a:aR aY}{cap:M}{ms:L (L aL)}(h:aV w base 9 1 (ak a n cap) n (iR ms)):uA w a ms:=by
 intro j;have l:ah ms=n:=by have:=h.1;simpa[iR]using this
 rcases h.2 with ⟨e,k⟩|⟨g,b,d,c,_⟩
 ·simp at e;omega
 ·simp only[Value.slice.injEq]at c;obtain⟨rfl,_,rfl⟩:=c;refine⟨g,0,R,λi f=>?_⟩
  have:=h.cellAt i (by omega)
  rw[Nat.zero_add,this];simp[iR,f]
theorem uA.kept{w d:av}{c:aR aY}{ms:L (L aL)}(h:uA w c ms)(k:∀a v,aq w a=S v->aq d a=S v):uA d c ms:=by
 intro e;obtain⟨g,b,f,j⟩:=h e;exact⟨g,b,f,λi b=>k _ _ (j i b)⟩
theorem adD(b:L aL):(⟨#[65,82]⟩:bT)++bs b=bs ([65,82]++b):=kG [65,82] b
def vT(ms:L (L aL)):Prop:=(1<=ah ms/\(ah ms)<=6)/\∀m∈ms,fq m
def Tu(ms:L (L aL))(e:Ending):Prop :=
 (vT ms/\e=aH (aZ #[aB (bs (ur ms)),aJ T]))\/(¬vT ms/\e=aH (aZ #[aB ⟨#[]⟩,aJ F]))
theorem ad3(k:M)(ms:L (L aL))(h:∀m∈ms,ah m<=65535):((ms.take k).flatMap iB).length<=65537*(ms.take k).length :=
 Lq iB 65537 _ λm a=>by
  have:=h m (xG a)
  simp only[iB,bX,dg];omega
theorem ab1(V:aR aY)(cap:M)(ms:L (L aL))(w:av)(X:uA w V ms)(u:∀m∈ms,ah m<=65535)(hn:ah ms<=65535):
  Calls prog 51 #[ak V (ah ms) cap] w λe f=>Tu ms e/\az w f N:=by
 have HI:=ae X;have Q:=ae u;have U:=ae (aW w N);have um:=ae (show vT ms↔(1<=ah ms/\(ah ms)<=6)/\∀m∈ms,fq m from Iff.rfl);have H:Hd (∀W,¬vT ms->az w W N->Tu ms (aH (aZ #[aB ⟨#[]⟩,aJ F]))/\az w W N):=λW a b=>⟨.inr ⟨a,R⟩,b⟩
 clear X u;go_enter func51,ntmps51;by_cases c:ah ms<1
 ·have d:decide ((ah ms:Z)<1)=true:=by simp;omega
  have p:=ae (show ¬vT ms from λh=>by have:=h.1.1;omega);clear c;go_wp2;go_ret2;exact H.o _ p.o U.o
 have d1:decide ((ah ms:Z)<1)=F:=by simp;omega
 by_cases c6:6<ah ms
 ·have d:decide (6<(ah ms:Z))=true:=by simp;omega
  have p:=ae (show ¬vT ms from λh=>by have:=h.1.2;omega);clear c;go_wp2;go_ret2;exact H.o _ p.o U.o
 have d2:decide (6<(ah ms:Z))=F:=by simp;omega
 have q:=ae (show 1<=ah ms/\(ah ms)<=6 from by omega);clear c;have cL:=ae (λW=>mY (ah ms:Z) 1 1 rfl W (by omega));have y0:=nE (ah ms:Z) 1 (by decide);go_wp2_with fail;refine(cL.o _).mono ?_;rintro e w1 ⟨rfl,f⟩;have S:=ae f;clear f;go_wp2;obtain⟨s,f⟩:∃s,s=[65,82]++bu (ah ms) 1:=⟨_,R⟩
 have O:=ae f;have l:ah s=3:=by rw[f];simp[dg]
 have qO:=ae l;clear f l
 go_loopw [4,5] (λt i wr=>∃k:M,k<=ah ms/\i = .int .i64 k/\(∃f:L aL,t=aB (bs f)/\f=s++(ms.take k).flatMap iB)/\(∀j (p:j<ah ms),j<k->fq ms[j])/\az w wr N) (λ_ i _=>ah ms-(aN i).toNat)
 case atStart=>
  refine⟨0,bG _,R,⟨s,?_,by simp⟩,λj _ p=>absurd p (Nat.not_lt_zero j),S.o⟩;rw[O.o,<- adD]
 case round=>
  obtain⟨k,hk,rfl,⟨f,rfl,p⟩,l,r⟩:=hrel;have J:=ae p;have I:=ae l;have y:=ae r;have E:ah f<=3+65537*6:=by
   have:=ad3 k ms Q.o
   have x:=qO.o;rw[iO]at this;rw[p,bX];omega
  clear p l r;by_cases l:k<ah ms
  ·have Y:(k:Z)<(ah ms:Z):=by omega
   obtain⟨g,off,C,p⟩:=(HI.o.kept (λa v f=>yd f y.o)) (by omega)
   subst C;have D:=p k l;clear p;have x:=ae D;have G:=Q.o _ (bN l);have A:=ae (show (ms.take (k+1)).flatMap iB=(ms.take k).flatMap iB++(bu ms[k].length 2++ms[k])from by
    rw[kI l,ru];simp only[kX,List.flatMap_nil,lG,iB])
   have z:=ae (show ¬fq ms[k]->¬vT ms from λh a=>h (a.2 _ (bN l)));have Yy:=ae (show fq ms[k]->∀j (p:j<ah ms),j<k+1->fq ms[j]from λh j p r=>(Nat.lt_succ_iff_lt_or_eq.1 r).elim (λh=>I.o j p h) (λe=>by subst e;exact h));generalize ms[k]=m at *;have cP:=ae (λW=>Kt (bs m) W (by rw[nK];omega));have Xp:=ae (λW=>mY ((bs m).size:Z) 2 2 rfl W (by omega));have Yw:=ae (nK m);go_wp2_with fail;refine(cP.o _).mono ?_;rintro e w2 ⟨K,p⟩;have P:=ae (ya y.o p);have B:=yd x.o p;clear p;unfold GJ at K;rw[ou]at K;rcases K with ⟨r,gp,rfl,-⟩|⟨r,v,rfl⟩
   ·have HO:=ae r;clear r;go_wp2_with fail;refine(Xp.o _).mono ?_;rintro e w3 ⟨rfl,p⟩;have T:=ae (ya P.o p);have aiF:=yd B p;have y1:=tw f (3+65537*6) E;have y2:=nE ((bs m).size:Z) 2 (by decide);have y3:=tw m 65535 G;clear p;go_wp2
    go_roundw
    case rel=>exact⟨k+1,by omega,by go_num,⟨f++(bu (ah m) 2++m),by rw[Yw.o,kG,kG,cy],by rw[A.o,J.o,cy]⟩,Yy.o HO.o,T.o⟩
    case measure=>simp[aN];omega
   ·have p:=ae (z.o r);clear r;go_wp2;go_ret2;exact H.o _ p.o P.o
  ·obtain rfl:k=ah ms:=by omega
   have r:=ae (show vT ms from ⟨q.o,λm u=>by obtain⟨i,p,rfl⟩:=kY u;exact I.o i p p⟩);have p:=ae (show ur ms=f from by rw[J.o,O.o,List.take_length];unfold ur;rw[cy]);go_wp2;go_ret2;exact⟨.inl ⟨r.o,by rw[p.o];rfl⟩,y.o⟩
def Sh(l:L aL)(base:M)(e:Ending)(w':av):Prop :=
 ∃v b,e=aH (aZ #[v,aJ b])/\(b=T↔jq l (gz l))/\aV w' base 9 1 v (gz l).length (iR (gz l))
theorem adx(s:bT)(w:av)(P:s.size<=1048576):
  Calls prog 20 #[aB s] w λe a=>Sh (sl s) w.heap.size e a/\az w a N:=by
 obtain⟨i0,hi,Q,U,X⟩:=fG Tryz.Hi;have Y:=mz (sl s) 2 1;simp only[Int.reducePow]at Y;have a2:=ae (λW=>mX s 2 1 2 1 rfl rfl W P (by omega) (by omega));have z:=ae (show gz (sl s)=(iK (sl s) (min (br (sl s) 2 1).toNat 6)).1 from R);obtain⟨n,a⟩:=eX Y.1;rw[a]at Y a2 z;rw[dy]at z;clear a;have M:=ae (abH (sl s));have Px:=ae (Rk (sl s));have L:=ae (ZZ (sl s));go_enter func20,ntmps20;go_wp2_with fail;refine(a2.o _).mono ?_;rintro e V ⟨rfl,rfl⟩;go_wp2
 go_loopw [4,6,7] (λv p i wr=>∃k:Nat,k<=n/\k<=6/\i=I J k/\p=I J ((iK (sl s) k).2:Z)/\aV wr V.heap.size 9 1 v k (iR (iK (sl s) k).1)/\az V wr N) (λ_ _ i _=>6-(aN i).toNat)
 case atStart=>exact⟨0,bG _,bG _,R,R,eO _ _ _ _,aW _ _⟩
 case round=>
  obtain⟨k,hk,ahz,rfl,rfl,f,a⟩:=hrel;obtain⟨A,K,rfl⟩:=yi f;have E:=ae a;have hsz:=a.size;have y:=M.o k;clear a;by_cases x:k<n/\k<6
  ·obtain⟨G,H⟩:=x;have e1:decide ((k:Z)<(n:Z))=T:=by simp;omega
   have e2:decide ((k:Z)<6)=T:=by simp;omega
   have l:=ae (show (iK (sl s) (k+1)).1=(iK (sl s) k).1++[pU (sl s) ((iK (sl s) k).2+2) (br (sl s) (iK (sl s) k).2 2).toNat]from R);have r:=ae (show (iK (sl s) (k+1)).2=(iK (sl s) k).2+2+(br (sl s) (iK (sl s) k).2 2).toNat from R);generalize (iK (sl s) k).2=p at *;have C:=mz (sl s) p 2;simp only[Int.reducePow]at C;have D:=ae (λW=>mX s p 2 (p:Z) 2 rfl rfl W P (by omega) (by omega));obtain⟨j,a⟩:=eX C.1;rw[a]at C D l r;rw[dy]at l r;clear a;have b1:=ae (λW=>TB s (p+2) j ((p:Z)+2) (j:Z) (by omega) R W P (by omega) (by omega))
   generalize pU (sl s) (p+2) j=m at *;go_wp2_with fail;refine(D.o _).mono ?_;rintro e W1 ⟨rfl,rfl⟩;go_wp2_with fail;refine(b1.o _).mono ?_;rintro e t ⟨rfl,rfl⟩;go_wp2_with (at_builtin;refine jI _ R _ _ 22 rfl V.heap.size 9 i0 (aB ⟨#[]⟩) 1 16 underlying22 hi Q U X R (by decide) _ _ _ R (f.alloc _) ⟨t.heap.size,0,N⟩ 1 1 [aB (bs m)] rfl rfl (qt _ _ _) (by intro u a;simp at a;subst a;rfl) (by unfold cu;omega) (by omega) (by simp;omega) ?_;intro v' O g a _)
   have S:=ae (show aV O V.heap.size 9 1 v' (k+1) (iR (iK (sl s) (k+1)).1)from by unfold iR;rw[l.o,pH];exact g);have qA:=ae (show az V O N from by
    cases B:eW _ with
    |none=>rw[B]at a;exact ya (ya E.o (aG _ _ N)) a
    |some bb=>rw[B]at a;exact tz (ya E.o (aG _ _ N)) a (by have:=(f.lt bb B).1;omega))
   clear a g f;go_wp2
   go_roundw
   case rel=>exact⟨k+1,by omega,by omega,by go_num,by rw[r.o];go_num,S.o,qA.o⟩
   case measure=>simp[aN];omega
  ·have g:k=min n 6:=by omega
   have a:=ae (show gz (sl s)=(iK (sl s) k).1 from by rw[g];exact z.o);have j:=L.o k;have l:=Px.o k;rw[<- a.o]at j l f;have cA:=ae (λW (h:uA W A (gz (sl s)))=>ab1 A K (gz (sl s)) W h l (by omega));rw[j]at cA;have H:=ae (show jq (sl s) (gz (sl s))↔vT (gz (sl s))/\ur (gz (sl s))=sl s from ⟨λh=>⟨⟨h.1,h.2.1⟩,h.2.2⟩,λh=>⟨h.1.1,h.1.2,h.2⟩⟩);have G:=ae j;have O:(k=6/\6<n)\/k=n:=by omega
   clear j l x Px M y L a z g;have j:Hd (∀W,az V W N->aV W V.heap.size 9 1 (ak A k K) k (iR (gz (sl s)))->∀b,(b=T↔jq (sl s) (gz (sl s)))->Sh (sl s) V.heap.size (aH (aZ #[ak A k K,aJ b])) W/\az V W N):=λW a f b g=>⟨⟨_,b,R,g,by rw[G.o];exact f⟩,a⟩
   generalize jq (sl s) (gz (sl s))=ahL at *;have r:=ae (show s.toList=sl s from ByteArray.toList_eq s);have l:=ae f;clear f;generalize gz (sl s)=B at *;rcases O with ⟨rfl,Zf⟩|rfl
   all_goals
    go_wp2_with fail;refine(cA.o _ (uA.dh l.o)).mono ?_;rintro e t ⟨ar,q⟩;have D:=ae (ya E.o q);have C:=ae (l.o.kept q (by cases (eW _)<;>simp));clear q;rcases ar with ⟨g,rfl⟩|⟨g,rfl⟩
    ·have S:=ae (ik (ur B));by_cases c:ur B=sl s
     ·have d:((bs (ur B)).toList==s.toList)=T:=by rw[S.o,r.o,dQ];exact c
      have a:=ae (j.o t D.o C.o T ⟨λ_=>H.o.2 ⟨g,c⟩,λ_=>rfl⟩);clear c g;go_wp2;go_ret2;exact a.o
     ·have d:((bs (ur B)).toList==s.toList)=F:=by rw[S.o,r.o,df];exact c
      have a:=ae (j.o t D.o C.o F ⟨λh=>by simp at h,λh=>absurd (H.o.1 h).2 c⟩);clear c g;go_wp2;go_ret2;exact a.o
    ·have a:=ae (j.o t D.o C.o F ⟨λh=>by simp at h,λh=>absurd (H.o.1 h).1 g⟩);clear g;go_wp2;go_ret2;exact a.o
def yh(os:L aF)(y:dz):Bool:=(decide (y.au<=0)&&decide (y.bind=1)) && !(os.any λo=>mF o y.name)
def qs(os:L aF)(ys:L dz):L (L aL):=(ys.filter (yh os)).map (·.name)
def qp(os r:L aF):L (L aL):=r.flatMap λo=>qs os o.aE
def sw(os:L aF):L (L aL):=qp os os
theorem UR(os:L aF)(k:M)(h:k<ah os):qp os (os.drop k)=qs os os[k].aE++qp os (os.drop (k+1)):=by
 unfold qp;rw[fv h,kX]
theorem U1(os:L aF)(ys:L dz)(k:M)(h:k<ah ys)(a:yh os ys[k]=T):qs os (ys.drop k)=ys[k].name::qs os (ys.drop (k+1)):=by
 unfold qs;rw[fv h,List.filter_cons_of_pos a];rfl
theorem Uz(os:L aF)(ys:L dz)(k:M)(h:k<ah ys)(a:yh os ys[k]=F):qs os (ys.drop k)=qs os (ys.drop (k+1)):=by
 unfold qs;rw[fv h,List.filter_cons_of_neg (by simp[a])]
theorem U0(os:L aF)(ys:L dz):(qs os ys).length<=ah ys:=by
 unfold qs;rw[List.length_map];exact List.length_filter_le _ _
theorem MG(os:L aF):∀r:L aF,(∀o∈r,ah o.aE<=16)->(qp os r).length<=16*ah r:=by
 intro r
 induction r with
 |nil=>intro _;exact bz _
 |cons o r b=>
  intro h;have a:=b λx a=>h x (lJ _ a)
  have c:=U0 os o.aE;have d:=h o jU;show (List.flatMap _ (o::r)).length<=_;rw[kX,bX,dA];unfold qp at a;omega
theorem acf(a b:L (L aL)):iR (a++b)=iR a++iR b:=by unfold iR;simp
theorem abv(ao:aR aY)(cap:M)(c:L M)(os:L aF)(w:av)(h:oq w ao c os):
  Calls prog 52 #[ak ao (ah c) cap] w λe q=>∃v,e=aH v/\aV q w.heap.size 9 1 v (sw os).length (iR (sw os))/\az w q N:=by
 obtain⟨i2,hi2,hx0,hx1,hx2⟩:=fG Tryz.Hi;have H:=ae h;have G:=ae h.len;have hgl:ah c<=48:=by rw[h.len];exact h.few
 have yt:=ae (show sw os=qp os (os.drop 0)from R);have hG:(sw os).length<=768:=by
  have:=MG os os λo a=>(h.val o a).sX
  have:=h.few
  unfold sw;omega
 clear h;generalize sw os=z at *;go_enter func52,ntmps52;go_wp2
 go_loopw [3,4] (λv i wr=>∃(k:M) (g:L (L aL)),k<=ah c/\i=I J k/\z=g++qp os (os.drop k)/\aV wr w.heap.size 9 1 v (ah g) (iR g)/\az w wr N) (λ_ i _=>ah c-(aN i).toNat)
 case atStart=>exact⟨0,[],bG _,R,yt.o,eO _ _ _ _,aW _ _⟩
 case round=>
  obtain⟨k,g,hk,rfl,f,a,d⟩:=hrel;have HF:=ae f;have HG:=ae d;have CQ:=ae a;obtain⟨aa,ca,rfl⟩:=yi a;clear f d a;by_cases x:k<ah c
  ·have t:k<ah os:=by rw[<- G.o];exact x
   obtain⟨g0,off,hao,f⟩:=H.o.kD (by omega);subst hao;have HC:=ae f;have xZ:=ae (f k x);obtain⟨at_,ct,af,cf,ad,cd,Db,C6,gP,cs,ar,cr,d,-,-,-,-,l,-⟩:=(H.o.obj k x t).open;have a:=ae (gH.dh l);have HB:=ae d;have hns:=(H.o.val os[k] (bN t)).sX;have ks:=ae (UR os k t);clear f d l;generalize os[k].aE=l at *;generalize c[k]=bk at *;have g1:(k:Z)<(ah c:Z):=by omega
   go_wp2
   go_loopw [3,5] (λv i wr=>∃(j:M) (d:L (L aL)),j<=ah l/\i=I J j/\z=d++(qs os (l.drop j)++qp os (os.drop (k+1)))/\aV wr w.heap.size 9 1 v (ah d) (iR d)/\az w wr N) (λ_ i _=>ah l-(aN i).toNat)
   case atStart=>exact⟨0,g,bG _,R,by rw[HF.o,ks.o];rfl,CQ.o,HG.o⟩
   case round=>
    obtain⟨j,d,hj,rfl,q,f,r⟩:=hrel;have jl:=ae q;have p:=ae r;have U:=ae f;obtain⟨ab,cb,rfl⟩:=yi f;clear q r f;have ck:=yd xZ.o p.o;have k5:=(HB.o.grown p.o (by simp)).cell 5;simp only[bI,bB,bL]at k5;by_cases r:j<ah l
    ·obtain⟨sg,hsg,hgs,f⟩:=a.o.grown p.o (by omega);subst hsg;obtain⟨q,A,B,C⟩:=f j r;clear f;have g2:(j:Z)<(ah l:Z):=by omega
     have El:=ae (U1 os l j r);have vj:=ae (Uz os l j r);generalize l[j]=y at *;have s:=ae (show yh os y=((decide (y.au<=0)&&decide (y.bind=1)) && !(os.any λo=>mF o y.name))from R);generalize yh os y=qB at *;have P:=ae (aA.new wr #[aB (bs y.name),I J y.bind,I J y.au,I J y.off] 107);have f:=ae (aG wr (.cells #[aB (bs y.name),I J y.bind,I J y.au,I J y.off] 107) N);have V:=ae (U.o.alloc (.cells #[aB (bs y.name),I J y.bind,I J y.au,I J y.off] 107));have D:=ae (ya p.o f.o)
     have Q:=ae (λ(h:qB=F)=>show z=d++(qs os (l.drop (j+1))++qp os (os.drop (k+1))) by rw[jl.o,vj.o h]);clear f U
     go_upto_region 9 with fail
     generalize wr.alloc (.cells #[aB (bs y.name),I J y.bind,I J y.au,I J y.off] 107)=Y at *;generalize wr.heap.size=X at *;clear ck k5 q A B C;have x1:aq Y ⟨X,1,N⟩=S (I J y.bind):=P.o.cell 1;have x2:aq Y ⟨X,2,N⟩=S (I J y.au):=P.o.cell 2;by_cases q:0<y.au
     ·have b1:decide (0<y.au)=T:=by simpa using q
      have E:=ae (Q.o (by rw[s.o];simp;omega));clear q;go_wp2
      go_roundw
      case rel=>exact⟨j+1,d,by omega,by go_num,E.o,V.o,D.o⟩
      case measure=>simp[aN];omega
     by_cases f:y.bind=1
     rotate_left
     ·have b1:decide (0<y.au)=F:=by simpa using q
      have b2:(y.bind==1)=F:=by simpa using f
      have b3:(y.bind != 1)=T:=by simpa using f
      have E:=ae (Q.o (by rw[s.o];simp[f]));clear q f;go_wp2
      go_roundw
      case rel=>exact⟨j+1,d,by omega,by go_num,E.o,V.o,D.o⟩
      case measure=>simp[aN];omega
     have b1:decide (0<y.au)=F:=by simpa using q
     have b2:(y.bind==1)=T:=by simpa using f
     have b3:(y.bind != 1)=F:=by simpa using f
     have B:=ae (show qB = !(os.any λo=>mF o y.name) by
      rw[s.o,kB (show y.au<=0 by omega),kB f];rfl)
     clear q f s;generalize f:(os.any λo=>mF o y.name)=O at *;have JG:=ae f;clear f;go_wp2
     go_loopw [7,8] (λv i wr=>∃(m:M) (b:Bool),m<=ah c/\i=I J m/\v=aJ b/\O=(b ||(os.drop m).any λo=>mF o y.name)/\az Y wr N) (λ_ i _=>ah c-(aN i).toNat)
     case atStart=>exact⟨0,F,bG _,R,R,JG.o.symm,aW _ _⟩
     case round=>
      obtain⟨m,b,hm,rfl,rfl,f,q⟩:=hrel;have Ay:=ae f;have C:=ae q;have Va:=ae (P.o.grown q (by simp));clear f q x1 x2;have x0:aq wr ⟨X,0,N⟩=S (aB (bs y.name)):=Va.o.cell 0;by_cases s:m<ah c
      ·have f:m<ah os:=by rw[<- G.o];exact s
       have A:=ae (ya D.o C.o);have cm:=yd (HC.o m s) A.o;have Ch:=ae (show O=((b ||mF os[m] y.name) ||(os.drop (m+1)).any λo=>mF o y.name) by rw[Ay.o,fv f,List.any_cons,Bool.or_assoc]);have cV:=ae (λW (a:az w W N)=>Sk c[m] os[m] y.name W ((H.o.obj m s f).kept a) (by have:=(H.o.val os[m] (bN f)).sX;omega));generalize mF os[m] y.name=gv at *;generalize c[m]=bm at *;have g3:(m:Z)<(ah c:Z):=by omega
       go_wp2
       go_region_held3 (λq=>aq q ⟨X,0,N⟩=S (aB (bs y.name))/\aq q ⟨g0,off+m,N⟩=S (aM (S ⟨bm,0,N⟩)))
        (go_keep)
        (first|(go_at_call 53;refine(cV.o _ (yf A.o)).mono ?_;rintro e q ⟨rfl,K⟩;have s0:=yd (yd x0 (yf (aW wr N))) K;have s1:=yd (yd cm (yf (aW wr N))) K))
       have G4:=ae (ya (yf C.o) K);clear K s0 s1 x0 cm cV
       cases b
       ·go_wp2
        go_roundw
        case rel=>exact⟨m+1,gv,by omega,by go_num,R,Ch.o,G4.o⟩
        case measure=>simp[aN];omega
       ·go_wp2
        go_roundw
        case rel=>exact⟨m+1,T,by omega,by go_num,R,Ch.o,G4.o⟩
        case measure=>simp[aN];omega
      ·obtain rfl:m=ah c:=by omega
       have Ek:=ae (show O=b by rw[Ay.o,G.o,jJ];simp);have g3:decide ((ah c:Z)<(ah c:Z))=F:=by simp
       have K:=ae (lZ V.o C.o);have A:=ae (ya D.o C.o)
       cases b
       ·have E:=ae (show z=(d++[y.name])++(qs os (l.drop (j+1))++qp os (os.drop (k+1))) by
         rw[jl.o,El.o (by rw[B.o,Ek.o];rfl)];simp)
        have al:ah d+1<=768:=by
         have f:=congrArg ah E.o;rw[bX,bX,List.length_singleton]at f;omega
        have hsw:=A.o.size;go_wp2_with (at_builtin;refine wpList_append_own_at _ R _ _ 22 rfl w.heap.size 9 i2 (aB ⟨#[]⟩) 1 16 underlying22 hi2 hx0 hx1 hx2 R (by decide) _ _ _ R (K.o.alloc _) ⟨wr.heap.size,0,N⟩ 1 1 (iR [y.name]) R R (vQ _ _ _) (by intro u f;simp[iR]at f;rcases f with rfl;rfl) (by unfold cu;omega) (by omega) (by simp;omega) ?_;intro v' w3 f q _ hat;have N3:=ae (eh (ya A.o (aG _ _ N)) q (λb d=>(K.o.lt b d).1));have O3:=ae (show aV w3 w.heap.size 9 1 v' (d++[y.name]).length (iR (d++[y.name])) by rw[bX,acf];simpa using f);obtain⟨gR,cv',rfl⟩:=yi f;clear q f hat)
        go_roundw
        case rel=>exact⟨j+1,d++[y.name],by omega,by go_num,E.o,O3.o,N3.o⟩
        case measure=>simp[aN];omega
       ·have E:=ae (Q.o (by rw[B.o,Ek.o];rfl));go_wp2
        go_roundw
        case rel=>exact⟨j+1,d,by omega,by go_num,E.o,K.o,A.o⟩
        case measure=>simp[aN];omega
    ·obtain rfl:j=ah l:=by omega
     have E:=ae (show z=d++qp os (os.drop (k+1)) by rw[jl.o,jJ];rfl);have g3:decide ((ah l:Z)<(ah l:Z))=F:=by simp
     go_wp2
     go_roundw
     case rel=>exact⟨k+1,d,by omega,by go_num,E.o,U.o,p.o⟩
     case measure=>simp[aN];omega
  ·obtain rfl:k=ah c:=by omega
   have E:=ae (show z=g by rw[HF.o,G.o,jJ];simp[qp]);have g3:decide ((ah c:Z)<(ah c:Z))=F:=by simp
   go_wp2;go_ret;exact⟨_,R,by rw[E.o];exact CQ.o,HG.o⟩
theorem UD(n:L aL)(b:Z)(i:M)(p:M×M):∀(ys:L dz) (k:M),p∈nh n b i k ys->p.1=i/\k<=p.2/\∃y,ys[p.2-k]?=S y/\pC n b y=T:=by
 intro ys
 induction ys with
 |nil=>intro k h;cases h
 |cons y ys f=>
  intro k h;rw[nh]at h;by_cases c:pC n b y=T
  ·rw[aD c]at h;rcases nk.1 h with rfl|h
   ·exact⟨R,bz _,y,by simp,c⟩
   ·obtain⟨a,g,z,d,e⟩:=f (k+1) h;refine⟨a,by omega,z,?_,e⟩;rw[show p.2-k=(p.2-(k+1))+1 by omega,bB];exact d
  ·rw[ax c]at h;obtain⟨a,g,z,d,e⟩:=f (k+1) h;refine⟨a,by omega,z,?_,e⟩;rw[show p.2-k=(p.2-(k+1))+1 by omega,bB];exact d
theorem UB(n:L aL)(b:Z)(p:M×M):∀(os:L aF) (i:M),p∈mG n b i os->i<=p.1/\∃o y,os[p.1-i]?=S o/\o.aE[p.2]?=S y/\pC n b y=T:=by
 intro os
 induction os with
 |nil=>intro i h;cases h
 |cons o os f=>
  intro i h;rw[mG]at h;rcases nR.1 h with h|h
  ·obtain⟨d,-,z,a,c⟩:=UD n b i p o.aE 0 h;rw[Cz]at a;exact⟨by omega,o,z,by rw[d,Nat.sub_self];rfl,a,c⟩
  ·obtain⟨d,x,z,e,a,c⟩:=f (i+1) h;refine⟨by omega,x,z,?_,a,c⟩;rw[show p.1-i=(p.1-(i+1))+1 by omega,bB];exact e
def lD(os:L aF)(p:M×M):Prop:=∃h:p.1<ah os,p.2<os[p.1].aE.length
theorem lD.of{p:M×M}{y:dz}(e:os[p.1]?=S o)(f:o.aE[p.2]?=S y):lD os p/\fu os p.1 p.2=y:=by
 obtain⟨a,c⟩:=xE.1 e;obtain⟨b,d⟩:=xE.1 f;subst c;refine⟨⟨a,b⟩,?_⟩;rw[vP a b];exact d
theorem Ed{n:L aL}{b:Z}{p:M×M}(h:p∈jG os n b):lD os p/\pC n b (fu os p.1 p.2)=T:=by
 obtain⟨-,o,y,a,c,d⟩:=UB n b p os 0 h;rw[Cz]at a;obtain⟨e,f⟩:=lD.of a c;exact⟨e,by rw[f];exact d⟩
theorem Eg{n:L aL}{p:M×M}(h:p∈vh os n):lD os p/\(pC n 1 (fu os p.1 p.2)=T\/pC n 2 (fu os p.1 p.2)=T):=by
 rcases nR.1 h with h|h
 ·exact⟨(Ed h).1,.inl (Ed h).2⟩
 ·exact⟨(Ed h).1,.inr (Ed h).2⟩
theorem Ic{i k:M}{p:M×M}(a:lD os (i,k))(h:dL os i k=S p):lD os p:=by
 unfold dL at h;split at h
 ·cases h;exact a
 ·exact(Eg (Ns h)).1
theorem Ie{p:M×M}(h:jP os=S p):lD os p:=by
 unfold jP at h;split at h
 ·cases h
 ·rename_i i k a;split at h
  ·cases h
  ·cases h
   exact(Eg (Ns a)).1
theorem acL(X:aR aY)(cap:M)(q:L M)(os:L aF)(w:av)(h:oq w X q os):
  Calls prog 25 #[ak X (ah q) cap] w λe a=>e=aH (kQ (jP os))/\az w a N:=by
 obtain⟨i2,hi2,hx0,hx1,hx2⟩:=fG Tryz.L8;have hgl:ah q<=48:=by rw[h.len];exact h.few
 have H:=ae h;have g:=ae (λW (a:az w W N)=>Gw X cap q os nN 1 W (h.kept a));have l:=ae (λW (a:az w W N)=>Gw X cap q os nN 2 W (h.kept a));have l1:=Gx h nN 1;have l2:=Gx h nN 2;have CM:=ae (λp (a:p∈jG os nN 1++jG os nN 2)=>(Eg a).1);have ST:=ae (show jP os=match (jG os nN 1++jG os nN 2).head? with
  |none=>N
  |some (i,k)=>if (fu os i k).au≠1/\(fu os i k).au≠2 then N else S (i,k)from R)
 clear h;generalize jP os=d at *;generalize jG os nN 1=A at *;generalize jG os nN 2=B at *;unfold nN bs at g l;have GS:=ae (aG w (.cells #[I J 0,I J 0] 77) N);have j:=ae (aA.new w #[I J 0,I J 0] 77);go_enter func25,ntmps25
 go_upto_region 1 with fail
 generalize w.alloc (.cells #[I J 0,I J 0] 77)=W1 at *;have hRl:=j.o.lt;go_wp2_with fail;refine(g.o _ GS.o).mono ?_;rintro e W2 ⟨v1,rfl,f,a⟩;obtain⟨a1,Y0,rfl⟩:=yi f;have G2:=ae (ya GS.o a);have t:=ae (j.o.grown a (by simp));have r:=ae f;have hw1:=a.size;clear f a g;go_wp2_with fail;refine(l.o _ G2.o).mono ?_;rintro e W3 ⟨v2,rfl,f,a⟩;obtain⟨a2,cp2,rfl⟩:=yi f;have G3:=ae (ya G2.o a);have zI:=ae (t.o.grown a (by simp));have g:=ae (lZ r.o a);have s:=ae f;have hw2:=a.size;clear f a l j t r;have hX:=GS.o.size
 go_upto_region 4 with (at_builtin;refine QL R _ _ 116 rfl W1.heap.size i2 underlying116 hi2 hx0 hx1 hx2 _ _ _ R g.o _ W2.heap.size B R s.o (by omega) (by omega) ?_;intro v3 D f a j;obtain⟨a3,JN,rfl⟩:=yi f;have U:=ae (eh G3.o a (λb a=>fV hX (g.o.lt b a).1));have z:=ae (zI.o.grown a (λa=>by have:=(g.o.lt _ a.symm).1;omega));have O3:=ae f;clear f a j)
 have a:=ae (show (A++B).length=ah A+ah B/\(A++B).flatMap mP=A.flatMap mP++B.flatMap mP from ⟨by simp,by simp⟩);have tQ:=ae (show aV D W1.heap.size 77 2 (ak a3 (ah A+ah B) JN) (ah A+ah B) ((A++B).flatMap mP) by rw[a.o.2];exact O3.o);have f:=a.o.1;clear O3 a g s;generalize A++B=C at *;have K:aq D ⟨w.heap.size,0,N⟩=S (I J 0):=z.o.cell 0;have O:aq D ⟨w.heap.size,1,N⟩=S (I J 0):=z.o.cell 1;have u:=z.o.free 0;have x:=z.o.free 1
 cases C with
 |nil=>
  have g3:((ah A:Z)+(ah B:Z)==0)=T:=by simp only[List.length_nil]at f;simp;omega
  clear f;go_wp2;have a:=(z.o.set 0 (I J (-1))).set 1 (I J 0);have l:=a.cell 0;have g:=a.cell 1;simp only[dt,dB,dC,bI,bB,bL]at l g;refine bj (v:=kQ N) ?_ R ⟨by rw[ST.o];rfl,zj U.o _ (bz _) _ _⟩;clear a K O u x;generalize aK _ _ _=a at *;simp[results,results25,go_sem,kQ,l,g]
 |cons p C=>
  have g3:((ah A:Z)+(ah B:Z)==0)=F:=by simp only[dA]at f;simp;omega
  have g4:(0:Z)<(ah A:Z)+(ah B:Z):=by simp only[dA]at f;omega
  obtain⟨gr,rfl,hgr,j,l⟩:=SE tQ.o (by simp only[dA]at f;omega);obtain⟨i,k⟩:=p;obtain⟨P,hk⟩:=CM.o (i,k) jU;dsimp only at P hk j l;have s:=vP P hk;have r:=ae (show d=if (fu os i k).au≠1/\(fu os i k).au≠2 then N else S (i,k)from ST.o);rw[s]at r;have V:i<ah q:=by rw[H.o.len];exact P
  obtain⟨g0,off,hao,t⟩:=H.o.kD (by omega);subst hao;have ck:=yd (t i V) U.o;obtain⟨at_,ct,af,cf,ad,cd,Db,C6,gP,cs,ar,cr,a,-,-,-,-,G,-⟩:=(H.o.obj i V P).open;have hns:=(H.o.val os[i] (bN P)).sX;have Q:=(a.grown U.o (by simp)).cell 5;simp only[bI,bB,bL]at Q;obtain⟨sg,hsg,hgs,g⟩:=(gH.dh G).grown U.o (by omega);subst hsg;obtain⟨q0,q1,q2,q3⟩:=g k hk;have j1:(i:Z)<(ah q:Z):=by omega
  have j2:(k:Z)<(os[i].aE.length:Z):=by omega
  have ahK:=ae (tQ.o);clear g a t G f s ST CM tQ H;generalize os[i].aE[k]=y at *;generalize os[i].aE=ys at *;generalize q[i]=bk at *
  go_upto_region 6 with fail
  go_quiet (fail)
  have Y:=ae (ye U.o nq);have G:=ae (z.o.drewN nq);have s:=yd j (ye (aW D N) nq);have t:=yd l (ye (aW D N) nq);clear K O u x j l q0 q1 q2 q3 ck Q;generalize D.drewN nq=w5 at *;have K:aq w5 ⟨w.heap.size,0,N⟩=S (I J 0):=G.o.cell 0;have O:aq w5 ⟨w.heap.size,1,N⟩=S (I J 0):=G.o.cell 1;have u:=G.o.free 0;have x:=G.o.free 1;by_cases j:y.au≠1/\y.au≠2
  ·have d1:(y.au==1)=F:=by simpa using j.1
   have d2:(y.au==2)=F:=by simpa using j.2
   have d3:(y.au != 1)=T:=by simpa using j.1
   have d4:(y.au != 2)=T:=by simpa using j.2
   have E:=ae (show d=N by rw[r.o,aD j]);clear j;go_wp2;have a:=(G.o.set 0 (I J (-1))).set 1 (I J 0);have l:=a.cell 0;have g:=a.cell 1;simp only[dt,dB,dC,bI,bB,bL]at l g;refine bj (v:=kQ N) ?_ R ⟨by rw[E.o],zj Y.o _ (bz _) _ _⟩;clear a K O u x s t;generalize aK _ _ _=a at *;simp[results,results25,go_sem,kQ,l,g]
  ·have E:=ae (show d=S (i,k) by rw[r.o,ax j]);have Q:Hd (∀(W:av),W=((aK w5 ⟨w.heap.size,0,N⟩ (I J i)).setCell ⟨w.heap.size,1,N⟩ (I J k))->aq W ⟨w.heap.size,0,N⟩=S (I J i)/\aq W ⟨w.heap.size,1,N⟩=S (I J k)):=by
    rintro W rfl;have a:=(G.o.set 0 (I J i)).set 1 (I J k);exact⟨a.cell 0,a.cell 1⟩
   by_cases g:y.au=1
   ·have d1:(y.au==1)=T:=by simpa using g
    have d3:(y.au != 1)=F:=by simpa using g
    clear j g;go_wp2;obtain⟨l,g⟩:=Q.o _ R;refine bj (v:=kQ (S (i,k))) ?_ R ⟨by rw[E.o],zj Y.o _ (bz _) _ _⟩;clear K O u x s t;generalize aK _ _ _=a at *;simp[results,results25,go_sem,kQ,l,g]
   ·have a:y.au=2:=Classical.byContradiction λc=>j ⟨g,c⟩
    have d1:(y.au==1)=F:=by simpa using g
    have d3:(y.au != 1)=T:=by simpa using g
    have d2:(y.au==2)=T:=by simpa using a
    have d4:(y.au != 2)=F:=by simpa using a
    clear j g a;go_wp2;obtain⟨l,g⟩:=Q.o _ R;refine bj (v:=kQ (S (i,k))) ?_ R ⟨by rw[E.o],zj Y.o _ (bz _) _ _⟩;clear K O u x s t;generalize aK _ _ _=a at *;simp[results,results25,go_sem,kQ,l,g]
def wT(os:L aF):Prop:=∀o∈os,∀y∈o.aE,0<=y.au
theorem UJ{n:L aL}{b:Z}{y:dz}(h:0<=y.au):pC n b y=T↔(y.name=n/\y.bind=b/\y.au≠0):=by
 unfold pC;simp only[Bool.and_eq_true,decide_eq_true_iff];constructor
 ·rintro⟨a,c,d⟩;exact⟨a,c,by omega⟩
 ·rintro⟨a,c,d⟩;exact⟨a,c,by omega⟩
theorem UQ(n:L aL)(b:Z)(i:M):∀(ys:L dz) (k:M),(∀y∈ys,0<=y.au) ->
  ((nh n b i k ys).head?=N/\mi n b ys=N)\/∃p y,(nh n b i k ys).head?=S p/\p.1=i/\k<=p.2/\ys[p.2-k]?=S y/\mi n b ys=S (y.au,y.off):=by
 intro ys
 induction ys with
 |nil=>intro k _;exact .inl ⟨R,R⟩
 |cons y ys l=>
  intro k d;have a:=UJ (n:=n) (b:=b) (d y jU);rw[nh,mi];by_cases c:pC n b y=T
  ·rw[aD c,aD (a.1 c)];exact .inr ⟨(i,k),y,R,R,bz _,by simp,R⟩
  ·rw[ax c,ax (λh=>c (a.2 h))];rcases l (k+1) (λz a=>d z (lJ _ a))with h|⟨p,z,e,f,q,g,j⟩
   ·exact .inl h
   ·refine .inr ⟨p,z,e,f,by omega,?_,j⟩;rw[show p.2-k=(p.2-(k+1))+1 by omega,bB];exact g
theorem UO(n:L aL)(b:Z):∀(os:L aF) (i:M),wT os ->
  ((mG n b i os).head?=N/\qC n b i os=nX)\/∃p o y,(mG n b i os).head?=S p/\i<=p.1/\os[p.1-i]?=S o/\o.aE[p.2]?=S y/\qC n b i os=⟨S p.1,y.au,y.off⟩:=by
 intro os
 induction os with
 |nil=>intro i _;exact .inl ⟨R,R⟩
 |cons o os q=>
  intro i g;rw[mG,qC];rcases UQ n b i o.aE 0 (g o jU)with ⟨d,a⟩|⟨p,y,d,a,r,f,l⟩
  ·rw[Nq,d,a];rcases q (i+1) (λx a=>g x (lJ _ a))with ⟨c,e⟩|⟨p,x,y,c,e,h,j,k⟩
   ·exact .inl ⟨by rw[c];rfl,e⟩
   ·refine .inr ⟨p,x,y,by rw[c];rfl,by omega,?_,j,k⟩;rw[show p.1-i=(p.1-(i+1))+1 by omega,bB];exact h
  ·rw[Nq,d,l];refine .inr ⟨p,o,y,R,by omega,by rw[a,Nat.sub_self];rfl,?_,by rw[a]⟩;rw[Cz]at f;exact f
def wU(os:L aF):aR (M×M)->gL
 |none=>nX
 |some p=>⟨S p.1,(fu os p.1 p.2).au,(fu os p.1 p.2).off⟩
theorem MH(g:wT os)(n:L aL)(b:Z):lh os n b=wU os (jG os n b).head?:=by
 unfold lh jG;rcases UO n b os 0 g with ⟨a,d⟩|⟨p,o,y,a,-,c,e,f⟩
 ·rw[a,d];rfl
 ·rw[Cz]at c;rw[a,f];unfold wU;dsimp only;rw[(lD.of c e).2]
theorem H8(a:wT os)(n:L aL):gX os n=wU os (vh os n).head?:=by
 unfold gX vh;rw[MH a n 1,MH a n 2,Nq]
 cases h:(jG os n 1).head? with
 |none=>rfl
 |some p=>rfl
theorem UL(a:wT os)(i k:M):jW os i (fu os i k)=wU os (dL os i k):=by
 unfold jW dL;split
 ·rfl
 ·exact H8 a _
theorem yl.pos(h:yl o):∀y∈o.aE,0<=y.au:=by
 intro y b;obtain⟨i,a,rfl⟩:=kY b;exact(h.2.2.2.1 i a).1.2.2.1.1
theorem Rv(g:M)(o:aF)(a:M)(w:av)(h:yr w g o)(c:pj o.align)(K:1<=a)(O:a<=4):
  Calls prog 117 #[aM (S ⟨g,0,N⟩),I J a] w λe b=>e=aH (I J (dG o a))/\b=w:=by
 obtain⟨l,D,u,A,t,z,s,y,H,C,v,B,b,-,-,-,k,-⟩:=h.open;have q:=c.1;have f:=c.2 (a-1) (by omega);obtain⟨p,i,rfl,j⟩:=yq.dh k (by omega);have d:=j (a-1) (by omega);have Q:=b.cell 4;clear h b j k;have E:(1:Z)<=(a:Z):=by omega
 have G:(a:Z)<=4:=by omega
 have j:=ae q;have k:4<=ah o.align:=by omega
 have r:ah o.align<=4:=by omega
 have b:a-1<ah o.align:=by omega
 have P:aq w ⟨p,i+(a-1),N⟩=S (I J (o.align[a-1]'b)):=d;clear d;have d:dG o a=lX (o.align[a-1]'b):=by unfold dG;rw[List.getD_eq_getElem?_getD,List.getElem?_eq_getElem b];rfl
 rw[d];clear d;replace f:2<=o.align[a-1]'b/\o.align[a-1]'b<=4:=f;generalize o.align[a-1]'b=x at *;generalize (ah o.align)=n at *;rcases (show x=2\/x=3\/x=4 from by omega)with rfl|rfl|rfl
 all_goals
  clear f j c;go_enter func117,ntmps117;go_wp2;go_ret;exact⟨by simp[lX],R⟩
theorem Sb(d:m'.obj=m.obj)(e:m'.short=m.short)(c b a:Z):eQ m' c b a=eQ m c b a:=by unfold eQ;rw[d,e]
theorem QJ(c:m'.obj=m.obj)(d:m'.short=m.short)(b:Z):∀(ws:L Z) (k:M) (a:Z),dU m' b k ws a=dU m b k ws a:=by
 intro ws
 induction ws with
 |nil=>intro k a;rfl
 |cons x ws e=>intro k a;unfold dU;rw[e,Sb c d]
theorem Rq(c:m'.obj=m.obj)(d:m'.short=m.short)(b:Z):∀(ws:L Z) (k:M) (a:Z),ff m' b k ws a=ff m b k ws a:=by
 intro ws
 induction ws with
 |nil=>intro k a;rfl
 |cons x ws e=>intro k a;unfold ff;rw[e,Sb c d]
theorem Gh(b:m'.obj=m.obj)(c:m'.short=m.short)(a:M)(f:Z):ju m' a f=ju m a f:=by
 unfold ju sM;rw[QJ b c,b]
theorem Gm(b:m'.obj=m.obj)(c:m'.short=m.short)(a:M)(f:Z):iG m' a f=iG m a f:=by
 unfold iG sM;rw[Rq b c,b]
theorem ze(m:aI)(c:Z):∀(ws:L Z) (k:M) (a:Z),(dU m c k ws a).length=ah ws+1/\∀p∈dU m c k ws a,a<=p/\p<=a+4*ah ws:=by
 intro ws
 induction ws with
 |nil=>intro k a;refine⟨R,λp b=>?_⟩;simp[dU]at b;subst b;simp
 |cons x ws d=>
  intro k a;unfold dU
  have:=d (k+1) (if eQ m c (4*k) a then a+4 else a)
  refine⟨by rw[dA,this.1];simp,λp b=>?_⟩;rcases nk.1 b with rfl|b
  ·simp only[dA];omega
  ·have q:=this.2 p b;simp only[dA];split at q<;>omega
theorem aav(m:aI)(b:Z):∀(ws:L Z) (k:M) (a:Z),a<=ff m b k ws a/\ff m b k ws a<=a+4*ah ws:=by
 intro ws
 induction ws with
 |nil=>intro k a;simp[ff]
 |cons x ws c=>
  intro k a;unfold ff;have q:=c (k+1) (if eQ m b (4*k) a then a+4 else a);simp only[dA];split at q<;>rename_i e<;>simp only[e]<;>simp<;>omega
theorem adY(c:yl o)(a:M)(b:a=1\/a=2):(yp o a).length<=1200:=by
 have:=c.1.1
 rcases b with rfl|rfl
 ·exact this.1
 ·exact this.2.1
theorem xj(h:yl m.obj)(a:M)(g:a=1\/a=2)(f:Z)(c:0<=f)(i:f<=562949953421312):
  (f<=iG m a f/\iG m a f<=f+4815)/\(ju m a f).length<=1201/\∀p∈ju m a f,f<=p/\p<=f+4815:=by
 have j:=adY h a g;have r:=ma f (dG m.obj a) c (by omega) (pX _);have e:=aav m a (yp m.obj a) 0 (sM m a f);have p:=ze m a (yp m.obj a) 0 (sM m a f);have b:sM m a f=du f (dG m.obj a):=R;rw[b]at e p;refine⟨?_,?_,λq d=>?_⟩
 ·unfold iG;rw[b];omega
 ·unfold ju;rw[b,p.1];omega
 ·have:=p.2 q d;omega
section
variable{w:av}{a:L M}{b g n:M}{m:aI}{x:Z}{ps:L Z}
theorem eF.L6(h:eF w a b g m)(x:Z):eF (aK w ⟨b,5,N⟩ (I J x)) a b g {m with data:=x}:=by
 obtain⟨q,r,s,t,d,e,f,i,j,k,l,p⟩:=h;have c:=bK w b 5 (I J x);have R:=dr.aO d;exact⟨q,r,s,t,by simpa using d.set 5 (I J x),kU e c R (by decide) (by decide) (by decide) (by decide),ec f c R (by decide),ec i c R (by decide),ec j c R (by decide),ec k c R (by decide),l,p⟩
theorem eF.Mg(h:eF w a b g m)(x:Z):eF (aK w ⟨b,6,N⟩ (I J x)) a b g {m with bf:=x}:=by
 obtain⟨q,r,s,t,d,e,f,i,j,k,l,p⟩:=h;have c:=bK w b 6 (I J x);have R:=dr.aO d;exact⟨q,r,s,t,by simpa using d.set 6 (I J x),kU e c R (by decide) (by decide) (by decide) (by decide),ec f c R (by decide),ec i c R (by decide),ec j c R (by decide),ec k c R (by decide),l,p⟩
theorem eI.Hk(h:eI n m)(c:ah ps<=65536)(d:∀p∈ps,0<=p/\p<=1125899906842624):eI n {m with text:=ps}:=⟨⟨c,d⟩,h.bw,h.data,h.bf,h.means,h.short,h.ay⟩
theorem eI.Mh(h:eI n m)(c:ah ps<=65536)(d:∀p∈ps,0<=p/\p<=1125899906842624):eI n {m with bw:=ps}:=⟨h.text,⟨c,d⟩,h.data,h.bf,h.means,h.short,h.ay⟩
theorem eI.L6(h:eI n m)(c:0<=x/\x<=1125899906842624):eI n {m with data:=x}:=⟨h.text,h.bw,c,h.bf,h.means,h.short,h.ay⟩
theorem eI.Mg(h:eI n m)(c:0<=x/\x<=1125899906842624):eI n {m with bf:=x}:=⟨h.text,h.bw,h.data,c,h.means,h.short,h.ay⟩
end
theorem Dx:∀(ms:L aI) (t f d:Z),(iv ms t f d).length=ah ms:=by
 intro ms
 induction ms with
 |nil=>intro t f d;rfl
 |cons m ms a=>intro t f d;unfold iv;rw[dA,a,dA]
theorem RH:∀(ms:L aI) (b:Z),(gE ms b).length=ah ms:=by
 intro ms
 induction ms with
 |nil=>intro b;rfl
 |cons m ms a=>intro b;unfold gE;rw[dA,a,dA]
theorem Si{α:Type}{l r:L α}{x:α}{k:M}(a:k<ah l)(h:l.drop k=x::r):l[k]=x/\l.drop (k+1)=r:=by
 rw[fv a]at h;exact List.cons.inj h
theorem FT(h:yl o):mD o:=by
 obtain⟨⟨⟨a,b,c⟩,-,d,e⟩,f,-⟩:=h
 have:=f.1
 exact⟨by omega,by omega,by omega,by omega,by omega,by omega⟩
theorem AG:∀(ms:L aI) (t f d:Z),(iv ms t f d).map aI.obj=ms.map aI.obj:=by
 intro ms
 induction ms with
 |nil=>intro t f d;rfl
 |cons m ms a=>intro t f d;unfold iv;rw[jT,a,jT];rfl
theorem abk:∀(ms a:L aI) (b:Z),a.map aI.obj=ms.map aI.obj->nl a b=nl ms b:=by
 intro ms
 induction ms with
 |nil=>
  intro a b h
  cases a with
  |nil=>rfl
  |cons x c=>simp at h
 |cons m ms f=>
  intro a b h
  cases a with
  |nil=>simp at h
  |cons x c=>
   rw[jT,jT]at h;obtain⟨d,e⟩:=List.cons.inj h;unfold nl;rw[d,f c _ e]
theorem RG(V U:av)(P:M)(bt aj bd:Z)(vm:aC)(a w:L M)(ms:L aI)(st:gL)(T:Z)(W:av)(h:fC V U P bt aj bd vm a w ms st T W)(hn:∀m∈ms,eI (ah a) m)(hv:∀m∈ms,yl m.obj)
  (hbt:0<=bt/\bt<=4294967296) (hbf:0<=aj/\aj<=4294967296) (hbd:0<=bd/\bd<=4294967296) :
  Calls prog 76 #[bO P] W λe c=>e=aH (aZ #[])/\fC V U P bt aj bd vm a w (aS bt aj bd ms) st (oH bd ms) c:=by
 obtain⟨X,Y,rfl⟩:=yi h.row;have j:=ae h;have l:aq W ⟨P,0,N⟩=S (I J bt):=h.aO.cell 0;have q:aq W ⟨P,1,N⟩=S (I J aj):=h.aO.cell 1;have r:aq W ⟨P,2,N⟩=S (I J bd):=h.aO.cell 2;have u:aq W ⟨P,3,N⟩=S (ak X (ah a) Y):=h.aO.cell 3;have hbl:=h.few;have Q:=ae h.gx;have HN:=ae hn;have qv:=ae hv;have O:=ae (Dx ms bt aj bd);obtain⟨c,g⟩:∃c,c=iv ms bt aj bd:=⟨_,R⟩
 have qO:=ae g;rw[<- g]at O;clear h hn hv g;unfold bO;go_enter func76,ntmps76;go_wp2
 go_quiet (fail)
 have HW1:=ae (j.o.kept (ye (aW W N) nq));go_wp2;generalize W.drewN nq=W1 at *;clear l q r u j
 go_loopw [2,3,4,30] (λl j g i wr=>∃(k:M) (t f d:Z),k<=ah a/\i=I J k/\l=I J t/\j=I J f/\g=I J d/\fC V U P bt aj bd (ak X (ah a) Y) a w (c.take k++ms.drop k) st T wr/\c.drop k=iv (ms.drop k) t f d/\iY ms bd=iY (ms.drop k) d/\(0<=t/\t<=4294967296+5000*k)/\(0<=f/\f<=4294967296+5000*k)/\(0<=d/\d<=4294967296+5000*k)) (λ_ _ _ i _=>ah a-(aN i).toNat)
 case atStart=>exact⟨0,bt,aj,bd,bG _,R,R,R,R,by simpa using HW1.o,by rw[qO.o];rfl,R,by omega,by omega,by omega⟩
 case round=>
  obtain⟨k,t,f,d,hk,rfl,rfl,rfl,rfl,l,j,g,ht,hf,hd⟩:=hrel;have r:=ae l;have yF:=ae j;have Fv:=ae g;clear l j g HW1;by_cases g:k<ah a
  ·have s:k<ah ms:=by rw[Q.o];exact g
   have y:k<ah w:=by rw[r.o.iQ];exact g
   have K:k<ah c:=by rw[O.o];exact s
   obtain⟨sg,off,hsg,j⟩:=r.o.rM.kD (by omega);have ck:=j k g;have HM:eF wr a a[k] (w[k]'y) ms[k]:=by
    have:=r.o.lv k g
    rwa [BN ms c k s (by rw[O.o];omega)]at this
   have B:=qv.o _ (bN s);have yY:=HN.o _ (bN s);have R1:=xj B 1 (.inl R) t ht.1 (by omega);have R2:=xj B 2 (.inr R) f hf.1 (by omega);have UP:=ae (λ(w2:av) (hg:az wr w2 (S a[k])) (hm:eF w2 a a[k] (w[k]'y) (xI ms[k] t f d))=>show fC V U P bt aj bd (ak X (ah a) Y) a w (c.take (k+1)++ms.drop (k+1)) st T w2/\c.drop (k+1)=iv (ms.drop (k+1)) (iG ms[k] 1 t) (iG ms[k] 2 f) (du d (dG ms[k].obj 3)+4*ms[k].obj.data.length)/\iY ms bd=iY (ms.drop (k+1)) (du d (dG ms[k].obj 3)+4*ms[k].obj.data.length)from by
    have e:=yF.o;rw[fv s]at e;obtain⟨v,l⟩:=Si K e;refine⟨?_,l,?_⟩
    ·rw[<- Gc ms c k s K O.o,v];exact r.o.BL g (by rw[r.o.gx];exact g) hg hm (by rw[BN ms c k s (by rw[O.o];omega)];rfl)
    ·have u:=Fv.o;rw[fv s]at u;exact u)
   have g1:(k:Z)<(ah a:Z):=by omega
   have Bn:=ma d (dG ms[k].obj 3) hd.1 (by omega) (pX _);have BV:dG ms[k].obj 3=4\/dG ms[k].obj 3=8\/dG ms[k].obj 3=16:=pX _;have hdl:ms[k].obj.data.length<=64:=B.1.1.2.2;clear j r yF Fv;generalize ms[k]=m at *;generalize Ql:(w[k]'y)=gk at *;generalize hbk:a[k]=j at *;have l:=ae (RK a j gk (ah a) m 1 t wr HM yY B (.inl R) ht.1 (by omega));have z:=ae (λq (c:eF q a j gk {m with text:=ju m 1 t})=>RK a j gk (ah a) _ 2 f q c (yY.Hk (by omega) (λp a=>by have:=R1.2.2 p a;omega)) B (.inr R) hf.1 (by omega));have qI:=ae (λq (c:yr q gk m.obj)=>Rv gk m.obj 3 q c B.2.1 (by omega) (by omega))
   have cU:=ae (λq=>Gn d (dG m.obj 3) q hd.1 (by omega) (by omega) (by omega));have cN:=ae (λq (c:yr q gk m.obj)=>KJ gk m.obj 3 q c (FT B) B.1.2.1);subst hsg;unfold bO at *;go_wp2_with fail;refine l.o.mono ?_;rintro e q ⟨rfl,u,A⟩;have v:=ae (show eF q a j gk {m with text:=ju m 1 t} from A);have C:=ae u;clear u A l;go_wp2_with fail;refine(z.o _ v.o).mono ?_;rintro e W3 ⟨rfl,g3,l⟩;have u:iG {m with text:=ju m 1 t} 2 f=iG m 2 f:=Gm (m:=m) (m':={m with text:=ju m 1 t}) R R 2 f;rw[u];have A:=ae (show eF W3 a j gk {m with text:=ju m 1 t,bw:=ju m 2 f} by
    have e:ju {m with text:=ju m 1 t} 2 f=ju m 2 f:=Gh (m:=m) (m':={m with text:=ju m 1 t}) R R 2 f;rw[e]at l;exact l)
   have PI:=ae (C.o.trans g3);clear g3 l z u C v;have k0:aq W3 ⟨j,0,N⟩=S (aM (S ⟨gk,0,N⟩)):=by obtain⟨C,D,E,G,l,-⟩:=A.o;exact l.cell 0
   have k5:aq W3 ⟨j,5,N⟩=S (I J m.data):=by obtain⟨C,D,E,G,l,-⟩:=A.o;exact l.cell 5
   have f5:dx W3 ⟨j,5,N⟩=F:=by obtain⟨C,D,E,G,l,-⟩:=A.o;exact l.free 5
   have o3:Hd (yr W3 gk m.obj):=by obtain⟨C,D,E,G,l,q1,-⟩:=A.o;exact q1
   go_wp2_with fail;refine(qI.o _ o3.o).mono ?_;rintro e v ⟨rfl,u⟩;rw[u];clear u v;go_wp2_with fail;refine(cU.o _).mono ?_;rintro e v ⟨rfl,u⟩;rw[u];clear u v;generalize u:du d (dG m.obj 3)=z at *;have VH:=ae u;clear u;have H:=ae (A.o.L6 z);have CU:=ae (PI.o.trans (bK W3 j 5 (I J z)));go_wp2;clear k0 k5 f5 o3 A PI qI cU;generalize aK W3 ⟨j,5,N⟩ (I J z)=A at *;have k0:aq A ⟨j,0,N⟩=S (aM (S ⟨gk,0,N⟩)):=by obtain⟨C,D,E,G,l,-⟩:=H.o;exact l.cell 0
   have k5:aq A ⟨j,5,N⟩=S (I J z):=by obtain⟨C,D,E,G,l,-⟩:=H.o;exact l.cell 5
   have tQ:Hd (yr A.drew gk m.obj):=by obtain⟨C,D,E,G,l,q1,-⟩:=H.o;exact q1.kept (yf (aW _ _))
   have es:iU m.obj 3=ah m.obj.data:=R;rw[es]at cN;have w1:J.wrap (z+4*(ah m.obj.data:Z))=z+4*ah m.obj.data:=IntWalk.i64_in _ ⟨by omega,by omega⟩
   go_region_held3 (λv=>aq v ⟨j,0,N⟩=S (aM (S ⟨gk,0,N⟩))/\aq v ⟨j,5,N⟩=S (I J z))
    (go_keep)
    (first|(go_at_call 118;refine(cN.o _ tQ.o).mono ?_;rintro e v ⟨rfl,u⟩;rw[u];clear u v))
   have u:=ae (UP.o A.drew (yf CU.o) (by
    have:=H.o.kept (yf (aW A N))
    rw[<- VH.o]at this;exact this))
   clear UP H CU cN tQ;go_wp2
   go_roundw
   case rel=>exact⟨k+1,_,_,_,by omega,by go_num,R,R,R,u.o.1,u.o.2.1,u.o.2.2,by omega,by omega,by omega⟩
   case measure=>simp[aN];omega
  ·obtain rfl:k=ah a:=by omega
   have g3:decide ((ah a:Z)<(ah a:Z))=F:=by simp
   have Af:=ae (show fC V U P bt aj bd (ak X (ah a) Y) a w c st T wr by
    have:=r.o
    rwa [xD (by rw[Q.o];exact bz _),lG,mH (by rw[O.o,Q.o];exact bz _)]at this)
   have DE:=ae (show iY ms bd=d by rw[Fv.o,xD (by rw[Q.o];exact bz _)];rfl);have u:aq wr ⟨P,3,N⟩=S (ak X (ah a) Y):=Af.o.aO.cell 3;have s:=ae (RH c d);obtain⟨q,j⟩:∃q,q=gE c d:=⟨_,R⟩
   have HL2:=ae j;rw[<- j]at s;have W9:=ae (show ∀i (h:i<ah c),yl c[i].obj from λi h=>by
    have e:c.map aI.obj=ms.map aI.obj:=by rw[qO.o];exact AG ms bt aj bd
    have:c[i].obj∈ms.map aI.obj:=by rw[<- e];exact List.mem_map_of_mem (bN h)
    obtain⟨x,v,l⟩:=List.mem_map.1 this;rw[<- l];exact qv.o x v)
   have FIN:=ae (show aS bt aj bd ms=q/\oH bd ms=(nl c d-d)/4 by
    unfold aS oH;rw[DE.o,<- qO.o,<- HL2.o];refine⟨R,?_⟩;rw[abk ms c d (by rw[qO.o];exact AG ms bt aj bd)])
   clear j r yF Fv;go_wp2;generalize wr=V1 at *;clear u
   go_loopw [7,67] (λg i wr=>∃(k:M) (b:Z),k<=ah a/\i=I J k/\g=I J b/\fC V U P bt aj bd (ak X (ah a) Y) a w (q.take k++c.drop k) st T wr/\q.drop k=gE (c.drop k) b/\nl c d=nl (c.drop k) b/\(d<=b/\b<=4294967296+5000*ah a+5000*k)) (λ_ i _=>ah a-(aN i).toNat)
   case atStart=>exact⟨0,d,bG _,R,R,by simpa using Af.o,by rw[HL2.o];rfl,R,Int.le_refl _,by omega⟩
   case round=>
    obtain⟨k,b,hk2,rfl,rfl,l,j,u,hb⟩:=hrel;have r:=ae l;have yF:=ae j;have Ft:=ae u;clear l j u Af;by_cases g:k<ah a
    ·have K:k<ah c:=by rw[O.o,Q.o];exact g
     have y:k<ah w:=by rw[r.o.iQ];exact g
     have Ob:k<ah q:=by rw[s.o];exact K
     obtain⟨sg,off,hsg,j⟩:=r.o.rM.kD (by omega);have ck:=j k g;have HM:eF wr a a[k] (w[k]'y) c[k]:=by
      have:=r.o.lv k g
      rwa [BN c q k K (by rw[s.o];omega)]at this
     have B:=W9.o k K;have UP:=ae (λ(w2:av) (hg:az wr w2 (S a[k])) (hm:eF w2 a a[k] (w[k]'y) {c[k]with bf:=du b (dG c[k].obj 4)})=>show fC V U P bt aj bd (ak X (ah a) Y) a w (q.take (k+1)++c.drop (k+1)) st T w2/\q.drop (k+1)=gE (c.drop (k+1)) (du b (dG c[k].obj 4)+4*c[k].obj.bf)/\nl c d=nl (c.drop (k+1)) (du b (dG c[k].obj 4)+4*c[k].obj.bf)from by
      have e:=yF.o;rw[fv K]at e;obtain⟨v,l⟩:=Si Ob e;refine⟨?_,l,?_⟩
      ·rw[<- Gc c q k K Ob s.o,v];exact r.o.BL g (by rw[r.o.gx];exact g) hg hm (by rw[BN c q k K (by rw[s.o];omega)])
      ·have u:=Ft.o;rw[fv K]at u;exact u)
     have g1:(k:Z)<(ah a:Z):=by omega
     have Bn:=ma b (dG c[k].obj 4) (by omega) (by omega) (pX _);have BV:dG c[k].obj 4=4\/dG c[k].obj 4=8\/dG c[k].obj 4=16:=pX _;have hdl:=B.1.2.1;clear j r yF Ft;generalize c[k]=m at *;generalize Ql:(w[k]'y)=gk at *;generalize hbk:a[k]=j at *;have qI:=ae (λq (c:yr q gk m.obj)=>Rv gk m.obj 4 q c B.2.1 (by omega) (by omega));have cU:=ae (λq=>Gn b (dG m.obj 4) q (by omega) (by omega) (by omega) (by omega));have cN:=ae (λq (c:yr q gk m.obj)=>KJ gk m.obj 4 q c (FT B) B.1.2.1);subst hsg;have A:=ae HM;clear HM;have k0:aq wr ⟨j,0,N⟩=S (aM (S ⟨gk,0,N⟩)):=by obtain⟨C,D,E,G,l,-⟩:=A.o;exact l.cell 0
     have k6:aq wr ⟨j,6,N⟩=S (I J m.bf):=by obtain⟨C,D,E,G,l,-⟩:=A.o;exact l.cell 6
     have f6:dx wr ⟨j,6,N⟩=F:=by obtain⟨C,D,E,G,l,-⟩:=A.o;exact l.free 6
     have o3:Hd (yr wr gk m.obj):=by obtain⟨C,D,E,G,l,q1,-⟩:=A.o;exact q1
     unfold bO at *;go_wp2_with fail;refine(qI.o _ o3.o).mono ?_;rintro e v ⟨rfl,u⟩;rw[u];clear u v;go_wp2_with fail;refine(cU.o _).mono ?_;rintro e v ⟨rfl,u⟩;rw[u];clear u v;generalize u:du b (dG m.obj 4)=z at *;have H:=ae (A.o.Mg z);have CU:=ae (bK wr j 6 (I J z));clear u;go_wp2;clear k0 k6 f6 o3 A qI cU ck;generalize aK wr ⟨j,6,N⟩ (I J z)=A at *;have k0:aq A ⟨j,0,N⟩=S (aM (S ⟨gk,0,N⟩)):=by obtain⟨C,D,E,G,l,-⟩:=H.o;exact l.cell 0
     have k6:aq A ⟨j,6,N⟩=S (I J z):=by obtain⟨C,D,E,G,l,-⟩:=H.o;exact l.cell 6
     have tQ:Hd (yr A.drew gk m.obj):=by obtain⟨C,D,E,G,l,q1,-⟩:=H.o;exact q1.kept (yf (aW _ _))
     have es:iU m.obj 4=m.obj.bf:=R;rw[es]at cN;have w1:J.wrap (z+4*m.obj.bf)=z+4*m.obj.bf:=IntWalk.i64_in _ ⟨by omega,by omega⟩
     go_region_held3 (λv=>aq v ⟨j,0,N⟩=S (aM (S ⟨gk,0,N⟩))/\aq v ⟨j,6,N⟩=S (I J z))
      (go_keep)
      (first|(go_at_call 118;refine(cN.o _ tQ.o).mono ?_;rintro e v ⟨rfl,u⟩;rw[u];clear u v))
     have u:=ae (UP.o A.drew (yf CU.o) (H.o.kept (yf (aW A N))));clear UP H CU cN tQ;go_wp2
     go_roundw
     case rel=>exact⟨k+1,_,by omega,by go_num,R,u.o.1,u.o.2.1,u.o.2.2,by omega,by omega⟩
     case measure=>simp[aN];omega
    ·obtain rfl:k=ah a:=by omega
     have g3:decide ((ah a:Z)<(ah a:Z))=F:=by simp
     have j:=ae (show fC V U P bt aj bd (ak X (ah a) Y) a w q st T wr by
      have:=r.o
      rwa [xD (by rw[O.o,Q.o];exact bz _),lG,mH (by rw[s.o,O.o,Q.o];exact bz _)]at this)
     have l:=ae (show nl c d=b by rw[Ft.o,xD (by rw[O.o,Q.o];exact bz _)];rfl);have w1:J.wrap (b-d)=b-d:=IntWalk.i64_in _ ⟨by omega,by omega⟩;have v:aq wr ⟨P,7,N⟩=S (I J T):=j.o.aO.cell 7;have z:=j.o.aO.free 7;have u:=ae (j.o.LQ (no':=(b-d)/4));have y:Int.tdiv (b-d) 4=(b-d)/4:=Int.tdiv_eq_ediv_of_nonneg (by omega);clear r yF Ft j;go_wp2
     go_end0
     rw[FIN.o.1,FIN.o.2,l.o];exact⟨R,u.o⟩
theorem Tryz.QF:(Tryz.prog.info? 4).map (λi=>(i.zero,i.size,i.bytes))=S (S (aJ F),1,1):=by kernel_rfl
def nV(m:aI):aI:={m with short:=[]}
theorem Gg(m:aI)(s o:Z):dR (nV m) s o=dR m s o:=R
theorem aaJ{ms a:L aI}(h:a.map nV=ms.map nV)(s:gL):kJ a s=kJ ms s:=by
 unfold kJ
 cases s.mod with
 |none=>rfl
 |some i=>
  dsimp only;have e:(a[i]?).map nV=(ms[i]?).map nV:=by rw[<- jS,<- jS,h]
  cases c:a[i]? with
  |none=>
   cases b:ms[i]? with
   |none=>rfl
   |some y=>rw[c,b]at e;simp at e
  |some x=>
   cases b:ms[i]? with
   |none=>rw[c,b]at e;simp at e
   |some y=>
    rw[c,b]at e;simp only[Option.map_some,Option.some.injEq]at e;dsimp only;rw[<- Gg x,e,Gg]
theorem aau{ms a:L aI}(h:a.map nV=ms.map nV)(b:nV m'=nV m)(r:cg):fT a m' r=fT ms m r:=by
 have c:m'.means=m.means:=show (nV m').means=(nV m).means by rw[b]
 unfold fT jK;rw[c,aaJ h,<- Gg m',b,Gg]
structure nJ (jb:av) (bi:M) (g:M) (v1 v3 v4:aC) (d b:Z) (sl:L aC) (j:M) (vs:aC) (wr:av):Prop where
 gr:jb.grownBy wr (S bi)
 aO:aA wr bi #[bO g,v1,vs,v3,v4,I J d,I J b] 155
 row:wr.ownsRow jb.heap.size 4 1 vs j sl
 nil:j=0->vs=ak N 0 0
section
variable{a V wr u:av}{i g j:M}{p q r t s:aC}{d b:Z}{sl n:L aC}
theorem nJ.kept(h:nJ a i g p q r d b sl j t wr)(c:az wr V N):nJ a i g p q r d b sl j t V :=
 ⟨h.gr.trans (c.but _),h.aO.grown c (by simp),h.row.kept c (Decidable.em _),h.nil⟩
theorem nJ.step(h:nJ a i g p q r d b sl j t V)(e:aV u a.heap.size 4 1 s (j+1) (sl++n))(v:az V u t.ownBlock):nJ a i g p q r d b (sl++n) (j+1) s (aK u ⟨i,2,N⟩ s):=by
 have f:=fh h.aO v (dr.own h.row) (by decide);have l:=bK u i 2 s;refine⟨(h.gr.andThen v (λk e=>.inl (h.row.lt k e).1)).trans l,?_,ec e l (dr.aO f) (by decide),λc=>by omega⟩;simpa using f.set 2 s
theorem nJ.mod{f:L M}{l:L Bool}{c:dJ aC}(v:aA a i c 155)(k:yr a g m.obj)(w:aV a 0 149 3 p (ah m.means) (m.means.flatMap (sF f)))(x:aV a 0 3 1 q (ah m.text) (m.text.map (I .i64)))(y:aV a 0 3 1 r (ah m.bw) (m.bw.map (I .i64)))(z:m.means=[]->p=ak N 0 0)(h:nJ a i g p q r m.data m.bf (l.map aJ) (ah l) t wr):eF wr f i g {m with short:=l}:=by
 have R:=dr.aO v;exact⟨_,_,_,_,h.aO,kU k h.gr R (by decide) (by decide) (by decide) (by decide),ec w h.gr R (by decide),zl h.row,ec x h.gr R (by decide),ec y h.gr R (by decide),z,λe=>h.nil (by simp only at e;rw[e];rfl)⟩
end
theorem eI.Hh(h:eI n m){l:L Bool}(a:ah l<=65535):eI n {m with short:=l}:=⟨h.text,h.bw,h.data,h.bf,h.means,a,h.ay⟩
