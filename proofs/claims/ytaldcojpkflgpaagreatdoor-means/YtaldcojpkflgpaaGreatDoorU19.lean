import Derived.Test.YtaldcojpkflgpaaGreatDoorU17
import Derived.LoopN
import Derived.Deep.QuietTactic
import Derived.Deep.CutBlock
import Derived.Deep.RegionHeld3
import Derived.Test.YtaldcojpkflgpaaGreatDoorU18
import Derived.ProofKit
import Derived.OpenShut
import Derived.ChangeMaps5
import Derived.Deep.DeepHandedRow
import Derived.Lib.LaidTab
set_option maxHeartbeats 16000000
set_option maxRecDepth 100000
open Go.Value renaming int->I,string->aB,pointer->aM,bool->aJ,tuple->aZ,slice->ak
open Go.IntKind renaming i64->J
open Go renaming World->av,Value->aC,TypeId->dm,bodyPost_ret->bj,wp_loop_rounds->xb,rounds_succ->rp,info_parts->fG,Addr->aY,wp_region_held_drew->qu,wpAnyH_ready->ee,maxLen->cu,wpAnyH_done->ox,results_none->gW
open _root_ renaming ByteArray->bT,Nat->M,rfl->R,Int->Z,List->L,UInt8->aL,Array->dJ,if_pos->aD,Option->aR,Bool->bc,Decidable->kr,if_neg->ax,not_not_intro->Hf,congrArg->jz
open Option renaming some->S,none->N,map_eq_some_iff->Xc
open Bool renaming true->T,false->F,and_eq_true->jO
open Go.World renaming grownBy->az,cell?->aq,frozen?->dx,grownBy_alloc->aG,setCell->aK,ownsRow->aV,ownsRow_nil->eO
open Go.Ending renaming returned->aH
open Nat renaming le_refl->bz,le_trans->fV,zero_le->bG
open List renaming foldl_cons->sL,foldl_nil->vY,length->ah,getElem_toArray->nQ,getElem_cons_succ->lH,getElem_cons_zero->nj,setIfInBounds_toArray->dt,set_cons_succ->dB,set_cons_zero->dC,getElem?_take->vZ,getElem?_eq_none->uL,getElem?_map->jS,getElem?_toArray->bI,getElem?_cons_succ->bB,getElem_mem->bN,length_cons->dA
open Go.AllReadyH renaming cons->dX,nil->eN
open Option.some renaming inj->xK,injEq->nv
open Go.World.grownBy renaming refl->aW
namespace Go.Proofs.YtaldcojpkflgpaaGreatDoor
open Go.RowKit Go.Proofs.Tryz
variable {W:av}
structure Nx (s:bT) (p:M) (tk:eZ) (p':M):Prop where
 eq:zT (sl s) p=(tk,(0,0),p')
 le:p<=s.size
 ok:∀c,(sl s)[fP na (sl s) p]?=S c->ng c=T\/(ng c=F/\mb c=F/\(gA c=T\/(gA c=F/\wQ c=T)))
def jZ(s:bT)(b g:M)(st:jF)(W:av):Prop:=aA W b (yQ s g st) 218
def Az(s:bT)(b g:M)(W:av)(st:jF)(W':av):Prop:=jZ s b g st W'/\az W W' (S b)
theorem kP{R:M}{a b c d:aC}{t:dm}(h:aA W R #[a,b,c,d] t):(aq W ⟨R,0,N⟩=S a/\aq W ⟨R,1,N⟩=S b/\aq W ⟨R,2,N⟩=S c/\aq W ⟨R,3,N⟩=S d)/\dx W ⟨R,0,N⟩=F/\dx W ⟨R,1,N⟩=F/\dx W ⟨R,2,N⟩=F/\dx W ⟨R,3,N⟩=F :=
 ⟨⟨h.cell 0,h.cell 1,h.cell 2,h.cell 3⟩,h.free 0,h.free 1,h.free 2,h.free 3⟩
theorem jZ.tok{s:bT}{b g:M}{st:jF}(h:jZ s b g st W):(aq W ⟨b,2,N⟩=S (I J st.tok.kind)/\aq W ⟨b,3,N⟩=S (I J st.tok.pos)/\aq W ⟨b,4,N⟩=S (aB (bs st.tok.text))/\aq W ⟨b,5,N⟩=S (I J st.tok.n))/\dx W ⟨b,2,N⟩=F/\dx W ⟨b,3,N⟩=F/\dx W ⟨b,4,N⟩=F/\dx W ⟨b,5,N⟩=F :=
 ⟨⟨aA.cell h 2,aA.cell h 3,aA.cell h 4,aA.cell h 5⟩,aA.free h 2,aA.free h 3,aA.free h 4,aA.free h 5⟩
theorem jZ.grown{s:bT}{b g:M}{st:jF}{a:av}(h:jZ s b g st W)(c:az W a N):jZ s b g st a:=aA.grown h c (by simp)
theorem AV(s:bT)(b g:M)(st:jF)(W:av)(h:jZ s b g st W)(a:st.fe=0):Calls prog 130 #[aM (S ⟨b,0,N⟩)] W λe a=>e=aH (aJ F)/\a=W:=by
 have c:aq W ⟨b,6,N⟩=S (I J 0):=by have:=aA.cell h 6;simp only[yQ,a]at this;exact this
 clear h a;go_enter func130,ntmps130;go_wp2;go_ret;exact⟨R,R⟩
theorem Be(s:bT)(b g:M)(st:jF)(W:av)(h:jZ s b g st W)(m:eZ)(f:M)(t:s.size<=1000)(r:st.fe=0)(d:Nx s st.p m f):
  Calls prog 163 #[aM (S ⟨b,0,N⟩)] W λc a=>c=aH (aZ #[])/\Az s b g W {st with p:=f,tok:=m} a:=by
 have a:=ae (AV s b g st W h r);have c:=ae (afi s b (Ty g st) st.p W h t d.le d.ok);rw[d.eq]at c;obtain⟨j,l,n,k⟩:=m;simp only[xp,gT,BX]at c;clear h d;go_enter func163,ntmps163;go_wp2_with fail;refine a.o.mono ?_;rintro e C ⟨rfl,rfl⟩;clear a;go_wp2_with fail;refine c.o.mono ?_;rintro e V ⟨rfl,a,o⟩;have i:=ae (show jZ s b g {st with p:=f} V from a);have q:=ae o;clear a o c;obtain⟨⟨u,v,w,x⟩,y,z,A,B⟩:=i.o.tok;have a:=aA.lt i.o;have c:b≠V.heap.size:=by omega
 have o:b≠V.heap.size+1:=by omega
 go_wp2
 go_end0
 have F:=vO [(2,I J j),(3,I J l),(4,aB (bs n)),(5,I J k)] i.o;have G:=ya q.o (Ds V b [(2,I J j),(3,I J l),(4,aB (bs n)),(5,I J k)]);exact⟨R,(jZ.grown (st:={st with p:=f,tok:=⟨j,l,n,k⟩}) F (aG _ _ N)).grown (aG _ _ N),ya (ya G (aG _ _ _)) (aG _ _ _)⟩
theorem acj(s:bT)(b g:M)(st:jF)(W:av)(h:jZ s b g st W)(a:st.tok.kind=4):
  Calls prog 164 #[aM (S ⟨b,0,N⟩)] W λc a=>c=aH (gT eZ.nil)/\Az s b g W st a:=by
 have H:=ae h;have j:=aA.lt h;obtain⟨⟨c,-⟩,-⟩:=h.tok;rw[a]at c;clear h a;have k:b≠W.heap.size:=by omega
 go_enter func164,ntmps164;go_wp2;obtain⟨⟨d,e,f,i⟩,-⟩:=kP (aA.new W #[I J 0,I J 0,aB ⟨#[]⟩,I J 0] 216);refine bj (v:=gT eZ.nil) ?_ R ⟨R,H.o.grown (aG _ _ N),aG _ _ _⟩;generalize World.alloc _ _=l at *;simp[results,results164,go_sem,gT,eZ.nil,bs,d,e,f,i]
theorem KN(s:bT)(b g:M)(st:jF)(W:av)(h:jZ s b g st W)(i:eZ)(f:M)(B:s.size<=1000)(z:st.tok.kind=1)(y:st.fe=0)(q:Nx s st.p i f):
  Calls prog 164 #[aM (S ⟨b,0,N⟩)] W λc a=>c=aH (gT st.tok)/\Az s b g W {st with p:=f,tok:=i} a:=by
 have H:=ae h;have x:=aA.lt h;obtain⟨⟨l,m,n,o⟩,-⟩:=h.tok;have w:=ae (λV (h:jZ s b g st V)=>Be s b g st V h i f B y q);clear h q;have c:b≠W.heap.size:=by omega
 have A:b≠W.heap.size+1:=by omega
 have d:((st.tok.kind:Z)==1)=T:=by simp;omega
 have L:((st.tok.kind:Z) != 1)=false:=by simp;omega
 clear z;have j:=ae (ya (aG W (.cells #[I J 0,I J 0,aB ⟨#[]⟩,I J 0] 216) N) (aG _ (.cells #[I J st.tok.kind,I J st.tok.pos,aB (bs st.tok.text),I J st.tok.n] 216) N));go_enter func164,ntmps164;go_wp2_with fail;refine(w.o _ (H.o.grown j.o)).mono ?_;rintro e V ⟨rfl,a⟩;have k:=ae ((((aA.new W #[I J 0,I J 0,aB ⟨#[]⟩,I J 0] 216).grown (aG _ (.cells #[I J st.tok.kind,I J st.tok.pos,aB (bs st.tok.text),I J st.tok.n] 216) N) (by simp)).grown a.2 (by simp;omega)))
 have u:=ae ((aA.Qt W (.cells #[I J 0,I J 0,aB ⟨#[]⟩,I J 0] 216) #[I J st.tok.kind,I J st.tok.pos,aB (bs st.tok.text),I J st.tok.n] 216).grown a.2 (by simp;omega));have t:=ae a.1;have r:=ae (ya (Sl j.o) a.2);clear a l m n o;obtain⟨⟨C,E,G,K⟩,-⟩:=kP u.o;obtain⟨⟨O,P,t2,t3⟩,Q,U,X,Y⟩:=kP k.o;go_wp2;have D:=(aA.BF t.o c [(0,I J st.tok.kind),(1,I J st.tok.pos),(2,aB (bs st.tok.text)),(3,I J st.tok.n)])
 have a:=AK r.o (bz _) [(0,I J st.tok.kind),(1,I J st.tok.pos),(2,aB (bs st.tok.text)),(3,I J st.tok.n)];have F:=vO [(0,I J st.tok.kind),(1,I J st.tok.pos),(2,aB (bs st.tok.text)),(3,I J st.tok.n)] k.o;obtain⟨⟨l,m,n,o⟩,-⟩:=kP F;refine bj (v:=gT st.tok) ?_ R ⟨R,D,a⟩;clear D F a O P t2 t3 Q U X Y C E G K;simp only[pV,sL,vY]at l m n o;generalize aK _ _ _=a at *;simp[results,results164,go_sem,gT,l,m,n,o]
def jD:L aL:=[46,103,108,111,98,108]
def dK:L aL:=[95,115,116,97,114,116]
def jE:L aL:=[110,111,112]
theorem adO(w:av):Calls prog 199 #[aB (bs jE)] w λe a=>e=aH (I J 7)/\a=w:=by
 have b:(bs jE).toList=[110,111,112]:=ik _;go_enter func199,ntmps199;go_wp2;go_ret;exact⟨R,R⟩
theorem acd(w:av):Calls prog 199 #[aB (bs jD)] w λe a=>e=aH (I J 19)/\a=w:=by
 have b:(bs jD).toList=[46,103,108,111,98,108]:=ik _;go_enter func199,ntmps199;go_wp2_with (go_in)
 go_wp2;go_ret;exact⟨R,R⟩
theorem aeL(w:av):Calls prog 221 #[aB (bs dK)] w λe a=>e=aH (aJ F)/\a=w:=by
 have b:(bs dK).size=6:=R;go_enter func221,ntmps221;go_wp2;refine xb 7 ?_
 iterate 7
  rw[rp];go_wp2
 go_ret;exact⟨R,R⟩
theorem ag6(w:av):Calls prog 222 #[aB (bs dK)] w λe a=>e=aH (aZ #[I J 0,aJ F])/\a=w:=by
 have b:(bs dK).size=6:=R;go_enter func222,ntmps222;go_wp2;go_ret2;exact⟨R,R⟩
end Go.Proofs.YtaldcojpkflgpaaGreatDoor

namespace Go.Proofs.YtaldcojpkflgpaaGreatDoor
def wR:L (L aL):=[[],[108,117,105],[97,117,105,112,99],[106,97,108],[106,97,108,114],[98,101,113],[98,110,101],[98,108,116],[98,103,101],[98,108,116,117],[98,103,101,117],[108,119],[115,119],[97,100,100,105],[115,108,116,105],[120,111,114,105],[111,114,105],[97,110,100,105],[97,100,100],[115,117,98],[115,108,116],[115,108,116,117],[120,111,114],[111,114],[97,110,100],[101,99,97,108,108]]
open Go.RowKit Go.Proofs.Tryz
variable {B b g:M} {W C:av} {s:bT} {st:jF} {O m E:aC}
def rP(W:av):Prop:=∀i,i<26->aq W ⟨2,i,N⟩=S (aB (bs (wR.getD i [])))
theorem rP.below(h:rP W)(a:Below B W C)(c:3<=B):rP C:=λi c=>(a.cell (show 2<B by omega)).trans (h i c)
theorem aen(w:av):Calls prog 213 #[I J 3,I J 0] w λe a=>e=aH (I J 0)/\a=w:=by
 go_enter func213,ntmps213;go_wp2_with (go_in)
 go_wp2;go_ret;exact⟨by kernel_rfl,R⟩
theorem acO(w:av)(a:eH w):Calls prog 193 #[.agg #[I J 13,I J 0,I J 0,I J 0,I J 0]] w λe a=>e=aH (I J 19)/\az w a N:=by
 have G:=aG w (.cells #[I J 13,I J 0,I J 0,I J 0,I J 0] 189) N;have d:=yd (a.1 13 (by decide)) G;have t2:=yd (a.2 13 (by decide)) G;have c:=ae G;clear a G;go_enter func193,ntmps193;go_wp2
 go_quiet ((go_at_call 213;exact Calls.quiet_of_same (aen _)))
 go_wp2_with (go_in)
 go_wp2;go_ret;exact⟨by kernel_rfl,ye c.o _⟩
def gC(B:M)(W C:av):Prop:=Below B W C/\xu W C
theorem gC.trans{a b c:av}(h:gC B a b)(k:gC B b c):gC B a c:=⟨h.1.trans k.1,h.2.trans k.2⟩
structure One (B:M) (s:bT) (b g:M) (st:jF) (O m E:aC) (W:av):Prop where
 own:jZ s b g st W
 obj:aA W g #[O,ak N 0 0,ak N 0 0,I J 0,m,E,ak N 0 0] 72
 text:W.ownsRow B 3 1 O st.obj.text.length (st.obj.text.map (I .i64))
 align:W.ownsRow B 3 1 m 4 [I J 2,I J 2,I J 2,I J 2]
 aE:W.ownsRow B 107 4 E st.obj.aE.length (st.obj.aE.flatMap gy)
 ap:∀k,O.ownBlock=S k->m.ownBlock≠S k
 lo:B<=b/\B<=g
section
variable{B:M}{s:bT}{b g:M}{st st':jF}{O m E a:aC}{W C:av}
theorem One.size(h:One B s b g st O m E W):B<=W.heap.size:=by have:=aA.lt h.own;have:=h.lo;omega
theorem One.DY(h:One B s b g st O m E W){k:M}{f:dJ aC}{t:dm}(n:aA W k f t)(o:t=218\/t=72\/t=3\/t=107\/t=75)(w:B<=k)(c:az W C (S k)):gC B W C:=by
 refine⟨(Below.refl B W).grown c h.size (by intro j e;simp at e;omega),λi l x p q r u v d=>d.grown c ?_⟩;intro e;obtain rfl:i=k:=by simpa using e
 have:=d.symm.trans n
 simp at this;obtain⟨-,rfl⟩:=this;rcases o with rfl|rfl|rfl|rfl|rfl<;>contradiction
theorem One.lW(h:One B s b g st O m E W)(c:az W C N):gC B W C:=⟨(Below.refl B W).grown c h.size (by simp),xu.none c⟩
theorem One.grown(h:One B s b g st O m E W)(c:az W C N):One B s b g st O m E C :=
 ⟨h.own.grown c,h.obj.grown c (by simp),h.text.kept c (Decidable.em _),h.align.kept c (Decidable.em _),h.aE.kept c (Decidable.em _),h.ap,h.lo⟩
theorem One.rS(h:One B s b g st O m E W)(d:Az s b g W st' C)(j:st'.obj=st.obj):One B s b g st' O m E C/\gC B W C:=by
 have f:∀ {e:dm} {c n:M} {u:aC} {l:L aC},e≠218->aV W B e c u n l->aV C B e c u n l:=λp i=>by
  cases o:Value.ownBlock _ with
  |none=>exact i.kept d.2 (.inl o)
  |some k=>exact i.kept d.2 (.inr (λe=>mR i e h.own p))
 refine⟨⟨d.1,h.obj.grown d.2 (λe=>?_),by rw[j];exact f (by decide) h.text,f (by decide) h.align,by rw[j];exact f (by decide) h.aE,h.ap,h.lo⟩,h.DY h.own (.inl R) h.lo.1 d.2⟩;obtain rfl:g=b:=by simpa using e
 have:=h.obj.symm.trans h.own
 simp at this
theorem One.V6(h:One B s b g st O m E W){ys:L dz}(i:aV W B 107 4 a (ah ys) (ys.flatMap gy)):One B s b g {st with obj:={st.obj with aE:=ys}} O m a (aK W ⟨g,5,N⟩ a)/\gC B W (aK W ⟨g,5,N⟩ a):=by
 have f:∀ {e:dm} {d n:M} {u:aC} {i:L aC},e≠72->aV W B e d u n i->(aK W ⟨g,5,N⟩ a).ownsRow B e d u n i:=λj f=>vI f (λk e c=>mR f e (c ▸ h.obj) j)
 have d:b≠g:=λe=>by
  have:=h.obj.symm.trans (e ▸ h.own)
  simp at this
 refine⟨⟨aA.grown h.own (bK W g 5 a) (by simpa using d),?_,f (by decide) h.text,f (by decide) h.align,f (by decide) i,h.ap,h.lo⟩,h.DY h.obj (.inr (.inl R)) h.lo.2 (bK W g 5 a)⟩
 have:=h.obj.set 5 a
 simpa using this
end
theorem acG(B:Nat)(s:bT)(b g:Nat)(st:jF)(O m:aC)(a:eZ)(W:av)(h:One B s b g st O m (ak N 0 0) W)(Z:st.fe=0):
  Calls prog 198 #[aM (some ⟨b,0,N⟩),gT a] W λe C=>e=aH (aZ #[I J 0,aJ true])/\(∃p,One B s b g {st with obj:={st.obj with aE:=[⟨a.text,0,0,0⟩]}} O m p C)/\gC B W C:=by
 obtain⟨i1,G,P,Q,U⟩:=fG Tryz.L9;have c:=aG W (.cells #[I J a.kind,I J a.pos,aB (bs a.text),I J a.n] 216) N;have H:=ae (h.grown c);have K0:=ae (h.lW c);have cF:=ae (λV (h:jZ s b g st V)=>AV s b g st V h Z);clear Z;have iu:=ae (aA.new W #[I J a.kind,I J a.pos,aB (bs a.text),I J a.n] 216);have w:(W.alloc (.cells #[I J a.kind,I J a.pos,aB (bs a.text),I J a.n] 216)).cell? ⟨W.heap.size,2,N⟩=some (aB (bs a.text)):=(kP (aA.new W _ _)).1.2.2.1;clear h c;unfold gT;go_enter func198,ntmps198
 go_upto_region 1 with fail
 generalize W.alloc (.cells #[I J a.kind,I J a.pos,aB (bs a.text),I J a.n] 216)=V at *;generalize W.heap.size=r at *;have x:aq V ⟨b,14,N⟩=some (aM (some ⟨g,0,N⟩)):=aA.cell H.o.own 14;have X:aq V ⟨g,5,N⟩=some (ak N 0 0):=H.o.obj.cell 5;have f5:=H.o.obj.free 5;go_wp2_with (go_at_call 130;refine(cF.o V H.o.own).mono ?_;rintro e V ⟨rfl,rfl⟩)
 refine xb 1 ?_;rw[rp];go_wp2;have hsz:=H.o.size;have t:=ae (aG V (.cells #[aB (bs a.text),I J 0,I J 0,I J 0] 107) N);have T:Hd (∀j u,[aB (bs a.text),I J 0,I J 0,I J 0][j]?=some u->(V.alloc (.cells #[aB (bs a.text),I J 0,I J 0,I J 0] 107)).drew.cell? ((⟨V.heap.size,0,N⟩:aY).add j)=some u):=vQ V _ _;have A:Hd ((V.alloc (.cells #[aB (bs a.text),I J 0,I J 0,I J 0] 107)).drew.cell? ⟨b,14,N⟩=some (aM (some ⟨g,0,N⟩))/\(V.alloc (.cells #[aB (bs a.text),I J 0,I J 0,I J 0] 107)).drew.cell? ⟨r,2,N⟩=some (aB (bs a.text))):=⟨yd x (yf t.o),yd w (yf t.o)⟩
 have p5:=yd X t.o;refine qu (S:=(λl=>aq l ⟨b,14,N⟩=some (aM (some ⟨g,0,N⟩))/\aq l ⟨r,2,N⟩=some (aB (bs a.text)))) (by kernel_rfl) ⟨x,w⟩ ?_;intro o
 iterate 10
  refine qg (v:=?_) R (by kernel_rfl) (λ_ _ _ h=>h) o ?_ ?_
  rotate_left
  ·intro l c;obtain⟨y,z⟩:=c;go_simp;with_reducible rfl
 refine dw (i:=11) (v:=?_) R ?_ o ?_
 rotate_left
 ·intro l c;obtain⟨y,z⟩:=c;go_simp;with_reducible rfl
 refine dw (i:=12) (v:=?_) R ?_ o ?_
 rotate_left
 ·intro l c;obtain⟨y,z⟩:=c;go_simp;with_reducible rfl
 refine dw (i:=13) (v:=?_) R ?_ o ?_
 rotate_left
 ·intro l c;obtain⟨y,z⟩:=c;go_simp;with_reducible rfl
 refine ee (rs:=[10,14]) (by kernel_rfl) (by simp) ?_;refine dX R (λK f=>?_) (dX R (λK f=>?_) eN)
 all_goals go_simp
 refine f.out _ _ o (λq=>?_);clear f K;refine ee (rs:=[14]) (by kernel_rfl) (by simp) ?_
 rotate_left
 refine f.out _ _ A.o (λq=>?_);clear f K;refine ee (rs:=[10]) (by kernel_rfl) (by simp) ?_
 all_goals
  refine dX R (λK f=>?_) eN;go_simp;refine f.out _ _ A.o (λnC=>?_);clear f K q nC;refine ee (rs:=[15]) (by kernel_rfl) (by simp) ?_;refine dX R (λK f=>?_) eN;rw[aD (by kernel_rfl)];refine vB _ (.tmp 53) (.tmp 57) 69 rfl B 107 i1 (.agg #[aB ⟨#[]⟩,I J 0,I J 0,I J 0]) 4 40 underlying69 G P Q U R (by decide) (ak N 0 0) 0 [] (by kernel_rfl) (eO _ _ _ _) ⟨V.heap.size,0,N⟩ 1 1 [aB (bs a.text),I J 0,I J 0,I J 0] (by kernel_rfl) R T.o (by intro u d;simp at d;rcases d with rfl|rfl|rfl|rfl<;>rfl) (by unfold cu;omega) (by omega) (by simp;omega) ?_
  intro p Y d k _ D
  have n:=ae (ya (yf t.o) k);have M:=ae (H.o.grown n.o);have F:=ae (M.o.V6 (ys:=[⟨a.text,0,0,0⟩]) d);have m5:=yd X n.o;have g5:=M.o.obj.free 5;have Lg:(aK Y ⟨g,5,N⟩ p).cell? ⟨b,14,N⟩=some (aM (some ⟨g,0,N⟩)):=aA.cell F.o.1.own 14;have z2:(aK Y ⟨g,5,N⟩ p).cell? ⟨r,2,N⟩=some (aB (bs a.text)):=(F.o.2.2 r _ 216 (by decide) (by decide) (by decide) (by decide) (by decide) (iu.o.grown n.o (by simp))).cell 2;have z5:(aK Y ⟨g,5,N⟩ p).cell? ⟨g,5,N⟩=some p:=F.o.1.obj.cell 5;have qA:=ae (K0.o.trans ((H.o.lW n.o).trans F.o.2));have F1:=ae F.o.1
  refine f.out _ _ ⟨yd x n.o,yd w n.o⟩ (λiS=>?_);obtain⟨gR,cv',rfl⟩:=yi d;clear d k D f K F T A p5 X x w
  iterate 2
   refine qg (v:=?_) R (by kernel_rfl) (λ_ _ _ h=>h) iS ?_ ?_
   rotate_left
   ·intro l c;obtain⟨y,z⟩:=c;go_simp;with_reducible rfl
  refine ee (rs:=[18]) (by kernel_rfl) (by simp) ?_;refine dX R (λK f=>?_) eN;go_simp;refine f.out _ _ ⟨Lg,z2⟩ (λd=>?_);clear f K;refine ox (by kernel_rfl) ?_ _
  try simp only[ql,nQ,lH,nj,dt,dB,dC]
  clear iS d o m5 g5;go_wp2;go_ret2;exact⟨R,⟨_,F1.o⟩,qA.o⟩
section
variable{B:M}{s:bT}{b g:M}{st:jF}{O m E:aC}{W C:av}{y:dz}
theorem One.sym(h:One B s b g st O m E W)(l:st.obj.aE=[y]):∃a c d,E=ak (S ⟨a,0,N⟩) 1 c/\aA W a d 107/\B<=a/\1<=c/\(aq W ⟨a,0,N⟩=S (aB (bs y.name))/\aq W ⟨a,1,N⟩=S (I J y.bind)/\aq W ⟨a,2,N⟩=S (I J y.au)/\aq W ⟨a,3,N⟩=S (I J y.off)):=by
 have f:=h.aE;rw[l]at f;obtain⟨n,c,rfl⟩:=yi f;obtain⟨a,d,rfl,i,o,k,e⟩:=Ly f (by simp);refine⟨a,c,d,R,i,(f.lt a R).1,e,?_⟩;have e:∀q,q<4->aq W ⟨a,q,N⟩=(gy y)[q]?:=λq j=>by
  have:d.toList.take 4=gy y:=by simpa using k
  rw[i.cell,<- this,vZ,aD j,Array.getElem?_toList]
 exact⟨e 0 (by omega),e 1 (by omega),e 2 (by omega),e 3 (by omega)⟩
theorem One.Mi{a c i:M}{d:dJ aC}{v:aC}{y':dz}(h:One B s b g st O m (ak (S ⟨a,0,N⟩) 1 c) W)(D:st.obj.aE=[y])(f:aA W a d 107)(x:i<4)(A:(gy y).set i v=gy y'):
  One B s b g {st with obj:={st.obj with aE:=[y']}} O m (ak (S ⟨a,0,N⟩) 1 c) (aK W ⟨a,i,N⟩ v)/\gC B W (aK W ⟨a,i,N⟩ v):=by
 have l:=h.aE;rw[D]at l;have p:∀ {e:dm} {d n:M} {u:aC} {l:L aC},e≠107->aV W B e d u n l->(aK W ⟨a,i,N⟩ v).ownsRow B e d u n l:=λo a=>vI a (λk e c=>mR a e (c ▸ f) o)
 have q:∀ {k:M} {o:dJ aC} {t:dm},t≠107->aA W k o t->aA (aK W ⟨a,i,N⟩ v) k o t:=λz r=>r.grown (bK W a i v) (λe=>by
  have w:=xK e;subst w
  have:=r.symm.trans f
  simp at this;exact z this.2)
 have o:=tq (j:=i) (u:=v) l (by simpa using x);refine⟨⟨q (by decide) h.own,q (by decide) h.obj,p (by decide) h.text,p (by decide) h.align,?_,h.ap,h.lo⟩,h.DY f (.inr (.inr (.inr (.inl R)))) (l.lt a R).1 (bK W a i v)⟩;have e:([y].flatMap gy).set i v=[y'].flatMap gy:=by simpa using A
 rw[e]at o;exact o
end
theorem acH(B:M)(s:bT)(b g:M)(st:jF)(O m E:aC)(a:eZ)(y:dz)(W:av)(h:One B s b g st O m E W)(k:st.fe=0)(i:st.obj.aE=[y])(l:y.name=a.text):
  Calls prog 198 #[aM (S ⟨b,0,N⟩),gT a] W λe C=>e=aH (aZ #[I J 0,aJ T])/\az W C N:=by
 have d:=aG W (.cells #[I J a.kind,I J a.pos,aB (bs a.text),I J a.n] 216) N;have H:=ae (h.grown d);have n:=ae d;have o:=ae (λV (h:jZ s b g st V)=>AV s b g st V h k);obtain⟨w,c,p,f,q,-,z,-⟩:=h.sym i;subst f;have v:(W.alloc (.cells #[I J a.kind,I J a.pos,aB (bs a.text),I J a.n] 216)).cell? ⟨W.heap.size,2,N⟩=S (aB (bs a.text)):=(kP (aA.new W _ _)).1.2.2.1;obtain⟨_,_,_,j,-,-,-,u,A,D,G⟩:=H.o.sym i;simp only[Value.slice.injEq,nv,Addr.mk.injEq,and_true,true_and]at j;obtain⟨rfl,rfl⟩:=j
 rw[l]at u;have x:((bs a.text).toList==(bs a.text).toList)=T:=by simp
 have t:(1:Z)<=(c:Z):=by omega
 clear h d k i l q;unfold gT;go_enter func198,ntmps198
 go_upto_region 1 with fail
 generalize W.alloc (.cells #[I J a.kind,I J a.pos,aB (bs a.text),I J a.n] 216)=V at *;generalize W.heap.size=r at *;have P:aq V ⟨b,14,N⟩=S (aM (S ⟨g,0,N⟩)):=aA.cell H.o.own 14;have K:aq V ⟨g,5,N⟩=S (ak (S ⟨w,0,N⟩) 1 c):=H.o.obj.cell 5;have d:=ae (aG V (.cells #[aB (bs a.text),I J y.bind,I J y.au,I J y.off] 107) N);have q:=World.block_lt_of_cell? V _ v;go_wp2_with (go_at_call 130;refine(o.o V H.o.own).mono ?_;rintro e V ⟨rfl,rfl⟩)
 refine xb 1 ?_;rw[rp];go_wp2;go_ret2;exact⟨R,ya n.o d.o⟩
theorem Rd(b:M)(k p n:M)(W:av):Calls prog 197 #[aM (S ⟨b,0,N⟩),gT ⟨k,p,dK,n⟩] W λe C=>e=aH (aZ #[])/\az W C N:=by
 have G:=ae (aG W (.cells #[I J k,I J p,aB (bs dK),I J n] 216) N);have a:(bs dK).size=6:=R;unfold gT;dsimp only;go_enter func197,ntmps197;go_wp2_with (first|(go_at_call 221;refine(aeL _).mono ?_;rintro e V ⟨rfl,rfl⟩)|(go_at_call 222;refine(ag6 _).mono ?_;rintro e V ⟨rfl,rfl⟩))
 go_end0
 exact⟨R,G.o⟩
theorem aff(s:bT)(b g:M)(st:jF)(W:av)(h:jZ s b g st W)(q:M)(z:eZ)(y:M)(Z:s.size<=1000)(K:st.tok=⟨1,q,dK,0⟩)(G:st.fe=0)(P:Nx s st.p z y):
  Calls prog 268 #[aM (some ⟨b,0,N⟩)] W λa C=>a=aH (gT ⟨1,q,dK,0⟩)/\Az s b g W {st with p:=y,tok:=z} C:=by
 have H:=ae h;have S:=aA.lt h;obtain⟨⟨j,k,l,n⟩,-⟩:=h.tok;rw[K]at j k l n;dsimp only at j k l n;have L:=ae (λV (h:jZ s b g st V)=>Be s b g st V h z y Z G P);have o:=ae (λV=>Rd b 1 q 0 V);clear h P K G;have r:b≠W.heap.size:=by omega
 have T:b≠W.heap.size+1:=by omega
 have U:=ae (ya (aG W (.cells #[I J 0,I J 0,aB ⟨#[]⟩,I J 0] 216) N) (aG _ (.cells #[I J 1,I J q,aB (bs dK),I J 0] 216) N));have a:=ae ((aA.new W #[I J 0,I J 0,aB ⟨#[]⟩,I J 0] 216).grown (aG _ (.cells #[I J 1,I J q,aB (bs dK),I J 0] 216) N) (by simp));have c:=ae (aA.Qt W (.cells #[I J 0,I J 0,aB ⟨#[]⟩,I J 0] 216) #[I J 1,I J q,aB (bs dK),I J 0] 216);unfold gT at o;dsimp only at o;go_enter func268,ntmps268
 go_upto_region 5 with fail
 generalize (W.alloc (.cells #[I J 0,I J 0,aB ⟨#[]⟩,I J 0] 216)).alloc (.cells #[I J 1,I J q,aB (bs dK),I J 0] 216)=Y at *;obtain⟨⟨t,u,w,x⟩,-⟩:=kP c.o;go_wp2_with fail;refine(o.o Y).mono ?_;rintro e F ⟨rfl,d⟩;have A:=ae (ya U.o d);have f:=ae (a.o.grown d (by simp));have i:=ae (c.o.grown d (by simp));clear d t u w x j k l n a c;go_wp2_with fail;refine(L.o F (H.o.grown A.o)).mono ?_;rintro e V ⟨rfl,d⟩;have a:=ae (f.o.grown d.2 (by simp;omega));have c:=ae (i.o.grown d.2 (by simp;omega));have X:=ae d.1
 have Q:=ae (ya (Sl A.o) d.2);clear d;obtain⟨⟨t,u,w,x⟩,-⟩:=kP c.o;obtain⟨⟨t0,t1,t2,t3⟩,v0,v1,v2,v3⟩:=kP a.o;go_wp2;have D:=(aA.BF X.o r [(0,I J 1),(1,I J q),(2,aB (bs dK)),(3,I J 0)])
 have d:=AK Q.o (bz _) [(0,I J 1),(1,I J q),(2,aB (bs dK)),(3,I J 0)];obtain⟨⟨j,k,l,n⟩,-⟩:=kP (vO [(0,I J 1),(1,I J q),(2,aB (bs dK)),(3,I J 0)] a.o);refine bj (v:=gT ⟨1,q,dK,0⟩) ?_ R ⟨R,D,d⟩;clear D d t0 t1 t2 t3 v0 v1 v2 v3 t u w x;simp only[pV,sL,vY]at j k l n;generalize aK _ _ _=d at *;simp[results,results268,go_sem,gT,j,k,l,n]
theorem adX(B:M)(s:bT)(b g:M)(st:jF)(O m:aC)(W:av)(h:One B s b g st O m (ak N 0 0) W)(q:M)(k:eZ)(j:M)(Q:s.size<=1000)(w:st.tok=⟨1,q,dK,0⟩)(n:st.fe=0)(x:Nx s st.p k j):
  Calls prog 264 #[aM (S ⟨b,0,N⟩),I J 1] W λe C=>e=aH (aZ #[])/\(∃E,One B s b g {st with p:=j,tok:=k,obj:={st.obj with aE:=[⟨dK,1,0,0⟩]}} O m E C)/\gC B W C:=by
 have a:=ae (aff s b g st W h.own q k j Q w n x);have H:=ae h;have f:=ae (λV (h:One B s b g {st with p:=j,tok:=k} O m (ak N 0 0) V)=>acG B s b g _ O m ⟨1,q,dK,0⟩ V h n);clear h w n x;unfold gT at a f;dsimp only at a f;go_enter func264,ntmps264;go_wp2_with fail;refine a.o.mono ?_;rintro e V ⟨rfl,l⟩;obtain⟨d,o⟩:=H.o.rS l R;have A:=aG V (.cells #[I J 1,I J q,aB (bs dK),I J 0] 216) N;have r:=ae (d.grown A);have t:=ae (o.trans (d.lW A));have L:=ae (aA.new V #[I J 1,I J q,aB (bs dK),I J 0] 216)
 clear d o A l a
 go_upto_region 1 with fail
 generalize V.alloc (.cells #[I J 1,I J q,aB (bs dK),I J 0] 216)=G at *;generalize V.heap.size=a at *;obtain⟨⟨U,X,Y,T⟩,-⟩:=kP L.o;go_wp2_with fail;refine(f.o G r.o).mono ?_;rintro e u ⟨rfl,⟨E,d⟩,y⟩;have z:=ae d;have D:=ae (t.o.trans y);obtain⟨Z,c,K,o,l,-,hc,y0,y1,y2,y3⟩:=d.sym R;subst o;have F:=ae (z.o.Mi (i:=1) (v:=I J 1) (y':=⟨dK,1,0,0⟩) R l (by omega) R);have f1:=l.free 1;have P:(1:Int)<=(c:Int):=by omega
 have Hm:aq u ⟨b,14,N⟩=S (aM (S ⟨g,0,N⟩)):=aA.cell d.own 14;have q5:aq u ⟨g,5,N⟩=S (ak (S ⟨Z,0,N⟩) 1 c):=d.obj.cell 5;clear d y l U X Y T f r t L;go_wp2
 go_end0
 exact⟨R,⟨_,F.o.1⟩,D.o.trans F.o.2⟩
theorem RI(g:M)(a:aR aY)(n c:M)(W:av)(h:aq W ⟨g,0,N⟩=S (ak a n c))(d:n<=4):Calls prog 118 #[aM (S ⟨g,0,N⟩),I J 1] W λe C=>e=aH (I J (4*n))/\C=W:=by
 go_enter func118,ntmps118;go_wp2_with (go_in)
 go_wp2;go_ret;exact⟨R,R⟩
theorem adi(B:Nat)(s:bT)(b g:Nat)(st:jF)(m E:aC)(W:av)(h:One B s b g st (ak N 0 0) m E W)(q:Nat)(z:st.fe=0)(t:st.obj.aE=[⟨dK,1,0,0⟩])(y:st.au=1):
  Calls prog 166 #[aM (S ⟨b,0,N⟩),gT ⟨1,q,dK,0⟩] W λe C=>e=aH (aZ #[])/\One B s b g {st with obj:={st.obj with aE:=[⟨dK,1,1,0⟩]}} (ak N 0 0) m E C/\gC B W C:=by
 have A:=aG W (.cells #[I J 1,I J q,aB (bs dK),I J 0] 216) N;have H:=ae (h.grown A);have l:=ae (h.lW A);have f:=ae (λV=>Rd b 1 q 0 V);have j:=ae (λV (h:One B s b g st (ak N 0 0) m E V)=>acH B s b g st _ m E ⟨1,q,dK,0⟩ _ V h z t R);have L:=ae (aA.new W #[I J 1,I J q,aB (bs dK),I J 0] 216);have u:=ae t;have p:=ae y;clear h A z t y;unfold gT at f j ⊢;dsimp only at f j ⊢;go_enter func166,ntmps166
 go_upto_region 1 with fail
 generalize W.alloc (.cells #[I J 1,I J q,aB (bs dK),I J 0] 216)=V at *;generalize W.heap.size=a at *;obtain⟨⟨o,r,w,x⟩,-⟩:=kP L.o;go_wp2_with fail;refine(f.o V).mono ?_;rintro e M ⟨rfl,k⟩;have d:=ae (H.o.grown k);have n:=ae (l.o.trans (H.o.lW k));obtain⟨⟨D,G,K,P⟩,-⟩:=kP (L.o.grown k (by simp));clear k o r w x H l L f;go_wp2_with fail;refine(j.o M d.o).mono ?_;rintro e f ⟨rfl,l⟩;have k:=ae (d.o.grown l);have o:=ae (n.o.trans (d.o.lW l));clear l D G K P d n j;obtain⟨d,c,cur,r,n,-,hc,K,P,Q,U⟩:=k.o.sym u.o;subst r;have G:aq f ⟨b,14,N⟩=S (aM (S ⟨g,0,N⟩)):=aA.cell k.o.own 14
 have w:aq f ⟨b,13,N⟩=S (I J 1):=by have:=aA.cell k.o.own 13;simp only[yQ,p.o]at this;exact this
 have D:aq f ⟨g,5,N⟩=S (ak (S ⟨d,0,N⟩) 1 c):=k.o.obj.cell 5;have hcc:(1:Int)<=(c:Int):=by omega
 have x:=n.free 2;have F:=ae (k.o.Mi (i:=2) (v:=I J 1) (y':=⟨dK,1,1,0⟩) u.o n (by omega) R);have j:=yf (aW (aK f ⟨d,2,N⟩ (I J 1)) N);have l:=ae (F.o.1.grown j);have X:=ae ((o.o.trans F.o.2).trans (F.o.1.lW j));have Z:Hd ((aK f ⟨d,2,N⟩ (I J 1)).drew.cell? ⟨b,14,N⟩=S (aM (S ⟨g,0,N⟩))/\(aK f ⟨d,2,N⟩ (I J 1)).drew.cell? ⟨b,13,N⟩=S (I J 1)/\(aK f ⟨d,2,N⟩ (I J 1)).drew.cell? ⟨g,5,N⟩=S (ak (S ⟨d,0,N⟩) 1 c)) :=
  ⟨aA.cell l.o.own 14,by have:=aA.cell l.o.own 13;simp only[yQ,p.o]at this;exact this,l.o.obj.cell 5⟩
 clear j F;go_wp2
 go_region_held3 (λj=>aq j ⟨b,14,N⟩=S (aM (S ⟨g,0,N⟩))/\aq j ⟨b,13,N⟩=S (I J 1)/\aq j ⟨g,5,N⟩=S (ak (S ⟨d,0,N⟩) 1 c)) (first|exact Z.o|go_keep) (fail)
 clear k o n G w D K P Q U x;generalize (aK f ⟨d,2,N⟩ (I J 1)).drew=k at *;obtain⟨G,w,D⟩:=Z.o;obtain⟨_,_,aih,x,n,-,-,K,P,Q,U⟩:=l.o.sym R;simp only[Value.slice.injEq,nv,Addr.mk.injEq,and_true,true_and]at x;obtain⟨rfl,rfl⟩:=x;have q0:aq k ⟨g,0,N⟩=S (ak N 0 0):=l.o.obj.cell 0;have f3:=n.free 3;have F:=ae (l.o.Mi (i:=3) (v:=I J 0) (y':=⟨dK,1,1,0⟩) R n (by omega) R);have j:=yf (aW (aK k ⟨d,3,N⟩ (I J 0)) N);have o:=ae (F.o.1.grown j);have Y:=ae ((X.o.trans F.o.2).trans (F.o.1.lW j))
 have T:Hd ((aK k ⟨d,3,N⟩ (I J 0)).drew.cell? ⟨b,14,N⟩=S (aM (S ⟨g,0,N⟩))/\(aK k ⟨d,3,N⟩ (I J 0)).drew.cell? ⟨b,13,N⟩=S (I J 1)/\(aK k ⟨d,3,N⟩ (I J 0)).drew.cell? ⟨g,5,N⟩=S (ak (S ⟨d,0,N⟩) 1 c)) :=
  ⟨aA.cell o.o.own 14,by have:=aA.cell o.o.own 13;simp only[yQ,p.o]at this;exact this,o.o.obj.cell 5⟩
 have cL:=ae (λV (h:aq V ⟨g,0,N⟩=S (ak N 0 0))=>RI g N 0 0 V h (by omega));clear j F;go_wp2
 go_region_held3 (λj=>aq j ⟨b,14,N⟩=S (aM (S ⟨g,0,N⟩))/\aq j ⟨b,13,N⟩=S (I J 1)/\aq j ⟨g,5,N⟩=S (ak (S ⟨d,0,N⟩) 1 c)) (first|exact T.o|go_keep) (first|(go_at_call 118;refine(cL.o k.drew q0).mono ?_;rintro e j ⟨rfl,rfl⟩))
 go_wp2
 go_end0
 exact⟨R,o.o,Y.o⟩
theorem One.Zv{a:aC}(h:One B s b g st O m E W){ws:L Z}(i:aV W B 3 1 a (ah ws) (ws.map (I .i64)))(j:∀k,a.ownBlock=S k->m.ownBlock≠S k):One B s b g {st with obj:={st.obj with text:=ws}} a m E (aK W ⟨g,0,N⟩ a)/\gC B W (aK W ⟨g,0,N⟩ a):=by
 have f:∀ {e:dm} {d n:M} {u:aC} {f:L aC},e≠72->aV W B e d u n f->(aK W ⟨g,0,N⟩ a).ownsRow B e d u n f:=λi a=>vI a (λk e c=>mR a e (c ▸ h.obj) i)
 have d:b≠g:=λe=>by
  have:=h.obj.symm.trans (e ▸ h.own)
  simp at this
 refine⟨⟨aA.grown h.own (bK W g 0 a) (by simpa using d),?_,f (by decide) i,f (by decide) h.align,f (by decide) h.aE,j,h.lo⟩,h.DY h.obj (.inr (.inl R)) h.lo.2 (bK W g 0 a)⟩
 have:=h.obj.set 0 a
 simpa using this
theorem afJ(B:M)(s:bT)(b g:M)(st:jF)(m E:aC)(a:M)(W:av)(h:One B s b g st (ak N 0 0) m E W)(Y:st.fe=0)(X:st.au=1)(w:aA W a #[I J 19] 3):
  Calls prog 261 #[aM (some ⟨b,0,N⟩),ak (some ⟨a,0,N⟩) 1 1] W λe C=>e=aH (aZ #[])/\(∃O,One B s b g {st with obj:={st.obj with text:=[19]}} O m E C)/\gC B W C:=by
 obtain⟨i0,hi,D,G,P⟩:=fG Tryz.pR;have H:=ae h;have Z:=ae w;have cF:=ae (λV (h:jZ s b g st V)=>AV s b g st V h Y);have cL:=ae (λV (h:aq V ⟨g,0,N⟩=some (ak N 0 0))=>RI g N 0 0 V h (by omega));have p:aq W ⟨b,14,N⟩=some (aM (some ⟨g,0,N⟩)):=aA.cell h.own 14;have U:aq W ⟨b,13,N⟩=some (I J 1):=by have:=aA.cell h.own 13;simp only[yQ,X]at this;exact this
 have o:aq W ⟨g,0,N⟩=some (ak N 0 0):=h.obj.cell 0;have n0:aq W ⟨a,0,N⟩=some (I J 19):=w.cell 0;clear h Y X w;go_enter func261,ntmps261;go_wp2
 go_quiet ((go_at_call 118;exact Calls.quiet_of_same (cL.o _ o)))
 have l:=ae (H.o.grown (ye (aW W N) nq));have Ja:=ae (Z.o.drewN nq);have K0:=ae (H.o.lW (ye (aW W N) nq));have p:=yd p (ye (aW W N) nq);have U:=yd U (ye (aW W N) nq);have o:=yd o (ye (aW W N) nq);generalize W.drewN nq=V at *;go_wp2_with (first|(go_at_call 130;refine(cF.o V l.o.own).mono ?_;rintro e V ⟨rfl,rfl⟩)|go_in)
 have z:=l.o.size;refine qu (S:=(λq=>aq q ⟨b,14,N⟩=some (aM (some ⟨g,0,N⟩)))) (by kernel_rfl) p ?_;intro t
 iterate 10
  refine qg (v:=?_) R (by kernel_rfl) (λ_ _ _ h=>h) t ?_ ?_
  rotate_left
  ·intro q A;have x0:aq q ⟨b,14,N⟩=some (aM (some ⟨g,0,N⟩)):=A;go_simp;with_reducible rfl
 refine dw (i:=11) (v:=?_) R ?_ t ?_
 rotate_left
 ·intro q _;go_simp;with_reducible rfl
 refine ee (rs:=[10]) (by kernel_rfl) (by simp) ?_;refine dX R (λK j=>?_) eN;go_simp;refine j.out _ _ t (λy=>?_);clear j K y;refine ee (rs:=[12]) (by kernel_rfl) (by simp) ?_;refine dX R (λK j=>?_) eN;rw[aD (by kernel_rfl)];refine vB _ (.tmp 48) (.tmp 49) 23 rfl B 3 i0 (I J 0) 1 8 underlying23 hi D G P R (by decide) (ak N 0 0) 0 [] (by kernel_rfl) (eO _ _ _ _) ⟨a,0,N⟩ 1 1 [I J 19] (by kernel_rfl) R (World.news_of_block Ja.o) (by intro u d;simp at d;rcases d with rfl;rfl) (by unfold cu;omega) (by omega) z ?_
 intro v' w3 d f _ n
 have r:=ae (ya (yf (aW V N)) f);have Q:=ae (l.o.grown r.o);have F:=ae (Q.o.Zv (ws:=[19]) d (λk e c=>by
  rcases n with x|x
  ·rw[x]at e;cases e
  ·rw[x]at e
   cases e
   exact absurd (l.o.align.lt _ c).2 (Nat.lt_irrefl _)))
 have m0:=yd o r.o;have g0:=Q.o.obj.free 0;have Lg:(aK w3 ⟨g,0,N⟩ v').cell? ⟨b,14,N⟩=some (aM (some ⟨g,0,N⟩)):=aA.cell F.o.1.own 14;have qA:=ae (K0.o.trans ((l.o.lW r.o).trans F.o.2));have F1:=ae F.o.1;refine j.out _ _ (yd p r.o) (λT=>?_);obtain⟨gR,cv',rfl⟩:=yi d;clear d f n j K F o p
 iterate 2
  refine qg (v:=?_) R (by kernel_rfl) (λ_ _ _ h=>h) T ?_ ?_
  rotate_left
  ·intro q _;go_simp;with_reducible rfl
 refine ee (rs:=[15]) (by kernel_rfl) (by simp) ?_;refine dX R (λK j=>?_) eN;go_simp;refine j.out _ _ Lg (λd=>?_);clear j K;refine ox (by kernel_rfl) ?_ _
 try simp only[ql,nQ,lH,nj,dt,dB,dC]
 clear T d t m0 g0;go_wp2
 go_end0
 exact⟨R,⟨_,F1.o⟩,qA.o⟩
theorem ac4(B:M)(s:bT)(b g:M)(st:jF)(m E:aC)(W:av)(h:One B s b g st (ak N 0 0) m E W)(i:st.fe=0)(f:st.au=1)(j:eH W):
  Calls prog 253 #[aM (S ⟨b,0,N⟩),.agg #[I J 13,I J 0,I J 0,I J 0,I J 0]] W λe C=>e=aH (aZ #[])/\(∃O,One B s b g {st with obj:={st.obj with text:=[19]}} O m E C)/\gC B W C:=by
 have A:=aG W (.cells #[I J 13,I J 0,I J 0,I J 0,I J 0] 189) N;have H:=ae (h.grown A);have l:=ae (h.lW A);have d:=ae (acO _ (j.grown A));have p:=ae (λV a (h:One B s b g st (ak N 0 0) m E V) (c:aA V a #[I J 19] 3)=>afJ B s b g st m E a V h i f c);clear h A i f j;go_enter func253,ntmps253;go_wp2_with fail;refine d.o.mono ?_;rintro e V ⟨rfl,c⟩;have a:=aG V (.cells #[I J 19] 3) N;have k:=ae (H.o.grown (ya c a));have n:=ae (l.o.trans (H.o.lW (ya c a)));clear c a d;go_wp2_with fail
 refine(p.o _ _ k.o (aA.new V #[I J 19] 3)).mono ?_;rintro e q ⟨rfl,a,c⟩;have d:=ae a;have o:=ae (n.o.trans c);clear a c;go_wp2
 go_end0
 exact⟨R,d.o,o.o⟩
theorem aed(i:M):(wR[i]?.getD []==jE)=F:=by
 by_cases h:i<26
 ·exact(show ∀i,i<26->(wR[i]?.getD []==jE)=F by decide) i h
 ·rw[uL (by show 26<=i;omega)];rfl
theorem adu(W:av)(a:rP W):Calls prog 202 #[aB (bs jE)] W λe C=>e=aH (I J 0)/\C=W:=by
 have f:∀l,(bs l).toList=l:=ik
 have d:=aed;have c:∀i,i<26->aq W ⟨2,i,N⟩=S (aB (bs (wR.getD i []))):=a
 clear a;go_enter func202,ntmps202;go_wp2;refine xb 26 ?_
 iterate 26
  rw[rp];go_wp2
 go_ret;exact⟨R,R⟩
theorem One.Nj(h:One B s b g st O m E W)(k p:M)(t:L aL)(n:M):One B s b g {st with op:=⟨k,p,t,n⟩} O m E ((((aK W ⟨b,9,N⟩ (I J k)).setCell ⟨b,10,N⟩ (I J p)).setCell ⟨b,11,N⟩ (aB (bs t))).setCell ⟨b,12,N⟩ (I J n))/\gC B W ((((aK W ⟨b,9,N⟩ (I J k)).setCell ⟨b,10,N⟩ (I J p)).setCell ⟨b,11,N⟩ (aB (bs t))).setCell ⟨b,12,N⟩ (I J n)) :=
 h.rS ⟨vO [(9,I J k),(10,I J p),(11,aB (bs t)),(12,I J n)] h.own,Ds W b [(9,I J k),(10,I J p),(11,aB (bs t)),(12,I J n)]⟩ R
theorem One.ops(h:One B s b g st O m E W):(aq W ⟨b,9,N⟩=S (I J st.op.kind)/\aq W ⟨b,10,N⟩=S (I J st.op.pos)/\aq W ⟨b,11,N⟩=S (aB (bs st.op.text))/\aq W ⟨b,12,N⟩=S (I J st.op.n)/\aq W ⟨b,13,N⟩=S (I J st.au))/\dx W ⟨b,9,N⟩=F/\dx W ⟨b,10,N⟩=F/\dx W ⟨b,11,N⟩=F/\dx W ⟨b,12,N⟩=F :=
 ⟨⟨aA.cell h.own 9,aA.cell h.own 10,aA.cell h.own 11,aA.cell h.own 12,aA.cell h.own 13⟩,aA.free h.own 9,aA.free h.own 10,aA.free h.own 11,aA.free h.own 12⟩
theorem aew(B:M)(s:bT)(b g:M)(st:jF)(O m:aC)(W:av)(h:One B s b g st O m (ak N 0 0) W)(a q:M)(r:eZ)(o:M)(D:s.size<=1000)(u:st.tok=⟨1,q,dK,0⟩)(t:st.fe=0)(v:Nx s st.p r o):
  Calls prog 167 #[aM (some ⟨b,0,N⟩),gT ⟨1,a,jD,0⟩] W λe C=>e=aH (aZ #[])/\(∃E,One B s b g {st with op:=⟨1,a,jD,0⟩,p:=o,tok:=r,obj:={st.obj with aE:=[⟨dK,1,0,0⟩]}} O m E C)/\gC B W C:=by
 have A:=aG W (.cells #[I J 1,I J a,aB (bs jD),I J 0] 216) N;have H:=ae (h.grown A);have w:=ae (h.lW A);have L:=ae (aA.new W #[I J 1,I J a,aB (bs jD),I J 0] 216);have y:=ae (λV (h:One B s b g {st with op:=⟨1,a,jD,0⟩} O m (ak N 0 0) V)=>adX B s b g _ O m V h q r o D u t v);have U:(bs jD).toList=[46,103,108,111,98,108]:=ik _;clear h A u t v;unfold gT;dsimp only;go_enter func167,ntmps167
 go_upto_region 1 with fail
 generalize W.alloc (.cells #[I J 1,I J a,aB (bs jD),I J 0] 216)=V at *;generalize W.heap.size=c at *;obtain⟨⟨G,K,P,Q⟩,-⟩:=kP L.o;obtain⟨⟨x,f,d,i,j⟩,z,k,l,n⟩:=H.o.ops
 go_upto_region 7 with (first|(go_at_call 199;refine(acd _).mono ?_;rintro e V ⟨rfl,rfl⟩)|(go_at_call 200;go_in))
 have S:Hd (One B s b g {st with op:=⟨1,a,jD,0⟩} O m (ak N 0 0) ((((aK V ⟨b,9,N⟩ (I J 1)).setCell ⟨b,10,N⟩ (I J a)).setCell ⟨b,11,N⟩ (aB (bs jD))).setCell ⟨b,12,N⟩ (I J 0))/\gC B V ((((aK V ⟨b,9,N⟩ (I J 1)).setCell ⟨b,10,N⟩ (I J a)).setCell ⟨b,11,N⟩ (aB (bs jD))).setCell ⟨b,12,N⟩ (I J 0))):=H.o.Nj 1 a jD 0;clear x f d i j z k l n G K P Q;generalize (((aK V ⟨b,9,N⟩ (I J 1)).setCell ⟨b,10,N⟩ (I J a)).setCell ⟨b,11,N⟩ (aB (bs jD))).setCell ⟨b,12,N⟩ (I J 0)=f at *
 have d:aq f ⟨b,11,N⟩=some (aB (bs jD)):=S.o.1.ops.1.2.2.1;have l:=ae (w.o.trans S.o.2);go_wp2_with (first|(go_at_call 203;go_in)|(go_at_call 243;go_in)|(go_at_call 264;refine(y.o f S.o.1).mono ?_;rintro e x ⟨rfl,i,j⟩;have k:=ae i;have n:=ae (l.o.trans j);clear i j))
 (try simp only[Exit.inBlock,Exit.then]);refine bj (gW R _ _ _) R ?_
 go_wp2
 go_end0
 go_wp2
 go_end0
 exact⟨R,k.o,n.o⟩
theorem eH.below(h:eH W)(c:Below B W C)(a:3<=B):eH C :=
 ⟨λi a=>(c.cell (show 0<B by omega)).trans (h.1 i a),λi a=>(c.cell (show 1<B by omega)).trans (h.2 i a)⟩
theorem agv(B:M)(s:bT)(b g:M)(st:jF)(m E:aC)(W:av)(h:One B s b g st (ak N 0 0) m E W)(a:M)(t:st.fe=0)(o:st.au=1)(r:eH W)(q:rP W)(p:3<=B):
  Calls prog 167 #[aM (some ⟨b,0,N⟩),gT ⟨1,a,jE,0⟩] W λe C=>e=aH (aZ #[])/\(∃O,One B s b g {st with op:=⟨1,a,jE,0⟩,obj:={st.obj with text:=[19]}} O m E C)/\gC B W C:=by
 have A:=aG W (.cells #[I J 1,I J a,aB (bs jE),I J 0] 216) N;have H:=ae (h.grown A);have D:=ae (h.lW A);have L:=ae (aA.new W #[I J 1,I J a,aB (bs jE),I J 0] 216);have K:=ae (λV (h:One B s b g {st with op:=⟨1,a,jE,0⟩} (ak N 0 0) m E V) (c:eH V)=>ac4 B s b g _ m E V h t o c);have Q:(bs jE).toList=[110,111,112]:=ik _;obtain⟨⟨G,i,d,j,f⟩,P,k,l,n⟩:=(h.grown A).ops;rw[o]at f;have z:=ae r;have y:=ae q;clear h A t o r q;unfold gT;dsimp only;go_enter func167,ntmps167
 go_upto_region 1 with fail
 generalize W.alloc (.cells #[I J 1,I J a,aB (bs jE),I J 0] 216)=V at *;generalize W.heap.size=c at *;obtain⟨⟨u,v,w,x⟩,-⟩:=kP L.o
 go_upto_region 7 with (first|(go_at_call 199;refine(adO _).mono ?_;rintro e V ⟨rfl,rfl⟩)|(go_at_call 200;go_in)|(go_at_call 224;go_in))
 have S:Hd (One B s b g {st with op:=⟨1,a,jE,0⟩} (ak N 0 0) m E ((((aK V ⟨b,9,N⟩ (I J 1)).setCell ⟨b,10,N⟩ (I J a)).setCell ⟨b,11,N⟩ (aB (bs jE))).setCell ⟨b,12,N⟩ (I J 0))/\gC B V ((((aK V ⟨b,9,N⟩ (I J 1)).setCell ⟨b,10,N⟩ (I J a)).setCell ⟨b,11,N⟩ (aB (bs jE))).setCell ⟨b,12,N⟩ (I J 0))):=H.o.Nj 1 a jE 0;clear G i d j f P k l n u v w x;generalize (((aK V ⟨b,9,N⟩ (I J 1)).setCell ⟨b,10,N⟩ (I J a)).setCell ⟨b,11,N⟩ (aB (bs jE))).setCell ⟨b,12,N⟩ (I J 0)=n at *
 have d:aq n ⟨b,11,N⟩=some (aB (bs jE)):=S.o.1.ops.1.2.2.1;have f:=ae (D.o.trans S.o.2);have i:=S.o.2.2 c _ 216 (by decide) (by decide) (by decide) (by decide) (by decide) L.o;obtain⟨⟨u,v,w,x⟩,-⟩:=kP i;clear i;go_wp2_with (first|(go_at_call 202;refine(adu _ (y.o.below f.o.1 p)).mono ?_;rintro e G ⟨rfl,rfl⟩)|(go_at_call 201;go_in)|(go_at_call 231;go_in)|(go_at_call 253;refine(K.o _ S.o.1 (z.o.below f.o.1 p)).mono ?_;rintro e G ⟨rfl,i,j⟩;have k:=ae i;have l:=ae (f.o.trans j);clear i j))
 go_end0
 go_wp2
 go_end0
 go_wp2
 (try simp only[Exit.inBlock,Exit.then]);refine bj (gW R _ _ _) R ?_
 exact⟨R,k.o,l.o⟩
def fN:L aL:=[46,103,108,111,98,108,32,95,115,116,97,114,116,10,95,115,116,97,114,116,58,32,110,111,112,10]
def Od(p:M):bc:=match fN[fP na fN p]? with
 |none=>T
 |some c=>ng c ||(!mb c&&(gA c ||wQ c))
theorem xw(p:M)(f:eZ)(e:M)(i:zT fN p=(f,(0,0),e))(a:Od p=T)(j:p<=26):Nx (bs fN) p f e:=by
 refine⟨by rw[ou];exact i,j,λc d=>?_⟩;rw[ou]at d;unfold Od at a;rw[d]at a;simp only[Bool.or_eq_true,jO,Bool.not_eq_true']at a
 cases h:ng c
 ·rcases a with x|⟨x,y⟩
  ·rw[h]at x;cases x
  ·right
   refine⟨R,x,?_⟩
   cases z:gA c
   ·rcases y with y|y
    ·rw[z]at y;cases y
    ·exact .inr ⟨R,y⟩
   ·exact .inl R
 ·exact .inl R
theorem Zw:Nx (bs fN) 0 ⟨1,0,jD,0⟩ 6:=xw _ _ _ R R (by omega)
theorem Zx:Nx (bs fN) 6 ⟨1,7,dK,0⟩ 13:=xw _ _ _ R R (by omega)
theorem YA:Nx (bs fN) 13 ⟨4,13,[],0⟩ 13:=xw _ _ _ R R (by omega)
theorem YB:Nx (bs fN) 14 ⟨1,14,dK,0⟩ 20:=xw _ _ _ R R (by omega)
theorem YC:Nx (bs fN) 20 ⟨3,20,[58],0⟩ 21:=xw _ _ _ R R (by omega)
theorem YD:Nx (bs fN) 21 ⟨1,22,jE,0⟩ 25:=xw _ _ _ R R (by omega)
theorem YE:Nx (bs fN) 25 ⟨4,25,[],0⟩ 25:=xw _ _ _ R R (by omega)
theorem YF:Nx (bs fN) 26 ⟨4,26,[],0⟩ 26:=xw _ _ _ R R (by omega)
theorem One.loc{R:M}{a:dJ aC}(h:One B s b g st O m E W)(d:aA W R a 216)(f:az W C (S R)):One B s b g st O m E C:=by
 have c:∀ {e:dm} {a n:M} {u:aC} {i:L aC},e≠216->aV W B e a u n i->aV C B e a u n i:=λj c=>c.kept f (.inr (λe=>mR c e d j))
 have i:∀ {k:M} {a:dJ aC} {t:dm},t≠216->aA W k a t->aA C k a t:=λo j=>j.grown f (λe=>by
  have l:=xK e;subst l
  have:=j.symm.trans d
  simp at this;exact o this.2)
 exact⟨i (by decide) h.own,i (by decide) h.obj,c (by decide) h.text,c (by decide) h.align,c (by decide) h.aE,h.ap,h.lo⟩
theorem gC.fresh{R:M}{V a:av}(h:gC B W V)(d:az V a (S R))(r:W.heap.size<=R)(p:B<=W.heap.size):gC B W a:=by
 refine⟨h.1.trans ((Below.refl B V).grown d (fV p h.1.size) (by intro k e;simp at e;omega)),λk f t i j l n o c=>(h.2 k f t i j l n o c).grown d (λe=>?_)⟩
 have:=c.lt
 have q:=xK e;omega
def oO(t:L Z)(y:L dz):aF:=⟨t,[],[],0,[2,2,2,2],y,[]⟩
theorem acn(B b g:M)(m:aC)(W:av)(h:One B (bs fN) b g ⟨0,eZ.nil,0,0,eZ.nil,1,oO [] []⟩ (ak N 0 0) m (ak N 0 0) W):
  Calls prog 128 #[aM (S ⟨b,0,N⟩)] W λe C=>e=aH (aZ #[])/\(∃E,One B (bs fN) b g ⟨13,⟨4,13,[],0⟩,0,0,⟨1,0,jD,0⟩,1,oO [] [⟨dK,1,0,0⟩]⟩ (ak N 0 0) m E C)/\gC B W C:=by
 have H:=ae h;have c:=ae (Be _ b g _ W h.own _ _ (by decide) R Zw);have d:=ae (λV (h:jZ (bs fN) b g ⟨6,⟨1,0,jD,0⟩,0,0,eZ.nil,1,oO [] []⟩ V)=>KN _ b g _ V h _ _ (by decide) R R Zx);have k:=ae (λV (h:One B (bs fN) b g ⟨13,⟨1,7,dK,0⟩,0,0,eZ.nil,1,oO [] []⟩ (ak N 0 0) m (ak N 0 0) V)=>aew B _ b g _ _ m V h 0 7 _ _ (by decide) R R YA);unfold gT at d k;dsimp only at d k;clear h;go_enter func128,ntmps128;go_wp2_with fail;refine c.o.mono ?_;rintro e V ⟨rfl,a⟩;obtain⟨f,j⟩:=H.o.rS a R;have i:=ae f;have l:=ae j;clear f j a c H;go_wp2_with fail
 refine(d.o V i.o.own).mono ?_;rintro e f ⟨rfl,a⟩;obtain⟨j,n⟩:=i.o.rS a R;have A:=aG f (.cells #[I J 1,I J 0,aB (bs jD),I J 0] 216) N;have c:=ae (j.grown A);have p:=ae ((l.o.trans n).trans (j.lW A));have L:=ae (aA.new f #[I J 1,I J 0,aB (bs jD),I J 0] 216);clear j n a d i l A
 go_upto_region 2 with fail
 generalize f.alloc (.cells #[I J 1,I J 0,aB (bs jD),I J 0] 216)=d at *;generalize f.heap.size=a at *;obtain⟨⟨v,w,x,y⟩,-⟩:=kP L.o;have t2:aq d ⟨b,2,N⟩=S (I J 1):=c.o.own.tok.1.1;have t3:aq d ⟨b,3,N⟩=S (I J 7):=c.o.own.tok.1.2.1;have t4:aq d ⟨b,4,N⟩=S (aB (bs dK)):=c.o.own.tok.1.2.2.1;have t5:aq d ⟨b,5,N⟩=S (I J 0):=c.o.own.tok.1.2.2.2;have i:=ae (λV=>SH ⟨1,7,dK,0⟩ [58] V);rw[show eZ.is ⟨1,7,dK,0⟩ [58]=F from R]at i;unfold gT at i;dsimp only at i;go_wp2_with (go_at_call 165;refine(i.o d).mono ?_;rintro e t ⟨rfl,j⟩;have n:=ae (c.o.grown j);have q:=ae (p.o.trans (c.o.lW j));obtain⟨⟨z,D,G,K⟩,-⟩:=kP (L.o.grown j (by simp));clear j v w x y t2 t3 t4 t5)
 refine(k.o t n.o).mono ?_;rintro e u ⟨rfl,⟨E,j⟩,l⟩;have o:=ae j;have r:=ae (q.o.trans l);have t2:aq u ⟨b,2,N⟩=S (I J 4):=j.own.tok.1.1;clear j l z D G K;go_wp2
 go_end0
 exact⟨R,⟨E,o.o⟩,r.o⟩
theorem ae4(B b g:Nat)(m E:aC)(W:av)(h:One B (bs fN) b g ⟨14,⟨4,13,[],0⟩,0,0,⟨1,0,jD,0⟩,1,oO [] [⟨dK,1,0,0⟩]⟩ (ak N 0 0) m E W)(M:eH W)(F:rP W)(x:3<=B):
  Calls prog 128 #[aM (S ⟨b,0,N⟩)] W λe C=>e=aH (aZ #[])/\(∃O,One B (bs fN) b g ⟨25,⟨4,25,[],0⟩,0,0,⟨1,22,jE,0⟩,1,oO [19] [⟨dK,1,1,0⟩]⟩ O m E C)/\gC B W C:=by
 have H:=ae h;have Z:=ae M;have T:=ae F;have y:=h.size;have d:=ae (Be _ b g _ W h.own _ _ (by decide) R YB);have a:=ae (λV (h:jZ (bs fN) b g ⟨20,⟨1,14,dK,0⟩,0,0,⟨1,0,jD,0⟩,1,oO [] [⟨dK,1,0,0⟩]⟩ V)=>KN _ b g _ V h _ _ (by decide) R R YC);have u:=ae (λV (h:One B (bs fN) b g ⟨21,⟨3,20,[58],0⟩,0,0,⟨1,0,jD,0⟩,1,oO [] [⟨dK,1,0,0⟩]⟩ (ak N 0 0) m E V)=>adi B _ b g _ m E V h 14 rfl rfl rfl);have c4:=ae (λV (h:jZ (bs fN) b g ⟨21,⟨3,20,[58],0⟩,0,0,⟨1,0,jD,0⟩,1,oO [] [⟨dK,1,1,0⟩]⟩ V)=>Be _ b g _ V h _ _ (by decide) R YD);have v:=ae (λV (h:jZ (bs fN) b g ⟨25,⟨1,22,jE,0⟩,0,0,⟨1,0,jD,0⟩,1,oO [] [⟨dK,1,1,0⟩]⟩ V)=>KN _ b g _ V h _ _ (by decide) R R YE)
 have w:=ae (λV (h:One B (bs fN) b g ⟨25,⟨4,25,[],0⟩,0,0,⟨1,0,jD,0⟩,1,oO [] [⟨dK,1,1,0⟩]⟩ (ak N 0 0) m E V) c a=>agv B _ b g _ m E V h 22 rfl rfl c a x);have q:=ae (λV=>SH ⟨3,20,[58],0⟩ [58] V);rw[show eZ.is ⟨3,20,[58],0⟩ [58]=true from R]at q;unfold gT at a u v w q;dsimp only at a u v w q;clear h M F;go_enter func128,ntmps128;go_wp2_with fail;refine d.o.mono ?_;rintro e V ⟨rfl,c⟩;obtain⟨j,k⟩:=H.o.rS c R;have f:=ae j;have i:=ae k;clear j k c d H;go_wp2_with fail;refine(a.o V f.o.own).mono ?_;rintro e p ⟨rfl,c⟩;obtain⟨j,k⟩:=f.o.rS c R
 have A:=aG p (.cells #[I J 1,I J 14,aB (bs dK),I J 0] 216) N;have d:=ae (j.grown A);have K2:=ae ((i.o.trans k).trans (j.lW A));have L:=ae (aA.new p #[I J 1,I J 14,aB (bs dK),I J 0] 216);have z:=(i.o.trans k).1.size;clear j k c a f i A
 go_upto_region 2 with fail
 generalize p.alloc (.cells #[I J 1,I J 14,aB (bs dK),I J 0] 216)=f at *;generalize p.heap.size=a at *;obtain⟨⟨m0,m1,m2,m3⟩,-⟩:=kP L.o;have t2:aq f ⟨b,2,N⟩=S (I J 3):=d.o.own.tok.1.1;have t3:aq f ⟨b,3,N⟩=S (I J 20):=d.o.own.tok.1.2.1;have t4:aq f ⟨b,4,N⟩=S (aB (bs [58])):=d.o.own.tok.1.2.2.1;have t5:aq f ⟨b,5,N⟩=S (I J 0):=d.o.own.tok.1.2.2.2;go_wp2_with (go_at_call 165;refine(q.o f).mono ?_;rintro e gw ⟨rfl,c⟩;have G:=ae (d.o.grown c);have P:=ae (K2.o.trans (d.o.lW c));have t:=ae (L.o.grown c (by simp));obtain⟨⟨j,k,l,n⟩,-⟩:=kP t.o;clear c m0 m1 m2 m3 t2 t3 t4 t5)
 refine(u.o gw G.o).mono ?_;rintro e fp ⟨rfl,o,c⟩;have i:=ae o;have D:=ae (P.o.trans c);have K:=ae (c.2 a _ 216 (by decide) (by decide) (by decide) (by decide) (by decide) t.o);clear o c j k l n G P t;go_wp2_with fail;refine(c4.o fp i.o.own).mono ?_;rintro e ja ⟨rfl,c⟩;obtain⟨U,o⟩:=i.o.rS c R;have r:=ae U;have Q:=ae (D.o.trans o);have X:=ae (o.2 a _ 216 (by decide) (by decide) (by decide) (by decide) (by decide) K.o);clear U o c i D K;go_wp2_with fail;refine(v.o ja r.o.own).mono ?_;rintro e i ⟨rfl,c⟩;obtain⟨Y,D⟩:=r.o.rS c R;have K:=ae Y
 have U:=ae (Q.o.trans D);have o:=ae (D.2 a _ 216 (by decide) (by decide) (by decide) (by decide) (by decide) X.o);clear Y D c r Q X;obtain⟨⟨j,k,l,n⟩,D,X,Y,f3⟩:=kP o.o;have c:Hd (az i ((((aK i ⟨a,0,N⟩ (I J 1)).setCell ⟨a,1,N⟩ (I J 22)).setCell ⟨a,2,N⟩ (aB (bs jE))).setCell ⟨a,3,N⟩ (I J 0)) (S a)/\aA ((((aK i ⟨a,0,N⟩ (I J 1)).setCell ⟨a,1,N⟩ (I J 22)).setCell ⟨a,2,N⟩ (aB (bs jE))).setCell ⟨a,3,N⟩ (I J 0)) a #[I J 1,I J 22,aB (bs jE),I J 0] 216) :=
  ⟨Ds i a [(0,I J 1),(1,I J 22),(2,aB (bs jE)),(3,I J 0)],vO [(0,I J 1),(1,I J 22),(2,aB (bs jE)),(3,I J 0)] o.o⟩
 have Q:=ae (K.o.loc o.o c.o.1);have r:=ae (U.o.fresh c.o.1 z y)
 go_upto_region 6 with fail
 clear j k l n D X Y f3 K U o;generalize (((aK i ⟨a,0,N⟩ (I J 1)).setCell ⟨a,1,N⟩ (I J 22)).setCell ⟨a,2,N⟩ (aB (bs jE))).setCell ⟨a,3,N⟩ (I J 0)=X at *;obtain⟨⟨j,k,l,n⟩,-⟩:=kP c.o.2;go_wp2_with fail;refine(w.o X Q.o (Z.o.below r.o.1 x) (T.o.below r.o.1 x)).mono ?_;rintro e Y ⟨rfl,⟨O,o⟩,D⟩;have K:=ae o;have U:=ae (r.o.trans D);have t2:aq Y ⟨b,2,N⟩=S (I J 4):=o.own.tok.1.1;clear o D j k l n;go_wp2
 go_end0
 exact⟨R,⟨O,K.o⟩,U.o⟩
theorem acm(B b g:M)(O m E:aC)(j:eZ)(o:aF)(W:av)(h:One B (bs fN) b g ⟨26,⟨4,25,[],0⟩,0,0,j,1,o⟩ O m E W):
  Calls prog 128 #[aM (S ⟨b,0,N⟩)] W λe C=>e=aH (aZ #[])/\One B (bs fN) b g ⟨26,⟨4,26,[],0⟩,0,0,j,1,o⟩ O m E C/\gC B W C:=by
 have H:=ae h;have c:=ae (Be _ b g _ W h.own _ _ (by decide) R YF);have d:=ae (λV (h:jZ (bs fN) b g ⟨26,⟨4,26,[],0⟩,0,0,j,1,o⟩ V)=>acj _ b g _ V h R);unfold gT eZ.nil at d;dsimp only at d;clear h;go_enter func128,ntmps128;go_wp2_with fail;refine c.o.mono ?_;rintro e V ⟨rfl,a⟩;obtain⟨i,k⟩:=H.o.rS a R;have f:=ae i;have l:=ae k;clear i k a c H;go_wp2_with fail;refine(d.o V f.o.own).mono ?_;rintro e c ⟨rfl,a⟩;obtain⟨i,n⟩:=f.o.rS a R;have A:=aG c (.cells #[I J 0,I J 0,aB (bs []),I J 0] 216) N;have k:=ae (i.grown A)
 have p:=ae ((l.o.trans n).trans (i.lW A));have L:=ae (aA.new c #[I J 0,I J 0,aB (bs []),I J 0] 216);clear i n a d f l A
 go_upto_region 2 with fail
 generalize c.alloc (.cells #[I J 0,I J 0,aB (bs []),I J 0] 216)=d at *;generalize c.heap.size=a at *;obtain⟨⟨f,i,l,n⟩,-⟩:=kP L.o;have t2:aq d ⟨b,2,N⟩=S (I J 4):=k.o.own.tok.1.1;go_wp2
 go_end0
 exact⟨R,k.o,p.o⟩
theorem KL(b g p:M)(c a:eZ)(o:aF)(x:bc)(k:M)(W:av)(h:jZ (bs fN) b g ⟨p,c,0,0,a,1,o⟩ W)(r:p<=26)(j:xW fN p=(x,k)):
  Calls prog 129 #[aM (S ⟨b,0,N⟩)] W λe C=>e=aH (aJ x)/\Az (bs fN) b g W ⟨k,c,0,0,a,1,o⟩ C:=by
 have q:=ae (AV _ b g _ W h R);have d:=ae (abA (bs fN) b (Ty g ⟨p,c,0,0,a,1,o⟩) p W h (by decide) r);rw[ou,j]at d;clear h j;go_enter func129,ntmps129;go_wp2_with (first|(go_at_call 130;refine q.o.mono ?_;rintro e V ⟨rfl,rfl⟩)|(go_at_call 169;refine d.o.mono ?_;rintro e t ⟨rfl,i,f⟩;have n:=ae i;have l:=ae f;clear i f))
 go_wp2;go_ret;exact⟨R,n.o,l.o⟩
theorem abc(B b g:M)(s:bT)(st:jF)(O m E:aC)(W:av)(h:One B s b g st O m E W)(a:st.obj.aE=[⟨dK,1,1,0⟩]):
  Calls prog 131 #[aM (S ⟨b,0,N⟩)] W λe C=>e=aH (aZ #[])/\C=W:=by
 obtain⟨i,c,d,rfl,-,-,j,n,o,p,q⟩:=h.sym a;have l:aq W ⟨b,14,N⟩=S (aM (S ⟨g,0,N⟩)):=aA.cell h.own 14;have k:aq W ⟨g,5,N⟩=S (ak (S ⟨i,0,N⟩) 1 c):=h.obj.cell 5;have f:(1:Z)<=(c:Z):=by omega
 clear h a;go_enter func131,ntmps131;go_wp2;refine xb 2 ?_
 iterate 2
  rw[rp];go_wp2
 go_end0
 exact⟨R,R⟩
theorem One.ay(h:One B s b g st O m E W):One B s b g st O m E (aK W ⟨g,6,N⟩ (ak N 0 0))/\gC B W (aK W ⟨g,6,N⟩ (ak N 0 0)):=by
 have d:∀ {e:dm} {a n:M} {u:aC} {f:L aC},e≠72->aV W B e a u n f->(aK W ⟨g,6,N⟩ (ak N 0 0)).ownsRow B e a u n f:=λi d=>vI d (λk e c=>mR d e (c ▸ h.obj) i)
 have a:b≠g:=λe=>by
  have:=h.obj.symm.trans (e ▸ h.own)
  simp at this
 refine⟨⟨aA.grown h.own (bK W g 6 _) (by simpa using a),?_,d (by decide) h.text,d (by decide) h.align,d (by decide) h.aE,h.ap,h.lo⟩,h.DY h.obj (.inr (.inl R)) h.lo.2 (bK W g 6 _)⟩
 have:=h.obj.set 6 (ak N 0 0)
 simpa using this
theorem aej(B b g:M)(s:bT)(st:jF)(O m E:aC)(W:av)(h:One B s b g st O m E W):
  Calls prog 132 #[aM (S ⟨b,0,N⟩)] W λe C=>e=aH (aZ #[])/\One B s b g st O m E C/\gC B W C:=by
 have d:aq W ⟨b,14,N⟩=S (aM (S ⟨g,0,N⟩)):=aA.cell h.own 14;have c:aq W ⟨g,6,N⟩=S (ak N 0 0):=h.obj.cell 6;have a:=h.obj.free 6;have F:=ae h.ay;clear h;go_enter func132,ntmps132;go_wp2;refine xb 4 ?_
 iterate 3
  rw[rp];go_wp2;refine xb 1 ?_;rw[rp];go_wp2
 rw[rp];go_wp2
 go_end0
 exact⟨R,F.o⟩
end Go.Proofs.YtaldcojpkflgpaaGreatDoor


namespace Go.Proofs.YtaldcojpkflgpaaGreatDoor
open Go.RowKit Go.Proofs.Tryz
variable {fs:L (L aL)}
instance (c:Z):kr (ic c):=by unfold ic;infer_instance
instance (s:bT):kr (mW s):=by unfold mW;infer_instance
instance (xs:L Z):kr (jm xs):=by unfold jm;infer_instance
instance (xs:L Z):kr (pj xs):=by unfold pj;infer_instance
instance (o:aF):kr (uB o):=by unfold uB;infer_instance
instance (o:aF):kr (rh o):=by unfold rh;infer_instance
instance (o:aF) (y:dz):kr (tu o y):=by unfold tu;infer_instance
instance (o:aF):kr (xl o):=by unfold xl;infer_instance
instance (r:cg):kr (lz r):=by unfold lz;infer_instance
instance (r:cg):kr (fX r):=by unfold fX;infer_instance
instance (o:aF) (r:cg):kr (pu o r):=by unfold pu;infer_instance
instance (o:aF) (r:cg):kr (vS o r):=by unfold vS;infer_instance
instance (o:aF) (r:cg):kr (pY o r):=by unfold pY;infer_instance
instance (o:aF) (r:cg):kr (vK o r):=by unfold vK;infer_instance
instance (k:Z) (xs:L Z):kr (ey k xs):=by unfold ey iE iA xv ig ie jf zS;infer_instance
instance (o:aF) (r:cg):kr (pq o r):=by unfold pq;infer_instance
instance (a r:cg):kr (nI a r):=by unfold nI;infer_instance
instance (o:aF):kr (xk o):=by unfold xk;infer_instance
instance ahJ (o:aF):kr (yl o):=by unfold yl;infer_instance
theorem acg{w:av}{B:M}{a:aR aY}{cap:M}(h:aV w B 9 1 (ak a (ah fs) cap) (ah fs) (fs.map λl=>aB (bs l))):sE w a fs:=by
 intro d;obtain⟨f,e,-,-,-,c⟩:=vM h d;refine⟨f,0,e,λi b=>?_⟩;rw[Nat.zero_add,c i b,jS,List.getElem?_eq_getElem b];rfl
theorem Rs{bt aj bd:Z}{e:Ending}(h:xm bt aj bd fs e):∃(b:L aL) (f:jv),e=aH (aZ #[aB (bs b),bY f]):=by
 rcases h with ⟨f,-,a,-⟩|⟨-,-,-,d,c,-,a⟩
 ·exact⟨_,_,a⟩
 ·exact⟨_,_,a⟩
theorem Sq(bt aj bd:Z)(i:aR aY)(m:M)(fs:L (L aL))(w:av)(g:sE w i fs)(j:∀f∈fs,ah f<=1048576)(p:eH w)(A:ah fs<=1048576):
  Calls prog 5 #[ak i (ah fs) m,.agg #[I J bt,I J aj,I J bd]] w λe a=>xm bt aj bd fs e/\az w a N:=by
 have x:=ae g;have y:=ae p;have l:=ae (λW (d:az w W N)=>ae5 bt aj bd i m fs W (x.o.kept d) j (y.o.grown d) A);have a:(w.alloc (.cells #[I J bt,I J aj,I J bd] 31)).heap.size=w.heap.size+1:=Array.size_push _;have c:=aG (w.alloc (.cells #[I J bt,I J aj,I J bd] 31)) (.cells #[I J 0,I J 0,aB ⟨#[]⟩] 27) N;have k:=ae (ya (aG w (.cells #[I J bt,I J aj,I J bd] 31) N) c);have h:=ae (aA.new (w.alloc (.cells #[I J bt,I J aj,I J bd] 31)) #[I J 0,I J 0,aB ⟨#[]⟩] 27)
 rw[a]at h;clear g p c a;go_enter func5,ntmps5;go_wp2_with fail;generalize (w.alloc (.cells #[I J bt,I J aj,I J bd] 31)).alloc (.cells #[I J 0,I J 0,aB ⟨#[]⟩] 27)=G at *;have z:w.heap.size<=w.heap.size+1:=by omega
 generalize w.heap.size+1=R at *;refine(l.o _ k.o).mono ?_;rintro e E ⟨a,d⟩;obtain⟨b,f,rfl⟩:=Rs a;have u:=ae a;have c:=ae (h.o.grown d (by simp));have t:=ae (ya k.o d);clear a d l h;obtain⟨d,a,h⟩:=f;unfold bY;dsimp only;have B:=c.o.free 0;have C:=c.o.free 1;have D:=c.o.free 2;have q:=c.o.cell 0;have r:=c.o.cell 1;have s:=c.o.cell 2;simp only[bI,bB,bL]at q r s;go_wp2;have F:=((c.o.set 0 (I J d)).set 1 (I J a)).set 2 (aB (bs h));have l:=F.cell 0;have n:=F.cell 1;have o:=F.cell 2;simp only[dt,dB,dC,bI,bB,bL]at l n o
 refine bj (v:=aZ #[aB (bs b),bY ⟨d,a,h⟩]) ?_ rfl ⟨u.o,iC t.o _ z _ _ _⟩;clear F q r s B C D;generalize aK _ _ _=q at *;simp[results,results5,go_sem,bY,l,n,o]
def G8(xs:L Z):bc:=xs.all λx=>decide (0<=x)&&decide (x<=4294967295)
theorem Ki{a:L Z}(h:G8 a=T):jm a:=by
 intro i b
 have:=List.all_eq_true.1 h _ (bN b)
 simp at this;exact this
def TT(o:aF):bc:=decide (uB o)&&(decide (pj o.align)&&(G8 o.text&&(G8 o.bw&&(G8 o.data&&(decide (xl o)&&decide (xk o))))))
theorem adz{o:aF}(h:TT o=T):yl o:=by
 unfold TT at h;simp only[jO,decide_eq_true_eq]at h;obtain⟨a,b,c,d,e,f,g⟩:=h;exact⟨a,b,⟨Ki c,Ki d,Ki e⟩,f,g⟩
def K9(f:jv)(e at_:Z)(n:L aL):Prop:=f.e=e/\f.at_=at_/\f.name=n
instance (f:jv) (e at_:Z) (n:L aL):kr (K9 f e at_ n):=by unfold K9;infer_instance
def TN(os:L aF)(bt aj bd:Z)(e at_:Z)(n:L aL):Prop:=(qE os bt aj bd).1=[]/\K9 (qE os bt aj bd).2 e at_ n
instance (os:L aF) (bt aj bd:Z) (e at_:Z) (n:L aL):kr (TN os bt aj bd e at_ n):=by unfold TN;infer_instance
theorem abl{l:L aL}{a b:bc}{os ps:L aF}(h:mU l a os)(k:mU l b ps):a=b/\os=ps:=by
 rcases h with ⟨rfl,c,rfl⟩|⟨rfl,c,g,e,rfl⟩
 ·rcases k with ⟨rfl,-,rfl⟩|⟨-,d,-⟩
  ·exact⟨R,R⟩
  ·exact absurd c d
 ·rcases k with ⟨-,d,-⟩|⟨rfl,-,i,f,rfl⟩
  ·exact absurd d c
  ·exact⟨R,by rw[<- GL e,<- GL f]⟩
theorem acQ{o:aF}(a:yl o):mU (iX o) F [o]:=by
 have b:=AO a;have q:=FW ((Fb (iX o) o).2 ⟨b,R⟩) a;exact .inl ⟨R,q.1,by rw[q.2]⟩
theorem R8{l:L aL}{a:bc}{os:L aF}(h:mU l a os)(k:Bh l):False:=by
 rcases h with ⟨-,b,-⟩|⟨-,-,d,c,-⟩
 ·exact k.1 b
 ·exact k.2 d c
def Bl:L (L aL)->L (bc×L aF)->Prop
 | [],[]=>True
 |l::ls,x::xs=>mU l x.1 x.2/\Bl ls xs
 |_,_=>False
theorem Sj:∀ {fs:L (L aL)} {a:L (bc×L aF)},Bl fs a->ah a=ah fs:=by
 intro fs
 induction fs with
 |nil=>
  intro a h
  cases a with
  |nil=>rfl
  |cons x a=>exact h.elim
 |cons l c b=>
  intro a h
  cases a with
  |nil=>exact h.elim
  |cons x a=>rw[dA,dA,b h.2]
theorem SS:∀ {fs:L (L aL)} {a:L (bc×L aF)},Bl fs a->∀i (h:i<ah fs) (b:i<ah a),mU fs[i] a[i].1 a[i].2:=by
 intro fs
 induction fs with
 |nil=>intro a _ i h;simp at h
 |cons l e d=>
  intro a h i b c
  cases a with
  |nil=>exact h.elim
  |cons x a=>
   cases i with
   |zero=>exact h.1
   |succ i=>exact d h.2 i (by simpa using b) (by simpa using c)
theorem acR{c ys:L (bc×L aF)}(h:Bl fs c)(g:ah ys=ah fs)(k:∀i (h:i<ah fs),mU fs[i] (ys[i]'(by omega)).1 (ys[i]'(by omega)).2):ys=c:=by
 have f:=Sj h;apply List.ext_getElem
 ·omega
 ·intro i e d;have a:=SS h i (by omega) d;have b:=k i (by omega);have u:=abl b a;exact Prod.ext u.1 u.2
theorem aco{bt aj bd:Z}{j:L (bc×L aF)}{e:Ending}(h:xm bt aj bd fs e)(a:fc bt/\fc aj/\fc bd)(o:1<=ah fs)(p:ah fs<=8)(b:Bl fs j):e=aH (aZ #[aB (bs (qE (gh j) bt aj bd).1),bY (qE (gh j) bt aj bd).2]):=by
 have g:kj bt aj bd=eM:=by
  unfold kj;rw[ax (Hf a.1),ax (Hf a.2.1),ax (Hf a.2.2)]
 rcases h with ⟨f,d,-,c⟩|⟨-,-,-,q,n,k,rfl⟩
 ·rcases c with rfl|⟨-,c,-⟩|⟨-,-,-,i,l,-,m,-⟩
  ·exact absurd (by rw[g];rfl) d
  ·omega
  ·exact(R8 (SS b i l (by rw[Sj b];exact l)) m).elim
 ·rw[acR b n k]
theorem afh(w:av):Calls prog 17 #[] w λe b=>e=aH (.agg #[I J 4096,I J 65536,I J 131072])/\az w b N:=by
 have a:=ae (aG w (.cells #[I J 4096,I J 65536,I J 131072] 31) N);go_enter func17,ntmps17;go_wp2;refine bj (v:=.agg #[I J 4096,I J 65536,I J 131072]) ?_ R ⟨R,a.o⟩;simp[results,results17,go_sem]
theorem adE:fc 4096/\fc 65536/\fc 131072:=by unfold fc;omega
def pT:aF:=oO [19] [⟨dK,1,1,0⟩]
theorem One.Xl{B:M}{s:bT}{b g:M}{p:M}{i f:eZ}{t:L Z}{y:L dz}{d a c:aC}{W:av}(h:One B s b g ⟨p,i,0,0,f,1,oO t y⟩ d a c W):yr W g (oO t y):=by
 have z:∀ {e:dm} {a n:M} {u:aC} {i:L aC},aV W B e a u n i->aV W 0 e a u n i:=λf=>⟨f.1,f.2.imp id (λ⟨g,c,d,j,_,k⟩=>⟨g,c,d,j,bG _,k⟩)⟩
 exact⟨d,_,_,a,c,_,h.obj,z h.text,eO _ _ _ _,eO _ _ _ _,z h.align,z h.aE,eO _ _ _ _⟩
theorem F9:yl pT:=adz (by decide +kernel)
def ue:Obj:=.cells #[I J 0,I J 0,aB ⟨#[]⟩] 27
def oA(g:M):Obj:=.cells #[aB (bs fN),I J 0,I J 0,I J 0,aB ⟨#[]⟩,I J 0,I J 0,I J 0,aB ⟨#[]⟩,I J 0,I J 0,aB ⟨#[]⟩,I J 0,I J 1,aM (S ⟨g,0,N⟩)] 218
def zG:Obj:=.cells #[I J 2,I J 2,I J 2,I J 2] 3
def DZ(a:M):Obj:=.cells #[ak N 0 0,ak N 0 0,ak N 0 0,I J 0,ak (S ⟨a,0,N⟩) 4 4,ak N 0 0,ak N 0 0] 72
theorem aeh(W:av):One W.heap.size (bs fN) (W.heap.size+1) (W.heap.size+1+1+1) ⟨0,eZ.nil,0,0,eZ.nil,1,oO [] []⟩ (ak N 0 0) (ak (S ⟨W.heap.size+1+1,0,N⟩) 4 4) (ak N 0 0) ((((W.alloc ue).alloc (oA (W.heap.size+1+1+1))).alloc zG).alloc (DZ (W.heap.size+1+1))) /\
  aA ((((W.alloc ue).alloc (oA (W.heap.size+1+1+1))).alloc zG).alloc (DZ (W.heap.size+1+1))) W.heap.size #[I J 0,I J 0,aB ⟨#[]⟩] 27/\az W ((((W.alloc ue).alloc (oA (W.heap.size+1+1+1))).alloc zG).alloc (DZ (W.heap.size+1+1))) N:=by
 have h:(W.alloc ue).heap.size=W.heap.size+1:=by simp
 have i:((W.alloc ue).alloc (oA (W.heap.size+1+1+1))).heap.size=W.heap.size+1+1:=by simp
 have j:(((W.alloc ue).alloc (oA (W.heap.size+1+1+1))).alloc zG).heap.size=W.heap.size+1+1+1:=by simp
 have a:∀V:av,az V (V.alloc (DZ (W.heap.size+1+1))) N:=λV=>aG V _ N
 have b:∀V:av,az V (V.alloc zG) N:=λV=>aG V _ N
 have g:∀V:av,az V (V.alloc (oA (W.heap.size+1+1+1))) N:=λV=>aG V _ N
 have c:=((aA.new (W.alloc ue) (yQ (bs fN) (W.heap.size+1+1+1) ⟨0,eZ.nil,0,0,eZ.nil,1,oO [] []⟩) 218).grown (b _) (by simp)).grown (a _) (by simp);have d:=(aA.new ((W.alloc ue).alloc (oA (W.heap.size+1+1+1))) #[I J 2,I J 2,I J 2,I J 2] 3).grown (a _) (by simp);have f:=aA.new (((W.alloc ue).alloc (oA (W.heap.size+1+1+1))).alloc zG) #[ak N 0 0,ak N 0 0,ak N 0 0,I J 0,ak (S ⟨W.heap.size+1+1,0,N⟩) 4 4,ak N 0 0,ak N 0 0] 72;rw[h]at c;rw[i]at d;rw[j]at f;refine⟨⟨c,f,eO _ _ _ _,⟨R,.inr ⟨W.heap.size+1+1,4,_,R,by omega,d,by omega,by unfold cu;omega,R,R⟩⟩,eO _ _ _ _,λk e=>(by cases e),by omega,by omega⟩,((((aA.new W _ _).grown (g _) (by simp)).grown (b _) (by simp)).grown (a _) (by simp)),ya (ya (ya (aG W ue N) (g _)) (b _)) (a _)⟩
theorem abb(W:av)(w:eH W)(u:rP W)(l:3<=W.heap.size):
  Calls prog 87 #[aB (bs fN)] W λe a=>e=aH (aZ #[aB (bs (iX pT)),.agg #[I J 0,I J 0,aB ⟨#[]⟩]])/\az W a N:=by
 have Z:(bs fN).size=26:=R;go_enter func87,ntmps87
 go_upto_region 5 with fail
 obtain⟨a,d,c⟩:=aeh W;have U:W.heap.size<=W.heap.size:=bz _;unfold ue oA zG DZ at a d c;have z:=ae a;have x:=ae d;have h:=ae c;have B:=ae (a.lW (aW _ N));have q:=ae (w.grown c);have A:=ae (u.below ((Below.refl W.heap.size W).grown c (bz _) (by simp)) l);clear a d c w u;generalize (((W.alloc (.cells #[I J 0,I J 0,aB ⟨#[]⟩] 27)).alloc _).alloc _).alloc _=C at *;generalize W.heap.size+1+1+1=g at *;generalize ak (S ⟨W.heap.size+1+1,0,N⟩) 4 4=m at *;generalize W.heap.size+1=b at *;generalize T:W.heap.size=X at *
 go_wp2;refine xb 4 ?_;rw[rp];go_wp2_with fail;refine(acn X b g m C z.o).mono ?_;rintro e D ⟨rfl,⟨o,d⟩,a⟩;have j:=ae d;have n:=ae (B.o.trans a);clear d a;go_wp2_with fail;refine(KL b g 13 _ _ _ true 14 D j.o.own (by omega) R).mono ?_;rintro e E ⟨rfl,a⟩;obtain⟨f,d⟩:=j.o.rS a R;have k:=ae f;have c:=ae (n.o.trans d);clear f d a j n;go_wp2;rw[rp];go_wp2_with fail;refine(ae4 X b g m o E k.o (q.o.below c.o.1 l) (A.o.below c.o.1 l) l).mono ?_;rintro e G ⟨rfl,⟨p,a⟩,j⟩;have d:=ae a;have f:=ae (c.o.trans j);clear a j k c
 go_wp2_with fail;refine(KL b g 25 _ _ _ true 26 G d.o.own (by omega) R).mono ?_;rintro e H ⟨rfl,a⟩;obtain⟨k,n⟩:=d.o.rS a R;have c:=ae k;have j:=ae (f.o.trans n);clear k n a d f;go_wp2;rw[rp];go_wp2_with fail;refine(acm X b g p m o _ _ H c.o).mono ?_;rintro e K ⟨rfl,a,k⟩;have d:=ae a;have f:=ae (j.o.trans k);clear a k c j;go_wp2_with fail;refine(KL b g 26 _ _ _ false 26 K d.o.own (by omega) R).mono ?_;rintro e k ⟨rfl,a⟩;obtain⟨n,s⟩:=d.o.rS a R;have c:=ae n;have j:=ae (f.o.trans s);clear n s a d f;go_wp2;rw[rp]
 go_wp2_with fail;refine(AV _ b g _ k c.o.own R).mono ?_;rintro e k ⟨rfl,rfl⟩;go_wp2_with fail;refine(abc X b g _ _ p m o k c.o R).mono ?_;rintro e k ⟨rfl,rfl⟩;go_wp2_with fail;refine(aej X b g _ _ p m o k c.o).mono ?_;rintro e t ⟨rfl,f,n⟩;have a:=ae f;have d:=ae (j.o.trans n);clear f n c j;have s:aq t ⟨b,14,N⟩=S (aM (S ⟨g,0,N⟩)):=aA.cell a.o.own 14;go_wp2_with fail;refine(adU g pT t (q.o.below d.o.1 l) a.o.Xl (AO F9) F9).mono ?_;rintro e n ⟨rfl,f⟩;have j:=ae (d.o.trans (a.o.lW f));have c:=ae ((d.o.2 X _ 27 (by decide) (by decide) (by decide) (by decide) (by decide) x.o).grown f (by simp))
 clear f s a d;have V:aq n ⟨X,0,N⟩=S (I J 0):=c.o.cell 0;have Y:aq n ⟨X,1,N⟩=S (I J 0):=c.o.cell 1;have M:aq n ⟨X,2,N⟩=S (aB ⟨#[]⟩):=c.o.cell 2;have O:=c.o.free 0;have P:=c.o.free 1;have Q:=c.o.free 2;go_wp2;have y:Hd (az W n N):=⟨j.o.1.os.trans h.o.os,j.o.1.tape.trans h.o.tape,j.o.1.output.trans h.o.output,fV h.o.size j.o.1.size,λi a c=>(j.o.1.block i (by omega)).trans (h.o.block i a c)⟩
 have F:=vO [(0,I J 0),(1,I J 0),(2,aB ⟨#[]⟩)] c.o;have a:=F.cell 0;have d:=F.cell 1;have f:=F.cell 2;have s:=AK y.o (r:=X) (by omega) [(0,I J 0),(1,I J 0),(2,aB ⟨#[]⟩)];simp only[Gu,sL,vY,dt,dB,dC,bI,bB,bL]at a d f;refine bj (v:=aZ #[aB (bs (iX pT)),.agg #[I J 0,I J 0,aB ⟨#[]⟩]]) ?_ R ⟨R,s⟩;clear F s V Y M O P Q;simp only[pV,sL,vY]at a d f ⊢;generalize aK _ _ _=s at *
 simp[results,results87,go_sem,a,d,f]
theorem abB(w:av)(h:eH w)(g:rP w)(k:3<=w.heap.size):
  Calls prog 41 #[aB (bs fN)] w λe a=>e=aH (aZ #[aB (bs (iX pT)),.agg #[I J 0,I J 0,aB ⟨#[]⟩]])/\az w a N:=by
 have A:=aG w (.cells #[I J 0,I J 0,aB ⟨#[]⟩] 27) N;have d:=ae (abb _ (h.grown A) (g.below (Kk A (bz _) (by simp)) k) (by have:=A.size;omega));have c:=ae (aA.new w #[I J 0,I J 0,aB ⟨#[]⟩] 27);have j:=ae A;clear h g A;go_enter func41,ntmps41;go_wp2_with fail;refine d.o.mono ?_;rintro e V ⟨rfl,b⟩;have a:=ae (c.o.grown b (by simp));have i:=ae (ya j.o b);clear b d c;have o:aq V ⟨w.heap.size,0,N⟩=S (I J 0):=a.o.cell 0;have p:aq V ⟨w.heap.size,1,N⟩=S (I J 0):=a.o.cell 1;have q:aq V ⟨w.heap.size,2,N⟩=S (aB ⟨#[]⟩):=a.o.cell 2
 have l:=a.o.free 0;have m:=a.o.free 1;have n:=a.o.free 2;go_wp2;have F:=vO [(0,I J 0),(1,I J 0),(2,aB ⟨#[]⟩)] a.o;have b:=F.cell 0;have c:=F.cell 1;have d:=F.cell 2;have f:=AK i.o (r:=w.heap.size) (bz _) [(0,I J 0),(1,I J 0),(2,aB ⟨#[]⟩)];simp only[Gu,sL,vY,dt,dB,dC,bI,bB,bL]at b c d;refine bj (v:=aZ #[aB (bs (iX pT)),.agg #[I J 0,I J 0,aB ⟨#[]⟩]]) ?_ R ⟨R,f⟩;clear F f o p q l m n
 simp only[pV,sL,vY]at b c d ⊢;generalize aK _ _ _=f at *;simp[results,results41,go_sem,b,c,d]
theorem afa(X:M)(w:av)(s:aq w ⟨X,0,N⟩=S (aB (bs fN)))(k:eH w)(j:rP w)(o:3<=w.heap.size):
  Calls prog 16 #[ak (S ⟨X,0,N⟩) 1 1] w λe b=>(∃a cap,e=aH (aZ #[ak a 1 cap,aJ T])/\sE b a [iX pT])/\az w b N:=by
 obtain⟨r,p,d,f,g⟩:=fG Tryz.Hi;have a:=ae (abB w k j o);clear k j;go_enter func16,ntmps16;go_wp2;refine xb 2 ?_;rw[rp];go_wp2_with fail;refine a.o.mono ?_;rintro e V ⟨rfl,b⟩;have A:=aG V (.cells #[I J 0,I J 0,aB ⟨#[]⟩] 27) N;have h:=ae (ya b A);have y:(V.alloc (.cells #[I J 0,I J 0,aB ⟨#[]⟩] 27)).cell? ⟨V.heap.size,0,N⟩=S (I J 0):=(aA.new V #[I J 0,I J 0,aB ⟨#[]⟩] 27).cell 0;clear b A a
 go_upto_region 8 with fail
 generalize V.alloc (.cells #[I J 0,I J 0,aB ⟨#[]⟩] 27)=i at *;have q:=h.o.size
 go_upto_region 4 with (at_builtin;refine wpList_append_own_at _ R _ _ 22 rfl w.heap.size 9 r (aB ⟨#[]⟩) 1 16 underlying22 p d f g R (by decide) (ak N 0 0) 0 [] rfl (eO _ _ _ _) ⟨i.heap.size,0,N⟩ 1 1 [aB (bs (iX pT))] rfl rfl (vQ _ _ _) (by intro u a;simp at a;rcases a with rfl;rfl) (by unfold cu;omega) (by omega) (by simp;omega) ?_;intro v x a b _ c;have l:=ae (ya (ya h.o (aG i _ N)) b);obtain⟨t,n,rfl⟩:=yi a;have m:=ae a;clear a b c)
 go_wp2;rw[rp];go_wp2;go_ret2;exact⟨⟨_,_,R,acg (B:=w.heap.size) (fs:=[iX pT]) m.o⟩,l.o⟩
theorem aev:(qE (gh [(F,[pT])]) 4096 65536 131072).2.e=0/\(qE (gh [(F,[pT])]) 4096 65536 131072).1.isEmpty=F:=by decide +kernel
theorem acZ(w:av)(l:eH w)(v:rP w)(u:3<=w.heap.size):
  Calls prog 6 #[] w λe a=>e=aH (aJ T)/\az w a N:=by
 have a:=ae (aG w (.cells #[aB (bs fN)] 9) N);have c:=ae (afa w.heap.size _ ((aA.new w #[aB (bs fN)] 9).cell 0) (l.grown a.o) (v.below (Kk a.o (bz _) (by simp)) u) (by have:=a.o.size;omega));have B:=ae l;have C:=ae afh;have o:=ae aev;have n:=ae (show Bl [iX pT] [(F,[pT])]from ⟨acQ F9,trivial⟩);have k:=R3 F9;clear l v u;go_enter func6,ntmps6;go_wp2_with fail;refine c.o.mono ?_;rintro e G ⟨⟨E,h,rfl,b⟩,g⟩;have i:=ae b;have d:=ae (ya a.o g);clear b g c a;go_wp2_with fail;refine(C.o _).mono ?_;rintro e b ⟨rfl,c⟩
 have g:=ae (ya (ya d.o c) (aG b (.cells #[I J 4096,I J 65536,I J 131072] 31) N));have p:=ae (i.o.kept (ya c (aG b (.cells #[I J 4096,I J 65536,I J 131072] 31) N)));have a:=aA.new b #[I J 4096,I J 65536,I J 131072] 31;have q:=a.cell 0;have r:=a.cell 1;have s:=a.cell 2;simp only[bI,bB,bL]at q r s;clear c d i a
 go_upto_region 5 with fail
 generalize b.alloc (.cells #[I J 4096,I J 65536,I J 131072] 31)=D at *;generalize b.heap.size=X at *;go_wp2_with fail;refine(Sq 4096 65536 131072 E h [iX pT] D p.o (λf a=>by simp at a;subst a;omega) (B.o.grown g.o) (by simp)).mono ?_;rintro e c ⟨x,t⟩;obtain rfl:=aco x adE (by simp) (by simp) n.o;obtain⟨y,d⟩:=o.o;generalize qE (gh [(F,[pT])]) 4096 65536 131072=a at *;obtain⟨z,O,i,j⟩:=a;simp only at y d;subst y;have A:=ae (ya (ya g.o t) (aG c (.cells #[I J 0,I J i,aB (bs j)] 27) N));have m:=aA.new c #[I J 0,I J i,aB (bs j)] 27
 have H:(c.alloc (.cells #[I J 0,I J i,aB (bs j)] 27)).cell? ⟨c.heap.size,0,N⟩=S (I J 0):=m.cell 0;have P:¬(bs z).toList=[]:=by
  rw[ik];rintro rfl
  cases d
 have K:(bs z).toList.isEmpty=F:=by rw[ik];exact d
 clear x t g p q r s m d n o k;unfold bY;dsimp only;go_wp2;go_ret;exact⟨R,A.o⟩
theorem ael{e:Ending}{g:av}(h:SP fs e g)(n:1<=ah fs/\(ah fs)<=8)(j:∀l∈fs,fq l\/jq l (gz l)):∃b d cp,e=aH (aZ #[ak b (ah d) cp,bY eM])/\oq g b d (gh (fs.map lB)):=by
 rcases h with ⟨f,-,-,m⟩|⟨-,-,-,h⟩
 ·rcases m with ⟨c,-⟩|⟨-,-,i,k,-,a,-⟩
  ·omega
  ·exact(R8 (Lp (j _ (bN k))) a).elim
 ·exact h
theorem Ke(bt aj bd:Z)(af:aR aY)(cf:M)(fs:L (L aL))(ai:aR aY)(ci:M)(ins:L Z)(r:Z)(w:av)(O:sE w af fs)(hsz:∀f∈fs,ah f<=281474976710656)(hn:ah fs<=281474976710656)(hii:yq w ai ins)(hf:-9223372036854775808<=r/\r<=9223372036854775807)(ht:eH w)(hN:rP w)(hB:3<=w.heap.size):
  Calls prog 3 #[ak af (ah fs) cf,I J bt,I J aj,I J bd,ak ai (ah ins) ci,I J r] w λe C=>e=aH (aJ T)/\az w C N:=by
 have a:=ae (ae0 af cf fs w O hsz hn);have HI:=ae O;have HT:=ae ht;have HN:=ae hN;have PX:=ae hii;clear O hsz hn ht hN hii;go_enter func3,ntmps3;go_wp2_with fail;refine a.o.mono ?_;rintro e V ⟨⟨b,rfl,k⟩,rfl⟩;have m:=ae k;clear k a
 cases b
 ·go_wp2;go_ret;exact⟨R,aW _ _⟩
 by_cases h16:16<ah ins
 ·have d:decide (16<(ah ins:Z))=T:=by simp;omega
  go_wp2;go_ret;exact⟨R,aW _ _⟩
 have d:decide (16<(ah ins:Z))=F:=by simp;omega
 obtain⟨n1,a⟩:=m.o R;have N2:=ae a;clear a m;go_wp2_with fail;refine(Sq bt aj bd af cf fs _ HI.o N2.o HT.o n1).mono ?_;rintro e V1 ⟨a,o⟩;obtain⟨s,f,rfl⟩:=Rs a;have v:=ae a;have m:=aG V1 (.cells #[I J f.e,I J f.at_,aB (bs f.name)] 27) N;have k:=ae (ya o m);have E:(V1.alloc (.cells #[I J f.e,I J f.at_,aB (bs f.name)] 27)).cell? ⟨V1.heap.size,0,N⟩=S (I J f.e):=(aA.new V1 #[I J f.e,I J f.at_,aB (bs f.name)] 27).cell 0;clear a o m;unfold bY
 go_upto_region 5 with fail
 generalize V1.alloc (.cells #[I J f.e,I J f.at_,aB (bs f.name)] 27)=W1 at *;generalize V1.heap.size=X at *;by_cases o:f.e=0
 case neg=>
  have d1:(f.e==0)=F:=by simpa using o
  have d2:(f.e != 0)=T:=by simpa using o
  obtain rfl:=agw v.o o;clear o;go_wp2_with fail;refine(acZ W1 (HT.o.grown k.o) (HN.o.below (Kk k.o (bz _) (by simp)) hB) (by have:=k.o.size;omega)).mono ?_;rintro e V2 ⟨rfl,a⟩;have m:=ae (ya k.o a);have q:((bs []).toList==([]:L aL))=T:=by rw[ik];rfl
  clear a k;go_wp2;go_ret;exact⟨R,m.o⟩
 have d1:(f.e==0)=T:=by simpa using o
 have d2:(f.e != 0)=F:=by simpa using o
 obtain⟨u,a,ms0,ms,B,D,C,q,t,m⟩:=ae6 v.o o;have Ym:=ae t;have Ah:=ae m;have Hy:=ae B;have A:=ae D;have VX:=ae C;have y:=ae a;clear v o a B D C t m;go_wp2_with fail;refine(ada (bs s) W1 (by rw[nK];exact q)).mono ?_;rintro e V2 ⟨Q,a⟩;unfold TO at Q;rw[ou]at Q;rcases Q with ⟨-,x,rfl,g,B,o⟩|⟨hno,-⟩
 case inr=>exact(hno A.o).elim
 rw[VX.o]at o;have m:=ae (ya k.o a);have t:=ae B;have v:=ae o;clear a B o k E d1 d2 A q;go_wp2_with fail;refine(acK af cf fs V2 (HI.o.kept m.o) N2.o n1).mono ?_;rintro e ke ⟨o,q⟩;obtain⟨ap,gl,cp,rfl,k⟩:=ael o u y.o;generalize gh (fs.map lB)=os at *;have a:=aG ke (.cells #[I J 0,I J 0,aB (bs [])] 27) N;have G3:=ae (ya (ya m.o q) a);have A:=ae (k.kept a);have Uk:=ae (t.o.grown (ya q a) (by simp));have VZ:=ae (v.o.kept (ya q a));clear o q k a m t v y u;unfold bY eM;dsimp only
 go_upto_region 12 with fail
 generalize ke.alloc (.cells #[I J 0,I J 0,aB (bs [])] 27)=W3 at *;generalize ke.heap.size=Y at *;go_wp2_with fail;refine(abt ap cp gl os ai ci ins W3 A.o (PX.o.kept (λ_ _ e=>yd e G3.o))).mono ?_;rintro e gw ⟨P,ZJ,ho,hi,rfl,a⟩;subst ho hi;have S4:=ae a;have G4:=ae (ya G3.o a.gr);have aiT:=G3.o.size;clear a A;go_wp2_with fail;refine(adf r gw hf.1 hf.2).mono ?_;rintro e fp ⟨⟨n,hn,rfl⟩,rfl⟩;go_wp2;have yY:=ae (Hy.o.means P.ins n);have hA:=ae (λp m a h k=>Hy.o.Wn p m a h k)
 go_loopw [23] (λi wr=>∃(j:M) (fO:aC),j<=n/\i=I J j/\bE W3 P fO (dM P.os P.ins j (gY P.os)) wr) (λi _=>n-(intOf i).toNat)
 case atStart=>exact⟨0,ZJ,bG _,R,S4.o⟩
 case round=>
  clear S4;obtain⟨j,fO,hj,rfl,a⟩:=hrel;have G:=ae a;have q:=a.cells 10;rw[show (iI P fO (dM P.os P.ins j (gY P.os)))[10]?=S (I J (dM P.os P.ins j (gY P.os)).aU)from R]at q;clear a;by_cases c:j<n/\(dM P.os P.ins j (gY P.os)).aU=0
  ·obtain⟨st,a⟩:=Hy.o.YO P.ins j c.2;have m:=ae (adg W3 P fO _ wr G.o a.gd c.2 (by omega) hA.o);have k:=ae (show dM P.os P.ins (j+1) (gY P.os)=pP P.os P.ins (dM P.os P.ins j (gY P.os)) by rw[Jp,aD c.2]);have d1:decide ((j:Z)<(n:Z))=T:=by simp;omega
   have d2:((dM P.os P.ins j (gY P.os)).aU==0)=T:=by simpa using c.2
   have u:=c.1;clear c a;go_wp2_with (go_at_call 11;refine m.o.mono ?_;rintro e U ⟨rfl,⟨a,t⟩,-⟩)
   have o:=ae t;rw[<- k.o]at o
   go_roundw
   case rel=>exact⟨j+1,a,by omega,by go_num,o.o⟩
   case measure=>simp[intOf];omega
  ·have a:=ae (show dM P.os P.ins n (gY P.os)=dM P.os P.ins j (gY P.os) by
    by_cases z:j=n
    ·rw[z]
    ·exact Yf _ _ _ _ (λe=>c ⟨by omega,e⟩) n hj)
   have cc:(¬j<n/\decide ((j:Z)<(n:Z))=F)\/(j<n/\decide ((j:Z)<(n:Z))=T/\((dM P.os P.ins n (gY P.os)).aU==0)=F):=by
    by_cases z:j<n
    ·exact .inr ⟨z,by simp;omega,by rw[a.o];simpa using λe=>c ⟨z,e⟩⟩
    ·exact .inl ⟨z,by simp;omega⟩
   rw[<- a.o]at G q;clear c a hA;generalize dM P.os P.ins n (gY P.os)=k at *;have E3:(3*(n:Z)+3).toNat=3*n+3:=by omega
   have cR:=ae (aaW x g (bS P.os ms bt aj bd) ai ci P.ins (3*(n:Z)+3) wr ((Uk.o.grown G.o.gr (by simp)).cell 0) (VZ.o.kept G.o.gr) Ym.o (Lw Ah.o.D) ⟨Lw Ah.o.T,Lw Ah.o.F⟩ (PX.o.kept (λ_ _ e=>yd e (ya G3.o G.o.gr))) (HT.o.grown (ya G3.o G.o.gr)));rcases cc with ⟨z,d1⟩|⟨z,d1,d2⟩
   all_goals
    go_wp2_with fail;refine cR.o.mono ?_;rintro e ja ⟨hrt,u⟩;rcases hrt with ⟨h,-⟩|⟨-,h,-⟩|⟨-,-,-,aji,rfl,m⟩
    case inl=>omega
    case inr.inl=>omega
    rw[E3]at m ⊢;have NC:=yY.o;generalize gM (bS P.os ms bt aj bd) P.ins (3*n+3)=a at *;obtain⟨r1,r2,r3,r4,r5,r6,r7,r8,Hl⟩:=a;simp only at m NC ⊢;obtain⟨D,E,rfl⟩:=yi m;have t:=aG ja (.cells #[I J r5,I J r6,ak D (ah r7) E,I J r8,I J Hl] 49) N;have o:=ae (G.o.grown (ya u t));have Bg:=ae (lZ m t);have iu:=ae (aA.new ja #[I J r5,I J r6,ak D (ah r7) E,I J r8,I J Hl] 49);have uv:=ae (ya G3.o o.o.gr);clear m u t G cR q yY
    go_upto_region 19 with fail
    generalize ja.alloc (.cells #[I J r5,I J r6,ak D (ah r7) E,I J r8,I J Hl] 49)=H at *;generalize ja.heap.size=m at *;obtain⟨eR,cv,yj⟩:=yi o.o.o;subst yj;have q:aq H ⟨P.b,10,N⟩=S (I J k.aU):=o.o.cells 10;have K:aq H ⟨P.b,11,N⟩=S (I J k.ret):=o.o.cells 11;have y:aq H ⟨P.b,12,N⟩=S (ak eR (ah k.o) cv):=o.o.cells 12;have A:aq H ⟨P.b,13,N⟩=S (I J k.read):=o.o.cells 13;have OS:=ae o.o.o;clear o z d1;obtain⟨y0,y1,y2,y3,y4⟩:=dS iu.o;have CA:=ae (kF Bg.o);have Hz:=ae (show D=N->E=0 by
     intro e;rcases Bg.o.2 with ⟨t,B⟩|⟨v,o,u,t,-⟩
     ·simp at t;exact t.2.2
     ·subst e;simp at t)
    rcases NC with ⟨o,⟨l,hl⟩,BD⟩|⟨o,ho,hen,BD,u⟩
    ·subst hl;have qI:=ae (λW (t:az H W N)=>abr eR D cv E k.o l W (yq.dh (lZ OS.o t)) (yq.dh (lZ Bg.o t)) (by have:=CA.o;unfold cu at this;omega) CA.o.1 CA.o.2 Hz.o);have d5:decide ((k.read:Z)<=(Hl:Z))=T:=by simp;omega
     have v:=ae (aW H N);have DD:(k.aU==0)=T\/((k.aU==0)=F/\(k.aU == -1)=T):=by
      rcases o with o|o
      ·exact .inl (by simpa using o)
      ·exact .inr ⟨by simp;omega,by simpa using o⟩
     clear o Bg OS CA Hz;generalize (k.o++l).length=nn at *;generalize (ah k.o)=mm at *;generalize P.b=pb at *;generalize k.aU=se at *;generalize k.read=sr at *;generalize k.ret=st at *;rcases DD with d3|⟨d3,d4⟩
     all_goals
      try (rw[d3]at d2;cases d2)
      all_goals
       go_upto_region 22 with fail
       go_region_held3 (λC=>aq C ⟨pb,12,N⟩=S (ak eR mm cv)/\aq C ⟨m,2,N⟩=S (ak D nn E))
        (go_keep)
        (first|(go_at_call 13;refine(qI.o _ (yf v.o)).mono ?_;rintro e C ⟨rfl,B⟩;have s0:=yd (yd y (yf v.o)) B;have s1:=yd (yd y2 (yf v.o)) B))
       have t:=ae (ya (yf v.o) B);have s2:=yd A t.o;have s3:=yd y4 t.o;have It:=ae (ya uv.o t.o);clear B s0 s1 y y2 qI q K A y0 y1 y3 y4;go_wp2
       go_quiet (fail)
       go_wp2;go_ret;exact⟨R,ye It.o _⟩
    ·subst ho hen BD;have qI:=ae (λW (t:az H W N)=>Ss eR D cv E k.o W (yq.dh (lZ OS.o t)) (yq.dh (lZ Bg.o t)) (by have:=CA.o;unfold cu at this;omega));have v:=ae (aW H N);have d3:(k.aU==0)=F:=by simp;omega
     have d4:(k.aU == -1)=F:=by simp;omega
     have d6:(k.aU==k.aU)=T:=by simp
     have d7:((k.read:Z)==(k.read:Z))=T:=by simp
     have DD:((k.aU==1)=F/\(k.aU != 1)=T)\/((k.aU==1)=T/\(k.aU != 1)=F/\(r6==k.ret)=T):=by
      by_cases t:k.aU=1
      ·exact .inr ⟨by simpa using t,by simpa using t,by simpa using u t⟩
      ·exact .inl ⟨by simpa using t,by simpa using t⟩
     clear o Bg OS CA Hz u;generalize (ah k.o)=mm at *;generalize P.b=pb at *;generalize k.aU=se at *;generalize k.read=sr at *;generalize k.ret=st at *;rcases DD with ⟨d8,uW⟩|⟨d8,uW,Ha⟩
     all_goals
      go_upto_region 24 with fail
      go_region_held3 (λC=>aq C ⟨pb,12,N⟩=S (ak eR mm cv)/\aq C ⟨m,2,N⟩=S (ak D mm E))
       (go_keep)
       (first|(go_at_call 14;refine(qI.o _ (yf v.o)).mono ?_;rintro e C ⟨rfl,B⟩;have s0:=yd (yd y (yf v.o)) B;have s1:=yd (yd y2 (yf v.o)) B))
      have t:=ae (ya (yf v.o) B);have s2:=yd q t.o;have s3:=yd K t.o;have s4:=yd A t.o;have s5:=yd y0 t.o;have s6:=yd y1 t.o;have s7:=yd y4 t.o;have It:=ae (ya uv.o t.o);clear B s0 s1 y y2 qI q K A y0 y1 y3 y4;go_wp2
      go_quiet (fail)
      go_wp2;go_ret;exact⟨R,ye It.o _⟩
end Go.Proofs.YtaldcojpkflgpaaGreatDoor

namespace Go.Proofs.YtaldcojpkflgpaaGreatDoor
open Go.ChangeShapes Go.WideShapes Go.ChangeAt Go.RowKit
variable {W:av}
theorem abJ:ownKnob Tryz.prog.godebug=N:=by kernel_rfl
theorem T6 : Tryz.prog.globalNamed "linker/instr.forms" = S 0 := by kernel_rfl
theorem NV : Tryz.prog.globalNamed "linker/instr.fixed" = S 1 := by kernel_rfl
theorem NU : Tryz.prog.globalNamed "linker/instr.names" = S 2 := by kernel_rfl
theorem ac9:(Tryz.prog.globals[0]?).map (·.type)=S 223:=by kernel_rfl
theorem aea:(Tryz.prog.globals[1]?).map (·.type)=S 223:=by kernel_rfl
theorem aeb:(Tryz.prog.globals[2]?).map (·.type)=S 259:=by kernel_rfl
theorem SQ:Tryz.prog.cellsOf 223=26:=by kernel_rfl
theorem GM:Tryz.prog.cellsOf 3=1:=by kernel_rfl
theorem adH:Tryz.prog.cellsOf 259=26:=by kernel_rfl
theorem Ln:Tryz.prog.cellsOf 9=1:=by kernel_rfl
theorem TS:Tryz.prog.underlying 223=S (.array 26 3):=by kernel_rfl
theorem agF:Tryz.prog.underlying 259=S (.array 26 9):=by kernel_rfl
theorem K6:Tryz.prog.underlying 9=S .string:=by kernel_rfl
theorem mE:Tryz.prog.underlying 3=S (.int .i64):=by kernel_rfl
def LA{H:Type}(zs:L (L aL)):DataW H:=.agg (zs.map λz=>.lit (.string z))
theorem aat{H:Type}{enc:dm×aC->H}{P:Program}{w:av}{base:M}{E:M->bc}{held:bc}{a:M}{t e:dm}{n:M}{f:L aC}{d:L (L aL)}{p:L MemPlace}
  (A:P.underlying t=S (.array n e)) (v:P.underlying e=S .string) (k:P.cellsOf e=1) (l:P.cellsOf t=n)
  (h:DataW.trod enc P w base E held a t f=S (LA d,p)):f=d.map λz=>aB (bs z):=by
 cases a with
 |zero=>simp[DataW.trod]at h
 |succ a=>
  simp only[DataW.trod,A,k,l,Nat.mul_one]at h;split at h
  ·rename_i G;obtain⟨o,q,B⟩:=Xc.1 h;have c:o.map (·.1)=d.map λz=>(DataW.lit (.string z):DataW H):=by
    have:=jz Prod.fst B
    simpa[LA]using this
   have C:ah o=n:=by simpa using Lib.mapM_length q
   have D:ah d=n:=by
    have:=jz ah c
    simp at this;omega
   apply List.ext_getElem?;intro i;by_cases y:i<n
   ·obtain⟨b,s,x⟩:=Lib.mapM_at q i i (by simp[y]);obtain⟨z,u,rfl,_⟩:=DataW.trod_string v x;have r:f[i]?=S (.string z):=by
     have:=jz (·[0]?) u
     simpa[vZ,List.getElem?_drop]using this
    have g:(o.map (·.1))[i]?=S (DataW.lit (.string z.data.toList):DataW H):=by simp[s]
    rw[c]at g;simp only[jS,Xc,DataW.lit.injEq,Lit.string.injEq]at g;obtain⟨K,m,rfl⟩:=g;have j:bs z.data.toList=z:=Lb z;simp[r,m,j]
   ·rw[uL (by omega),uL (by simp;omega)]
  ·cases h
theorem Lu{b o:M}{v:aC}(h:aq W ⟨b,o,N⟩=S v):b<W.heap.size:=by
 by_cases a:b<W.heap.size
 ·exact a
 ·exfalso
  simp only[aq]at h;rw[Array.getElem?_eq_none (by omega)]at h
  cases h
theorem aaK (h : laidMet Tryz.prog [("linker/instr.forms", Lib.tabData .i64 je), ("linker/instr.fixed", Lib.tabData .i64 qU), ("linker/instr.names", LA wR)] W) : eH W ∧ rP W ∧ 3 ≤ W.heap.size := by
 have C : Lib.TabIs Tryz.prog W "linker/instr.forms" .i64 je := Lib.tabIs_of_head T6 ac9 TS mE GM SQ h
 obtain⟨Q,⟨E,X,D,n,p,q,y,B,o,K,⟨G,t2,u,e,O,U,j,l,r,f,⟨H,t3,v,t,P,V,k,m,s,g,_,_⟩,_⟩,_⟩,_⟩:=h;obtain rfl:=xK (NV.symm.trans j);obtain rfl:=xK (aea.symm.trans l);obtain rfl:=xK (NU.symm.trans k);obtain rfl:=xK (aeb.symm.trans m)
 have w : Lib.TabIs Tryz.prog W "linker/instr.fixed" .i64 qU := by
  unfold Lib.TabIs;rw[r,<- Lib.cells_of_tab TS mE GM SQ f]
 have x : W.var? Tryz.prog "linker/instr.names" = S (wR.map fun z => aB (bs z)).toArray := by
  rw[s,<- aat agF K6 Ln adH g]
 have T:eH W:=⟨fun i d=>C.cell T6 i d,fun i d=>w.cell NV i d⟩
 have N:rP W:=by
  intro i d;have A:wR.length=26:=by decide
  have:=World.var?_cell NU x i
  rw[this];simp[List.getD,A,d]
 refine⟨T,N,?_⟩;have a:=Lu (T.1 0 (by decide));have b:=Lu (T.2 0 (by decide));have c:=Lu (N 0 (by decide));omega
theorem KO{a:av}(h:az W a N)(b:MemPlace->Prop):W.keptBut a b:=by
 refine World.keptBut_mono (λ_ f=>f.elim) (?_:W.keptBut a (λ_=>False));refine⟨h.os,h.output,λi c=>?_⟩;rw[h.block i c (by simp)]
 cases d:W.heap[i]? with
 |none=>trivial
 |some o=>cases o<;>simp
def TR(zs:L Z):Obj->Obj
 | .cells _ t frozen=>.cells (zs.map (I .i64)).toArray t frozen
 |o=>o
def ag9(zs:L (L aL)):Obj->Obj
 | .cells _ t frozen=>.cells (zs.map λz=>aB (bs z)).toArray t frozen
 |o=>o
noncomputable def J8(os:Os):av :=
 {World.holding Tryz.prog os ⟨#[],#[],[]⟩with heap:=(((World.holding Tryz.prog os ⟨#[],#[],[]⟩).heap.modify 0 (TR je)).modify 1 (TR qU)).modify 2 (ag9 wR)}
