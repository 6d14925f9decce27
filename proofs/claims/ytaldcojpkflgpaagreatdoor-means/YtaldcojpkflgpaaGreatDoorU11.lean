import Derived.Test.YtaldcojpkflgpaaGreatDoorU02
import Derived.Deep.RegionWith
import Derived.Deep.CutRange
set_option maxHeartbeats 16000000
set_option maxRecDepth 100000
open _root_ renaming Int->Z,rfl->R
open List renaming length->ah,getElem?_toArray->bI,getElem?_cons_succ->bB
open Go.World renaming grownBy->az,grownBy_alloc->aG
open Option renaming none->N,some->S
namespace Go.Proofs.YtaldcojpkflgpaaGreatDoor
open Go.RowKit Go.Proofs.Tryz
def qy(m:cq):Z:=m.text+4*(ah m.T:Z)
def qx(m:cq):Z:=m.bw+4*(ah m.F:Z)
def pG(m:cq):Z:=m.data+4*((ah m.D:Z)+m.fD)
def rq(m:cq):Prop:=(qy m<=1073741824/\qx m<=1073741824/\pG m<=1073741824)/\(¬ku m.text (qy m) m.bw (qx m)/\¬ku m.text (qy m) m.data (pG m)/\¬ku m.bw (qx m) m.data (pG m))
def oP(a b:Z):Array Value:=#[.int .i64 a,.int .i64 b]
theorem rZ(w:World)(a b:Z):aA ((w.alloc (.cells (oP a b) 207)).alloc (.cells (oP a b) 207)).drew w.heap.size (oP a b) 207 /\
  aA ((w.alloc (.cells (oP a b) 207)).alloc (.cells (oP a b) 207)).drew (w.heap.size+1) (oP a b) 207/\az w ((w.alloc (.cells (oP a b) 207)).alloc (.cells (oP a b) 207)).drew N:=by
 have d:=aA.new w (oP a b) 207;have c:=aA.new (w.alloc (.cells (oP a b) 207)) (oP a b) 207;rw[show (w.alloc (.cells (oP a b) 207)).heap.size=w.heap.size+1 from Array.size_push _]at c;exact⟨(d.grown (aG _ _ N) (by simp)).drewN 1,c.drewN 1,yf (ya (aG _ _ N) (aG _ _ N))⟩
theorem QT(g:Nat)(m:cq)(w:World)(h:ij w g m)(b:ni m):
  Calls prog 80 #[.pointer (S ⟨g,0,N⟩)] w λe a=>aX e (rq m)/\az w a N:=by
 obtain⟨Y,ct,af,cf,ad,cd,a,f,i,j⟩:=h.open;have d:=ae a;have hl:=b.lens;have hn:=b.fD;have r1:=b.text;have r2:=b.bw;have r3:=b.data;have c:=ae (λW=>KM m.text (ah m.T) W b.text.1 b.text.2 (by omega) (by omega));have k:=ae (λW=>KM m.bw (ah m.F) W b.bw.1 b.bw.2 (by omega) (by omega));have x:=ae (λW=>KM m.data (ah m.D+m.fD) W b.data.1 b.data.2 (by omega) (by omega));have n:=ae (show rq m↔(qy m<=1073741824/\qx m<=1073741824/\pG m<=1073741824)/\(¬ku m.text (qy m) m.bw (qx m)/\¬ku m.text (qy m) m.data (pG m)/\¬ku m.bw (qx m) m.data (pG m))from Iff.rfl)
 generalize rq m=Q at *;have ww:IntKind.i64.wrap ((ah m.D:Int)+m.fD)=(ah m.D:Int)+m.fD:=IntWalk.i64_in _ ⟨by omega,by omega⟩;clear h b a f i j;have j:=d.o.cell 1;have o:=d.o.cell 4;simp only[bI,bB,bL]at j o;have f:=d.o.lt;have i:g≠w.heap.size:=by omega
 go_enter func80,ntmps80
 go_upto_region 1 with fail
 go_cut [3]from 6 to 16 (λv a=>∃r,v = .pointer (S ⟨r,0,N⟩)/\aA a r (oP m.text (qy m)) 207/\az w a N)
 case first=>
  go_region_with (go_at_call 123;refine(c.o _).mono ?_;rintro e a ⟨rfl,rfl⟩)
  all_goals (go_wp2_with fail;go_meet;first|exact⟨w.heap.size,R,(rZ w m.text (qy m)).1,(rZ w m.text (qy m)).2.2⟩|exact⟨w.heap.size+1,R,(rZ w m.text (qy m)).2.1,(rZ w m.text (qy m)).2.2⟩)
 case rest=>
 obtain⟨ra,rfl,l,a⟩:=hcut;clear j o f i c;generalize wc=j at *;have c:=ae (d.o.grown a (by simp));have t:=ae l;have o:=ae a;clear l a d;have d:=c.o.cell 2;have p:=c.o.cell 5;simp only[bI,bB,bL]at d p;have f:=c.o.lt;have i:g≠j.heap.size:=by omega
 go_upto_region 2 with fail
 go_cut [4]from 17 to 27 (λv a=>∃r,v = .pointer (S ⟨r,0,N⟩)/\aA a r (oP m.bw (qx m)) 207/\az j a N)
 case first=>
  go_region_with (go_at_call 123;refine(k.o _).mono ?_;rintro e a ⟨rfl,rfl⟩)
  all_goals (go_wp2_with fail;go_meet;first|exact⟨j.heap.size,R,(rZ j m.bw (qx m)).1,(rZ j m.bw (qx m)).2.2⟩|exact⟨j.heap.size+1,R,(rZ j m.bw (qx m)).2.1,(rZ j m.bw (qx m)).2.2⟩)
 case rest=>
 obtain⟨rb,rfl,l,a⟩:=hcut;clear d p f i k;generalize wc=k at *;have d:=ae (c.o.grown a (by simp));have s:=ae (t.o.grown a (by simp));have u:=ae l;have p:=ae (ya o.o a);clear l a c t o;have c:=d.o.cell 3;have o:=d.o.cell 6;have t:=d.o.cell 7;simp only[bI,bB,bL]at c o t;have f:=d.o.lt;have i:g≠k.heap.size:=by omega
 go_upto_region 3 with fail
 go_cut [5]from 28 to 43 (λv a=>∃r,v = .pointer (S ⟨r,0,N⟩)/\aA a r (oP m.data (pG m)) 207/\az k a N)
 case first=>
  go_region_with (go_at_call 123;refine(x.o _).mono ?_;rintro e a ⟨rfl,rfl⟩)
  all_goals (go_wp2_with fail;go_meet;first|exact⟨k.heap.size,R,(rZ k m.data (pG m)).1,(rZ k m.data (pG m)).2.2⟩|exact⟨k.heap.size+1,R,(rZ k m.data (pG m)).2.1,(rZ k m.data (pG m)).2.2⟩)
 case rest=>
 obtain⟨rc,rfl,l,a⟩:=hcut;clear c o t f i x;generalize wc=X at *;have D:=ae (s.o.grown a (by simp));have E:=ae (u.o.grown a (by simp));have H:=ae l;have G:=ae (ya p.o a);clear l a d s u p;generalize qy m=f at *;generalize qx m=d at *;generalize pG m=c at *;have l:=D.o.cell 0;have s:=D.o.cell 1;have t:=E.o.cell 0;have u:=E.o.cell 1;have x:=H.o.cell 0;have y:=H.o.cell 1;simp only[oP,bI,bB,bL]at l s t u x y;by_cases i:1073741824<f
 ·have I:decide (1073741824<f)=true:=by simpa using i
  have a:=ae (show ¬Q from λq=>by have:=(n.o.1 q).1.1;omega);clear i;go_wp2;go_ret;exact⟨aX.no a.o,G.o⟩
 ·have I:decide (1073741824<f)=false:=by simpa using i
  by_cases z:1073741824<d
  ·have J:decide (1073741824<d)=true:=by simpa using z
   have a:=ae (show ¬Q from λq=>by have:=(n.o.1 q).1.2.1;omega);clear i z;go_wp2;go_ret;exact⟨aX.no a.o,G.o⟩
  ·have J:decide (1073741824<d)=false:=by simpa using z
   by_cases A:1073741824<c
   ·have M:decide (1073741824<c)=true:=by simpa using A
    have a:=ae (show ¬Q from λq=>by have:=(n.o.1 q).1.2.2;omega);clear i z A;go_wp2;go_ret;exact⟨aX.no a.o,G.o⟩
   ·have M:decide (1073741824<c)=false:=by simpa using A
    have P:=ae (show f<=1073741824/\d<=1073741824/\c<=1073741824 by omega);clear i z A;go_wp2_with fail;refine(Lh m.text f m.bw d X).mono ?_;rintro e U ⟨p,a⟩;have o:=ae (ya G.o a);replace l:=yd l a;replace s:=yd s a;replace t:=yd t a;replace u:=yd u a;replace x:=yd x a;replace y:=yd y a;rcases p.split with ⟨rfl,B⟩|⟨rfl,B⟩<;>clear p a
    ·go_wp2_with fail;refine(Lh m.text f m.data c U).mono ?_;rintro e V ⟨t2,a⟩;have p:=ae (ya o.o a);replace l:=yd l a;replace s:=yd s a;replace t:=yd t a;replace u:=yd u a;replace x:=yd x a;replace y:=yd y a;rcases t2.split with ⟨rfl,C⟩|⟨rfl,C⟩<;>clear t2 a
     ·go_wp2_with fail;refine(Lh m.bw d m.data c V).mono ?_;rintro e Z ⟨t3,O⟩;have K:=ae (ya p.o O);rcases t3.split with ⟨rfl,a⟩|⟨rfl,a⟩<;>clear t3 O
      ·go_wp2;go_ret;exact⟨aX.iV (n.o.2 ⟨P.o,B.o,C.o,a.o⟩),K.o⟩
      ·go_wp2;go_ret;exact⟨aX.no λq=>(n.o.1 q).2.2.2 a.o,K.o⟩
     ·go_wp2;go_ret;exact⟨aX.no λq=>(n.o.1 q).2.2.1 C.o,p.o⟩
    ·go_wp2;go_ret;exact⟨aX.no λq=>(n.o.1 q).2.1 B.o,o.o⟩
