
import Derived.Test.YtpgklkhgfcjceaaGreatDoorU26
set_option maxHeartbeats 16000000
set_option maxRecDepth 100000
namespace Go.Proofs.YtpgklkhgfcjceaaGreatDoor
open Go.RowKit
namespace On
structure Plain (o:Lk.Obj):Prop where
 far:o.far=[]
 data:o.data=[]
 bss:o.bss=0
 align:o.align=[2,2,2,2]
 len:o.text.length<=1000
 kinds:∀ r∈o.aj,r.kind≠4/\r.kind≠6
theorem wH {o:Lk.Obj} (h:Plain o) (m:Ln.Mod) (hm:m.obj=o) (ah off a:Int):Ln.stays m ah off a=true:=by
 have q:(Ln.aL ah off 0 o.aj).2.kind≠4/\(Ln.aL ah off 0 o.aj).2.kind≠6:=by
  rcases O8 ah off o.aj 0 with e | ⟨i,hi,e⟩
  ·rw [e]; exact ⟨by decide,by decide⟩
  ·rw [e]; exact h.kinds _ (iC hi)
 unfold Ln.stays;rw [hm,if_neg q.2,if_neg q.1]
structure Laid (o:Lk.Obj) (bt bf bd:Int) (A:Ln.Mod):Prop where
 obj:A.obj=o
 means:A.means=o.syms.map (Ln.meaning [o] 0)
 text:∀ n,n<=o.text.length->A.text.getD n 0=bt+4 * (n:Int)
 far:A.far.getD 0 0=bf
 data:A.data=bd
theorem zJ {o:Lk.Obj} (h:Plain o) (bt bf bd:Int) (h1:0<=bt/\bt<=1073741824/\bt % 4=0) (h2:0<=bf/\bf<=1073741824/\bf % 4=0) (h3:0<=bd/\bd<=1073741824/\bd % 4=0) (a:Ln.Mod) (ha:a.obj=o) (hm:a.means=o.syms.map (Ln.meaning [o] 0)) :
  ∃ A,Ln.lay bt bf bd [a]=[A]/\Laid o bt bf bd A:=by
 have b:∀ n,1<=n/\n<=4->Ln.aG a.obj n=4:=fun n hn=>Ca.pQ (by rw [ha]; exact h.align) n hn
 have w1:yw a.obj 1=o.text:=by rw [ha]; rfl
 have w2:yw a.obj 2=[]:=by rw [ha]; exact h.far
 have q:=Ln.Bg a 1 (fun _=>true) bt o.text 0 (fun n _ x=>wH h a ha 1 _ x);have z:bt+4 * (Ln.cn (fun _=>true) 0:Int)=bt:=by show bt+4 * ((0:Nat):Int)=bt; omega
 rw [z] at q;have r1:Ln.rup bt 4=bt:=Ln.oF bt h1.1 (by omega) h1.2.2;have r2:Ln.rup bf 4=bf:=Ln.oF bf h2.1 (by omega) h2.2.2;have r3:Ln.rup bd 4=bd:=Ln.oF bd h3.1 (by omega) h3.2.2;have pa1:Ln.aN a 1 bt=Ln.aQ a 1 0 o.text bt:=by unfold Ln.aN Ln.begin_; rw [b 1 (by omega),r1]; show Ln.aQ a 1 0 (yw a.obj 1) bt=_; rw [w1]
 have pa2:Ln.aN a 2 bf=[bf]:=by unfold Ln.aN Ln.begin_; rw [b 2 (by omega),r2]; show Ln.aQ a 2 0 (yw a.obj 2) bf=_; rw [w2]; rfl
 refine ⟨_,rfl,⟨ha,hm,fun n hn=>?_,?_,?_⟩⟩
 ·show (Ln.aN a 1 bt).getD n 0=_;rw [pa1,q.1 n hn,Ca.oQ,Nat.zero_add]
 ·show (Ln.aN a 2 bf).getD 0 0=_;rw [pa2];rfl
 ·show Ln.rup bd (Ln.aG a.obj 3)=_;rw [b 3 (by omega),r3]
theorem addr {o:Lk.Obj} {bt bf bd:Int} {A:Ln.Mod} (L:Laid o bt bf bd A) (n:Nat) (hn:n<=o.text.length):Ln.address A 1 (4 * (n:Int))=bt+4 * (n:Int):=by
 show Ln.placeOf A.text (4 * (n:Int))=_;rw [Ln.rz,L.text n hn]
theorem words {o:Lk.Obj} {bt bf bd:Int} {A:Ln.Mod} (L:Laid o bt bf bd A):(Ln.aI [A] A 1 0 o.text).length=o.text.length/\∀ n (hn:n < o.text.length),(Ln.aI [A] A 1 0 o.text)[n]?=some (Ln.linked [A] A 1 (4 * (n:Int)) o.text[n]):=by
 have q:=Ln.vO [A] A 1 (fun _=>true) bt o.text 0 (fun n hn=>by rw [Nat.zero_add,Ca.oQ]; exact addr L n hn);refine ⟨?_,fun n hn=>?_⟩
 ·rw [q.1,Ca.oQ,Ca.oQ,Nat.zero_add,Nat.sub_zero]
 ·have:=q.2 n hn rfl
  rw [Ca.oQ,Ca.oQ,Nat.zero_add,Nat.sub_zero] at this;exact this
theorem AQ {o:Lk.Obj} (h:Plain o) (bt bf bd:Int) (h1:0<=bt/\bt<=1073741824/\bt % 4=0) (h2:0<=bf/\bf<=1073741824/\bf % 4=0) (h3:0<=bd/\bd<=1073741824/\bd % 4=0) (hs:(Ln.named [o] Ln.dG).mod=some 0/\(Ln.named [o] Ln.dG).ah=1/\(Ln.named [o] Ln.dG).off=0) :
  ∃ A,Laid o bt bf bd A/\Ln.dQ [o] bt bf bd=[A]/\Ln.eX [o] bt bf bd=⟨bt,bt,bf,bd,Ln.aI [A] A 1 0 o.text,[],[],0⟩:=by
 obtain ⟨A1,e1,L1⟩:=zJ h bt bf bd h1 h2 h3 (Ln.jT [o] 0 (Ln.bare o)) rfl rfl;have XI:Ln.lay bt bf bd (Ln.dw [o] ([o].map Ln.bare))=[A1]:=e1;have es:Ln.shorten [A1]=[{ A1 with short:=A1.obj.aj.map (Ln.bU [A1] A1) }]:=rfl;obtain ⟨A,e2,L⟩:=zJ h bt bf bd h1 h2 h3 { A1 with short:=A1.obj.aj.map (Ln.bU [A1] A1) } L1.obj L1.means;have em:Ln.dQ [o] bt bf bd=[A]:=by
  unfold Ln.dQ Ln.layout;rw [XI,es,e2]
 refine ⟨A,L,em,?_⟩;have b:∀ n,1<=n/\n<=4->Ln.aG o n=4:=fun n hn=>Ca.pQ h.align n hn
 have r3:Ln.rup bd 4=bd:=Ln.oF bd h3.1 (by omega) h3.2.2;have nn:Ln.noughts bd (Ln.shorten (Ln.lay bt bf bd (Ln.dw [o] ([o].map Ln.bare))))=0:=by
  rw [XI,es];unfold Ln.noughts;have de:Ln.dO [{ A1 with short:=A1.obj.aj.map (Ln.bU [A1] A1) }] bd=bd:=by
   show Ln.rup bd (Ln.aG A1.obj 3)+4 * (A1.obj.data.length:Int)=_;rw [L1.obj,b 3 (by omega),h.data,r3];show bd+4 * ((0:Nat):Int)=bd;omega
  rw [de];have be:Ln.iy [{ A1 with short:=A1.obj.aj.map (Ln.bU [A1] A1) }] bd=bd:=by
   show Ln.rup bd (Ln.aG A1.obj 4)+4 * A1.obj.bss=_;rw [L1.obj,b 4 (by omega),h.bss,r3];omega
  rw [be,Int.sub_self];rfl
 have a0:Ln.address A 1 0=bt:=by have:=addr L 0 (by omega); simpa using this
 have sp:Ln.bW [A] (Ln.named [o] Ln.dG)=bt:=by
  unfold Ln.bW;rw [hs.1];show Ln.address A _ _=_;rw [hs.2.1,hs.2.2,a0]
 have wa1:yw A.obj 1=o.text:=by rw [L.obj]; rfl
 have wa2:yw A.obj 2=[]:=by rw [L.obj]; exact h.far
 have wa3:yw A.obj 3=[]:=by rw [L.obj]; exact h.data
 have g1:Ln.region [A] 1 bt 19 [A] []=Ln.aI [A] A 1 0 o.text:=by
  show Ln.jq [A] A 1 bt 19 []=_;unfold Ln.jq;rw [a0,Rv (by simp),wa1];rfl
 have g2:Ln.region [A] 2 bf 19 [A] []=[]:=by
  have f0:Ln.address A 2 0=bf:=by
   show Ln.placeOf A.far 0=_
   have:=Ln.rz A.far 0
   rw [L.far] at this;exact this
  show Ln.jq [A] A 2 bf 19 []=_;unfold Ln.jq;rw [f0,Rv (by simp),wa2];rfl
 have g3:Ln.region [A] 3 bd 0 [A] []=[]:=by
  have d0:Ln.address A 3 0=bd:=by show A.data+0=_; rw [L.data,Int.add_zero]
  show Ln.jq [A] A 3 bd 0 []=_;unfold Ln.jq;rw [d0,Rv (by simp),wa3];rfl
 unfold Ln.eX Ln.image;rw [em,sp,nn,g1,g2,g3]
theorem Dw {o:Lk.Obj} (h:Plain o) (hv:yx o) (bt bf bd:Int) (h1:Im.Base bt) (h2:Im.Base bf) (h3:Im.Base bd) (h12:bt+4000<=bf) (h23:bf+4000<=bd) (hb:bd<=1000000000) (hp:0 < o.text.length)
  (hs:(Ln.named [o] Ln.dG).mod=some 0/\(Ln.named [o] Ln.dG).ah=1/\(Ln.named [o] Ln.dG).off=0) (hr:(Ln.bM [o]).e=0) (hc:∀ A,Laid o bt bf bd A->Ln.dS [A]=Ln.ok) :
  ∃ A T,Laid o bt bf bd A/\T=Ln.aI [A] A 1 0 o.text/\Ln.gy [o] bt bf bd=(Im.bytes ⟨bt,bt,bf,bd,T,[],[],0⟩,Ln.ok)/\Im.kK (Im.bytes ⟨bt,bt,bf,bd,T,[],[],0⟩)/\Im.fq (Im.bytes ⟨bt,bt,bf,bd,T,[],[],0⟩)=⟨bt,bt,bf,bd,T,[],[],0⟩:=by
 unfold Im.Base at h1 h2 h3;obtain ⟨A,L,em,ei⟩:=AQ h bt bf bd ⟨by omega,by omega,by omega⟩ ⟨by omega,by omega,by omega⟩ ⟨by omega,by omega,by omega⟩ hs;have len:=(words L).1;obtain ⟨T,hT⟩:∃ T,T=Ln.aI [A] A 1 0 o.text:=⟨_,rfl⟩
 rw [<- hT] at ei len;have ol:=h.len;have w32:=(YU (ms:=[A]) (Ln.named [o] Ln.dG) bt bf bd 0 (by
  intro m hm;simp only [List.mem_cons,List.not_mem_nil,or_false] at hm;subst hm;rw [L.obj];exact hv)).1
 have wT:rV T:=by
  have e:(Ln.image [A] (Ln.named [o] Ln.dG) bt bf bd 0).T=T:=by
   have:(Ln.eX [o] bt bf bd).T=T:=by rw [ei]
   rw [<- this];unfold Ln.eX;rw [em];rfl
  rw [e] at w32;exact w32
 have fit:Im.Fit ⟨bt,bt,bf,bd,T,[],[],0⟩:=⟨⟨by show 0<=bt; omega,by show bt < 4294967296; omega⟩,⟨by show 0<=bt; omega,by show bt < 4294967296; omega⟩,⟨by show 0<=bf; omega,by show bf < 4294967296; omega⟩,⟨by show 0<=bd; omega,by show bd < 4294967296; omega⟩,
  by show T.length<=65535; omega,by show 0<=65535; omega,by show 0<=65535; omega,⟨by show (0:Int)<=0; omega,by show (0:Int)<=65535; omega⟩,
  fun x hx=>by have:=wT x hx; omega,fun x hx=>(by cases hx),fun x hx=>(by cases hx)⟩
 obtain ⟨b1,b2,b3,b4⟩:=Im.xI _ fit;have tl:(T.length:Int)<=1000:=by omega
 have ok:Im.nC ⟨bt,bt,bf,bd,T,[],[],0⟩:=by
  unfold Im.nC Im.Base Im.kD Im.In;simp only [List.length_nil];refine ⟨⟨by omega,by omega,by omega⟩,⟨by omega,by omega,by omega⟩,⟨by omega,by omega,by omega⟩,.inl ⟨by omega,by omega,by omega⟩⟩
 have fits:Im.Fits ⟨bt,bt,bf,bd,T,[],[],0⟩:=by
  unfold Im.Fits Im.oq Im.oo Im.om Im.kD;simp only [List.length_nil];refine ⟨⟨by omega,by omega,by omega⟩,⟨by omega,by omega,by omega⟩⟩
 have cs:(Im.code ⟨bt,bt,bf,bd,T,[],[],0⟩ bt).isSome=true:=by
  have p:Im.place bt T.length bt=0:=by
   unfold Im.place;rw [if_pos ⟨by omega,by omega,by omega⟩];omega
  unfold Im.code;show (if 0<=Im.place bt T.length bt then some _ else _).isSome=true;rw [p];rfl
 have pf:Ln.dz ⟨bt,bt,bf,bd,T,[],[],0⟩ [A]=Ln.ok:=by
  unfold Ln.dz;rw [if_neg (by simpa using fits),hc A L,if_neg (by show ¬ (0:Int)≠0; simp),if_pos cs]
 refine ⟨A,T,L,hT,?_,⟨b3,b2,by rw [b1]; exact ok⟩,b1⟩;unfold Ln.gy;rw [if_neg (by rw [hr]; simp),em,ei,pf,if_neg (by show ¬ (0:Int)≠0; simp)]
end On
namespace Op
open At
theorem D9 (a:Nat) (q:List Int) (h:q.length<=1000):On.Plain (kQ a q):=⟨rfl,rfl,rfl,rfl,h,by
 intro r hr;simp only [kQ,List.mem_cons,List.not_mem_nil,or_false] at hr;rcases hr with rfl | rfl | rfl <;> exact ⟨by show (2:Int)≠4; decide,by show (2:Int)≠6; decide⟩⟩
theorem Ea (a:Nat) (q:List Int):(Ln.named [kQ a q] Ln.dG).mod=some 0/\(Ln.named [kQ a q] Ln.dG).ah=1/\(Ln.named [kQ a q] Ln.dG).off=0:=⟨by kernel_rfl,by kernel_rfl,by kernel_rfl⟩
theorem y9 (a:Nat) (q:List Int):(Ln.bM [kQ a q]).e=0:=by kernel_rfl
def r1 (a:Nat):Lk.Rel:=⟨1,4 * ((a:Int)+4),2,1,0⟩
def r2 (a:Nat):Lk.Rel:=⟨1,4 * ((a:Int)+8),2,2,0⟩
def r3 (a:Nat):Lk.Rel:=⟨1,4 * ((a:Int)+12),2,3,0⟩
theorem zS (a:Nat) (q:List Int):(kQ a q).aj=[r1 a,r2 a,r3 a]:=rfl
theorem Ei (a i:Nat):Ln.aL 1 (4 * (i:Int)) 0 [r1 a,r2 a,r3 a]=if i=a+4 then (0,r1 a) else if i=a+8 then (1,r2 a) else if i=a+12 then (2,r3 a) else (0,⟨0,0,0,0,0⟩):=by
 have s1:mX (r1 a)=1:=rfl;have s2:mX (r2 a)=1:=rfl;have s3:mX (r3 a)=1:=rfl;unfold Ln.aL;rw [s1];by_cases c1:i=a+4
 ·rw [if_pos c1,if_pos ⟨rfl,by show 4 * ((a:Int)+4)<=_; omega,by show _ < 4 * ((a:Int)+4)+4 * 1; omega⟩];rfl
 rw [if_neg c1,if_neg (by rintro ⟨-,x,y⟩; have x':4 * ((a:Int)+4)<=4 * (i:Int):=x; have y':4 * (i:Int) < 4 * ((a:Int)+4)+4 * 1:=y; omega)];unfold Ln.aL;rw [s2];by_cases c2:i=a+8
 ·rw [if_pos c2,if_pos ⟨rfl,by show 4 * ((a:Int)+8)<=_; omega,by show _ < 4 * ((a:Int)+8)+4 * 1; omega⟩];rfl
 rw [if_neg c2,if_neg (by rintro ⟨-,x,y⟩; have x':4 * ((a:Int)+8)<=4 * (i:Int):=x; have y':4 * (i:Int) < 4 * ((a:Int)+8)+4 * 1:=y; omega)];unfold Ln.aL;rw [s3];by_cases c3:i=a+12
 ·rw [if_pos c3,if_pos ⟨rfl,by show 4 * ((a:Int)+12)<=_; omega,by show _ < 4 * ((a:Int)+12)+4 * 1; omega⟩];rfl
 rw [if_neg c3,if_neg (by rintro ⟨-,x,y⟩; have x':4 * ((a:Int)+12)<=4 * (i:Int):=x; have y':4 * (i:Int) < 4 * ((a:Int)+12)+4 * 1:=y; omega)];rfl
section
variable {a:Nat} {q:List Int} {bt bf bd:Int} {A:Ln.Mod}
theorem dist (L:On.Laid (kQ a q) bt bf bd A) (hl:a+14<=q.length):Ln.distance [A] A (r1 a)=8/\Ln.distance [A] A (r2 a)=8/\Ln.distance [A] A (r3 a)=8:=by
 have ad:∀ c:Nat,c<=14->Ln.address A 1 (4 * ((a:Int)+c))=bt+4 * ((a:Int)+c):=fun c hc=>by
  have:=On.addr L (a+c) (by show a+c<=q.length; omega)
  rw [show ((a+c:Nat):Int)=(a:Int)+c by omega] at this;exact this
 have t1:Ln.target [A] A (r1 a)=Ln.address A 1 (4 * ((a:Int)+6)):=by
  unfold Ln.target;rw [L.means];rfl
 have t2:Ln.target [A] A (r2 a)=Ln.address A 1 (4 * ((a:Int)+10)):=by
  unfold Ln.target;rw [L.means];rfl
 have t3:Ln.target [A] A (r3 a)=Ln.address A 1 (4 * ((a:Int)+14)):=by
  unfold Ln.target;rw [L.means];rfl
 have a4:Ln.address A (r1 a).ah (r1 a).off=bt+4 * ((a:Int)+4):=ad 4 (by omega);have a8:Ln.address A (r2 a).ah (r2 a).off=bt+4 * ((a:Int)+8):=ad 8 (by omega);have a12:Ln.address A (r3 a).ah (r3 a).off=bt+4 * ((a:Int)+12):=ad 12 (by omega);have a6:Ln.address A 1 (4 * ((a:Int)+6))=bt+4 * ((a:Int)+6):=ad 6 (by omega);have Qj:Ln.address A 1 (4 * ((a:Int)+10))=bt+4 * ((a:Int)+10):=ad 10 (by omega);have a14:Ln.address A 1 (4 * ((a:Int)+14))=bt+4 * ((a:Int)+14):=ad 14 (by omega);unfold Ln.distance;rw [t1,t2,t3,a4,a8,a12,a6,Qj,a14];omega
theorem reach (L:On.Laid (kQ a q) bt bf bd A) (hl:a+14<=q.length):Ln.dS [A]=Ln.ok:=by
 obtain ⟨d1,d2,d3⟩:=dist L hl;have e:Ln.gX [A] A 0 A.obj.aj=none:=by
  rw [L.obj,zS];show (if Ln.fZ 2 (Ln.distance [A] A (r1 a))=true then (if Ln.fZ 2 (Ln.distance [A] A (r2 a))=true then (if Ln.fZ 2 (Ln.distance [A] A (r3 a))=true then none else _) else _) else _)=none;rw [d1,d2,d3];rfl
 show (match Ln.gX [A] A 0 A.obj.aj with | some f=>f | none=>Ln.ok)=Ln.ok;rw [e]
def B1:Int:=(As.enc 7 0 5 6 8:Nat)
def B2:Int:=(As.enc 10 0 5 6 8:Nat)
def B3:Int:=(As.enc 6 0 5 6 8:Nat)
theorem OJ:Ln.bH Pw 8=B1/\Ln.bH FQ 8=B2/\Ln.bH Px 8=B3:=by decide +kernel
theorem A9 (L:On.Laid (kQ a q) bt bf bd A) (hl:a+14<=q.length) (i:Nat) (w:Int):Ln.linked [A] A 1 (4 * (i:Int)) w=if i=a+4\/i=a+8\/i=a+12 then Ln.bH w 8 else w:=by
 obtain ⟨d1,d2,d3⟩:=dist L hl;unfold Ln.linked;rw [L.obj,zS,Ei];by_cases c1:i=a+4
 ·rw [if_pos c1,if_pos (.inl c1)];show Ln.bH w (Ln.distance [A] A (r1 a))=_;rw [d1]
 rw [if_neg c1];by_cases c2:i=a+8
 ·rw [if_pos c2,if_pos (.inr (.inl c2))];show Ln.bH w (Ln.distance [A] A (r2 a))=_;rw [d2]
 rw [if_neg c2];by_cases c3:i=a+12
 ·rw [if_pos c3,if_pos (.inr (.inr c3))];show Ln.bH w (Ln.distance [A] A (r3 a))=_;rw [d3]
 rw [if_neg c3,if_neg (by omega)];rfl
end
def lZ (k n:Nat):List Int:=[wY k,nE,115,jZ,B1,iD,115,jZ,B2,iD,115,jZ,B3,iD,115,(As.enc 13 10 5 0 (-(n:Int)):Nat),115,(As.enc 17 10 6 0 (n:Int):Nat),nE,115,iD,vM,115]
theorem Ej (k n:Nat):∀ j,j < 23->(lZ k n)[j]?=((rest k n)[j]?).map fun w=>if j=4\/j=8\/j=12 then Ln.bH w 8 else w:=by
 obtain ⟨w1,w2,w3⟩:=OJ;intro j hj;rcases (show j=4\/j=8\/j=12\/¬ (j=4\/j=8\/j=12) by omega) with rfl | rfl | rfl | c
 ·show some B1=some (Ln.bH Pw 8);rw [w1]
 ·show some B2=some (Ln.bH FQ 8);rw [w2]
 ·show some B3=some (Ln.bH Px 8);rw [w3]
 ·have e:(lZ k n)[j]?=(rest k n)[j]?:=by
   rcases (show j=0\/j=1\/j=2\/j=3\/j=5\/j=6\/j=7\/j=9\/j=10\/j=11\/j=13\/j=14\/j=15\/j=16\/j=17\/j=18\/j=19\/j=20\/j=21\/j=22 by omega) with rfl | rfl | rfl | rfl | rfl | rfl | rfl | rfl | rfl | rfl | rfl | rfl | rfl | rfl | rfl | rfl | rfl | rfl | rfl | rfl <;> rfl
  rw [e]
  cases (rest k n)[j]? with
  | none=>rfl
  | some w=>show some w=some (if _ then _ else w); rw [if_neg c]
theorem Ie (t:List Int) (k n:Nat) (ht:∀ w∈t,0<=w/\w<=4294967295) (h2:2<=t.length) (h4:t.length<=4) :
  ∃ T:List Int,(Ln.gy [kQ t.length (t ++ rest k n)] 4096 65536 131072=(Im.bytes ⟨4096,4096,65536,131072,T,[],[],0⟩,Ln.ok)/\Im.kK (Im.bytes ⟨4096,4096,65536,131072,T,[],[],0⟩)/\Im.fq (Im.bytes ⟨4096,4096,65536,131072,T,[],[],0⟩)=⟨4096,4096,65536,131072,T,[],[],0⟩)/\T=t ++ lZ k n:=by
 have ql:(t ++ rest k n).length=t.length+23:=by rw [eP,oD]
 obtain ⟨A,T,L,hT,e1,e2,e3⟩:=On.Dw (D9 t.length (t ++ rest k n) (by omega)) (wF t k n ht h2 h4) 4096 65536 131072 (by unfold Im.Base; omega) (by unfold Im.Base; omega) (by unfold Im.Base; omega) (by omega) (by omega) (by omega) (by show 0 < (t ++ rest k n).length; omega) (Ea _ _) (y9 _ _) (fun A L=>reach L (by omega));refine ⟨T,⟨e1,e2,e3⟩,?_⟩;obtain ⟨wl,wg⟩:=On.words L;rw [<- hT] at wl wg;have wl':T.length=t.length+23:=wl.trans ql;apply List.ext_getElem?;intro i;by_cases hi:i < t.length+23
 ·have g:=wg i (by show i < (t ++ rest k n).length; omega);rw [A9 L (by omega)] at g;rw [g];by_cases c:i < t.length
  ·rw [if_neg (by omega),List.getElem?_append_left c,jW c]
   congr 1
   exact List.getElem_append_left c
  ·obtain ⟨j,rfl⟩:∃ j,i=t.length+j:=⟨i - t.length,by omega⟩
   have r:=Ej k n j (by omega);have hj:j < (rest k n).length:=by rw [oD]; omega
   rw [List.getElem?_append_right (by omega),Nat.add_sub_cancel_left,r,jW hj];have e:(kQ t.length (t ++ rest k n)).text[t.length+j]'(by show t.length+j < (t ++ rest k n).length; omega)=(rest k n)[j]:=by
    show (t ++ rest k n)[t.length+j]'(by omega)=_;rw [List.getElem_append_right (by omega)]
    congr 1
    omega
   rw [e];show some _=some _
   congr 1
   show _=if j=4\/j=8\/j=12 then Ln.bH (rest k n)[j] 8 else (rest k n)[j]
   by_cases d:j=4\/j=8\/j=12
   ·rw [if_pos d,if_pos (by omega)]
   ·rw [if_neg d,if_neg (by omega)]
 ·rw [List.getElem?_eq_none (by omega),List.getElem?_eq_none (by rw [eP]; show t.length+23<=i; omega)]
end Op
theorem yqw (x:Int) (h0:0<=x) (h1:x < 4294967296):Mc.wd x=x:=by unfold Mc.wd; omega
theorem Z4:Mc.Says 115 25 0 0 0 0:=⟨by decide,by decide,by decide +kernel,by decide +kernel,by decide +kernel,by decide +kernel,by decide +kernel⟩
namespace Op
open At
def R4 (a b c d:Int):List Int:=[0,0,0,0,0,a,b,0,0,0,c,0,0,0,0,0,0,d,0,0,0,0,0,0,0,0,0,0,0,0,0,0]
theorem tQ {m:Im.eU} {ins:List Int} {s:Mc.St} {w:Int} {op:Nat} {rd au aC n:Int} (hc:Im.code m s.pc=some w) (hw:Mc.Says w op rd au aC n) :
  Mc.step m ins s=(let x:=Mc.doIt m ins op rd au aC n { s with steps:=s.steps+1,next:=Mc.wd (s.pc+4) }; { x with pc:=x.next }):=by
 unfold Mc.step;rw [hc];simp only;rw [hw.op,hw.rd,hw.au,hw.aC,hw.n]
theorem tT {m:Im.eU} {s s':Mc.St} (h:Mc.step m [] s=s') (he:s.fQ=0) (hs:s.steps < 5000) (N:Nat):Mc.steps m [] 5000 (N+1) s=Mc.steps m [] 5000 N s':=by
 show (if s.fQ=0/\s.steps < 5000 then Mc.steps m [] 5000 N (Mc.step m [] s) else s)=_;rw [if_pos ⟨he,hs⟩,h]
theorem Bv {m:Im.eU} {s:Mc.St} (he:s.fQ=1) (N:Nat):Mc.steps m [] 5000 N s=s:=by
 cases N with
 | zero=>rfl
 | succ N =>
  show (if s.fQ=0/\s.steps < 5000 then _ else s)=_;rw [if_neg (by rw [he]; rintro ⟨h,-⟩; cases h)]
section
variable (m:Im.eU) (a b c d pc nx:Int) (o:List Int) (s:Nat)
theorem Gq (n:Int):Mc.doIt m [] ((1:Nat):Int) ((5:Nat):Int) 0 0 n ⟨R4 a b c d,[],pc,nx,0,0,o,s,0⟩=⟨R4 (Mc.wd (n * 4096)) b c d,[],pc,nx,0,0,o,s,0⟩:=rfl
theorem Gr (n:Int):Mc.doIt m [] ((1:Nat):Int) ((6:Nat):Int) 0 0 n ⟨R4 a b c d,[],pc,nx,0,0,o,s,0⟩=⟨R4 a (Mc.wd (n * 4096)) c d,[],pc,nx,0,0,o,s,0⟩:=rfl
theorem Av (n:Int):Mc.doIt m [] ((13:Nat):Int) ((5:Nat):Int) ((0:Nat):Int) 0 n ⟨R4 a b c d,[],pc,nx,0,0,o,s,0⟩=⟨R4 (Mc.wd (0+Mc.wd n)) b c d,[],pc,nx,0,0,o,s,0⟩:=rfl
theorem Aw (n:Int):Mc.doIt m [] ((13:Nat):Int) ((5:Nat):Int) ((5:Nat):Int) 0 n ⟨R4 a b c d,[],pc,nx,0,0,o,s,0⟩=⟨R4 (Mc.wd (a+Mc.wd n)) b c d,[],pc,nx,0,0,o,s,0⟩:=rfl
theorem Ay (n:Int):Mc.doIt m [] ((13:Nat):Int) ((6:Nat):Int) ((0:Nat):Int) 0 n ⟨R4 a b c d,[],pc,nx,0,0,o,s,0⟩=⟨R4 a (Mc.wd (0+Mc.wd n)) c d,[],pc,nx,0,0,o,s,0⟩:=rfl
theorem Az (n:Int):Mc.doIt m [] ((13:Nat):Int) ((6:Nat):Int) ((6:Nat):Int) 0 n ⟨R4 a b c d,[],pc,nx,0,0,o,s,0⟩=⟨R4 a (Mc.wd (b+Mc.wd n)) c d,[],pc,nx,0,0,o,s,0⟩:=rfl
theorem sW (n:Int):Mc.doIt m [] ((13:Nat):Int) ((10:Nat):Int) ((0:Nat):Int) 0 n ⟨R4 a b c d,[],pc,nx,0,0,o,s,0⟩=⟨R4 a b (Mc.wd (0+Mc.wd n)) d,[],pc,nx,0,0,o,s,0⟩:=rfl
theorem sZ (n:Int):Mc.doIt m [] ((13:Nat):Int) ((17:Nat):Int) ((0:Nat):Int) 0 n ⟨R4 a b c d,[],pc,nx,0,0,o,s,0⟩=⟨R4 a b c (Mc.wd (0+Mc.wd n)),[],pc,nx,0,0,o,s,0⟩:=rfl
theorem xJ (n:Int):Mc.doIt m [] ((13:Nat):Int) ((10:Nat):Int) ((5:Nat):Int) 0 n ⟨R4 a b c d,[],pc,nx,0,0,o,s,0⟩=⟨R4 a b (Mc.wd (a+Mc.wd n)) d,[],pc,nx,0,0,o,s,0⟩:=rfl
theorem Gn (n:Int):Mc.doIt m [] ((17:Nat):Int) ((10:Nat):Int) ((6:Nat):Int) 0 n ⟨R4 a b c d,[],pc,nx,0,0,o,s,0⟩=⟨R4 a b (Mc.wd (bits .and .i64 b (Mc.wd n))) d,[],pc,nx,0,0,o,s,0⟩:=rfl
theorem NU (k:Nat) (hk:k < 7):Mc.doIt m [] ((18+k:Nat):Int) 10 5 6 0 ⟨R4 a b c d,[],pc,nx,0,0,o,s,0⟩=⟨R4 a b (Mc.wd (Mc.computed (18+k:Nat) a b)) d,[],pc,nx,0,0,o,s,0⟩:=by
 rcases (show k=0\/k=1\/k=2\/k=3\/k=4\/k=5\/k=6 by omega) with rfl | rfl | rfl | rfl | rfl | rfl | rfl <;> rfl
theorem CY (h:o.length < 16):Mc.doIt m [] ((25:Nat):Int) 0 0 0 0 ⟨R4 a b c 1,[],pc,nx,0,0,o,s,0⟩=⟨R4 a b c 1,[],pc,nx,0,0,o ++ [Mc.sg c],s,0⟩:=by
 show (if 16<=o.length then _ else _)=_;rw [if_neg (by omega)];rfl
theorem J7:Mc.doIt m [] ((7:Nat):Int) 0 5 6 8 ⟨R4 a b c d,[],pc,nx,0,0,o,s,0⟩=⟨R4 a b c d,[],pc,if Mc.sg a < Mc.sg b then Mc.wd (pc+8) else nx,0,0,o,s,0⟩:=by
 show Mc.branch (decide (Mc.sg a < Mc.sg b)) 8 _=_;unfold Mc.branch;by_cases h:Mc.sg a < Mc.sg b
 ·rw [if_pos h,decide_eq_true h]; rfl
 ·rw [if_neg h,decide_eq_false h]; rfl
theorem Gp:Mc.doIt m [] ((10:Nat):Int) 0 5 6 8 ⟨R4 a b c d,[],pc,nx,0,0,o,s,0⟩=⟨R4 a b c d,[],pc,if b<=a then Mc.wd (pc+8) else nx,0,0,o,s,0⟩:=by
 show Mc.branch (decide (b<=a)) 8 _=_;unfold Mc.branch;by_cases h:b<=a
 ·rw [if_pos h,decide_eq_true h]; rfl
 ·rw [if_neg h,decide_eq_false h]; rfl
theorem J8:Mc.doIt m [] ((6:Nat):Int) 0 5 6 8 ⟨R4 a b c d,[],pc,nx,0,0,o,s,0⟩=⟨R4 a b c d,[],pc,if a≠b then Mc.wd (pc+8) else nx,0,0,o,s,0⟩:=by
 show Mc.branch (decide (a≠b)) 8 _=_;unfold Mc.branch;by_cases h:a≠b
 ·rw [if_pos h,decide_eq_true h]; rfl
 ·rw [if_neg h,decide_eq_false h]; rfl
end
theorem wJ (rd:Nat) (n:Int) (h:rd < 32):Mc.Says (As.enc 1 rd 0 0 n) 1 rd 0 0 (n % 1048576):=by
 have e:=Gs rd n h;generalize ((As.enc 1 rd 0 0 n:Nat):Int)=w at *;have w0:0<=w:=by omega
 have w1:w<=4294967295:=by omega
 have o:Mc.jX w=1:=Mc.qB w 1 (by omega) (by omega) ((Dl w w0 w1).2 (by omega)) (fun j hj1 hj2=>by omega);have f:Mc.aO w=1:=by unfold Mc.aO; rw [o]; rfl
 refine ⟨w0,w1,o,?_,?_,?_,?_⟩
 ·rw [f,Wt w 1 w0 w1 (by omega)]; omega
 ·rw [f,ysd 1 w (by omega)]
 ·rw [f,VY 1 w (by omega)]
 ·rw [f,yre];omega
theorem gZ (rd au:Nat) (n:Int) (h:rd < 32) (h1:au < 32) (h2:-2048<=n) (h3:n < 2048):Mc.Says (As.enc 13 rd au 0 n) 13 rd au 0 n:=by
 have e:=ZH 13 rd au n 19 (by decide) (by decide) (by decide) (by omega) h h1;generalize ((As.enc 13 rd au 0 n:Nat):Int)=w at *;have w0:0<=w:=by omega
 have w1:w<=4294967295:=by omega
 have l7:w % 128=19:=by omega
 have f3:w / 4096 % 8=0:=by omega
 have o:Mc.jX w=13:=Mc.qB w 13 (by omega) (by omega) ((Sm w w0 w1).2 (by omega)) (fun j hj1 hj2=>by
  rcases (show j=1\/j=2\/j=3\/j=4\/j=5\/j=6\/j=7\/j=8\/j=9\/j=10\/j=11\/j=12 by omega) with rfl | rfl | rfl | rfl | rfl | rfl | rfl | rfl | rfl | rfl | rfl | rfl
  ·rw [Dl w w0 w1]; omega
  ·rw [GD w w0 w1]; omega
  ·rw [GH w w0 w1]; omega
  ·rw [GI w w0 w1]; omega
  ·rw [GJ w w0 w1]; omega
  ·rw [GL w w0 w1]; omega
  ·rw [GN w w0 w1]; omega
  ·rw [GU w w0 w1]; omega
  ·rw [GV w w0 w1]; omega
  ·rw [Sj w w0 w1]; omega
  ·rw [Sk w w0 w1]; omega
  ·rw [Sl w w0 w1]; omega)
 have f:Mc.aO w=3:=by unfold Mc.aO; rw [o]; rfl
 refine ⟨w0,w1,o,?_,?_,?_,?_⟩
 ·rw [f,Wt w 3 w0 w1 (by omega)]; omega
 ·rw [f,yoJ w 3 w0 w1 (by omega)]; omega
 ·rw [f,VY 3 w (by omega)]
 ·rw [f,Zy];split <;> omega
theorem Bo (rd au:Nat) (n:Int) (h:rd < 32) (h1:au < 32) (h2:-2048<=n) (h3:n < 2048):Mc.Says (As.enc 17 rd au 0 n) 17 rd au 0 n:=by
 have e:=ZH 17 rd au n 28691 (by decide) (by decide) (by decide) (by omega) h h1;generalize ((As.enc 17 rd au 0 n:Nat):Int)=w at *;have w0:0<=w:=by omega
 have w1:w<=4294967295:=by omega
 have l7:w % 128=19:=by omega
 have f3:w / 4096 % 8=7:=by omega
 have o:Mc.jX w=17:=Mc.qB w 17 (by omega) (by omega) ((yqu w w0 w1).2 (by omega)) (fun j hj1 hj2=>by
  rcases (show j=1\/j=2\/j=3\/j=4\/j=5\/j=6\/j=7\/j=8\/j=9\/j=10\/j=11\/j=12\/j=13\/j=14\/j=15\/j=16 by omega) with rfl | rfl | rfl | rfl | rfl | rfl | rfl | rfl | rfl | rfl | rfl | rfl | rfl | rfl | rfl | rfl
  ·rw [Dl w w0 w1]; omega
  ·rw [GD w w0 w1]; omega
  ·rw [GH w w0 w1]; omega
  ·rw [GI w w0 w1]; omega
  ·rw [GJ w w0 w1]; omega
  ·rw [GL w w0 w1]; omega
  ·rw [GN w w0 w1]; omega
  ·rw [GU w w0 w1]; omega
  ·rw [GV w w0 w1]; omega
  ·rw [Sj w w0 w1]; omega
  ·rw [Sk w w0 w1]; omega
  ·rw [Sl w w0 w1]; omega
  ·rw [Sm w w0 w1]; omega
  ·rw [yqr w w0 w1]; omega
  ·rw [yqs w w0 w1]; omega
  ·rw [yqt w w0 w1]; omega)
 have f:Mc.aO w=3:=by unfold Mc.aO; rw [o]; rfl
 refine ⟨w0,w1,o,?_,?_,?_,?_⟩
 ·rw [f,Wt w 3 w0 w1 (by omega)]; omega
 ·rw [f,yoJ w 3 w0 w1 (by omega)]; omega
 ·rw [f,VY 3 w (by omega)]
 ·rw [f,Zy];split <;> omega
theorem Iw:∀ k,k < 7->Mc.jX (wY k)=18+k/\gI (Mc.aO (wY k)) (wY k)=10/\bI (Mc.aO (wY k)) (wY k)=5/\jC (Mc.aO (wY k)) (wY k)=6/\Mc.jm (Mc.aO (wY k)) (wY k)=0:=by decide +kernel
theorem Iq:Mc.Says B1 7 0 5 6 8:=⟨by decide +kernel,by decide +kernel,by decide +kernel,by decide +kernel,by decide +kernel,by decide +kernel,by decide +kernel⟩
theorem Ir:Mc.Says B2 10 0 5 6 8:=⟨by decide +kernel,by decide +kernel,by decide +kernel,by decide +kernel,by decide +kernel,by decide +kernel,by decide +kernel⟩
theorem Iu:Mc.Says B3 6 0 5 6 8:=⟨by decide +kernel,by decide +kernel,by decide +kernel,by decide +kernel,by decide +kernel,by decide +kernel,by decide +kernel⟩
end Op
namespace Op
open At
def Goes (m:Im.eU) (j:Nat) (X Y:Mc.St):Prop:=∀ N,Mc.steps m [] 5000 (N+j) X=Mc.steps m [] 5000 N Y
theorem Goes.trans {m:Im.eU} {i j:Nat} {X Y Z:Mc.St} (h:Goes m i X Y) (k:Goes m j Y Z):Goes m (i+j) X Z:=fun N=>by
 rw [show N+(i+j)=N+j+i by omega,h,k]
section
variable {m:Im.eU} {a b c d pc nx:Int} {o:List Int} {s:Nat}
theorem iK {w:Int} {op:Nat} {rd au aC n a' b' c' d' pc':Int} {o':List Int} (hc:Im.code m pc=some w) (hw:Mc.Says w op rd au aC n) (hd:Mc.doIt m [] op rd au aC n ⟨R4 a b c d,[],pc,Mc.wd (pc+4),0,0,o,s+1,0⟩=⟨R4 a' b' c' d',[],pc,pc',0,0,o',s+1,0⟩) (hs:s < 5000) :
  Goes m 1 ⟨R4 a b c d,[],pc,nx,0,0,o,s,0⟩ ⟨R4 a' b' c' d',[],pc',pc',0,0,o',s+1,0⟩:=by
 intro N;refine tT ?_ rfl hs N;rw [tQ (s:=⟨R4 a b c d,[],pc,nx,0,0,o,s,0⟩) hc hw];have e:Mc.doIt m [] op rd au aC n { (⟨R4 a b c d,[],pc,nx,0,0,o,s,0⟩:Mc.St) with steps:=s+1,next:=Mc.wd (pc+4) }=⟨R4 a' b' c' d',[],pc,pc',0,0,o',s+1,0⟩:=hd;show (let x:=Mc.doIt m [] op rd au aC n { (⟨R4 a b c d,[],pc,nx,0,0,o,s,0⟩:Mc.St) with steps:=s+1,next:=Mc.wd (pc+4) }; { x with pc:=x.next })=_;rw [e]
theorem wd4 (h:0<=pc/\pc<=1000000):Mc.wd (pc+4)=pc+4:=yqw _ (by omega) (by omega)
theorem Ka (v:Int) (hv:-2147483648<=v/\v<=2147483647) (hp:0<=pc/\pc<=900000) (hs:s < 4000) (hc:∀ (i:Nat) (w:Int),(kP 5 v)[i]?=some w->Im.code m (pc+4 * (i:Int))=some w) :
  Goes m (kP 5 v).length ⟨R4 a b c d,[],pc,nx,0,0,o,s,0⟩ ⟨R4 (Mc.wd v) b c d,[],pc+4 * ((kP 5 v).length:Int),pc+4 * ((kP 5 v).length:Int),0,0,o,s+(kP 5 v).length,0⟩:=by
 unfold kP at *;by_cases h:-2048<=v/\v<=2047
 ·rw [if_pos h] at hc ⊢;have c0:=hc 0 _ rfl;rw [show pc+4 * ((0:Nat):Int)=pc by omega] at c0;have g:=iK (s:=s) (nx:=nx) (o:=o) c0 (gZ 5 0 v (by omega) (by omega) h.1 (by omega)) (Av m a b c d pc _ o (s+1) v) (by omega);rw [wd4 (by omega),show Mc.wd (0+Mc.wd v)=Mc.wd v by unfold Mc.wd; omega] at g;exact g
 ·rw [if_neg h] at hc ⊢;have c0:=hc 0 _ rfl;have c1:=hc 1 _ rfl;rw [show pc+4 * ((0:Nat):Int)=pc by omega] at c0;rw [show pc+4 * ((1:Nat):Int)=pc+4 by omega] at c1;have lw:-2048<=As.bP v/\As.bP v < 2048/\∃ z,v=4096 * z+As.bP v:=by
   unfold As.bP;split
   ·exact ⟨by omega,by omega,v / 4096,by omega⟩
   ·exact ⟨by omega,by omega,v / 4096+1,by omega⟩
  obtain ⟨l1,l2,z,hz⟩:=lw;have hg:As.dJ v=z % 1048576:=by
   unfold As.dJ;rw [show (v - As.bP v) / 4096=z by omega]
  rw [hg] at c0;obtain ⟨lo,hlo⟩:∃ lo,As.bP v=lo:=⟨_,rfl⟩
  rw [hlo] at c1 l1 l2 hz;have y:=wJ 5 (z % 1048576) (by omega);rw [show z % 1048576 % 1048576=z % 1048576 by omega] at y;have g1:=iK (s:=s) (nx:=nx) (o:=o) c0 y (Gq m a b c d pc _ o (s+1) (z % 1048576)) (by omega);rw [wd4 (by omega)] at g1;have g2:=iK (s:=s+1) (nx:=pc+4) (o:=o) c1 (gZ 5 5 lo (by omega) (by omega) l1 l2) (Aw m (Mc.wd (z % 1048576 * 4096)) b c d (pc+4) _ o (s+1+1) lo) (by omega);rw [wd4 (by omega),show Mc.wd (Mc.wd (z % 1048576 * 4096)+Mc.wd lo)=Mc.wd v by unfold Mc.wd; omega] at g2;have g:=g1.trans g2;rw [show pc+4+4=pc+4 * ((2:Nat):Int) by omega] at g;exact g
theorem Kc (v:Int) (hv:-2147483648<=v/\v<=2147483647) (hp:0<=pc/\pc<=900000) (hs:s < 4000) (hc:∀ (i:Nat) (w:Int),(kP 6 v)[i]?=some w->Im.code m (pc+4 * (i:Int))=some w) :
  Goes m (kP 6 v).length ⟨R4 a b c d,[],pc,nx,0,0,o,s,0⟩ ⟨R4 a (Mc.wd v) c d,[],pc+4 * ((kP 6 v).length:Int),pc+4 * ((kP 6 v).length:Int),0,0,o,s+(kP 6 v).length,0⟩:=by
 unfold kP at *;by_cases h:-2048<=v/\v<=2047
 ·rw [if_pos h] at hc ⊢;have c0:=hc 0 _ rfl;rw [show pc+4 * ((0:Nat):Int)=pc by omega] at c0;have g:=iK (s:=s) (nx:=nx) (o:=o) c0 (gZ 6 0 v (by omega) (by omega) h.1 (by omega)) (Ay m a b c d pc _ o (s+1) v) (by omega);rw [wd4 (by omega),show Mc.wd (0+Mc.wd v)=Mc.wd v by unfold Mc.wd; omega] at g;exact g
 ·rw [if_neg h] at hc ⊢;have c0:=hc 0 _ rfl;have c1:=hc 1 _ rfl;rw [show pc+4 * ((0:Nat):Int)=pc by omega] at c0;rw [show pc+4 * ((1:Nat):Int)=pc+4 by omega] at c1;have lw:-2048<=As.bP v/\As.bP v < 2048/\∃ z,v=4096 * z+As.bP v:=by
   unfold As.bP;split
   ·exact ⟨by omega,by omega,v / 4096,by omega⟩
   ·exact ⟨by omega,by omega,v / 4096+1,by omega⟩
  obtain ⟨l1,l2,z,hz⟩:=lw;have hg:As.dJ v=z % 1048576:=by
   unfold As.dJ;rw [show (v - As.bP v) / 4096=z by omega]
  rw [hg] at c0;obtain ⟨lo,hlo⟩:∃ lo,As.bP v=lo:=⟨_,rfl⟩
  rw [hlo] at c1 l1 l2 hz;have y:=wJ 6 (z % 1048576) (by omega);rw [show z % 1048576 % 1048576=z % 1048576 by omega] at y;have g1:=iK (s:=s) (nx:=nx) (o:=o) c0 y (Gr m a b c d pc _ o (s+1) (z % 1048576)) (by omega);rw [wd4 (by omega)] at g1;have g2:=iK (s:=s+1) (nx:=pc+4) (o:=o) c1 (gZ 6 6 lo (by omega) (by omega) l1 l2) (Az m a (Mc.wd (z % 1048576 * 4096)) c d (pc+4) _ o (s+1+1) lo) (by omega);rw [wd4 (by omega),show Mc.wd (Mc.wd (z % 1048576 * 4096)+Mc.wd lo)=Mc.wd v by unfold Mc.wd; omega] at g2;have g:=g1.trans g2;rw [show pc+4+4=pc+4 * ((2:Nat):Int) by omega] at g;exact g
end
end Op
namespace Op
open At
theorem uO:Mc.Says nE 13 17 0 0 1/\Mc.Says vM 13 17 0 0 0/\Mc.Says jZ 13 10 0 0 1/\Mc.Says iD 13 10 0 0 0 :=
 ⟨gZ 17 0 1 (by omega) (by omega) (by omega) (by omega),gZ 17 0 0 (by omega) (by omega) (by omega) (by omega),gZ 10 0 1 (by omega) (by omega) (by omega) (by omega),gZ 10 0 0 (by omega) (by omega) (by omega) (by omega)⟩
section
variable {m:Im.eU} {a b c d p nx:Int} {o:List Int} {s:Nat}
theorem Gu (h:Im.code m p=some jZ) (hp:0<=p/\p<=900000) (hs:s < 5000):Goes m 1 ⟨R4 a b c d,[],p,nx,0,0,o,s,0⟩ ⟨R4 a b 1 d,[],p+4,p+4,0,0,o,s+1,0⟩:=by
 have g:=iK (s:=s) (nx:=nx) (o:=o) h uO.2.2.1 (sW m a b c d p _ o (s+1) 1) hs;rw [wd4 (by omega)] at g;exact g
theorem zF (h:Im.code m p=some iD) (hp:0<=p/\p<=900000) (hs:s < 5000):Goes m 1 ⟨R4 a b c d,[],p,nx,0,0,o,s,0⟩ ⟨R4 a b 0 d,[],p+4,p+4,0,0,o,s+1,0⟩:=by
 have g:=iK (s:=s) (nx:=nx) (o:=o) h uO.2.2.2 (sW m a b c d p _ o (s+1) 0) hs;rw [wd4 (by omega)] at g;exact g
theorem zG (h:Im.code m p=some nE) (hp:0<=p/\p<=900000) (hs:s < 5000):Goes m 1 ⟨R4 a b c d,[],p,nx,0,0,o,s,0⟩ ⟨R4 a b c 1,[],p+4,p+4,0,0,o,s+1,0⟩:=by
 have g:=iK (s:=s) (nx:=nx) (o:=o) h uO.1 (sZ m a b c d p _ o (s+1) 1) hs;rw [wd4 (by omega)] at g;exact g
theorem Gv (h:Im.code m p=some vM) (hp:0<=p/\p<=900000) (hs:s < 5000):Goes m 1 ⟨R4 a b c d,[],p,nx,0,0,o,s,0⟩ ⟨R4 a b c 0,[],p+4,p+4,0,0,o,s+1,0⟩:=by
 have g:=iK (s:=s) (nx:=nx) (o:=o) h uO.2.1 (sZ m a b c d p _ o (s+1) 0) hs;rw [wd4 (by omega)] at g;exact g
theorem lV (h:Im.code m p=some 115) (hp:0<=p/\p<=900000) (hs:s < 5000) (ho:o.length < 16):Goes m 1 ⟨R4 a b c 1,[],p,nx,0,0,o,s,0⟩ ⟨R4 a b c 1,[],p+4,p+4,0,0,o ++ [Mc.sg c],s+1,0⟩:=by
 have g:=iK (s:=s) (nx:=nx) (o:=o) h Z4 (CY m a b c p _ o (s+1) ho) hs;rw [wd4 (by omega)] at g;exact g
theorem C9 {w:Int} {op:Nat} (P:Prop) [Decidable P] (hw:Mc.Says w op 0 5 6 8) (hd:∀ (c d pc nx:Int) (o:List Int) (s:Nat),Mc.doIt m [] op 0 5 6 8 ⟨R4 a b c d,[],pc,nx,0,0,o,s,0⟩=⟨R4 a b c d,[],pc,if P then Mc.wd (pc+8) else nx,0,0,o,s,0⟩)
  (c0:Im.code m p=some jZ) (c1:Im.code m (p+4)=some w) (c2:Im.code m (p+8)=some iD) (c3:Im.code m (p+12)=some 115) (hp:0<=p/\p<=800000) (hs:s < 4000) (ho:o.length < 16) :
  ∃ j,j<=4/\Goes m j ⟨R4 a b c 1,[],p,nx,0,0,o,s,0⟩ ⟨R4 a b (if P then 1 else 0) 1,[],p+16,p+16,0,0,o ++ [if P then 1 else 0],s+j,0⟩:=by
 have g0:=Gu (a:=a) (b:=b) (c:=c) (d:=1) (nx:=nx) (o:=o) (s:=s) c0 (by omega) (by omega);have g1:=iK (s:=s+1) (nx:=p+4) (o:=o) (a:=a) (b:=b) (c:=1) (d:=1) c1 hw (hd 1 1 (p+4) _ o (s+1+1)) (by omega);by_cases h:P
 ·rw [if_pos h,show Mc.wd (p+4+8)=p+12 by unfold Mc.wd; omega] at g1;have g2:=lV (a:=a) (b:=b) (c:=1) (nx:=p+12) (o:=o) (s:=s+1+1) c3 (by omega) (by omega) ho;refine ⟨3,by omega,?_⟩;have g:=(g0.trans g1).trans g2;rw [show p+12+4=p+16 by omega] at g;rw [if_pos h];exact g
 ·rw [if_neg h,show Mc.wd (p+4+4)=p+8 by unfold Mc.wd; omega] at g1;have g2:=zF (a:=a) (b:=b) (c:=1) (d:=1) (nx:=p+8) (o:=o) (s:=s+1+1) c2 (by omega) (by omega);rw [show p+8+4=p+12 by omega] at g2;have g3:=lV (a:=a) (b:=b) (c:=0) (nx:=p+12) (o:=o) (s:=s+1+1+1) c3 (by omega) (by omega) ho;refine ⟨4,by omega,?_⟩;have g:=((g0.trans g1).trans g2).trans g3;rw [show p+12+4=p+16 by omega] at g;rw [if_neg h];exact g
end
def outs (X Y:Int) (k n:Nat):List Int:=[Mc.sg (Mc.wd (Mc.computed ((18+k:Nat):Int) X Y)),if Mc.sg X < Mc.sg Y then 1 else 0,if Y<=X then 1 else 0,if X≠Y then 1 else 0,Mc.sg (Mc.wd (X+Mc.wd (-(n:Int)))),Mc.sg (Mc.wd (bits .and .i64 Y (Mc.wd (n:Int))))]
theorem Gw {m:Im.eU} {X Y p nx:Int} {s k n:Nat} (hk:k < 7) (hn:n<=2047) (hp:0<=p/\p<=700000) (hs:s < 3000) (hc:∀ (i:Nat) (w:Int),(lZ k n)[i]?=some w->Im.code m (p+4 * (i:Int))=some w) :
  ∃ j Z,j<=40/\Goes m j ⟨R4 X Y 0 0,[],p,nx,0,0,[],s,0⟩ Z/\Z.fQ=1/\Z.code=0/\Z.o=outs X Y k n:=by
 have cc:∀ (i:Nat) (q w:Int),q=p+4 * (i:Int)->(lZ k n)[i]?=some w->Im.code m q=some w:=fun i q w e h=>by rw [e]; exact hc i w h
 obtain ⟨o1,o2,o3,o4,o5⟩:=Iw k hk;have wi:=fU (18+k) 10 5 6 0;have so:Mc.Says (wY k) (18+k) 10 5 6 0:=⟨wi.1,wi.2,o1,o2,o3,o4,o5⟩
 have g0:=iK (s:=s) (nx:=nx) (o:=[]) (cc 0 p _ (by omega) rfl) so (NU m X Y 0 0 p _ [] (s+1) k hk) (by omega);rw [wd4 (by omega)] at g0;obtain ⟨C1,XO⟩:∃ C1,Mc.wd (Mc.computed ((18+k:Nat):Int) X Y)=C1:=⟨_,rfl⟩
 rw [XO] at g0;have g1:=zG (a:=X) (b:=Y) (c:=C1) (d:=0) (nx:=p+4) (o:=[]) (s:=s+1) (cc 1 (p+4) _ (by omega) rfl) (by omega) (by omega);have g2:=lV (a:=X) (b:=Y) (c:=C1) (nx:=p+4+4) (o:=[]) (s:=s+1+1) (cc 2 (p+4+4) _ (by omega) rfl) (by omega) (by omega) (by simp);have G2:=(g0.trans g1).trans g2;rw [show p+4+4+4=p+12 by omega,List.nil_append] at G2;obtain ⟨j3,l3,g3⟩:=C9 (m:=m) (a:=X) (b:=Y) (c:=C1) (p:=p+12) (nx:=p+12) (o:=[Mc.sg C1]) (s:=s+1+1+1) (Mc.sg X < Mc.sg Y) Iq (fun c d pc nx o s=>J7 m X Y c d pc nx o s) (cc 3 _ _ (by omega) rfl) (cc 4 _ _ (by omega) rfl) (cc 5 _ _ (by omega) rfl) (cc 6 _ _ (by omega) rfl) (by omega) (by omega) (by simp)
 obtain ⟨R1,Ob⟩:∃ R1:Int,(if Mc.sg X < Mc.sg Y then (1:Int) else 0)=R1:=⟨_,rfl⟩
 rw [Ob,show p+12+16=p+28 by omega] at g3;obtain ⟨j4,l4,g4⟩:=C9 (m:=m) (a:=X) (b:=Y) (c:=R1) (p:=p+28) (nx:=p+28) (o:=[Mc.sg C1] ++ [R1]) (s:=s+1+1+1+j3) (Y<=X) Ir (fun c d pc nx o s=>Gp m X Y c d pc nx o s) (cc 7 _ _ (by omega) rfl) (cc 8 _ _ (by omega) rfl) (cc 9 _ _ (by omega) rfl) (cc 10 _ _ (by omega) rfl) (by omega) (by omega) (by simp);obtain ⟨R2,hR2⟩:∃ R2:Int,(if Y<=X then (1:Int) else 0)=R2:=⟨_,rfl⟩
 rw [hR2,show p+28+16=p+44 by omega] at g4;obtain ⟨j5,l5,g5⟩:=C9 (m:=m) (a:=X) (b:=Y) (c:=R2) (p:=p+44) (nx:=p+44) (o:=[Mc.sg C1] ++ [R1] ++ [R2]) (s:=s+1+1+1+j3+j4) (X≠Y) Iu (fun c d pc nx o s=>J8 m X Y c d pc nx o s) (cc 11 _ _ (by omega) rfl) (cc 12 _ _ (by omega) rfl) (cc 13 _ _ (by omega) rfl) (cc 14 _ _ (by omega) rfl) (by omega) (by omega) (by simp);obtain ⟨R3,Qw⟩:∃ R3:Int,(if X≠Y then (1:Int) else 0)=R3:=⟨_,rfl⟩
 rw [Qw,show p+44+16=p+60 by omega] at g5;obtain ⟨s5,hs5⟩:∃ s5,s+1+1+1+j3+j4+j5=s5:=⟨_,rfl⟩
 rw [hs5] at g5;obtain ⟨O5,TT⟩:∃ O5,[Mc.sg C1] ++ [R1] ++ [R2] ++ [R3]=O5:=⟨_,rfl⟩
 have O5l:O5.length=4:=by rw [<- TT]; rfl
 rw [TT] at g5;have g6:=iK (s:=s5) (nx:=p+60) (o:=O5) (a:=X) (b:=Y) (c:=R3) (d:=1) (cc 15 (p+60) _ (by omega) rfl) (gZ 10 5 (-(n:Int)) (by omega) (by omega) (by omega) (by omega)) (xJ m X Y R3 1 (p+60) _ O5 (s5+1) (-(n:Int))) (by omega);rw [wd4 (by omega)] at g6;obtain ⟨C5,XP⟩:∃ C5,Mc.wd (X+Mc.wd (-(n:Int)))=C5:=⟨_,rfl⟩
 rw [XP] at g6;have g7:=lV (a:=X) (b:=Y) (c:=C5) (nx:=p+60+4) (o:=O5) (s:=s5+1) (cc 16 (p+60+4) _ (by omega) rfl) (by omega) (by omega) (by omega);have g8:=iK (s:=s5+1+1) (nx:=p+60+4+4) (o:=O5 ++ [Mc.sg C5]) (a:=X) (b:=Y) (c:=C5) (d:=1) (cc 17 (p+60+4+4) _ (by omega) rfl) (Bo 10 6 (n:Int) (by omega) (by omega) (by omega) (by omega)) (Gn m X Y C5 1 (p+60+4+4) _ (O5 ++ [Mc.sg C5]) (s5+1+1+1) (n:Int)) (by omega);rw [wd4 (by omega)] at g8;obtain ⟨C6,XQ⟩:∃ C6,Mc.wd (bits .and .i64 Y (Mc.wd (n:Int)))=C6:=⟨_,rfl⟩
 rw [XQ] at g8;have g9:=zG (a:=X) (b:=Y) (c:=C6) (d:=1) (nx:=p+60+4+4+4) (o:=O5 ++ [Mc.sg C5]) (s:=s5+1+1+1) (cc 18 (p+60+4+4+4) _ (by omega) rfl) (by omega) (by omega);have g10:=lV (a:=X) (b:=Y) (c:=C6) (nx:=p+60+4+4+4+4) (o:=O5 ++ [Mc.sg C5]) (s:=s5+1+1+1+1) (cc 19 (p+60+4+4+4+4) _ (by omega) rfl) (by omega) (by omega) (by rw [eP,O5l]; show 4+1 < 16; omega);have g11:=zF (a:=X) (b:=Y) (c:=C6) (d:=1) (nx:=p+60+4+4+4+4+4) (o:=O5 ++ [Mc.sg C5] ++ [Mc.sg C6]) (s:=s5+1+1+1+1+1) (cc 20 (p+60+4+4+4+4+4) _ (by omega) rfl) (by omega) (by omega);have g12:=Gv (a:=X) (b:=Y) (c:=0) (d:=1) (nx:=p+60+4+4+4+4+4+4) (o:=O5 ++ [Mc.sg C5] ++ [Mc.sg C6]) (s:=s5+1+1+1+1+1+1) (cc 21 (p+60+4+4+4+4+4+4) _ (by omega) rfl) (by omega) (by omega)
 have e13:Goes m 1 ⟨R4 X Y 0 0,[],p+60+4+4+4+4+4+4+4,p+60+4+4+4+4+4+4+4,0,0,O5 ++ [Mc.sg C5] ++ [Mc.sg C6],s5+1+1+1+1+1+1+1,0⟩ ⟨R4 X Y 0 0,[],Mc.wd (p+60+4+4+4+4+4+4+4+4),Mc.wd (p+60+4+4+4+4+4+4+4+4),1,0,O5 ++ [Mc.sg C5] ++ [Mc.sg C6],s5+1+1+1+1+1+1+1+1,0⟩:=by
  intro N;refine tT ?_ rfl (by show s5+1+1+1+1+1+1+1 < 5000; omega) N;rw [tQ (cc 22 (p+60+4+4+4+4+4+4+4) _ (by omega) rfl) Z4];rfl
 refine ⟨_,_,?_,(((((((((((G2.trans g3).trans g4).trans g5).trans g6).trans g7).trans g8).trans g9).trans g10).trans g11).trans g12).trans e13),rfl,rfl,?_⟩
 ·omega
 ·show O5 ++ [Mc.sg C5] ++ [Mc.sg C6]=_;rw [<- TT];unfold outs;rw [XO,Ob,hR2,Qw,XP,XQ];rfl
end Op
namespace Op
open At
theorem qL (T:List Int) (i:Nat) (w:Int) (h:T[i]?=some w):Im.code ⟨4096,4096,65536,131072,T,[],[],0⟩ (4096+4 * (i:Int))=some w:=by
 have lt:i < T.length:=(List.getElem?_eq_some_iff.1 h).1;have p:Im.place 4096 T.length (4096+4 * (i:Int))=(i:Int):=by
  unfold Im.place;rw [if_pos ⟨by omega,by omega,by omega⟩];omega
 unfold Im.code;show (if 0<=Im.place 4096 T.length (4096+4 * (i:Int)) then some (T.getD (Im.place 4096 T.length (4096+4 * (i:Int))).toNat 0) else _)=_;rw [p,if_pos (by omega),Int.toNat_natCast,lN,h];rfl
theorem Bn (k n:Nat):(lZ k n).length=23:=rfl
theorem AU (vx vy:Int) (k n:Nat) (hx:-2147483648<=vx/\vx<=2147483647) (hy:-2147483648<=vy/\vy<=2147483647) (hk:k < 7) (hn:n<=2047) :
  (Mc.run ⟨4096,4096,65536,131072,two vx vy ++ lZ k n,[],[],0⟩ [] 5000).fQ=1/\(Mc.run ⟨4096,4096,65536,131072,two vx vy ++ lZ k n,[],[],0⟩ [] 5000).code=0/\(Mc.run ⟨4096,4096,65536,131072,two vx vy ++ lZ k n,[],[],0⟩ [] 5000).o=outs (Mc.wd vx) (Mc.wd vy) k n:=by
 have l5:=kZ 5 vx;have l6:=kZ 6 vy;obtain ⟨T,hT⟩:∃ T,two vx vy ++ lZ k n=T:=⟨_,rfl⟩
 have Tl:T.length=(kP 5 vx).length+(kP 6 vy).length+23:=by rw [<- hT]; unfold two; rw [eP,eP,Bn]
 have at5:∀ (i:Nat) (w:Int),(kP 5 vx)[i]?=some w->T[i]?=some w:=fun i w h=>by
  have lt:=(List.getElem?_eq_some_iff.1 h).1;rw [<- hT];unfold two;rw [List.append_assoc,List.getElem?_append_left lt,h]
 have Xt:∀ (i:Nat) (w:Int),(kP 6 vy)[i]?=some w->T[(kP 5 vx).length+i]?=some w:=fun i w h=>by
  have lt:=(List.getElem?_eq_some_iff.1 h).1;rw [<- hT];unfold two;rw [List.append_assoc,List.getElem?_append_right (by omega),Nat.add_sub_cancel_left,List.getElem?_append_left lt,h]
 have atR:∀ (i:Nat) (w:Int),(lZ k n)[i]?=some w->T[(kP 5 vx).length+(kP 6 vy).length+i]?=some w:=fun i w h=>by
  rw [<- hT,List.getElem?_append_right (by unfold two; rw [eP]; omega),show (kP 5 vx).length+(kP 6 vy).length+i - (two vx vy).length=i by unfold two; rw [eP]; omega,h]
 rw [hT];have g5:=Ka (m:=⟨4096,4096,65536,131072,T,[],[],0⟩) (a:=0) (b:=0) (c:=0) (d:=0) (pc:=4096) (nx:=0) (o:=[]) (s:=0) vx hx (by omega) (by omega) (fun i w h=>qL T i w (at5 i w h));obtain ⟨n5,hn5⟩:∃ n5,(kP 5 vx).length=n5:=⟨_,rfl⟩
 obtain ⟨n6,X6⟩:∃ n6,(kP 6 vy).length=n6:=⟨_,rfl⟩
 rw [hn5] at g5 Xt atR l5 Tl;have g6:=Kc (m:=⟨4096,4096,65536,131072,T,[],[],0⟩) (a:=Mc.wd vx) (b:=0) (c:=0) (d:=0) (pc:=4096+4 * (n5:Int)) (nx:=4096+4 * (n5:Int)) (o:=[]) (s:=0+n5) vy hy (by omega) (by omega) (fun i w h=>by
  have:=qL T (n5+i) w (Xt i w h)
  rw [show 4096+4 * ((n5+i:Nat):Int)=4096+4 * (n5:Int)+4 * (i:Int) by omega] at this;exact this)
 rw [X6] at g6 atR l6 Tl;obtain ⟨j,Z,hj,gr,z1,z2,z3⟩:=Gw (m:=⟨4096,4096,65536,131072,T,[],[],0⟩) (X:=Mc.wd vx) (Y:=Mc.wd vy) (p:=4096+4 * (n5:Int)+4 * (n6:Int)) (nx:=4096+4 * (n5:Int)+4 * (n6:Int)) (s:=0+n5+n6) hk hn (by omega) (by omega) (fun i w h=>by
  have:=qL T (n5+n6+i) w (atR i w h)
  rw [show 4096+4 * ((n5+n6+i:Nat):Int)=4096+4 * (n5:Int)+4 * (n6:Int)+4 * (i:Int) by omega] at this;exact this)
 have g:=(g5.trans g6).trans gr;have e:Mc.steps ⟨4096,4096,65536,131072,T,[],[],0⟩ [] 5000 5000 (Mc.start ⟨4096,4096,65536,131072,T,[],[],0⟩)=Z:=by
  have q:=g (5000 - (n5+n6+j));rw [show 5000 - (n5+n6+j)+(n5+n6+j)=5000 by omega,Bv z1] at q;exact q
 unfold Mc.run;simp only;rw [e,if_neg (by rw [z1]; decide)];exact ⟨z1,z2,z3⟩
theorem tV (neg:Bool) (x:Nat) (hx:x<=2147483647\/(neg=true/\x<=2147483648)):-2147483648<=val neg x/\val neg x<=2147483647:=by
 unfold val
 cases neg
 ·rcases hx with h | h
  ·simp; omega
  ·cases h.1
 ·simp; omega
theorem D8 (nx:Bool) (x:Nat) (ny:Bool) (y k n:Nat) (hx:x<=2147483647\/(nx=true/\x<=2147483648)) (hy:y<=2147483647\/(ny=true/\y<=2147483648)) (hk:k < 7) (hn:n<=2047):Pt (text nx x ny y k n):=by
 obtain ⟨h1,h2⟩:=DZ nx x ny y k n hx hy hk hn;have tl:=uT (val nx x) (val ny y);refine ⟨h1,?_⟩;rw [h2];exact wF _ k n (Eu _ _) tl.1 tl.2
theorem KP (nx:Bool) (x:Nat) (ny:Bool) (y k n:Nat) (hx:x<=2147483647\/(nx=true/\x<=2147483648)) (hy:y<=2147483647\/(ny=true/\y<=2147483648)) (hk:k < 7) (hn:n<=2047) :
  Lv (Ln.bQ [(false,[(As.assemble (text nx x ny y k n)).2])]) 4096 65536 131072 [] (outs (Mc.wd (val nx x)) (Mc.wd (val ny y)) k n) 0:=by
 have tl:=uT (val nx x) (val ny y);obtain ⟨T,⟨e1,e2,e3⟩,hT⟩:=Ie (two (val nx x) (val ny y)) k n (Eu _ _) tl.1 tl.2;have tk:Ln.bQ [(false,[(As.assemble (text nx x ny y k n)).2])]=[kQ (two (val nx x) (val ny y)).length (two (val nx x) (val ny y) ++ rest k n)]:=by
  rw [(DZ nx x ny y k n hx hy hk hn).2];rfl
 obtain ⟨r1,r2,r3⟩:=AU (val nx x) (val ny y) k n (tV nx x hx) (tV ny y hy) hk hn;rw [<- hT] at r1 r2 r3;rw [tk];unfold Lv;rw [e1];refine ⟨⟨rfl,rfl,rfl⟩,e2,?_⟩;show (Mc.run (Im.fq (Im.bytes ⟨4096,4096,65536,131072,T,[],[],0⟩)) [] 5000).fQ=1/\(Mc.run (Im.fq (Im.bytes ⟨4096,4096,65536,131072,T,[],[],0⟩)) [] 5000).code=0/\(Mc.run (Im.fq (Im.bytes ⟨4096,4096,65536,131072,T,[],[],0⟩)) [] 5000).o=_;rw [e3];exact ⟨r1,r2,r3⟩
end Op
def pk (c:Int) (n:Nat):Nat:=if c < 0 then (-(c+1) % n).toNat else (c % n).toNat
theorem ysG (c:Int) (n:Nat) (hn:1<=n):pk c n < n:=by
 have a:=Int.emod_lt_of_pos (-(c+1)) (show (0:Int) < (n:Int) by omega);have b:=Int.emod_lt_of_pos c (show (0:Int) < (n:Int) by omega);unfold pk;split <;> omega
theorem yoF (c:Int) (n:Nat) (w:World) (hn:1<=n) (hm:n<=100) (h0:-9223372036854775808<=c) (h1:c<=9223372036854775807) :
  Calls Tryz.prog 12 #[.int .i64 c,.int .i64 n] w fun e w'=>e = .returned (.int .i64 (pk c n))/\w'=w:=by
 have z1:((n:Int) == 0)=false:=by simp; omega
 have z2:(n:Int)≠0:=by omega
 by_cases hc:c < 0
 ·have d:decide (c < 0)=true:=by simpa using hc
  have e:-((c+1).tmod n)=((pk c n:Nat):Int):=by
   have p:=Int.emod_nonneg (-(c+1)) z2;unfold pk;rw [if_pos hc,<- Int.neg_tmod,Int.tmod_eq_emod_of_nonneg (by omega)];omega
  have E:=hid e;clear e;go_enter Tryz.func12,Tryz.ntmps12;go_wp2;go_ret;exact ⟨yF E.o,rfl⟩
 ·have d:decide (c < 0)=false:=by simpa using hc
  have e:c % n=((pk c n:Nat):Int):=by
   have p:=Int.emod_nonneg c z2;unfold pk;rw [if_neg hc];omega
  have E:=hid e;clear e;go_enter Tryz.func12,Tryz.ntmps12;go_wp2;go_ret;exact ⟨yF E.o,rfl⟩
theorem yoc {l:List UInt8} (h:Im.kK l):l.length<=1048576:=by
 have f:l.length=26+4 * (Im.nT l+Im.nF l+Im.nD l):=h.2.1;have n:=Im.KM l;omega
namespace Su
theorem wL (x:Int):-2147483648<=Mc.sg (Mc.wd x)/\Mc.sg (Mc.wd x)<=2147483647:=by
 unfold Mc.sg Mc.wd;split <;> omega
end Su
theorem ylq (n:Int) (w:World) (h0:0<=n) (h1:n < 4294967296):Calls Tryz.prog 21 #[.int .i64 n] w fun e w'=>e = .returned (.int .i64 (Mc.sg n))/\w'=w:=by
 by_cases h:n < 2147483648
 ·have E:=hid (show n=Mc.sg n by unfold Mc.sg; rw [if_pos h]);have d:decide (n < 2147483648)=true:=by simpa using h
  have d2:decide (2147483648<=n)=false:=by simpa using h
  go_enter Tryz.func21,Tryz.ntmps21;go_wp2;go_ret;exact ⟨yF E.o,rfl⟩
 ·have E:=hid (show n - 4294967296=Mc.sg n by unfold Mc.sg; rw [if_neg h]);have d:decide (n < 2147483648)=false:=by simpa using h
  have d2:decide (2147483648<=n)=true:=by simp; omega
  have e1:IntKind.i64.wrap (n - 4294967296)=n - 4294967296:=IntWalk.i64_in _ ⟨by omega,by omega⟩;go_enter Tryz.func21,Tryz.ntmps21;go_wp2;go_ret;exact ⟨yF E.o,rfl⟩
theorem Ro (n:Int) (w:World):Calls Tryz.prog 11 #[.int .i64 n] w fun e w'=>e = .returned (.int .i64 (Mc.sg (Mc.wd n)))/\w'=w:=by
 have E:=Pm n;have r:=Mc.fJ n;have cS:=hid (ylq (Mc.wd n) w r.1 r.2);go_enter Tryz.func11,Tryz.ntmps11;go_wp2_with fail;refine cS.o.mono ?_;rintro e w' ⟨rfl,rfl⟩;go_wp2;go_ret;exact ⟨rfl,rfl⟩
theorem yoh (u v k:Nat):(u % 2 ^ (k+1)) &&& (v % 2 ^ (k+1))=2 ^ k * ((u / 2 ^ k % 2) * (v / 2 ^ k % 2))+((u % 2 ^ k) &&& (v % 2 ^ k)):=by
 have lt:(u % 2 ^ k) &&& (v % 2 ^ k) < 2 ^ k:=Nat.lt_of_le_of_lt Nat.and_le_left (Nat.mod_lt _ (Nat.two_pow_pos k));rw [Nat.two_pow_add_eq_or_of_lt lt];apply Nat.eq_of_testBit_eq;intro i;have bu:u / 2 ^ k % 2=(u.testBit k).toNat:=by rw [Nat.testBit_eq_decide_div_mod_eq]; by_cases h:u / 2 ^ k % 2=1 <;> simp [h]; omega
 have bv:v / 2 ^ k % 2=(v.testBit k).toNat:=by rw [Nat.testBit_eq_decide_div_mod_eq]; by_cases h:v / 2 ^ k % 2=1 <;> simp [h]; omega
 rw [bu,bv];simp only [Nat.testBit_and,Nat.testBit_or,Nat.testBit_mod_two_pow,Nat.testBit_two_pow_mul];by_cases h:i < k
 ·have h1:i < k+1:=by omega
  have h2:¬ k<=i:=by omega
  simp [h,h1,h2]
 ·by_cases e:i=k
  ·subst e
   cases u.testBit i <;> cases v.testBit i <;> simp
  ·have h1:¬ i < k+1:=by omega
   have h2:k<=i:=by omega
   obtain ⟨j,hj⟩:∃ j,i - k=j+1:=⟨i - k - 1,by omega⟩
   rw [hj]
   cases u.testBit k <;> cases v.testBit k <;> simp [h,h1,Nat.testBit_succ]
theorem ylZ (u k:Nat):Int.tmod ((u:Int) / 2 ^ k) 2=((u / 2 ^ k % 2:Nat):Int):=by
 have e:(u:Int) / 2 ^ k=((u / 2 ^ k:Nat):Int):=by
  rw [Int.natCast_ediv];simp
 rw [e,Int.tmod_eq_emod_of_nonneg (Int.natCast_nonneg _)];rfl
theorem ZN (u v:Nat) (w:World) (hu:u < 4294967296) (hv:v < 4294967296) :
  Calls Tryz.prog 16 #[.int .i64 u,.int .i64 v] w fun e w'=>e = .returned (.int .i64 ((u &&& v:Nat):Int))/\w'=w:=by
 go_enter Tryz.func16,Tryz.ntmps16;go_wp2
 go_loop [5,6] (fun n i=>∃ k:Nat,k<=32/\i = .int .i64 k/\n = .int .i64 (((u % 2 ^ k) &&& (v % 2 ^ k):Nat):Int)) (fun _ i=>32 - (intOf i).toNat)
 case atStart=>exact ⟨0,Nat.zero_le _,rfl,by simp [Nat.mod_one]⟩
 case round =>
  obtain ⟨k,hk,rfl,rfl⟩:=hrel;by_cases hlt:k < 32
  ·have g1:(k:Int) < 32:=by omega
   have g2:¬ (k:Int) < 0:=by omega
   have bu:=ylZ u k;have bv:=ylZ v k;have ST:=hid (yoh u v k);have lt:(u % 2 ^ k) &&& (v % 2 ^ k) < 4294967296:=Nat.lt_of_le_of_lt Nat.and_le_left (Nat.lt_of_le_of_lt (Nat.mod_le _ _) hu);have pk2:2 ^ k<=2147483648:=by
    have:=Nat.pow_le_pow_right (show 0 < 2 by omega) (show k<=31 by omega)
    omega
   generalize (u % 2 ^ k) &&& (v % 2 ^ k)=x at *;generalize hxu:u / 2 ^ k % 2=xu at *;generalize hxv:v / 2 ^ k % 2=xv at *;have lu:xu < 2:=by omega
   have lv:xv < 2:=by omega
   obtain ⟨P,hP⟩:∃ P,2 ^ k=P:=⟨_,rfl⟩
   have TU:(2:Int) ^ k=(P:Int):=by rw [<- hP]; simp
   have w1:IntKind.i64.wrap (P:Int)=(P:Int):=IntWalk.i64_in _ ⟨by omega,by omega⟩;have w2:IntKind.i64.wrap ((x:Int)+(P:Int))=(x:Int)+(P:Int):=IntWalk.i64_in _ ⟨by omega,by omega⟩;by_cases cu:xu=1
   ·by_cases cv:xv=1
    ·subst cu cv;have d1:(Int.tmod ((u:Int) / 2 ^ k) 2 == 1)=true:=by rw [bu]; rfl
     have d2:(Int.tmod ((v:Int) / 2 ^ k) 2 == 1)=true:=by rw [bv]; rfl
     have HP:=hid hP;rw [TU] at d1 d2;clear bu bv hxu hxv hP;go_wp2
     go_round
     case rel=>exact ⟨k+1,by omega,by go_num,by rw [ST.o,HP.o]; congr 1; omega⟩
     case measure=>simp [intOf]; omega
    ·have d1:(Int.tmod ((u:Int) / 2 ^ k) 2 == 1)=true:=by rw [bu,cu]; rfl
     have d2:(Int.tmod ((v:Int) / 2 ^ k) 2 == 1)=false:=by rw [bv]; simp; omega
     have z:xv=0:=by omega
     subst cu z;have HP:=hid hP;rw [TU] at d1 d2;clear bu bv hxu hxv hP;go_wp2
     go_round
     case rel=>exact ⟨k+1,by omega,by go_num,by rw [ST.o]; congr 1; omega⟩
     case measure=>simp [intOf]; omega
   ·have d1:(Int.tmod ((u:Int) / 2 ^ k) 2 == 1)=false:=by rw [bu]; simp; omega
    have z:xu=0:=by omega
    subst z;have HP:=hid hP;rw [TU] at d1;clear bu bv hxu hxv hP;go_wp2
    go_round
    case rel=>exact ⟨k+1,by omega,by go_num,by rw [ST.o]; congr 1; omega⟩
    case measure=>simp [intOf]; omega
  ·obtain rfl:k=32:=by omega
   have g3:decide ((32:Int) < 32)=false:=by decide
   have e1:u % 2 ^ 32=u:=Nat.mod_eq_of_lt hu;have e2:v % 2 ^ 32=v:=Nat.mod_eq_of_lt hv;rw [e1,e2];go_wp2;go_ret;exact ⟨rfl,rfl⟩
theorem yrn (a b:Nat):(a ^^^ b) % 2=(a % 2+b % 2) % 2:=by
 have x2:=@Nat.xor_mod_two_eq_one a b;rcases Nat.mod_two_eq_zero_or_one a with h1 | h1 <;> rcases Nat.mod_two_eq_zero_or_one b with h2 | h2 <;> rcases Nat.mod_two_eq_zero_or_one (a ^^^ b) with h3 | h3 <;> simp [h1,h2,h3] at x2 ⊢
theorem ZW (a b:Nat):(a &&& b) % 2=(a % 2) * (b % 2):=by
 have x2:=@Nat.and_mod_two_eq_one a b;rcases Nat.mod_two_eq_zero_or_one a with h1 | h1 <;> rcases Nat.mod_two_eq_zero_or_one b with h2 | h2 <;> rcases Nat.mod_two_eq_zero_or_one (a &&& b) with h3 | h3 <;> simp [h1,h2,h3] at x2 ⊢
theorem ysc (a b:Nat):(a ||| b) % 2+(a % 2) * (b % 2)=a % 2+b % 2:=by
 have x2:=@Nat.or_mod_two_eq_one a b;rcases Nat.mod_two_eq_zero_or_one a with h1 | h1 <;> rcases Nat.mod_two_eq_zero_or_one b with h2 | h2 <;> rcases Nat.mod_two_eq_zero_or_one (a ||| b) with h3 | h3 <;> simp [h1,h2,h3] at x2 ⊢
theorem yrm (a:Nat):∀ b:Nat,(a ^^^ b)+2 * (a &&& b)=a+b:=by
 induction a using Nat.strongRecOn with
 | _ a ih =>
  intro b;by_cases h:a=0
  ·subst h; simp
  ·have q:=ih (a / 2) (by omega) (b / 2);rw [<- @Nat.xor_div_two a b,<- @Nat.and_div_two a b] at q;have x:=yrn a b;have y:=ZW a b;generalize a ^^^ b=X at *;generalize a &&& b=Y at *;rcases Nat.mod_two_eq_zero_or_one a with h1 | h1 <;> rcases Nat.mod_two_eq_zero_or_one b with h2 | h2 <;> rw [h1,h2] at x y <;> omega
theorem ysb (a:Nat):∀ b:Nat,(a ||| b)+(a &&& b)=a+b:=by
 induction a using Nat.strongRecOn with
 | _ a ih =>
  intro b;by_cases h:a=0
  ·subst h; simp
  ·have q:=ih (a / 2) (by omega) (b / 2);rw [<- @Nat.or_div_two a b,<- @Nat.and_div_two a b] at q;have x:=ysc a b;have y:=ZW a b;generalize a ||| b=X at *;generalize a &&& b=Y at *;rcases Nat.mod_two_eq_zero_or_one a with h1 | h1 <;> rcases Nat.mod_two_eq_zero_or_one b with h2 | h2 <;> rw [h1,h2] at x y <;> omega
theorem ylo (a b:Nat) (ha:a < 9223372036854775808) (hb:b < 9223372036854775808):bits .xor .i64 (a:Int) (b:Int)=((a ^^^ b:Nat):Int):=by
 have hx:a ^^^ b < 2 ^ 63:=Nat.xor_lt_two_pow (by omega) (by omega);show IntKind.i64.wrap ((BitVec.ofInt 64 (a:Int) ^^^ BitVec.ofInt 64 (b:Int)).toNat:Int)=_;rw [BitVec.toNat_xor,ofInt_u64 a (by omega),ofInt_u64 b (by omega)];exact IntWalk.i64_in _ ⟨by omega,by omega⟩
namespace Op
def both (u v:Int):Int:=((u.toNat &&& v.toNat:Nat):Int)
def Bf (k:Nat) (a b:Int):Int :=
 if k=0 then Mc.sg (Mc.wd (a+b)) else if k=1 then Mc.sg (Mc.wd (a - b)) else if k=2 then (if a < b then 1 else 0) else if k=3 then (if Mc.wd a < Mc.wd b then 1 else 0)
 else if k=4 then Mc.sg (Mc.wd (Mc.wd a+Mc.wd b - 2 * both (Mc.wd a) (Mc.wd b))) else if k=5 then Mc.sg (Mc.wd (Mc.wd a+Mc.wd b - both (Mc.wd a) (Mc.wd b))) else Mc.sg (Mc.wd (both (Mc.wd a) (Mc.wd b)))
theorem wM (a:Int) (h:-2147483648<=a/\a<=2147483647):Mc.sg (Mc.wd a)=a:=by
 unfold Mc.sg Mc.wd;split <;> omega
theorem pG (a:Int):∃ x:Nat,Mc.wd a=(x:Int)/\x < 4294967296:=⟨(Mc.wd a).toNat,by have:=Mc.fJ a; omega,by have:=Mc.fJ a; omega⟩
theorem ug (X Y:Int):Mc.computed 22 X Y=bits .xor .i64 X Y/\Mc.computed 23 X Y=bits .or .i64 X Y/\Mc.computed 24 X Y=bits .and .i64 X Y:=by
 refine ⟨?_,?_,?_⟩ <;> unfold Mc.computed
 ·rw [if_neg (by decide),if_neg (by decide),if_neg (by decide),if_neg (by decide),if_pos rfl]
 ·rw [if_neg (by decide),if_neg (by decide),if_neg (by decide),if_neg (by decide),if_neg (by decide),if_pos rfl]
 ·rw [if_neg (by decide),if_neg (by decide),if_neg (by decide),if_neg (by decide),if_neg (by decide),if_neg (by decide),if_pos rfl]
theorem uI (a b:Int):Bf 4 a b=Mc.sg (Mc.wd (Mc.wd a+Mc.wd b - 2 * both (Mc.wd a) (Mc.wd b)))/\Bf 5 a b=Mc.sg (Mc.wd (Mc.wd a+Mc.wd b - both (Mc.wd a) (Mc.wd b)))/\Bf 6 a b=Mc.sg (Mc.wd (both (Mc.wd a) (Mc.wd b))):=by
 refine ⟨?_,?_,?_⟩ <;> unfold Bf
 ·rw [if_neg (by decide),if_neg (by decide),if_neg (by decide),if_neg (by decide),if_pos rfl]
 ·rw [if_neg (by decide),if_neg (by decide),if_neg (by decide),if_neg (by decide),if_neg (by decide),if_pos rfl]
 ·rw [if_neg (by decide),if_neg (by decide),if_neg (by decide),if_neg (by decide),if_neg (by decide),if_neg (by decide)]
theorem qy (X Y:Int):Mc.computed 18 X Y=X+Y/\Mc.computed 19 X Y=X - Y/\Mc.computed 20 X Y=(if Mc.sg X < Mc.sg Y then 1 else 0)/\Mc.computed 21 X Y=(if X < Y then 1 else 0):=by
 refine ⟨?_,?_,?_,?_⟩ <;> unfold Mc.computed
 ·rw [if_pos rfl]
 ·rw [if_neg (by decide),if_pos rfl]
 ·rw [if_neg (by decide),if_neg (by decide),if_pos rfl]
 ·rw [if_neg (by decide),if_neg (by decide),if_neg (by decide),if_pos rfl]
theorem nM (a b:Int):Bf 0 a b=Mc.sg (Mc.wd (a+b))/\Bf 1 a b=Mc.sg (Mc.wd (a - b))/\Bf 2 a b=(if a < b then 1 else 0)/\Bf 3 a b=(if Mc.wd a < Mc.wd b then 1 else 0):=by
 refine ⟨?_,?_,?_,?_⟩ <;> unfold Bf
 ·rw [if_pos rfl]
 ·rw [if_neg (by decide),if_pos rfl]
 ·rw [if_neg (by decide),if_neg (by decide),if_pos rfl]
 ·rw [if_neg (by decide),if_neg (by decide),if_neg (by decide),if_pos rfl]
theorem ow:Mc.sg (Mc.wd 1)=1/\Mc.sg (Mc.wd 0)=0:=by decide
theorem first (k:Nat) (hk:k < 7) (a b:Int) (ha:-2147483648<=a/\a<=2147483647) (hb:-2147483648<=b/\b<=2147483647):Mc.sg (Mc.wd (Mc.computed ((18+k:Nat):Int) (Mc.wd a) (Mc.wd b)))=Bf k a b:=by
 have sa:=wM a ha;have sb:=wM b hb;obtain ⟨x,hx,xl⟩:=pG a;obtain ⟨y,hy,yl⟩:=pG b;rcases (show k=0\/k=1\/k=2\/k=3\/k=4\/k=5\/k=6 by omega) with rfl | rfl | rfl | rfl | rfl | rfl | rfl
 ·rw [(nM a b).1,show ((18+0:Nat):Int)=18 from rfl,(qy _ _).1,show Mc.wd (Mc.wd a+Mc.wd b)=Mc.wd (a+b) by unfold Mc.wd; omega]
 ·rw [(nM a b).2.1,show ((18+1:Nat):Int)=19 from rfl,(qy _ _).2.1,show Mc.wd (Mc.wd a - Mc.wd b)=Mc.wd (a - b) by unfold Mc.wd; omega]
 ·rw [(nM a b).2.2.1,show ((18+2:Nat):Int)=20 from rfl,(qy _ _).2.2.1,sa,sb];by_cases h:a < b
  ·rw [if_pos h,ow.1]
  ·rw [if_neg h,ow.2]
 ·rw [(nM a b).2.2.2,show ((18+3:Nat):Int)=21 from rfl,(qy _ _).2.2.2];by_cases h:Mc.wd a < Mc.wd b
  ·rw [if_pos h,ow.1]
  ·rw [if_neg h,ow.2]
 ·rw [(uI a b).1,show ((18+4:Nat):Int)=22 from rfl,(ug _ _).1];have e:=yrm x y;have e2:((x ^^^ y:Nat):Int)=(x:Int)+(y:Int) - 2 * ((x &&& y:Nat):Int):=by omega
  rw [hx,hy,ylo x y (by omega) (by omega)];unfold both;rw [Int.toNat_natCast,Int.toNat_natCast,e2]
 ·rw [(uI a b).2.1,show ((18+5:Nat):Int)=23 from rfl,(ug _ _).2.1];have e:=ysb x y;have e2:((x ||| y:Nat):Int)=(x:Int)+(y:Int) - ((x &&& y:Nat):Int):=by omega
  rw [hx,hy,Bw x y (by omega) (by omega)];unfold both;rw [Int.toNat_natCast,Int.toNat_natCast,e2]
 ·rw [(uI a b).2.2,show ((18+6:Nat):Int)=24 from rfl,(ug _ _).2.2];rw [hx,hy,OL x y (by omega) (by omega)];unfold both;rw [Int.toNat_natCast,Int.toNat_natCast]
theorem Ig (k n:Nat) (hk:k < 7) (hn:n<=2047) (a b:Int) (ha:-2147483648<=a/\a<=2147483647) (hb:-2147483648<=b/\b<=2147483647) :
  outs (Mc.wd a) (Mc.wd b) k n=[Bf k a b,if a < b then 1 else 0,1 - (if Mc.wd a < Mc.wd b then 1 else 0),if a≠b then 1 else 0,Mc.sg (Mc.wd (a - n)),both (Mc.wd b) n]:=by
 have sa:=wM a ha;have sb:=wM b hb;have e3:(if Mc.wd b<=Mc.wd a then (1:Int) else 0)=1 - (if Mc.wd a < Mc.wd b then 1 else 0):=by
  by_cases h:Mc.wd a < Mc.wd b
  ·rw [if_neg (by omega),if_pos h]; rfl
  ·rw [if_pos (by omega),if_neg h]; rfl
 have e4:(if Mc.wd a≠Mc.wd b then (1:Int) else 0)=if a≠b then 1 else 0:=by
  by_cases h:a=b
  ·subst h; simp
  ·have:Mc.wd a≠Mc.wd b:=by intro c; rw [<- sa,<- sb,c] at h; exact h rfl
   rw [if_pos this,if_pos h]
 have e5:Mc.wd (Mc.wd a+Mc.wd (-(n:Int)))=Mc.wd (a - n):=by unfold Mc.wd; omega
 have e6:Mc.sg (Mc.wd (bits .and .i64 (Mc.wd b) (Mc.wd (n:Int))))=both (Mc.wd b) n:=by
  obtain ⟨y,hy,yl⟩:=pG b;have wn:Mc.wd (n:Int)=n:=yqw _ (by omega) (by omega);have le:y &&& n<=n:=Nat.and_le_right;rw [wn,hy,OL y n (by omega) (by omega),wM _ ⟨by omega,by omega⟩];unfold both;rw [Int.toNat_natCast,Int.toNat_natCast]
 unfold outs;rw [first k hk a b ha hb,sa,sb,e3,e4,e5,e6]
end Op
end Go.Proofs.YtpgklkhgfcjceaaGreatDoor
