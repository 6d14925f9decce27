
import Derived.Test.YtelehpmjhjljgaaGreatDoorV20
set_option maxHeartbeats 16000000
set_option maxRecDepth 100000
namespace Go.Proofs.YtelehpmjhjljgaaGreatDoor
open Go.RowKit
theorem yin:∀ (ms:List Ln.Mod) (t f d:Int),(Ln.bB ms t f d).map Ln.Mod.short=ms.map Ln.Mod.short:=by
 intro ms
 induction ms with
 | nil=>intro t f d; rfl
 | cons m ms ih=>intro t f d; unfold Ln.bB; rw [List.map_cons,ih,List.map_cons]; rfl
theorem yiY:∀ (ms:List Ln.Mod) (b:Int),(Ln.bI ms b).map Ln.Mod.short=ms.map Ln.Mod.short:=by
 intro ms
 induction ms with
 | nil=>intro b; rfl
 | cons m ms ih=>intro b; unfold Ln.bI; rw [List.map_cons,ih,List.map_cons]
theorem ylp:∀ (ms:List Ln.Mod) (b:Int),(Ln.bI ms b).map Ln.Mod.obj=ms.map Ln.Mod.obj:=by
 intro ms
 induction ms with
 | nil=>intro b; rfl
 | cons m ms ih=>intro b; unfold Ln.bI; rw [List.map_cons,ih,List.map_cons]
theorem Au (ms:List Ln.Mod) (t f d:Int):(Ln.lay t f d ms).map Ln.Mod.obj=ms.map Ln.Mod.obj:=by unfold Ln.lay; rw [ylp,Gi]
theorem Ya (ms:List Ln.Mod) (t f d:Int):(Ln.lay t f d ms).map Ln.Mod.short=ms.map Ln.Mod.short:=by unfold Ln.lay; rw [yiY,yin]
theorem Kn (ms:List Ln.Mod):(Ln.shorten ms).map Ln.Mod.obj=ms.map Ln.Mod.obj:=by unfold Ln.shorten; rw [List.map_map]; rfl
theorem xk {ms ms':List Ln.Mod} (h:ms'.map Ln.Mod.obj=ms.map Ln.Mod.obj) (hv:∀ m∈ms,yp m.obj):∀ m∈ms',yp m.obj:=by
 intro m hm
 have:m.obj∈ms.map Ln.Mod.obj:=by rw [<- h]; exact List.mem_map_of_mem hm
 obtain ⟨x,hx,e⟩:=List.mem_map.1 this;rw [<- e];exact hv x hx
theorem WH:∀ (ms:List Ln.Mod) (d:Int),(∀ m∈ms,yp m.obj)->0<=d->d+5000 * ms.length<=562949953421312->d<=Ln.bH ms d/\Ln.bH ms d<=d+5000 * ms.length:=by
 intro ms
 induction ms with
 | nil=>intro d _ _ _; simp [Ln.bH]
 | cons m ms ih =>
  intro d hv h0 h1;simp only [gL] at h1 ⊢;unfold Ln.bH;have r:=ru d (Ln.aJ m.obj 3) h0 (by omega) (uT _);have hl:m.obj.data.length<=64:=(hv m (by simp)).1.1.2.2;have q:=ih (Ln.rup d (Ln.aJ m.obj 3)+4 * m.obj.data.length) (fun x hx=>hv x (by simp [hx])) (by omega) (by omega);omega
theorem yiZ (n:Nat):∀ (ms:List Ln.Mod) (t f d:Int),(∀ m∈ms,yO n m)->(∀ m∈ms,yp m.obj)->0<=t->t+5000 * ms.length<=562949953421312->0<=f->f+5000 * ms.length<=562949953421312->0<=d->d+5000 * ms.length<=562949953421312->∀ m∈Ln.bB ms t f d,yO n m:=by
 intro ms
 induction ms with
 | nil=>intro t f d _ _ _ _ _ _ _ _ m hm; simp [Ln.bB] at hm
 | cons x ms ih =>
  intro t f d hn hv a0 a1 b0 b1 c0 c1 m hm;simp only [gL] at a1 b1 c1;have vx:=hv x (by simp);have r1:=CZ vx 1 (.inl rfl) t a0 (by omega);have r2:=CZ vx 2 (.inr rfl) f b0 (by omega);have r3:=ru d (Ln.aJ x.obj 3) c0 (by omega) (uT _);have hl:x.obj.data.length<=64:=vx.1.1.2.2;unfold Ln.bB at hm;rcases List.mem_cons.1 hm with rfl | hm
  ·have s1:=yO.nS (ps:=Ln.aT x 1 t) (hn x (by simp)) (by omega) (fun p hp=>by have:=r1.2.2 p hp; omega);have s2:=yO.uN (ps:=Ln.aT x 2 f) s1 (by omega) (fun p hp=>by have:=r2.2.2 p hp; omega);exact yO.qN (x:=Ln.rup d (Ln.aJ x.obj 3)) s2 ⟨by omega,by omega⟩
  ·exact ih _ _ _ (fun y hy=>hn y (by simp [hy])) (fun y hy=>hv y (by simp [hy])) (by omega) (by omega) (by omega) (by omega) (by omega) (by omega) m hm
theorem yjZ (n:Nat):∀ (ms:List Ln.Mod) (b:Int),(∀ m∈ms,yO n m)->(∀ m∈ms,yp m.obj)->0<=b->b+5000 * ms.length<=562949953421312->∀ m∈Ln.bI ms b,yO n m:=by
 intro ms
 induction ms with
 | nil=>intro b _ _ _ _ m hm; simp [Ln.bI] at hm
 | cons x ms ih =>
  intro b hn hv a0 a1 m hm;simp only [gL] at a1;have vx:=hv x (by simp);have r3:=ru b (Ln.aJ x.obj 4) a0 (by omega) (uT _);have hl:=vx.1.2.1;unfold Ln.bI at hm;rcases List.mem_cons.1 hm with rfl | hm
  ·exact (hn x (by simp)).uM ⟨by omega,by omega⟩
  ·exact ih _ (fun y hy=>hn y (by simp [hy])) (fun y hy=>hv y (by simp [hy])) (by omega) (by omega) m hm
theorem RV {n:Nat} {ms:List Ln.Mod} {t f d:Int} (hn:∀ m∈ms,yO n m) (hv:∀ m∈ms,yp m.obj) (hl:ms.length<=4096) (ht:0<=t/\t<=4294967296) (hf:0<=f/\f<=4294967296) (hd:0<=d/\d<=4294967296):∀ m∈Ln.lay t f d ms,yO n m:=by
 have r:=WH ms d hv hd.1 (by omega);exact yjZ n _ _ (yiZ n ms t f d hn hv ht.1 (by omega) hf.1 (by omega) hd.1 (by omega)) (xk (Gi ms t f d) hv) (by omega) (by rw [Km]; omega)
theorem Xd {n:Nat} {ms:List Ln.Mod} (hn:∀ m∈ms,yO n m):∀ m∈Ln.shorten ms,yO n m:=by
 intro m hm;unfold Ln.shorten at hm;obtain ⟨y,hy,rfl⟩:=List.mem_map.1 hm;exact (hn y hy).lN (by rw [jc]; exact (hn y hy).aj.1)
theorem ylq (Wf W0:World) (P:Nat) (bt bf bd:Int) (vm:Value) (bl gl:List Nat) (ms:List Ln.Mod) (st:Ln.fQ) (no:Int) (W:World) (h:jv Wf W0 P bt bf bd vm bl gl ms st no W) (hn:∀ m∈ms,yO bl.length m) (hv:∀ m∈ms,yp m.obj) (hz:∀ m∈ms,m.short=[])
  (hbt:0<=bt/\bt<=4294967296) (hbf:0<=bf/\bf<=4294967296) (hbd:0<=bd/\bd<=4294967296) :
  Calls Tryz.prog 23 #[aP P] W fun e W'=>e = .returned (.tuple #[])/\jv Wf W0 P bt bf bd vm bl gl (Ln.layout bt bf bd ms) st (Ln.noughts bd (Ln.shorten (Ln.lay bt bf bd ms))) W':=by
 have hl:ms.length<=4096:=by rw [h.fT]; exact h.few
 have n1:=RV hn hv hl hbt hbf hbd;have v1:=xk (Au ms bt bf bd) hv;have z1:∀ m∈Ln.lay bt bf bd ms,m.short=[]:=by
  intro m hm
  have:m.short∈ms.map Ln.Mod.short:=by rw [<- Ya ms bt bf bd]; exact List.mem_map_of_mem hm
  obtain ⟨x,hx,e⟩:=List.mem_map.1 this;rw [<- e];exact hz x hx
 have c1:=hid (XD Wf W0 P bt bf bd vm bl gl ms st no W h hn hv hbt hbf hbd);have c2:=hid (fun W2 JZ (h2:jv Wf W0 P bt bf bd vm bl gl (Ln.lay bt bf bd ms) st JZ W2)=>ykr Wf W0 P bt bf bd vm bl gl _ st JZ W2 h2 n1 z1);have c3:=hid (fun W2 JZ (h2:jv Wf W0 P bt bf bd vm bl gl (Ln.shorten (Ln.lay bt bf bd ms)) st JZ W2)=>XD Wf W0 P bt bf bd vm bl gl _ st JZ W2 h2 (Xd n1) (xk (Kn _) v1) hbt hbf hbd);have E:=hid (show Ln.layout bt bf bd ms=Ln.lay bt bf bd (Ln.shorten (Ln.lay bt bf bd ms)) from rfl);clear h hn hv hz n1 v1 z1 hbt hbf hbd hl;unfold aP at *;go_enter Tryz.func23,Tryz.ntmps23;go_wp2_with fail
 refine c1.o.mono ?_;rintro e W2 ⟨rfl,h2⟩;have H2:=hid h2;clear h2 c1;go_wp2_with fail;refine (c2.o _ _ H2.o).mono ?_;rintro e W3 ⟨rfl,h3⟩;have H3:=hid h3;clear h3 c2;go_wp2_with fail;refine (c3.o _ _ H3.o).mono ?_;rintro e W4 ⟨rfl,h4⟩;have H4:=hid h4;clear h4 c3;go_wp2
 go_end0
 rw [E.o];exact ⟨rfl,H4.o⟩
theorem Np (f n:Int) (h0:0<=n) (h1:n<=4294967295):0<=eY f n/\eY f n < 32:=by
 unfold eY;split
 ·rw [low (n / 128) 5 (by decide) 31 32 rfl rfl (by omega) (by omega)]; omega
 ·decide
theorem YL (f n:Int) (h0:0<=n) (h1:n<=4294967295):0<=bE f n/\bE f n < 32:=by
 unfold bE;split
 ·rw [low (n / 32768) 5 (by decide) 31 32 rfl rfl (by omega) (by omega)]; omega
 ·decide
theorem YM (f n:Int) (h0:0<=n) (h1:n<=4294967295):0<=iQ f n/\iQ f n < 32:=by
 unfold iQ;split
 ·rw [low (n / 1048576) 5 (by decide) 31 32 rfl rfl (by omega) (by omega)]; omega
 ·decide
theorem Y3 (n:Int):Mc.jq n<=25:=by
 unfold Mc.jq
 cases e:(List.range 26).find? (fun k=>decide (1<=k) && decide (Is k n)) with
 | none=>simp
 | some k =>
  have:=List.mem_of_find?_eq_some e
  have:=List.mem_range.1 this
  simp only [Option.getD_some];omega
namespace Ln
def encZ (op rd dP fq:Nat) (n:Int):Int:=if op=0 then 0 else (As.enc op rd dP fq n:Nat)
def eG (w n:Int):Int:=encZ (Mc.jq w) (eY (Mc.aI w) w).toNat (bE (Mc.aI w) w).toNat (iQ (Mc.aI w) w).toNat n
def fH (w:Int) (first:Bool) (v:Int):Int:=eG w (if first then As.dO v else As.bR v)
end Ln
theorem Xk (op rd dP fq:Nat) (n:Int) (w:World) (ht:fZ w) (h2:op<=25) :
  Calls Tryz.prog 131 #[wR op rd dP fq n] w fun e w'=>e = .returned (.int .i64 (Ln.encZ op rd dP fq n))/\w.grownBy w' none:=by
 by_cases h:op=0
 ·subst h;have A0:=hid (aH w (.cells #[.int .i64 0,.int .i64 rd,.int .i64 dP,.int .i64 fq,.int .i64 n] 195) none);unfold wR;go_enter Tryz.func131,Tryz.ntmps131;go_wp2;go_ret;exact ⟨rfl,A0.o⟩
 ·have:=yle op rd dP fq n w ht (by omega) h2
  unfold Ln.encZ;rw [if_neg h];exact this
theorem Xb (x n:Int) (w:World) (ht:fZ w) (h0:0<=x) (h1:x<=4294967295) :
  Calls Tryz.prog 108 #[.int .i64 x,.int .i64 n] w fun e w'=>e = .returned (.int .i64 (Ln.eG x n))/\w.grownBy w' none:=by
 have cD:=hid (Xo x w ht h0 h1);have r1:=Np (Mc.aI x) x h0 h1;have r2:=YL (Mc.aI x) x h0 h1;have r3:=YM (Mc.aI x) x h0 h1;have E:=hid (show Ln.eG x n=Ln.encZ (Mc.jq x) (eY (Mc.aI x) x).toNat (bE (Mc.aI x) x).toNat (iQ (Mc.aI x) x).toNat n from rfl);have ho:=Y3 x;have HT:=hid ht;generalize Mc.jq x=op at *;generalize Mc.fA (Mc.aI x) x=nf at *;generalize eY (Mc.aI x) x=rd at *;generalize bE (Mc.aI x) x=dP at *;generalize iQ (Mc.aI x) x=fq at *;obtain ⟨a,rfl⟩:∃ a:Nat,rd=(a:Int):=⟨rd.toNat,by omega⟩
 obtain ⟨b,rfl⟩:∃ b:Nat,dP=(b:Int):=⟨dP.toNat,by omega⟩
 obtain ⟨c,rfl⟩:∃ c:Nat,fq=(c:Int):=⟨fq.toNat,by omega⟩
 rw [Int.toNat_natCast,Int.toNat_natCast,Int.toNat_natCast] at E;have cE:=hid (fun W hW=>Xk op a b c n W hW ho);clear ht r1 r2 r3;unfold gP at cD;unfold wR at cE;go_enter Tryz.func108,Tryz.ntmps108;go_wp2_with fail;refine cD.o.mono ?_;rintro e W2 ⟨rfl,h2⟩;have A2:=hid (ya h2 (aH W2 (.cells #[.int .i64 op,.int .i64 a,.int .i64 b,.int .i64 c,.int .i64 n] 195) none));clear h2;go_wp2_with fail;refine (cE.o _ (HT.o.grown A2.o)).mono ?_;rintro e W3 ⟨rfl,h3⟩;have G3:=hid (ya A2.o h3);clear h3 cE cD;go_wp2;go_ret;exact ⟨by rw [E.o]; rfl,G3.o⟩
theorem yjG (x:Int) (f:Bool) (v:Int) (w:World) (ht:fZ w) (h0:0<=x) (h1:x<=4294967295) (h2:-2147483648<=v) (h3:v<=2147483647) :
  Calls Tryz.prog 111 #[.int .i64 x,.bool f,.int .i64 v] w fun e w'=>e = .returned (.int .i64 (Ln.fH x f v))/\w.grownBy w' none:=by
 have cP:=hid (ymD v w h2 h3);have cN:=hid (fun n=>Xb x n w ht h0 h1)
 cases f
 ·have E:=hid (show Ln.fH x false v=Ln.eG x (As.bR v) from rfl);clear ht;go_enter Tryz.func111,Tryz.ntmps111;go_wp2_with fail;refine cP.o.mono ?_;rintro e w' ⟨rfl,hw⟩;rw [hw];clear hw w' cP;go_wp2_with fail;refine (cN.o _).mono ?_;rintro e W2 ⟨rfl,h5⟩;have G:=hid h5;clear h5 cN;go_wp2;go_ret;exact ⟨by rw [E.o]; rfl,G.o⟩
 ·have E:=hid (show Ln.fH x true v=Ln.eG x (As.dO v) from rfl);clear ht;go_enter Tryz.func111,Tryz.ntmps111;go_wp2_with fail;refine cP.o.mono ?_;rintro e w' ⟨rfl,hw⟩;rw [hw];clear hw w' cP;go_wp2_with fail;refine (cN.o _).mono ?_;rintro e W2 ⟨rfl,h5⟩;have G:=hid h5;clear h5 cN;go_wp2;go_ret;exact ⟨by rw [E.o]; rfl,G.o⟩
namespace Ln
def iD (ms:List Mod) (m:Mod) (r:Lk.Rel):Int:=encZ 3 (eY (Mc.aI ((yz m.obj r).getD 1 0)) ((yz m.obj r).getD 1 0)).toNat 0 0 (distance ms m r)
end Ln
theorem yiu (bl:List Nat) (ms:List Ln.Mod) (b g:Nat) (m:Ln.Mod) (r:Lk.Rel) (w:World) (ht:fZ w) (h:Av w bl ms) (hm:yN w bl b g m) (hn:yO bl.length m) (hv:yp m.obj) (hr:r∈m.obj.aj) (hk:r.kind=4) :
  Calls Tryz.prog 110 #[aP b,bY r] w fun e w'=>e = .returned (.int .i64 (Ln.iD ms m r))/\w.grownBy w' none:=by
 obtain ⟨i,hi,xM⟩:=List.getElem_of_mem hr;have RO:yV m.obj r:=by rw [<- xM]; exact (hv.2.2.2.2 i hi).1
 have ha:=RO.2.1;have hab:=RO.2.2.2.2.1;have hrs:j6 (yh m.obj r.ah):=by
  unfold yh
  repeat' split
  ·exact hv.2.2.1.1
  ·exact hv.2.2.1.2.1
  ·exact hv.2.2.1.2.2
  ·intro i h; simp at h
 obtain ⟨f1,f2,-,-⟩:=w9 ha hab hrs;have sp:(yr r).toNat=2:=by unfold yr; rw [if_pos (.inl hk)]; rfl
 rw [sp] at f1;have HM:=hid hm;have HH:=hid h;have HT:=hid ht;obtain ⟨v1,v2,v3,v4,q0,q1,-⟩:=hm;have k0:w.cell? ⟨b,0,none⟩=some (.pointer (some ⟨g,0,none⟩)):=q0.cell 0;have cA:=hid (fun W (hg:w.grownBy W none)=>QB g m.obj r W (q1.kept hg) (Mh hv) ha hab);rw [sp] at cA;have cD:=hid (fun W (hg:w.grownBy W none)=>Ma bl ms b g m r W (HH.o.kept hg) (HM.o.kept hg) hn (hn.aj.2 r hr).2.1 (hn.aj.2 r hr).2.2);have hx:1 < (yz m.obj r).length:=by omega
 have E:=hid (show Ln.iD ms m r=Ln.encZ 3 (eY (Mc.aI (yz m.obj r)[1]) (yz m.obj r)[1]).toNat 0 0 (Ln.distance ms m r) by unfold Ln.iD; rw [iJ,gy hx]; rfl);have xr:=f2 1 hx;have rr:=Np (Mc.aI (yz m.obj r)[1]) (yz m.obj r)[1] xr.1 xr.2;have cC:=hid (fun W (hg:w.grownBy W none)=>Xo (yz m.obj r)[1] W (HT.o.grown hg) xr.1 xr.2);have IX:=hid (fun W ao (hI:ym W ao (yz m.obj r))=>show ∃ sg off,ao=some ⟨sg,off,none⟩/\W.cell? ⟨sg,off+1,none⟩=some (.int .i64 (yz m.obj r)[1]) from by
  obtain ⟨sg,off,e,hc⟩:=hI (by omega);exact ⟨sg,off,e,hc 1 hx⟩)
 generalize Mc.jq (yz m.obj r)[1]=op at *;generalize Mc.fA (Mc.aI (yz m.obj r)[1]) (yz m.obj r)[1]=nf at *;generalize bE (Mc.aI (yz m.obj r)[1]) (yz m.obj r)[1]=dP at *;generalize iQ (Mc.aI (yz m.obj r)[1]) (yz m.obj r)[1]=fq at *;generalize eY (Mc.aI (yz m.obj r)[1]) (yz m.obj r)[1]=rd at *;obtain ⟨a,rfl⟩:∃ a:Nat,rd=(a:Int):=⟨rd.toNat,by omega⟩
 rw [Int.toNat_natCast] at E;generalize (yz m.obj r)[1]=x at *;have cE:=hid (fun W (hg:w.grownBy W none)=>Xk 3 a 0 0 (Ln.distance ms m r) W (HT.o.grown hg) (by omega));generalize Ln.distance ms m r=ds at *;have hbl:b < w.heap.size:=q0.lt;clear q0 q1 h ht hn hv hr RO ha hab hrs f1 f2 sp hx xr rr xM hi hk;unfold aP bY gP wR at *;obtain ⟨rs,ro,rk,ry,ra⟩:=r;dsimp only at *;have A0:=hid (aH w (.cells #[.int .i64 rs,.int .i64 ro,.int .i64 rk,.int .i64 ry,.int .i64 ra] 83) none);have B0:=hid (ye.new w #[.int .i64 rs,.int .i64 ro,.int .i64 rk,.int .i64 ry,.int .i64 ra] 83);have hbn:b≠w.heap.size:=by omega
 go_enter Tryz.func110,Tryz.ntmps110;go_wp2;have kb:=yc k0 A0.o;clear k0;generalize w.alloc (.cells #[.int .i64 rs,.int .i64 ro,.int .i64 rk,.int .i64 ry,.int .i64 ra] 83)=W1 at *;generalize w.heap.size=L at *;have c0:W1.cell? ⟨L,0,none⟩=some (.int .i64 rs):=B0.o.cell 0;have c1:W1.cell? ⟨L,1,none⟩=some (.int .i64 ro):=B0.o.cell 1;have c2:W1.cell? ⟨L,2,none⟩=some (.int .i64 rk):=B0.o.cell 2;have c3:W1.cell? ⟨L,3,none⟩=some (.int .i64 ry):=B0.o.cell 3;have c4:W1.cell? ⟨L,4,none⟩=some (.int .i64 ra):=B0.o.cell 4;have KB:=hid (show W1.drew.cell? ⟨b,0,none⟩=some (.pointer (some ⟨g,0,none⟩)) from kb)
 have BD:=hid (fun W (hq:W1.drew.grownBy W none)=>show ye W L #[.int .i64 rs,.int .i64 ro,.int .i64 rk,.int .i64 ry,.int .i64 ra] 83 from (uV B0.o).grown hq (by simp))
 go_region_held3 (fun w'=>w'.cell? ⟨b,0,none⟩=some (.pointer (some ⟨g,0,none⟩))/\w'.cell? ⟨L,0,none⟩=some (.int .i64 rs)/\w'.cell? ⟨L,1,none⟩=some (.int .i64 ro)/\w'.cell? ⟨L,2,none⟩=some (.int .i64 rk)/\w'.cell? ⟨L,3,none⟩=some (.int .i64 ry)/\w'.cell? ⟨L,4,none⟩=some (.int .i64 ra))
  (go_keep)
  (first | (go_at_call 132; refine (cA.o _ (yf A0.o)).mono ?_; rintro e w' ⟨ao,cap,rfl,hI,hq⟩; have bq:=BD.o _ hq; have kq:=yc KB.o hq; have s0:=bq.cell 0; have s1:=bq.cell 1; have s2:=bq.cell 2; have s3:=bq.cell 3; have s4:=bq.cell 4; simp only [dH,dL,dK] at s0 s1 s2 s3 s4))
 obtain ⟨sg,off,rfl,cx⟩:=IX.o _ _ hI;have GQ:=hid (ya (yf A0.o) hq);have BQ:=hid bq;clear hq hI bq kq s0 s1 s2 s3 s4 c0 c1 c2 c3 c4 kb KB BD;go_wp2_with fail;refine (cC.o _ GQ.o).mono ?_;rintro e W4 ⟨rfl,h4⟩;have A4:=aH W4 (.cells #[.int .i64 op,.int .i64 a,.int .i64 dP,.int .i64 fq,.int .i64 nf] 195) none;have G4:=hid (ya (ya GQ.o h4) A4);have B4:=hid (BQ.o.grown (ya h4 A4) (by simp));have J4:=hid (ye.new W4 #[.int .i64 op,.int .i64 a,.int .i64 dP,.int .i64 fq,.int .i64 nf] 195);clear h4 A4 cC cx BQ GQ;go_wp2;generalize W4.alloc (.cells #[.int .i64 op,.int .i64 a,.int .i64 dP,.int .i64 fq,.int .i64 nf] 195)=W5 at *
 generalize W4.heap.size=J at *;have c0:W5.cell? ⟨L,0,none⟩=some (.int .i64 rs):=B4.o.cell 0;have c1:W5.cell? ⟨L,1,none⟩=some (.int .i64 ro):=B4.o.cell 1;have c2:W5.cell? ⟨L,2,none⟩=some (.int .i64 rk):=B4.o.cell 2;have c3:W5.cell? ⟨L,3,none⟩=some (.int .i64 ry):=B4.o.cell 3;have c4:W5.cell? ⟨L,4,none⟩=some (.int .i64 ra):=B4.o.cell 4;have cj:W5.cell? ⟨J,1,none⟩=some (.int .i64 a):=J4.o.cell 1;have KD:=hid (fun W (hq:W5.drew.grownBy W none)=>And.intro (yc (show W5.drew.cell? ⟨J,1,none⟩=some (.int .i64 a) from cj) hq) (And.intro (yc (show W5.drew.cell? ⟨L,0,none⟩=some (.int .i64 rs) from c0) hq) (And.intro (yc (show W5.drew.cell? ⟨L,1,none⟩=some (.int .i64 ro) from c1) hq) (And.intro (yc (show W5.drew.cell? ⟨L,2,none⟩=some (.int .i64 rk) from c2) hq) (And.intro (yc (show W5.drew.cell? ⟨L,3,none⟩=some (.int .i64 ry) from c3) hq) (yc (show W5.drew.cell? ⟨L,4,none⟩=some (.int .i64 ra) from c4) hq))))))
 go_region_held3 (fun w'=>w'.cell? ⟨J,1,none⟩=some (.int .i64 a)/\w'.cell? ⟨L,0,none⟩=some (.int .i64 rs)/\w'.cell? ⟨L,1,none⟩=some (.int .i64 ro)/\w'.cell? ⟨L,2,none⟩=some (.int .i64 rk)/\w'.cell? ⟨L,3,none⟩=some (.int .i64 ry)/\w'.cell? ⟨L,4,none⟩=some (.int .i64 ra))
  (go_keep)
  (first | (go_at_call 80; refine (cD.o _ (yf G4.o)).mono ?_; rintro e w' ⟨rfl,hq⟩; obtain ⟨s0,s1,s2,s3,s4,s5⟩:=KD.o _ hq) | (go_at_call 131; refine (cE.o _ (ya (yf G4.o) hq)).mono ?_; rintro e w2 ⟨rfl,hq2⟩; obtain ⟨r0,r1,r2,r3,r4,r5⟩:=KD.o _ (ya hq hq2)))
 go_wp2;go_ret;exact ⟨by rw [E.o]; rfl,ya (ya (yf G4.o) hq) hq2⟩
namespace Ln
def jC (ms:List Mod) (m:Mod) (i:Int) (r:Lk.Rel) (off w:Int):Int :=
 if r.kind=1 then bits .and .i64 (target ms m r+r.addend) 4294967295
 else if r.kind=2\/r.kind=3 then eG w (distance ms m r)
 else if r.kind=4 then (if dY m.short i then iD ms m r else fH w (decide (off=r.off)) (distance ms m r))
 else if r.kind=5 then fH w (decide (off=r.off)) (target ms m r+r.addend)
 else w
def linked (ms:List Mod) (m:Mod) (ah off w:Int):Int:=jC ms m (aG ah off 0 m.obj.aj).1 (aG ah off 0 m.obj.aj).2 off w
end Ln
def R9 (ms:List Ln.Mod) (m:Ln.Mod):Prop:=∀ r∈m.obj.aj,(-2147483648<=Ln.distance ms m r/\Ln.distance ms m r<=2147483647)/\(0<=Ln.target ms m r/\Ln.target ms m r<=2147480000)
theorem ylu (bl:List Nat) (ms:List Ln.Mod) (b g:Nat) (m:Ln.Mod) (ah off x:Int) (w:World) (ht:fZ w) (h:Av w bl ms) (hm:yN w bl b g m) (hn:yO bl.length m) (hv:yp m.obj) (hd:R9 ms m) (h0:0<=x) (h1:x<=4294967295) :
  Calls Tryz.prog 83 #[aP b,.int .i64 ah,.int .i64 off,.int .i64 x] w fun e w'=>e = .returned (.int .i64 (Ln.linked ms m ah off x))/\w.grownBy w' none:=by
 have HT:=hid ht;have HH:=hid h;have HM:=hid hm;have cR:=hid (XT bl b g m ah off w hm (fun r hr=>⟨(hn.aj.2 r hr).1,by have:=(hn.aj.2 r hr).2; omega,(hn.aj.2 r hr).2.2⟩) hn.aj.1);have R:=hid (show Ln.linked ms m ah off x=Ln.jC ms m (Ln.aG ah off 0 m.obj.aj).1 (Ln.aG ah off 0 m.obj.aj).2 off x from rfl);have RM:=hid (show (Ln.aG ah off 0 m.obj.aj).2.kind≠0->(Ln.aG ah off 0 m.obj.aj).2∈m.obj.aj by
  rcases MW ah off m.obj.aj 0 with e | ⟨i,hi,e⟩
  ·rw [e]; intro c; simp at c
  ·rw [e]; intro _; exact dM hi)
 have IX:0<=(Ln.aG ah off 0 m.obj.aj).1/\(Ln.aG ah off 0 m.obj.aj).1<=65535:=by
  rcases MW ah off m.obj.aj 0 with e | ⟨i,hi,e⟩
  ·rw [e]; simp
  ·rw [e]; have:=hn.aj.1; simp; omega
 have cS:=hid (fun W (hg:w.grownBy W none)=>XH bl b g m (Ln.aG ah off 0 m.obj.aj).1 W (HM.o.kept hg) IX.1 IX.2 hn.short);generalize Ln.aG ah off 0 m.obj.aj=p at *;obtain ⟨i,r⟩:=p;dsimp only at *;have cD:=hid (fun W (hg:w.grownBy W none) (hr:r∈m.obj.aj)=>Ma bl ms b g m r W (HH.o.kept hg) (HM.o.kept hg) hn (hn.aj.2 r hr).2.1 (hn.aj.2 r hr).2.2);have cT:=hid (fun W (hg:w.grownBy W none)=>XI bl ms b g m r W (HH.o.kept hg) (HM.o.kept hg) hn);have cC:=hid (fun W (hg:w.grownBy W none) (hr:r∈m.obj.aj) (hk:r.kind=4)=>yiu bl ms b g m r W (HT.o.grown hg) (HH.o.kept hg) (HM.o.kept hg) hn hv hr hk);have cN:=hid (fun n W (hg:w.grownBy W none)=>Xb x n W (HT.o.grown hg) h0 h1)
 have cP:=hid (fun f v W (hg:w.grownBy W none) a1 a2=>yjG x f v W (HT.o.grown hg) h0 h1 a1 a2);have AD:=hid (show r∈m.obj.aj->(r.kind=1\/r.kind=5)->-2048<=r.addend/\r.addend<=2047 from fun hr hk=>by
  have:=(hn.aj.2 r hr).1
  unfold yl at this;rw [if_pos hk] at this;exact this)
 have HD:=hid hd;clear ht h hm hn hv hd IX;obtain ⟨rs,ro,rk,ry,ra⟩:=r;unfold aP bY at *;dsimp only at *;go_enter Tryz.func83,Tryz.ntmps83;go_wp2_with fail;refine cR.o.mono ?_;rintro e W2 ⟨rfl,h2⟩;dsimp only;have A2:=hid (ya h2 (aH W2 (.cells #[.int .i64 rs,.int .i64 ro,.int .i64 rk,.int .i64 ry,.int .i64 ra] 83) none));have B2:=hid (ye.new W2 #[.int .i64 rs,.int .i64 ro,.int .i64 rk,.int .i64 ry,.int .i64 ra] 83);clear h2 cR;by_cases e1:rk=1
 ·subst e1;have hr:=RM.o (by decide);have E:=hid (show Ln.linked ms m ah off x=bits .and .i64 (Ln.target ms m ⟨rs,ro,1,ry,ra⟩+ra) 4294967295 by rw [R.o]; rfl);have tn:=(HD.o _ hr).2;have an:=AD.o hr (.inl rfl);generalize Ln.target ms m ⟨rs,ro,1,ry,ra⟩=t at *;have w1:IntKind.i64.wrap (t+ra)=t+ra:=IntWalk.i64_in _ ⟨by omega,by omega⟩;clear hr;go_wp2;generalize W2.alloc (.cells #[.int .i64 rs,.int .i64 ro,.int .i64 1,.int .i64 ry,.int .i64 ra] 83)=W3 at *;generalize W2.heap.size=L at *;have c0:W3.cell? ⟨L,0,none⟩=some (.int .i64 rs):=B2.o.cell 0;have c1:W3.cell? ⟨L,1,none⟩=some (.int .i64 ro):=B2.o.cell 1
  have c2:W3.cell? ⟨L,2,none⟩=some (.int .i64 1):=B2.o.cell 2;have c3:W3.cell? ⟨L,3,none⟩=some (.int .i64 ry):=B2.o.cell 3;have c4:W3.cell? ⟨L,4,none⟩=some (.int .i64 ra):=B2.o.cell 4;have BD:=hid (fun W (hq:W3.drew.grownBy W none)=>show ye W L #[.int .i64 rs,.int .i64 ro,.int .i64 1,.int .i64 ry,.int .i64 ra] 83 from (uV B2.o).grown hq (by simp))
  go_region_held3 (fun w'=>w'.cell? ⟨L,0,none⟩=some (.int .i64 rs)/\w'.cell? ⟨L,1,none⟩=some (.int .i64 ro)/\w'.cell? ⟨L,2,none⟩=some (.int .i64 1)/\w'.cell? ⟨L,3,none⟩=some (.int .i64 ry)/\w'.cell? ⟨L,4,none⟩=some (.int .i64 ra))
   (go_keep)
   (first | (go_at_call 105; refine (cT.o _ (yf A2.o)).mono ?_; rintro e w' ⟨rfl,hq⟩; have bq:=BD.o _ hq; have s0:=bq.cell 0; have s1:=bq.cell 1; have s2:=bq.cell 2; have s3:=bq.cell 3; have s4:=bq.cell 4; simp only [dH,dL,dK] at s0 s1 s2 s3 s4))
  go_wp2;go_ret;exact ⟨by rw [E.o]; rfl,ya (yf A2.o) hq⟩
 by_cases e2:rk=2
 ·subst e2;have hr:=RM.o (by decide);have E:=hid (show Ln.linked ms m ah off x=Ln.eG x (Ln.distance ms m ⟨rs,ro,2,ry,ra⟩) by rw [R.o]; rfl);have cE:=hid (cD.o _ A2.o hr);generalize Ln.distance ms m ⟨rs,ro,2,ry,ra⟩=t at *;clear hr;go_wp2_with fail;refine cE.o.mono ?_;rintro e W5 ⟨rfl,h5⟩;have G5:=hid (ya A2.o h5);clear h5 cE;go_wp2_with fail;refine (cN.o t _ G5.o).mono ?_;rintro e W6 ⟨rfl,h6⟩;have G6:=hid (ya G5.o h6);clear h6;go_wp2;go_ret;exact ⟨by rw [E.o]; rfl,G6.o⟩
 by_cases e3:rk=3
 ·subst e3;have hr:=RM.o (by decide);have E:=hid (show Ln.linked ms m ah off x=Ln.eG x (Ln.distance ms m ⟨rs,ro,3,ry,ra⟩) by rw [R.o]; rfl);have cE:=hid (cD.o _ A2.o hr);generalize Ln.distance ms m ⟨rs,ro,3,ry,ra⟩=t at *;clear hr;go_wp2_with fail;refine cE.o.mono ?_;rintro e W5 ⟨rfl,h5⟩;have G5:=hid (ya A2.o h5);clear h5 cE;go_wp2_with fail;refine (cN.o t _ G5.o).mono ?_;rintro e W6 ⟨rfl,h6⟩;have G6:=hid (ya G5.o h6);clear h6;go_wp2;go_ret;exact ⟨by rw [E.o]; rfl,G6.o⟩
 by_cases e4:rk=4
 ·subst e4;have hr:=RM.o (by decide);have RR:=hid (show Ln.linked ms m ah off x=if Ln.dY m.short i then Ln.iD ms m ⟨rs,ro,4,ry,ra⟩ else Ln.fH x (decide (off=ro)) (Ln.distance ms m ⟨rs,ro,4,ry,ra⟩) by rw [R.o]; rfl);have qY:=hid (cC.o _ A2.o hr rfl);have cD2:=hid (fun W hg=>cD.o W hg hr);have dn:=(HD.o _ hr).1;have cS2:=hid (cS.o _ A2.o);clear hr cC cD cS;generalize Ln.distance ms m ⟨rs,ro,4,ry,ra⟩=t at *;go_wp2_with fail;refine cS2.o.mono ?_;rintro e w' ⟨rfl,hw⟩;rw [hw];clear hw w' cS2
  cases es:Ln.dY m.short i
  ·have E:=hid (show Ln.linked ms m ah off x=Ln.fH x (decide (off=ro)) t by rw [RR.o,es]; rfl);clear es RR;have OZ:=hid (fun f W hg=>cP.o f t W hg dn.1 dn.2);go_wp2;generalize W2.alloc (.cells #[.int .i64 rs,.int .i64 ro,.int .i64 4,.int .i64 ry,.int .i64 ra] 83)=W3 at *;generalize W2.heap.size=L at *;have c0:W3.cell? ⟨L,0,none⟩=some (.int .i64 rs):=B2.o.cell 0;have c1:W3.cell? ⟨L,1,none⟩=some (.int .i64 ro):=B2.o.cell 1;have c2:W3.cell? ⟨L,2,none⟩=some (.int .i64 4):=B2.o.cell 2;have c3:W3.cell? ⟨L,3,none⟩=some (.int .i64 ry):=B2.o.cell 3;have c4:W3.cell? ⟨L,4,none⟩=some (.int .i64 ra):=B2.o.cell 4
   have BD:=hid (fun W (hq:W3.drew.grownBy W none)=>show ye W L #[.int .i64 rs,.int .i64 ro,.int .i64 4,.int .i64 ry,.int .i64 ra] 83 from (uV B2.o).grown hq (by simp));have EQ:decide (off=ro)=(off == ro):=rfl
   go_region_held3 (fun w'=>w'.cell? ⟨L,0,none⟩=some (.int .i64 rs)/\w'.cell? ⟨L,1,none⟩=some (.int .i64 ro)/\w'.cell? ⟨L,2,none⟩=some (.int .i64 4)/\w'.cell? ⟨L,3,none⟩=some (.int .i64 ry)/\w'.cell? ⟨L,4,none⟩=some (.int .i64 ra))
    (go_keep)
    (first | (go_at_call 80; refine (cD2.o _ (yf A2.o)).mono ?_; rintro e w' ⟨rfl,hq⟩; have bq:=BD.o _ hq; have s0:=bq.cell 0; have s1:=bq.cell 1; have s2:=bq.cell 2; have s3:=bq.cell 3; have s4:=bq.cell 4; simp only [dH,dL,dK] at s0 s1 s2 s3 s4) | (go_at_call 111; refine (OZ.o _ _ (ya (yf A2.o) hq)).mono ?_; rintro e w2 ⟨rfl,hq2⟩; have zu:=BD.o _ (ya hq hq2); have r0:=zu.cell 0; have r1:=zu.cell 1; have r2:=zu.cell 2; have r3:=zu.cell 3; have r4:=zu.cell 4; simp only [dH,dL,dK] at r0 r1 r2 r3 r4))
   go_wp2;go_ret;exact ⟨by rw [E.o]; rfl,ya (ya (yf A2.o) hq) hq2⟩
  ·have E:=hid (show Ln.linked ms m ah off x=Ln.iD ms m ⟨rs,ro,4,ry,ra⟩ by rw [RR.o,es]; rfl);clear es RR;go_wp2_with fail;refine qY.o.mono ?_;rintro e W5 ⟨rfl,h5⟩;have G5:=hid (ya A2.o h5);clear h5 qY;go_wp2;go_ret;exact ⟨by rw [E.o]; rfl,G5.o⟩
 by_cases e5:rk=5
 ·subst e5;have hr:=RM.o (by decide);have E:=hid (show Ln.linked ms m ah off x=Ln.fH x (decide (off=ro)) (Ln.target ms m ⟨rs,ro,5,ry,ra⟩+ra) by rw [R.o]; rfl);have tn:=(HD.o _ hr).2;have an:=AD.o hr (.inr rfl);generalize Ln.target ms m ⟨rs,ro,5,ry,ra⟩=t at *;have w1:IntKind.i64.wrap (t+ra)=t+ra:=IntWalk.i64_in _ ⟨by omega,by omega⟩;have OZ:=hid (fun f W hg=>cP.o f (t+ra) W hg (by omega) (by omega));clear hr;go_wp2;generalize W2.alloc (.cells #[.int .i64 rs,.int .i64 ro,.int .i64 5,.int .i64 ry,.int .i64 ra] 83)=W3 at *;generalize W2.heap.size=L at *;have c0:W3.cell? ⟨L,0,none⟩=some (.int .i64 rs):=B2.o.cell 0
  have c1:W3.cell? ⟨L,1,none⟩=some (.int .i64 ro):=B2.o.cell 1;have c2:W3.cell? ⟨L,2,none⟩=some (.int .i64 5):=B2.o.cell 2;have c3:W3.cell? ⟨L,3,none⟩=some (.int .i64 ry):=B2.o.cell 3;have c4:W3.cell? ⟨L,4,none⟩=some (.int .i64 ra):=B2.o.cell 4;have BD:=hid (fun W (hq:W3.drew.grownBy W none)=>show ye W L #[.int .i64 rs,.int .i64 ro,.int .i64 5,.int .i64 ry,.int .i64 ra] 83 from (uV B2.o).grown hq (by simp))
  go_region_held3 (fun w'=>w'.cell? ⟨L,0,none⟩=some (.int .i64 rs)/\w'.cell? ⟨L,1,none⟩=some (.int .i64 ro)/\w'.cell? ⟨L,2,none⟩=some (.int .i64 5)/\w'.cell? ⟨L,3,none⟩=some (.int .i64 ry)/\w'.cell? ⟨L,4,none⟩=some (.int .i64 ra))
   (go_keep)
   (first | (go_at_call 105; refine (cT.o _ (yf A2.o)).mono ?_; rintro e w' ⟨rfl,hq⟩; have bq:=BD.o _ hq; have s0:=bq.cell 0; have s1:=bq.cell 1; have s2:=bq.cell 2; have s3:=bq.cell 3; have s4:=bq.cell 4; simp only [dH,dL,dK] at s0 s1 s2 s3 s4) | (go_at_call 111; refine (OZ.o _ _ (ya (yf A2.o) hq)).mono ?_; rintro e w2 ⟨rfl,hq2⟩; have zu:=BD.o _ (ya hq hq2); have r0:=zu.cell 0; have r1:=zu.cell 1; have r2:=zu.cell 2; have r3:=zu.cell 3; have r4:=zu.cell 4; simp only [dH,dL,dK] at r0 r1 r2 r3 r4))
  go_wp2;go_ret;exact ⟨by rw [E.o]; rfl,ya (ya (yf A2.o) hq) hq2⟩
 have E:=hid (show Ln.linked ms m ah off x=x by rw [R.o]; unfold Ln.jC; rw [if_neg e1,if_neg (by dsimp only; omega),if_neg e4,if_neg e5]);have d1:(rk == 1)=false:=by simpa using e1
 have d2:(rk == 2)=false:=by simpa using e2
 have d3:(rk == 3)=false:=by simpa using e3
 have d4:(rk == 4)=false:=by simpa using e4
 have d5:(rk == 5)=false:=by simpa using e5
 clear e1 e2 e3 e4 e5;go_wp2;go_ret;exact ⟨by rw [E.o]; rfl,A2.o⟩
structure nY (m:Ln.Mod):Prop where
 text:∀ p∈m.text,0<=p/\p<=1200000000
 far:∀ p∈m.far,0<=p/\p<=1200000000
 data:0<=m.data/\m.data<=1200000000
 bss:0<=m.bss/\m.bss<=1200000000
theorem yka:∀ (ms:List Ln.Mod) (t f d:Int),(∀ m∈ms,yp m.obj)->0<=t->t+5000 * ms.length<=1200000000->0<=f->f+5000 * ms.length<=1200000000->0<=d->d+5000 * ms.length<=1200000000 ->
  ∀ m∈Ln.bB ms t f d,(∀ p∈m.text,0<=p/\p<=1200000000)/\(∀ p∈m.far,0<=p/\p<=1200000000)/\(0<=m.data/\m.data<=1200000000):=by
 intro ms
 induction ms with
 | nil=>intro t f d _ _ _ _ _ _ _ m hm; simp [Ln.bB] at hm
 | cons x ms ih =>
  intro t f d hv a0 a1 b0 b1 c0 c1 m hm;simp only [gL] at a1 b1 c1;have vx:=hv x (by simp);have r1:=CZ vx 1 (.inl rfl) t a0 (by omega);have r2:=CZ vx 2 (.inr rfl) f b0 (by omega);have r3:=ru d (Ln.aJ x.obj 3) c0 (by omega) (uT _);have hl:x.obj.data.length<=64:=vx.1.1.2.2;unfold Ln.bB at hm;rcases List.mem_cons.1 hm with rfl | hm
  ·refine ⟨fun p hp=>?_,fun p hp=>?_,?_⟩
   ·have:=r1.2.2 p hp; omega
   ·have:=r2.2.2 p hp; omega
   ·show 0<=Ln.rup d (Ln.aJ x.obj 3)/\Ln.rup d (Ln.aJ x.obj 3)<=1200000000;omega
  ·exact ih _ _ _ (fun y hy=>hv y (by simp [hy])) (by omega) (by omega) (by omega) (by omega) (by omega) (by omega) m hm
theorem ylo:∀ (ms:List Ln.Mod) (b:Int),(∀ m∈ms,yp m.obj)->0<=b->b+5000 * ms.length<=1200000000->(∀ m∈ms,(∀ p∈m.text,0<=p/\p<=1200000000)/\(∀ p∈m.far,0<=p/\p<=1200000000)/\(0<=m.data/\m.data<=1200000000))->∀ m∈Ln.bI ms b,nY m:=by
 intro ms
 induction ms with
 | nil=>intro b _ _ _ _ m hm; simp [Ln.bI] at hm
 | cons x ms ih =>
  intro b hv a0 a1 hl m hm;simp only [gL] at a1;have vx:=hv x (by simp);have r3:=ru b (Ln.aJ x.obj 4) a0 (by omega) (uT _);have hb:=vx.1.2.1;unfold Ln.bI at hm;rcases List.mem_cons.1 hm with rfl | hm
  ·have q:=hl x (by simp);exact ⟨q.1,q.2.1,q.2.2,by dsimp only; omega⟩
  ·exact ih _ (fun y hy=>hv y (by simp [hy])) (by omega) (by omega) (fun y hy=>hl y (by simp [hy])) m hm
theorem yot {ms:List Ln.Mod} {t f d:Int} (hv:∀ m∈ms,yp m.obj) (hl:ms.length<=4096) (ht:0<=t/\t<=1073741824) (hf:0<=f/\f<=1073741824) (hd:0<=d/\d<=1073741824):∀ m∈Ln.lay t f d ms,nY m:=by
 have r:=WH ms d hv hd.1 (by omega);exact ylo _ _ (xk (Gi ms t f d) hv) (by omega) (by rw [Km]; omega) (yka ms t f d hv ht.1 (by omega) hf.1 (by omega) hd.1 (by omega))
theorem XP (ps:List Int) (off:Int) (h:∀ p∈ps,0<=p/\p<=1200000000):0<=Ln.placeOf ps off/\Ln.placeOf ps off<=1200000000:=by
 unfold Ln.placeOf;split
 ·omega
 ·rw [iJ]
  cases e:ps[(off.tdiv 4).toNat]? with
  | none=>simp
  | some p=>exact h p (List.mem_of_getElem? e)
theorem Me {m:Ln.Mod} (h:nY m) (ah off:Int) (h0:0<=off) (h1:off<=100000):0<=Ln.address m ah off/\Ln.address m ah off<=1200100000:=by
 have a:=XP m.text off h.text;have b:=XP m.far off h.far;have c:=h.data;have d:=h.bss;unfold Ln.address
 repeat' split
 all_goals omega
def ko (s:Ln.fQ):Prop:=0<=s.off/\s.off<=100000
theorem Xe {ms:List Ln.Mod} (hl:∀ m∈ms,nY m) (s:Ln.fQ) (hs:ko s):0<=Ln.bK ms s/\Ln.bK ms s<=1200100000:=by
 unfold Ln.bK
 cases s.mod with
 | none=>simp
 | some i =>
  dsimp only
  cases e:ms[i]? with
  | none=>simp
  | some m=>exact Me (hl m (List.mem_of_getElem? e)) _ _ hs.1 hs.2
theorem ylJ {ms:List Ln.Mod} (hl:∀ m∈ms,nY m) (m:Ln.Mod) (hm:∀ s∈m.means,ko s) (r:Lk.Rel):0<=Ln.target ms m r/\Ln.target ms m r<=1200100000:=by
 unfold Ln.target;split
 ·omega
 ·rename_i h;have hlt:r.sym.toNat < m.means.length:=by omega
  rw [iJ,gy hlt];exact Xe hl _ (hm _ (dM hlt))
theorem Mj {o:Lk.Obj} (hv:yp o) (ah:Int):(yh o ah).length<=1200:=by
 have:=hv.1.1
 unfold yh
 repeat' split
 ·exact this.1
 ·exact this.2.1
 ·have:=this.2.2; omega
 ·simp
theorem Y7 {o:Lk.Obj} (hv:yp o) {r:Lk.Rel} (hr:r∈o.aj):yl r/\0<=r.off/\r.off<=4800:=by
 obtain ⟨i,hi,xM⟩:=List.getElem_of_mem hr;have RO:yV o r:=by rw [<- xM]; exact (hv.2.2.2.2 i hi).1
 have hab:=RO.2.2.2.2.1;have sp:=yC RO.2.1;have hw:=Mj hv r.ah;obtain ⟨b1,b2,b3⟩:=hab;exact ⟨RO.2.1,b1,by omega⟩
theorem yjo {ms:List Ln.Mod} (hl:∀ m∈ms,nY m) (m:Ln.Mod) (hm:∀ s∈m.means,ko s) (hlow:nY m) (hv:yp m.obj):R9 ms m:=by
 intro r hr;have t:=ylJ hl m hm r;have o:=Y7 hv hr;have a:=Me hlow r.ah r.off o.2.1 (by omega);unfold Ln.distance;omega
theorem yim:∀ (ms:List Ln.Mod) (t f d:Int),(Ln.bB ms t f d).map Ln.Mod.means=ms.map Ln.Mod.means:=by
 intro ms
 induction ms with
 | nil=>intro t f d; rfl
 | cons m ms ih=>intro t f d; unfold Ln.bB; rw [List.map_cons,ih,List.map_cons]; rfl
theorem yiX:∀ (ms:List Ln.Mod) (b:Int),(Ln.bI ms b).map Ln.Mod.means=ms.map Ln.Mod.means:=by
 intro ms
 induction ms with
 | nil=>intro b; rfl
 | cons m ms ih=>intro b; unfold Ln.bI; rw [List.map_cons,ih,List.map_cons]
theorem Rt (ms:List Ln.Mod) (t f d:Int):(Ln.lay t f d ms).map Ln.Mod.means=ms.map Ln.Mod.means:=by unfold Ln.lay; rw [yiX,yim]
theorem yiv (ms:List Ln.Mod):(Ln.shorten ms).map Ln.Mod.means=ms.map Ln.Mod.means:=by unfold Ln.shorten; rw [List.map_map]; rfl
theorem yja (ms:List Ln.Mod) (t f d:Int):(Ln.layout t f d ms).map Ln.Mod.means=ms.map Ln.Mod.means:=by unfold Ln.layout; rw [Rt,yiv,Rt]
theorem yls (ms:List Ln.Mod) (t f d:Int):(Ln.layout t f d ms).map Ln.Mod.obj=ms.map Ln.Mod.obj:=by unfold Ln.layout; rw [Au,Kn,Au]
theorem xS (ms:List Ln.Mod) (t f d:Int):(Ln.lay t f d ms).length=ms.length:=by unfold Ln.lay; rw [XE,Km]
theorem ynq {α β:Type} (g:α->β) {ms ms':List α} (h:ms'.map g=ms.map g) {P:β->Prop} (hp:∀ m∈ms,P (g m)):∀ m∈ms',P (g m):=by
 intro m hm
 have:g m∈ms.map g:=by rw [<- h]; exact List.mem_map_of_mem hm
 obtain ⟨x,hx,e⟩:=List.mem_map.1 this;rw [<- e];exact hp x hx
theorem ykb {n:Nat} {ms:List Ln.Mod} {t f d:Int} (hn:∀ m∈ms,yO n m) (hv:∀ m∈ms,yp m.obj) (hl:ms.length<=4096) (ht:0<=t/\t<=1073741824) (hf:0<=f/\f<=1073741824) (hd:0<=d/\d<=1073741824):∀ m∈Ln.layout t f d ms,yO n m:=by
 have n1:=RV hn hv hl (t:=t) (f:=f) (d:=d) (by omega) (by omega) (by omega);have v1:=xk (Au ms t f d) hv;exact RV (Xd n1) (xk (Kn _) v1) (by unfold Ln.shorten; rw [jc,xS]; exact hl) (by omega) (by omega) (by omega)
theorem ylr {ms:List Ln.Mod} {t f d:Int} (hv:∀ m∈ms,yp m.obj) (hl:ms.length<=4096) (ht:0<=t/\t<=1073741824) (hf:0<=f/\f<=1073741824) (hd:0<=d/\d<=1073741824):∀ m∈Ln.layout t f d ms,nY m:=by
 have v1:=xk (Au ms t f d) hv;exact yot (xk (Kn _) v1) (by unfold Ln.shorten; rw [jc,xS]; exact hl) ht hf hd
theorem ylF {o:Lk.Obj} (hv:yp o) (ah:Int):kY o ah<=1200:=by
 unfold kY;split
 ·have:=hv.1.2.1; omega
 ·have:=Mj hv ah; omega
theorem Y9 {o:Lk.Obj} (hv:yp o) {y:Lk.Sym} (hy:y∈o.syms):0<=y.off/\y.off<=4800:=by
 obtain ⟨i,hi,e⟩:=List.getElem_of_mem hy
 have:=(hv.2.2.2.1 i hi).1
 rw [e] at this;have s:=ylF hv y.ah;obtain ⟨-,-,-,-,a,-,c⟩:=this;omega
theorem ylg (n:List UInt8) (bind:Int):∀ (ys:List Lk.Sym) (s f:Int),Ln.eO n bind ys=some (s,f)->∃ y∈ys,y.ah=s/\y.off=f:=by
 intro ys
 induction ys with
 | nil=>intro s f h; simp [Ln.eO] at h
 | cons y ys ih =>
  intro s f h;unfold Ln.eO at h;split at h
  ·simp at h; exact ⟨y,by simp,h.1,h.2⟩
  ·obtain ⟨z,hz,e⟩:=ih s f h;exact ⟨z,by simp [hz],e⟩
theorem XA (n:List UInt8) (bind:Int):∀ (os:List Lk.Obj) (i:Nat),(∀ o∈os,yp o)->ko (Ln.findAt n bind i os):=by
 intro os
 induction os with
 | nil=>intro i _; unfold Ln.findAt ko; simp [Ln.none_]
 | cons o os ih =>
  intro i hv;unfold Ln.findAt
  cases e:Ln.eO n bind o.syms with
  | none=>exact ih _ (fun x hx=>hv x (by simp [hx]))
  | some p =>
   obtain ⟨s,f⟩:=p;obtain ⟨y,hy,-,rfl⟩:=ylg n bind o.syms s f e
   have:=Y9 (hv o (by simp)) hy
   unfold ko;dsimp only;omega
theorem Yb (os:List Lk.Obj) (n:List UInt8) (hv:∀ o∈os,yp o):ko (Ln.named os n):=by
 unfold Ln.named Ln.find;split
 ·exact XA n 1 os 0 hv
 ·exact XA n 2 os 0 hv
theorem ykg (os:List Lk.Obj) (i:Nat) (o:Lk.Obj) (ho:yp o) (y:Lk.Sym) (hy:y∈o.syms) (hv:∀ o∈os,yp o):ko (Ln.meaning os i y):=by
 unfold Ln.meaning;split
 ·have:=Y9 ho hy; unfold ko; dsimp only; omega
 ·exact Yb os _ hv
theorem yly (os:List Lk.Obj) (i:Nat) (hi:i < os.length) (y:Lk.Sym) (j:Nat) (h:(Ln.meaning os i y).mod=some j):j < os.length:=by
 unfold Ln.meaning at h;split at h
 ·simp at h; omega
 ·exact RZ os _ j h
structure ypp (os:List Lk.Obj) (m:Ln.Mod):Prop where
 obj:yp m.obj
 nice:yO os.length m
 low:∀ s∈m.means,ko s
 short:m.short=[]
theorem Rm (os:List Lk.Obj) (hv:∀ o∈os,yp o):∀ m∈Ln.bA os (os.map Ln.bare),ypp os m:=by
 intro m hm;unfold Ln.bA at hm;obtain ⟨i,hi,rfl⟩:=List.getElem_of_mem hm;rw [List.length_mapIdx,jc] at hi;rw [List.getElem_mapIdx,List.getElem_map];have ho:=hv _ (dM hi);generalize os[i]=o at *;have hs:=(Mh ho)
 have L:∀ s∈(o.syms.map (Ln.meaning os i)),ko s/\∀ j,s.mod=some j->j < os.length:=by
  intro s hs;obtain ⟨y,hy,rfl⟩:=List.mem_map.1 hs;exact ⟨ykg os i o ho y hy hv,fun j hj=>yly os i hi y j hj⟩
 refine ⟨ho,⟨⟨by simp [Ln.iL,Ln.bare],by simp [Ln.iL,Ln.bare]⟩,⟨by simp [Ln.iL,Ln.bare],by simp [Ln.iL,Ln.bare]⟩,by simp [Ln.iL,Ln.bare],by simp [Ln.iL,Ln.bare],⟨?_,fun s hs=>?_⟩,by simp [Ln.iL,Ln.bare],⟨hs.2.2.2.2.2,fun r hr=>?_⟩⟩,fun s hs=>(L s hs).1,rfl⟩
 ·show (o.syms.map (Ln.meaning os i)).length<=65535;rw [jc]; exact hs.2.2.2.2.1
 ·have q:=L s hs
  have:=q.1
  unfold ko at this;exact ⟨by omega,q.2⟩
 ·have:=Y7 ho hr
  exact ⟨this.1,by omega,by omega⟩
namespace Ln
def gB (base fl begin_:Int) (ws:List Int):List Int:=ws ++ List.replicate (((begin_ - base+3) / 4).toNat - ws.length) fl
def aU (ms:List Mod) (m:Mod) (ah:Int):Nat->List Int->List Int
 | _,[]=>[]
 | i,w :: ws=>if address m ah (4 * i) < address m ah (4 * i+4) then linked ms m ah (4 * i) w :: aU ms m ah (i+1) ws else aU ms m ah (i+1) ws
def jP (ms:List Mod) (m:Mod) (ah base fl:Int) (ws:List Int):List Int:=gB base fl (address m ah 0) ws ++ aU ms m ah 0 (yh m.obj ah)
def region (ms:List Mod) (ah base fl:Int):List Mod->List Int->List Int
 | [],ws=>ws
 | m :: r,ws=>region ms ah base fl r (jP ms m ah base fl ws)
end Ln
theorem yng {base fl b:Int} {ws:List Int} (h:base+4 * (ws.length:Int) < b):Ln.gB base fl b ws=Ln.gB base fl b (ws ++ [fl]):=by
 unfold Ln.gB;have e:((b - base+3) / 4).toNat - ws.length=((b - base+3) / 4).toNat - (ws ++ [fl]).length+1:=by rw [fE,o7]; omega
 rw [e,List.replicate_succ,List.append_assoc,List.singleton_append]
theorem ynf {base fl b:Int} {ws:List Int} (h:¬ base+4 * (ws.length:Int) < b):Ln.gB base fl b ws=ws:=by
 unfold Ln.gB;have e:((b - base+3) / 4).toNat - ws.length=0:=by omega
 rw [e,List.replicate_zero,List.append_nil]
theorem Kw (base fl b:Int) (ws:List Int):(Ln.gB base fl b ws).length=max ws.length ((b - base+3) / 4).toNat:=by
 unfold Ln.gB;rw [fE,List.length_replicate];omega
theorem WC (ms:List Ln.Mod) (m:Ln.Mod) (ah:Int) (ws:List Int) (k:Nat) (h:k < ws.length):Ln.aU ms m ah k (ws.drop k)=if Ln.address m ah (4 * k) < Ln.address m ah (4 * k+4) then Ln.linked ms m ah (4 * k) ws[k] :: Ln.aU ms m ah (k+1) (ws.drop (k+1)) else Ln.aU ms m ah (k+1) (ws.drop (k+1)):=by
 rw [jg h];rfl
theorem yiC (ms:List Ln.Mod) (m:Ln.Mod) (ah:Int):∀ (ws:List Int) (k:Nat),(Ln.aU ms m ah k ws).length<=ws.length:=by
 intro ws
 induction ws with
 | nil=>intro k; simp [Ln.aU]
 | cons w ws ih =>
  intro k
  have:=ih (k+1)
  unfold Ln.aU;split
  ·simp only [gL]; omega
  ·simp only [gL]; omega
structure mQ (W0:World) (R:Nat) (base fl:Int) (ws:List Int) (v:Value) (W:World):Prop where
 gr:W0.grownBy W none
 lo:W0.heap.size<=R
 blk:ye W R #[.int .i64 base,.int .i64 fl,v] 113
 row:W.ownsRow W0.heap.size 3 1 v ws.length (ws.map (Value.int .i64))
structure qU (V W':World) (R:Nat) (v v':Value):Prop where
 keep:∀ k,k < V.heap.size->some k≠v.ownBlock->k≠R->W'.heap[k]?=V.heap[k]?
 blk:∀ k,v'.ownBlock=some k->v.ownBlock=some k\/V.heap.size<=k
 size:V.heap.size<=W'.heap.size
section
variable {W0 V W W' w3:World} {R R':Nat} {base fl base' VD x:Int} {ws ws':List Int} {v v' v1 v2:Value}
theorem qU.refl (V:World) (R:Nat) (v:Value):qU V V R v v:=⟨fun _ _ _ _=>rfl,fun _ h=>.inl h,Nat.le_refl _⟩
theorem qU.grown (h:qU V W R v v1) (hg:W.grownBy W' none):qU V W' R v v1 :=
 ⟨fun k h1 h2 h3=>(hg.block k (Nat.lt_of_lt_of_le h1 h.size) (by simp)).trans (h.keep k h1 h2 h3),h.blk,Nat.le_trans h.size hg.size⟩
theorem qU.trans (h:qU V W R v v1) (q:qU W W' R v1 v2):qU V W' R v v2 :=
 ⟨fun k h1 h2 h3=>(q.keep k (Nat.lt_of_lt_of_le h1 h.size) (fun c=>by
   rcases h.blk k c.symm with e | e
   ·exact h2 e.symm
   ·omega) h3).trans (h.keep k h1 h2 h3),
  fun k e=>by
   rcases q.blk k e with e1 | e1
   ·exact h.blk k e1
   ·exact .inr (Nat.le_trans h.size e1),
  Nat.le_trans h.size q.size⟩
theorem mQ.kept (h:mQ W0 R base fl ws v W) (hg:W.grownBy W' none):mQ W0 R base fl ws v W' :=
 ⟨ya h.gr hg,h.lo,h.blk.grown hg (by simp),h.row.kept hg (Decidable.em _)⟩
theorem mQ.step (h:mQ W0 R base fl ws v V) (hown:w3.ownsRow W0.heap.size 3 1 v' (ws.length+1) (ws.map (Value.int .i64) ++ [.int .i64 x])) (hg:V.grownBy w3 v.ownBlock) (hat:v'.ownBlock=v.ownBlock\/v'.ownBlock=some V.heap.size) :
  mQ W0 R base fl (ws ++ [x]) v' (w3.setCell ⟨R,2,none⟩ v')/\qU V (w3.setCell ⟨R,2,none⟩ v') R v v':=by
 have b3:=yy h.blk hg (aW.own h.row) (by decide);have gs:=yi w3 R 2 v';refine ⟨⟨?_,h.lo,?_,?_⟩,⟨fun k h1 h2 h3=>?_,fun k e=>?_,Nat.le_trans hg.size gs.size⟩⟩
 ·exact yD (yD h.gr hg (fun k e=>(h.row.lt k e).1)) gs (by intro k e; simp at e; have:=h.lo; omega)
 ·simpa using b3.set 2 v'
 ·have:=yw hown gs (aW.blk b3) (by decide)
  rw [fE,o7,List.map_append];exact this
 ·rw [gs.block k (Nat.lt_of_lt_of_le h1 hg.size) (by simp; omega)];exact hg.block k h1 h2
 ·rcases hat with q | q
  ·exact .inl (q ▸ e)
  ·rw [q] at e;simp at e;exact .inr (by omega)
theorem mQ.other (h:mQ W0 R' base' VD ws' v2 V) (g:mQ W0 R base fl ws v V) (t:qU V W' R v v') (hW:W0.grownBy W' none) (hne:R'≠R) (ha:∀ k,v2.ownBlock=some k->v.ownBlock≠some k) :
  mQ W0 R' base' VD ws' v2 W'/\∀ k,v2.ownBlock=some k->v'.ownBlock≠some k:=by
 have nR:some R'≠v.ownBlock:=fun c=>by
  obtain ⟨cur,hc⟩:=aW.own g.row R' c.symm
  have:=hc.symm.trans h.blk
  simp at this
 refine ⟨⟨hW,h.lo,?_,?_⟩,fun k e c=>?_⟩
 ·have:=t.keep R' h.blk.lt nR hne
  exact this.trans h.blk
 ·refine ⟨h.row.1,?_⟩;rcases h.row.2 with q | ⟨g0,cap,cur,hv,hb,hg,r⟩
  ·exact .inl q
  ·refine .inr ⟨g0,cap,cur,hv,hb,?_,r⟩;have e2:v2.ownBlock=some g0:=by rw [hv]; rfl
   rw [t.keep g0 (h.row.lt g0 e2).2 (fun c=>ha g0 e2 c.symm) (fun c=>by
    have:=hg.symm.trans (c ▸ g.blk)
    simp at this)]
   exact hg
 ·rcases t.blk k c with q | q
  ·exact ha k e q
  ·have:=(h.row.lt k e).2
   omega
end
theorem yoj (n:Int):bits .and .i64 n 4294967295=n % 4294967296:=by
 have h1:(BitVec.ofInt 64 4294967295).toNat=2 ^ 32 - 1:=by decide
 have key:(BitVec.ofInt 64 n &&& BitVec.ofInt 64 4294967295).toNat=(n % ((2 ^ 64:Nat):Int)).toNat % 2 ^ 32:=by
  rw [BitVec.toNat_and,BitVec.toNat_ofInt,h1,Nat.and_two_pow_sub_one_eq_mod]
 show IntKind.i64.wrap ((BitVec.ofInt 64 n &&& BitVec.ofInt 64 4294967295).toNat:Nat)=_;rw [key,IntKind.wrap_i64];omega
theorem ymE (form:Nat) (n:Int):As.place' form n < 2 ^ 32:=by
 have a1:=kS n 0 20;have a2:=kS n 20 1;have a3:=kS n 1 10;have a4:=kS n 11 1;have a5:=kS n 12 8;have a6:=kS n 0 12;have a7:=kS n 12 1;have a8:=kS n 5 6;have a9:=kS n 1 4;have aa:=kS n 5 7;have ab:=kS n 0 5;unfold As.place'
 repeat' split
 ·omega
 ·exact Nat.or_lt_two_pow (Nat.or_lt_two_pow (Nat.or_lt_two_pow (by omega) (by omega)) (by omega)) (by omega)
 ·omega
 ·exact Nat.or_lt_two_pow (Nat.or_lt_two_pow (Nat.or_lt_two_pow (by omega) (by omega)) (by omega)) (by omega)
 ·exact Nat.or_lt_two_pow (by omega) (by omega)
 ·omega
theorem yme (op:Nat):As.iT.getD op 0 < 2 ^ 32:=by
 have h:∀ x∈As.iT,x < 2 ^ 32:=by decide
 rw [iJ]
 cases e:As.iT[op]? with
 | none=>simp
 | some x=>exact h x (List.mem_of_getElem? e)
theorem ypf (op rd dP fq:Nat) (n:Int):As.enc op rd dP fq n < 2 ^ 32:=by
 unfold As.enc As.gH;have p:=ymE (As.forms.getD op 0) n;have f:=yme op;have b1:=kS rd 0 5;have b2:=kS dP 0 5;have b3:=kS fq 0 5;generalize As.forms.getD op 0=form at *;have w0:=Nat.or_lt_two_pow f p;generalize As.iT.getD op 0 ||| As.place' form n=x0 at *;have w1:(if As.iE form then x0 ||| As.dB rd 0 5 * 128 else x0) < 2 ^ 32:=by
  split
  ·exact Nat.or_lt_two_pow w0 (by omega)
  ·exact w0
 dsimp only;generalize (if As.iE form then x0 ||| As.dB rd 0 5 * 128 else x0)=x1 at *;have w2:(if As.fV form then x1 ||| As.dB dP 0 5 * 32768 else x1) < 2 ^ 32:=by
  split
  ·exact Nat.or_lt_two_pow w1 (by omega)
  ·exact w1
 generalize (if As.fV form then x1 ||| As.dB dP 0 5 * 32768 else x1)=x2 at *;split
 ·exact Nat.or_lt_two_pow w2 (by omega)
 ·exact w2
theorem MF (op rd dP fq:Nat) (n:Int):0<=Ln.encZ op rd dP fq n/\Ln.encZ op rd dP fq n<=4294967295:=by
 unfold Ln.encZ;split
 ·omega
 ·have:=ypf op rd dP fq n
  omega
theorem yjd (ms:List Ln.Mod) (m:Ln.Mod) (ah off x:Int) (h0:0<=x) (h1:x<=4294967295):0<=Ln.linked ms m ah off x/\Ln.linked ms m ah off x<=4294967295:=by
 unfold Ln.linked Ln.jC;generalize (Ln.aG ah off 0 m.obj.aj).2=r
 repeat' split
 ·rw [yoj]; omega
 ·exact MF _ _ _ _ _
 ·exact MF _ _ _ _ _
 ·exact MF _ _ _ _ _
 ·exact MF _ _ _ _ _
 ·exact ⟨h0,h1⟩
def pY (xs:List Int):Prop:=∀ x∈xs,0<=x/\x<=4294967295
theorem pY.oD {xs:List Int} (h:j6 xs):pY xs:=by
 intro x hx;obtain ⟨i,hi,rfl⟩:=List.getElem_of_mem hx;exact h i hi
theorem pY.app {xs ys:List Int} (h:pY xs) (k:pY ys):pY (xs ++ ys):=by
 intro x hx;rcases List.mem_append.1 hx with q | q
 ·exact h x q
 ·exact k x q
theorem yjK (ms:List Ln.Mod) (m:Ln.Mod) (ah:Int):∀ (ws:List Int) (k:Nat),pY ws->pY (Ln.aU ms m ah k ws):=by
 intro ws
 induction ws with
 | nil=>intro k _ x hx; simp [Ln.aU] at hx
 | cons w ws ih =>
  intro k hw;have i:=ih (k+1) (fun x hx=>hw x (by simp [hx]));unfold Ln.aU;split
  ·intro x hx;rcases List.mem_cons.1 hx with rfl | hx
   ·have:=hw w (by simp)
    exact yjd ms m ah _ w this.1 this.2
   ·exact i x hx
  ·exact i
theorem Yj {o:Lk.Obj} (hv:yp o) (ah:Int):pY (yh o ah):=by
 unfold yh
 repeat' split
 ·exact pY.oD hv.2.2.1.1
 ·exact pY.oD hv.2.2.1.2.1
 ·exact pY.oD hv.2.2.1.2.2
 ·intro x hx; simp at hx
theorem ypg {base fl b:Int} {ws:List Int} (hf:0<=fl/\fl<=4294967295) (h:pY ws):pY (Ln.gB base fl b ws):=by
 unfold Ln.gB;refine h.app fun x hx=>?_
 have:=List.eq_of_mem_replicate hx
 omega
theorem RJ (ms:List Ln.Mod) (ah base fl:Int) (hf:0<=fl/\fl<=4294967295):∀ (l:List Ln.Mod) (ws:List Int),(∀ m∈l,yp m.obj)->pY ws->pY (Ln.region ms ah base fl l ws):=by
 intro l
 induction l with
 | nil=>intro ws _ h; exact h
 | cons m l ih =>
  intro ws hv h;unfold Ln.region;refine ih _ (fun x hx=>hv x (by simp [hx])) ?_;unfold Ln.jP;exact (ypg hf h).app (yjK ms m ah _ 0 (Yj (hv m (by simp)) ah))
theorem Wv (m:Ln.Mod) (ah:Int) (ws:List Int) (k:Nat) (a:Int):(Ln.aA m ah k ws a)[0]?=some a:=by
 cases ws <;> rfl
theorem yhu (ms:List Ln.Mod) (m:Ln.Mod) (ah:Int):∀ (ws:List Int) (k:Nat) (a:Int),(∀ i,i<=ws.length->some (Ln.address m ah (4 * (k+i:Nat)))=(Ln.aA m ah k ws a)[i]?)->4 * ((Ln.aU ms m ah k ws).length:Int)=Ln.aL m ah k ws a - a:=by
 intro ws
 induction ws with
 | nil=>intro k a _; simp [Ln.aU,Ln.aL]
 | cons w ws ih =>
  intro k a h;have h0:=h 0 (by simp);have h1:=h 1 (by simp);have tl:∀ i,i<=ws.length->some (Ln.address m ah (4 * (k+1+i:Nat)))=(Ln.aA m ah (k+1) ws (if Ln.stays m ah (4 * k) a then a+4 else a))[i]?:=by
   intro i hi
   have:=h (i+1) (by simp; omega)
   rw [show k+(i+1)=k+1+i by omega] at this;exact this
  have e:=ih (k+1) _ tl;have p1:(Ln.aA m ah k (w :: ws) a)[1]?=some (if Ln.stays m ah (4 * k) a then a+4 else a):=Wv m ah ws (k+1) _;have p0:(Ln.aA m ah k (w :: ws) a)[0]?=some a:=rfl;rw [p0] at h0;rw [p1] at h1;simp only [Option.some.injEq,Nat.add_zero] at h0 h1;have e4:(4 * ((k+1:Nat):Int))=4 * (k:Int)+4:=by omega
  rw [e4] at h1;have EF:Ln.aL m ah k (w :: ws) a=Ln.aL m ah (k+1) ws (if Ln.stays m ah (4 * k) a then a+4 else a):=rfl;rw [EF];unfold Ln.aU;rw [h0,h1];clear tl p0 p1 h0 h1 EF h ih;generalize Ln.stays m ah (4 * k) a=b at *
  cases b
  ·simp only [Bool.false_eq_true,if_false] at e ⊢;rw [if_neg (by omega)];exact e
  ·simp only [if_true] at e ⊢;rw [if_pos (by omega),gL];omega
def uU (ah:Nat) (ps:Ln.Mod->List Int):List Ln.Mod->Int->Int->Prop
 | [],t,e=>e=t
 | m :: r,t,e=>ps m=Ln.aT m ah t/\uU ah ps r (Ln.bU m ah t) e
theorem WW (m:Ln.Mod) (k:Nat):Ln.address m 1 (4 * (k:Int))=m.text.getD k 0:=by
 unfold Ln.address Ln.placeOf;rw [if_pos rfl,Int.tdiv_eq_ediv_of_nonneg (by omega),if_neg (by omega)]
 congr 1
 omega
theorem Xh (m:Ln.Mod) (k:Nat):Ln.address m 2 (4 * (k:Int))=m.far.getD k 0:=by
 unfold Ln.address Ln.placeOf;rw [if_neg (by decide),if_pos rfl,Int.tdiv_eq_ediv_of_nonneg (by omega),if_neg (by omega)]
 congr 1
 omega
theorem ylR (ms:List Ln.Mod) (m:Ln.Mod) (ah:Nat) (base fl t:Int) (ws:List Int) (ps:List Int) (hps:ps=Ln.aT m ah t) (had:∀ k:Nat,Ln.address m ah (4 * (k:Int))=ps.getD k 0) (h0:0<=t) (h1:t<=562949953421312) (hb:base % 4=0) (hl:base+4 * (ws.length:Int)=t) :
  base+4 * ((Ln.jP ms m ah base fl ws).length:Int)=Ln.bU m ah t:=by
 have R:=ru t (Ln.aJ m.obj ah) h0 (by omega) (uT _);have hbg:Ln.begin_ m ah t=Ln.rup t (Ln.aJ m.obj ah):=rfl;have pr:=Wy m ah (yh m.obj ah) 0 (Ln.begin_ m ah t);have lp:ps=Ln.aA m ah 0 (yh m.obj ah) (Ln.begin_ m ah t):=hps;have A0:Ln.address m ah 0=Ln.begin_ m ah t:=by
  have:=had 0
  rw [Int.ofNat_zero,Int.mul_zero] at this;rw [this,iJ,lp,Wv];rfl
 have C:=yhu ms m ah (yh m.obj ah) 0 (Ln.begin_ m ah t) (fun i hi=>by
  rw [Nat.zero_add,had i,lp,iJ,gy (by rw [pr.1]; omega)];rfl)
 unfold Ln.jP;rw [fE,Kw,A0];unfold Ln.bU;rw [hbg] at C ⊢;omega
theorem MU (ms:List Ln.Mod) (ah:Nat) (hs:ah=1\/ah=2) (ps:Ln.Mod->List Int) (base fl:Int) (hb:base % 4=0) (had:∀ (m:Ln.Mod) (k:Nat),Ln.address m ah (4 * (k:Int))=(ps m).getD k 0) :
  ∀ (l:List Ln.Mod) (ws:List Int) (t e:Int),(∀ m∈l,yp m.obj)->0<=t->t+5000 * l.length<=1200000000->base+4 * (ws.length:Int)=t->uU ah ps l t e->base+4 * ((Ln.region ms ah base fl l ws).length:Int)=e:=by
 intro l
 induction l with
 | nil=>intro ws t e _ _ _ hl hc; unfold Ln.region; unfold uU at hc; omega
 | cons m l ih =>
  intro ws t e hv h0 h1 hl hc;unfold uU at hc;simp only [gL] at h1;have r:=CZ (hv m (by simp)) ah hs t h0 (by omega);unfold Ln.region;exact ih _ (Ln.bU m ah t) e (fun x hx=>hv x (by simp [hx])) (by omega) (by omega) (ylR ms m ah base fl t ws (ps m) hc.1 (had m) h0 (by omega) hb hl) hc.2
def uZ (ah:Nat):List Ln.Mod->Int->Int
 | [],t=>t
 | m :: r,t=>uZ ah r (Ln.bU m ah t)
theorem WG (ah:Nat) (hs:ah=1\/ah=2):∀ (l:List Ln.Mod) (t:Int),(∀ m∈l,yp m.obj)->0<=t->t+5000 * l.length<=1200000000->t<=uZ ah l t/\uZ ah l t<=t+4815 * l.length:=by
 intro l
 induction l with
 | nil=>intro t _ _ _; simp [uZ]
 | cons m l ih =>
  intro t hv h0 h1;simp only [gL] at h1 ⊢;have r:=CZ (hv m (by simp)) ah hs t h0 (by omega);have q:=ih (Ln.bU m ah t) (fun x hx=>hv x (by simp [hx])) (by omega) (by omega);unfold uZ;omega
theorem WL:∀ (ms:List Ln.Mod) (t f d:Int),uU 1 Ln.Mod.text (Ln.bB ms t f d) t (uZ 1 ms t)/\uU 2 Ln.Mod.far (Ln.bB ms t f d) f (uZ 2 ms f):=by
 intro ms
 induction ms with
 | nil=>intro t f d; exact ⟨rfl,rfl⟩
 | cons m ms ih =>
  intro t f d;have q:=ih (Ln.bU m 1 t) (Ln.bU m 2 f) (Ln.rup d (Ln.aJ m.obj 3)+4 * m.obj.data.length);unfold Ln.bB uU uZ;have e1:Ln.bU (Ln.jS m t f d) 1 t=Ln.bU m 1 t:=Mf (m:=m) (m':=Ln.jS m t f d) rfl rfl 1 t;have e2:Ln.bU (Ln.jS m t f d) 2 f=Ln.bU m 2 f:=Mf (m:=m) (m':=Ln.jS m t f d) rfl rfl 2 f;rw [e1,e2];exact ⟨⟨(Mq (m:=m) (m':=Ln.jS m t f d) rfl rfl 1 t).symm,q.1⟩,(Mq (m:=m) (m':=Ln.jS m t f d) rfl rfl 2 f).symm,q.2⟩
theorem Md (ah:Nat) (ps:Ln.Mod->List Int) (hps:∀ (m:Ln.Mod) (b:Int),ps { m with bss:=b }=ps m):∀ (ms:List Ln.Mod) (b t e:Int),uU ah ps ms t e->uU ah ps (Ln.bI ms b) t e:=by
 intro ms
 induction ms with
 | nil=>intro b t e h; exact h
 | cons m ms ih =>
  intro b t e h;unfold uU at h;unfold Ln.bI uU;have e1:Ln.bU { m with bss:=Ln.rup b (Ln.aJ m.obj 4) } ah t=Ln.bU m ah t:=Mf (m:=m) (m':={ m with bss:=Ln.rup b (Ln.aJ m.obj 4) }) rfl rfl ah t;have e2:Ln.aT { m with bss:=Ln.rup b (Ln.aJ m.obj 4) } ah t=Ln.aT m ah t:=Mq (m:=m) (m':={ m with bss:=Ln.rup b (Ln.aJ m.obj 4) }) rfl rfl ah t;rw [e1,e2,hps];exact ⟨h.1,ih _ _ _ h.2⟩
def xV:List Ln.Mod->Int->Int->Prop
 | [],d,e=>e=d
 | m :: r,d,e=>m.data=Ln.rup d (Ln.aJ m.obj 3)/\xV r (Ln.rup d (Ln.aJ m.obj 3)+4 * m.obj.data.length) e
theorem WX:∀ (ms:List Ln.Mod) (t f d:Int),xV (Ln.bB ms t f d) d (Ln.bH ms d):=by
 intro ms
 induction ms with
 | nil=>intro t f d; rfl
 | cons m ms ih=>intro t f d; unfold Ln.bB xV Ln.bH; exact ⟨rfl,ih _ _ _⟩
theorem WK:∀ (ms:List Ln.Mod) (b d e:Int),xV ms d e->xV (Ln.bI ms b) d e:=by
 intro ms
 induction ms with
 | nil=>intro b d e h; exact h
 | cons m ms ih=>intro b d e h; unfold xV at h; unfold Ln.bI xV; exact ⟨h.1,ih _ _ _ h.2⟩
theorem yiB (ms:List Ln.Mod) (m:Ln.Mod):∀ (ws:List Int) (k:Nat),(Ln.aU ms m 3 k ws).length=ws.length:=by
 intro ws
 induction ws with
 | nil=>intro k; rfl
 | cons w ws ih =>
  intro k;unfold Ln.aU
  have:Ln.address m 3 (4 * (k:Int)) < Ln.address m 3 (4 * (k:Int)+4):=by
   unfold Ln.address;simp only [if_neg (show ¬ (3:Int)=1 by decide),if_neg (show ¬ (3:Int)=2 by decide),if_pos];omega
  rw [if_pos this,gL,ih,gL]
theorem XR (ms:List Ln.Mod) (base fl:Int) (hb:base % 4=0):∀ (l:List Ln.Mod) (ws:List Int) (d e:Int),(∀ m∈l,yp m.obj)->0<=d->d+5000 * l.length<=1200000000->base+4 * (ws.length:Int)=d->xV l d e->base+4 * ((Ln.region ms 3 base fl l ws).length:Int)=e:=by
 intro l
 induction l with
 | nil=>intro ws d e _ _ _ hl hc; unfold Ln.region; unfold xV at hc; omega
 | cons m l ih =>
  intro ws d e hv h0 h1 hl hc;unfold xV at hc;simp only [gL] at h1;have R:=ru d (Ln.aJ m.obj 3) h0 (by omega) (uT _);have hdl:m.obj.data.length<=64:=(hv m (by simp)).1.1.2.2;unfold Ln.region;refine ih _ _ e (fun x hx=>hv x (by simp [hx])) ?_ ?_ ?_ hc.2
  ·omega
  ·omega
  ·have A0:Ln.address m 3 0=m.data:=by unfold Ln.address; simp
   have W3:yh m.obj 3=m.obj.data:=rfl;unfold Ln.jP;rw [fE,Kw,A0,yiB,W3,hc.1];omega
theorem yiH:∀ (ms:List Ln.Mod) (b:Int),(∀ m∈ms,yp m.obj)->0<=b->b+5000 * ms.length<=1200000000->b<=Ln.fM ms b/\Ln.fM ms b<=b+271 * ms.length:=by
 intro ms
 induction ms with
 | nil=>intro b _ _ _; simp [Ln.fM]
 | cons m ms ih =>
  intro b hv h0 h1;simp only [gL] at h1 ⊢;have R:=ru b (Ln.aJ m.obj 4) h0 (by omega) (uT _);have hb:=(hv m (by simp)).1.2.1;have q:=ih (Ln.rup b (Ln.aJ m.obj 4)+4 * m.obj.bss) (fun x hx=>hv x (by simp [hx])) (by omega) (by omega);unfold Ln.fM;omega
theorem Xn:∀ (ms:List Ln.Mod) (d:Int),(∀ m∈ms,yp m.obj)->0<=d->d+5000 * ms.length<=1200000000->d<=Ln.bH ms d/\Ln.bH ms d<=d+271 * ms.length:=by
 intro ms
 induction ms with
 | nil=>intro b _ _ _; simp [Ln.bH]
 | cons m ms ih =>
  intro d hv h0 h1;simp only [gL] at h1 ⊢;have R:=ru d (Ln.aJ m.obj 3) h0 (by omega) (uT _);have hdl:m.obj.data.length<=64:=(hv m (by simp)).1.1.2.2;have q:=ih (Ln.rup d (Ln.aJ m.obj 3)+4 * m.obj.data.length) (fun x hx=>hv x (by simp [hx])) (by omega) (by omega);unfold Ln.bH;omega
end Go.Proofs.YtelehpmjhjljgaaGreatDoor
