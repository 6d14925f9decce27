
import Derived.Test.YtpgklkhgfcjceaaGreatDoorV18
set_option maxHeartbeats 16000000
set_option maxRecDepth 100000
namespace Go.Proofs.YtpgklkhgfcjceaaGreatDoor
open Go.RowKit
theorem yiN:∀ (ms:List Ln.Mod) (t f d:Int),(Ln.dw ms t f d).map Ln.Mod.short=ms.map Ln.Mod.short:=by
 intro ms
 induction ms with
 | nil=>intro t f d; rfl
 | cons m ms ih=>intro t f d; unfold Ln.dw; rw [List.map_cons,ih,List.map_cons]; rfl
theorem yjQ:∀ (ms:List Ln.Mod) (b:Int),(Ln.eP ms b).map Ln.Mod.short=ms.map Ln.Mod.short:=by
 intro ms
 induction ms with
 | nil=>intro b; rfl
 | cons m ms ih=>intro b; unfold Ln.eP; rw [List.map_cons,ih,List.map_cons]
theorem ymM:∀ (ms:List Ln.Mod) (b:Int),(Ln.eP ms b).map Ln.Mod.obj=ms.map Ln.Mod.obj:=by
 intro ms
 induction ms with
 | nil=>intro b; rfl
 | cons m ms ih=>intro b; unfold Ln.eP; rw [List.map_cons,ih,List.map_cons]
theorem J5 (ms:List Ln.Mod) (t f d:Int):(Ln.lay t f d ms).map Ln.Mod.obj=ms.map Ln.Mod.obj:=by unfold Ln.lay; rw [ymM,Ng]
theorem yoa (ms:List Ln.Mod) (t f d:Int):(Ln.lay t f d ms).map Ln.Mod.short=ms.map Ln.Mod.short:=by unfold Ln.lay; rw [yjQ,yiN]
theorem Ni (ms:List Ln.Mod):(Ln.shorten ms).map Ln.Mod.obj=ms.map Ln.Mod.obj:=by unfold Ln.shorten; rw [List.map_map]; rfl
theorem Aw {ms ms':List Ln.Mod} (h:ms'.map Ln.Mod.obj=ms.map Ln.Mod.obj) (hv:∀ m∈ms,yv m.obj):∀ m∈ms',yv m.obj:=by
 intro m hm
 have:m.obj∈ms.map Ln.Mod.obj:=by rw [<- h]; exact List.mem_map_of_mem hm
 obtain ⟨x,hx,e⟩:=List.mem_map.1 this;rw [<- e];exact hv x hx
theorem Xw:∀ (ms:List Ln.Mod) (d:Int),(∀ m∈ms,yv m.obj)->0<=d->d+5000 * ms.length<=562949953421312->d<=Ln.dS ms d/\Ln.dS ms d<=d+5000 * ms.length:=by
 intro ms
 induction ms with
 | nil=>intro d _ _ _; simp [Ln.dS]
 | cons m ms ih =>
  intro d hv h0 h1;simp only [jm] at h1 ⊢;unfold Ln.dS;have r:=Ad d (Ln.aI m.obj 3) h0 (by omega) (yZ _);have hl:m.obj.data.length<=64:=(hv m (by simp)).1.1.2.2;have q:=ih (Ln.rup d (Ln.aI m.obj 3)+4 * m.obj.data.length) (fun x hx=>hv x (by simp [hx])) (by omega) (by omega);omega
theorem yjR (n:Nat):∀ (ms:List Ln.Mod) (t f d:Int),(∀ m∈ms,yI n m)->(∀ m∈ms,yv m.obj)->0<=t->t+5000 * ms.length<=562949953421312->0<=f->f+5000 * ms.length<=562949953421312->0<=d->d+5000 * ms.length<=562949953421312->∀ m∈Ln.dw ms t f d,yI n m:=by
 intro ms
 induction ms with
 | nil=>intro t f d _ _ _ _ _ _ _ _ m hm; simp [Ln.dw] at hm
 | cons x ms ih =>
  intro t f d hn hv a0 a1 b0 b1 c0 c1 m hm;simp only [jm] at a1 b1 c1;have vx:=hv x (by simp);have r1:=Hu vx 1 (.inl rfl) t a0 (by omega);have r2:=Hu vx 2 (.inr rfl) f b0 (by omega);have r3:=Ad d (Ln.aI x.obj 3) c0 (by omega) (yZ _);have hl:x.obj.data.length<=64:=vx.1.1.2.2;unfold Ln.dw at hm;rcases List.mem_cons.1 hm with rfl | hm
  ·have s1:=yI.pY (ps:=Ln.aZ x 1 t) (hn x (by simp)) (by omega) (fun p hp=>by have:=r1.2.2 p hp; omega);have s2:=yI.xE (ps:=Ln.aZ x 2 f) s1 (by omega) (fun p hp=>by have:=r2.2.2 p hp; omega);exact yI.tX (x:=Ln.rup d (Ln.aI x.obj 3)) s2 ⟨by omega,by omega⟩
  ·exact ih _ _ _ (fun y hy=>hn y (by simp [hy])) (fun y hy=>hv y (by simp [hy])) (by omega) (by omega) (by omega) (by omega) (by omega) (by omega) m hm
theorem ylg (n:Nat):∀ (ms:List Ln.Mod) (b:Int),(∀ m∈ms,yI n m)->(∀ m∈ms,yv m.obj)->0<=b->b+5000 * ms.length<=562949953421312->∀ m∈Ln.eP ms b,yI n m:=by
 intro ms
 induction ms with
 | nil=>intro b _ _ _ _ m hm; simp [Ln.eP] at hm
 | cons x ms ih =>
  intro b hn hv a0 a1 m hm;simp only [jm] at a1;have vx:=hv x (by simp);have r3:=Ad b (Ln.aI x.obj 4) a0 (by omega) (yZ _);have hl:=vx.1.2.1;unfold Ln.eP at hm;rcases List.mem_cons.1 hm with rfl | hm
  ·exact (hn x (by simp)).xD ⟨by omega,by omega⟩
  ·exact ih _ (fun y hy=>hn y (by simp [hy])) (fun y hy=>hv y (by simp [hy])) (by omega) (by omega) m hm
theorem TT {n:Nat} {ms:List Ln.Mod} {t f d:Int} (hn:∀ m∈ms,yI n m) (hv:∀ m∈ms,yv m.obj) (hl:ms.length<=4096) (ht:0<=t/\t<=4294967296) (hf:0<=f/\f<=4294967296) (hd:0<=d/\d<=4294967296):∀ m∈Ln.lay t f d ms,yI n m:=by
 have r:=Xw ms d hv hd.1 (by omega);exact ylg n _ _ (yjR n ms t f d hn hv ht.1 (by omega) hf.1 (by omega) hd.1 (by omega)) (Aw (Ng ms t f d) hv) (by omega) (by rw [Pq]; omega)
theorem Xn {n:Nat} {ms:List Ln.Mod} (hn:∀ m∈ms,yI n m):∀ m∈Ln.shorten ms,yI n m:=by
 intro m hm;unfold Ln.shorten at hm;obtain ⟨y,hy,rfl⟩:=List.mem_map.1 hm;exact (hn y hy).nO (by rw [rW]; exact (hn y hy).aj.1)
theorem ymN (Wf W0:World) (P:Nat) (bt bf bd:Int) (vm:Value) (bl gl:List Nat) (ms:List Ln.Mod) (st:Ln.gM) (no:Int) (W:World) (h:yU Wf W0 P bt bf bd vm bl gl ms st no W) (hn:∀ m∈ms,yI bl.length m) (hv:∀ m∈ms,yv m.obj) (hz:∀ m∈ms,m.short=[])
  (hbt:0<=bt/\bt<=4294967296) (hbf:0<=bf/\bf<=4294967296) (hbd:0<=bd/\bd<=4294967296) :
  Calls Tryz.prog 39 #[aW P] W fun e W'=>e = .returned (.tuple #[])/\yU Wf W0 P bt bf bd vm bl gl (Ln.layout bt bf bd ms) st (Ln.noughts bd (Ln.shorten (Ln.lay bt bf bd ms))) W':=by
 have hl:ms.length<=4096:=by rw [h.gK]; exact h.few
 have n1:=TT hn hv hl hbt hbf hbd;have v1:=Aw (J5 ms bt bf bd) hv;have z1:∀ m∈Ln.lay bt bf bd ms,m.short=[]:=by
  intro m hm
  have:m.short∈ms.map Ln.Mod.short:=by rw [<- yoa ms bt bf bd]; exact List.mem_map_of_mem hm
  obtain ⟨x,hx,e⟩:=List.mem_map.1 this;rw [<- e];exact hz x hx
 have c1:=hid (XK Wf W0 P bt bf bd vm bl gl ms st no W h hn hv hbt hbf hbd);have c2:=hid (fun W2 MU (h2:yU Wf W0 P bt bf bd vm bl gl (Ln.lay bt bf bd ms) st MU W2)=>ylG Wf W0 P bt bf bd vm bl gl _ st MU W2 h2 n1 z1);have c3:=hid (fun W2 MU (h2:yU Wf W0 P bt bf bd vm bl gl (Ln.shorten (Ln.lay bt bf bd ms)) st MU W2)=>XK Wf W0 P bt bf bd vm bl gl _ st MU W2 h2 (Xn n1) (Aw (Ni _) v1) hbt hbf hbd);have E:=hid (show Ln.layout bt bf bd ms=Ln.lay bt bf bd (Ln.shorten (Ln.lay bt bf bd ms)) from rfl);clear h hn hv hz n1 v1 z1 hbt hbf hbd hl;unfold aW at *;go_enter Tryz.func39,Tryz.ntmps39;go_wp2_with fail
 refine c1.o.mono ?_;rintro e W2 ⟨rfl,h2⟩;have H2:=hid h2;clear h2 c1;go_wp2_with fail;refine (c2.o _ _ H2.o).mono ?_;rintro e W3 ⟨rfl,h3⟩;have H3:=hid h3;clear h3 c2;go_wp2_with fail;refine (c3.o _ _ H3.o).mono ?_;rintro e W4 ⟨rfl,h4⟩;have H4:=hid h4;clear h4 c3;go_wp2
 go_end0
 rw [E.o];exact ⟨rfl,H4.o⟩
theorem Uj (f n:Int) (h0:0<=n) (h1:n<=4294967295):0<=gB f n/\gB f n < 32:=by
 unfold gB;split
 ·rw [low (n / 128) 5 (by decide) 31 32 rfl rfl (by omega) (by omega)]; omega
 ·decide
theorem Y6 (f n:Int) (h0:0<=n) (h1:n<=4294967295):0<=bL f n/\bL f n < 32:=by
 unfold bL;split
 ·rw [low (n / 32768) 5 (by decide) 31 32 rfl rfl (by omega) (by omega)]; omega
 ·decide
theorem Y7 (f n:Int) (h0:0<=n) (h1:n<=4294967295):0<=jG f n/\jG f n < 32:=by
 unfold jG;split
 ·rw [low (n / 1048576) 5 (by decide) 31 32 rfl rfl (by omega) (by omega)]; omega
 ·decide
theorem ypM (f n:Int) (h0:0<=n) (h1:n<=4294967295):-2147483648<=Mc.jq f n/\Mc.jq f n<=2147483647:=by
 unfold Mc.jq Mc.v2 Mc.v4 Mc.v5;split
 ·omega
 split
 ·split <;> omega
 split
 ·split <;> omega
 split
 ·split <;> omega
 split
 ·split <;> omega
 ·decide
theorem ync (n:Int):Mc.kH n<=25:=by
 unfold Mc.kH
 cases h:(List.range 26).find? (fun k=>decide (1<=k) && decide (Is k n)) with
 | none=>simp
 | some k =>
  have:=List.mem_range.1 (List.mem_of_find?_eq_some h)
  simp;omega
def Im.uP (m:Im.dZ):Prop:=(∀ i,0<=m.T.getD i 0/\m.T.getD i 0 < 4294967296)/\∀ i,0<=m.F.getD i 0/\m.F.getD i 0 < 4294967296
theorem ynH {m:Im.dZ} (h:Im.uP m) {a w:Int} (hc:Im.code m a=some w):0<=w/\w<=4294967295:=by
 unfold Im.code at hc;split at hc
 ·simp only [Option.some.injEq] at hc
  have:=h.1 (Im.place m.text m.T.length a).toNat
  omega
 split at hc
 ·simp only [Option.some.injEq] at hc
  have:=h.2 (Im.place m.far m.F.length a).toNat
  omega
 ·cases hc
theorem yok (W0:World) (b g:Nat) (ai:Option Addr) (ci:Nat) (ins:List Int) (st:Mc.St) (vd vo:Value) (m:Im.dZ) (W:World) (h:yw W0 b g (.slice ai ins.length ci) st vd vo W) (hI:mQ W0 g m) (hT:Im.jF m) (hW:Im.uP m) (hin:yy W0 ai ins) (hl:ins.length<=16) (ht:dQ W0) (hs:st.steps < 65536)
  (cD:∀ (st:Mc.St) (op rd au aF n:Int) (W:World),nW W0 b g ai ci ins st vd vo m rd au aF n W->0<=op/\op<=25 ->
   Calls Tryz.prog 83 #[.pointer (some ⟨b,0,none⟩),bC op rd au aF n] W fun e W'=>e = .returned (.tuple #[])/\lU W0 b g (.slice ai ins.length ci) (Mc.doIt m ins op rd au aF n st) W') :
  Calls Tryz.prog 48 #[.pointer (some ⟨b,0,none⟩)] W fun e W'=>e = .returned (.tuple #[])/\lU W0 b g (.slice ai ins.length ci) (Mc.step m ins st) W':=by
 have H:=hid h;have c40:=h.c.2.2.2.2.2.2.2.2.1;have f40:=h.free 40;have hp:=h.ok.pc;have x1:IntKind.i64.wrap ((st.steps:Int)+1)=(st.steps:Int)+1:=IntWalk.i64_in _ ⟨by omega,by omega⟩;have x2:IntKind.i64.wrap (st.pc+4)=st.pc+4:=IntWalk.i64_in _ ⟨by omega,by omega⟩;have H1:Hd (yw W0 b g (.slice ai ins.length ci) { st with steps:=st.steps+1 } vd vo (W.setCell ⟨b,40,none⟩ (.int .i64 ((st.steps:Int)+1)))):=by
  have:=h.CS (st.steps+1) (by omega)
  rw [show ((st.steps+1:Nat):Int)=(st.steps:Int)+1 by omega] at this;exact this
 have cC:=hid (fun V (hV:yw W0 b g (.slice ai ins.length ci) { st with steps:=st.steps+1 } vd vo V)=>Px g m st.pc V (hI.kept hV.gr) hT hp.1 hp.2);have cW:=hid (fun W=>Dz (st.pc+4) W);have CD:=hid cD;have HI:=hid hI;have HT:=hid hT;have HN:=hid hin;have TB:=hid ht;have CWD:=hid (fun w (hc:Im.code m st.pc=some w)=>ynH hW hc);obtain ⟨X,hX⟩:∃ X,X=Mc.step m ins st:=⟨_,rfl⟩
 rw [<- hX];unfold Mc.step at hX;have RX:=hid hX;clear h hI hT hin ht cD hX;generalize Im.code m st.pc=cd at *;go_enter Tryz.func48,Tryz.ntmps48;go_wp2;generalize W.setCell ⟨b,40,none⟩ (.int .i64 ((st.steps:Int)+1))=V at *;clear c40 f40 x1 H;have c0:=H1.o.c.1;have pE:=H1.o.c.2.2.2.1
 go_quiet ((go_at_call 76; refine Calls.quiet_of (cC.o _ ?_); exact H1.o.grown (yf (World.grownBy.refl _ none) _)))
 have H2:=hid (H1.o.grown (yf (World.grownBy.refl _ none) nq));clear c0 pE H1 cC;generalize V.drewN nq=V2 at *;have pE:=H2.o.c.2.2.2.1;have VT:=H2.o.c.2.2.2.2.1;have f36:=H2.o.free 36
 cases cd with
 | none =>
  simp only at RX;have c37:=H2.o.c.2.2.2.2.2.1;have f37:=H2.o.free 37;go_wp2
  (try simp only [Exit.inBlock,Exit.then]); refine bodyPost_ret (results_none rfl _ _ _) rfl ?_
  rw [RX.o];exact ⟨rfl,_,_,H2.o.kS 2⟩
 | some wv =>
  have wr:=CWD.o wv rfl;simp only at RX;go_wp2_with fail;refine (cW.o _).mono ?_;rintro e V3 ⟨rfl,hV⟩;subst hV;have H3:=hid (H2.o.tT (Mc.wd (st.pc+4)) (Mc.gH _));go_wp2_with fail;generalize V3.setCell ⟨b,36,none⟩ (.int .i64 (Mc.wd (st.pc+4)))=V4 at *;clear pE VT f36 H2 cW x2;have o1:=ync wv;have p1:=Uj (Mc.aV wv) wv wr.1 wr.2;have p2:=Y6 (Mc.aV wv) wv wr.1 wr.2;have p3:=Y7 (Mc.aV wv) wv wr.1 wr.2;have p4:=ypM (Mc.aV wv) wv wr.1 wr.2;have cE:=hid (SE wv V4 (TB.o.grown H3.o.gr) wr.1 wr.2);generalize Mc.kH wv=op at *;generalize gB (Mc.aV wv) wv=rd at *;generalize bL (Mc.aV wv) wv=au at *;generalize jG (Mc.aV wv) wv=aF at *
  generalize Mc.jq (Mc.aV wv) wv=n at *;refine cE.o.mono ?_;rintro e V5 ⟨rfl,hg⟩;have H4:=hid (H3.o.grown hg);have H5:=hid (H4.o.grown (aJ V5 (.cells #[.int .i64 op,.int .i64 rd,.int .i64 au,.int .i64 aF,.int .i64 n] 143) none));clear hg H3 cE;unfold bC;go_wp2_with fail;refine (CD.o _ op rd au aF n _ ⟨H5.o,HI.o,HT.o,HN.o,hl,p1,p2,p3,p4⟩ (by omega)).mono ?_;rintro e V6 ⟨rfl,Na,Nc,h6⟩;have H6:=hid h6;clear h6 H4 H5 CD;have pE:=H6.o.c.2.2.2.1;have VT:=H6.o.c.2.2.2.2.1;have f35:=H6.o.free 35;go_wp2
  go_end0
  rw [RX.o];exact ⟨rfl,_,_,H6.o.M5 _ H6.o.ok.next⟩
theorem yqO (n:Int):Mc.kH n<=25:=by
 unfold Mc.kH
 cases e:(List.range 26).find? (fun k=>decide (1<=k) && decide (Is k n)) with
 | none=>simp
 | some k =>
  have:=List.mem_of_find?_eq_some e
  have:=List.mem_range.1 this
  simp only [Option.getD_some];omega
namespace Ln
def encZ (op rd au aF:Nat) (n:Int):Int:=if op=0 then 0 else (As.enc op rd au aF n:Nat)
def gT (w n:Int):Int:=encZ (Mc.kH w) (gB (Mc.aV w) w).toNat (bL (Mc.aV w) w).toNat (jG (Mc.aV w) w).toNat n
def jv (w:Int) (first:Bool) (v:Int):Int:=gT w (if first then As.dG v else As.bP v)
end Ln
theorem XO (op rd au aF:Nat) (n:Int) (w:World) (ht:dQ w) (h2:op<=25) :
  Calls Tryz.prog 194 #[ru op rd au aF n] w fun e w'=>e = .returned (.int .i64 (Ln.encZ op rd au aF n))/\w.grownBy w' none:=by
 by_cases h:op=0
 ·subst h;have A0:=hid (aJ w (.cells #[.int .i64 0,.int .i64 rd,.int .i64 au,.int .i64 aF,.int .i64 n] 143) none);unfold ru;go_enter Tryz.func194,Tryz.ntmps194;go_wp2;go_ret;exact ⟨rfl,A0.o⟩
 ·have:=za op rd au aF n w ht (by omega) h2
  unfold Ln.encZ;rw [if_neg h];exact this
theorem Xa (x n:Int) (w:World) (ht:dQ w) (h0:0<=x) (h1:x<=4294967295) :
  Calls Tryz.prog 171 #[.int .i64 x,.int .i64 n] w fun e w'=>e = .returned (.int .i64 (Ln.gT x n))/\w.grownBy w' none:=by
 have cD:=hid (SE x w ht h0 h1);have r1:=Uj (Mc.aV x) x h0 h1;have r2:=Y6 (Mc.aV x) x h0 h1;have r3:=Y7 (Mc.aV x) x h0 h1;have E:=hid (show Ln.gT x n=Ln.encZ (Mc.kH x) (gB (Mc.aV x) x).toNat (bL (Mc.aV x) x).toNat (jG (Mc.aV x) x).toNat n from rfl);have ho:=yqO x;have HT:=hid ht;generalize Mc.kH x=op at *;generalize Mc.jq (Mc.aV x) x=nf at *;generalize gB (Mc.aV x) x=rd at *;generalize bL (Mc.aV x) x=au at *;generalize jG (Mc.aV x) x=aF at *;obtain ⟨a,rfl⟩:∃ a:Nat,rd=(a:Int):=⟨rd.toNat,by omega⟩
 obtain ⟨b,rfl⟩:∃ b:Nat,au=(b:Int):=⟨au.toNat,by omega⟩
 obtain ⟨c,rfl⟩:∃ c:Nat,aF=(c:Int):=⟨aF.toNat,by omega⟩
 rw [Int.toNat_natCast,Int.toNat_natCast,Int.toNat_natCast] at E;have cE:=hid (fun W hW=>XO op a b c n W hW ho);clear ht r1 r2 r3;unfold bC at cD;unfold ru at cE;go_enter Tryz.func171,Tryz.ntmps171;go_wp2_with fail;refine cD.o.mono ?_;rintro e W2 ⟨rfl,h2⟩;have A2:=hid (ya h2 (aJ W2 (.cells #[.int .i64 op,.int .i64 a,.int .i64 b,.int .i64 c,.int .i64 n] 143) none));clear h2;go_wp2_with fail;refine (cE.o _ (HT.o.grown A2.o)).mono ?_;rintro e W3 ⟨rfl,h3⟩;have G3:=hid (ya A2.o h3);clear h3 cE cD;go_wp2;go_ret;exact ⟨by rw [E.o]; rfl,G3.o⟩
theorem ykN (x:Int) (f:Bool) (v:Int) (w:World) (ht:dQ w) (h0:0<=x) (h1:x<=4294967295) (h2:-2147483648<=v) (h3:v<=2147483647) :
  Calls Tryz.prog 174 #[.int .i64 x,.bool f,.int .i64 v] w fun e w'=>e = .returned (.int .i64 (Ln.jv x f v))/\w.grownBy w' none:=by
 have cP:=hid (Tv v w h2 h3);have cN:=hid (fun n=>Xa x n w ht h0 h1)
 cases f
 ·have E:=hid (show Ln.jv x false v=Ln.gT x (As.bP v) from rfl);clear ht;go_enter Tryz.func174,Tryz.ntmps174;go_wp2_with fail;refine cP.o.mono ?_;rintro e w' ⟨rfl,hw⟩;rw [hw];clear hw w' cP;go_wp2_with fail;refine (cN.o _).mono ?_;rintro e W2 ⟨rfl,h5⟩;have G:=hid h5;clear h5 cN;go_wp2;go_ret;exact ⟨by rw [E.o]; rfl,G.o⟩
 ·have E:=hid (show Ln.jv x true v=Ln.gT x (As.dG v) from rfl);clear ht;go_enter Tryz.func174,Tryz.ntmps174;go_wp2_with fail;refine cP.o.mono ?_;rintro e w' ⟨rfl,hw⟩;rw [hw];clear hw w' cP;go_wp2_with fail;refine (cN.o _).mono ?_;rintro e W2 ⟨rfl,h5⟩;have G:=hid h5;clear h5 cN;go_wp2;go_ret;exact ⟨by rw [E.o]; rfl,G.o⟩
namespace Ln
def jL (ms:List Mod) (m:Mod) (r:Lk.Rel):Int:=encZ 3 (gB (Mc.aV ((yV m.obj r).getD 1 0)) ((yV m.obj r).getD 1 0)).toNat 0 0 (distance ms m r)
end Ln
theorem yiU (bl:List Nat) (ms:List Ln.Mod) (b g:Nat) (m:Ln.Mod) (r:Lk.Rel) (w:World) (ht:dQ w) (h:Ei w bl ms) (hm:yD w bl b g m) (hn:yI bl.length m) (hv:yv m.obj) (hr:r∈m.obj.aj) (hk:r.kind=4) :
  Calls Tryz.prog 173 #[aW b,fK r] w fun e w'=>e = .returned (.int .i64 (Ln.jL ms m r))/\w.grownBy w' none:=by
 obtain ⟨i,hi,OE⟩:=List.getElem_of_mem hr;have RO:Gv m.obj r:=by rw [<- OE]; exact (hv.2.2.2.2 i hi).1
 have ha:=RO.2.1;have hab:=RO.2.2.2.2.1;have hrs:qL (yx m.obj r.ah):=by
  unfold yx
  repeat' split
  ·exact hv.2.2.1.1
  ·exact hv.2.2.1.2.1
  ·exact hv.2.2.1.2.2
  ·intro i h; simp at h
 obtain ⟨f1,f2,-,-⟩:=yet ha hab hrs;have sp:(nX r).toNat=2:=by unfold nX; rw [if_pos (.inl hk)]; rfl
 rw [sp] at f1;have HM:=hid hm;have HH:=hid h;have HT:=hid ht;obtain ⟨v1,v2,v3,v4,q0,q1,-⟩:=hm;have k0:w.cell? ⟨b,0,none⟩=some (.pointer (some ⟨g,0,none⟩)):=q0.cell 0;have cA:=hid (fun W (hg:w.grownBy W none)=>SH g m.obj r W (q1.kept hg) (Pv hv) ha hab);rw [sp] at cA;have cD:=hid (fun W (hg:w.grownBy W none)=>OX bl ms b g m r W (HH.o.kept hg) (HM.o.kept hg) hn (hn.aj.2 r hr).2.1 (hn.aj.2 r hr).2.2);have hx:1 < (yV m.obj r).length:=by omega
 have E:=hid (show Ln.jL ms m r=Ln.encZ 3 (gB (Mc.aV (yV m.obj r)[1]) (yV m.obj r)[1]).toNat 0 0 (Ln.distance ms m r) by unfold Ln.jL; rw [lC,j3 hx]; rfl);have xr:=f2 1 hx;have rr:=Uj (Mc.aV (yV m.obj r)[1]) (yV m.obj r)[1] xr.1 xr.2;have cC:=hid (fun W (hg:w.grownBy W none)=>SE (yV m.obj r)[1] W (HT.o.grown hg) xr.1 xr.2);have IX:=hid (fun W ao (hI:yy W ao (yV m.obj r))=>show ∃ sg off,ao=some ⟨sg,off,none⟩/\W.cell? ⟨sg,off+1,none⟩=some (.int .i64 (yV m.obj r)[1]) from by
  obtain ⟨sg,off,e,hc⟩:=hI (by omega);exact ⟨sg,off,e,hc 1 hx⟩)
 generalize Mc.kH (yV m.obj r)[1]=op at *;generalize Mc.jq (Mc.aV (yV m.obj r)[1]) (yV m.obj r)[1]=nf at *;generalize bL (Mc.aV (yV m.obj r)[1]) (yV m.obj r)[1]=au at *;generalize jG (Mc.aV (yV m.obj r)[1]) (yV m.obj r)[1]=aF at *;generalize gB (Mc.aV (yV m.obj r)[1]) (yV m.obj r)[1]=rd at *;obtain ⟨a,rfl⟩:∃ a:Nat,rd=(a:Int):=⟨rd.toNat,by omega⟩
 rw [Int.toNat_natCast] at E;generalize (yV m.obj r)[1]=x at *;have cE:=hid (fun W (hg:w.grownBy W none)=>XO 3 a 0 0 (Ln.distance ms m r) W (HT.o.grown hg) (by omega));generalize Ln.distance ms m r=ds at *;have hbl:b < w.heap.size:=q0.lt;clear q0 q1 h ht hn hv hr RO ha hab hrs f1 f2 sp hx xr rr OE hi hk;unfold aW fK bC ru at *;obtain ⟨rs,ro,rk,ry,ra⟩:=r;dsimp only at *;have A0:=hid (aJ w (.cells #[.int .i64 rs,.int .i64 ro,.int .i64 rk,.int .i64 ry,.int .i64 ra] 102) none);have B0:=hid (yc.new w #[.int .i64 rs,.int .i64 ro,.int .i64 rk,.int .i64 ry,.int .i64 ra] 102);have hbn:b≠w.heap.size:=by omega
 go_enter Tryz.func173,Tryz.ntmps173;go_wp2;have kb:=yd k0 A0.o;clear k0;generalize w.alloc (.cells #[.int .i64 rs,.int .i64 ro,.int .i64 rk,.int .i64 ry,.int .i64 ra] 102)=W1 at *;generalize w.heap.size=L at *;have c0:W1.cell? ⟨L,0,none⟩=some (.int .i64 rs):=B0.o.cell 0;have c1:W1.cell? ⟨L,1,none⟩=some (.int .i64 ro):=B0.o.cell 1;have c2:W1.cell? ⟨L,2,none⟩=some (.int .i64 rk):=B0.o.cell 2;have c3:W1.cell? ⟨L,3,none⟩=some (.int .i64 ry):=B0.o.cell 3;have c4:W1.cell? ⟨L,4,none⟩=some (.int .i64 ra):=B0.o.cell 4;have KB:=hid (show W1.drew.cell? ⟨b,0,none⟩=some (.pointer (some ⟨g,0,none⟩)) from kb)
 have BD:=hid (fun W (hq:W1.drew.grownBy W none)=>show yc W L #[.int .i64 rs,.int .i64 ro,.int .i64 rk,.int .i64 ry,.int .i64 ra] 102 from (uo B0.o).grown hq (by simp))
 go_region_held3 (fun w'=>w'.cell? ⟨b,0,none⟩=some (.pointer (some ⟨g,0,none⟩))/\w'.cell? ⟨L,0,none⟩=some (.int .i64 rs)/\w'.cell? ⟨L,1,none⟩=some (.int .i64 ro)/\w'.cell? ⟨L,2,none⟩=some (.int .i64 rk)/\w'.cell? ⟨L,3,none⟩=some (.int .i64 ry)/\w'.cell? ⟨L,4,none⟩=some (.int .i64 ra))
  (go_keep)
  (first | (go_at_call 207; refine (cA.o _ (yh A0.o)).mono ?_; rintro e w' ⟨ao,cap,rfl,hI,hq⟩; have bq:=BD.o _ hq; have kq:=yd KB.o hq; have s0:=bq.cell 0; have s1:=bq.cell 1; have s2:=bq.cell 2; have s3:=bq.cell 3; have s4:=bq.cell 4; simp only [bI,bN,bK] at s0 s1 s2 s3 s4))
 obtain ⟨sg,off,rfl,cx⟩:=IX.o _ _ hI;have GQ:=hid (ya (yh A0.o) hq);have BQ:=hid bq;clear hq hI bq kq s0 s1 s2 s3 s4 c0 c1 c2 c3 c4 kb KB BD;go_wp2_with fail;refine (cC.o _ GQ.o).mono ?_;rintro e W4 ⟨rfl,h4⟩;have A4:=aJ W4 (.cells #[.int .i64 op,.int .i64 a,.int .i64 au,.int .i64 aF,.int .i64 nf] 143) none;have G4:=hid (ya (ya GQ.o h4) A4);have B4:=hid (BQ.o.grown (ya h4 A4) (by simp));have J4:=hid (yc.new W4 #[.int .i64 op,.int .i64 a,.int .i64 au,.int .i64 aF,.int .i64 nf] 143);clear h4 A4 cC cx BQ GQ;go_wp2;generalize W4.alloc (.cells #[.int .i64 op,.int .i64 a,.int .i64 au,.int .i64 aF,.int .i64 nf] 143)=W5 at *
 generalize W4.heap.size=J at *;have c0:W5.cell? ⟨L,0,none⟩=some (.int .i64 rs):=B4.o.cell 0;have c1:W5.cell? ⟨L,1,none⟩=some (.int .i64 ro):=B4.o.cell 1;have c2:W5.cell? ⟨L,2,none⟩=some (.int .i64 rk):=B4.o.cell 2;have c3:W5.cell? ⟨L,3,none⟩=some (.int .i64 ry):=B4.o.cell 3;have c4:W5.cell? ⟨L,4,none⟩=some (.int .i64 ra):=B4.o.cell 4;have cj:W5.cell? ⟨J,1,none⟩=some (.int .i64 a):=J4.o.cell 1;have KD:=hid (fun W (hq:W5.drew.grownBy W none)=>And.intro (yd (show W5.drew.cell? ⟨J,1,none⟩=some (.int .i64 a) from cj) hq) (And.intro (yd (show W5.drew.cell? ⟨L,0,none⟩=some (.int .i64 rs) from c0) hq) (And.intro (yd (show W5.drew.cell? ⟨L,1,none⟩=some (.int .i64 ro) from c1) hq) (And.intro (yd (show W5.drew.cell? ⟨L,2,none⟩=some (.int .i64 rk) from c2) hq) (And.intro (yd (show W5.drew.cell? ⟨L,3,none⟩=some (.int .i64 ry) from c3) hq) (yd (show W5.drew.cell? ⟨L,4,none⟩=some (.int .i64 ra) from c4) hq))))))
 go_region_held3 (fun w'=>w'.cell? ⟨J,1,none⟩=some (.int .i64 a)/\w'.cell? ⟨L,0,none⟩=some (.int .i64 rs)/\w'.cell? ⟨L,1,none⟩=some (.int .i64 ro)/\w'.cell? ⟨L,2,none⟩=some (.int .i64 rk)/\w'.cell? ⟨L,3,none⟩=some (.int .i64 ry)/\w'.cell? ⟨L,4,none⟩=some (.int .i64 ra))
  (go_keep)
  (first | (go_at_call 107; refine (cD.o _ (yh G4.o)).mono ?_; rintro e w' ⟨rfl,hq⟩; obtain ⟨s0,s1,s2,s3,s4,s5⟩:=KD.o _ hq) | (go_at_call 194; refine (cE.o _ (ya (yh G4.o) hq)).mono ?_; rintro e w2 ⟨rfl,hq2⟩; obtain ⟨r0,r1,r2,r3,r4,r5⟩:=KD.o _ (ya hq hq2)))
 go_wp2;go_ret;exact ⟨by rw [E.o]; rfl,ya (ya (yh G4.o) hq) hq2⟩
namespace Ln
def pW (ms:List Mod) (m:Mod) (i:Int) (r:Lk.Rel) (off w:Int):Int :=
 if r.kind=1 then bits .and .i64 (target ms m r+r.addend) 4294967295
 else if r.kind=2\/r.kind=3 then gT w (distance ms m r)
 else if r.kind=4 then (if iW m.short i then jL ms m r else jv w (decide (off=r.off)) (distance ms m r))
 else if r.kind=5 then jv w (decide (off=r.off)) (target ms m r+r.addend)
 else w
def linked (ms:List Mod) (m:Mod) (ah off w:Int):Int:=pW ms m (aR ah off 0 m.obj.aj).1 (aR ah off 0 m.obj.aj).2 off w
end Ln
def Ua (ms:List Ln.Mod) (m:Ln.Mod):Prop:=∀ r∈m.obj.aj,(-2147483648<=Ln.distance ms m r/\Ln.distance ms m r<=2147483647)/\(0<=Ln.target ms m r/\Ln.target ms m r<=2147480000)
theorem ymR (bl:List Nat) (ms:List Ln.Mod) (b g:Nat) (m:Ln.Mod) (ah off x:Int) (w:World) (ht:dQ w) (h:Ei w bl ms) (hm:yD w bl b g m) (hn:yI bl.length m) (hv:yv m.obj) (hd:Ua ms m) (h0:0<=x) (h1:x<=4294967295) :
  Calls Tryz.prog 110 #[aW b,.int .i64 ah,.int .i64 off,.int .i64 x] w fun e w'=>e = .returned (.int .i64 (Ln.linked ms m ah off x))/\w.grownBy w' none:=by
 have HT:=hid ht;have HH:=hid h;have HM:=hid hm;have cR:=hid (X0 bl b g m ah off w hm (fun r hr=>⟨(hn.aj.2 r hr).1,by have:=(hn.aj.2 r hr).2; omega,(hn.aj.2 r hr).2.2⟩) hn.aj.1);have R:=hid (show Ln.linked ms m ah off x=Ln.pW ms m (Ln.aR ah off 0 m.obj.aj).1 (Ln.aR ah off 0 m.obj.aj).2 off x from rfl);have RM:=hid (show (Ln.aR ah off 0 m.obj.aj).2.kind≠0->(Ln.aR ah off 0 m.obj.aj).2∈m.obj.aj by
  rcases Pb ah off m.obj.aj 0 with e | ⟨i,hi,e⟩
  ·rw [e]; intro c; simp at c
  ·rw [e]; intro _; exact iq hi)
 have IX:0<=(Ln.aR ah off 0 m.obj.aj).1/\(Ln.aR ah off 0 m.obj.aj).1<=65535:=by
  rcases Pb ah off m.obj.aj 0 with e | ⟨i,hi,e⟩
  ·rw [e]; simp
  ·rw [e]; have:=hn.aj.1; simp; omega
 have cS:=hid (fun W (hg:w.grownBy W none)=>XP bl b g m (Ln.aR ah off 0 m.obj.aj).1 W (HM.o.kept hg) IX.1 IX.2 hn.short);generalize Ln.aR ah off 0 m.obj.aj=p at *;obtain ⟨i,r⟩:=p;dsimp only at *;have cD:=hid (fun W (hg:w.grownBy W none) (hr:r∈m.obj.aj)=>OX bl ms b g m r W (HH.o.kept hg) (HM.o.kept hg) hn (hn.aj.2 r hr).2.1 (hn.aj.2 r hr).2.2);have cT:=hid (fun W (hg:w.grownBy W none)=>XQ bl ms b g m r W (HH.o.kept hg) (HM.o.kept hg) hn);have cC:=hid (fun W (hg:w.grownBy W none) (hr:r∈m.obj.aj) (hk:r.kind=4)=>yiU bl ms b g m r W (HT.o.grown hg) (HH.o.kept hg) (HM.o.kept hg) hn hv hr hk);have cN:=hid (fun n W (hg:w.grownBy W none)=>Xa x n W (HT.o.grown hg) h0 h1)
 have cP:=hid (fun f v W (hg:w.grownBy W none) a1 a2=>ykN x f v W (HT.o.grown hg) h0 h1 a1 a2);have AD:=hid (show r∈m.obj.aj->(r.kind=1\/r.kind=5)->-2048<=r.addend/\r.addend<=2047 from fun hr hk=>by
  have:=(hn.aj.2 r hr).1
  unfold rU at this;rw [if_pos hk] at this;exact this)
 have HD:=hid hd;clear ht h hm hn hv hd IX;obtain ⟨rs,ro,rk,ry,ra⟩:=r;unfold aW fK at *;dsimp only at *;go_enter Tryz.func110,Tryz.ntmps110;go_wp2_with fail;refine cR.o.mono ?_;rintro e W2 ⟨rfl,h2⟩;dsimp only;have A2:=hid (ya h2 (aJ W2 (.cells #[.int .i64 rs,.int .i64 ro,.int .i64 rk,.int .i64 ry,.int .i64 ra] 102) none));have B2:=hid (yc.new W2 #[.int .i64 rs,.int .i64 ro,.int .i64 rk,.int .i64 ry,.int .i64 ra] 102);clear h2 cR;by_cases e1:rk=1
 ·subst e1;have hr:=RM.o (by decide);have E:=hid (show Ln.linked ms m ah off x=bits .and .i64 (Ln.target ms m ⟨rs,ro,1,ry,ra⟩+ra) 4294967295 by rw [R.o]; rfl);have tn:=(HD.o _ hr).2;have an:=AD.o hr (.inl rfl);generalize Ln.target ms m ⟨rs,ro,1,ry,ra⟩=t at *;have w1:IntKind.i64.wrap (t+ra)=t+ra:=IntWalk.i64_in _ ⟨by omega,by omega⟩;clear hr;go_wp2;generalize W2.alloc (.cells #[.int .i64 rs,.int .i64 ro,.int .i64 1,.int .i64 ry,.int .i64 ra] 102)=W3 at *;generalize W2.heap.size=L at *;have c0:W3.cell? ⟨L,0,none⟩=some (.int .i64 rs):=B2.o.cell 0;have c1:W3.cell? ⟨L,1,none⟩=some (.int .i64 ro):=B2.o.cell 1
  have c2:W3.cell? ⟨L,2,none⟩=some (.int .i64 1):=B2.o.cell 2;have c3:W3.cell? ⟨L,3,none⟩=some (.int .i64 ry):=B2.o.cell 3;have c4:W3.cell? ⟨L,4,none⟩=some (.int .i64 ra):=B2.o.cell 4;have BD:=hid (fun W (hq:W3.drew.grownBy W none)=>show yc W L #[.int .i64 rs,.int .i64 ro,.int .i64 1,.int .i64 ry,.int .i64 ra] 102 from (uo B2.o).grown hq (by simp))
  go_region_held3 (fun w'=>w'.cell? ⟨L,0,none⟩=some (.int .i64 rs)/\w'.cell? ⟨L,1,none⟩=some (.int .i64 ro)/\w'.cell? ⟨L,2,none⟩=some (.int .i64 1)/\w'.cell? ⟨L,3,none⟩=some (.int .i64 ry)/\w'.cell? ⟨L,4,none⟩=some (.int .i64 ra))
   (go_keep)
   (first | (go_at_call 168; refine (cT.o _ (yh A2.o)).mono ?_; rintro e w' ⟨rfl,hq⟩; have bq:=BD.o _ hq; have s0:=bq.cell 0; have s1:=bq.cell 1; have s2:=bq.cell 2; have s3:=bq.cell 3; have s4:=bq.cell 4; simp only [bI,bN,bK] at s0 s1 s2 s3 s4))
  go_wp2;go_ret;exact ⟨by rw [E.o]; rfl,ya (yh A2.o) hq⟩
 by_cases e2:rk=2
 ·subst e2;have hr:=RM.o (by decide);have E:=hid (show Ln.linked ms m ah off x=Ln.gT x (Ln.distance ms m ⟨rs,ro,2,ry,ra⟩) by rw [R.o]; rfl);have cE:=hid (cD.o _ A2.o hr);generalize Ln.distance ms m ⟨rs,ro,2,ry,ra⟩=t at *;clear hr;go_wp2_with fail;refine cE.o.mono ?_;rintro e W5 ⟨rfl,h5⟩;have G5:=hid (ya A2.o h5);clear h5 cE;go_wp2_with fail;refine (cN.o t _ G5.o).mono ?_;rintro e W6 ⟨rfl,h6⟩;have G6:=hid (ya G5.o h6);clear h6;go_wp2;go_ret;exact ⟨by rw [E.o]; rfl,G6.o⟩
 by_cases e3:rk=3
 ·subst e3;have hr:=RM.o (by decide);have E:=hid (show Ln.linked ms m ah off x=Ln.gT x (Ln.distance ms m ⟨rs,ro,3,ry,ra⟩) by rw [R.o]; rfl);have cE:=hid (cD.o _ A2.o hr);generalize Ln.distance ms m ⟨rs,ro,3,ry,ra⟩=t at *;clear hr;go_wp2_with fail;refine cE.o.mono ?_;rintro e W5 ⟨rfl,h5⟩;have G5:=hid (ya A2.o h5);clear h5 cE;go_wp2_with fail;refine (cN.o t _ G5.o).mono ?_;rintro e W6 ⟨rfl,h6⟩;have G6:=hid (ya G5.o h6);clear h6;go_wp2;go_ret;exact ⟨by rw [E.o]; rfl,G6.o⟩
 by_cases e4:rk=4
 ·subst e4;have hr:=RM.o (by decide);have RR:=hid (show Ln.linked ms m ah off x=if Ln.iW m.short i then Ln.jL ms m ⟨rs,ro,4,ry,ra⟩ else Ln.jv x (decide (off=ro)) (Ln.distance ms m ⟨rs,ro,4,ry,ra⟩) by rw [R.o]; rfl);have VZ:=hid (cC.o _ A2.o hr rfl);have cD2:=hid (fun W hg=>cD.o W hg hr);have dn:=(HD.o _ hr).1;have cS2:=hid (cS.o _ A2.o);clear hr cC cD cS;generalize Ln.distance ms m ⟨rs,ro,4,ry,ra⟩=t at *;go_wp2_with fail;refine cS2.o.mono ?_;rintro e w' ⟨rfl,hw⟩;rw [hw];clear hw w' cS2
  cases es:Ln.iW m.short i
  ·have E:=hid (show Ln.linked ms m ah off x=Ln.jv x (decide (off=ro)) t by rw [RR.o,es]; rfl);clear es RR;have QN:=hid (fun f W hg=>cP.o f t W hg dn.1 dn.2);go_wp2;generalize W2.alloc (.cells #[.int .i64 rs,.int .i64 ro,.int .i64 4,.int .i64 ry,.int .i64 ra] 102)=W3 at *;generalize W2.heap.size=L at *;have c0:W3.cell? ⟨L,0,none⟩=some (.int .i64 rs):=B2.o.cell 0;have c1:W3.cell? ⟨L,1,none⟩=some (.int .i64 ro):=B2.o.cell 1;have c2:W3.cell? ⟨L,2,none⟩=some (.int .i64 4):=B2.o.cell 2;have c3:W3.cell? ⟨L,3,none⟩=some (.int .i64 ry):=B2.o.cell 3;have c4:W3.cell? ⟨L,4,none⟩=some (.int .i64 ra):=B2.o.cell 4
   have BD:=hid (fun W (hq:W3.drew.grownBy W none)=>show yc W L #[.int .i64 rs,.int .i64 ro,.int .i64 4,.int .i64 ry,.int .i64 ra] 102 from (uo B2.o).grown hq (by simp));have EQ:decide (off=ro)=(off == ro):=rfl
   go_region_held3 (fun w'=>w'.cell? ⟨L,0,none⟩=some (.int .i64 rs)/\w'.cell? ⟨L,1,none⟩=some (.int .i64 ro)/\w'.cell? ⟨L,2,none⟩=some (.int .i64 4)/\w'.cell? ⟨L,3,none⟩=some (.int .i64 ry)/\w'.cell? ⟨L,4,none⟩=some (.int .i64 ra))
    (go_keep)
    (first | (go_at_call 107; refine (cD2.o _ (yh A2.o)).mono ?_; rintro e w' ⟨rfl,hq⟩; have bq:=BD.o _ hq; have s0:=bq.cell 0; have s1:=bq.cell 1; have s2:=bq.cell 2; have s3:=bq.cell 3; have s4:=bq.cell 4; simp only [bI,bN,bK] at s0 s1 s2 s3 s4) | (go_at_call 174; refine (QN.o _ _ (ya (yh A2.o) hq)).mono ?_; rintro e w2 ⟨rfl,hq2⟩; have Br:=BD.o _ (ya hq hq2); have r0:=Br.cell 0; have r1:=Br.cell 1; have r2:=Br.cell 2; have r3:=Br.cell 3; have r4:=Br.cell 4; simp only [bI,bN,bK] at r0 r1 r2 r3 r4))
   go_wp2;go_ret;exact ⟨by rw [E.o]; rfl,ya (ya (yh A2.o) hq) hq2⟩
  ·have E:=hid (show Ln.linked ms m ah off x=Ln.jL ms m ⟨rs,ro,4,ry,ra⟩ by rw [RR.o,es]; rfl);clear es RR;go_wp2_with fail;refine VZ.o.mono ?_;rintro e W5 ⟨rfl,h5⟩;have G5:=hid (ya A2.o h5);clear h5 VZ;go_wp2;go_ret;exact ⟨by rw [E.o]; rfl,G5.o⟩
 by_cases e5:rk=5
 ·subst e5;have hr:=RM.o (by decide);have E:=hid (show Ln.linked ms m ah off x=Ln.jv x (decide (off=ro)) (Ln.target ms m ⟨rs,ro,5,ry,ra⟩+ra) by rw [R.o]; rfl);have tn:=(HD.o _ hr).2;have an:=AD.o hr (.inr rfl);generalize Ln.target ms m ⟨rs,ro,5,ry,ra⟩=t at *;have w1:IntKind.i64.wrap (t+ra)=t+ra:=IntWalk.i64_in _ ⟨by omega,by omega⟩;have QN:=hid (fun f W hg=>cP.o f (t+ra) W hg (by omega) (by omega));clear hr;go_wp2;generalize W2.alloc (.cells #[.int .i64 rs,.int .i64 ro,.int .i64 5,.int .i64 ry,.int .i64 ra] 102)=W3 at *;generalize W2.heap.size=L at *;have c0:W3.cell? ⟨L,0,none⟩=some (.int .i64 rs):=B2.o.cell 0
  have c1:W3.cell? ⟨L,1,none⟩=some (.int .i64 ro):=B2.o.cell 1;have c2:W3.cell? ⟨L,2,none⟩=some (.int .i64 5):=B2.o.cell 2;have c3:W3.cell? ⟨L,3,none⟩=some (.int .i64 ry):=B2.o.cell 3;have c4:W3.cell? ⟨L,4,none⟩=some (.int .i64 ra):=B2.o.cell 4;have BD:=hid (fun W (hq:W3.drew.grownBy W none)=>show yc W L #[.int .i64 rs,.int .i64 ro,.int .i64 5,.int .i64 ry,.int .i64 ra] 102 from (uo B2.o).grown hq (by simp))
  go_region_held3 (fun w'=>w'.cell? ⟨L,0,none⟩=some (.int .i64 rs)/\w'.cell? ⟨L,1,none⟩=some (.int .i64 ro)/\w'.cell? ⟨L,2,none⟩=some (.int .i64 5)/\w'.cell? ⟨L,3,none⟩=some (.int .i64 ry)/\w'.cell? ⟨L,4,none⟩=some (.int .i64 ra))
   (go_keep)
   (first | (go_at_call 168; refine (cT.o _ (yh A2.o)).mono ?_; rintro e w' ⟨rfl,hq⟩; have bq:=BD.o _ hq; have s0:=bq.cell 0; have s1:=bq.cell 1; have s2:=bq.cell 2; have s3:=bq.cell 3; have s4:=bq.cell 4; simp only [bI,bN,bK] at s0 s1 s2 s3 s4) | (go_at_call 174; refine (QN.o _ _ (ya (yh A2.o) hq)).mono ?_; rintro e w2 ⟨rfl,hq2⟩; have Br:=BD.o _ (ya hq hq2); have r0:=Br.cell 0; have r1:=Br.cell 1; have r2:=Br.cell 2; have r3:=Br.cell 3; have r4:=Br.cell 4; simp only [bI,bN,bK] at r0 r1 r2 r3 r4))
  go_wp2;go_ret;exact ⟨by rw [E.o]; rfl,ya (ya (yh A2.o) hq) hq2⟩
 have E:=hid (show Ln.linked ms m ah off x=x by rw [R.o]; unfold Ln.pW; rw [if_neg e1,if_neg (by dsimp only; omega),if_neg e4,if_neg e5]);have d1:(rk == 1)=false:=by simpa using e1
 have d2:(rk == 2)=false:=by simpa using e2
 have d3:(rk == 3)=false:=by simpa using e3
 have d4:(rk == 4)=false:=by simpa using e4
 have d5:(rk == 5)=false:=by simpa using e5
 clear e1 e2 e3 e4 e5;go_wp2;go_ret;exact ⟨by rw [E.o]; rfl,A2.o⟩
structure ql (m:Ln.Mod):Prop where
 text:∀ p∈m.text,0<=p/\p<=1200000000
 far:∀ p∈m.far,0<=p/\p<=1200000000
 data:0<=m.data/\m.data<=1200000000
 bss:0<=m.bss/\m.bss<=1200000000
theorem ylh:∀ (ms:List Ln.Mod) (t f d:Int),(∀ m∈ms,yv m.obj)->0<=t->t+5000 * ms.length<=1200000000->0<=f->f+5000 * ms.length<=1200000000->0<=d->d+5000 * ms.length<=1200000000 ->
  ∀ m∈Ln.dw ms t f d,(∀ p∈m.text,0<=p/\p<=1200000000)/\(∀ p∈m.far,0<=p/\p<=1200000000)/\(0<=m.data/\m.data<=1200000000):=by
 intro ms
 induction ms with
 | nil=>intro t f d _ _ _ _ _ _ _ m hm; simp [Ln.dw] at hm
 | cons x ms ih =>
  intro t f d hv a0 a1 b0 b1 c0 c1 m hm;simp only [jm] at a1 b1 c1;have vx:=hv x (by simp);have r1:=Hu vx 1 (.inl rfl) t a0 (by omega);have r2:=Hu vx 2 (.inr rfl) f b0 (by omega);have r3:=Ad d (Ln.aI x.obj 3) c0 (by omega) (yZ _);have hl:x.obj.data.length<=64:=vx.1.1.2.2;unfold Ln.dw at hm;rcases List.mem_cons.1 hm with rfl | hm
  ·refine ⟨fun p hp=>?_,fun p hp=>?_,?_⟩
   ·have:=r1.2.2 p hp; omega
   ·have:=r2.2.2 p hp; omega
   ·show 0<=Ln.rup d (Ln.aI x.obj 3)/\Ln.rup d (Ln.aI x.obj 3)<=1200000000;omega
  ·exact ih _ _ _ (fun y hy=>hv y (by simp [hy])) (by omega) (by omega) (by omega) (by omega) (by omega) (by omega) m hm
theorem ymL:∀ (ms:List Ln.Mod) (b:Int),(∀ m∈ms,yv m.obj)->0<=b->b+5000 * ms.length<=1200000000->(∀ m∈ms,(∀ p∈m.text,0<=p/\p<=1200000000)/\(∀ p∈m.far,0<=p/\p<=1200000000)/\(0<=m.data/\m.data<=1200000000))->∀ m∈Ln.eP ms b,ql m:=by
 intro ms
 induction ms with
 | nil=>intro b _ _ _ _ m hm; simp [Ln.eP] at hm
 | cons x ms ih =>
  intro b hv a0 a1 hl m hm;simp only [jm] at a1;have vx:=hv x (by simp);have r3:=Ad b (Ln.aI x.obj 4) a0 (by omega) (yZ _);have hb:=vx.1.2.1;unfold Ln.eP at hm;rcases List.mem_cons.1 hm with rfl | hm
  ·have q:=hl x (by simp);exact ⟨q.1,q.2.1,q.2.2,by dsimp only; omega⟩
  ·exact ih _ (fun y hy=>hv y (by simp [hy])) (by omega) (by omega) (fun y hy=>hl y (by simp [hy])) m hm
theorem yqJ {ms:List Ln.Mod} {t f d:Int} (hv:∀ m∈ms,yv m.obj) (hl:ms.length<=4096) (ht:0<=t/\t<=1073741824) (hf:0<=f/\f<=1073741824) (hd:0<=d/\d<=1073741824):∀ m∈Ln.lay t f d ms,ql m:=by
 have r:=Xw ms d hv hd.1 (by omega);exact ymL _ _ (Aw (Ng ms t f d) hv) (by omega) (by rw [Pq]; omega) (ylh ms t f d hv ht.1 (by omega) hf.1 (by omega) hd.1 (by omega))
theorem XZ (ps:List Int) (off:Int) (h:∀ p∈ps,0<=p/\p<=1200000000):0<=Ln.placeOf ps off/\Ln.placeOf ps off<=1200000000:=by
 unfold Ln.placeOf;split
 ·omega
 ·rw [lC]
  cases e:ps[(off.tdiv 4).toNat]? with
  | none=>simp
  | some p=>exact h p (List.mem_of_getElem? e)
theorem Pj {m:Ln.Mod} (h:ql m) (ah off:Int) (h0:0<=off) (h1:off<=100000):0<=Ln.address m ah off/\Ln.address m ah off<=1200100000:=by
 have a:=XZ m.text off h.text;have b:=XZ m.far off h.far;have c:=h.data;have d:=h.bss;unfold Ln.address
 repeat' split
 all_goals omega
def mK (s:Ln.gM):Prop:=0<=s.off/\s.off<=100000
theorem Xo {ms:List Ln.Mod} (hl:∀ m∈ms,ql m) (s:Ln.gM) (hs:mK s):0<=Ln.cZ ms s/\Ln.cZ ms s<=1200100000:=by
 unfold Ln.cZ
 cases s.mod with
 | none=>simp
 | some i =>
  dsimp only
  cases e:ms[i]? with
  | none=>simp
  | some m=>exact Pj (hl m (List.mem_of_getElem? e)) _ _ hs.1 hs.2
theorem ynn {ms:List Ln.Mod} (hl:∀ m∈ms,ql m) (m:Ln.Mod) (hm:∀ s∈m.means,mK s) (r:Lk.Rel):0<=Ln.target ms m r/\Ln.target ms m r<=1200100000:=by
 unfold Ln.target;split
 ·omega
 ·rename_i h;have hlt:r.sym.toNat < m.means.length:=by omega
  rw [lC,j3 hlt];exact Xo hl _ (hm _ (iq hlt))
theorem O1 {o:Lk.Obj} (hv:yv o) (ah:Int):(yx o ah).length<=1200:=by
 have:=hv.1.1
 unfold yx
 repeat' split
 ·exact this.1
 ·exact this.2.1
 ·have:=this.2.2; omega
 ·simp
theorem Zu {o:Lk.Obj} (hv:yv o) {r:Lk.Rel} (hr:r∈o.aj):rU r/\0<=r.off/\r.off<=4800:=by
 obtain ⟨i,hi,OE⟩:=List.getElem_of_mem hr;have RO:Gv o r:=by rw [<- OE]; exact (hv.2.2.2.2 i hi).1
 have hab:=RO.2.2.2.2.1;have sp:=Dt RO.2.1;have hw:=O1 hv r.ah;obtain ⟨b1,b2,b3⟩:=hab;exact ⟨RO.2.1,b1,by omega⟩
theorem ykp {ms:List Ln.Mod} (hl:∀ m∈ms,ql m) (m:Ln.Mod) (hm:∀ s∈m.means,mK s) (hlow:ql m) (hv:yv m.obj):Ua ms m:=by
 intro r hr;have t:=ynn hl m hm r;have o:=Zu hv hr;have a:=Pj hlow r.ah r.off o.2.1 (by omega);unfold Ln.distance;omega
theorem yiM:∀ (ms:List Ln.Mod) (t f d:Int),(Ln.dw ms t f d).map Ln.Mod.means=ms.map Ln.Mod.means:=by
 intro ms
 induction ms with
 | nil=>intro t f d; rfl
 | cons m ms ih=>intro t f d; unfold Ln.dw; rw [List.map_cons,ih,List.map_cons]; rfl
theorem yjP:∀ (ms:List Ln.Mod) (b:Int),(Ln.eP ms b).map Ln.Mod.means=ms.map Ln.Mod.means:=by
 intro ms
 induction ms with
 | nil=>intro b; rfl
 | cons m ms ih=>intro b; unfold Ln.eP; rw [List.map_cons,ih,List.map_cons]
theorem Yw (ms:List Ln.Mod) (t f d:Int):(Ln.lay t f d ms).map Ln.Mod.means=ms.map Ln.Mod.means:=by unfold Ln.lay; rw [yjP,yiM]
theorem yiV (ms:List Ln.Mod):(Ln.shorten ms).map Ln.Mod.means=ms.map Ln.Mod.means:=by unfold Ln.shorten; rw [List.map_map]; rfl
theorem yjS (ms:List Ln.Mod) (t f d:Int):(Ln.layout t f d ms).map Ln.Mod.means=ms.map Ln.Mod.means:=by unfold Ln.layout; rw [Yw,yiV,Yw]
theorem ymP (ms:List Ln.Mod) (t f d:Int):(Ln.layout t f d ms).map Ln.Mod.obj=ms.map Ln.Mod.obj:=by unfold Ln.layout; rw [J5,Ni,J5]
theorem Qh (ms:List Ln.Mod) (t f d:Int):(Ln.lay t f d ms).length=ms.length:=by unfold Ln.lay; rw [XL,Pq]
theorem ypu {α β:Type} (g:α->β) {ms ms':List α} (h:ms'.map g=ms.map g) {P:β->Prop} (hp:∀ m∈ms,P (g m)):∀ m∈ms',P (g m):=by
 intro m hm
 have:g m∈ms.map g:=by rw [<- h]; exact List.mem_map_of_mem hm
 obtain ⟨x,hx,e⟩:=List.mem_map.1 this;rw [<- e];exact hp x hx
theorem ylj {n:Nat} {ms:List Ln.Mod} {t f d:Int} (hn:∀ m∈ms,yI n m) (hv:∀ m∈ms,yv m.obj) (hl:ms.length<=4096) (ht:0<=t/\t<=1073741824) (hf:0<=f/\f<=1073741824) (hd:0<=d/\d<=1073741824):∀ m∈Ln.layout t f d ms,yI n m:=by
 have n1:=TT hn hv hl (t:=t) (f:=f) (d:=d) (by omega) (by omega) (by omega);have v1:=Aw (J5 ms t f d) hv;exact TT (Xn n1) (Aw (Ni _) v1) (by unfold Ln.shorten; rw [rW,Qh]; exact hl) (by omega) (by omega) (by omega)
theorem ymO {ms:List Ln.Mod} {t f d:Int} (hv:∀ m∈ms,yv m.obj) (hl:ms.length<=4096) (ht:0<=t/\t<=1073741824) (hf:0<=f/\f<=1073741824) (hd:0<=d/\d<=1073741824):∀ m∈Ln.layout t f d ms,ql m:=by
 have v1:=Aw (J5 ms t f d) hv;exact yqJ (Aw (Ni _) v1) (by unfold Ln.shorten; rw [rW,Qh]; exact hl) ht hf hd
theorem yng {o:Lk.Obj} (hv:yv o) (ah:Int):xM o ah<=1200:=by
 unfold xM;split
 ·have:=hv.1.2.1; omega
 ·have:=O1 hv ah; omega
theorem Zx {o:Lk.Obj} (hv:yv o) {y:Lk.Sym} (hy:y∈o.syms):0<=y.off/\y.off<=4800:=by
 obtain ⟨i,hi,e⟩:=List.getElem_of_mem hy
 have:=(hv.2.2.2.1 i hi).1
 rw [e] at this;have s:=yng hv y.ah;obtain ⟨-,-,-,-,a,-,c⟩:=this;omega
theorem ymz (n:List UInt8) (bind:Int):∀ (ys:List Lk.Sym) (s f:Int),Ln.gP n bind ys=some (s,f)->∃ y∈ys,y.ah=s/\y.off=f:=by
 intro ys
 induction ys with
 | nil=>intro s f h; simp [Ln.gP] at h
 | cons y ys ih =>
  intro s f h;unfold Ln.gP at h;split at h
  ·simp at h; exact ⟨y,by simp,h.1,h.2⟩
  ·obtain ⟨z,hz,e⟩:=ih s f h;exact ⟨z,by simp [hz],e⟩
theorem XF (n:List UInt8) (bind:Int):∀ (os:List Lk.Obj) (i:Nat),(∀ o∈os,yv o)->mK (Ln.findAt n bind i os):=by
 intro os
 induction os with
 | nil=>intro i _; unfold Ln.findAt mK; simp [Ln.none_]
 | cons o os ih =>
  intro i hv;unfold Ln.findAt
  cases e:Ln.gP n bind o.syms with
  | none=>exact ih _ (fun x hx=>hv x (by simp [hx]))
  | some p =>
   obtain ⟨s,f⟩:=p;obtain ⟨y,hy,-,rfl⟩:=ymz n bind o.syms s f e
   have:=Zx (hv o (by simp)) hy
   unfold mK;dsimp only;omega
theorem YA (os:List Lk.Obj) (n:List UInt8) (hv:∀ o∈os,yv o):mK (Ln.named os n):=by
 unfold Ln.named Ln.find;split
 ·exact XF n 1 os 0 hv
 ·exact XF n 2 os 0 hv
theorem yln (os:List Lk.Obj) (i:Nat) (o:Lk.Obj) (ho:yv o) (y:Lk.Sym) (hy:y∈o.syms) (hv:∀ o∈os,yv o):mK (Ln.meaning os i y):=by
 unfold Ln.meaning;split
 ·have:=Zx ho hy; unfold mK; dsimp only; omega
 ·exact YA os _ hv
theorem ymW (os:List Lk.Obj) (i:Nat) (hi:i < os.length) (y:Lk.Sym) (j:Nat) (h:(Ln.meaning os i y).mod=some j):j < os.length:=by
 unfold Ln.meaning at h;split at h
 ·simp at h; omega
 ·exact TV os _ j h
structure yrO (os:List Lk.Obj) (m:Ln.Mod):Prop where
 obj:yv m.obj
 nice:yI os.length m
 low:∀ s∈m.means,mK s
 short:m.short=[]
theorem YC (os:List Lk.Obj) (hv:∀ o∈os,yv o):∀ m∈Ln.dB os (os.map Ln.bare),yrO os m:=by
 intro m hm;unfold Ln.dB at hm;obtain ⟨i,hi,rfl⟩:=List.getElem_of_mem hm;rw [List.length_mapIdx,rW] at hi;rw [List.getElem_mapIdx,List.getElem_map];have ho:=hv _ (iq hi);generalize os[i]=o at *;have hs:=(Pv ho)
 have L:∀ s∈(o.syms.map (Ln.meaning os i)),mK s/\∀ j,s.mod=some j->j < os.length:=by
  intro s hs;obtain ⟨y,hy,rfl⟩:=List.mem_map.1 hs;exact ⟨yln os i o ho y hy hv,fun j hj=>ymW os i hi y j hj⟩
 refine ⟨ho,⟨⟨by simp [Ln.ko,Ln.bare],by simp [Ln.ko,Ln.bare]⟩,⟨by simp [Ln.ko,Ln.bare],by simp [Ln.ko,Ln.bare]⟩,by simp [Ln.ko,Ln.bare],by simp [Ln.ko,Ln.bare],⟨?_,fun s hs=>?_⟩,by simp [Ln.ko,Ln.bare],⟨hs.2.2.2.2.2,fun r hr=>?_⟩⟩,fun s hs=>(L s hs).1,rfl⟩
 ·show (o.syms.map (Ln.meaning os i)).length<=65535;rw [rW]; exact hs.2.2.2.2.1
 ·have q:=L s hs
  have:=q.1
  unfold mK at this;exact ⟨by omega,q.2⟩
 ·have:=Zu ho hr
  exact ⟨this.1,by omega,by omega⟩
namespace Ln
def jD (base fl begin_:Int) (ws:List Int):List Int:=ws ++ List.replicate (((begin_ - base+3) / 4).toNat - ws.length) fl
def bn (ms:List Mod) (m:Mod) (ah:Int):Nat->List Int->List Int
 | _,[]=>[]
 | i,w :: ws=>if address m ah (4 * i) < address m ah (4 * i+4) then linked ms m ah (4 * i) w :: bn ms m ah (i+1) ws else bn ms m ah (i+1) ws
def lK (ms:List Mod) (m:Mod) (ah base fl:Int) (ws:List Int):List Int:=jD base fl (address m ah 0) ws ++ bn ms m ah 0 (yx m.obj ah)
def region (ms:List Mod) (ah base fl:Int):List Mod->List Int->List Int
 | [],ws=>ws
 | m :: r,ws=>region ms ah base fl r (lK ms m ah base fl ws)
end Ln
theorem yph {base fl b:Int} {ws:List Int} (h:base+4 * (ws.length:Int) < b):Ln.jD base fl b ws=Ln.jD base fl b (ws ++ [fl]):=by
 unfold Ln.jD;have e:((b - base+3) / 4).toNat - ws.length=((b - base+3) / 4).toNat - (ws ++ [fl]).length+1:=by rw [eZ,List.length_singleton]; omega
 rw [e,List.replicate_succ,List.append_assoc,List.singleton_append]
theorem ypg {base fl b:Int} {ws:List Int} (h:¬ base+4 * (ws.length:Int) < b):Ln.jD base fl b ws=ws:=by
 unfold Ln.jD;have e:((b - base+3) / 4).toNat - ws.length=0:=by omega
 rw [e,List.replicate_zero,List.append_nil]
theorem Uf (base fl b:Int) (ws:List Int):(Ln.jD base fl b ws).length=max ws.length ((b - base+3) / 4).toNat:=by
 unfold Ln.jD;rw [eZ,List.length_replicate];omega
theorem yiD (ms:List Ln.Mod) (m:Ln.Mod) (ah:Int) (ws:List Int) (k:Nat) (h:k < ws.length):Ln.bn ms m ah k (ws.drop k)=if Ln.address m ah (4 * k) < Ln.address m ah (4 * k+4) then Ln.linked ms m ah (4 * k) ws[k] :: Ln.bn ms m ah (k+1) (ws.drop (k+1)) else Ln.bn ms m ah (k+1) (ws.drop (k+1)):=by
 rw [lV h];rfl
theorem yjj (ms:List Ln.Mod) (m:Ln.Mod) (ah:Int):∀ (ws:List Int) (k:Nat),(Ln.bn ms m ah k ws).length<=ws.length:=by
 intro ws
 induction ws with
 | nil=>intro k; simp [Ln.bn]
 | cons w ws ih =>
  intro k
  have:=ih (k+1)
  unfold Ln.bn;split
  ·simp only [jm]; omega
  ·simp only [jm]; omega
structure oM (W0:World) (R:Nat) (base fl:Int) (ws:List Int) (v:Value) (W:World):Prop where
 gr:W0.grownBy W none
 lo:W0.heap.size<=R
 blk:yc W R #[.int .i64 base,.int .i64 fl,v] 134
 row:W.ownsRow W0.heap.size 3 1 v ws.length (ws.map (Value.int .i64))
structure uw (V W':World) (R:Nat) (v v':Value):Prop where
 keep:∀ k,k < V.heap.size->some k≠v.ownBlock->k≠R->W'.heap[k]?=V.heap[k]?
 blk:∀ k,v'.ownBlock=some k->v.ownBlock=some k\/V.heap.size<=k
 size:V.heap.size<=W'.heap.size
section
variable {W0 V W W' w3:World} {R R':Nat} {base fl base' Wt x:Int} {ws ws':List Int} {v v' v1 v2:Value}
theorem uw.refl (V:World) (R:Nat) (v:Value):uw V V R v v:=⟨fun _ _ _ _=>rfl,fun _ h=>.inl h,Nat.le_refl _⟩
theorem uw.grown (h:uw V W R v v1) (hg:W.grownBy W' none):uw V W' R v v1 :=
 ⟨fun k h1 h2 h3=>(hg.block k (Nat.lt_of_lt_of_le h1 h.size) (by simp)).trans (h.keep k h1 h2 h3),h.blk,Nat.le_trans h.size hg.size⟩
theorem uw.trans (h:uw V W R v v1) (q:uw W W' R v1 v2):uw V W' R v v2 :=
 ⟨fun k h1 h2 h3=>(q.keep k (Nat.lt_of_lt_of_le h1 h.size) (fun c=>by
   rcases h.blk k c.symm with e | e
   ·exact h2 e.symm
   ·omega) h3).trans (h.keep k h1 h2 h3),
  fun k e=>by
   rcases q.blk k e with e1 | e1
   ·exact h.blk k e1
   ·exact .inr (Nat.le_trans h.size e1),
  Nat.le_trans h.size q.size⟩
theorem oM.kept (h:oM W0 R base fl ws v W) (hg:W.grownBy W' none):oM W0 R base fl ws v W' :=
 ⟨ya h.gr hg,h.lo,h.blk.grown hg (by simp),h.row.kept hg (Decidable.em _)⟩
theorem oM.step (h:oM W0 R base fl ws v V) (hown:w3.ownsRow W0.heap.size 3 1 v' (ws.length+1) (ws.map (Value.int .i64) ++ [.int .i64 x])) (hg:V.grownBy w3 v.ownBlock) (hat:v'.ownBlock=v.ownBlock\/v'.ownBlock=some V.heap.size) :
  oM W0 R base fl (ws ++ [x]) v' (w3.setCell ⟨R,2,none⟩ v')/\uw V (w3.setCell ⟨R,2,none⟩ v') R v v':=by
 have b3:=yF h.blk hg (bR.own h.row) (by decide);have gs:=ye w3 R 2 v';refine ⟨⟨?_,h.lo,?_,?_⟩,⟨fun k h1 h2 h3=>?_,fun k e=>?_,Nat.le_trans hg.size gs.size⟩⟩
 ·exact yO (yO h.gr hg (fun k e=>(h.row.lt k e).1)) gs (by intro k e; simp at e; have:=h.lo; omega)
 ·simpa using b3.set 2 v'
 ·have:=yA hown gs (bR.blk b3) (by decide)
  rw [eZ,List.length_singleton,List.map_append];exact this
 ·rw [gs.block k (Nat.lt_of_lt_of_le h1 hg.size) (by simp; omega)];exact hg.block k h1 h2
 ·rcases hat with q | q
  ·exact .inl (q ▸ e)
  ·rw [q] at e;simp at e;exact .inr (by omega)
theorem oM.other (h:oM W0 R' base' Wt ws' v2 V) (g:oM W0 R base fl ws v V) (t:uw V W' R v v') (hW:W0.grownBy W' none) (hne:R'≠R) (ha:∀ k,v2.ownBlock=some k->v.ownBlock≠some k) :
  oM W0 R' base' Wt ws' v2 W'/\∀ k,v2.ownBlock=some k->v'.ownBlock≠some k:=by
 have nR:some R'≠v.ownBlock:=fun c=>by
  obtain ⟨cur,hc⟩:=bR.own g.row R' c.symm
  have:=hc.symm.trans h.blk
  simp at this
 refine ⟨⟨hW,h.lo,?_,?_⟩,fun k e c=>?_⟩
 ·have:=t.keep R' h.blk.lt nR hne
  exact this.trans h.blk
 ·refine ⟨h.row.1,?_⟩;rcases h.row.2 with q | ⟨g0,cap,cur,hv,hb,hg,r⟩
  ·exact .inl q
  ·refine .inr ⟨g0,cap,cur,hv,hb,?_,r⟩;have e2:v2.ownBlock=some g0:=by rw [hv]; rfl
   rw [t.keep g0 (h.row.lt g0 e2).2 (fun c=>ha g0 e2 c.symm) (fun c=>by
    have:=hg.symm.trans (c ▸ g.blk)
    simp at this)]
   exact hg
 ·rcases t.blk k c with q | q
  ·exact ha k e q
  ·have:=(h.row.lt k e).2
   omega
end
theorem Zd (n:Int):bits .and .i64 n 4294967295=n % 4294967296:=by
 have h1:(BitVec.ofInt 64 4294967295).toNat=2 ^ 32 - 1:=by decide
 have key:(BitVec.ofInt 64 n &&& BitVec.ofInt 64 4294967295).toNat=(n % ((2 ^ 64:Nat):Int)).toNat % 2 ^ 32:=by
  rw [BitVec.toNat_and,BitVec.toNat_ofInt,h1,Nat.and_two_pow_sub_one_eq_mod]
 show IntKind.i64.wrap ((BitVec.ofInt 64 n &&& BitVec.ofInt 64 4294967295).toNat:Nat)=_;rw [key,IntKind.wrap_i64];omega
theorem jE.y7 {s:ByteArray} {st:As.St} (h:jE s st) (k:Nat) (hk:1<=k/\k<=4):jE s { st with ah:=k } :=
 ⟨h.size,h.p,h.tok,h.fe,h.fa,h.op,hk,h.text,h.far,h.data,h.bss,h.align,h.syms,h.aj⟩
theorem ylC (B:Nat) (s:ByteArray) (b g:Nat) (st0:As.St) (W:World) (h:yl B s b g st0 W) :
  Calls Tryz.prog 153 #[.pointer (some ⟨b,0,none⟩)] W fun en W'=>en = .returned (.tuple #[])/\yS B s b g W (As.fE st0) W':=by
 have D0:=hid h.jU;have c11:=Pk h;have c13:=vQ h;have f13:=h.blk.free 13;have OK:=hid h.ok;clear h;have RS:=hid (show As.fE st0=if st0.op.text=[46,116,101,120,116] then { st0 with ah:=1 } else if st0.op.text=[46,102,97,114] then { st0 with ah:=2 } else if st0.op.text=[46,100,97,116,97] then { st0 with ah:=3 } else if st0.op.text=[46,98,115,115] then { st0 with ah:=4 } else st0 from rfl);generalize As.fE st0=X at *;have e:∀ l:List UInt8,((bs st0.op.text).toList == l)=decide (st0.op.text=l):=fun l=>by rw [yH,Bool.eq_iff_iff,beq_iff_eq,decide_eq_true_iff]
 have d1:=e [46,116,101,120,116];have d2:=e [46,102,97,114];have d3:=e [46,100,97,116,97];have d4:=e [46,98,115,115];clear e;by_cases h1:st0.op.text=[46,116,101,120,116]
 ·rw [if_pos h1] at RS;rw [decide_eq_true h1] at d1;clear h1 d2 d3 d4;go_enter Tryz.func153,Tryz.ntmps153;go_wp2
  go_end0
  rw [RS.o];exact ⟨rfl,D0.o.sets [(13,.int .i64 1)] { st0 with ah:=1 } (by simp only [uy,yE,lu,lW,gu,fZ,gq]; rfl) rfl (OK.o.y7 1 (by omega))⟩
 rw [if_neg h1] at RS;rw [decide_eq_false h1] at d1;clear h1;by_cases h2:st0.op.text=[46,102,97,114]
 ·rw [if_pos h2] at RS;rw [decide_eq_true h2] at d2;clear h2 d3 d4;go_enter Tryz.func153,Tryz.ntmps153;go_wp2
  go_end0
  rw [RS.o];exact ⟨rfl,D0.o.sets [(13,.int .i64 2)] { st0 with ah:=2 } (by simp only [uy,yE,lu,lW,gu,fZ,gq]; rfl) rfl (OK.o.y7 2 (by omega))⟩
 rw [if_neg h2] at RS;rw [decide_eq_false h2] at d2;clear h2;by_cases h3:st0.op.text=[46,100,97,116,97]
 ·rw [if_pos h3] at RS;rw [decide_eq_true h3] at d3;clear h3 d4;go_enter Tryz.func153,Tryz.ntmps153;go_wp2
  go_end0
  rw [RS.o];exact ⟨rfl,D0.o.sets [(13,.int .i64 3)] { st0 with ah:=3 } (by simp only [uy,yE,lu,lW,gu,fZ,gq]; rfl) rfl (OK.o.y7 3 (by omega))⟩
 rw [if_neg h3] at RS;rw [decide_eq_false h3] at d3;clear h3;by_cases h4:st0.op.text=[46,98,115,115]
 ·rw [if_pos h4] at RS;rw [decide_eq_true h4] at d4;clear h4;go_enter Tryz.func153,Tryz.ntmps153;go_wp2
  go_end0
  rw [RS.o];exact ⟨rfl,D0.o.sets [(13,.int .i64 4)] { st0 with ah:=4 } (by simp only [uy,yE,lu,lW,gu,fZ,gq]; rfl) rfl (OK.o.y7 4 (by omega))⟩
 rw [if_neg h4] at RS;rw [decide_eq_false h4] at d4;clear h4;go_enter Tryz.func153,Tryz.ntmps153;go_wp2
 go_end0
 rw [RS.o];exact ⟨rfl,D0.o⟩
theorem ykV (B:Nat) (s:ByteArray) (b g:Nat) (st0:As.St) (W:World) (h:yl B s b g st0 W) :
  Calls Tryz.prog 157 #[.pointer (some ⟨b,0,none⟩)] W fun en W'=>en = .returned (.tuple #[])/\Does B s b g W (As.binding (sl s) st0) W':=by
 have c11:=Pk h;have c1:=hid (YR B s b g st0 1 W h);have c2:=hid (YR B s b g st0 2 W h);clear h;have RS:=hid (show As.binding (sl s) st0=As.bind (sl s) (if st0.op.text=[46,103,108,111,98,108] then 1 else 2) st0 from rfl);generalize As.binding (sl s) st0=X at *;have d1:((bs st0.op.text).toList == [46,103,108,111,98,108])=decide (st0.op.text=[46,103,108,111,98,108]):=by rw [yH,Bool.eq_iff_iff,beq_iff_eq,decide_eq_true_iff]
 by_cases h1:st0.op.text=[46,103,108,111,98,108]
 ·rw [if_pos h1] at RS;rw [decide_eq_true h1] at d1;clear h1;go_enter Tryz.func157,Tryz.ntmps157;go_wp2_with fail;refine c1.o.mono ?_;rintro e VF ⟨rfl,hh⟩;have DF:=hid hh;clear hh;go_wp2
  (try simp only [Exit.inBlock,Exit.then]); refine bodyPost_ret (results_none rfl _ _ _) rfl ?_
  rw [RS.o];exact ⟨rfl,DF.o⟩
 ·rw [if_neg h1] at RS;rw [decide_eq_false h1] at d1;clear h1;go_enter Tryz.func157,Tryz.ntmps157;go_wp2_with fail;refine c2.o.mono ?_;rintro e VF ⟨rfl,hh⟩;have DF:=hid hh;clear hh;go_wp2
  go_end0
  rw [RS.o];exact ⟨rfl,DF.o⟩
theorem ypZ (B:Nat) (s:ByteArray) (b g:Nat) (st0:As.St) (W:World) (h:yl B s b g st0 W) :
  Calls Tryz.prog 154 #[.pointer (some ⟨b,0,none⟩)] W fun en W'=>en = .returned (.tuple #[])/\Does B s b g W (As.word (sl s) st0) W':=by
 have D0:=hid h.does;clear h;obtain ⟨X,hX⟩:∃ X,X=As.word (sl s) st0:=⟨_,rfl⟩
 rw [<- hX];unfold As.word at hX;dsimp only at hX;have RS:=hid hX;clear hX;go_enter Tryz.func154,Tryz.ntmps154;obtain ⟨c2,c3,c4,c5⟩:=wm D0.o.1
 cases hk:(st0.tok.kind == 1)
 ·have d:((st0.tok.kind:Int) == 1)=false:=by simp at hk ⊢; omega
  have d':((st0.tok.kind:Int) != 1)=true:=by simp at hk ⊢; omega
  rw [hk] at RS;rw [if_neg (by simp)] at RS;clear hk;go_wp2_with fail;refine (Gn B s b g st0 (-2147483648) 4294967295 _ D0.o.1).mono ?_;rintro e V1 ⟨rfl,hh⟩;have D1:=hid (D0.o.aN hh);clear hh D0 c2 c3 c4 c5;generalize As.number (sl s) (-2147483648) 4294967295 st0=R1 at *;obtain ⟨n,st1⟩:=R1;dsimp only at RS D1 ⊢;have AN:=Zd n;generalize n % 4294967296=m at *;go_wp2_with fail;refine (J3 B s b g st1 _ 1 [m] _ (D1.o.alloc _).1 (NH V1 m) (by simp)).mono ?_;rintro e VF ⟨rfl,hh⟩;have DF:=hid ((D1.o.alloc _).after hh);clear hh;go_wp2
  first | go_end0 | ((try simp only [Exit.inBlock,Exit.then]); refine bodyPost_ret (results_none rfl _ _ _) rfl ?_)
  rw [RS.o];exact ⟨rfl,DF.o⟩
 ·have d:((st0.tok.kind:Int) == 1)=true:=by simp at hk ⊢; omega
  have d':((st0.tok.kind:Int) != 1)=false:=by simp at hk ⊢; omega
  rw [hk] at RS;rw [if_pos rfl] at RS;clear hk;go_wp2_with fail;refine (Pg B s b g st0 _ D0.o.1).mono ?_;rintro e V1 ⟨rfl,hh⟩;have D1:=hid (D0.o.after hh);clear hh D0 c2 c3 c4 c5;generalize As.target (sl s) st0=R1 at *;obtain ⟨⟨sym,add⟩,st1⟩:=R1;dsimp only at RS D1 ⊢;go_wp2_with fail;refine (Hw B s b g st1 1 sym add _ 1 [0] _ (D1.o.alloc _).1 (NH V1 0) (by simp)).mono ?_;rintro e VF ⟨rfl,hh⟩;have DF:=hid ((D1.o.alloc _).after hh);clear hh;go_wp2
  first | go_end0 | ((try simp only [Exit.inBlock,Exit.then]); refine bodyPost_ret (results_none rfl _ _ _) rfl ?_)
  rw [RS.o];exact ⟨rfl,DF.o⟩
theorem yoD (B:Nat) (s:ByteArray) (b g:Nat) (st0:As.St) (W:World) (h:yl B s b g st0 W) :
  Calls Tryz.prog 155 #[.pointer (some ⟨b,0,none⟩)] W fun en W'=>en = .returned (.tuple #[])/\Does B s b g W (As.space (sl s) st0) W':=by
 have D0:=hid h.does;clear h;obtain ⟨X,hX⟩:∃ X,X=As.space (sl s) st0:=⟨_,rfl⟩
 rw [<- hX];unfold As.space at hX;dsimp only at hX;have RS:=hid hX;clear hX;go_enter Tryz.func155,Tryz.ntmps155;have NB:=TJ (sl s) 0 4800 st0 (by omega) (by omega);go_wp2_with fail;refine (Gn B s b g st0 0 4800 _ D0.o.1).mono ?_;rintro e V1 ⟨rfl,hh⟩;have D1:=hid (D0.o.aN hh);clear hh D0;generalize As.number (sl s) 0 4800 st0=R1 at *;obtain ⟨n,st1⟩:=R1;dsimp only at RS D1 NB ⊢;have c10:=Qd D1.o.1;have hpos:=D1.o.1.ok.op.pos;obtain ⟨m,hm⟩:=Int.eq_ofNat_of_zero_le NB.1;subst hm;have hm0:(m:Int)<=4800:=NB.2;by_cases c:(m:Int) % 4=0
 ·rw [if_pos c] at RS;have d:((m:Int) % 4 == 0)=true:=by simp [c]
  have d':((m:Int) % 4 != 0)=false:=by simp [c]
  have em:((m:Int) / 4).toNat=m / 4:=by omega
  rw [em] at RS;have hm4:=hid (show ((m:Int) / 4)=((m / 4:Nat):Int) by omega);have WM:=hid (show m / 4<=4096 by omega);clear c em;go_wp2_with fail;refine (KC 0 (m / 4) _ hm4.o _ WM.o).mono ?_;rintro e V2 ⟨⟨ao,cap,rfl,hw⟩,hg⟩;have D2:=hid (D1.o.grown hg);have uN:=hid hw;clear hg hw;go_wp2_with fail;refine (Qi B s b g st1 0 (m / 4) ao cap V2 D2.o.1 uN.o WM.o).mono ?_;rintro e V3 ⟨rfl,h3⟩;have D3:=hid (D2.o.after h3);clear h3;go_wp2
  go_end0
  rw [RS.o];exact ⟨rfl,D3.o⟩
 ·rw [if_neg c] at RS;have d:((m:Int) % 4 == 0)=false:=by simp [c]
  have d':((m:Int) % 4 != 0)=true:=by simp [c]
  clear c;go_wp2_with fail;refine (yK B s b g st1 8 st1.op.pos V1 D1.o.1 (by omega) hpos).mono ?_;rintro e V3 ⟨rfl,h3⟩;have D3:=hid (D1.o.aN h3);clear h3;go_wp2
  (try simp only [Exit.inBlock,Exit.then]); refine bodyPost_ret (results_none rfl _ _ _) rfl ?_
  rw [RS.o];exact ⟨rfl,D3.o⟩
end Go.Proofs.YtpgklkhgfcjceaaGreatDoor
