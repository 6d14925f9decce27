
import Derived.Test.YtelehpmjhjljgaaGreatDoorV22
set_option maxHeartbeats 16000000
set_option maxRecDepth 100000
namespace Go.Proofs.YtelehpmjhjljgaaGreatDoor
open Go.RowKit
theorem yny:∀ (ms:List (Lk.Obj×Bool)) (os:List Lk.Obj),(Ln.pass ms os).1.map Prod.fst=ms.map Prod.fst:=by
 intro ms
 induction ms with
 | nil=>intro os; rfl
 | cons m ms ih =>
  intro os;obtain ⟨o,t⟩:=m;unfold Ln.pass;split
  ·rw [List.map_cons,ih,List.map_cons]
  ·rw [List.map_cons,ih,List.map_cons]
theorem ynx (P:Lk.Obj->Prop):∀ (ms:List (Lk.Obj×Bool)) (os:List Lk.Obj),(∀ m∈ms,P m.1)->(∀ o∈os,P o)->∀ o∈(Ln.pass ms os).2.1,P o:=by
 intro ms
 induction ms with
 | nil=>intro os _ h; exact h
 | cons m ms ih =>
  intro os hm ho;obtain ⟨o,t⟩:=m;unfold Ln.pass;have h0:=hm (o,t) (by simp);split
  ·exact ih _ (fun x hx=>hm x (by simp [hx])) (fun x hx=>by
    rcases List.mem_append.1 hx with q | q
    ·exact ho x q
    ·simp at q; subst q; exact h0)
  ·exact ih _ (fun x hx=>hm x (by simp [hx])) ho
theorem ynz:∀ (ms:List (Lk.Obj×Bool)) (os:List Lk.Obj),(Ln.pass ms os).2.1.length+nI (Ln.pass ms os).1=os.length+nI ms:=by
 intro ms
 induction ms with
 | nil=>intro os; rfl
 | cons m ms ih =>
  intro os;obtain ⟨o,t⟩:=m;unfold Ln.pass;split
  ·rename_i h
   have:=ih (os ++ [o])
   rw [fE,o7] at this;unfold nI at this ⊢;rw [List.filter_cons_of_neg (by simp),List.filter_cons_of_pos (by simp [h.1]),gL];dsimp only;omega
  ·have:=ih os
   unfold nI at this ⊢
   cases t
   ·rw [List.filter_cons_of_pos (by simp),List.filter_cons_of_pos (by simp),gL,gL];dsimp only;omega
   ·rw [List.filter_cons_of_neg (by simp),List.filter_cons_of_neg (by simp)];exact this
theorem yjv (P:Lk.Obj->Prop):∀ (k:Nat) (ms:List (Lk.Obj×Bool)) (os:List Lk.Obj),(∀ m∈ms,P m.1)->(∀ o∈os,P o)->∀ o∈Ln.dJ k ms os,P o:=by
 intro k
 induction k with
 | zero=>intro ms os _ h; exact h
 | succ k ih =>
  intro ms os hm ho;have q:=ynx P ms os hm ho;unfold Ln.dJ;split
  ·refine ih _ _ (fun m hx=>?_) q
   have:m.1∈ms.map Prod.fst:=by rw [<- yny ms os]; exact List.mem_map_of_mem hx
   obtain ⟨y,hy,e⟩:=List.mem_map.1 this;rw [<- e];exact hm y hy
  ·exact q
theorem yjw:∀ (k:Nat) (ms:List (Lk.Obj×Bool)) (os:List Lk.Obj),(Ln.dJ k ms os).length<=os.length+nI ms:=by
 intro k
 induction k with
 | zero=>intro ms os; unfold Ln.dJ; omega
 | succ k ih =>
  intro ms os;have q:=ynz ms os;unfold Ln.dJ;split
  ·have:=ih (Ln.pass ms os).1 (Ln.pass ms os).2.1
   omega
  ·omega
theorem yjx (P:Lk.Obj->Prop) (os:List Lk.Obj) (x:Bool×List Lk.Obj) (hx:∀ o∈x.2,P o) (ho:∀ o∈os,P o):∀ o∈Ln.dV os x,P o:=by
 unfold Ln.dV;split
 ·refine yjv P _ _ _ (fun m hm=>?_) ho;unfold jM at hm;obtain ⟨y,hy,rfl⟩:=List.mem_map.1 hm;exact hx y hy
 ·intro o h;rcases List.mem_append.1 h with q | q
  ·exact ho o q
  ·exact hx o q
theorem yjz (os:List Lk.Obj) (x:Bool×List Lk.Obj):(Ln.dV os x).length<=os.length+x.2.length:=by
 unfold Ln.dV;split
 ·have:=yjw (x.2.length+1) (jM x.2) os
  rw [Mr] at this;exact this
 ·rw [fE]; omega
theorem yku (P:Lk.Obj->Prop):∀ (xs:List (Bool×List Lk.Obj)) (os:List Lk.Obj),(∀ x∈xs,∀ o∈x.2,P o)->(∀ o∈os,P o)->∀ o∈xs.foldl Ln.dV os,P o:=by
 intro xs
 induction xs with
 | nil=>intro os _ h; exact h
 | cons x xs ih =>
  intro os hx ho;exact ih _ (fun y hy=>hx y (by simp [hy])) (yjx P os x (hx x (by simp)) ho)
theorem XZ:∀ (xs:List (Bool×List Lk.Obj)) (os:List Lk.Obj),(∀ x∈xs,x.2.length<=6)->(xs.foldl Ln.dV os).length<=os.length+6 * xs.length:=by
 intro xs
 induction xs with
 | nil=>intro os _; simp
 | cons x xs ih =>
  intro os hx;have a:=yjz os x;have b:=hx x (by simp);have c:=ih (Ln.dV os x) (fun y hy=>hx y (by simp [hy]));rw [List.foldl_cons,gL];omega
theorem Xp {l:List UInt8} {a:Bool} {os:List Lk.Obj} (h:vK l a os):(∀ o∈os,yp o)/\os.length<=6:=by
 rcases h with ⟨-,h1,rfl⟩ | ⟨-,-,ms,h1,rfl⟩
 ·exact ⟨fun o ho=>by simp at ho; subst ho; exact h1.1,by simp⟩
 ·refine ⟨fun o ho=>?_,by rw [jc]; exact h1.1.2⟩;obtain ⟨m,hm,rfl⟩:=List.mem_map.1 ho;exact (h1.2.1 m hm).1
instance CS (a b c d:Int):Decidable (Im.gG a b c d):=by unfold Im.gG; infer_instance
instance CQ (m:Im.lC):Decidable (Im.Fits m):=by unfold Im.Fits; infer_instance
namespace Ln
def aX (img:Im.lC) (ms:List Mod):nW:=if ¬ Im.Fits img then ⟨36,0,[]⟩ else if (aQ ms).e≠0 then aQ ms else if (Im.code img img.start).isSome then ok else ⟨35,0,[]⟩
def dh (os:List Lk.Obj) (bt bf bd:Int):List Mod:=layout bt bf bd (bA os (os.map bare))
def dG (os:List Lk.Obj) (bt bf bd:Int):Im.lC:=image (dh os bt bf bd) (named os eU) bt bf bd (noughts bd (shorten (lay bt bf bd (bA os (os.map bare)))))
end Ln
theorem yjW {ms:List Ln.Mod} (st:Ln.fQ) (bt bf bd no:Int) (hv:∀ m∈ms,yp m.obj):pY (Ln.image ms st bt bf bd no).T/\pY (Ln.image ms st bt bf bd no).F/\pY (Ln.image ms st bt bf bd no).D :=
 ⟨RJ ms 1 bt 19 (by omega) ms [] hv (fun x hx=>by simp at hx),RJ ms 2 bf 19 (by omega) ms [] hv (fun x hx=>by simp at hx),RJ ms 3 bd 0 (by omega) ms [] hv (fun x hx=>by simp at hx)⟩
theorem XK {ms:List Ln.Mod} {bt bf bd:Int} (hv:∀ m∈ms,yp m.obj) (hl:ms.length<=48) (ht:0<=bt/\bt<=1073741824/\bt % 4=0) (hf:0<=bf/\bf<=1073741824/\bf % 4=0) (hd:0<=bd/\bd<=1073741824/\bd % 4=0) :
  (Ln.region (Ln.lay bt bf bd ms) 1 bt 19 (Ln.lay bt bf bd ms) []).length<=65535/\(Ln.region (Ln.lay bt bf bd ms) 2 bf 19 (Ln.lay bt bf bd ms) []).length<=65535/\(Ln.region (Ln.lay bt bf bd ms) 3 bd 0 (Ln.lay bt bf bd ms) []).length<=65535:=by
 have hv2:=xk (Au ms bt bf bd) hv;have ll:=xS ms bt bf bd;have ch:=WL ms bt bf bd;have c1:uU 1 Ln.Mod.text (Ln.lay bt bf bd ms) bt (uZ 1 ms bt):=Md 1 Ln.Mod.text (fun _ _=>rfl) _ _ _ _ ch.1;have c2:uU 2 Ln.Mod.far (Ln.lay bt bf bd ms) bf (uZ 2 ms bf):=Md 2 Ln.Mod.far (fun _ _=>rfl) _ _ _ _ ch.2;have c3:xV (Ln.lay bt bf bd ms) bd (Ln.bH ms bd):=WK _ _ _ _ (WX ms bt bf bd);have e1:=MU (Ln.lay bt bf bd ms) 1 (.inl rfl) Ln.Mod.text bt 19 ht.2.2 WW (Ln.lay bt bf bd ms) [] bt _ hv2 ht.1 (by rw [ll]; omega) (by simp) c1;have e2:=MU (Ln.lay bt bf bd ms) 2 (.inr rfl) Ln.Mod.far bf 19 hf.2.2 Xh (Ln.lay bt bf bd ms) [] bf _ hv2 hf.1 (by rw [ll]; omega) (by simp) c2
 have e3:=XR (Ln.lay bt bf bd ms) bd 0 hd.2.2 (Ln.lay bt bf bd ms) [] bd _ hv2 hd.1 (by rw [ll]; omega) (by simp) c3;have r1:=WG 1 (.inl rfl) ms bt hv ht.1 (by omega);have r2:=WG 2 (.inr rfl) ms bf hv hf.1 (by omega);have r3:=Xn ms bd hv hd.1 (by omega);simp only [Int.cast_ofNat_Int] at e1 e2;omega
theorem BK {a:Int} (h:Im.Base a):0<=a/\a<=1073741824/\a % 4=0:=by
 obtain ⟨⟨h1,h2⟩,h3⟩:=h;omega
structure yoE (os:List Lk.Obj) (bt bf bd:Int):Prop where
 valid:∀ m∈Ln.dh os bt bf bd,yp m.obj
 nice:∀ m∈Ln.dh os bt bf bd,yO os.length m
 low:∀ m∈Ln.dh os bt bf bd,nY m
 mean:∀ m∈Ln.dh os bt bf bd,∀ s∈m.means,ko s
 start:Ns os.length (Ln.named os Ln.eU)
 Ka:Im.pq (Ln.dG os bt bf bd)
theorem yov {os:List Lk.Obj} {bt bf bd:Int} (hv:∀ o∈os,yp o) (hl:os.length<=48) (ht:Im.Base bt) (hf:Im.Base bf) (hd:Im.Base bd):yoE os bt bf bd:=by
 have A:=Rm os hv;have t:=BK ht;have f:=BK hf;have d:=BK hd;have len:(Ln.bA os (os.map Ln.bare)).length=os.length:=by simp [Ln.bA]
 have rv:∀ m∈Ln.bA os (os.map Ln.bare),yp m.obj:=fun m hm=>(A m hm).obj
 have V:∀ m∈Ln.dh os bt bf bd,yp m.obj:=xk (yls _ bt bf bd) rv
 have low:∀ m∈Ln.dh os bt bf bd,nY m:=ylr rv (by omega) (by omega) (by omega) (by omega)
 have sl:=Yb os Ln.eU hv;have sv:=xk (Kn _) (xk (Au _ bt bf bd) rv);have aar:(Ln.shorten (Ln.lay bt bf bd (Ln.bA os (os.map Ln.bare)))).length=os.length:=by unfold Ln.shorten; rw [jc,xS,len]
 have L:=XK (ms:=Ln.shorten (Ln.lay bt bf bd (Ln.bA os (os.map Ln.bare)))) (bt:=bt) (bf:=bf) (bd:=bd) sv (by omega) t f d;refine ⟨V,ykb (fun m hm=>(A m hm).nice) rv (by omega) (by omega) (by omega) (by omega),low,ynq Ln.Mod.means (P:=fun l=>∀ s∈l,ko s) (yja _ bt bf bd) (fun m hm=>(A m hm).low),⟨?_,fun i hi=>RZ os _ i hi⟩,?_⟩
 ·unfold ko at sl; omega
 ·have s:=Xe low (Ln.named os Ln.eU) sl;have r3:=Xn _ bd sv d.1 (by omega);have r4:=yiH _ (Ln.bH (Ln.shorten (Ln.lay bt bf bd (Ln.bA os (os.map Ln.bare)))) bd) sv (by omega) (by omega);refine ⟨?_,?_,?_,?_,L,?_⟩
  ·show 0<=Ln.bK _ _/\Ln.bK _ _ < _;exact ⟨s.1,by have:=s.2; omega⟩
  ·show 0<=bt/\bt < 4294967296; omega
  ·show 0<=bf/\bf < 4294967296; omega
  ·show 0<=bd/\bd < 4294967296; omega
  ·show 0<=Ln.noughts bd _/\Ln.noughts bd _<=65535;unfold Ln.noughts;omega
theorem ygO (W0:World) (P:Nat) (bt bf bd:Int) (vm:Value) (bl gl:List Nat) (ms:List Ln.Mod) (st:Ln.fQ) (no:Int) (I:Nat) (img:Im.lC) (W:World) (h:ProgAt W0 P bt bf bd vm bl gl ms st no W) (hn:∀ m∈ms,yO bl.length m) (hi:tO W I img) (ht:Im.pq img) :
  Calls Tryz.prog 25 #[aP P,aP I] W fun e W'=>e = .returned (bJ (Ln.aX img ms))/\W.grownBy W' none:=by
 have HP:=hid h;have HI:=hid hi;have HN:=hid hn;have HT:=hid ht;have R:=hid (show Ln.aX img ms=if ¬ Im.Fits img then ⟨36,0,[]⟩ else if (Ln.aQ ms).e≠0 then Ln.aQ ms else if (Im.code img img.start).isSome then Ln.ok else ⟨35,0,[]⟩ from rfl);have G0:=hid (aH W (.cells #[.int .i64 0,.int .i64 0,.string ⟨#[]⟩] 32) none);have B0:=hid (ye.new W #[.int .i64 0,.int .i64 0,.string ⟨#[]⟩] 32);have cF:=hid (fun V (hg:W.grownBy V none)=>yhK I img V (HI.o.kept hg) ht);have cR:=hid (fun V (hg:W.grownBy V none)=>yhA W0 P bt bf bd vm bl gl ms st no V (HP.o.kept hg) hn);have cC:=hid (fun V (hg:W.grownBy V none)=>ymV I img img.start V (HI.o.kept hg) ht ht.start.1 ht.start.2)
 clear h hn hi ht;unfold aP at *;go_enter Tryz.func25,Tryz.ntmps25;go_wp2_with fail;refine (cF.o _ G0.o).mono ?_;rintro e V1 ⟨tv,h1⟩;have G1:=hid (ya G0.o h1);have BR:=hid (B0.o.grown h1 (by simp));clear h1 cF;rcases tv.split with ⟨rfl,hp⟩ | ⟨rfl,hp⟩
 ·have E:=hid (show Ln.aX img ms=⟨36,0,[]⟩ by rw [R.o,if_pos hp.o]);clear tv hp;have z0:V1.cell? ⟨W.heap.size,0,none⟩=some (.int .i64 0):=BR.o.cell 0;have z1:V1.cell? ⟨W.heap.size,1,none⟩=some (.int .i64 0):=BR.o.cell 1;have z2:V1.cell? ⟨W.heap.size,2,none⟩=some (.string ⟨#[]⟩):=BR.o.cell 2;have f0:=BR.o.free 0;have f1:=BR.o.free 1;have f2:=BR.o.free 2;go_wp2;have F:=((BR.o.set 0 (.int .i64 36)).set 1 (.int .i64 0)).set 2 (.string ⟨#[]⟩);have h0:=F.cell 0;have h1:=F.cell 1;have h2:=F.cell 2;simp only [fu,fC,eX,dH,dL,dK] at h0 h1 h2;refine bodyPost_ret (v:=bJ ⟨36,0,[]⟩) ?_ rfl ⟨by rw [E.o],yx G1.o _ (Nat.le_refl _) _ _ _⟩
  clear F z0 z1 z2 f0 f1 f2;generalize World.setCell _ _ _=WF at *;simp [results,Tryz.results25,go_sem,bJ,bs,h0,h1,h2]
 ·have R2:=hid (show Ln.aX img ms=if (Ln.aQ ms).e≠0 then Ln.aQ ms else if (Im.code img img.start).isSome then Ln.ok else ⟨35,0,[]⟩ by rw [R.o,if_neg (not_not_intro hp.o)]);clear tv hp R;generalize Ln.aQ ms=f at *;obtain ⟨fe,fa,fn⟩:=f;unfold bJ at cR;dsimp only at *;go_wp2_with fail;refine (cR.o _ G1.o).mono ?_;rintro e V2 ⟨rfl,h2⟩;have A2:=aH V2 (.cells #[.int .i64 fe,.int .i64 fa,.string (bs fn)] 32) none;have G2:=hid (ya (ya G1.o h2) A2);have BX:=hid (ye.new V2 #[.int .i64 fe,.int .i64 fa,.string (bs fn)] 32);have kU:=hid (BR.o.grown (ya h2 A2) (by simp));have hlt:=hid (Nat.lt_of_lt_of_le BR.o.lt h2.size)
  clear h2 A2 cR BR;have hne:W.heap.size≠V2.heap.size:=by have:=hlt.o; omega
  have BR:=kU;clear kU;by_cases he:fe=0
  ·subst he;have R3:=hid (show Ln.aX img ms=if (Im.code img img.start).isSome then Ln.ok else ⟨35,0,[]⟩ by rw [R2.o,if_neg (by simp)]);have i0:(V2.alloc (.cells #[.int .i64 0,.int .i64 fa,.string (bs fn)] 32)).cell? ⟨I,0,none⟩=some (.int .i64 img.start):=by
    obtain ⟨vt,vf,vd,hb,-⟩:=HI.o;exact yc (hb.cell 0) G2.o
   go_wp2_with fail;refine (cC.o _ G2.o).mono ?_;rintro e V3 ⟨rfl,n,hw⟩;subst hw;have G3:=hid (yd G2.o n);have BR:=hid (BR.o.drewN n);clear i0 cC G2;generalize (V2.alloc (.cells #[.int .i64 0,.int .i64 fa,.string (bs fn)] 32)).drewN n=V3 at *
   cases hc:(Im.code img img.start).isSome
   ·have E:=hid (show Ln.aX img ms=⟨35,0,[]⟩ by rw [R3.o,hc]; rfl);clear hc;have z0:V3.cell? ⟨W.heap.size,0,none⟩=some (.int .i64 0):=BR.o.cell 0;have z1:V3.cell? ⟨W.heap.size,1,none⟩=some (.int .i64 0):=BR.o.cell 1;have z2:V3.cell? ⟨W.heap.size,2,none⟩=some (.string ⟨#[]⟩):=BR.o.cell 2;have f0:=BR.o.free 0;have f1:=BR.o.free 1;have f2:=BR.o.free 2;go_wp2;have F:=((BR.o.set 0 (.int .i64 35)).set 1 (.int .i64 0)).set 2 (.string ⟨#[]⟩);have h0:=F.cell 0;have h1:=F.cell 1;have h2:=F.cell 2;simp only [fu,fC,eX,dH,dL,dK] at h0 h1 h2;refine bodyPost_ret (v:=bJ ⟨35,0,[]⟩) ?_ rfl ⟨by rw [E.o],yx G3.o _ (Nat.le_refl _) _ _ _⟩
    clear F z0 z1 z2 f0 f1 f2;generalize World.setCell _ _ _=WF at *;simp [results,Tryz.results25,go_sem,bJ,bs,h0,h1,h2]
   ·have E:=hid (show Ln.aX img ms=Ln.ok by rw [R3.o,hc]; rfl);clear hc;have z0:V3.cell? ⟨W.heap.size,0,none⟩=some (.int .i64 0):=BR.o.cell 0;have z1:V3.cell? ⟨W.heap.size,1,none⟩=some (.int .i64 0):=BR.o.cell 1;have z2:V3.cell? ⟨W.heap.size,2,none⟩=some (.string ⟨#[]⟩):=BR.o.cell 2;have f0:=BR.o.free 0;have f1:=BR.o.free 1;have f2:=BR.o.free 2;go_wp2;have F:=((BR.o.set 0 (.int .i64 0)).set 1 (.int .i64 0)).set 2 (.string ⟨#[]⟩);have h0:=F.cell 0;have h1:=F.cell 1;have h2:=F.cell 2;simp only [fu,fC,eX,dH,dL,dK] at h0 h1 h2;refine bodyPost_ret (v:=bJ Ln.ok) ?_ rfl ⟨by rw [E.o],yx G3.o _ (Nat.le_refl _) _ _ _⟩
    clear F z0 z1 z2 f0 f1 f2;generalize World.setCell _ _ _=WF at *;simp [results,Tryz.results25,go_sem,bJ,Ln.ok,bs,h0,h1,h2]
  ·have d1:(fe == 0)=false:=by simpa using he
   have d2:(fe != 0)=true:=by simpa using he
   have E:=hid (show Ln.aX img ms=⟨fe,fa,fn⟩ by rw [R2.o,if_pos he]);clear he;have z0:(V2.alloc (.cells #[.int .i64 fe,.int .i64 fa,.string (bs fn)] 32)).cell? ⟨W.heap.size,0,none⟩=some (.int .i64 0):=BR.o.cell 0;have z1:(V2.alloc (.cells #[.int .i64 fe,.int .i64 fa,.string (bs fn)] 32)).cell? ⟨W.heap.size,1,none⟩=some (.int .i64 0):=BR.o.cell 1;have z2:(V2.alloc (.cells #[.int .i64 fe,.int .i64 fa,.string (bs fn)] 32)).cell? ⟨W.heap.size,2,none⟩=some (.string ⟨#[]⟩):=BR.o.cell 2;have f0:=BR.o.free 0;have f1:=BR.o.free 1;have f2:=BR.o.free 2;go_wp2;have F:=((BR.o.set 0 (.int .i64 fe)).set 1 (.int .i64 fa)).set 2 (.string (bs fn))
   have h0:=F.cell 0;have h1:=F.cell 1;have h2:=F.cell 2;simp only [fu,fC,eX,dH,dL,dK] at h0 h1 h2;refine bodyPost_ret (v:=bJ ⟨fe,fa,fn⟩) ?_ rfl ⟨by rw [E.o],yx G2.o _ (Nat.le_refl _) _ _ _⟩;clear F z0 z1 z2 f0 f1 f2;generalize World.setCell _ _ _=WF at *;simp [results,Tryz.results25,go_sem,bJ,bs,h0,h1,h2]
namespace Dl
def vZ (o:Lk.Obj):Prop:=∀ y∈o.syms,0<=y.ah/\0<=y.bind
theorem oo {n:List UInt8} {y:Lk.Sym} (h:0<=y.ah/\0<=y.bind):iK n y=true↔(y.name=n/\Ln.defines y=true):=by
 unfold iK Ln.defines;simp only [Bool.and_eq_true,decide_eq_true_iff,Bool.not_eq_true',decide_eq_false_iff_not];constructor
 ·rintro ⟨h1,h2,h3⟩; exact ⟨h1,by omega,by omega⟩
 ·rintro ⟨h1,h2,h3⟩; exact ⟨h1,by omega,by omega⟩
theorem jY {o:Lk.Obj} (h:vZ o) (n:List UInt8):gives o n=true↔∃ y∈o.syms,y.name=n/\Ln.defines y=true:=by
 unfold gives;rw [List.any_eq_true];constructor
 ·rintro ⟨y,hy,hg⟩; exact ⟨y,hy,(oo (h y hy)).1 hg⟩
 ·rintro ⟨y,hy,hg⟩; exact ⟨y,hy,(oo (h y hy)).2 hg⟩
theorem vC {os:List Lk.Obj} (h:∀ o∈os,vZ o) (n:List UInt8):(os.any fun o=>gives o n)=Ln.has os n:=by
 rw [Bool.eq_iff_iff];unfold Ln.has;rw [List.any_eq_true,List.any_eq_true];constructor
 ·rintro ⟨o,ho,hg⟩;obtain ⟨y,hy,h1,h2⟩:=(jY (h o ho) n).1 hg;exact ⟨o,ho,by rw [List.any_eq_true]; exact ⟨y,hy,by simp [h1,h2]⟩⟩
 ·rintro ⟨o,ho,hg⟩;rw [List.any_eq_true] at hg;obtain ⟨y,hy,hb⟩:=hg;simp only [Bool.and_eq_true,decide_eq_true_iff] at hb;exact ⟨o,ho,(jY (h o ho) n).2 ⟨y,hy,hb⟩⟩
theorem mY {os:List Lk.Obj} (h:∀ o∈os,vZ o) (n:List UInt8):n∈lacking os↔(Ln.wants os n=true/\Ln.has os n=false):=by
 unfold lacking gZ ig Ln.wants;rw [List.any_eq_true];simp only [List.mem_flatMap,List.mem_map,List.mem_filter];constructor
 ·rintro ⟨o,ho,y,⟨hy,hl⟩,rfl⟩;unfold ow at hl;rw [vC h] at hl;simp only [Bool.and_eq_true,decide_eq_true_iff,Bool.not_eq_true'] at hl
  have:=(h o ho y hy).1
  refine ⟨⟨o,ho,?_⟩,hl.2⟩;rw [List.any_eq_true];exact ⟨y,hy,by unfold Ln.wanted; simp only [Bool.and_eq_true,decide_eq_true_iff]; exact ⟨trivial,hl.1.2,by omega⟩⟩
 ·rintro ⟨⟨o,ho,ha⟩,hn⟩;rw [List.any_eq_true] at ha;obtain ⟨y,hy,hb⟩:=ha;unfold Ln.wanted at hb;simp only [Bool.and_eq_true,decide_eq_true_iff] at hb;obtain ⟨rfl,h2,h3⟩:=hb;refine ⟨o,ho,y,⟨hy,?_⟩,rfl⟩;unfold ow;rw [vC h];simp only [Bool.and_eq_true,decide_eq_true_iff,Bool.not_eq_true'];exact ⟨⟨by omega,h2⟩,hn⟩
theorem sS {os:List Lk.Obj} {o:Lk.Obj} (h:∀ o∈os,vZ o) (ho:vZ o):((lacking os).any fun n=>gives o n)=Ln.needs os o:=by
 rw [Bool.eq_iff_iff];unfold Ln.needs;rw [List.any_eq_true,List.any_eq_true];constructor
 ·rintro ⟨n,hn,hg⟩;obtain ⟨h1,h2⟩:=(mY h n).1 hn;obtain ⟨y,hy,rfl,h3⟩:=(jY ho n).1 hg;exact ⟨y,hy,by simp [h1,h2,h3]⟩
 ·rintro ⟨y,hy,hb⟩;simp only [Bool.and_eq_true,Bool.not_eq_true'] at hb;exact ⟨y.name,(mY h y.name).2 hb.2,(jY ho y.name).2 ⟨y,hy,rfl,hb.1⟩⟩
end Dl
theorem yp.pos2 {o:Lk.Obj} (h:yp o):Dl.vZ o:=by
 intro y hy;obtain ⟨i,hi,rfl⟩:=List.getElem_of_mem hy;exact ⟨(h.2.2.2.1 i hi).1.2.2.1.1,(h.2.2.2.1 i hi).1.2.1.1⟩
theorem Tryz.sF:(Tryz.prog.info? 70).map (fun i=>(i.zero,i.size,i.bytes))=some (some (.agg #[.pointer none]),1,8):=by kernel_rfl
structure jy (W0:World) (v:Value) (gl:List Nat) (os:List Lk.Obj) (W:World):Prop where
 row:W.ownsRow W0.heap.size 70 1 v gl.length (gl.map aP)
 len:gl.length=os.length
 obj:∀ i (h:i < gl.length) (h':i < os.length),yq W gl[i] os[i]
 few:os.length<=48
 val:∀ o∈os,yp o
 gr:W0.grownBy W none
section
variable {W0 W W' w3:World} {v v':Value} {gl:List Nat} {os:List Lk.Obj} {g:Nat} {o:Lk.Obj} {row:Option Nat} {e:TypeId}
theorem XQ {n cap:Nat} {ao:Option Addr} {B:Nat} {e:TypeId} (h:W.ownsRow B e 1 (.slice ao n cap) n (gl.map aP)):Gr W ao gl:=by
 intro h0;have hn:gl.length=n:=by have:=h.1; simp at this; omega
 rcases h.2 with ⟨h1,h2⟩ | ⟨g,cap',cur,hv,_⟩
 ·simp at h1; omega
 ·simp only [Value.slice.injEq] at hv;obtain ⟨rfl,_,rfl⟩:=hv;refine ⟨g,0,rfl,fun i hi=>?_⟩;have q:=h.cellAt i (by simp; omega);rw [Nat.zero_add,q];simp [aP]
theorem jy.parts {ao:Option Addr} {cap:Nat} (h:jy W0 (.slice ao gl.length cap) gl os W):qx W ao gl os:=⟨XQ h.row,h.len,h.obj,h.few,h.val⟩
theorem jy.kept (h:jy W0 v gl os W) (hg:W.grownBy W' none):jy W0 v gl os W' :=
 ⟨sU h.row hg,h.len,fun i h1 h2=>(h.obj i h1 h2).kept hg,h.few,h.val,ya h.gr hg⟩
theorem jy.ty (h:jy W0 v gl os W) (hg:W.grownBy W' row) (hr:aW W row e) (hb:∀ b,row=some b->W0.heap.size<=b) (h0:70≠e) (h1:75≠e) (h2:3≠e) (h3:77≠e) (h4:83≠e):jy W0 v gl os W' :=
 ⟨yw h.row hg hr h0,h.len,fun i q1 q2=>oK (h.obj i q1 q2) hg hr h1 h2 h3 h4,h.few,h.val,yD h.gr hg hb⟩
theorem jy.push (h:jy W0 v gl os W) (ho:yq W g o) (hv:yp o) (hf:os.length < 48) (hg:W.grownBy w3 v.ownBlock) (hn:w3.ownsRow W0.heap.size 70 1 v' (gl.length+1) (gl.map aP ++ [aP g])):jy W0 v' (gl ++ [g]) (os ++ [o]) w3:=by
 have RT:=aW.own h.row;refine ⟨by simpa using hn,by simp [h.len],fun i h1 h2=>?_,by simp; omega,fun x hx=>?_,yD h.gr hg (fun b hb=>(h.row.lt b hb).1)⟩
 ·by_cases hi:i < gl.length
  ·have hi2:i < os.length:=by rw [<- h.len]; exact hi
   rw [List.getElem_append_left hi,List.getElem_append_left hi2];exact oK (h.obj i hi hi2) hg RT (by decide) (by decide) (by decide) (by decide)
  ·rw [fE,o7] at h1;obtain rfl:i=gl.length:=by omega
   rw [List.getElem_append_right (Nat.le_refl _),List.getElem_append_right (by rw [h.len]; exact Nat.le_refl _)];simp only [Nat.sub_self,List.getElem_singleton];exact oK ho hg RT (by decide) (by decide) (by decide) (by decide)
 ·rcases List.mem_append.1 hx with hx | hx
  ·exact h.val x hx
  ·simp only [List.mem_singleton] at hx;subst hx;exact hv
end
def kL (W:World) (b:Nat) (ts:List Bool):Prop:=ye W b (ts.map Value.bool).toArray 4
theorem kL.set {W:World} {b:Nat} {ts:List Bool} (h:kL W b ts) (i:Nat) (x:Bool):kL (W.setCell ⟨b,i,none⟩ (.bool x)) b (ts.set i x):=by
 have:=ye.set h i (.bool x)
 unfold kL;rw [List.map_set];simpa using this
namespace Dl
def fG (m:Ln.Mod) (ah:Nat):Int:=yL (m.obj.align.getD (ah - 1) 0)
def dA (ah:Nat):List Ln.Mod->Int->List (List Int)
 | [],_=>[]
 | m :: r,a=>Ln.aA m ah 0 (eZ m.obj ah) (Ln.rup a (fG m ah)) :: dA ah r (Ln.aL m ah 0 (eZ m.obj ah) (Ln.rup a (fG m ah)))
def aR (ah:Nat):List Ln.Mod->Int->Int
 | [],a=>a
 | m :: r,a=>aR ah r (Ln.aL m ah 0 (eZ m.obj ah) (Ln.rup a (fG m ah)))
def bN (bt bf bd:Int) (ms:List Ln.Mod) (ah:Nat):Int:=if ah=1 then bt else if ah=2 then bf else if ah=3 then bd else aR 3 ms bd
def tab (bt bf bd:Int) (ms:List Ln.Mod) (i s:Nat):List Int:=(dA s ms (bN bt bf bd ms s)).getD i []
def ends (bt bf bd:Int) (ms:List Ln.Mod) (s:Nat):Int:=aR s ms (bN bt bf bd ms s)
theorem uK (ah:Nat):∀ (ms:List Ln.Mod) (a:Int),(dA ah ms a).length=ms.length:=by
 intro ms
 induction ms with
 | nil=>intro a; rfl
 | cons m r ih=>intro a; rw [dA,gL,gL,ih]
theorem om (m:Ln.Mod) (ah:Int):∀ (ws:List Int) (i:Nat) (a:Int),a<=Ln.aL m ah i ws a/\Ln.aL m ah i ws a<=a+4 * ws.length:=by
 intro ws
 induction ws with
 | nil=>intro i a; rw [Ln.aL]; exact ⟨by omega,by simp⟩
 | cons x ws ih =>
  intro i a;rw [Ln.aL,gL]
  cases Ln.stays m ah (4 * i) a
  ·have:=ih (i+1) a
   simp only [Bool.false_eq_true,if_false];omega
  ·have:=ih (i+1) (a+4)
   simp only [if_true];omega
theorem sO (s:Nat) (ms:List Ln.Mod) (i:Nat) (h:i < ms.length) (c:Int):dA s (ms.drop i) c=Ln.aA ms[i] s 0 (eZ ms[i].obj s) (Ln.rup c (fG ms[i] s)) :: dA s (ms.drop (i+1)) (Ln.aL ms[i] s 0 (eZ ms[i].obj s) (Ln.rup c (fG ms[i] s))):=by
 rw [jg h,dA]
theorem sP (s:Nat) (ms:List Ln.Mod) (i:Nat) (h:i < ms.length) (c:Int):aR s (ms.drop i) c=aR s (ms.drop (i+1)) (Ln.aL ms[i] s 0 (eZ ms[i].obj s) (Ln.rup c (fG ms[i] s))):=by
 rw [jg h,aR]
theorem nN {m:Ln.Mod} (h:yp m.obj) (s:Nat) (h1:1<=s) (h4:s<=4):∃ hl:s - 1 < m.obj.align.length,(m.obj.align[s - 1]=2/\fG m s=4)\/(m.obj.align[s - 1]=3/\fG m s=8)\/(m.obj.align[s - 1]=4/\fG m s=16):=by
 have hb:=h.2.1;have hl:s - 1 < m.obj.align.length:=by have:=hb.1; omega
 refine ⟨hl,?_⟩;have h2:=hb.2 (s - 1) hl;have e:fG m s=yL (m.obj.align[s - 1]):=by
  unfold fG;rw [iJ,gy hl];rfl
 rw [e];unfold yL;rcases (show m.obj.align[s - 1]=2\/m.obj.align[s - 1]=3\/m.obj.align[s - 1]=4 by omega) with h | h | h <;> rw [h] <;> simp
theorem nT {m:Ln.Mod} (h:yp m.obj) (s:Nat) (h1:1<=s) (h4:s<=4) (a:Int) (h0:0<=a) (ha:a<=1099511627776):(a<=Ln.rup a (fG m s)/\Ln.rup a (fG m s)<=a+15)/\a<=Ln.aL m s 0 (eZ m.obj s) (Ln.rup a (fG m s))/\Ln.aL m s 0 (eZ m.obj s) (Ln.rup a (fG m s))<=a+4832:=by
 obtain ⟨_,hb⟩:=nN h s h1 h4;have r:=ru a (fG m s) h0 (by omega) (by omega);have e:=om m s (eZ m.obj s) 0 (Ln.rup a (fG m s));have l:=EY h s;omega
theorem iC (s:Nat) (h1:1<=s) (h4:s<=4):∀ (ms:List Ln.Mod) (a:Int),(∀ m∈ms,yp m.obj)->0<=a->a+4832 * ms.length<=1099511627776->a<=aR s ms a/\aR s ms a<=a+4832 * ms.length:=by
 intro ms
 induction ms with
 | nil=>intro a _ _ _; rw [aR]; exact ⟨by omega,by simp⟩
 | cons m r ih =>
  intro a hv h0 ha;rw [gL] at ha ⊢;have st:=nT (hv m List.mem_cons_self) s h1 h4 a h0 (by omega)
  have:=ih (Ln.aL m s 0 (eZ m.obj s) (Ln.rup a (fG m s))) (fun x hx=>hv x (List.mem_cons_of_mem _ hx)) (by omega) (by omega)
  rw [aR];omega
theorem uH (m:Ln.Mod) (ah:Int):∀ (ws:List Int) (i:Nat) (a x:Int),x∈Ln.aA m ah i ws a->a<=x/\x<=a+4 * ws.length:=by
 intro ws
 induction ws with
 | nil=>intro i a x hx; rw [Ln.aA,List.mem_singleton] at hx; subst hx; exact ⟨by omega,by simp⟩
 | cons y ws ih =>
  intro i a x hx;rw [Ln.aA,List.mem_cons] at hx;rw [gL];rcases hx with rfl | hx
  ·omega
  ·revert hx
   cases Ln.stays m ah (4 * i) a
   ·intro hx; have:=ih (i+1) a x (by simpa using hx); omega
   ·intro hx; have:=ih (i+1) (a+4) x (by simpa using hx); omega
theorem uL (s:Nat) (h1:1<=s) (h4:s<=4):∀ (ms:List Ln.Mod) (a:Int),(∀ m∈ms,yp m.obj)->0<=a->a+4832 * ms.length<=1099511627776->∀ l∈dA s ms a,∀ x∈l,a<=x/\x<=a+4832 * ms.length:=by
 intro ms
 induction ms with
 | nil=>intro a _ _ _ l hl; cases hl
 | cons m r ih =>
  intro a hv h0 ha l hl x hx;rw [gL] at ha ⊢;have st:=nT (hv m List.mem_cons_self) s h1 h4 a h0 (by omega);have sl:=EY (hv m List.mem_cons_self) s;rw [dA,List.mem_cons] at hl;rcases hl with rfl | hl
  ·have:=uH m s (eZ m.obj s) 0 _ x hx
   omega
  ·have:=ih _ (fun z hz=>hv z (List.mem_cons_of_mem _ hz)) (by omega) (by omega) l hl x hx
   omega
theorem getD_at {α:Type} (acc rest:List α) (x d:α) (i:Nat) (h:acc.length=i):(acc ++ x :: rest).getD i d=x:=by
 subst h;rw [iJ,List.getElem?_append_right (Nat.le_refl _),Nat.sub_self];rfl
end Dl
def vM (W:World) (lo:Nat) (bl:List Nat) (D:Nat->Nat->Prop) (T:Nat->Nat->List Int):Prop :=
 ∀ i (h:i < bl.length),∃ cur:Array Value,ye W bl[i] cur 35/\cur.size=5/\∀ s,s < 5->D i s->∃ ao cap,cur[s]?=some (.slice ao (T i s).length cap)/\W.ownsRow lo 3 1 (.slice ao (T i s).length cap) (T i s).length ((T i s).map (Value.int .i64))
section
variable {W W':World} {lo:Nat} {bl:List Nat} {D D':Nat->Nat->Prop} {T:Nat->Nat->List Int}
theorem vM.kept (h:vM W lo bl D T) (hg:W.grownBy W' none):vM W' lo bl D T:=by
 intro i hi;obtain ⟨cur,h1,h2,h3⟩:=h i hi;refine ⟨cur,h1.grown hg (by simp),h2,fun s hs hd=>?_⟩;obtain ⟨ao,cap,q1,q2⟩:=h3 s hs hd;exact ⟨ao,cap,q1,sU q2 hg⟩
theorem vM.ty {row:Option Nat} {e:TypeId} (h:vM W lo bl D T) (hg:W.grownBy W' row) (hr:aW W row e) (h1:35≠e) (h2:3≠e):vM W' lo bl D T:=by
 intro i hi;obtain ⟨cur,q1,q2,q3⟩:=h i hi;refine ⟨cur,yy q1 hg hr h1,q2,fun s hs hd=>?_⟩;obtain ⟨ao,cap,q4,q5⟩:=q3 s hs hd;exact ⟨ao,cap,q4,yw q5 hg hr h2⟩
theorem vM.put (h:vM W lo bl D T) (hn:bl.Nodup) (i s:Nat) (hi:i < bl.length) (hs:s < 5) (ao:Option Addr) (cap:Nat) (ho:W.ownsRow lo 3 1 (.slice ao (T i s).length cap) (T i s).length ((T i s).map (Value.int .i64))) (hD:∀ a b,D' a b->D a b\/(a=i/\b=s)) :
  vM (W.setCell ⟨bl[i],s,none⟩ (.slice ao (T i s).length cap)) lo bl D' T:=by
 obtain ⟨ci,c1,c2,c3⟩:=h i hi;have GS:=yi W bl[i] s (.slice ao (T i s).length cap);have RT:=aW.blk c1;intro k hk;by_cases e:k=i
 ·subst e;refine ⟨_,c1.set s _,by simp [c2],fun b hb hd=>?_⟩;by_cases eb:b=s
  ·subst eb;refine ⟨ao,cap,by rw [Array.getElem?_setIfInBounds,if_pos rfl,if_pos (by omega)],yw ho GS RT (by decide)⟩
  ·rcases hD k b hd with hd | ⟨-,hd⟩
   ·obtain ⟨OQ,cap2,q1,q2⟩:=c3 b hb hd;exact ⟨OQ,cap2,by rw [Array.getElem?_setIfInBounds,if_neg (fun c=>eb c.symm)]; exact q1,yw q2 GS RT (by decide)⟩
   ·exact absurd hd eb
 ·obtain ⟨ck,q1,q2,q3⟩:=h k hk;refine ⟨ck,q1.grown GS (fun c=>?_),q2,fun b hb hd=>?_⟩
  ·simp only [Option.some.injEq] at c;exact R4 hn hk hi e c
  ·rcases hD k b hd with hd | ⟨hd,-⟩
   ·obtain ⟨OQ,cap2,q4,q5⟩:=q3 b hb hd;exact ⟨OQ,cap2,q4,yw q5 GS RT (by decide)⟩
   ·exact absurd hd e
theorem vM.cell (h:vM W lo bl D T) (i s:Nat) (hi:i < bl.length) (hs:s < 5) (hd:D i s):∃ ao cap,W.cell? ⟨bl[i],s,none⟩=some (.slice ao (T i s).length cap)/\ym W ao (T i s):=by
 obtain ⟨cur,q1,q2,q3⟩:=h i hi;obtain ⟨ao,cap,q4,q5⟩:=q3 s hs hd;exact ⟨ao,cap,by rw [q1.cell s,q4],ym.aB q5⟩
theorem vM.free (h:vM W lo bl D T) (i s:Nat) (hi:i < bl.length) (hs:s < 5):W.frozen? ⟨bl[i],s,none⟩=false/\∃ v,W.cell? ⟨bl[i],s,none⟩=some v:=by
 obtain ⟨cur,q1,q2,q3⟩:=h i hi;refine ⟨q1.free s,cur[s]'(by omega),?_⟩;rw [q1.cell s,Array.getElem?_eq_getElem]
end
def pQ (b:Nat):Value:=.slice (some ⟨b,0,none⟩) 5 5
theorem Tryz.wQ:(Tryz.prog.info? 86).map (fun i=>(i.zero,i.size,i.bytes))=some (some (.slice none 0 0),1,24):=by kernel_rfl
theorem Tryz.zQ:(Tryz.prog.info? 35).map (fun i=>(i.zero,i.size,i.bytes))=some (some (.slice none 0 0),1,24):=by kernel_rfl
structure jL (w:World) (L E:Nat) (va:Value) (bl:List Nat) (es:List Int) (D:Nat->Nat->Prop) (T:Nat->Nat->List Int) (W:World):Prop where
 blk:ye W L #[va,.slice (some ⟨E,0,none⟩) 5 5] 45
 ends:ye W E (es.map (Value.int .i64)).toArray 3
 row:W.ownsRow w.heap.size 86 1 va bl.length (bl.map pQ)
 rows:vM W (E+1) bl D T
 nd:bl.Nodup
 lo:∀ b∈bl,w.heap.size<=b/\b < W.heap.size
 Bw:w.heap.size<=L
 Bv:w.heap.size<=E
 gr:w.grownBy W none
section
variable {w W W':World} {L E:Nat} {va:Value} {bl:List Nat} {es:List Int} {D D':Nat->Nat->Prop} {T:Nat->Nat->List Int}
theorem jL.kept (h:jL w L E va bl es D T W) (hg:W.grownBy W' none):jL w L E va bl es D T W' :=
 ⟨h.blk.grown hg (by simp),h.ends.grown hg (by simp),sU h.row hg,h.rows.kept hg,h.nd,fun b hb=>⟨(h.lo b hb).1,Nat.lt_of_lt_of_le (h.lo b hb).2 hg.size⟩,h.Bw,h.Bv,ya h.gr hg⟩
theorem jL.more {X:Nat} {cur:Array Value} {w3:World} {v':Value} (h:jL w L E va bl es (fun _ _=>False) T W) (hX:ye W X cur 35) (h5:cur.size=5) (Jv:w.heap.size<=X) (Ei:∀ b∈bl,b≠X) (hg:W.grownBy w3 va.ownBlock) (hn:w3.ownsRow w.heap.size 86 1 v' (bl.length+1) (bl.map pQ ++ [pQ X])) :
  jL w L E v' (bl ++ [X]) es (fun _ _=>False) T (w3.setCell ⟨L,0,none⟩ v'):=by
 have RT:=aW.own h.row;have b3:=yy h.blk hg RT (by decide);have e3:=yy h.ends hg RT (by decide);have GS:=yi w3 L 0 v';have RL:=aW.blk b3;have hsz:=hg.size;have x3:=yy hX hg RT (by decide);have xl:=x3.lt;refine ⟨by simpa using b3.set 0 v',yy e3 GS RL (by decide),?_,?_,?_,?_,h.Bw,h.Bv,?_⟩
 ·have q:=yw hn GS RL (by decide);rw [fE,List.map_append];exact q
 ·intro i hi;by_cases c:i < bl.length
  ·obtain ⟨ci,q1,q2,q3⟩:=h.rows i c;rw [List.getElem_append_left c];exact ⟨ci,yy (yy q1 hg RT (by decide)) GS RL (by decide),q2,fun s _ hd=>hd.elim⟩
  ·rw [fE,o7] at hi;obtain rfl:i=bl.length:=by omega
   rw [List.getElem_append_right (Nat.le_refl _)];simp only [Nat.sub_self,List.getElem_singleton];exact ⟨cur,yy x3 GS RL (by decide),h5,fun s _ hd=>hd.elim⟩
 ·rw [List.nodup_append];refine ⟨h.nd,by simp,fun a ha b hb=>?_⟩;simp only [List.mem_singleton] at hb;subst hb;exact Ei a ha
 ·intro b hb;rcases List.mem_append.1 hb with hb | hb
  ·have:=h.lo b hb
   exact ⟨this.1,Nat.lt_of_lt_of_le (Nat.lt_of_lt_of_le this.2 hsz) GS.size⟩
  ·simp only [List.mem_singleton] at hb;subst hb;exact ⟨Jv,Nat.lt_of_lt_of_le xl GS.size⟩
 ·exact yD (yD h.gr hg (fun b hb=>(h.row.lt b hb).1)) GS (by intro b hb; simp at hb; have:=h.Bw; omega)
theorem jL.put (h:jL w L E va bl es D T W) (i s:Nat) (hi:i < bl.length) (hs:s < 5) (ao:Option Addr) (cap:Nat) (ho:W.ownsRow (E+1) 3 1 (.slice ao (T i s).length cap) (T i s).length ((T i s).map (Value.int .i64))) (hD:∀ a b,D' a b->D a b\/(a=i/\b=s)) :
  jL w L E va bl es D' T (W.setCell ⟨bl[i],s,none⟩ (.slice ao (T i s).length cap)):=by
 obtain ⟨ci,c1,c2,c3⟩:=h.rows i hi;have GS:=yi W bl[i] s (.slice ao (T i s).length cap);have RT:=aW.blk c1;exact ⟨yy h.blk GS RT (by decide),yy h.ends GS RT (by decide),yw h.row GS RT (by decide),h.rows.put h.nd i s hi hs ao cap ho hD,h.nd,fun b hb=>⟨(h.lo b hb).1,Nat.lt_of_lt_of_le (h.lo b hb).2 GS.size⟩,h.Bw,h.Bv,yD h.gr GS (by intro b hb; simp at hb; subst hb; exact (h.lo _ (dM hi)).1)⟩
theorem jL.Eu (h:jL w L E va bl es D T W) (s:Nat) (x:Int):jL w L E va bl (es.set s x) D T (W.setCell ⟨E,s,none⟩ (.int .i64 x)):=by
 have GS:=yi W E s (.int .i64 x);have RT:=aW.blk h.ends;refine ⟨yy h.blk GS RT (by decide),?_,yw h.row GS RT (by decide),?_,h.nd,fun b hb=>⟨(h.lo b hb).1,Nat.lt_of_lt_of_le (h.lo b hb).2 GS.size⟩,h.Bw,h.Bv,yD h.gr GS (by intro b hb; simp at hb; subst hb; exact h.Bv)⟩
 ·rw [List.map_set];simpa using h.ends.set s (.int .i64 x)
 ·intro i hi;obtain ⟨cur,q1,q2,q3⟩:=h.rows i hi;refine ⟨cur,yy q1 GS RT (by decide),q2,fun b hb hd=>?_⟩;obtain ⟨ao,cap,q4,q5⟩:=q3 b hb hd;refine ⟨ao,cap,q4,q5.kept GS ?_⟩
  cases e:(Value.slice ao (T i b).length cap).ownBlock with
  | none=>exact .inl rfl
  | some k =>
   refine .inr fun c=>?_
   have:=(q5.lt k e).1
   simp only [Option.some.injEq] at c;omega
theorem jL.mono (h:jL w L E va bl es D T W) (hD:∀ a b,a < bl.length->D' a b->D a b):jL w L E va bl es D' T W :=
 ⟨h.blk,h.ends,h.row,fun i hi=>by
  obtain ⟨cur,q1,q2,q3⟩:=h.rows i hi;exact ⟨cur,q1,q2,fun s hs hd=>q3 s hs (hD i s hi hd)⟩,h.nd,h.lo,h.Bw,h.Bv,h.gr⟩
theorem jL.J7 {R:Nat} {cur:Array Value} (h:jL w L E va bl es D T W) (hR:R≠L) (hb:ye W R cur 45) (hw:w.heap.size<=R) (o:Nat) (v:Value):jL w L E va bl es D T (W.setCell ⟨R,o,none⟩ v):=by
 have GS:=yi W R o v;have RT:=aW.blk hb;exact ⟨h.blk.grown GS (by simpa using fun c=>hR c.symm),yy h.ends GS RT (by decide),yw h.row GS RT (by decide),h.rows.ty GS RT (by decide) (by decide),h.nd,fun b hb=>⟨(h.lo b hb).1,Nat.lt_of_lt_of_le (h.lo b hb).2 GS.size⟩,h.Bw,h.Bv,yD h.gr GS (by intro b hb; simp at hb; omega)⟩
theorem jL.low {w0:World} (h:jL w L E va bl es D T W) (hg:w0.grownBy w none):jL w0 L E va bl es D T W :=
 ⟨h.blk,h.ends,Kr h.row hg.size,h.rows,h.nd,fun b hb=>⟨Nat.le_trans hg.size (h.lo b hb).1,(h.lo b hb).2⟩,Nat.le_trans hg.size h.Bw,Nat.le_trans hg.size h.Bv,ya hg h.gr⟩
theorem jL.ty {row:Option Nat} {e:TypeId} (h:jL w L E va bl es D T W) (hg:W.grownBy W' row) (hr:aW W row e) (hb:∀ b,row=some b->w.heap.size<=b) (h1:45≠e) (h2:3≠e) (h3:86≠e) (h4:35≠e):jL w L E va bl es D T W' :=
 ⟨yy h.blk hg hr h1,yy h.ends hg hr h2,yw h.row hg hr h3,h.rows.ty hg hr h4 h2,h.nd,fun b hb=>⟨(h.lo b hb).1,Nat.lt_of_lt_of_le (h.lo b hb).2 hg.size⟩,h.Bw,h.Bv,yD h.gr hg hb⟩
theorem jL.at_ {n cap:Nat} {ao:Option Addr} (h:jL w L E (.slice ao n cap) bl es D T W) (h0:0 < bl.length):∃ g,ao=some ⟨g,0,none⟩/\n=bl.length/\∀ i (hi:i < bl.length),W.cell? ⟨g,i,none⟩=some (pQ bl[i]):=by
 rcases h.row.2 with ⟨h1,h2⟩ | ⟨g,cap',cur,hv,_⟩
 ·omega
 ·simp only [Value.slice.injEq] at hv;obtain ⟨rfl,rfl,rfl⟩:=hv;refine ⟨g,rfl,rfl,fun i hi=>?_⟩;have q:=h.row.cellAt i (by simp; omega);rw [q];simp [hi]
end
theorem M7 {w:World} {B n g:Nat} {e:TypeId} {xs:List Value} (h:w.ownsRow B e 1 (.slice (some ⟨g,0,none⟩) n n) n xs):ye w g xs.toArray e:=by
 rcases h.2 with ⟨h1,_⟩ | ⟨g',cap',cur,hv,_,hg,_,_,h5,h6⟩
 ·simp at h1
 ·simp only [Value.slice.injEq,Option.some.injEq,Addr.mk.injEq] at hv;obtain ⟨⟨rfl,_⟩,_,rfl⟩:=hv;rw [List.take_of_length_le (by simp; omega)] at h6;show _=_;rw [hg,<- h6]
theorem XF {w:World} {B n g:Nat} (h:w.ownsRow B 4 1 (.slice (some ⟨g,0,none⟩) n n) n (madeCells (Value.bool false).cells (n * 1)).toList):kL w g (List.replicate n false):=by
 have e2:(madeCells (Value.bool false).cells (n * 1)).toList=(List.replicate n false).map Value.bool:=by
  rw [Nat.mul_one];show (madeCells #[Value.bool false] n).toList=_;rw [toList_madeCells_one];simp
 rw [e2] at h;exact M7 h
theorem kL.cell {W:World} {b:Nat} {ts:List Bool} (h:kL W b ts) (i:Nat) (hi:i < ts.length):W.cell? ⟨b,i,none⟩=some (.bool ts[i]):=by
 have:=ye.cell h i
 rw [this];simp [hi]
theorem Yw (m:List UInt8) (ho:jG m) (hs:m.length<=1048576) (w:World) :
  Calls Tryz.prog 27 #[.string (bs m)] w fun e w'=>∃ g,e = .returned (.tuple #[.pointer (some ⟨g,0,none⟩),.bool true])/\yq w' g (yF m)/\w.grownBy w' none:=by
 refine (Rz (bs m) w (by rw [uY]; exact hs)).mono ?_;rintro e w' ⟨hr,hg⟩;rw [Na,Df] at hr;rcases hr with ⟨_,g,e1,e2⟩ | ⟨hne,_⟩
 ·exact ⟨g,e1,e2,hg⟩
 ·exact absurd ho hne
theorem ylY (W0:World) (vp:Value) (gl:List Nat) (os:List Lk.Obj) (am:Option Addr) (cm bm:Nat) (ms:List (List UInt8)) (W:World) (h:jy W0 vp gl os W) (hm:W.ownsRow bm 9 1 (.slice am ms.length cm) ms.length (eB ms)) (zJ:∀ m∈ms,jG m) (hsz:∀ m∈ms,m.length<=1048576) (hn:ms.length<=6) (hc:os.length+ms.length<=48) :
  Calls Tryz.prog 29 #[vp,.slice am ms.length cm] W fun e W'=>∃ v' Jt,e = .returned v'/\jy W0 v' Jt (Ln.dJ (ms.length+1) (jM (ms.map yF)) os) W':=by
 obtain ⟨i1,hi1,hy0,hy1,hy2⟩:=info_parts Tryz.oq;obtain ⟨i2,hi2,hx0,hx1,hx2⟩:=info_parts Tryz.sF;have H:=hid h;have HM:=hid hm;have OB:=hid zJ;have SZ:=hid hsz;have hcm:=yZ hm;clear h hm zJ hsz;obtain ⟨T,hT⟩:∃ T,T=Ln.dJ (ms.length+1) (jM (ms.map yF)) os:=⟨_,rfl⟩
 rw [<- hT];have HT:=hid hT;clear hT;have FL:=hid (show (jM (ms.map yF)).length=ms.length/\nI (jM (ms.map yF))=ms.length/\(jM (ms.map yF)).map Prod.fst=ms.map yF/\(jM (ms.map yF)).map Prod.snd=List.replicate ms.length false by
  refine ⟨by simp [jM],by rw [Mr,jc],by simp [jM,Function.comp_def],?_⟩;apply List.ext_getElem
  ·simp [jM]
  ·intro i h1 h2; simp [jM])
 generalize jM (ms.map yF)=ms0 at *;go_enter Tryz.func29,Tryz.ntmps29
 go_upto_region 2 with (at_make; refine wpList_make_full _ rfl _ _ 85 rfl W.heap.size 4 i1 (.bool false) 1 Tryz.underlying85 hi1 hy0 hy1 .i64 .i64 _ _ ms.length rfl rfl rfl rfl (by rw [hy2]; omega) (by unfold maxLen; omega) (Nat.le_refl _) ?_; intro w2 hown2 hg2; have IN:=hid (XF hown2); have DR:=hid (H.o.kept hg2); have HS:=hid (sU HM.o hg2); have hib:=H.o.gr.size; clear hown2 hg2 HM H)
 generalize W.heap.size=ib at *;go_wp2
 go_loopg [0,6] (ms.length+1) (fun g vv mo wr=>∃ (more:Bool) (ms1:List (Lk.Obj×Bool)) (os1:List Lk.Obj) (Bq:List Nat),mo = .bool more/\jy W0 vv Bq os1 wr/\kL wr ib (ms1.map Prod.snd)/\ms1.map Prod.fst=ms.map yF/\os1.length+nI ms1<=48/\wr.ownsRow bm 9 1 (.slice am ms.length cm) ms.length (eB ms)/\(more=true->nI ms1+1<=g/\T=Ln.dJ g ms1 os1)/\(more=false->T=os1))
 case atStart=>exact ⟨true,ms0,os,gl,rfl,DR.o,by rw [FL.o.2.2.2]; exact IN.o,FL.o.2.2.1,by rw [FL.o.2.1]; exact hc,HS.o,fun _=>⟨by rw [FL.o.2.1]; omega,HT.o⟩,fun c=>by cases c⟩
 case round =>
  obtain ⟨more,ms1,os1,Bq,rfl,hd,hin,wK,hb,hs,hy,hno⟩:=hrel
  cases more with
  | false =>
   have E:=hid (hno rfl);have HD:=hid hd;clear hd hin hs hy hno DR HS IN;obtain ⟨ap,cp,rfl⟩:=yj HD.o.row;go_wp2;go_ret;rw [E.o];exact ⟨_,Bq,rfl,HD.o⟩
  | true =>
   obtain ⟨hk,hE⟩:=hy rfl;obtain ⟨gk',rfl⟩:∃ k,gk=k+1:=⟨gk - 1,by omega⟩
   have E:=hid hE;have HD:=hid hd;have TP:=hid hin;have Uh:=hid hs;have hl1:ms1.length=ms.length:=by have:=congrArg List.length wK; simpa using this
   have Ij:=hid wK;clear hd hin hs hy hno hE wK DR HS IN;obtain ⟨ap,cp,rfl⟩:=yj HD.o.row;go_wp2
   go_loopw [0,6,7] (fun vv mo i wr=>∃ (j:Nat) (jo:Bool) (ms2:List (Lk.Obj×Bool)) (os2:List Lk.Obj) (qh:List Nat),j<=ms.length/\i = .int .i64 j/\mo = .bool jo/\jy W0 vv qh os2 wr/\kL wr ib (ms2.map Prod.snd)/\ms2.map Prod.fst=ms.map yF/\sZ ms1 os1 j ms2 os2 jo/\os2.length+nI ms2<=48/\wr.ownsRow bm 9 1 (.slice am ms.length cm) ms.length (eB ms)) (fun _ _ i _=>ms.length - (intOf i).toNat)
   case atStart=>exact ⟨0,false,ms1,os1,Bq,Nat.zero_le _,rfl,rfl,HD.o,TP.o,Ij.o,sZ.start _ _,hb,Uh.o⟩
   case round =>
    clear HD TP Uh Ij;obtain ⟨j,jo,ms2,os2,qh,hj,rfl,rfl,hd2,hin2,CO,hp2,hb2,hs2⟩:=hrel;have HD2:=hid hd2;have HI2:=hid hin2;have qE:=hid hp2;have HS2:=hid hs2;have iq:=hid CO;obtain ⟨ap2,cp2,rfl⟩:=yj hd2.row;clear hd2 hin2 hp2 hs2 CO;by_cases hlt:j < ms.length
    ·have hj1:j < ms1.length:=by omega
     have hj2:j < ms2.length:=by rw [qE.o.len]; exact hj1
     obtain ⟨sg,so,rfl,hcs⟩:=xW.aB HS2.o (by omega);have cj:=hcs j hlt;have VO:=hid (OB.o ms[j] (dM hlt)).1;have cP:=hid (fun W=>Yw ms[j] (OB.o ms[j] (dM hlt)) (SZ.o ms[j] (dM hlt)) W);have g1:(j:Int) < (ms.length:Int):=by omega
     have YES:=hid (qE.o.yes hj1 hj2);have NO:=hid (qE.o.no hj1 hj2);have MJ:=hid (show ms2[j].1=yF ms[j] by
      have h1:(ms2.map Prod.fst)[j]?=(ms.map yF)[j]?:=by rw [iq.o]
      rw [List.getElem?_map,List.getElem?_map,gy hj2,gy hlt] at h1;simpa using h1)
     clear hcs;generalize ms[j]=mj at *;generalize yF mj=oj at *;have hns:=VO.o.gT;have VP:=hid VO.o.pos2
     go_upto_region 9 with (go_at_call 27; refine (cP.o _).mono ?_; rintro e W5 ⟨g5,rfl,J2,h5⟩)
     have HD5:=hid (HD2.o.kept h5);have TH:=hid (show kL W5 ib (ms2.map Prod.snd) from ye.grown HI2.o h5 (by simp));have Ue:=hid (sU HS2.o h5);have Bd:=hid J2;clear h5 cP cj J2 HD2 HI2 HS2;have cL:=hid (yjY ap2 cp2 qh os2 W5 HD5.o.parts)
     go_upto_region 10 with (go_at_call 64; refine cL.o.mono ?_; rintro e W6 ⟨vl,rfl,ol,h6⟩)
     have HD6:=hid (HD5.o.kept h6);have TI:=hid (show kL W6 ib (ms2.map Prod.snd) from ye.grown TH.o h6 (by simp));have Uf:=hid (sU Ue.o h6);have IZ:=hid (Bd.o.kept h6);have OL:=hid ol;obtain ⟨al,cl,rfl⟩:=yj ol;have TK:=hid (Dl.sS (os:=os2) (o:=oj) (fun o ho=>(HD6.o.val o ho).pos2) VP.o);have hll:(Dl.lacking os2).length<=768:=by
      have:=Dl.ou os2 os2 fun o ho=>(HD6.o.val o ho).gT
      have:=HD6.o.few
      unfold Dl.lacking;omega
     clear h6 ol cL HD5 TH Ue Bd;generalize Dl.lacking os2=LS at *;go_wp2
     go_loopw [11,12] (fun v i wr=>∃ (m:Nat) (b:Bool),m<=LS.length/\i = .int .i64 m/\v = .bool b/\Ln.needs os2 oj=(b || (LS.drop m).any fun n=>Dl.gives oj n)/\W6.grownBy wr none) (fun _ i _=>LS.length - (intOf i).toNat)
     case atStart=>exact ⟨0,false,Nat.zero_le _,rfl,rfl,TK.o.symm,World.grownBy.refl _ _⟩
     case round =>
      obtain ⟨m,b,hm,rfl,rfl,hf3,jK⟩:=hrel;have Fj:=hid hf3;have xD:=hid jK;clear hf3 jK;by_cases hlt3:m < LS.length
      ·obtain ⟨lg,lo,rfl,hls⟩:=xW.aB (sU OL.o xD.o) (by omega);have cm':=hls m hlt3;have FM:=hid (show Ln.needs os2 oj=((b || Dl.gives oj LS[m]) || (LS.drop (m+1)).any fun n=>Dl.gives oj n) by rw [Fj.o,jg hlt3,List.any_cons,Bool.or_assoc]);have cV:=hid (X9 g5 oj LS[m] wr (IZ.o.kept xD.o) (by omega));clear hls;generalize Dl.gives oj LS[m]=gv at *;generalize LS[m]=lm at *;have g3:(m:Int) < (LS.length:Int):=by omega
       go_upto_region 15 with (go_at_call 65; refine cV.o.mono ?_; rintro e w' ⟨rfl,hq⟩)
       have G4:=hid (ya xD.o hq);clear hq cm' cV
       cases b
       ·go_wp2
        go_roundw
        case rel=>exact ⟨m+1,gv,by omega,by go_num,rfl,FM.o,G4.o⟩
        case measure=>simp [intOf]; omega
       ·go_wp2
        go_roundw
        case rel=>exact ⟨m+1,true,by omega,by go_num,rfl,FM.o,G4.o⟩
        case measure=>simp [intOf]; omega
      ·obtain rfl:m=LS.length:=by omega
       have EN:=hid (show Ln.needs os2 oj=b by rw [Fj.o,List.drop_length]; simp);have g3:decide ((LS.length:Int) < (LS.length:Int))=false:=by simp
       have HD7:=hid (HD6.o.kept xD.o);have Fq:=hid (show kL wr ib (ms2.map Prod.snd) from ye.grown TI.o xD.o (by simp));have K8:=hid (sU Uf.o xD.o);have UA:=hid (IZ.o.kept xD.o);have tj:=Fq.o.cell j (by rw [jc]; exact hj2);rw [List.getElem_map] at tj;have fj:=ye.free Fq.o j;clear Fj HD6 TI Uf IZ OL
       cases b
       ·have E2:=hid (NO.o (fun c=>by rw [MJ.o,EN.o] at c; cases c.2));go_wp2
        go_roundw
        case rel=>exact ⟨j+1,jo,ms2,os2,qh,by omega,by go_num,rfl,HD7.o,Fq.o,iq.o,E2.o,hb2,K8.o⟩
        case measure=>simp [intOf]; omega
       ·cases ht:ms2[j].2 with
        | true =>
         rw [ht] at tj;have E2:=hid (NO.o (fun c=>by rw [ht] at c; cases c.1));clear ht;go_wp2
         go_roundw
         case rel=>exact ⟨j+1,jo,ms2,os2,qh,by omega,by go_num,rfl,HD7.o,Fq.o,iq.o,E2.o,hb2,K8.o⟩
         case measure=>simp [intOf]; omega
        | false =>
         rw [ht] at tj;have E2:Hd (sZ ms1 os1 (j+1) (ms2.set j (oj,true)) (os2 ++ [oj]) true):=by
          have q:=YES.o ht (by rw [MJ.o]; exact EN.o);rw [MJ.o] at q;exact q
         have US:=hid (Rc ms2 j hj2 oj ht);clear ht;have hus:=US.o;have PY:os2.length < 48:=by omega
         have aak:qh.length<=47:=by have:=HD7.o.len; omega
         have hsw:=HD7.o.gr.size;have Pj:=hid (show (ms2.set j (oj,true)).map Prod.fst=ms.map yF by
          rw [<- iq.o,List.map_set];refine List.ext_getElem (by simp) fun i h1 h2=>?_
          by_cases e:j=i
          ·subst e; rw [List.getElem_set_self,List.getElem_map,MJ.o]
          ·rw [List.getElem_set_ne e])
         have Qw:=hid (show (ms2.set j (oj,true)).map Prod.snd=(ms2.map Prod.snd).set j true by rw [List.map_set])
         go_upto_region 18 with (at_builtin; refine wpList_append_own_at _ rfl _ _ 37 rfl W0.heap.size 70 i2 (.agg #[.pointer none]) 1 8 Tryz.underlying37 hi2 hx0 hx1 hx2 rfl (by decide) _ _ _ rfl (HD7.o.row.alloc _) ⟨wr.heap.size,0,none⟩ 1 1 [aP g5] rfl rfl (C9 _ _ _) (by intro u hu; simp at hu; rcases hu with rfl; rfl) (by unfold maxLen; omega) (by omega) (by simp; omega) ?_; intro v' w3 hown' hgrow _ hat; have KY:=hid hgrow; have HOW:=hid hown'; obtain ⟨jN,cv',rfl⟩:=yj hown'; clear hgrow hown' hat)
         have vU:=aH wr (.cells #[aP g5] 70) none;have Oy:=aW.own (HD7.o.kept vU).row;have KQ:=hid ((HD7.o.kept vU).push (UA.o.kept vU) VO.o PY KY.o HOW.o);have Io:=hid (show kL w3 ib (ms2.map Prod.snd) from yy (ye.grown Fq.o vU (by simp)) KY.o Oy (by decide));have Ug:=hid (yw (sU K8.o vU) KY.o Oy (by decide));clear vU Oy HD7 Fq K8 UA KY HOW tj fj;have tj:=Io.o.cell j (by rw [jc]; exact hj2);have fj:=ye.free Io.o j;have NJ:=yi w3 ib j (.bool true);have DT:=aW.blk Io.o;have Z0:=hid (KQ.o.ty NJ DT (by intro b e; simp at e; omega) (by decide) (by decide) (by decide) (by decide) (by decide));have TJ:=hid (Io.o.set j true)
         have HS9:=hid (yw Ug.o NJ DT (by decide));rw [<- Qw.o] at TJ;clear NJ DT KQ Io Ug;go_wp2
         go_roundw
         case rel=>exact ⟨j+1,true,ms2.set j (oj,true),os2 ++ [oj],qh ++ [g5],by omega,by go_num,rfl,Z0.o,TJ.o,Pj.o,E2.o,by rw [fE,o7]; omega,HS9.o⟩
         case measure=>simp [intOf]; omega
    ·obtain rfl:j=ms.length:=by omega
     have E2:=hid (qE.o.fin (by omega));have g3:decide ((ms.length:Int) < (ms.length:Int))=false:=by simp
     have TE:=hid (show T=if (Ln.pass ms1 os1).2.2=true then Ln.dJ gk' (Ln.pass ms1 os1).1 (Ln.pass ms1 os1).2.1 else (Ln.pass ms1 os1).2.1 from E.o);rw [E2.o] at TE;have hun:=qE.o.un;dsimp only at TE;go_wp2
     go_roundg gk'
     case measure=>omega
     case rel =>
      refine ⟨jo,ms2,os2,qh,rfl,HD2.o,HI2.o,iq.o,hb2,HS2.o,fun c=>?_,fun c=>?_⟩
      ·subst c;simp only [if_true] at hun;exact ⟨by omega,by rw [TE.o,if_pos rfl]⟩
      ·subst c;rw [TE.o,if_neg (by decide)]
end Go.Proofs.YtelehpmjhjljgaaGreatDoor
