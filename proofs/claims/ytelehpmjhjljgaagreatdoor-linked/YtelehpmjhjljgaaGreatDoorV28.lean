
import Derived.Test.YtelehpmjhjljgaaGreatDoorV27
set_option maxHeartbeats 16000000
set_option maxRecDepth 100000
namespace Go.Proofs.YtelehpmjhjljgaaGreatDoor
open Go.RowKit
namespace Dl
theorem rW (m:Ln.Mod) (ah:Int):∀ (ws:List Int) (i:Nat) (a:Int),a % 4=0->Ln.aL m ah i ws a % 4=0:=by
 intro ws
 induction ws with
 | nil=>intro i a h; exact h
 | cons x ws ih =>
  intro i a h;rw [Ln.aL];refine ih _ _ ?_;split
  ·omega
  ·exact h
theorem uI (m:Ln.Mod) (ah:Int):∀ (ws:List Int) (i:Nat) (a:Int),a % 4=0->∀ k,(Ln.aA m ah i ws a).getD k 0 % 4=0:=by
 intro ws
 induction ws with
 | nil =>
  intro i a h k;rw [Ln.aA]
  cases k with
  | zero=>exact h
  | succ k=>rfl
 | cons x ws ih =>
  intro i a h k;rw [Ln.aA]
  cases k with
  | zero=>exact h
  | succ k =>
   rw [List.getD_cons_succ];refine ih _ _ ?_ k;split
   ·omega
   ·exact h
theorem qb {m:Ln.Mod} (h:yp m.obj) (s:Nat) (h1:1<=s) (h4:s<=4):fG m s=4\/fG m s=8\/fG m s=16:=by
 obtain ⟨_,hb⟩:=nN h s h1 h4;omega
theorem oG (s:Nat) (h1:1<=s) (h4:s<=4):∀ (ms:List Ln.Mod) (a:Int),(∀ m∈ms,yp m.obj)->0<=a->a+4832 * ms.length<=1099511627776->a % 4=0->aR s ms a % 4=0:=by
 intro ms
 induction ms with
 | nil=>intro a _ _ _ h; exact h
 | cons m r ih =>
  intro a hv h0 ha hm;rw [gL] at ha;have st:=nT (hv m List.mem_cons_self) s h1 h4 a h0 (by omega);have R:=ru a (fG m s) h0 (by omega) (qb (hv m List.mem_cons_self) s h1 h4);rw [aR];exact ih _ (fun x hx=>hv x (List.mem_cons_of_mem _ hx)) (by omega) (by omega) (rW _ _ _ _ _ R.2.2)
theorem Bp {ms:List Ln.Mod} {bt bf bd:Int} (hv:∀ m∈ms,yp m.obj) (hl:ms.length<=48) (ht:0<=bt/\bt<=1073741824) (hf:0<=bf/\bf<=1073741824) (hd:0<=bd/\bd<=1073741824) (s:Nat):0<=bN bt bf bd ms s/\bN bt bf bd ms s<=1073973760:=by
 have:=iC 3 (by omega) (by omega) ms bd hv hd.1 (by omega)
 unfold bN;split
 ·omega
 ·split
  ·omega
  ·split
   ·omega
   ·omega
theorem BI {ms:List Ln.Mod} {bt bf bd:Int} (hv:∀ m∈ms,yp m.obj) (hl:ms.length<=48) (ht:0<=bt/\bt<=1073741824) (hf:0<=bf/\bf<=1073741824) (hd:0<=bd/\bd<=1073741824) (i s k:Nat) (h1:1<=s) (h4:s<=4):(tab bt bf bd ms i s).getD k 0 % 4=0:=by
 have F:=Bp hv hl ht hf hd s;unfold tab;by_cases hi:i < ms.length
 ·rw [qm s ms _ i hi];have M:=iI s h1 h4 ms (bN bt bf bd ms s) hv F.1 (by omega) i;exact uI _ _ _ _ _ (ru _ _ (by omega) (by omega) (qb (hv ms[i] (dM hi)) s h1 h4)).2.2 k
 ·rw [iJ (l:=dA _ _ _),List.getElem?_eq_none (by rw [uK]; omega)];simp
theorem zo {os:List Lk.Obj} {ms:List Ln.Mod} {bt bf bd:Int} (hv:∀ m∈ms,yp m.obj) (hl:ms.length<=48) (ht:0<=bt/\bt<=1073741824) (hf:0<=bf/\bf<=1073741824) (hd:0<=bd/\bd<=1073741824) (r:Option (Nat×Nat)) (hr:∀ p,r=some p->1<=(bD os p.1 p.2).ah/\(bD os p.1 p.2).ah<=4):addr os (tab bt bf bd ms) r % 4=0:=by
 cases r with
 | none=>rfl
 | some p =>
  have:=hr p rfl
  exact BI hv hl ht hf hd _ _ _ (by omega) (by omega)
def jl (os:List Lk.Obj) (ms:List Ln.Mod) (bt bf bd:Int):Im.lC:=⟨addr os (tab bt bf bd ms) (start os),bt,bf,bd,Ln.region (Ln.lay bt bf bd ms) 1 bt 19 (Ln.lay bt bf bd ms) [],Ln.region (Ln.lay bt bf bd ms) 2 bf 19 (Ln.lay bt bf bd ms) [],Ln.region (Ln.lay bt bf bd ms) 3 bd 0 (Ln.lay bt bf bd ms) [],Ln.noughts bd ms⟩
theorem wO {os:List Lk.Obj} {ms:List Ln.Mod} {bt bf bd:Int} (hv:∀ m∈ms,yp m.obj) (hl:ms.length<=48) (ht:0<=bt/\bt<=1073741824/\bt % 4=0) (hf:0<=bf/\bf<=1073741824/\bf % 4=0) (hd:0<=bd/\bd<=1073741824/\bd % 4=0) :
  Im.mH (jl os ms bt bf bd)=ends bt bf bd ms 1/\Im.mG (jl os ms bt bf bd)=ends bt bf bd ms 2/\Im.mF (jl os ms bt bf bd)=ends bt bf bd ms 4:=by
 obtain ⟨n1,n2,n3⟩:=QS hv hl ht hf hd;have no:=Xr bt bf bd hv;have m3:ends bt bf bd ms 3 % 4=0:=oG 3 (by omega) (by omega) ms bd hv hd.1 (by omega) hd.2.2;have l3:bd<=ends bt bf bd ms 3/\ends bt bf bd ms 3<=bd+4832 * ms.length:=iC 3 (by omega) (by omega) ms bd hv hd.1 (by omega);have m4:ends bt bf bd ms 4 % 4=0:=oG 4 (by omega) (by omega) ms (ends bt bf bd ms 3) hv (by omega) (by omega) m3;refine ⟨n1.symm,n2.symm,?_⟩;show bd+4 * (((Ln.region (Ln.lay bt bf bd ms) 3 bd 0 (Ln.lay bt bf bd ms) []).length:Int)+Ln.noughts bd ms)=_;rw [no];omega
theorem wG {os:List Lk.Obj} {ms:List Ln.Mod} {bt bf bd:Int} (hv:∀ m∈ms,yp m.obj) (hl:ms.length<=48) (ht:0<=bt/\bt<=1073741824/\bt % 4=0) (hf:0<=bf/\bf<=1073741824/\bf % 4=0) (hd:0<=bd/\bd<=1073741824/\bd % 4=0) :
  Im.Fits (jl os ms bt bf bd)↔((ends bt bf bd ms 1<=1073741824/\ends bt bf bd ms 2<=1073741824/\ends bt bf bd ms 4<=1073741824)/\(¬ Im.gG bt (ends bt bf bd ms 1) bf (ends bt bf bd ms 2)/\¬ Im.gG bt (ends bt bf bd ms 1) bd (ends bt bf bd ms 4)/\¬ Im.gG bf (ends bt bf bd ms 2) bd (ends bt bf bd ms 4))):=by
 obtain ⟨e1,e2,e3⟩:=wO (os:=os) hv hl ht hf hd;unfold Im.Fits;rw [e1,e2,e3];exact Iff.rfl
theorem mP {os:List Lk.Obj} {p:Nat×Nat} (h:start os=some p):(bD os p.1 p.2).ah=1\/(bD os p.1 p.2).ah=2:=by
 unfold start at h;split at h
 ·cases h
 ·rename_i i k hc;split at h
  ·cases h
  ·rename_i c
   cases h
   dsimp only;omega
theorem uP {os:List Lk.Obj} (h:start os≠none):start os=(cand os bF).head?:=by
 unfold start at h ⊢
 cases hc:(cand os bF).head? with
 | none=>rfl
 | some p =>
  obtain ⟨i,k⟩:=p;rw [hc] at h;dsimp only at h ⊢;by_cases c:(bD os i k).ah≠1/\(bD os i k).ah≠2
  ·rw [if_pos c] at h; exact absurd rfl h
  ·rw [if_neg c]
theorem wE {os:List Lk.Obj} {ms:List Ln.Mod} {bt bf bd:Int} (hv:∀ m∈ms,yp m.obj) (hl:ms.length<=48) (ht:0<=bt/\bt<=1073741824/\bt % 4=0) (hf:0<=bf/\bf<=1073741824/\bf % 4=0) (hd:0<=bd/\bd<=1073741824/\bd % 4=0) :
  (Im.code (jl os ms bt bf bd) (jl os ms bt bf bd).start).isSome=true↔((bt<=addr os (tab bt bf bd ms) (start os)/\addr os (tab bt bf bd ms) (start os) < ends bt bf bd ms 1)\/(bf<=addr os (tab bt bf bd ms) (start os)/\addr os (tab bt bf bd ms) (start os) < ends bt bf bd ms 2)):=by
 obtain ⟨n1,n2,-⟩:=QS hv hl ht hf hd;have m:addr os (tab bt bf bd ms) (start os) % 4=0:=zo hv hl ⟨ht.1,ht.2.1⟩ ⟨hf.1,hf.2.1⟩ ⟨hd.1,hd.2.1⟩ _ (fun p hp=>by have:=mP hp; omega);rw [Im.zw];show Im.In bt (Ln.region (Ln.lay bt bf bd ms) 1 bt 19 (Ln.lay bt bf bd ms) []).length (addr os (tab bt bf bd ms) (start os))\/Im.In bf (Ln.region (Ln.lay bt bf bd ms) 2 bf 19 (Ln.lay bt bf bd ms) []).length (addr os (tab bt bf bd ms) (start os))↔_;unfold Im.In;rw [n1,n2];omega
theorem sJ {os:List Lk.Obj} {ms:List Ln.Mod} {bt bf bd:Int} (hm:ms=Ln.shorten (Ln.lay bt bf bd (Ln.bA os (os.map Ln.bare)))) (hr:lU os ms) (hv:∀ o∈os,yp o) (hs:start os≠none) :
  Ln.dG os bt bf bd=jl os ms bt bf bd/\Ln.dh os bt bf bd=Ln.lay bt bf bd ms:=by
 have hp:Pos os:=fun o ho=>(hv o ho).pos
 refine ⟨zO hm hr hv hp (uP hs) (fun p hp=>⟨qp hp,by have:=mP hp; omega⟩),?_⟩;rw [hm];rfl
end Dl
theorem XW {w W:World} {ao:Option Addr} {n cap:Nat} {bl:List Nat} {os:List Lk.Obj} {ms:List Ln.Mod} {bt bf bd:Int} (hr:Dl.lU os ms) (hv:∀ o∈os,yp o) (h:yK w (.slice ao n cap) bl (os.map fun o=>o.aj.length) (Dl.iM os (Dl.tab bt bf bd ms)) W):vO W ao os.length (Ln.shorten (Ln.lay bt bf bd ms)):=by
 have hl:bl.length=os.length:=by rw [h.len]; simp
 have hml:=hr.len;have hsl:(Ln.shorten (Ln.lay bt bf bd ms)).length=os.length:=by unfold Ln.shorten; rw [jc,xS,hml]
 refine ⟨fun hp=>?_,hsl.symm⟩;obtain ⟨g,e,-,hc⟩:=h.cells (by omega);refine ⟨g,0,e,fun i hi=>?_⟩;have hi1:i < os.length:=by omega
 have hi2:i < (Ln.lay bt bf bd ms).length:=by rw [xS]; omega
 have hi3:i < (os.map fun o=>o.aj.length).length:=by rw [jc]; exact hi1
 have q:=hc i (by omega) hi3;have b:=h.blk i (by omega) hi3;rw [List.getElem_map] at q b;have ob:(Ln.shorten (Ln.lay bt bf bd ms))[i].obj=os[i]:=(hr.lay bt bf bd).shorten.obj i hi hi1;have ss:=Dl.uO hr hv i hi1 hi2 (bt:=bt) (bf:=bf) (bd:=bd);have ol:(Ln.lay bt bf bd ms)[i].obj=os[i]:=(hr.lay bt bf bd).obj i hi2 hi1;have sh:(Ln.shorten (Ln.lay bt bf bd ms))[i].short=Dl.fl (Dl.iM os (Dl.tab bt bf bd ms)) i os[i].aj.length:=by
  rw [<- ss,<- ol];simp [Ln.shorten]
 refine ⟨some ⟨bl[i],0,none⟩,os[i].aj.length,Dl.fl (Dl.iM os (Dl.tab bt bf bd ms)) i os[i].aj.length,?_,?_,?_⟩
 ·rw [Nat.zero_add,q,Dl.kN];rfl
 ·intro h0;refine ⟨bl[i],0,rfl,fun k hk=>?_⟩;have c:=b.cell k (by simpa using hk);rw [Nat.zero_add,c]
 ·refine ⟨by rw [ob,Dl.kN],fun k hk=>?_⟩;unfold Ln.dY;rw [sh,decide_eq_true (by omega),Bool.true_and,Int.toNat_natCast,iJ,gy hk];rfl
theorem yK.low {w0 w W:World} {v:Value} {bl ns:List Nat} {G:Nat->Nat->Bool} (h:yK w v bl ns G W) (hg:w0.grownBy w none):yK w0 v bl ns G W :=
 ⟨Kr h.row hg.size,h.len,h.blk,h.nd,fun b hb=>⟨Nat.le_trans hg.size (h.lo b hb).1,(h.lo b hb).2⟩,ya hg h.gr⟩
theorem yK.ty {w W W':World} {v:Value} {bl ns:List Nat} {G:Nat->Nat->Bool} {row:Option Nat} {e:TypeId} (h:yK w v bl ns G W) (hg:W.grownBy W' row) (hr:aW W row e) (hb:∀ b,row=some b->w.heap.size<=b) (h1:85≠e) (h2:4≠e):yK w v bl ns G W' :=
 ⟨yw h.row hg hr h1,h.len,fun i a b=>yy (h.blk i a b) hg hr h2,h.nd,fun b hb=>⟨(h.lo b hb).1,Nat.lt_of_lt_of_le (h.lo b hb).2 hg.size⟩,yD h.gr hg hb⟩
theorem ymI (V:World) (r:Nat) (a b c:Value):V.grownBy (((V.setCell ⟨r,0,none⟩ a).setCell ⟨r,1,none⟩ b).setCell ⟨r,2,none⟩ c) (some r) :=
 World.grownBy.trans (World.grownBy.trans (yi V r 0 a) (yi _ r 1 b)) (yi _ r 2 c)
theorem Yl (a:Int):Im.Base a↔(4096<=a/\a < 1073741824/\a % 16=0):=by
 unfold Im.Base;omega
theorem yok {bt bf bd:Int} (k:Nat) (hk:k < 3) (h:∀ j,j < k->Im.Base (([bt,bf,bd]:List Int).getD j 0)) (hn:¬ Im.Base (([bt,bf,bd]:List Int).getD k 0)):mV bt bf bd=⟨30,k,[]⟩:=by
 unfold mV;rcases (show k=0\/k=1\/k=2 by omega) with rfl | rfl | rfl
 ·have n0:¬ Im.Base bt:=hn;rw [if_pos n0]; rfl
 ·have b0:Im.Base bt:=h 0 (by omega);have n1:¬ Im.Base bf:=hn;rw [if_neg (not_not_intro b0),if_pos n1]; rfl
 ·have b0:Im.Base bt:=h 0 (by omega);have b1:Im.Base bf:=h 1 (by omega);have n2:¬ Im.Base bd:=hn;rw [if_neg (not_not_intro b0),if_neg (not_not_intro b1),if_pos n2]; rfl
theorem ymT {bt bf bd:Int} (h:∀ j,j < 3->Im.Base (([bt,bf,bd]:List Int).getD j 0)):mV bt bf bd=Ln.ok:=by
 have b0:Im.Base bt:=h 0 (by omega);have b1:Im.Base bf:=h 1 (by omega);have b2:Im.Base bd:=h 2 (by omega);unfold mV;rw [if_neg (not_not_intro b0),if_neg (not_not_intro b1),if_neg (not_not_intro b2)]
theorem yit {os:List Lk.Obj} (hp:Dl.Pos os) (h:(Ln.aM os).e=0):Dl.start os≠none:=by
 unfold Ln.aM at h;by_cases h1:(Ln.dS os).e≠0
 ·rw [if_pos h1] at h; exact absurd h h1
 rw [if_neg h1] at h;by_cases h2:(Ln.dw os).e≠0
 ·rw [if_pos h2] at h; exact absurd h h2
 rw [if_neg h2] at h;rw [show Ln.eU=Dl.bF from rfl,Dl.iW hp] at h;unfold Dl.start
 cases hc:(Dl.cand os Dl.bF).head? with
 | none =>
  rw [hc] at h;have c:Ln.none_.ah≠1/\Ln.none_.ah≠2:=by decide
  unfold Dl.lQ at h;dsimp only at h;rw [if_pos c] at h
  cases h
 | some p =>
  obtain ⟨a,b⟩:=p;rw [hc] at h;unfold Dl.lQ at h;dsimp only at h ⊢;by_cases c:(Dl.bD os a b).ah≠1/\(Dl.bD os a b).ah≠2
  ·rw [if_pos c] at h; cases h
  ·rw [if_neg c]; simp
def nU (a b c d:Int):Bool:=decide (¬ Im.gG a b c d)
theorem Rf (a b c d:Int) (w:World):Calls Tryz.prog 15 #[.int .i64 a,.int .i64 b,.int .i64 c,.int .i64 d] w fun e w'=>e = .returned (.bool (nU a b c d))/\w'=w:=by
 refine (ylS a b c d w).mono ?_;rintro e w' ⟨rfl,rfl⟩;exact ⟨congrArg (fun b=>Ending.returned (.bool b)) (by unfold nU; exact decide_eq_decide.2 Iff.rfl),rfl⟩
theorem Rp {a b c d:Int} (h:Im.gG a b c d):nU a b c d=false:=by unfold nU; exact decide_eq_false (not_not_intro h)
theorem uR {a b c d:Int} (h:¬ Im.gG a b c d):nU a b c d=true:=by unfold nU; exact decide_eq_true h
theorem ypR {e1 e2 e4:Int} {p q r:Prop} (h:¬ ((e1<=1073741824/\e2<=1073741824/\e4<=1073741824)/\¬ p/\¬ q/\¬ r)) :
  p\/(¬ p/\q)\/(¬ p/\¬ q/\r)\/(¬ p/\¬ q/\¬ r/\1073741824 < e1)\/(¬ p/\¬ q/\¬ r/\e1<=1073741824/\1073741824 < e2)\/(¬ p/\¬ q/\¬ r/\e1<=1073741824/\e2<=1073741824/\1073741824 < e4):=by
 by_cases hp:p
 ·exact .inl hp
 by_cases hq:q
 ·exact .inr (.inl ⟨hp,hq⟩)
 by_cases hr:r
 ·exact .inr (.inr (.inl ⟨hp,hq,hr⟩))
 by_cases h1:e1<=1073741824
 ·by_cases h2:e2<=1073741824
  ·by_cases h4:e4<=1073741824
   ·exact absurd ⟨⟨h1,h2,h4⟩,hp,hq,hr⟩ h
   ·exact .inr (.inr (.inr (.inr (.inr ⟨hp,hq,hr,h1,h2,by omega⟩))))
  ·exact .inr (.inr (.inr (.inr (.inl ⟨hp,hq,hr,h1,by omega⟩))))
 ·exact .inr (.inr (.inr (.inl ⟨hp,hq,hr,by omega⟩)))
theorem Ru {os:List Lk.Obj} {bt bf bd:Int} {f:Ln.nW} (h1:(Ln.aM os).e=0) (h2:Ln.aX (Ln.dG os bt bf bd) (Ln.dh os bt bf bd)=f) (h3:f.e≠0):Ln.jm os bt bf bd=([],f):=by
 unfold Ln.jm;rw [if_neg (not_not_intro h1),h2,if_pos h3]
theorem ylt {os:List Lk.Obj} {bt bf bd:Int} (h1:(Ln.aM os).e=0) (h2:Ln.aX (Ln.dG os bt bf bd) (Ln.dh os bt bf bd)=Ln.ok):Ln.jm os bt bf bd=(Im.bytes (Ln.dG os bt bf bd),Ln.ok):=by
 unfold Ln.jm;rw [if_neg (not_not_intro h1),h2,if_neg (by decide)]
theorem yjh {img:Im.lC} {ms:List Ln.Mod} (h:¬ Im.Fits img):Ln.aX img ms=⟨36,0,[]⟩:=by
 unfold Ln.aX;rw [if_pos h]
theorem yji {img:Im.lC} {ms:List Ln.Mod} (h:Im.Fits img) (h2:(Ln.aQ ms).e≠0):Ln.aX img ms=Ln.aQ ms:=by
 unfold Ln.aX;rw [if_neg (not_not_intro h),if_pos h2]
theorem yjj {img:Im.lC} {ms:List Ln.Mod} (h:Im.Fits img) (h2:(Ln.aQ ms).e=0) (h3:¬ (Im.code img img.start).isSome=true):Ln.aX img ms=⟨35,0,[]⟩:=by
 unfold Ln.aX;rw [if_neg (not_not_intro h),if_neg (not_not_intro h2),if_neg h3]
theorem ymF {img:Im.lC} {ms:List Ln.Mod} (h:Im.Fits img) (h2:(Ln.aQ ms).e=0) (h3:(Im.code img img.start).isSome=true):Ln.aX img ms=Ln.ok:=by
 unfold Ln.aX;rw [if_neg (not_not_intro h),if_neg (not_not_intro h2),if_pos h3]
open Classical in
noncomputable def sW (l:List UInt8):Bool×List Lk.Obj:=if jG l then (false,[yF l]) else (true,(yS l).map yF)
theorem X8 {l:List UInt8} (h:jG l):sW l=(false,[yF l]):=if_pos h
theorem Xz {l:List UInt8} (h:¬ jG l):sW l=(true,(yS l).map yF):=if_neg h
theorem Sd {l:List UInt8} (h:jG l\/nH l (yS l)):vK l (sW l).1 (sW l).2:=by
 by_cases ho:jG l
 ·rw [X8 ho]; exact .inl ⟨rfl,ho,rfl⟩
 ·rw [Xz ho]; exact .inr ⟨rfl,ho,_,h.resolve_left ho,rfl⟩
def DN (fs:List (List UInt8)) (f:Ln.nW):Prop :=
 ((fs.length < 1\/8 < fs.length)/\f=⟨31,0,[]⟩)\/(1<=fs.length/\fs.length<=8/\∃ i,∃ h:i < fs.length,f=⟨32,i,[]⟩/\Gq fs[i]/\∀ j (hj:j < i),∃ a os,vK (fs[j]'(by omega)) a os)
def ymR (fs:List (List UInt8)) (e:Ending) (w':World):Prop :=
 (∃ f:Ln.nW,f.e≠0/\e = .returned (.tuple #[.slice none 0 0,bJ f])/\DN fs f) \/
 (1<=fs.length/\fs.length<=8/\(∀ l∈fs,jG l\/nH l (yS l))/\∃ ap gl cp,e = .returned (.tuple #[.slice ap gl.length cp,bJ Ln.ok])/\qx w' ap gl (Ln.bO (fs.map sW)))
theorem yju (xs:List (Bool×List Lk.Obj)) (x:Bool×List Lk.Obj):Ln.bO (xs ++ [x])=Ln.dV (Ln.bO xs) x:=by
 unfold Ln.bO;rw [List.foldl_append];rfl
theorem yma {fs:List (List UInt8)} (h:∀ l∈fs,jG l\/nH l (yS l)) (k:Nat):(Ln.bO ((fs.take k).map sW)).length<=6 * (fs.take k).length:=by
 have:=XZ ((fs.take k).map sW) [] (fun x hx=>by
  obtain ⟨l,hl,rfl⟩:=List.mem_map.1 hx;exact (Xp (Sd (h l (List.mem_of_mem_take hl)))).2)
 unfold Ln.bO;simpa using this
theorem jy.wX {W0 W W':World} {ao:Option Addr} {cap:Nat} {gl:List Nat} {os:List Lk.Obj} {row:Option Nat} (h:jy W0 (.slice ao gl.length cap) gl os W) (hg:W.grownBy W' row) (hr:aW W row 32):qx W' ao gl os :=
 ⟨XQ (yw h.row hg hr (by decide)),h.len,fun i q1 q2=>oK (h.obj i q1 q2) hg hr (by decide) (by decide) (by decide) (by decide),h.few,h.val⟩
theorem Yd (m:List UInt8) (hs:m.length<=1048576) (w:World) :
  Calls Tryz.prog 27 #[.string (bs m)] w fun e w'=>∃ pv pb,e = .returned (.tuple #[pv,.bool pb])/\(pb=true↔jG m)/\w.grownBy w' none:=by
 refine (Rz (bs m) w (by rw [uY]; exact hs)).mono ?_;rintro e w' ⟨hr,hg⟩;rw [Na,Df] at hr;rcases hr with ⟨h,g,e1,e2⟩ | ⟨h,v,e1⟩
 ·exact ⟨_,true,e1,by simp [h],hg⟩
 ·exact ⟨_,false,e1,by simp [h],hg⟩
theorem X0 (m:List UInt8) (hs:m.length<=1048576) (w:World) :
  Calls Tryz.prog 28 #[.string (bs m)] w fun e w'=>∃ am cm ub,e = .returned (.tuple #[.slice am (yS m).length cm,.bool ub])/\(ub=true↔nH m (yS m))/\w'.ownsRow w.heap.size 9 1 (.slice am (yS m).length cm) (yS m).length (eB (yS m))/\w.grownBy w' none:=by
 refine (ylK (bs m) w (by rw [uY]; exact hs)).mono ?_;rintro e w' ⟨⟨v,b,e1,e2,e3⟩,hg⟩;rw [Df] at e2 e3;obtain ⟨am,cm,rfl⟩:=yj e3;exact ⟨am,cm,b,e1,e2,e3,hg⟩
theorem yld (ao:Option Addr) (cf:Nat) (fs:List (List UInt8)) (w:World) (hin:vQ w ao fs) (hsz:∀ f∈fs,f.length<=1048576) (hn:fs.length<=1048576) :
  Calls Tryz.prog 11 #[.slice ao fs.length cf] w fun e w'=>ymR fs e w'/\w.grownBy w' none:=by
 obtain ⟨i2,hi2,hx0,hx1,hx2⟩:=info_parts Tryz.sF;have HI:=hid hin;have SZ:=hid hsz;have G0:=hid (aH w (.cells #[.int .i64 0,.int .i64 0,.string ⟨#[]⟩] 32) none);have B0:=hid (ye.new w #[.int .i64 0,.int .i64 0,.string ⟨#[]⟩] 32);clear hin hsz;go_enter Tryz.func11,Tryz.ntmps11
 go_upto_region 1 with fail
 generalize w.alloc (.cells #[.int .i64 0,.int .i64 0,.string ⟨#[]⟩] 32)=W1 at *;have iX:Hd (∀ (V:World) (fe fa:Int),W1.grownBy V none->∀ W,W=(((V.setCell ⟨w.heap.size,0,none⟩ (.int .i64 fe)).setCell ⟨w.heap.size,1,none⟩ (.int .i64 fa)).setCell ⟨w.heap.size,2,none⟩ (.string ⟨#[]⟩))->(W.cell? ⟨w.heap.size,0,none⟩=some (.int .i64 fe)/\W.cell? ⟨w.heap.size,1,none⟩=some (.int .i64 fa)/\W.cell? ⟨w.heap.size,2,none⟩=some (.string ⟨#[]⟩))/\w.grownBy W none):=by
  rintro V fe fa hg W rfl;have F:=(((B0.o.grown hg (by simp)).set 0 (.int .i64 fe)).set 1 (.int .i64 fa)).set 2 (.string ⟨#[]⟩);exact ⟨⟨F.cell 0,F.cell 1,F.cell 2⟩,yx (ya G0.o hg) _ (Nat.le_refl _) _ _ _⟩
 have FC:Hd (∀ (V:World),W1.grownBy V none->(V.cell? ⟨w.heap.size,0,none⟩=some (.int .i64 0)/\V.cell? ⟨w.heap.size,1,none⟩=some (.int .i64 0)/\V.cell? ⟨w.heap.size,2,none⟩=some (.string ⟨#[]⟩))/\V.frozen? ⟨w.heap.size,0,none⟩=false/\V.frozen? ⟨w.heap.size,1,none⟩=false/\V.frozen? ⟨w.heap.size,2,none⟩=false):=by
  intro V hg;have B:=B0.o.grown hg (by simp);exact ⟨⟨B.cell 0,B.cell 1,B.cell 2⟩,B.free 0,B.free 1,B.free 2⟩
 have hRl:=B0.o.lt;have BT:=hid (fun (V:World) (hg:W1.grownBy V none)=>B0.o.grown hg (by simp));clear B0;by_cases hl:fs.length < 1\/8 < fs.length
 ·obtain ⟨⟨z0,z1,z2⟩,f0,f1,f2⟩:=FC.o W1 (World.grownBy.refl _ _);have R:=hid (show DN fs ⟨31,0,[]⟩ from .inl ⟨hl,rfl⟩);by_cases h1:fs.length < 1
  ·have d1:decide ((fs.length:Int) < 1)=true:=by simp; omega
   have h1':(fs.length:Int) < 1:=by omega
   clear hl;go_wp2;obtain ⟨⟨h0,h1,h2⟩,h3⟩:=iX.o W1 31 0 (World.grownBy.refl _ _) _ rfl;refine bodyPost_ret (v:=.tuple #[.slice none 0 0,bJ ⟨31,0,[]⟩]) ?_ rfl ⟨.inl ⟨_,by decide,rfl,R.o⟩,h3⟩;clear z0 z1 z2 f0 f1 f2;generalize World.setCell _ _ _=WF at *;simp [results,Tryz.results11,go_sem,bJ,bs,h0,h1,h2]
  ·have d1:decide ((fs.length:Int) < 1)=false:=by simp; omega
   have d2:decide ((8:Int) < (fs.length:Int))=true:=by simp; omega
   have h1':¬ (fs.length:Int) < 1:=by omega
   have h2':(8:Int) < (fs.length:Int):=by omega
   clear hl;go_wp2;obtain ⟨⟨h0,h1,h2⟩,h3⟩:=iX.o W1 31 0 (World.grownBy.refl _ _) _ rfl;refine bodyPost_ret (v:=.tuple #[.slice none 0 0,bJ ⟨31,0,[]⟩]) ?_ rfl ⟨.inl ⟨_,by decide,rfl,R.o⟩,h3⟩;clear z0 z1 z2 f0 f1 f2;generalize World.setCell _ _ _=WF at *;simp [results,Tryz.results11,go_sem,bJ,bs,h0,h1,h2]
 have l1:1<=fs.length:=by omega
 have l8:fs.length<=8:=by omega
 have d1:decide ((fs.length:Int) < 1)=false:=by simp; omega
 have d2:decide ((8:Int) < (fs.length:Int))=false:=by simp; omega
 have h1':¬ (fs.length:Int) < 1:=by omega
 have h2':¬ (8:Int) < (fs.length:Int):=by omega
 clear hl;obtain ⟨sg,so,rfl,hcs⟩:=HI.o (by omega);have Tw:=hid hcs;clear hcs HI;go_wp2
 go_loopw [4] (fun i wr=>∃ k:Nat,k<=fs.length/\i = .int .i64 k/\(∀ l∈fs.take k,jG l\/nH l (yS l))/\W1.grownBy wr none) (fun i _=>fs.length - (intOf i).toNat)
 case atStart=>exact ⟨0,Nat.zero_le _,rfl,fun l hl=>by simp at hl,World.grownBy.refl _ _⟩
 case round =>
  obtain ⟨k,hk,rfl,hf,hgr⟩:=hrel;have HF:=hid hf;have HG:=hid hgr;clear hf hgr;by_cases hlt:k < fs.length
  ·have ck:=yc (Tw.o k hlt) (ya G0.o HG.o);have g1:(k:Int) < (fs.length:Int):=by omega
   have cP:=hid (fun W=>Yd fs[k] (SZ.o fs[k] (dM hlt)) W);have cU:=hid (fun W=>X0 fs[k] (SZ.o fs[k] (dM hlt)) W);have Cy:=hid (fun (h:jG fs[k]\/nH fs[k] (yS fs[k]))=>show ∀ l∈fs.take (k+1),jG l\/nH l (yS l) by
    intro l hl;rw [List.take_succ_eq_append_getElem hlt] at hl;rcases List.mem_append.1 hl with hl | hl
    ·exact HF.o l hl
    ·simp only [List.mem_singleton] at hl;subst hl;exact h)
   have ZP:=hid (fun (h1:¬ jG fs[k]) (h2:¬ nH fs[k] (yS fs[k]))=>show DN fs ⟨32,k,[]⟩ from .inr ⟨l1,l8,k,hlt,rfl,⟨h1,fun ms hm=>h2 (by rw [Sc hm]; exact hm)⟩,fun j hj=>by
    have hm:fs[j]'(by omega)∈fs.take k:=by
     rw [List.mem_take_iff_getElem];exact ⟨j,by omega,rfl⟩
    exact ⟨_,_,Sd (HF.o _ hm)⟩⟩)
   generalize fs[k]=l at *
   go_upto_region 7 with (go_at_call 27; refine (cP.o _).mono ?_; rintro e W5 ⟨pv,pb,rfl,hpb,h5⟩)
   have G5:=hid (ya HG.o h5);have O8:=yc ck h5;clear h5 cP ck
   go_upto_region 8 with (go_at_call 28; refine (cU.o _).mono ?_; rintro e W6 ⟨am,cm,ub,rfl,hub,how,h6⟩)
   have G6:=hid (ya G5.o h6);have TY:=hid hpb;have Uj:=hid hub;clear h6 cU O8 how hpb hub
   cases pb with
   | true =>
    have E:=hid (Cy.o (.inl (TY.o.1 rfl)));go_wp2
    go_roundw
    case rel=>exact ⟨k+1,by omega,by go_num,E.o,G6.o⟩
    case measure=>simp [intOf]; omega
   | false =>
    cases ub with
    | true =>
     have E:=hid (Cy.o (.inr (Uj.o.1 rfl)));go_wp2
     go_roundw
     case rel=>exact ⟨k+1,by omega,by go_num,E.o,G6.o⟩
     case measure=>simp [intOf]; omega
    | false =>
     have R:=hid (ZP.o (fun c=>by have:=TY.o.2 c; cases this) (fun c=>by have:=Uj.o.2 c; cases this));obtain ⟨⟨z0,z1,z2⟩,f0,f1,f2⟩:=FC.o W6 G6.o;go_wp2;obtain ⟨⟨h0,h1,h2⟩,h3⟩:=iX.o W6 32 k G6.o _ rfl;refine bodyPost_ret (v:=.tuple #[.slice none 0 0,bJ ⟨32,k,[]⟩]) ?_ rfl ⟨.inl ⟨_,by simp,rfl,R.o⟩,h3⟩;clear z0 z1 z2 f0 f1 f2;generalize World.setCell _ _ _=WF at *;simp [results,Tryz.results11,go_sem,bJ,bs,h0,h1,h2]
  ·obtain rfl:k=fs.length:=by omega
   have ALL:=hid HF.o;rw [List.take_length] at ALL;have g3:decide ((fs.length:Int) < (fs.length:Int))=false:=by simp
   have hsw:=G0.o.size;have KF:=hid (yma ALL.o);have D0:=hid (show jy W1 (.slice none 0 0) [] [] wr from ⟨World.ownsRow_nil _ _ _ _,rfl,fun i h _=>by simp at h,by simp,fun o ho=>by simp at ho,HG.o⟩);clear HF HG;go_wp2
   go_loopw [9,10] (fun v i wr=>∃ (k:Nat) (gl:List Nat),k<=fs.length/\i = .int .i64 k/\jy W1 v gl (Ln.bO ((fs.take k).map sW)) wr) (fun _ i _=>fs.length - (intOf i).toNat)
   case atStart=>exact ⟨0,[],Nat.zero_le _,rfl,D0.o⟩
   case round =>
    clear D0;obtain ⟨k,gl,hk,rfl,hd⟩:=hrel;have HD:=hid hd;obtain ⟨ap,cp,rfl⟩:=yj hd.row;clear hd;have hfw:=KF.o k;rw [List.length_take] at hfw;by_cases hlt:k < fs.length
    ·have ck:=yc (Tw.o k hlt) (ya G0.o HD.o.gr);have g1:(k:Int) < (fs.length:Int):=by omega
     have hls:=SZ.o fs[k] (dM hlt);have hal:=ALL.o fs[k] (dM hlt);have TS:=hid (show Ln.bO ((fs.take (k+1)).map sW)=Ln.dV (Ln.bO ((fs.take k).map sW)) (sW fs[k]) by
      rw [List.take_succ_eq_append_getElem hlt,List.map_append];exact yju _ _)
     generalize fs[k]=l at *;have hgl:=HD.o.len;generalize Ln.bO ((fs.take k).map sW)=os at *;have aal:gl.length<=47:=by omega
     have HGL:=hid hgl;clear hgl;by_cases ho:jG l
     ·have cP:=hid (fun W=>Yw l ho hls W);have VO:=hid ho.1;have OJ:=hid (show Ln.bO ((fs.take (k+1)).map sW)=os ++ [yF l] by rw [TS.o,X8 ho]; rfl);clear ho hal;generalize yF l=o at *;have Qa:os.length < 48:=by omega
      go_upto_region 15 with (go_at_call 27; refine (cP.o _).mono ?_; rintro e W5 ⟨g5,rfl,J2,h5⟩)
      have HD5:=hid (HD.o.kept h5);have Bd:=hid J2;have hs5:=HD5.o.gr.size;clear h5 cP ck J2 HD;go_wp2_with (at_builtin; refine wpList_append_own_at _ rfl _ _ 37 rfl W1.heap.size 70 i2 (.agg #[.pointer none]) 1 8 Tryz.underlying37 hi2 hx0 hx1 hx2 rfl (by decide) _ _ _ rfl (HD5.o.row.alloc _) ⟨W5.heap.size,0,none⟩ 1 1 [aP g5] rfl rfl (C9 _ _ _) (by intro u hu; simp at hu; rcases hu with rfl; rfl) (by unfold maxLen; omega) (by omega) (by simp; omega) ?_; intro v' w3 hown' hgrow _ hat; have KQ:=hid ((HD5.o.kept (aH W5 (.cells #[aP g5] 70) none)).push (Bd.o.kept (aH W5 (.cells #[aP g5] 70) none)) VO.o Qa hgrow hown'); obtain ⟨jN,cv',rfl⟩:=yj hown'; clear hgrow hown' hat)
      go_roundw
      case rel=>exact ⟨k+1,gl ++ [g5],by omega,by go_num,by rw [OJ.o]; exact KQ.o⟩
      case measure=>simp [intOf]; omega
     ·have cP:=hid (fun W=>Yd l hls W);have cU:=hid (fun W=>X0 l hls W);have IA:=hid (hal.resolve_left ho);have NO:=hid ho;have OJ:=hid (show Ln.bO ((fs.take (k+1)).map sW)=Ln.dJ ((yS l).length+1) (jM ((yS l).map yF)) os by
       rw [TS.o,Xz ho];unfold Ln.dV;rw [if_pos rfl,jc])
      clear ho hal
      go_upto_region 15 with (go_at_call 27; refine (cP.o _).mono ?_; rintro e W5 ⟨pv,pb,rfl,hpb,h5⟩)
      have HD5:=hid (HD.o.kept h5);have O8:=yc ck h5
      cases pb with
      | true=>exact absurd (hpb.1 rfl) NO.o
      | false =>
       clear h5 cP ck hpb HD
       go_upto_region 18 with (go_at_call 28; refine (cU.o _).mono ?_; rintro e W6 ⟨am,cm,ub,rfl,hub,how,h6⟩)
       have HD6:=hid (HD5.o.kept h6);have hml:=IA.o.1.2;have cD:=hid (ylY W1 _ gl os am cm _ (yS l) W6 HD6.o how IA.o.2.1 (fun m hm=>by have:=WO l _ m hm; omega) hml (by omega));clear h6 cU O8 hub how HD5 HD6;go_wp2_with fail;refine cD.o.mono ?_;rintro e W7 ⟨v7,gl7,rfl,h7⟩;have HD7:=hid h7;obtain ⟨ap7,cp7,rfl⟩:=yj h7.row;clear h7 cD;go_wp2
       go_roundw
       case rel=>exact ⟨k+1,gl7,by omega,by go_num,by rw [OJ.o]; exact HD7.o⟩
       case measure=>simp [intOf]; omega
    ·obtain rfl:k=fs.length:=by omega
     have PI:=hid HD.o;rw [List.take_length] at PI;have GR:=hid HD.o.gr;have VU:w.heap.size < W1.heap.size:=hRl;obtain ⟨⟨z0,z1,z2⟩,f0,f1,f2⟩:=FC.o wr GR.o;clear HD;go_wp2;obtain ⟨⟨h0,h1,h2⟩,h3⟩:=iX.o wr 0 0 GR.o _ rfl;refine bodyPost_ret (v:=.tuple #[.slice ap gl.length cp,bJ Ln.ok]) ?_ rfl ⟨.inr ⟨l1,l8,ALL.o,ap,gl,cp,rfl,?_⟩,h3⟩
     ·clear z0 z1 z2 f0 f1 f2;generalize World.setCell _ _ _=WF at *;simp [results,Tryz.results11,go_sem,bJ,Ln.ok,bs,h0,h1,h2]
     ·exact PI.o.wX (World.grownBy.trans (World.grownBy.trans (yi _ _ 0 _) (yi _ _ 1 _)) (yi _ _ 2 _)) (aW.blk (BT.o wr GR.o))
end Go.Proofs.YtelehpmjhjljgaaGreatDoor
