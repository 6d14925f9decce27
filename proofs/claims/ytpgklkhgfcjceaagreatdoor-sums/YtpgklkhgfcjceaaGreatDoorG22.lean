/- Linking: what takes part, and where it lies. -/
/- Walks over package object: writeReloc; what a Writer leaves as it was. -/
/- Walks over package object: Write. -/
/- An image's bytes. -/
import Derived.Test.YtpgklkhgfcjceaaGreatDoorG21
import Derived.Test.YtpgklkhgfcjceaaGreatDoorG09
import Derived.Test.YtpgklkhgfcjceaaGreatDoorG06
import Derived.Test.YtpgklkhgfcjceaaGreatDoorG05
namespace Go.Proofs.YtpgklkhgfcjceaaGreatDoor
open Go.RowKit
theorem ypr:∀ (ms:List (Lk.Obj×Bool)) (os:List Lk.Obj),(Ln.pass ms os).1.map Prod.fst=ms.map Prod.fst:=by
 intro ms
 induction ms with
 | nil=>intro os; rfl
 | cons m ms ih =>
  intro os
  obtain ⟨o,t⟩:=m
  unfold Ln.pass
  split
  ·rw [List.map_cons,ih,List.map_cons]
  ·rw [List.map_cons,ih,List.map_cons]
theorem ypq (P:Lk.Obj->Prop):∀ (ms:List (Lk.Obj×Bool)) (os:List Lk.Obj),(∀ m∈ms,P m.1)->(∀ o∈os,P o)->∀ o∈(Ln.pass ms os).2.1,P o:=by
 intro ms
 induction ms with
 | nil=>intro os _ h; exact h
 | cons m ms ih =>
  intro os hm ho
  obtain ⟨o,t⟩:=m
  unfold Ln.pass
  have h0:=hm (o,t) (by simp)
  split
  ·exact ih _ (fun x hx=>hm x (by simp [hx])) (fun x hx=>by
    rcases List.mem_append.1 hx with q | q
    ·exact ho x q
    ·simp at q; subst q; exact h0)
  ·exact ih _ (fun x hx=>hm x (by simp [hx])) ho
theorem yps:∀ (ms:List (Lk.Obj×Bool)) (os:List Lk.Obj),(Ln.pass ms os).2.1.length+yaq (Ln.pass ms os).1=os.length+yaq ms:=by
 intro ms
 induction ms with
 | nil=>intro os; rfl
 | cons m ms ih =>
  intro os
  obtain ⟨o,t⟩:=m
  unfold Ln.pass
  split
  ·rename_i h
   have:=ih (os ++ [o])
   rw [ysq,List.length_singleton] at this
   unfold yaq at this ⊢
   rw [List.filter_cons_of_neg (by simp),List.filter_cons_of_pos (by simp [h.1]),yss]
   dsimp only
   omega
  ·have:=ih os
   unfold yaq at this ⊢
   cases t
   ·rw [List.filter_cons_of_pos (by simp),List.filter_cons_of_pos (by simp),yss,yss]
    dsimp only
    omega
   ·rw [List.filter_cons_of_neg (by simp),List.filter_cons_of_neg (by simp)]
    exact this
theorem ykj (P:Lk.Obj->Prop):∀ (k:Nat) (ms:List (Lk.Obj×Bool)) (os:List Lk.Obj),(∀ m∈ms,P m.1)->(∀ o∈os,P o)->∀ o∈Ln.takeArch k ms os,P o:=by
 intro k
 induction k with
 | zero=>intro ms os _ h; exact h
 | succ k ih =>
  intro ms os hm ho
  have q:=ypq P ms os hm ho
  unfold Ln.takeArch
  split
  ·refine ih _ _ (fun m hx=>?_) q
   have:m.1∈ms.map Prod.fst:=by rw [<- ypr ms os]; exact List.mem_map_of_mem hx
   obtain ⟨y,hy,e⟩:=List.mem_map.1 this
   rw [<- e]
   exact hm y hy
  ·exact q
theorem ykk:∀ (k:Nat) (ms:List (Lk.Obj×Bool)) (os:List Lk.Obj),(Ln.takeArch k ms os).length<=os.length+yaq ms:=by
 intro k
 induction k with
 | zero=>intro ms os; unfold Ln.takeArch; omega
 | succ k ih =>
  intro ms os
  have q:=yps ms os
  unfold Ln.takeArch
  split
  ·have:=ih (Ln.pass ms os).1 (Ln.pass ms os).2.1
   omega
  ·omega
theorem ykl (P:Lk.Obj->Prop) (os:List Lk.Obj) (x:Bool×List Lk.Obj) (hx:∀ o∈x.2,P o) (ho:∀ o∈os,P o):∀ o∈Ln.takeFile os x,P o:=by
 unfold Ln.takeFile
 split
 ·refine ykj P _ _ _ (fun m hm=>?_) ho
  unfold yaG at hm
  obtain ⟨y,hy,rfl⟩:=List.mem_map.1 hm
  exact hx y hy
 ·intro o h
  rcases List.mem_append.1 h with q | q
  ·exact ho o q
  ·exact hx o q
theorem ykn (os:List Lk.Obj) (x:Bool×List Lk.Obj):(Ln.takeFile os x).length<=os.length+x.2.length:=by
 unfold Ln.takeFile
 split
 ·have:=ykk (x.2.length+1) (yaG x.2) os
  rw [ydB] at this
  exact this
 ·rw [ysq]; omega
theorem ylw (P:Lk.Obj->Prop):∀ (xs:List (Bool×List Lk.Obj)) (os:List Lk.Obj),(∀ x∈xs,∀ o∈x.2,P o)->(∀ o∈os,P o)->∀ o∈xs.foldl Ln.takeFile os,P o:=by
 intro xs
 induction xs with
 | nil=>intro os _ h; exact h
 | cons x xs ih =>
  intro os hx ho
  exact ih _ (fun y hy=>hx y (by simp [hy])) (ykl P os x (hx x (by simp)) ho)
theorem ylx:∀ (xs:List (Bool×List Lk.Obj)) (os:List Lk.Obj),(∀ x∈xs,x.2.length<=6)->(xs.foldl Ln.takeFile os).length<=os.length+6 * xs.length:=by
 intro xs
 induction xs with
 | nil=>intro os _; simp
 | cons x xs ih =>
  intro os hx
  have a:=ykn os x
  have b:=hx x (by simp)
  have c:=ih (Ln.takeFile os x) (fun y hy=>hx y (by simp [hy]))
  rw [ysz,yss]
  omega
theorem yjs {l:List UInt8} {a:Bool} {os:List Lk.Obj} (h:yaU l a os):(∀ o∈os,yv o)/\os.length<=6:=by
 rcases h with ⟨-,h1,rfl⟩ | ⟨-,-,ms,h1,rfl⟩
 ·exact ⟨fun o ho=>by simp at ho; subst ho; exact h1.1,by simp⟩
 ·refine ⟨fun o ho=>?_,by rw [ysv]; exact h1.1.2⟩
  obtain ⟨m,hm,rfl⟩:=List.mem_map.1 ho
  exact (h1.2.1 m hm).1
instance im_meet_dec (a b c d:Int):Decidable (Im.Meet a b c d):=by unfold Im.Meet; infer_instance
instance im_fits_dec (m:Im.Img):Decidable (Im.Fits m):=by unfold Im.Fits; infer_instance
namespace Ln
def placesFlt (img:Im.Img) (ms:List Mod):Flt:=if ¬ Im.Fits img then ⟨36,0,[]⟩ else if (checkReach ms).e≠0 then checkReach ms else if (Im.code img img.start).isSome then ok else ⟨35,0,[]⟩
def linkMods (os:List Lk.Obj) (bt bf bd:Int):List Mod:=layout bt bf bd (resAll os (os.map bare))
def linkImg (os:List Lk.Obj) (bt bf bd:Int):Im.Img:=image (linkMods os bt bf bd) (named os startN) bt bf bd (noughts bd (shorten (lay bt bf bd (resAll os (os.map bare)))))
end Ln
theorem ykO {ms:List Ln.Mod} (st:Ln.Spot) (bt bf bd no:Int) (hv:∀ m∈ms,yv m.obj):W32 (Ln.image ms st bt bf bd no).T/\W32 (Ln.image ms st bt bf bd no).F/\W32 (Ln.image ms st bt bf bd no).D :=
 ⟨yfD ms 1 bt 19 (by omega) ms [] hv (fun x hx=>by simp at hx),yfD ms 2 bf 19 (by omega) ms [] hv (fun x hx=>by simp at hx),yfD ms 3 bd 0 (by omega) ms [] hv (fun x hx=>by simp at hx)⟩
theorem ykT {ms:List Ln.Mod} {bt bf bd:Int} (hv:∀ m∈ms,yv m.obj) (hl:ms.length<=48) (ht:0<=bt/\bt<=1073741824/\bt % 4=0) (hf:0<=bf/\bf<=1073741824/\bf % 4=0) (hd:0<=bd/\bd<=1073741824/\bd % 4=0) :
  (Ln.region (Ln.lay bt bf bd ms) 1 bt 19 (Ln.lay bt bf bd ms) []).length<=65535/\(Ln.region (Ln.lay bt bf bd ms) 2 bf 19 (Ln.lay bt bf bd ms) []).length<=65535/\(Ln.region (Ln.lay bt bf bd ms) 3 bd 0 (Ln.lay bt bf bd ms) []).length<=65535:=by
 have hv2:=yaJ (ydh ms bt bf bd) hv
 have ll:=yfU ms bt bf bd
 have ch:=yiD ms bt bf bd
 have c1:yco 1 Ln.Mod.text (Ln.lay bt bf bd ms) bt (ycc 1 ms bt):=yfw 1 Ln.Mod.text (fun _ _=>rfl) _ _ _ _ ch.1
 have c2:yco 2 Ln.Mod.far (Ln.lay bt bf bd ms) bf (ycc 2 ms bf):=yfw 2 Ln.Mod.far (fun _ _=>rfl) _ _ _ _ ch.2
 have c3:yci (Ln.lay bt bf bd ms) bd (Ln.dataEnd ms bd):=yiC _ _ _ _ (yhK ms bt bf bd)
 have e1:=yhj (Ln.lay bt bf bd ms) 1 (.inl rfl) Ln.Mod.text bt 19 ht.2.2 yja (Ln.lay bt bf bd ms) [] bt _ hv2 ht.1 (by rw [ll]; omega) (by simp) c1
 have e2:=yhj (Ln.lay bt bf bd ms) 2 (.inr rfl) Ln.Mod.far bf 19 hf.2.2 ykC (Ln.lay bt bf bd ms) [] bf _ hv2 hf.1 (by rw [ll]; omega) (by simp) c2
 have e3:=ylf (Ln.lay bt bf bd ms) bd 0 hd.2.2 (Ln.lay bt bf bd ms) [] bd _ hv2 hd.1 (by rw [ll]; omega) (by simp) c3
 have r1:=yff 1 (.inl rfl) ms bt hv ht.1 (by omega)
 have r2:=yff 2 (.inr rfl) ms bf hv hf.1 (by omega)
 have r3:=yfs ms bd hv hd.1 (by omega)
 simp only [Int.cast_ofNat_Int] at e1 e2
 omega
theorem ycJ {a:Int} (h:Im.Base a):0<=a/\a<=1073741824/\a % 4=0:=by
 obtain ⟨⟨h1,h2⟩,h3⟩:=h
 omega
structure yqL (os:List Lk.Obj) (bt bf bd:Int):Prop where
 valid:∀ m∈Ln.linkMods os bt bf bd,yv m.obj
 nice:∀ m∈Ln.linkMods os bt bf bd,yI os.length m
 low:∀ m∈Ln.linkMods os bt bf bd,MLow m
 mean:∀ m∈Ln.linkMods os bt bf bd,∀ s∈m.means,SLow s
 start:yiW os.length (Ln.named os Ln.startN)
 tame:Im.Tame (Ln.linkImg os bt bf bd)
theorem yqy {os:List Lk.Obj} {bt bf bd:Int} (hv:∀ o∈os,yv o) (hl:os.length<=48) (ht:Im.Base bt) (hf:Im.Base bf) (hd:Im.Base bd):yqL os bt bf bd:=by
 have A:=yip os hv
 have t:=ycJ ht
 have f:=ycJ hf
 have d:=ycJ hd
 have len:(Ln.resAll os (os.map Ln.bare)).length=os.length:=by simp [Ln.resAll]
 have rv:∀ m∈Ln.resAll os (os.map Ln.bare),yv m.obj:=fun m hm=>(A m hm).obj
 have V:∀ m∈Ln.linkMods os bt bf bd,yv m.obj:=yaJ (ymz _ bt bf bd) rv
 have low:∀ m∈Ln.linkMods os bt bf bd,MLow m:=ymy rv (by omega) (by omega) (by omega) (by omega)
 have sl:=yin os Ln.startN hv
 have sv:=yaJ (ycA _) (yaJ (ydh _ bt bf bd) rv)
 have slen:(Ln.shorten (Ln.lay bt bf bd (Ln.resAll os (os.map Ln.bare)))).length=os.length:=by unfold Ln.shorten; rw [ysv,yfU,len]
 have L:=ykT (ms:=Ln.shorten (Ln.lay bt bf bd (Ln.resAll os (os.map Ln.bare)))) (bt:=bt) (bf:=bf) (bd:=bd) sv (by omega) t f d
 refine ⟨V,ykU (fun m hm=>(A m hm).nice) rv (by omega) (by omega) (by omega) (by omega),low,ype Ln.Mod.means (P:=fun l=>∀ s∈l,SLow s) (yjG _ bt bf bd) (fun m hm=>(A m hm).low),⟨?_,fun i hi=>ygy os _ i hi⟩,?_⟩
 ·unfold SLow at sl; omega
 ·have s:=yfF low (Ln.named os Ln.startN) sl
  have r3:=yfs _ bd sv d.1 (by omega)
  have r4:=yjj _ (Ln.dataEnd (Ln.shorten (Ln.lay bt bf bd (Ln.resAll os (os.map Ln.bare)))) bd) sv (by omega) (by omega)
  refine ⟨?_,?_,?_,?_,L,?_⟩
  ·show 0<=Ln.spotAddr _ _/\Ln.spotAddr _ _ < _
   exact ⟨s.1,by have:=s.2; omega⟩
  ·show 0<=bt/\bt < 4294967296; omega
  ·show 0<=bf/\bf < 4294967296; omega
  ·show 0<=bd/\bd < 4294967296; omega
  ·show 0<=Ln.noughts bd _/\Ln.noughts bd _<=65535
   unfold Ln.noughts
   omega
set_option maxRecDepth 100000 in
set_option maxHeartbeats 8000000 in
theorem ygL (W0:World) (P:Nat) (bt bf bd:Int) (vm:Value) (bl gl:List Nat) (ms:List Ln.Mod) (st:Ln.Spot) (no:Int) (I:Nat) (img:Im.Img) (W:World) (h:ProgAt W0 P bt bf bd vm bl gl ms st no W) (hn:∀ m∈ms,yI bl.length m) (hi:yah W I img) (ht:Im.Tame img) :
  Calls Tryz.prog 41 #[ptrV P,ptrV I] W fun e W'=>e = .returned (lfA (Ln.placesFlt img ms))/\W.grownBy W' none:=by
 have HP:=hid h
 have HI:=hid hi
 have HN:=hid hn
 have HT:=hid ht
 have R:=hid (show Ln.placesFlt img ms=if ¬ Im.Fits img then ⟨36,0,[]⟩ else if (Ln.checkReach ms).e≠0 then Ln.checkReach ms else if (Im.code img img.start).isSome then Ln.ok else ⟨35,0,[]⟩ from rfl)
 have G0:=hid (ysp W (.cells #[.int .i64 0,.int .i64 0,.string ⟨#[]⟩] 45) none)
 have B0:=hid (yc.new W #[.int .i64 0,.int .i64 0,.string ⟨#[]⟩] 45)
 have cF:=hid (fun V (hg:W.grownBy V none)=>yex I img V (HI.out.kept hg) ht)
 have cR:=hid (fun V (hg:W.grownBy V none)=>yhE W0 P bt bf bd vm bl gl ms st no V (HP.out.kept hg) hn)
 have cC:=hid (fun V (hg:W.grownBy V none)=>yeM I img img.start V (HI.out.kept hg) ht ht.start.1 ht.start.2)
 clear h hn hi ht
 unfold ptrV at *
 go_enter Tryz.func41,Tryz.ntmps41
 go_wp2_with fail
 refine (cF.out _ G0.out).mono ?_
 rintro e V1 ⟨tv,h1⟩
 have G1:=hid (ya G0.out h1)
 have BR:=hid (B0.out.grown h1 (by simp))
 clear h1 cF
 rcases tv.split with ⟨rfl,hp⟩ | ⟨rfl,hp⟩
 ·have E:=hid (show Ln.placesFlt img ms=⟨36,0,[]⟩ by rw [R.out,if_pos hp.out])
  clear tv hp
  have z0:V1.cell? ⟨W.heap.size,0,none⟩=some (.int .i64 0):=BR.out.cell 0
  have z1:V1.cell? ⟨W.heap.size,1,none⟩=some (.int .i64 0):=BR.out.cell 1
  have z2:V1.cell? ⟨W.heap.size,2,none⟩=some (.string ⟨#[]⟩):=BR.out.cell 2
  have f0:=BR.out.free 0
  have f1:=BR.out.free 1
  have f2:=BR.out.free 2
  go_wp2
  have F:=((BR.out.set 0 (.int .i64 36)).set 1 (.int .i64 0)).set 2 (.string ⟨#[]⟩)
  have h0:=F.cell 0
  have h1:=F.cell 1
  have h2:=F.cell 2
  simp only [yso,ysm,ysn,ysk,ysl,ysj] at h0 h1 h2
  refine bodyPost_ret (v:=lfA ⟨36,0,[]⟩) ?_ rfl ⟨by rw [E.out],yx G1.out _ (Nat.le_refl _) _ _ _⟩
  clear F z0 z1 z2 f0 f1 f2
  generalize World.setCell _ _ _=WF at *
  simp [results,Tryz.results41,go_sem,lfA,bs,h0,h1,h2]
 ·have R2:=hid (show Ln.placesFlt img ms=if (Ln.checkReach ms).e≠0 then Ln.checkReach ms else if (Im.code img img.start).isSome then Ln.ok else ⟨35,0,[]⟩ by rw [R.out,if_neg (not_not_intro hp.out)])
  clear tv hp R
  generalize Ln.checkReach ms=f at *
  obtain ⟨fe,fa,fn⟩:=f
  unfold lfA at cR
  dsimp only at *
  go_wp2_with fail
  refine (cR.out _ G1.out).mono ?_
  rintro e V2 ⟨rfl,h2⟩
  have A2:=ysp V2 (.cells #[.int .i64 fe,.int .i64 fa,.string (bs fn)] 45) none
  have G2:=hid (ya (ya G1.out h2) A2)
  have BX:=hid (yc.new V2 #[.int .i64 fe,.int .i64 fa,.string (bs fn)] 45)
  have BR2:=hid (BR.out.grown (ya h2 A2) (by simp))
  have hlt:=hid (Nat.lt_of_lt_of_le BR.out.lt h2.size)
  clear h2 A2 cR BR
  have hne:W.heap.size≠V2.heap.size:=by have:=hlt.out; omega
  have BR:=BR2
  clear BR2
  by_cases he:fe=0
  ·subst he
   have R3:=hid (show Ln.placesFlt img ms=if (Im.code img img.start).isSome then Ln.ok else ⟨35,0,[]⟩ by rw [R2.out,if_neg (by simp)])
   have i0:(V2.alloc (.cells #[.int .i64 0,.int .i64 fa,.string (bs fn)] 45)).cell? ⟨I,0,none⟩=some (.int .i64 img.start):=by
    obtain ⟨vt,vf,vd,hb,-⟩:=HI.out
    exact yd (hb.cell 0) G2.out
   go_wp2_with fail
   refine (cC.out _ G2.out).mono ?_
   rintro e V3 ⟨rfl,n,hw⟩
   subst hw
   have G3:=hid (ye G2.out n)
   have BR:=hid (BR.out.drewN n)
   clear i0 cC G2
   generalize (V2.alloc (.cells #[.int .i64 0,.int .i64 fa,.string (bs fn)] 45)).drewN n=V3 at *
   cases hc:(Im.code img img.start).isSome
   ·have E:=hid (show Ln.placesFlt img ms=⟨35,0,[]⟩ by rw [R3.out,hc]; rfl)
    clear hc
    have z0:V3.cell? ⟨W.heap.size,0,none⟩=some (.int .i64 0):=BR.out.cell 0
    have z1:V3.cell? ⟨W.heap.size,1,none⟩=some (.int .i64 0):=BR.out.cell 1
    have z2:V3.cell? ⟨W.heap.size,2,none⟩=some (.string ⟨#[]⟩):=BR.out.cell 2
    have f0:=BR.out.free 0
    have f1:=BR.out.free 1
    have f2:=BR.out.free 2
    go_wp2
    have F:=((BR.out.set 0 (.int .i64 35)).set 1 (.int .i64 0)).set 2 (.string ⟨#[]⟩)
    have h0:=F.cell 0
    have h1:=F.cell 1
    have h2:=F.cell 2
    simp only [yso,ysm,ysn,ysk,ysl,ysj] at h0 h1 h2
    refine bodyPost_ret (v:=lfA ⟨35,0,[]⟩) ?_ rfl ⟨by rw [E.out],yx G3.out _ (Nat.le_refl _) _ _ _⟩
    clear F z0 z1 z2 f0 f1 f2
    generalize World.setCell _ _ _=WF at *
    simp [results,Tryz.results41,go_sem,lfA,bs,h0,h1,h2]
   ·have E:=hid (show Ln.placesFlt img ms=Ln.ok by rw [R3.out,hc]; rfl)
    clear hc
    have z0:V3.cell? ⟨W.heap.size,0,none⟩=some (.int .i64 0):=BR.out.cell 0
    have z1:V3.cell? ⟨W.heap.size,1,none⟩=some (.int .i64 0):=BR.out.cell 1
    have z2:V3.cell? ⟨W.heap.size,2,none⟩=some (.string ⟨#[]⟩):=BR.out.cell 2
    have f0:=BR.out.free 0
    have f1:=BR.out.free 1
    have f2:=BR.out.free 2
    go_wp2
    have F:=((BR.out.set 0 (.int .i64 0)).set 1 (.int .i64 0)).set 2 (.string ⟨#[]⟩)
    have h0:=F.cell 0
    have h1:=F.cell 1
    have h2:=F.cell 2
    simp only [yso,ysm,ysn,ysk,ysl,ysj] at h0 h1 h2
    refine bodyPost_ret (v:=lfA Ln.ok) ?_ rfl ⟨by rw [E.out],yx G3.out _ (Nat.le_refl _) _ _ _⟩
    clear F z0 z1 z2 f0 f1 f2
    generalize World.setCell _ _ _=WF at *
    simp [results,Tryz.results41,go_sem,lfA,Ln.ok,bs,h0,h1,h2]
  ·have d1:(fe == 0)=false:=by simpa using he
   have d2:(fe != 0)=true:=by simpa using he
   have E:=hid (show Ln.placesFlt img ms=⟨fe,fa,fn⟩ by rw [R2.out,if_pos he])
   clear he
   have z0:(V2.alloc (.cells #[.int .i64 fe,.int .i64 fa,.string (bs fn)] 45)).cell? ⟨W.heap.size,0,none⟩=some (.int .i64 0):=BR.out.cell 0
   have z1:(V2.alloc (.cells #[.int .i64 fe,.int .i64 fa,.string (bs fn)] 45)).cell? ⟨W.heap.size,1,none⟩=some (.int .i64 0):=BR.out.cell 1
   have z2:(V2.alloc (.cells #[.int .i64 fe,.int .i64 fa,.string (bs fn)] 45)).cell? ⟨W.heap.size,2,none⟩=some (.string ⟨#[]⟩):=BR.out.cell 2
   have f0:=BR.out.free 0
   have f1:=BR.out.free 1
   have f2:=BR.out.free 2
   go_wp2
   have F:=((BR.out.set 0 (.int .i64 fe)).set 1 (.int .i64 fa)).set 2 (.string (bs fn))
   have h0:=F.cell 0
   have h1:=F.cell 1
   have h2:=F.cell 2
   simp only [yso,ysm,ysn,ysk,ysl,ysj] at h0 h1 h2
   refine bodyPost_ret (v:=lfA ⟨fe,fa,fn⟩) ?_ rfl ⟨by rw [E.out],yx G2.out _ (Nat.le_refl _) _ _ _⟩
   clear F z0 z1 z2 f0 f1 f2
   generalize World.setCell _ _ _=WF at *
   simp [results,Tryz.results41,go_sem,lfA,bs,h0,h1,h2]
set_option maxHeartbeats 2000000 in
theorem yie (b:Nat) (r:Lk.Rel) (l:List UInt8) (w:World) (h:WrAt w b l) (hl:l.length<=1048576) (hg:Lk.goodRel r) :
  Calls Tryz.prog 61 #[.pointer (some ⟨b,0,none⟩),.agg #[.int .i64 r.sect,.int .i64 r.off,.int .i64 r.kind,.int .i64 r.sym,.int .i64 r.addend]] w fun e w'=>e = .returned (.tuple #[])/\WrAt w' b (l ++ Lk.relB r)/\Wk b w w':=by
 obtain ⟨⟨hs0,hs1⟩,⟨hk0,hk1⟩,⟨ho0,ho1⟩,⟨hy0,hy1⟩,ha0,ha1⟩:=hg
 have hvb:w.heap.size≠b:=by obtain ⟨_,_,h1,_⟩:=h; have:=h1.lt; omega
 have S1:=hid (St3.begin h #[.int .i64 r.sect,.int .i64 r.off,.int .i64 r.kind,.int .i64 r.sym,.int .i64 r.addend] 102)
 have c1:=hid (fun W (h:WrAt W b (l))=>yG b r.sect 1 1 rfl (l) W h (by omega) (by omega) (by omega) (by omega))
 have c2:=hid (fun W (h:WrAt W b (l ++ Lk.le r.sect 1))=>yG b r.kind 1 1 rfl (l ++ Lk.le r.sect 1) W h (by simp only [ysq,Lk.le_length]; omega) (by omega) (by omega) (by omega))
 have c3:=hid (fun W (h:WrAt W b (l ++ Lk.le r.sect 1 ++ Lk.le r.kind 1))=>yG b r.off 2 2 rfl (l ++ Lk.le r.sect 1 ++ Lk.le r.kind 1) W h (by simp only [ysq,Lk.le_length]; omega) (by omega) (by omega) (by omega))
 have c4:=hid (fun W (h:WrAt W b (l ++ Lk.le r.sect 1 ++ Lk.le r.kind 1 ++ Lk.le r.off 2))=>yG b r.sym 1 1 rfl (l ++ Lk.le r.sect 1 ++ Lk.le r.kind 1 ++ Lk.le r.off 2) W h (by simp only [ysq,Lk.le_length]; omega) (by omega) (by omega) (by omega))
 have c5:=hid (fun W (h:WrAt W b (l ++ Lk.le r.sect 1 ++ Lk.le r.kind 1 ++ Lk.le r.off 2 ++ Lk.le r.sym 1))=>yG b r.addend 2 2 rfl (l ++ Lk.le r.sect 1 ++ Lk.le r.kind 1 ++ Lk.le r.off 2 ++ Lk.le r.sym 1) W h (by simp only [ysq,Lk.le_length]; omega) (by omega) (by omega) (by omega))
 clear h
 go_enter Tryz.func61,Tryz.ntmps61
 go_wp2_with fail
 refine Calls.at_world (St3 w b w.heap.size 102 #[.int .i64 r.sect,.int .i64 r.off,.int .i64 r.kind,.int .i64 r.sym,.int .i64 r.addend] l) S1.out ?_
 clear S1
 intro W1 s1
 have S1:=hid s1
 clear s1
 refine (c1.out W1 S1.out.wr).mono ?_
 rintro e W2 ⟨rfl,hw,hk⟩
 have S2:=hid (S1.out.step hvb (by decide) hw hk)
 clear hw hk
 have k2:=S2.out.own.cell 2
 go_wp2_with fail
 refine (c2.out W2 S2.out.wr).mono ?_
 rintro e W3 ⟨rfl,hw,hk⟩
 have S3:=hid (S2.out.step hvb (by decide) hw hk)
 clear hw hk k2
 have k3:=S3.out.own.cell 1
 go_wp2_with fail
 refine (c3.out W3 S3.out.wr).mono ?_
 rintro e W4 ⟨rfl,hw,hk⟩
 have S4:=hid (S3.out.step hvb (by decide) hw hk)
 clear hw hk k3
 have k4:=S4.out.own.cell 3
 go_wp2_with fail
 refine (c4.out W4 S4.out.wr).mono ?_
 rintro e W5 ⟨rfl,hw,hk⟩
 have S5:=hid (S4.out.step hvb (by decide) hw hk)
 clear hw hk k4
 have k5:=S5.out.own.cell 4
 go_wp2_with fail
 refine (c5.out W5 S5.out.wr).mono ?_
 rintro e W6 ⟨rfl,hw,hk⟩
 have S6:=hid (S5.out.step hvb (by decide) hw hk)
 clear hw hk k5
 go_wp2
 go_end0
 refine ⟨rfl,?_,S6.out.wk⟩
 have:=S6.out.wr
 simpa [Lk.relB] using this
def yeL (w:World) (b:Nat) (ao:Option Addr) (ys:List Lk.Sym):Prop :=
 0 < ys.length->∃ g cs,ao=some ⟨g,0,none⟩/\g≠b/\yc w g cs 100/\∀ i (h:i < ys.length),cs[i * 4]?=some (.string (bs ys[i].name))/\cs[i * 4+1]?=some (.int .i64 ys[i].bind)/\cs[i * 4+2]?=some (.int .i64 ys[i].sect)/\cs[i * 4+3]?=some (.int .i64 ys[i].off)
theorem yeL.kept {w w':World} {b:Nat} {ao:Option Addr} {xs:List Lk.Sym} (h:yeL w b ao xs) (hk:Wk b w w'):yeL w' b ao xs:=by
 intro h0
 obtain ⟨g,cs,h1,h2,h3,h4⟩:=h h0
 exact ⟨g,cs,h1,h2,hk.2 g cs _ h2 (by decide) h3,h4⟩
def yeH (w:World) (b:Nat) (ao:Option Addr) (ys:List Lk.Rel):Prop :=
 0 < ys.length->∃ g cs,ao=some ⟨g,0,none⟩/\g≠b/\yc w g cs 102/\∀ i (h:i < ys.length),cs[i * 5]?=some (.int .i64 ys[i].sect)/\cs[i * 5+1]?=some (.int .i64 ys[i].off)/\cs[i * 5+2]?=some (.int .i64 ys[i].kind)/\cs[i * 5+3]?=some (.int .i64 ys[i].sym)/\cs[i * 5+4]?=some (.int .i64 ys[i].addend)
theorem yeH.kept {w w':World} {b:Nat} {ao:Option Addr} {xs:List Lk.Rel} (h:yeH w b ao xs) (hk:Wk b w w'):yeH w' b ao xs:=by
 intro h0
 obtain ⟨g,cs,h1,h2,h3,h4⟩:=h h0
 exact ⟨g,cs,h1,h2,hk.2 g cs _ h2 (by decide) h3,h4⟩
theorem yjQ {w:World} {base b:Nat} {e:TypeId} {size:Nat} {ao:Option Addr} {n cap:Nat} {xs:List Value} (h:w.ownsRow base e size (.slice ao n cap) n xs) (hn:0 < n) (hb:∀ g,Value.ownBlock (.slice ao n cap)=some g->g≠b) :
  ∃ g cs,ao=some ⟨g,0,none⟩/\g≠b/\yc w g cs e/\∀ j,j < n * size->cs[j]?=xs[j]?:=by
 rcases h.2 with ⟨h1,h2⟩ | ⟨g,cap',cur,hv,_,hh,_,_,hcs,htk⟩
 ·omega
 ·simp only [Value.slice.injEq] at hv
  obtain ⟨rfl,_,rfl⟩:=hv
  refine ⟨g,cur,rfl,hb g rfl,hh,fun j hj=>?_⟩
  have e:(cur.toList.take (n * size))[j]?=xs[j]?:=by rw [htk]
  rw [List.getElem?_take,if_pos hj] at e
  rw [<- Array.getElem?_toList,e]
theorem yjw {α:Type} (f:α->List Value) (size:Nat) (hf:∀ x,(f x).length=size) (l:List α):(l.flatMap f).length=l.length * size:=by
 induction l with
 | nil=>simp
 | cons y t ih=>rw [List.flatMap_cons,ysq,ih,hf,yss,Nat.succ_mul]; omega
theorem yeL.of_own {w:World} {base b:Nat} {ao:Option Addr} {n cap:Nat} {ys:List Lk.Sym} (h:w.ownsRow base 100 4 (.slice ao n cap) n (ys.flatMap symV)) (hb:∀ g,Value.ownBlock (.slice ao n cap)=some g->g≠b):yeL w b ao ys:=by
 intro h0
 have hl:=yjw symV 4 (fun _=>rfl) ys
 have hn:ys.length=n:=by have:=h.1; omega
 obtain ⟨g,cs,h1,h2,h3,h4⟩:=yjQ h (by omega) hb
 refine ⟨g,cs,h1,h2,h3,fun i hi=>?_⟩
 have q:=fun j (hj:j < 4)=>(h4 (i * 4+j) (by omega)).trans (yde symV 4 (fun _=>rfl) ys i j hi hj)
 exact ⟨q 0 (by omega),q 1 (by omega),q 2 (by omega),q 3 (by omega)⟩
theorem yeH.of_own {w:World} {base b:Nat} {ao:Option Addr} {n cap:Nat} {ys:List Lk.Rel} (h:w.ownsRow base 102 5 (.slice ao n cap) n (ys.flatMap relV)) (hb:∀ g,Value.ownBlock (.slice ao n cap)=some g->g≠b):yeH w b ao ys:=by
 intro h0
 have hl:=yjw relV 5 (fun _=>rfl) ys
 have hn:ys.length=n:=by have:=h.1; omega
 obtain ⟨g,cs,h1,h2,h3,h4⟩:=yjQ h (by omega) hb
 refine ⟨g,cs,h1,h2,h3,fun i hi=>?_⟩
 have q:=fun j (hj:j < 5)=>(h4 (i * 5+j) (by omega)).trans (yde relV 5 (fun _=>rfl) ys i j hi hj)
 exact ⟨q 0 (by omega),q 1 (by omega),q 2 (by omega),q 3 (by omega),q 4 (by omega)⟩
structure ObjB (W:World) (b g:Nat) (o:Lk.Obj) (at_:Option Addr) (ct:Nat) (af:Option Addr) (cf:Nat) (ad:Option Addr) (cd:Nat) (aa:Option Addr) (ca:Nat) (as_:Option Addr) (cs:Nat) (ar:Option Addr) (cr:Nat):Prop where
 blk:yc W g #[.slice at_ o.text.length ct,.slice af o.far.length cf,.slice ad o.data.length cd,.int .i64 o.bss,.slice aa o.align.length ca,.slice as_ o.syms.length cs,.slice ar o.rels.length cr] 71
 ne:g≠b
 text:ybc W b at_ o.text
 far:ybc W b af o.far
 data:ybc W b ad o.data
 align:ybc W b aa o.align
 syms:yeL W b as_ o.syms
 rels:yeH W b ar o.rels
section
variable {W W':World} {b g:Nat} {o:Lk.Obj} {at_ af ad aa as_ ar:Option Addr} {ct cf cd ca cs cr:Nat}
theorem ObjB.kept (h:ObjB W b g o at_ ct af cf ad cd aa ca as_ cs ar cr) (hk:Wk b W W'):ObjB W' b g o at_ ct af cf ad cd aa ca as_ cs ar cr :=
 ⟨hk.2 g _ _ h.ne (by decide) h.blk,h.ne,h.text.kept hk,h.far.kept hk,h.data.kept hk,h.align.kept hk,h.syms.kept hk,h.rels.kept hk⟩
end
theorem yr.toB {W:World} {g:Nat} {o:Lk.Obj} (h:yr W g o) (ob:Obj):∃ at_ ct af cf ad cd aa ca as_ cs ar cr,ObjB (W.alloc ob) W.heap.size g o at_ ct af cf ad cd aa ca as_ cs ar cr:=by
 obtain ⟨at_,ct,af,cf,ad,cd,aa,ca,as_,cs,ar,cr,hb,h1,h2,h3,h4,h5,h6⟩:=h.open
 have ne:∀ {e:TypeId} {size:Nat} {ao:Option Addr} {n cap:Nat} {xs:List Value},W.ownsRow 0 e size (.slice ao n cap) n xs->∀ k,Value.ownBlock (.slice ao n cap)=some k->k≠W.heap.size:=fun h k hk=>by have:=(h.lt k hk).2; omega
 refine ⟨at_,ct,af,cf,ad,cd,aa,ca,as_,cs,ar,cr,hb.grown (ysp _ _ none) (by simp),by have:=hb.lt; omega,?_,?_,?_,?_,?_,?_⟩
 ·exact ybc.of_own (h1.alloc _) (ne h1)
 ·exact ybc.of_own (h2.alloc _) (ne h2)
 ·exact ybc.of_own (h3.alloc _) (ne h3)
 ·exact ybc.of_own (h4.alloc _) (ne h4)
 ·exact yeL.of_own (h5.alloc _) (ne h5)
 ·exact yeH.of_own (h6.alloc _) (ne h6)
structure St4 (w:World) (b g:Nat) (o:Lk.Obj) (at_:Option Addr) (ct:Nat) (af:Option Addr) (cf:Nat) (ad:Option Addr) (cd:Nat) (aa:Option Addr) (ca:Nat) (as_:Option Addr) (cs:Nat) (ar:Option Addr) (cr:Nat) (l:List UInt8) (W:World):Prop where
 wr:WrAt W b l
 ob:ObjB W b g o at_ ct af cf ad cd aa ca as_ cs ar cr
 be:Below b w W
section
variable {w W W':World} {b g:Nat} {o:Lk.Obj} {at_ af ad aa as_ ar:Option Addr} {ct cf cd ca cs cr:Nat} {l l':List UInt8}
theorem St4.step (h:St4 w b g o at_ ct af cf ad cd aa ca as_ cs ar cr l W) (hw:WrAt W' b l') (hk:Wk b W W'):St4 w b g o at_ ct af cf ad cd aa ca as_ cs ar cr l' W' :=
 ⟨hw,h.ob.kept hk,h.be.trans hk.1⟩
end
theorem yis {α:Type} (f:α->List UInt8) (ys:List α) (k:Nat) (h:k < ys.length):(ys.take (k+1)).flatMap f=(ys.take k).flatMap f ++ f ys[k]:=by
 rw [List.take_succ_eq_append_getElem h,List.flatMap_append]
 simp
theorem yhH {α:Type} (f:α->List UInt8) (c:Nat) (ys:List α) (hf:∀ y∈ys,(f y).length<=c):(ys.flatMap f).length<=ys.length * c:=by
 induction ys with
 | nil=>simp
 | cons y t ih =>
  have h1:=hf y (by simp)
  have h2:=ih (fun z hz=>hf z (by simp [hz]))
  rw [List.flatMap_cons,ysq,yss,Nat.succ_mul]
  omega
theorem yfu {α:Type} (f:α->List UInt8) (c k:Nat) (ys:List α) (hf:∀ y∈ys,(f y).length<=c):((ys.take k).flatMap f).length<=ys.length * c:=by
 have h1:=yhH f c (ys.take k) (fun y hy=>hf y (List.mem_of_mem_take hy))
 have h2:(ys.take k).length * c<=ys.length * c:=Nat.mul_le_mul_right c (by simp; omega)
 omega
theorem ylV (y:Lk.Sym) (h:Lk.goodSym y):(Lk.symB y).length<=260:=by
 have:=h.1
 simp only [Lk.symB,ysq,Lk.le_length]
 omega
theorem ylQ (r:Lk.Rel):(Lk.relB r).length<=7:=by
 simp only [Lk.relB,ysq,Lk.le_length]
 omega
set_option maxHeartbeats 8000000 in
theorem you (g:Nat) (o:Lk.Obj) (w:World) (ht:Tabs w) (h:yr w g o) (hgood:Lk.goodObj o) (hv:yv o) :
  Calls Tryz.prog 36 #[.pointer (some ⟨g,0,none⟩)] w fun e w'=>e = .returned (.tuple #[.string (bs (Lk.objB o)),.int .i64 0])/\w.grownBy w' none:=by
 have cV:=hid (yfJ g o w ht h (ydw hgood))
 have HV:=hid hv
 have HO:=hid h
 have HGO:=hid hgood
 obtain ⟨z1,z2,z3,z4,z5,z6,z7,z8,z9,z10,z11,z12,z13⟩:=hgood
 obtain ⟨⟨s1,s2,s3⟩,s4,s5,s6⟩:=hv.1
 have HS:=hid z9
 have HRL:=hid z10
 have HW1:=hid z6
 have HWt:=hid z11
 have HWf:=hid z12
 have HWd:=hid z13
 have z5a:o.align.length<=4:=by omega
 clear ht h hv z9 z10 z6 z11 z12 z13 z5
 go_enter Tryz.func36,Tryz.ntmps36
 go_wp2_with fail
 refine cV.out.mono ?_
 rintro e W1 ⟨tv,q1⟩
 obtain rfl:=yfI tv HV.out
 have Q1:=hid q1
 have HO1:=hid (HO.out.kept q1)
 clear tv q1 cV
 go_wp2_with fail
 obtain ⟨at_,ct,af,cf,ad,cd,aa,ca,as_,cs,ar,cr,hob⟩:=HO1.out.toB (.cells #[.slice none 0 0] 105)
 have S0:Hid (St4 W1 W1.heap.size g o at_ ct af cf ad cd aa ca as_ cs ar cr [] (W1.alloc (.cells #[.slice none 0 0] 105))):=⟨yky W1,hob,(Below.refl _ _).alloc (Nat.le_refl _) _⟩
 clear hob
 generalize hbb:W1.heap.size=b at *
 have HBB:=hid hbb
 clear hbb
 refine Calls.at_world (St4 W1 b g o at_ ct af cf ad cd aa ca as_ cs ar cr []) S0.out ?_
 clear S0
 intro V0 h0
 have S0:=hid h0
 clear h0
 refine (yfK b ⟨#[76,75]⟩ [] V0 S0.out.wr (by simp) (by decide)).mono ?_
 rintro e V1 ⟨rfl,hw,hk⟩
 have S1:=hid (S0.out.step hw hk)
 clear S0
 generalize hE1:[] ++ sl ⟨#[76,75]⟩=l1 at *
 have n1:l1.length<=2:=by rw [<- hE1]; decide
 have E1:=hid hE1
 clear hE1 hw hk
 have k0:=S1.out.ob.blk.cell 0
 go_wp2_with fail
 refine (yG b (o.text.length:Int) 2 2 rfl l1 V1 S1.out.wr (by omega) (by omega) (by omega) (by omega)).mono ?_
 rintro e V2 ⟨rfl,hw,hk⟩
 have S2:=hid (S1.out.step hw hk)
 clear S1 k0
 generalize hE2:l1 ++ Lk.le (o.text.length:Int) 2=l2 at *
 have n2:l2.length<=4:=by rw [<- hE2,ysq,Lk.le_length]; omega
 have E2:=hid hE2
 clear hE2 hw hk
 have k0:=S2.out.ob.blk.cell 1
 go_wp2_with fail
 refine (yG b (o.far.length:Int) 2 2 rfl l2 V2 S2.out.wr (by omega) (by omega) (by omega) (by omega)).mono ?_
 rintro e V3 ⟨rfl,hw,hk⟩
 have S3:=hid (S2.out.step hw hk)
 clear S2 k0
 generalize hE3:l2 ++ Lk.le (o.far.length:Int) 2=l3 at *
 have n3:l3.length<=6:=by rw [<- hE3,ysq,Lk.le_length]; omega
 have E3:=hid hE3
 clear hE3 hw hk
 have k0:=S3.out.ob.blk.cell 2
 go_wp2_with fail
 refine (yG b (o.data.length:Int) 2 2 rfl l3 V3 S3.out.wr (by omega) (by omega) (by omega) (by omega)).mono ?_
 rintro e V4 ⟨rfl,hw,hk⟩
 have S4:=hid (S3.out.step hw hk)
 clear S3 k0
 generalize hE4:l3 ++ Lk.le (o.data.length:Int) 2=l4 at *
 have n4:l4.length<=8:=by rw [<- hE4,ysq,Lk.le_length]; omega
 have E4:=hid hE4
 clear hE4 hw hk
 have k0:=S4.out.ob.blk.cell 3
 go_wp2_with fail
 refine (yG b o.bss 2 2 rfl l4 V4 S4.out.wr (by omega) (by omega) (by omega) (by omega)).mono ?_
 rintro e V5 ⟨rfl,hw,hk⟩
 have S5:=hid (S4.out.step hw hk)
 clear S4 k0
 generalize hE5:l4 ++ Lk.le o.bss 2=l5 at *
 have n5:l5.length<=10:=by rw [<- hE5,ysq,Lk.le_length]; omega
 have E5:=hid hE5
 clear hE5 hw hk
 have k0:=S5.out.ob.blk.cell 4
 go_wp2_with fail
 refine (yaK b aa ca 1 1 rfl o.align l5 V5 S5.out.wr S5.out.ob.align (by omega) (by omega) (by omega) (fun i hi=>by have:=HW1.out _ (ysr hi); simp only [Int.reducePow] at this; omega)).mono ?_
 rintro e V6 ⟨rfl,hw,hk⟩
 have S6:=hid (S5.out.step hw hk)
 clear S5 k0
 generalize hE6:l5 ++ Lk.nums o.align 1=l6 at *
 have n6:l6.length<=14:=by rw [<- hE6,ysq,ybn]; omega
 have E6:=hid hE6
 clear hE6 hw hk
 have k0:=S6.out.ob.blk.cell 5
 go_wp2_with fail
 refine (yG b (o.syms.length:Int) 1 1 rfl l6 V6 S6.out.wr (by omega) (by omega) (by omega) (by omega)).mono ?_
 rintro e V7 ⟨rfl,hw,hk⟩
 have S7:=hid (S6.out.step hw hk)
 clear S6 k0
 generalize hE7:l6 ++ Lk.le (o.syms.length:Int) 1=l7 at *
 have n7:l7.length<=15:=by rw [<- hE7,ysq,Lk.le_length]; omega
 have E7:=hid hE7
 clear hE7 hw hk
 have k0:=S7.out.ob.blk.cell 6
 go_wp2_with fail
 refine (yG b (o.rels.length:Int) 1 1 rfl l7 V7 S7.out.wr (by omega) (by omega) (by omega) (by omega)).mono ?_
 rintro e V8 ⟨rfl,hw,hk⟩
 have S8:=hid (S7.out.step hw hk)
 clear S7 k0
 generalize hE8:l7 ++ Lk.le (o.rels.length:Int) 1=l8 at *
 have n8:l8.length<=16:=by rw [<- hE8,ysq,Lk.le_length]; omega
 have E8:=hid hE8
 clear hE8 hw hk
 have k0:=S8.out.ob.blk.cell 5
 go_wp2
 go_loopw [63] (fun i wr=>∃ n:Nat,n<=o.syms.length/\i = .int .i64 n/\St4 W1 b g o at_ ct af cf ad cd aa ca as_ cs ar cr (l8 ++ (o.syms.take n).flatMap Lk.symB) wr) (fun i _=>o.syms.length - (intOf i).toNat)
 case atStart=>exact ⟨0,Nat.zero_le _,rfl,by simpa using S8.out⟩
 case round =>
  obtain ⟨n,hn,rfl,hst⟩:=hrel
  have ST:=hid hst
  clear hst
  by_cases hlt:n < o.syms.length
  ·obtain ⟨sg,bs0,hao,hne,hbk,hc⟩:=ST.out.ob.syms (by omega)
   subst hao
   obtain ⟨q0,q1,q2,q3⟩:=hc n hlt
   have m0:=(hbk.cell (n * 4)).trans q0
   have m1:=(hbk.cell (n * 4+1)).trans q1
   have m2:=(hbk.cell (n * 4+2)).trans q2
   have m3:=(hbk.cell (n * 4+3)).trans q3
   have hgl:=hbk.lt
   have hwb:b < wr.heap.size:=by obtain ⟨_,_,x1,_⟩:=ST.out.wr; exact x1.lt
   have hgd:=HS.out _ (ysr hlt)
   have hlen:(l8 ++ (o.syms.take n).flatMap Lk.symB).length<=1048576:=by
    have:=yfu Lk.symB 260 n o.syms (fun y hy=>ylV y (HS.out y hy))
    rw [ysq]
    omega
   have STA:=hid (St3.begin ST.out.wr #[.string (bs o.syms[n].name),.int .i64 o.syms[n].bind,.int .i64 o.syms[n].sect,.int .i64 o.syms[n].off] 100)
   have cW:=hid (fun W hW=>yhw b o.syms[n] (l8 ++ (o.syms.take n).flatMap Lk.symB) W hW hlen hgd)
   clear hbk hc q0 q1 q2 q3 hgd hlen k0
   go_wp2_with fail
   refine (cW.out _ STA.out.wr).mono ?_
   rintro e W2 ⟨rfl,hw,hk⟩
   have S2:=hid (ST.out.step hw (STA.out.wk.trans hk))
   clear hw hk
   go_wp2
   go_roundw
   case rel=>exact ⟨n+1,by omega,by go_num,by rw [yis Lk.symB o.syms n hlt,<- List.append_assoc]; exact S2.out⟩
   case measure=>simp [intOf]; omega
  ·have S9':=ST.out
   rw [List.take_of_length_le (show o.syms.length<=n by omega)] at S9'
   have S9:=hid S9'
   clear S9' ST k0 S8
   generalize hE9:l8 ++ o.syms.flatMap Lk.symB=l9 at *
   have n9:l9.length<=4176:=by
    have:=yhH Lk.symB 260 o.syms (fun y hy=>ylV y (HS.out y hy))
    rw [<- hE9,ysq]
    omega
   have E9:=hid hE9
   clear hE9
   have k0:=S9.out.ob.blk.cell 6
   go_wp2
   go_loopw [75] (fun i wr=>∃ n:Nat,n<=o.rels.length/\i = .int .i64 n/\St4 W1 b g o at_ ct af cf ad cd aa ca as_ cs ar cr (l9 ++ (o.rels.take n).flatMap Lk.relB) wr) (fun i _=>o.rels.length - (intOf i).toNat)
   case atStart=>exact ⟨0,Nat.zero_le _,rfl,by simpa using S9.out⟩
   case round =>
    obtain ⟨n,hn,rfl,hst⟩:=hrel
    have ST:=hid hst
    clear hst
    by_cases hlt:n < o.rels.length
    ·obtain ⟨sg,bs0,hao,hne,hbk,hc⟩:=ST.out.ob.rels (by omega)
     subst hao
     obtain ⟨q0,q1,q2,q3,q4⟩:=hc n hlt
     have m0:=(hbk.cell (n * 5)).trans q0
     have m1:=(hbk.cell (n * 5+1)).trans q1
     have m2:=(hbk.cell (n * 5+2)).trans q2
     have m3:=(hbk.cell (n * 5+3)).trans q3
     have m4:=(hbk.cell (n * 5+4)).trans q4
     have hgl:=hbk.lt
     have hwb:b < wr.heap.size:=by obtain ⟨_,_,x1,_⟩:=ST.out.wr; exact x1.lt
     have hgd:=HRL.out _ (ysr hlt)
     have hlen:(l9 ++ (o.rels.take n).flatMap Lk.relB).length<=1048576:=by
      have:=yfu Lk.relB 7 n o.rels (fun y hy=>ylQ y)
      rw [ysq]
      omega
     have STA:=hid (St3.begin ST.out.wr #[.int .i64 o.rels[n].sect,.int .i64 o.rels[n].off,.int .i64 o.rels[n].kind,.int .i64 o.rels[n].sym,.int .i64 o.rels[n].addend] 102)
     have cW:=hid (fun W hW=>yie b o.rels[n] (l9 ++ (o.rels.take n).flatMap Lk.relB) W hW hlen hgd)
     clear hbk hc q0 q1 q2 q3 q4 hgd hlen k0
     go_wp2_with fail
     refine (cW.out _ STA.out.wr).mono ?_
     rintro e W2 ⟨rfl,hw,hk⟩
     have S2:=hid (ST.out.step hw (STA.out.wk.trans hk))
     clear hw hk
     go_wp2
     go_roundw
     case rel=>exact ⟨n+1,by omega,by go_num,by rw [yis Lk.relB o.rels n hlt,<- List.append_assoc]; exact S2.out⟩
     case measure=>simp [intOf]; omega
    ·have S10':=ST.out
     rw [List.take_of_length_le (show o.rels.length<=n by omega)] at S10'
     have S10:=hid S10'
     clear S10' ST k0 S9
     generalize hE10:l9 ++ o.rels.flatMap Lk.relB=l10 at *
     have n10:l10.length<=4400:=by
      have:=yhH Lk.relB 7 o.rels (fun y hy=>ylQ y)
      rw [<- hE10,ysq]
      omega
     have E10:=hid hE10
     clear hE10
     have k0:=S10.out.ob.blk.cell 0
     go_wp2_with fail
     refine (yaK b at_ ct 4 4 rfl o.text l10 wr S10.out.wr S10.out.ob.text (by omega) (by omega) (by omega) (fun i hi=>by have:=HWt.out _ (ysr hi); simp only [Int.reducePow] at this; omega)).mono ?_
     rintro e V11 ⟨rfl,hw,hk⟩
     have S11:=hid (S10.out.step hw hk)
     clear S10 k0
     generalize hE11:l10 ++ Lk.nums o.text 4=l11 at *
     have n11:l11.length<=9200:=by rw [<- hE11,ysq,ybn]; omega
     have E11:=hid hE11
     clear hE11 hw hk
     have k0:=S11.out.ob.blk.cell 1
     go_wp2_with fail
     refine (yaK b af cf 4 4 rfl o.far l11 V11 S11.out.wr S11.out.ob.far (by omega) (by omega) (by omega) (fun i hi=>by have:=HWf.out _ (ysr hi); simp only [Int.reducePow] at this; omega)).mono ?_
     rintro e V12 ⟨rfl,hw,hk⟩
     have S12:=hid (S11.out.step hw hk)
     clear S11 k0
     generalize hE12:l11 ++ Lk.nums o.far 4=l12 at *
     have n12:l12.length<=14000:=by rw [<- hE12,ysq,ybn]; omega
     have E12:=hid hE12
     clear hE12 hw hk
     have k0:=S12.out.ob.blk.cell 2
     go_wp2_with fail
     refine (yaK b ad cd 4 4 rfl o.data l12 V12 S12.out.wr S12.out.ob.data (by omega) (by omega) (by omega) (fun i hi=>by have:=HWd.out _ (ysr hi); simp only [Int.reducePow] at this; omega)).mono ?_
     rintro e V13 ⟨rfl,hw,hk⟩
     have S13:=hid (S12.out.step hw hk)
     clear S12 k0
     generalize hE13:l12 ++ Lk.nums o.data 4=l13 at *
     have n13:l13.length<=14256:=by rw [<- hE13,ysq,ybn]; omega
     have E13:=hid hE13
     clear hE13 hw hk
     go_wp2_with fail
     refine (yhr b l13 V13 S13.out.wr).mono ?_
     rintro e V14 ⟨rfl,hv14⟩
     subst hv14
     go_wp2
     go_ret2
     have hfin:l13=Lk.objB o:=by
      rw [<- E13.out,<- E12.out,<- E11.out,<- E10.out,<- E9.out,<- E8.out,<- E7.out,<- E6.out,<- E5.out,<- E4.out,<- E3.out,<- E2.out,<- E1.out]
      simp [Lk.objB,sl]
     refine ⟨by rw [hfin]; rfl,?_⟩
     have hb:=S13.out.be
     exact ⟨hb.os.trans Q1.out.os,hb.tape.trans Q1.out.tape,hb.output.trans Q1.out.output,Nat.le_trans Q1.out.size hb.size,fun i hi _=>(hb.block i (by have:=Q1.out.size; have:=HBB.out; omega)).trans (Q1.out.block i hi (by simp))⟩
namespace Im
def bytes (m:Img):List UInt8:=[73,77] ++ Lk.le m.start 4 ++ Lk.le m.text 4 ++ Lk.le m.far 4 ++ Lk.le m.data 4 ++ Lk.le (m.T.length:Int) 2 ++ Lk.le (m.F.length:Int) 2 ++ Lk.le (m.D.length:Int) 2 ++ Lk.le m.noughts 2 ++ Lk.nums m.T 4 ++ Lk.nums m.F 4 ++ Lk.nums m.D 4
end Im
structure ImgB (W:World) (b g:Nat) (m:Im.Img) (at_:Option Addr) (ct:Nat) (af:Option Addr) (cf:Nat) (ad:Option Addr) (cd:Nat):Prop where
 blk:yc W g #[.int .i64 m.start,.int .i64 m.text,.int .i64 m.far,.int .i64 m.data,.slice at_ m.T.length ct,.slice af m.F.length cf,.slice ad m.D.length cd,.int .i64 m.noughts] 90
 ne:g≠b
 text:ybc W b at_ m.T
 far:ybc W b af m.F
 data:ybc W b ad m.D
structure StI (w:World) (b g:Nat) (m:Im.Img) (at_:Option Addr) (ct:Nat) (af:Option Addr) (cf:Nat) (ad:Option Addr) (cd:Nat) (l:List UInt8) (W:World):Prop where
 wr:WrAt W b l
 ob:ImgB W b g m at_ ct af cf ad cd
 be:Below b w W
section
variable {w W W':World} {b g:Nat} {m:Im.Img} {at_ af ad:Option Addr} {ct cf cd:Nat} {l l':List UInt8}
theorem ImgB.kept (h:ImgB W b g m at_ ct af cf ad cd) (hk:Wk b W W'):ImgB W' b g m at_ ct af cf ad cd :=
 ⟨hk.2 g _ _ h.ne (by decide) h.blk,h.ne,h.text.kept hk,h.far.kept hk,h.data.kept hk⟩
theorem StI.step (h:StI w b g m at_ ct af cf ad cd l W) (hw:WrAt W' b l') (hk:Wk b W W'):StI w b g m at_ ct af cf ad cd l' W' :=
 ⟨hw,h.ob.kept hk,h.be.trans hk.1⟩
end
theorem yah.toB {W:World} {g:Nat} {m:Im.Img} (h:yah W g m) (ob:Obj):∃ at_ ct af cf ad cd,ImgB (W.alloc ob) W.heap.size g m at_ ct af cf ad cd:=by
 obtain ⟨at_,ct,af,cf,ad,cd,hb,h1,h2,h3⟩:=h.open
 have ne:∀ {e:TypeId} {size:Nat} {ao:Option Addr} {n cap:Nat} {xs:List Value},W.ownsRow 0 e size (.slice ao n cap) n xs->∀ k,Value.ownBlock (.slice ao n cap)=some k->k≠W.heap.size:=fun h k hk=>by have:=(h.lt k hk).2; omega
 refine ⟨at_,ct,af,cf,ad,cd,hb.grown (ysp _ _ none) (by simp),by have:=hb.lt; omega,?_,?_,?_⟩
 ·exact ybc.of_own (h1.alloc _) (ne h1)
 ·exact ybc.of_own (h2.alloc _) (ne h2)
 ·exact ybc.of_own (h3.alloc _) (ne h3)
def yfO (xs:List Int):Prop:=∀ i (h:i < xs.length),-1099511627776<=xs[i]/\xs[i]<=1099511627776
set_option maxRecDepth 100000 in
set_option maxHeartbeats 8000000 in
theorem yjA (g:Nat) (m:Im.Img) (w:World) (h:yah w g m) (ht:Im.Tame m) (hT:yfO m.T) (hF:yfO m.F) (hD:yfO m.D) :
  Calls Tryz.prog 42 #[.pointer (some ⟨g,0,none⟩)] w fun e w'=>e = .returned (.string (bs (Im.bytes m)))/\w.grownBy w' none:=by
 obtain ⟨a1,a2,a3,a4,a5,a6⟩:=ht
 have HT:=hid hT
 have HF:=hid hF
 have HD:=hid hD
 obtain ⟨at_,ct,af,cf,ad,cd,hob⟩:=h.toB (.cells #[.slice none 0 0] 105)
 have S0:Hid (StI w w.heap.size g m at_ ct af cf ad cd [] (w.alloc (.cells #[.slice none 0 0] 105))):=⟨yky w,hob,(Below.refl _ _).alloc (Nat.le_refl _) _⟩
 clear hob h hT hF hD
 go_enter Tryz.func42,Tryz.ntmps42
 go_wp2_with fail
 generalize hbb:w.heap.size=b at *
 have HBB:=hid hbb
 clear hbb
 refine Calls.at_world (StI w b g m at_ ct af cf ad cd []) S0.out ?_
 clear S0
 intro V0 h0
 have S0:=hid h0
 clear h0
 refine (yfK b ⟨#[73,77]⟩ [] V0 S0.out.wr (by simp) (by decide)).mono ?_
 rintro e V1 ⟨rfl,hw,hk⟩
 have S1:=hid (S0.out.step hw hk)
 clear S0
 generalize hE1:[] ++ sl ⟨#[73,77]⟩=l1 at *
 have n1:l1.length<=2:=by rw [<- hE1]; decide
 have E1:=hid hE1
 clear hE1 hw hk
 have k0:=S1.out.ob.blk.cell 0
 go_wp2_with fail
 refine (yG b m.start 4 4 rfl l1 V1 S1.out.wr (by omega) (by omega) (by omega) (by omega)).mono ?_
 rintro e V2 ⟨rfl,hw,hk⟩
 have S2:=hid (S1.out.step hw hk)
 clear S1 k0
 generalize hE2:l1 ++ Lk.le m.start 4=l2 at *
 have n2:l2.length<=6:=by rw [<- hE2,ysq,Lk.le_length]; omega
 have E2:=hid hE2
 clear hE2 hw hk
 have k0:=S2.out.ob.blk.cell 1
 go_wp2_with fail
 refine (yG b m.text 4 4 rfl l2 V2 S2.out.wr (by omega) (by omega) (by omega) (by omega)).mono ?_
 rintro e V3 ⟨rfl,hw,hk⟩
 have S3:=hid (S2.out.step hw hk)
 clear S2 k0
 generalize hE3:l2 ++ Lk.le m.text 4=l3 at *
 have n3:l3.length<=10:=by rw [<- hE3,ysq,Lk.le_length]; omega
 have E3:=hid hE3
 clear hE3 hw hk
 have k0:=S3.out.ob.blk.cell 2
 go_wp2_with fail
 refine (yG b m.far 4 4 rfl l3 V3 S3.out.wr (by omega) (by omega) (by omega) (by omega)).mono ?_
 rintro e V4 ⟨rfl,hw,hk⟩
 have S4:=hid (S3.out.step hw hk)
 clear S3 k0
 generalize hE4:l3 ++ Lk.le m.far 4=l4 at *
 have n4:l4.length<=14:=by rw [<- hE4,ysq,Lk.le_length]; omega
 have E4:=hid hE4
 clear hE4 hw hk
 have k0:=S4.out.ob.blk.cell 3
 go_wp2_with fail
 refine (yG b m.data 4 4 rfl l4 V4 S4.out.wr (by omega) (by omega) (by omega) (by omega)).mono ?_
 rintro e V5 ⟨rfl,hw,hk⟩
 have S5:=hid (S4.out.step hw hk)
 clear S4 k0
 generalize hE5:l4 ++ Lk.le m.data 4=l5 at *
 have n5:l5.length<=18:=by rw [<- hE5,ysq,Lk.le_length]; omega
 have E5:=hid hE5
 clear hE5 hw hk
 have k0:=S5.out.ob.blk.cell 4
 go_wp2_with fail
 refine (yG b (m.T.length:Int) 2 2 rfl l5 V5 S5.out.wr (by omega) (by omega) (by omega) (by omega)).mono ?_
 rintro e V6 ⟨rfl,hw,hk⟩
 have S6:=hid (S5.out.step hw hk)
 clear S5 k0
 generalize hE6:l5 ++ Lk.le (m.T.length:Int) 2=l6 at *
 have n6:l6.length<=20:=by rw [<- hE6,ysq,Lk.le_length]; omega
 have E6:=hid hE6
 clear hE6 hw hk
 have k0:=S6.out.ob.blk.cell 5
 go_wp2_with fail
 refine (yG b (m.F.length:Int) 2 2 rfl l6 V6 S6.out.wr (by omega) (by omega) (by omega) (by omega)).mono ?_
 rintro e V7 ⟨rfl,hw,hk⟩
 have S7:=hid (S6.out.step hw hk)
 clear S6 k0
 generalize hE7:l6 ++ Lk.le (m.F.length:Int) 2=l7 at *
 have n7:l7.length<=22:=by rw [<- hE7,ysq,Lk.le_length]; omega
 have E7:=hid hE7
 clear hE7 hw hk
 have k0:=S7.out.ob.blk.cell 6
 go_wp2_with fail
 refine (yG b (m.D.length:Int) 2 2 rfl l7 V7 S7.out.wr (by omega) (by omega) (by omega) (by omega)).mono ?_
 rintro e V8 ⟨rfl,hw,hk⟩
 have S8:=hid (S7.out.step hw hk)
 clear S7 k0
 generalize hE8:l7 ++ Lk.le (m.D.length:Int) 2=l8 at *
 have n8:l8.length<=24:=by rw [<- hE8,ysq,Lk.le_length]; omega
 have E8:=hid hE8
 clear hE8 hw hk
 have k0:=S8.out.ob.blk.cell 7
 go_wp2_with fail
 refine (yG b m.noughts 2 2 rfl l8 V8 S8.out.wr (by omega) (by omega) (by omega) (by omega)).mono ?_
 rintro e V9 ⟨rfl,hw,hk⟩
 have S9:=hid (S8.out.step hw hk)
 clear S8 k0
 generalize hE9:l8 ++ Lk.le m.noughts 2=l9 at *
 have n9:l9.length<=26:=by rw [<- hE9,ysq,Lk.le_length]; omega
 have E9:=hid hE9
 clear hE9 hw hk
 have k0:=S9.out.ob.blk.cell 4
 go_wp2_with fail
 refine (yaK b at_ ct 4 4 rfl m.T l9 V9 S9.out.wr S9.out.ob.text (by omega) (by omega) (by omega) HT.out).mono ?_
 rintro e V10 ⟨rfl,hw,hk⟩
 have S10:=hid (S9.out.step hw hk)
 clear S9 k0
 generalize hE10:l9 ++ Lk.nums m.T 4=l10 at *
 have n10:l10.length<=262166:=by rw [<- hE10,ysq,ybn]; omega
 have E10:=hid hE10
 clear hE10 hw hk
 have k0:=S10.out.ob.blk.cell 5
 go_wp2_with fail
 refine (yaK b af cf 4 4 rfl m.F l10 V10 S10.out.wr S10.out.ob.far (by omega) (by omega) (by omega) HF.out).mono ?_
 rintro e V11 ⟨rfl,hw,hk⟩
 have S11:=hid (S10.out.step hw hk)
 clear S10 k0
 generalize hE11:l10 ++ Lk.nums m.F 4=l11 at *
 have n11:l11.length<=524306:=by rw [<- hE11,ysq,ybn]; omega
 have E11:=hid hE11
 clear hE11 hw hk
 have k0:=S11.out.ob.blk.cell 6
 go_wp2_with fail
 refine (yaK b ad cd 4 4 rfl m.D l11 V11 S11.out.wr S11.out.ob.data (by omega) (by omega) (by omega) HD.out).mono ?_
 rintro e V12 ⟨rfl,hw,hk⟩
 have S12:=hid (S11.out.step hw hk)
 clear S11 k0
 generalize hE12:l11 ++ Lk.nums m.D 4=l12 at *
 have n12:l12.length<=786446:=by rw [<- hE12,ysq,ybn]; omega
 have E12:=hid hE12
 clear hE12 hw hk
 go_wp2_with fail
 refine (yhr b l12 V12 S12.out.wr).mono ?_
 rintro e w2 ⟨rfl,rfl⟩
 have FIN:=hid (show l12=Im.bytes m by rw [<- E12.out,<- E11.out,<- E10.out,<- E9.out,<- E8.out,<- E7.out,<- E6.out,<- E5.out,<- E4.out,<- E3.out,<- E2.out,<- E1.out]; simp [Im.bytes,sl])
 have GR:=hid S12.out.be
 clear S12
 go_wp2
 go_ret
 refine ⟨by rw [FIN.out]; rfl,?_⟩
 have hb:=GR.out
 exact ⟨hb.os,hb.tape,hb.output,hb.size,fun i hi _=>hb.block i (by have:=HBB.out; omega)⟩
end Go.Proofs.YtpgklkhgfcjceaaGreatDoor
