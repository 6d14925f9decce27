
import Derived.Deep.RegionWith
import Derived.Deep.CutRange
import Derived.Test.YtpgklkhgfcjceaaGreatDoorV20
set_option maxHeartbeats 16000000
set_option maxRecDepth 100000
namespace Go.Proofs.YtpgklkhgfcjceaaGreatDoor
open Go.RowKit
namespace Im
def oq (m:dZ):Int:=m.text+4 * (m.T.length:Int)
def oo (m:dZ):Int:=m.far+4 * (m.F.length:Int)
def om (m:dZ):Int:=m.data+4 * ((m.D.length:Int)+m.noughts)
def Fits (m:dZ):Prop:=(oq m<=1073741824/\oo m<=1073741824/\om m<=1073741824)/\(¬ kJ m.text (oq m) m.far (oo m)/\¬ kJ m.text (oq m) m.data (om m)/\¬ kJ m.far (oo m) m.data (om m))
end Im
def mM (a b:Int):Array Value:=#[.int .i64 a,.int .i64 b]
theorem Az (w:World) (a b:Int):yc ((w.alloc (.cells (mM a b) 171)).alloc (.cells (mM a b) 171)).drew w.heap.size (mM a b) 171 /\
  yc ((w.alloc (.cells (mM a b) 171)).alloc (.cells (mM a b) 171)).drew (w.heap.size+1) (mM a b) 171/\w.grownBy ((w.alloc (.cells (mM a b) 171)).alloc (.cells (mM a b) 171)).drew none:=by
 have b1:=yc.new w (mM a b) 171;have b2:=yc.new (w.alloc (.cells (mM a b) 171)) (mM a b) 171;rw [show (w.alloc (.cells (mM a b) 171)).heap.size=w.heap.size+1 from Array.size_push _] at b2;exact ⟨(b1.grown (aJ _ _ none) (by simp)).drewN 1,b2.drewN 1,yh (ya (aJ _ _ none) (aJ _ _ none))⟩
theorem WY (g:Nat) (m:Im.dZ) (w:World) (h:mQ w g m) (ht:Im.jF m) :
  Calls Tryz.prog 74 #[.pointer (some ⟨g,0,none⟩)] w fun e w'=>yg e (Im.Fits m)/\w.grownBy w' none:=by
 obtain ⟨at_,ct,af,cf,ad,cd,hb,q1,q2,q3⟩:=h.open;have HB:=hid hb;have hl:=ht.lens;have hn:=ht.noughts;have r1:=ht.text;have r2:=ht.far;have r3:=ht.data;have cT:=hid (fun W=>Te m.text m.T.length W ht.text.1 ht.text.2 (by omega) (by omega));have cF:=hid (fun W=>Te m.far m.F.length W ht.far.1 ht.far.2 (by omega) (by omega));have cD:=hid (fun W=>Te m.data (m.D.length+m.noughts) W ht.data.1 ht.data.2 (by omega) (by omega));have F0:=hid (show Im.Fits m↔(Im.oq m<=1073741824/\Im.oo m<=1073741824/\Im.om m<=1073741824)/\(¬ Im.kJ m.text (Im.oq m) m.far (Im.oo m)/\¬ Im.kJ m.text (Im.oq m) m.data (Im.om m)/\¬ Im.kJ m.far (Im.oo m) m.data (Im.om m)) from Iff.rfl)
 generalize Im.Fits m=Q at *;have ww:IntKind.i64.wrap ((m.D.length:Int)+m.noughts)=(m.D.length:Int)+m.noughts:=IntWalk.i64_in _ ⟨by omega,by omega⟩;clear h ht hb q1 q2 q3;have k1:=HB.o.cell 1;have k4:=HB.o.cell 4;simp only [bI,bN,bK] at k1 k4;have hlt:=HB.o.lt;have hne:g≠w.heap.size:=by omega
 go_enter Tryz.func74,Tryz.ntmps74
 go_upto_region 1 with fail
 go_cut [3] from 6 to 16 (fun v wx=>∃ r,v = .pointer (some ⟨r,0,none⟩)/\yc wx r (mM m.text (Im.oq m)) 171/\w.grownBy wx none)
 case first =>
  go_region_with (go_at_call 111; refine (cT.o _).mono ?_; rintro e w' ⟨rfl,rfl⟩)
  all_goals (go_wp2_with fail; go_meet; first | exact ⟨w.heap.size,rfl,(Az w m.text (Im.oq m)).1,(Az w m.text (Im.oq m)).2.2⟩ | exact ⟨w.heap.size+1,rfl,(Az w m.text (Im.oq m)).2.1,(Az w m.text (Im.oq m)).2.2⟩)
 case rest =>
 obtain ⟨ra,rfl,b1,g1⟩:=hcut;clear k1 k4 hlt hne cT;generalize wc=W1 at *;have HB1:=hid (HB.o.grown g1 (by simp));have P1:=hid b1;have G1:=hid g1;clear b1 g1 HB;have k2:=HB1.o.cell 2;have k5:=HB1.o.cell 5;simp only [bI,bN,bK] at k2 k5;have hlt:=HB1.o.lt;have hne:g≠W1.heap.size:=by omega
 go_upto_region 2 with fail
 go_cut [4] from 17 to 27 (fun v wx=>∃ r,v = .pointer (some ⟨r,0,none⟩)/\yc wx r (mM m.far (Im.oo m)) 171/\W1.grownBy wx none)
 case first =>
  go_region_with (go_at_call 111; refine (cF.o _).mono ?_; rintro e w' ⟨rfl,rfl⟩)
  all_goals (go_wp2_with fail; go_meet; first | exact ⟨W1.heap.size,rfl,(Az W1 m.far (Im.oo m)).1,(Az W1 m.far (Im.oo m)).2.2⟩ | exact ⟨W1.heap.size+1,rfl,(Az W1 m.far (Im.oo m)).2.1,(Az W1 m.far (Im.oo m)).2.2⟩)
 case rest =>
 obtain ⟨rb,rfl,b1,g1⟩:=hcut;clear k2 k5 hlt hne cF;generalize wc=W2 at *;have HB2:=hid (HB1.o.grown g1 (by simp));have Vw:=hid (P1.o.grown g1 (by simp));have P2:=hid b1;have G2:=hid (ya G1.o g1);clear b1 g1 HB1 P1 G1;have k3:=HB2.o.cell 3;have k6:=HB2.o.cell 6;have k7:=HB2.o.cell 7;simp only [bI,bN,bK] at k3 k6 k7;have hlt:=HB2.o.lt;have hne:g≠W2.heap.size:=by omega
 go_upto_region 3 with fail
 go_cut [5] from 28 to 43 (fun v wx=>∃ r,v = .pointer (some ⟨r,0,none⟩)/\yc wx r (mM m.data (Im.om m)) 171/\W2.grownBy wx none)
 case first =>
  go_region_with (go_at_call 111; refine (cD.o _).mono ?_; rintro e w' ⟨rfl,rfl⟩)
  all_goals (go_wp2_with fail; go_meet; first | exact ⟨W2.heap.size,rfl,(Az W2 m.data (Im.om m)).1,(Az W2 m.data (Im.om m)).2.2⟩ | exact ⟨W2.heap.size+1,rfl,(Az W2 m.data (Im.om m)).2.1,(Az W2 m.data (Im.om m)).2.2⟩)
 case rest =>
 obtain ⟨rc,rfl,b1,g1⟩:=hcut;clear k3 k6 k7 hlt hne cD;generalize wc=W3 at *;have B1:=hid (Vw.o.grown g1 (by simp));have B2:=hid (P2.o.grown g1 (by simp));have B3:=hid b1;have G:=hid (ya G2.o g1);clear b1 g1 HB2 Vw P2 G2;generalize Im.oq m=eT at *;generalize Im.oo m=eF at *;generalize Im.om m=eD at *;have a0:=B1.o.cell 0;have a1:=B1.o.cell 1;have c0:=B2.o.cell 0;have c1:=B2.o.cell 1;have d0:=B3.o.cell 0;have d1:=B3.o.cell 1;simp only [mM,bI,bN,bK] at a0 a1 c0 c1 d0 d1;by_cases z1:1073741824 < eT
 ·have e1:decide (1073741824 < eT)=true:=by simpa using z1
  have N:=hid (show ¬ Q from fun q=>by have:=(F0.o.1 q).1.1; omega);clear z1;go_wp2;go_ret;exact ⟨yg.no N.o,G.o⟩
 ·have e1:decide (1073741824 < eT)=false:=by simpa using z1
  by_cases z2:1073741824 < eF
  ·have e2:decide (1073741824 < eF)=true:=by simpa using z2
   have N:=hid (show ¬ Q from fun q=>by have:=(F0.o.1 q).1.2.1; omega);clear z1 z2;go_wp2;go_ret;exact ⟨yg.no N.o,G.o⟩
  ·have e2:decide (1073741824 < eF)=false:=by simpa using z2
   by_cases z3:1073741824 < eD
   ·have e3:decide (1073741824 < eD)=true:=by simpa using z3
    have N:=hid (show ¬ Q from fun q=>by have:=(F0.o.1 q).1.2.2; omega);clear z1 z2 z3;go_wp2;go_ret;exact ⟨yg.no N.o,G.o⟩
   ·have e3:decide (1073741824 < eD)=false:=by simpa using z3
    have LE:=hid (show eT<=1073741824/\eF<=1073741824/\eD<=1073741824 by omega);clear z1 z2 z3;go_wp2_with fail;refine (TU m.text eT m.far eF W3).mono ?_;rintro e V1 ⟨t1,h1⟩;have G1:=hid (ya G.o h1);replace a0:=yd a0 h1;replace a1:=yd a1 h1;replace c0:=yd c0 h1;replace c1:=yd c1 h1;replace d0:=yd d0 h1;replace d1:=yd d1 h1;rcases t1.split with ⟨rfl,p1⟩ | ⟨rfl,p1⟩ <;> clear t1 h1
    ·go_wp2_with fail;refine (TU m.text eT m.data eD V1).mono ?_;rintro e V2 ⟨t2,h2⟩;have G2:=hid (ya G1.o h2);replace a0:=yd a0 h2;replace a1:=yd a1 h2;replace c0:=yd c0 h2;replace c1:=yd c1 h2;replace d0:=yd d0 h2;replace d1:=yd d1 h2;rcases t2.split with ⟨rfl,p2⟩ | ⟨rfl,p2⟩ <;> clear t2 h2
     ·go_wp2_with fail;refine (TU m.far eF m.data eD V2).mono ?_;rintro e V3 ⟨t3,h3⟩;have G3:=hid (ya G2.o h3);rcases t3.split with ⟨rfl,p3⟩ | ⟨rfl,p3⟩ <;> clear t3 h3
      ·go_wp2;go_ret;exact ⟨yg.yes (F0.o.2 ⟨LE.o,p1.o,p2.o,p3.o⟩),G3.o⟩
      ·go_wp2;go_ret;exact ⟨yg.no fun q=>(F0.o.1 q).2.2.2 p3.o,G3.o⟩
     ·go_wp2;go_ret;exact ⟨yg.no fun q=>(F0.o.1 q).2.2.1 p2.o,G2.o⟩
    ·go_wp2;go_ret;exact ⟨yg.no fun q=>(F0.o.1 q).2.1 p1.o,G1.o⟩
theorem ypG:∀ (ms:List (Lk.Obj×Bool)) (os:List Lk.Obj),(Ln.pass ms os).1.map Prod.fst=ms.map Prod.fst:=by
 intro ms
 induction ms with
 | nil=>intro os; rfl
 | cons m ms ih =>
  intro os;obtain ⟨o,t⟩:=m;unfold Ln.pass;split
  ·rw [List.map_cons,ih,List.map_cons]
  ·rw [List.map_cons,ih,List.map_cons]
theorem ypF (P:Lk.Obj->Prop):∀ (ms:List (Lk.Obj×Bool)) (os:List Lk.Obj),(∀ m∈ms,P m.1)->(∀ o∈os,P o)->∀ o∈(Ln.pass ms os).2.1,P o:=by
 intro ms
 induction ms with
 | nil=>intro os _ h; exact h
 | cons m ms ih =>
  intro os hm ho;obtain ⟨o,t⟩:=m;unfold Ln.pass;have h0:=hm (o,t) (by simp);split
  ·exact ih _ (fun x hx=>hm x (by simp [hx])) (fun x hx=>by
    rcases List.mem_append.1 hx with q | q
    ·exact ho x q
    ·simp at q; subst q; exact h0)
  ·exact ih _ (fun x hx=>hm x (by simp [hx])) ho
theorem ypH:∀ (ms:List (Lk.Obj×Bool)) (os:List Lk.Obj),(Ln.pass ms os).2.1.length+rV (Ln.pass ms os).1=os.length+rV ms:=by
 intro ms
 induction ms with
 | nil=>intro os; rfl
 | cons m ms ih =>
  intro os;obtain ⟨o,t⟩:=m;unfold Ln.pass;split
  ·rename_i h
   have:=ih (os ++ [o])
   rw [eZ,List.length_singleton] at this;unfold rV at this ⊢;rw [List.filter_cons_of_neg (by simp),List.filter_cons_of_pos (by simp [h.1]),jm];dsimp only;omega
  ·have:=ih os
   unfold rV at this ⊢
   cases t
   ·rw [List.filter_cons_of_pos (by simp),List.filter_cons_of_pos (by simp),jm,jm];dsimp only;omega
   ·rw [List.filter_cons_of_neg (by simp),List.filter_cons_of_neg (by simp)];exact this
theorem ykz (P:Lk.Obj->Prop):∀ (k:Nat) (ms:List (Lk.Obj×Bool)) (os:List Lk.Obj),(∀ m∈ms,P m.1)->(∀ o∈os,P o)->∀ o∈Ln.gF k ms os,P o:=by
 intro k
 induction k with
 | zero=>intro ms os _ h; exact h
 | succ k ih =>
  intro ms os hm ho;have q:=ypF P ms os hm ho;unfold Ln.gF;split
  ·refine ih _ _ (fun m hx=>?_) q
   have:m.1∈ms.map Prod.fst:=by rw [<- ypG ms os]; exact List.mem_map_of_mem hx
   obtain ⟨y,hy,e⟩:=List.mem_map.1 this;rw [<- e];exact hm y hy
  ·exact q
theorem ykA:∀ (k:Nat) (ms:List (Lk.Obj×Bool)) (os:List Lk.Obj),(Ln.gF k ms os).length<=os.length+rV ms:=by
 intro k
 induction k with
 | zero=>intro ms os; unfold Ln.gF; omega
 | succ k ih =>
  intro ms os;have q:=ypH ms os;unfold Ln.gF;split
  ·have:=ih (Ln.pass ms os).1 (Ln.pass ms os).2.1
   omega
  ·omega
theorem ykB (P:Lk.Obj->Prop) (os:List Lk.Obj) (x:Bool×List Lk.Obj) (hx:∀ o∈x.2,P o) (ho:∀ o∈os,P o):∀ o∈Ln.gG os x,P o:=by
 unfold Ln.gG;split
 ·refine ykz P _ _ _ (fun m hm=>?_) ho;unfold pK at hm;obtain ⟨y,hy,rfl⟩:=List.mem_map.1 hm;exact hx y hy
 ·intro o h;rcases List.mem_append.1 h with q | q
  ·exact ho o q
  ·exact hx o q
theorem ykD (os:List Lk.Obj) (x:Bool×List Lk.Obj):(Ln.gG os x).length<=os.length+x.2.length:=by
 unfold Ln.gG;split
 ·have:=ykA (x.2.length+1) (pK x.2) os
  rw [Sz] at this;exact this
 ·rw [eZ]; omega
theorem ylJ (P:Lk.Obj->Prop):∀ (xs:List (Bool×List Lk.Obj)) (os:List Lk.Obj),(∀ x∈xs,∀ o∈x.2,P o)->(∀ o∈os,P o)->∀ o∈xs.foldl Ln.gG os,P o:=by
 intro xs
 induction xs with
 | nil=>intro os _ h; exact h
 | cons x xs ih =>
  intro os hx ho;exact ih _ (fun y hy=>hx y (by simp [hy])) (ykB P os x (hx x (by simp)) ho)
theorem ylK:∀ (xs:List (Bool×List Lk.Obj)) (os:List Lk.Obj),(∀ x∈xs,x.2.length<=6)->(xs.foldl Ln.gG os).length<=os.length+6 * xs.length:=by
 intro xs
 induction xs with
 | nil=>intro os _; simp
 | cons x xs ih =>
  intro os hx;have a:=ykD os x;have b:=hx x (by simp);have c:=ih (Ln.gG os x) (fun y hy=>hx y (by simp [hy]));rw [lu,jm];omega
theorem yjD {l:List UInt8} {a:Bool} {os:List Lk.Obj} (h:uG l a os):(∀ o∈os,yv o)/\os.length<=6:=by
 rcases h with ⟨-,h1,rfl⟩ | ⟨-,-,ms,h1,rfl⟩
 ·exact ⟨fun o ho=>by simp at ho; subst ho; exact h1.1,by simp⟩
 ·refine ⟨fun o ho=>?_,by rw [rW]; exact h1.1.2⟩;obtain ⟨m,hm,rfl⟩:=List.mem_map.1 ho;exact (h1.2.1 m hm).1
instance Hf (a b c d:Int):Decidable (Im.kJ a b c d):=by unfold Im.kJ; infer_instance
instance He (m:Im.dZ):Decidable (Im.Fits m):=by unfold Im.Fits; infer_instance
namespace Ln
def bZ (img:Im.dZ) (ms:List Mod):qN:=if ¬ Im.Fits img then ⟨36,0,[]⟩ else if (eO ms).e≠0 then eO ms else if (Im.code img img.start).isSome then ok else ⟨35,0,[]⟩
def dM (os:List Lk.Obj) (bt bf bd:Int):List Mod:=layout bt bf bd (dB os (os.map bare))
def eY (os:List Lk.Obj) (bt bf bd:Int):Im.dZ:=image (dM os bt bf bd) (named os gI) bt bf bd (noughts bd (shorten (lay bt bf bd (dB os (os.map bare)))))
end Ln
theorem yld {ms:List Ln.Mod} (st:Ln.gM) (bt bf bd no:Int) (hv:∀ m∈ms,yv m.obj):rY (Ln.image ms st bt bf bd no).T/\rY (Ln.image ms st bt bf bd no).F/\rY (Ln.image ms st bt bf bd no).D :=
 ⟨Tz ms 1 bt 19 (by omega) ms [] hv (fun x hx=>by simp at hx),Tz ms 2 bf 19 (by omega) ms [] hv (fun x hx=>by simp at hx),Tz ms 3 bd 0 (by omega) ms [] hv (fun x hx=>by simp at hx)⟩
theorem yli {ms:List Ln.Mod} {bt bf bd:Int} (hv:∀ m∈ms,yv m.obj) (hl:ms.length<=48) (ht:0<=bt/\bt<=1073741824/\bt % 4=0) (hf:0<=bf/\bf<=1073741824/\bf % 4=0) (hd:0<=bd/\bd<=1073741824/\bd % 4=0) :
  (Ln.region (Ln.lay bt bf bd ms) 1 bt 19 (Ln.lay bt bf bd ms) []).length<=65535/\(Ln.region (Ln.lay bt bf bd ms) 2 bf 19 (Ln.lay bt bf bd ms) []).length<=65535/\(Ln.region (Ln.lay bt bf bd ms) 3 bd 0 (Ln.lay bt bf bd ms) []).length<=65535:=by
 have hv2:=Aw (J5 ms bt bf bd) hv;have ll:=Qh ms bt bf bd;have ch:=yiL ms bt bf bd;have c1:Ai 1 Ln.Mod.text (Ln.lay bt bf bd ms) bt (Ef 1 ms bt):=Xk 1 Ln.Mod.text (fun _ _=>rfl) _ _ _ _ ch.1;have c2:Ai 2 Ln.Mod.far (Ln.lay bt bf bd ms) bf (Ef 2 ms bf):=Xk 2 Ln.Mod.far (fun _ _=>rfl) _ _ _ _ ch.2;have c3:DK (Ln.lay bt bf bd ms) bd (Ln.dS ms bd):=yiK _ _ _ _ (yhQ ms bt bf bd);have e1:=Yj (Ln.lay bt bf bd ms) 1 (.inl rfl) Ln.Mod.text bt 19 ht.2.2 yjk (Ln.lay bt bf bd ms) [] bt _ hv2 ht.1 (by rw [ll]; omega) (by simp) c1;have e2:=Yj (Ln.lay bt bf bd ms) 2 (.inr rfl) Ln.Mod.far bf 19 hf.2.2 ykS (Ln.lay bt bf bd ms) [] bf _ hv2 hf.1 (by rw [ll]; omega) (by simp) c2
 have e3:=ylu (Ln.lay bt bf bd ms) bd 0 hd.2.2 (Ln.lay bt bf bd ms) [] bd _ hv2 hd.1 (by rw [ll]; omega) (by simp) c3;have r1:=Xv 1 (.inl rfl) ms bt hv ht.1 (by omega);have r2:=Xv 2 (.inr rfl) ms bf hv hf.1 (by omega);have r3:=Xi ms bd hv hd.1 (by omega);simp only [Int.cast_ofNat_Int] at e1 e2;omega
theorem KH {a:Int} (h:Im.Base a):0<=a/\a<=1073741824/\a % 4=0:=by
 obtain ⟨⟨h1,h2⟩,h3⟩:=h;omega
structure yqV (os:List Lk.Obj) (bt bf bd:Int):Prop where
 valid:∀ m∈Ln.dM os bt bf bd,yv m.obj
 nice:∀ m∈Ln.dM os bt bf bd,yI os.length m
 low:∀ m∈Ln.dM os bt bf bd,ql m
 mean:∀ m∈Ln.dM os bt bf bd,∀ s∈m.means,mK s
 start:Qo os.length (Ln.named os Ln.gI)
 JD:Im.jF (Ln.eY os bt bf bd)
theorem yqK {os:List Lk.Obj} {bt bf bd:Int} (hv:∀ o∈os,yv o) (hl:os.length<=48) (ht:Im.Base bt) (hf:Im.Base bf) (hd:Im.Base bd):yqV os bt bf bd:=by
 have A:=YC os hv;have t:=KH ht;have f:=KH hf;have d:=KH hd;have len:(Ln.dB os (os.map Ln.bare)).length=os.length:=by simp [Ln.dB]
 have rv:∀ m∈Ln.dB os (os.map Ln.bare),yv m.obj:=fun m hm=>(A m hm).obj
 have V:∀ m∈Ln.dM os bt bf bd,yv m.obj:=Aw (ymP _ bt bf bd) rv
 have low:∀ m∈Ln.dM os bt bf bd,ql m:=ymO rv (by omega) (by omega) (by omega) (by omega)
 have sl:=YA os Ln.gI hv;have sv:=Aw (Ni _) (Aw (J5 _ bt bf bd) rv);have aan:(Ln.shorten (Ln.lay bt bf bd (Ln.dB os (os.map Ln.bare)))).length=os.length:=by unfold Ln.shorten; rw [rW,Qh,len]
 have L:=yli (ms:=Ln.shorten (Ln.lay bt bf bd (Ln.dB os (os.map Ln.bare)))) (bt:=bt) (bf:=bf) (bd:=bd) sv (by omega) t f d;refine ⟨V,ylj (fun m hm=>(A m hm).nice) rv (by omega) (by omega) (by omega) (by omega),low,ypu Ln.Mod.means (P:=fun l=>∀ s∈l,mK s) (yjS _ bt bf bd) (fun m hm=>(A m hm).low),⟨?_,fun i hi=>TV os _ i hi⟩,?_⟩
 ·unfold mK at sl; omega
 ·have s:=Xo low (Ln.named os Ln.gI) sl;have r3:=Xi _ bd sv d.1 (by omega);have r4:=yju _ (Ln.dS (Ln.shorten (Ln.lay bt bf bd (Ln.dB os (os.map Ln.bare)))) bd) sv (by omega) (by omega);refine ⟨?_,?_,?_,?_,L,?_⟩
  ·show 0<=Ln.cZ _ _/\Ln.cZ _ _ < _;exact ⟨s.1,by have:=s.2; omega⟩
  ·show 0<=bt/\bt < 4294967296; omega
  ·show 0<=bf/\bf < 4294967296; omega
  ·show 0<=bd/\bd < 4294967296; omega
  ·show 0<=Ln.noughts bd _/\Ln.noughts bd _<=65535;unfold Ln.noughts;omega
theorem ygQ (W0:World) (P:Nat) (bt bf bd:Int) (vm:Value) (bl gl:List Nat) (ms:List Ln.Mod) (st:Ln.gM) (no:Int) (I:Nat) (img:Im.dZ) (W:World) (h:ProgAt W0 P bt bf bd vm bl gl ms st no W) (hn:∀ m∈ms,yI bl.length m) (hi:mQ W I img) (ht:Im.jF img) :
  Calls Tryz.prog 41 #[aW P,aW I] W fun e W'=>e = .returned (fQ (Ln.bZ img ms))/\W.grownBy W' none:=by
 have HP:=hid h;have HI:=hid hi;have HN:=hid hn;have HT:=hid ht;have R:=hid (show Ln.bZ img ms=if ¬ Im.Fits img then ⟨36,0,[]⟩ else if (Ln.eO ms).e≠0 then Ln.eO ms else if (Im.code img img.start).isSome then Ln.ok else ⟨35,0,[]⟩ from rfl);have G0:=hid (aJ W (.cells #[.int .i64 0,.int .i64 0,.string ⟨#[]⟩] 45) none);have B0:=hid (yc.new W #[.int .i64 0,.int .i64 0,.string ⟨#[]⟩] 45);have cF:=hid (fun V (hg:W.grownBy V none)=>WY I img V (HI.o.kept hg) ht);have cR:=hid (fun V (hg:W.grownBy V none)=>yhK W0 P bt bf bd vm bl gl ms st no V (HP.o.kept hg) hn);have cC:=hid (fun V (hg:W.grownBy V none)=>Px I img img.start V (HI.o.kept hg) ht ht.start.1 ht.start.2)
 clear h hn hi ht;unfold aW at *;go_enter Tryz.func41,Tryz.ntmps41;go_wp2_with fail;refine (cF.o _ G0.o).mono ?_;rintro e V1 ⟨tv,h1⟩;have G1:=hid (ya G0.o h1);have BR:=hid (B0.o.grown h1 (by simp));clear h1 cF;rcases tv.split with ⟨rfl,hp⟩ | ⟨rfl,hp⟩
 ·have E:=hid (show Ln.bZ img ms=⟨36,0,[]⟩ by rw [R.o,if_pos hp.o]);clear tv hp;have z0:V1.cell? ⟨W.heap.size,0,none⟩=some (.int .i64 0):=BR.o.cell 0;have z1:V1.cell? ⟨W.heap.size,1,none⟩=some (.int .i64 0):=BR.o.cell 1;have z2:V1.cell? ⟨W.heap.size,2,none⟩=some (.string ⟨#[]⟩):=BR.o.cell 2;have f0:=BR.o.free 0;have f1:=BR.o.free 1;have f2:=BR.o.free 2;go_wp2;have F:=((BR.o.set 0 (.int .i64 36)).set 1 (.int .i64 0)).set 2 (.string ⟨#[]⟩);have h0:=F.cell 0;have h1:=F.cell 1;have h2:=F.cell 2;simp only [gu,fZ,gq,bI,bN,bK] at h0 h1 h2;refine bodyPost_ret (v:=fQ ⟨36,0,[]⟩) ?_ rfl ⟨by rw [E.o],yz G1.o _ (Nat.le_refl _) _ _ _⟩
  clear F z0 z1 z2 f0 f1 f2;generalize World.setCell _ _ _=WF at *;simp [results,Tryz.results41,go_sem,fQ,bs,h0,h1,h2]
 ·have R2:=hid (show Ln.bZ img ms=if (Ln.eO ms).e≠0 then Ln.eO ms else if (Im.code img img.start).isSome then Ln.ok else ⟨35,0,[]⟩ by rw [R.o,if_neg (not_not_intro hp.o)]);clear tv hp R;generalize Ln.eO ms=f at *;obtain ⟨fe,fa,fn⟩:=f;unfold fQ at cR;dsimp only at *;go_wp2_with fail;refine (cR.o _ G1.o).mono ?_;rintro e V2 ⟨rfl,h2⟩;have A2:=aJ V2 (.cells #[.int .i64 fe,.int .i64 fa,.string (bs fn)] 45) none;have G2:=hid (ya (ya G1.o h2) A2);have BX:=hid (yc.new V2 #[.int .i64 fe,.int .i64 fa,.string (bs fn)] 45);have vV:=hid (BR.o.grown (ya h2 A2) (by simp));have hlt:=hid (Nat.lt_of_lt_of_le BR.o.lt h2.size)
  clear h2 A2 cR BR;have hne:W.heap.size≠V2.heap.size:=by have:=hlt.o; omega
  have BR:=vV;clear vV;by_cases he:fe=0
  ·subst he;have R3:=hid (show Ln.bZ img ms=if (Im.code img img.start).isSome then Ln.ok else ⟨35,0,[]⟩ by rw [R2.o,if_neg (by simp)]);have i0:(V2.alloc (.cells #[.int .i64 0,.int .i64 fa,.string (bs fn)] 45)).cell? ⟨I,0,none⟩=some (.int .i64 img.start):=by
    obtain ⟨vt,vf,vd,hb,-⟩:=HI.o;exact yd (hb.cell 0) G2.o
   go_wp2_with fail;refine (cC.o _ G2.o).mono ?_;rintro e V3 ⟨rfl,n,hw⟩;subst hw;have G3:=hid (yf G2.o n);have BR:=hid (BR.o.drewN n);clear i0 cC G2;generalize (V2.alloc (.cells #[.int .i64 0,.int .i64 fa,.string (bs fn)] 45)).drewN n=V3 at *
   cases hc:(Im.code img img.start).isSome
   ·have E:=hid (show Ln.bZ img ms=⟨35,0,[]⟩ by rw [R3.o,hc]; rfl);clear hc;have z0:V3.cell? ⟨W.heap.size,0,none⟩=some (.int .i64 0):=BR.o.cell 0;have z1:V3.cell? ⟨W.heap.size,1,none⟩=some (.int .i64 0):=BR.o.cell 1;have z2:V3.cell? ⟨W.heap.size,2,none⟩=some (.string ⟨#[]⟩):=BR.o.cell 2;have f0:=BR.o.free 0;have f1:=BR.o.free 1;have f2:=BR.o.free 2;go_wp2;have F:=((BR.o.set 0 (.int .i64 35)).set 1 (.int .i64 0)).set 2 (.string ⟨#[]⟩);have h0:=F.cell 0;have h1:=F.cell 1;have h2:=F.cell 2;simp only [gu,fZ,gq,bI,bN,bK] at h0 h1 h2;refine bodyPost_ret (v:=fQ ⟨35,0,[]⟩) ?_ rfl ⟨by rw [E.o],yz G3.o _ (Nat.le_refl _) _ _ _⟩
    clear F z0 z1 z2 f0 f1 f2;generalize World.setCell _ _ _=WF at *;simp [results,Tryz.results41,go_sem,fQ,bs,h0,h1,h2]
   ·have E:=hid (show Ln.bZ img ms=Ln.ok by rw [R3.o,hc]; rfl);clear hc;have z0:V3.cell? ⟨W.heap.size,0,none⟩=some (.int .i64 0):=BR.o.cell 0;have z1:V3.cell? ⟨W.heap.size,1,none⟩=some (.int .i64 0):=BR.o.cell 1;have z2:V3.cell? ⟨W.heap.size,2,none⟩=some (.string ⟨#[]⟩):=BR.o.cell 2;have f0:=BR.o.free 0;have f1:=BR.o.free 1;have f2:=BR.o.free 2;go_wp2;have F:=((BR.o.set 0 (.int .i64 0)).set 1 (.int .i64 0)).set 2 (.string ⟨#[]⟩);have h0:=F.cell 0;have h1:=F.cell 1;have h2:=F.cell 2;simp only [gu,fZ,gq,bI,bN,bK] at h0 h1 h2;refine bodyPost_ret (v:=fQ Ln.ok) ?_ rfl ⟨by rw [E.o],yz G3.o _ (Nat.le_refl _) _ _ _⟩
    clear F z0 z1 z2 f0 f1 f2;generalize World.setCell _ _ _=WF at *;simp [results,Tryz.results41,go_sem,fQ,Ln.ok,bs,h0,h1,h2]
  ·have d1:(fe == 0)=false:=by simpa using he
   have d2:(fe != 0)=true:=by simpa using he
   have E:=hid (show Ln.bZ img ms=⟨fe,fa,fn⟩ by rw [R2.o,if_pos he]);clear he;have z0:(V2.alloc (.cells #[.int .i64 fe,.int .i64 fa,.string (bs fn)] 45)).cell? ⟨W.heap.size,0,none⟩=some (.int .i64 0):=BR.o.cell 0;have z1:(V2.alloc (.cells #[.int .i64 fe,.int .i64 fa,.string (bs fn)] 45)).cell? ⟨W.heap.size,1,none⟩=some (.int .i64 0):=BR.o.cell 1;have z2:(V2.alloc (.cells #[.int .i64 fe,.int .i64 fa,.string (bs fn)] 45)).cell? ⟨W.heap.size,2,none⟩=some (.string ⟨#[]⟩):=BR.o.cell 2;have f0:=BR.o.free 0;have f1:=BR.o.free 1;have f2:=BR.o.free 2;go_wp2;have F:=((BR.o.set 0 (.int .i64 fe)).set 1 (.int .i64 fa)).set 2 (.string (bs fn))
   have h0:=F.cell 0;have h1:=F.cell 1;have h2:=F.cell 2;simp only [gu,fZ,gq,bI,bN,bK] at h0 h1 h2;refine bodyPost_ret (v:=fQ ⟨fe,fa,fn⟩) ?_ rfl ⟨by rw [E.o],yz G2.o _ (Nat.le_refl _) _ _ _⟩;clear F z0 z1 z2 f0 f1 f2;generalize World.setCell _ _ _=WF at *;simp [results,Tryz.results41,go_sem,fQ,bs,h0,h1,h2]
theorem yil (b:Nat) (r:Lk.Rel) (l:List UInt8) (w:World) (h:gN w b l) (hl:l.length<=1048576) (hg:Lk.nK r) :
  Calls Tryz.prog 61 #[.pointer (some ⟨b,0,none⟩),.agg #[.int .i64 r.ah,.int .i64 r.off,.int .i64 r.kind,.int .i64 r.sym,.int .i64 r.addend]] w fun e w'=>e = .returned (.tuple #[])/\gN w' b (l ++ Lk.iT r)/\Wk b w w':=by
 obtain ⟨⟨hs0,hs1⟩,⟨hk0,hk1⟩,⟨ho0,ho1⟩,⟨hy0,hy1⟩,ha0,ha1⟩:=hg;have hvb:w.heap.size≠b:=by obtain ⟨_,_,h1,_⟩:=h; have:=h1.lt; omega
 have S1:=hid (Bg.begin h #[.int .i64 r.ah,.int .i64 r.off,.int .i64 r.kind,.int .i64 r.sym,.int .i64 r.addend] 102);have c1:=hid (fun W (h:gN W b (l))=>yG b r.ah 1 1 rfl (l) W h (by omega) (by omega) (by omega) (by omega));have c2:=hid (fun W (h:gN W b (l ++ Lk.le r.ah 1))=>yG b r.kind 1 1 rfl (l ++ Lk.le r.ah 1) W h (by simp only [eZ,Lk.aC]; omega) (by omega) (by omega) (by omega));have c3:=hid (fun W (h:gN W b (l ++ Lk.le r.ah 1 ++ Lk.le r.kind 1))=>yG b r.off 2 2 rfl (l ++ Lk.le r.ah 1 ++ Lk.le r.kind 1) W h (by simp only [eZ,Lk.aC]; omega) (by omega) (by omega) (by omega));have c4:=hid (fun W (h:gN W b (l ++ Lk.le r.ah 1 ++ Lk.le r.kind 1 ++ Lk.le r.off 2))=>yG b r.sym 1 1 rfl (l ++ Lk.le r.ah 1 ++ Lk.le r.kind 1 ++ Lk.le r.off 2) W h (by simp only [eZ,Lk.aC]; omega) (by omega) (by omega) (by omega))
 have c5:=hid (fun W (h:gN W b (l ++ Lk.le r.ah 1 ++ Lk.le r.kind 1 ++ Lk.le r.off 2 ++ Lk.le r.sym 1))=>yG b r.addend 2 2 rfl (l ++ Lk.le r.ah 1 ++ Lk.le r.kind 1 ++ Lk.le r.off 2 ++ Lk.le r.sym 1) W h (by simp only [eZ,Lk.aC]; omega) (by omega) (by omega) (by omega));clear h;go_enter Tryz.func61,Tryz.ntmps61;go_wp2_with fail;refine Calls.aL (Bg w b w.heap.size 102 #[.int .i64 r.ah,.int .i64 r.off,.int .i64 r.kind,.int .i64 r.sym,.int .i64 r.addend] l) S1.o ?_;clear S1;intro W1 s1;have S1:=hid s1;clear s1;refine (c1.o W1 S1.o.wr).mono ?_;rintro e W2 ⟨rfl,hw,hk⟩;have S2:=hid (S1.o.step hvb (by decide) hw hk)
 clear hw hk;have k2:=S2.o.own.cell 2;go_wp2_with fail;refine (c2.o W2 S2.o.wr).mono ?_;rintro e W3 ⟨rfl,hw,hk⟩;have S3:=hid (S2.o.step hvb (by decide) hw hk);clear hw hk k2;have k3:=S3.o.own.cell 1;go_wp2_with fail;refine (c3.o W3 S3.o.wr).mono ?_;rintro e W4 ⟨rfl,hw,hk⟩;have S4:=hid (S3.o.step hvb (by decide) hw hk);clear hw hk k3;have k4:=S4.o.own.cell 3;go_wp2_with fail;refine (c4.o W4 S4.o.wr).mono ?_;rintro e W5 ⟨rfl,hw,hk⟩;have S5:=hid (S4.o.step hvb (by decide) hw hk);clear hw hk k4;have k5:=S5.o.own.cell 4;go_wp2_with fail;refine (c5.o W5 S5.o.wr).mono ?_;rintro e W6 ⟨rfl,hw,hk⟩;have S6:=hid (S5.o.step hvb (by decide) hw hk)
 clear hw hk k5;go_wp2
 go_end0
 refine ⟨rfl,?_,S6.o.wk⟩
 have:=S6.o.wr
 simpa [Lk.iT] using this
def Kc (w:World) (b:Nat) (ao:Option Addr) (ys:List Lk.Sym):Prop :=
 0 < ys.length->∃ g cs,ao=some ⟨g,0,none⟩/\g≠b/\yc w g cs 100/\∀ i (h:i < ys.length),cs[i * 4]?=some (.string (bs ys[i].name))/\cs[i * 4+1]?=some (.int .i64 ys[i].bind)/\cs[i * 4+2]?=some (.int .i64 ys[i].ah)/\cs[i * 4+3]?=some (.int .i64 ys[i].off)
theorem Kc.kept {w w':World} {b:Nat} {ao:Option Addr} {xs:List Lk.Sym} (h:Kc w b ao xs) (hk:Wk b w w'):Kc w' b ao xs:=by
 intro h0;obtain ⟨g,cs,h1,h2,h3,h4⟩:=h h0;exact ⟨g,cs,h1,h2,hk.2 g cs _ h2 (by decide) h3,h4⟩
def J8 (w:World) (b:Nat) (ao:Option Addr) (ys:List Lk.Rel):Prop :=
 0 < ys.length->∃ g cs,ao=some ⟨g,0,none⟩/\g≠b/\yc w g cs 102/\∀ i (h:i < ys.length),cs[i * 5]?=some (.int .i64 ys[i].ah)/\cs[i * 5+1]?=some (.int .i64 ys[i].off)/\cs[i * 5+2]?=some (.int .i64 ys[i].kind)/\cs[i * 5+3]?=some (.int .i64 ys[i].sym)/\cs[i * 5+4]?=some (.int .i64 ys[i].addend)
theorem J8.kept {w w':World} {b:Nat} {ao:Option Addr} {xs:List Lk.Rel} (h:J8 w b ao xs) (hk:Wk b w w'):J8 w' b ao xs:=by
 intro h0;obtain ⟨g,cs,h1,h2,h3,h4⟩:=h h0;exact ⟨g,cs,h1,h2,hk.2 g cs _ h2 (by decide) h3,h4⟩
theorem Y2 {w:World} {base b:Nat} {e:TypeId} {size:Nat} {ao:Option Addr} {n cap:Nat} {xs:List Value} (h:w.ownsRow base e size (.slice ao n cap) n xs) (hn:0 < n) (hb:∀ g,Value.ownBlock (.slice ao n cap)=some g->g≠b) :
  ∃ g cs,ao=some ⟨g,0,none⟩/\g≠b/\yc w g cs e/\∀ j,j < n * size->cs[j]?=xs[j]?:=by
 rcases h.2 with ⟨h1,h2⟩ | ⟨g,cap',cur,hv,_,hh,_,_,hcs,htk⟩
 ·omega
 ·simp only [Value.slice.injEq] at hv;obtain ⟨rfl,_,rfl⟩:=hv;refine ⟨g,cur,rfl,hb g rfl,hh,fun j hj=>?_⟩;have e:(cur.toList.take (n * size))[j]?=xs[j]?:=by rw [htk]
  rw [List.getElem?_take,if_pos hj] at e;rw [<- Array.getElem?_toList,e]
theorem YK {α:Type} (f:α->List Value) (size:Nat) (hf:∀ x,(f x).length=size) (l:List α):(l.flatMap f).length=l.length * size:=by
 induction l with
 | nil=>simp
 | cons y t ih=>rw [List.flatMap_cons,eZ,ih,hf,jm,Nat.succ_mul]; omega
theorem Kc.aO {w:World} {base b:Nat} {ao:Option Addr} {n cap:Nat} {ys:List Lk.Sym} (h:w.ownsRow base 100 4 (.slice ao n cap) n (ys.flatMap ig)) (hb:∀ g,Value.ownBlock (.slice ao n cap)=some g->g≠b):Kc w b ao ys:=by
 intro h0;have hl:=YK ig 4 (fun _=>rfl) ys;have hn:ys.length=n:=by have:=h.1; omega
 obtain ⟨g,cs,h1,h2,h3,h4⟩:=Y2 h (by omega) hb;refine ⟨g,cs,h1,h2,h3,fun i hi=>?_⟩;have q:=fun j (hj:j < 4)=>(h4 (i * 4+j) (by omega)).trans (KW ig 4 (fun _=>rfl) ys i j hi hj)
 exact ⟨q 0 (by omega),q 1 (by omega),q 2 (by omega),q 3 (by omega)⟩
theorem J8.aO {w:World} {base b:Nat} {ao:Option Addr} {n cap:Nat} {ys:List Lk.Rel} (h:w.ownsRow base 102 5 (.slice ao n cap) n (ys.flatMap iN)) (hb:∀ g,Value.ownBlock (.slice ao n cap)=some g->g≠b):J8 w b ao ys:=by
 intro h0;have hl:=YK iN 5 (fun _=>rfl) ys;have hn:ys.length=n:=by have:=h.1; omega
 obtain ⟨g,cs,h1,h2,h3,h4⟩:=Y2 h (by omega) hb;refine ⟨g,cs,h1,h2,h3,fun i hi=>?_⟩;have q:=fun j (hj:j < 5)=>(h4 (i * 5+j) (by omega)).trans (KW iN 5 (fun _=>rfl) ys i j hi hj)
 exact ⟨q 0 (by omega),q 1 (by omega),q 2 (by omega),q 3 (by omega),q 4 (by omega)⟩
structure Bc (W:World) (b g:Nat) (o:Lk.Obj) (at_:Option Addr) (ct:Nat) (af:Option Addr) (cf:Nat) (ad:Option Addr) (cd:Nat) (aa:Option Addr) (ca:Nat) (gy:Option Addr) (cs:Nat) (ar:Option Addr) (cr:Nat):Prop where
 blk:yc W g #[.slice at_ o.text.length ct,.slice af o.far.length cf,.slice ad o.data.length cd,.int .i64 o.bss,.slice aa o.align.length ca,.slice gy o.syms.length cs,.slice ar o.aj.length cr] 71
 ne:g≠b
 text:sO W b at_ o.text
 far:sO W b af o.far
 data:sO W b ad o.data
 align:sO W b aa o.align
 syms:Kc W b gy o.syms
 aj:J8 W b ar o.aj
section
variable {W W':World} {b g:Nat} {o:Lk.Obj} {at_ af ad aa gy ar:Option Addr} {ct cf cd ca cs cr:Nat}
theorem Bc.kept (h:Bc W b g o at_ ct af cf ad cd aa ca gy cs ar cr) (hk:Wk b W W'):Bc W' b g o at_ ct af cf ad cd aa ca gy cs ar cr :=
 ⟨hk.2 g _ _ h.ne (by decide) h.blk,h.ne,h.text.kept hk,h.far.kept hk,h.data.kept hk,h.align.kept hk,h.syms.kept hk,h.aj.kept hk⟩
end
theorem yu.toB {W:World} {g:Nat} {o:Lk.Obj} (h:yu W g o) (ob:Obj):∃ at_ ct af cf ad cd aa ca gy cs ar cr,Bc (W.alloc ob) W.heap.size g o at_ ct af cf ad cd aa ca gy cs ar cr:=by
 obtain ⟨at_,ct,af,cf,ad,cd,aa,ca,gy,cs,ar,cr,hb,h1,h2,h3,h4,h5,h6⟩:=h.open;have ne:∀ {e:TypeId} {size:Nat} {ao:Option Addr} {n cap:Nat} {xs:List Value},W.ownsRow 0 e size (.slice ao n cap) n xs->∀ k,Value.ownBlock (.slice ao n cap)=some k->k≠W.heap.size:=fun h k hk=>by have:=(h.lt k hk).2; omega
 refine ⟨at_,ct,af,cf,ad,cd,aa,ca,gy,cs,ar,cr,hb.grown (aJ _ _ none) (by simp),by have:=hb.lt; omega,?_,?_,?_,?_,?_,?_⟩
 ·exact sO.aO (h1.alloc _) (ne h1)
 ·exact sO.aO (h2.alloc _) (ne h2)
 ·exact sO.aO (h3.alloc _) (ne h3)
 ·exact sO.aO (h4.alloc _) (ne h4)
 ·exact Kc.aO (h5.alloc _) (ne h5)
 ·exact J8.aO (h6.alloc _) (ne h6)
structure Io (w:World) (b g:Nat) (o:Lk.Obj) (at_:Option Addr) (ct:Nat) (af:Option Addr) (cf:Nat) (ad:Option Addr) (cd:Nat) (aa:Option Addr) (ca:Nat) (gy:Option Addr) (cs:Nat) (ar:Option Addr) (cr:Nat) (l:List UInt8) (W:World):Prop where
 wr:gN W b l
 ob:Bc W b g o at_ ct af cf ad cd aa ca gy cs ar cr
 be:Below b w W
section
variable {w W W':World} {b g:Nat} {o:Lk.Obj} {at_ af ad aa gy ar:Option Addr} {ct cf cd ca cs cr:Nat} {l l':List UInt8}
theorem Io.step (h:Io w b g o at_ ct af cf ad cd aa ca gy cs ar cr l W) (hw:gN W' b l') (hk:Wk b W W'):Io w b g o at_ ct af cf ad cd aa ca gy cs ar cr l' W' :=
 ⟨hw,h.ob.kept hk,h.be.trans hk.1⟩
end
theorem Yo {α:Type} (f:α->List UInt8) (ys:List α) (k:Nat) (h:k < ys.length):(ys.take (k+1)).flatMap f=(ys.take k).flatMap f ++ f ys[k]:=by
 rw [List.take_succ_eq_append_getElem h,List.flatMap_append];simp
theorem Ue {α:Type} (f:α->List UInt8) (c:Nat) (ys:List α) (hf:∀ y∈ys,(f y).length<=c):(ys.flatMap f).length<=ys.length * c:=by
 induction ys with
 | nil=>simp
 | cons y t ih =>
  have h1:=hf y (by simp);have h2:=ih (fun z hz=>hf z (by simp [hz]));rw [List.flatMap_cons,eZ,jm,Nat.succ_mul];omega
theorem Xj {α:Type} (f:α->List UInt8) (c k:Nat) (ys:List α) (hf:∀ y∈ys,(f y).length<=c):((ys.take k).flatMap f).length<=ys.length * c:=by
 have h1:=Ue f c (ys.take k) (fun y hy=>hf y (List.mem_of_mem_take hy));have h2:(ys.take k).length * c<=ys.length * c:=Nat.mul_le_mul_right c (by simp; omega);omega
theorem Zw (y:Lk.Sym) (h:Lk.lY y):(Lk.jd y).length<=260:=by
 have:=h.1
 simp only [Lk.jd,eZ,Lk.aC];omega
theorem Zt (r:Lk.Rel):(Lk.iT r).length<=7:=by
 simp only [Lk.iT,eZ,Lk.aC];omega
theorem yoL (g:Nat) (o:Lk.Obj) (w:World) (ht:dQ w) (h:yu w g o) (hgood:Lk.lX o) (hv:yv o) :
  Calls Tryz.prog 36 #[.pointer (some ⟨g,0,none⟩)] w fun e w'=>e = .returned (.tuple #[.string (bs (Lk.lN o)),.int .i64 0])/\w.grownBy w' none:=by
 have cV:=hid (TD g o w ht h (Nn hgood));have HV:=hid hv;have HO:=hid h;have Ak:=hid hgood;obtain ⟨z1,z2,z3,z4,z5,z6,z7,z8,z9,ZY,Z0,z12,Z4⟩:=hgood;obtain ⟨⟨s1,s2,s3⟩,s4,s5,s6⟩:=hv.1;have HS:=hid z9;have Vr:=hid ZY;have HW1:=hid z6;have HWt:=hid Z0;have HWf:=hid z12;have HWd:=hid Z4;have z5a:o.align.length<=4:=by omega
 clear ht h hv z9 ZY z6 Z0 z12 Z4 z5;go_enter Tryz.func36,Tryz.ntmps36;go_wp2_with fail;refine cV.o.mono ?_;rintro e W1 ⟨tv,q1⟩;obtain rfl:=TA tv HV.o;have Q1:=hid q1;have HO1:=hid (HO.o.kept q1);clear tv q1 cV;go_wp2_with fail;obtain ⟨at_,ct,af,cf,ad,cd,aa,ca,gy,cs,ar,cr,oz⟩:=HO1.o.toB (.cells #[.slice none 0 0] 105);have S0:Hd (Io W1 W1.heap.size g o at_ ct af cf ad cd aa ca gy cs ar cr [] (W1.alloc (.cells #[.slice none 0 0] 105))):=⟨YX W1,oz,(Below.refl _ _).alloc (Nat.le_refl _) _⟩
 clear oz;generalize hbb:W1.heap.size=b at *;have nY:=hid hbb;clear hbb;refine Calls.aL (Io W1 b g o at_ ct af cf ad cd aa ca gy cs ar cr []) S0.o ?_;clear S0;intro V0 h0;have S0:=hid h0;clear h0;refine (TF b ⟨#[76,75]⟩ [] V0 S0.o.wr (by simp) (by decide)).mono ?_;rintro e V1 ⟨rfl,hw,hk⟩;have S1:=hid (S0.o.step hw hk);clear S0;generalize hE1:[] ++ sl ⟨#[76,75]⟩=l1 at *;have n1:l1.length<=2:=by rw [<- hE1]; decide
 have E1:=hid hE1;clear hE1 hw hk;have k0:=S1.o.ob.blk.cell 0;go_wp2_with fail;refine (yG b (o.text.length:Int) 2 2 rfl l1 V1 S1.o.wr (by omega) (by omega) (by omega) (by omega)).mono ?_;rintro e V2 ⟨rfl,hw,hk⟩;have S2:=hid (S1.o.step hw hk);clear S1 k0;generalize hE2:l1 ++ Lk.le (o.text.length:Int) 2=l2 at *;have n2:l2.length<=4:=by rw [<- hE2,eZ,Lk.aC]; omega
 have E2:=hid hE2;clear hE2 hw hk;have k0:=S2.o.ob.blk.cell 1;go_wp2_with fail;refine (yG b (o.far.length:Int) 2 2 rfl l2 V2 S2.o.wr (by omega) (by omega) (by omega) (by omega)).mono ?_;rintro e V3 ⟨rfl,hw,hk⟩;have S3:=hid (S2.o.step hw hk);clear S2 k0;generalize IW:l2 ++ Lk.le (o.far.length:Int) 2=l3 at *;have n3:l3.length<=6:=by rw [<- IW,eZ,Lk.aC]; omega
 have E3:=hid IW;clear IW hw hk;have k0:=S3.o.ob.blk.cell 2;go_wp2_with fail;refine (yG b (o.data.length:Int) 2 2 rfl l3 V3 S3.o.wr (by omega) (by omega) (by omega) (by omega)).mono ?_;rintro e V4 ⟨rfl,hw,hk⟩;have S4:=hid (S3.o.step hw hk);clear S3 k0;generalize IY:l3 ++ Lk.le (o.data.length:Int) 2=l4 at *;have n4:l4.length<=8:=by rw [<- IY,eZ,Lk.aC]; omega
 have E4:=hid IY;clear IY hw hk;have k0:=S4.o.ob.blk.cell 3;go_wp2_with fail;refine (yG b o.bss 2 2 rfl l4 V4 S4.o.wr (by omega) (by omega) (by omega) (by omega)).mono ?_;rintro e V5 ⟨rfl,hw,hk⟩;have S5:=hid (S4.o.step hw hk);clear S4 k0;generalize IZ:l4 ++ Lk.le o.bss 2=l5 at *;have n5:l5.length<=10:=by rw [<- IZ,eZ,Lk.aC]; omega
 have E5:=hid IZ;clear IZ hw hk;have k0:=S5.o.ob.blk.cell 4;go_wp2_with fail;refine (JK b aa ca 1 1 rfl o.align l5 V5 S5.o.wr S5.o.ob.align (by omega) (by omega) (by omega) (fun i hi=>by have:=HW1.o _ (iq hi); simp only [Int.reducePow] at this; omega)).mono ?_;rintro e V6 ⟨rfl,hw,hk⟩;have S6:=hid (S5.o.step hw hk);clear S5 k0;generalize I4:l5 ++ Lk.nums o.align 1=l6 at *;have n6:l6.length<=14:=by rw [<- I4,eZ,Hy]; omega
 have E6:=hid I4;clear I4 hw hk;have k0:=S6.o.ob.blk.cell 5;go_wp2_with fail;refine (yG b (o.syms.length:Int) 1 1 rfl l6 V6 S6.o.wr (by omega) (by omega) (by omega) (by omega)).mono ?_;rintro e V7 ⟨rfl,hw,hk⟩;have S7:=hid (S6.o.step hw hk);clear S6 k0;generalize I5:l6 ++ Lk.le (o.syms.length:Int) 1=l7 at *;have n7:l7.length<=15:=by rw [<- I5,eZ,Lk.aC]; omega
 have E7:=hid I5;clear I5 hw hk;have k0:=S7.o.ob.blk.cell 6;go_wp2_with fail;refine (yG b (o.aj.length:Int) 1 1 rfl l7 V7 S7.o.wr (by omega) (by omega) (by omega) (by omega)).mono ?_;rintro e V8 ⟨rfl,hw,hk⟩;have S8:=hid (S7.o.step hw hk);clear S7 k0;generalize I9:l7 ++ Lk.le (o.aj.length:Int) 1=l8 at *;have n8:l8.length<=16:=by rw [<- I9,eZ,Lk.aC]; omega
 have E8:=hid I9;clear I9 hw hk;have k0:=S8.o.ob.blk.cell 5;go_wp2
 go_loopw [63] (fun i wr=>∃ n:Nat,n<=o.syms.length/\i = .int .i64 n/\Io W1 b g o at_ ct af cf ad cd aa ca gy cs ar cr (l8 ++ (o.syms.take n).flatMap Lk.jd) wr) (fun i _=>o.syms.length - (intOf i).toNat)
 case atStart=>exact ⟨0,Nat.zero_le _,rfl,by simpa using S8.o⟩
 case round =>
  obtain ⟨n,hn,rfl,hst⟩:=hrel;have ST:=hid hst;clear hst;by_cases hlt:n < o.syms.length
  ·obtain ⟨sg,bs0,hao,hne,hbk,hc⟩:=ST.o.ob.syms (by omega);subst hao;obtain ⟨q0,q1,q2,q3⟩:=hc n hlt;have m0:=(hbk.cell (n * 4)).trans q0;have m1:=(hbk.cell (n * 4+1)).trans q1;have m2:=(hbk.cell (n * 4+2)).trans q2;have m3:=(hbk.cell (n * 4+3)).trans q3;have hgl:=hbk.lt;have hwb:b < wr.heap.size:=by obtain ⟨_,_,x1,_⟩:=ST.o.wr; exact x1.lt
   have hgd:=HS.o _ (iq hlt);have hlen:(l8 ++ (o.syms.take n).flatMap Lk.jd).length<=1048576:=by
    have:=Xj Lk.jd 260 n o.syms (fun y hy=>Zw y (HS.o y hy))
    rw [eZ];omega
   have LU:=hid (Bg.begin ST.o.wr #[.string (bs o.syms[n].name),.int .i64 o.syms[n].bind,.int .i64 o.syms[n].ah,.int .i64 o.syms[n].off] 100);have cW:=hid (fun W hW=>yhD b o.syms[n] (l8 ++ (o.syms.take n).flatMap Lk.jd) W hW hlen hgd);clear hbk hc q0 q1 q2 q3 hgd hlen k0;go_wp2_with fail;refine (cW.o _ LU.o.wr).mono ?_;rintro e W2 ⟨rfl,hw,hk⟩;have S2:=hid (ST.o.step hw (LU.o.wk.trans hk));clear hw hk;go_wp2
   go_roundw
   case rel=>exact ⟨n+1,by omega,by go_num,by rw [Yo Lk.jd o.syms n hlt,<- List.append_assoc]; exact S2.o⟩
   case measure=>simp [intOf]; omega
  ·have QF:=ST.o;rw [List.take_of_length_le (show o.syms.length<=n by omega)] at QF;have S9:=hid QF;clear QF ST k0 S8;generalize Ja:l8 ++ o.syms.flatMap Lk.jd=l9 at *;have n9:l9.length<=4176:=by
    have:=Ue Lk.jd 260 o.syms (fun y hy=>Zw y (HS.o y hy))
    rw [<- Ja,eZ];omega
   have E9:=hid Ja;clear Ja;have k0:=S9.o.ob.blk.cell 6;go_wp2
   go_loopw [75] (fun i wr=>∃ n:Nat,n<=o.aj.length/\i = .int .i64 n/\Io W1 b g o at_ ct af cf ad cd aa ca gy cs ar cr (l9 ++ (o.aj.take n).flatMap Lk.iT) wr) (fun i _=>o.aj.length - (intOf i).toNat)
   case atStart=>exact ⟨0,Nat.zero_le _,rfl,by simpa using S9.o⟩
   case round =>
    obtain ⟨n,hn,rfl,hst⟩:=hrel;have ST:=hid hst;clear hst;by_cases hlt:n < o.aj.length
    ·obtain ⟨sg,bs0,hao,hne,hbk,hc⟩:=ST.o.ob.aj (by omega);subst hao;obtain ⟨q0,q1,q2,q3,q4⟩:=hc n hlt;have m0:=(hbk.cell (n * 5)).trans q0;have m1:=(hbk.cell (n * 5+1)).trans q1;have m2:=(hbk.cell (n * 5+2)).trans q2;have m3:=(hbk.cell (n * 5+3)).trans q3;have m4:=(hbk.cell (n * 5+4)).trans q4;have hgl:=hbk.lt;have hwb:b < wr.heap.size:=by obtain ⟨_,_,x1,_⟩:=ST.o.wr; exact x1.lt
     have hgd:=Vr.o _ (iq hlt);have hlen:(l9 ++ (o.aj.take n).flatMap Lk.iT).length<=1048576:=by
      have:=Xj Lk.iT 7 n o.aj (fun y hy=>Zt y)
      rw [eZ];omega
     have LU:=hid (Bg.begin ST.o.wr #[.int .i64 o.aj[n].ah,.int .i64 o.aj[n].off,.int .i64 o.aj[n].kind,.int .i64 o.aj[n].sym,.int .i64 o.aj[n].addend] 102);have cW:=hid (fun W hW=>yil b o.aj[n] (l9 ++ (o.aj.take n).flatMap Lk.iT) W hW hlen hgd);clear hbk hc q0 q1 q2 q3 q4 hgd hlen k0;go_wp2_with fail;refine (cW.o _ LU.o.wr).mono ?_;rintro e W2 ⟨rfl,hw,hk⟩;have S2:=hid (ST.o.step hw (LU.o.wk.trans hk));clear hw hk;go_wp2
     go_roundw
     case rel=>exact ⟨n+1,by omega,by go_num,by rw [Yo Lk.iT o.aj n hlt,<- List.append_assoc]; exact S2.o⟩
     case measure=>simp [intOf]; omega
    ·have Il:=ST.o;rw [List.take_of_length_le (show o.aj.length<=n by omega)] at Il;have qW:=hid Il;clear Il ST k0 S9;generalize wP:l9 ++ o.aj.flatMap Lk.iT=l10 at *;have n10:l10.length<=4400:=by
      have:=Ue Lk.iT 7 o.aj (fun y hy=>Zt y)
      rw [<- wP,eZ];omega
     have Qr:=hid wP;clear wP;have k0:=qW.o.ob.blk.cell 0;go_wp2_with fail;refine (JK b at_ ct 4 4 rfl o.text l10 wr qW.o.wr qW.o.ob.text (by omega) (by omega) (by omega) (fun i hi=>by have:=HWt.o _ (iq hi); simp only [Int.reducePow] at this; omega)).mono ?_;rintro e LZ ⟨rfl,hw,hk⟩;have rX:=hid (qW.o.step hw hk);clear qW k0;generalize wQ:l10 ++ Lk.nums o.text 4=zN at *;have n11:zN.length<=9200:=by rw [<- wQ,eZ,Hy]; omega
     have Qs:=hid wQ;clear wQ hw hk;have k0:=rX.o.ob.blk.cell 1;go_wp2_with fail;refine (JK b af cf 4 4 rfl o.far zN LZ rX.o.wr rX.o.ob.far (by omega) (by omega) (by omega) (fun i hi=>by have:=HWf.o _ (iq hi); simp only [Int.reducePow] at this; omega)).mono ?_;rintro e QH ⟨rfl,hw,hk⟩;have zw:=hid (rX.o.step hw hk);clear rX k0;generalize wR:zN ++ Lk.nums o.far 4=Fy at *;have n12:Fy.length<=14000:=by rw [<- wR,eZ,Hy]; omega
     have Kk:=hid wR;clear wR hw hk;have k0:=zw.o.ob.blk.cell 2;go_wp2_with fail;refine (JK b ad cd 4 4 rfl o.data Fy QH zw.o.wr zw.o.ob.data (by omega) (by omega) (by omega) (fun i hi=>by have:=HWd.o _ (iq hi); simp only [Int.reducePow] at this; omega)).mono ?_;rintro e V13 ⟨rfl,hw,hk⟩;have VI:=hid (zw.o.step hw hk);clear zw k0;generalize IV:Fy ++ Lk.nums o.data 4=R9 at *;have n13:R9.length<=14256:=by rw [<- IV,eZ,Hy]; omega
     have E13:=hid IV;clear IV hw hk;go_wp2_with fail;refine (Ym b R9 V13 VI.o.wr).mono ?_;rintro e V14 ⟨rfl,RZ⟩;subst RZ;go_wp2;go_ret2;have hfin:R9=Lk.lN o:=by
      rw [<- E13.o,<- Kk.o,<- Qs.o,<- Qr.o,<- E9.o,<- E8.o,<- E7.o,<- E6.o,<- E5.o,<- E4.o,<- E3.o,<- E2.o,<- E1.o];simp [Lk.lN,sl]
     refine ⟨by rw [hfin]; rfl,?_⟩;have hb:=VI.o.be;exact ⟨hb.os.trans Q1.o.os,hb.tape.trans Q1.o.tape,hb.output.trans Q1.o.output,Nat.le_trans Q1.o.size hb.size,fun i hi _=>(hb.block i (by have:=Q1.o.size; have:=nY.o; omega)).trans (Q1.o.block i hi (by simp))⟩
namespace Im
def bytes (m:dZ):List UInt8:=[73,77] ++ Lk.le m.start 4 ++ Lk.le m.text 4 ++ Lk.le m.far 4 ++ Lk.le m.data 4 ++ Lk.le (m.T.length:Int) 2 ++ Lk.le (m.F.length:Int) 2 ++ Lk.le (m.D.length:Int) 2 ++ Lk.le m.noughts 2 ++ Lk.nums m.T 4 ++ Lk.nums m.F 4 ++ Lk.nums m.D 4
end Im
structure A9 (W:World) (b g:Nat) (m:Im.dZ) (at_:Option Addr) (ct:Nat) (af:Option Addr) (cf:Nat) (ad:Option Addr) (cd:Nat):Prop where
 blk:yc W g #[.int .i64 m.start,.int .i64 m.text,.int .i64 m.far,.int .i64 m.data,.slice at_ m.T.length ct,.slice af m.F.length cf,.slice ad m.D.length cd,.int .i64 m.noughts] 90
 ne:g≠b
 text:sO W b at_ m.T
 far:sO W b af m.F
 data:sO W b ad m.D
structure LX (w:World) (b g:Nat) (m:Im.dZ) (at_:Option Addr) (ct:Nat) (af:Option Addr) (cf:Nat) (ad:Option Addr) (cd:Nat) (l:List UInt8) (W:World):Prop where
 wr:gN W b l
 ob:A9 W b g m at_ ct af cf ad cd
 be:Below b w W
section
variable {w W W':World} {b g:Nat} {m:Im.dZ} {at_ af ad:Option Addr} {ct cf cd:Nat} {l l':List UInt8}
theorem A9.kept (h:A9 W b g m at_ ct af cf ad cd) (hk:Wk b W W'):A9 W' b g m at_ ct af cf ad cd :=
 ⟨hk.2 g _ _ h.ne (by decide) h.blk,h.ne,h.text.kept hk,h.far.kept hk,h.data.kept hk⟩
theorem LX.step (h:LX w b g m at_ ct af cf ad cd l W) (hw:gN W' b l') (hk:Wk b W W'):LX w b g m at_ ct af cf ad cd l' W' :=
 ⟨hw,h.ob.kept hk,h.be.trans hk.1⟩
end
theorem mQ.toB {W:World} {g:Nat} {m:Im.dZ} (h:mQ W g m) (ob:Obj):∃ at_ ct af cf ad cd,A9 (W.alloc ob) W.heap.size g m at_ ct af cf ad cd:=by
 obtain ⟨at_,ct,af,cf,ad,cd,hb,h1,h2,h3⟩:=h.open;have ne:∀ {e:TypeId} {size:Nat} {ao:Option Addr} {n cap:Nat} {xs:List Value},W.ownsRow 0 e size (.slice ao n cap) n xs->∀ k,Value.ownBlock (.slice ao n cap)=some k->k≠W.heap.size:=fun h k hk=>by have:=(h.lt k hk).2; omega
 refine ⟨at_,ct,af,cf,ad,cd,hb.grown (aJ _ _ none) (by simp),by have:=hb.lt; omega,?_,?_,?_⟩
 ·exact sO.aO (h1.alloc _) (ne h1)
 ·exact sO.aO (h2.alloc _) (ne h2)
 ·exact sO.aO (h3.alloc _) (ne h3)
def Qb (xs:List Int):Prop:=∀ i (h:i < xs.length),-1099511627776<=xs[i]/\xs[i]<=1099511627776
theorem yjL (g:Nat) (m:Im.dZ) (w:World) (h:mQ w g m) (ht:Im.jF m) (hT:Qb m.T) (hF:Qb m.F) (hD:Qb m.D) :
  Calls Tryz.prog 42 #[.pointer (some ⟨g,0,none⟩)] w fun e w'=>e = .returned (.string (bs (Im.bytes m)))/\w.grownBy w' none:=by
 obtain ⟨a1,a2,a3,a4,a5,a6⟩:=ht;have HT:=hid hT;have HF:=hid hF;have HD:=hid hD;obtain ⟨at_,ct,af,cf,ad,cd,oz⟩:=h.toB (.cells #[.slice none 0 0] 105);have S0:Hd (LX w w.heap.size g m at_ ct af cf ad cd [] (w.alloc (.cells #[.slice none 0 0] 105))):=⟨YX w,oz,(Below.refl _ _).alloc (Nat.le_refl _) _⟩
 clear oz h hT hF hD;go_enter Tryz.func42,Tryz.ntmps42;go_wp2_with fail;generalize hbb:w.heap.size=b at *;have nY:=hid hbb;clear hbb;refine Calls.aL (LX w b g m at_ ct af cf ad cd []) S0.o ?_;clear S0;intro V0 h0;have S0:=hid h0;clear h0;refine (TF b ⟨#[73,77]⟩ [] V0 S0.o.wr (by simp) (by decide)).mono ?_;rintro e V1 ⟨rfl,hw,hk⟩;have S1:=hid (S0.o.step hw hk);clear S0;generalize hE1:[] ++ sl ⟨#[73,77]⟩=l1 at *;have n1:l1.length<=2:=by rw [<- hE1]; decide
 have E1:=hid hE1;clear hE1 hw hk;have k0:=S1.o.ob.blk.cell 0;go_wp2_with fail;refine (yG b m.start 4 4 rfl l1 V1 S1.o.wr (by omega) (by omega) (by omega) (by omega)).mono ?_;rintro e V2 ⟨rfl,hw,hk⟩;have S2:=hid (S1.o.step hw hk);clear S1 k0;generalize hE2:l1 ++ Lk.le m.start 4=l2 at *;have n2:l2.length<=6:=by rw [<- hE2,eZ,Lk.aC]; omega
 have E2:=hid hE2;clear hE2 hw hk;have k0:=S2.o.ob.blk.cell 1;go_wp2_with fail;refine (yG b m.text 4 4 rfl l2 V2 S2.o.wr (by omega) (by omega) (by omega) (by omega)).mono ?_;rintro e V3 ⟨rfl,hw,hk⟩;have S3:=hid (S2.o.step hw hk);clear S2 k0;generalize IW:l2 ++ Lk.le m.text 4=l3 at *;have n3:l3.length<=10:=by rw [<- IW,eZ,Lk.aC]; omega
 have E3:=hid IW;clear IW hw hk;have k0:=S3.o.ob.blk.cell 2;go_wp2_with fail;refine (yG b m.far 4 4 rfl l3 V3 S3.o.wr (by omega) (by omega) (by omega) (by omega)).mono ?_;rintro e V4 ⟨rfl,hw,hk⟩;have S4:=hid (S3.o.step hw hk);clear S3 k0;generalize IY:l3 ++ Lk.le m.far 4=l4 at *;have n4:l4.length<=14:=by rw [<- IY,eZ,Lk.aC]; omega
 have E4:=hid IY;clear IY hw hk;have k0:=S4.o.ob.blk.cell 3;go_wp2_with fail;refine (yG b m.data 4 4 rfl l4 V4 S4.o.wr (by omega) (by omega) (by omega) (by omega)).mono ?_;rintro e V5 ⟨rfl,hw,hk⟩;have S5:=hid (S4.o.step hw hk);clear S4 k0;generalize IZ:l4 ++ Lk.le m.data 4=l5 at *;have n5:l5.length<=18:=by rw [<- IZ,eZ,Lk.aC]; omega
 have E5:=hid IZ;clear IZ hw hk;have k0:=S5.o.ob.blk.cell 4;go_wp2_with fail;refine (yG b (m.T.length:Int) 2 2 rfl l5 V5 S5.o.wr (by omega) (by omega) (by omega) (by omega)).mono ?_;rintro e V6 ⟨rfl,hw,hk⟩;have S6:=hid (S5.o.step hw hk);clear S5 k0;generalize I4:l5 ++ Lk.le (m.T.length:Int) 2=l6 at *;have n6:l6.length<=20:=by rw [<- I4,eZ,Lk.aC]; omega
 have E6:=hid I4;clear I4 hw hk;have k0:=S6.o.ob.blk.cell 5;go_wp2_with fail;refine (yG b (m.F.length:Int) 2 2 rfl l6 V6 S6.o.wr (by omega) (by omega) (by omega) (by omega)).mono ?_;rintro e V7 ⟨rfl,hw,hk⟩;have S7:=hid (S6.o.step hw hk);clear S6 k0;generalize I5:l6 ++ Lk.le (m.F.length:Int) 2=l7 at *;have n7:l7.length<=22:=by rw [<- I5,eZ,Lk.aC]; omega
 have E7:=hid I5;clear I5 hw hk;have k0:=S7.o.ob.blk.cell 6;go_wp2_with fail;refine (yG b (m.D.length:Int) 2 2 rfl l7 V7 S7.o.wr (by omega) (by omega) (by omega) (by omega)).mono ?_;rintro e V8 ⟨rfl,hw,hk⟩;have S8:=hid (S7.o.step hw hk);clear S7 k0;generalize I9:l7 ++ Lk.le (m.D.length:Int) 2=l8 at *;have n8:l8.length<=24:=by rw [<- I9,eZ,Lk.aC]; omega
 have E8:=hid I9;clear I9 hw hk;have k0:=S8.o.ob.blk.cell 7;go_wp2_with fail;refine (yG b m.noughts 2 2 rfl l8 V8 S8.o.wr (by omega) (by omega) (by omega) (by omega)).mono ?_;rintro e V9 ⟨rfl,hw,hk⟩;have S9:=hid (S8.o.step hw hk);clear S8 k0;generalize Ja:l8 ++ Lk.le m.noughts 2=l9 at *;have n9:l9.length<=26:=by rw [<- Ja,eZ,Lk.aC]; omega
 have E9:=hid Ja;clear Ja hw hk;have k0:=S9.o.ob.blk.cell 4;go_wp2_with fail;refine (JK b at_ ct 4 4 rfl m.T l9 V9 S9.o.wr S9.o.ob.text (by omega) (by omega) (by omega) HT.o).mono ?_;rintro e LY ⟨rfl,hw,hk⟩;have qW:=hid (S9.o.step hw hk);clear S9 k0;generalize wP:l9 ++ Lk.nums m.T 4=l10 at *;have n10:l10.length<=262166:=by rw [<- wP,eZ,Hy]; omega
 have Qr:=hid wP;clear wP hw hk;have k0:=qW.o.ob.blk.cell 5;go_wp2_with fail;refine (JK b af cf 4 4 rfl m.F l10 LY qW.o.wr qW.o.ob.far (by omega) (by omega) (by omega) HF.o).mono ?_;rintro e LZ ⟨rfl,hw,hk⟩;have rX:=hid (qW.o.step hw hk);clear qW k0;generalize wQ:l10 ++ Lk.nums m.F 4=zN at *;have n11:zN.length<=524306:=by rw [<- wQ,eZ,Hy]; omega
 have Qs:=hid wQ;clear wQ hw hk;have k0:=rX.o.ob.blk.cell 6;go_wp2_with fail;refine (JK b ad cd 4 4 rfl m.D zN LZ rX.o.wr rX.o.ob.data (by omega) (by omega) (by omega) HD.o).mono ?_;rintro e QH ⟨rfl,hw,hk⟩;have zw:=hid (rX.o.step hw hk);clear rX k0;generalize wR:zN ++ Lk.nums m.D 4=Fy at *;have n12:Fy.length<=786446:=by rw [<- wR,eZ,Hy]; omega
 have Kk:=hid wR;clear wR hw hk;go_wp2_with fail;refine (Ym b Fy QH zw.o.wr).mono ?_;rintro e w2 ⟨rfl,rfl⟩;have FIN:=hid (show Fy=Im.bytes m by rw [<- Kk.o,<- Qs.o,<- Qr.o,<- E9.o,<- E8.o,<- E7.o,<- E6.o,<- E5.o,<- E4.o,<- E3.o,<- E2.o,<- E1.o]; simp [Im.bytes,sl]);have GR:=hid zw.o.be;clear zw;go_wp2;go_ret;refine ⟨by rw [FIN.o]; rfl,?_⟩;have hb:=GR.o;exact ⟨hb.os,hb.tape,hb.output,hb.size,fun i hi _=>hb.block i (by have:=nY.o; omega)⟩
end Go.Proofs.YtpgklkhgfcjceaaGreatDoor
