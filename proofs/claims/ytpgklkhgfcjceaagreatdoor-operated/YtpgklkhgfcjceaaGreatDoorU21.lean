
import Derived.Deep.RegionWith
import Derived.Deep.CutRange
import Derived.Test.YtpgklkhgfcjceaaGreatDoorU20
set_option maxHeartbeats 16000000
set_option maxRecDepth 100000
namespace Go.Proofs.YtpgklkhgfcjceaaGreatDoor
open Go.RowKit
namespace Im
def oq (m:eU):Int:=m.text+4 * (m.T.length:Int)
def oo (m:eU):Int:=m.far+4 * (m.F.length:Int)
def om (m:eU):Int:=m.data+4 * ((m.D.length:Int)+m.noughts)
def Fits (m:eU):Prop:=(oq m<=1073741824/\oo m<=1073741824/\om m<=1073741824)/\(¬ kD m.text (oq m) m.far (oo m)/\¬ kD m.text (oq m) m.data (om m)/\¬ kD m.far (oo m) m.data (om m))
end Im
def mZ (a b:Int):Array Value:=#[.int .i64 a,.int .i64 b]
theorem Ck (w:World) (a b:Int):yc ((w.alloc (.cells (mZ a b) 171)).alloc (.cells (mZ a b) 171)).drew w.heap.size (mZ a b) 171 /\
  yc ((w.alloc (.cells (mZ a b) 171)).alloc (.cells (mZ a b) 171)).drew (w.heap.size+1) (mZ a b) 171/\w.grownBy ((w.alloc (.cells (mZ a b) 171)).alloc (.cells (mZ a b) 171)).drew none:=by
 have b1:=yc.new w (mZ a b) 171;have b2:=yc.new (w.alloc (.cells (mZ a b) 171)) (mZ a b) 171;rw [show (w.alloc (.cells (mZ a b) 171)).heap.size=w.heap.size+1 from Array.size_push _] at b2;exact ⟨(b1.grown (aH _ _ none) (by simp)).drewN 1,b2.drewN 1,yi (ya (aH _ _ none) (aH _ _ none))⟩
theorem Yg (g:Nat) (m:Im.eU) (w:World) (h:nA w g m) (ht:Im.jH m) :
  Calls Tryz.prog 74 #[.pointer (some ⟨g,0,none⟩)] w fun e w'=>yg e (Im.Fits m)/\w.grownBy w' none:=by
 obtain ⟨at_,ct,af,cf,ad,cd,hb,q1,q2,q3⟩:=h.open;have HB:=hid hb;have hl:=ht.lens;have hn:=ht.noughts;have r1:=ht.text;have r2:=ht.far;have r3:=ht.data;have cT:=hid (fun W=>U0 m.text m.T.length W ht.text.1 ht.text.2 (by omega) (by omega));have cF:=hid (fun W=>U0 m.far m.F.length W ht.far.1 ht.far.2 (by omega) (by omega));have cD:=hid (fun W=>U0 m.data (m.D.length+m.noughts) W ht.data.1 ht.data.2 (by omega) (by omega));have F0:=hid (show Im.Fits m↔(Im.oq m<=1073741824/\Im.oo m<=1073741824/\Im.om m<=1073741824)/\(¬ Im.kD m.text (Im.oq m) m.far (Im.oo m)/\¬ Im.kD m.text (Im.oq m) m.data (Im.om m)/\¬ Im.kD m.far (Im.oo m) m.data (Im.om m)) from Iff.rfl)
 generalize Im.Fits m=Q at *;have ww:IntKind.i64.wrap ((m.D.length:Int)+m.noughts)=(m.D.length:Int)+m.noughts:=IntWalk.i64_in _ ⟨by omega,by omega⟩;clear h ht hb q1 q2 q3;have k1:=HB.o.cell 1;have k4:=HB.o.cell 4;simp only [bJ,bN,bL] at k1 k4;have hlt:=HB.o.lt;have hne:g≠w.heap.size:=by omega
 go_enter Tryz.func74,Tryz.ntmps74
 go_upto_region 1 with fail
 go_cut [3] from 6 to 16 (fun v wx=>∃ r,v = .pointer (some ⟨r,0,none⟩)/\yc wx r (mZ m.text (Im.oq m)) 171/\w.grownBy wx none)
 case first =>
  go_region_with (go_at_call 111; refine (cT.o _).mono ?_; rintro e w' ⟨rfl,rfl⟩)
  all_goals (go_wp2_with fail; go_meet; first | exact ⟨w.heap.size,rfl,(Ck w m.text (Im.oq m)).1,(Ck w m.text (Im.oq m)).2.2⟩ | exact ⟨w.heap.size+1,rfl,(Ck w m.text (Im.oq m)).2.1,(Ck w m.text (Im.oq m)).2.2⟩)
 case rest =>
 obtain ⟨ra,rfl,b1,g1⟩:=hcut;clear k1 k4 hlt hne cT;generalize wc=W1 at *;have HB1:=hid (HB.o.grown g1 (by simp));have P1:=hid b1;have G1:=hid g1;clear b1 g1 HB;have k2:=HB1.o.cell 2;have k5:=HB1.o.cell 5;simp only [bJ,bN,bL] at k2 k5;have hlt:=HB1.o.lt;have hne:g≠W1.heap.size:=by omega
 go_upto_region 2 with fail
 go_cut [4] from 17 to 27 (fun v wx=>∃ r,v = .pointer (some ⟨r,0,none⟩)/\yc wx r (mZ m.far (Im.oo m)) 171/\W1.grownBy wx none)
 case first =>
  go_region_with (go_at_call 111; refine (cF.o _).mono ?_; rintro e w' ⟨rfl,rfl⟩)
  all_goals (go_wp2_with fail; go_meet; first | exact ⟨W1.heap.size,rfl,(Ck W1 m.far (Im.oo m)).1,(Ck W1 m.far (Im.oo m)).2.2⟩ | exact ⟨W1.heap.size+1,rfl,(Ck W1 m.far (Im.oo m)).2.1,(Ck W1 m.far (Im.oo m)).2.2⟩)
 case rest =>
 obtain ⟨rb,rfl,b1,g1⟩:=hcut;clear k2 k5 hlt hne cF;generalize wc=W2 at *;have HB2:=hid (HB1.o.grown g1 (by simp));have Xf:=hid (P1.o.grown g1 (by simp));have P2:=hid b1;have G2:=hid (ya G1.o g1);clear b1 g1 HB1 P1 G1;have k3:=HB2.o.cell 3;have k6:=HB2.o.cell 6;have k7:=HB2.o.cell 7;simp only [bJ,bN,bL] at k3 k6 k7;have hlt:=HB2.o.lt;have hne:g≠W2.heap.size:=by omega
 go_upto_region 3 with fail
 go_cut [5] from 28 to 43 (fun v wx=>∃ r,v = .pointer (some ⟨r,0,none⟩)/\yc wx r (mZ m.data (Im.om m)) 171/\W2.grownBy wx none)
 case first =>
  go_region_with (go_at_call 111; refine (cD.o _).mono ?_; rintro e w' ⟨rfl,rfl⟩)
  all_goals (go_wp2_with fail; go_meet; first | exact ⟨W2.heap.size,rfl,(Ck W2 m.data (Im.om m)).1,(Ck W2 m.data (Im.om m)).2.2⟩ | exact ⟨W2.heap.size+1,rfl,(Ck W2 m.data (Im.om m)).2.1,(Ck W2 m.data (Im.om m)).2.2⟩)
 case rest =>
 obtain ⟨rc,rfl,b1,g1⟩:=hcut;clear k3 k6 k7 hlt hne cD;generalize wc=W3 at *;have B1:=hid (Xf.o.grown g1 (by simp));have B2:=hid (P2.o.grown g1 (by simp));have B3:=hid b1;have G:=hid (ya G2.o g1);clear b1 g1 HB2 Xf P2 G2;generalize Im.oq m=eT at *;generalize Im.oo m=eF at *;generalize Im.om m=eD at *;have a0:=B1.o.cell 0;have a1:=B1.o.cell 1;have c0:=B2.o.cell 0;have c1:=B2.o.cell 1;have d0:=B3.o.cell 0;have d1:=B3.o.cell 1;simp only [mZ,bJ,bN,bL] at a0 a1 c0 c1 d0 d1;by_cases z1:1073741824 < eT
 ·have e1:decide (1073741824 < eT)=true:=by simpa using z1
  have N:=hid (show ¬ Q from fun q=>by have:=(F0.o.1 q).1.1; omega);clear z1;go_wp2;go_ret;exact ⟨yg.no N.o,G.o⟩
 ·have e1:decide (1073741824 < eT)=false:=by simpa using z1
  by_cases z2:1073741824 < eF
  ·have e2:decide (1073741824 < eF)=true:=by simpa using z2
   have N:=hid (show ¬ Q from fun q=>by have:=(F0.o.1 q).1.2.1; omega);clear z1 z2;go_wp2;go_ret;exact ⟨yg.no N.o,G.o⟩
  ·have e2:decide (1073741824 < eF)=false:=by simpa using z2
   by_cases z3:1073741824 < eD
   ·have e3:decide (1073741824 < eD)=true:=by simpa using z3
    have N:=hid (show ¬ Q from fun q=>by have:=(F0.o.1 q).1.2.2; omega);clear z1 z2 z3;go_wp2;go_ret;exact ⟨yg.no N.o,G.o⟩
   ·have e3:decide (1073741824 < eD)=false:=by simpa using z3
    have LE:=hid (show eT<=1073741824/\eF<=1073741824/\eD<=1073741824 by omega);clear z1 z2 z3;go_wp2_with fail;refine (VB m.text eT m.far eF W3).mono ?_;rintro e V1 ⟨t1,h1⟩;have G1:=hid (ya G.o h1);replace a0:=yd a0 h1;replace a1:=yd a1 h1;replace c0:=yd c0 h1;replace c1:=yd c1 h1;replace d0:=yd d0 h1;replace d1:=yd d1 h1;rcases t1.split with ⟨rfl,p1⟩ | ⟨rfl,p1⟩ <;> clear t1 h1
    ·go_wp2_with fail;refine (VB m.text eT m.data eD V1).mono ?_;rintro e V2 ⟨t2,h2⟩;have G2:=hid (ya G1.o h2);replace a0:=yd a0 h2;replace a1:=yd a1 h2;replace c0:=yd c0 h2;replace c1:=yd c1 h2;replace d0:=yd d0 h2;replace d1:=yd d1 h2;rcases t2.split with ⟨rfl,p2⟩ | ⟨rfl,p2⟩ <;> clear t2 h2
     ·go_wp2_with fail;refine (VB m.far eF m.data eD V2).mono ?_;rintro e V3 ⟨t3,h3⟩;have G3:=hid (ya G2.o h3);rcases t3.split with ⟨rfl,p3⟩ | ⟨rfl,p3⟩ <;> clear t3 h3
      ·go_wp2;go_ret;exact ⟨yg.yes (F0.o.2 ⟨LE.o,p1.o,p2.o,p3.o⟩),G3.o⟩
      ·go_wp2;go_ret;exact ⟨yg.no fun q=>(F0.o.1 q).2.2.2 p3.o,G3.o⟩
     ·go_wp2;go_ret;exact ⟨yg.no fun q=>(F0.o.1 q).2.2.1 p2.o,G2.o⟩
    ·go_wp2;go_ret;exact ⟨yg.no fun q=>(F0.o.1 q).2.1 p1.o,G1.o⟩
theorem ypR:∀ (ms:List (Lk.Obj×Bool)) (os:List Lk.Obj),(Ln.pass ms os).1.map Prod.fst=ms.map Prod.fst:=by
 intro ms
 induction ms with
 | nil=>intro os; rfl
 | cons m ms ih =>
  intro os;obtain ⟨o,t⟩:=m;unfold Ln.pass;split
  ·rw [List.map_cons,ih,List.map_cons]
  ·rw [List.map_cons,ih,List.map_cons]
theorem ypQ (P:Lk.Obj->Prop):∀ (ms:List (Lk.Obj×Bool)) (os:List Lk.Obj),(∀ m∈ms,P m.1)->(∀ o∈os,P o)->∀ o∈(Ln.pass ms os).2.1,P o:=by
 intro ms
 induction ms with
 | nil=>intro os _ h; exact h
 | cons m ms ih =>
  intro os hm ho;obtain ⟨o,t⟩:=m;unfold Ln.pass;have h0:=hm (o,t) (by simp);split
  ·exact ih _ (fun x hx=>hm x (by simp [hx])) (fun x hx=>by
    rcases List.mem_append.1 hx with q | q
    ·exact ho x q
    ·simp at q; subst q; exact h0)
  ·exact ih _ (fun x hx=>hm x (by simp [hx])) ho
theorem ypS:∀ (ms:List (Lk.Obj×Bool)) (os:List Lk.Obj),(Ln.pass ms os).2.1.length+sQ (Ln.pass ms os).1=os.length+sQ ms:=by
 intro ms
 induction ms with
 | nil=>intro os; rfl
 | cons m ms ih =>
  intro os;obtain ⟨o,t⟩:=m;unfold Ln.pass;split
  ·rename_i h
   have:=ih (os ++ [o])
   rw [eP,List.length_singleton] at this;unfold sQ at this ⊢;rw [List.filter_cons_of_neg (by simp),List.filter_cons_of_pos (by simp [h.1]),iV];dsimp only;omega
  ·have:=ih os
   unfold sQ at this ⊢
   cases t
   ·rw [List.filter_cons_of_pos (by simp),List.filter_cons_of_pos (by simp),iV,iV];dsimp only;omega
   ·rw [List.filter_cons_of_neg (by simp),List.filter_cons_of_neg (by simp)];exact this
theorem ykL (P:Lk.Obj->Prop):∀ (k:Nat) (ms:List (Lk.Obj×Bool)) (os:List Lk.Obj),(∀ m∈ms,P m.1)->(∀ o∈os,P o)->∀ o∈Ln.gK k ms os,P o:=by
 intro k
 induction k with
 | zero=>intro ms os _ h; exact h
 | succ k ih =>
  intro ms os hm ho;have q:=ypQ P ms os hm ho;unfold Ln.gK;split
  ·refine ih _ _ (fun m hx=>?_) q
   have:m.1∈ms.map Prod.fst:=by rw [<- ypR ms os]; exact List.mem_map_of_mem hx
   obtain ⟨y,hy,e⟩:=List.mem_map.1 this;rw [<- e];exact hm y hy
  ·exact q
theorem ykM:∀ (k:Nat) (ms:List (Lk.Obj×Bool)) (os:List Lk.Obj),(Ln.gK k ms os).length<=os.length+sQ ms:=by
 intro k
 induction k with
 | zero=>intro ms os; unfold Ln.gK; omega
 | succ k ih =>
  intro ms os;have q:=ypS ms os;unfold Ln.gK;split
  ·have:=ih (Ln.pass ms os).1 (Ln.pass ms os).2.1
   omega
  ·omega
theorem ykN (P:Lk.Obj->Prop) (os:List Lk.Obj) (x:Bool×List Lk.Obj) (hx:∀ o∈x.2,P o) (ho:∀ o∈os,P o):∀ o∈Ln.gL os x,P o:=by
 unfold Ln.gL;split
 ·refine ykL P _ _ _ (fun m hm=>?_) ho;unfold qo at hm;obtain ⟨y,hy,rfl⟩:=List.mem_map.1 hm;exact hx y hy
 ·intro o h;rcases List.mem_append.1 h with q | q
  ·exact ho o q
  ·exact hx o q
theorem ykP (os:List Lk.Obj) (x:Bool×List Lk.Obj):(Ln.gL os x).length<=os.length+x.2.length:=by
 unfold Ln.gL;split
 ·have:=ykM (x.2.length+1) (qo x.2) os
  rw [UE] at this;exact this
 ·rw [eP]; omega
theorem ylT (P:Lk.Obj->Prop):∀ (xs:List (Bool×List Lk.Obj)) (os:List Lk.Obj),(∀ x∈xs,∀ o∈x.2,P o)->(∀ o∈os,P o)->∀ o∈xs.foldl Ln.gL os,P o:=by
 intro xs
 induction xs with
 | nil=>intro os _ h; exact h
 | cons x xs ih =>
  intro os hx ho;exact ih _ (fun y hy=>hx y (by simp [hy])) (ykN P os x (hx x (by simp)) ho)
theorem ylU:∀ (xs:List (Bool×List Lk.Obj)) (os:List Lk.Obj),(∀ x∈xs,x.2.length<=6)->(xs.foldl Ln.gL os).length<=os.length+6 * xs.length:=by
 intro xs
 induction xs with
 | nil=>intro os _; simp
 | cons x xs ih =>
  intro os hx;have a:=ykP os x;have b:=hx x (by simp);have c:=ih (Ln.gL os x) (fun y hy=>hx y (by simp [hy]));rw [lQ,iV];omega
theorem yjP {l:List UInt8} {a:Bool} {os:List Lk.Obj} (h:vk l a os):(∀ o∈os,yx o)/\os.length<=6:=by
 rcases h with ⟨-,h1,rfl⟩ | ⟨-,-,ms,h1,rfl⟩
 ·exact ⟨fun o ho=>by simp at ho; subst ho; exact h1.1,by simp⟩
 ·refine ⟨fun o ho=>?_,by rw [sU]; exact h1.1.2⟩;obtain ⟨m,hm,rfl⟩:=List.mem_map.1 ho;exact (h1.2.1 m hm).1
instance Jp (a b c d:Int):Decidable (Im.kD a b c d):=by unfold Im.kD; infer_instance
instance Jo (m:Im.eU):Decidable (Im.Fits m):=by unfold Im.Fits; infer_instance
namespace Ln
def dz (img:Im.eU) (ms:List Mod):rJ:=if ¬ Im.Fits img then ⟨36,0,[]⟩ else if (dS ms).e≠0 then dS ms else if (Im.code img img.start).isSome then ok else ⟨35,0,[]⟩
def dQ (os:List Lk.Obj) (bt bf bd:Int):List Mod:=layout bt bf bd (dw os (os.map bare))
def eX (os:List Lk.Obj) (bt bf bd:Int):Im.eU:=image (dQ os bt bf bd) (named os dG) bt bf bd (noughts bd (shorten (lay bt bf bd (dw os (os.map bare)))))
end Ln
theorem YU {ms:List Ln.Mod} (st:Ln.gP) (bt bf bd no:Int) (hv:∀ m∈ms,yx m.obj):rV (Ln.image ms st bt bf bd no).T/\rV (Ln.image ms st bt bf bd no).F/\rV (Ln.image ms st bt bf bd no).D :=
 ⟨Vl ms 1 bt 19 (by omega) ms [] hv (fun x hx=>by simp at hx),Vl ms 2 bf 19 (by omega) ms [] hv (fun x hx=>by simp at hx),Vl ms 3 bd 0 (by omega) ms [] hv (fun x hx=>by simp at hx)⟩
theorem ylt {ms:List Ln.Mod} {bt bf bd:Int} (hv:∀ m∈ms,yx m.obj) (hl:ms.length<=48) (ht:0<=bt/\bt<=1073741824/\bt % 4=0) (hf:0<=bf/\bf<=1073741824/\bf % 4=0) (hd:0<=bd/\bd<=1073741824/\bd % 4=0) :
  (Ln.region (Ln.lay bt bf bd ms) 1 bt 19 (Ln.lay bt bf bd ms) []).length<=65535/\(Ln.region (Ln.lay bt bf bd ms) 2 bf 19 (Ln.lay bt bf bd ms) []).length<=65535/\(Ln.region (Ln.lay bt bf bd ms) 3 bd 0 (Ln.lay bt bf bd ms) []).length<=65535:=by
 have hv2:=Ci (Lm ms bt bf bd) hv;have ll:=RH ms bt bf bd;have ch:=yiV ms bt bf bd;have c1:BJ 1 Ln.Mod.text (Ln.lay bt bf bd ms) bt (FN 1 ms bt):=Yr 1 Ln.Mod.text (fun _ _=>rfl) _ _ _ _ ch.1;have c2:BJ 2 Ln.Mod.far (Ln.lay bt bf bd ms) bf (FN 2 ms bf):=Yr 2 Ln.Mod.far (fun _ _=>rfl) _ _ _ _ ch.2;have c3:Fh (Ln.lay bt bf bd ms) bd (Ln.dO ms bd):=yiU _ _ _ _ (yhZ ms bt bf bd);have e1:=Zq (Ln.lay bt bf bd ms) 1 (.inl rfl) Ln.Mod.text bt 19 ht.2.2 yjx (Ln.lay bt bf bd ms) [] bt _ hv2 ht.1 (by rw [ll]; omega) (by simp) c1;have e2:=Zq (Ln.lay bt bf bd ms) 2 (.inr rfl) Ln.Mod.far bf 19 hf.2.2 yld (Ln.lay bt bf bd ms) [] bf _ hv2 hf.1 (by rw [ll]; omega) (by simp) c2
 have e3:=ylF (Ln.lay bt bf bd ms) bd 0 hd.2.2 (Ln.lay bt bf bd ms) [] bd _ hv2 hd.1 (by rw [ll]; omega) (by simp) c3;have r1:=YC 1 (.inl rfl) ms bt hv ht.1 (by omega);have r2:=YC 2 (.inr rfl) ms bf hv hf.1 (by omega);have r3:=Yp ms bd hv hd.1 (by omega);simp only [Int.cast_ofNat_Int] at e1 e2;omega
theorem Ml {a:Int} (h:Im.Base a):0<=a/\a<=1073741824/\a % 4=0:=by
 obtain ⟨⟨h1,h2⟩,h3⟩:=h;omega
structure yro (os:List Lk.Obj) (bt bf bd:Int):Prop where
 valid:∀ m∈Ln.dQ os bt bf bd,yx m.obj
 nice:∀ m∈Ln.dQ os bt bf bd,yK os.length m
 low:∀ m∈Ln.dQ os bt bf bd,qJ m
 mean:∀ m∈Ln.dQ os bt bf bd,∀ s∈m.means,mY s
 start:Si os.length (Ln.named os Ln.dG)
 KT:Im.jH (Ln.eX os bt bf bd)
theorem yrb {os:List Lk.Obj} {bt bf bd:Int} (hv:∀ o∈os,yx o) (hl:os.length<=48) (ht:Im.Base bt) (hf:Im.Base bf) (hd:Im.Base bd):yro os bt bf bd:=by
 have A:=ZA os hv;have t:=Ml ht;have f:=Ml hf;have d:=Ml hd;have len:(Ln.dw os (os.map Ln.bare)).length=os.length:=by simp [Ln.dw]
 have rv:∀ m∈Ln.dw os (os.map Ln.bare),yx m.obj:=fun m hm=>(A m hm).obj
 have V:∀ m∈Ln.dQ os bt bf bd,yx m.obj:=Ci (ymW _ bt bf bd) rv
 have low:∀ m∈Ln.dQ os bt bf bd,qJ m:=ymV rv (by omega) (by omega) (by omega) (by omega)
 have sl:=Zx os Ln.dG hv;have sv:=Ci (OO _) (Ci (Lm _ bt bf bd) rv);have aan:(Ln.shorten (Ln.lay bt bf bd (Ln.dw os (os.map Ln.bare)))).length=os.length:=by unfold Ln.shorten; rw [sU,RH,len]
 have L:=ylt (ms:=Ln.shorten (Ln.lay bt bf bd (Ln.dw os (os.map Ln.bare)))) (bt:=bt) (bf:=bf) (bd:=bd) sv (by omega) t f d;refine ⟨V,ylu (fun m hm=>(A m hm).nice) rv (by omega) (by omega) (by omega) (by omega),low,ypF Ln.Mod.means (P:=fun l=>∀ s∈l,mY s) (ykd _ bt bf bd) (fun m hm=>(A m hm).low),⟨?_,fun i hi=>VD os _ i hi⟩,?_⟩
 ·unfold mY at sl; omega
 ·have s:=Yw low (Ln.named os Ln.dG) sl;have r3:=Yp _ bd sv d.1 (by omega);have r4:=yjH _ (Ln.dO (Ln.shorten (Ln.lay bt bf bd (Ln.dw os (os.map Ln.bare)))) bd) sv (by omega) (by omega);refine ⟨?_,?_,?_,?_,L,?_⟩
  ·show 0<=Ln.bW _ _/\Ln.bW _ _ < _;exact ⟨s.1,by have:=s.2; omega⟩
  ·show 0<=bt/\bt < 4294967296; omega
  ·show 0<=bf/\bf < 4294967296; omega
  ·show 0<=bd/\bd < 4294967296; omega
  ·show 0<=Ln.noughts bd _/\Ln.noughts bd _<=65535;unfold Ln.noughts;omega
theorem ygX (W0:World) (P:Nat) (bt bf bd:Int) (vm:Value) (bl gl:List Nat) (ms:List Ln.Mod) (st:Ln.gP) (no:Int) (I:Nat) (img:Im.eU) (W:World) (h:ProgAt W0 P bt bf bd vm bl gl ms st no W) (hn:∀ m∈ms,yK bl.length m) (hi:nA W I img) (ht:Im.jH img) :
  Calls Tryz.prog 41 #[aX P,aX I] W fun e W'=>e = .returned (gq (Ln.dz img ms))/\W.grownBy W' none:=by
 have HP:=hid h;have HI:=hid hi;have HN:=hid hn;have HT:=hid ht;have R:=hid (show Ln.dz img ms=if ¬ Im.Fits img then ⟨36,0,[]⟩ else if (Ln.dS ms).e≠0 then Ln.dS ms else if (Im.code img img.start).isSome then Ln.ok else ⟨35,0,[]⟩ from rfl);have G0:=hid (aH W (.cells #[.int .i64 0,.int .i64 0,.string ⟨#[]⟩] 45) none);have B0:=hid (yc.new W #[.int .i64 0,.int .i64 0,.string ⟨#[]⟩] 45);have cF:=hid (fun V (hg:W.grownBy V none)=>Yg I img V (HI.o.kept hg) ht);have cR:=hid (fun V (hg:W.grownBy V none)=>yhT W0 P bt bf bd vm bl gl ms st no V (HP.o.kept hg) hn);have cC:=hid (fun V (hg:W.grownBy V none)=>Rh I img img.start V (HI.o.kept hg) ht ht.start.1 ht.start.2)
 clear h hn hi ht;unfold aX at *;go_enter Tryz.func41,Tryz.ntmps41;go_wp2_with fail;refine (cF.o _ G0.o).mono ?_;rintro e V1 ⟨tv,h1⟩;have G1:=hid (ya G0.o h1);have BR:=hid (B0.o.grown h1 (by simp));clear h1 cF;rcases tv.split with ⟨rfl,hp⟩ | ⟨rfl,hp⟩
 ·have E:=hid (show Ln.dz img ms=⟨36,0,[]⟩ by rw [R.o,if_pos hp.o]);clear tv hp;have z0:V1.cell? ⟨W.heap.size,0,none⟩=some (.int .i64 0):=BR.o.cell 0;have z1:V1.cell? ⟨W.heap.size,1,none⟩=some (.int .i64 0):=BR.o.cell 1;have z2:V1.cell? ⟨W.heap.size,2,none⟩=some (.string ⟨#[]⟩):=BR.o.cell 2;have f0:=BR.o.free 0;have f1:=BR.o.free 1;have f2:=BR.o.free 2;go_wp2;have F:=((BR.o.set 0 (.int .i64 36)).set 1 (.int .i64 0)).set 2 (.string ⟨#[]⟩);have h0:=F.cell 0;have h1:=F.cell 1;have h2:=F.cell 2;simp only [gH,gF,gG,bJ,bN,bL] at h0 h1 h2;refine bodyPost_ret (v:=gq ⟨36,0,[]⟩) ?_ rfl ⟨by rw [E.o],yA G1.o _ (Nat.le_refl _) _ _ _⟩
  clear F z0 z1 z2 f0 f1 f2;generalize World.setCell _ _ _=WF at *;simp [results,Tryz.results41,go_sem,gq,bs,h0,h1,h2]
 ·have R2:=hid (show Ln.dz img ms=if (Ln.dS ms).e≠0 then Ln.dS ms else if (Im.code img img.start).isSome then Ln.ok else ⟨35,0,[]⟩ by rw [R.o,if_neg (not_not_intro hp.o)]);clear tv hp R;generalize Ln.dS ms=f at *;obtain ⟨fe,fa,fn⟩:=f;unfold gq at cR;dsimp only at *;go_wp2_with fail;refine (cR.o _ G1.o).mono ?_;rintro e V2 ⟨rfl,h2⟩;have A2:=aH V2 (.cells #[.int .i64 fe,.int .i64 fa,.string (bs fn)] 45) none;have G2:=hid (ya (ya G1.o h2) A2);have BX:=hid (yc.new V2 #[.int .i64 fe,.int .i64 fa,.string (bs fn)] 45);have wV:=hid (BR.o.grown (ya h2 A2) (by simp));have hlt:=hid (Nat.lt_of_lt_of_le BR.o.lt h2.size)
  clear h2 A2 cR BR;have hne:W.heap.size≠V2.heap.size:=by have:=hlt.o; omega
  have BR:=wV;clear wV;by_cases he:fe=0
  ·subst he;have R3:=hid (show Ln.dz img ms=if (Im.code img img.start).isSome then Ln.ok else ⟨35,0,[]⟩ by rw [R2.o,if_neg (by simp)]);have i0:(V2.alloc (.cells #[.int .i64 0,.int .i64 fa,.string (bs fn)] 45)).cell? ⟨I,0,none⟩=some (.int .i64 img.start):=by
    obtain ⟨vt,vf,vd,hb,-⟩:=HI.o;exact yd (hb.cell 0) G2.o
   go_wp2_with fail;refine (cC.o _ G2.o).mono ?_;rintro e V3 ⟨rfl,n,hw⟩;subst hw;have G3:=hid (ye G2.o n);have BR:=hid (BR.o.drewN n);clear i0 cC G2;generalize (V2.alloc (.cells #[.int .i64 0,.int .i64 fa,.string (bs fn)] 45)).drewN n=V3 at *
   cases hc:(Im.code img img.start).isSome
   ·have E:=hid (show Ln.dz img ms=⟨35,0,[]⟩ by rw [R3.o,hc]; rfl);clear hc;have z0:V3.cell? ⟨W.heap.size,0,none⟩=some (.int .i64 0):=BR.o.cell 0;have z1:V3.cell? ⟨W.heap.size,1,none⟩=some (.int .i64 0):=BR.o.cell 1;have z2:V3.cell? ⟨W.heap.size,2,none⟩=some (.string ⟨#[]⟩):=BR.o.cell 2;have f0:=BR.o.free 0;have f1:=BR.o.free 1;have f2:=BR.o.free 2;go_wp2;have F:=((BR.o.set 0 (.int .i64 35)).set 1 (.int .i64 0)).set 2 (.string ⟨#[]⟩);have h0:=F.cell 0;have h1:=F.cell 1;have h2:=F.cell 2;simp only [gH,gF,gG,bJ,bN,bL] at h0 h1 h2;refine bodyPost_ret (v:=gq ⟨35,0,[]⟩) ?_ rfl ⟨by rw [E.o],yA G3.o _ (Nat.le_refl _) _ _ _⟩
    clear F z0 z1 z2 f0 f1 f2;generalize World.setCell _ _ _=WF at *;simp [results,Tryz.results41,go_sem,gq,bs,h0,h1,h2]
   ·have E:=hid (show Ln.dz img ms=Ln.ok by rw [R3.o,hc]; rfl);clear hc;have z0:V3.cell? ⟨W.heap.size,0,none⟩=some (.int .i64 0):=BR.o.cell 0;have z1:V3.cell? ⟨W.heap.size,1,none⟩=some (.int .i64 0):=BR.o.cell 1;have z2:V3.cell? ⟨W.heap.size,2,none⟩=some (.string ⟨#[]⟩):=BR.o.cell 2;have f0:=BR.o.free 0;have f1:=BR.o.free 1;have f2:=BR.o.free 2;go_wp2;have F:=((BR.o.set 0 (.int .i64 0)).set 1 (.int .i64 0)).set 2 (.string ⟨#[]⟩);have h0:=F.cell 0;have h1:=F.cell 1;have h2:=F.cell 2;simp only [gH,gF,gG,bJ,bN,bL] at h0 h1 h2;refine bodyPost_ret (v:=gq Ln.ok) ?_ rfl ⟨by rw [E.o],yA G3.o _ (Nat.le_refl _) _ _ _⟩
    clear F z0 z1 z2 f0 f1 f2;generalize World.setCell _ _ _=WF at *;simp [results,Tryz.results41,go_sem,gq,Ln.ok,bs,h0,h1,h2]
  ·have d1:(fe == 0)=false:=by simpa using he
   have d2:(fe != 0)=true:=by simpa using he
   have E:=hid (show Ln.dz img ms=⟨fe,fa,fn⟩ by rw [R2.o,if_pos he]);clear he;have z0:(V2.alloc (.cells #[.int .i64 fe,.int .i64 fa,.string (bs fn)] 45)).cell? ⟨W.heap.size,0,none⟩=some (.int .i64 0):=BR.o.cell 0;have z1:(V2.alloc (.cells #[.int .i64 fe,.int .i64 fa,.string (bs fn)] 45)).cell? ⟨W.heap.size,1,none⟩=some (.int .i64 0):=BR.o.cell 1;have z2:(V2.alloc (.cells #[.int .i64 fe,.int .i64 fa,.string (bs fn)] 45)).cell? ⟨W.heap.size,2,none⟩=some (.string ⟨#[]⟩):=BR.o.cell 2;have f0:=BR.o.free 0;have f1:=BR.o.free 1;have f2:=BR.o.free 2;go_wp2;have F:=((BR.o.set 0 (.int .i64 fe)).set 1 (.int .i64 fa)).set 2 (.string (bs fn))
   have h0:=F.cell 0;have h1:=F.cell 1;have h2:=F.cell 2;simp only [gH,gF,gG,bJ,bN,bL] at h0 h1 h2;refine bodyPost_ret (v:=gq ⟨fe,fa,fn⟩) ?_ rfl ⟨by rw [E.o],yA G2.o _ (Nat.le_refl _) _ _ _⟩;clear F z0 z1 z2 f0 f1 f2;generalize World.setCell _ _ _=WF at *;simp [results,Tryz.results41,go_sem,gq,bs,h0,h1,h2]
theorem yiu (b:Nat) (r:Lk.Rel) (l:List UInt8) (w:World) (h:gQ w b l) (hl:l.length<=1048576) (hg:Lk.ou r) :
  Calls Tryz.prog 61 #[.pointer (some ⟨b,0,none⟩),.agg #[.int .i64 r.ah,.int .i64 r.off,.int .i64 r.kind,.int .i64 r.sym,.int .i64 r.addend]] w fun e w'=>e = .returned (.tuple #[])/\gQ w' b (l ++ Lk.iT r)/\Wk b w w':=by
 obtain ⟨⟨hs0,hs1⟩,⟨hk0,hk1⟩,⟨ho0,ho1⟩,⟨hy0,hy1⟩,ha0,ha1⟩:=hg;have hvb:w.heap.size≠b:=by obtain ⟨_,_,h1,_⟩:=h; have:=h1.lt; omega
 have S1:=hid (CG.begin h #[.int .i64 r.ah,.int .i64 r.off,.int .i64 r.kind,.int .i64 r.sym,.int .i64 r.addend] 102);have c1:=hid (fun W (h:gQ W b (l))=>yI b r.ah 1 1 rfl (l) W h (by omega) (by omega) (by omega) (by omega));have c2:=hid (fun W (h:gQ W b (l ++ Lk.le r.ah 1))=>yI b r.kind 1 1 rfl (l ++ Lk.le r.ah 1) W h (by simp only [eP,Lk.aA]; omega) (by omega) (by omega) (by omega));have c3:=hid (fun W (h:gQ W b (l ++ Lk.le r.ah 1 ++ Lk.le r.kind 1))=>yI b r.off 2 2 rfl (l ++ Lk.le r.ah 1 ++ Lk.le r.kind 1) W h (by simp only [eP,Lk.aA]; omega) (by omega) (by omega) (by omega));have c4:=hid (fun W (h:gQ W b (l ++ Lk.le r.ah 1 ++ Lk.le r.kind 1 ++ Lk.le r.off 2))=>yI b r.sym 1 1 rfl (l ++ Lk.le r.ah 1 ++ Lk.le r.kind 1 ++ Lk.le r.off 2) W h (by simp only [eP,Lk.aA]; omega) (by omega) (by omega) (by omega))
 have c5:=hid (fun W (h:gQ W b (l ++ Lk.le r.ah 1 ++ Lk.le r.kind 1 ++ Lk.le r.off 2 ++ Lk.le r.sym 1))=>yI b r.addend 2 2 rfl (l ++ Lk.le r.ah 1 ++ Lk.le r.kind 1 ++ Lk.le r.off 2 ++ Lk.le r.sym 1) W h (by simp only [eP,Lk.aA]; omega) (by omega) (by omega) (by omega));clear h;go_enter Tryz.func61,Tryz.ntmps61;go_wp2_with fail;refine Calls.aK (CG w b w.heap.size 102 #[.int .i64 r.ah,.int .i64 r.off,.int .i64 r.kind,.int .i64 r.sym,.int .i64 r.addend] l) S1.o ?_;clear S1;intro W1 s1;have S1:=hid s1;clear s1;refine (c1.o W1 S1.o.wr).mono ?_;rintro e W2 ⟨rfl,hw,hk⟩;have S2:=hid (S1.o.step hvb (by decide) hw hk)
 clear hw hk;have k2:=S2.o.own.cell 2;go_wp2_with fail;refine (c2.o W2 S2.o.wr).mono ?_;rintro e W3 ⟨rfl,hw,hk⟩;have S3:=hid (S2.o.step hvb (by decide) hw hk);clear hw hk k2;have k3:=S3.o.own.cell 1;go_wp2_with fail;refine (c3.o W3 S3.o.wr).mono ?_;rintro e W4 ⟨rfl,hw,hk⟩;have S4:=hid (S3.o.step hvb (by decide) hw hk);clear hw hk k3;have k4:=S4.o.own.cell 3;go_wp2_with fail;refine (c4.o W4 S4.o.wr).mono ?_;rintro e W5 ⟨rfl,hw,hk⟩;have S5:=hid (S4.o.step hvb (by decide) hw hk);clear hw hk k4;have k5:=S5.o.own.cell 4;go_wp2_with fail;refine (c5.o W5 S5.o.wr).mono ?_;rintro e W6 ⟨rfl,hw,hk⟩;have S6:=hid (S5.o.step hvb (by decide) hw hk)
 clear hw hk k5;go_wp2
 go_end0
 refine ⟨rfl,?_,S6.o.wk⟩
 have:=S6.o.wr
 simpa [Lk.iT] using this
def LB (w:World) (b:Nat) (ao:Option Addr) (ys:List Lk.Sym):Prop :=
 0 < ys.length->∃ g cs,ao=some ⟨g,0,none⟩/\g≠b/\yc w g cs 100/\∀ i (h:i < ys.length),cs[i * 4]?=some (.string (bs ys[i].name))/\cs[i * 4+1]?=some (.int .i64 ys[i].bind)/\cs[i * 4+2]?=some (.int .i64 ys[i].ah)/\cs[i * 4+3]?=some (.int .i64 ys[i].off)
theorem LB.kept {w w':World} {b:Nat} {ao:Option Addr} {xs:List Lk.Sym} (h:LB w b ao xs) (hk:Wk b w w'):LB w' b ao xs:=by
 intro h0;obtain ⟨g,cs,h1,h2,h3,h4⟩:=h h0;exact ⟨g,cs,h1,h2,hk.2 g cs _ h2 (by decide) h3,h4⟩
def Lu (w:World) (b:Nat) (ao:Option Addr) (ys:List Lk.Rel):Prop :=
 0 < ys.length->∃ g cs,ao=some ⟨g,0,none⟩/\g≠b/\yc w g cs 102/\∀ i (h:i < ys.length),cs[i * 5]?=some (.int .i64 ys[i].ah)/\cs[i * 5+1]?=some (.int .i64 ys[i].off)/\cs[i * 5+2]?=some (.int .i64 ys[i].kind)/\cs[i * 5+3]?=some (.int .i64 ys[i].sym)/\cs[i * 5+4]?=some (.int .i64 ys[i].addend)
theorem Lu.kept {w w':World} {b:Nat} {ao:Option Addr} {xs:List Lk.Rel} (h:Lu w b ao xs) (hk:Wk b w w'):Lu w' b ao xs:=by
 intro h0;obtain ⟨g,cs,h1,h2,h3,h4⟩:=h h0;exact ⟨g,cs,h1,h2,hk.2 g cs _ h2 (by decide) h3,h4⟩
theorem ykq {w:World} {base b:Nat} {e:TypeId} {size:Nat} {ao:Option Addr} {n cap:Nat} {xs:List Value} (h:w.ownsRow base e size (.slice ao n cap) n xs) (hn:0 < n) (hb:∀ g,Value.ownBlock (.slice ao n cap)=some g->g≠b) :
  ∃ g cs,ao=some ⟨g,0,none⟩/\g≠b/\yc w g cs e/\∀ j,j < n * size->cs[j]?=xs[j]?:=by
 rcases h.2 with ⟨h1,h2⟩ | ⟨g,cap',cur,hv,_,hh,_,_,hcs,htk⟩
 ·omega
 ·simp only [Value.slice.injEq] at hv;obtain ⟨rfl,_,rfl⟩:=hv;refine ⟨g,cur,rfl,hb g rfl,hh,fun j hj=>?_⟩;have e:(cur.toList.take (n * size))[j]?=xs[j]?:=by rw [htk]
  rw [List.getElem?_take,if_pos hj] at e;rw [<- Array.getElem?_toList,e]
theorem ZU {α:Type} (f:α->List Value) (size:Nat) (hf:∀ x,(f x).length=size) (l:List α):(l.flatMap f).length=l.length * size:=by
 induction l with
 | nil=>simp
 | cons y t ih=>rw [List.flatMap_cons,eP,ih,hf,iV,Nat.succ_mul]; omega
theorem LB.aU {w:World} {base b:Nat} {ao:Option Addr} {n cap:Nat} {ys:List Lk.Sym} (h:w.ownsRow base 100 4 (.slice ao n cap) n (ys.flatMap iB)) (hb:∀ g,Value.ownBlock (.slice ao n cap)=some g->g≠b):LB w b ao ys:=by
 intro h0;have hl:=ZU iB 4 (fun _=>rfl) ys;have hn:ys.length=n:=by have:=h.1; omega
 obtain ⟨g,cs,h1,h2,h3,h4⟩:=ykq h (by omega) hb;refine ⟨g,cs,h1,h2,h3,fun i hi=>?_⟩;have q:=fun j (hj:j < 4)=>(h4 (i * 4+j) (by omega)).trans (MH iB 4 (fun _=>rfl) ys i j hi hj)
 exact ⟨q 0 (by omega),q 1 (by omega),q 2 (by omega),q 3 (by omega)⟩
theorem Lu.aU {w:World} {base b:Nat} {ao:Option Addr} {n cap:Nat} {ys:List Lk.Rel} (h:w.ownsRow base 102 5 (.slice ao n cap) n (ys.flatMap iN)) (hb:∀ g,Value.ownBlock (.slice ao n cap)=some g->g≠b):Lu w b ao ys:=by
 intro h0;have hl:=ZU iN 5 (fun _=>rfl) ys;have hn:ys.length=n:=by have:=h.1; omega
 obtain ⟨g,cs,h1,h2,h3,h4⟩:=ykq h (by omega) hb;refine ⟨g,cs,h1,h2,h3,fun i hi=>?_⟩;have q:=fun j (hj:j < 5)=>(h4 (i * 5+j) (by omega)).trans (MH iN 5 (fun _=>rfl) ys i j hi hj)
 exact ⟨q 0 (by omega),q 1 (by omega),q 2 (by omega),q 3 (by omega),q 4 (by omega)⟩
structure Cz (W:World) (b g:Nat) (o:Lk.Obj) (at_:Option Addr) (ct:Nat) (af:Option Addr) (cf:Nat) (ad:Option Addr) (cd:Nat) (aa:Option Addr) (ca:Nat) (gJ:Option Addr) (cs:Nat) (ar:Option Addr) (cr:Nat):Prop where
 blk:yc W g #[.slice at_ o.text.length ct,.slice af o.far.length cf,.slice ad o.data.length cd,.int .i64 o.bss,.slice aa o.align.length ca,.slice gJ o.syms.length cs,.slice ar o.aj.length cr] 71
 ne:g≠b
 text:tY W b at_ o.text
 far:tY W b af o.far
 data:tY W b ad o.data
 align:tY W b aa o.align
 syms:LB W b gJ o.syms
 aj:Lu W b ar o.aj
section
variable {W W':World} {b g:Nat} {o:Lk.Obj} {at_ af ad aa gJ ar:Option Addr} {ct cf cd ca cs cr:Nat}
theorem Cz.kept (h:Cz W b g o at_ ct af cf ad cd aa ca gJ cs ar cr) (hk:Wk b W W'):Cz W' b g o at_ ct af cf ad cd aa ca gJ cs ar cr :=
 ⟨hk.2 g _ _ h.ne (by decide) h.blk,h.ne,h.text.kept hk,h.far.kept hk,h.data.kept hk,h.align.kept hk,h.syms.kept hk,h.aj.kept hk⟩
end
theorem yv.toB {W:World} {g:Nat} {o:Lk.Obj} (h:yv W g o) (ob:Obj):∃ at_ ct af cf ad cd aa ca gJ cs ar cr,Cz (W.alloc ob) W.heap.size g o at_ ct af cf ad cd aa ca gJ cs ar cr:=by
 obtain ⟨at_,ct,af,cf,ad,cd,aa,ca,gJ,cs,ar,cr,hb,h1,h2,h3,h4,h5,h6⟩:=h.open;have ne:∀ {e:TypeId} {size:Nat} {ao:Option Addr} {n cap:Nat} {xs:List Value},W.ownsRow 0 e size (.slice ao n cap) n xs->∀ k,Value.ownBlock (.slice ao n cap)=some k->k≠W.heap.size:=fun h k hk=>by have:=(h.lt k hk).2; omega
 refine ⟨at_,ct,af,cf,ad,cd,aa,ca,gJ,cs,ar,cr,hb.grown (aH _ _ none) (by simp),by have:=hb.lt; omega,?_,?_,?_,?_,?_,?_⟩
 ·exact tY.aU (h1.alloc _) (ne h1)
 ·exact tY.aU (h2.alloc _) (ne h2)
 ·exact tY.aU (h3.alloc _) (ne h3)
 ·exact tY.aU (h4.alloc _) (ne h4)
 ·exact LB.aU (h5.alloc _) (ne h5)
 ·exact Lu.aU (h6.alloc _) (ne h6)
structure JN (w:World) (b g:Nat) (o:Lk.Obj) (at_:Option Addr) (ct:Nat) (af:Option Addr) (cf:Nat) (ad:Option Addr) (cd:Nat) (aa:Option Addr) (ca:Nat) (gJ:Option Addr) (cs:Nat) (ar:Option Addr) (cr:Nat) (l:List UInt8) (W:World):Prop where
 wr:gQ W b l
 ob:Cz W b g o at_ ct af cf ad cd aa ca gJ cs ar cr
 be:Below b w W
section
variable {w W W':World} {b g:Nat} {o:Lk.Obj} {at_ af ad aa gJ ar:Option Addr} {ct cf cd ca cs cr:Nat} {l l':List UInt8}
theorem JN.step (h:JN w b g o at_ ct af cf ad cd aa ca gJ cs ar cr l W) (hw:gQ W' b l') (hk:Wk b W W'):JN w b g o at_ ct af cf ad cd aa ca gJ cs ar cr l' W' :=
 ⟨hw,h.ob.kept hk,h.be.trans hk.1⟩
end
theorem ZE {α:Type} (f:α->List UInt8) (ys:List α) (k:Nat) (h:k < ys.length):(ys.take (k+1)).flatMap f=(ys.take k).flatMap f ++ f ys[k]:=by
 rw [List.take_succ_eq_append_getElem h,List.flatMap_append];simp
theorem VN {α:Type} (f:α->List UInt8) (c:Nat) (ys:List α) (hf:∀ y∈ys,(f y).length<=c):(ys.flatMap f).length<=ys.length * c:=by
 induction ys with
 | nil=>simp
 | cons y t ih =>
  have h1:=hf y (by simp);have h2:=ih (fun z hz=>hf z (by simp [hz]));rw [List.flatMap_cons,eP,iV,Nat.succ_mul];omega
theorem Yq {α:Type} (f:α->List UInt8) (c k:Nat) (ys:List α) (hf:∀ y∈ys,(f y).length<=c):((ys.take k).flatMap f).length<=ys.length * c:=by
 have h1:=VN f c (ys.take k) (fun y hy=>hf y (List.mem_of_mem_take hy));have h2:(ys.take k).length * c<=ys.length * c:=Nat.mul_le_mul_right c (by simp; omega);omega
theorem ymr (y:Lk.Sym) (h:Lk.mH y):(Lk.jd y).length<=260:=by
 have:=h.1
 simp only [Lk.jd,eP,Lk.aA];omega
theorem ymo (r:Lk.Rel):(Lk.iT r).length<=7:=by
 simp only [Lk.iT,eP,Lk.aA];omega
theorem yoU (g:Nat) (o:Lk.Obj) (w:World) (ht:dV w) (h:yv w g o) (hgood:Lk.mG o) (hv:yx o) :
  Calls Tryz.prog 36 #[.pointer (some ⟨g,0,none⟩)] w fun e w'=>e = .returned (.tuple #[.string (bs (Lk.lY o)),.int .i64 0])/\w.grownBy w' none:=by
 have cV:=hid (Vn g o w ht h (OW hgood));have HV:=hid hv;have HO:=hid h;have BS:=hid hgood;obtain ⟨z1,z2,z3,z4,z5,z6,z7,z8,z9,z10,z11,z12,z13⟩:=hgood;obtain ⟨⟨s1,s2,s3⟩,s4,s5,s6⟩:=hv.1;have HS:=hid z9;have Xa:=hid z10;have HW1:=hid z6;have HWt:=hid z11;have HWf:=hid z12;have HWd:=hid z13;have z5a:o.align.length<=4:=by omega
 clear ht h hv z9 z10 z6 z11 z12 z13 z5;go_enter Tryz.func36,Tryz.ntmps36;go_wp2_with fail;refine cV.o.mono ?_;rintro e W1 ⟨tv,q1⟩;obtain rfl:=Vm tv HV.o;have Q1:=hid q1;have HO1:=hid (HO.o.kept q1);clear tv q1 cV;go_wp2_with fail;obtain ⟨at_,ct,af,cf,ad,cd,aa,ca,gJ,cs,ar,cr,oV⟩:=HO1.o.toB (.cells #[.slice none 0 0] 105);have S0:Hd (JN W1 W1.heap.size g o at_ ct af cf ad cd aa ca gJ cs ar cr [] (W1.alloc (.cells #[.slice none 0 0] 105))):=⟨Z8 W1,oV,(Below.refl _ _).alloc (Nat.le_refl _) _⟩
 clear oV;generalize hbb:W1.heap.size=b at *;have oN:=hid hbb;clear hbb;refine Calls.aK (JN W1 b g o at_ ct af cf ad cd aa ca gJ cs ar cr []) S0.o ?_;clear S0;intro V0 h0;have S0:=hid h0;clear h0;refine (Vo b ⟨#[76,75]⟩ [] V0 S0.o.wr (by simp) (by decide)).mono ?_;rintro e V1 ⟨rfl,hw,hk⟩;have S1:=hid (S0.o.step hw hk);clear S0;generalize hE1:[] ++ sl ⟨#[76,75]⟩=l1 at *;have n1:l1.length<=2:=by rw [<- hE1]; decide
 have E1:=hid hE1;clear hE1 hw hk;have k0:=S1.o.ob.blk.cell 0;go_wp2_with fail;refine (yI b (o.text.length:Int) 2 2 rfl l1 V1 S1.o.wr (by omega) (by omega) (by omega) (by omega)).mono ?_;rintro e V2 ⟨rfl,hw,hk⟩;have S2:=hid (S1.o.step hw hk);clear S1 k0;generalize hE2:l1 ++ Lk.le (o.text.length:Int) 2=l2 at *;have n2:l2.length<=4:=by rw [<- hE2,eP,Lk.aA]; omega
 have E2:=hid hE2;clear hE2 hw hk;have k0:=S2.o.ob.blk.cell 1;go_wp2_with fail;refine (yI b (o.far.length:Int) 2 2 rfl l2 V2 S2.o.wr (by omega) (by omega) (by omega) (by omega)).mono ?_;rintro e V3 ⟨rfl,hw,hk⟩;have S3:=hid (S2.o.step hw hk);clear S2 k0;generalize Kg:l2 ++ Lk.le (o.far.length:Int) 2=l3 at *;have n3:l3.length<=6:=by rw [<- Kg,eP,Lk.aA]; omega
 have E3:=hid Kg;clear Kg hw hk;have k0:=S3.o.ob.blk.cell 2;go_wp2_with fail;refine (yI b (o.data.length:Int) 2 2 rfl l3 V3 S3.o.wr (by omega) (by omega) (by omega) (by omega)).mono ?_;rintro e V4 ⟨rfl,hw,hk⟩;have S4:=hid (S3.o.step hw hk);clear S3 k0;generalize Kh:l3 ++ Lk.le (o.data.length:Int) 2=l4 at *;have n4:l4.length<=8:=by rw [<- Kh,eP,Lk.aA]; omega
 have E4:=hid Kh;clear Kh hw hk;have k0:=S4.o.ob.blk.cell 3;go_wp2_with fail;refine (yI b o.bss 2 2 rfl l4 V4 S4.o.wr (by omega) (by omega) (by omega) (by omega)).mono ?_;rintro e V5 ⟨rfl,hw,hk⟩;have S5:=hid (S4.o.step hw hk);clear S4 k0;generalize Ki:l4 ++ Lk.le o.bss 2=l5 at *;have n5:l5.length<=10:=by rw [<- Ki,eP,Lk.aA]; omega
 have E5:=hid Ki;clear Ki hw hk;have k0:=S5.o.ob.blk.cell 4;go_wp2_with fail;refine (KZ b aa ca 1 1 rfl o.align l5 V5 S5.o.wr S5.o.ob.align (by omega) (by omega) (by omega) (fun i hi=>by have:=HW1.o _ (iC hi); simp only [Int.reducePow] at this; omega)).mono ?_;rintro e V6 ⟨rfl,hw,hk⟩;have S6:=hid (S5.o.step hw hk);clear S5 k0;generalize Kj:l5 ++ Lk.nums o.align 1=l6 at *;have n6:l6.length<=14:=by rw [<- Kj,eP,Jz]; omega
 have E6:=hid Kj;clear Kj hw hk;have k0:=S6.o.ob.blk.cell 5;go_wp2_with fail;refine (yI b (o.syms.length:Int) 1 1 rfl l6 V6 S6.o.wr (by omega) (by omega) (by omega) (by omega)).mono ?_;rintro e V7 ⟨rfl,hw,hk⟩;have S7:=hid (S6.o.step hw hk);clear S6 k0;generalize Kk:l6 ++ Lk.le (o.syms.length:Int) 1=l7 at *;have n7:l7.length<=15:=by rw [<- Kk,eP,Lk.aA]; omega
 have E7:=hid Kk;clear Kk hw hk;have k0:=S7.o.ob.blk.cell 6;go_wp2_with fail;refine (yI b (o.aj.length:Int) 1 1 rfl l7 V7 S7.o.wr (by omega) (by omega) (by omega) (by omega)).mono ?_;rintro e V8 ⟨rfl,hw,hk⟩;have S8:=hid (S7.o.step hw hk);clear S7 k0;generalize Kl:l7 ++ Lk.le (o.aj.length:Int) 1=l8 at *;have n8:l8.length<=16:=by rw [<- Kl,eP,Lk.aA]; omega
 have E8:=hid Kl;clear Kl hw hk;have k0:=S8.o.ob.blk.cell 5;go_wp2
 go_loopw [63] (fun i wr=>∃ n:Nat,n<=o.syms.length/\i = .int .i64 n/\JN W1 b g o at_ ct af cf ad cd aa ca gJ cs ar cr (l8 ++ (o.syms.take n).flatMap Lk.jd) wr) (fun i _=>o.syms.length - (intOf i).toNat)
 case atStart=>exact ⟨0,Nat.zero_le _,rfl,by simpa using S8.o⟩
 case round =>
  obtain ⟨n,hn,rfl,hst⟩:=hrel;have ST:=hid hst;clear hst;by_cases hlt:n < o.syms.length
  ·obtain ⟨sg,bs0,hao,hne,hbk,hc⟩:=ST.o.ob.syms (by omega);subst hao;obtain ⟨q0,q1,q2,q3⟩:=hc n hlt;have m0:=(hbk.cell (n * 4)).trans q0;have m1:=(hbk.cell (n * 4+1)).trans q1;have m2:=(hbk.cell (n * 4+2)).trans q2;have m3:=(hbk.cell (n * 4+3)).trans q3;have hgl:=hbk.lt;have hwb:b < wr.heap.size:=by obtain ⟨_,_,x1,_⟩:=ST.o.wr; exact x1.lt
   have hgd:=HS.o _ (iC hlt);have hlen:(l8 ++ (o.syms.take n).flatMap Lk.jd).length<=1048576:=by
    have:=Yq Lk.jd 260 n o.syms (fun y hy=>ymr y (HS.o y hy))
    rw [eP];omega
   have Nu:=hid (CG.begin ST.o.wr #[.string (bs o.syms[n].name),.int .i64 o.syms[n].bind,.int .i64 o.syms[n].ah,.int .i64 o.syms[n].off] 100);have cW:=hid (fun W hW=>yhL b o.syms[n] (l8 ++ (o.syms.take n).flatMap Lk.jd) W hW hlen hgd);clear hbk hc q0 q1 q2 q3 hgd hlen k0;go_wp2_with fail;refine (cW.o _ Nu.o.wr).mono ?_;rintro e W2 ⟨rfl,hw,hk⟩;have S2:=hid (ST.o.step hw (Nu.o.wk.trans hk));clear hw hk;go_wp2
   go_roundw
   case rel=>exact ⟨n+1,by omega,by go_num,by rw [ZE Lk.jd o.syms n hlt,<- List.append_assoc]; exact S2.o⟩
   case measure=>simp [intOf]; omega
  ·have Ta:=ST.o;rw [List.take_of_length_le (show o.syms.length<=n by omega)] at Ta;have S9:=hid Ta;clear Ta ST k0 S8;generalize Km:l8 ++ o.syms.flatMap Lk.jd=l9 at *;have n9:l9.length<=4176:=by
    have:=VN Lk.jd 260 o.syms (fun y hy=>ymr y (HS.o y hy))
    rw [<- Km,eP];omega
   have E9:=hid Km;clear Km;have k0:=S9.o.ob.blk.cell 6;go_wp2
   go_loopw [75] (fun i wr=>∃ n:Nat,n<=o.aj.length/\i = .int .i64 n/\JN W1 b g o at_ ct af cf ad cd aa ca gJ cs ar cr (l9 ++ (o.aj.take n).flatMap Lk.iT) wr) (fun i _=>o.aj.length - (intOf i).toNat)
   case atStart=>exact ⟨0,Nat.zero_le _,rfl,by simpa using S9.o⟩
   case round =>
    obtain ⟨n,hn,rfl,hst⟩:=hrel;have ST:=hid hst;clear hst;by_cases hlt:n < o.aj.length
    ·obtain ⟨sg,bs0,hao,hne,hbk,hc⟩:=ST.o.ob.aj (by omega);subst hao;obtain ⟨q0,q1,q2,q3,q4⟩:=hc n hlt;have m0:=(hbk.cell (n * 5)).trans q0;have m1:=(hbk.cell (n * 5+1)).trans q1;have m2:=(hbk.cell (n * 5+2)).trans q2;have m3:=(hbk.cell (n * 5+3)).trans q3;have m4:=(hbk.cell (n * 5+4)).trans q4;have hgl:=hbk.lt;have hwb:b < wr.heap.size:=by obtain ⟨_,_,x1,_⟩:=ST.o.wr; exact x1.lt
     have hgd:=Xa.o _ (iC hlt);have hlen:(l9 ++ (o.aj.take n).flatMap Lk.iT).length<=1048576:=by
      have:=Yq Lk.iT 7 n o.aj (fun y hy=>ymo y)
      rw [eP];omega
     have Nu:=hid (CG.begin ST.o.wr #[.int .i64 o.aj[n].ah,.int .i64 o.aj[n].off,.int .i64 o.aj[n].kind,.int .i64 o.aj[n].sym,.int .i64 o.aj[n].addend] 102);have cW:=hid (fun W hW=>yiu b o.aj[n] (l9 ++ (o.aj.take n).flatMap Lk.iT) W hW hlen hgd);clear hbk hc q0 q1 q2 q3 q4 hgd hlen k0;go_wp2_with fail;refine (cW.o _ Nu.o.wr).mono ?_;rintro e W2 ⟨rfl,hw,hk⟩;have S2:=hid (ST.o.step hw (Nu.o.wk.trans hk));clear hw hk;go_wp2
     go_roundw
     case rel=>exact ⟨n+1,by omega,by go_num,by rw [ZE Lk.iT o.aj n hlt,<- List.append_assoc]; exact S2.o⟩
     case measure=>simp [intOf]; omega
    ·have JM:=ST.o;rw [List.take_of_length_le (show o.aj.length<=n by omega)] at JM;have rU:=hid JM;clear JM ST k0 S9;generalize xL:l9 ++ o.aj.flatMap Lk.iT=l10 at *;have n10:l10.length<=4400:=by
      have:=VN Lk.iT 7 o.aj (fun y hy=>ymo y)
      rw [<- xL,eP];omega
     have Sq:=hid xL;clear xL;have k0:=rU.o.ob.blk.cell 0;go_wp2_with fail;refine (KZ b at_ ct 4 4 rfl o.text l10 wr rU.o.wr rU.o.ob.text (by omega) (by omega) (by omega) (fun i hi=>by have:=HWt.o _ (iC hi); simp only [Int.reducePow] at this; omega)).mono ?_;rintro e Ny ⟨rfl,hw,hk⟩;have sV:=hid (rU.o.step hw hk);clear rU k0;generalize xM:l10 ++ Lk.nums o.text 4=AV at *;have n11:AV.length<=9200:=by rw [<- xM,eP,Jz]; omega
     have Sr:=hid xM;clear xM hw hk;have k0:=sV.o.ob.blk.cell 1;go_wp2_with fail;refine (KZ b af cf 4 4 rfl o.far AV Ny sV.o.wr sV.o.ob.far (by omega) (by omega) (by omega) (fun i hi=>by have:=HWf.o _ (iC hi); simp only [Int.reducePow] at this; omega)).mono ?_;rintro e Td ⟨rfl,hw,hk⟩;have Aj:=hid (sV.o.step hw hk);clear sV k0;generalize xO:AV ++ Lk.nums o.far 4=GX at *;have n12:GX.length<=14000:=by rw [<- xO,eP,Jz]; omega
     have LM:=hid xO;clear xO hw hk;have k0:=Aj.o.ob.blk.cell 2;go_wp2_with fail;refine (KZ b ad cd 4 4 rfl o.data GX Td Aj.o.wr Aj.o.ob.data (by omega) (by omega) (by omega) (fun i hi=>by have:=HWd.o _ (iC hi); simp only [Int.reducePow] at this; omega)).mono ?_;rintro e V13 ⟨rfl,hw,hk⟩;have Xm:=hid (Aj.o.step hw hk);clear Aj k0;generalize Ke:GX ++ Lk.nums o.data 4=Un at *;have n13:Un.length<=14256:=by rw [<- Ke,eP,Jz]; omega
     have E13:=hid Ke;clear Ke hw hk;go_wp2_with fail;refine (Za b Un V13 Xm.o.wr).mono ?_;rintro e V14 ⟨rfl,Uk⟩;subst Uk;go_wp2;go_ret2;have hfin:Un=Lk.lY o:=by
      rw [<- E13.o,<- LM.o,<- Sr.o,<- Sq.o,<- E9.o,<- E8.o,<- E7.o,<- E6.o,<- E5.o,<- E4.o,<- E3.o,<- E2.o,<- E1.o];simp [Lk.lY,sl]
     refine ⟨by rw [hfin]; rfl,?_⟩;have hb:=Xm.o.be;exact ⟨hb.os.trans Q1.o.os,hb.tape.trans Q1.o.tape,hb.output.trans Q1.o.output,Nat.le_trans Q1.o.size hb.size,fun i hi _=>(hb.block i (by have:=Q1.o.size; have:=oN.o; omega)).trans (Q1.o.block i hi (by simp))⟩
namespace Im
def bytes (m:eU):List UInt8:=[73,77] ++ Lk.le m.start 4 ++ Lk.le m.text 4 ++ Lk.le m.far 4 ++ Lk.le m.data 4 ++ Lk.le (m.T.length:Int) 2 ++ Lk.le (m.F.length:Int) 2 ++ Lk.le (m.D.length:Int) 2 ++ Lk.le m.noughts 2 ++ Lk.nums m.T 4 ++ Lk.nums m.F 4 ++ Lk.nums m.D 4
end Im
structure Cx (W:World) (b g:Nat) (m:Im.eU) (at_:Option Addr) (ct:Nat) (af:Option Addr) (cf:Nat) (ad:Option Addr) (cd:Nat):Prop where
 blk:yc W g #[.int .i64 m.start,.int .i64 m.text,.int .i64 m.far,.int .i64 m.data,.slice at_ m.T.length ct,.slice af m.F.length cf,.slice ad m.D.length cd,.int .i64 m.noughts] 90
 ne:g≠b
 text:tY W b at_ m.T
 far:tY W b af m.F
 data:tY W b ad m.D
structure Nv (w:World) (b g:Nat) (m:Im.eU) (at_:Option Addr) (ct:Nat) (af:Option Addr) (cf:Nat) (ad:Option Addr) (cd:Nat) (l:List UInt8) (W:World):Prop where
 wr:gQ W b l
 ob:Cx W b g m at_ ct af cf ad cd
 be:Below b w W
section
variable {w W W':World} {b g:Nat} {m:Im.eU} {at_ af ad:Option Addr} {ct cf cd:Nat} {l l':List UInt8}
theorem Cx.kept (h:Cx W b g m at_ ct af cf ad cd) (hk:Wk b W W'):Cx W' b g m at_ ct af cf ad cd :=
 ⟨hk.2 g _ _ h.ne (by decide) h.blk,h.ne,h.text.kept hk,h.far.kept hk,h.data.kept hk⟩
theorem Nv.step (h:Nv w b g m at_ ct af cf ad cd l W) (hw:gQ W' b l') (hk:Wk b W W'):Nv w b g m at_ ct af cf ad cd l' W' :=
 ⟨hw,h.ob.kept hk,h.be.trans hk.1⟩
end
theorem nA.toB {W:World} {g:Nat} {m:Im.eU} (h:nA W g m) (ob:Obj):∃ at_ ct af cf ad cd,Cx (W.alloc ob) W.heap.size g m at_ ct af cf ad cd:=by
 obtain ⟨at_,ct,af,cf,ad,cd,hb,h1,h2,h3⟩:=h.open;have ne:∀ {e:TypeId} {size:Nat} {ao:Option Addr} {n cap:Nat} {xs:List Value},W.ownsRow 0 e size (.slice ao n cap) n xs->∀ k,Value.ownBlock (.slice ao n cap)=some k->k≠W.heap.size:=fun h k hk=>by have:=(h.lt k hk).2; omega
 refine ⟨at_,ct,af,cf,ad,cd,hb.grown (aH _ _ none) (by simp),by have:=hb.lt; omega,?_,?_,?_⟩
 ·exact tY.aU (h1.alloc _) (ne h1)
 ·exact tY.aU (h2.alloc _) (ne h2)
 ·exact tY.aU (h3.alloc _) (ne h3)
def Ru (xs:List Int):Prop:=∀ i (h:i < xs.length),-1099511627776<=xs[i]/\xs[i]<=1099511627776
theorem yjX (g:Nat) (m:Im.eU) (w:World) (h:nA w g m) (ht:Im.jH m) (hT:Ru m.T) (hF:Ru m.F) (hD:Ru m.D) :
  Calls Tryz.prog 42 #[.pointer (some ⟨g,0,none⟩)] w fun e w'=>e = .returned (.string (bs (Im.bytes m)))/\w.grownBy w' none:=by
 obtain ⟨a1,a2,a3,a4,a5,a6⟩:=ht;have HT:=hid hT;have HF:=hid hF;have HD:=hid hD;obtain ⟨at_,ct,af,cf,ad,cd,oV⟩:=h.toB (.cells #[.slice none 0 0] 105);have S0:Hd (Nv w w.heap.size g m at_ ct af cf ad cd [] (w.alloc (.cells #[.slice none 0 0] 105))):=⟨Z8 w,oV,(Below.refl _ _).alloc (Nat.le_refl _) _⟩
 clear oV h hT hF hD;go_enter Tryz.func42,Tryz.ntmps42;go_wp2_with fail;generalize hbb:w.heap.size=b at *;have oN:=hid hbb;clear hbb;refine Calls.aK (Nv w b g m at_ ct af cf ad cd []) S0.o ?_;clear S0;intro V0 h0;have S0:=hid h0;clear h0;refine (Vo b ⟨#[73,77]⟩ [] V0 S0.o.wr (by simp) (by decide)).mono ?_;rintro e V1 ⟨rfl,hw,hk⟩;have S1:=hid (S0.o.step hw hk);clear S0;generalize hE1:[] ++ sl ⟨#[73,77]⟩=l1 at *;have n1:l1.length<=2:=by rw [<- hE1]; decide
 have E1:=hid hE1;clear hE1 hw hk;have k0:=S1.o.ob.blk.cell 0;go_wp2_with fail;refine (yI b m.start 4 4 rfl l1 V1 S1.o.wr (by omega) (by omega) (by omega) (by omega)).mono ?_;rintro e V2 ⟨rfl,hw,hk⟩;have S2:=hid (S1.o.step hw hk);clear S1 k0;generalize hE2:l1 ++ Lk.le m.start 4=l2 at *;have n2:l2.length<=6:=by rw [<- hE2,eP,Lk.aA]; omega
 have E2:=hid hE2;clear hE2 hw hk;have k0:=S2.o.ob.blk.cell 1;go_wp2_with fail;refine (yI b m.text 4 4 rfl l2 V2 S2.o.wr (by omega) (by omega) (by omega) (by omega)).mono ?_;rintro e V3 ⟨rfl,hw,hk⟩;have S3:=hid (S2.o.step hw hk);clear S2 k0;generalize Kg:l2 ++ Lk.le m.text 4=l3 at *;have n3:l3.length<=10:=by rw [<- Kg,eP,Lk.aA]; omega
 have E3:=hid Kg;clear Kg hw hk;have k0:=S3.o.ob.blk.cell 2;go_wp2_with fail;refine (yI b m.far 4 4 rfl l3 V3 S3.o.wr (by omega) (by omega) (by omega) (by omega)).mono ?_;rintro e V4 ⟨rfl,hw,hk⟩;have S4:=hid (S3.o.step hw hk);clear S3 k0;generalize Kh:l3 ++ Lk.le m.far 4=l4 at *;have n4:l4.length<=14:=by rw [<- Kh,eP,Lk.aA]; omega
 have E4:=hid Kh;clear Kh hw hk;have k0:=S4.o.ob.blk.cell 3;go_wp2_with fail;refine (yI b m.data 4 4 rfl l4 V4 S4.o.wr (by omega) (by omega) (by omega) (by omega)).mono ?_;rintro e V5 ⟨rfl,hw,hk⟩;have S5:=hid (S4.o.step hw hk);clear S4 k0;generalize Ki:l4 ++ Lk.le m.data 4=l5 at *;have n5:l5.length<=18:=by rw [<- Ki,eP,Lk.aA]; omega
 have E5:=hid Ki;clear Ki hw hk;have k0:=S5.o.ob.blk.cell 4;go_wp2_with fail;refine (yI b (m.T.length:Int) 2 2 rfl l5 V5 S5.o.wr (by omega) (by omega) (by omega) (by omega)).mono ?_;rintro e V6 ⟨rfl,hw,hk⟩;have S6:=hid (S5.o.step hw hk);clear S5 k0;generalize Kj:l5 ++ Lk.le (m.T.length:Int) 2=l6 at *;have n6:l6.length<=20:=by rw [<- Kj,eP,Lk.aA]; omega
 have E6:=hid Kj;clear Kj hw hk;have k0:=S6.o.ob.blk.cell 5;go_wp2_with fail;refine (yI b (m.F.length:Int) 2 2 rfl l6 V6 S6.o.wr (by omega) (by omega) (by omega) (by omega)).mono ?_;rintro e V7 ⟨rfl,hw,hk⟩;have S7:=hid (S6.o.step hw hk);clear S6 k0;generalize Kk:l6 ++ Lk.le (m.F.length:Int) 2=l7 at *;have n7:l7.length<=22:=by rw [<- Kk,eP,Lk.aA]; omega
 have E7:=hid Kk;clear Kk hw hk;have k0:=S7.o.ob.blk.cell 6;go_wp2_with fail;refine (yI b (m.D.length:Int) 2 2 rfl l7 V7 S7.o.wr (by omega) (by omega) (by omega) (by omega)).mono ?_;rintro e V8 ⟨rfl,hw,hk⟩;have S8:=hid (S7.o.step hw hk);clear S7 k0;generalize Kl:l7 ++ Lk.le (m.D.length:Int) 2=l8 at *;have n8:l8.length<=24:=by rw [<- Kl,eP,Lk.aA]; omega
 have E8:=hid Kl;clear Kl hw hk;have k0:=S8.o.ob.blk.cell 7;go_wp2_with fail;refine (yI b m.noughts 2 2 rfl l8 V8 S8.o.wr (by omega) (by omega) (by omega) (by omega)).mono ?_;rintro e V9 ⟨rfl,hw,hk⟩;have S9:=hid (S8.o.step hw hk);clear S8 k0;generalize Km:l8 ++ Lk.le m.noughts 2=l9 at *;have n9:l9.length<=26:=by rw [<- Km,eP,Lk.aA]; omega
 have E9:=hid Km;clear Km hw hk;have k0:=S9.o.ob.blk.cell 4;go_wp2_with fail;refine (KZ b at_ ct 4 4 rfl m.T l9 V9 S9.o.wr S9.o.ob.text (by omega) (by omega) (by omega) HT.o).mono ?_;rintro e Nw ⟨rfl,hw,hk⟩;have rU:=hid (S9.o.step hw hk);clear S9 k0;generalize xL:l9 ++ Lk.nums m.T 4=l10 at *;have n10:l10.length<=262166:=by rw [<- xL,eP,Jz]; omega
 have Sq:=hid xL;clear xL hw hk;have k0:=rU.o.ob.blk.cell 5;go_wp2_with fail;refine (KZ b af cf 4 4 rfl m.F l10 Nw rU.o.wr rU.o.ob.far (by omega) (by omega) (by omega) HF.o).mono ?_;rintro e Ny ⟨rfl,hw,hk⟩;have sV:=hid (rU.o.step hw hk);clear rU k0;generalize xM:l10 ++ Lk.nums m.F 4=AV at *;have n11:AV.length<=524306:=by rw [<- xM,eP,Jz]; omega
 have Sr:=hid xM;clear xM hw hk;have k0:=sV.o.ob.blk.cell 6;go_wp2_with fail;refine (KZ b ad cd 4 4 rfl m.D AV Ny sV.o.wr sV.o.ob.data (by omega) (by omega) (by omega) HD.o).mono ?_;rintro e Td ⟨rfl,hw,hk⟩;have Aj:=hid (sV.o.step hw hk);clear sV k0;generalize xO:AV ++ Lk.nums m.D 4=GX at *;have n12:GX.length<=786446:=by rw [<- xO,eP,Jz]; omega
 have LM:=hid xO;clear xO hw hk;go_wp2_with fail;refine (Za b GX Td Aj.o.wr).mono ?_;rintro e w2 ⟨rfl,rfl⟩;have FIN:=hid (show GX=Im.bytes m by rw [<- LM.o,<- Sr.o,<- Sq.o,<- E9.o,<- E8.o,<- E7.o,<- E6.o,<- E5.o,<- E4.o,<- E3.o,<- E2.o,<- E1.o]; simp [Im.bytes,sl]);have GR:=hid Aj.o.be;clear Aj;go_wp2;go_ret;refine ⟨by rw [FIN.o]; rfl,?_⟩;have hb:=GR.o;exact ⟨hb.os,hb.tape,hb.output,hb.size,fun i hi _=>hb.block i (by have:=oN.o; omega)⟩
end Go.Proofs.YtpgklkhgfcjceaaGreatDoor
