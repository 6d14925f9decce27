
import Derived.Test.YtelehpmjhjljgaaGreatDoorV18
set_option maxHeartbeats 16000000
set_option maxRecDepth 100000
namespace Go.Proofs.YtelehpmjhjljgaaGreatDoor
open Go.RowKit
theorem YO (s:ByteArray) (p n:Nat) (mp mn:Int) (hp':mp=(p:Int)) (hn':mn=(n:Int)) (w:World) (hs:s.size<=1048576) (hp:p<=16777216) (hn:n<=16777216) :
  Calls Tryz.prog 59 #[.string s,.int .i64 mp,.int .i64 mn] w fun e w'=>e = .returned (.string (bs (kM (sl s) p n)))/\w'=w:=by
 subst hp' hn'; exact yom s p n w hs hp hn
theorem QN (s:ByteArray) (p n:Nat) (mp mn:Int) (hp':mp=(p:Int)) (hn':mn=(n:Int)) (w:World) (hs:s.size<=1048576) (hp:p<=8388608) (hn:n<=65535) :
  Calls Tryz.prog 60 #[.string s,.int .i64 mp,.int .i64 mn] w fun e w'=>∃ v,e = .returned v/\w'.ownsRow w.heap.size 3 1 v (min n 1201) ((lZ (sl s) p (min n 1201)).map (Value.int .i64))/\w.grownBy w' none:=by
 subst hp' hn'; exact ykj s p n w hs hp hn
def zq (l:List UInt8):Nat->List Int
 | 0=>[]
 | k+1=>zq l k ++ [bX l (10+k) 1]
structure rM (w:World) (g:Nat) (cs:Array Value) (rows:List Row) (W:World):Prop where
 obj:ye W g cs 75
 rows:∀ r∈rows,r.In W (g+1)
 gr:w.grownBy W none
section
variable {w W W' w3:World} {g:Nat} {cs cs':Array Value} {rows:List Row}
theorem rM.begin (w:World) (cs:Array Value):rM w w.heap.size cs [] (w.alloc (.cells cs 75)) :=
 ⟨ye.new w cs 75,(by simp),aH w _ none⟩
theorem rM.store (h:rM w g cs rows W) (hw:w.heap.size<=g) (o:Nat) (v:Value):rM w g (cs.setIfInBounds o v) rows (W.setCell ⟨g,o,none⟩ v) :=
 ⟨h.obj.set o v,fun r hr=>ownsRow_setCell_below (h.rows r hr) (Nat.lt_succ_self g) v,Aa h.gr (yi W g o v) hw⟩
theorem rM.row (h:rM w g cs rows W) (hw:w.heap.size<=g) (hB:ye W' g cs' 75) (hg:W.grownBy W' (some g)) (r:Row) (hrow:r.In W' W.heap.size):rM w g cs' (r :: rows) W':=by
 refine ⟨hB,?_,Aa h.gr hg hw⟩;intro q hq;rcases List.mem_cons.1 hq with rfl | hq
 ·exact uX hrow h.obj.lt
 ·exact EU (h.rows q hq) (Nat.lt_succ_self g) hg
theorem rM.put (h:rM w g cs rows W) (hw:w.heap.size<=g) (hg:W.grownBy W' none) (r:Row) (hrow:r.In W' W.heap.size) (o:Nat):rM w g (cs.setIfInBounds o r.v) (r :: rows) (W'.setCell ⟨g,o,none⟩ r.v):=by
 have hB:=h.obj.grown hg (by simp);refine rM.row h hw (hB.set o r.v) (ya (World.grownBy.mk hg.os hg.tape hg.output hg.size (fun i hi _=>hg.block i hi (by simp))) (yi W' g o r.v)) r ?_;exact ownsRow_setCell_below hrow h.obj.lt r.v
theorem Nh {wS wr:World} {ob:Obj} {row:Option Nat} (hg:g < wS.heap.size) (hB:ye wr g cs 75) (hk:(wr.alloc ob).grownBy w3 row) (hrow:∀ b,row=some b->wS.heap.size<=b):ye w3 g cs 75 :=
 (hB.grown (aH wr ob none) (by simp)).grown hk (fun e=>by have:=hrow g e.symm; omega)
theorem Nb {wS wr:World} {o:Nat} {e:TypeId} {size:Nat} {v':Value} {n:Nat} {xs:List Value} {ob:Obj} {row:Option Nat} (hg:g < wS.heap.size) (hB:ye wr g cs 75) (hG:wS.grownBy wr (some g)) (hk:(wr.alloc ob).grownBy w3 row) (hrow:∀ b,row=some b->wS.heap.size<=b) (hown:w3.ownsRow wS.heap.size e size v' n xs) :
  ye (w3.setCell ⟨g,o,none⟩ v') g (cs.setIfInBounds o v') 75/\(w3.setCell ⟨g,o,none⟩ v').ownsRow wS.heap.size e size v' n xs/\wS.grownBy (w3.setCell ⟨g,o,none⟩ v') (some g):=by
 have h1:wr.grownBy (wr.alloc ob) none:=aH wr ob none;have h2:ye w3 g cs 75:=(hB.grown h1 (by simp)).grown hk (fun e=>by have:=hrow g e.symm; omega);exact ⟨h2.set o v',ownsRow_setCell_below hown hg v',ya (BU (BU hG h1 (by simp)) hk hrow) (yi w3 g o v')⟩
end
theorem SB (W:World) (cs:Array Value) (t:TypeId):∀ j u,cs.toList[j]?=some u->(W.alloc (.cells cs t)).cell? ((⟨W.heap.size,0,none⟩:Addr).add j)=some u :=
 World.news_of_block (heap_alloc_new W (.cells cs t))
def Na (s:ByteArray) (e:Ending) (w':World):Prop :=
 (jG (sl s)/\∃ g,e = .returned (.tuple #[.pointer (some ⟨g,0,none⟩),.bool true])/\yq w' g (yF (sl s))) \/
 (¬ jG (sl s)/\∃ v,e = .returned (.tuple #[v,.bool false]))
theorem ynK (l:List UInt8):pq (yF l):=by
 have r2:=q9 l 2 2;have r14:=q9 l 14 1;have r15:=q9 l 15 1;simp only [Int.reducePow] at r2 r14 r15;refine ⟨⟨?_,?_,?_,?_,?_,?_⟩,?_,?_⟩
 ·simp only [yF,Gc]; omega
 ·simp only [yF,Gc]; omega
 ·simp only [yF,Gc]; omega
 ·simp [yF]
 ·simp only [yF,WZ]; omega
 ·simp only [yF,WY]; omega
 ·have H:∀ k,∀ y∈(yG l k).1,y.name.length<=255:=by
   intro k
   induction k with
   | zero=>intro y hy; simp [yG] at hy
   | succ k ih =>
    intro y hy;simp only [yG,List.mem_append,List.mem_singleton] at hy;rcases hy with hy | rfl
    ·exact ih y hy
    ·have h:=q9 l (yG l k).2 1;simp only [Int.reducePow] at h;simp only [bD,kM,List.length_take];omega
  exact H _
 ·have H:∀ p k,∀ r∈rC l p k,r.off<=9223372036854775807:=by
   intro p k
   induction k with
   | zero=>intro y hy; simp [rC] at hy
   | succ k ih =>
    intro y hy;simp only [rC,List.mem_append,List.mem_singleton] at hy;rcases hy with hy | rfl
    ·exact ih y hy
    ·have h:=q9 l (p+7 * k+2) 2;simp only [Int.reducePow] at h;simp only [Gs];omega
  exact H _ _
theorem Rz (s:ByteArray) (w:World) (hs:s.size<=1048576) :
  Calls Tryz.prog 27 #[.string s] w fun e w'=>Na s e w'/\w.grownBy w' none:=by
 obtain ⟨i0,hi,hz0,hz1,hz2⟩:=info_parts Tryz.fP;obtain ⟨i1,hi1,hy0,hy1,hy2⟩:=info_parts Tryz.vF;obtain ⟨i2,hi2,hx0,hx1,hx2⟩:=info_parts Tryz.vE;by_cases hlen:65536 < s.size
 ·have d:decide (65536 < (s.size:Int))=true:=by simp; omega
  have HL:=hid (rz s);go_enter Tryz.func27,Tryz.ntmps27;go_wp2;go_ret2;exact ⟨.inr ⟨fun h=>by have:=Kl h; rw [HL.o] at this; omega,_,rfl⟩,World.grownBy.refl _ _⟩
 have aad:decide (65536 < (s.size:Int))=false:=by simp; omega
 have q2:=q9 (sl s) 2 2;have q4:=q9 (sl s) 4 2;have q6:=q9 (sl s) 6 2;have Qs:=q9 (sl s) 14 1;have Qt:=q9 (sl s) 15 1;simp only [Int.reducePow] at q2 q4 q6 Qs Qt;have Bf:=hid (show yF (sl s)=⟨lZ (sl s) ((yG (sl s) (bX (sl s) 14 1).toNat).2+7 * (bX (sl s) 15 1).toNat) (min (bX (sl s) 2 2).toNat 1201),
  lZ (sl s) ((yG (sl s) (bX (sl s) 14 1).toNat).2+7 * (bX (sl s) 15 1).toNat+4 * (bX (sl s) 2 2).toNat) (min (bX (sl s) 4 2).toNat 1201),
  lZ (sl s) ((yG (sl s) (bX (sl s) 14 1).toNat).2+7 * (bX (sl s) 15 1).toNat+4 * (bX (sl s) 2 2).toNat+4 * (bX (sl s) 4 2).toNat) (min (bX (sl s) 6 2).toNat 1201),
  bX (sl s) 8 2,zq (sl s) 4,(yG (sl s) (bX (sl s) 14 1).toNat).1,rC (sl s) (yG (sl s) (bX (sl s) 14 1).toNat).2 (bX (sl s) 15 1).toNat⟩ from rfl)
 have Cv:=hid (ykt (sl s));have a2:=hid (fun W=>qQ s 2 2 2 2 rfl rfl W hs (by omega) (by omega));have a4:=hid (fun W=>qQ s 4 2 4 2 rfl rfl W hs (by omega) (by omega));have a6:=hid (fun W=>qQ s 6 2 6 2 rfl rfl W hs (by omega) (by omega));have a8:=hid (fun W=>qQ s 8 2 8 2 rfl rfl W hs (by omega) (by omega));have OM:=hid (fun W=>qQ s 14 1 14 1 rfl rfl W hs (by omega) (by omega));have OO:=hid (fun W=>qQ s 15 1 15 1 rfl rfl W hs (by omega) (by omega));generalize bX (sl s) 8 2=bss at *;obtain ⟨nt,ht⟩:=Int.eq_ofNat_of_zero_le q2.1;obtain ⟨nf,hf⟩:=Int.eq_ofNat_of_zero_le q4.1;obtain ⟨nd,hd⟩:=Int.eq_ofNat_of_zero_le q6.1
 obtain ⟨ns,hns⟩:=Int.eq_ofNat_of_zero_le Qs.1;obtain ⟨nr,hnr⟩:=Int.eq_ofNat_of_zero_le Qt.1;rw [ht] at q2;rw [hf] at q4;rw [hd] at q6;rw [hns] at Qs;rw [hnr] at Qt;rw [ht] at a2;rw [hf] at a4;rw [hd] at a6;rw [hns] at OM;rw [hnr] at OO;rw [ht,hf,hd,hns,hnr] at Bf;simp only [Int.toNat_natCast] at Bf;clear ht hf hd hns hnr;go_enter Tryz.func27,Tryz.ntmps27;go_wp2_with fail;refine Calls.bG (rM w w.heap.size #[.slice none 0 0,.slice none 0 0,.slice none 0 0,.int .i64 0,.slice none 0 0,.slice none 0 0,.slice none 0 0] []) (rM.begin w _) ?_;generalize hg:w.heap.size=g at *;have hw0:w.heap.size<=g:=by omega
 clear hg;intro V0 h0;refine (a8.o V0).mono ?_;rintro e V ⟨rfl,rfl⟩;have k:=h0.obj.cell 3;have f:=h0.obj.free 3;have P0:=hid (h0.store hw0 3 (.int .i64 bss));clear h0;simp only [fu,fC,eX] at P0;go_wp2;have mJ:=P0.o.obj.lt;generalize World.setCell V ⟨g,3,none⟩ (.int .i64 bss)=V1 at *;clear k f V
 go_loopw [5] (fun i wr=>∃ k:Nat,∃ v:Value,k<=4/\i = .int .i64 k/\ye wr g #[.slice none 0 0,.slice none 0 0,.slice none 0 0,.int .i64 bss,v,.slice none 0 0,.slice none 0 0] 75/\wr.ownsRow V1.heap.size 3 1 v k ((zq (sl s) k).map (Value.int .i64))/\V1.grownBy wr (some g)) (fun i _=>4 - (intOf i).toNat)
 case atStart=>exact ⟨0,_,Nat.zero_le _,rfl,P0.o.obj,World.ownsRow_nil _ _ _ _,World.grownBy.refl _ _⟩
 case round =>
  obtain ⟨k,v,hk4,rfl,hB,hown,hgr⟩:=hrel;obtain ⟨av,cv,rfl⟩:=yj hown;have HB:=hid hB;have HG:=hid hgr;have c4:=hB.cell 4;have f4:=hB.free 4;have hsz:=hgr.size;clear hB hgr;by_cases hlt:k < 4
  ·have hlt':(k:Int) < 4:=by omega
   have aK:=hid (fun W=>qQ s (10+k) 1 (10+(k:Int)) 1 (by omega) rfl W hs (by omega) (by omega));have eu:=hid (show zq (sl s) (k+1)=zq (sl s) k ++ [bX (sl s) (10+k) 1] from rfl);generalize bX (sl s) (10+k) 1=x at *;go_wp2_with fail;refine (aK.o _).mono ?_;rintro e V ⟨rfl,rfl⟩;go_wp2_with (at_builtin; refine wpList_append_own _ rfl _ _ 35 rfl V1.heap.size 3 i0 (.int .i64 0) 1 8 Tryz.underlying35 hi hz0 hz1 hz2 rfl (by decide) _ _ _ rfl (hown.alloc _) ⟨V.heap.size,0,none⟩ 1 1 [.int .i64 x] rfl rfl (cell_one_new _ _ _) (by intro u hu; simp at hu; subst hu; rfl) (by unfold maxLen; omega) (by omega) (by simp; omega) ?_; intro v' w3 hown' hgrow _; obtain ⟨jN,cv',rfl⟩:=yj hown'; have KB:=Nh mJ HB.o hgrow (fun b hb=>(hown.lt b hb).1); have c4':=KB.cell 4; have f4':=KB.free 4; have K:=hid (Nb (o:=4) mJ HB.o HG.o hgrow (fun b hb=>(hown.lt b hb).1) hown'); clear hgrow hown' KB)
   simp only [fu,fC,eX] at K;go_wp2
   go_roundw
   case rel=>exact ⟨k+1,_,by omega,by go_num,K.o.1,by rw [eu.o,List.map_append]; exact K.o.2.1,K.o.2.2⟩
   case measure=>simp [intOf]; omega
  ·obtain rfl:k=4:=by omega
   have P1:=hid (P0.o.row hw0 HB.o HG.o ⟨3,1,.slice av 4 cv,4,(zq (sl s) 4).map (Value.int .i64)⟩ hown);obtain ⟨V2,hV2⟩:∃ wo:World,wo=wr:=⟨_,rfl⟩
   subst hV2;clear hown HB HG c4 f4 hsz P0 mJ;have mJ:=P1.o.obj.lt;go_wp2_with fail;refine (OM.o _).mono ?_;rintro e V ⟨rfl,rfl⟩;go_wp2_with fail;refine (OO.o _).mono ?_;rintro e V3 ⟨rfl,rfl⟩;go_wp2
   go_loopw [9,10] (fun p i wr=>∃ k:Nat,∃ v:Value,k<=ns/\i = .int .i64 k/\p = .int .i64 ((yG (sl s) k).2:Int)/\ye wr g #[.slice none 0 0,.slice none 0 0,.slice none 0 0,.int .i64 bss,.slice av 4 cv,v,.slice none 0 0] 75/\wr.ownsRow V3.heap.size 77 4 v k ((yG (sl s) k).1.flatMap iO)/\V3.grownBy wr (some g)) (fun _ i _=>ns - (intOf i).toNat)
   case atStart=>exact ⟨0,_,Nat.zero_le _,rfl,rfl,P1.o.obj,World.ownsRow_nil _ _ _ _,World.grownBy.refl _ _⟩
   case round =>
    obtain ⟨k,v,hkn,rfl,rfl,hB,hown,hgr⟩:=hrel;obtain ⟨pE,pG,rfl⟩:=yj hown;have HB:=hid hB;have HG:=hid hgr;have c5:=hB.cell 5;have f5:=hB.free 5;have hsz:=hgr.size;have hpos:=Cv.o k;clear hB hgr;by_cases hlt:k < ns
    ·have hlt':(k:Int) < (ns:Int):=by omega
     have HE:=hid (show (yG (sl s) (k+1)).1=(yG (sl s) k).1 ++ [bD (sl s) (yG (sl s) k).2] from rfl);have HP:=hid (show (yG (sl s) (k+1)).2=(yG (sl s) k).2+5+(bX (sl s) (yG (sl s) k).2 1).toNat from rfl);generalize (yG (sl s) k).2=p at *;have rn:=q9 (sl s) p 1;simp only [Int.reducePow] at rn;have b0:=hid (fun W=>qQ s p 1 (p:Int) 1 rfl rfl W hs (by omega) (by omega));have HX:=hid (show bD (sl s) p=⟨kM (sl s) (p+1) (bX (sl s) p 1).toNat,bX (sl s) (p+1+(bX (sl s) p 1).toNat) 1,bX (sl s) (p+2+(bX (sl s) p 1).toNat) 1,bX (sl s) (p+3+(bX (sl s) p 1).toNat) 2⟩ from rfl);obtain ⟨n,hn⟩:=Int.eq_ofNat_of_zero_le rn.1
     rw [hn] at rn b0 HX HP;simp only [Int.toNat_natCast] at HX HP;clear hn;have b1:=hid (fun W=>qQ s (p+1+n) 1 ((p:Int)+1+(n:Int)) 1 (by omega) rfl W hs (by omega) (by omega));have b2:=hid (fun W=>qQ s (p+2+n) 1 ((p:Int)+2+(n:Int)) 1 (by omega) rfl W hs (by omega) (by omega));have b3:=hid (fun W=>qQ s (p+3+n) 2 ((p:Int)+3+(n:Int)) 2 (by omega) rfl W hs (by omega) (by omega));have b4:=hid (fun W=>YO s (p+1) n ((p:Int)+1) (n:Int) (by omega) rfl W hs (by omega) (by omega));generalize bX (sl s) (p+1+n) 1=y1 at *;generalize bX (sl s) (p+2+n) 1=y2 at *;generalize bX (sl s) (p+3+n) 2=y3 at *;generalize kM (sl s) (p+1) n=y0 at *
     go_wp2_with fail;refine (b0.o _).mono ?_;rintro e V ⟨rfl,rfl⟩;go_wp2_with fail;refine (b1.o _).mono ?_;rintro e V ⟨rfl,rfl⟩;go_wp2_with fail;refine (b2.o _).mono ?_;rintro e V ⟨rfl,rfl⟩;go_wp2_with fail;refine (b3.o _).mono ?_;rintro e V ⟨rfl,rfl⟩;go_wp2_with fail;refine (b4.o _).mono ?_;rintro e V ⟨rfl,rfl⟩;go_wp2_with (at_builtin; refine wpList_append_own _ rfl _ _ 72 rfl V3.heap.size 77 i1 (.agg #[.string ⟨#[]⟩,.int .i64 0,.int .i64 0,.int .i64 0]) 4 40 Tryz.underlying72 hi1 hy0 hy1 hy2 rfl (by decide) _ _ _ rfl (hown.alloc _) ⟨V.heap.size,0,none⟩ 1 1 (iO ⟨y0,y1,y2,y3⟩) rfl rfl (SB _ _ _) (by intro u hu; simp [iO] at hu; rcases hu with rfl | rfl | rfl | rfl <;> rfl) (by unfold maxLen; omega) (by omega) (by simp; omega) ?_; intro v' w3 hown' hgrow _; obtain ⟨jN,cv',rfl⟩:=yj hown'; have KB:=Nh mJ HB.o hgrow (fun b hb=>(hown.lt b hb).1); have OT:=KB.cell 5; have f5':=KB.free 5; have K:=hid (Nb (o:=5) mJ HB.o HG.o hgrow (fun b hb=>(hown.lt b hb).1) hown'); clear hgrow hown' KB)
     simp only [fu,fC,eX] at K;go_wp2
     go_roundw
     case rel=>exact ⟨k+1,_,by omega,by go_num,by rw [HP.o]; go_num,K.o.1,by rw [HE.o,HX.o,List.flatMap_append]; simpa using K.o.2.1,K.o.2.2⟩
     case measure=>simp [intOf]; omega
    ·obtain rfl:k=ns:=by omega
     have P2:=hid (P1.o.row hw0 HB.o HG.o ⟨77,4,.slice pE k pG,k,(yG (sl s) k).1.flatMap iO⟩ hown);obtain ⟨V4,hV4⟩:∃ wo:World,wo=wr:=⟨_,rfl⟩
     subst hV4;clear hown HB HG c5 f5 hsz P1 mJ;have mJ:=P2.o.obj.lt;generalize (yG (sl s) k).2=ps at *;go_wp2
     go_loopw [9,17] (fun p i wr=>∃ j:Nat,∃ v:Value,j<=nr/\i = .int .i64 j/\p = .int .i64 ((ps+7 * j:Nat):Int)/\ye wr g #[.slice none 0 0,.slice none 0 0,.slice none 0 0,.int .i64 bss,.slice av 4 cv,.slice pE k pG,v] 75/\wr.ownsRow V4.heap.size 83 5 v j ((rC (sl s) ps j).flatMap iH)/\V4.grownBy wr (some g)) (fun _ i _=>nr - (intOf i).toNat)
     case atStart=>exact ⟨0,_,Nat.zero_le _,rfl,rfl,P2.o.obj,World.ownsRow_nil _ _ _ _,World.grownBy.refl _ _⟩
     case round =>
      obtain ⟨j,v,hjn,rfl,rfl,hB,hown,hgr⟩:=hrel;obtain ⟨qX,qZ,rfl⟩:=yj hown;have HB:=hid hB;have HG:=hid hgr;have c6:=hB.cell 6;have f6:=hB.free 6;have hsz:=hgr.size;clear hB hgr;by_cases hlt:j < nr
      ·have hlt':(j:Int) < (nr:Int):=by omega
       have HE:=hid (show rC (sl s) ps (j+1)=rC (sl s) ps j ++ [Gs (sl s) (ps+7 * j)] from rfl);have HP:=hid (show ps+7 * (j+1)=ps+7 * j+7 from by omega);have hpp:ps+7 * j<=1048576:=by omega
       generalize ps+7 * j=p at *;have HX:=hid (show Gs (sl s) p=⟨bX (sl s) p 1,bX (sl s) (p+2) 2,bX (sl s) (p+1) 1,bX (sl s) (p+4) 1,Lk.tL (bX (sl s) (p+5) 2)⟩ from rfl);have rn:=q9 (sl s) (p+5) 2;simp only [Int.reducePow] at rn;have b0:=hid (fun W=>qQ s p 1 (p:Int) 1 rfl rfl W hs (by omega) (by omega));have b1:=hid (fun W=>qQ s (p+1) 1 ((p:Int)+1) 1 (by omega) rfl W hs (by omega) (by omega));have b2:=hid (fun W=>qQ s (p+2) 2 ((p:Int)+2) 2 (by omega) rfl W hs (by omega) (by omega));have b3:=hid (fun W=>qQ s (p+4) 1 ((p:Int)+4) 1 (by omega) rfl W hs (by omega) (by omega));have b4:=hid (fun W=>qQ s (p+5) 2 ((p:Int)+5) 2 (by omega) rfl W hs (by omega) (by omega))
       generalize bX (sl s) p 1=y0 at *;generalize bX (sl s) (p+1) 1=y1 at *;generalize bX (sl s) (p+2) 2=y2 at *;generalize bX (sl s) (p+4) 1=y3 at *;generalize bX (sl s) (p+5) 2=y4 at *;go_wp2_with fail;refine (b0.o _).mono ?_;rintro e V ⟨rfl,rfl⟩;go_wp2_with fail;refine (b1.o _).mono ?_;rintro e V ⟨rfl,rfl⟩;go_wp2_with fail;refine (b2.o _).mono ?_;rintro e V ⟨rfl,rfl⟩;go_wp2_with fail;refine (b3.o _).mono ?_;rintro e V ⟨rfl,rfl⟩;go_wp2_with fail;refine (b4.o _).mono ?_;rintro e V ⟨rfl,rfl⟩;rcases (show (y4 - 65536=Lk.tL y4/\decide (32767 < y4)=true)\/(y4=Lk.tL y4/\decide (32767 < y4)=false) from by unfold Lk.tL; by_cases c:32767 < y4 <;> simp <;> omega) with ⟨hsg,hdc⟩ | ⟨hsg,hdc⟩
       ·have Oi:=hid hsg;clear hsg;go_wp2_with (at_builtin; refine wpList_append_own _ rfl _ _ 73 rfl V4.heap.size 83 i2 (.agg #[.int .i64 0,.int .i64 0,.int .i64 0,.int .i64 0,.int .i64 0]) 5 40 Tryz.underlying73 hi2 hx0 hx1 hx2 rfl (by decide) _ _ _ rfl (hown.alloc _) ⟨V.heap.size,0,none⟩ 1 1 (iH ⟨y0,y2,y1,y3,y4 - 65536⟩) rfl rfl (SB _ _ _) (by intro u hu; simp [iH] at hu; rcases hu with rfl | rfl | rfl | rfl | rfl <;> rfl) (by unfold maxLen; omega) (by omega) (by simp; omega) ?_; intro v' w3 hown' hgrow _; obtain ⟨jN,cv',rfl⟩:=yj hown'; have KB:=Nh mJ HB.o hgrow (fun b hb=>(hown.lt b hb).1); have c6':=KB.cell 6; have f6':=KB.free 6; have K:=hid (Nb (o:=6) mJ HB.o HG.o hgrow (fun b hb=>(hown.lt b hb).1) hown'); clear hgrow hown' KB)
        simp only [fu,fC,eX] at K;go_wp2
        go_roundw
        case rel=>exact ⟨j+1,_,by omega,by go_num,by rw [HP.o]; go_num,K.o.1,by rw [HE.o,HX.o,<- Oi.o,List.flatMap_append]; simpa using K.o.2.1,K.o.2.2⟩
        case measure=>simp [intOf]; omega
       ·have Oi:=hid hsg;clear hsg;go_wp2_with (at_builtin; refine wpList_append_own _ rfl _ _ 73 rfl V4.heap.size 83 i2 (.agg #[.int .i64 0,.int .i64 0,.int .i64 0,.int .i64 0,.int .i64 0]) 5 40 Tryz.underlying73 hi2 hx0 hx1 hx2 rfl (by decide) _ _ _ rfl (hown.alloc _) ⟨V.heap.size,0,none⟩ 1 1 (iH ⟨y0,y2,y1,y3,y4⟩) rfl rfl (SB _ _ _) (by intro u hu; simp [iH] at hu; rcases hu with rfl | rfl | rfl | rfl | rfl <;> rfl) (by unfold maxLen; omega) (by omega) (by simp; omega) ?_; intro v' w3 hown' hgrow _; obtain ⟨jN,cv',rfl⟩:=yj hown'; have KB:=Nh mJ HB.o hgrow (fun b hb=>(hown.lt b hb).1); have c6':=KB.cell 6; have f6':=KB.free 6; have K:=hid (Nb (o:=6) mJ HB.o HG.o hgrow (fun b hb=>(hown.lt b hb).1) hown'); clear hgrow hown' KB)
        simp only [fu,fC,eX] at K;go_wp2
        go_roundw
        case rel=>exact ⟨j+1,_,by omega,by go_num,by rw [HP.o]; go_num,K.o.1,by rw [HE.o,HX.o,<- Oi.o,List.flatMap_append]; simpa using K.o.2.1,K.o.2.2⟩
        case measure=>simp [intOf]; omega
      ·obtain rfl:j=nr:=by omega
       have P3:=hid (P2.o.row hw0 HB.o HG.o ⟨83,5,.slice qX j qZ,j,(rC (sl s) ps j).flatMap iH⟩ hown);obtain ⟨V5,hV5⟩:∃ wo:World,wo=wr:=⟨_,rfl⟩
       subst hV5;clear hown HB HG c6 f6 hsz P2 mJ;have hpe:ps+7 * j<=1048576:=by omega
       generalize ps+7 * j=pe at *;have n1:=hid (fun W=>QN s pe nt (pe:Int) (nt:Int) rfl rfl W hs (by omega) (by omega));have n2:=hid (fun W=>QN s (pe+4 * nt) nf ((pe:Int)+4 * (nt:Int)) (nf:Int) (by omega) rfl W hs (by omega) (by omega));have n3:=hid (fun W=>QN s (pe+4 * nt+4 * nf) nd ((pe:Int)+4 * (nt:Int)+4 * (nf:Int)) (nd:Int) (by omega) rfl W hs (by omega) (by omega));go_wp2_with fail;refine (a2.o _).mono ?_;rintro e V ⟨rfl,rfl⟩;go_wp2_with fail;refine (a4.o _).mono ?_;rintro e V ⟨rfl,rfl⟩;go_wp2_with fail;refine (a6.o _).mono ?_;rintro e V ⟨rfl,rfl⟩;go_wp2_with fail;refine (n1.o _).mono ?_
       rintro e V6 ⟨vt,rfl,o,q⟩;obtain ⟨tJ,tK,rfl⟩:=yj o;have P4:=hid (P3.o.put hw0 q ⟨3,1,.slice tJ (min nt 1201) tK,min nt 1201,(lZ (sl s) pe (min nt 1201)).map (Value.int .i64)⟩ o 0);have KB:=P3.o.obj.grown q (by simp);have kc:=KB.cell 0;have kf:=KB.free 0;clear KB o q P3;simp only [fu,eX] at P4;go_wp2_with fail;refine Calls.bG (rM w g #[.slice tJ (min nt 1201) tK,.slice none 0 0,.slice none 0 0,.int .i64 bss,.slice av 4 cv,.slice pE k pG,.slice qX j qZ] [⟨3,1,.slice tJ (min nt 1201) tK,min nt 1201,(lZ (sl s) pe (min nt 1201)).map (Value.int .i64)⟩,⟨83,5,.slice qX j qZ,j,(rC (sl s) ps j).flatMap iH⟩,⟨77,4,.slice pE k pG,k,(yG (sl s) k).1.flatMap iO⟩,⟨3,1,.slice av 4 cv,4,(zq (sl s) 4).map (Value.int .i64)⟩]) P4.o ?_
       clear P4 kc kf V6;intro V7 h7;refine (n2.o V7).mono ?_;rintro e V8 ⟨vf,rfl,o,q⟩;obtain ⟨xK,xL,rfl⟩:=yj o;have P5:=hid (h7.put hw0 q ⟨3,1,.slice xK (min nf 1201) xL,min nf 1201,(lZ (sl s) (pe+4 * nt) (min nf 1201)).map (Value.int .i64)⟩ o 1);have KB:=h7.obj.grown q (by simp);have kc:=KB.cell 1;have kf:=KB.free 1;clear KB o q h7;simp only [fu,fC,eX] at P5;go_wp2_with fail;refine Calls.bG (rM w g #[.slice tJ (min nt 1201) tK,.slice xK (min nf 1201) xL,.slice none 0 0,.int .i64 bss,.slice av 4 cv,.slice pE k pG,.slice qX j qZ] [⟨3,1,.slice xK (min nf 1201) xL,min nf 1201,(lZ (sl s) (pe+4 * nt) (min nf 1201)).map (Value.int .i64)⟩,⟨3,1,.slice tJ (min nt 1201) tK,min nt 1201,(lZ (sl s) pe (min nt 1201)).map (Value.int .i64)⟩,⟨83,5,.slice qX j qZ,j,(rC (sl s) ps j).flatMap iH⟩,⟨77,4,.slice pE k pG,k,(yG (sl s) k).1.flatMap iO⟩,⟨3,1,.slice av 4 cv,4,(zq (sl s) 4).map (Value.int .i64)⟩]) P5.o ?_
       clear P5 kc kf V8;intro V9 h9;refine (n3.o V9).mono ?_;rintro e wh ⟨vd,rfl,o,q⟩;obtain ⟨Bg,Bo,rfl⟩:=yj o;have P6:=hid (h9.put hw0 q ⟨3,1,.slice Bg (min nd 1201) Bo,min nd 1201,(lZ (sl s) (pe+4 * nt+4 * nf) (min nd 1201)).map (Value.int .i64)⟩ o 2);have KB:=h9.obj.grown q (by simp);have kc:=KB.cell 2;have kf:=KB.free 2;clear KB o q h9;simp only [fu,fC,eX] at P6;go_wp2_with fail;refine Calls.bG (rM w g #[.slice tJ (min nt 1201) tK,.slice xK (min nf 1201) xL,.slice Bg (min nd 1201) Bo,.int .i64 bss,.slice av 4 cv,.slice pE k pG,.slice qX j qZ] [⟨3,1,.slice Bg (min nd 1201) Bo,min nd 1201,(lZ (sl s) (pe+4 * nt+4 * nf) (min nd 1201)).map (Value.int .i64)⟩,⟨3,1,.slice xK (min nf 1201) xL,min nf 1201,(lZ (sl s) (pe+4 * nt) (min nf 1201)).map (Value.int .i64)⟩,⟨3,1,.slice tJ (min nt 1201) tK,min nt 1201,(lZ (sl s) pe (min nt 1201)).map (Value.int .i64)⟩,⟨83,5,.slice qX j qZ,j,(rC (sl s) ps j).flatMap iH⟩,⟨77,4,.slice pE k pG,k,(yG (sl s) k).1.flatMap iO⟩,⟨3,1,.slice av 4 cv,4,(zq (sl s) 4).map (Value.int .i64)⟩]) P6.o ?_
       clear P6 kc kf wh;intro tX h11;have Cu:=hid (show yq tX g (yF (sl s)) from by
        have e1:=Gc (sl s) pe (min nt 1201);have e2:=Gc (sl s) (pe+4 * nt) (min nf 1201);have e3:=Gc (sl s) (pe+4 * nt+4 * nf) (min nd 1201);have e4:(zq (sl s) 4).length=4:=rfl;have e5:=WZ (sl s) k;have e6:=WY (sl s) ps j;rw [Bf.o];refine ⟨_,_,_,_,_,_,h11.obj,?_,?_,?_,?_,?_,?_⟩
        ·simp only [e1]; exact uX (h11.rows ⟨3,1,.slice tJ (min nt 1201) tK,min nt 1201,(lZ (sl s) pe (min nt 1201)).map (Value.int .i64)⟩ (by simp)) (Nat.zero_le _)
        ·simp only [e2]; exact uX (h11.rows ⟨3,1,.slice xK (min nf 1201) xL,min nf 1201,(lZ (sl s) (pe+4 * nt) (min nf 1201)).map (Value.int .i64)⟩ (by simp)) (Nat.zero_le _)
        ·simp only [e3]; exact uX (h11.rows ⟨3,1,.slice Bg (min nd 1201) Bo,min nd 1201,(lZ (sl s) (pe+4 * nt+4 * nf) (min nd 1201)).map (Value.int .i64)⟩ (by simp)) (Nat.zero_le _)
        ·simp only [e4]; exact uX (h11.rows ⟨3,1,.slice av 4 cv,4,(zq (sl s) 4).map (Value.int .i64)⟩ (by simp)) (Nat.zero_le _)
        ·simp only [e5]; exact uX (h11.rows ⟨77,4,.slice pE k pG,k,(yG (sl s) k).1.flatMap iO⟩ (by simp)) (Nat.zero_le _)
        ·simp only [e6]; exact uX (h11.rows ⟨83,5,.slice qX j qZ,j,(rC (sl s) ps j).flatMap iH⟩ (by simp)) (Nat.zero_le _))
       have GR:=hid h11.gr;clear h11 Bf n1 n2 n3 a2 a4 a6 a8 OM OO Cv;have Ol:=hid (ynK (sl s));have HIO:=hid (show jG (sl s)↔yp (yF (sl s))/\Lk.kP (yF (sl s))=sl s from Iff.rfl);have Ig:=hid (Zz s);have cI:=hid (yiV g (yF (sl s)) tX Cu.o Ol.o);refine cI.o.mono ?_;rintro e xJ ⟨t,q⟩;have Tp:=hid (ya GR.o q);have Ct:=hid (Cu.o.kept q);rcases t.split with ⟨rfl,pv⟩ | ⟨rfl,pv⟩ <;> clear t q cI
       ·go_wp2;go_ret2;exact ⟨.inr ⟨fun h=>pv.o h.1,_,rfl⟩,Tp.o⟩
       ·have cB:=hid (ylV g (yF (sl s)) xJ Ct.o Ol.o.1 pv.o.2.1.1 ⟨pv.o.1.2.2.1,pv.o.1.2.2.2⟩ Ol.o.2.1);go_wp2_with fail;refine cB.o.mono ?_;rintro e Jf ⟨rfl,q⟩;have Tq:=hid (ya Tp.o q);have HO3:=hid (Ct.o.kept q);clear q cB;have Iz:=hid (qO (Lk.kP (yF (sl s))));have Ui:=hid (show s.toList=sl s from ByteArray.toList_eq s);by_cases c:Lk.kP (yF (sl s))=sl s
        ·have d:((bs (Lk.kP (yF (sl s)))).toList == s.toList)=true:=by rw [Iz.o,Ui.o,beq_iff_eq]; exact c
         have CC:=hid c;clear c;go_wp2;go_ret2;exact ⟨.inl ⟨⟨pv.o,CC.o⟩,g,rfl,HO3.o⟩,Tq.o⟩
        ·have d:((bs (Lk.kP (yF (sl s)))).toList == s.toList)=false:=by rw [Iz.o,Ui.o,beq_eq_false_iff_ne]; exact c
         have CC:=hid c;clear c;go_wp2;go_ret2;exact ⟨.inr ⟨fun h=>CC.o h.2,_,rfl⟩,Tq.o⟩
def xW (w:World) (ao:Option Addr) (ms:List (List UInt8)):Prop :=
 0 < ms.length->∃ g off,ao=some ⟨g,off,none⟩/\∀ i (h:i < ms.length),w.cell? ⟨g,off+i,none⟩=some (.string (bs ms[i]))
theorem xW.aB {w:World} {base:Nat} {ao:Option Addr} {n cap:Nat} {ms:List (List UInt8)} (h:w.ownsRow base 9 1 (.slice ao n cap) n (eB ms)):xW w ao ms:=by
 intro h0;have hn:ms.length=n:=by have:=h.1; simpa [eB] using this
 rcases h.2 with ⟨h1,h2⟩ | ⟨g,cap',cur,hv,_⟩
 ·simp at h1; omega
 ·simp only [Value.slice.injEq] at hv;obtain ⟨rfl,_,rfl⟩:=hv;refine ⟨g,0,rfl,fun i hi=>?_⟩
  have:=h.cellAt i (by omega)
  rw [Nat.zero_add,this];simp [eB,hi]
theorem xW.kept {w w':World} {ao:Option Addr} {ms:List (List UInt8)} (h:xW w ao ms) (hc:∀ a v,w.cell? a=some v->w'.cell? a=some v):xW w' ao ms:=by
 intro h0;obtain ⟨g,off,h1,h2⟩:=h h0;exact ⟨g,off,h1,fun i hi=>hc _ _ (h2 i hi)⟩
theorem ylT (b:List UInt8):(⟨#[65,82]⟩:ByteArray) ++ bs b=bs ([65,82] ++ b):=yT [65,82] b
def Cb (ms:List (List UInt8)):Prop:=(1<=ms.length/\ms.length<=6)/\∀ m∈ms,jG m
def Zg (ms:List (List UInt8)) (e:Ending):Prop :=
 (Cb ms/\e = .returned (.tuple #[.string (bs (Ao ms)),.bool true]))\/(¬ Cb ms/\e = .returned (.tuple #[.string ⟨#[]⟩,.bool false]))
theorem ymX (k:Nat) (ms:List (List UInt8)) (h:∀ m∈ms,m.length<=65535):((ms.take k).flatMap gI).length<=65537 * (ms.take k).length :=
 Sg gI 65537 _ fun m hm=>by
  have:=h m (List.mem_of_mem_take hm)
  simp only [gI,fE,Lk.aD];omega
theorem yjN (ao:Option Addr) (cap:Nat) (ms:List (List UInt8)) (w:World) (hI:xW w ao ms) (hm:∀ m∈ms,m.length<=65535) (hn:ms.length<=65535) :
  Calls Tryz.prog 63 #[.slice ao ms.length cap] w fun e w'=>Zg ms e/\w.grownBy w' none:=by
 have HI:=hid hI;have HM:=hid hm;have RF:=hid (World.grownBy.refl w none);have Ai:=hid (show Cb ms↔(1<=ms.length/\ms.length<=6)/\∀ m∈ms,jG m from Iff.rfl);have no:Hd (∀ W,¬ Cb ms->w.grownBy W none->Zg ms (.returned (.tuple #[.string ⟨#[]⟩,.bool false]))/\w.grownBy W none):=fun W a b=>⟨.inr ⟨a,rfl⟩,b⟩
 clear hI hm;go_enter Tryz.func63,Tryz.ntmps63;by_cases c:ms.length < 1
 ·have d:decide ((ms.length:Int) < 1)=true:=by simp; omega
  have CC:=hid (show ¬ Cb ms from fun h=>by have:=h.1.1; omega);clear c;go_wp2;go_ret2;exact no.o _ CC.o RF.o
 have d1:decide ((ms.length:Int) < 1)=false:=by simp; omega
 by_cases c6:6 < ms.length
 ·have d:decide (6 < (ms.length:Int))=true:=by simp; omega
  have CC:=hid (show ¬ Cb ms from fun h=>by have:=h.1.2; omega);clear c;go_wp2;go_ret2;exact no.o _ CC.o RF.o
 have d2:decide (6 < (ms.length:Int))=false:=by simp; omega
 have HLEN:=hid (show 1<=ms.length/\ms.length<=6 from by omega);clear c;have cL:=hid (fun W=>qR (ms.length:Int) 1 1 rfl W (by omega));have y0:=nu (ms.length:Int) 1 (by decide);go_wp2_with fail;refine (cL.o _).mono ?_;rintro e w1 ⟨rfl,q1⟩;have G1:=hid q1;clear q1;go_wp2;obtain ⟨p1,hp1⟩:∃ p1,p1=[65,82] ++ Lk.le ms.length 1:=⟨_,rfl⟩
 have zh:=hid hp1;have hl1:p1.length=3:=by rw [hp1]; simp [Lk.aD]
 have qD:=hid hl1;clear hp1 hl1
 go_loopw [4,5] (fun t i wr=>∃ k:Nat,k<=ms.length/\i = .int .i64 k/\(∃ acc:List UInt8,t = .string (bs acc)/\acc=p1 ++ (ms.take k).flatMap gI)/\(∀ j (hj:j < ms.length),j < k->jG ms[j])/\w.grownBy wr none) (fun _ i _=>ms.length - (intOf i).toNat)
 case atStart =>
  refine ⟨0,Nat.zero_le _,rfl,⟨p1,?_,by simp⟩,fun j _ hj=>absurd hj (Nat.not_lt_zero j),G1.o⟩;rw [zh.o,<- ylT]
 case round =>
  obtain ⟨k,hk,rfl,⟨acc,rfl,hae⟩,hall,hgr⟩:=hrel;have rF:=hid hae;have nX:=hid hall;have HG:=hid hgr;have hla:acc.length<=3+65537 * 6:=by
   have:=ymX k ms HM.o
   have h2:=qD.o;rw [List.length_take] at this;rw [hae,fE];omega
  clear hae hall hgr;by_cases hlt:k < ms.length
  ·have hlt':(k:Int) < (ms.length:Int):=by omega
   obtain ⟨g,off,hao,hc⟩:=(HI.o.kept (fun a v hv=>yc hv HG.o)) (by omega)
   subst hao;have hck:=hc k hlt;clear hc;have ZY:=hid hck;have hmk:=HM.o _ (dM hlt);have HTK:=hid (show (ms.take (k+1)).flatMap gI=(ms.take k).flatMap gI ++ (Lk.le ms[k].length 2 ++ ms[k]) from by
    rw [List.take_succ_eq_append_getElem hlt,List.flatMap_append];simp only [List.flatMap_cons,List.flatMap_nil,List.append_nil,gI])
   have HNO:=hid (show ¬ jG ms[k]->¬ Cb ms from fun h a=>h (a.2 _ (dM hlt)));have Oq:=hid (show jG ms[k]->∀ j (hj:j < ms.length),j < k+1->jG ms[j] from fun h j hj hjk=>(Nat.lt_succ_iff_lt_or_eq.1 hjk).elim (fun h=>nX.o j hj h) (fun e=>by subst e; exact h));generalize ms[k]=m at *;have cP:=hid (fun W=>Rz (bs m) W (by rw [uY]; omega));have Lm:=hid (fun W=>qR ((bs m).size:Int) 2 2 rfl W (by omega));have Fy:=hid (uY m);go_wp2_with fail;refine (cP.o _).mono ?_;rintro e w2 ⟨pr,q2⟩;have G2:=hid (ya HG.o q2);have ck2:=yc ZY.o q2;clear q2;unfold Na at pr;rw [Df] at pr;rcases pr with ⟨ho,gp,rfl,-⟩ | ⟨ho,v,rfl⟩
   ·have HO:=hid ho;clear ho;go_wp2_with fail;refine (Lm.o _).mono ?_;rintro e w3 ⟨rfl,q3⟩;have G3:=hid (ya G2.o q3);have ck3:=yc ck2 q3;have y1:=vR acc (3+65537 * 6) hla;have y2:=nu ((bs m).size:Int) 2 (by decide);have y3:=vR m 65535 hmk;clear q3;go_wp2
    go_roundw
    case rel=>exact ⟨k+1,by omega,by go_num,⟨acc ++ (Lk.le m.length 2 ++ m),by rw [Fy.o,yT,yT,List.append_assoc],by rw [HTK.o,rF.o,List.append_assoc]⟩,Oq.o HO.o,G3.o⟩
    case measure=>simp [intOf]; omega
   ·have CC:=hid (HNO.o ho);clear ho;go_wp2;go_ret2;exact no.o _ CC.o G2.o
  ·obtain rfl:k=ms.length:=by omega
   have Oc:=hid (show Cb ms from ⟨HLEN.o,fun m hm=>by obtain ⟨i,hi,rfl⟩:=List.getElem_of_mem hm; exact nX.o i hi hi⟩);have Ic:=hid (show Ao ms=acc from by rw [rF.o,zh.o,List.take_length]; unfold Ao; rw [List.append_assoc]);go_wp2;go_ret2;exact ⟨.inl ⟨Oc.o,by rw [Ic.o]; rfl⟩,HG.o⟩
def X6 (l:List UInt8) (base:Nat) (e:Ending) (w':World):Prop :=
 ∃ v b,e = .returned (.tuple #[v,.bool b])/\(b=true↔nH l (yS l))/\w'.ownsRow base 9 1 v (yS l).length (eB (yS l))
theorem ylK (s:ByteArray) (w:World) (hs:s.size<=1048576) :
  Calls Tryz.prog 28 #[.string s] w fun e w'=>X6 (sl s) w.heap.size e w'/\w.grownBy w' none:=by
 obtain ⟨i0,hi,hz0,hz1,hz2⟩:=info_parts Tryz.nQ;have q2:=q9 (sl s) 2 1;simp only [Int.reducePow] at q2;have a2:=hid (fun W=>qQ s 2 1 2 1 rfl rfl W hs (by omega) (by omega));have Bf:=hid (show yS (sl s)=(yW (sl s) (min (bX (sl s) 2 1).toNat 6)).1 from rfl);obtain ⟨n,hn⟩:=Int.eq_ofNat_of_zero_le q2.1;rw [hn] at q2 a2 Bf;rw [Int.toNat_natCast] at Bf;clear hn;have Cv:=hid (yki (sl s));have Fx:=hid (WO (sl s));have xG:=hid (yhE (sl s));go_enter Tryz.func28,Tryz.ntmps28;go_wp2_with fail;refine (a2.o _).mono ?_;rintro e V ⟨rfl,rfl⟩;go_wp2
 go_loopw [4,6,7] (fun v p i wr=>∃ k:Nat,k<=n/\k<=6/\i = .int .i64 k/\p = .int .i64 ((yW (sl s) k).2:Int)/\wr.ownsRow V.heap.size 9 1 v k (eB (yW (sl s) k).1)/\V.grownBy wr none) (fun _ _ i _=>6 - (intOf i).toNat)
 case atStart=>exact ⟨0,Nat.zero_le _,Nat.zero_le _,rfl,rfl,World.ownsRow_nil _ _ _ _,World.grownBy.refl _ _⟩
 case round =>
  obtain ⟨k,hk,Ap,rfl,rfl,hown,hgr⟩:=hrel;obtain ⟨av,cv,rfl⟩:=yj hown;have HG:=hid hgr;have hsz:=hgr.size;have hpos:=Cv.o k;clear hgr;by_cases hlt:k < n/\k < 6
  ·obtain ⟨hlt1,hlt2⟩:=hlt;have e1:decide ((k:Int) < (n:Int))=true:=by simp; omega
   have e2:decide ((k:Int) < 6)=true:=by simp; omega
   have HE:=hid (show (yW (sl s) (k+1)).1=(yW (sl s) k).1 ++ [kM (sl s) ((yW (sl s) k).2+2) (bX (sl s) (yW (sl s) k).2 2).toNat] from rfl);have HP:=hid (show (yW (sl s) (k+1)).2=(yW (sl s) k).2+2+(bX (sl s) (yW (sl s) k).2 2).toNat from rfl);generalize (yW (sl s) k).2=p at *;have rn:=q9 (sl s) p 2;simp only [Int.reducePow] at rn;have b0:=hid (fun W=>qQ s p 2 (p:Int) 2 rfl rfl W hs (by omega) (by omega));obtain ⟨len,hl⟩:=Int.eq_ofNat_of_zero_le rn.1;rw [hl] at rn b0 HE HP;rw [Int.toNat_natCast] at HE HP;clear hl;have b1:=hid (fun W=>YO s (p+2) len ((p:Int)+2) (len:Int) (by omega) rfl W hs (by omega) (by omega))
   generalize kM (sl s) (p+2) len=m at *;go_wp2_with fail;refine (b0.o _).mono ?_;rintro e W1 ⟨rfl,rfl⟩;go_wp2_with fail;refine (b1.o _).mono ?_;rintro e W2 ⟨rfl,rfl⟩;go_wp2_with (at_builtin; refine wpList_append_own _ rfl _ _ 22 rfl V.heap.size 9 i0 (.string ⟨#[]⟩) 1 16 Tryz.underlying22 hi hz0 hz1 hz2 rfl (by decide) _ _ _ rfl (hown.alloc _) ⟨W2.heap.size,0,none⟩ 1 1 [.string (bs m)] rfl rfl (cell_one_new _ _ _) (by intro u hu; simp at hu; subst hu; rfl) (by unfold maxLen; omega) (by omega) (by simp; omega) ?_; intro v' w3 hown' hgrow _)
   have K1:=hid (show w3.ownsRow V.heap.size 9 1 v' (k+1) (eB (yW (sl s) (k+1)).1) from by unfold eB; rw [HE.o,List.map_append]; exact hown');have K3:=hid (show V.grownBy w3 none from by
    cases lV:Value.ownBlock _ with
    | none=>rw [lV] at hgrow; exact ya (ya HG.o (aH _ _ none)) hgrow
    | some bb=>rw [lV] at hgrow; exact Aa (ya HG.o (aH _ _ none)) hgrow (by have:=(hown.lt bb lV).1; omega))
   clear hgrow hown' hown;go_wp2
   go_roundw
   case rel=>exact ⟨k+1,by omega,by omega,by go_num,by rw [HP.o]; go_num,K1.o,K3.o⟩
   case measure=>simp [intOf]; omega
  ·have hke:k=min n 6:=by omega
   have HRW:=hid (show yS (sl s)=(yW (sl s) k).1 from by rw [hke]; exact Bf.o);have HL:=xG.o k;have HM:=Fx.o k;rw [<- HRW.o] at HL HM hown;have cA:=hid (fun W (h:xW W av (yS (sl s)))=>yjN av cv (yS (sl s)) W h HM (by omega));rw [HL] at cA;have N8:=hid (show nH (sl s) (yS (sl s))↔Cb (yS (sl s))/\Ao (yS (sl s))=sl s from ⟨fun h=>⟨⟨h.1,h.2.1⟩,h.2.2⟩,fun h=>⟨h.1.1,h.1.2,h.2⟩⟩);have Z8:=hid HL;have hkk:(k=6/\6 < n)\/k=n:=by omega
   clear HL HM hlt Fx Cv hpos xG HRW Bf hke;have fin:Hd (∀ W,V.grownBy W none->W.ownsRow V.heap.size 9 1 (.slice av k cv) k (eB (yS (sl s)))->∀ b,(b=true↔nH (sl s) (yS (sl s)))->X6 (sl s) V.heap.size (.returned (.tuple #[.slice av k cv,.bool b])) W/\V.grownBy W none):=fun W h1 h2 b h3=>⟨⟨_,b,rfl,h3,by rw [Z8.o]; exact h2⟩,h1⟩
   generalize nH (sl s) (yS (sl s))=QA at *;have HSL:=hid (show s.toList=sl s from ByteArray.toList_eq s);have HOW:=hid hown;clear hown;generalize yS (sl s)=ms at *;rcases hkk with ⟨rfl,hn6⟩ | rfl
   all_goals
    go_wp2_with fail;refine (cA.o _ (xW.aB HOW.o)).mono ?_;rintro e W2 ⟨ar,q⟩;have GF:=hid (ya HG.o q);have Ct:=hid (HOW.o.kept q (by cases (Value.ownBlock _) <;> simp));clear q;rcases ar with ⟨hok,rfl⟩ | ⟨hok,rfl⟩
    ·have Iz:=hid (qO (Ao ms));by_cases c:Ao ms=sl s
     ·have d:((bs (Ao ms)).toList == s.toList)=true:=by rw [Iz.o,HSL.o,beq_iff_eq]; exact c
      have F:=hid (fin.o W2 GF.o Ct.o true ⟨fun _=>N8.o.2 ⟨hok,c⟩,fun _=>rfl⟩);clear c hok;go_wp2;go_ret2;exact F.o
     ·have d:((bs (Ao ms)).toList == s.toList)=false:=by rw [Iz.o,HSL.o,beq_eq_false_iff_ne]; exact c
      have F:=hid (fin.o W2 GF.o Ct.o false ⟨fun h=>by simp at h,fun h=>absurd (N8.o.1 h).2 c⟩);clear c hok;go_wp2;go_ret2;exact F.o
    ·have F:=hid (fin.o W2 GF.o Ct.o false ⟨fun h=>by simp at h,fun h=>absurd (N8.o.1 h).1 hok⟩);clear hok;go_wp2;go_ret2;exact F.o
namespace Dl
def ow (os:List Lk.Obj) (y:Lk.Sym):Bool:=(decide (y.ah<=0) && decide (y.bind=1)) && !(os.any fun o=>gives o y.name)
def ig (os:List Lk.Obj) (ys:List Lk.Sym):List (List UInt8):=(ys.filter (ow os)).map (·.name)
def gZ (os r:List Lk.Obj):List (List UInt8):=r.flatMap fun o=>ig os o.syms
def lacking (os:List Lk.Obj):List (List UInt8):=gZ os os
theorem sG (os:List Lk.Obj) (k:Nat) (h:k < os.length):gZ os (os.drop k)=ig os os[k].syms ++ gZ os (os.drop (k+1)):=by
 unfold gZ;rw [jg h,List.flatMap_cons]
theorem uD (os:List Lk.Obj) (ys:List Lk.Sym) (k:Nat) (h:k < ys.length) (hy:ow os ys[k]=true):ig os (ys.drop k)=ys[k].name :: ig os (ys.drop (k+1)):=by
 unfold ig;rw [jg h,List.filter_cons_of_pos hy];rfl
theorem wT (os:List Lk.Obj) (ys:List Lk.Sym) (k:Nat) (h:k < ys.length) (hy:ow os ys[k]=false):ig os (ys.drop k)=ig os (ys.drop (k+1)):=by
 unfold ig;rw [jg h,List.filter_cons_of_neg (by simp [hy])]
theorem uz (os:List Lk.Obj) (ys:List Lk.Sym):(ig os ys).length<=ys.length:=by
 unfold ig;rw [jc];exact List.length_filter_le _ _
theorem ou (os:List Lk.Obj):∀ r:List Lk.Obj,(∀ o∈r,o.syms.length<=16)->(gZ os r).length<=16 * r.length:=by
 intro r
 induction r with
 | nil=>intro _; exact Nat.le_refl _
 | cons o r ih =>
  intro h;have h1:=ih fun x hx=>h x (List.mem_cons_of_mem _ hx)
  have h2:=uz os o.syms;have h3:=h o List.mem_cons_self;show (List.flatMap _ (o :: r)).length<=_;rw [List.flatMap_cons,fE,gL];unfold gZ at h1;omega
end Dl
theorem yks (a b:List (List UInt8)):eB (a ++ b)=eB a ++ eB b:=by unfold eB; simp
theorem yjY (ao:Option Addr) (cap:Nat) (gl:List Nat) (os:List Lk.Obj) (w:World) (h:qx w ao gl os) :
  Calls Tryz.prog 64 #[.slice ao gl.length cap] w fun e w'=>∃ v,e = .returned v/\w'.ownsRow w.heap.size 9 1 v (Dl.lacking os).length (eB (Dl.lacking os))/\w.grownBy w' none:=by
 obtain ⟨i2,hi2,hx0,hx1,hx2⟩:=info_parts Tryz.nQ;have H:=hid h;have HL:=hid h.len;have hgl:gl.length<=48:=by rw [h.len]; exact h.few
 have GD:=hid (show Dl.lacking os=Dl.gZ os (os.drop 0) from rfl);have hG:(Dl.lacking os).length<=768:=by
  have:=Dl.ou os os fun o ho=>(h.val o ho).gT
  have:=h.few
  unfold Dl.lacking;omega
 clear h;generalize Dl.lacking os=GS at *;go_enter Tryz.func64,Tryz.ntmps64;go_wp2
 go_loopw [3,4] (fun v i wr=>∃ (k:Nat) (acc:List (List UInt8)),k<=gl.length/\i = .int .i64 k/\GS=acc ++ Dl.gZ os (os.drop k)/\wr.ownsRow w.heap.size 9 1 v acc.length (eB acc)/\w.grownBy wr none) (fun _ i _=>gl.length - (intOf i).toNat)
 case atStart=>exact ⟨0,[],Nat.zero_le _,rfl,GD.o,World.ownsRow_nil _ _ _ _,World.grownBy.refl _ _⟩
 case round =>
  obtain ⟨k,acc,hk,rfl,hf,hown,hgr⟩:=hrel;have HF:=hid hf;have HG:=hid hgr;have OW:=hid hown;obtain ⟨aa,ca,rfl⟩:=yj hown;clear hf hgr hown;by_cases hlt:k < gl.length
  ·have hko:k < os.length:=by rw [<- HL.o]; exact hlt
   obtain ⟨g0,off,hao,hc⟩:=H.o.ptrs (by omega);subst hao;have HC:=hid hc;have CK:=hid (hc k hlt);obtain ⟨at_,ct,af,cf,ad,cd,wm,wD,gF,cs,ar,cr,hb,-,-,-,-,q5,-⟩:=(H.o.obj k hlt hko).open;have S:=hid (yI.aB q5);have HB:=hid hb;have hns:=(H.o.val os[k] (dM hko)).gT;have FD:=hid (Dl.sG os k hko);clear hc hb q5;generalize os[k].syms=ys at *;generalize gl[k]=bk at *;have g1:(k:Int) < (gl.length:Int):=by omega
   go_wp2
   go_loopw [3,5] (fun v i wr=>∃ (j:Nat) (ac:List (List UInt8)),j<=ys.length/\i = .int .i64 j/\GS=ac ++ (Dl.ig os (ys.drop j) ++ Dl.gZ os (os.drop (k+1)))/\wr.ownsRow w.heap.size 9 1 v ac.length (eB ac)/\w.grownBy wr none) (fun _ i _=>ys.length - (intOf i).toNat)
   case atStart=>exact ⟨0,acc,Nat.zero_le _,rfl,by rw [HF.o,FD.o]; rfl,OW.o,HG.o⟩
   case round =>
    obtain ⟨j,ac,hj,rfl,hf2,hown2,dN⟩:=hrel;have iq:=hid hf2;have HG2:=hid dN;have FJ:=hid hown2;obtain ⟨ab,cb,rfl⟩:=yj hown2;clear hf2 dN hown2;have ck:=yc CK.o HG2.o;have k5:=(HB.o.grown HG2.o (by simp)).cell 5;simp only [dH,dL,dK] at k5;by_cases hlt2:j < ys.length
    ·obtain ⟨sg,hsg,hgs,hcs⟩:=S.o.grown HG2.o (by omega);subst hsg;obtain ⟨q0,q1,q2,q3⟩:=hcs j hlt2;clear hcs;have g2:(j:Int) < (ys.length:Int):=by omega
     have FY:=hid (Dl.uD os ys j hlt2);have FN:=hid (Dl.wT os ys j hlt2);generalize ys[j]=y at *;have LD:=hid (show Dl.ow os y=((decide (y.ah<=0) && decide (y.bind=1)) && !(os.any fun o=>Dl.gives o y.name)) from rfl);generalize Dl.ow os y=LY at *;have BX:=hid (ye.new wr #[.string (bs y.name),.int .i64 y.bind,.int .i64 y.ah,.int .i64 y.off] 77);have GA:=hid (aH wr (.cells #[.string (bs y.name),.int .i64 y.bind,.int .i64 y.ah,.int .i64 y.off] 77) none);have OA:=hid (FJ.o.alloc (.cells #[.string (bs y.name),.int .i64 y.bind,.int .i64 y.ah,.int .i64 y.off] 77));have GW:=hid (ya HG2.o GA.o);have NX:=hid (fun (h:LY=false)=>show GS=ac ++ (Dl.ig os (ys.drop (j+1)) ++ Dl.gZ os (os.drop (k+1))) by rw [iq.o,FN.o h])
     clear GA FJ
     go_upto_region 9 with fail
     generalize wr.alloc (.cells #[.string (bs y.name),.int .i64 y.bind,.int .i64 y.ah,.int .i64 y.off] 77)=V1 at *;generalize wr.heap.size=X at *;clear ck k5 q0 q1 q2 q3;have x1:V1.cell? ⟨X,1,none⟩=some (.int .i64 y.bind):=BX.o.cell 1;have x2:V1.cell? ⟨X,2,none⟩=some (.int .i64 y.ah):=BX.o.cell 2;by_cases e1:0 < y.ah
     ·have b1:decide (0 < y.ah)=true:=by simpa using e1
      have E:=hid (NX.o (by rw [LD.o]; simp; omega));clear e1;go_wp2
      go_roundw
      case rel=>exact ⟨j+1,ac,by omega,by go_num,E.o,OA.o,GW.o⟩
      case measure=>simp [intOf]; omega
     by_cases e2:y.bind=1
     rotate_left
     ·have b1:decide (0 < y.ah)=false:=by simpa using e1
      have b2:(y.bind == 1)=false:=by simpa using e2
      have b3:(y.bind != 1)=true:=by simpa using e2
      have E:=hid (NX.o (by rw [LD.o]; simp [e2]));clear e1 e2;go_wp2
      go_roundw
      case rel=>exact ⟨j+1,ac,by omega,by go_num,E.o,OA.o,GW.o⟩
      case measure=>simp [intOf]; omega
     have b1:decide (0 < y.ah)=false:=by simpa using e1
     have b2:(y.bind == 1)=true:=by simpa using e2
     have b3:(y.bind != 1)=false:=by simpa using e2
     have Uv:=hid (show LY = !(os.any fun o=>Dl.gives o y.name) by
      rw [LD.o,decide_eq_true (show y.ah<=0 by omega),decide_eq_true e2];rfl)
     clear e1 e2 LD;generalize VF:(os.any fun o=>Dl.gives o y.name)=AN at *;have NR:=hid VF;clear VF;go_wp2
     go_loopw [7,8] (fun v i wr=>∃ (m:Nat) (b:Bool),m<=gl.length/\i = .int .i64 m/\v = .bool b/\AN=(b || (os.drop m).any fun o=>Dl.gives o y.name)/\V1.grownBy wr none) (fun _ i _=>gl.length - (intOf i).toNat)
     case atStart=>exact ⟨0,false,Nat.zero_le _,rfl,rfl,NR.o.symm,World.grownBy.refl _ _⟩
     case round =>
      obtain ⟨m,b,hm,rfl,rfl,hf3,jK⟩:=hrel;have Fj:=hid hf3;have xD:=hid jK;have lT:=hid (BX.o.grown jK (by simp));clear hf3 jK x1 x2;have x0:wr.cell? ⟨X,0,none⟩=some (.string (bs y.name)):=lT.o.cell 0;by_cases hlt3:m < gl.length
      ·have hmo:m < os.length:=by rw [<- HL.o]; exact hlt3
       have GT:=hid (ya GW.o xD.o);have cm:=yc (HC.o m hlt3) GT.o;have FM:=hid (show AN=((b || Dl.gives os[m] y.name) || (os.drop (m+1)).any fun o=>Dl.gives o y.name) by rw [Fj.o,jg hmo,List.any_cons,Bool.or_assoc]);have cV:=hid (fun W (hg:w.grownBy W none)=>X9 gl[m] os[m] y.name W ((H.o.obj m hlt3 hmo).kept hg) (by have:=(H.o.val os[m] (dM hmo)).gT; omega));generalize Dl.gives os[m] y.name=gv at *;generalize gl[m]=bm at *;have g3:(m:Int) < (gl.length:Int):=by omega
       go_wp2
       go_region_held3 (fun w'=>w'.cell? ⟨X,0,none⟩=some (.string (bs y.name))/\w'.cell? ⟨g0,off+m,none⟩=some (.pointer (some ⟨bm,0,none⟩)))
        (go_keep)
        (first | (go_at_call 65; refine (cV.o _ (yf GT.o)).mono ?_; rintro e w' ⟨rfl,hq⟩; have s0:=yc (yc x0 (yf (World.grownBy.refl wr none))) hq; have s1:=yc (yc cm (yf (World.grownBy.refl wr none))) hq))
       have G4:=hid (ya (yf xD.o) hq);clear hq s0 s1 x0 cm cV
       cases b
       ·go_wp2
        go_roundw
        case rel=>exact ⟨m+1,gv,by omega,by go_num,rfl,FM.o,G4.o⟩
        case measure=>simp [intOf]; omega
       ·go_wp2
        go_roundw
        case rel=>exact ⟨m+1,true,by omega,by go_num,rfl,FM.o,G4.o⟩
        case measure=>simp [intOf]; omega
      ·obtain rfl:m=gl.length:=by omega
       have EA:=hid (show AN=b by rw [Fj.o,HL.o,List.drop_length]; simp);have g3:decide ((gl.length:Int) < (gl.length:Int))=false:=by simp
       have OB:=hid (sU OA.o xD.o);have GT:=hid (ya GW.o xD.o)
       cases b
       ·have E:=hid (show GS=(ac ++ [y.name]) ++ (Dl.ig os (ys.drop (j+1)) ++ Dl.gZ os (os.drop (k+1))) by
         rw [iq.o,FY.o (by rw [Uv.o,EA.o]; rfl)];simp)
        have al:ac.length+1<=768:=by
         have h3:=congrArg List.length E.o;rw [fE,fE,o7] at h3;omega
        have hsw:=GT.o.size;go_wp2_with (at_builtin; refine wpList_append_own_at _ rfl _ _ 22 rfl w.heap.size 9 i2 (.string ⟨#[]⟩) 1 16 Tryz.underlying22 hi2 hx0 hx1 hx2 rfl (by decide) _ _ _ rfl (OB.o.alloc _) ⟨wr.heap.size,0,none⟩ 1 1 (eB [y.name]) rfl rfl (C9 _ _ _) (by intro u hu; simp [eB] at hu; rcases hu with rfl; rfl) (by unfold maxLen; omega) (by omega) (by simp; omega) ?_; intro v' w3 hown' hgrow _ hat; have N3:=hid (yD (ya GT.o (aH _ _ none)) hgrow (fun b hb=>(OB.o.lt b hb).1)); have O3:=hid (show w3.ownsRow w.heap.size 9 1 v' (ac ++ [y.name]).length (eB (ac ++ [y.name])) by rw [fE,yks]; simpa using hown'); obtain ⟨jN,cv',rfl⟩:=yj hown'; clear hgrow hown' hat)
        go_roundw
        case rel=>exact ⟨j+1,ac ++ [y.name],by omega,by go_num,E.o,O3.o,N3.o⟩
        case measure=>simp [intOf]; omega
       ·have E:=hid (NX.o (by rw [Uv.o,EA.o]; rfl));go_wp2
        go_roundw
        case rel=>exact ⟨j+1,ac,by omega,by go_num,E.o,OB.o,GT.o⟩
        case measure=>simp [intOf]; omega
    ·obtain rfl:j=ys.length:=by omega
     have E:=hid (show GS=ac ++ Dl.gZ os (os.drop (k+1)) by rw [iq.o,List.drop_length]; rfl);have g3:decide ((ys.length:Int) < (ys.length:Int))=false:=by simp
     go_wp2
     go_roundw
     case rel=>exact ⟨k+1,ac,by omega,by go_num,E.o,FJ.o,HG2.o⟩
     case measure=>simp [intOf]; omega
  ·obtain rfl:k=gl.length:=by omega
   have E:=hid (show GS=acc by rw [HF.o,HL.o,List.drop_length]; simp [Dl.gZ]);have g3:decide ((gl.length:Int) < (gl.length:Int))=false:=by simp
   go_wp2;go_ret;exact ⟨_,rfl,by rw [E.o]; exact OW.o,HG.o⟩
namespace Dl
theorem wI (n:List UInt8) (b:Int) (i:Nat) (p:Nat×Nat):∀ (ys:List Lk.Sym) (k:Nat),p∈gU n b i k ys->p.1=i/\k<=p.2/\∃ y,ys[p.2 - k]?=some y/\qK n b y=true:=by
 intro ys
 induction ys with
 | nil=>intro k h; cases h
 | cons y ys ih =>
  intro k h;rw [gU] at h;by_cases c:qK n b y=true
  ·rw [if_pos c] at h;rcases List.mem_cons.1 h with rfl | h
   ·exact ⟨rfl,Nat.le_refl _,y,by simp,c⟩
   ·obtain ⟨a1,a2,z,a3,a4⟩:=ih (k+1) h;refine ⟨a1,by omega,z,?_,a4⟩;rw [show p.2 - k=(p.2 - (k+1))+1 by omega,dL];exact a3
  ·rw [if_neg c] at h;obtain ⟨a1,a2,z,a3,a4⟩:=ih (k+1) h;refine ⟨a1,by omega,z,?_,a4⟩;rw [show p.2 - k=(p.2 - (k+1))+1 by omega,dL];exact a3
theorem mI (n:List UInt8) (b:Int) (p:Nat×Nat):∀ (os:List Lk.Obj) (i:Nat),p∈dW n b i os->i<=p.1/\∃ o y,os[p.1 - i]?=some o/\o.syms[p.2]?=some y/\qK n b y=true:=by
 intro os
 induction os with
 | nil=>intro i h; cases h
 | cons o os ih =>
  intro i h;rw [dW] at h;rcases List.mem_append.1 h with h | h
  ·obtain ⟨a1,-,z,a3,a4⟩:=wI n b i p o.syms 0 h;rw [Nat.sub_zero] at a3;exact ⟨by omega,o,z,by rw [a1,Nat.sub_self]; rfl,a3,a4⟩
  ·obtain ⟨a1,x,z,a2,a3,a4⟩:=ih (i+1) h;refine ⟨by omega,x,z,?_,a3,a4⟩;rw [show p.1 - i=(p.1 - (i+1))+1 by omega,dL];exact a2
def iP (os:List Lk.Obj) (p:Nat×Nat):Prop:=∃ h:p.1 < os.length,p.2 < os[p.1].syms.length
theorem iP.of {os:List Lk.Obj} {p:Nat×Nat} {o:Lk.Obj} {y:Lk.Sym} (h1:os[p.1]?=some o) (h2:o.syms[p.2]?=some y):iP os p/\bD os p.1 p.2=y:=by
 obtain ⟨a1,a2⟩:=List.getElem?_eq_some_iff.1 h1;obtain ⟨b1,b2⟩:=List.getElem?_eq_some_iff.1 h2;subst a2;refine ⟨⟨a1,b1⟩,?_⟩;rw [Aq a1 b1];exact b2
theorem jB {os:List Lk.Obj} {n:List UInt8} {b:Int} {p:Nat×Nat} (h:p∈bT os n b):iP os p/\qK n b (bD os p.1 p.2)=true:=by
 obtain ⟨-,o,y,h1,h2,h3⟩:=mI n b p os 0 h;rw [Nat.sub_zero] at h1;obtain ⟨q1,q2⟩:=iP.of h1 h2;exact ⟨q1,by rw [q2]; exact h3⟩
theorem lG {os:List Lk.Obj} {n:List UInt8} {p:Nat×Nat} (h:p∈cand os n):iP os p/\(qK n 1 (bD os p.1 p.2)=true\/qK n 2 (bD os p.1 p.2)=true):=by
 rcases List.mem_append.1 h with h | h
 ·exact ⟨(jB h).1,.inl (jB h).2⟩
 ·exact ⟨(jB h).1,.inr (jB h).2⟩
theorem wU {os:List Lk.Obj} {i k:Nat} {p:Nat×Nat} (hi:iP os (i,k)) (h:means os i k=some p):iP os p:=by
 unfold means at h;split at h
 ·cases h; exact hi
 ·exact (lG (List.mem_of_mem_head? h)).1
theorem qp {os:List Lk.Obj} {p:Nat×Nat} (h:start os=some p):iP os p:=by
 unfold start at h;split at h
 ·cases h
 ·rename_i i k hc;split at h
  ·cases h
  ·cases h
   exact (lG (List.mem_of_mem_head? hc)).1
end Dl
theorem yet (ao:Option Addr) (cap:Nat) (gl:List Nat) (os:List Lk.Obj) (w:World) (h:qx w ao gl os) :
  Calls Tryz.prog 17 #[.slice ao gl.length cap] w fun e w'=>e = .returned (iF (Dl.start os))/\w.grownBy w' none:=by
 obtain ⟨i2,hi2,hx0,hx1,hx2⟩:=info_parts Tryz.qJ;have hgl:gl.length<=48:=by rw [h.len]; exact h.few
 have H:=hid h;have c1:=hid (fun W (hg:w.grownBy W none)=>Kg ao cap gl os Dl.bF 1 W (h.kept hg));have c2:=hid (fun W (hg:w.grownBy W none)=>Kg ao cap gl os Dl.bF 2 W (h.kept hg));have l1:=MG h Dl.bF 1;have l2:=MG h Dl.bF 2;have CM:=hid (fun p (hp:p∈Dl.bT os Dl.bF 1 ++ Dl.bT os Dl.bF 2)=>(Dl.lG hp).1);have ST:=hid (show Dl.start os=match (Dl.bT os Dl.bF 1 ++ Dl.bT os Dl.bF 2).head? with
  | none=>none
  | some (i,k)=>if (Dl.bD os i k).ah≠1/\(Dl.bD os i k).ah≠2 then none else some (i,k) from rfl)
 clear h;generalize Dl.start os=R at *;generalize Dl.bT os Dl.bF 1=A at *;generalize Dl.bT os Dl.bF 2=B at *;unfold Dl.bF bs at c1 c2;have GS:=hid (aH w (.cells #[.int .i64 0,.int .i64 0] 51) none);have BR:=hid (ye.new w #[.int .i64 0,.int .i64 0] 51);go_enter Tryz.func17,Tryz.ntmps17
 go_upto_region 1 with fail
 generalize w.alloc (.cells #[.int .i64 0,.int .i64 0] 51)=W1 at *;have hRl:=BR.o.lt;go_wp2_with fail;refine (c1.o _ GS.o).mono ?_;rintro e W2 ⟨v1,rfl,ho1,hg1⟩;obtain ⟨a1,VB,rfl⟩:=yj ho1;have G2:=hid (ya GS.o hg1);have kU:=hid (BR.o.grown hg1 (by simp));have O1:=hid ho1;have hw1:=hg1.size;clear ho1 hg1 c1;go_wp2_with fail;refine (c2.o _ G2.o).mono ?_;rintro e W3 ⟨v2,rfl,ho2,hg2⟩;obtain ⟨a2,cp2,rfl⟩:=yj ho2;have G3:=hid (ya G2.o hg2);have fF:=hid (kU.o.grown hg2 (by simp));have vY:=hid (sU O1.o hg2);have O2:=hid ho2;have hw2:=hg2.size;clear ho2 hg2 c2 BR kU O1;have hX:=GS.o.size
 go_upto_region 4 with (at_builtin; refine Wt rfl _ _ 78 rfl W1.heap.size i2 Tryz.underlying78 hi2 hx0 hx1 hx2 _ _ _ rfl vY.o _ W2.heap.size B rfl O2.o (by omega) (by omega) ?_; intro v3 w4 ho3 hg3 PD; obtain ⟨a3,O9,rfl⟩:=yj ho3; have G4:=hid (yD G3.o hg3 (fun b hb=>Nat.le_trans hX (vY.o.lt b hb).1)); have bZ:=hid (fF.o.grown hg3 (fun hb=>by have:=(vY.o.lt _ hb.symm).1; omega)); have O3:=hid ho3; clear ho3 hg3 PD)
 have EQ:=hid (show (A ++ B).length=A.length+B.length/\(A ++ B).flatMap jD=A.flatMap jD ++ B.flatMap jD from ⟨by simp,by simp⟩);have O4:=hid (show w4.ownsRow W1.heap.size 51 2 (.slice a3 (A.length+B.length) O9) (A.length+B.length) ((A ++ B).flatMap jD) by rw [EQ.o.2]; exact O3.o);have hlen:=EQ.o.1;clear O3 EQ vY O2;generalize A ++ B=C at *;have z0:w4.cell? ⟨w.heap.size,0,none⟩=some (.int .i64 0):=bZ.o.cell 0;have z1:w4.cell? ⟨w.heap.size,1,none⟩=some (.int .i64 0):=bZ.o.cell 1;have f0:=bZ.o.free 0;have f1:=bZ.o.free 1
 cases C with
 | nil =>
  have g3:((A.length:Int)+(B.length:Int) == 0)=true:=by simp only [List.length_nil] at hlen; simp; omega
  clear hlen;go_wp2;have F:=(bZ.o.set 0 (.int .i64 (-1))).set 1 (.int .i64 0);have h0:=F.cell 0;have h1:=F.cell 1;simp only [fu,fC,eX,dH,dL,dK] at h0 h1;refine bodyPost_ret (v:=iF none) ?_ rfl ⟨by rw [ST.o]; rfl,EI G4.o _ (Nat.le_refl _) _ _⟩;clear F z0 z1 f0 f1;generalize World.setCell _ _ _=WF at *;simp [results,Tryz.results17,go_sem,iF,h0,h1]
 | cons p C =>
  have g3:((A.length:Int)+(B.length:Int) == 0)=false:=by simp only [gL] at hlen; simp; omega
  have g4:(0:Int) < (A.length:Int)+(B.length:Int):=by simp only [gL] at hlen; omega
  obtain ⟨gr,rfl,hgr,r0,r1⟩:=RH O4.o (by simp only [gL] at hlen; omega);obtain ⟨i,k⟩:=p;obtain ⟨zI,hk⟩:=CM.o (i,k) List.mem_cons_self;dsimp only at zI hk r0 r1;have SE:=Aq zI hk;have ST2:=hid (show R=if (Dl.bD os i k).ah≠1/\(Dl.bD os i k).ah≠2 then none else some (i,k) from ST.o);rw [SE] at ST2;have hil:i < gl.length:=by rw [H.o.len]; exact zI
  obtain ⟨g0,off,hao,hc⟩:=H.o.ptrs (by omega);subst hao;have ck:=yc (hc i hil) G4.o;obtain ⟨at_,ct,af,cf,ad,cd,wm,wD,gF,cs,ar,cr,hb,-,-,-,-,q5,-⟩:=(H.o.obj i hil zI).open;have hns:=(H.o.val os[i] (dM zI)).gT;have k5:=(hb.grown G4.o (by simp)).cell 5;simp only [dH,dL,dK] at k5;obtain ⟨sg,hsg,hgs,hcs⟩:=(yI.aB q5).grown G4.o (by omega);subst hsg;obtain ⟨q0,q1,q2,q3⟩:=hcs k hk;have j1:(i:Int) < (gl.length:Int):=by omega
  have j2:(k:Int) < (os[i].syms.length:Int):=by omega
  have O5:=hid (O4.o);clear hcs hb hc q5 hlen SE ST CM O4 H;generalize os[i].syms[k]=y at *;generalize os[i].syms=ys at *;generalize gl[i]=bk at *
  go_upto_region 6 with fail
  go_quiet (fail)
  have G5:=hid (yd G4.o nq);have gK:=hid (bZ.o.drewN nq);have r0':=yc r0 (yd (World.grownBy.refl w4 none) nq);have r1':=yc r1 (yd (World.grownBy.refl w4 none) nq);clear z0 z1 f0 f1 r0 r1 q0 q1 q2 q3 ck k5;generalize w4.drewN nq=w5 at *;have z0:w5.cell? ⟨w.heap.size,0,none⟩=some (.int .i64 0):=gK.o.cell 0;have z1:w5.cell? ⟨w.heap.size,1,none⟩=some (.int .i64 0):=gK.o.cell 1;have f0:=gK.o.free 0;have f1:=gK.o.free 1;by_cases hs:y.ah≠1/\y.ah≠2
  ·have d1:(y.ah == 1)=false:=by simpa using hs.1
   have d2:(y.ah == 2)=false:=by simpa using hs.2
   have d3:(y.ah != 1)=true:=by simpa using hs.1
   have d4:(y.ah != 2)=true:=by simpa using hs.2
   have E:=hid (show R=none by rw [ST2.o,if_pos hs]);clear hs;go_wp2;have F:=(gK.o.set 0 (.int .i64 (-1))).set 1 (.int .i64 0);have h0:=F.cell 0;have h1:=F.cell 1;simp only [fu,fC,eX,dH,dL,dK] at h0 h1;refine bodyPost_ret (v:=iF none) ?_ rfl ⟨by rw [E.o],EI G5.o _ (Nat.le_refl _) _ _⟩;clear F z0 z1 f0 f1 r0' r1';generalize World.setCell _ _ _=WF at *;simp [results,Tryz.results17,go_sem,iF,h0,h1]
  ·have E:=hid (show R=some (i,k) by rw [ST2.o,if_neg hs]);have FIN:Hd (∀ (W:World),W=((w5.setCell ⟨w.heap.size,0,none⟩ (.int .i64 i)).setCell ⟨w.heap.size,1,none⟩ (.int .i64 k))->W.cell? ⟨w.heap.size,0,none⟩=some (.int .i64 i)/\W.cell? ⟨w.heap.size,1,none⟩=some (.int .i64 k)):=by
    rintro W rfl;have F:=(gK.o.set 0 (.int .i64 i)).set 1 (.int .i64 k);exact ⟨F.cell 0,F.cell 1⟩
   by_cases h1:y.ah=1
   ·have d1:(y.ah == 1)=true:=by simpa using h1
    have d3:(y.ah != 1)=false:=by simpa using h1
    clear hs h1;go_wp2;obtain ⟨h0,h1⟩:=FIN.o _ rfl;refine bodyPost_ret (v:=iF (some (i,k))) ?_ rfl ⟨by rw [E.o],EI G5.o _ (Nat.le_refl _) _ _⟩;clear z0 z1 f0 f1 r0' r1';generalize World.setCell _ _ _=WF at *;simp [results,Tryz.results17,go_sem,iF,h0,h1]
   ·have h2:y.ah=2:=Classical.byContradiction fun c=>hs ⟨h1,c⟩
    have d1:(y.ah == 1)=false:=by simpa using h1
    have d3:(y.ah != 1)=true:=by simpa using h1
    have d2:(y.ah == 2)=true:=by simpa using h2
    have d4:(y.ah != 2)=false:=by simpa using h2
    clear hs h1 h2;go_wp2;obtain ⟨h0,h1⟩:=FIN.o _ rfl;refine bodyPost_ret (v:=iF (some (i,k))) ?_ rfl ⟨by rw [E.o],EI G5.o _ (Nat.le_refl _) _ _⟩;clear z0 z1 f0 f1 r0' r1';generalize World.setCell _ _ _=WF at *;simp [results,Tryz.results17,go_sem,iF,h0,h1]
end Go.Proofs.YtelehpmjhjljgaaGreatDoor
