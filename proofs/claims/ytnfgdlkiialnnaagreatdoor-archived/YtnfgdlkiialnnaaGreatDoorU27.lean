/- Archived: the walk. -/
/- What the rows lay: the three tables. -/
/- The row and the card of Archived. -/
import Derived.Test.YtnfgdlkiialnnaaGreatDoorU26
import Derived.Test.YtnfgdlkiialnnaaGreatDoorU09
import Derived.Test.YtnfgdlkiialnnaaGreatDoorU24
import Derived.ProofKit
import Derived.OpenShut
import Derived.ChangeMaps5
import Derived.Deep.DeepHandedRow
import Derived.Lib.LaidTab
import Derived.Test.YtnfgdlkiialnnaaGreatDoorCards
import Derived.Test.YtnfgdlkiialnnaaGreatDoorTie
set_option maxHeartbeats 16000000
namespace Go.Proofs.YtnfgdlkiialnnaaGreatDoor
open Go.RowKit
set_option maxRecDepth 100000 in
theorem yjX (s:ByteArray) (w:World) (ht:Tabs w) (hs:s.size<=1048576) :
  Calls Tryz.prog 16 #[.string s] w fun e w'=>yeW (sl s) w.heap.size e w'/\w.grownBy w' none:=by
 have cM:=hid (ygx s w ht hs)
 clear ht
 go_enter Tryz.func16,Tryz.ntmps16
 go_wp2_with fail
 refine cM.o.mono ?_
 rintro e V ⟨hr,hg⟩
 have G:=hid hg
 have HR:=hid hr
 clear hg cM
 rcases hr with ⟨ms,v,-,rfl,-⟩ | ⟨-,rfl⟩
 ·go_wp2
  go_ret2
  exact ⟨HR.o,G.o⟩
 ·go_wp2
  go_ret2
  exact ⟨HR.o,G.o⟩
theorem ygR {W:World} {B n:Nat} {v:Value} {xs:List Value} (h:W.ownsRow B 9 1 v n xs) (hn:0 < n):∃ g cap cur,v = .slice (some ⟨g,0,none⟩) n cap/\B<=g/\yc W g cur 9/\n<=cur.size/\∀ i,i < n->cur[i]?=xs[i]?:=by
 rcases h.2 with ⟨-,c⟩ | ⟨g,cap,cur,hv,hb,hg,h1,-,h3,h4⟩
 ·omega
 ·refine ⟨g,cap,cur,hv,hb,hg,by omega,fun i hi=>?_⟩
  rw [<- h4,List.getElem?_take,if_pos (by omega),Array.getElem?_toList]
theorem yqP {t:List UInt8} (h:yej t):ybG (asmB t)=(As.assemble t).2:=by
 rcases yhk h with ⟨-,-,e⟩ | ⟨c,-⟩
 ·simpa using e.symm
 ·cases c
theorem yqh {L:List (List UInt8)} {os:List Lk.Obj} (ha:ybv (arB L) L) (hs:∀ m∈L,m.length<=65535) (ho:os=L.map ybG):yaP (arB L) true os/\(arB L).length<=1048576:=by
 refine ⟨.inr ⟨rfl,fun c=>?_,L,ha,ho⟩,?_⟩
 ·have e:=c.2
  rw [Lk.objB_eq] at e
  unfold arB at e
  simp at e
 ·have f:=ygi memB 65537 L (fun m hm=>by have:=hs m hm; unfold memB; rw [ysF,Lk.le_length]; omega)
  have:=ha.1.2
  unfold arB
  rw [ysF,ysF,Lk.le_length]
  simp only [ysH,List.length_nil]
  omega
theorem ylQ (n t:Nat) (h1:1<=n) (h5:n<=5) (ht:t < n+1):ydC n t:=by
 rcases (show n=1\/n=2\/n=3\/n=4\/n=5 by omega) with rfl | rfl | rfl | rfl | rfl
 ·exact ar_1 t ht
 ·exact ar_2 t ht
 ·exact ar_3 t ht
 ·exact ar_4 t ht
 ·exact ar_5 t ht
theorem yct (n:Nat):(Ar.texts n).length=n+1:=by simp [Ar.texts]
theorem yfp (n:Nat) (h:n < 6):∀ t∈Ar.texts n,yej t:=fun t ht=>yjz (List.all_eq_true.1 (yoC n h) t ht)
theorem yrU (n k:Nat) (h:k+1 < n):(⟨#[46,103,108,111,98,108,32]⟩:ByteArray) ++ bs (Ar.nam k) ++ ⟨#[10]⟩ ++ bs (Ar.nam k) ++ ⟨#[58,32,97,100,100,105,32,120,49,48,44,120,49,48,44]⟩ ++ bs (Ar.dig (k+1)) ++ ⟨#[10]⟩ ++ ⟨#[116,97,105,108,32]⟩ ++ bs (Ar.nam (k+1)) ++ ⟨#[10]⟩=bs (Ar.text n k):=by
 unfold Ar.text
 rw [if_pos h]
 apply ByteArray.ext
 simp [bs]
theorem yri (n k:Nat) (h:¬ k+1 < n):(⟨#[46,103,108,111,98,108,32]⟩:ByteArray) ++ bs (Ar.nam k) ++ ⟨#[10]⟩ ++ bs (Ar.nam k) ++ ⟨#[58,32,97,100,100,105,32,120,49,48,44,120,49,48,44]⟩ ++ bs (Ar.dig (k+1)) ++ ⟨#[10]⟩ ++ ⟨#[114,101,116,10]⟩=bs (Ar.text n k):=by
 unfold Ar.text
 rw [if_neg h]
 apply ByteArray.ext
 simp [bs]
theorem ybI {W:World} {R g o:Nat} {v:Value} (h:W.cell? ⟨g,o,none⟩=some v) (hne:g≠R) (a b c d e:Value):(((((W.setCell ⟨R,0,none⟩ a).setCell ⟨R,1,none⟩ b).setCell ⟨R,2,none⟩ c).setCell ⟨R,3,none⟩ d).setCell ⟨R,4,none⟩ e).cell? ⟨g,o,none⟩=some v :=
 World.grownBy.cell (World.grownBy.trans (yf _ R 3 d) (yf _ R 4 e)) (ybp h hne a b c) (by simpa using hne)
theorem ymh {W:World} {R:Nat} {x0 x1 x2 x3 x4:Value} (h:yc W R #[x0,x1,x2,x3,x4] 39) (a b c d e:Value):yc (((((W.setCell ⟨R,0,none⟩ a).setCell ⟨R,1,none⟩ b).setCell ⟨R,2,none⟩ c).setCell ⟨R,3,none⟩ d).setCell ⟨R,4,none⟩ e) R #[a,b,c,d,e] 39:=by
 simpa using ((((h.set 0 a).set 1 b).set 2 c).set 3 d).set 4 e
theorem ymg {W:World} {R B:Nat} {x0 x1 x2 x3 x4:Value} {ao:Option Addr} {ca:Nat} {wv:Int} (h:yc W R #[x0,x1,x2,x3,x4] 39) (ho:W.ownsRow B 3 1 (.slice ao 1 ca) 1 [.int .i64 wv]) (a b c d e:Value):yy (((((W.setCell ⟨R,0,none⟩ a).setCell ⟨R,1,none⟩ b).setCell ⟨R,2,none⟩ c).setCell ⟨R,3,none⟩ d).setCell ⟨R,4,none⟩ e) ao [wv] :=
 yy.of_own (yz (t:=3) (xs:=[wv].map (Value.int .i64)) ho (World.grownBy.trans (World.grownBy.trans (World.grownBy.trans (World.grownBy.trans (yf W R 0 a) (yf _ R 1 b)) (yf _ R 2 c)) (yf _ R 3 d)) (yf _ R 4 e)) (RowT.blk h) (by decide))
set_option maxRecDepth 100000 in
theorem yjy (c d:Int) (w:World) (ht:Tabs w) (hN:NTab w) (hB:3<=w.heap.size) (h0:-9223372036854775808<=c) (h1:c<=9223372036854775807) (h2:-9223372036854775808<=d) (h3:d<=9223372036854775807) :
  Calls Tryz.prog 7 #[.int .i64 c,.int .i64 d] w fun e w'=>e = .returned (.bool true)/\w.grownBy w' none:=by
 have HT:=hid ht
 have HN:=hid hN
 clear ht hN
 go_enter Tryz.func7,Tryz.ntmps7
 go_wp2_with fail
 refine (yom c w h0 h1).mono ?_
 rintro e w' ⟨⟨i,hi,rfl⟩,hw⟩
 rw [hw]
 clear hw w'
 have wi:IntKind.i64.wrap (1+(i:Int))=1+i:=IntWalk.i64_in _ ⟨by omega,by omega⟩
 obtain ⟨i0,hi0,hz0,hz1,hz2⟩:=info_parts Tryz.infoStr
 obtain ⟨N,hN1,hN5,hNi⟩:∃ N:Nat,1<=N/\N<=5/\(1+(i:Int))=N:=⟨i+1,by omega,by omega,by omega⟩
 rw [hNi] at wi
 go_wp2
 clear wi hNi hi
 go_loopw [6,7] (fun v kk wr=>∃ k:Nat,k<=N/\kk = .int .i64 k/\wr.ownsRow w.heap.size 9 1 v k (((List.range k).map (Ar.text N)).map fun l=>.string (bs l))/\w.grownBy wr none) (fun _ kk _=>N - (intOf kk).toNat)
 case atStart=>exact ⟨0,Nat.zero_le _,rfl,World.ownsRow_nil _ _ _ _,World.grownBy.refl _ _⟩
 case round =>
  obtain ⟨k,hk,rfl,hown,hgr⟩:=hrel
  obtain ⟨av,cv,rfl⟩:=yg hown
  have HO:=hid hown
  have G:=hid hgr
  clear hown hgr
  by_cases hlt:k < N
  ·have g1:(k:Int) < (N:Int):=by omega
   have hz:=G.o.size
   have w1:IntKind.i64.wrap ((k:Int)+1)=((k+1:Nat):Int):=by rw [IntWalk.i64_in _ ⟨by omega,by omega⟩]; omega
   have sn:(bs (Ar.nam k)).size=2:=by rw [yaM]; rfl
   have sn1:(bs (Ar.nam (k+1))).size=2:=by rw [yaM]; rfl
   have sd:(bs (Ar.dig (k+1))).size=1:=by rw [yaM]; rfl
   have cL:=hid (fun W=>ygv k W (by omega))
   have cL1:=hid (fun W=>ygv (k+1) W (by omega))
   have cN:=hid (fun W=>ylZ (k+1) W (by omega))
   go_wp2_with fail
   refine (cL.o _).mono ?_
   rintro e V1 ⟨rfl,hg1⟩
   have G1:=hid (ya G.o hg1)
   have HO1:=hid (HO.o.kept hg1 (Decidable.em _))
   clear hg1 cL HO G
   go_wp2_with fail
   refine (cN.o _).mono ?_
   rintro e V2 ⟨rfl,hg2⟩
   have G2:=hid (ya G1.o hg2)
   have HO2:=hid (HO1.o.kept hg2 (Decidable.em _))
   clear hg2 cN HO1 G1
   have TK:=hid (show (((List.range (k+1)).map (Ar.text N)).map fun l=>Value.string (bs l))=(((List.range k).map (Ar.text N)).map fun l=>.string (bs l)) ++ [.string (bs (Ar.text N k))] by rw [List.range_succ,List.map_append,List.map_append]; rfl)
   by_cases hq:k+1 < N
   ·have d1:decide ((k:Int)+1 < (N:Int))=true:=by simp; omega
    have g2:(k:Int)+1 < (N:Int):=by omega
    have HS:=yrU N k hq
    clear hq
    go_wp2_with fail
    refine (cL1.o _).mono ?_
    rintro e V3 ⟨rfl,hg3⟩
    have G3:=hid (ya G2.o hg3)
    have HO3:=hid (HO2.o.kept hg3 (Decidable.em _))
    clear hg3 cL1 HO2 G2
    go_wp2_with (at_builtin; refine wpList_append_own _ rfl _ _ 25 rfl w.heap.size 9 i0 (.string ⟨#[]⟩) 1 16 Tryz.underlying25 hi0 hz0 hz1 hz2 rfl (by decide) _ _ _ rfl (HO3.o.alloc _) ⟨V3.heap.size,0,none⟩ 1 1 [.string (bs (Ar.text N k))] rfl rfl (cell_one_new _ _ _) (by intro u hu; simp at hu; subst hu; rfl) (by unfold maxLen; omega) (by omega) (by have:=G3.o.size; simp; omega) ?_; intro v' w3 hown' hgrow _; obtain ⟨av',cv',rfl⟩:=yg hown'; have K:=hid hown'; have GK:=hid (yaR (ya G3.o (ysE _ _ _)) hgrow (fun b hb=>(HO3.o.lt b hb).1)); clear hgrow hown')
    go_wp2
    go_roundw
    case rel=>exact ⟨k+1,by omega,by go_num,by rw [TK.o]; exact K.o,GK.o⟩
    case measure=>simp [intOf]; omega
   ·have d1:decide ((k:Int)+1 < (N:Int))=false:=by simp; omega
    have HS:=yri N k hq
    clear hq
    go_wp2_with (at_builtin; refine wpList_append_own _ rfl _ _ 25 rfl w.heap.size 9 i0 (.string ⟨#[]⟩) 1 16 Tryz.underlying25 hi0 hz0 hz1 hz2 rfl (by decide) _ _ _ rfl (HO2.o.alloc _) ⟨V2.heap.size,0,none⟩ 1 1 [.string (bs (Ar.text N k))] rfl rfl (cell_one_new _ _ _) (by intro u hu; simp at hu; subst hu; rfl) (by unfold maxLen; omega) (by omega) (by have:=G2.o.size; simp; omega) ?_; intro v' w3 hown' hgrow _; obtain ⟨av',cv',rfl⟩:=yg hown'; have K:=hid hown'; have GK:=hid (yaR (ya G2.o (ysE _ _ _)) hgrow (fun b hb=>(HO2.o.lt b hb).1)); clear hgrow hown')
    go_wp2
    go_roundw
    case rel=>exact ⟨k+1,by omega,by go_num,by rw [TK.o]; exact K.o,GK.o⟩
    case measure=>simp [intOf]; omega
  ·obtain rfl:k=N:=by omega
   have g3:decide ((k:Int) < (k:Int))=false:=by simp
   have hz:=G.o.size
   go_wp2_with (at_builtin; refine wpList_append_own _ rfl _ _ 25 rfl w.heap.size 9 i0 (.string ⟨#[]⟩) 1 16 Tryz.underlying25 hi0 hz0 hz1 hz2 rfl (by decide) _ _ _ rfl (HO.o.alloc _) ⟨wr.heap.size,0,none⟩ 1 1 [.string (bs Ar.bad)] rfl rfl (cell_one_new _ _ _) (by intro u hu; simp at hu; subst hu; rfl) (by unfold maxLen; omega) (by omega) (by simp; omega) ?_; intro v' w3 hown' hgrow _; obtain ⟨av',cv',rfl⟩:=yg hown'; have K:=hid hown'; have GK:=hid (yaR (ya G.o (ysE _ _ _)) hgrow (fun b hb=>(HO.o.lt b hb).1)); clear hgrow hown')
   have TSL:((List.range k).map (Ar.text k)).length=k:=by simp
   have hstr:yci w3 av' ((List.range k).map (Ar.text k) ++ [Ar.bad]):=ygC (B:=w.heap.size) (cap:=cv') (by
    have:=K.o
    rw [ysF,TSL,List.map_append]
    exact this)
   have cM:=hid (yqM ((List.range k).map (Ar.text k)) Ar.bad av' cv' w3 hstr (by rw [TSL]; omega) (fun t ht=>yfp k (by omega) t (by unfold Ar.texts; exact List.mem_append_left _ ht)) yrh (HT.o.grown GK.o) (HN.o.below (ybr GK.o (Nat.le_refl _) (by simp)) hB) (by have:=GK.o.size; omega))
   rw [TSL] at cM
   refine cM.o.mono ?_
   rintro e W4 ⟨rfl,h4⟩
   have G4:=hid (ya GK.o h4)
   obtain ⟨sg,cap4,cur,hv4,hsg,hbl,hcs,hcc⟩:=ygR (K.o.kept h4 (Decidable.em _)) (by omega)
   cases hv4
   have HB4:=hid hbl
   have x0:W4.cell? ⟨sg,k,none⟩=some (.string (bs Ar.bad)):=by
    rw [hbl.cell k,hcc k (by omega),List.getElem?_append_right (by simp)]
    simp
   have f0:=hbl.free k
   have GS:=hid (yM G4.o (yf W4 sg k (.string (bs Ar.last))) (by intro q e; simp at e; omega))
   have ST:=hid (show ydZ (W4.setCell ⟨sg,k,none⟩ (.string (bs Ar.last))) sg (cur.setIfInBounds k (.string (bs Ar.last))) (Ar.texts k) from ⟨hbl.set k _,fun i hi=>by
    rw [yct] at hi
    rw [Array.getElem?_setIfInBounds]
    by_cases e:k=i
    ·subst e
     rw [if_pos rfl,if_pos (by omega)]
     simp [Ar.texts]
    ·rw [if_neg e,hcc i hi,List.getElem?_append_left (by simp; omega)]
     simp [Ar.texts,List.getElem_append_left,show i < k by omega]⟩)
   clear hstr cM h4 hbl hcc K GK HO G
   have cY:=hid (ykg (Ar.texts k) (some ⟨sg,0,none⟩) cv' (W4.setCell ⟨sg,k,none⟩ (.string (bs Ar.last))) ST.o.strs (by rw [yct]; omega) (yfp k (by omega)) (HT.o.grown GS.o) (HN.o.below (ybr GS.o (Nat.le_refl _) (by simp)) hB) (by have:=GS.o.size; omega))
   rw [yct] at cY
   go_wp2_with fail
   refine cY.o.mono ?_
   rintro e W6 ⟨⟨ao,cap6,rfl,hls⟩,h6⟩
   have G6:=hid (ya GS.o h6)
   have HL:=hid hls
   clear hls h6 cY GS ST HB4 G4 x0 f0 hcs hsg
   go_wp2
   have wk:IntKind.i64.wrap ((k:Int)+1)=((k+1:Nat):Int):=by rw [IntWalk.i64_in _ ⟨by omega,by omega⟩]; omega
   obtain ⟨t,ht⟩:∃ t,pk d (k+1)=t:=⟨_,rfl⟩
   have tl:t < k+1:=by rw [<- ht]; exact ysw d (k+1) (by omega)
   have cP:=hid (fun W=>yon d (k+1) W (by omega) (by omega) h2 h3)
   rw [ht] at cP
   clear ht
   go_loopw [13,14] (fun v jj wr=>∃ j:Nat,j<=k+1/\jj = .int .i64 j/\wr.ownsRow W6.heap.size 9 1 v j (((List.range j).map fun q=>asmB ((Ar.texts k).getD ((q+t) % (k+1)) [])).map fun l=>.string (bs l))/\W6.grownBy wr none) (fun _ jj _=>k+1 - (intOf jj).toNat)
   case atStart=>exact ⟨0,Nat.zero_le _,rfl,World.ownsRow_nil _ _ _ _,World.grownBy.refl _ _⟩
   case round =>
    obtain ⟨j,hj,rfl,hown,hgr⟩:=hrel
    obtain ⟨av,cv,rfl⟩:=yg hown
    have HO:=hid hown
    have G:=hid hgr
    clear hown hgr
    by_cases hlt:j < k+1
    ·have g1:(j:Int)<=(k:Int):=by omega
     have d1:decide ((j:Int)<=(k:Int))=true:=by simp; omega
     go_wp2_with fail
     refine (cP.o _).mono ?_
     rintro e w' ⟨rfl,hw⟩
     rw [hw]
     clear hw w'
     obtain ⟨r,hr⟩:∃ r,(j+t) % (k+1)=r:=⟨_,rfl⟩
     have rl:r < k+1:=by rw [<- hr]; exact Nat.mod_lt _ (by omega)
     have m2:((j:Int)+(t:Int)) % ((k:Int)+1)=(r:Int):=by rw [<- hr,Int.natCast_emod]; rfl
     have m1:Int.tmod ((j:Int)+(t:Int)) ((k:Int)+1)=(r:Int):=by rw [Int.tmod_eq_emod_of_nonneg (by omega)]; exact m2
     have z1:((k:Int)+1 == 0)=false:=by simp; omega
     have z2:(k:Int)+1≠0:=by omega
     obtain ⟨mg,mo,hao,hmc⟩:=HL.o (by rw [ysK,yct]; omega)
     subst hao
     have ck:=yd (hmc r (by rw [ysK,yct]; exact rl)) G.o
     rw [ypk asmB (Ar.texts k) []] at ck
     have TK:=hid (show (((List.range (j+1)).map fun q=>asmB ((Ar.texts k).getD ((q+t) % (k+1)) [])).map fun l=>Value.string (bs l))=(((List.range j).map fun q=>asmB ((Ar.texts k).getD ((q+t) % (k+1)) [])).map fun l=>.string (bs l)) ++ [.string (bs (asmB ((Ar.texts k).getD r [])))] by rw [List.range_succ,List.map_append,List.map_append,<- hr]; rfl)
     have hrk:(r:Int) < ((k+1:Nat):Int):=by omega
     generalize asmB ((Ar.texts k).getD r [])=sr at *
     clear hmc hr
     have gw:=G.o.size
     go_wp2_with (at_builtin; refine wpList_append_own _ rfl _ _ 25 rfl W6.heap.size 9 i0 (.string ⟨#[]⟩) 1 16 Tryz.underlying25 hi0 hz0 hz1 hz2 rfl (by decide) _ _ _ rfl (HO.o.alloc _) ⟨wr.heap.size,0,none⟩ 1 1 [.string (bs sr)] rfl rfl (cell_one_new _ _ _) (by intro u hu; simp at hu; subst hu; rfl) (by unfold maxLen; omega) (by omega) (by simp; omega) ?_; intro v' w3 hown' hgrow _; obtain ⟨av',cv',rfl⟩:=yg hown'; have K:=hid hown'; have GK:=hid (yaR (ya G.o (ysE _ _ _)) hgrow (fun b hb=>(HO.o.lt b hb).1)); clear hgrow hown')
     go_wp2
     go_roundw
     case rel=>exact ⟨j+1,by omega,by go_num,by rw [TK.o]; exact K.o,GK.o⟩
     case measure=>simp [intOf]; omega
    ·obtain rfl:j=k+1:=by omega
     have d1:decide (((k+1:Nat):Int)<=(k:Int))=false:=by simp; omega
     have d2:decide ((k:Int)+1<=(k:Int))=false:=by simp; omega
     obtain ⟨og,ocap,ocur,hov,hog,hob,hos,hoc⟩:=ygR HO.o (by omega)
     cases hov
     have OLL:((List.range (k+1)).map fun q=>asmB ((Ar.texts k).getD ((q+t) % (k+1)) [])).length=k+1:=by simp
     have OLM:∀ m∈(List.range (k+1)).map fun q=>asmB ((Ar.texts k).getD ((q+t) % (k+1)) []),∃ x∈Ar.texts k,m=asmB x:=by
      intro m hm
      obtain ⟨q,-,rfl⟩:=List.mem_map.1 hm
      exact ⟨_,yjS (Ar.texts k) [] _ (by rw [yct]; exact Nat.mod_lt _ (by omega)),rfl⟩
     have OKO:=hid (show ∀ m∈(List.range (k+1)).map fun q=>asmB ((Ar.texts k).getD ((q+t) % (k+1)) []),ybm m/\m.length<=65535 from fun m hm=>by
      obtain ⟨x,hx,rfl⟩:=OLM m hm
      have ok:=yfp k (by omega) x hx
      exact ⟨yrS (ynu ok),yeF ok.2⟩)
     have G7:=hid (ya G6.o G.o)
     have SO:ydZ wr og ocur ((List.range (k+1)).map fun q=>asmB ((Ar.texts k).getD ((q+t) % (k+1)) [])):=⟨hob,fun i hi=>by
      rw [OLL] at hi
      rw [hoc i hi,List.getElem?_map,ysI (by rw [OLL]; exact hi)]
      rfl⟩
     have HSO:=hid SO
     have OIS:=hid (show (Ar.objs k t)=((List.range (k+1)).map fun q=>(As.assemble ((Ar.texts k).getD ((q+t) % (k+1)) [])).2) from rfl)
     have cPk:=hid (ynL og ocur cv _ wr (HT.o.grown G7.o) SO (by rw [OLL]; omega) (by rw [OLL]; omega) OKO.o)
     rw [OLL] at cPk
     have ARL:=hid (show ybv (arB ((List.range (k+1)).map fun q=>asmB ((Ar.texts k).getD ((q+t) % (k+1)) []))) ((List.range (k+1)).map fun q=>asmB ((Ar.texts k).getD ((q+t) % (k+1)) [])) from ⟨by rw [OLL]; omega,fun m hm=>(OKO.o m hm).1,rfl⟩)
     have HOLL:=hid OLL
     have FAR:=hid (yqh (os:=Ar.objs k t) ARL.o (fun m hm=>(OKO.o m hm).2) (by
      unfold Ar.objs
      rw [List.map_map]
      apply List.map_congr_left
      intro q _
      exact (yqP (yfp k (by omega) _ (yjS (Ar.texts k) [] _ (by rw [yct]; exact Nat.mod_lt _ (by omega))))).symm))
     clear OLM SO hob hoc OLL
     generalize ((List.range (k+1)).map fun q=>asmB ((Ar.texts k).getD ((q+t) % (k+1)) []))=OL at *
     go_wp2_with fail
     refine cPk.o.mono ?_
     rintro e V7 ⟨rfl,h7⟩
     have G8:=hid (ya G7.o h7)
     have HS7:=hid (show ydZ V7 og ocur OL from ⟨HSO.o.blk.grown h7 (by simp),HSO.o.cells⟩)
     have cMb:=hid (yjX (bs (arB OL)) V7 (HT.o.grown G8.o) (by rw [yaM]; exact FAR.o.2))
     have SB:=ycl (arB OL)
     clear cPk h7 HSO
     go_wp2_with fail
     refine cMb.o.mono ?_
     rintro e V8 ⟨hmr,h8⟩
     unfold yeW at hmr
     rw [SB] at hmr
     rcases hmr with ⟨ms,v,hm,rfl,ho⟩ | ⟨hno,-⟩
     case inr=>exact (hno _ ARL.o).elim
     have EQM:ms=OL:=(yfb hm).symm.trans (yfb ARL.o)
     subst EQM
     rw [HOLL.o] at ho
     obtain ⟨bg,bcap,bcur,hbv,-,hbb,-,hbc⟩:=ygR ho (by omega)
     subst hbv
     have G9:=hid (ya G8.o h8)
     have hml:ms.length=k+1:=HOLL.o
     have hl0:0 < ms.length:=by omega
     have hlk:k < ms.length:=by omega
     have b0:V8.cell? ⟨bg,0,none⟩=some (.string (bs ms[0])):=by rw [hbb.cell 0,hbc 0 (by omega)]; unfold strV; rw [List.getElem?_map,ysI hl0]; rfl
     have bk:V8.cell? ⟨bg,k,none⟩=some (.string (bs ms[k])):=by rw [hbb.cell k,hbc k (by omega)]; unfold strV; rw [List.getElem?_map,ysI hlk]; rfl
     have o0:V8.cell? ⟨og,0,none⟩=some (.string (bs ms[0])):=yd ((HS7.o.blk.cell 0).trans (HS7.o.cells 0 hl0)) h8
     have ok:V8.cell? ⟨og,k,none⟩=some (.string (bs ms[k])):=yd ((HS7.o.blk.cell k).trans (HS7.o.cells k hlk)) h8
     generalize bs ms[0]=t0 at *
     generalize bs ms[k]=tk at *
     clear hm ho hbb hbc cMb SB h8 HS7 hlk hl0 hml
     go_wp2
     go_quiet (fail)
     have GQ:=hid (ye G9.o nq)
     have hh:(V8.drewN nq).heap.size=V8.heap.size:=by simp
     have AM:=ysE (V8.drewN nq) (.cells ([Ar.main].map fun l=>Value.string (bs l)).toArray 9) none
     have BM:=yc.new (V8.drewN nq) ([Ar.main].map fun l=>Value.string (bs l)).toArray 9
     rw [hh] at BM
     have okm:=yjz yqi
     have cM3:=hid (ykg [Ar.main] (some ⟨V8.heap.size,0,none⟩) 1 _ (ygT [Ar.main] BM) (by simp) (fun t ht=>by rw [List.mem_singleton] at ht; rw [ht]; exact okm) (HT.o.grown (ya GQ.o AM)) (HN.o.below (ybr (ya GQ.o AM) (Nat.le_refl _) (by simp)) hB) (by have:=(ya GQ.o AM).size; omega))
     go_wp2_with fail
     refine cM3.o.mono ?_
     rintro e V9 ⟨⟨ao3,cap3,rfl,hl3⟩,h9⟩
     have GM:=hid (ya (ya GQ.o AM) h9)
     obtain ⟨mg,mo,hao3,hmc⟩:=hl3 (by simp)
     subst hao3
     have m0:V9.cell? ⟨mg,mo,none⟩=some (.string (bs (asmB Ar.main))):=hmc 0 (by simp)
     have KM:=hid (ynu okm)
     clear hmc hl3 h9 cM3 AM BM hh okm
     generalize asmB Ar.main=sm at *
     go_wp2_with fail
     refine (ypr _).mono ?_
     rintro e VA ⟨rfl,hA⟩
     have AB:=ysE VA (.cells #[.int .i64 4096,.int .i64 65536,.int .i64 131072] 35) none
     have GA:=hid (ya (ya GM.o hA) AB)
     have BB:=hid (yc.new VA #[.int .i64 4096,.int .i64 65536,.int .i64 131072] 35)
     have mA:=yd m0 (ya hA AB)
     clear hA AB m0 GM
     go_wp2_with fail
     generalize VA.alloc (.cells #[.int .i64 4096,.int .i64 65536,.int .i64 131072] 35)=VB at *
     generalize VA.heap.size=Bb at *
     have FR:=hid FAR.o
     generalize arB ms=ar at *
     have b0:VB.cell? ⟨Bb,0,none⟩=some (.int .i64 4096):=BB.o.cell 0
     have b1:VB.cell? ⟨Bb,1,none⟩=some (.int .i64 65536):=BB.o.cell 1
     have b2:VB.cell? ⟨Bb,2,none⟩=some (.int .i64 131072):=BB.o.cell 2
     have RUN:=hid (ylQ k t hN1 (by omega) tl).1
     obtain ⟨wv,hwv⟩:∃ wv:Int,((k * (k+1) / 2:Nat):Int)=wv:=⟨_,rfl⟩
     rw [hwv] at RUN
     have cR:=hid (fun (U:World) (X:Nat) (hX:yc U X #[.string (bs sm),.string (bs ar)] 9) (hU:VB.grownBy U none)=>(show Calls Tryz.prog 18 #[.slice (some ⟨X,0,none⟩) 2 2,.agg #[.int .i64 4096,.int .i64 65536,.int .i64 131072],.slice none 0 0] U (fun e w'=>(∃ (ao2:Option Addr) (ca:Nat) (st rd n:Int),e = .returned (.tuple #[.agg #[.int .i64 1,.int .i64 0,.slice ao2 1 ca,.int .i64 st,.int .i64 rd],.int .i64 n,.bool true])/\∃ B,w'.ownsRow B 3 1 (.slice ao2 1 ca) 1 [.int .i64 wv])/\U.grownBy w' none) from (ypc 4096 65536 131072 (some ⟨X,0,none⟩) 2 [sm,ar] [(false,[Ar.mainO]),(true,Ar.objs k t)] none 0 [] [wv] 0 U (ygT [sm,ar] hX) (by intro f hf; simp at hf; have:=KM.o.2; have:=FR.o.2; rcases hf with rfl | rfl <;> omega) (fun h=>by simp at h) (by simp) (HT.o.grown (ya GA.o hU)) (by simp) (by simp) yiA ⟨KM.o.1,FR.o.1,trivial⟩ RUN.o (ynK RUN.o.2.1)).mono (fun e w' ⟨⟨ao2,ca,st,he,B,ho⟩,hg⟩=>⟨⟨ao2,ca,st,_,_,he,B,ho⟩,hg⟩)))
     go_cut [12,21] from 154 to 164 (fun o r wx=>o = .bool true/\∃ rb ao2 ca st rd,r = .pointer (some ⟨rb,0,none⟩)/\yc wx rb #[.int .i64 1,.int .i64 0,.slice ao2 1 ca,.int .i64 st,.int .i64 rd] 39/\yy wx ao2 [wv]/\VB.grownBy wx none)
     case first =>
      have a1:=yh (ysE VB (.cells #[.string (bs sm),.string (bs ar)] 9) none)
      have a2:=yh (ya (ysE VB (.cells #[.string (bs sm),.string (bs ar)] 9) none) (ysE (VB.alloc (.cells #[.string (bs sm),.string (bs ar)] 9)) (.cells #[.int .i64 0,.int .i64 0,.slice none 0 0,.int .i64 0,.int .i64 0] 39) none))
      have a3:=yh (ya (ysE VB (.cells #[.int .i64 0,.int .i64 0,.slice none 0 0,.int .i64 0,.int .i64 0] 39) none) (ysE (VB.alloc (.cells #[.int .i64 0,.int .i64 0,.slice none 0 0,.int .i64 0,.int .i64 0] 39)) (.cells #[.string (bs sm),.string (bs ar)] 9) none))
      have bx1:=yW (yc.new VB #[.string (bs sm),.string (bs ar)] 9)
      have bx2:=yW ((yc.new VB #[.string (bs sm),.string (bs ar)] 9).grown (ysE (VB.alloc (.cells #[.string (bs sm),.string (bs ar)] 9)) (.cells #[.int .i64 0,.int .i64 0,.slice none 0 0,.int .i64 0,.int .i64 0] 39) none) (by simp))
      have bx3:=yW (yc.new (VB.alloc (.cells #[.int .i64 0,.int .i64 0,.slice none 0 0,.int .i64 0,.int .i64 0] 39)) #[.string (bs sm),.string (bs ar)] 9)
      have bf2:=yW (yc.new (VB.alloc (.cells #[.string (bs sm),.string (bs ar)] 9)) #[.int .i64 0,.int .i64 0,.slice none 0 0,.int .i64 0,.int .i64 0] 39)
      have bf3:=yW ((yc.new VB #[.int .i64 0,.int .i64 0,.slice none 0 0,.int .i64 0,.int .i64 0] 39).grown (ysE (VB.alloc (.cells #[.int .i64 0,.int .i64 0,.slice none 0 0,.int .i64 0,.int .i64 0] 39)) (.cells #[.string (bs sm),.string (bs ar)] 9) none) (by simp))
      rw [yaW] at bx3 bf2
      have BF2:=hid bf2
      have BF3:=hid bf3
      have cK1:=hid (cR.o _ _ bx1 a1)
      have A1:=hid a1
      have KC1:=hid (fun W (hg:((VB.alloc (.cells #[.string (bs sm),.string (bs ar)] 9)).drew).grownBy W none)=>show W.cell? ⟨mg,mo,none⟩=some (.string (bs sm))/\W.cell? ⟨Bb,0,none⟩=some (.int .i64 4096)/\W.cell? ⟨Bb,1,none⟩=some (.int .i64 65536)/\W.cell? ⟨Bb,2,none⟩=some (.int .i64 131072) from ⟨yd mA (ya a1 hg),yd b0 (ya a1 hg),yd b1 (ya a1 hg),yd b2 (ya a1 hg)⟩)
      have cK2:=hid (cR.o _ _ bx2 a2)
      have A2:=hid a2
      have KC2:=hid (fun W (hg:(((VB.alloc (.cells #[.string (bs sm),.string (bs ar)] 9)).alloc (.cells #[.int .i64 0,.int .i64 0,.slice none 0 0,.int .i64 0,.int .i64 0] 39)).drew).grownBy W none)=>show W.cell? ⟨mg,mo,none⟩=some (.string (bs sm))/\W.cell? ⟨Bb,0,none⟩=some (.int .i64 4096)/\W.cell? ⟨Bb,1,none⟩=some (.int .i64 65536)/\W.cell? ⟨Bb,2,none⟩=some (.int .i64 131072) from ⟨yd mA (ya a2 hg),yd b0 (ya a2 hg),yd b1 (ya a2 hg),yd b2 (ya a2 hg)⟩)
      have cK3:=hid (cR.o _ _ bx3 a3)
      have A3:=hid a3
      have KC3:=hid (fun W (hg:(((VB.alloc (.cells #[.int .i64 0,.int .i64 0,.slice none 0 0,.int .i64 0,.int .i64 0] 39)).alloc (.cells #[.string (bs sm),.string (bs ar)] 9)).drew).grownBy W none)=>show W.cell? ⟨mg,mo,none⟩=some (.string (bs sm))/\W.cell? ⟨Bb,0,none⟩=some (.int .i64 4096)/\W.cell? ⟨Bb,1,none⟩=some (.int .i64 65536)/\W.cell? ⟨Bb,2,none⟩=some (.int .i64 131072) from ⟨yd mA (ya a3 hg),yd b0 (ya a3 hg),yd b1 (ya a3 hg),yd b2 (ya a3 hg)⟩)
      have hs0:mg≠VB.heap.size:=by have:=World.block_lt_of_cell? VB _ mA; simp at this; omega
      have hs1:mg≠VB.heap.size+1:=by have:=World.block_lt_of_cell? VB _ mA; simp at this; omega
      have hb0:Bb≠VB.heap.size:=by have:=World.block_lt_of_cell? VB _ b0; simp at this; omega
      have hb1:Bb≠VB.heap.size+1:=by have:=World.block_lt_of_cell? VB _ b0; simp at this; omega
      clear a1 a2 a3 bx1 bx2 bx3 bf2 bf3 cR
      go_region_held3 (fun w'=>w'.cell? ⟨mg,mo,none⟩=some (.string (bs sm))/\w'.cell? ⟨Bb,0,none⟩=some (.int .i64 4096)/\w'.cell? ⟨Bb,1,none⟩=some (.int .i64 65536)/\w'.cell? ⟨Bb,2,none⟩=some (.int .i64 131072))
       (go_keep)
       (first | (go_at_call 18; with_reducible refine cK1.o.mono ?_; rintro e w' ⟨⟨ao2,ca,st,rd,n,rfl,B,hown⟩,h6⟩; obtain ⟨t0,t1,t2,t3⟩:=KC1.o _ h6) | (go_at_call 18; with_reducible refine cK2.o.mono ?_; rintro e w' ⟨⟨ao2,ca,st,rd,n,rfl,B,hown⟩,h6⟩; obtain ⟨t0,t1,t2,t3⟩:=KC2.o _ h6; have v0:=ybI t0 hs1 (.int .i64 1) (.int .i64 0) (.slice ao2 1 ca) (.int .i64 st) (.int .i64 rd); have v1:=ybI t1 hb1 (.int .i64 1) (.int .i64 0) (.slice ao2 1 ca) (.int .i64 st) (.int .i64 rd); have v2:=ybI t2 hb1 (.int .i64 1) (.int .i64 0) (.slice ao2 1 ca) (.int .i64 st) (.int .i64 rd); have v3:=ybI t3 hb1 (.int .i64 1) (.int .i64 0) (.slice ao2 1 ca) (.int .i64 st) (.int .i64 rd); have bf:=BF2.o.grown h6 (by simp); have y0:=bf.cell 0; have y1:=bf.cell 1; have y2:=bf.cell 2; have y3:=bf.cell 3; have y4:=bf.cell 4; simp only [ysz,ysA,ysy] at y0 y1 y2 y3 y4; have z0:=bf.free 0; have z1:=bf.free 1; have z2:=bf.free 2; have z3:=bf.free 3; have z4:=bf.free 4) | (go_at_call 18; with_reducible refine cK3.o.mono ?_; rintro e w' ⟨⟨ao2,ca,st,rd,n,rfl,B,hown⟩,h6⟩; obtain ⟨t0,t1,t2,t3⟩:=KC3.o _ h6; have v0:=ybI t0 hs0 (.int .i64 1) (.int .i64 0) (.slice ao2 1 ca) (.int .i64 st) (.int .i64 rd); have v1:=ybI t1 hb0 (.int .i64 1) (.int .i64 0) (.slice ao2 1 ca) (.int .i64 st) (.int .i64 rd); have v2:=ybI t2 hb0 (.int .i64 1) (.int .i64 0) (.slice ao2 1 ca) (.int .i64 st) (.int .i64 rd); have v3:=ybI t3 hb0 (.int .i64 1) (.int .i64 0) (.slice ao2 1 ca) (.int .i64 st) (.int .i64 rd); have bf:=BF3.o.grown h6 (by simp); have y0:=bf.cell 0; have y1:=bf.cell 1; have y2:=bf.cell 2; have y3:=bf.cell 3; have y4:=bf.cell 4; simp only [ysz,ysA,ysy] at y0 y1 y2 y3 y4; have z0:=bf.free 0; have z1:=bf.free 1; have z2:=bf.free 2; have z3:=bf.free 3; have z4:=bf.free 4))
      ·have P:Hd (yc (w'.alloc (.cells #[.int .i64 1,.int .i64 0,.slice ao2 1 ca,.int .i64 st,.int .i64 rd] 39)) (w'.heap.size) #[.int .i64 1,.int .i64 0,.slice ao2 1 ca,.int .i64 st,.int .i64 rd] 39/\yy (w'.alloc (.cells #[.int .i64 1,.int .i64 0,.slice ao2 1 ca,.int .i64 st,.int .i64 rd] 39)) ao2 [wv]/\VB.grownBy (w'.alloc (.cells #[.int .i64 1,.int .i64 0,.slice ao2 1 ca,.int .i64 st,.int .i64 rd] 39)) none):=⟨yc.new w' #[.int .i64 1,.int .i64 0,.slice ao2 1 ca,.int .i64 st,.int .i64 rd] 39,yy.of_own (xs:=[wv]) (hown.alloc (.cells #[.int .i64 1,.int .i64 0,.slice ao2 1 ca,.int .i64 st,.int .i64 rd] 39)),ya (ya A1.o h6) (ysE w' (.cells #[.int .i64 1,.int .i64 0,.slice ao2 1 ca,.int .i64 st,.int .i64 rd] 39) none)⟩
       clear h6 hown t0 t1 t2 t3 cK1 cK2 cK3 KC1 KC2 KC3 A1 A2 A3 BF2 BF3
       generalize (w'.alloc (.cells #[.int .i64 1,.int .i64 0,.slice ao2 1 ca,.int .i64 st,.int .i64 rd] 39))=WX at *
       go_wp2_with fail
       go_meet
       exact ⟨rfl,_,ao2,ca,st,rd,rfl,P.o.1,P.o.2.1,P.o.2.2⟩
      ·have P:Hd (yc (((((w'.setCell ⟨VB.heap.size+1,0,none⟩ (.int .i64 1)).setCell ⟨VB.heap.size+1,1,none⟩ (.int .i64 0)).setCell ⟨VB.heap.size+1,2,none⟩ (.slice ao2 1 ca)).setCell ⟨VB.heap.size+1,3,none⟩ (.int .i64 st)).setCell ⟨VB.heap.size+1,4,none⟩ (.int .i64 rd)) (VB.heap.size+1) #[.int .i64 1,.int .i64 0,.slice ao2 1 ca,.int .i64 st,.int .i64 rd] 39/\yy (((((w'.setCell ⟨VB.heap.size+1,0,none⟩ (.int .i64 1)).setCell ⟨VB.heap.size+1,1,none⟩ (.int .i64 0)).setCell ⟨VB.heap.size+1,2,none⟩ (.slice ao2 1 ca)).setCell ⟨VB.heap.size+1,3,none⟩ (.int .i64 st)).setCell ⟨VB.heap.size+1,4,none⟩ (.int .i64 rd)) ao2 [wv]/\VB.grownBy (((((w'.setCell ⟨VB.heap.size+1,0,none⟩ (.int .i64 1)).setCell ⟨VB.heap.size+1,1,none⟩ (.int .i64 0)).setCell ⟨VB.heap.size+1,2,none⟩ (.slice ao2 1 ca)).setCell ⟨VB.heap.size+1,3,none⟩ (.int .i64 st)).setCell ⟨VB.heap.size+1,4,none⟩ (.int .i64 rd)) none):=⟨ymh bf (.int .i64 1) (.int .i64 0) (.slice ao2 1 ca) (.int .i64 st) (.int .i64 rd),ymg bf hown (.int .i64 1) (.int .i64 0) (.slice ao2 1 ca) (.int .i64 st) (.int .i64 rd),ycG (ya A2.o h6) (VB.heap.size+1) (by omega) (.int .i64 1) (.int .i64 0) (.slice ao2 1 ca) (.int .i64 st) (.int .i64 rd)⟩
       clear bf v0 v1 v2 v3 y0 y1 y2 y3 y4 z0 z1 z2 z3 z4 h6 hown t0 t1 t2 t3 cK1 cK2 cK3 KC1 KC2 KC3 A1 A2 A3 BF2 BF3
       generalize (((((w'.setCell ⟨VB.heap.size+1,0,none⟩ (.int .i64 1)).setCell ⟨VB.heap.size+1,1,none⟩ (.int .i64 0)).setCell ⟨VB.heap.size+1,2,none⟩ (.slice ao2 1 ca)).setCell ⟨VB.heap.size+1,3,none⟩ (.int .i64 st)).setCell ⟨VB.heap.size+1,4,none⟩ (.int .i64 rd))=WX at *
       go_wp2_with fail
       go_meet
       exact ⟨rfl,_,ao2,ca,st,rd,rfl,P.o.1,P.o.2.1,P.o.2.2⟩
      ·have P:Hd (yc (((((w'.setCell ⟨VB.heap.size,0,none⟩ (.int .i64 1)).setCell ⟨VB.heap.size,1,none⟩ (.int .i64 0)).setCell ⟨VB.heap.size,2,none⟩ (.slice ao2 1 ca)).setCell ⟨VB.heap.size,3,none⟩ (.int .i64 st)).setCell ⟨VB.heap.size,4,none⟩ (.int .i64 rd)) (VB.heap.size) #[.int .i64 1,.int .i64 0,.slice ao2 1 ca,.int .i64 st,.int .i64 rd] 39/\yy (((((w'.setCell ⟨VB.heap.size,0,none⟩ (.int .i64 1)).setCell ⟨VB.heap.size,1,none⟩ (.int .i64 0)).setCell ⟨VB.heap.size,2,none⟩ (.slice ao2 1 ca)).setCell ⟨VB.heap.size,3,none⟩ (.int .i64 st)).setCell ⟨VB.heap.size,4,none⟩ (.int .i64 rd)) ao2 [wv]/\VB.grownBy (((((w'.setCell ⟨VB.heap.size,0,none⟩ (.int .i64 1)).setCell ⟨VB.heap.size,1,none⟩ (.int .i64 0)).setCell ⟨VB.heap.size,2,none⟩ (.slice ao2 1 ca)).setCell ⟨VB.heap.size,3,none⟩ (.int .i64 st)).setCell ⟨VB.heap.size,4,none⟩ (.int .i64 rd)) none):=⟨ymh bf (.int .i64 1) (.int .i64 0) (.slice ao2 1 ca) (.int .i64 st) (.int .i64 rd),ymg bf hown (.int .i64 1) (.int .i64 0) (.slice ao2 1 ca) (.int .i64 st) (.int .i64 rd),ycG (ya A3.o h6) VB.heap.size (Nat.le_refl _) (.int .i64 1) (.int .i64 0) (.slice ao2 1 ca) (.int .i64 st) (.int .i64 rd)⟩
       clear bf v0 v1 v2 v3 y0 y1 y2 y3 y4 z0 z1 z2 z3 z4 h6 hown t0 t1 t2 t3 cK1 cK2 cK3 KC1 KC2 KC3 A1 A2 A3 BF2 BF3
       generalize (((((w'.setCell ⟨VB.heap.size,0,none⟩ (.int .i64 1)).setCell ⟨VB.heap.size,1,none⟩ (.int .i64 0)).setCell ⟨VB.heap.size,2,none⟩ (.slice ao2 1 ca)).setCell ⟨VB.heap.size,3,none⟩ (.int .i64 st)).setCell ⟨VB.heap.size,4,none⟩ (.int .i64 rd))=WX at *
       go_wp2_with fail
       go_meet
       exact ⟨rfl,_,ao2,ca,st,rd,rfl,P.o.1,P.o.2.1,P.o.2.2⟩
     case rest =>
      obtain ⟨rfl,rb,ao2,ca,st,rd,rfl,hRb,hRi,hgc⟩:=hcut
      generalize wc=W1 at *
      have G1:=hid (ya GA.o hgc)
      have BB1:=hid (BB.o.grown hgc (by simp))
      have m1:=yd mA hgc
      obtain ⟨M,hM⟩:∃ M:Int,(k:Int) * ((k:Int)+1)=M:=⟨_,rfl⟩
      have hM2:M=((k * (k+1):Nat):Int):=by rw [<- hM,Int.natCast_mul]; rfl
      have hM3:=Nat.mul_le_mul (show k<=5 by omega) (show k+1<=6 by omega)
      have wm:IntKind.i64.wrap M=M:=IntWalk.i64_in _ ⟨by omega,by omega⟩
      have td:Int.tdiv M 2=wv:=by rw [<- hwv,Int.tdiv_eq_ediv_of_nonneg (by omega),hM2]; omega
      have tw:IntKind.i64.wrap wv=wv:=by rw [<- hwv]; exact IntWalk.i64_in _ ⟨by omega,by omega⟩
      clear hM2 hM3
      have A8:=ysE W1 (.cells #[.int .i64 wv] 3) none
      have B7:=hRb.grown A8 (by simp)
      have B8:=yc.new W1 #[.int .i64 wv] 3
      have cE:=hid (yoL rb ao2 (some ⟨W1.heap.size,0,none⟩) ca 1 [wv] 0 st rd _ B7 (hRi.kept (fun a v e=>yd e A8)) (yoZ [wv] B8) (by simp))
      have G9:=hid (ya G1.o A8)
      have BB9:=hid (BB1.o.grown A8 (by simp))
      have m9:=yd m1 A8
      clear hRb hRi hgc A8 B7 B8 G1 BB1 m1 mA b0 b1 b2 cR GA BB
      go_wp2_with fail
      refine cE.o.mono ?_
      rintro e W3 ⟨rfl,h9⟩
      have G:=hid (ya G9.o h9)
      have BBz:=hid (BB9.o.grown h9 (by simp))
      have mz:=yd m9 h9
      have b0:W3.cell? ⟨Bb,0,none⟩=some (.int .i64 4096):=BBz.o.cell 0
      have b1:W3.cell? ⟨Bb,1,none⟩=some (.int .i64 65536):=BBz.o.cell 1
      have b2:W3.cell? ⟨Bb,2,none⟩=some (.int .i64 131072):=BBz.o.cell 2
      clear h9 cE G9 BB9 m9 wm td
      have NOT:=hid (ylQ k t hN1 (by omega) tl).2
      have cR:=hid (fun (U:World) (X:Nat) (hX:yc U X #[.string (bs ar),.string (bs sm)] 9) (hU:W3.grownBy U none)=>(show Calls Tryz.prog 20 #[.slice (some ⟨X,0,none⟩) 2 2,.agg #[.int .i64 4096,.int .i64 65536,.int .i64 131072]] U (fun e w'=>e = .returned (.tuple #[.string ⟨#[]⟩,.agg #[.int .i64 34,.int .i64 0,.string ⟨#[102,48]⟩]])/\U.grownBy w' none) from (yiD 4096 65536 131072 (some ⟨X,0,none⟩) 2 [ar,sm] U (ygT [ar,sm] hX) (by intro f hf; simp at hf; have:=KM.o.2; have:=FR.o.2; rcases hf with rfl | rfl <;> omega) (HT.o.grown (ya G.o hU)) (by simp)).mono (fun e w' ⟨hret,h6⟩=>⟨yql (xs:=[(true,Ar.objs k t),(false,[Ar.mainO])]) hret yiA (by simp) (by simp) ⟨FR.o.1,KM.o.1,trivial⟩ rfl NOT.o,h6⟩)))
      have a1:=yh (ysE W3 (.cells #[.string (bs ar),.string (bs sm)] 9) none)
      have a2:=yh (ya (ysE W3 (.cells #[.string (bs ar),.string (bs sm)] 9) none) (ysE (W3.alloc (.cells #[.string (bs ar),.string (bs sm)] 9)) (.cells #[.int .i64 0,.int .i64 0,.string ⟨#[]⟩] 45) none))
      have a3:=yh (ya (ysE W3 (.cells #[.int .i64 0,.int .i64 0,.string ⟨#[]⟩] 45) none) (ysE (W3.alloc (.cells #[.int .i64 0,.int .i64 0,.string ⟨#[]⟩] 45)) (.cells #[.string (bs ar),.string (bs sm)] 9) none))
      have bx1:=yW (yc.new W3 #[.string (bs ar),.string (bs sm)] 9)
      have bx2:=yW ((yc.new W3 #[.string (bs ar),.string (bs sm)] 9).grown (ysE (W3.alloc (.cells #[.string (bs ar),.string (bs sm)] 9)) (.cells #[.int .i64 0,.int .i64 0,.string ⟨#[]⟩] 45) none) (by simp))
      have bx3:=yW (yc.new (W3.alloc (.cells #[.int .i64 0,.int .i64 0,.string ⟨#[]⟩] 45)) #[.string (bs ar),.string (bs sm)] 9)
      have bf2:=yW (yc.new (W3.alloc (.cells #[.string (bs ar),.string (bs sm)] 9)) #[.int .i64 0,.int .i64 0,.string ⟨#[]⟩] 45)
      have bf3:=yW ((yc.new W3 #[.int .i64 0,.int .i64 0,.string ⟨#[]⟩] 45).grown (ysE (W3.alloc (.cells #[.int .i64 0,.int .i64 0,.string ⟨#[]⟩] 45)) (.cells #[.string (bs ar),.string (bs sm)] 9) none) (by simp))
      rw [yaW] at bx3 bf2
      have BF2:=hid bf2
      have BF3:=hid bf3
      have cK1:=hid (cR.o _ _ bx1 a1)
      have A1:=hid (ya G.o a1)
      have KC1:=hid (fun W (hg:((W3.alloc (.cells #[.string (bs ar),.string (bs sm)] 9)).drew).grownBy W none)=>show W.cell? ⟨mg,mo,none⟩=some (.string (bs sm))/\W.cell? ⟨Bb,0,none⟩=some (.int .i64 4096)/\W.cell? ⟨Bb,1,none⟩=some (.int .i64 65536)/\W.cell? ⟨Bb,2,none⟩=some (.int .i64 131072) from ⟨yd mz (ya a1 hg),yd b0 (ya a1 hg),yd b1 (ya a1 hg),yd b2 (ya a1 hg)⟩)
      have cK2:=hid (cR.o _ _ bx2 a2)
      have A2:=hid (ya G.o a2)
      have KC2:=hid (fun W (hg:(((W3.alloc (.cells #[.string (bs ar),.string (bs sm)] 9)).alloc (.cells #[.int .i64 0,.int .i64 0,.string ⟨#[]⟩] 45)).drew).grownBy W none)=>show W.cell? ⟨mg,mo,none⟩=some (.string (bs sm))/\W.cell? ⟨Bb,0,none⟩=some (.int .i64 4096)/\W.cell? ⟨Bb,1,none⟩=some (.int .i64 65536)/\W.cell? ⟨Bb,2,none⟩=some (.int .i64 131072) from ⟨yd mz (ya a2 hg),yd b0 (ya a2 hg),yd b1 (ya a2 hg),yd b2 (ya a2 hg)⟩)
      have cK3:=hid (cR.o _ _ bx3 a3)
      have A3:=hid (ya G.o a3)
      have KC3:=hid (fun W (hg:(((W3.alloc (.cells #[.int .i64 0,.int .i64 0,.string ⟨#[]⟩] 45)).alloc (.cells #[.string (bs ar),.string (bs sm)] 9)).drew).grownBy W none)=>show W.cell? ⟨mg,mo,none⟩=some (.string (bs sm))/\W.cell? ⟨Bb,0,none⟩=some (.int .i64 4096)/\W.cell? ⟨Bb,1,none⟩=some (.int .i64 65536)/\W.cell? ⟨Bb,2,none⟩=some (.int .i64 131072) from ⟨yd mz (ya a3 hg),yd b0 (ya a3 hg),yd b1 (ya a3 hg),yd b2 (ya a3 hg)⟩)
      have hVw:=hid G.o.size
      have hs0:mg≠W3.heap.size:=by have:=World.block_lt_of_cell? W3 _ mz; simp at this; omega
      have hs1:mg≠W3.heap.size+1:=by have:=World.block_lt_of_cell? W3 _ mz; simp at this; omega
      have hb0:Bb≠W3.heap.size:=by have:=World.block_lt_of_cell? W3 _ b0; simp at this; omega
      have hb1:Bb≠W3.heap.size+1:=by have:=World.block_lt_of_cell? W3 _ b0; simp at this; omega
      clear a1 a2 a3 bx1 bx2 bx3 bf2 bf3 cR
      go_wp2
      go_region_held3 (fun w'=>w'.cell? ⟨mg,mo,none⟩=some (.string (bs sm))/\w'.cell? ⟨Bb,0,none⟩=some (.int .i64 4096)/\w'.cell? ⟨Bb,1,none⟩=some (.int .i64 65536)/\w'.cell? ⟨Bb,2,none⟩=some (.int .i64 131072))
       (go_keep)
       (first | (go_at_call 20; with_reducible refine cK1.o.mono ?_; rintro e w' ⟨rfl,h6⟩; obtain ⟨t0,t1,t2,t3⟩:=KC1.o _ h6) | (go_at_call 20; with_reducible refine cK2.o.mono ?_; rintro e w' ⟨rfl,h6⟩; obtain ⟨t0,t1,t2,t3⟩:=KC2.o _ h6; have v0:=ybp t0 hs1 (.int .i64 34) (.int .i64 0) (.string ⟨#[102,48]⟩); have v1:=ybp t1 hb1 (.int .i64 34) (.int .i64 0) (.string ⟨#[102,48]⟩); have v2:=ybp t2 hb1 (.int .i64 34) (.int .i64 0) (.string ⟨#[102,48]⟩); have v3:=ybp t3 hb1 (.int .i64 34) (.int .i64 0) (.string ⟨#[102,48]⟩); have bf:=BF2.o.grown h6 (by simp); have y0:=bf.cell 0; have y1:=bf.cell 1; have y2:=bf.cell 2; simp only [ysz,ysA,ysy] at y0 y1 y2; have z0:=bf.free 0; have z1:=bf.free 1; have z2:=bf.free 2) | (go_at_call 20; with_reducible refine cK3.o.mono ?_; rintro e w' ⟨rfl,h6⟩; obtain ⟨t0,t1,t2,t3⟩:=KC3.o _ h6; have v0:=ybp t0 hs0 (.int .i64 34) (.int .i64 0) (.string ⟨#[102,48]⟩); have v1:=ybp t1 hb0 (.int .i64 34) (.int .i64 0) (.string ⟨#[102,48]⟩); have v2:=ybp t2 hb0 (.int .i64 34) (.int .i64 0) (.string ⟨#[102,48]⟩); have v3:=ybp t3 hb0 (.int .i64 34) (.int .i64 0) (.string ⟨#[102,48]⟩); have bf:=BF3.o.grown h6 (by simp); have y0:=bf.cell 0; have y1:=bf.cell 1; have y2:=bf.cell 2; simp only [ysz,ysA,ysy] at y0 y1 y2; have z0:=bf.free 0; have z1:=bf.free 1; have z2:=bf.free 2))
      all_goals first
       | (have GX:=hid (yv (ya A2.o h6) (W3.heap.size+1) (by have:=hVw.o; omega) (.int .i64 34) (.int .i64 0) (.string ⟨#[102,48]⟩)); have xx:=ygj bf (.int .i64 34) (.int .i64 0) (.string ⟨#[102,48]⟩); have x0:=xx.cell 0; have x1:=xx.cell 1; have x2:=xx.cell 2; simp only [ysz,ysA,ysy] at x0 x1 x2; clear h6 bf xx t0 t1 t2 t3 v0 v1 v2 v3 y0 y1 y2 z0 z1 z2 cK1 cK2 cK3 KC1 KC2 KC3 b0 b1 b2 mz; generalize (((w'.setCell ⟨W3.heap.size+1,0,none⟩ (.int .i64 34)).setCell ⟨W3.heap.size+1,1,none⟩ (.int .i64 0)).setCell ⟨W3.heap.size+1,2,none⟩ (.string ⟨#[102,48]⟩))=WX at *; go_wp2; go_ret; exact ⟨rfl,GX.o⟩)
       | (have GX:=hid (yv (ya A3.o h6) W3.heap.size hVw.o (.int .i64 34) (.int .i64 0) (.string ⟨#[102,48]⟩)); have xx:=ygj bf (.int .i64 34) (.int .i64 0) (.string ⟨#[102,48]⟩); have x0:=xx.cell 0; have x1:=xx.cell 1; have x2:=xx.cell 2; simp only [ysz,ysA,ysy] at x0 x1 x2; clear h6 bf xx t0 t1 t2 t3 v0 v1 v2 v3 y0 y1 y2 z0 z1 z2 cK1 cK2 cK3 KC1 KC2 KC3 b0 b1 b2 mz; generalize (((w'.setCell ⟨W3.heap.size,0,none⟩ (.int .i64 34)).setCell ⟨W3.heap.size,1,none⟩ (.int .i64 0)).setCell ⟨W3.heap.size,2,none⟩ (.string ⟨#[102,48]⟩))=WX at *; go_wp2; go_ret; exact ⟨rfl,GX.o⟩)
       | (have GX:=hid (ya (ya A1.o h6) (ysE w' (.cells #[.int .i64 34,.int .i64 0,.string ⟨#[102,48]⟩] 45) none)); clear h6 t0 t1 t2 t3 cK1 cK2 cK3 KC1 KC2 KC3 b0 b1 b2 mz; go_wp2; go_ret; exact ⟨rfl,GX.o⟩)
end Go.Proofs.YtnfgdlkiialnnaaGreatDoor

namespace Go.Proofs.YtnfgdlkiialnnaaGreatDoor
open Go.ChangeShapes Go.WideShapes Go.ChangeAt Go.RowKit
theorem yls:ownKnob Tryz.prog.godebug=none:=by kernel_rfl
theorem ypX : Tryz.prog.globalNamed "linker/instr.forms" = some 0 := by kernel_rfl
theorem gFix : Tryz.prog.globalNamed "linker/instr.fixed" = some 1 := by kernel_rfl
theorem gNam : Tryz.prog.globalNamed "linker/instr.names" = some 2 := by kernel_rfl
theorem ynF:(Tryz.prog.globals[0]?).map (·.type)=some 176:=by kernel_rfl
theorem yoU:(Tryz.prog.globals[1]?).map (·.type)=some 176:=by kernel_rfl
theorem yoV:(Tryz.prog.globals[2]?).map (·.type)=some 186:=by kernel_rfl
theorem yjF:Tryz.prog.cellsOf 176=26:=by kernel_rfl
theorem yjG:Tryz.prog.cellsOf 3=1:=by kernel_rfl
theorem ynw:Tryz.prog.cellsOf 186=26:=by kernel_rfl
theorem yoF:Tryz.prog.cellsOf 9=1:=by kernel_rfl
theorem yox:Tryz.prog.underlying 176=some (.array 26 3):=by kernel_rfl
theorem yqU:Tryz.prog.underlying 186=some (.array 26 9):=by kernel_rfl
theorem yrR:Tryz.prog.underlying 9=some .string:=by kernel_rfl
theorem yeQ:Tryz.prog.underlying 3=some (.int .i64):=by kernel_rfl
def yir {H:Type} (zs:List (List UInt8)):DataW H:=.agg (zs.map fun z=>.lit (.string z))
theorem yiR {H:Type} {enc:TypeId×Value->H} {P:Program} {w:World} {base:Nat} {sp:Nat->Bool} {held:Bool} {fuel:Nat} {t e:TypeId} {n:Nat} {cs:List Value} {zs:List (List UInt8)} {p:List MemPlace}
  (ht:P.underlying t=some (.array n e)) (he:P.underlying e=some .string) (hce:P.cellsOf e=1) (hct:P.cellsOf t=n)
  (h:DataW.trod enc P w base sp held fuel t cs=some (yir zs,p)):cs=zs.map fun z=>Value.string (bs z):=by
 cases fuel with
 | zero=>simp [DataW.trod] at h
 | succ fuel =>
  simp only [DataW.trod,ht,hce,hct,Nat.mul_one] at h
  split at h
  ·rename_i hl
   obtain ⟨xs,hm,hx⟩:=Option.map_eq_some_iff.1 h
   have hxs:xs.map (·.1)=zs.map fun z=>(DataW.lit (.string z):DataW H):=by
    have:=congrArg Prod.fst hx
    simpa [yir] using this
   have hxl:xs.length=n:=by simpa using Lib.mapM_length hm
   have hzl:zs.length=n:=by
    have:=congrArg List.length hxs
    simp at this
    omega
   apply List.ext_getElem?
   intro i
   by_cases hi:i < n
   ·obtain ⟨b,hb,hf⟩:=Lib.mapM_at hm i i (by simp [hi])
    obtain ⟨z,hc,rfl,_⟩:=DataW.trod_string he hf
    have h1:cs[i]?=some (.string z):=by
     have:=congrArg (·[0]?) hc
     simpa [List.getElem?_take,List.getElem?_drop] using this
    have h2:(xs.map (·.1))[i]?=some (DataW.lit (.string z.data.toList):DataW H):=by simp [hb]
    rw [hxs] at h2
    simp only [List.getElem?_map,Option.map_eq_some_iff,DataW.lit.injEq,Lit.string.injEq] at h2
    obtain ⟨z',hz',rfl⟩:=h2
    have hbz:bs z.data.toList=z:=yrV z
    simp [h1,hz',hbz]
   ·rw [List.getElem?_eq_none (by omega),List.getElem?_eq_none (by simp; omega)]
  ·cases h
theorem yia {W:World} {b o:Nat} {v:Value} (h:W.cell? ⟨b,o,none⟩=some v):b < W.heap.size:=by
 by_cases hb:b < W.heap.size
 ·exact hb
 ·exfalso
  simp only [World.cell?] at h
  rw [Array.getElem?_eq_none (by omega)] at h
  cases h
theorem yjk {W : World} (h : laidMet Tryz.prog [("linker/instr.forms", Lib.tabData .i64 ybz), ("linker/instr.fixed", Lib.tabData .i64 ycE), ("linker/instr.names", yir As.names)] W) : Tabs W ∧ NTab W ∧ 3 ≤ W.heap.size := by
 have t1 : Lib.TabIs Tryz.prog W "linker/instr.forms" .i64 ybz := Lib.tabIs_of_head ypX ynF yox yeQ yjG yjF h
 obtain ⟨ps,⟨g',t',cs,fuel,p,q,hg',ht',hvar,hd,⟨g2,t2,cs2,fuel2,p2,q2,hg2,ht2,hvar2,hd2,⟨g3,t3,cs3,fuel3,p3,q3,hg3,ht3,hvar3,hd3,_,_⟩,_⟩,_⟩,_⟩:=h
 obtain rfl:=Option.some.inj (gFix.symm.trans hg2)
 obtain rfl:=Option.some.inj (yoU.symm.trans ht2)
 obtain rfl:=Option.some.inj (gNam.symm.trans hg3)
 obtain rfl:=Option.some.inj (yoV.symm.trans ht3)
 have e2 : Lib.TabIs Tryz.prog W "linker/instr.fixed" .i64 ycE := by
  unfold Lib.TabIs
  rw [hvar2,<- Lib.cells_of_tab yox yeQ yjG yjF hd2]
 have e3 : W.var? Tryz.prog "linker/instr.names" = some (As.names.map fun z => Value.string (bs z)).toArray := by
  rw [hvar3,<- yiR yqU yrR yoF ynw hd3]
 have T:Tabs W:=⟨fun i hi=>t1.cell ypX i hi,fun i hi=>e2.cell gFix i hi⟩
 have N:NTab W:=by
  intro i hi
  have hl:As.names.length=26:=by decide
  have:=World.var?_cell gNam e3 i
  rw [this]
  simp [List.getD,hl,hi]
 refine ⟨T,N,?_⟩
 have a:=yia (T.1 0 (by decide))
 have b:=yia (T.2 0 (by decide))
 have c:=yia (N 0 (by decide))
 omega
theorem yiW {W W':World} (h:W.grownBy W' none) (may:MemPlace->Prop):W.keptBut W' may:=by
 refine World.keptBut_mono (fun _ f=>f.elim) (?_:W.keptBut W' (fun _=>False))
 refine ⟨h.os,h.output,fun i hi=>?_⟩
 rw [h.block i hi (by simp)]
 cases hb:W.heap[i]? with
 | none=>trivial
 | some o=>cases o <;> simp
def yov (zs:List Int):Obj->Obj
 | .cells _ t frozen=>.cells (zs.map (Value.int .i64)).toArray t frozen
 | o=>o
def yrQ (zs:List (List UInt8)):Obj->Obj
 | .cells _ t frozen=>.cells (zs.map fun z=>Value.string (bs z)).toArray t frozen
 | o=>o
noncomputable def yfM (os:Os):World :=
 { World.holding Tryz.prog os ⟨#[],#[],[]⟩ with heap:=(((World.holding Tryz.prog os ⟨#[],#[],[]⟩).heap.modify 0 (yov ybz)).modify 1 (yov ycE)).modify 2 (yrQ As.names) }
end Go.Proofs.YtnfgdlkiialnnaaGreatDoor

namespace Go.Proofs.YtnfgdlkiialnnaaGreatDoor
open Go.ChangeShapes Go.WideShapes Go.ChangeAt Go.RowKit
theorem yep {c:Int} (h:(Lit.int .i64 c).wf=true):-9223372036854775808<=c/\c<=9223372036854775807:=by
 simp [Lit.wf] at h
 have e:IntKind.i64.min = -9223372036854775808:=by decide
 omega
theorem yhc (c d:Int) (w:World) (ht:Tabs w) (hN:NTab w) (hB:3<=w.heap.size) (h0:-9223372036854775808<=c) (h1:c<=9223372036854775807) (h2:-9223372036854775808<=d) (h3:d<=9223372036854775807) :
  Calls Tryz.prog 3 #[.int .i64 c,.int .i64 d] w fun e w'=>e = .returned (.bool true)/\w.grownBy w' none:=by
 have cF:=hid (yjy c d w ht hN hB h0 h1 h2 h3)
 clear ht hN
 go_enter Tryz.func3,Tryz.ntmps3
 go_wp2_with fail
 refine cF.o.mono ?_
 rintro e V1 ⟨rfl,hg⟩
 have G:=hid hg
 clear hg
 go_wp2
 go_ret
 exact ⟨rfl,G.o⟩
set_option maxRecDepth 100000 in
theorem ygn (H:Type) (enc:TypeId×Value->H) (W:World) (base:Nat) (args:Array Value) (ds gs:List (DataW H)) (before:List MemPlace)
  (hval:∀ (j:Nat) t v,Tryz.f3.params[j]?=some t->args[j]?=some v->Value.okWide Tryz.prog W .any base t v)
  (hW:DataW.Whole enc Tryz.prog Tryz.f3.params.toList Rows.archivedSpec.vars false W args.toList ds gs before) (hL:laidMetH Tryz.prog Rows.archivedRow.laid W) :
  Calls Tryz.prog 3 args W fun e W'=>∃ v,e = .returned v/\Rows.archivedSpec.post enc Tryz.prog Tryz.f3 false true false false W args v W':=by
 have hW':=hW
 obtain ⟨p,q,hA0,hV,rfl,hfz,hnd⟩:=hW
 have hA:DataW.TrodAll enc Tryz.prog W 0 (fun _=>true) true Tryz.f3.params.toList args.toList ds p:=hA0
 rw [Tryz.params3] at hA hval
 obtain ⟨v0,vs0,d0,ds0,p0,q0,hargs,rfl,rfl,h0,r0⟩:=trodAll_cons hA
 obtain ⟨v1,vs1,d1,ds1,p1,q1,hargs1,rfl,rfl,h1,r1⟩:=trodAll_cons r0
 obtain ⟨rfl,rfl,rfl⟩:=trodAll_nil r1
 obtain rfl:args = #[v0,v1]:=by cases args; simp_all
 obtain ⟨rfl,rfl⟩:=trodVars_none hV
 have hv:Value.okWide Tryz.prog W .any base 3 v0:=hval 0 3 v0 rfl rfl
 have hv1:Value.okWide Tryz.prog W .any base 3 v1:=hval 1 3 v1 rfl rfl
 obtain ⟨c,rfl,rfl,rfl,hw⟩:=open_int (t:=3) yeQ hv h0
 obtain ⟨d,rfl,rfl,rfl,hw1⟩:=open_int (t:=3) yeQ hv1 h1
 clear hA0
 simp only [List.append_nil] at hW'
 obtain ⟨hT,hN,hB⟩:=yjk hL
 refine (yhc c d W hT hN hB (yep hw).1 (yep hw).2 (yep hw1).1 (yep hw1).2).mono fun e W' ⟨he,hg⟩=>?_
 subst he
 exact ⟨_,rfl,_,_,_,[],[],[],hW',trodAll_cons_mk (shut_bool Tryz.underlying4 _) trodAll_mk0,trodAll_cons_mk (shut_int yeQ hw) (trodAll_cons_mk (shut_int yeQ hw1) trodAll_mk0),rfl,yiW hg _,fun h=>by cases h⟩
theorem ypd (os:Os):laidMet Tryz.prog Rows.archivedRow.laid ((yfM os).forCall (fun _ _=>0) ⟨#[],#[.int .i64 0,.int .i64 0],[]⟩).memory :=
 laidMet_of_run' 8 (by kernel_rfl) (by kernel_rfl)
theorem yjp (os:Os) {H:Type} (enc:TypeId×Value->H):∃ places,DataW.whole enc Tryz.prog ((yfM os).forCall (fun _ _=>0) ⟨#[],#[.int .i64 0,.int .i64 0],[]⟩).memory Tryz.f3.params.toList Rows.archivedSpec.vars false #[Value.int .i64 0,.int .i64 0].toList 8=some ([.lit (.int .i64 0),.lit (.int .i64 0)],[],places) :=
 ⟨[],by kernel_rfl⟩
set_option maxRecDepth 100000 in
theorem yhd (os:Os) (started:os.Started) (H:Type) (enc:TypeId×Value->H) (F:Stop.Interp) :
  ReturnsInHanded {} Tryz.checked os 3 .any ((OpenSpec.ofChange Rows.archivedSpec).preRow enc Tryz.prog Tryz.f3 Rows.archivedRow.domain false Rows.archivedRow.laid) (((OpenSpec.ofChange Rows.archivedSpec).at F).post enc Tryz.prog Tryz.f3 false true false false):=by
 obtain ⟨places,hx⟩:=yjp os enc
 refine returnsInHanded_of_row (C:=Tryz.checked) (s:=OpenSpec.ofChange Rows.archivedSpec) yls started (by kernel_rfl) Tryz.func3
  (witness_row_at (enc:=enc) (C:=Tryz.checked) false (yfM os) #[.int .i64 0,.int .i64 0] rfl (by kernel_rfl) (by kernel_rfl) (by kernel_rfl)
   (OpenSpec.preRow_of_cond 8 hx (by kernel_rfl) (fun k hk=>by cases hk) (by kernel_rfl) (ypd os))) ?_
 intro W base args ds gs before hval hW _ _ _ hL _ _
 exact ygn H enc W base args ds gs before hval hW hL
theorem yiQ:Rows.ArchivedSaid :=
 OpenClaim.holds_of_cond 3 Tryz.f3 rfl rfl rfl rfl rfl rfl rfl ⟨rfl,rfl,rfl,rfl,rfl⟩ rfl rfl rfl rfl rfl (by kernel_rfl) Tryz.func3 (by kernel_rfl)
  (of_decide_eq_true (by kernel_rfl)) (by unfold Func.isWrapper; first | (rw [if_pos (by decide +kernel)]; kernel_rfl) | (rw [if_neg (by decide +kernel)]; exact ⟨rfl,rfl⟩))
  (fun os started H enc _ F=>by rw [OpenClaim.pre_eq_preRow]; exact yhd os started H enc F)
theorem yhZ (f : FuncId) (fn : Func) (hf : Tryz.pinned.checked.prog.funcNamed "linker/linkerkeep.Archived" = some f) (hfn : Tryz.pinned.checked.prog.funcs[f]? = some fn) :
  false=Tryz.pinned.checked.prog.looks []/\∀ (j:Nat) t,fn.params[j]?=some t->Tryz.pinned.checked.prog.wantsStandIn t=false:=by
 obtain rfl : f = 3 := Option.some.inj ((show Tryz.prog.funcNamed "linker/linkerkeep.Archived" = some 3 by kernel_rfl).symm.trans hf) |>.symm
 obtain rfl:fn=Tryz.f3:=(Option.some.inj (Tryz.func3.symm.trans hfn)).symm
 refine ⟨by kernel_rfl,fun j t ht=>?_⟩
 rw [Tryz.params3] at ht
 obtain rfl:t=3:=by have:=Array.mem_of_getElem? ht; simp at this; exact this
 exact (show Tryz.prog.wantsStandIn 3=false by kernel_rfl)
theorem archived_card:Rows.ArchivedCardSaid :=
 Claim7.holds_tied_plain_at .later [] _ _ _ _ yiQ (fun _ h=>by cases h) (by kernel_rfl) (fun _ h=>by cases h) archived_row_tie rfl ⟨rfl,rfl⟩ (by kernel_rfl) rfl yhZ (by kernel_rfl)
end Go.Proofs.YtnfgdlkiialnnaaGreatDoor
