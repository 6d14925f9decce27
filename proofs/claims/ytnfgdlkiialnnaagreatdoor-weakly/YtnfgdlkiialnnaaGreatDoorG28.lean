/- Weakly: the walk. -/
/- What the rows lay: the three tables. -/
/- The row and the card of Weakly. -/
import Derived.Test.YtnfgdlkiialnnaaGreatDoorG27
import Derived.Test.YtnfgdlkiialnnaaGreatDoorG25
import Derived.ProofKit
import Derived.OpenShut
import Derived.ChangeMaps5
import Derived.Deep.DeepHandedRow
import Derived.Lib.LaidTab
import Derived.Test.YtnfgdlkiialnnaaGreatDoorCards
import Derived.Test.YtnfgdlkiialnnaaGreatDoorTie
namespace Go.Proofs.YtnfgdlkiialnnaaGreatDoor
open Go.RowKit
theorem yoP (i:Nat) (h:i < 4):(asmB (wkT.getD i [])).length<=65535:=yew (ygQ _ (yjs wkT [] i (by rw [ybV]; exact h)))
theorem yjm (i:Nat) (h:i < 4):yji (asmB (wkT.getD i [])) (wkO i):=by
 have m:=yjs wkT [] i (by rw [ybV]; exact h)
 exact yrb ⟨ypP _ m,ygQ _ m⟩
set_option maxRecDepth 100000 in
set_option maxHeartbeats 1000000 in
theorem yon (c:Int) (w:World) (h0:-9223372036854775808<=c) (h1:c<=9223372036854775807) :
  Calls Tryz.prog 11 #[.int .i64 c,.int .i64 5] w fun e w'=>(∃ i:Nat,i < 5/\e = .returned (.int .i64 i))/\w'=w:=by
 by_cases hc:c < 0
 ·have d:decide (c < 0)=true:=by simpa using hc
  go_enter Tryz.func11,Tryz.ntmps11
  go_wp2
  go_ret
  have e:-((c+1).tmod 5)=(((-(c+1)) % 5).toNat:Int):=by
   rw [<- Int.neg_tmod,Int.tmod_eq_emod_of_nonneg (by omega)]
   omega
  exact ⟨⟨((-(c+1)) % 5).toNat,by omega,yL e⟩,rfl⟩
 ·have d:decide (c < 0)=false:=by simpa using hc
  go_enter Tryz.func11,Tryz.ntmps11
  go_wp2
  go_ret
  exact ⟨⟨(c % 5).toNat,by omega,yL (by omega)⟩,rfl⟩
theorem yeu {l:List UInt8} (h:Im.IsImg l):l.length<=1048576:=by
 have f:l.length=26+4 * (Im.nT l+Im.nF l+Im.nD l):=h.2.1
 have n:=Im.n_le l
 omega
theorem yaJ {W:World} {R g o:Nat} {v:Value} (h:W.cell? ⟨g,o,none⟩=some v) (hne:g≠R) (a b c:Value):(((W.setCell ⟨R,0,none⟩ a).setCell ⟨R,1,none⟩ b).setCell ⟨R,2,none⟩ c).cell? ⟨g,o,none⟩=some v :=
 World.grownBy.cell (World.grownBy.trans (World.grownBy.trans (yf W R 0 a) (yf _ R 1 b)) (yf _ R 2 c)) h (by simpa using hne)
theorem yoh {s:List UInt8} {o:Lk.Obj} (h:yji s o):ybv s:=by
 rcases h.1 with ⟨-,h1,-⟩ | ⟨c,-⟩
 ·exact h1
 ·cases c
theorem yrB (s:List UInt8) {o:Lk.Obj} (h:yji s o) (hl:s.length<=65535):yaU (arB [s]) true [o]/\(arB [s]).length<=1048576:=by
 have q:=yoh h
 have ro:ybP s=o:=by
  rcases h.1 with ⟨-,-,e⟩ | ⟨c,-⟩
  ·simpa using e.symm
  ·cases c
 have ha:ybD (arB [s]) [s]:=⟨by simp,by intro m hm; simp at hm; subst hm; exact q,rfl⟩
 refine ⟨.inr ⟨rfl,fun c=>?_,[s],ha,by simp [ro]⟩,?_⟩
 ·have e:=c.2
  rw [Lk.objB_eq] at e
  unfold arB at e
  simp at e
 ·unfold arB memB
  simp [Lk.le_length]
  omega
set_option maxRecDepth 100000 in
set_option maxHeartbeats 16000000 in
theorem yne (c:Int) (w:World) (ht:Tabs w) (hN:NTab w) (hB:3<=w.heap.size) (h0:-9223372036854775808<=c) (h1:c<=9223372036854775807) :
  Calls Tryz.prog 8 #[.int .i64 c] w fun e w'=>e = .returned (.bool true)/\w.grownBy w' none:=by
 have A0:=ysk w (.cells (wkT.map fun l=>Value.string (bs l)).toArray 9) none
 have cM:=hid (yoB wkT (some ⟨w.heap.size,0,none⟩) 4 (w.alloc (.cells (wkT.map fun l=>Value.string (bs l)).toArray 9)) (ycp wkT (yc.new w (wkT.map fun l=>Value.string (bs l)).toArray 9)) (by rw [ybV]; omega) (fun t ht=>⟨ypP t ht,ygQ t ht⟩) (ht.grown A0) (hN.below (ydx A0 (Nat.le_refl _) (by simp)) hB) (by rw [yau]; omega))
 have G0:=hid A0
 have HT:=hid ht
 have cP:=hid (fun W=>yon c W h0 h1)
 have cN:=hid yoW
 clear ht hN A0
 go_enter Tryz.func8,Tryz.ntmps8
 go_wp2_with fail
 refine cM.out.mono ?_
 rintro e V1 ⟨⟨ao,cap,rfl,hls⟩,hg1⟩
 have G1:=hid (ya G0.out hg1)
 have HL:=hid hls
 clear hls hg1 cM G0
 rw [ybV]
 obtain ⟨sg,off,rfl,hcs⟩:=HL.out (by decide +kernel)
 have HCS:=hid hcs
 clear hcs HL
 go_wp2_with fail
 refine (cN.out _).mono ?_
 rintro e V2 ⟨rfl,h2⟩
 have GV:=hid (ya h2 (ysk V2 (.cells #[.int .i64 4096,.int .i64 65536,.int .i64 131072] 35) none))
 have BB:=hid (yc.new V2 #[.int .i64 4096,.int .i64 65536,.int .i64 131072] 35)
 clear h2 cN
 go_wp2_with fail
 refine (cP.out _).mono ?_
 rintro e w' ⟨⟨i,hi,rfl⟩,hw⟩
 rw [hw]
 clear hw w' cP
 generalize V2.alloc (.cells #[.int .i64 4096,.int .i64 65536,.int .i64 131072] 35)=V at *
 generalize V2.heap.size=Bb at *
 have G:=hid (ya G1.out GV.out)
 have c0:V.cell? ⟨sg,off+0,none⟩=some (.string (bs (asmB (wkT.getD 0 [])))):=by
  have:=yd (HCS.out 0 (by rw [ysq,ybV]; omega)) GV.out
  rwa [yeT asmB wkT []] at this
 have K0:=hid (yjm 0 (by omega))
 generalize asmB (wkT.getD 0 [])=s0 at *
 have c1:V.cell? ⟨sg,off+1,none⟩=some (.string (bs (asmB (wkT.getD 1 [])))):=by
  have:=yd (HCS.out 1 (by rw [ysq,ybV]; omega)) GV.out
  rwa [yeT asmB wkT []] at this
 have K1:=hid (yjm 1 (by omega))
 generalize asmB (wkT.getD 1 [])=s1 at *
 have c2:V.cell? ⟨sg,off+2,none⟩=some (.string (bs (asmB (wkT.getD 2 [])))):=by
  have:=yd (HCS.out 2 (by rw [ysq,ybV]; omega)) GV.out
  rwa [yeT asmB wkT []] at this
 have K2:=hid (yjm 2 (by omega))
 generalize asmB (wkT.getD 2 [])=s2 at *
 have c3:V.cell? ⟨sg,off+3,none⟩=some (.string (bs (asmB (wkT.getD 3 [])))):=by
  have:=yd (HCS.out 3 (by rw [ysq,ybV]; omega)) GV.out
  rwa [yeT asmB wkT []] at this
 have K3:=hid (yjm 3 (by omega))
 have K3S:=hid (yoP 3 (by omega))
 generalize asmB (wkT.getD 3 [])=s3 at *
 clear HCS GV G1
 simp only [Nat.add_zero] at c0
 have b0:V.cell? ⟨Bb,0,none⟩=some (.int .i64 4096):=BB.out.cell 0
 have b1:V.cell? ⟨Bb,1,none⟩=some (.int .i64 65536):=BB.out.cell 1
 have b2:V.cell? ⟨Bb,2,none⟩=some (.int .i64 131072):=BB.out.cell 2
 rcases (show i=0\/i=1\/i=2\/i=3\/i=4 by omega) with rfl | rfl | rfl | rfl | rfl
 ·clear hi
  have AX:=ysk V (.cells #[.string (bs s0)] 9) none
  have BX:=hid (yc.new V #[.string (bs s0)] 9)
  have BB1:=hid (BB.out.grown AX (by simp))
  have G2:=hid (ya G.out AX)
  clear AX
  have q0:(V.alloc (.cells #[.string (bs s0)] 9)).cell? ⟨Bb,0,none⟩=some (.int .i64 4096):=BB1.out.cell 0
  have q1:(V.alloc (.cells #[.string (bs s0)] 9)).cell? ⟨Bb,1,none⟩=some (.int .i64 65536):=BB1.out.cell 1
  have q2:(V.alloc (.cells #[.string (bs s0)] 9)).cell? ⟨Bb,2,none⟩=some (.int .i64 131072):=BB1.out.cell 2
  go_wp2_with fail
  refine (yeV 4096 65536 131072 (some ⟨V.heap.size,0,none⟩) 1 [s0] [(false,[wkO 0])] none 0 [] [0] 0 _ (ycp [s0] BX.out) (by intro f hf; simp at hf; have:=K0.out.2; subst hf; omega) (fun h=>by simp at h) (by simp) (HT.out.grown G2.out) (by simp) (by simp) ycl ⟨K0.out.1,trivial⟩ wk0 (yeu wk0.2.1)).mono ?_
  rintro e V6 ⟨⟨ao,ca,st,rfl,hoi⟩,h6⟩
  generalize (Mc.run _ [] 5000).read=rd at *
  have A7:=ysk V6 (.cells #[.int .i64 1,.int .i64 0,.slice ao 1 ca,.int .i64 st,.int .i64 rd] 39) none
  have A8:=ysk (V6.alloc (.cells #[.int .i64 1,.int .i64 0,.slice ao 1 ca,.int .i64 st,.int .i64 rd] 39)) (.cells #[.int .i64 0] 3) none
  have B7:=(yc.new V6 #[.int .i64 1,.int .i64 0,.slice ao 1 ca,.int .i64 st,.int .i64 rd] 39).grown A8 (by simp)
  have B8:=yc.new (V6.alloc (.cells #[.int .i64 1,.int .i64 0,.slice ao 1 ca,.int .i64 st,.int .i64 rd] 39)) #[.int .i64 0] 3
  rw [yau] at B8
  have cE:=hid (yfs V6.heap.size ao (some ⟨V6.heap.size+1,0,none⟩) ca 1 [0] 0 st rd _ B7 (hoi.kept (fun a v e=>yd e (ya A7 A8))) (yfm [0] B8) (by simp))
  have G9:=hid (ya (ya (ya G2.out h6) A7) A8)
  clear hoi h6 A7 A8 B7 B8 q0 q1 q2
  go_wp2_with fail
  refine cE.out.mono ?_
  rintro e V9 ⟨rfl,h9⟩
  have GZ:=hid (ya G9.out h9)
  clear h9 cE
  go_wp2
  go_ret
  exact ⟨rfl,GZ.out⟩
 ·clear hi
  have AX:=yg (ysk V (.cells #[.string (bs s0),.string (bs s2),.string (bs s1)] 9) none)
  have BX:=hid (yag (yc.new V #[.string (bs s0),.string (bs s2),.string (bs s1)] 9))
  have BB1:=hid (BB.out.grown AX (by simp))
  have G2:=hid (ya G.out AX)
  go_wp2
  go_region_held3 (fun w'=>w'.cell? ⟨sg,off,none⟩=some (.string (bs s0))/\w'.cell? ⟨sg,off+2,none⟩=some (.string (bs s2))/\w'.cell? ⟨sg,off+1,none⟩=some (.string (bs s1)))
   (go_keep)
   (fail)
  clear AX
  generalize (V.alloc (.cells #[.string (bs s0),.string (bs s2),.string (bs s1)] 9)).drew=U at *
  generalize V.heap.size=X at *
  have q0:U.cell? ⟨Bb,0,none⟩=some (.int .i64 4096):=BB1.out.cell 0
  have q1:U.cell? ⟨Bb,1,none⟩=some (.int .i64 65536):=BB1.out.cell 1
  have q2:U.cell? ⟨Bb,2,none⟩=some (.int .i64 131072):=BB1.out.cell 2
  go_wp2_with fail
  refine (yeV 4096 65536 131072 (some ⟨X,0,none⟩) 3 [s0,s2,s1] [(false,[wkO 0]),(false,[wkO 2]),(false,[wkO 1])] none 0 [] [2] 0 _ (ycp [s0,s2,s1] BX.out) (by intro f hf; simp at hf; have:=K0.out.2; have:=K2.out.2; have:=K1.out.2; rcases hf with rfl | rfl | rfl <;> omega) (fun h=>by simp at h) (by simp) (HT.out.grown G2.out) (by simp) (by simp) ycl ⟨K0.out.1,K2.out.1,K1.out.1,trivial⟩ wk1 (yeu wk1.2.1)).mono ?_
  rintro e V6 ⟨⟨ao,ca,st,rfl,hoi⟩,h6⟩
  generalize (Mc.run _ [] 5000).read=rd at *
  have A7:=ysk V6 (.cells #[.int .i64 1,.int .i64 0,.slice ao 1 ca,.int .i64 st,.int .i64 rd] 39) none
  have A8:=ysk (V6.alloc (.cells #[.int .i64 1,.int .i64 0,.slice ao 1 ca,.int .i64 st,.int .i64 rd] 39)) (.cells #[.int .i64 2] 3) none
  have B7:=(yc.new V6 #[.int .i64 1,.int .i64 0,.slice ao 1 ca,.int .i64 st,.int .i64 rd] 39).grown A8 (by simp)
  have B8:=yc.new (V6.alloc (.cells #[.int .i64 1,.int .i64 0,.slice ao 1 ca,.int .i64 st,.int .i64 rd] 39)) #[.int .i64 2] 3
  rw [yau] at B8
  have cE:=hid (yfs V6.heap.size ao (some ⟨V6.heap.size+1,0,none⟩) ca 1 [2] 0 st rd _ B7 (hoi.kept (fun a v e=>yd e (ya A7 A8))) (yfm [2] B8) (by simp))
  have G9:=hid (ya (ya (ya G2.out h6) A7) A8)
  clear hoi h6 A7 A8 B7 B8 q0 q1 q2
  go_wp2_with fail
  refine cE.out.mono ?_
  rintro e V9 ⟨rfl,h9⟩
  have GZ:=hid (ya G9.out h9)
  clear h9 cE
  go_wp2
  go_ret
  exact ⟨rfl,GZ.out⟩
 ·clear hi
  have AX:=yg (ysk V (.cells #[.string (bs s0),.string (bs s1),.string (bs s3),.string (bs s2)] 9) none)
  have BX:=hid (yag (yc.new V #[.string (bs s0),.string (bs s1),.string (bs s3),.string (bs s2)] 9))
  have BB1:=hid (BB.out.grown AX (by simp))
  have G2:=hid (ya G.out AX)
  go_wp2
  go_region_held3 (fun w'=>w'.cell? ⟨sg,off,none⟩=some (.string (bs s0))/\w'.cell? ⟨sg,off+1,none⟩=some (.string (bs s1))/\w'.cell? ⟨sg,off+3,none⟩=some (.string (bs s3))/\w'.cell? ⟨sg,off+2,none⟩=some (.string (bs s2)))
   (go_keep)
   (fail)
  clear AX
  generalize (V.alloc (.cells #[.string (bs s0),.string (bs s1),.string (bs s3),.string (bs s2)] 9)).drew=U at *
  generalize V.heap.size=X at *
  have q0:U.cell? ⟨Bb,0,none⟩=some (.int .i64 4096):=BB1.out.cell 0
  have q1:U.cell? ⟨Bb,1,none⟩=some (.int .i64 65536):=BB1.out.cell 1
  have q2:U.cell? ⟨Bb,2,none⟩=some (.int .i64 131072):=BB1.out.cell 2
  go_wp2_with fail
  refine (yeV 4096 65536 131072 (some ⟨X,0,none⟩) 4 [s0,s1,s3,s2] [(false,[wkO 0]),(false,[wkO 1]),(false,[wkO 3]),(false,[wkO 2])] none 0 [] [3] 0 _ (ycp [s0,s1,s3,s2] BX.out) (by intro f hf; simp at hf; have:=K0.out.2; have:=K1.out.2; have:=K3.out.2; have:=K2.out.2; rcases hf with rfl | rfl | rfl | rfl <;> omega) (fun h=>by simp at h) (by simp) (HT.out.grown G2.out) (by simp) (by simp) ycl ⟨K0.out.1,K1.out.1,K3.out.1,K2.out.1,trivial⟩ wk2 (yeu wk2.2.1)).mono ?_
  rintro e V6 ⟨⟨ao,ca,st,rfl,hoi⟩,h6⟩
  generalize (Mc.run _ [] 5000).read=rd at *
  have A7:=ysk V6 (.cells #[.int .i64 1,.int .i64 0,.slice ao 1 ca,.int .i64 st,.int .i64 rd] 39) none
  have A8:=ysk (V6.alloc (.cells #[.int .i64 1,.int .i64 0,.slice ao 1 ca,.int .i64 st,.int .i64 rd] 39)) (.cells #[.int .i64 3] 3) none
  have B7:=(yc.new V6 #[.int .i64 1,.int .i64 0,.slice ao 1 ca,.int .i64 st,.int .i64 rd] 39).grown A8 (by simp)
  have B8:=yc.new (V6.alloc (.cells #[.int .i64 1,.int .i64 0,.slice ao 1 ca,.int .i64 st,.int .i64 rd] 39)) #[.int .i64 3] 3
  rw [yau] at B8
  have cE:=hid (yfs V6.heap.size ao (some ⟨V6.heap.size+1,0,none⟩) ca 1 [3] 0 st rd _ B7 (hoi.kept (fun a v e=>yd e (ya A7 A8))) (yfm [3] B8) (by simp))
  have G9:=hid (ya (ya (ya G2.out h6) A7) A8)
  clear hoi h6 A7 A8 B7 B8 q0 q1 q2
  go_wp2_with fail
  refine cE.out.mono ?_
  rintro e V9 ⟨rfl,h9⟩
  have GZ:=hid (ya G9.out h9)
  clear h9 cE
  go_wp2
  go_ret
  exact ⟨rfl,GZ.out⟩
 ·clear hi
  have AP:=ysk V (.cells #[.string (bs s3)] 9) none
  have SP:yjQ (V.alloc (.cells #[.string (bs s3)] 9)) V.heap.size #[.string (bs s3)] [s3]:=⟨yc.new V _ _,fun i hi=>by simp at hi; subst hi; rfl⟩
  have cK:=hid (ynI V.heap.size #[.string (bs s3)] 1 [s3] _ (HT.out.grown (ya G.out AP)) SP (by simp) (by simp) (by intro m hm; simp at hm; subst hm; exact ⟨yoh K3.out,K3S.out⟩))
  go_wp2_with fail
  refine cK.out.mono ?_
  rintro e V4 ⟨rfl,h4⟩
  have G4:=hid (ya (ya G.out AP) h4)
  have BB4:=hid (BB.out.grown (ya AP h4) (by simp))
  have k0:=yd c0 (ya AP h4)
  have LAR:=hid (yrB s3 K3.out K3S.out)
  clear AP SP cK h4 c0 c1 c2 c3 b0 b1 b2
  generalize arB [s3]=ar at *
  have AX:=ysk V4 (.cells #[.string (bs s0),.string (bs ar)] 9) none
  have BX:=hid (yc.new V4 #[.string (bs s0),.string (bs ar)] 9)
  have BB1:=hid (BB4.out.grown AX (by simp))
  have G2:=hid (ya G4.out AX)
  clear AX
  have q0:(V4.alloc (.cells #[.string (bs s0),.string (bs ar)] 9)).cell? ⟨Bb,0,none⟩=some (.int .i64 4096):=BB1.out.cell 0
  have q1:(V4.alloc (.cells #[.string (bs s0),.string (bs ar)] 9)).cell? ⟨Bb,1,none⟩=some (.int .i64 65536):=BB1.out.cell 1
  have q2:(V4.alloc (.cells #[.string (bs s0),.string (bs ar)] 9)).cell? ⟨Bb,2,none⟩=some (.int .i64 131072):=BB1.out.cell 2
  go_wp2_with fail
  refine (yeV 4096 65536 131072 (some ⟨V4.heap.size,0,none⟩) 2 [s0,ar] [(false,[wkO 0]),(true,[wkO 3])] none 0 [] [0] 0 _ (ycp [s0,ar] BX.out) (by intro f hf; simp at hf; have:=K0.out.2; have:=LAR.out.2; rcases hf with rfl | rfl <;> omega) (fun h=>by simp at h) (by simp) (HT.out.grown G2.out) (by simp) (by simp) ycl ⟨K0.out.1,LAR.out.1,trivial⟩ wk3 (yeu wk3.2.1)).mono ?_
  rintro e V6 ⟨⟨ao,ca,st,rfl,hoi⟩,h6⟩
  generalize (Mc.run _ [] 5000).read=rd at *
  have A7:=ysk V6 (.cells #[.int .i64 1,.int .i64 0,.slice ao 1 ca,.int .i64 st,.int .i64 rd] 39) none
  have A8:=ysk (V6.alloc (.cells #[.int .i64 1,.int .i64 0,.slice ao 1 ca,.int .i64 st,.int .i64 rd] 39)) (.cells #[.int .i64 0] 3) none
  have B7:=(yc.new V6 #[.int .i64 1,.int .i64 0,.slice ao 1 ca,.int .i64 st,.int .i64 rd] 39).grown A8 (by simp)
  have B8:=yc.new (V6.alloc (.cells #[.int .i64 1,.int .i64 0,.slice ao 1 ca,.int .i64 st,.int .i64 rd] 39)) #[.int .i64 0] 3
  rw [yau] at B8
  have cE:=hid (yfs V6.heap.size ao (some ⟨V6.heap.size+1,0,none⟩) ca 1 [0] 0 st rd _ B7 (hoi.kept (fun a v e=>yd e (ya A7 A8))) (yfm [0] B8) (by simp))
  have G9:=hid (ya (ya (ya G2.out h6) A7) A8)
  clear hoi h6 A7 A8 B7 B8 q0 q1 q2
  go_wp2_with fail
  refine cE.out.mono ?_
  rintro e V9 ⟨rfl,h9⟩
  have GZ:=hid (ya G9.out h9)
  clear h9 cE
  go_wp2
  go_ret
  exact ⟨rfl,GZ.out⟩
 ·clear hi
  have a1:=yg (ysk V (.cells #[.string (bs s0),.string (bs s3),.string (bs s1),.string (bs s3)] 9) none)
  have a2:=yg (ya (ysk V (.cells #[.string (bs s0),.string (bs s3),.string (bs s1),.string (bs s3)] 9) none) (ysk (V.alloc (.cells #[.string (bs s0),.string (bs s3),.string (bs s1),.string (bs s3)] 9)) (.cells #[.int .i64 0,.int .i64 0,.string ⟨#[]⟩] 45) none))
  have a3:=yg (ya (ysk V (.cells #[.int .i64 0,.int .i64 0,.string ⟨#[]⟩] 45) none) (ysk (V.alloc (.cells #[.int .i64 0,.int .i64 0,.string ⟨#[]⟩] 45)) (.cells #[.string (bs s0),.string (bs s3),.string (bs s1),.string (bs s3)] 9) none))
  have bx1:=yag (yc.new V #[.string (bs s0),.string (bs s3),.string (bs s1),.string (bs s3)] 9)
  have bx2:=yag ((yc.new V #[.string (bs s0),.string (bs s3),.string (bs s1),.string (bs s3)] 9).grown (ysk (V.alloc (.cells #[.string (bs s0),.string (bs s3),.string (bs s1),.string (bs s3)] 9)) (.cells #[.int .i64 0,.int .i64 0,.string ⟨#[]⟩] 45) none) (by simp))
  have bx3:=yag (yc.new (V.alloc (.cells #[.int .i64 0,.int .i64 0,.string ⟨#[]⟩] 45)) #[.string (bs s0),.string (bs s3),.string (bs s1),.string (bs s3)] 9)
  have bf2:=yag (yc.new (V.alloc (.cells #[.string (bs s0),.string (bs s3),.string (bs s1),.string (bs s3)] 9)) #[.int .i64 0,.int .i64 0,.string ⟨#[]⟩] 45)
  have bf3:=yag ((yc.new V #[.int .i64 0,.int .i64 0,.string ⟨#[]⟩] 45).grown (ysk (V.alloc (.cells #[.int .i64 0,.int .i64 0,.string ⟨#[]⟩] 45)) (.cells #[.string (bs s0),.string (bs s3),.string (bs s1),.string (bs s3)] 9) none) (by simp))
  rw [yau] at bx3 bf2
  have BF2:=hid bf2
  have BF3:=hid bf3
  have G1:=hid (ya G.out a1)
  have cK1:Hid (Calls Tryz.prog 20 #[.slice (some ⟨V.heap.size,0,none⟩) 4 4,.agg #[.int .i64 4096,.int .i64 65536,.int .i64 131072]] (V.alloc (.cells #[.string (bs s0),.string (bs s3),.string (bs s1),.string (bs s3)] 9)).drew (fun e w'=>e = .returned (.tuple #[.string ⟨#[]⟩,.agg #[.int .i64 33,.int .i64 3,.string ⟨#[118]⟩]])/\(V.alloc (.cells #[.string (bs s0),.string (bs s3),.string (bs s1),.string (bs s3)] 9)).drew.grownBy w' none)):=(yep 4096 65536 131072 (some ⟨V.heap.size,0,none⟩) 4 [s0,s3,s1,s3] (V.alloc (.cells #[.string (bs s0),.string (bs s3),.string (bs s1),.string (bs s3)] 9)).drew (ycp [s0,s3,s1,s3] bx1) (by intro f hf; simp at hf; have:=K0.out.2; have:=K3.out.2; have:=K1.out.2; have:=K3.out.2; rcases hf with rfl | rfl | rfl | rfl <;> omega) (HT.out.grown G1.out) (by simp)).mono (fun e w' ⟨hret,h6⟩=>⟨yhZ (xs:=[(false,[wkO 0]),(false,[wkO 3]),(false,[wkO 1]),(false,[wkO 3])]) hret ycl (by simp) (by simp) ⟨K0.out.1,K3.out.1,K1.out.1,K3.out.1,trivial⟩ rfl wk4,h6⟩)
  have KC1:=hid (fun W (hg:(V.alloc (.cells #[.string (bs s0),.string (bs s3),.string (bs s1),.string (bs s3)] 9)).drew.grownBy W none)=>show W.cell? ⟨sg,off,none⟩=some (.string (bs s0))/\W.cell? ⟨sg,off+3,none⟩=some (.string (bs s3))/\W.cell? ⟨sg,off+1,none⟩=some (.string (bs s1))/\W.cell? ⟨Bb,0,none⟩=some (.int .i64 4096)/\W.cell? ⟨Bb,1,none⟩=some (.int .i64 65536)/\W.cell? ⟨Bb,2,none⟩=some (.int .i64 131072) from ⟨yd c0 (ya a1 hg),yd c3 (ya a1 hg),yd c1 (ya a1 hg),yd b0 (ya a1 hg),yd b1 (ya a1 hg),yd b2 (ya a1 hg)⟩)
  have G2:=hid (ya G.out a2)
  have cK2:Hid (Calls Tryz.prog 20 #[.slice (some ⟨V.heap.size,0,none⟩) 4 4,.agg #[.int .i64 4096,.int .i64 65536,.int .i64 131072]] ((V.alloc (.cells #[.string (bs s0),.string (bs s3),.string (bs s1),.string (bs s3)] 9)).alloc (.cells #[.int .i64 0,.int .i64 0,.string ⟨#[]⟩] 45)).drew (fun e w'=>e = .returned (.tuple #[.string ⟨#[]⟩,.agg #[.int .i64 33,.int .i64 3,.string ⟨#[118]⟩]])/\((V.alloc (.cells #[.string (bs s0),.string (bs s3),.string (bs s1),.string (bs s3)] 9)).alloc (.cells #[.int .i64 0,.int .i64 0,.string ⟨#[]⟩] 45)).drew.grownBy w' none)):=(yep 4096 65536 131072 (some ⟨V.heap.size,0,none⟩) 4 [s0,s3,s1,s3] ((V.alloc (.cells #[.string (bs s0),.string (bs s3),.string (bs s1),.string (bs s3)] 9)).alloc (.cells #[.int .i64 0,.int .i64 0,.string ⟨#[]⟩] 45)).drew (ycp [s0,s3,s1,s3] bx2) (by intro f hf; simp at hf; have:=K0.out.2; have:=K3.out.2; have:=K1.out.2; have:=K3.out.2; rcases hf with rfl | rfl | rfl | rfl <;> omega) (HT.out.grown G2.out) (by simp)).mono (fun e w' ⟨hret,h6⟩=>⟨yhZ (xs:=[(false,[wkO 0]),(false,[wkO 3]),(false,[wkO 1]),(false,[wkO 3])]) hret ycl (by simp) (by simp) ⟨K0.out.1,K3.out.1,K1.out.1,K3.out.1,trivial⟩ rfl wk4,h6⟩)
  have KC2:=hid (fun W (hg:((V.alloc (.cells #[.string (bs s0),.string (bs s3),.string (bs s1),.string (bs s3)] 9)).alloc (.cells #[.int .i64 0,.int .i64 0,.string ⟨#[]⟩] 45)).drew.grownBy W none)=>show W.cell? ⟨sg,off,none⟩=some (.string (bs s0))/\W.cell? ⟨sg,off+3,none⟩=some (.string (bs s3))/\W.cell? ⟨sg,off+1,none⟩=some (.string (bs s1))/\W.cell? ⟨Bb,0,none⟩=some (.int .i64 4096)/\W.cell? ⟨Bb,1,none⟩=some (.int .i64 65536)/\W.cell? ⟨Bb,2,none⟩=some (.int .i64 131072) from ⟨yd c0 (ya a2 hg),yd c3 (ya a2 hg),yd c1 (ya a2 hg),yd b0 (ya a2 hg),yd b1 (ya a2 hg),yd b2 (ya a2 hg)⟩)
  have G3:=hid (ya G.out a3)
  have cK3:Hid (Calls Tryz.prog 20 #[.slice (some ⟨(V.heap.size+1),0,none⟩) 4 4,.agg #[.int .i64 4096,.int .i64 65536,.int .i64 131072]] ((V.alloc (.cells #[.int .i64 0,.int .i64 0,.string ⟨#[]⟩] 45)).alloc (.cells #[.string (bs s0),.string (bs s3),.string (bs s1),.string (bs s3)] 9)).drew (fun e w'=>e = .returned (.tuple #[.string ⟨#[]⟩,.agg #[.int .i64 33,.int .i64 3,.string ⟨#[118]⟩]])/\((V.alloc (.cells #[.int .i64 0,.int .i64 0,.string ⟨#[]⟩] 45)).alloc (.cells #[.string (bs s0),.string (bs s3),.string (bs s1),.string (bs s3)] 9)).drew.grownBy w' none)):=(yep 4096 65536 131072 (some ⟨(V.heap.size+1),0,none⟩) 4 [s0,s3,s1,s3] ((V.alloc (.cells #[.int .i64 0,.int .i64 0,.string ⟨#[]⟩] 45)).alloc (.cells #[.string (bs s0),.string (bs s3),.string (bs s1),.string (bs s3)] 9)).drew (ycp [s0,s3,s1,s3] bx3) (by intro f hf; simp at hf; have:=K0.out.2; have:=K3.out.2; have:=K1.out.2; have:=K3.out.2; rcases hf with rfl | rfl | rfl | rfl <;> omega) (HT.out.grown G3.out) (by simp)).mono (fun e w' ⟨hret,h6⟩=>⟨yhZ (xs:=[(false,[wkO 0]),(false,[wkO 3]),(false,[wkO 1]),(false,[wkO 3])]) hret ycl (by simp) (by simp) ⟨K0.out.1,K3.out.1,K1.out.1,K3.out.1,trivial⟩ rfl wk4,h6⟩)
  have KC3:=hid (fun W (hg:((V.alloc (.cells #[.int .i64 0,.int .i64 0,.string ⟨#[]⟩] 45)).alloc (.cells #[.string (bs s0),.string (bs s3),.string (bs s1),.string (bs s3)] 9)).drew.grownBy W none)=>show W.cell? ⟨sg,off,none⟩=some (.string (bs s0))/\W.cell? ⟨sg,off+3,none⟩=some (.string (bs s3))/\W.cell? ⟨sg,off+1,none⟩=some (.string (bs s1))/\W.cell? ⟨Bb,0,none⟩=some (.int .i64 4096)/\W.cell? ⟨Bb,1,none⟩=some (.int .i64 65536)/\W.cell? ⟨Bb,2,none⟩=some (.int .i64 131072) from ⟨yd c0 (ya a3 hg),yd c3 (ya a3 hg),yd c1 (ya a3 hg),yd b0 (ya a3 hg),yd b1 (ya a3 hg),yd b2 (ya a3 hg)⟩)
  have hVw:=hid G.out.size
  have hs0:sg≠V.heap.size:=by have:=World.block_lt_of_cell? V _ c0; simp at this; omega
  have hs1:sg≠V.heap.size+1:=by have:=World.block_lt_of_cell? V _ c0; simp at this; omega
  have hb0:Bb≠V.heap.size:=by have:=World.block_lt_of_cell? V _ b0; simp at this; omega
  have hb1:Bb≠V.heap.size+1:=by have:=World.block_lt_of_cell? V _ b0; simp at this; omega
  clear a1 a2 a3 bx1 bx2 bx3 bf2 bf3
  go_wp2
  go_region_held3 (fun w'=>w'.cell? ⟨sg,off,none⟩=some (.string (bs s0))/\w'.cell? ⟨sg,off+3,none⟩=some (.string (bs s3))/\w'.cell? ⟨sg,off+1,none⟩=some (.string (bs s1))/\w'.cell? ⟨Bb,0,none⟩=some (.int .i64 4096)/\w'.cell? ⟨Bb,1,none⟩=some (.int .i64 65536)/\w'.cell? ⟨Bb,2,none⟩=some (.int .i64 131072))
   (go_keep)
   (first | (go_at_call 20; with_reducible refine cK1.out.mono ?_; rintro e w' ⟨rfl,h6⟩; obtain ⟨t0,t1,t2,t3,t4,t5⟩:=KC1.out _ h6) | (go_at_call 20; with_reducible refine cK2.out.mono ?_; rintro e w' ⟨rfl,h6⟩; obtain ⟨t0,t1,t2,t3,t4,t5⟩:=KC2.out _ h6; have u0:=yaJ t0 hs1 (.int .i64 33) (.int .i64 3) (.string ⟨#[118]⟩); have u1:=yaJ t1 hs1 (.int .i64 33) (.int .i64 3) (.string ⟨#[118]⟩); have u2:=yaJ t2 hs1 (.int .i64 33) (.int .i64 3) (.string ⟨#[118]⟩); have u3:=yaJ t3 hb1 (.int .i64 33) (.int .i64 3) (.string ⟨#[118]⟩); have u4:=yaJ t4 hb1 (.int .i64 33) (.int .i64 3) (.string ⟨#[118]⟩); have u5:=yaJ t5 hb1 (.int .i64 33) (.int .i64 3) (.string ⟨#[118]⟩); have bf:=BF2.out.grown h6 (by simp); have y0:=bf.cell 0; have y1:=bf.cell 1; have y2:=bf.cell 2; simp only [ysf,ysg,yse] at y0 y1 y2; have z0:=bf.free 0; have z1:=bf.free 1; have z2:=bf.free 2) | (go_at_call 20; with_reducible refine cK3.out.mono ?_; rintro e w' ⟨rfl,h6⟩; obtain ⟨t0,t1,t2,t3,t4,t5⟩:=KC3.out _ h6; have u0:=yaJ t0 hs0 (.int .i64 33) (.int .i64 3) (.string ⟨#[118]⟩); have u1:=yaJ t1 hs0 (.int .i64 33) (.int .i64 3) (.string ⟨#[118]⟩); have u2:=yaJ t2 hs0 (.int .i64 33) (.int .i64 3) (.string ⟨#[118]⟩); have u3:=yaJ t3 hb0 (.int .i64 33) (.int .i64 3) (.string ⟨#[118]⟩); have u4:=yaJ t4 hb0 (.int .i64 33) (.int .i64 3) (.string ⟨#[118]⟩); have u5:=yaJ t5 hb0 (.int .i64 33) (.int .i64 3) (.string ⟨#[118]⟩); have bf:=BF3.out.grown h6 (by simp); have y0:=bf.cell 0; have y1:=bf.cell 1; have y2:=bf.cell 2; simp only [ysf,ysg,yse] at y0 y1 y2; have z0:=bf.free 0; have z1:=bf.free 1; have z2:=bf.free 2))
  all_goals first
   | (have GX:=hid (yw (ya G2.out h6) (V.heap.size+1) (by have:=hVw.out; omega) (.int .i64 33) (.int .i64 3) (.string ⟨#[118]⟩)); have xx:=ygj bf (.int .i64 33) (.int .i64 3) (.string ⟨#[118]⟩); have x0:=xx.cell 0; have x1:=xx.cell 1; have x2:=xx.cell 2; simp only [ysf,ysg,yse] at x0 x1 x2; clear h6 bf xx t0 t1 t2 t3 t4 t5 u0 u1 u2 u3 u4 u5 y0 y1 y2 z0 z1 z2 cK1 cK2 cK3 KC1 KC2 KC3 c0 c1 c2 c3 b0 b1 b2; generalize (((w'.setCell ⟨V.heap.size+1,0,none⟩ (.int .i64 33)).setCell ⟨V.heap.size+1,1,none⟩ (.int .i64 3)).setCell ⟨V.heap.size+1,2,none⟩ (.string ⟨#[118]⟩))=WX at *; go_wp2; go_ret; exact ⟨rfl,GX.out⟩)
   | (have GX:=hid (yw (ya G3.out h6) V.heap.size hVw.out (.int .i64 33) (.int .i64 3) (.string ⟨#[118]⟩)); have xx:=ygj bf (.int .i64 33) (.int .i64 3) (.string ⟨#[118]⟩); have x0:=xx.cell 0; have x1:=xx.cell 1; have x2:=xx.cell 2; simp only [ysf,ysg,yse] at x0 x1 x2; clear h6 bf xx t0 t1 t2 t3 t4 t5 u0 u1 u2 u3 u4 u5 y0 y1 y2 z0 z1 z2 cK1 cK2 cK3 KC1 KC2 KC3 c0 c1 c2 c3 b0 b1 b2; generalize (((w'.setCell ⟨V.heap.size,0,none⟩ (.int .i64 33)).setCell ⟨V.heap.size,1,none⟩ (.int .i64 3)).setCell ⟨V.heap.size,2,none⟩ (.string ⟨#[118]⟩))=WX at *; go_wp2; go_ret; exact ⟨rfl,GX.out⟩)
   | (have GX:=hid (ya (ya G1.out h6) (ysk w' (.cells #[.int .i64 33,.int .i64 3,.string ⟨#[118]⟩] 45) none)); clear h6 t0 t1 t2 t3 t4 t5 cK1 cK2 cK3 KC1 KC2 KC3 c0 c1 c2 c3 b0 b1 b2; go_wp2; go_ret; exact ⟨rfl,GX.out⟩)
end Go.Proofs.YtnfgdlkiialnnaaGreatDoor

namespace Go.Proofs.YtnfgdlkiialnnaaGreatDoor
open Go.ChangeShapes Go.WideShapes Go.ChangeAt Go.RowKit
theorem yls:ownKnob Tryz.prog.godebug=none:=by kernel_rfl
theorem ypO : Tryz.prog.globalNamed "linker/instr.forms" = some 0 := by kernel_rfl
theorem gFix : Tryz.prog.globalNamed "linker/instr.fixed" = some 1 := by kernel_rfl
theorem gNam : Tryz.prog.globalNamed "linker/instr.names" = some 2 := by kernel_rfl
theorem yoi:(Tryz.prog.globals[0]?).map (·.type)=some 176:=by kernel_rfl
theorem ypa:(Tryz.prog.globals[1]?).map (·.type)=some 176:=by kernel_rfl
theorem yoD:(Tryz.prog.globals[2]?).map (·.type)=some 186:=by kernel_rfl
theorem yjD:Tryz.prog.cellsOf 176=26:=by kernel_rfl
theorem yjr:Tryz.prog.cellsOf 3=1:=by kernel_rfl
theorem yob:Tryz.prog.cellsOf 186=26:=by kernel_rfl
theorem ypd:Tryz.prog.cellsOf 9=1:=by kernel_rfl
theorem ynZ:Tryz.prog.underlying 176=some (.array 26 3):=by kernel_rfl
theorem yqe:Tryz.prog.underlying 186=some (.array 26 9):=by kernel_rfl
theorem yrm:Tryz.prog.underlying 9=some .string:=by kernel_rfl
theorem yhH:Tryz.prog.underlying 3=some (.int .i64):=by kernel_rfl
def yhM {H:Type} (zs:List (List UInt8)):DataW H:=.agg (zs.map fun z=>.lit (.string z))
theorem yiS {H:Type} {enc:TypeId×Value->H} {P:Program} {w:World} {base:Nat} {sp:Nat->Bool} {held:Bool} {fuel:Nat} {t e:TypeId} {n:Nat} {cs:List Value} {zs:List (List UInt8)} {p:List MemPlace}
  (ht:P.underlying t=some (.array n e)) (he:P.underlying e=some .string) (hce:P.cellsOf e=1) (hct:P.cellsOf t=n)
  (h:DataW.trod enc P w base sp held fuel t cs=some (yhM zs,p)):cs=zs.map fun z=>Value.string (bs z):=by
 cases fuel with
 | zero=>simp [DataW.trod] at h
 | succ fuel =>
  simp only [DataW.trod,ht,hce,hct,Nat.mul_one] at h
  split at h
  ·rename_i hl
   obtain ⟨xs,hm,hx⟩:=Option.map_eq_some_iff.1 h
   have hxs:xs.map (·.1)=zs.map fun z=>(DataW.lit (.string z):DataW H):=by
    have:=congrArg Prod.fst hx
    simpa [yhM] using this
   have hxl:xs.length=n:=by simpa using Lib.mapM_length hm
   have hzl:zs.length=n:=by
    have:=congrArg List.length hxs
    simp at this
    omega
   apply List.ext_getElem?
   intro i
   by_cases hi:i < n
   ·obtain ⟨b,hb,hf⟩:=Lib.mapM_at hm i i (by simp [hi])
    obtain ⟨z,hc,rfl,_⟩:=DataW.trod_string he hf
    have h1:cs[i]?=some (.string z):=by
     have:=congrArg (·[0]?) hc
     simpa [List.getElem?_take,List.getElem?_drop] using this
    have h2:(xs.map (·.1))[i]?=some (DataW.lit (.string z.data.toList):DataW H):=by simp [hb]
    rw [hxs] at h2
    simp only [List.getElem?_map,Option.map_eq_some_iff,DataW.lit.injEq,Lit.string.injEq] at h2
    obtain ⟨z',hz',rfl⟩:=h2
    have hbz:bs z.data.toList=z:=yrU z
    simp [h1,hz',hbz]
   ·rw [List.getElem?_eq_none (by omega),List.getElem?_eq_none (by simp; omega)]
  ·cases h
theorem yip {W:World} {b o:Nat} {v:Value} (h:W.cell? ⟨b,o,none⟩=some v):b < W.heap.size:=by
 by_cases hb:b < W.heap.size
 ·exact hb
 ·exfalso
  simp only [World.cell?] at h
  rw [Array.getElem?_eq_none (by omega)] at h
  cases h
theorem yiQ {W : World} (h : laidMet Tryz.prog [("linker/instr.forms", Lib.tabData .i64 ybt), ("linker/instr.fixed", Lib.tabData .i64 ycC), ("linker/instr.names", yhM As.names)] W) : Tabs W ∧ NTab W ∧ 3 ≤ W.heap.size := by
 have t1 : Lib.TabIs Tryz.prog W "linker/instr.forms" .i64 ybt := Lib.tabIs_of_head ypO yoi ynZ yhH yjr yjD h
 obtain ⟨ps,⟨g',t',cs,fuel,p,q,hg',ht',hvar,hd,⟨g2,t2,cs2,fuel2,p2,q2,hg2,ht2,hvar2,hd2,⟨g3,t3,cs3,fuel3,p3,q3,hg3,ht3,hvar3,hd3,_,_⟩,_⟩,_⟩,_⟩:=h
 obtain rfl:=Option.some.inj (gFix.symm.trans hg2)
 obtain rfl:=Option.some.inj (ypa.symm.trans ht2)
 obtain rfl:=Option.some.inj (gNam.symm.trans hg3)
 obtain rfl:=Option.some.inj (yoD.symm.trans ht3)
 have e2 : Lib.TabIs Tryz.prog W "linker/instr.fixed" .i64 ycC := by
  unfold Lib.TabIs
  rw [hvar2,<- Lib.cells_of_tab ynZ yhH yjr yjD hd2]
 have e3 : W.var? Tryz.prog "linker/instr.names" = some (As.names.map fun z => Value.string (bs z)).toArray := by
  rw [hvar3,<- yiS yqe yrm ypd yob hd3]
 have T:Tabs W:=⟨fun i hi=>t1.cell ypO i hi,fun i hi=>e2.cell gFix i hi⟩
 have N:NTab W:=by
  intro i hi
  have hl:As.names.length=26:=by decide
  have:=World.var?_cell gNam e3 i
  rw [this]
  simp [List.getD,hl,hi]
 refine ⟨T,N,?_⟩
 have a:=yip (T.1 0 (by decide))
 have b:=yip (T.2 0 (by decide))
 have c:=yip (N 0 (by decide))
 omega
theorem yiI {W W':World} (h:W.grownBy W' none) (may:MemPlace->Prop):W.keptBut W' may:=by
 refine World.keptBut_mono (fun _ f=>f.elim) (?_:W.keptBut W' (fun _=>False))
 refine ⟨h.os,h.output,fun i hi=>?_⟩
 rw [h.block i hi (by simp)]
 cases hb:W.heap[i]? with
 | none=>trivial
 | some o=>cases o <;> simp
def ynz (zs:List Int):Obj->Obj
 | .cells _ t frozen=>.cells (zs.map (Value.int .i64)).toArray t frozen
 | o=>o
def yqI (zs:List (List UInt8)):Obj->Obj
 | .cells _ t frozen=>.cells (zs.map fun z=>Value.string (bs z)).toArray t frozen
 | o=>o
noncomputable def yga (os:Os):World :=
 { World.holding Tryz.prog os ⟨#[],#[],[]⟩ with heap:=(((World.holding Tryz.prog os ⟨#[],#[],[]⟩).heap.modify 0 (ynz ybt)).modify 1 (ynz ycC)).modify 2 (yqI As.names) }
end Go.Proofs.YtnfgdlkiialnnaaGreatDoor

namespace Go.Proofs.YtnfgdlkiialnnaaGreatDoor
open Go.ChangeShapes Go.WideShapes Go.ChangeAt Go.RowKit
theorem yiu {c:Int} (h:(Lit.int .i64 c).wf=true):-9223372036854775808<=c/\c<=9223372036854775807:=by
 simp [Lit.wf] at h
 have e:IntKind.i64.min = -9223372036854775808:=by decide
 omega
theorem yiM (c:Int) (w:World) (ht:Tabs w) (hN:NTab w) (hB:3<=w.heap.size) (h0:-9223372036854775808<=c) (h1:c<=9223372036854775807) :
  Calls Tryz.prog 4 #[.int .i64 c] w fun e w'=>e = .returned (.bool true)/\w.grownBy w' none:=by
 have cF:=hid (yne c w ht hN hB h0 h1)
 clear ht hN
 go_enter Tryz.func4,Tryz.ntmps4
 go_wp2_with fail
 refine cF.out.mono ?_
 rintro e V1 ⟨rfl,hg⟩
 have G:=hid hg
 clear hg
 go_wp2
 go_ret
 exact ⟨rfl,G.out⟩
set_option maxRecDepth 100000 in
theorem yhw (H:Type) (enc:TypeId×Value->H) (W:World) (base:Nat) (args:Array Value) (ds gs:List (DataW H)) (before:List MemPlace)
  (hval:∀ (j:Nat) t v,Tryz.f4.params[j]?=some t->args[j]?=some v->Value.okWide Tryz.prog W .any base t v)
  (hW:DataW.Whole enc Tryz.prog Tryz.f4.params.toList Rows.weaklySpec.vars false W args.toList ds gs before) (hL:laidMetH Tryz.prog Rows.weaklyRow.laid W) :
  Calls Tryz.prog 4 args W fun e W'=>∃ v,e = .returned v/\Rows.weaklySpec.post enc Tryz.prog Tryz.f4 false true false false W args v W':=by
 have hW':=hW
 obtain ⟨p,q,hA0,hV,rfl,hfz,hnd⟩:=hW
 have hA:DataW.TrodAll enc Tryz.prog W 0 (fun _=>true) true Tryz.f4.params.toList args.toList ds p:=hA0
 rw [Tryz.params4] at hA hval
 obtain ⟨v0,vs0,d0,ds0,p0,q0,hargs,rfl,rfl,h0,r0⟩:=trodAll_cons hA
 obtain ⟨rfl,rfl,rfl⟩:=trodAll_nil r0
 obtain rfl:args = #[v0]:=by cases args; simp_all
 obtain ⟨rfl,rfl⟩:=trodVars_none hV
 have hv:Value.okWide Tryz.prog W .any base 3 v0:=hval 0 3 v0 rfl rfl
 obtain ⟨c,rfl,rfl,rfl,hw⟩:=open_int (t:=3) yhH hv h0
 clear hA0
 simp only [List.append_nil] at hW'
 obtain ⟨hT,hN,hB⟩:=yiQ hL
 refine (yiM c W hT hN hB (yiu hw).1 (yiu hw).2).mono fun e W' ⟨he,hg⟩=>?_
 subst he
 exact ⟨_,rfl,_,_,_,[],[],[],hW',trodAll_cons_mk (shut_bool Tryz.underlying4 _) trodAll_mk0,trodAll_cons_mk (shut_int yhH hw) trodAll_mk0,rfl,yiI hg _,fun h=>by cases h⟩
theorem ypw (os:Os):laidMet Tryz.prog Rows.weaklyRow.laid ((yga os).forCall (fun _ _=>0) ⟨#[],#[.int .i64 0],[]⟩).memory :=
 laidMet_of_run' 8 (by kernel_rfl) (by kernel_rfl)
theorem yjc (os:Os) {H:Type} (enc:TypeId×Value->H):∃ places,DataW.whole enc Tryz.prog ((yga os).forCall (fun _ _=>0) ⟨#[],#[.int .i64 0],[]⟩).memory Tryz.f4.params.toList Rows.weaklySpec.vars false #[Value.int .i64 0].toList 8=some ([.lit (.int .i64 0)],[],places) :=
 ⟨[],by kernel_rfl⟩
set_option maxRecDepth 100000 in
theorem yja (os:Os) (started:os.Started) (H:Type) (enc:TypeId×Value->H) (F:Stop.Interp) :
  ReturnsInHanded {} Tryz.checked os 4 .any ((OpenSpec.ofChange Rows.weaklySpec).preRow enc Tryz.prog Tryz.f4 Rows.weaklyRow.domain false Rows.weaklyRow.laid) (((OpenSpec.ofChange Rows.weaklySpec).at F).post enc Tryz.prog Tryz.f4 false true false false):=by
 obtain ⟨places,hx⟩:=yjc os enc
 refine returnsInHanded_of_row (C:=Tryz.checked) (s:=OpenSpec.ofChange Rows.weaklySpec) yls started (by kernel_rfl) Tryz.func4
  (witness_row_at (enc:=enc) (C:=Tryz.checked) false (yga os) #[.int .i64 0] rfl (by kernel_rfl) (by kernel_rfl) (by kernel_rfl)
   (OpenSpec.preRow_of_cond 8 hx (by kernel_rfl) (fun k hk=>by cases hk) (by kernel_rfl) (ypw os))) ?_
 intro W base args ds gs before hval hW _ _ _ hL _ _
 exact yhw H enc W base args ds gs before hval hW hL
theorem ykQ:Rows.WeaklySaid :=
 OpenClaim.holds_of_cond 4 Tryz.f4 rfl rfl rfl rfl rfl rfl rfl ⟨rfl,rfl,rfl,rfl,rfl⟩ rfl rfl rfl rfl rfl (by kernel_rfl) Tryz.func4 (by kernel_rfl)
  (of_decide_eq_true (by kernel_rfl)) (by unfold Func.isWrapper; first | (rw [if_pos (by decide +kernel)]; kernel_rfl) | (rw [if_neg (by decide +kernel)]; exact ⟨rfl,rfl⟩))
  (fun os started H enc _ F=>by rw [OpenClaim.pre_eq_preRow]; exact yja os started H enc F)
theorem yjB (f : FuncId) (fn : Func) (hf : Tryz.pinned.checked.prog.funcNamed "linker/linkerkeep.Weakly" = some f) (hfn : Tryz.pinned.checked.prog.funcs[f]? = some fn) :
  false=Tryz.pinned.checked.prog.looks []/\∀ (j:Nat) t,fn.params[j]?=some t->Tryz.pinned.checked.prog.wantsStandIn t=false:=by
 obtain rfl : f = 4 := Option.some.inj ((show Tryz.prog.funcNamed "linker/linkerkeep.Weakly" = some 4 by kernel_rfl).symm.trans hf) |>.symm
 obtain rfl:fn=Tryz.f4:=(Option.some.inj (Tryz.func4.symm.trans hfn)).symm
 refine ⟨by kernel_rfl,fun j t ht=>?_⟩
 rw [Tryz.params4] at ht
 obtain rfl:t=3:=by simpa using Array.mem_of_getElem? ht
 exact (show Tryz.prog.wantsStandIn 3=false by kernel_rfl)
theorem weakly_card:Rows.WeaklyCardSaid :=
 Claim7.holds_tied_plain_at .later [] _ _ _ _ ykQ (fun _ h=>by cases h) (by kernel_rfl) (fun _ h=>by cases h) weakly_row_tie rfl ⟨rfl,rfl⟩ (by kernel_rfl) rfl yjB (by kernel_rfl)
end Go.Proofs.YtnfgdlkiialnnaaGreatDoor
