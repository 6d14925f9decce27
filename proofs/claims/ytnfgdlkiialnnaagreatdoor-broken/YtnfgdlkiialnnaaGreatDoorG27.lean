/- Broken: the walk. -/
import Derived.Test.YtnfgdlkiialnnaaGreatDoorG26
namespace Go.Proofs.YtnfgdlkiialnnaaGreatDoor
open Go.RowKit

theorem bk_b1 (i:Nat) (h:i < 9):ObjB1 (asmB (bkT.getD i [])) (bkO i):=by
 have m:=getD_mem bkT [] i (by rw [bk_length]; exact h)
 exact asm_b1 ⟨bk_ok _ m,bk_valid _ m⟩
theorem no_lk:NoFile [76,75]:=by
 refine ⟨fun h=>?_,fun ms h=>?_⟩
 ·have:=congrArg List.length h.2
  simp [Lk.objB,Lk.le_length] at this
 ·have:=h.2.2
  unfold arB at this
  simp at this
theorem bk_lk {bt bf bd:Int} {s t:List UInt8} {o p:Lk.Obj} {en:Ending} (h:LinkRet bt bf bd [s,[76,75],t] en) (hb:Im.Base bt∧Im.Base bf∧Im.Base bd) (hs:FileIs s false [o]) (ht:FileIs t false [p]):en = .returned (.tuple #[.string (bs []),lfA ⟨32,1,[]⟩]):=by
 have hok:baseFlt bt bf bd=Ln.ok:=by
  unfold baseFlt
  rw [if_neg (not_not_intro hb.1),if_neg (not_not_intro hb.2.1),if_neg (not_not_intro hb.2.2)]
 rcases h with ⟨f,hfe,rfl,c⟩ | ⟨-,-,-,ys,hy,k,rfl⟩
 ·rcases c with rfl | ⟨-,c,-⟩ | ⟨-,-,-,i,hi,rfl,hn,-⟩
  ·exact absurd (by rw [hok]; rfl) hfe
  ·simp at c
  ·simp only [List.length_cons,List.length_nil] at hi
   rcases (show i=0∨i=1∨i=2 by omega) with rfl | rfl | rfl
   ·exact (noFile_not hs hn).elim
   ·rfl
   ·exact (noFile_not ht hn).elim
 ·exact (noFile_not (k 1 (by simp)) no_lk).elim
theorem bk_none {bt bf bd:Int} {en:Ending} (h:LinkRet bt bf bd [] en) (hb:Im.Base bt∧Im.Base bf∧Im.Base bd):en = .returned (.tuple #[.string (bs []),lfA ⟨31,0,[]⟩]):=by
 have hok:baseFlt bt bf bd=Ln.ok:=by
  unfold baseFlt
  rw [if_neg (not_not_intro hb.1),if_neg (not_not_intro hb.2.1),if_neg (not_not_intro hb.2.2)]
 rcases h with ⟨f,hfe,rfl,c⟩ | ⟨-,c,-⟩
 ·rcases c with rfl | ⟨-,-,rfl⟩ | ⟨-,c,-⟩
  ·exact absurd (by rw [hok]; rfl) hfe
  ·rfl
  ·simp at c
 ·simp at c
theorem bk_base {fs:List (List UInt8)} {en:Ending} (h:LinkRet 4096 4088 131072 fs en):en = .returned (.tuple #[.string (bs []),lfA ⟨30,1,[]⟩]):=by
 have hno:baseFlt 4096 4088 131072=⟨30,1,[]⟩:=by
  unfold baseFlt
  rw [if_neg (not_not_intro base_near.1),if_pos (by unfold Im.Base; omega)]
 have hne:baseFlt 4096 4088 131072≠Ln.ok:=fun c=>by
  have:=congrArg Ln.Flt.e (hno.symm.trans c)
  cases this
 rcases h with ⟨f,-,rfl,c⟩ | ⟨c,-⟩
 ·rcases c with rfl | ⟨c,-⟩ | ⟨c,-⟩
  ·rw [hno]
  ·exact absurd c hne
  ·exact absurd c hne
 ·exact absurd c hne

set_option maxRecDepth 100000 in
set_option maxHeartbeats 1000000 in
theorem pick14_any (c:Int) (w:World) (h0:-9223372036854775808≤c) (h1:c≤9223372036854775807) :
  Calls Tryz.prog 11 #[.int .i64 c,.int .i64 14] w fun e w'=>(∃ i:Nat,i < 14∧e = .returned (.int .i64 i))∧w'=w:=by
 by_cases hc:c < 0
 ·have d:decide (c < 0)=true:=by simpa using hc
  go_enter Tryz.func11,Tryz.ntmps11
  go_wp2
  go_ret
  have e:-((c+1).tmod 14)=(((-(c+1)) % 14).toNat:Int):=by
   rw [← Int.neg_tmod,Int.tmod_eq_emod_of_nonneg (by omega)]
   omega
  exact ⟨⟨((-(c+1)) % 14).toNat,by omega,ret_int e⟩,rfl⟩
 ·have d:decide (c < 0)=false:=by simpa using hc
  go_enter Tryz.func11,Tryz.ntmps11
  go_wp2
  go_ret
  exact ⟨⟨(c % 14).toNat,by omega,ret_int (by omega)⟩,rfl⟩

theorem bk_img {en:Ending} (h:en = .returned (.tuple #[.string (bs (Ln.linkO (Ln.takeAll [(false,[bkO 7]),(false,[bkO 1])]) 4096 65536 131072).1),lfA (Ln.linkO (Ln.takeAll [(false,[bkO 7]),(false,[bkO 1])]) 4096 65536 131072).2])):∃ tb:List UInt8,tb≠[]∧en = .returned (.tuple #[.string (bs tb),lfA ⟨0,0,[]⟩]):=by
 have e:Ln.takeAll [(false,[bkO 7]),(false,[bkO 1])]=[bkO 7,bkO 1]:=rfl
 rw [e] at h
 have q:=bk12
 generalize Ln.linkO [bkO 7,bkO 1] 4096 65536 131072=r at *
 obtain ⟨tb,f⟩:=r
 obtain ⟨x,y,z⟩:=f
 obtain ⟨q0,q1,q2,q3⟩:=q
 simp only at q0 q1 q2 q3 h
 subst q1 q2 q3
 exact ⟨tb,q0,h⟩

set_option maxRecDepth 100000 in
set_option maxHeartbeats 16000000 in
theorem broken_any (c:Int) (w:World) (ht:Tabs w) (hN:NTab w) (hB:3≤w.heap.size) (h0:-9223372036854775808≤c) (h1:c≤9223372036854775807) :
  Calls Tryz.prog 10 #[.int .i64 c] w fun e w'=>e = .returned (.bool true)∧w.grownBy w' none:=by
 have A0:=World.grownBy_alloc w (.cells (bkT.map fun l=>Value.string (bs l)).toArray 9) none
 have cM:=hid (made_yes bkT (some ⟨w.heap.size,0,none⟩) 9 (w.alloc (.cells (bkT.map fun l=>Value.string (bs l)).toArray 9)) (strs_blk bkT (BlkAt.new w (bkT.map fun l=>Value.string (bs l)).toArray 9)) (by rw [bk_length]; omega) (fun t ht=>⟨bk_ok t ht,bk_valid t ht⟩) (ht.grown A0) (hN.below (grown_below A0 (Nat.le_refl _) (by simp)) hB) (by rw [size_alloc]; omega))
 have G0:=hid A0
 have HT:=hid ht
 have cP:=hid (fun W=>pick14_any c W h0 h1)
 have cN:=hid near_any
 have cA:=hid away_any
 clear ht hN A0
 go_enter Tryz.func10,Tryz.ntmps10
 go_wp2_with fail
 refine cM.out.mono ?_
 rintro e V1 ⟨⟨ao,cap,rfl,hls⟩,hg1⟩
 have G1:=hid (grown_trans G0.out hg1)
 have HL:=hid hls
 clear hls hg1 cM G0
 rw [bk_length]
 obtain ⟨sg,off,rfl,hcs⟩:=HL.out (by decide +kernel)
 have HCS:=hid hcs
 clear hcs HL
 go_wp2_with fail
 refine (cN.out _).mono ?_
 rintro e V2 ⟨rfl,h2⟩
 have A3:=World.grownBy_alloc V2 (.cells #[.int .i64 4096,.int .i64 65536,.int .i64 131072] 35) none
 have A4:=World.grownBy_alloc (V2.alloc (.cells #[.int .i64 4096,.int .i64 65536,.int .i64 131072] 35)) (.cells #[.int .i64 0,.int .i64 0,.string ⟨#[]⟩] 45) none
 have GV:=hid (grown_trans (grown_trans h2 A3) A4)
 have BB:=hid ((BlkAt.new V2 #[.int .i64 4096,.int .i64 65536,.int .i64 131072] 35).grown A4 (by simp))
 have BW:=hid (BlkAt.new (V2.alloc (.cells #[.int .i64 4096,.int .i64 65536,.int .i64 131072] 35)) #[.int .i64 0,.int .i64 0,.string ⟨#[]⟩] 45)
 rw [size_alloc] at BW
 have GVs:=hid h2.size
 clear h2 A3 A4 cN
 go_wp2_with fail
 refine (cP.out _).mono ?_
 rintro e w' ⟨⟨i,hi,rfl⟩,hw⟩
 rw [hw]
 clear hw w' cP
 generalize (V2.alloc (.cells #[.int .i64 4096,.int .i64 65536,.int .i64 131072] 35)).alloc (.cells #[.int .i64 0,.int .i64 0,.string ⟨#[]⟩] 45)=V at *
 have hBW:V2.heap.size≠V2.heap.size+1:=by omega
 have hWw:w.heap.size≤V2.heap.size+1:=by have:=BB.out.lt; have:=G1.out.size; have:=GVs.out; omega
 have hBw:w.heap.size≤V2.heap.size:=by have:=G1.out.size; have:=GVs.out; omega
 generalize V2.heap.size+1=Wn at *
 generalize V2.heap.size=Bb at *
 have G:=hid (grown_trans G1.out GV.out)
 have c0:V.cell? ⟨sg,off+0,none⟩=some (.string (bs (asmB (bkT.getD 0 [])))):=by
  have:=gcell (HCS.out 0 (by rw [List.length_map,bk_length]; omega)) GV.out
  rwa [map_getD asmB bkT []] at this
 have K0:=hid (bk_b1 0 (by omega))
 generalize asmB (bkT.getD 0 [])=s0 at *
 have c1:V.cell? ⟨sg,off+1,none⟩=some (.string (bs (asmB (bkT.getD 1 [])))):=by
  have:=gcell (HCS.out 1 (by rw [List.length_map,bk_length]; omega)) GV.out
  rwa [map_getD asmB bkT []] at this
 have K1:=hid (bk_b1 1 (by omega))
 generalize asmB (bkT.getD 1 [])=s1 at *
 have c2:V.cell? ⟨sg,off+2,none⟩=some (.string (bs (asmB (bkT.getD 2 [])))):=by
  have:=gcell (HCS.out 2 (by rw [List.length_map,bk_length]; omega)) GV.out
  rwa [map_getD asmB bkT []] at this
 have K2:=hid (bk_b1 2 (by omega))
 generalize asmB (bkT.getD 2 [])=s2 at *
 have c3:V.cell? ⟨sg,off+3,none⟩=some (.string (bs (asmB (bkT.getD 3 [])))):=by
  have:=gcell (HCS.out 3 (by rw [List.length_map,bk_length]; omega)) GV.out
  rwa [map_getD asmB bkT []] at this
 have K3:=hid (bk_b1 3 (by omega))
 generalize asmB (bkT.getD 3 [])=s3 at *
 have c4:V.cell? ⟨sg,off+4,none⟩=some (.string (bs (asmB (bkT.getD 4 [])))):=by
  have:=gcell (HCS.out 4 (by rw [List.length_map,bk_length]; omega)) GV.out
  rwa [map_getD asmB bkT []] at this
 have K4:=hid (bk_b1 4 (by omega))
 generalize asmB (bkT.getD 4 [])=s4 at *
 have c5:V.cell? ⟨sg,off+5,none⟩=some (.string (bs (asmB (bkT.getD 5 [])))):=by
  have:=gcell (HCS.out 5 (by rw [List.length_map,bk_length]; omega)) GV.out
  rwa [map_getD asmB bkT []] at this
 have K5:=hid (bk_b1 5 (by omega))
 generalize asmB (bkT.getD 5 [])=s5 at *
 have c6:V.cell? ⟨sg,off+6,none⟩=some (.string (bs (asmB (bkT.getD 6 [])))):=by
  have:=gcell (HCS.out 6 (by rw [List.length_map,bk_length]; omega)) GV.out
  rwa [map_getD asmB bkT []] at this
 have K6:=hid (bk_b1 6 (by omega))
 generalize asmB (bkT.getD 6 [])=s6 at *
 have c7:V.cell? ⟨sg,off+7,none⟩=some (.string (bs (asmB (bkT.getD 7 [])))):=by
  have:=gcell (HCS.out 7 (by rw [List.length_map,bk_length]; omega)) GV.out
  rwa [map_getD asmB bkT []] at this
 have K7:=hid (bk_b1 7 (by omega))
 generalize asmB (bkT.getD 7 [])=s7 at *
 have c8:V.cell? ⟨sg,off+8,none⟩=some (.string (bs (asmB (bkT.getD 8 [])))):=by
  have:=gcell (HCS.out 8 (by rw [List.length_map,bk_length]; omega)) GV.out
  rwa [map_getD asmB bkT []] at this
 have K8:=hid (bk_b1 8 (by omega))
 generalize asmB (bkT.getD 8 [])=s8 at *
 clear HCS GV G1 GVs
 simp only [Nat.add_zero] at c0
 have b0:V.cell? ⟨Bb,0,none⟩=some (.int .i64 4096):=BB.out.cell 0
 have b1:V.cell? ⟨Bb,1,none⟩=some (.int .i64 65536):=BB.out.cell 1
 have b2:V.cell? ⟨Bb,2,none⟩=some (.int .i64 131072):=BB.out.cell 2
 have e1:bs [103]=⟨#[103]⟩:=rfl
 have e2:bs []=⟨#[]⟩:=rfl
 rcases (show i=0∨i=1∨i=2∨i=3∨i=4∨i=5∨i=6∨i=7∨i=8∨i=9∨i=10∨i=11∨i=12∨i=13 by omega) with rfl | rfl | rfl | rfl | rfl | rfl | rfl | rfl | rfl | rfl | rfl | rfl | rfl | rfl
 ·clear hi
  have AX:=World.grownBy_alloc V (.cells #[.string (bs s0)] 9) none
  have BX:=hid (BlkAt.new V #[.string (bs s0)] 9)
  have BB1:=hid (BB.out.grown AX (by simp))
  have BW1:=hid (BW.out.grown AX (by simp))
  have G2:=hid (grown_trans G.out AX)
  have hXW:V.heap.size≠Wn:=by have:=BW.out.lt; omega
  have hXB:V.heap.size≠Bb:=by have:=BB.out.lt; omega
  have z0:(V.alloc (.cells #[.string (bs s0)] 9)).cell? ⟨Wn,0,none⟩=some (.int .i64 0):=BW1.out.cell 0
  have z1:(V.alloc (.cells #[.string (bs s0)] 9)).cell? ⟨Wn,1,none⟩=some (.int .i64 0):=BW1.out.cell 1
  have z2:(V.alloc (.cells #[.string (bs s0)] 9)).cell? ⟨Wn,2,none⟩=some (.string ⟨#[]⟩):=BW1.out.cell 2
  have f0:=BW1.out.free 0
  have f1:=BW1.out.free 1
  have f2:=BW1.out.free 2
  have BB2:=hid (flt_other BB1.out hBW (.int .i64 34) (.int .i64 0) (.string ⟨#[103]⟩))
  have BW2:=hid (flt_set BW1.out (.int .i64 34) (.int .i64 0) (.string ⟨#[103]⟩))
  have GU:=hid (sets3_grown G2.out Wn hWw (.int .i64 34) (.int .i64 0) (.string ⟨#[103]⟩))
  have BX2:=hid (flt_other BX.out hXW (.int .i64 34) (.int .i64 0) (.string ⟨#[103]⟩))
  have q0:((((V.alloc (.cells #[.string (bs s0)] 9)).setCell ⟨Wn,0,none⟩ (.int .i64 34)).setCell ⟨Wn,1,none⟩ (.int .i64 0)).setCell ⟨Wn,2,none⟩ (.string ⟨#[103]⟩)).cell? ⟨Bb,0,none⟩=some (.int .i64 4096):=BB2.out.cell 0
  have q1:((((V.alloc (.cells #[.string (bs s0)] 9)).setCell ⟨Wn,0,none⟩ (.int .i64 34)).setCell ⟨Wn,1,none⟩ (.int .i64 0)).setCell ⟨Wn,2,none⟩ (.string ⟨#[103]⟩)).cell? ⟨Bb,1,none⟩=some (.int .i64 65536):=BB2.out.cell 1
  have q2:((((V.alloc (.cells #[.string (bs s0)] 9)).setCell ⟨Wn,0,none⟩ (.int .i64 34)).setCell ⟨Wn,1,none⟩ (.int .i64 0)).setCell ⟨Wn,2,none⟩ (.string ⟨#[103]⟩)).cell? ⟨Bb,2,none⟩=some (.int .i64 131072):=BB2.out.cell 2
  go_wp2_with fail
  refine (kLink_any 4096 65536 131072 (some ⟨V.heap.size,0,none⟩) 1 [s0] _ (strs_blk [s0] BX2.out) (by intro f hf; simp at hf; have:=K0.out.2; subst hf; omega) (HT.out.grown GU.out) (by simp)).mono ?_
  rintro e V6 ⟨hret,h6⟩
  obtain rfl:=bk_link (xs:=[(false,[bkO 0])]) hret base_near (by simp) (by simp) ⟨K0.out.1,trivial⟩ rfl bk0
  have A7:=World.grownBy_alloc V6 (.cells #[.int .i64 34,.int .i64 0,.string ⟨#[103]⟩] 45) none
  have BW7:=hid (BW2.out.grown (grown_trans h6 A7) (by simp))
  have G7:=hid (grown_trans (grown_trans GU.out h6) A7)
  clear hret h6 A7 q0 q1 q2
  unfold lfA
  dsimp only
  rw [e1,e2]
  have y0:(V6.alloc (.cells #[.int .i64 34,.int .i64 0,.string ⟨#[103]⟩] 45)).cell? ⟨Wn,0,none⟩=some (.int .i64 34):=BW7.out.cell 0
  have y1:(V6.alloc (.cells #[.int .i64 34,.int .i64 0,.string ⟨#[103]⟩] 45)).cell? ⟨Wn,1,none⟩=some (.int .i64 0):=BW7.out.cell 1
  have y2:(V6.alloc (.cells #[.int .i64 34,.int .i64 0,.string ⟨#[103]⟩] 45)).cell? ⟨Wn,2,none⟩=some (.string ⟨#[103]⟩):=BW7.out.cell 2
  go_wp2
  go_ret
  exact ⟨rfl,G7.out⟩
 ·clear hi
  have AX:=grown_drew (World.grownBy_alloc V (.cells #[.string (bs s0),.string (bs s1),.string (bs s5)] 9) none)
  have BX:=hid (blk_drew (BlkAt.new V #[.string (bs s0),.string (bs s1),.string (bs s5)] 9))
  have BB1:=hid (BB.out.grown AX (by simp))
  have BW1:=hid (BW.out.grown AX (by simp))
  have G2:=hid (grown_trans G.out AX)
  have hXW:V.heap.size≠Wn:=by have:=BW.out.lt; omega
  have hXB:V.heap.size≠Bb:=by have:=BB.out.lt; omega
  go_wp2
  go_region_held3 (fun w'=>w'.cell? ⟨sg,off,none⟩=some (.string (bs s0))∧w'.cell? ⟨sg,off+1,none⟩=some (.string (bs s1))∧w'.cell? ⟨sg,off+5,none⟩=some (.string (bs s5)))
   (go_keep)
   (fail)
  clear AX c0 c1 c2 c3 c4 c5 c6 c7 c8 b0 b1 b2
  generalize (V.alloc (.cells #[.string (bs s0),.string (bs s1),.string (bs s5)] 9)).drew=U at *
  generalize V.heap.size=X at *
  have z0:U.cell? ⟨Wn,0,none⟩=some (.int .i64 0):=BW1.out.cell 0
  have z1:U.cell? ⟨Wn,1,none⟩=some (.int .i64 0):=BW1.out.cell 1
  have z2:U.cell? ⟨Wn,2,none⟩=some (.string ⟨#[]⟩):=BW1.out.cell 2
  have f0:=BW1.out.free 0
  have f1:=BW1.out.free 1
  have f2:=BW1.out.free 2
  have BB2:=hid (flt_other BB1.out hBW (.int .i64 33) (.int .i64 2) (.string ⟨#[103]⟩))
  have BW2:=hid (flt_set BW1.out (.int .i64 33) (.int .i64 2) (.string ⟨#[103]⟩))
  have GU:=hid (sets3_grown G2.out Wn hWw (.int .i64 33) (.int .i64 2) (.string ⟨#[103]⟩))
  have BX2:=hid (flt_other BX.out hXW (.int .i64 33) (.int .i64 2) (.string ⟨#[103]⟩))
  have q0:(((U.setCell ⟨Wn,0,none⟩ (.int .i64 33)).setCell ⟨Wn,1,none⟩ (.int .i64 2)).setCell ⟨Wn,2,none⟩ (.string ⟨#[103]⟩)).cell? ⟨Bb,0,none⟩=some (.int .i64 4096):=BB2.out.cell 0
  have q1:(((U.setCell ⟨Wn,0,none⟩ (.int .i64 33)).setCell ⟨Wn,1,none⟩ (.int .i64 2)).setCell ⟨Wn,2,none⟩ (.string ⟨#[103]⟩)).cell? ⟨Bb,1,none⟩=some (.int .i64 65536):=BB2.out.cell 1
  have q2:(((U.setCell ⟨Wn,0,none⟩ (.int .i64 33)).setCell ⟨Wn,1,none⟩ (.int .i64 2)).setCell ⟨Wn,2,none⟩ (.string ⟨#[103]⟩)).cell? ⟨Bb,2,none⟩=some (.int .i64 131072):=BB2.out.cell 2
  go_wp2_with fail
  refine (kLink_any 4096 65536 131072 (some ⟨X,0,none⟩) 3 [s0,s1,s5] _ (strs_blk [s0,s1,s5] BX2.out) (by intro f hf; simp at hf; have:=K0.out.2; have:=K1.out.2; have:=K5.out.2; rcases hf with rfl | rfl | rfl <;> first | omega | simp) (HT.out.grown GU.out) (by simp)).mono ?_
  rintro e V6 ⟨hret,h6⟩
  obtain rfl:=bk_link (xs:=[(false,[bkO 0]),(false,[bkO 1]),(false,[bkO 5])]) hret base_near (by simp) (by simp) ⟨K0.out.1,K1.out.1,K5.out.1,trivial⟩ rfl bk1
  have A7:=World.grownBy_alloc V6 (.cells #[.int .i64 33,.int .i64 2,.string ⟨#[103]⟩] 45) none
  have BW7:=hid (BW2.out.grown (grown_trans h6 A7) (by simp))
  have G7:=hid (grown_trans (grown_trans GU.out h6) A7)
  clear hret h6 A7 q0 q1 q2
  unfold lfA
  dsimp only
  rw [e1,e2]
  have y0:(V6.alloc (.cells #[.int .i64 33,.int .i64 2,.string ⟨#[103]⟩] 45)).cell? ⟨Wn,0,none⟩=some (.int .i64 33):=BW7.out.cell 0
  have y1:(V6.alloc (.cells #[.int .i64 33,.int .i64 2,.string ⟨#[103]⟩] 45)).cell? ⟨Wn,1,none⟩=some (.int .i64 2):=BW7.out.cell 1
  have y2:(V6.alloc (.cells #[.int .i64 33,.int .i64 2,.string ⟨#[103]⟩] 45)).cell? ⟨Wn,2,none⟩=some (.string ⟨#[103]⟩):=BW7.out.cell 2
  go_wp2
  go_ret
  exact ⟨rfl,G7.out⟩
 ·clear hi
  have AX:=grown_drew (World.grownBy_alloc V (.cells #[.string (bs s2),.string (bs s1)] 9) none)
  have BX:=hid (blk_drew (BlkAt.new V #[.string (bs s2),.string (bs s1)] 9))
  have BB1:=hid (BB.out.grown AX (by simp))
  have BW1:=hid (BW.out.grown AX (by simp))
  have G2:=hid (grown_trans G.out AX)
  have hXW:V.heap.size≠Wn:=by have:=BW.out.lt; omega
  have hXB:V.heap.size≠Bb:=by have:=BB.out.lt; omega
  go_wp2
  go_region_held3 (fun w'=>w'.cell? ⟨sg,off+2,none⟩=some (.string (bs s2))∧w'.cell? ⟨sg,off+1,none⟩=some (.string (bs s1)))
   (go_keep)
   (fail)
  clear AX c0 c1 c2 c3 c4 c5 c6 c7 c8 b0 b1 b2
  generalize (V.alloc (.cells #[.string (bs s2),.string (bs s1)] 9)).drew=U at *
  generalize V.heap.size=X at *
  have z0:U.cell? ⟨Wn,0,none⟩=some (.int .i64 0):=BW1.out.cell 0
  have z1:U.cell? ⟨Wn,1,none⟩=some (.int .i64 0):=BW1.out.cell 1
  have z2:U.cell? ⟨Wn,2,none⟩=some (.string ⟨#[]⟩):=BW1.out.cell 2
  have f0:=BW1.out.free 0
  have f1:=BW1.out.free 1
  have f2:=BW1.out.free 2
  have BB2:=hid (flt_other BB1.out hBW (.int .i64 35) (.int .i64 0) (.string ⟨#[]⟩))
  have BW2:=hid (flt_set BW1.out (.int .i64 35) (.int .i64 0) (.string ⟨#[]⟩))
  have GU:=hid (sets3_grown G2.out Wn hWw (.int .i64 35) (.int .i64 0) (.string ⟨#[]⟩))
  have BX2:=hid (flt_other BX.out hXW (.int .i64 35) (.int .i64 0) (.string ⟨#[]⟩))
  have q0:(((U.setCell ⟨Wn,0,none⟩ (.int .i64 35)).setCell ⟨Wn,1,none⟩ (.int .i64 0)).setCell ⟨Wn,2,none⟩ (.string ⟨#[]⟩)).cell? ⟨Bb,0,none⟩=some (.int .i64 4096):=BB2.out.cell 0
  have q1:(((U.setCell ⟨Wn,0,none⟩ (.int .i64 35)).setCell ⟨Wn,1,none⟩ (.int .i64 0)).setCell ⟨Wn,2,none⟩ (.string ⟨#[]⟩)).cell? ⟨Bb,1,none⟩=some (.int .i64 65536):=BB2.out.cell 1
  have q2:(((U.setCell ⟨Wn,0,none⟩ (.int .i64 35)).setCell ⟨Wn,1,none⟩ (.int .i64 0)).setCell ⟨Wn,2,none⟩ (.string ⟨#[]⟩)).cell? ⟨Bb,2,none⟩=some (.int .i64 131072):=BB2.out.cell 2
  go_wp2_with fail
  refine (kLink_any 4096 65536 131072 (some ⟨X,0,none⟩) 2 [s2,s1] _ (strs_blk [s2,s1] BX2.out) (by intro f hf; simp at hf; have:=K2.out.2; have:=K1.out.2; rcases hf with rfl | rfl <;> first | omega | simp) (HT.out.grown GU.out) (by simp)).mono ?_
  rintro e V6 ⟨hret,h6⟩
  obtain rfl:=bk_link (xs:=[(false,[bkO 2]),(false,[bkO 1])]) hret base_near (by simp) (by simp) ⟨K2.out.1,K1.out.1,trivial⟩ rfl bk2
  have A7:=World.grownBy_alloc V6 (.cells #[.int .i64 35,.int .i64 0,.string ⟨#[]⟩] 45) none
  have BW7:=hid (BW2.out.grown (grown_trans h6 A7) (by simp))
  have G7:=hid (grown_trans (grown_trans GU.out h6) A7)
  clear hret h6 A7 q0 q1 q2
  unfold lfA
  dsimp only
  rw [e2]
  have y0:(V6.alloc (.cells #[.int .i64 35,.int .i64 0,.string ⟨#[]⟩] 45)).cell? ⟨Wn,0,none⟩=some (.int .i64 35):=BW7.out.cell 0
  have y1:(V6.alloc (.cells #[.int .i64 35,.int .i64 0,.string ⟨#[]⟩] 45)).cell? ⟨Wn,1,none⟩=some (.int .i64 0):=BW7.out.cell 1
  have y2:(V6.alloc (.cells #[.int .i64 35,.int .i64 0,.string ⟨#[]⟩] 45)).cell? ⟨Wn,2,none⟩=some (.string ⟨#[]⟩):=BW7.out.cell 2
  go_wp2
  go_ret
  exact ⟨rfl,G7.out⟩
 ·clear hi
  have AX:=grown_drew (World.grownBy_alloc V (.cells #[.string (bs s3),.string (bs s1)] 9) none)
  have BX:=hid (blk_drew (BlkAt.new V #[.string (bs s3),.string (bs s1)] 9))
  have BB1:=hid (BB.out.grown AX (by simp))
  have BW1:=hid (BW.out.grown AX (by simp))
  have G2:=hid (grown_trans G.out AX)
  have hXW:V.heap.size≠Wn:=by have:=BW.out.lt; omega
  have hXB:V.heap.size≠Bb:=by have:=BB.out.lt; omega
  go_wp2
  go_region_held3 (fun w'=>w'.cell? ⟨sg,off+3,none⟩=some (.string (bs s3))∧w'.cell? ⟨sg,off+1,none⟩=some (.string (bs s1)))
   (go_keep)
   (fail)
  clear AX c0 c1 c2 c3 c4 c5 c6 c7 c8 b0 b1 b2
  generalize (V.alloc (.cells #[.string (bs s3),.string (bs s1)] 9)).drew=U at *
  generalize V.heap.size=X at *
  have z0:U.cell? ⟨Wn,0,none⟩=some (.int .i64 0):=BW1.out.cell 0
  have z1:U.cell? ⟨Wn,1,none⟩=some (.int .i64 0):=BW1.out.cell 1
  have z2:U.cell? ⟨Wn,2,none⟩=some (.string ⟨#[]⟩):=BW1.out.cell 2
  have f0:=BW1.out.free 0
  have f1:=BW1.out.free 1
  have f2:=BW1.out.free 2
  have BB2:=hid (flt_other BB1.out hBW (.int .i64 37) (.int .i64 0) (.string ⟨#[103]⟩))
  have BW2:=hid (flt_set BW1.out (.int .i64 37) (.int .i64 0) (.string ⟨#[103]⟩))
  have GU:=hid (sets3_grown G2.out Wn hWw (.int .i64 37) (.int .i64 0) (.string ⟨#[103]⟩))
  have BX2:=hid (flt_other BX.out hXW (.int .i64 37) (.int .i64 0) (.string ⟨#[103]⟩))
  have q0:(((U.setCell ⟨Wn,0,none⟩ (.int .i64 37)).setCell ⟨Wn,1,none⟩ (.int .i64 0)).setCell ⟨Wn,2,none⟩ (.string ⟨#[103]⟩)).cell? ⟨Bb,0,none⟩=some (.int .i64 4096):=BB2.out.cell 0
  have q1:(((U.setCell ⟨Wn,0,none⟩ (.int .i64 37)).setCell ⟨Wn,1,none⟩ (.int .i64 0)).setCell ⟨Wn,2,none⟩ (.string ⟨#[103]⟩)).cell? ⟨Bb,1,none⟩=some (.int .i64 65536):=BB2.out.cell 1
  have q2:(((U.setCell ⟨Wn,0,none⟩ (.int .i64 37)).setCell ⟨Wn,1,none⟩ (.int .i64 0)).setCell ⟨Wn,2,none⟩ (.string ⟨#[103]⟩)).cell? ⟨Bb,2,none⟩=some (.int .i64 131072):=BB2.out.cell 2
  go_wp2_with fail
  refine (kLink_any 4096 65536 131072 (some ⟨X,0,none⟩) 2 [s3,s1] _ (strs_blk [s3,s1] BX2.out) (by intro f hf; simp at hf; have:=K3.out.2; have:=K1.out.2; rcases hf with rfl | rfl <;> first | omega | simp) (HT.out.grown GU.out) (by simp)).mono ?_
  rintro e V6 ⟨hret,h6⟩
  obtain rfl:=bk_link (xs:=[(false,[bkO 3]),(false,[bkO 1])]) hret base_near (by simp) (by simp) ⟨K3.out.1,K1.out.1,trivial⟩ rfl bk3
  have A7:=World.grownBy_alloc V6 (.cells #[.int .i64 37,.int .i64 0,.string ⟨#[103]⟩] 45) none
  have BW7:=hid (BW2.out.grown (grown_trans h6 A7) (by simp))
  have G7:=hid (grown_trans (grown_trans GU.out h6) A7)
  clear hret h6 A7 q0 q1 q2
  unfold lfA
  dsimp only
  rw [e1,e2]
  have y0:(V6.alloc (.cells #[.int .i64 37,.int .i64 0,.string ⟨#[103]⟩] 45)).cell? ⟨Wn,0,none⟩=some (.int .i64 37):=BW7.out.cell 0
  have y1:(V6.alloc (.cells #[.int .i64 37,.int .i64 0,.string ⟨#[103]⟩] 45)).cell? ⟨Wn,1,none⟩=some (.int .i64 0):=BW7.out.cell 1
  have y2:(V6.alloc (.cells #[.int .i64 37,.int .i64 0,.string ⟨#[103]⟩] 45)).cell? ⟨Wn,2,none⟩=some (.string ⟨#[103]⟩):=BW7.out.cell 2
  go_wp2
  go_ret
  exact ⟨rfl,G7.out⟩
 ·clear hi
  have AX:=grown_drew (World.grownBy_alloc V (.cells #[.string (bs s4),.string (bs s5)] 9) none)
  have BX:=hid (blk_drew (BlkAt.new V #[.string (bs s4),.string (bs s5)] 9))
  have BB1:=hid (BB.out.grown AX (by simp))
  have BW1:=hid (BW.out.grown AX (by simp))
  have G2:=hid (grown_trans G.out AX)
  have hXW:V.heap.size≠Wn:=by have:=BW.out.lt; omega
  have hXB:V.heap.size≠Bb:=by have:=BB.out.lt; omega
  go_wp2
  go_region_held3 (fun w'=>w'.cell? ⟨sg,off+4,none⟩=some (.string (bs s4))∧w'.cell? ⟨sg,off+5,none⟩=some (.string (bs s5)))
   (go_keep)
   (fail)
  clear AX c0 c1 c2 c3 c4 c5 c6 c7 c8 b0 b1 b2
  generalize (V.alloc (.cells #[.string (bs s4),.string (bs s5)] 9)).drew=U at *
  generalize V.heap.size=X at *
  go_wp2_with fail
  refine (cA.out _).mono ?_
  rintro e V5 ⟨rfl,h5⟩
  have BX':=hid (BX.out.grown h5 (by simp))
  have BW':=hid (BW1.out.grown h5 (by simp))
  have BB':=hid (BB1.out.grown h5 (by simp))
  have G5:=grown_trans G2.out h5
  have p0:V5.cell? ⟨Bb,0,none⟩=some (.int .i64 4096):=BB'.out.cell 0
  have p1:V5.cell? ⟨Bb,1,none⟩=some (.int .i64 65536):=BB'.out.cell 1
  have p2:V5.cell? ⟨Bb,2,none⟩=some (.int .i64 131072):=BB'.out.cell 2
  have p3:=BB'.out.free 0
  have p4:=BB'.out.free 1
  have p5:=BB'.out.free 2
  have gb:=World.grownBy.trans (World.grownBy.trans (grown_set V5 Bb 0 (.int .i64 16777216)) (grown_set _ Bb 1 (.int .i64 67108864))) (grown_set _ Bb 2 (.int .i64 1048576))
  have G2':=hid (grown_hi G5 gb (by intro k e; simp at e; omega))
  have BX2:=hid (BX'.out.grown gb (by simp; omega))
  have BW2:=hid (BW'.out.grown gb (by simp; omega))
  have BB2:=hid (show BlkAt (((V5.setCell ⟨Bb,0,none⟩ (.int .i64 16777216)).setCell ⟨Bb,1,none⟩ (.int .i64 67108864)).setCell ⟨Bb,2,none⟩ (.int .i64 1048576)) Bb #[.int .i64 16777216,.int .i64 67108864,.int .i64 1048576] 35 by simpa using ((BB'.out.set 0 (.int .i64 16777216)).set 1 (.int .i64 67108864)).set 2 (.int .i64 1048576))
  clear BX BW1 BB1 G2 gb BX' BW' BB' h5 G5
  have BX:=BX2
  have BW1:=BW2
  have BB1:=BB2
  have G2:=G2'
  clear BX2 BW2 BB2 G2'
  have z0:(((V5.setCell ⟨Bb,0,none⟩ (.int .i64 16777216)).setCell ⟨Bb,1,none⟩ (.int .i64 67108864)).setCell ⟨Bb,2,none⟩ (.int .i64 1048576)).cell? ⟨Wn,0,none⟩=some (.int .i64 0):=BW1.out.cell 0
  have z1:(((V5.setCell ⟨Bb,0,none⟩ (.int .i64 16777216)).setCell ⟨Bb,1,none⟩ (.int .i64 67108864)).setCell ⟨Bb,2,none⟩ (.int .i64 1048576)).cell? ⟨Wn,1,none⟩=some (.int .i64 0):=BW1.out.cell 1
  have z2:(((V5.setCell ⟨Bb,0,none⟩ (.int .i64 16777216)).setCell ⟨Bb,1,none⟩ (.int .i64 67108864)).setCell ⟨Bb,2,none⟩ (.int .i64 1048576)).cell? ⟨Wn,2,none⟩=some (.string ⟨#[]⟩):=BW1.out.cell 2
  have f0:=BW1.out.free 0
  have f1:=BW1.out.free 1
  have f2:=BW1.out.free 2
  have BB2:=hid (flt_other BB1.out hBW (.int .i64 37) (.int .i64 0) (.string ⟨#[103]⟩))
  have BW2:=hid (flt_set BW1.out (.int .i64 37) (.int .i64 0) (.string ⟨#[103]⟩))
  have GU:=hid (sets3_grown G2.out Wn hWw (.int .i64 37) (.int .i64 0) (.string ⟨#[103]⟩))
  have BX2:=hid (flt_other BX.out hXW (.int .i64 37) (.int .i64 0) (.string ⟨#[103]⟩))
  have q0:((((((V5.setCell ⟨Bb,0,none⟩ (.int .i64 16777216)).setCell ⟨Bb,1,none⟩ (.int .i64 67108864)).setCell ⟨Bb,2,none⟩ (.int .i64 1048576)).setCell ⟨Wn,0,none⟩ (.int .i64 37)).setCell ⟨Wn,1,none⟩ (.int .i64 0)).setCell ⟨Wn,2,none⟩ (.string ⟨#[103]⟩)).cell? ⟨Bb,0,none⟩=some (.int .i64 16777216):=BB2.out.cell 0
  have q1:((((((V5.setCell ⟨Bb,0,none⟩ (.int .i64 16777216)).setCell ⟨Bb,1,none⟩ (.int .i64 67108864)).setCell ⟨Bb,2,none⟩ (.int .i64 1048576)).setCell ⟨Wn,0,none⟩ (.int .i64 37)).setCell ⟨Wn,1,none⟩ (.int .i64 0)).setCell ⟨Wn,2,none⟩ (.string ⟨#[103]⟩)).cell? ⟨Bb,1,none⟩=some (.int .i64 67108864):=BB2.out.cell 1
  have q2:((((((V5.setCell ⟨Bb,0,none⟩ (.int .i64 16777216)).setCell ⟨Bb,1,none⟩ (.int .i64 67108864)).setCell ⟨Bb,2,none⟩ (.int .i64 1048576)).setCell ⟨Wn,0,none⟩ (.int .i64 37)).setCell ⟨Wn,1,none⟩ (.int .i64 0)).setCell ⟨Wn,2,none⟩ (.string ⟨#[103]⟩)).cell? ⟨Bb,2,none⟩=some (.int .i64 1048576):=BB2.out.cell 2
  go_wp2_with fail
  refine (kLink_any 16777216 67108864 1048576 (some ⟨X,0,none⟩) 2 [s4,s5] _ (strs_blk [s4,s5] BX2.out) (by intro f hf; simp at hf; have:=K4.out.2; have:=K5.out.2; rcases hf with rfl | rfl <;> first | omega | simp) (HT.out.grown GU.out) (by simp)).mono ?_
  rintro e V6 ⟨hret,h6⟩
  obtain rfl:=bk_link (xs:=[(false,[bkO 4]),(false,[bkO 5])]) hret base_away (by simp) (by simp) ⟨K4.out.1,K5.out.1,trivial⟩ rfl bk4
  have A7:=World.grownBy_alloc V6 (.cells #[.int .i64 37,.int .i64 0,.string ⟨#[103]⟩] 45) none
  have BW7:=hid (BW2.out.grown (grown_trans h6 A7) (by simp))
  have G7:=hid (grown_trans (grown_trans GU.out h6) A7)
  clear hret h6 A7 q0 q1 q2
  unfold lfA
  dsimp only
  rw [e1,e2]
  have y0:(V6.alloc (.cells #[.int .i64 37,.int .i64 0,.string ⟨#[103]⟩] 45)).cell? ⟨Wn,0,none⟩=some (.int .i64 37):=BW7.out.cell 0
  have y1:(V6.alloc (.cells #[.int .i64 37,.int .i64 0,.string ⟨#[103]⟩] 45)).cell? ⟨Wn,1,none⟩=some (.int .i64 0):=BW7.out.cell 1
  have y2:(V6.alloc (.cells #[.int .i64 37,.int .i64 0,.string ⟨#[103]⟩] 45)).cell? ⟨Wn,2,none⟩=some (.string ⟨#[103]⟩):=BW7.out.cell 2
  go_wp2
  go_ret
  exact ⟨rfl,G7.out⟩
 ·clear hi
  have AX:=grown_drew (World.grownBy_alloc V (.cells #[.string (bs s0),.string ⟨#[76,75]⟩,.string (bs s1)] 9) none)
  have BX:=hid (blk_drew (BlkAt.new V #[.string (bs s0),.string ⟨#[76,75]⟩,.string (bs s1)] 9))
  have BB1:=hid (BB.out.grown AX (by simp))
  have BW1:=hid (BW.out.grown AX (by simp))
  have G2:=hid (grown_trans G.out AX)
  have hXW:V.heap.size≠Wn:=by have:=BW.out.lt; omega
  have hXB:V.heap.size≠Bb:=by have:=BB.out.lt; omega
  go_wp2
  go_region_held3 (fun w'=>w'.cell? ⟨sg,off,none⟩=some (.string (bs s0))∧w'.cell? ⟨sg,off+1,none⟩=some (.string (bs s1)))
   (go_keep)
   (fail)
  clear AX c0 c1 c2 c3 c4 c5 c6 c7 c8 b0 b1 b2
  generalize (V.alloc (.cells #[.string (bs s0),.string ⟨#[76,75]⟩,.string (bs s1)] 9)).drew=U at *
  generalize V.heap.size=X at *
  have z0:U.cell? ⟨Wn,0,none⟩=some (.int .i64 0):=BW1.out.cell 0
  have z1:U.cell? ⟨Wn,1,none⟩=some (.int .i64 0):=BW1.out.cell 1
  have z2:U.cell? ⟨Wn,2,none⟩=some (.string ⟨#[]⟩):=BW1.out.cell 2
  have f0:=BW1.out.free 0
  have f1:=BW1.out.free 1
  have f2:=BW1.out.free 2
  have BB2:=hid (flt_other BB1.out hBW (.int .i64 32) (.int .i64 1) (.string ⟨#[]⟩))
  have BW2:=hid (flt_set BW1.out (.int .i64 32) (.int .i64 1) (.string ⟨#[]⟩))
  have GU:=hid (sets3_grown G2.out Wn hWw (.int .i64 32) (.int .i64 1) (.string ⟨#[]⟩))
  have BX2:=hid (flt_other BX.out hXW (.int .i64 32) (.int .i64 1) (.string ⟨#[]⟩))
  have q0:(((U.setCell ⟨Wn,0,none⟩ (.int .i64 32)).setCell ⟨Wn,1,none⟩ (.int .i64 1)).setCell ⟨Wn,2,none⟩ (.string ⟨#[]⟩)).cell? ⟨Bb,0,none⟩=some (.int .i64 4096):=BB2.out.cell 0
  have q1:(((U.setCell ⟨Wn,0,none⟩ (.int .i64 32)).setCell ⟨Wn,1,none⟩ (.int .i64 1)).setCell ⟨Wn,2,none⟩ (.string ⟨#[]⟩)).cell? ⟨Bb,1,none⟩=some (.int .i64 65536):=BB2.out.cell 1
  have q2:(((U.setCell ⟨Wn,0,none⟩ (.int .i64 32)).setCell ⟨Wn,1,none⟩ (.int .i64 1)).setCell ⟨Wn,2,none⟩ (.string ⟨#[]⟩)).cell? ⟨Bb,2,none⟩=some (.int .i64 131072):=BB2.out.cell 2
  go_wp2_with fail
  refine (kLink_any 4096 65536 131072 (some ⟨X,0,none⟩) 3 [s0,[76,75],s1] _ (strs_blk [s0,[76,75],s1] BX2.out) (by intro f hf; simp at hf; have:=K0.out.2; have:=K1.out.2; rcases hf with rfl | rfl | rfl <;> first | omega | simp) (HT.out.grown GU.out) (by simp)).mono ?_
  rintro e V6 ⟨hret,h6⟩
  obtain rfl:=bk_lk hret base_near K0.out.1 K1.out.1
  have A7:=World.grownBy_alloc V6 (.cells #[.int .i64 32,.int .i64 1,.string ⟨#[]⟩] 45) none
  have BW7:=hid (BW2.out.grown (grown_trans h6 A7) (by simp))
  have G7:=hid (grown_trans (grown_trans GU.out h6) A7)
  clear hret h6 A7 q0 q1 q2
  unfold lfA
  dsimp only
  rw [e2]
  have y0:(V6.alloc (.cells #[.int .i64 32,.int .i64 1,.string ⟨#[]⟩] 45)).cell? ⟨Wn,0,none⟩=some (.int .i64 32):=BW7.out.cell 0
  have y1:(V6.alloc (.cells #[.int .i64 32,.int .i64 1,.string ⟨#[]⟩] 45)).cell? ⟨Wn,1,none⟩=some (.int .i64 1):=BW7.out.cell 1
  have y2:(V6.alloc (.cells #[.int .i64 32,.int .i64 1,.string ⟨#[]⟩] 45)).cell? ⟨Wn,2,none⟩=some (.string ⟨#[]⟩):=BW7.out.cell 2
  go_wp2
  go_ret
  exact ⟨rfl,G7.out⟩
 ·clear hi
  have BB1:=hid BB.out
  have BW1:=hid BW.out
  have G2:=hid G.out
  have z0:V.cell? ⟨Wn,0,none⟩=some (.int .i64 0):=BW1.out.cell 0
  have z1:V.cell? ⟨Wn,1,none⟩=some (.int .i64 0):=BW1.out.cell 1
  have z2:V.cell? ⟨Wn,2,none⟩=some (.string ⟨#[]⟩):=BW1.out.cell 2
  have f0:=BW1.out.free 0
  have f1:=BW1.out.free 1
  have f2:=BW1.out.free 2
  have BB2:=hid (flt_other BB1.out hBW (.int .i64 31) (.int .i64 0) (.string ⟨#[]⟩))
  have BW2:=hid (flt_set BW1.out (.int .i64 31) (.int .i64 0) (.string ⟨#[]⟩))
  have GU:=hid (sets3_grown G2.out Wn hWw (.int .i64 31) (.int .i64 0) (.string ⟨#[]⟩))
  have q0:(((V.setCell ⟨Wn,0,none⟩ (.int .i64 31)).setCell ⟨Wn,1,none⟩ (.int .i64 0)).setCell ⟨Wn,2,none⟩ (.string ⟨#[]⟩)).cell? ⟨Bb,0,none⟩=some (.int .i64 4096):=BB2.out.cell 0
  have q1:(((V.setCell ⟨Wn,0,none⟩ (.int .i64 31)).setCell ⟨Wn,1,none⟩ (.int .i64 0)).setCell ⟨Wn,2,none⟩ (.string ⟨#[]⟩)).cell? ⟨Bb,1,none⟩=some (.int .i64 65536):=BB2.out.cell 1
  have q2:(((V.setCell ⟨Wn,0,none⟩ (.int .i64 31)).setCell ⟨Wn,1,none⟩ (.int .i64 0)).setCell ⟨Wn,2,none⟩ (.string ⟨#[]⟩)).cell? ⟨Bb,2,none⟩=some (.int .i64 131072):=BB2.out.cell 2
  go_wp2_with fail
  refine (kLink_any 4096 65536 131072 none 0 [] _ (fun h=>by simp at h) (fun f hf=>by simp at hf) (HT.out.grown GU.out) (by simp)).mono ?_
  rintro e V6 ⟨hret,h6⟩
  obtain rfl:=bk_none hret base_near
  have A7:=World.grownBy_alloc V6 (.cells #[.int .i64 31,.int .i64 0,.string ⟨#[]⟩] 45) none
  have BW7:=hid (BW2.out.grown (grown_trans h6 A7) (by simp))
  have G7:=hid (grown_trans (grown_trans GU.out h6) A7)
  clear hret h6 A7 q0 q1 q2
  unfold lfA
  dsimp only
  rw [e2]
  have y0:(V6.alloc (.cells #[.int .i64 31,.int .i64 0,.string ⟨#[]⟩] 45)).cell? ⟨Wn,0,none⟩=some (.int .i64 31):=BW7.out.cell 0
  have y1:(V6.alloc (.cells #[.int .i64 31,.int .i64 0,.string ⟨#[]⟩] 45)).cell? ⟨Wn,1,none⟩=some (.int .i64 0):=BW7.out.cell 1
  have y2:(V6.alloc (.cells #[.int .i64 31,.int .i64 0,.string ⟨#[]⟩] 45)).cell? ⟨Wn,2,none⟩=some (.string ⟨#[]⟩):=BW7.out.cell 2
  go_wp2
  go_ret
  exact ⟨rfl,G7.out⟩
 ·clear hi
  have AX:=grown_drew (World.grownBy_alloc V (.cells #[.string (bs s0),.string (bs s1)] 9) none)
  have BX:=hid (blk_drew (BlkAt.new V #[.string (bs s0),.string (bs s1)] 9))
  have BB1:=hid (BB.out.grown AX (by simp))
  have BW1:=hid (BW.out.grown AX (by simp))
  have G2:=hid (grown_trans G.out AX)
  have hXW:V.heap.size≠Wn:=by have:=BW.out.lt; omega
  have hXB:V.heap.size≠Bb:=by have:=BB.out.lt; omega
  go_wp2
  go_region_held3 (fun w'=>w'.cell? ⟨sg,off,none⟩=some (.string (bs s0))∧w'.cell? ⟨sg,off+1,none⟩=some (.string (bs s1)))
   (go_keep)
   (fail)
  clear AX c0 c1 c2 c3 c4 c5 c6 c7 c8 b0 b1 b2
  generalize (V.alloc (.cells #[.string (bs s0),.string (bs s1)] 9)).drew=U at *
  generalize V.heap.size=X at *
  have p0:U.cell? ⟨Bb,0,none⟩=some (.int .i64 4096):=BB1.out.cell 0
  have p1:U.cell? ⟨Bb,1,none⟩=some (.int .i64 65536):=BB1.out.cell 1
  have p2:U.frozen? ⟨Bb,1,none⟩=false:=BB1.out.free 1
  have gb:=grown_set U Bb 1 (.int .i64 4088)
  have BX':=hid (BX.out.grown gb (by simp; omega))
  have BW':=hid (BW1.out.grown gb (by simp; omega))
  have BB':=hid (show BlkAt (U.setCell ⟨Bb,1,none⟩ (.int .i64 4088)) Bb #[.int .i64 4096,.int .i64 4088,.int .i64 131072] 35 by simpa using BB1.out.set 1 (.int .i64 4088))
  have G2':=hid (grown_hi G2.out gb (by intro k e; simp at e; omega))
  clear BX BW1 BB1 G2 gb
  have BX:=BX'
  have BW1:=BW'
  have BB1:=BB'
  have G2:=G2'
  clear BX' BW' BB' G2'
  have z0:(U.setCell ⟨Bb,1,none⟩ (.int .i64 4088)).cell? ⟨Wn,0,none⟩=some (.int .i64 0):=BW1.out.cell 0
  have z1:(U.setCell ⟨Bb,1,none⟩ (.int .i64 4088)).cell? ⟨Wn,1,none⟩=some (.int .i64 0):=BW1.out.cell 1
  have z2:(U.setCell ⟨Bb,1,none⟩ (.int .i64 4088)).cell? ⟨Wn,2,none⟩=some (.string ⟨#[]⟩):=BW1.out.cell 2
  have f0:=BW1.out.free 0
  have f1:=BW1.out.free 1
  have f2:=BW1.out.free 2
  have BB2:=hid (flt_other BB1.out hBW (.int .i64 30) (.int .i64 1) (.string ⟨#[]⟩))
  have BW2:=hid (flt_set BW1.out (.int .i64 30) (.int .i64 1) (.string ⟨#[]⟩))
  have GU:=hid (sets3_grown G2.out Wn hWw (.int .i64 30) (.int .i64 1) (.string ⟨#[]⟩))
  have BX2:=hid (flt_other BX.out hXW (.int .i64 30) (.int .i64 1) (.string ⟨#[]⟩))
  have q0:((((U.setCell ⟨Bb,1,none⟩ (.int .i64 4088)).setCell ⟨Wn,0,none⟩ (.int .i64 30)).setCell ⟨Wn,1,none⟩ (.int .i64 1)).setCell ⟨Wn,2,none⟩ (.string ⟨#[]⟩)).cell? ⟨Bb,0,none⟩=some (.int .i64 4096):=BB2.out.cell 0
  have q1:((((U.setCell ⟨Bb,1,none⟩ (.int .i64 4088)).setCell ⟨Wn,0,none⟩ (.int .i64 30)).setCell ⟨Wn,1,none⟩ (.int .i64 1)).setCell ⟨Wn,2,none⟩ (.string ⟨#[]⟩)).cell? ⟨Bb,1,none⟩=some (.int .i64 4088):=BB2.out.cell 1
  have q2:((((U.setCell ⟨Bb,1,none⟩ (.int .i64 4088)).setCell ⟨Wn,0,none⟩ (.int .i64 30)).setCell ⟨Wn,1,none⟩ (.int .i64 1)).setCell ⟨Wn,2,none⟩ (.string ⟨#[]⟩)).cell? ⟨Bb,2,none⟩=some (.int .i64 131072):=BB2.out.cell 2
  go_wp2_with fail
  refine (kLink_any 4096 4088 131072 (some ⟨X,0,none⟩) 2 [s0,s1] _ (strs_blk [s0,s1] BX2.out) (by intro f hf; simp at hf; have:=K0.out.2; have:=K1.out.2; rcases hf with rfl | rfl <;> first | omega | simp) (HT.out.grown GU.out) (by simp)).mono ?_
  rintro e V6 ⟨hret,h6⟩
  obtain rfl:=bk_base hret
  have A7:=World.grownBy_alloc V6 (.cells #[.int .i64 30,.int .i64 1,.string ⟨#[]⟩] 45) none
  have BW7:=hid (BW2.out.grown (grown_trans h6 A7) (by simp))
  have G7:=hid (grown_trans (grown_trans GU.out h6) A7)
  clear hret h6 A7 q0 q1 q2
  unfold lfA
  dsimp only
  rw [e2]
  have y0:(V6.alloc (.cells #[.int .i64 30,.int .i64 1,.string ⟨#[]⟩] 45)).cell? ⟨Wn,0,none⟩=some (.int .i64 30):=BW7.out.cell 0
  have y1:(V6.alloc (.cells #[.int .i64 30,.int .i64 1,.string ⟨#[]⟩] 45)).cell? ⟨Wn,1,none⟩=some (.int .i64 1):=BW7.out.cell 1
  have y2:(V6.alloc (.cells #[.int .i64 30,.int .i64 1,.string ⟨#[]⟩] 45)).cell? ⟨Wn,2,none⟩=some (.string ⟨#[]⟩):=BW7.out.cell 2
  go_wp2
  go_ret
  exact ⟨rfl,G7.out⟩
 ·clear hi
  have AX:=grown_drew (World.grownBy_alloc V (.cells #[.string (bs s0),.string (bs s5)] 9) none)
  have BX:=hid (blk_drew (BlkAt.new V #[.string (bs s0),.string (bs s5)] 9))
  have BB1:=hid (BB.out.grown AX (by simp))
  have BW1:=hid (BW.out.grown AX (by simp))
  have G2:=hid (grown_trans G.out AX)
  have hXW:V.heap.size≠Wn:=by have:=BW.out.lt; omega
  have hXB:V.heap.size≠Bb:=by have:=BB.out.lt; omega
  go_wp2
  go_region_held3 (fun w'=>w'.cell? ⟨sg,off,none⟩=some (.string (bs s0))∧w'.cell? ⟨sg,off+5,none⟩=some (.string (bs s5)))
   (go_keep)
   (fail)
  clear AX c0 c1 c2 c3 c4 c5 c6 c7 c8 b0 b1 b2
  generalize (V.alloc (.cells #[.string (bs s0),.string (bs s5)] 9)).drew=U at *
  generalize V.heap.size=X at *
  have p0:U.cell? ⟨Bb,0,none⟩=some (.int .i64 4096):=BB1.out.cell 0
  have p1:U.cell? ⟨Bb,1,none⟩=some (.int .i64 65536):=BB1.out.cell 1
  have p2:U.frozen? ⟨Bb,1,none⟩=false:=BB1.out.free 1
  have gb:=grown_set U Bb 1 (.int .i64 4096)
  have BX':=hid (BX.out.grown gb (by simp; omega))
  have BW':=hid (BW1.out.grown gb (by simp; omega))
  have BB':=hid (show BlkAt (U.setCell ⟨Bb,1,none⟩ (.int .i64 4096)) Bb #[.int .i64 4096,.int .i64 4096,.int .i64 131072] 35 by simpa using BB1.out.set 1 (.int .i64 4096))
  have G2':=hid (grown_hi G2.out gb (by intro k e; simp at e; omega))
  clear BX BW1 BB1 G2 gb
  have BX:=BX'
  have BW1:=BW'
  have BB1:=BB'
  have G2:=G2'
  clear BX' BW' BB' G2'
  have z0:(U.setCell ⟨Bb,1,none⟩ (.int .i64 4096)).cell? ⟨Wn,0,none⟩=some (.int .i64 0):=BW1.out.cell 0
  have z1:(U.setCell ⟨Bb,1,none⟩ (.int .i64 4096)).cell? ⟨Wn,1,none⟩=some (.int .i64 0):=BW1.out.cell 1
  have z2:(U.setCell ⟨Bb,1,none⟩ (.int .i64 4096)).cell? ⟨Wn,2,none⟩=some (.string ⟨#[]⟩):=BW1.out.cell 2
  have f0:=BW1.out.free 0
  have f1:=BW1.out.free 1
  have f2:=BW1.out.free 2
  have BB2:=hid (flt_other BB1.out hBW (.int .i64 36) (.int .i64 0) (.string ⟨#[]⟩))
  have BW2:=hid (flt_set BW1.out (.int .i64 36) (.int .i64 0) (.string ⟨#[]⟩))
  have GU:=hid (sets3_grown G2.out Wn hWw (.int .i64 36) (.int .i64 0) (.string ⟨#[]⟩))
  have BX2:=hid (flt_other BX.out hXW (.int .i64 36) (.int .i64 0) (.string ⟨#[]⟩))
  have q0:((((U.setCell ⟨Bb,1,none⟩ (.int .i64 4096)).setCell ⟨Wn,0,none⟩ (.int .i64 36)).setCell ⟨Wn,1,none⟩ (.int .i64 0)).setCell ⟨Wn,2,none⟩ (.string ⟨#[]⟩)).cell? ⟨Bb,0,none⟩=some (.int .i64 4096):=BB2.out.cell 0
  have q1:((((U.setCell ⟨Bb,1,none⟩ (.int .i64 4096)).setCell ⟨Wn,0,none⟩ (.int .i64 36)).setCell ⟨Wn,1,none⟩ (.int .i64 0)).setCell ⟨Wn,2,none⟩ (.string ⟨#[]⟩)).cell? ⟨Bb,1,none⟩=some (.int .i64 4096):=BB2.out.cell 1
  have q2:((((U.setCell ⟨Bb,1,none⟩ (.int .i64 4096)).setCell ⟨Wn,0,none⟩ (.int .i64 36)).setCell ⟨Wn,1,none⟩ (.int .i64 0)).setCell ⟨Wn,2,none⟩ (.string ⟨#[]⟩)).cell? ⟨Bb,2,none⟩=some (.int .i64 131072):=BB2.out.cell 2
  go_wp2_with fail
  refine (kLink_any 4096 4096 131072 (some ⟨X,0,none⟩) 2 [s0,s5] _ (strs_blk [s0,s5] BX2.out) (by intro f hf; simp at hf; have:=K0.out.2; have:=K5.out.2; rcases hf with rfl | rfl <;> first | omega | simp) (HT.out.grown GU.out) (by simp)).mono ?_
  rintro e V6 ⟨hret,h6⟩
  obtain rfl:=bk_link (xs:=[(false,[bkO 0]),(false,[bkO 5])]) hret ⟨base_near.1,base_near.1,base_near.2.2⟩ (by simp) (by simp) ⟨K0.out.1,K5.out.1,trivial⟩ rfl bk8
  have A7:=World.grownBy_alloc V6 (.cells #[.int .i64 36,.int .i64 0,.string ⟨#[]⟩] 45) none
  have BW7:=hid (BW2.out.grown (grown_trans h6 A7) (by simp))
  have G7:=hid (grown_trans (grown_trans GU.out h6) A7)
  clear hret h6 A7 q0 q1 q2
  unfold lfA
  dsimp only
  rw [e2]
  have y0:(V6.alloc (.cells #[.int .i64 36,.int .i64 0,.string ⟨#[]⟩] 45)).cell? ⟨Wn,0,none⟩=some (.int .i64 36):=BW7.out.cell 0
  have y1:(V6.alloc (.cells #[.int .i64 36,.int .i64 0,.string ⟨#[]⟩] 45)).cell? ⟨Wn,1,none⟩=some (.int .i64 0):=BW7.out.cell 1
  have y2:(V6.alloc (.cells #[.int .i64 36,.int .i64 0,.string ⟨#[]⟩] 45)).cell? ⟨Wn,2,none⟩=some (.string ⟨#[]⟩):=BW7.out.cell 2
  go_wp2
  go_ret
  exact ⟨rfl,G7.out⟩
 ·clear hi
  have AX:=World.grownBy_alloc V (.cells #[.string (bs s6)] 9) none
  have BX:=hid (BlkAt.new V #[.string (bs s6)] 9)
  have BB1:=hid (BB.out.grown AX (by simp))
  have BW1:=hid (BW.out.grown AX (by simp))
  have G2:=hid (grown_trans G.out AX)
  have hXW:V.heap.size≠Wn:=by have:=BW.out.lt; omega
  have hXB:V.heap.size≠Bb:=by have:=BB.out.lt; omega
  have z0:(V.alloc (.cells #[.string (bs s6)] 9)).cell? ⟨Wn,0,none⟩=some (.int .i64 0):=BW1.out.cell 0
  have z1:(V.alloc (.cells #[.string (bs s6)] 9)).cell? ⟨Wn,1,none⟩=some (.int .i64 0):=BW1.out.cell 1
  have z2:(V.alloc (.cells #[.string (bs s6)] 9)).cell? ⟨Wn,2,none⟩=some (.string ⟨#[]⟩):=BW1.out.cell 2
  have f0:=BW1.out.free 0
  have f1:=BW1.out.free 1
  have f2:=BW1.out.free 2
  have BB2:=hid (flt_other BB1.out hBW (.int .i64 35) (.int .i64 0) (.string ⟨#[]⟩))
  have BW2:=hid (flt_set BW1.out (.int .i64 35) (.int .i64 0) (.string ⟨#[]⟩))
  have GU:=hid (sets3_grown G2.out Wn hWw (.int .i64 35) (.int .i64 0) (.string ⟨#[]⟩))
  have BX2:=hid (flt_other BX.out hXW (.int .i64 35) (.int .i64 0) (.string ⟨#[]⟩))
  have q0:((((V.alloc (.cells #[.string (bs s6)] 9)).setCell ⟨Wn,0,none⟩ (.int .i64 35)).setCell ⟨Wn,1,none⟩ (.int .i64 0)).setCell ⟨Wn,2,none⟩ (.string ⟨#[]⟩)).cell? ⟨Bb,0,none⟩=some (.int .i64 4096):=BB2.out.cell 0
  have q1:((((V.alloc (.cells #[.string (bs s6)] 9)).setCell ⟨Wn,0,none⟩ (.int .i64 35)).setCell ⟨Wn,1,none⟩ (.int .i64 0)).setCell ⟨Wn,2,none⟩ (.string ⟨#[]⟩)).cell? ⟨Bb,1,none⟩=some (.int .i64 65536):=BB2.out.cell 1
  have q2:((((V.alloc (.cells #[.string (bs s6)] 9)).setCell ⟨Wn,0,none⟩ (.int .i64 35)).setCell ⟨Wn,1,none⟩ (.int .i64 0)).setCell ⟨Wn,2,none⟩ (.string ⟨#[]⟩)).cell? ⟨Bb,2,none⟩=some (.int .i64 131072):=BB2.out.cell 2
  go_wp2_with fail
  refine (kLink_any 4096 65536 131072 (some ⟨V.heap.size,0,none⟩) 1 [s6] _ (strs_blk [s6] BX2.out) (by intro f hf; simp at hf; have:=K6.out.2; subst hf; omega) (HT.out.grown GU.out) (by simp)).mono ?_
  rintro e V6 ⟨hret,h6⟩
  obtain rfl:=bk_link (xs:=[(false,[bkO 6])]) hret base_near (by simp) (by simp) ⟨K6.out.1,trivial⟩ rfl bk9
  have A7:=World.grownBy_alloc V6 (.cells #[.int .i64 35,.int .i64 0,.string ⟨#[]⟩] 45) none
  have BW7:=hid (BW2.out.grown (grown_trans h6 A7) (by simp))
  have G7:=hid (grown_trans (grown_trans GU.out h6) A7)
  clear hret h6 A7 q0 q1 q2
  unfold lfA
  dsimp only
  rw [e2]
  have y0:(V6.alloc (.cells #[.int .i64 35,.int .i64 0,.string ⟨#[]⟩] 45)).cell? ⟨Wn,0,none⟩=some (.int .i64 35):=BW7.out.cell 0
  have y1:(V6.alloc (.cells #[.int .i64 35,.int .i64 0,.string ⟨#[]⟩] 45)).cell? ⟨Wn,1,none⟩=some (.int .i64 0):=BW7.out.cell 1
  have y2:(V6.alloc (.cells #[.int .i64 35,.int .i64 0,.string ⟨#[]⟩] 45)).cell? ⟨Wn,2,none⟩=some (.string ⟨#[]⟩):=BW7.out.cell 2
  go_wp2
  go_ret
  exact ⟨rfl,G7.out⟩
 ·clear hi
  have AX:=World.grownBy_alloc V (.cells #[.string (bs s7)] 9) none
  have BX:=hid (BlkAt.new V #[.string (bs s7)] 9)
  have BB1:=hid (BB.out.grown AX (by simp))
  have BW1:=hid (BW.out.grown AX (by simp))
  have G2:=hid (grown_trans G.out AX)
  have hXW:V.heap.size≠Wn:=by have:=BW.out.lt; omega
  have hXB:V.heap.size≠Bb:=by have:=BB.out.lt; omega
  have z0:(V.alloc (.cells #[.string (bs s7)] 9)).cell? ⟨Wn,0,none⟩=some (.int .i64 0):=BW1.out.cell 0
  have z1:(V.alloc (.cells #[.string (bs s7)] 9)).cell? ⟨Wn,1,none⟩=some (.int .i64 0):=BW1.out.cell 1
  have z2:(V.alloc (.cells #[.string (bs s7)] 9)).cell? ⟨Wn,2,none⟩=some (.string ⟨#[]⟩):=BW1.out.cell 2
  have f0:=BW1.out.free 0
  have f1:=BW1.out.free 1
  have f2:=BW1.out.free 2
  have BB2:=hid (flt_other BB1.out hBW (.int .i64 35) (.int .i64 0) (.string ⟨#[]⟩))
  have BW2:=hid (flt_set BW1.out (.int .i64 35) (.int .i64 0) (.string ⟨#[]⟩))
  have GU:=hid (sets3_grown G2.out Wn hWw (.int .i64 35) (.int .i64 0) (.string ⟨#[]⟩))
  have BX2:=hid (flt_other BX.out hXW (.int .i64 35) (.int .i64 0) (.string ⟨#[]⟩))
  have q0:((((V.alloc (.cells #[.string (bs s7)] 9)).setCell ⟨Wn,0,none⟩ (.int .i64 35)).setCell ⟨Wn,1,none⟩ (.int .i64 0)).setCell ⟨Wn,2,none⟩ (.string ⟨#[]⟩)).cell? ⟨Bb,0,none⟩=some (.int .i64 4096):=BB2.out.cell 0
  have q1:((((V.alloc (.cells #[.string (bs s7)] 9)).setCell ⟨Wn,0,none⟩ (.int .i64 35)).setCell ⟨Wn,1,none⟩ (.int .i64 0)).setCell ⟨Wn,2,none⟩ (.string ⟨#[]⟩)).cell? ⟨Bb,1,none⟩=some (.int .i64 65536):=BB2.out.cell 1
  have q2:((((V.alloc (.cells #[.string (bs s7)] 9)).setCell ⟨Wn,0,none⟩ (.int .i64 35)).setCell ⟨Wn,1,none⟩ (.int .i64 0)).setCell ⟨Wn,2,none⟩ (.string ⟨#[]⟩)).cell? ⟨Bb,2,none⟩=some (.int .i64 131072):=BB2.out.cell 2
  go_wp2_with fail
  refine (kLink_any 4096 65536 131072 (some ⟨V.heap.size,0,none⟩) 1 [s7] _ (strs_blk [s7] BX2.out) (by intro f hf; simp at hf; have:=K7.out.2; subst hf; omega) (HT.out.grown GU.out) (by simp)).mono ?_
  rintro e V6 ⟨hret,h6⟩
  obtain rfl:=bk_link (xs:=[(false,[bkO 7])]) hret base_near (by simp) (by simp) ⟨K7.out.1,trivial⟩ rfl bk10
  have A7:=World.grownBy_alloc V6 (.cells #[.int .i64 35,.int .i64 0,.string ⟨#[]⟩] 45) none
  have BW7:=hid (BW2.out.grown (grown_trans h6 A7) (by simp))
  have G7:=hid (grown_trans (grown_trans GU.out h6) A7)
  clear hret h6 A7 q0 q1 q2
  unfold lfA
  dsimp only
  rw [e2]
  have y0:(V6.alloc (.cells #[.int .i64 35,.int .i64 0,.string ⟨#[]⟩] 45)).cell? ⟨Wn,0,none⟩=some (.int .i64 35):=BW7.out.cell 0
  have y1:(V6.alloc (.cells #[.int .i64 35,.int .i64 0,.string ⟨#[]⟩] 45)).cell? ⟨Wn,1,none⟩=some (.int .i64 0):=BW7.out.cell 1
  have y2:(V6.alloc (.cells #[.int .i64 35,.int .i64 0,.string ⟨#[]⟩] 45)).cell? ⟨Wn,2,none⟩=some (.string ⟨#[]⟩):=BW7.out.cell 2
  go_wp2
  go_ret
  exact ⟨rfl,G7.out⟩
 ·clear hi
  have AX:=World.grownBy_alloc V (.cells #[.string (bs s8)] 9) none
  have BX:=hid (BlkAt.new V #[.string (bs s8)] 9)
  have BB1:=hid (BB.out.grown AX (by simp))
  have BW1:=hid (BW.out.grown AX (by simp))
  have G2:=hid (grown_trans G.out AX)
  have hXW:V.heap.size≠Wn:=by have:=BW.out.lt; omega
  have hXB:V.heap.size≠Bb:=by have:=BB.out.lt; omega
  have z0:(V.alloc (.cells #[.string (bs s8)] 9)).cell? ⟨Wn,0,none⟩=some (.int .i64 0):=BW1.out.cell 0
  have z1:(V.alloc (.cells #[.string (bs s8)] 9)).cell? ⟨Wn,1,none⟩=some (.int .i64 0):=BW1.out.cell 1
  have z2:(V.alloc (.cells #[.string (bs s8)] 9)).cell? ⟨Wn,2,none⟩=some (.string ⟨#[]⟩):=BW1.out.cell 2
  have f0:=BW1.out.free 0
  have f1:=BW1.out.free 1
  have f2:=BW1.out.free 2
  have BB2:=hid (flt_other BB1.out hBW (.int .i64 35) (.int .i64 0) (.string ⟨#[]⟩))
  have BW2:=hid (flt_set BW1.out (.int .i64 35) (.int .i64 0) (.string ⟨#[]⟩))
  have GU:=hid (sets3_grown G2.out Wn hWw (.int .i64 35) (.int .i64 0) (.string ⟨#[]⟩))
  have BX2:=hid (flt_other BX.out hXW (.int .i64 35) (.int .i64 0) (.string ⟨#[]⟩))
  have q0:((((V.alloc (.cells #[.string (bs s8)] 9)).setCell ⟨Wn,0,none⟩ (.int .i64 35)).setCell ⟨Wn,1,none⟩ (.int .i64 0)).setCell ⟨Wn,2,none⟩ (.string ⟨#[]⟩)).cell? ⟨Bb,0,none⟩=some (.int .i64 4096):=BB2.out.cell 0
  have q1:((((V.alloc (.cells #[.string (bs s8)] 9)).setCell ⟨Wn,0,none⟩ (.int .i64 35)).setCell ⟨Wn,1,none⟩ (.int .i64 0)).setCell ⟨Wn,2,none⟩ (.string ⟨#[]⟩)).cell? ⟨Bb,1,none⟩=some (.int .i64 65536):=BB2.out.cell 1
  have q2:((((V.alloc (.cells #[.string (bs s8)] 9)).setCell ⟨Wn,0,none⟩ (.int .i64 35)).setCell ⟨Wn,1,none⟩ (.int .i64 0)).setCell ⟨Wn,2,none⟩ (.string ⟨#[]⟩)).cell? ⟨Bb,2,none⟩=some (.int .i64 131072):=BB2.out.cell 2
  go_wp2_with fail
  refine (kLink_any 4096 65536 131072 (some ⟨V.heap.size,0,none⟩) 1 [s8] _ (strs_blk [s8] BX2.out) (by intro f hf; simp at hf; have:=K8.out.2; subst hf; omega) (HT.out.grown GU.out) (by simp)).mono ?_
  rintro e V6 ⟨hret,h6⟩
  obtain rfl:=bk_link (xs:=[(false,[bkO 8])]) hret base_near (by simp) (by simp) ⟨K8.out.1,trivial⟩ rfl bk11
  have A7:=World.grownBy_alloc V6 (.cells #[.int .i64 35,.int .i64 0,.string ⟨#[]⟩] 45) none
  have BW7:=hid (BW2.out.grown (grown_trans h6 A7) (by simp))
  have G7:=hid (grown_trans (grown_trans GU.out h6) A7)
  clear hret h6 A7 q0 q1 q2
  unfold lfA
  dsimp only
  rw [e2]
  have y0:(V6.alloc (.cells #[.int .i64 35,.int .i64 0,.string ⟨#[]⟩] 45)).cell? ⟨Wn,0,none⟩=some (.int .i64 35):=BW7.out.cell 0
  have y1:(V6.alloc (.cells #[.int .i64 35,.int .i64 0,.string ⟨#[]⟩] 45)).cell? ⟨Wn,1,none⟩=some (.int .i64 0):=BW7.out.cell 1
  have y2:(V6.alloc (.cells #[.int .i64 35,.int .i64 0,.string ⟨#[]⟩] 45)).cell? ⟨Wn,2,none⟩=some (.string ⟨#[]⟩):=BW7.out.cell 2
  go_wp2
  go_ret
  exact ⟨rfl,G7.out⟩
 ·clear hi
  have AX:=grown_drew (World.grownBy_alloc V (.cells #[.string (bs s7),.string (bs s1)] 9) none)
  have BX:=hid (blk_drew (BlkAt.new V #[.string (bs s7),.string (bs s1)] 9))
  have BB1:=hid (BB.out.grown AX (by simp))
  have BW1:=hid (BW.out.grown AX (by simp))
  have G2:=hid (grown_trans G.out AX)
  have hXW:V.heap.size≠Wn:=by have:=BW.out.lt; omega
  have hXB:V.heap.size≠Bb:=by have:=BB.out.lt; omega
  go_wp2
  go_region_held3 (fun w'=>w'.cell? ⟨sg,off+7,none⟩=some (.string (bs s7))∧w'.cell? ⟨sg,off+1,none⟩=some (.string (bs s1)))
   (go_keep)
   (fail)
  clear AX c0 c1 c2 c3 c4 c5 c6 c7 c8 b0 b1 b2
  generalize (V.alloc (.cells #[.string (bs s7),.string (bs s1)] 9)).drew=U at *
  generalize V.heap.size=X at *
  have BB2:=BB1
  have BW2:=BW1
  have BX2:=BX
  have GU:=G2
  have q0:U.cell? ⟨Bb,0,none⟩=some (.int .i64 4096):=BB2.out.cell 0
  have q1:U.cell? ⟨Bb,1,none⟩=some (.int .i64 65536):=BB2.out.cell 1
  have q2:U.cell? ⟨Bb,2,none⟩=some (.int .i64 131072):=BB2.out.cell 2
  go_wp2_with fail
  refine (kLink_any 4096 65536 131072 (some ⟨X,0,none⟩) 2 [s7,s1] _ (strs_blk [s7,s1] BX2.out) (by intro f hf; simp at hf; have:=K7.out.2; have:=K1.out.2; rcases hf with rfl | rfl <;> first | omega | simp) (HT.out.grown GU.out) (by simp)).mono ?_
  rintro e V6 ⟨hret,h6⟩
  have hl:=link_files (xs:=[(false,[bkO 7]),(false,[bkO 1])]) hret base_near (by simp) (by simp) ⟨K7.out.1,K1.out.1,trivial⟩
  obtain ⟨tb,htb,rfl⟩:=bk_img hl
  have A7:=World.grownBy_alloc V6 (.cells #[.int .i64 0,.int .i64 0,.string ⟨#[]⟩] 45) none
  have BW7:=hid (BW2.out.grown (grown_trans h6 A7) (by simp))
  have G7:=hid (grown_trans (grown_trans GU.out h6) A7)
  clear hret h6 A7 q0 q1 q2
  unfold lfA
  dsimp only
  rw [e2]
  have t1:(bs tb).toList.isEmpty=false:=by rw [toList_bs]; simpa using htb
  have y0:(V6.alloc (.cells #[.int .i64 0,.int .i64 0,.string ⟨#[]⟩] 45)).cell? ⟨Wn,0,none⟩=some (.int .i64 0):=BW7.out.cell 0
  have y1:(V6.alloc (.cells #[.int .i64 0,.int .i64 0,.string ⟨#[]⟩] 45)).cell? ⟨Wn,1,none⟩=some (.int .i64 0):=BW7.out.cell 1
  have y2:(V6.alloc (.cells #[.int .i64 0,.int .i64 0,.string ⟨#[]⟩] 45)).cell? ⟨Wn,2,none⟩=some (.string ⟨#[]⟩):=BW7.out.cell 2
  go_wp2
  go_ret
  exact ⟨rfl,G7.out⟩
 ·clear hi
  have AX:=grown_drew (World.grownBy_alloc V (.cells #[.string (bs s2),.string (bs s1)] 9) none)
  have BX:=hid (blk_drew (BlkAt.new V #[.string (bs s2),.string (bs s1)] 9))
  have BB1:=hid (BB.out.grown AX (by simp))
  have BW1:=hid (BW.out.grown AX (by simp))
  have G2:=hid (grown_trans G.out AX)
  have hXW:V.heap.size≠Wn:=by have:=BW.out.lt; omega
  have hXB:V.heap.size≠Bb:=by have:=BB.out.lt; omega
  go_wp2
  go_region_held3 (fun w'=>w'.cell? ⟨sg,off+2,none⟩=some (.string (bs s2))∧w'.cell? ⟨sg,off+1,none⟩=some (.string (bs s1)))
   (go_keep)
   (fail)
  clear AX c0 c1 c2 c3 c4 c5 c6 c7 c8 b0 b1 b2
  generalize (V.alloc (.cells #[.string (bs s2),.string (bs s1)] 9)).drew=U at *
  generalize V.heap.size=X at *
  have p0:U.cell? ⟨Bb,0,none⟩=some (.int .i64 4096):=BB1.out.cell 0
  have p1:U.cell? ⟨Bb,2,none⟩=some (.int .i64 131072):=BB1.out.cell 2
  have p2:U.frozen? ⟨Bb,2,none⟩=false:=BB1.out.free 2
  have gb:=grown_set U Bb 2 (.int .i64 4096)
  have BX':=hid (BX.out.grown gb (by simp; omega))
  have BW':=hid (BW1.out.grown gb (by simp; omega))
  have BB':=hid (show BlkAt (U.setCell ⟨Bb,2,none⟩ (.int .i64 4096)) Bb #[.int .i64 4096,.int .i64 65536,.int .i64 4096] 35 by simpa using BB1.out.set 2 (.int .i64 4096))
  have G2':=hid (grown_hi G2.out gb (by intro k e; simp at e; omega))
  clear BX BW1 BB1 G2 gb
  have BX:=BX'
  have BW1:=BW'
  have BB1:=BB'
  have G2:=G2'
  clear BX' BW' BB' G2'
  have z0:(U.setCell ⟨Bb,2,none⟩ (.int .i64 4096)).cell? ⟨Wn,0,none⟩=some (.int .i64 0):=BW1.out.cell 0
  have z1:(U.setCell ⟨Bb,2,none⟩ (.int .i64 4096)).cell? ⟨Wn,1,none⟩=some (.int .i64 0):=BW1.out.cell 1
  have z2:(U.setCell ⟨Bb,2,none⟩ (.int .i64 4096)).cell? ⟨Wn,2,none⟩=some (.string ⟨#[]⟩):=BW1.out.cell 2
  have f0:=BW1.out.free 0
  have f1:=BW1.out.free 1
  have f2:=BW1.out.free 2
  have BB2:=hid (flt_other BB1.out hBW (.int .i64 35) (.int .i64 0) (.string ⟨#[]⟩))
  have BW2:=hid (flt_set BW1.out (.int .i64 35) (.int .i64 0) (.string ⟨#[]⟩))
  have GU:=hid (sets3_grown G2.out Wn hWw (.int .i64 35) (.int .i64 0) (.string ⟨#[]⟩))
  have BX2:=hid (flt_other BX.out hXW (.int .i64 35) (.int .i64 0) (.string ⟨#[]⟩))
  have q0:((((U.setCell ⟨Bb,2,none⟩ (.int .i64 4096)).setCell ⟨Wn,0,none⟩ (.int .i64 35)).setCell ⟨Wn,1,none⟩ (.int .i64 0)).setCell ⟨Wn,2,none⟩ (.string ⟨#[]⟩)).cell? ⟨Bb,0,none⟩=some (.int .i64 4096):=BB2.out.cell 0
  have q1:((((U.setCell ⟨Bb,2,none⟩ (.int .i64 4096)).setCell ⟨Wn,0,none⟩ (.int .i64 35)).setCell ⟨Wn,1,none⟩ (.int .i64 0)).setCell ⟨Wn,2,none⟩ (.string ⟨#[]⟩)).cell? ⟨Bb,1,none⟩=some (.int .i64 65536):=BB2.out.cell 1
  have q2:((((U.setCell ⟨Bb,2,none⟩ (.int .i64 4096)).setCell ⟨Wn,0,none⟩ (.int .i64 35)).setCell ⟨Wn,1,none⟩ (.int .i64 0)).setCell ⟨Wn,2,none⟩ (.string ⟨#[]⟩)).cell? ⟨Bb,2,none⟩=some (.int .i64 4096):=BB2.out.cell 2
  go_wp2_with fail
  refine (kLink_any 4096 65536 4096 (some ⟨X,0,none⟩) 2 [s2,s1] _ (strs_blk [s2,s1] BX2.out) (by intro f hf; simp at hf; have:=K2.out.2; have:=K1.out.2; rcases hf with rfl | rfl <;> first | omega | simp) (HT.out.grown GU.out) (by simp)).mono ?_
  rintro e V6 ⟨hret,h6⟩
  obtain rfl:=bk_link (xs:=[(false,[bkO 2]),(false,[bkO 1])]) hret ⟨base_near.1,base_near.2.1,base_near.1⟩ (by simp) (by simp) ⟨K2.out.1,K1.out.1,trivial⟩ rfl bk13
  have A7:=World.grownBy_alloc V6 (.cells #[.int .i64 35,.int .i64 0,.string ⟨#[]⟩] 45) none
  have BW7:=hid (BW2.out.grown (grown_trans h6 A7) (by simp))
  have G7:=hid (grown_trans (grown_trans GU.out h6) A7)
  clear hret h6 A7 q0 q1 q2
  unfold lfA
  dsimp only
  rw [e2]
  have y0:(V6.alloc (.cells #[.int .i64 35,.int .i64 0,.string ⟨#[]⟩] 45)).cell? ⟨Wn,0,none⟩=some (.int .i64 35):=BW7.out.cell 0
  have y1:(V6.alloc (.cells #[.int .i64 35,.int .i64 0,.string ⟨#[]⟩] 45)).cell? ⟨Wn,1,none⟩=some (.int .i64 0):=BW7.out.cell 1
  have y2:(V6.alloc (.cells #[.int .i64 35,.int .i64 0,.string ⟨#[]⟩] 45)).cell? ⟨Wn,2,none⟩=some (.string ⟨#[]⟩):=BW7.out.cell 2
  go_wp2
  go_ret
  exact ⟨rfl,G7.out⟩

end Go.Proofs.YtnfgdlkiialnnaaGreatDoor
