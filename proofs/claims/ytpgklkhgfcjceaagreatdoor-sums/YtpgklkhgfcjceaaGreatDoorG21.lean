/- Linking: a module's section is added to a region. -/
/- Linking: the image of all that is laid. -/
/- Linking: what does not reach. -/
/- Walks over package image: regionsFit. -/
import Derived.Test.YtpgklkhgfcjceaaGreatDoorG20
import Derived.Test.YtpgklkhgfcjceaaGreatDoorG05
import Derived.Test.YtpgklkhgfcjceaaGreatDoorG03
import Derived.Deep.RegionWith
import Derived.Deep.CutRange
namespace Go.Proofs.YtpgklkhgfcjceaaGreatDoor
open Go.RowKit
theorem yax.put {W0 V w3:World} {R:Nat} {base fl x:Int} {ws:List Int} {v v':Value} (h:yax W0 R base fl ws v V) (hown:w3.ownsRow W0.heap.size 3 1 v' (ws.length+1) (ws.map (Value.int .i64) ++ [.int .i64 x])) (hg:V.grownBy w3 v.ownBlock) (hat:v'.ownBlock=v.ownBlock\/v'.ownBlock=some V.heap.size) :
  (yax W0 R base fl (ws ++ [x]) v' (w3.setCell ⟨R,2,none⟩ v')/\ybj V (w3.setCell ⟨R,2,none⟩ v') R v v')/\yc w3 R #[.int .i64 base,.int .i64 fl,v] 134/\w3.cell? ⟨R,2,none⟩=some v/\w3.frozen? ⟨R,2,none⟩=false/\w3.cell? ⟨R,1,none⟩=some (.int .i64 fl):=by
 have b3:=yF h.blk hg (RowT.own h.row) (by decide)
 exact ⟨h.step hown hg hat,b3,b3.cell 2,b3.free 2,b3.cell 1⟩
set_option maxHeartbeats 400000 in
theorem ymt (W0:World) (g:Nat) (o:Lk.Obj) (sect:Int) (w:World) (h:yr W0 g o) (hg:W0.grownBy w none) :
  Calls Tryz.prog 109 #[.pointer (some ⟨g,0,none⟩),.int .i64 sect] w fun e w'=>∃ ao cap,e = .returned (.slice ao (yw o sect).length cap)/\(yz W0 ao (yw o sect)/\(yw o sect).length<=cap/\cap<=maxLen)/\w'=w:=by
 obtain ⟨at_,ct,af,cf,ad,cd,aa,ca,as_,cs,ar,cr,hb,h1,h2,h3,-⟩:=h.open
 have hb2:=hb.grown hg (by simp)
 have k0:=hb2.cell 0
 have k1:=hb2.cell 1
 have k2:=hb2.cell 2
 have q1:=hid (yz.of_own h1)
 have q2:=hid (yz.of_own h2)
 have q3:=hid (yz.of_own h3)
 have z1:=hid (yak h1)
 have z2:=hid (yak h2)
 have z3:=hid (yak h3)
 clear h hb hb2 h1 h2 h3 hg
 unfold yw
 by_cases e1:sect=1
 ·subst e1
  go_enter Tryz.func109,Tryz.ntmps109
  go_wp2
  go_ret
  exact ⟨at_,ct,rfl,⟨q1.out,z1.out⟩,rfl⟩
 by_cases e2:sect=2
 ·subst e2
  go_enter Tryz.func109,Tryz.ntmps109
  go_wp2
  go_ret
  exact ⟨af,cf,rfl,⟨q2.out,z2.out⟩,rfl⟩
 by_cases e3:sect=3
 ·subst e3
  go_enter Tryz.func109,Tryz.ntmps109
  go_wp2
  go_ret
  exact ⟨ad,cd,rfl,⟨q3.out,z3.out⟩,rfl⟩
 ·rw [if_neg e1,if_neg e2,if_neg e3]
  have d1:(sect == 1)=false:=beq_eq_false_iff_ne.2 e1
  have d2:(sect == 2)=false:=beq_eq_false_iff_ne.2 e2
  have d3:(sect == 3)=false:=beq_eq_false_iff_ne.2 e3
  clear e1 e2 e3
  go_enter Tryz.func109,Tryz.ntmps109
  go_wp2
  go_ret
  exact ⟨none,0,rfl,⟨fun h=>by simp at h,by simp,by simp⟩,rfl⟩
set_option maxRecDepth 100000 in
set_option maxHeartbeats 16000000 in
theorem ypX (W0:World) (bl:List Nat) (ms:List Ln.Mod) (b g:Nat) (m:Ln.Mod) (sect:Int) (R:Nat) (base fl:Int) (ws:List Int) (v:Value) (w:World) (ht:Tabs W0) (h:ycw W0 bl ms) (hm:yD W0 bl b g m) (hn:yI bl.length m) (hv:yv m.obj) (hd:ygr ms m) (hr:yax W0 R base fl ws v w) (hb0:0<=base) (hb1:base<=1200000000) (hl:ws.length<=300090000) (ha:Ln.address m sect 0<=1200100000) :
  Calls Tryz.prog 72 #[ptrV R,ptrV b,.int .i64 sect] w fun e w'=>e = .returned (.tuple #[])/\∃ v',yax W0 R base fl (Ln.addTo ms m sect base fl ws) v' w'/\ybj w w' R v v':=by
 obtain ⟨i0,hi,hz0,hz1,hz2⟩:=info_parts Tryz.infoInt
 have HT:=hid ht
 have HH:=hid h
 have HM:=hid hm
 have HR:=hid hr
 have cA:=hid (fun (off:Int) W (hg:W0.grownBy W none) h0 h1=>yem bl b g bl.length m sect off W (HM.out.kept hg) hn h0 h1)
 have cL:=hid (fun (off x:Int) W (hg:W0.grownBy W none) h0 h1=>ymB bl ms b g m sect off x W (HT.out.grown hg) (HH.out.kept hg) (HM.out.kept hg) hn hv hd h0 h1)
 have cW:Hid (∀ W,W0.grownBy W none->Calls Tryz.prog 109 #[.pointer (some ⟨g,0,none⟩),.int .i64 sect] W fun e w'=>∃ ao cap,e = .returned (.slice ao (yw m.obj sect).length cap)/\(yz W0 ao (yw m.obj sect)/\(yw m.obj sect).length<=cap/\cap<=maxLen)/\w'=W):=fun W hg=>by
  obtain ⟨v1,v2,v3,v4,q0,q1,-⟩:=hm
  exact ymt W0 g m.obj sect W q1 hg
 have CB:=hid (fun W (hg:W0.grownBy W none)=>show W.cell? ⟨b,0,none⟩=some (.pointer (some ⟨g,0,none⟩)) from by
  obtain ⟨v1,v2,v3,v4,q0,-⟩:=hm
  exact (q0.grown hg (by simp)).cell 0)
 have hwl:=ydv hv sect
 have HW32:=hid (yhu hv sect)
 have EA:=hid (show Ln.addTo ms m sect base fl ws=Ln.gapTo base fl (Ln.address m sect 0) ws ++ Ln.addWords ms m sect 0 ((yw m.obj sect).drop 0) from rfl)
 generalize Ln.addTo ms m sect base fl ws=AT at *
 generalize yw m.obj sect=xs at *
 have cA0:=hid (cA.out 0 w HR.out.gr (by omega) (by omega))
 generalize Ln.address m sect 0=bg at *
 clear ht h hm hr hn hv hd
 unfold ptrV at *
 go_enter Tryz.func72,Tryz.ntmps72
 go_wp2_with fail
 refine cA0.out.mono ?_
 rintro e w' ⟨rfl,hw⟩
 rw [hw]
 clear hw w' cA0
 go_wp2
 go_loopg [] ((bg - base - 4 * (ws.length:Int)).toNat) (fun k wr=>∃ (acc:List Int) (v1:Value),yax W0 R base fl acc v1 wr/\ybj w wr R v v1/\Ln.gapTo base fl bg ws=Ln.gapTo base fl bg acc/\acc.length<=300090000/\(bg - base - 4 * (acc.length:Int)).toNat<=k)
 case atStart=>exact ⟨ws,v,HR.out,ybj.refl _ _ _,rfl,by omega,Nat.le_refl _⟩
 case round =>
  obtain ⟨acc,v1,hra,hrt,heg,hal,hgk⟩:=hrel
  obtain ⟨av,cv,rfl⟩:=yh hra.row
  have HG:=hid hra
  have HT1:=hid hrt
  have HEG:=hid heg
  clear hra hrt heg HR
  have c0:wr.cell? ⟨R,0,none⟩=some (.int .i64 base):=HG.out.blk.cell 0
  have c1:wr.cell? ⟨R,1,none⟩=some (.int .i64 fl):=HG.out.blk.cell 1
  have c2:wr.cell? ⟨R,2,none⟩=some (.slice av acc.length cv):=HG.out.blk.cell 2
  have w1:IntKind.i64.wrap (4 * (acc.length:Int))=4 * acc.length:=IntWalk.i64_in _ ⟨by omega,by omega⟩
  have w2:IntKind.i64.wrap (base+4 * (acc.length:Int))=base+4 * acc.length:=IntWalk.i64_in _ ⟨by omega,by omega⟩
  by_cases hlt:base+4 * (acc.length:Int) < bg
  ·have EG:=hid (show Ln.gapTo base fl bg ws=Ln.gapTo base fl bg (acc ++ [fl]) from HEG.out.trans (yoQ hlt))
   have hb2:base+4 * (acc.length:Int) < bg:=hlt
   have d1:decide (base+4 * (acc.length:Int) < bg)=true:=by simpa using hlt
   clear hlt HEG
   go_wp2
   go_quiet (fail)
   have HGq:=hid (HG.out.kept (ye (World.grownBy.refl wr none) nq))
   have HTq:=hid (HT1.out.grown (ye (World.grownBy.refl wr none) nq))
   go_wp2
   clear c0 c1 c2 HG HT1
   generalize wr.drewN nq=wr at *
   have HG:=HGq
   have HT1:=HTq
   have c0:wr.cell? ⟨R,0,none⟩=some (.int .i64 base):=HG.out.blk.cell 0
   have c1:wr.cell? ⟨R,1,none⟩=some (.int .i64 fl):=HG.out.blk.cell 1
   have c2:wr.cell? ⟨R,2,none⟩=some (.slice av acc.length cv):=HG.out.blk.cell 2
   clear HGq HTq
   have A7:=yi (ysp wr (.cells #[.int .i64 fl] 3) none)
   have H7:=hid (HG.out.kept A7)
   have RT:=hid (HT1.out.grown A7)
   have hA:=hid H7.out.row
   have n2:(wr.alloc (.cells #[.int .i64 fl] 3)).drew.cell? ⟨R,2,none⟩=some (.slice av acc.length cv):=H7.out.blk.cell 2
   have hN:Hid (∀ j u,[Value.int .i64 fl][j]?=some u->(wr.alloc (.cells #[.int .i64 fl] 3)).drew.cell? ((⟨wr.heap.size,0,none⟩:Addr).add j)=some u):=World.news_of_block (heap_alloc_new wr (.cells #[.int .i64 fl] 3))
   have hOne:Hid (∀ u∈[Value.int .i64 fl],u.oneCell'=true):=by intro u hu; simp at hu; subst hu; rfl
   have h63:Hid (acc.length+1<=maxLen):=by show _<=_; unfold maxLen; omega
   have hby:Hid ((acc.length+1) * 8<=140737488355328):=by show _<=_; omega
   have hbs:Hid (W0.heap.size<=(wr.alloc (.cells #[.int .i64 fl] 3)).drew.heap.size):=H7.out.gr.size
   have SA:Hid ((wr.alloc (.cells #[.int .i64 fl] 3)).drew.cell? ⟨R,1,none⟩=some (.int .i64 fl)):=H7.out.blk.cell 1
   have STEP:=hid (fun (v':Value) (w3:World) (hown':w3.ownsRow W0.heap.size 3 1 v' (acc.length+1) (acc.map (Value.int .i64) ++ [.int .i64 fl])) (hg:(wr.alloc (.cells #[.int .i64 fl] 3)).drew.grownBy w3 (Value.ownBlock (.slice av acc.length cv))) (hat:v'.ownBlock=Value.ownBlock (.slice av acc.length cv)\/v'.ownBlock=some (wr.alloc (.cells #[.int .i64 fl] 3)).drew.heap.size)=>H7.out.put hown' hg hat)
   clear A7 H7 HG HT1 c0
   refine wp_region_held_drew (S:=(fun w'=>w'.cell? ⟨R,1,none⟩=some (.int .i64 fl))) (by kernel_rfl) c1 ?_
   intro hS
   refine wpAnyH_take (i:=0) (v:=?_) rfl (by kernel_rfl) (by kernel_rfl) (by kernel_rfl) (fun _ _ _ h=>h) (Or.inl ⟨by kernel_rfl,?_⟩) hS ?_
   rotate_left
   ·intro w' hw'; have x2:=hw'; go_simp; with_reducible rfl
   refine wpAnyH_take (i:=1) (v:=?_) rfl (by kernel_rfl) (by kernel_rfl) (by kernel_rfl) (fun _ _ _ h=>h) (Or.inl ⟨by kernel_rfl,?_⟩) hS ?_
   rotate_left
   ·intro w' hw'; have x2:=hw'; go_simp; with_reducible rfl
   refine wpAnyH_take (i:=2) (v:=?_) rfl (by kernel_rfl) (by kernel_rfl) (by kernel_rfl) (fun _ _ _ h=>h) (Or.inl ⟨by kernel_rfl,?_⟩) hS ?_
   rotate_left
   ·intro w' hw'; have x2:=hw'; go_simp; with_reducible rfl
   refine wpAnyH_take (i:=3) (v:=?_) rfl (by kernel_rfl) (by kernel_rfl) (by kernel_rfl) (fun _ _ _ h=>h) (Or.inl ⟨by kernel_rfl,?_⟩) hS ?_
   rotate_left
   ·intro w' hw'; have x2:=hw'; go_simp; with_reducible rfl
   refine wpAnyH_take (i:=5) (v:=?_) rfl (by kernel_rfl) (by kernel_rfl) (by kernel_rfl) (fun _ _ _ h=>h) (Or.inl ⟨by kernel_rfl,?_⟩) hS ?_
   rotate_left
   ·intro w' hw'; have x2:=hw'; go_simp; with_reducible rfl
   refine wpAnyH_take (i:=6) (v:=?_) rfl (by kernel_rfl) (by kernel_rfl) (by kernel_rfl) (fun _ _ _ h=>h) (Or.inl ⟨by kernel_rfl,?_⟩) hS ?_
   rotate_left
   ·intro w' hw'; have x2:=hw'; go_simp; with_reducible rfl
   refine wpAnyH_take (i:=7) (v:=?_) rfl (by kernel_rfl) (by kernel_rfl) (by kernel_rfl) (fun _ _ _ h=>h) (Or.inl ⟨by kernel_rfl,?_⟩) hS ?_
   rotate_left
   ·intro w' hw'; have x2:=hw'; go_simp; with_reducible rfl
   refine wpAnyH_take (i:=8) (v:=?_) rfl (by kernel_rfl) (by kernel_rfl) (by kernel_rfl) (fun _ _ _ h=>h) (Or.inl ⟨by kernel_rfl,?_⟩) hS ?_
   rotate_left
   ·intro w' hw'; have x2:=hw'; go_simp; with_reducible rfl
   refine wpAnyH_ready (rs:=[4,9]) (by kernel_rfl) (by simp) ?_
   refine AllReadyH.cons rfl (fun K hK=>?_) (AllReadyH.cons rfl (fun K hK=>?_) AllReadyH.nil)
   go_simp
   refine hK.out _ _ hS (fun hS2=>?_)
   clear hK K
   refine wpAnyH_ready (rs:=[9]) (by kernel_rfl) (by simp) ?_
   rotate_left
   go_simp
   refine hK.out _ _ SA.out (fun hS2=>?_)
   clear hK K
   refine wpAnyH_ready (rs:=[4]) (by kernel_rfl) (by simp) ?_
   all_goals
    refine AllReadyH.cons rfl (fun K hK=>?_) AllReadyH.nil
    go_simp
    refine hK.out _ _ SA.out (fun hS3=>?_)
    clear hK K hS2 hS3
    refine wpAnyH_ready (rs:=[10]) (by kernel_rfl) (by simp) ?_
    refine AllReadyH.cons rfl (fun K hK=>?_) AllReadyH.nil
    refine yZ _ (.tmp 30) (.tmp 35) 35 rfl W0.heap.size 3 i0 (.int .i64 0) 1 8 Tryz.underlying35 hi hz0 hz1 hz2 rfl (by decide) (.slice av acc.length cv) acc.length (acc.map (Value.int .i64)) (by kernel_rfl) hA.out ⟨wr.heap.size,0,none⟩ 1 1 [.int .i64 fl] (by kernel_rfl) rfl hN.out hOne.out h63.out hby.out hbs.out ?_
    intro v' w3 hown' hgrow _ hat
    obtain ⟨av',cv',rfl⟩:=yh hown'
    obtain ⟨⟨t1,t2⟩,t3,t4,t5,t6⟩:=STEP.out _ _ hown' hgrow hat
    have T1:=hid t1
    have T2:=hid t2
    have T3:Hid ((w3.setCell ⟨R,2,none⟩ (.slice av' (acc.length+1) cv')).cell? ⟨R,1,none⟩=some (.int .i64 fl)):=t1.blk.cell 1
    refine hK.out _ _ t6 (fun hS4=>?_)
    clear hK K hown' hgrow t1 t2 t6 hat
    refine wpAnyH_take (i:=11) (v:=?_) rfl (by kernel_rfl) (by kernel_rfl) (by kernel_rfl) (fun _ _ _ h=>h) (Or.inl ⟨by kernel_rfl,?_⟩) hS4 ?_
    rotate_left
    ·intro w' hw'; have x2:=hw'; go_simp; with_reducible rfl
    refine wpAnyH_take (i:=12) (v:=?_) rfl (by kernel_rfl) (by kernel_rfl) (by kernel_rfl) (fun _ _ _ h=>h) (Or.inl ⟨by kernel_rfl,?_⟩) hS4 ?_
    rotate_left
    ·intro w' hw'; have x2:=hw'; go_simp; with_reducible rfl
    refine wpAnyH_ready (rs:=[13]) (by kernel_rfl) (by simp) ?_
    refine AllReadyH.cons rfl (fun K hK=>?_) AllReadyH.nil
    go_simp
    refine hK.out _ _ T3.out (fun hS5=>?_)
    clear hK K
    refine wpAnyH_done (by kernel_rfl) ?_ _
    try simp only [yaL,ysy,ysw,ysx,yso,ysm,ysn]
    clear hA hN hOne h63 hby hbs c2 n2 t3 t4 t5 hS4 hS5 hS STEP SA T3
    go_wp2
    go_roundg (gk - 1)
    case measure=>omega
    case rel=>exact ⟨acc ++ [fl],_,T1.out,RT.out.trans T2.out,EG.out,by rw [ysq,List.length_singleton]; omega,by rw [ysq,List.length_singleton]; omega⟩
  ·have EG:=hid (show Ln.gapTo base fl bg ws=acc from HEG.out.trans (yoP hlt))
   have d1:decide (base+4 * (acc.length:Int) < bg)=false:=by simpa using hlt
   clear hlt HEG
   go_wp2
   go_quiet (fail)
   have HGq:=hid (HG.out.kept (ye (World.grownBy.refl wr none) nq))
   have HTq:=hid (HT1.out.grown (ye (World.grownBy.refl wr none) nq))
   have kb:=CB.out _ HGq.out.gr
   go_wp2_with fail
   refine (cW.out _ HGq.out.gr).mono ?_
   rintro e w' ⟨aw,cw,rfl,⟨hin,-,-⟩,hw⟩
   rw [hw]
   clear hw w' cW kb c0 c1 c2 HG HT1 w1 w2
   have HI:=hid hin
   clear hin
   generalize wr.drewN nq=U at *
   go_wp2
   go_loopw [46] (fun i wr=>∃ (k:Nat) (acc2:List Int) (v2:Value),k<=xs.length/\i = .int .i64 k/\yax W0 R base fl acc2 v2 wr/\ybj w wr R v v2/\AT=acc2 ++ Ln.addWords ms m sect k (xs.drop k)/\acc2.length<=300090000+k) (fun i _=>xs.length - (intOf i).toNat)
   case atStart=>exact ⟨0,acc,_,Nat.zero_le _,rfl,HGq.out,HTq.out,by rw [EA.out,EG.out],by omega⟩
   case round =>
    obtain ⟨k,acc2,v2,hk,rfl,hra,hrt,hat2,hal2⟩:=hrel
    obtain ⟨av2,cv2,rfl⟩:=yh hra.row
    have HG:=hid hra
    have HT1:=hid hrt
    have HA2:=hid hat2
    clear hra hrt hat2 HGq HTq
    by_cases hlt:k < xs.length
    ·have g1:(k:Int) < (xs.length:Int):=by omega
     obtain ⟨sg,off,rfl,hc⟩:=HI.out (by omega)
     have ck:=yd (hc k hlt) HG.out.gr
     clear hc
     have P2:=hid (HA2.out.trans (by rw [yiv ms m sect xs k hlt]))
     have xr:=HW32.out _ (ysr hlt)
     have w4:IntKind.i64.wrap (4 * (k:Int))=4 * k:=IntWalk.i64_in _ ⟨by omega,by omega⟩
     have w5:IntKind.i64.wrap (4 * (k:Int)+4)=4 * k+4:=IntWalk.i64_in _ ⟨by omega,by omega⟩
     have cA1:=hid (cA.out (4 * k) wr HG.out.gr (by omega) (by omega))
     have cA2:=hid (cA.out (4 * k+4) wr HG.out.gr (by omega) (by omega))
     have cL1:=hid (cL.out (4 * k) xs[k] wr HG.out.gr xr.1 xr.2)
     generalize Ln.linked ms m sect (4 * k) xs[k]=y at *
     generalize Ln.address m sect (4 * k)=a1 at *
     generalize Ln.address m sect (4 * k+4)=a2 at *
     generalize xs[k]=x at *
     go_wp2_with fail
     refine cA1.out.mono ?_
     rintro e w' ⟨rfl,hw⟩
     rw [hw]
     clear hw w' cA1
     go_wp2_with fail
     refine cA2.out.mono ?_
     rintro e w' ⟨rfl,hw⟩
     rw [hw]
     clear hw w' cA2
     by_cases hy:a1 < a2
     ·have d2:decide (a1 < a2)=true:=by simpa using hy
      have P3:=hid (show AT=(acc2 ++ [y]) ++ Ln.addWords ms m sect (k+1) (xs.drop (k+1)) by rw [P2.out,if_pos hy]; simp)
      clear hy P2
      go_wp2_with fail
      refine cL1.out.mono ?_
      rintro e W5 ⟨rfl,h5⟩
      have A6:=ya h5 (ysp W5 (.cells #[.int .i64 y] 3) none)
      have HG5:=hid (HG.out.kept h5)
      have HG6:=hid (HG.out.kept A6)
      have HT6:=hid (HT1.out.grown A6)
      have c2:W5.cell? ⟨R,2,none⟩=some (.slice av2 acc2.length cv2):=HG5.out.blk.cell 2
      clear h5 A6 cL1 HG HT1 ck
      go_wp2_with (at_builtin; refine wpList_append_own_at _ rfl _ _ 35 rfl W0.heap.size 3 i0 (.int .i64 0) 1 8 Tryz.underlying35 hi hz0 hz1 hz2 rfl (by decide) _ _ _ rfl HG6.out.row ⟨W5.heap.size,0,none⟩ 1 1 [.int .i64 y] rfl rfl (cell_one_new _ _ _) (by intro u hu; simp at hu; subst hu; rfl) (by unfold maxLen; omega) (by omega) HG6.out.gr.size ?_; intro v' w3 hown' hgrow _ hat; obtain ⟨av',cv',rfl⟩:=yh hown'; obtain ⟨⟨t1,t2⟩,t3,t4,t5,t6⟩:=HG6.out.put hown' hgrow hat; have T1:=hid t1; have T2:=hid (HT6.out.trans t2); clear hown' hgrow hat t1 t2 t3 t6)
      go_roundw
      case rel=>exact ⟨k+1,acc2 ++ [y],_,by omega,by go_num,T1.out,T2.out,P3.out,by rw [ysq,List.length_singleton]; omega⟩
      case measure=>simp [intOf]; omega
     ·have d2:decide (a1 < a2)=false:=by simpa using hy
      have P3:=hid (show AT=acc2 ++ Ln.addWords ms m sect (k+1) (xs.drop (k+1)) by rw [P2.out,if_neg hy])
      clear hy P2
      go_wp2
      go_roundw
      case rel=>exact ⟨k+1,acc2,_,by omega,by go_num,HG.out,HT1.out,P3.out,by omega⟩
      case measure=>simp [intOf]; omega
    ·obtain rfl:k=xs.length:=by omega
     have g3:decide ((xs.length:Int) < (xs.length:Int))=false:=by simp
     have P2:=hid (show AT=acc2 by rw [HA2.out,List.drop_length]; simp [Ln.addWords])
     go_wp2
     go_end0
     rw [P2.out]
     exact ⟨rfl,_,HG.out,HT1.out⟩
namespace Ln
def image (ms:List Mod) (st:Spot) (bt bf bd no:Int):Im.Img:=⟨spotAddr ms st,bt,bf,bd,region ms 1 bt 19 ms [],region ms 2 bf 19 ms [],region ms 3 bd 0 ms [],no⟩
end Ln
theorem yeq (ms:List Ln.Mod) (sect base fl:Int):∀ (l:List Ln.Mod) (k:Nat) (ws:List Int) (h:k < l.length),Ln.region ms sect base fl (l.take (k+1)) ws=Ln.addTo ms l[k] sect base fl (Ln.region ms sect base fl (l.take k) ws):=by
 intro l
 induction l with
 | nil=>intro k ws h; simp at h
 | cons m l ih =>
  intro k ws h
  cases k with
  | zero=>rfl
  | succ k =>
   simp only [yss] at h
   rw [List.take_succ_cons,List.take_succ_cons]
   unfold Ln.region
   exact ih k _ (by omega)
theorem yov {m:Ln.Mod} (ms:List Ln.Mod) (hv:yv m.obj) (sect base fl:Int) (ws:List Int) (hb:0<=base) (ha:Ln.address m sect 0<=1200100000) (k:Nat) (h:ws.length<=300025001+1200 * k):(Ln.addTo ms m sect base fl ws).length<=300025001+1200 * (k+1):=by
 have a:=yiZ ms m sect (yw m.obj sect) 0
 have b:=ydv hv sect
 unfold Ln.addTo
 rw [ysq,yhI]
 omega
def ycQ (u v:Value):Prop:=∀ k,u.ownBlock=some k->v.ownBlock≠some k
theorem ycQ.symm {u v:Value} (h:ycQ u v):ycQ v u:=fun k e c=>h k c e
structure Regs (W0:World) (R1 R2 R3:Nat) (b1 f1 b2 f2 b3 f3:Int) (l1 l2 l3:List Int) (v1 v2 v3:Value) (W:World):Prop where
 a:yax W0 R1 b1 f1 l1 v1 W
 b:yax W0 R2 b2 f2 l2 v2 W
 c:yax W0 R3 b3 f3 l3 v3 W
 n12:R1≠R2
 n13:R1≠R3
 n23:R2≠R3
 p12:ycQ v1 v2
 p13:ycQ v1 v3
 p23:ycQ v2 v3
section
variable {W0 W W':World} {R1 R2 R3:Nat} {b1 f1 b2 f2 b3 f3:Int} {l1 l2 l3 l':List Int} {v1 v2 v3 v':Value}
theorem Regs.kept (h:Regs W0 R1 R2 R3 b1 f1 b2 f2 b3 f3 l1 l2 l3 v1 v2 v3 W) (hg:W.grownBy W' none):Regs W0 R1 R2 R3 b1 f1 b2 f2 b3 f3 l1 l2 l3 v1 v2 v3 W' :=
 ⟨h.a.kept hg,h.b.kept hg,h.c.kept hg,h.n12,h.n13,h.n23,h.p12,h.p13,h.p23⟩
theorem Regs.one (h:Regs W0 R1 R2 R3 b1 f1 b2 f2 b3 f3 l1 l2 l3 v1 v2 v3 W) (g:yax W0 R1 b1 f1 l' v' W') (t:ybj W W' R1 v1 v'):Regs W0 R1 R2 R3 b1 f1 b2 f2 b3 f3 l' l2 l3 v' v2 v3 W':=by
 obtain ⟨x1,x2⟩:=h.b.other h.a t g.gr h.n12.symm h.p12.symm
 obtain ⟨y1,y2⟩:=h.c.other h.a t g.gr h.n13.symm h.p13.symm
 exact ⟨g,x1,y1,h.n12,h.n13,h.n23,ycQ.symm x2,ycQ.symm y2,h.p23⟩
theorem Regs.two (h:Regs W0 R1 R2 R3 b1 f1 b2 f2 b3 f3 l1 l2 l3 v1 v2 v3 W) (g:yax W0 R2 b2 f2 l' v' W') (t:ybj W W' R2 v2 v'):Regs W0 R1 R2 R3 b1 f1 b2 f2 b3 f3 l1 l' l3 v1 v' v3 W':=by
 obtain ⟨x1,x2⟩:=h.a.other h.b t g.gr h.n12 h.p12
 obtain ⟨y1,y2⟩:=h.c.other h.b t g.gr h.n23.symm h.p23.symm
 exact ⟨x1,g,y1,h.n12,h.n13,h.n23,x2,h.p13,ycQ.symm y2⟩
theorem Regs.three (h:Regs W0 R1 R2 R3 b1 f1 b2 f2 b3 f3 l1 l2 l3 v1 v2 v3 W) (g:yax W0 R3 b3 f3 l' v' W') (t:ybj W W' R3 v3 v'):Regs W0 R1 R2 R3 b1 f1 b2 f2 b3 f3 l1 l2 l' v1 v2 v' W':=by
 obtain ⟨x1,x2⟩:=h.a.other h.c t g.gr h.n13 h.p13
 obtain ⟨y1,y2⟩:=h.b.other h.c t g.gr h.n23 h.p23
 exact ⟨x1,y1,g,h.n12,h.n13,h.n23,h.p12,x2,y2⟩
end
theorem yax.img {W0 W:World} {R I o:Nat} {base fl:Int} {ws:List Int} {v u:Value} {cs:Array Value} (h:yax W0 R base fl ws v W) (hb:yc W I cs 90) (hI:W0.heap.size<=I):yax W0 R base fl ws v (W.setCell ⟨I,o,none⟩ u):=by
 have gs:=yf W I o u
 exact ⟨yN h.gr gs (by intro k e; simp at e; omega),h.lo,yF h.blk gs (RowT.blk hb) (by decide),yy h.row gs (RowT.blk hb) (by decide)⟩
theorem Regs.img {W0 W:World} {R1 R2 R3 I o:Nat} {b1 f1 b2 f2 b3 f3:Int} {l1 l2 l3:List Int} {v1 v2 v3 u:Value} {cs:Array Value} (h:Regs W0 R1 R2 R3 b1 f1 b2 f2 b3 f3 l1 l2 l3 v1 v2 v3 W) (hb:yc W I cs 90) (hI:W0.heap.size<=I):Regs W0 R1 R2 R3 b1 f1 b2 f2 b3 f3 l1 l2 l3 v1 v2 v3 (W.setCell ⟨I,o,none⟩ u) :=
 ⟨h.a.img hb hI,h.b.img hb hI,h.c.img hb hI,h.n12,h.n13,h.n23,h.p12,h.p13,h.p23⟩
theorem ypw (W:World) (bt bf bd:Int):Regs W W.heap.size (W.heap.size+1) (W.heap.size+2) bt 19 bf 19 bd 0 [] [] [] (.slice none 0 0) (.slice none 0 0) (.slice none 0 0) (((W.alloc (.cells #[.int .i64 bt,.int .i64 19,.slice none 0 0] 134)).alloc (.cells #[.int .i64 bf,.int .i64 19,.slice none 0 0] 134)).alloc (.cells #[.int .i64 bd,.int .i64 0,.slice none 0 0] 134)):=by
 have s1:(W.alloc (.cells #[.int .i64 bt,.int .i64 19,.slice none 0 0] 134)).heap.size=W.heap.size+1:=Array.size_push _
 have s2:((W.alloc (.cells #[.int .i64 bt,.int .i64 19,.slice none 0 0] 134)).alloc (.cells #[.int .i64 bf,.int .i64 19,.slice none 0 0] 134)).heap.size=W.heap.size+2:=by
  rw [show ((W.alloc (.cells #[.int .i64 bt,.int .i64 19,.slice none 0 0] 134)).alloc (.cells #[.int .i64 bf,.int .i64 19,.slice none 0 0] 134)).heap.size=(W.alloc (.cells #[.int .i64 bt,.int .i64 19,.slice none 0 0] 134)).heap.size+1 from Array.size_push _,s1]
 have g1:=ysp W (.cells #[.int .i64 bt,.int .i64 19,.slice none 0 0] 134) none
 have g2:=ysp (W.alloc (.cells #[.int .i64 bt,.int .i64 19,.slice none 0 0] 134)) (.cells #[.int .i64 bf,.int .i64 19,.slice none 0 0] 134) none
 have g3:=ysp ((W.alloc (.cells #[.int .i64 bt,.int .i64 19,.slice none 0 0] 134)).alloc (.cells #[.int .i64 bf,.int .i64 19,.slice none 0 0] 134)) (.cells #[.int .i64 bd,.int .i64 0,.slice none 0 0] 134) none
 have x1:=yc.new W #[.int .i64 bt,.int .i64 19,.slice none 0 0] 134
 have x2:=yc.new (W.alloc (.cells #[.int .i64 bt,.int .i64 19,.slice none 0 0] 134)) #[.int .i64 bf,.int .i64 19,.slice none 0 0] 134
 have x3:=yc.new ((W.alloc (.cells #[.int .i64 bt,.int .i64 19,.slice none 0 0] 134)).alloc (.cells #[.int .i64 bf,.int .i64 19,.slice none 0 0] 134)) #[.int .i64 bd,.int .i64 0,.slice none 0 0] 134
 rw [s1] at x2
 rw [s2] at x3
 have G:=ya (ya g1 g2) g3
 refine ⟨⟨G,Nat.le_refl _,(x1.grown g2 (by simp)).grown g3 (by simp),World.ownsRow_nil _ _ _ _⟩,⟨G,by omega,x2.grown g3 (by simp),World.ownsRow_nil _ _ _ _⟩,⟨G,by omega,x3,World.ownsRow_nil _ _ _ _⟩,by omega,by omega,by omega,?_,?_,?_⟩
 all_goals (intro k e; simp [Value.ownBlock] at e)
set_option maxRecDepth 100000 in
set_option maxHeartbeats 16000000 in
theorem ynp (W0:World) (P:Nat) (bt bf bd:Int) (vm:Value) (bl gl:List Nat) (ms:List Ln.Mod) (st:Ln.Spot) (no:Int) (W:World) (ht:Tabs W) (h:ProgAt W0 P bt bf bd vm bl gl ms st no W) (hn:∀ m∈ms,yI bl.length m) (hv:∀ m∈ms,yv m.obj) (hlow:∀ m∈ms,MLow m) (hmean:∀ m∈ms,∀ s∈m.means,SLow s) (hst:yiW bl.length st) (hfew:bl.length<=48)
  (hbt:0<=bt/\bt<=1073741824) (hbf:0<=bf/\bf<=1073741824) (hbd:0<=bd/\bd<=1073741824) :
  Calls Tryz.prog 40 #[ptrV P] W fun e W'=>∃ I,e = .returned (ptrV I)/\yah W' I (Ln.image ms st bt bf bd no)/\W.grownBy W' none:=by
 obtain ⟨am,cm,rfl⟩:=yh h.row
 have HP:=hid h
 have RN:=hid (ypw W bt bf bd)
 have MA:=hid (h.modsAt hn)
 have LO:=hid h.lenO
 have cX:=hid (fun (k:Nat) (hk:k < ms.length) (b g:Nat) (hm:yD W bl b g ms[k]) (sect:Int) (R:Nat) (base fl:Int) (ws:List Int) (v:Value) (w:World) (hr:yax W R base fl ws v w) (hb0:0<=base) (hb1:base<=1200000000) (hl:ws.length<=300090000)=>ypX W bl ms b g ms[k] sect R base fl ws v w ht MA.out hm (hn _ (ysr hk)) (hv _ (ysr hk)) (ykb hlow ms[k] (hmean _ (ysr hk)) (hlow _ (ysr hk)) (hv _ (ysr hk))) hr hb0 hb1 hl (ydl (hlow _ (ysr hk)) sect 0 (by omega) (by omega)).2)
 have LE:=hid (fun (k:Nat) (hk:k < ms.length) (sect base fl:Int) (ws:List Int) (hb:0<=base) (h:ws.length<=300025001+1200 * k)=>yov ms (hv _ (ysr hk)) sect base fl ws hb (ydl (hlow _ (ysr hk)) sect 0 (by omega) (by omega)).2 k h)
 have cSp:=hid (fun V (hg:W.grownBy V none)=>yeh bl ms st V (MA.out.kept hg) hst)
 have c0:W.cell? ⟨P,0,none⟩=some (.int .i64 bt):=h.blk.cell 0
 have c1:W.cell? ⟨P,1,none⟩=some (.int .i64 bf):=h.blk.cell 1
 have c2:W.cell? ⟨P,2,none⟩=some (.int .i64 bd):=h.blk.cell 2
 have c3:W.cell? ⟨P,3,none⟩=some (.slice am bl.length cm):=h.blk.cell 3
 have g1:=ysp W (.cells #[.int .i64 bt,.int .i64 19,.slice none 0 0] 134) none
 have g2:=ysp (W.alloc (.cells #[.int .i64 bt,.int .i64 19,.slice none 0 0] 134)) (.cells #[.int .i64 bf,.int .i64 19,.slice none 0 0] 134) none
 have g3:=ysp ((W.alloc (.cells #[.int .i64 bt,.int .i64 19,.slice none 0 0] 134)).alloc (.cells #[.int .i64 bf,.int .i64 19,.slice none 0 0] 134)) (.cells #[.int .i64 bd,.int .i64 0,.slice none 0 0] 134) none
 have C1:=hid (yd c1 g1)
 have C2:=hid (yd c2 (ya g1 g2))
 have C3:=hid (yd c3 (ya (ya g1 g2) g3))
 have s1:(W.alloc (.cells #[.int .i64 bt,.int .i64 19,.slice none 0 0] 134)).heap.size=W.heap.size+1:=Array.size_push _
 have s2:((W.alloc (.cells #[.int .i64 bt,.int .i64 19,.slice none 0 0] 134)).alloc (.cells #[.int .i64 bf,.int .i64 19,.slice none 0 0] 134)).heap.size=W.heap.size+2:=by
  rw [show ((W.alloc (.cells #[.int .i64 bt,.int .i64 19,.slice none 0 0] 134)).alloc (.cells #[.int .i64 bf,.int .i64 19,.slice none 0 0] 134)).heap.size=(W.alloc (.cells #[.int .i64 bt,.int .i64 19,.slice none 0 0] 134)).heap.size+1 from Array.size_push _,s1]
 clear h hn hv hlow hmean hst ht g1 g2 g3 c1 c2 c3
 unfold ptrV at *
 go_enter Tryz.func40,Tryz.ntmps40
 go_upto_region 2 with fail
 clear c0
 generalize W.alloc (.cells #[.int .i64 bt,.int .i64 19,.slice none 0 0] 134)=W1 at *
 have c1:=C1.out
 clear C1
 go_upto_region 3 with fail
 clear c1
 generalize W1.alloc (.cells #[.int .i64 bf,.int .i64 19,.slice none 0 0] 134)=W2 at *
 have c2:=C2.out
 clear C2
 go_upto_region 4 with fail
 clear c2
 generalize W2.alloc (.cells #[.int .i64 bd,.int .i64 0,.slice none 0 0] 134)=W3 at *
 have c3:=C3.out
 go_wp2
 clear c3 C3 s1 s2
 generalize hR1:W.heap.size=R1 at *
 generalize hR2:R1+1=R2 at *
 generalize hR3:R1+2=R3 at *
 clear hR1 hR2 hR3
 go_loopw [32] (fun i wr=>∃ (k:Nat) (l1 l2 l3:List Int) (v1 v2 v3:Value),k<=bl.length/\i = .int .i64 k/\Regs W R1 R2 R3 bt 19 bf 19 bd 0 l1 l2 l3 v1 v2 v3 wr/\l1=Ln.region ms 1 bt 19 (ms.take k) []/\l2=Ln.region ms 2 bf 19 (ms.take k) []/\l3=Ln.region ms 3 bd 0 (ms.take k) []/\(l1.length<=300025001+1200 * k/\l2.length<=300025001+1200 * k/\l3.length<=300025001+1200 * k)) (fun i _=>bl.length - (intOf i).toNat)
 case atStart=>exact ⟨0,[],[],[],_,_,_,Nat.zero_le _,rfl,RN.out,rfl,rfl,rfl,by simp,by simp,by simp⟩
 case round =>
  obtain ⟨k,l1,l2,l3,v1,v2,v3,hk,rfl,hrs,e1,e2,e3,hl1,hl2,hl3⟩:=hrel
  have HR:=hid hrs
  have E1:=hid e1
  have E2:=hid e2
  have E3:=hid e3
  clear hrs e1 e2 e3 RN
  by_cases hlt:k < bl.length
  ·have hko:k < ms.length:=by rw [LO.out]; exact hlt
   have hkg:k < gl.length:=by rw [HP.out.lenG]; exact hlt
   obtain ⟨sg,off,hsg,hsc⟩:=HP.out.modsIn.ptrs (by omega)
   have ck:=yd (hsc k hlt) HR.out.a.gr
   have HM:yD W bl bl[k] (gl[k]'hkg) ms[k]:=HP.out.mods k hlt
   have g1:(k:Int) < (bl.length:Int):=by omega
   have T1:=hid (yeq ms 1 bt 19 ms k [] hko)
   have T2:=hid (yeq ms 2 bf 19 ms k [] hko)
   have T3:=hid (yeq ms 3 bd 0 ms k [] hko)
   have L1:=LE.out k hko 1 bt 19 l1 (by omega) hl1
   have L2:=LE.out k hko 2 bf 19 l2 (by omega) hl2
   have L3:=LE.out k hko 3 bd 0 l3 (by omega) hl3
   have cY:=hid (fun sect R base fl ws v w hr hb0 hb1 hl=>cX.out k hko bl[k] (gl[k]'hkg) HM sect R base fl ws v w hr hb0 hb1 hl)
   rw [<- E1.out] at T1
   rw [<- E2.out] at T2
   rw [<- E3.out] at T3
   subst hsg
   clear hsc HM
   generalize ms[k]=m at *
   generalize hbk:bl[k]=bk at *
   clear hbk
   unfold ptrV at *
   go_wp2_with fail
   refine (cY.out 1 R1 bt 19 l1 v1 wr HR.out.a (by omega) (by omega) (by omega)).mono ?_
   rintro e U1 ⟨rfl,u1,ra,rt⟩
   have HR1:=hid (HR.out.one ra rt)
   clear ra rt HR ck
   go_wp2_with fail
   refine (cY.out 2 R2 bf 19 l2 v2 U1 HR1.out.b (by omega) (by omega) (by omega)).mono ?_
   rintro e U2 ⟨rfl,u2,ra,rt⟩
   have HR2:=hid (HR1.out.two ra rt)
   clear ra rt HR1
   go_wp2_with fail
   refine (cY.out 3 R3 bd 0 l3 v3 U2 HR2.out.c (by omega) (by omega) (by omega)).mono ?_
   rintro e U3 ⟨rfl,u3,ra,rt⟩
   have HR3:=hid (HR2.out.three ra rt)
   clear ra rt HR2
   go_wp2
   go_roundw
   case rel=>exact ⟨k+1,_,_,_,_,_,_,by omega,by go_num,HR3.out,T1.out.symm,T2.out.symm,T3.out.symm,L1,L2,L3⟩
   case measure=>simp [intOf]; omega
  ·obtain rfl:k=bl.length:=by omega
   have g3:decide ((bl.length:Int) < (bl.length:Int))=false:=by simp
   rw [List.take_of_length_le (by rw [LO.out]; exact Nat.le_refl _)] at E1 E2 E3
   have BP:=hid (HP.out.blk.grown HR.out.a.gr (by simp))
   have FIN:=hid (show Ln.image ms st bt bf bd no=⟨Ln.spotAddr ms st,bt,bf,bd,l1,l2,l3,no⟩ by rw [E1.out,E2.out,E3.out]; rfl)
   obtain ⟨sm,ss,so⟩:=st
   unfold yay at cSp
   dsimp only at *
   generalize Ln.spotAddr ms ⟨sm,ss,so⟩=sa at *
   generalize yap bl sm=q at *
   have c0:wr.cell? ⟨P,0,none⟩=some (.int .i64 bt):=BP.out.cell 0
   have c1:wr.cell? ⟨P,1,none⟩=some (.int .i64 bf):=BP.out.cell 1
   have c2:wr.cell? ⟨P,2,none⟩=some (.int .i64 bd):=BP.out.cell 2
   have c4:wr.cell? ⟨P,4,none⟩=some (.pointer q):=BP.out.cell 4
   have c5:wr.cell? ⟨P,5,none⟩=some (.int .i64 ss):=BP.out.cell 5
   have c6:wr.cell? ⟨P,6,none⟩=some (.int .i64 so):=BP.out.cell 6
   have c7:wr.cell? ⟨P,7,none⟩=some (.int .i64 no):=BP.out.cell 7
   have KD:=hid (fun W2 (hq:wr.drew.grownBy W2 none)=>show W2.cell? ⟨P,0,none⟩=some (.int .i64 bt)/\W2.cell? ⟨P,1,none⟩=some (.int .i64 bf)/\W2.cell? ⟨P,2,none⟩=some (.int .i64 bd)/\W2.cell? ⟨P,4,none⟩=some (.pointer q)/\W2.cell? ⟨P,5,none⟩=some (.int .i64 ss)/\W2.cell? ⟨P,6,none⟩=some (.int .i64 so)/\W2.cell? ⟨P,7,none⟩=some (.int .i64 no) from (fun (b:yc W2 P _ 125)=>⟨b.cell 0,b.cell 1,b.cell 2,b.cell 4,b.cell 5,b.cell 6,b.cell 7⟩) ((yaO BP.out).grown hq (by simp)))
   go_wp2
   go_region_held3 (fun w'=>w'.cell? ⟨P,0,none⟩=some (.int .i64 bt)/\w'.cell? ⟨P,1,none⟩=some (.int .i64 bf)/\w'.cell? ⟨P,2,none⟩=some (.int .i64 bd)/\w'.cell? ⟨P,4,none⟩=some (.pointer q)/\w'.cell? ⟨P,5,none⟩=some (.int .i64 ss)/\w'.cell? ⟨P,6,none⟩=some (.int .i64 so)/\w'.cell? ⟨P,7,none⟩=some (.int .i64 no))
    (go_keep)
    (first | (go_at_call 73; refine (cSp.out _ (yi HR.out.a.gr)).mono ?_; rintro e w' ⟨rfl,hq⟩; obtain ⟨s0,s1,s2,s4,s5,s6,s7⟩:=KD.out _ hq))
   have GA:=ya (ya (yi (World.grownBy.refl wr none)) hq) (ysp w' (.cells #[.int .i64 sa,.int .i64 bt,.int .i64 bf,.int .i64 bd,.slice none 0 0,.slice none 0 0,.slice none 0 0,.int .i64 no] 90) none)
   have H6:=hid (HR.out.kept GA)
   have B6:=hid (yc.new w' #[.int .i64 sa,.int .i64 bt,.int .i64 bf,.int .i64 bd,.slice none 0 0,.slice none 0 0,.slice none 0 0,.int .i64 no] 90)
   have hI:=hid (show W.heap.size<=w'.heap.size from Nat.le_trans HR.out.a.gr.size (ya (yi (World.grownBy.refl wr none)) hq).size)
   clear GA hq HR KD BP c0 c1 c2 c4 c5 c6 c7 s0 s1 s2 s4 s5 s6 s7
   generalize w'.alloc (.cells #[.int .i64 sa,.int .i64 bt,.int .i64 bf,.int .i64 bd,.slice none 0 0,.slice none 0 0,.slice none 0 0,.int .i64 no] 90)=W6 at *
   generalize w'.heap.size=I at *
   obtain ⟨a1,k1,rfl⟩:=yh H6.out.a.row
   obtain ⟨a2,k2,rfl⟩:=yh H6.out.b.row
   obtain ⟨a3,k3,rfl⟩:=yh H6.out.c.row
   have B7:=hid (show yc (W6.setCell ⟨I,4,none⟩ (.slice a1 l1.length k1)) I #[.int .i64 sa,.int .i64 bt,.int .i64 bf,.int .i64 bd,.slice a1 l1.length k1,.slice none 0 0,.slice none 0 0,.int .i64 no] 90 by simpa using B6.out.set 4 (.slice a1 l1.length k1))
   have H7:=hid (show Regs W R1 R2 R3 bt 19 bf 19 bd 0 l1 l2 l3 _ _ _ (W6.setCell ⟨I,4,none⟩ (.slice a1 l1.length k1)) from H6.out.img B6.out hI.out)
   have B8:=hid (show yc ((W6.setCell ⟨I,4,none⟩ (.slice a1 l1.length k1)).setCell ⟨I,5,none⟩ (.slice a2 l2.length k2)) I #[.int .i64 sa,.int .i64 bt,.int .i64 bf,.int .i64 bd,.slice a1 l1.length k1,.slice a2 l2.length k2,.slice none 0 0,.int .i64 no] 90 by simpa using B7.out.set 5 (.slice a2 l2.length k2))
   have H8:=hid (show Regs W R1 R2 R3 bt 19 bf 19 bd 0 l1 l2 l3 _ _ _ ((W6.setCell ⟨I,4,none⟩ (.slice a1 l1.length k1)).setCell ⟨I,5,none⟩ (.slice a2 l2.length k2)) from H7.out.img B7.out hI.out)
   have r1:W6.cell? ⟨R1,2,none⟩=some (.slice a1 l1.length k1):=H6.out.a.blk.cell 2
   have i4:W6.cell? ⟨I,4,none⟩=some (.slice none 0 0):=B6.out.cell 4
   have f4:W6.frozen? ⟨I,4,none⟩=false:=B6.out.free 4
   go_upto_region 13 with fail
   clear r1 i4 f4 H6 B6
   generalize W6.setCell ⟨I,4,none⟩ (.slice a1 l1.length k1)=W7 at *
   have r1:W7.cell? ⟨R2,2,none⟩=some (.slice a2 l2.length k2):=H7.out.b.blk.cell 2
   have i4:W7.cell? ⟨I,5,none⟩=some (.slice none 0 0):=B7.out.cell 5
   have f4:W7.frozen? ⟨I,5,none⟩=false:=B7.out.free 5
   go_upto_region 14 with fail
   clear r1 i4 f4 H7 B7
   generalize W7.setCell ⟨I,5,none⟩ (.slice a2 l2.length k2)=W8 at *
   have B9:=hid (show yc (W8.setCell ⟨I,6,none⟩ (.slice a3 l3.length k3)) I #[.int .i64 sa,.int .i64 bt,.int .i64 bf,.int .i64 bd,.slice a1 l1.length k1,.slice a2 l2.length k2,.slice a3 l3.length k3,.int .i64 no] 90 by simpa using B8.out.set 6 (.slice a3 l3.length k3))
   have H9:=hid (show Regs W R1 R2 R3 bt 19 bf 19 bd 0 l1 l2 l3 _ _ _ (W8.setCell ⟨I,6,none⟩ (.slice a3 l3.length k3)) from H8.out.img B8.out hI.out)
   have r1:W8.cell? ⟨R3,2,none⟩=some (.slice a3 l3.length k3):=H8.out.c.blk.cell 2
   have i4:W8.cell? ⟨I,6,none⟩=some (.slice none 0 0):=B8.out.cell 6
   have f4:W8.frozen? ⟨I,6,none⟩=false:=B8.out.free 6
   go_wp2
   clear r1 i4 f4 H8 B8
   generalize W8.setCell ⟨I,6,none⟩ (.slice a3 l3.length k3)=W9 at *
   go_ret
   refine ⟨I,rfl,?_,H9.out.a.gr⟩
   rw [FIN.out]
   exact ⟨_,_,_,B9.out,ybW H9.out.a.row,ybW H9.out.b.row,ybW H9.out.c.row⟩
namespace Ln
def reachesB (kind d:Int):Bool:=if kind=2 then decide (-4096<=d) && decide (d<=4095) else if kind=3 then decide (-1048576<=d) && decide (d<=1048575) else true
def symName (o:Lk.Obj) (i:Int):List UInt8:=if i < 0 then [] else match o.syms[i.toNat]? with
 | none=>[]
 | some y=>y.name
def reachIn (ms:List Mod) (m:Mod) (i:Nat):List Lk.Rel->Option Flt
 | []=>none
 | r :: rs=>if reachesB r.kind (distance ms m r) then reachIn ms m i rs else some ⟨37,i,symName m.obj r.sym⟩
def reachAt (ms:List Mod):Nat->List Mod->Flt
 | _,[]=>ok
 | i,m :: r=>match reachIn ms m i m.obj.rels with
  | some f=>f
  | none=>reachAt ms (i+1) r
def checkReach (ms:List Mod):Flt:=reachAt ms 0 ms
end Ln
theorem yjW (ms:List Ln.Mod) (m:Ln.Mod) (i:Nat) (rs:List Lk.Rel) (j:Nat) (h:j < rs.length):Ln.reachIn ms m i (rs.drop j)=if Ln.reachesB rs[j].kind (Ln.distance ms m rs[j]) then Ln.reachIn ms m i (rs.drop (j+1)) else some ⟨37,i,Ln.symName m.obj rs[j].sym⟩:=by
 rw [ysu h]
 rfl
theorem yjV (ms l:List Ln.Mod) (k:Nat) (h:k < l.length):Ln.reachAt ms k (l.drop k)=match Ln.reachIn ms l[k] k l[k].obj.rels with
  | some f=>f
  | none=>Ln.reachAt ms (k+1) (l.drop (k+1)):=by
 rw [ysu h]
 rfl
set_option maxRecDepth 100000 in
set_option maxHeartbeats 2000000 in
theorem yle (kind d:Int) (w:World) :
  Calls Tryz.prog 113 #[.int .i64 kind,.int .i64 d] w fun e w'=>e = .returned (.bool (Ln.reachesB kind d))/\w'=w:=by
 have R:=hid (show Ln.reachesB kind d=if kind=2 then decide (-4096<=d) && decide (d<=4095) else if kind=3 then decide (-1048576<=d) && decide (d<=1048575) else true from rfl)
 by_cases e2:kind=2
 ·subst e2
  by_cases a:-4096<=d
  ·have d1:decide (-4096<=d)=true:=by simpa using a
   have E:=hid (show Ln.reachesB 2 d=decide (d<=4095) by rw [R.out]; simp [a])
   clear a
   go_enter Tryz.func113,Tryz.ntmps113
   go_wp2
   go_ret
   exact ⟨by rw [E.out]; rfl,rfl⟩
  ·have d1:decide (-4096<=d)=false:=by simpa using a
   have E:=hid (show Ln.reachesB 2 d=false by rw [R.out]; simp [a])
   clear a
   go_enter Tryz.func113,Tryz.ntmps113
   go_wp2
   go_ret
   exact ⟨by rw [E.out]; rfl,rfl⟩
 ·by_cases e3:kind=3
  ·subst e3
   clear e2
   by_cases a:-1048576<=d
   ·have d1:decide (-1048576<=d)=true:=by simpa using a
    have E:=hid (show Ln.reachesB 3 d=decide (d<=1048575) by rw [R.out]; simp [a])
    clear a
    go_enter Tryz.func113,Tryz.ntmps113
    go_wp2
    go_ret
    exact ⟨by rw [E.out]; rfl,rfl⟩
   ·have d1:decide (-1048576<=d)=false:=by simpa using a
    have E:=hid (show Ln.reachesB 3 d=false by rw [R.out]; simp [a])
    clear a
    go_enter Tryz.func113,Tryz.ntmps113
    go_wp2
    go_ret
    exact ⟨by rw [E.out]; rfl,rfl⟩
  ·have E:=hid (show Ln.reachesB kind d=true by rw [R.out,if_neg e2,if_neg e3])
   have d2:(kind == 2)=false:=by simpa using e2
   have d3:(kind == 3)=false:=by simpa using e3
   clear e2 e3
   go_enter Tryz.func113,Tryz.ntmps113
   go_wp2
   go_ret
   exact ⟨by rw [E.out]; rfl,rfl⟩
set_option maxRecDepth 100000 in
set_option maxHeartbeats 2000000 in
theorem yhW (bl:List Nat) (b g:Nat) (m:Ln.Mod) (i:Int) (w:World) (h:yD w bl b g m) (hs:m.obj.syms.length<=65535) :
  Calls Tryz.prog 114 #[ptrV b,.int .i64 i] w fun e w'=>e = .returned (.string (bs (Ln.symName m.obj i)))/\w'=w:=by
 obtain ⟨v1,v2,v3,v4,q0,q1,-⟩:=h
 obtain ⟨at_,ct,af,cf,ad,cd,aa,ca,as_,cs,ar,cr,hb,-,-,-,-,p5,-⟩:=q1.open
 have S:=yag.of_own p5
 have k5:=hb.cell 5
 simp only [ysk,ysl,ysj] at k5
 have k0:w.cell? ⟨b,0,none⟩=some (.pointer (some ⟨g,0,none⟩)):=q0.cell 0
 clear q0 q1 hb p5
 have R:=hid (show Ln.symName m.obj i=if i < 0 then [] else match m.obj.syms[i.toNat]? with
  | none=>[]
  | some y=>y.name from rfl)
 generalize m.obj.syms=ys at *
 unfold ptrV
 by_cases h0:i < 0
 ·have d0:decide (i < 0)=true:=by simpa using h0
  have E:=hid (show Ln.symName m.obj i=[] by rw [R.out,if_pos h0])
  clear h0
  go_enter Tryz.func114,Tryz.ntmps114
  go_wp2
  go_ret
  exact ⟨by rw [E.out]; rfl,rfl⟩
 ·obtain ⟨k,rfl⟩:∃ k:Nat,i=(k:Int):=⟨i.toNat,by omega⟩
  have d0:decide ((k:Int) < 0)=false:=by simp
  clear h0
  by_cases hlt:k < ys.length
  ·have d1:decide ((ys.length:Int)<=(k:Int))=false:=by simp; omega
   obtain ⟨sg,hsg,hgs,hcs⟩:=S (by omega)
   subst hsg
   obtain ⟨q0,q1,q2,q3⟩:=hcs k hlt
   clear hcs
   have E:=hid (show Ln.symName m.obj k=ys[k].name by rw [R.out,if_neg (by omega),Int.toNat_natCast,yst hlt])
   generalize ys[k]=y at *
   go_enter Tryz.func114,Tryz.ntmps114
   go_wp2
   go_ret
   exact ⟨by rw [E.out]; rfl,rfl⟩
  ·have d1:decide ((ys.length:Int)<=(k:Int))=true:=by simp; omega
   have E:=hid (show Ln.symName m.obj k=[] by rw [R.out,if_neg (by omega),Int.toNat_natCast,List.getElem?_eq_none (by omega)])
   go_enter Tryz.func114,Tryz.ntmps114
   go_wp2
   go_ret
   exact ⟨by rw [E.out]; rfl,rfl⟩
set_option maxRecDepth 100000 in
set_option maxHeartbeats 8000000 in
theorem yhE (W0:World) (P:Nat) (bt bf bd:Int) (vm:Value) (bl gl:List Nat) (ms:List Ln.Mod) (st:Ln.Spot) (no:Int) (W:World) (h:ProgAt W0 P bt bf bd vm bl gl ms st no W) (hn:∀ m∈ms,yI bl.length m) :
  Calls Tryz.prog 75 #[ptrV P] W fun e W'=>e = .returned (lfA (Ln.checkReach ms))/\W.grownBy W' none:=by
 obtain ⟨am,cm,rfl⟩:=yh h.row
 have HP:=hid h
 have c3:W.cell? ⟨P,3,none⟩=some (.slice am bl.length cm):=h.blk.cell 3
 have hbl:=h.few
 have LO:=hid h.lenO
 have HN:=hid hn
 have G0:=hid (ysp W (.cells #[.int .i64 0,.int .i64 0,.string ⟨#[]⟩] 45) none)
 have B0:=hid (yc.new W #[.int .i64 0,.int .i64 0,.string ⟨#[]⟩] 45)
 have c3':=yd c3 G0.out
 clear h hn c3
 unfold ptrV
 go_enter Tryz.func75,Tryz.ntmps75
 go_wp2
 generalize W.alloc (.cells #[.int .i64 0,.int .i64 0,.string ⟨#[]⟩] 45)=W1 at *
 clear c3'
 go_loopw [12] (fun i wr=>∃ k:Nat,k<=bl.length/\i = .int .i64 k/\Ln.checkReach ms=Ln.reachAt ms k (ms.drop k)/\W1.grownBy wr none) (fun i _=>bl.length - (intOf i).toNat)
 case atStart=>exact ⟨0,Nat.zero_le _,rfl,rfl,World.grownBy.refl _ _⟩
 case round =>
  obtain ⟨k,hk,rfl,hf,hgr⟩:=hrel
  have HF:=hid hf
  have HG:=hid hgr
  clear hf hgr
  by_cases hlt:k < bl.length
  ·have hko:k < ms.length:=by rw [LO.out]; exact hlt
   have hkg:k < gl.length:=by rw [HP.out.lenG]; exact hlt
   have PR:=HP.out.kept (ya G0.out HG.out)
   obtain ⟨sg,off,hsg,hsc⟩:=PR.modsIn.ptrs (by omega)
   have ck:=hsc k hlt
   have HM:yD wr bl bl[k] (gl[k]'hkg) ms[k]:=PR.mods k hlt
   have MN:=HN.out _ (ysr hko)
   have MA:=hid (PR.modsAt HN.out)
   have HMH:=hid HM
   obtain ⟨v1,v2,v3,v4,q0,q1,-⟩:=HM
   obtain ⟨at_,ct,af,cf,ad,cd,aa,ca,as_,cs,ar,cr,hb,-,-,-,-,-,p6⟩:=q1.open
   have S:=hid (ycj.of_own p6)
   have k6:=hb.cell 6
   simp only [ysk,ysl,ysj] at k6
   have k0:wr.cell? ⟨bl[k],0,none⟩=some (.pointer (some ⟨gl[k]'hkg,0,none⟩)):=q0.cell 0
   have hrl:=MN.rels.1
   have hsy:=HP.out.syms _ (ysr hko)
   have FD:=hid (yjV ms ms k hko)
   have cD:=hid (fun W2 (hg:wr.grownBy W2 none) r (hr:r∈ms[k].obj.rels)=>ycS bl ms bl[k] (gl[k]'hkg) ms[k] r W2 (MA.out.kept hg) (HMH.out.kept hg) MN (MN.rels.2 r hr).2.1 (MN.rels.2 r hr).2.2)
   have cS:=hid (fun W2 (hg:wr.grownBy W2 none) i=>yhW bl bl[k] (gl[k]'hkg) ms[k] i W2 (HMH.out.kept hg) hsy)
   subst hsg
   clear hsc q0 q1 hb p6 PR MN hsy
   generalize (gl[k]'hkg)=gk at *
   generalize bl[k]=bk at *
   generalize ms[k]=m at *
   have g1:(k:Int) < (bl.length:Int):=by omega
   unfold ptrV relA at *
   go_wp2
   generalize wr=U at *
   clear ck k0 k6
   go_loopw [25] (fun i wr=>∃ j:Nat,j<=m.obj.rels.length/\i = .int .i64 j/\Ln.reachIn ms m k m.obj.rels=Ln.reachIn ms m k (m.obj.rels.drop j)/\U.grownBy wr none) (fun i _=>m.obj.rels.length - (intOf i).toNat)
   case atStart=>exact ⟨0,Nat.zero_le _,rfl,rfl,World.grownBy.refl _ _⟩
   case round =>
    obtain ⟨j,hj,rfl,hf2,hgr2⟩:=hrel
    have HF2:=hid hf2
    have HG2:=hid hgr2
    clear hf2 hgr2
    by_cases hlt2:j < m.obj.rels.length
    ·obtain ⟨sg2,hsg2,hgs,hcs⟩:=S.out.grown HG2.out (by omega)
     subst hsg2
     obtain ⟨q0,q1,q2,q3,q4⟩:=hcs j hlt2
     clear hcs
     have g2:(j:Int) < (m.obj.rels.length:Int):=by omega
     have FI:=hid (show Ln.reachIn ms m k m.obj.rels=_ from HF2.out.trans (yjW ms m k m.obj.rels j hlt2))
     have cE:=hid (fun W2 hg=>cD.out W2 hg m.obj.rels[j] (ysr hlt2))
     have hn2:m.obj.rels.length=m.obj.rels.length:=rfl
     generalize m.obj.rels[j]=r at *
     have BX:=hid (yc.new wr #[.int .i64 r.sect,.int .i64 r.off,.int .i64 r.kind,.int .i64 r.sym,.int .i64 r.addend] 102)
     have GA:=hid (ysp wr (.cells #[.int .i64 r.sect,.int .i64 r.off,.int .i64 r.kind,.int .i64 r.sym,.int .i64 r.addend] 102) none)
     have GW:=hid (ya HG2.out GA.out)
     have cRe:=hid (fun d W2=>yle r.kind d W2)
     generalize Ln.distance ms m r=ds at *
     go_upto_region 7 with fail
     clear q0 q1 q2 q3 q4
     generalize wr.alloc (.cells #[.int .i64 r.sect,.int .i64 r.off,.int .i64 r.kind,.int .i64 r.sym,.int .i64 r.addend] 102)=W2 at *
     generalize wr.heap.size=L at *
     have c0:W2.cell? ⟨L,0,none⟩=some (.int .i64 r.sect):=BX.out.cell 0
     have c1:W2.cell? ⟨L,1,none⟩=some (.int .i64 r.off):=BX.out.cell 1
     have c2:W2.cell? ⟨L,2,none⟩=some (.int .i64 r.kind):=BX.out.cell 2
     have c3:W2.cell? ⟨L,3,none⟩=some (.int .i64 r.sym):=BX.out.cell 3
     have c4:W2.cell? ⟨L,4,none⟩=some (.int .i64 r.addend):=BX.out.cell 4
     have BD:=hid (fun W (hq:W2.drew.grownBy W none)=>show yc W L #[.int .i64 r.sect,.int .i64 r.off,.int .i64 r.kind,.int .i64 r.sym,.int .i64 r.addend] 102 from (yaO BX.out).grown hq (by simp))
     go_region_held3 (fun w'=>w'.cell? ⟨L,0,none⟩=some (.int .i64 r.sect)/\w'.cell? ⟨L,1,none⟩=some (.int .i64 r.off)/\w'.cell? ⟨L,2,none⟩=some (.int .i64 r.kind)/\w'.cell? ⟨L,3,none⟩=some (.int .i64 r.sym)/\w'.cell? ⟨L,4,none⟩=some (.int .i64 r.addend))
      (go_keep)
      (first | (go_at_call 107; refine (cE.out _ (yi GW.out)).mono ?_; rintro e w' ⟨rfl,hq⟩; have bq:=BD.out _ hq; have s0:=bq.cell 0; have s1:=bq.cell 1; have s2:=bq.cell 2; have s3:=bq.cell 3; have s4:=bq.cell 4; simp only [ysk,ysl,ysj] at s0 s1 s2 s3 s4) | (go_at_call 113; refine (cRe.out _ _).mono ?_; rintro e w2 ⟨rfl,hw⟩; rw [hw]; clear hw w2))
     have GQ:=hid (ya (yi GW.out) hq)
     have BQ:=hid bq
     clear hq bq c0 c1 c2 c3 c4 s0 s1 s2 s3 s4 cE cRe GA
     generalize hrb:Ln.reachesB r.kind ds=rb at *
     have HRB:=hid hrb
     clear hrb
     cases rb
     ·have E:=hid (show Ln.checkReach ms=⟨37,k,Ln.symName m.obj r.sym⟩ by rw [HF.out,FD.out,FI.out]; rfl)
      have BR:=hid (B0.out.grown (ya HG.out GQ.out) (by simp))
      have cSy:=hid (cS.out _ GQ.out r.sym)
      generalize Ln.symName m.obj r.sym=nm at *
      have c3:w'.cell? ⟨L,3,none⟩=some (.int .i64 r.sym):=BQ.out.cell 3
      have z0:w'.cell? ⟨W.heap.size,0,none⟩=some (.int .i64 0):=BR.out.cell 0
      have z1:w'.cell? ⟨W.heap.size,1,none⟩=some (.int .i64 0):=BR.out.cell 1
      have z2:w'.cell? ⟨W.heap.size,2,none⟩=some (.string ⟨#[]⟩):=BR.out.cell 2
      have f0:=BR.out.free 0
      have f1:=BR.out.free 1
      have f2:=BR.out.free 2
      go_wp2_with fail
      refine cSy.out.mono ?_
      rintro e w2 ⟨rfl,hw⟩
      rw [hw]
      clear hw w2 cSy c3
      go_wp2
      have F:=((BR.out.set 0 (.int .i64 37)).set 1 (.int .i64 k)).set 2 (.string (bs nm))
      have h0:=F.cell 0
      have h1:=F.cell 1
      have h2:=F.cell 2
      simp only [yso,ysm,ysn,ysk,ysl,ysj] at h0 h1 h2
      refine bodyPost_ret (v:=lfA ⟨37,k,nm⟩) ?_ rfl ⟨by rw [E.out],yx (ya G0.out (ya HG.out GQ.out)) _ (Nat.le_refl _) _ _ _⟩
      clear F z0 z1 z2 f0 f1 f2
      generalize World.setCell _ _ _=WF at *
      simp [results,Tryz.results75,go_sem,lfA,h0,h1,h2]
     ·have E:=hid (show Ln.reachIn ms m k m.obj.rels=Ln.reachIn ms m k (m.obj.rels.drop (j+1)) from FI.out)
      go_wp2
      go_roundw
      case rel=>exact ⟨j+1,by omega,by go_num,E.out,GQ.out⟩
      case measure=>simp [intOf]; omega
    ·obtain rfl:j=m.obj.rels.length:=by omega
     have E:=hid (show Ln.reachIn ms m k m.obj.rels=none by rw [HF2.out,List.drop_length]; rfl)
     have g3:decide ((m.obj.rels.length:Int) < (m.obj.rels.length:Int))=false:=by simp
     go_wp2
     go_roundw
     case rel=>exact ⟨k+1,by omega,by go_num,by rw [HF.out,FD.out,E.out],ya HG.out HG2.out⟩
     case measure=>simp [intOf]; omega
  ·obtain rfl:k=bl.length:=by omega
   have E:=hid (show Ln.checkReach ms=Ln.ok by rw [HF.out,<- LO.out,List.drop_length]; rfl)
   have g3:decide ((bl.length:Int) < (bl.length:Int))=false:=by simp
   have BR:=hid (B0.out.grown HG.out (by simp))
   have z0:wr.cell? ⟨W.heap.size,0,none⟩=some (.int .i64 0):=BR.out.cell 0
   have z1:wr.cell? ⟨W.heap.size,1,none⟩=some (.int .i64 0):=BR.out.cell 1
   have z2:wr.cell? ⟨W.heap.size,2,none⟩=some (.string ⟨#[]⟩):=BR.out.cell 2
   have f0:=BR.out.free 0
   have f1:=BR.out.free 1
   have f2:=BR.out.free 2
   go_wp2
   have F:=((BR.out.set 0 (.int .i64 0)).set 1 (.int .i64 0)).set 2 (.string ⟨#[]⟩)
   have h0:=F.cell 0
   have h1:=F.cell 1
   have h2:=F.cell 2
   simp only [yso,ysm,ysn,ysk,ysl,ysj] at h0 h1 h2
   refine bodyPost_ret (v:=lfA Ln.ok) ?_ rfl ⟨by rw [E.out],yx (ya G0.out HG.out) _ (Nat.le_refl _) _ _ _⟩
   clear F z0 z1 z2 f0 f1 f2
   generalize World.setCell _ _ _=WF at *
   simp [results,Tryz.results75,go_sem,lfA,Ln.ok,bs,h0,h1,h2]
namespace Im
def endT (m:Img):Int:=m.text+4 * (m.T.length:Int)
def endF (m:Img):Int:=m.far+4 * (m.F.length:Int)
def endD (m:Img):Int:=m.data+4 * ((m.D.length:Int)+m.noughts)
def Fits (m:Img):Prop:=(endT m<=1073741824/\endF m<=1073741824/\endD m<=1073741824)/\(¬ Meet m.text (endT m) m.far (endF m)/\¬ Meet m.text (endT m) m.data (endD m)/\¬ Meet m.far (endF m) m.data (endD m))
end Im
def regC (a b:Int):Array Value:=#[.int .i64 a,.int .i64 b]
theorem yaw (w:World) (a b:Int):yc ((w.alloc (.cells (regC a b) 171)).alloc (.cells (regC a b) 171)).drew w.heap.size (regC a b) 171 /\
  yc ((w.alloc (.cells (regC a b) 171)).alloc (.cells (regC a b) 171)).drew (w.heap.size+1) (regC a b) 171/\w.grownBy ((w.alloc (.cells (regC a b) 171)).alloc (.cells (regC a b) 171)).drew none:=by
 have b1:=yc.new w (regC a b) 171
 have b2:=yc.new (w.alloc (.cells (regC a b) 171)) (regC a b) 171
 rw [show (w.alloc (.cells (regC a b) 171)).heap.size=w.heap.size+1 from Array.size_push _] at b2
 exact ⟨(b1.grown (ysp _ _ none) (by simp)).drewN 1,b2.drewN 1,yi (ya (ysp _ _ none) (ysp _ _ none))⟩
set_option maxHeartbeats 8000000 in
theorem yex (g:Nat) (m:Im.Img) (w:World) (h:yah w g m) (ht:Im.Tame m) :
  Calls Tryz.prog 74 #[.pointer (some ⟨g,0,none⟩)] w fun e w'=>yg e (Im.Fits m)/\w.grownBy w' none:=by
 obtain ⟨at_,ct,af,cf,ad,cd,hb,q1,q2,q3⟩:=h.open
 have HB:=hid hb
 have hl:=ht.lens
 have hn:=ht.noughts
 have r1:=ht.text
 have r2:=ht.far
 have r3:=ht.data
 have cT:=hid (fun W=>ydW m.text m.T.length W ht.text.1 ht.text.2 (by omega) (by omega))
 have cF:=hid (fun W=>ydW m.far m.F.length W ht.far.1 ht.far.2 (by omega) (by omega))
 have cD:=hid (fun W=>ydW m.data (m.D.length+m.noughts) W ht.data.1 ht.data.2 (by omega) (by omega))
 have F0:=hid (show Im.Fits m↔(Im.endT m<=1073741824/\Im.endF m<=1073741824/\Im.endD m<=1073741824)/\(¬ Im.Meet m.text (Im.endT m) m.far (Im.endF m)/\¬ Im.Meet m.text (Im.endT m) m.data (Im.endD m)/\¬ Im.Meet m.far (Im.endF m) m.data (Im.endD m)) from Iff.rfl)
 generalize Im.Fits m=Q at *
 have ww:IntKind.i64.wrap ((m.D.length:Int)+m.noughts)=(m.D.length:Int)+m.noughts:=IntWalk.i64_in _ ⟨by omega,by omega⟩
 clear h ht hb q1 q2 q3
 have k1:=HB.out.cell 1
 have k4:=HB.out.cell 4
 simp only [ysk,ysl,ysj] at k1 k4
 have hlt:=HB.out.lt
 have hne:g≠w.heap.size:=by omega
 go_enter Tryz.func74,Tryz.ntmps74
 go_upto_region 1 with fail
 go_cut [3] from 6 to 16 (fun v wx=>∃ r,v = .pointer (some ⟨r,0,none⟩)/\yc wx r (regC m.text (Im.endT m)) 171/\w.grownBy wx none)
 case first =>
  go_region_with (go_at_call 111; refine (cT.out _).mono ?_; rintro e w' ⟨rfl,rfl⟩)
  all_goals (go_wp2_with fail; go_meet; first | exact ⟨w.heap.size,rfl,(yaw w m.text (Im.endT m)).1,(yaw w m.text (Im.endT m)).2.2⟩ | exact ⟨w.heap.size+1,rfl,(yaw w m.text (Im.endT m)).2.1,(yaw w m.text (Im.endT m)).2.2⟩)
 case rest =>
 obtain ⟨ra,rfl,b1,g1⟩:=hcut
 clear k1 k4 hlt hne cT
 generalize wc=W1 at *
 have HB1:=hid (HB.out.grown g1 (by simp))
 have P1:=hid b1
 have G1:=hid g1
 clear b1 g1 HB
 have k2:=HB1.out.cell 2
 have k5:=HB1.out.cell 5
 simp only [ysk,ysl,ysj] at k2 k5
 have hlt:=HB1.out.lt
 have hne:g≠W1.heap.size:=by omega
 go_upto_region 2 with fail
 go_cut [4] from 17 to 27 (fun v wx=>∃ r,v = .pointer (some ⟨r,0,none⟩)/\yc wx r (regC m.far (Im.endF m)) 171/\W1.grownBy wx none)
 case first =>
  go_region_with (go_at_call 111; refine (cF.out _).mono ?_; rintro e w' ⟨rfl,rfl⟩)
  all_goals (go_wp2_with fail; go_meet; first | exact ⟨W1.heap.size,rfl,(yaw W1 m.far (Im.endF m)).1,(yaw W1 m.far (Im.endF m)).2.2⟩ | exact ⟨W1.heap.size+1,rfl,(yaw W1 m.far (Im.endF m)).2.1,(yaw W1 m.far (Im.endF m)).2.2⟩)
 case rest =>
 obtain ⟨rb,rfl,b1,g1⟩:=hcut
 clear k2 k5 hlt hne cF
 generalize wc=W2 at *
 have HB2:=hid (HB1.out.grown g1 (by simp))
 have P1':=hid (P1.out.grown g1 (by simp))
 have P2:=hid b1
 have G2:=hid (ya G1.out g1)
 clear b1 g1 HB1 P1 G1
 have k3:=HB2.out.cell 3
 have k6:=HB2.out.cell 6
 have k7:=HB2.out.cell 7
 simp only [ysk,ysl,ysj] at k3 k6 k7
 have hlt:=HB2.out.lt
 have hne:g≠W2.heap.size:=by omega
 go_upto_region 3 with fail
 go_cut [5] from 28 to 43 (fun v wx=>∃ r,v = .pointer (some ⟨r,0,none⟩)/\yc wx r (regC m.data (Im.endD m)) 171/\W2.grownBy wx none)
 case first =>
  go_region_with (go_at_call 111; refine (cD.out _).mono ?_; rintro e w' ⟨rfl,rfl⟩)
  all_goals (go_wp2_with fail; go_meet; first | exact ⟨W2.heap.size,rfl,(yaw W2 m.data (Im.endD m)).1,(yaw W2 m.data (Im.endD m)).2.2⟩ | exact ⟨W2.heap.size+1,rfl,(yaw W2 m.data (Im.endD m)).2.1,(yaw W2 m.data (Im.endD m)).2.2⟩)
 case rest =>
 obtain ⟨rc,rfl,b1,g1⟩:=hcut
 clear k3 k6 k7 hlt hne cD
 generalize wc=W3 at *
 have B1:=hid (P1'.out.grown g1 (by simp))
 have B2:=hid (P2.out.grown g1 (by simp))
 have B3:=hid b1
 have G:=hid (ya G2.out g1)
 clear b1 g1 HB2 P1' P2 G2
 generalize Im.endT m=eT at *
 generalize Im.endF m=eF at *
 generalize Im.endD m=eD at *
 have a0:=B1.out.cell 0
 have a1:=B1.out.cell 1
 have c0:=B2.out.cell 0
 have c1:=B2.out.cell 1
 have d0:=B3.out.cell 0
 have d1:=B3.out.cell 1
 simp only [regC,ysk,ysl,ysj] at a0 a1 c0 c1 d0 d1
 by_cases z1:1073741824 < eT
 ·have e1:decide (1073741824 < eT)=true:=by simpa using z1
  have N:=hid (show ¬ Q from fun q=>by have:=(F0.out.1 q).1.1; omega)
  clear z1
  go_wp2
  go_ret
  exact ⟨yg.no N.out,G.out⟩
 ·have e1:decide (1073741824 < eT)=false:=by simpa using z1
  by_cases z2:1073741824 < eF
  ·have e2:decide (1073741824 < eF)=true:=by simpa using z2
   have N:=hid (show ¬ Q from fun q=>by have:=(F0.out.1 q).1.2.1; omega)
   clear z1 z2
   go_wp2
   go_ret
   exact ⟨yg.no N.out,G.out⟩
  ·have e2:decide (1073741824 < eF)=false:=by simpa using z2
   by_cases z3:1073741824 < eD
   ·have e3:decide (1073741824 < eD)=true:=by simpa using z3
    have N:=hid (show ¬ Q from fun q=>by have:=(F0.out.1 q).1.2.2; omega)
    clear z1 z2 z3
    go_wp2
    go_ret
    exact ⟨yg.no N.out,G.out⟩
   ·have e3:decide (1073741824 < eD)=false:=by simpa using z3
    have LE:=hid (show eT<=1073741824/\eF<=1073741824/\eD<=1073741824 by omega)
    clear z1 z2 z3
    go_wp2_with fail
    refine (ygx m.text eT m.far eF W3).mono ?_
    rintro e V1 ⟨t1,h1⟩
    have G1:=hid (ya G.out h1)
    replace a0:=yd a0 h1
    replace a1:=yd a1 h1
    replace c0:=yd c0 h1
    replace c1:=yd c1 h1
    replace d0:=yd d0 h1
    replace d1:=yd d1 h1
    rcases t1.split with ⟨rfl,p1⟩ | ⟨rfl,p1⟩ <;> clear t1 h1
    ·go_wp2_with fail
     refine (ygx m.text eT m.data eD V1).mono ?_
     rintro e V2 ⟨t2,h2⟩
     have G2:=hid (ya G1.out h2)
     replace a0:=yd a0 h2
     replace a1:=yd a1 h2
     replace c0:=yd c0 h2
     replace c1:=yd c1 h2
     replace d0:=yd d0 h2
     replace d1:=yd d1 h2
     rcases t2.split with ⟨rfl,p2⟩ | ⟨rfl,p2⟩ <;> clear t2 h2
     ·go_wp2_with fail
      refine (ygx m.far eF m.data eD V2).mono ?_
      rintro e V3 ⟨t3,h3⟩
      have G3:=hid (ya G2.out h3)
      rcases t3.split with ⟨rfl,p3⟩ | ⟨rfl,p3⟩ <;> clear t3 h3
      ·go_wp2
       go_ret
       exact ⟨yg.yes (F0.out.2 ⟨LE.out,p1.out,p2.out,p3.out⟩),G3.out⟩
      ·go_wp2
       go_ret
       exact ⟨yg.no fun q=>(F0.out.1 q).2.2.2 p3.out,G3.out⟩
     ·go_wp2
      go_ret
      exact ⟨yg.no fun q=>(F0.out.1 q).2.2.1 p2.out,G2.out⟩
    ·go_wp2
     go_ret
     exact ⟨yg.no fun q=>(F0.out.1 q).2.1 p1.out,G1.out⟩
end Go.Proofs.YtpgklkhgfcjceaaGreatDoor
