/- The assembler: words are laid, section by section. -/
/- The assembler: words with a relocation. -/
import Derived.Test.YtnfgdlkiialnnaaGreatDoorG14
namespace Go.Proofs.YtnfgdlkiialnnaaGreatDoor
open Go.RowKit

theorem AsmAt.newBss {B:Nat} {s:ByteArray} {b g:Nat} {V:World} {st:As.St} {vt vf vd va vs vr:Value} (h:AsmAt B s b g st V) (ho:ObjOwn B V b g st.obj vt vf vd va vs vr) (n:Int) (hn:0≤n∧n≤64) :
  Does B s b g V { st with obj:={ st.obj with bss:=n } } (V.setCell ⟨g,3,none⟩ (.int .i64 n)):=by
 have gs:=grown_set V g 3 (.int .i64 n)
 have nr:NewRow B V (V.setCell ⟨g,3,none⟩ (.int .i64 n)) b g (blkV g) (blkV g):=⟨fun k hk _ hkg=>gs.block k hk (by simpa using hkg),fun k hk=>.inl hk,gs.os,gs.tape,gs.output,gs.size⟩
 have nb:=ho.blk.set 3 (.int .i64 n)
 have hlo:=h.lo
 have row:∀ {e:TypeId} {size m:Nat} {u:Value} {xs:List Value} {j:Nat},[blkV b,blkV g,vt,vf,vd,va,vs,vr][j]?=some u→1≠j→V.ownsRow B e size u m xs→(V.setCell ⟨g,3,none⟩ (.int .i64 n)).ownsRow B e size u m xs:=fun hj hne hu =>
  ownsRow_keep hu fun k hk=>gs.block k (hu.lt k hk).2 (fun e=>ho.apart.ne (i:=1) rfl hj hne k (by simpa [blkV,Value.ownBlock] using e.symm) hk)
 have low:Below B V (V.setCell ⟨g,3,none⟩ (.int .i64 n)):=(Below.refl B V).grown gs h.size (by intro k hk; simp at hk; omega)
 refine ⟨⟨h.blk.grown gs (by simpa using hlo.2.2.2),⟨vt,vf,vd,va,vs,vr,by simpa using nb,row (j:=2) rfl (by omega) ho.text,row (j:=3) rfl (by omega) ho.far,row (j:=4) rfl (by omega) ho.data,row (j:=5) rfl (by omega) ho.align,row (j:=6) rfl (by omega) ho.syms,row (j:=7) rfl (by omega) ho.rels,ho.apart⟩,h.lo,h.ok.obj' _ h.ok.text h.ok.far h.ok.data hn h.ok.align h.ok.syms h.ok.rels,h.tabs.grownAt gs (by omega)⟩,low,?_⟩
 intro k cs t h1 h2 _ _ _ hb
 refine hb.grown gs ?_
 intro e
 obtain rfl:k=g:=by simpa using e
 have:=hb.symm.trans ho.blk
 simp at this
 exact h2 this.2

theorem refuse_failed (e pos:Nat) (st:As.St) (he:e≠0):As.failed (As.refuse e pos st)=true:=by
 unfold As.refuse
 split
 ·rename_i h; exact h
 ·unfold As.failed; simp [he]

set_option maxRecDepth 100000 in
set_option maxHeartbeats 8000000 in
theorem lay_any (B:Nat) (s:ByteArray) (b g:Nat) (st1:As.St) (ao:Option Addr) (cap:Nat) (ws:List Int) (W:World) (h:AsmAt B s b g st1 W) (hw:WordsAt W ao cap ws) (hn:ws.length≤4096) :
  Calls Tryz.prog 208 #[.pointer (some ⟨b,0,none⟩),.slice ao ws.length cap] W fun en W'=>en = .returned (.tuple #[])∧Does B s b g W (As.lay ws st1) W':=by
 obtain ⟨i0,hi,hz0,hz1,hz2⟩:=info_parts Tryz.infoInt
 have HW:=hid h
 have HWD0:=hid hw
 have c13:=cell_sect h
 have c14:=cell_obj h
 have hsb:=secLen_bnd h.ok
 have hpos:=h.ok.op.pos
 have HD0:=hid (fun n=>h.doesB.drewN n)
 have cL:=hid (fun V hV=>length_any B s b g st1 V hV)
 have cM:=hid (fun V hV=>limit_any B s b g st1 V hV)
 have cF:=hid (fun V hV=>failed_any B s b g st1 V hV)
 have hlim:64≤As.limit st1.sect∧As.limit st1.sect≤1200:=by unfold As.limit; repeat' split <;> omega
 have RS:=hid (show As.lay ws st1=if 4 * As.limit st1.sect < 4 * As.secLen st1.obj st1.sect+4 * (ws.length:Int) then As.refuse 13 st1.op.pos st1 else if As.failed st1 then st1 else { st1 with obj:=As.addWords st1.obj st1.sect ws } from rfl)
 have hsect:=h.ok.sect
 generalize As.lay ws st1=X at *
 generalize hq:As.secLen st1.obj st1.sect=q at *
 generalize hl:As.limit st1.sect=lim at *
 have HQ:=hid hq
 have HL:=hid hl
 clear h hw hq hl
 go_enter Tryz.func208,Tryz.ntmps208
 go_wp2
 go_quiet ((go_at_call 96; exact Calls.quiet_of_same (cL.out _ (HD0.out _).1)))
 go_wp2_with fail
 refine (cM.out _ (HD0.out _).1).mono ?_
 rintro e w1 ⟨rfl,rfl⟩
 have D0:=hid ((HD0.out nq).does HW.out)
 have HWD:=hid (HWD0.out.grown (grown_drewN (World.grownBy.refl _ _) nq))
 clear HD0 c13 c14 cL cM HWD0
 generalize W.drewN nq=V1 at *
 by_cases hov:4 * lim < 4 * q+4 * (ws.length:Int)
 ·have D1:decide (4 * lim < 4 * q+4 * (ws.length:Int))=true:=by simp; omega
  rw [if_pos hov] at RS
  have c10:=cell_op D0.out.1
  clear hov
  go_wp2_with fail
  refine (refuse_any B s b g st1 13 st1.op.pos V1 D0.out.1 (by omega) hpos).mono ?_
  rintro e V2 ⟨rfl,h2⟩
  have D2:=hid (D0.out.afterB h2)
  have RFD:=hid (show As.failed (As.refuse 13 st1.op.pos st1)=true from refuse_failed _ _ _ (by omega))
  clear h2 c10
  go_wp2_with fail
  refine (failed_any B s b g _ V2 D2.out.1).mono ?_
  rintro e w2 ⟨rfl,rfl⟩
  rw [RFD.out]
  go_wp2
  (try simp only [Exit.inBlock,Exit.then]); refine bodyPost_ret (results_none rfl _ _ _) rfl ?_
  rw [RS.out]
  exact ⟨rfl,D2.out⟩
 ·have D1:decide (4 * lim < 4 * q+4 * (ws.length:Int))=false:=by simp; omega
  rw [if_neg hov] at RS
  have ROOM:=hid (show As.secLen st1.obj st1.sect+ws.length≤As.limit st1.sect by rw [HQ.out,HL.out]; omega)
  clear hov
  go_wp2_with fail
  refine (cF.out V1 D0.out.1).mono ?_
  rintro e w2 ⟨rfl,rfl⟩
  clear cF
  have D:=hid D0.out
  clear D0
  cases hf:As.failed st1
  ·rw [hf,if_neg (by simp)] at RS
   have RX:=hid RS.out
   clear hf RS
   rcases (show st1.sect=1∨st1.sect=2∨st1.sect=3∨st1.sect=4 by omega) with es | es | es | es
   all_goals
    have ES:=hid es
    clear es
   ·obtain ⟨vt,vf,vd,va,vs,vr,ho⟩:=D.out.1.own
    obtain ⟨ao0,cap0,rfl⟩:=own_form ho.text
    have HO:=hid ho
    have hlen:st1.obj.text.length+ws.length≤1200:=by have:=ROOM.out; unfold As.limit As.secLen at this; simp [ES.out] at this; omega
    have g0:=ho.blk.cell 0
    simp only [List.getElem?_toArray,List.getElem?_cons_zero] at g0
    have c14:=cell_obj D.out.1
    have hA:Hid (w2.drew.ownsRow B 3 1 (.slice ao0 st1.obj.text.length cap0) st1.obj.text.length (st1.obj.text.map (Value.int .i64))):=ho.text.drew
    have hWD:Hid (WordsAt w2.drew ao cap ws):=HWD.out.grown (grown_drew (World.grownBy.refl _ _))
    have hbs:Hid (B≤w2.drew.heap.size):=D.out.1.size
    have hb0:Hid (some b≠Value.ownBlock (.slice ao0 st1.obj.text.length cap0)):=fun e=>ho.apart.ne (i:=0) (j:=2) rfl rfl (by omega) b rfl e.symm
    have hg0:Hid (some g≠Value.ownBlock (.slice ao0 st1.obj.text.length cap0)):=fun e=>ho.apart.ne (i:=1) (j:=2) rfl rfl (by omega) g rfl e.symm
    have KB:Hid (∀ w3,w2.grownBy w3 (Value.ownBlock (.slice ao0 st1.obj.text.length cap0))→w3.cell? ⟨b,14,none⟩=some (.pointer (some ⟨g,0,none⟩))):=fun w3 h=>h.cell c14 hb0.out
    have KG:Hid (∀ w3,w2.grownBy w3 (Value.ownBlock (.slice ao0 st1.obj.text.length cap0))→BlkAt w3 g #[.slice ao0 st1.obj.text.length cap0,vf,vd,.int .i64 st1.obj.bss,va,vs,vr] 90):=fun w3 h=>HO.out.blk.grown h hg0.out
    have FIN:Hid (∀ w3 ao' cap',w2.grownBy w3 (Value.ownBlock (.slice ao0 st1.obj.text.length cap0))→(Value.ownBlock (.slice ao' (st1.obj.text.length+ws.length) cap')=Value.ownBlock (.slice ao0 st1.obj.text.length cap0)∨Value.ownBlock (.slice ao' (st1.obj.text.length+ws.length) cap')=some w2.heap.size)→w3.ownsRow B 3 1 (.slice ao' (st1.obj.text.length+ws.length) cap') (st1.obj.text.length+ws.length) (st1.obj.text.map (Value.int .i64) ++ ws.map (Value.int .i64)) →
      Does B s b g W X (w3.setCell ⟨g,0,none⟩ (.slice ao' (st1.obj.text.length+ws.length) cap'))∧(w3.setCell ⟨g,0,none⟩ (.slice ao' (st1.obj.text.length+ws.length) cap')).cell? ⟨b,14,none⟩=some (.pointer (some ⟨g,0,none⟩))):=fun w3 ao' cap' gd hat hown=>by
     have nr:NewRow B w2 (w3.setCell ⟨g,0,none⟩ (.slice ao' (st1.obj.text.length+ws.length) cap')) b g (.slice ao0 st1.obj.text.length cap0) (.slice ao' (st1.obj.text.length+ws.length) cap'):=NewRow.app0 gd hat
     have nb:=(KG.out w3 gd).set 0 (.slice ao' (st1.obj.text.length+ws.length) cap')
     have gs:=grown_set w3 g 0 (.slice ao' (st1.obj.text.length+ws.length) cap')
     refine ⟨?_,gs.cell (KB.out w3 gd) (by simpa using fun e=>D.out.1.lo.2.2.2 e)⟩
     rw [show X={ st1 with obj:={ st1.obj with text:=st1.obj.text ++ ws } } from by rw [RX.out]; unfold As.addWords; simp [ES.out]]
     refine D.out.after (D.out.1.newText HO.out nr (st1.obj.text ++ ws) (by rw [List.length_append]; exact hlen) (by simpa using nb) ?_)
     rw [List.length_append,List.map_append]
     exact own_keep_set hown (fun k hk=>by
      rcases hat with h1 | h1
      ·rw [h1] at hk
       exact fun e=>hg0.out (by rw [e,hk])
      ·rw [h1] at hk
       simp at hk
       have:=HO.out.blk.lt
       omega)
    have hsc:=hid (show w2.cell? ⟨b,13,none⟩=some (.int .i64 1) from by have:=cell_sect D.out.1; rw [ES.out] at this; exact this)
    have hsc2:=hsc.out
    clear ho
    go_wp2
    clear hsc2
    refine wp_region_held_drew (S:=(fun w'=>w'.cell? ⟨b,14,none⟩=some (.pointer (some ⟨g,0,none⟩)))) (by kernel_rfl) c14 ?_
    intro hS
    refine wpAnyH_take (i:=0) (v:=?_) rfl (by kernel_rfl) (by kernel_rfl) (by kernel_rfl) (fun _ _ _ h=>h) (Or.inl ⟨by kernel_rfl,?_⟩) hS ?_
    rotate_left
    ·intro w' hw'; have x0:=hw'; go_simp; with_reducible rfl
    refine wpAnyH_take (i:=1) (v:=?_) rfl (by kernel_rfl) (by kernel_rfl) (by kernel_rfl) (fun _ _ _ h=>h) (Or.inl ⟨by kernel_rfl,?_⟩) hS ?_
    rotate_left
    ·intro w' hw'; have x0:=hw'; go_simp; with_reducible rfl
    refine wpAnyH_take (i:=2) (v:=?_) rfl (by kernel_rfl) (by kernel_rfl) (by kernel_rfl) (fun _ _ _ h=>h) (Or.inl ⟨by kernel_rfl,?_⟩) hS ?_
    rotate_left
    ·intro w' hw'; have x0:=hw'; go_simp; with_reducible rfl
    refine wpAnyH_take (i:=3) (v:=?_) rfl (by kernel_rfl) (by kernel_rfl) (by kernel_rfl) (fun _ _ _ h=>h) (Or.inl ⟨by kernel_rfl,?_⟩) hS ?_
    rotate_left
    ·intro w' hw'; have x0:=hw'; go_simp; with_reducible rfl
    refine wpAnyH_take (i:=4) (v:=?_) rfl (by kernel_rfl) (by kernel_rfl) (by kernel_rfl) (fun _ _ _ h=>h) (Or.inl ⟨by kernel_rfl,?_⟩) hS ?_
    rotate_left
    ·intro w' hw'; have x0:=hw'; go_simp; with_reducible rfl
    refine wpAnyH_take (i:=5) (v:=?_) rfl (by kernel_rfl) (by kernel_rfl) (by kernel_rfl) (fun _ _ _ h=>h) (Or.inl ⟨by kernel_rfl,?_⟩) hS ?_
    rotate_left
    ·intro w' hw'; have x0:=hw'; go_simp; with_reducible rfl
    refine wpAnyH_take (i:=6) (v:=?_) rfl (by kernel_rfl) (by kernel_rfl) (by kernel_rfl) (fun _ _ _ h=>h) (Or.inl ⟨by kernel_rfl,?_⟩) hS ?_
    rotate_left
    ·intro w' hw'; have x0:=hw'; go_simp; with_reducible rfl
    refine wpAnyH_take (i:=7) (v:=?_) rfl (by kernel_rfl) (by kernel_rfl) (by kernel_rfl) (fun _ _ _ h=>h) (Or.inl ⟨by kernel_rfl,?_⟩) hS ?_
    rotate_left
    ·intro w' hw'; have x0:=hw'; go_simp; with_reducible rfl
    refine wpAnyH_take (i:=8) (v:=?_) rfl (by kernel_rfl) (by kernel_rfl) (by kernel_rfl) (fun _ _ _ h=>h) (Or.inl ⟨by kernel_rfl,?_⟩) hS ?_
    rotate_left
    ·intro w' hw'; have x0:=hw'; go_simp; with_reducible rfl
    refine wpAnyH_take (i:=9) (v:=?_) rfl (by kernel_rfl) (by kernel_rfl) (by kernel_rfl) (fun _ _ _ h=>h) (Or.inl ⟨by kernel_rfl,?_⟩) hS ?_
    rotate_left
    ·intro w' hw'; have x0:=hw'; go_simp; with_reducible rfl
    refine wpAnyH_take (i:=11) (v:=?_) rfl (by kernel_rfl) (by kernel_rfl) (by kernel_rfl) (fun _ _ _ h=>h) (Or.inl ⟨by kernel_rfl,?_⟩) hS ?_
    rotate_left
    ·intro w' hw'; have x0:=hw'; go_simp; with_reducible rfl

    refine wpAnyH_ready (rs:=[10]) (by kernel_rfl) (by simp) ?_
    refine AllReadyH.cons rfl (fun K hK=>?_) AllReadyH.nil
    go_simp
    refine hK.out _ _ hS (fun hS2=>?_)
    clear hK K
    refine wpAnyH_ready (rs:=[12]) (by kernel_rfl) (by simp) ?_
    refine AllReadyH.cons rfl (fun K hK=>?_) AllReadyH.nil
    rw [if_pos (by kernel_rfl)]
    refine wp_append_words _ (.tmp 48) (.tmp 49) 37 rfl B i0 Tryz.underlying37 hi hz0 hz1 hz2 (.slice ao0 st1.obj.text.length cap0) st1.obj.text.length (st1.obj.text.map (Value.int .i64)) (by kernel_rfl) hA.out ao cap ws (by kernel_rfl) hWD.out (by omega) hbs.out ?_
    intro v' w3 hown' hgrow hat
    obtain ⟨ao',cap',rfl⟩:=own_form hown'
    have gd:w2.grownBy w3 (Value.ownBlock (.slice ao0 st1.obj.text.length cap0)):=⟨hgrow.os,hgrow.tape,hgrow.output,hgrow.size,hgrow.block⟩
    have hat2:Value.ownBlock (.slice ao' (st1.obj.text.length+ws.length) cap')=Value.ownBlock (.slice ao0 st1.obj.text.length cap0)∨Value.ownBlock (.slice ao' (st1.obj.text.length+ws.length) cap')=some w2.heap.size:=hat
    have F:=hid (FIN.out _ _ _ gd hat2 hown')
    have n14:=KB.out _ gd
    have ng:=KG.out _ gd
    have m5:=ng.cell 0
    have f5:=ng.free 0
    simp only [List.getElem?_toArray,List.getElem?_cons_zero] at m5
    clear hown' hgrow gd hat hat2 ng
    refine hK.out _ _ n14 (fun hS4=>?_)
    clear hK K
    refine wpAnyH_take (i:=13) (v:=?_) rfl (by kernel_rfl) (by kernel_rfl) (by kernel_rfl) (fun _ _ _ h=>h) (Or.inl ⟨by kernel_rfl,?_⟩) hS4 ?_
    rotate_left
    ·intro w' hw'; have x0:=hw'; go_simp; with_reducible rfl
    refine wpAnyH_take (i:=14) (v:=?_) rfl (by kernel_rfl) (by kernel_rfl) (by kernel_rfl) (fun _ _ _ h=>h) (Or.inl ⟨by kernel_rfl,?_⟩) hS4 ?_
    rotate_left
    ·intro w' hw'; have x0:=hw'; go_simp; with_reducible rfl

    refine wpAnyH_ready (rs:=[15]) (by kernel_rfl) (by simp) ?_
    refine AllReadyH.cons rfl (fun K hK=>?_) AllReadyH.nil
    go_simp
    refine hK.out _ _ F.out.2 (fun hS5=>?_)
    clear hK K
    refine wpAnyH_done (by kernel_rfl) ?_ _
    try simp only [put_mk,List.getElem_toArray,List.getElem_cons_succ,List.getElem_cons_zero,List.setIfInBounds_toArray,List.set_cons_succ,List.set_cons_zero]
    clear hA hbs c14 g0 n14 m5 f5 hS4 hS5 hS hS2
    go_wp2
    go_end0
    exact ⟨rfl,F.out.1⟩
   ·obtain ⟨vt,vf,vd,va,vs,vr,ho⟩:=D.out.1.own
    obtain ⟨ao0,cap0,rfl⟩:=own_form ho.far
    have HO:=hid ho
    have hlen:st1.obj.far.length+ws.length≤1200:=by have:=ROOM.out; unfold As.limit As.secLen at this; simp [ES.out] at this; omega
    have g0:=ho.blk.cell 1
    simp only [List.getElem?_toArray,List.getElem?_cons_succ,List.getElem?_cons_zero] at g0
    have c14:=cell_obj D.out.1
    have hA:Hid (w2.drew.ownsRow B 3 1 (.slice ao0 st1.obj.far.length cap0) st1.obj.far.length (st1.obj.far.map (Value.int .i64))):=ho.far.drew
    have hWD:Hid (WordsAt w2.drew ao cap ws):=HWD.out.grown (grown_drew (World.grownBy.refl _ _))
    have hbs:Hid (B≤w2.drew.heap.size):=D.out.1.size
    have hb0:Hid (some b≠Value.ownBlock (.slice ao0 st1.obj.far.length cap0)):=fun e=>ho.apart.ne (i:=0) (j:=3) rfl rfl (by omega) b rfl e.symm
    have hg0:Hid (some g≠Value.ownBlock (.slice ao0 st1.obj.far.length cap0)):=fun e=>ho.apart.ne (i:=1) (j:=3) rfl rfl (by omega) g rfl e.symm
    have KB:Hid (∀ w3,w2.grownBy w3 (Value.ownBlock (.slice ao0 st1.obj.far.length cap0))→w3.cell? ⟨b,14,none⟩=some (.pointer (some ⟨g,0,none⟩))):=fun w3 h=>h.cell c14 hb0.out
    have KG:Hid (∀ w3,w2.grownBy w3 (Value.ownBlock (.slice ao0 st1.obj.far.length cap0))→BlkAt w3 g #[vt,.slice ao0 st1.obj.far.length cap0,vd,.int .i64 st1.obj.bss,va,vs,vr] 90):=fun w3 h=>HO.out.blk.grown h hg0.out
    have FIN:Hid (∀ w3 ao' cap',w2.grownBy w3 (Value.ownBlock (.slice ao0 st1.obj.far.length cap0))→(Value.ownBlock (.slice ao' (st1.obj.far.length+ws.length) cap')=Value.ownBlock (.slice ao0 st1.obj.far.length cap0)∨Value.ownBlock (.slice ao' (st1.obj.far.length+ws.length) cap')=some w2.heap.size)→w3.ownsRow B 3 1 (.slice ao' (st1.obj.far.length+ws.length) cap') (st1.obj.far.length+ws.length) (st1.obj.far.map (Value.int .i64) ++ ws.map (Value.int .i64)) →
      Does B s b g W X (w3.setCell ⟨g,1,none⟩ (.slice ao' (st1.obj.far.length+ws.length) cap'))∧(w3.setCell ⟨g,1,none⟩ (.slice ao' (st1.obj.far.length+ws.length) cap')).cell? ⟨b,14,none⟩=some (.pointer (some ⟨g,0,none⟩))):=fun w3 ao' cap' gd hat hown=>by
     have nr:NewRow B w2 (w3.setCell ⟨g,1,none⟩ (.slice ao' (st1.obj.far.length+ws.length) cap')) b g (.slice ao0 st1.obj.far.length cap0) (.slice ao' (st1.obj.far.length+ws.length) cap'):=NewRow.app0 gd hat
     have nb:=(KG.out w3 gd).set 1 (.slice ao' (st1.obj.far.length+ws.length) cap')
     have gs:=grown_set w3 g 1 (.slice ao' (st1.obj.far.length+ws.length) cap')
     refine ⟨?_,gs.cell (KB.out w3 gd) (by simpa using fun e=>D.out.1.lo.2.2.2 e)⟩
     rw [show X={ st1 with obj:={ st1.obj with far:=st1.obj.far ++ ws } } from by rw [RX.out]; unfold As.addWords; simp [ES.out]]
     refine D.out.after (D.out.1.newFar HO.out nr (st1.obj.far ++ ws) (by rw [List.length_append]; exact hlen) (by simpa using nb) ?_)
     rw [List.length_append,List.map_append]
     exact own_keep_set hown (fun k hk=>by
      rcases hat with h1 | h1
      ·rw [h1] at hk
       exact fun e=>hg0.out (by rw [e,hk])
      ·rw [h1] at hk
       simp at hk
       have:=HO.out.blk.lt
       omega)
    have hsc:=hid (show w2.cell? ⟨b,13,none⟩=some (.int .i64 2) from by have:=cell_sect D.out.1; rw [ES.out] at this; exact this)
    have hsc2:=hsc.out
    clear ho
    go_wp2
    clear hsc2
    refine wp_region_held_drew (S:=(fun w'=>w'.cell? ⟨b,14,none⟩=some (.pointer (some ⟨g,0,none⟩)))) (by kernel_rfl) c14 ?_
    intro hS
    refine wpAnyH_take (i:=0) (v:=?_) rfl (by kernel_rfl) (by kernel_rfl) (by kernel_rfl) (fun _ _ _ h=>h) (Or.inl ⟨by kernel_rfl,?_⟩) hS ?_
    rotate_left
    ·intro w' hw'; have x0:=hw'; go_simp; with_reducible rfl
    refine wpAnyH_take (i:=1) (v:=?_) rfl (by kernel_rfl) (by kernel_rfl) (by kernel_rfl) (fun _ _ _ h=>h) (Or.inl ⟨by kernel_rfl,?_⟩) hS ?_
    rotate_left
    ·intro w' hw'; have x0:=hw'; go_simp; with_reducible rfl
    refine wpAnyH_take (i:=2) (v:=?_) rfl (by kernel_rfl) (by kernel_rfl) (by kernel_rfl) (fun _ _ _ h=>h) (Or.inl ⟨by kernel_rfl,?_⟩) hS ?_
    rotate_left
    ·intro w' hw'; have x0:=hw'; go_simp; with_reducible rfl
    refine wpAnyH_take (i:=3) (v:=?_) rfl (by kernel_rfl) (by kernel_rfl) (by kernel_rfl) (fun _ _ _ h=>h) (Or.inl ⟨by kernel_rfl,?_⟩) hS ?_
    rotate_left
    ·intro w' hw'; have x0:=hw'; go_simp; with_reducible rfl
    refine wpAnyH_take (i:=4) (v:=?_) rfl (by kernel_rfl) (by kernel_rfl) (by kernel_rfl) (fun _ _ _ h=>h) (Or.inl ⟨by kernel_rfl,?_⟩) hS ?_
    rotate_left
    ·intro w' hw'; have x0:=hw'; go_simp; with_reducible rfl
    refine wpAnyH_take (i:=5) (v:=?_) rfl (by kernel_rfl) (by kernel_rfl) (by kernel_rfl) (fun _ _ _ h=>h) (Or.inl ⟨by kernel_rfl,?_⟩) hS ?_
    rotate_left
    ·intro w' hw'; have x0:=hw'; go_simp; with_reducible rfl
    refine wpAnyH_take (i:=6) (v:=?_) rfl (by kernel_rfl) (by kernel_rfl) (by kernel_rfl) (fun _ _ _ h=>h) (Or.inl ⟨by kernel_rfl,?_⟩) hS ?_
    rotate_left
    ·intro w' hw'; have x0:=hw'; go_simp; with_reducible rfl
    refine wpAnyH_take (i:=7) (v:=?_) rfl (by kernel_rfl) (by kernel_rfl) (by kernel_rfl) (fun _ _ _ h=>h) (Or.inl ⟨by kernel_rfl,?_⟩) hS ?_
    rotate_left
    ·intro w' hw'; have x0:=hw'; go_simp; with_reducible rfl
    refine wpAnyH_take (i:=8) (v:=?_) rfl (by kernel_rfl) (by kernel_rfl) (by kernel_rfl) (fun _ _ _ h=>h) (Or.inl ⟨by kernel_rfl,?_⟩) hS ?_
    rotate_left
    ·intro w' hw'; have x0:=hw'; go_simp; with_reducible rfl
    refine wpAnyH_take (i:=9) (v:=?_) rfl (by kernel_rfl) (by kernel_rfl) (by kernel_rfl) (fun _ _ _ h=>h) (Or.inl ⟨by kernel_rfl,?_⟩) hS ?_
    rotate_left
    ·intro w' hw'; have x0:=hw'; go_simp; with_reducible rfl
    refine wpAnyH_take (i:=11) (v:=?_) rfl (by kernel_rfl) (by kernel_rfl) (by kernel_rfl) (fun _ _ _ h=>h) (Or.inl ⟨by kernel_rfl,?_⟩) hS ?_
    rotate_left
    ·intro w' hw'; have x0:=hw'; go_simp; with_reducible rfl

    refine wpAnyH_ready (rs:=[10]) (by kernel_rfl) (by simp) ?_
    refine AllReadyH.cons rfl (fun K hK=>?_) AllReadyH.nil
    go_simp
    refine hK.out _ _ hS (fun hS2=>?_)
    clear hK K
    refine wpAnyH_ready (rs:=[12]) (by kernel_rfl) (by simp) ?_
    refine AllReadyH.cons rfl (fun K hK=>?_) AllReadyH.nil
    rw [if_pos (by kernel_rfl)]
    refine wp_append_words _ (.tmp 65) (.tmp 66) 37 rfl B i0 Tryz.underlying37 hi hz0 hz1 hz2 (.slice ao0 st1.obj.far.length cap0) st1.obj.far.length (st1.obj.far.map (Value.int .i64)) (by kernel_rfl) hA.out ao cap ws (by kernel_rfl) hWD.out (by omega) hbs.out ?_
    intro v' w3 hown' hgrow hat
    obtain ⟨ao',cap',rfl⟩:=own_form hown'
    have gd:w2.grownBy w3 (Value.ownBlock (.slice ao0 st1.obj.far.length cap0)):=⟨hgrow.os,hgrow.tape,hgrow.output,hgrow.size,hgrow.block⟩
    have hat2:Value.ownBlock (.slice ao' (st1.obj.far.length+ws.length) cap')=Value.ownBlock (.slice ao0 st1.obj.far.length cap0)∨Value.ownBlock (.slice ao' (st1.obj.far.length+ws.length) cap')=some w2.heap.size:=hat
    have F:=hid (FIN.out _ _ _ gd hat2 hown')
    have n14:=KB.out _ gd
    have ng:=KG.out _ gd
    have m5:=ng.cell 1
    have f5:=ng.free 1
    simp only [List.getElem?_toArray,List.getElem?_cons_succ,List.getElem?_cons_zero] at m5
    clear hown' hgrow gd hat hat2 ng
    refine hK.out _ _ n14 (fun hS4=>?_)
    clear hK K
    refine wpAnyH_take (i:=13) (v:=?_) rfl (by kernel_rfl) (by kernel_rfl) (by kernel_rfl) (fun _ _ _ h=>h) (Or.inl ⟨by kernel_rfl,?_⟩) hS4 ?_
    rotate_left
    ·intro w' hw'; have x0:=hw'; go_simp; with_reducible rfl
    refine wpAnyH_take (i:=14) (v:=?_) rfl (by kernel_rfl) (by kernel_rfl) (by kernel_rfl) (fun _ _ _ h=>h) (Or.inl ⟨by kernel_rfl,?_⟩) hS4 ?_
    rotate_left
    ·intro w' hw'; have x0:=hw'; go_simp; with_reducible rfl

    refine wpAnyH_ready (rs:=[15]) (by kernel_rfl) (by simp) ?_
    refine AllReadyH.cons rfl (fun K hK=>?_) AllReadyH.nil
    go_simp
    refine hK.out _ _ F.out.2 (fun hS5=>?_)
    clear hK K
    refine wpAnyH_done (by kernel_rfl) ?_ _
    try simp only [put_mk,List.getElem_toArray,List.getElem_cons_succ,List.getElem_cons_zero,List.setIfInBounds_toArray,List.set_cons_succ,List.set_cons_zero]
    clear hA hbs c14 g0 n14 m5 f5 hS4 hS5 hS hS2
    go_wp2
    go_end0
    exact ⟨rfl,F.out.1⟩
   ·obtain ⟨vt,vf,vd,va,vs,vr,ho⟩:=D.out.1.own
    obtain ⟨ao0,cap0,rfl⟩:=own_form ho.data
    have HO:=hid ho
    have hlen:st1.obj.data.length+ws.length≤64:=by have:=ROOM.out; unfold As.limit As.secLen at this; simp [ES.out] at this; omega
    have g0:=ho.blk.cell 2
    simp only [List.getElem?_toArray,List.getElem?_cons_succ,List.getElem?_cons_zero] at g0
    have c14:=cell_obj D.out.1
    have hA:Hid (w2.drew.ownsRow B 3 1 (.slice ao0 st1.obj.data.length cap0) st1.obj.data.length (st1.obj.data.map (Value.int .i64))):=ho.data.drew
    have hWD:Hid (WordsAt w2.drew ao cap ws):=HWD.out.grown (grown_drew (World.grownBy.refl _ _))
    have hbs:Hid (B≤w2.drew.heap.size):=D.out.1.size
    have hb0:Hid (some b≠Value.ownBlock (.slice ao0 st1.obj.data.length cap0)):=fun e=>ho.apart.ne (i:=0) (j:=4) rfl rfl (by omega) b rfl e.symm
    have hg0:Hid (some g≠Value.ownBlock (.slice ao0 st1.obj.data.length cap0)):=fun e=>ho.apart.ne (i:=1) (j:=4) rfl rfl (by omega) g rfl e.symm
    have KB:Hid (∀ w3,w2.grownBy w3 (Value.ownBlock (.slice ao0 st1.obj.data.length cap0))→w3.cell? ⟨b,14,none⟩=some (.pointer (some ⟨g,0,none⟩))):=fun w3 h=>h.cell c14 hb0.out
    have KG:Hid (∀ w3,w2.grownBy w3 (Value.ownBlock (.slice ao0 st1.obj.data.length cap0))→BlkAt w3 g #[vt,vf,.slice ao0 st1.obj.data.length cap0,.int .i64 st1.obj.bss,va,vs,vr] 90):=fun w3 h=>HO.out.blk.grown h hg0.out
    have FIN:Hid (∀ w3 ao' cap',w2.grownBy w3 (Value.ownBlock (.slice ao0 st1.obj.data.length cap0))→(Value.ownBlock (.slice ao' (st1.obj.data.length+ws.length) cap')=Value.ownBlock (.slice ao0 st1.obj.data.length cap0)∨Value.ownBlock (.slice ao' (st1.obj.data.length+ws.length) cap')=some w2.heap.size)→w3.ownsRow B 3 1 (.slice ao' (st1.obj.data.length+ws.length) cap') (st1.obj.data.length+ws.length) (st1.obj.data.map (Value.int .i64) ++ ws.map (Value.int .i64)) →
      Does B s b g W X (w3.setCell ⟨g,2,none⟩ (.slice ao' (st1.obj.data.length+ws.length) cap'))∧(w3.setCell ⟨g,2,none⟩ (.slice ao' (st1.obj.data.length+ws.length) cap')).cell? ⟨b,14,none⟩=some (.pointer (some ⟨g,0,none⟩))):=fun w3 ao' cap' gd hat hown=>by
     have nr:NewRow B w2 (w3.setCell ⟨g,2,none⟩ (.slice ao' (st1.obj.data.length+ws.length) cap')) b g (.slice ao0 st1.obj.data.length cap0) (.slice ao' (st1.obj.data.length+ws.length) cap'):=NewRow.app0 gd hat
     have nb:=(KG.out w3 gd).set 2 (.slice ao' (st1.obj.data.length+ws.length) cap')
     have gs:=grown_set w3 g 2 (.slice ao' (st1.obj.data.length+ws.length) cap')
     refine ⟨?_,gs.cell (KB.out w3 gd) (by simpa using fun e=>D.out.1.lo.2.2.2 e)⟩
     rw [show X={ st1 with obj:={ st1.obj with data:=st1.obj.data ++ ws } } from by rw [RX.out]; unfold As.addWords; simp [ES.out]]
     refine D.out.after (D.out.1.newData HO.out nr (st1.obj.data ++ ws) (by rw [List.length_append]; exact hlen) (by simpa using nb) ?_)
     rw [List.length_append,List.map_append]
     exact own_keep_set hown (fun k hk=>by
      rcases hat with h1 | h1
      ·rw [h1] at hk
       exact fun e=>hg0.out (by rw [e,hk])
      ·rw [h1] at hk
       simp at hk
       have:=HO.out.blk.lt
       omega)
    have hsc:=hid (show w2.cell? ⟨b,13,none⟩=some (.int .i64 3) from by have:=cell_sect D.out.1; rw [ES.out] at this; exact this)
    have hsc2:=hsc.out
    clear ho
    go_wp2
    clear hsc2
    refine wp_region_held_drew (S:=(fun w'=>w'.cell? ⟨b,14,none⟩=some (.pointer (some ⟨g,0,none⟩)))) (by kernel_rfl) c14 ?_
    intro hS
    refine wpAnyH_take (i:=0) (v:=?_) rfl (by kernel_rfl) (by kernel_rfl) (by kernel_rfl) (fun _ _ _ h=>h) (Or.inl ⟨by kernel_rfl,?_⟩) hS ?_
    rotate_left
    ·intro w' hw'; have x0:=hw'; go_simp; with_reducible rfl
    refine wpAnyH_take (i:=1) (v:=?_) rfl (by kernel_rfl) (by kernel_rfl) (by kernel_rfl) (fun _ _ _ h=>h) (Or.inl ⟨by kernel_rfl,?_⟩) hS ?_
    rotate_left
    ·intro w' hw'; have x0:=hw'; go_simp; with_reducible rfl
    refine wpAnyH_take (i:=2) (v:=?_) rfl (by kernel_rfl) (by kernel_rfl) (by kernel_rfl) (fun _ _ _ h=>h) (Or.inl ⟨by kernel_rfl,?_⟩) hS ?_
    rotate_left
    ·intro w' hw'; have x0:=hw'; go_simp; with_reducible rfl
    refine wpAnyH_take (i:=3) (v:=?_) rfl (by kernel_rfl) (by kernel_rfl) (by kernel_rfl) (fun _ _ _ h=>h) (Or.inl ⟨by kernel_rfl,?_⟩) hS ?_
    rotate_left
    ·intro w' hw'; have x0:=hw'; go_simp; with_reducible rfl
    refine wpAnyH_take (i:=4) (v:=?_) rfl (by kernel_rfl) (by kernel_rfl) (by kernel_rfl) (fun _ _ _ h=>h) (Or.inl ⟨by kernel_rfl,?_⟩) hS ?_
    rotate_left
    ·intro w' hw'; have x0:=hw'; go_simp; with_reducible rfl
    refine wpAnyH_take (i:=5) (v:=?_) rfl (by kernel_rfl) (by kernel_rfl) (by kernel_rfl) (fun _ _ _ h=>h) (Or.inl ⟨by kernel_rfl,?_⟩) hS ?_
    rotate_left
    ·intro w' hw'; have x0:=hw'; go_simp; with_reducible rfl
    refine wpAnyH_take (i:=6) (v:=?_) rfl (by kernel_rfl) (by kernel_rfl) (by kernel_rfl) (fun _ _ _ h=>h) (Or.inl ⟨by kernel_rfl,?_⟩) hS ?_
    rotate_left
    ·intro w' hw'; have x0:=hw'; go_simp; with_reducible rfl
    refine wpAnyH_take (i:=7) (v:=?_) rfl (by kernel_rfl) (by kernel_rfl) (by kernel_rfl) (fun _ _ _ h=>h) (Or.inl ⟨by kernel_rfl,?_⟩) hS ?_
    rotate_left
    ·intro w' hw'; have x0:=hw'; go_simp; with_reducible rfl
    refine wpAnyH_take (i:=8) (v:=?_) rfl (by kernel_rfl) (by kernel_rfl) (by kernel_rfl) (fun _ _ _ h=>h) (Or.inl ⟨by kernel_rfl,?_⟩) hS ?_
    rotate_left
    ·intro w' hw'; have x0:=hw'; go_simp; with_reducible rfl
    refine wpAnyH_take (i:=9) (v:=?_) rfl (by kernel_rfl) (by kernel_rfl) (by kernel_rfl) (fun _ _ _ h=>h) (Or.inl ⟨by kernel_rfl,?_⟩) hS ?_
    rotate_left
    ·intro w' hw'; have x0:=hw'; go_simp; with_reducible rfl
    refine wpAnyH_take (i:=11) (v:=?_) rfl (by kernel_rfl) (by kernel_rfl) (by kernel_rfl) (fun _ _ _ h=>h) (Or.inl ⟨by kernel_rfl,?_⟩) hS ?_
    rotate_left
    ·intro w' hw'; have x0:=hw'; go_simp; with_reducible rfl

    refine wpAnyH_ready (rs:=[10]) (by kernel_rfl) (by simp) ?_
    refine AllReadyH.cons rfl (fun K hK=>?_) AllReadyH.nil
    go_simp
    refine hK.out _ _ hS (fun hS2=>?_)
    clear hK K
    refine wpAnyH_ready (rs:=[12]) (by kernel_rfl) (by simp) ?_
    refine AllReadyH.cons rfl (fun K hK=>?_) AllReadyH.nil
    rw [if_pos (by kernel_rfl)]
    refine wp_append_words _ (.tmp 82) (.tmp 83) 37 rfl B i0 Tryz.underlying37 hi hz0 hz1 hz2 (.slice ao0 st1.obj.data.length cap0) st1.obj.data.length (st1.obj.data.map (Value.int .i64)) (by kernel_rfl) hA.out ao cap ws (by kernel_rfl) hWD.out (by omega) hbs.out ?_
    intro v' w3 hown' hgrow hat
    obtain ⟨ao',cap',rfl⟩:=own_form hown'
    have gd:w2.grownBy w3 (Value.ownBlock (.slice ao0 st1.obj.data.length cap0)):=⟨hgrow.os,hgrow.tape,hgrow.output,hgrow.size,hgrow.block⟩
    have hat2:Value.ownBlock (.slice ao' (st1.obj.data.length+ws.length) cap')=Value.ownBlock (.slice ao0 st1.obj.data.length cap0)∨Value.ownBlock (.slice ao' (st1.obj.data.length+ws.length) cap')=some w2.heap.size:=hat
    have F:=hid (FIN.out _ _ _ gd hat2 hown')
    have n14:=KB.out _ gd
    have ng:=KG.out _ gd
    have m5:=ng.cell 2
    have f5:=ng.free 2
    simp only [List.getElem?_toArray,List.getElem?_cons_succ,List.getElem?_cons_zero] at m5
    clear hown' hgrow gd hat hat2 ng
    refine hK.out _ _ n14 (fun hS4=>?_)
    clear hK K
    refine wpAnyH_take (i:=13) (v:=?_) rfl (by kernel_rfl) (by kernel_rfl) (by kernel_rfl) (fun _ _ _ h=>h) (Or.inl ⟨by kernel_rfl,?_⟩) hS4 ?_
    rotate_left
    ·intro w' hw'; have x0:=hw'; go_simp; with_reducible rfl
    refine wpAnyH_take (i:=14) (v:=?_) rfl (by kernel_rfl) (by kernel_rfl) (by kernel_rfl) (fun _ _ _ h=>h) (Or.inl ⟨by kernel_rfl,?_⟩) hS4 ?_
    rotate_left
    ·intro w' hw'; have x0:=hw'; go_simp; with_reducible rfl

    refine wpAnyH_ready (rs:=[15]) (by kernel_rfl) (by simp) ?_
    refine AllReadyH.cons rfl (fun K hK=>?_) AllReadyH.nil
    go_simp
    refine hK.out _ _ F.out.2 (fun hS5=>?_)
    clear hK K
    refine wpAnyH_done (by kernel_rfl) ?_ _
    try simp only [put_mk,List.getElem_toArray,List.getElem_cons_succ,List.getElem_cons_zero,List.setIfInBounds_toArray,List.set_cons_succ,List.set_cons_zero]
    clear hA hbs c14 g0 n14 m5 f5 hS4 hS5 hS hS2
    go_wp2
    go_end0
    exact ⟨rfl,F.out.1⟩
   ·obtain ⟨vt,vf,vd,va,vs,vr,ho⟩:=D.out.1.own
    have HO:=hid ho
    have hlen:st1.obj.bss+ws.length≤64:=by have:=ROOM.out; unfold As.limit As.secLen at this; simp [ES.out] at this; omega
    have hb1:=D.out.1.ok.bss
    have g0:=ho.blk.cell 3
    have f0:=ho.blk.free 3
    simp only [List.getElem?_toArray,List.getElem?_cons_succ,List.getElem?_cons_zero] at g0
    have c14:=cell_obj D.out.1
    have hsc2:w2.cell? ⟨b,13,none⟩=some (.int .i64 4):=by have:=cell_sect D.out.1; rw [ES.out] at this; exact this
    have RX2:=hid (show X={ st1 with obj:={ st1.obj with bss:=st1.obj.bss+ws.length } } from by rw [RX.out]; unfold As.addWords; simp [ES.out])
    clear ho
    go_wp2
    go_end0
    rw [RX2.out]
    exact ⟨rfl,D.out.after (D.out.1.newBss HO.out _ ⟨by omega,by omega⟩)⟩
  ·rw [hf,if_pos rfl] at RS
   clear hf
   go_wp2
   (try simp only [Exit.inBlock,Exit.then]); refine bodyPost_ret (results_none rfl _ _ _) rfl ?_
   rw [RS.out]
   exact ⟨rfl,D.out⟩

end Go.Proofs.YtnfgdlkiialnnaaGreatDoor

namespace Go.Proofs.YtnfgdlkiialnnaaGreatDoor
open Go.RowKit

theorem own_type {w:World} {base:Nat} {e t:TypeId} {size n:Nat} {v:Value} {xs:List Value} {k:Nat} {cs:Array Value} (h:w.ownsRow base e size v n xs) (hk:v.ownBlock=some k) (hb:BlkAt w k cs t) (hne:e≠t):False:=by
 rcases h.2 with ⟨rfl,_⟩ | ⟨g',cap,cur,rfl,_,hg,_⟩
 ·simp [Value.ownBlock] at hk
 ·obtain rfl:g'=k:=by simpa [Value.ownBlock] using hk
  have:=hg.symm.trans hb
  simp at this
  exact hne this.2

theorem AsmAt.newRels {B:Nat} {s:ByteArray} {b g:Nat} {V W':World} {st:As.St} {vt vf vd va vs vr v':Value} (h:AsmAt B s b g st V) (ho:ObjOwn B V b g st.obj vt vf vd va vs vr) (n:NewRow B V W' b g vr v') (ys:List Lk.Rel) (hys:ys.length≤32)
  (hblk:BlkAt W' g #[vt,vf,vd,.int .i64 st.obj.bss,va,vs,v'] 90) (hown:W'.ownsRow B 139 5 v' ys.length (ys.flatMap relV)):Does B s b g V { st with obj:={ st.obj with rels:=ys } } W':=by
 refine n.does h ho (i:=7) rfl (by omega) ⟨vt,vf,vd,va,vs,v',hblk,?_,?_,?_,?_,?_,hown,n.apart ho h.blk.lt (i:=7) rfl⟩ rfl (h.ok.obj' _ h.ok.text h.ok.far h.ok.data h.ok.bss h.ok.align h.ok.syms hys) (row_blk ho.rels (by simp))
 ·exact n.row ho (i:=7) (j:=2) rfl rfl (by omega) (by omega) ho.text
 ·exact n.row ho (i:=7) (j:=3) rfl rfl (by omega) (by omega) ho.far
 ·exact n.row ho (i:=7) (j:=4) rfl rfl (by omega) (by omega) ho.data
 ·exact n.row ho (i:=7) (j:=5) rfl rfl (by omega) (by omega) ho.align
 ·exact n.row ho (i:=7) (j:=6) rfl rfl (by omega) (by omega) ho.syms

set_option maxRecDepth 100000 in
set_option maxHeartbeats 8000000 in
theorem layWith_any (B:Nat) (s:ByteArray) (b g:Nat) (st:As.St) (kind:Int) (sym:Nat) (addend:Int) (ao:Option Addr) (cap:Nat) (ws:List Int) (W:World) (h:AsmAt B s b g st W) (hw:WordsAt W ao cap ws) (hn:ws.length≤4096) :
  Calls Tryz.prog 206 #[.pointer (some ⟨b,0,none⟩),.int .i64 kind,.int .i64 sym,.int .i64 addend,.slice ao ws.length cap] W fun en W'=>en = .returned (.tuple #[])∧Does B s b g W (As.layWith kind sym addend ws st) W':=by
 obtain ⟨i2,hi2,hx0,hx1,hx2⟩:=info_parts Tryz.infoRel
 have HW:=hid h
 have HWD0:=hid hw
 have hpos:=h.ok.op.pos
 have hr32:=h.ok.rels
 have hsb:=secLen_bnd h.ok
 have RS:=hid (show As.layWith kind sym addend ws st=if As.failed (As.refuseIf (decide (32≤st.obj.rels.length)) 12 st.op.pos st) then As.refuseIf (decide (32≤st.obj.rels.length)) 12 st.op.pos st else
  As.lay ws { As.refuseIf (decide (32≤st.obj.rels.length)) 12 st.op.pos st with obj:={ (As.refuseIf (decide (32≤st.obj.rels.length)) 12 st.op.pos st).obj with rels:=(As.refuseIf (decide (32≤st.obj.rels.length)) 12 st.op.pos st).obj.rels ++ [⟨(As.refuseIf (decide (32≤st.obj.rels.length)) 12 st.op.pos st).sect,4 * As.secLen (As.refuseIf (decide (32≤st.obj.rels.length)) 12 st.op.pos st).obj (As.refuseIf (decide (32≤st.obj.rels.length)) 12 st.op.pos st).sect,kind,sym,addend⟩] } } from rfl)
 generalize As.layWith kind sym addend ws st=X at *
 have c14:=cell_obj h
 obtain ⟨vt0,vf0,vd0,va0,vs0,vr0,ho0⟩:=h.own
 obtain ⟨ar0,cr0,rfl⟩:=own_form ho0.rels
 have g60:=ho0.blk.cell 6
 simp only [List.getElem?_toArray,List.getElem?_cons_succ,List.getElem?_cons_zero] at g60
 clear ho0
 have c10:=cell_op h
 clear h hw
 go_enter Tryz.func206,Tryz.ntmps206
 by_cases h32:32≤st.obj.rels.length
 ·have D1:decide ((32:Int)≤(st.obj.rels.length:Int))=true:=by simp; omega
  rw [show decide (32≤st.obj.rels.length)=true by simp; omega] at RS
  clear h32
  go_wp2_with fail
  refine (refuse_any B s b g st 12 st.op.pos W HW.out (by omega) hpos).mono ?_
  rintro e V2 ⟨rfl,h2⟩
  have D2:=hid (h2.does HW.out)
  have RFD:=hid (show As.failed (As.refuse 12 st.op.pos st)=true from refuse_failed _ _ _ (by omega))
  clear h2 c10 c14 g60
  go_wp2_with fail
  refine (failed_any B s b g _ V2 D2.out.1).mono ?_
  rintro e w2 ⟨rfl,rfl⟩
  rw [RFD.out]
  go_wp2
  (try simp only [Exit.inBlock,Exit.then]); refine bodyPost_ret (results_none rfl _ _ _) rfl ?_
  rw [RS.out]
  refine ⟨rfl,?_⟩
  simp only [As.refuseIf,if_true,RFD.out]
  exact D2.out
 ·have D1:decide ((32:Int)≤(st.obj.rels.length:Int))=false:=by simp; omega
  rw [show decide (32≤st.obj.rels.length)=false by simp; omega] at RS
  simp only [As.refuseIf,Bool.false_eq_true,if_false] at RS
  go_wp2_with fail
  refine (failed_any B s b g st W HW.out).mono ?_
  rintro e w2 ⟨rfl,rfl⟩
  cases hf:As.failed st
  ·rw [hf,if_neg (by simp)] at RS
   clear hf
   have cL:=hid (fun V hV=>length_any B s b g st V hV)
   have HD0:=hid (fun n=>HW.out.doesB.drewN n)
   have c13:=cell_sect HW.out
   generalize hq:As.secLen st.obj st.sect=q at *
   have RX:=hid RS.out
   clear RS hq
   go_wp2
   go_quiet ((go_at_call 96; exact Calls.quiet_of_same (cL.out _ (HD0.out _).1)))
   have D:=hid ((HD0.out nq).does HW.out)
   have HWD:=hid (HWD0.out.grown (grown_drewN (World.grownBy.refl _ _) nq))
   clear HD0 c13 c14 cL HWD0 c10 g60
   generalize w2.drewN nq=V1 at *
   obtain ⟨vt,vf,vd,va,vs,vr,ho⟩:=D.out.1.own
   obtain ⟨ar,cr,rfl⟩:=own_form ho.rels
   have HO:=hid ho
   have c13:=cell_sect D.out.1
   have c14:=cell_obj D.out.1
   have g6:=ho.blk.cell 6
   simp only [List.getElem?_toArray,List.getElem?_cons_succ,List.getElem?_cons_zero] at g6
   have hgl:g < V1.heap.size:=ho.blk.lt
   have hn32:st.obj.rels.length+1≤32:=by omega
   have GA:=hid (World.grownBy_alloc V1 (.cells #[.int .i64 st.sect,.int .i64 (4 * q),.int .i64 kind,.int .i64 sym,.int .i64 addend] 139) none)
   have KA1:Hid ((V1.alloc (.cells #[.int .i64 st.sect,.int .i64 (4 * q),.int .i64 kind,.int .i64 sym,.int .i64 addend] 139)).drew.cell? ⟨b,14,none⟩=some (.pointer (some ⟨g,0,none⟩))):=gcell c14 (grown_drew GA.out)
   have KA2:Hid ((V1.alloc (.cells #[.int .i64 st.sect,.int .i64 (4 * q),.int .i64 kind,.int .i64 sym,.int .i64 addend] 139)).drew.cell? ⟨b,13,none⟩=some (.int .i64 st.sect)):=gcell c13 (grown_drew GA.out)
   have hb0:Hid (some b≠Value.ownBlock (.slice ar st.obj.rels.length cr)):=fun e=>ho.apart.ne (i:=0) (j:=7) rfl rfl (by omega) b rfl e.symm
   have hg0:Hid (some g≠Value.ownBlock (.slice ar st.obj.rels.length cr)):=fun e=>ho.apart.ne (i:=1) (j:=7) rfl rfl (by omega) g rfl e.symm
   have KEEP1:Hid (∀ w3,(V1.alloc (.cells #[.int .i64 st.sect,.int .i64 (4 * q),.int .i64 kind,.int .i64 sym,.int .i64 addend] 139)).grownBy w3 (Value.ownBlock (.slice ar st.obj.rels.length cr))→w3.cell? ⟨b,14,none⟩=some (.pointer (some ⟨g,0,none⟩))):=fun w3 h=>h.cell KA1.out hb0.out
   have KEEP2:Hid (∀ w3,(V1.alloc (.cells #[.int .i64 st.sect,.int .i64 (4 * q),.int .i64 kind,.int .i64 sym,.int .i64 addend] 139)).grownBy w3 (Value.ownBlock (.slice ar st.obj.rels.length cr))→w3.cell? ⟨b,13,none⟩=some (.int .i64 st.sect)):=fun w3 h=>h.cell KA2.out hb0.out
   have KEEP3:Hid (∀ w3,(V1.alloc (.cells #[.int .i64 st.sect,.int .i64 (4 * q),.int .i64 kind,.int .i64 sym,.int .i64 addend] 139)).grownBy w3 (Value.ownBlock (.slice ar st.obj.rels.length cr))→BlkAt w3 g #[vt,vf,vd,.int .i64 st.obj.bss,va,vs,.slice ar st.obj.rels.length cr] 90):=fun w3 h=>(HO.out.blk.grown GA.out (by simp)).grown h hg0.out
   have hgb:Hid (g≠b):=fun e=>D.out.1.lo.2.2.2 e.symm
   have FIN:Hid (∀ w3 ao' cap',(V1.alloc (.cells #[.int .i64 st.sect,.int .i64 (4 * q),.int .i64 kind,.int .i64 sym,.int .i64 addend] 139)).grownBy w3 (Value.ownBlock (.slice ar st.obj.rels.length cr))→(Value.ownBlock (.slice ao' (st.obj.rels.length+1) cap')=Value.ownBlock (.slice ar st.obj.rels.length cr)∨Value.ownBlock (.slice ao' (st.obj.rels.length+1) cap')=some (V1.alloc (.cells #[.int .i64 st.sect,.int .i64 (4 * q),.int .i64 kind,.int .i64 sym,.int .i64 addend] 139)).heap.size) →
     w3.ownsRow B 139 5 (.slice ao' (st.obj.rels.length+1) cap') (st.obj.rels.length+1) (st.obj.rels.flatMap relV ++ [.int .i64 st.sect,.int .i64 (4 * q),.int .i64 kind,.int .i64 sym,.int .i64 addend]) →
     Does B s b g w2 { st with obj:={ st.obj with rels:=st.obj.rels ++ [⟨st.sect,4 * q,kind,sym,addend⟩] } } (w3.setCell ⟨g,6,none⟩ (.slice ao' (st.obj.rels.length+1) cap'))∧WordsAt (w3.setCell ⟨g,6,none⟩ (.slice ao' (st.obj.rels.length+1) cap')) ao cap ws∧(w3.setCell ⟨g,6,none⟩ (.slice ao' (st.obj.rels.length+1) cap')).cell? ⟨b,14,none⟩=some (.pointer (some ⟨g,0,none⟩))∧(w3.setCell ⟨g,6,none⟩ (.slice ao' (st.obj.rels.length+1) cap')).cell? ⟨b,13,none⟩=some (.int .i64 st.sect)):=fun w3 ao' cap' gd hat hown=>by
    have nr:NewRow B V1 (w3.setCell ⟨g,6,none⟩ (.slice ao' (st.obj.rels.length+1) cap')) b g (.slice ar st.obj.rels.length cr) (.slice ao' (st.obj.rels.length+1) cap'):=NewRow.app (fun k hk=>(HO.out.rels.lt k hk).2) gd hat
    have nb:=(KEEP3.out w3 gd).set 6 (.slice ao' (st.obj.rels.length+1) cap')
    have gs:=grown_set w3 g 6 (.slice ao' (st.obj.rels.length+1) cap')
    refine ⟨D.out.after (D.out.1.newRels HO.out nr _ (by simp; omega) (by simpa using nb) ?_),?_,gs.cell (KEEP1.out w3 gd) (by simpa using hgb.out.symm),gs.cell (KEEP2.out w3 gd) (by simpa using hgb.out.symm)⟩
    ·have e:(st.obj.rels ++ [(⟨st.sect,4 * q,kind,sym,addend⟩:Lk.Rel)]).flatMap relV=st.obj.rels.flatMap relV ++ [.int .i64 st.sect,.int .i64 (4 * q),.int .i64 kind,.int .i64 sym,.int .i64 addend]:=by rw [List.flatMap_append]; rfl
     rw [e,List.length_append,List.length_singleton]
     exact own_keep_set hown (fun k hk=>by
      rcases hat with h1 | h1
      ·rw [h1] at hk
       exact fun e=>hg0.out (by rw [e,hk])
      ·rw [h1] at hk
       simp at hk
       omega)
    ·refine HWD.out.kept fun k cs hb _=>(nr.keep k hb.lt ?_ ?_).trans hb
     ·intro e
      obtain ⟨-,cs',t',hb',ht'⟩:=row_blk HO.out.rels (by simp) k e.symm
      exact own_type HO.out.rels e.symm hb (by decide)
     ·rintro rfl
      have:=hb.symm.trans HO.out.blk
      simp at this
   have hA:Hid ((V1.alloc (.cells #[.int .i64 st.sect,.int .i64 (4 * q),.int .i64 kind,.int .i64 sym,.int .i64 addend] 139)).drew.ownsRow B 139 5 (.slice ar st.obj.rels.length cr) st.obj.rels.length (st.obj.rels.flatMap relV)):=(HO.out.rels.alloc _).drew
   have hN:Hid (∀ j u,([.int .i64 st.sect,.int .i64 (4 * q),.int .i64 kind,.int .i64 sym,.int .i64 addend]:List Value)[j]?=some u→(V1.alloc (.cells #[.int .i64 st.sect,.int .i64 (4 * q),.int .i64 kind,.int .i64 sym,.int .i64 addend] 139)).drew.cell? ((⟨V1.heap.size,0,none⟩:Addr).add j)=some u):=World.news_of_block (heap_alloc_new V1 (.cells #[.int .i64 st.sect,.int .i64 (4 * q),.int .i64 kind,.int .i64 sym,.int .i64 addend] 139))
   have hOne:Hid (∀ u∈([.int .i64 st.sect,.int .i64 (4 * q),.int .i64 kind,.int .i64 sym,.int .i64 addend]:List Value),u.oneCell'=true):=by intro u hu; simp at hu; rcases hu with rfl | rfl | rfl | rfl | rfl <;> rfl
   have h63:Hid (st.obj.rels.length+1≤maxLen):=by show _≤_; unfold maxLen; omega
   have hby:Hid ((st.obj.rels.length+1) * 40≤140737488355328):=by show _≤_; omega
   have hbs:Hid (B≤(V1.alloc (.cells #[.int .i64 st.sect,.int .i64 (4 * q),.int .i64 kind,.int .i64 sym,.int .i64 addend] 139)).drew.heap.size):=by have:=D.out.1.size; show _≤_; simp; omega
   clear ho
   go_wp2
   refine wp_region_held_drew (S:=(fun w'=>w'.cell? ⟨b,14,none⟩=some (.pointer (some ⟨g,0,none⟩))∧w'.cell? ⟨b,13,none⟩=some (.int .i64 st.sect))) (by kernel_rfl) ⟨c14,c13⟩ ?_
   intro hS
   refine wpAnyH_take (i:=0) (v:=?_) rfl (by kernel_rfl) (by kernel_rfl) (by kernel_rfl) (fun _ _ _ h=>h) (Or.inl ⟨by kernel_rfl,?_⟩) hS ?_
   rotate_left
   ·intro w' hw'; obtain ⟨x0,x1⟩:=hw'; go_simp; with_reducible rfl
   refine wpAnyH_take (i:=1) (v:=?_) rfl (by kernel_rfl) (by kernel_rfl) (by kernel_rfl) (fun _ _ _ h=>h) (Or.inl ⟨by kernel_rfl,?_⟩) hS ?_
   rotate_left
   ·intro w' hw'; obtain ⟨x0,x1⟩:=hw'; go_simp; with_reducible rfl
   refine wpAnyH_take (i:=2) (v:=?_) rfl (by kernel_rfl) (by kernel_rfl) (by kernel_rfl) (fun _ _ _ h=>h) (Or.inl ⟨by kernel_rfl,?_⟩) hS ?_
   rotate_left
   ·intro w' hw'; obtain ⟨x0,x1⟩:=hw'; go_simp; with_reducible rfl
   refine wpAnyH_take (i:=3) (v:=?_) rfl (by kernel_rfl) (by kernel_rfl) (by kernel_rfl) (fun _ _ _ h=>h) (Or.inl ⟨by kernel_rfl,?_⟩) hS ?_
   rotate_left
   ·intro w' hw'; obtain ⟨x0,x1⟩:=hw'; go_simp; with_reducible rfl
   refine wpAnyH_take (i:=4) (v:=?_) rfl (by kernel_rfl) (by kernel_rfl) (by kernel_rfl) (fun _ _ _ h=>h) (Or.inl ⟨by kernel_rfl,?_⟩) hS ?_
   rotate_left
   ·intro w' hw'; obtain ⟨x0,x1⟩:=hw'; go_simp; with_reducible rfl
   refine wpAnyH_take (i:=5) (v:=?_) rfl (by kernel_rfl) (by kernel_rfl) (by kernel_rfl) (fun _ _ _ h=>h) (Or.inl ⟨by kernel_rfl,?_⟩) hS ?_
   rotate_left
   ·intro w' hw'; obtain ⟨x0,x1⟩:=hw'; go_simp; with_reducible rfl
   refine wpAnyH_take (i:=6) (v:=?_) rfl (by kernel_rfl) (by kernel_rfl) (by kernel_rfl) (fun _ _ _ h=>h) (Or.inl ⟨by kernel_rfl,?_⟩) hS ?_
   rotate_left
   ·intro w' hw'; obtain ⟨x0,x1⟩:=hw'; go_simp; with_reducible rfl
   refine wpAnyH_take (i:=7) (v:=?_) rfl (by kernel_rfl) (by kernel_rfl) (by kernel_rfl) (fun _ _ _ h=>h) (Or.inl ⟨by kernel_rfl,?_⟩) hS ?_
   rotate_left
   ·intro w' hw'; obtain ⟨x0,x1⟩:=hw'; go_simp; with_reducible rfl
   refine wpAnyH_take (i:=8) (v:=?_) rfl (by kernel_rfl) (by kernel_rfl) (by kernel_rfl) (fun _ _ _ h=>h) (Or.inl ⟨by kernel_rfl,?_⟩) hS ?_
   rotate_left
   ·intro w' hw'; obtain ⟨x0,x1⟩:=hw'; go_simp; with_reducible rfl
   refine wpAnyH_take (i:=9) (v:=?_) rfl (by kernel_rfl) (by kernel_rfl) (by kernel_rfl) (fun _ _ _ h=>h) (Or.inl ⟨by kernel_rfl,?_⟩) hS ?_
   rotate_left
   ·intro w' hw'; obtain ⟨x0,x1⟩:=hw'; go_simp; with_reducible rfl
   refine wpAnyH_take (i:=11) (v:=?_) rfl (by kernel_rfl) (by kernel_rfl) (by kernel_rfl) (fun _ _ _ h=>h) (Or.inl ⟨by kernel_rfl,?_⟩) hS ?_
   rotate_left
   ·intro w' hw'; obtain ⟨x0,x1⟩:=hw'; go_simp; with_reducible rfl
   refine wpAnyH_take (i:=12) (v:=?_) rfl (by kernel_rfl) (by kernel_rfl) (by kernel_rfl) (fun _ _ _ h=>h) (Or.inl ⟨by kernel_rfl,?_⟩) hS ?_
   rotate_left
   ·intro w' hw'; obtain ⟨x0,x1⟩:=hw'; go_simp; with_reducible rfl
   refine wpAnyH_take (i:=13) (v:=?_) rfl (by kernel_rfl) (by kernel_rfl) (by kernel_rfl) (fun _ _ _ h=>h) (Or.inl ⟨by kernel_rfl,?_⟩) hS ?_
   rotate_left
   ·intro w' hw'; obtain ⟨x0,x1⟩:=hw'; go_simp; with_reducible rfl
   refine wpAnyH_take (i:=14) (v:=?_) rfl (by kernel_rfl) (by kernel_rfl) (by kernel_rfl) (fun _ _ _ h=>h) (Or.inl ⟨by kernel_rfl,?_⟩) hS ?_
   rotate_left
   ·intro w' hw'; obtain ⟨x0,x1⟩:=hw'; go_simp; with_reducible rfl
   refine wpAnyH_take (i:=15) (v:=?_) rfl (by kernel_rfl) (by kernel_rfl) (by kernel_rfl) (fun _ _ _ h=>h) (Or.inl ⟨by kernel_rfl,?_⟩) hS ?_
   rotate_left
   ·intro w' hw'; obtain ⟨x0,x1⟩:=hw'; go_simp; with_reducible rfl
   refine wpAnyH_take (i:=16) (v:=?_) rfl (by kernel_rfl) (by kernel_rfl) (by kernel_rfl) (fun _ _ _ h=>h) (Or.inl ⟨by kernel_rfl,?_⟩) hS ?_
   rotate_left
   ·intro w' hw'; obtain ⟨x0,x1⟩:=hw'; go_simp; with_reducible rfl
   refine wpAnyH_take (i:=17) (v:=?_) rfl (by kernel_rfl) (by kernel_rfl) (by kernel_rfl) (fun _ _ _ h=>h) (Or.inl ⟨by kernel_rfl,?_⟩) hS ?_
   rotate_left
   ·intro w' hw'; obtain ⟨x0,x1⟩:=hw'; go_simp; with_reducible rfl
   refine wpAnyH_take (i:=18) (v:=?_) rfl (by kernel_rfl) (by kernel_rfl) (by kernel_rfl) (fun _ _ _ h=>h) (Or.inl ⟨by kernel_rfl,?_⟩) hS ?_
   rotate_left
   ·intro w' hw'; obtain ⟨x0,x1⟩:=hw'; go_simp; with_reducible rfl
   refine wpAnyH_take (i:=19) (v:=?_) rfl (by kernel_rfl) (by kernel_rfl) (by kernel_rfl) (fun _ _ _ h=>h) (Or.inl ⟨by kernel_rfl,?_⟩) hS ?_
   rotate_left
   ·intro w' hw'; obtain ⟨x0,x1⟩:=hw'; go_simp; with_reducible rfl

   refine wpAnyH_ready (rs:=[10,20]) (by kernel_rfl) (by simp) ?_
   refine AllReadyH.cons rfl (fun K hK=>?_) (AllReadyH.cons rfl (fun K hK=>?_) AllReadyH.nil)
   ·go_simp
    refine hK.out _ _ hS (fun hS2=>?_)
    clear hK K
    refine wpAnyH_ready (rs:=[20]) (by kernel_rfl) (by simp) ?_
    refine AllReadyH.cons rfl (fun K hK=>?_) AllReadyH.nil
    go_simp
    refine hK.out _ _ ⟨KA1.out,KA2.out⟩ (fun hS3=>?_)
    clear hK K hS2 hS3

    refine wpAnyH_ready (rs:=[21]) (by kernel_rfl) (by simp) ?_
    refine AllReadyH.cons rfl (fun K hK=>?_) AllReadyH.nil
    rw [if_pos (by kernel_rfl)]
    refine wp_append_own_at _ (.tmp 48) (.tmp 58) 88 rfl B 139 i2 (.agg #[.int .i64 0,.int .i64 0,.int .i64 0,.int .i64 0,.int .i64 0]) 5 40 Tryz.underlying88 hi2 hx0 hx1 hx2 rfl (by decide) (.slice ar st.obj.rels.length cr) st.obj.rels.length (st.obj.rels.flatMap relV) (by kernel_rfl) hA.out ⟨V1.heap.size,0,none⟩ 1 1 [.int .i64 st.sect,.int .i64 (4 * q),.int .i64 kind,.int .i64 sym,.int .i64 addend] (by kernel_rfl) rfl hN.out hOne.out h63.out hby.out hbs.out ?_
    intro v' w3 hown' hgrow _ hat
    obtain ⟨ao',cap',rfl⟩:=own_form hown'
    have gd:(V1.alloc (.cells #[.int .i64 st.sect,.int .i64 (4 * q),.int .i64 kind,.int .i64 sym,.int .i64 addend] 139)).grownBy w3 (Value.ownBlock (.slice ar st.obj.rels.length cr)):=⟨hgrow.os,hgrow.tape,hgrow.output,hgrow.size,hgrow.block⟩
    have hat2:Value.ownBlock (.slice ao' (st.obj.rels.length+1) cap')=Value.ownBlock (.slice ar st.obj.rels.length cr)∨Value.ownBlock (.slice ao' (st.obj.rels.length+1) cap')=some (V1.alloc (.cells #[.int .i64 st.sect,.int .i64 (4 * q),.int .i64 kind,.int .i64 sym,.int .i64 addend] 139)).heap.size:=hat
    have F:=hid (FIN.out _ _ _ gd hat2 hown')
    have n14:=KEEP1.out _ gd
    have n13:=KEEP2.out _ gd
    have ng:=KEEP3.out _ gd
    have m5:=ng.cell 6
    have f5:=ng.free 6
    simp only [List.getElem?_toArray,List.getElem?_cons_succ,List.getElem?_cons_zero] at m5
    clear hown' hgrow gd hat hat2 ng
    refine hK.out _ _ ⟨n14,n13⟩ (fun hS4=>?_)
    clear hK K
    refine wpAnyH_take (i:=22) (v:=?_) rfl (by kernel_rfl) (by kernel_rfl) (by kernel_rfl) (fun _ _ _ h=>h) (Or.inl ⟨by kernel_rfl,?_⟩) hS4 ?_
    rotate_left
    ·intro w' hw'; obtain ⟨x0,x1⟩:=hw'; go_simp; with_reducible rfl
    refine wpAnyH_take (i:=23) (v:=?_) rfl (by kernel_rfl) (by kernel_rfl) (by kernel_rfl) (fun _ _ _ h=>h) (Or.inl ⟨by kernel_rfl,?_⟩) hS4 ?_
    rotate_left
    ·intro w' hw'; obtain ⟨x0,x1⟩:=hw'; go_simp; with_reducible rfl

    refine wpAnyH_ready (rs:=[24]) (by kernel_rfl) (by simp) ?_
    refine AllReadyH.cons rfl (fun K hK=>?_) AllReadyH.nil
    go_simp
    refine hK.out _ _ ⟨F.out.2.2.1,F.out.2.2.2⟩ (fun hS5=>?_)
    clear hK K
    refine wpAnyH_done (by kernel_rfl) ?_ _
    try simp only [put_mk,List.getElem_toArray,List.getElem_cons_succ,List.getElem_cons_zero,List.setIfInBounds_toArray,List.set_cons_succ,List.set_cons_zero]
    clear hA hN hOne h63 hby hbs c13 c14 g6 n14 n13 m5 f5 hS4 hS5 hS
    generalize World.setCell _ _ _=W5 at *
    go_wp2_with fail
    refine (lay_any B s b g _ ao cap ws W5 F.out.1.1 F.out.2.1 hn).mono ?_
    rintro e W6 ⟨rfl,h6⟩
    have HF:=hid (F.out.1.after h6)
    clear h6
    go_wp2
    go_end0
    rw [RX.out]
    exact ⟨rfl,HF.out⟩
   ·go_simp
    refine hK.out _ _ ⟨KA1.out,KA2.out⟩ (fun hS2=>?_)
    clear hK K
    refine wpAnyH_ready (rs:=[10]) (by kernel_rfl) (by simp) ?_
    refine AllReadyH.cons rfl (fun K hK=>?_) AllReadyH.nil
    go_simp
    refine hK.out _ _ ⟨KA1.out,KA2.out⟩ (fun hS3=>?_)
    clear hK K hS2 hS3

    refine wpAnyH_ready (rs:=[21]) (by kernel_rfl) (by simp) ?_
    refine AllReadyH.cons rfl (fun K hK=>?_) AllReadyH.nil
    rw [if_pos (by kernel_rfl)]
    refine wp_append_own_at _ (.tmp 48) (.tmp 58) 88 rfl B 139 i2 (.agg #[.int .i64 0,.int .i64 0,.int .i64 0,.int .i64 0,.int .i64 0]) 5 40 Tryz.underlying88 hi2 hx0 hx1 hx2 rfl (by decide) (.slice ar st.obj.rels.length cr) st.obj.rels.length (st.obj.rels.flatMap relV) (by kernel_rfl) hA.out ⟨V1.heap.size,0,none⟩ 1 1 [.int .i64 st.sect,.int .i64 (4 * q),.int .i64 kind,.int .i64 sym,.int .i64 addend] (by kernel_rfl) rfl hN.out hOne.out h63.out hby.out hbs.out ?_
    intro v' w3 hown' hgrow _ hat
    obtain ⟨ao',cap',rfl⟩:=own_form hown'
    have gd:(V1.alloc (.cells #[.int .i64 st.sect,.int .i64 (4 * q),.int .i64 kind,.int .i64 sym,.int .i64 addend] 139)).grownBy w3 (Value.ownBlock (.slice ar st.obj.rels.length cr)):=⟨hgrow.os,hgrow.tape,hgrow.output,hgrow.size,hgrow.block⟩
    have hat2:Value.ownBlock (.slice ao' (st.obj.rels.length+1) cap')=Value.ownBlock (.slice ar st.obj.rels.length cr)∨Value.ownBlock (.slice ao' (st.obj.rels.length+1) cap')=some (V1.alloc (.cells #[.int .i64 st.sect,.int .i64 (4 * q),.int .i64 kind,.int .i64 sym,.int .i64 addend] 139)).heap.size:=hat
    have F:=hid (FIN.out _ _ _ gd hat2 hown')
    have n14:=KEEP1.out _ gd
    have n13:=KEEP2.out _ gd
    have ng:=KEEP3.out _ gd
    have m5:=ng.cell 6
    have f5:=ng.free 6
    simp only [List.getElem?_toArray,List.getElem?_cons_succ,List.getElem?_cons_zero] at m5
    clear hown' hgrow gd hat hat2 ng
    refine hK.out _ _ ⟨n14,n13⟩ (fun hS4=>?_)
    clear hK K
    refine wpAnyH_take (i:=22) (v:=?_) rfl (by kernel_rfl) (by kernel_rfl) (by kernel_rfl) (fun _ _ _ h=>h) (Or.inl ⟨by kernel_rfl,?_⟩) hS4 ?_
    rotate_left
    ·intro w' hw'; obtain ⟨x0,x1⟩:=hw'; go_simp; with_reducible rfl
    refine wpAnyH_take (i:=23) (v:=?_) rfl (by kernel_rfl) (by kernel_rfl) (by kernel_rfl) (fun _ _ _ h=>h) (Or.inl ⟨by kernel_rfl,?_⟩) hS4 ?_
    rotate_left
    ·intro w' hw'; obtain ⟨x0,x1⟩:=hw'; go_simp; with_reducible rfl

    refine wpAnyH_ready (rs:=[24]) (by kernel_rfl) (by simp) ?_
    refine AllReadyH.cons rfl (fun K hK=>?_) AllReadyH.nil
    go_simp
    refine hK.out _ _ ⟨F.out.2.2.1,F.out.2.2.2⟩ (fun hS5=>?_)
    clear hK K
    refine wpAnyH_done (by kernel_rfl) ?_ _
    try simp only [put_mk,List.getElem_toArray,List.getElem_cons_succ,List.getElem_cons_zero,List.setIfInBounds_toArray,List.set_cons_succ,List.set_cons_zero]
    clear hA hN hOne h63 hby hbs c13 c14 g6 n14 n13 m5 f5 hS4 hS5 hS
    generalize World.setCell _ _ _=W5 at *
    go_wp2_with fail
    refine (lay_any B s b g _ ao cap ws W5 F.out.1.1 F.out.2.1 hn).mono ?_
    rintro e W6 ⟨rfl,h6⟩
    have HF:=hid (F.out.1.after h6)
    clear h6
    go_wp2
    go_end0
    rw [RX.out]
    exact ⟨rfl,HF.out⟩
  ·rw [hf,if_pos rfl] at RS
   clear hf
   go_wp2
   (try simp only [Exit.inBlock,Exit.then]); refine bodyPost_ret (results_none rfl _ _ _) rfl ?_
   rw [RS.out]
   exact ⟨rfl,HW.out.does⟩

end Go.Proofs.YtnfgdlkiialnnaaGreatDoor
