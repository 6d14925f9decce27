
import Derived.Test.YtnkkepfcpjllmaaGreatDoorU07
import Derived.Test.YtnkkepfcpjllmaaGreatDoorU04
set_option maxHeartbeats 16000000
set_option maxRecDepth 100000
namespace Go.Proofs.YtnkkepfcpjllmaaGreatDoor
open Go.RowKit
theorem yl.zV {B:Nat} {s:ByteArray} {b g:Nat} {V:World} {st:As.St} {vt vf vd va vs vr:Value} (h:yl B s b g st V) (ho:qD B V b g st.obj vt vf vd va vs vr) (n:Int) (hn:0<=n/\n<=64) :
  Does B s b g V { st with obj:={ st.obj with bss:=n } } (V.setCell ⟨g,3,none⟩ (.int .i64 n)):=by
 have gs:=yy V g 3 (.int .i64 n);have nr:ow B V (V.setCell ⟨g,3,none⟩ (.int .i64 n)) b g (gI g) (gI g):=⟨fun k hk _ hkg=>gs.block k hk (by simpa using hkg),fun k hk=>.inl hk,gs.os,gs.tape,gs.output,gs.size⟩
 have nb:=ho.blk.set 3 (.int .i64 n);have hlo:=h.lo;have row:∀ {e:TypeId} {size m:Nat} {u:Value} {xs:List Value} {j:Nat},[gI b,gI g,vt,vf,vd,va,vs,vr][j]?=some u->1≠j->V.ownsRow B e size u m xs->(V.setCell ⟨g,3,none⟩ (.int .i64 n)).ownsRow B e size u m xs:=fun hj hne hu =>
  Iy hu fun k hk=>gs.block k (hu.lt k hk).2 (fun e=>ho.apart.ne (i:=1) rfl hj hne k (by simpa [gI,Value.ownBlock] using e.symm) hk)
 have low:Below B V (V.setCell ⟨g,3,none⟩ (.int .i64 n)):=(Below.refl B V).grown gs h.size (by intro k hk; simp at hk; omega);refine ⟨⟨h.blk.grown gs (by simpa using hlo.2.2.2),⟨vt,vf,vd,va,vs,vr,by simpa using nb,row (j:=2) rfl (by omega) ho.text,row (j:=3) rfl (by omega) ho.far,row (j:=4) rfl (by omega) ho.data,row (j:=5) rfl (by omega) ho.align,row (j:=6) rfl (by omega) ho.syms,row (j:=7) rfl (by omega) ho.aj,ho.apart⟩,h.lo,h.ok.zX _ h.ok.text h.ok.far h.ok.data hn h.ok.align h.ok.syms h.ok.aj,h.tabs.qZ gs (by omega)⟩,low,?_⟩;intro k cs t h1 h2 _ _ _ hb;refine hb.grown gs ?_;intro e;obtain rfl:k=g:=by simpa using e
 have:=hb.symm.trans ho.blk
 simp at this;exact h2 this.2
theorem P7 (e pos:Nat) (st:As.St) (he:e≠0):As.failed (As.refuse e pos st)=true:=by
 unfold As.refuse;split
 ·rename_i h; exact h
 ·unfold As.failed; simp [he]
theorem KE (B:Nat) (s:ByteArray) (b g:Nat) (st1:As.St) (ao:Option Addr) (cap:Nat) (ws:List Int) (W:World) (h:yl B s b g st1 W) (hw:yE W ao cap ws) (hn:ws.length<=4096) :
  Calls Tryz.prog 140 #[.pointer (some ⟨b,0,none⟩),.slice ao ws.length cap] W fun en W'=>en = .returned (.tuple #[])/\Does B s b g W (As.lay ws st1) W':=by
 obtain ⟨i0,hi,hz0,hz1,hz2⟩:=info_parts Tryz.iC;have HW:=hid h;have DK:=hid hw;have c13:=zi h;have c14:=wJ h;have hsb:=Ug h.ok;have hpos:=h.ok.op.pos;have HD0:=hid (fun n=>h.kC.drewN n);have cL:=hid (fun V hV=>Lx B s b g st1 V hV);have cM:=hid (fun V hV=>yjc B s b g st1 V hV);have cF:=hid (fun V hV=>Gi B s b g st1 V hV);have hlim:64<=As.limit st1.ah/\As.limit st1.ah<=1200:=by unfold As.limit; repeat' split <;> omega
 have RS:=hid (show As.lay ws st1=if 4 * As.limit st1.ah < 4 * As.aA st1.obj st1.ah+4 * (ws.length:Int) then As.refuse 13 st1.op.pos st1 else if As.failed st1 then st1 else { st1 with obj:=As.aB st1.obj st1.ah ws } from rfl);have VL:=h.ok.ah;generalize As.lay ws st1=X at *;generalize hq:As.aA st1.obj st1.ah=q at *;generalize hl:As.limit st1.ah=lim at *;have HQ:=hid hq;have HL:=hid hl;clear h hw hq hl;go_enter Tryz.func140,Tryz.ntmps140;go_wp2
 go_quiet ((go_at_call 61; exact Calls.quiet_of_same (cL.o _ (HD0.o _).1)))
 go_wp2_with fail;refine (cM.o _ (HD0.o _).1).mono ?_;rintro e w1 ⟨rfl,rfl⟩;have D0:=hid ((HD0.o nq).does HW.o);have wZ:=hid (DK.o.grown (yc (World.grownBy.refl _ _) nq));clear HD0 c13 c14 cL cM DK;generalize W.drewN nq=V1 at *;by_cases hov:4 * lim < 4 * q+4 * (ws.length:Int)
 ·have D1:decide (4 * lim < 4 * q+4 * (ws.length:Int))=true:=by simp; omega
  rw [if_pos hov] at RS;have c10:=Ql D0.o.1;clear hov;go_wp2_with fail;refine (yM B s b g st1 13 st1.op.pos V1 D0.o.1 (by omega) hpos).mono ?_;rintro e V2 ⟨rfl,h2⟩;have D2:=hid (D0.o.aR h2);have O9:=hid (show As.failed (As.refuse 13 st1.op.pos st1)=true from P7 _ _ _ (by omega));clear h2 c10;go_wp2_with fail;refine (Gi B s b g _ V2 D2.o.1).mono ?_;rintro e w2 ⟨rfl,rfl⟩;rw [O9.o];go_wp2
  (try simp only [Exit.inBlock,Exit.then]); refine bodyPost_ret (results_none rfl _ _ _) rfl ?_
  rw [RS.o];exact ⟨rfl,D2.o⟩
 ·have D1:decide (4 * lim < 4 * q+4 * (ws.length:Int))=false:=by simp; omega
  rw [if_neg hov] at RS;have ROOM:=hid (show As.aA st1.obj st1.ah+ws.length<=As.limit st1.ah by rw [HQ.o,HL.o]; omega);clear hov;go_wp2_with fail;refine (cF.o V1 D0.o.1).mono ?_;rintro e w2 ⟨rfl,rfl⟩;clear cF;have D:=hid D0.o;clear D0
  cases hf:As.failed st1
  ·rw [hf,if_neg (by simp)] at RS;have RX:=hid RS.o;clear hf RS;rcases (show st1.ah=1\/st1.ah=2\/st1.ah=3\/st1.ah=4 by omega) with es | es | es | es
   all_goals
    have ES:=hid es;clear es
   ·obtain ⟨vt,vf,vd,va,vs,vr,ho⟩:=D.o.1.own;obtain ⟨lN,cap0,rfl⟩:=yi ho.text;have HO:=hid ho;have hlen:st1.obj.text.length+ws.length<=1200:=by have:=ROOM.o; unfold As.limit As.aA at this; simp [ES.o] at this; omega
    have g0:=ho.blk.cell 0;simp only [bB,bf] at g0;have c14:=wJ D.o.1;have hA:Hd (w2.drew.ownsRow B 3 1 (.slice lN st1.obj.text.length cap0) st1.obj.text.length (st1.obj.text.map (Value.int .i64))):=ho.text.drew;have MP:Hd (yE w2.drew ao cap ws):=wZ.o.grown (yg (World.grownBy.refl _ _));have hbs:Hd (B<=w2.drew.heap.size):=D.o.1.size;have hb0:Hd (some b≠Value.ownBlock (.slice lN st1.obj.text.length cap0)):=fun e=>ho.apart.ne (i:=0) (j:=2) rfl rfl (by omega) b rfl e.symm
    have hg0:Hd (some g≠Value.ownBlock (.slice lN st1.obj.text.length cap0)):=fun e=>ho.apart.ne (i:=1) (j:=2) rfl rfl (by omega) g rfl e.symm
    have KB:Hd (∀ w3,w2.grownBy w3 (Value.ownBlock (.slice lN st1.obj.text.length cap0))->w3.cell? ⟨b,14,none⟩=some (.pointer (some ⟨g,0,none⟩))):=fun w3 h=>h.cell c14 hb0.o
    have KG:Hd (∀ w3,w2.grownBy w3 (Value.ownBlock (.slice lN st1.obj.text.length cap0))->yd w3 g #[.slice lN st1.obj.text.length cap0,vf,vd,.int .i64 st1.obj.bss,va,vs,vr] 40):=fun w3 h=>HO.o.blk.grown h hg0.o
    have FIN:Hd (∀ w3 eP cap',w2.grownBy w3 (Value.ownBlock (.slice lN st1.obj.text.length cap0))->(Value.ownBlock (.slice eP (st1.obj.text.length+ws.length) cap')=Value.ownBlock (.slice lN st1.obj.text.length cap0)\/Value.ownBlock (.slice eP (st1.obj.text.length+ws.length) cap')=some w2.heap.size)->w3.ownsRow B 3 1 (.slice eP (st1.obj.text.length+ws.length) cap') (st1.obj.text.length+ws.length) (st1.obj.text.map (Value.int .i64) ++ ws.map (Value.int .i64)) ->
      Does B s b g W X (w3.setCell ⟨g,0,none⟩ (.slice eP (st1.obj.text.length+ws.length) cap'))/\(w3.setCell ⟨g,0,none⟩ (.slice eP (st1.obj.text.length+ws.length) cap')).cell? ⟨b,14,none⟩=some (.pointer (some ⟨g,0,none⟩))):=fun w3 eP cap' gd hat hown=>by
     have nr:ow B w2 (w3.setCell ⟨g,0,none⟩ (.slice eP (st1.obj.text.length+ws.length) cap')) b g (.slice lN st1.obj.text.length cap0) (.slice eP (st1.obj.text.length+ws.length) cap'):=ow.app0 gd hat
     have nb:=(KG.o w3 gd).set 0 (.slice eP (st1.obj.text.length+ws.length) cap');have gs:=yy w3 g 0 (.slice eP (st1.obj.text.length+ws.length) cap');refine ⟨?_,gs.cell (KB.o w3 gd) (by simpa using fun e=>D.o.1.lo.2.2.2 e)⟩;rw [show X={ st1 with obj:={ st1.obj with text:=st1.obj.text ++ ws } } from by rw [RX.o]; unfold As.aB; simp [ES.o]];refine D.o.after (D.o.1.newText HO.o nr (st1.obj.text ++ ws) (by rw [iA]; exact hlen) (by simpa using nb) ?_);rw [iA,List.map_append];exact Lh hown (fun k hk=>by
      rcases hat with h1 | h1
      ·rw [h1] at hk;exact fun e=>hg0.o (by rw [e,hk])
      ·rw [h1] at hk;simp at hk
       have:=HO.o.blk.lt
       omega)
    have hsc:=hid (show w2.cell? ⟨b,13,none⟩=some (.int .i64 1) from by have:=zi D.o.1; rw [ES.o] at this; exact this);have hsc2:=hsc.o;clear ho;go_wp2;clear hsc2;refine wp_region_held_drew (S:=(fun w'=>w'.cell? ⟨b,14,none⟩=some (.pointer (some ⟨g,0,none⟩)))) (by kernel_rfl) c14 ?_;intro hS
    iterate 10
     refine yH (v:=?_) rfl (by kernel_rfl) (fun _ _ _ h=>h) hS ?_ ?_
     rotate_left
     ·intro w' hw'; have x0:=hw'; go_simp; with_reducible rfl
    refine jG (i:=11) (v:=?_) rfl ?_ hS ?_
    rotate_left
    ·intro w' hw'; have x0:=hw'; go_simp; with_reducible rfl
    refine wpAnyH_ready (rs:=[10]) (by kernel_rfl) (by simp) ?_;refine AllReadyH.cons rfl (fun K hK=>?_) AllReadyH.nil;go_simp;refine hK.out _ _ hS (fun hS2=>?_);clear hK K;refine wpAnyH_ready (rs:=[12]) (by kernel_rfl) (by simp) ?_;refine AllReadyH.cons rfl (fun K hK=>?_) AllReadyH.nil;rw [if_pos (by kernel_rfl)];refine PI _ (.tmp 48) (.tmp 49) 36 rfl B i0 Tryz.underlying36 hi hz0 hz1 hz2 (.slice lN st1.obj.text.length cap0) st1.obj.text.length (st1.obj.text.map (Value.int .i64)) (by kernel_rfl) hA.o ao cap ws (by kernel_rfl) MP.o (by omega) hbs.o ?_;intro v' w3 hown' hgrow hat
    obtain ⟨eP,cap',rfl⟩:=yi hown';have gd:w2.grownBy w3 (Value.ownBlock (.slice lN st1.obj.text.length cap0)):=⟨hgrow.os,hgrow.tape,hgrow.output,hgrow.size,hgrow.block⟩
    have kU:Value.ownBlock (.slice eP (st1.obj.text.length+ws.length) cap')=Value.ownBlock (.slice lN st1.obj.text.length cap0)\/Value.ownBlock (.slice eP (st1.obj.text.length+ws.length) cap')=some w2.heap.size:=hat
    have F:=hid (FIN.o _ _ _ gd kU hown');have n14:=KB.o _ gd;have ng:=KG.o _ gd;have m5:=ng.cell 0;have f5:=ng.free 0;simp only [bB,bf] at m5;clear hown' hgrow gd hat kU ng;refine hK.out _ _ n14 (fun rZ=>?_);clear hK K
    iterate 2
     refine yH (v:=?_) rfl (by kernel_rfl) (fun _ _ _ h=>h) rZ ?_ ?_
     rotate_left
     ·intro w' hw'; have x0:=hw'; go_simp; with_reducible rfl
    refine wpAnyH_ready (rs:=[15]) (by kernel_rfl) (by simp) ?_;refine AllReadyH.cons rfl (fun K hK=>?_) AllReadyH.nil;go_simp;refine hK.out _ _ F.o.2 (fun hS5=>?_);clear hK K;refine wpAnyH_done (by kernel_rfl) ?_ _
    try simp only [oC,oF,oq,oD,iW,iR,iT]
    clear hA hbs c14 g0 n14 m5 f5 rZ hS5 hS hS2;go_wp2
    go_end0
    exact ⟨rfl,F.o.1⟩
   ·obtain ⟨vt,vf,vd,va,vs,vr,ho⟩:=D.o.1.own;obtain ⟨lN,cap0,rfl⟩:=yi ho.far;have HO:=hid ho;have hlen:st1.obj.far.length+ws.length<=1200:=by have:=ROOM.o; unfold As.limit As.aA at this; simp [ES.o] at this; omega
    have g0:=ho.blk.cell 1;simp only [bB,yml,bf] at g0;have c14:=wJ D.o.1;have hA:Hd (w2.drew.ownsRow B 3 1 (.slice lN st1.obj.far.length cap0) st1.obj.far.length (st1.obj.far.map (Value.int .i64))):=ho.far.drew;have MP:Hd (yE w2.drew ao cap ws):=wZ.o.grown (yg (World.grownBy.refl _ _));have hbs:Hd (B<=w2.drew.heap.size):=D.o.1.size;have hb0:Hd (some b≠Value.ownBlock (.slice lN st1.obj.far.length cap0)):=fun e=>ho.apart.ne (i:=0) (j:=3) rfl rfl (by omega) b rfl e.symm
    have hg0:Hd (some g≠Value.ownBlock (.slice lN st1.obj.far.length cap0)):=fun e=>ho.apart.ne (i:=1) (j:=3) rfl rfl (by omega) g rfl e.symm
    have KB:Hd (∀ w3,w2.grownBy w3 (Value.ownBlock (.slice lN st1.obj.far.length cap0))->w3.cell? ⟨b,14,none⟩=some (.pointer (some ⟨g,0,none⟩))):=fun w3 h=>h.cell c14 hb0.o
    have KG:Hd (∀ w3,w2.grownBy w3 (Value.ownBlock (.slice lN st1.obj.far.length cap0))->yd w3 g #[vt,.slice lN st1.obj.far.length cap0,vd,.int .i64 st1.obj.bss,va,vs,vr] 40):=fun w3 h=>HO.o.blk.grown h hg0.o
    have FIN:Hd (∀ w3 eP cap',w2.grownBy w3 (Value.ownBlock (.slice lN st1.obj.far.length cap0))->(Value.ownBlock (.slice eP (st1.obj.far.length+ws.length) cap')=Value.ownBlock (.slice lN st1.obj.far.length cap0)\/Value.ownBlock (.slice eP (st1.obj.far.length+ws.length) cap')=some w2.heap.size)->w3.ownsRow B 3 1 (.slice eP (st1.obj.far.length+ws.length) cap') (st1.obj.far.length+ws.length) (st1.obj.far.map (Value.int .i64) ++ ws.map (Value.int .i64)) ->
      Does B s b g W X (w3.setCell ⟨g,1,none⟩ (.slice eP (st1.obj.far.length+ws.length) cap'))/\(w3.setCell ⟨g,1,none⟩ (.slice eP (st1.obj.far.length+ws.length) cap')).cell? ⟨b,14,none⟩=some (.pointer (some ⟨g,0,none⟩))):=fun w3 eP cap' gd hat hown=>by
     have nr:ow B w2 (w3.setCell ⟨g,1,none⟩ (.slice eP (st1.obj.far.length+ws.length) cap')) b g (.slice lN st1.obj.far.length cap0) (.slice eP (st1.obj.far.length+ws.length) cap'):=ow.app0 gd hat
     have nb:=(KG.o w3 gd).set 1 (.slice eP (st1.obj.far.length+ws.length) cap');have gs:=yy w3 g 1 (.slice eP (st1.obj.far.length+ws.length) cap');refine ⟨?_,gs.cell (KB.o w3 gd) (by simpa using fun e=>D.o.1.lo.2.2.2 e)⟩;rw [show X={ st1 with obj:={ st1.obj with far:=st1.obj.far ++ ws } } from by rw [RX.o]; unfold As.aB; simp [ES.o]];refine D.o.after (D.o.1.vT HO.o nr (st1.obj.far ++ ws) (by rw [iA]; exact hlen) (by simpa using nb) ?_);rw [iA,List.map_append];exact Lh hown (fun k hk=>by
      rcases hat with h1 | h1
      ·rw [h1] at hk;exact fun e=>hg0.o (by rw [e,hk])
      ·rw [h1] at hk;simp at hk
       have:=HO.o.blk.lt
       omega)
    have hsc:=hid (show w2.cell? ⟨b,13,none⟩=some (.int .i64 2) from by have:=zi D.o.1; rw [ES.o] at this; exact this);have hsc2:=hsc.o;clear ho;go_wp2;clear hsc2;refine wp_region_held_drew (S:=(fun w'=>w'.cell? ⟨b,14,none⟩=some (.pointer (some ⟨g,0,none⟩)))) (by kernel_rfl) c14 ?_;intro hS
    iterate 10
     refine yH (v:=?_) rfl (by kernel_rfl) (fun _ _ _ h=>h) hS ?_ ?_
     rotate_left
     ·intro w' hw'; have x0:=hw'; go_simp; with_reducible rfl
    refine jG (i:=11) (v:=?_) rfl ?_ hS ?_
    rotate_left
    ·intro w' hw'; have x0:=hw'; go_simp; with_reducible rfl
    refine wpAnyH_ready (rs:=[10]) (by kernel_rfl) (by simp) ?_;refine AllReadyH.cons rfl (fun K hK=>?_) AllReadyH.nil;go_simp;refine hK.out _ _ hS (fun hS2=>?_);clear hK K;refine wpAnyH_ready (rs:=[12]) (by kernel_rfl) (by simp) ?_;refine AllReadyH.cons rfl (fun K hK=>?_) AllReadyH.nil;rw [if_pos (by kernel_rfl)];refine PI _ (.tmp 65) (.tmp 66) 36 rfl B i0 Tryz.underlying36 hi hz0 hz1 hz2 (.slice lN st1.obj.far.length cap0) st1.obj.far.length (st1.obj.far.map (Value.int .i64)) (by kernel_rfl) hA.o ao cap ws (by kernel_rfl) MP.o (by omega) hbs.o ?_;intro v' w3 hown' hgrow hat
    obtain ⟨eP,cap',rfl⟩:=yi hown';have gd:w2.grownBy w3 (Value.ownBlock (.slice lN st1.obj.far.length cap0)):=⟨hgrow.os,hgrow.tape,hgrow.output,hgrow.size,hgrow.block⟩
    have kU:Value.ownBlock (.slice eP (st1.obj.far.length+ws.length) cap')=Value.ownBlock (.slice lN st1.obj.far.length cap0)\/Value.ownBlock (.slice eP (st1.obj.far.length+ws.length) cap')=some w2.heap.size:=hat
    have F:=hid (FIN.o _ _ _ gd kU hown');have n14:=KB.o _ gd;have ng:=KG.o _ gd;have m5:=ng.cell 1;have f5:=ng.free 1;simp only [bB,yml,bf] at m5;clear hown' hgrow gd hat kU ng;refine hK.out _ _ n14 (fun rZ=>?_);clear hK K
    iterate 2
     refine yH (v:=?_) rfl (by kernel_rfl) (fun _ _ _ h=>h) rZ ?_ ?_
     rotate_left
     ·intro w' hw'; have x0:=hw'; go_simp; with_reducible rfl
    refine wpAnyH_ready (rs:=[15]) (by kernel_rfl) (by simp) ?_;refine AllReadyH.cons rfl (fun K hK=>?_) AllReadyH.nil;go_simp;refine hK.out _ _ F.o.2 (fun hS5=>?_);clear hK K;refine wpAnyH_done (by kernel_rfl) ?_ _
    try simp only [oC,oF,oq,oD,iW,iR,iT]
    clear hA hbs c14 g0 n14 m5 f5 rZ hS5 hS hS2;go_wp2
    go_end0
    exact ⟨rfl,F.o.1⟩
   ·obtain ⟨vt,vf,vd,va,vs,vr,ho⟩:=D.o.1.own;obtain ⟨lN,cap0,rfl⟩:=yi ho.data;have HO:=hid ho;have hlen:st1.obj.data.length+ws.length<=64:=by have:=ROOM.o; unfold As.limit As.aA at this; simp [ES.o] at this; omega
    have g0:=ho.blk.cell 2;simp only [bB,yml,bf] at g0;have c14:=wJ D.o.1;have hA:Hd (w2.drew.ownsRow B 3 1 (.slice lN st1.obj.data.length cap0) st1.obj.data.length (st1.obj.data.map (Value.int .i64))):=ho.data.drew;have MP:Hd (yE w2.drew ao cap ws):=wZ.o.grown (yg (World.grownBy.refl _ _));have hbs:Hd (B<=w2.drew.heap.size):=D.o.1.size;have hb0:Hd (some b≠Value.ownBlock (.slice lN st1.obj.data.length cap0)):=fun e=>ho.apart.ne (i:=0) (j:=4) rfl rfl (by omega) b rfl e.symm
    have hg0:Hd (some g≠Value.ownBlock (.slice lN st1.obj.data.length cap0)):=fun e=>ho.apart.ne (i:=1) (j:=4) rfl rfl (by omega) g rfl e.symm
    have KB:Hd (∀ w3,w2.grownBy w3 (Value.ownBlock (.slice lN st1.obj.data.length cap0))->w3.cell? ⟨b,14,none⟩=some (.pointer (some ⟨g,0,none⟩))):=fun w3 h=>h.cell c14 hb0.o
    have KG:Hd (∀ w3,w2.grownBy w3 (Value.ownBlock (.slice lN st1.obj.data.length cap0))->yd w3 g #[vt,vf,.slice lN st1.obj.data.length cap0,.int .i64 st1.obj.bss,va,vs,vr] 40):=fun w3 h=>HO.o.blk.grown h hg0.o
    have FIN:Hd (∀ w3 eP cap',w2.grownBy w3 (Value.ownBlock (.slice lN st1.obj.data.length cap0))->(Value.ownBlock (.slice eP (st1.obj.data.length+ws.length) cap')=Value.ownBlock (.slice lN st1.obj.data.length cap0)\/Value.ownBlock (.slice eP (st1.obj.data.length+ws.length) cap')=some w2.heap.size)->w3.ownsRow B 3 1 (.slice eP (st1.obj.data.length+ws.length) cap') (st1.obj.data.length+ws.length) (st1.obj.data.map (Value.int .i64) ++ ws.map (Value.int .i64)) ->
      Does B s b g W X (w3.setCell ⟨g,2,none⟩ (.slice eP (st1.obj.data.length+ws.length) cap'))/\(w3.setCell ⟨g,2,none⟩ (.slice eP (st1.obj.data.length+ws.length) cap')).cell? ⟨b,14,none⟩=some (.pointer (some ⟨g,0,none⟩))):=fun w3 eP cap' gd hat hown=>by
     have nr:ow B w2 (w3.setCell ⟨g,2,none⟩ (.slice eP (st1.obj.data.length+ws.length) cap')) b g (.slice lN st1.obj.data.length cap0) (.slice eP (st1.obj.data.length+ws.length) cap'):=ow.app0 gd hat
     have nb:=(KG.o w3 gd).set 2 (.slice eP (st1.obj.data.length+ws.length) cap');have gs:=yy w3 g 2 (.slice eP (st1.obj.data.length+ws.length) cap');refine ⟨?_,gs.cell (KB.o w3 gd) (by simpa using fun e=>D.o.1.lo.2.2.2 e)⟩;rw [show X={ st1 with obj:={ st1.obj with data:=st1.obj.data ++ ws } } from by rw [RX.o]; unfold As.aB; simp [ES.o]];refine D.o.after (D.o.1.ru HO.o nr (st1.obj.data ++ ws) (by rw [iA]; exact hlen) (by simpa using nb) ?_);rw [iA,List.map_append];exact Lh hown (fun k hk=>by
      rcases hat with h1 | h1
      ·rw [h1] at hk;exact fun e=>hg0.o (by rw [e,hk])
      ·rw [h1] at hk;simp at hk
       have:=HO.o.blk.lt
       omega)
    have hsc:=hid (show w2.cell? ⟨b,13,none⟩=some (.int .i64 3) from by have:=zi D.o.1; rw [ES.o] at this; exact this);have hsc2:=hsc.o;clear ho;go_wp2;clear hsc2;refine wp_region_held_drew (S:=(fun w'=>w'.cell? ⟨b,14,none⟩=some (.pointer (some ⟨g,0,none⟩)))) (by kernel_rfl) c14 ?_;intro hS
    iterate 10
     refine yH (v:=?_) rfl (by kernel_rfl) (fun _ _ _ h=>h) hS ?_ ?_
     rotate_left
     ·intro w' hw'; have x0:=hw'; go_simp; with_reducible rfl
    refine jG (i:=11) (v:=?_) rfl ?_ hS ?_
    rotate_left
    ·intro w' hw'; have x0:=hw'; go_simp; with_reducible rfl
    refine wpAnyH_ready (rs:=[10]) (by kernel_rfl) (by simp) ?_;refine AllReadyH.cons rfl (fun K hK=>?_) AllReadyH.nil;go_simp;refine hK.out _ _ hS (fun hS2=>?_);clear hK K;refine wpAnyH_ready (rs:=[12]) (by kernel_rfl) (by simp) ?_;refine AllReadyH.cons rfl (fun K hK=>?_) AllReadyH.nil;rw [if_pos (by kernel_rfl)];refine PI _ (.tmp 82) (.tmp 83) 36 rfl B i0 Tryz.underlying36 hi hz0 hz1 hz2 (.slice lN st1.obj.data.length cap0) st1.obj.data.length (st1.obj.data.map (Value.int .i64)) (by kernel_rfl) hA.o ao cap ws (by kernel_rfl) MP.o (by omega) hbs.o ?_;intro v' w3 hown' hgrow hat
    obtain ⟨eP,cap',rfl⟩:=yi hown';have gd:w2.grownBy w3 (Value.ownBlock (.slice lN st1.obj.data.length cap0)):=⟨hgrow.os,hgrow.tape,hgrow.output,hgrow.size,hgrow.block⟩
    have kU:Value.ownBlock (.slice eP (st1.obj.data.length+ws.length) cap')=Value.ownBlock (.slice lN st1.obj.data.length cap0)\/Value.ownBlock (.slice eP (st1.obj.data.length+ws.length) cap')=some w2.heap.size:=hat
    have F:=hid (FIN.o _ _ _ gd kU hown');have n14:=KB.o _ gd;have ng:=KG.o _ gd;have m5:=ng.cell 2;have f5:=ng.free 2;simp only [bB,yml,bf] at m5;clear hown' hgrow gd hat kU ng;refine hK.out _ _ n14 (fun rZ=>?_);clear hK K
    iterate 2
     refine yH (v:=?_) rfl (by kernel_rfl) (fun _ _ _ h=>h) rZ ?_ ?_
     rotate_left
     ·intro w' hw'; have x0:=hw'; go_simp; with_reducible rfl
    refine wpAnyH_ready (rs:=[15]) (by kernel_rfl) (by simp) ?_;refine AllReadyH.cons rfl (fun K hK=>?_) AllReadyH.nil;go_simp;refine hK.out _ _ F.o.2 (fun hS5=>?_);clear hK K;refine wpAnyH_done (by kernel_rfl) ?_ _
    try simp only [oC,oF,oq,oD,iW,iR,iT]
    clear hA hbs c14 g0 n14 m5 f5 rZ hS5 hS hS2;go_wp2
    go_end0
    exact ⟨rfl,F.o.1⟩
   ·obtain ⟨vt,vf,vd,va,vs,vr,ho⟩:=D.o.1.own;have HO:=hid ho;have hlen:st1.obj.bss+ws.length<=64:=by have:=ROOM.o; unfold As.limit As.aA at this; simp [ES.o] at this; omega
    have hb1:=D.o.1.ok.bss;have g0:=ho.blk.cell 3;have f0:=ho.blk.free 3;simp only [bB,yml,bf] at g0;have c14:=wJ D.o.1;have hsc2:w2.cell? ⟨b,13,none⟩=some (.int .i64 4):=by have:=zi D.o.1; rw [ES.o] at this; exact this
    have Y7:=hid (show X={ st1 with obj:={ st1.obj with bss:=st1.obj.bss+ws.length } } from by rw [RX.o]; unfold As.aB; simp [ES.o]);clear ho;go_wp2
    go_end0
    rw [Y7.o];exact ⟨rfl,D.o.after (D.o.1.zV HO.o _ ⟨by omega,by omega⟩)⟩
  ·rw [hf,if_pos rfl] at RS;clear hf;go_wp2
   (try simp only [Exit.inBlock,Exit.then]); refine bodyPost_ret (results_none rfl _ _ _) rfl ?_
   rw [RS.o];exact ⟨rfl,D.o⟩
theorem Iw {w:World} {base:Nat} {e t:TypeId} {size n:Nat} {v:Value} {xs:List Value} {k:Nat} {cs:Array Value} (h:w.ownsRow base e size v n xs) (hk:v.ownBlock=some k) (hb:yd w k cs t) (hne:e≠t):False:=by
 rcases h.2 with ⟨rfl,_⟩ | ⟨g',cap,cur,rfl,_,hg,_⟩
 ·simp [Value.ownBlock] at hk
 ·obtain rfl:g'=k:=by simpa [Value.ownBlock] using hk
  have:=hg.symm.trans hb
  simp at this;exact hne this.2
theorem yl.Bf {B:Nat} {s:ByteArray} {b g:Nat} {V W':World} {st:As.St} {vt vf vd va vs vr v':Value} (h:yl B s b g st V) (ho:qD B V b g st.obj vt vf vd va vs vr) (n:ow B V W' b g vr v') (ys:List Lk.Rel) (hys:ys.length<=32)
  (hblk:yd W' g #[vt,vf,vd,.int .i64 st.obj.bss,va,vs,v'] 40) (hown:W'.ownsRow B 54 5 v' ys.length (ys.flatMap dK)):Does B s b g V { st with obj:={ st.obj with aj:=ys } } W':=by
 refine n.does h ho (i:=7) rfl (by omega) ⟨vt,vf,vd,va,vs,v',hblk,?_,?_,?_,?_,?_,hown,n.apart ho h.blk.lt (i:=7) rfl⟩ rfl (h.ok.zX _ h.ok.text h.ok.far h.ok.data h.ok.bss h.ok.align h.ok.syms hys) (Jo ho.aj (by simp))
 ·exact n.row ho (i:=7) (j:=2) rfl rfl (by omega) (by omega) ho.text
 ·exact n.row ho (i:=7) (j:=3) rfl rfl (by omega) (by omega) ho.far
 ·exact n.row ho (i:=7) (j:=4) rfl rfl (by omega) (by omega) ho.data
 ·exact n.row ho (i:=7) (j:=5) rfl rfl (by omega) (by omega) ho.align
 ·exact n.row ho (i:=7) (j:=6) rfl rfl (by omega) (by omega) ho.syms
theorem Jk (B:Nat) (s:ByteArray) (b g:Nat) (st:As.St) (kind:Int) (sym:Nat) (addend:Int) (ao:Option Addr) (cap:Nat) (ws:List Int) (W:World) (h:yl B s b g st W) (hw:yE W ao cap ws) (hn:ws.length<=4096) :
  Calls Tryz.prog 137 #[.pointer (some ⟨b,0,none⟩),.int .i64 kind,.int .i64 sym,.int .i64 addend,.slice ao ws.length cap] W fun en W'=>en = .returned (.tuple #[])/\Does B s b g W (As.bG kind sym addend ws st) W':=by
 obtain ⟨i2,hi2,hx0,hx1,hx2⟩:=info_parts Tryz.q8;have HW:=hid h;have DK:=hid hw;have hpos:=h.ok.op.pos;have Hg:=h.ok.aj;have hsb:=Ug h.ok;have RS:=hid (show As.bG kind sym addend ws st=if As.failed (As.aJ (decide (32<=st.obj.aj.length)) 12 st.op.pos st) then As.aJ (decide (32<=st.obj.aj.length)) 12 st.op.pos st else
  As.lay ws { As.aJ (decide (32<=st.obj.aj.length)) 12 st.op.pos st with obj:={ (As.aJ (decide (32<=st.obj.aj.length)) 12 st.op.pos st).obj with aj:=(As.aJ (decide (32<=st.obj.aj.length)) 12 st.op.pos st).obj.aj ++ [⟨(As.aJ (decide (32<=st.obj.aj.length)) 12 st.op.pos st).ah,4 * As.aA (As.aJ (decide (32<=st.obj.aj.length)) 12 st.op.pos st).obj (As.aJ (decide (32<=st.obj.aj.length)) 12 st.op.pos st).ah,kind,sym,addend⟩] } } from rfl)
 generalize As.bG kind sym addend ws st=X at *;have c14:=wJ h;obtain ⟨vt0,vf0,vd0,va0,TJ,VZ,ho0⟩:=h.own;obtain ⟨ar0,MC,rfl⟩:=yi ho0.aj;have Rb:=ho0.blk.cell 6;simp only [bB,yml,bf] at Rb;clear ho0;have c10:=Ql h;clear h hw;go_enter Tryz.func137,Tryz.ntmps137;by_cases h32:32<=st.obj.aj.length
 ·have D1:decide ((32:Int)<=(st.obj.aj.length:Int))=true:=by simp; omega
  rw [show decide (32<=st.obj.aj.length)=true by simp; omega] at RS;clear h32;go_wp2_with fail;refine (yM B s b g st 12 st.op.pos W HW.o (by omega) hpos).mono ?_;rintro e V2 ⟨rfl,h2⟩;have D2:=hid (h2.does HW.o);have O9:=hid (show As.failed (As.refuse 12 st.op.pos st)=true from P7 _ _ _ (by omega));clear h2 c10 c14 Rb;go_wp2_with fail;refine (Gi B s b g _ V2 D2.o.1).mono ?_;rintro e w2 ⟨rfl,rfl⟩;rw [O9.o];go_wp2
  (try simp only [Exit.inBlock,Exit.then]); refine bodyPost_ret (results_none rfl _ _ _) rfl ?_
  rw [RS.o];refine ⟨rfl,?_⟩;simp only [As.aJ,if_true,O9.o];exact D2.o
 ·have D1:decide ((32:Int)<=(st.obj.aj.length:Int))=false:=by simp; omega
  rw [show decide (32<=st.obj.aj.length)=false by simp; omega] at RS;simp only [As.aJ,Bool.false_eq_true,if_false] at RS;go_wp2_with fail;refine (Gi B s b g st W HW.o).mono ?_;rintro e w2 ⟨rfl,rfl⟩
  cases hf:As.failed st
  ·rw [hf,if_neg (by simp)] at RS;clear hf;have cL:=hid (fun V hV=>Lx B s b g st V hV);have HD0:=hid (fun n=>HW.o.kC.drewN n);have c13:=zi HW.o;generalize hq:As.aA st.obj st.ah=q at *;have RX:=hid RS.o;clear RS hq;go_wp2
   go_quiet ((go_at_call 61; exact Calls.quiet_of_same (cL.o _ (HD0.o _).1)))
   have D:=hid ((HD0.o nq).does HW.o);have wZ:=hid (DK.o.grown (yc (World.grownBy.refl _ _) nq));clear HD0 c13 c14 cL DK c10 Rb;generalize w2.drewN nq=V1 at *;obtain ⟨vt,vf,vd,va,vs,vr,ho⟩:=D.o.1.own;obtain ⟨ar,cr,rfl⟩:=yi ho.aj;have HO:=hid ho;have c13:=zi D.o.1;have c14:=wJ D.o.1;have g6:=ho.blk.cell 6;simp only [bB,yml,bf] at g6;have hgl:g < V1.heap.size:=ho.blk.lt;have hn32:st.obj.aj.length+1<=32:=by omega
   have GA:=hid (aW V1 (.cells #[.int .i64 st.ah,.int .i64 (4 * q),.int .i64 kind,.int .i64 sym,.int .i64 addend] 54) none);have Gs:Hd ((V1.alloc (.cells #[.int .i64 st.ah,.int .i64 (4 * q),.int .i64 kind,.int .i64 sym,.int .i64 addend] 54)).drew.cell? ⟨b,14,none⟩=some (.pointer (some ⟨g,0,none⟩))):=yb c14 (yg GA.o);have Gt:Hd ((V1.alloc (.cells #[.int .i64 st.ah,.int .i64 (4 * q),.int .i64 kind,.int .i64 sym,.int .i64 addend] 54)).drew.cell? ⟨b,13,none⟩=some (.int .i64 st.ah)):=yb c13 (yg GA.o);have hb0:Hd (some b≠Value.ownBlock (.slice ar st.obj.aj.length cr)):=fun e=>ho.apart.ne (i:=0) (j:=7) rfl rfl (by omega) b rfl e.symm
   have hg0:Hd (some g≠Value.ownBlock (.slice ar st.obj.aj.length cr)):=fun e=>ho.apart.ne (i:=1) (j:=7) rfl rfl (by omega) g rfl e.symm
   have rF:Hd (∀ w3,(V1.alloc (.cells #[.int .i64 st.ah,.int .i64 (4 * q),.int .i64 kind,.int .i64 sym,.int .i64 addend] 54)).grownBy w3 (Value.ownBlock (.slice ar st.obj.aj.length cr))->w3.cell? ⟨b,14,none⟩=some (.pointer (some ⟨g,0,none⟩))):=fun w3 h=>h.cell Gs.o hb0.o
   have rG:Hd (∀ w3,(V1.alloc (.cells #[.int .i64 st.ah,.int .i64 (4 * q),.int .i64 kind,.int .i64 sym,.int .i64 addend] 54)).grownBy w3 (Value.ownBlock (.slice ar st.obj.aj.length cr))->w3.cell? ⟨b,13,none⟩=some (.int .i64 st.ah)):=fun w3 h=>h.cell Gt.o hb0.o
   have rH:Hd (∀ w3,(V1.alloc (.cells #[.int .i64 st.ah,.int .i64 (4 * q),.int .i64 kind,.int .i64 sym,.int .i64 addend] 54)).grownBy w3 (Value.ownBlock (.slice ar st.obj.aj.length cr))->yd w3 g #[vt,vf,vd,.int .i64 st.obj.bss,va,vs,.slice ar st.obj.aj.length cr] 40):=fun w3 h=>(HO.o.blk.grown GA.o (by simp)).grown h hg0.o
   have hgb:Hd (g≠b):=fun e=>D.o.1.lo.2.2.2 e.symm
   have FIN:Hd (∀ w3 eP cap',(V1.alloc (.cells #[.int .i64 st.ah,.int .i64 (4 * q),.int .i64 kind,.int .i64 sym,.int .i64 addend] 54)).grownBy w3 (Value.ownBlock (.slice ar st.obj.aj.length cr))->(Value.ownBlock (.slice eP (st.obj.aj.length+1) cap')=Value.ownBlock (.slice ar st.obj.aj.length cr)\/Value.ownBlock (.slice eP (st.obj.aj.length+1) cap')=some (V1.alloc (.cells #[.int .i64 st.ah,.int .i64 (4 * q),.int .i64 kind,.int .i64 sym,.int .i64 addend] 54)).heap.size) ->
     w3.ownsRow B 54 5 (.slice eP (st.obj.aj.length+1) cap') (st.obj.aj.length+1) (st.obj.aj.flatMap dK ++ [.int .i64 st.ah,.int .i64 (4 * q),.int .i64 kind,.int .i64 sym,.int .i64 addend]) ->
     Does B s b g w2 { st with obj:={ st.obj with aj:=st.obj.aj ++ [⟨st.ah,4 * q,kind,sym,addend⟩] } } (w3.setCell ⟨g,6,none⟩ (.slice eP (st.obj.aj.length+1) cap'))/\yE (w3.setCell ⟨g,6,none⟩ (.slice eP (st.obj.aj.length+1) cap')) ao cap ws/\(w3.setCell ⟨g,6,none⟩ (.slice eP (st.obj.aj.length+1) cap')).cell? ⟨b,14,none⟩=some (.pointer (some ⟨g,0,none⟩))/\(w3.setCell ⟨g,6,none⟩ (.slice eP (st.obj.aj.length+1) cap')).cell? ⟨b,13,none⟩=some (.int .i64 st.ah)):=fun w3 eP cap' gd hat hown=>by
    have nr:ow B V1 (w3.setCell ⟨g,6,none⟩ (.slice eP (st.obj.aj.length+1) cap')) b g (.slice ar st.obj.aj.length cr) (.slice eP (st.obj.aj.length+1) cap'):=ow.app (fun k hk=>(HO.o.aj.lt k hk).2) gd hat
    have nb:=(rH.o w3 gd).set 6 (.slice eP (st.obj.aj.length+1) cap');have gs:=yy w3 g 6 (.slice eP (st.obj.aj.length+1) cap');refine ⟨D.o.after (D.o.1.Bf HO.o nr _ (by simp; omega) (by simpa using nb) ?_),?_,gs.cell (rF.o w3 gd) (by simpa using hgb.o.symm),gs.cell (rG.o w3 gd) (by simpa using hgb.o.symm)⟩
    ·have e:(st.obj.aj ++ [(⟨st.ah,4 * q,kind,sym,addend⟩:Lk.Rel)]).flatMap dK=st.obj.aj.flatMap dK ++ [.int .i64 st.ah,.int .i64 (4 * q),.int .i64 kind,.int .i64 sym,.int .i64 addend]:=by rw [List.flatMap_append]; rfl
     rw [e,iA,List.length_singleton];exact Lh hown (fun k hk=>by
      rcases hat with h1 | h1
      ·rw [h1] at hk;exact fun e=>hg0.o (by rw [e,hk])
      ·rw [h1] at hk;simp at hk;omega)
    ·refine wZ.o.kept fun k cs hb _=>(nr.keep k hb.lt ?_ ?_).trans hb
     ·intro e;obtain ⟨-,cs',t',hb',ht'⟩:=Jo HO.o.aj (by simp) k e.symm;exact Iw HO.o.aj e.symm hb (by decide)
     ·rintro rfl
      have:=hb.symm.trans HO.o.blk
      simp at this
   have hA:Hd ((V1.alloc (.cells #[.int .i64 st.ah,.int .i64 (4 * q),.int .i64 kind,.int .i64 sym,.int .i64 addend] 54)).drew.ownsRow B 54 5 (.slice ar st.obj.aj.length cr) st.obj.aj.length (st.obj.aj.flatMap dK)):=(HO.o.aj.alloc _).drew;have hN:Hd (∀ j u,([.int .i64 st.ah,.int .i64 (4 * q),.int .i64 kind,.int .i64 sym,.int .i64 addend]:List Value)[j]?=some u->(V1.alloc (.cells #[.int .i64 st.ah,.int .i64 (4 * q),.int .i64 kind,.int .i64 sym,.int .i64 addend] 54)).drew.cell? ((⟨V1.heap.size,0,none⟩:Addr).add j)=some u):=World.news_of_block (heap_alloc_new V1 (.cells #[.int .i64 st.ah,.int .i64 (4 * q),.int .i64 kind,.int .i64 sym,.int .i64 addend] 54))
   have mh:Hd (∀ u∈([.int .i64 st.ah,.int .i64 (4 * q),.int .i64 kind,.int .i64 sym,.int .i64 addend]:List Value),u.oneCell'=true):=by intro u hu; simp at hu; rcases hu with rfl | rfl | rfl | rfl | rfl <;> rfl
   have h63:Hd (st.obj.aj.length+1<=maxLen):=by show _<=_; unfold maxLen; omega
   have hby:Hd ((st.obj.aj.length+1) * 40<=140737488355328):=by show _<=_; omega
   have hbs:Hd (B<=(V1.alloc (.cells #[.int .i64 st.ah,.int .i64 (4 * q),.int .i64 kind,.int .i64 sym,.int .i64 addend] 54)).drew.heap.size):=by have:=D.o.1.size; show _<=_; simp; omega
   clear ho;go_wp2;refine wp_region_held_drew (S:=(fun w'=>w'.cell? ⟨b,14,none⟩=some (.pointer (some ⟨g,0,none⟩))/\w'.cell? ⟨b,13,none⟩=some (.int .i64 st.ah))) (by kernel_rfl) ⟨c14,c13⟩ ?_;intro hS
   iterate 10
    refine yH (v:=?_) rfl (by kernel_rfl) (fun _ _ _ h=>h) hS ?_ ?_
    rotate_left
    ·intro w' hw'; obtain ⟨x0,x1⟩:=hw'; go_simp; with_reducible rfl
   refine jG (i:=11) (v:=?_) rfl ?_ hS ?_
   rotate_left
   ·intro w' hw'; obtain ⟨x0,x1⟩:=hw'; go_simp; with_reducible rfl
   refine jG (i:=12) (v:=?_) rfl ?_ hS ?_
   rotate_left
   ·intro w' hw'; obtain ⟨x0,x1⟩:=hw'; go_simp; with_reducible rfl
   refine jG (i:=13) (v:=?_) rfl ?_ hS ?_
   rotate_left
   ·intro w' hw'; obtain ⟨x0,x1⟩:=hw'; go_simp; with_reducible rfl
   refine jG (i:=14) (v:=?_) rfl ?_ hS ?_
   rotate_left
   ·intro w' hw'; obtain ⟨x0,x1⟩:=hw'; go_simp; with_reducible rfl
   refine jG (i:=15) (v:=?_) rfl ?_ hS ?_
   rotate_left
   ·intro w' hw'; obtain ⟨x0,x1⟩:=hw'; go_simp; with_reducible rfl
   refine jG (i:=16) (v:=?_) rfl ?_ hS ?_
   rotate_left
   ·intro w' hw'; obtain ⟨x0,x1⟩:=hw'; go_simp; with_reducible rfl
   refine jG (i:=17) (v:=?_) rfl ?_ hS ?_
   rotate_left
   ·intro w' hw'; obtain ⟨x0,x1⟩:=hw'; go_simp; with_reducible rfl
   refine jG (i:=18) (v:=?_) rfl ?_ hS ?_
   rotate_left
   ·intro w' hw'; obtain ⟨x0,x1⟩:=hw'; go_simp; with_reducible rfl
   refine jG (i:=19) (v:=?_) rfl ?_ hS ?_
   rotate_left
   ·intro w' hw'; obtain ⟨x0,x1⟩:=hw'; go_simp; with_reducible rfl
   refine wpAnyH_ready (rs:=[10,20]) (by kernel_rfl) (by simp) ?_;refine AllReadyH.cons rfl (fun K hK=>?_) (AllReadyH.cons rfl (fun K hK=>?_) AllReadyH.nil)
   ·go_simp;refine hK.out _ _ hS (fun hS2=>?_);clear hK K;refine wpAnyH_ready (rs:=[20]) (by kernel_rfl) (by simp) ?_;refine AllReadyH.cons rfl (fun K hK=>?_) AllReadyH.nil;go_simp;refine hK.out _ _ ⟨Gs.o,Gt.o⟩ (fun lq=>?_);clear hK K hS2 lq;refine wpAnyH_ready (rs:=[21]) (by kernel_rfl) (by simp) ?_;refine AllReadyH.cons rfl (fun K hK=>?_) AllReadyH.nil;rw [if_pos (by kernel_rfl)];refine Lj _ (.tmp 48) (.tmp 58) 38 rfl B 54 i2 (.agg #[.int .i64 0,.int .i64 0,.int .i64 0,.int .i64 0,.int .i64 0]) 5 40 Tryz.underlying38 hi2 hx0 hx1 hx2 rfl (by decide) (.slice ar st.obj.aj.length cr) st.obj.aj.length (st.obj.aj.flatMap dK) (by kernel_rfl) hA.o ⟨V1.heap.size,0,none⟩ 1 1 [.int .i64 st.ah,.int .i64 (4 * q),.int .i64 kind,.int .i64 sym,.int .i64 addend] (by kernel_rfl) rfl hN.o mh.o h63.o hby.o hbs.o ?_
    intro v' w3 hown' hgrow _ hat
    obtain ⟨eP,cap',rfl⟩:=yi hown';have gd:(V1.alloc (.cells #[.int .i64 st.ah,.int .i64 (4 * q),.int .i64 kind,.int .i64 sym,.int .i64 addend] 54)).grownBy w3 (Value.ownBlock (.slice ar st.obj.aj.length cr)):=⟨hgrow.os,hgrow.tape,hgrow.output,hgrow.size,hgrow.block⟩
    have kU:Value.ownBlock (.slice eP (st.obj.aj.length+1) cap')=Value.ownBlock (.slice ar st.obj.aj.length cr)\/Value.ownBlock (.slice eP (st.obj.aj.length+1) cap')=some (V1.alloc (.cells #[.int .i64 st.ah,.int .i64 (4 * q),.int .i64 kind,.int .i64 sym,.int .i64 addend] 54)).heap.size:=hat
    have F:=hid (FIN.o _ _ _ gd kU hown');have n14:=rF.o _ gd;have n13:=rG.o _ gd;have ng:=rH.o _ gd;have m5:=ng.cell 6;have f5:=ng.free 6;simp only [bB,yml,bf] at m5;clear hown' hgrow gd hat kU ng;refine hK.out _ _ ⟨n14,n13⟩ (fun rZ=>?_);clear hK K
    iterate 2
     refine yH (v:=?_) rfl (by kernel_rfl) (fun _ _ _ h=>h) rZ ?_ ?_
     rotate_left
     ·intro w' hw'; obtain ⟨x0,x1⟩:=hw'; go_simp; with_reducible rfl
    refine wpAnyH_ready (rs:=[24]) (by kernel_rfl) (by simp) ?_;refine AllReadyH.cons rfl (fun K hK=>?_) AllReadyH.nil;go_simp;refine hK.out _ _ ⟨F.o.2.2.1,F.o.2.2.2⟩ (fun hS5=>?_);clear hK K;refine wpAnyH_done (by kernel_rfl) ?_ _
    try simp only [oC,oF,oq,oD,iW,iR,iT]
    clear hA hN mh h63 hby hbs c13 c14 g6 n14 n13 m5 f5 rZ hS5 hS;generalize World.setCell _ _ _=W5 at *;go_wp2_with fail;refine (KE B s b g _ ao cap ws W5 F.o.1.1 F.o.2.1 hn).mono ?_;rintro e W6 ⟨rfl,h6⟩;have HF:=hid (F.o.1.after h6);clear h6;go_wp2
    go_end0
    rw [RX.o];exact ⟨rfl,HF.o⟩
   ·go_simp;refine hK.out _ _ ⟨Gs.o,Gt.o⟩ (fun hS2=>?_);clear hK K;refine wpAnyH_ready (rs:=[10]) (by kernel_rfl) (by simp) ?_;refine AllReadyH.cons rfl (fun K hK=>?_) AllReadyH.nil;go_simp;refine hK.out _ _ ⟨Gs.o,Gt.o⟩ (fun lq=>?_);clear hK K hS2 lq;refine wpAnyH_ready (rs:=[21]) (by kernel_rfl) (by simp) ?_;refine AllReadyH.cons rfl (fun K hK=>?_) AllReadyH.nil;rw [if_pos (by kernel_rfl)];refine Lj _ (.tmp 48) (.tmp 58) 38 rfl B 54 i2 (.agg #[.int .i64 0,.int .i64 0,.int .i64 0,.int .i64 0,.int .i64 0]) 5 40 Tryz.underlying38 hi2 hx0 hx1 hx2 rfl (by decide) (.slice ar st.obj.aj.length cr) st.obj.aj.length (st.obj.aj.flatMap dK) (by kernel_rfl) hA.o ⟨V1.heap.size,0,none⟩ 1 1 [.int .i64 st.ah,.int .i64 (4 * q),.int .i64 kind,.int .i64 sym,.int .i64 addend] (by kernel_rfl) rfl hN.o mh.o h63.o hby.o hbs.o ?_
    intro v' w3 hown' hgrow _ hat
    obtain ⟨eP,cap',rfl⟩:=yi hown';have gd:(V1.alloc (.cells #[.int .i64 st.ah,.int .i64 (4 * q),.int .i64 kind,.int .i64 sym,.int .i64 addend] 54)).grownBy w3 (Value.ownBlock (.slice ar st.obj.aj.length cr)):=⟨hgrow.os,hgrow.tape,hgrow.output,hgrow.size,hgrow.block⟩
    have kU:Value.ownBlock (.slice eP (st.obj.aj.length+1) cap')=Value.ownBlock (.slice ar st.obj.aj.length cr)\/Value.ownBlock (.slice eP (st.obj.aj.length+1) cap')=some (V1.alloc (.cells #[.int .i64 st.ah,.int .i64 (4 * q),.int .i64 kind,.int .i64 sym,.int .i64 addend] 54)).heap.size:=hat
    have F:=hid (FIN.o _ _ _ gd kU hown');have n14:=rF.o _ gd;have n13:=rG.o _ gd;have ng:=rH.o _ gd;have m5:=ng.cell 6;have f5:=ng.free 6;simp only [bB,yml,bf] at m5;clear hown' hgrow gd hat kU ng;refine hK.out _ _ ⟨n14,n13⟩ (fun rZ=>?_);clear hK K
    iterate 2
     refine yH (v:=?_) rfl (by kernel_rfl) (fun _ _ _ h=>h) rZ ?_ ?_
     rotate_left
     ·intro w' hw'; obtain ⟨x0,x1⟩:=hw'; go_simp; with_reducible rfl
    refine wpAnyH_ready (rs:=[24]) (by kernel_rfl) (by simp) ?_;refine AllReadyH.cons rfl (fun K hK=>?_) AllReadyH.nil;go_simp;refine hK.out _ _ ⟨F.o.2.2.1,F.o.2.2.2⟩ (fun hS5=>?_);clear hK K;refine wpAnyH_done (by kernel_rfl) ?_ _
    try simp only [oC,oF,oq,oD,iW,iR,iT]
    clear hA hN mh h63 hby hbs c13 c14 g6 n14 n13 m5 f5 rZ hS5 hS;generalize World.setCell _ _ _=W5 at *;go_wp2_with fail;refine (KE B s b g _ ao cap ws W5 F.o.1.1 F.o.2.1 hn).mono ?_;rintro e W6 ⟨rfl,h6⟩;have HF:=hid (F.o.1.after h6);clear h6;go_wp2
    go_end0
    rw [RX.o];exact ⟨rfl,HF.o⟩
  ·rw [hf,if_pos rfl] at RS;clear hf;go_wp2
   (try simp only [Exit.inBlock,Exit.then]); refine bodyPost_ret (results_none rfl _ _ _) rfl ?_
   rw [RS.o];exact ⟨rfl,HW.o.does⟩
theorem Qr (n:Int):bits .and .i64 n 1=((n % 2).toNat:Int):=by
 have h1:(BitVec.ofInt 64 1).toNat=2 ^ 1 - 1:=by decide
 have key:(BitVec.ofInt 64 n &&& BitVec.ofInt 64 1).toNat=(n % ((2 ^ 64:Nat):Int)).toNat % 2 ^ 1:=by
  rw [BitVec.toNat_and,BitVec.toNat_ofInt,h1,Nat.and_two_pow_sub_one_eq_mod]
 show IntKind.i64.wrap ((BitVec.ofInt 64 n &&& BitVec.ofInt 64 1).toNat:Nat)=_;rw [key,IntKind.wrap_i64];omega
theorem ylg (n:Int):bits .and .i64 n 15=((n % 16).toNat:Int):=by
 have h1:(BitVec.ofInt 64 15).toNat=2 ^ 4 - 1:=by decide
 have key:(BitVec.ofInt 64 n &&& BitVec.ofInt 64 15).toNat=(n % ((2 ^ 64:Nat):Int)).toNat % 2 ^ 4:=by
  rw [BitVec.toNat_and,BitVec.toNat_ofInt,h1,Nat.and_two_pow_sub_one_eq_mod]
 show IntKind.i64.wrap ((BitVec.ofInt 64 n &&& BitVec.ofInt 64 15).toNat:Nat)=_;rw [key,IntKind.wrap_i64];omega
theorem ylh (n:Int):bits .and .i64 n 31=((n % 32).toNat:Int):=by
 have h1:(BitVec.ofInt 64 31).toNat=2 ^ 5 - 1:=by decide
 have key:(BitVec.ofInt 64 n &&& BitVec.ofInt 64 31).toNat=(n % ((2 ^ 64:Nat):Int)).toNat % 2 ^ 5:=by
  rw [BitVec.toNat_and,BitVec.toNat_ofInt,h1,Nat.and_two_pow_sub_one_eq_mod]
 show IntKind.i64.wrap ((BitVec.ofInt 64 n &&& BitVec.ofInt 64 31).toNat:Nat)=_;rw [key,IntKind.wrap_i64];omega
theorem yli (n:Int):bits .and .i64 n 63=((n % 64).toNat:Int):=by
 have h1:(BitVec.ofInt 64 63).toNat=2 ^ 6 - 1:=by decide
 have key:(BitVec.ofInt 64 n &&& BitVec.ofInt 64 63).toNat=(n % ((2 ^ 64:Nat):Int)).toNat % 2 ^ 6:=by
  rw [BitVec.toNat_and,BitVec.toNat_ofInt,h1,Nat.and_two_pow_sub_one_eq_mod]
 show IntKind.i64.wrap ((BitVec.ofInt 64 n &&& BitVec.ofInt 64 63).toNat:Nat)=_;rw [key,IntKind.wrap_i64];omega
theorem ylj (n:Int):bits .and .i64 n 127=((n % 128).toNat:Int):=by
 have h1:(BitVec.ofInt 64 127).toNat=2 ^ 7 - 1:=by decide
 have key:(BitVec.ofInt 64 n &&& BitVec.ofInt 64 127).toNat=(n % ((2 ^ 64:Nat):Int)).toNat % 2 ^ 7:=by
  rw [BitVec.toNat_and,BitVec.toNat_ofInt,h1,Nat.and_two_pow_sub_one_eq_mod]
 show IntKind.i64.wrap ((BitVec.ofInt 64 n &&& BitVec.ofInt 64 127).toNat:Nat)=_;rw [key,IntKind.wrap_i64];omega
theorem ylk (n:Int):bits .and .i64 n 255=((n % 256).toNat:Int):=by
 have h1:(BitVec.ofInt 64 255).toNat=2 ^ 8 - 1:=by decide
 have key:(BitVec.ofInt 64 n &&& BitVec.ofInt 64 255).toNat=(n % ((2 ^ 64:Nat):Int)).toNat % 2 ^ 8:=by
  rw [BitVec.toNat_and,BitVec.toNat_ofInt,h1,Nat.and_two_pow_sub_one_eq_mod]
 show IntKind.i64.wrap ((BitVec.ofInt 64 n &&& BitVec.ofInt 64 255).toNat:Nat)=_;rw [key,IntKind.wrap_i64];omega
theorem ykz (n:Int):bits .and .i64 n 1023=((n % 1024).toNat:Int):=by
 have h1:(BitVec.ofInt 64 1023).toNat=2 ^ 10 - 1:=by decide
 have key:(BitVec.ofInt 64 n &&& BitVec.ofInt 64 1023).toNat=(n % ((2 ^ 64:Nat):Int)).toNat % 2 ^ 10:=by
  rw [BitVec.toNat_and,BitVec.toNat_ofInt,h1,Nat.and_two_pow_sub_one_eq_mod]
 show IntKind.i64.wrap ((BitVec.ofInt 64 n &&& BitVec.ofInt 64 1023).toNat:Nat)=_;rw [key,IntKind.wrap_i64];omega
theorem UC (n:Int):bits .and .i64 n 4095=((n % 4096).toNat:Int):=by
 have h1:(BitVec.ofInt 64 4095).toNat=2 ^ 12 - 1:=by decide
 have key:(BitVec.ofInt 64 n &&& BitVec.ofInt 64 4095).toNat=(n % ((2 ^ 64:Nat):Int)).toNat % 2 ^ 12:=by
  rw [BitVec.toNat_and,BitVec.toNat_ofInt,h1,Nat.and_two_pow_sub_one_eq_mod]
 show IntKind.i64.wrap ((BitVec.ofInt 64 n &&& BitVec.ofInt 64 4095).toNat:Nat)=_;rw [key,IntKind.wrap_i64];omega
theorem UD (n:Int):bits .and .i64 n 1048575=((n % 1048576).toNat:Int):=by
 have h1:(BitVec.ofInt 64 1048575).toNat=2 ^ 20 - 1:=by decide
 have key:(BitVec.ofInt 64 n &&& BitVec.ofInt 64 1048575).toNat=(n % ((2 ^ 64:Nat):Int)).toNat % 2 ^ 20:=by
  rw [BitVec.toNat_and,BitVec.toNat_ofInt,h1,Nat.and_two_pow_sub_one_eq_mod]
 show IntKind.i64.wrap ((BitVec.ofInt 64 n &&& BitVec.ofInt 64 1048575).toNat:Nat)=_;rw [key,IntKind.wrap_i64];omega
theorem ykq (a:Nat) (h:a < 9223372036854775808):wrap64 (a:Int)=(a:Int):=IntWalk.wrap64_in _ ⟨by omega,by omega⟩
theorem Az (n:Int) (low count:Nat):As.dQ n low count < 2 ^ count:=by
 unfold As.dQ;have h:=Int.emod_lt_of_pos (n / (2:Int) ^ low) (show (0:Int) < (2:Int) ^ count from Int.pow_pos (by decide));have h2:=Int.emod_nonneg (n / (2:Int) ^ low) (show (2:Int) ^ count≠0 from Int.ne_of_gt (Int.pow_pos (by decide)));have e:((2 ^ count:Nat):Int)=(2:Int) ^ count:=by simp
 omega
theorem yjG (n:Int):bits .and .i64 n 1048575=(As.dQ n 0 20:Int):=by rw [UD]; unfold As.dQ; simp
theorem X6 (n:Int):As.dQ n 0 20 < 1048576:=Az n 0 20
theorem yjK (n:Int):bits .and .i64 (n / 1048576) 1=(As.dQ n 20 1:Int):=by rw [Qr]; unfold As.dQ; simp
theorem Ya (n:Int):As.dQ n 20 1 < 2:=Az n 20 1
theorem yjJ (n:Int):bits .and .i64 (n / 2) 1023=(As.dQ n 1 10:Int):=by rw [ykz]; unfold As.dQ; simp
theorem X9 (n:Int):As.dQ n 1 10 < 1024:=Az n 1 10
theorem XO (n:Int):bits .and .i64 (n / 2048) 1=(As.dQ n 11 1:Int):=by rw [Qr]; unfold As.dQ; simp
theorem UF (n:Int):As.dQ n 11 1 < 2:=Az n 11 1
theorem yjI (n:Int):bits .and .i64 (n / 4096) 255=(As.dQ n 12 8:Int):=by rw [ylk]; unfold As.dQ; simp
theorem X8 (n:Int):As.dQ n 12 8 < 256:=Az n 12 8
theorem yjF (n:Int):bits .and .i64 n 4095=(As.dQ n 0 12:Int):=by rw [UC]; unfold As.dQ; simp
theorem X5 (n:Int):As.dQ n 0 12 < 4096:=Az n 0 12
theorem yjH (n:Int):bits .and .i64 (n / 4096) 1=(As.dQ n 12 1:Int):=by rw [Qr]; unfold As.dQ; simp
theorem X7 (n:Int):As.dQ n 12 1 < 2:=Az n 12 1
theorem ykG (n:Int):bits .and .i64 (n / 32) 63=(As.dQ n 5 6:Int):=by rw [yli]; unfold As.dQ; simp
theorem Yf (n:Int):As.dQ n 5 6 < 64:=Az n 5 6
theorem ykF (n:Int):bits .and .i64 (n / 2) 15=(As.dQ n 1 4:Int):=by rw [ylg]; unfold As.dQ; simp
theorem Ye (n:Int):As.dQ n 1 4 < 16:=Az n 1 4
theorem ykH (n:Int):bits .and .i64 (n / 32) 127=(As.dQ n 5 7:Int):=by rw [ylj]; unfold As.dQ; simp
theorem Yg (n:Int):As.dQ n 5 7 < 128:=Az n 5 7
theorem X0 (n:Int):bits .and .i64 n 31=(As.dQ n 0 5:Int):=by rw [ylh]; unfold As.dQ; simp
theorem UU (n:Int):As.dQ n 0 5 < 32:=Az n 0 5
theorem ylG (a m:Nat) (h:a * m < 9223372036854775808):wrap64 ((a:Int) * (m:Int))=((a * m:Nat):Int):=by
 rw [<- Int.natCast_mul];exact ykq _ h
theorem BA (a m:Nat) (M:Int) (hM:M=(m:Int)) (h:a * m < 9223372036854775808):wrap64 ((a:Int) * M)=((a * m:Nat):Int):=by
 rw [hM]; exact ylG a m h
theorem yfC (form:Nat) (n:Int) (w:World) (hf:1<=form/\form<=7) :
  Calls Tryz.prog 154 #[.int .i64 form,.int .i64 n] w fun e w'=>e = .returned (.int .i64 (As.place' form n:Nat))/\w'=w:=by
 rcases (show form=1\/form=2\/form=3\/form=4\/form=5\/form=6\/form=7 from by omega) with rfl | rfl | rfl | rfl | rfl | rfl | rfl
 ·have E:=hid (show wrap64 (bits .and .i64 n 1048575 * 4096)=((As.place' 1 n:Nat):Int) from by
   have a:=X6 n;rw [yjG,BA _ 4096 4096 rfl (by omega)]; unfold As.place'; rw [if_pos rfl])
  go_enter Tryz.func154,Tryz.ntmps154;go_wp2;go_ret;exact ⟨Ay E.o,rfl⟩
 ·have E:=hid (show bits .or .i64 (bits .or .i64 (bits .or .i64 (wrap64 (bits .and .i64 (n / 1048576) 1 * 2147483648)) (wrap64 (bits .and .i64 (n / 2) 1023 * 2097152))) (wrap64 (bits .and .i64 (n / 2048) 1 * 1048576))) (wrap64 (bits .and .i64 (n / 4096) 255 * 4096))=((As.place' 2 n:Nat):Int) from by
   have a:=Ya n;have b:=X9 n;have c:=UF n;have d:=X8 n;have x1:As.dQ n 20 1 * 2147483648 ||| As.dQ n 1 10 * 2097152 < 2 ^ 33:=Nat.or_lt_two_pow (by omega) (by omega);have x2:As.dQ n 20 1 * 2147483648 ||| As.dQ n 1 10 * 2097152 ||| As.dQ n 11 1 * 1048576 < 2 ^ 33:=Nat.or_lt_two_pow x1 (by omega);rw [yjK,yjJ,XO,yjI,BA _ 2147483648 2147483648 rfl (by omega),BA _ 2097152 2097152 rfl (by omega),BA _ 1048576 1048576 rfl (by omega),BA _ 4096 4096 rfl (by omega),Dk _ _ (by omega) (by omega),Dk _ _ (by omega) (by omega),Dk _ _ (by omega) (by omega)]; unfold As.place'; rw [if_neg (by decide),if_pos rfl])
  go_enter Tryz.func154,Tryz.ntmps154;go_wp2;go_ret;exact ⟨Ay E.o,rfl⟩
 ·have E:=hid (show wrap64 (bits .and .i64 n 4095 * 1048576)=((As.place' 3 n:Nat):Int) from by
   have a:=X5 n;rw [yjF,BA _ 1048576 1048576 rfl (by omega)]; unfold As.place'; rw [if_neg (by decide),if_neg (by decide),if_pos rfl])
  go_enter Tryz.func154,Tryz.ntmps154;go_wp2;go_ret;exact ⟨Ay E.o,rfl⟩
 ·have E:=hid (show bits .or .i64 (bits .or .i64 (bits .or .i64 (wrap64 (bits .and .i64 (n / 4096) 1 * 2147483648)) (wrap64 (bits .and .i64 (n / 32) 63 * 33554432))) (wrap64 (bits .and .i64 (n / 2) 15 * 256))) (wrap64 (bits .and .i64 (n / 2048) 1 * 128))=((As.place' 4 n:Nat):Int) from by
   have a:=X7 n;have b:=Yf n;have c:=Ye n;have d:=UF n;have x1:As.dQ n 12 1 * 2147483648 ||| As.dQ n 5 6 * 33554432 < 2 ^ 33:=Nat.or_lt_two_pow (by omega) (by omega);have x2:As.dQ n 12 1 * 2147483648 ||| As.dQ n 5 6 * 33554432 ||| As.dQ n 1 4 * 256 < 2 ^ 33:=Nat.or_lt_two_pow x1 (by omega);rw [yjH,ykG,ykF,XO,BA _ 2147483648 2147483648 rfl (by omega),BA _ 33554432 33554432 rfl (by omega),BA _ 256 256 rfl (by omega),BA _ 128 128 rfl (by omega),Dk _ _ (by omega) (by omega),Dk _ _ (by omega) (by omega),Dk _ _ (by omega) (by omega)]; unfold As.place'; rw [if_neg (by decide),if_neg (by decide),if_neg (by decide),if_pos rfl])
  go_enter Tryz.func154,Tryz.ntmps154;go_wp2;go_ret;exact ⟨Ay E.o,rfl⟩
 ·have E:=hid (show bits .or .i64 (wrap64 (bits .and .i64 (n / 32) 127 * 33554432)) (wrap64 (bits .and .i64 n 31 * 128))=((As.place' 5 n:Nat):Int) from by
   have a:=Yg n;have b:=UU n;rw [ykH,X0,BA _ 33554432 33554432 rfl (by omega),BA _ 128 128 rfl (by omega),Dk _ _ (by omega) (by omega)]; unfold As.place'; rw [if_neg (by decide),if_neg (by decide),if_neg (by decide),if_neg (by decide),if_pos rfl])
  go_enter Tryz.func154,Tryz.ntmps154;go_wp2;go_ret;exact ⟨Ay E.o,rfl⟩
 ·go_enter Tryz.func154,Tryz.ntmps154;go_wp2;go_ret;exact ⟨rfl,rfl⟩
 ·go_enter Tryz.func154,Tryz.ntmps154;go_wp2;go_ret;exact ⟨rfl,rfl⟩
theorem ykb (form:Nat) (n:Int):As.place' form n < 2 ^ 33:=by
 have a1:=X6 n;have a2:=Ya n;have a3:=X9 n;have a4:=UF n;have a5:=X8 n;have a6:=X5 n;have a7:=X7 n;have a8:=Yf n;have a9:=Ye n;have a10:=Yg n;have a11:=UU n;unfold As.place'
 repeat' split
 ·omega
 ·exact Nat.or_lt_two_pow (Nat.or_lt_two_pow (Nat.or_lt_two_pow (by omega) (by omega)) (by omega)) (by omega)
 ·omega
 ·exact Nat.or_lt_two_pow (Nat.or_lt_two_pow (Nat.or_lt_two_pow (by omega) (by omega)) (by omega)) (by omega)
 ·exact Nat.or_lt_two_pow (by omega) (by omega)
 ·omega
end Go.Proofs.YtnkkepfcpjllmaaGreatDoor

namespace Go.Proofs.YtnkkepfcpjllmaaGreatDoor
def ors (f n:Int) (w:Nat):Nat->Nat
 | 0=>w
 | a+1=>ors f n w a ||| As.dQ n (p8 f a) 1 * 2 ^ lV f a
theorem yjL (n:Int) (lo c:Nat):As.dQ n lo (c+1)=As.dQ n lo c+As.dQ n (lo+c) 1 * 2 ^ c:=by
 unfold As.dQ;have hp:(0:Int) < 2 ^ c:=Int.pow_pos (by decide);have e1:n / (2:Int) ^ (lo+c)=n / 2 ^ lo / 2 ^ c:=by
  rw [Int.pow_add,Int.ediv_ediv_of_nonneg (Int.le_of_lt (Int.pow_pos (by decide)))]
 rw [e1];generalize n / (2:Int) ^ lo=m;have d1:=Int.emod_add_mul_ediv m (2 ^ c);have b1:=Int.emod_nonneg m (Int.ne_of_gt hp);have b2:=Int.emod_lt_of_pos m hp;generalize m / 2 ^ c=q at *;generalize m % 2 ^ c=r at *;have q1:q % 2=0\/q % 2=1:=by omega
 have e2:m % 2 ^ (c+1)=r+2 ^ c * (q % 2):=by
  have d2:q=2 * (q / 2)+q % 2:=by omega
  have e3:m=(r+2 ^ c * (q % 2))+2 ^ (c+1) * (q / 2):=by
   rw [<- d1,Int.pow_succ]
   conv=>lhs; rw [d2]
   rw [Int.mul_add,Int.mul_assoc];omega
  rw [e3,Int.add_mul_emod_self_left];refine Int.emod_eq_of_lt ?_ ?_
  ·rcases q1 with h | h <;> rw [h] <;> omega
  ·rw [Int.pow_succ];rcases q1 with h | h <;> rw [h] <;> omega
 rw [e2,Int.pow_one];have e4:((2 ^ c:Nat):Int)=(2:Int) ^ c:=by simp
 rcases q1 with h | h
 ·rw [h]; simp
 ·rw [h];simp only [Int.mul_one];generalize (2:Int) ^ c=P at *
  have:(1:Int).toNat=1:=rfl
  rw [this];generalize 2 ^ c=PN at *;omega
theorem ykI (x b k a:Nat) (hx:x < 2 ^ a):x * 2 ^ k ||| b * 2 ^ (k+a)=(x+b * 2 ^ a) * 2 ^ k:=by
 have h:x * 2 ^ k < 2 ^ (k+a):=by
  rw [Nat.pow_add,Nat.mul_comm (2 ^ k)];exact Nat.mul_lt_mul_of_pos_right hx (Nat.pow_pos (by decide))
 rw [Nat.or_comm,Nat.mul_comm b,<- Nat.two_pow_add_eq_or_of_lt h,Nat.pow_add,Nat.add_mul,Nat.add_comm,Nat.mul_comm (2 ^ k) (2 ^ a),Nat.mul_comm b (2 ^ a),Nat.mul_assoc,Nat.mul_assoc,Nat.mul_comm (2 ^ k) b]
theorem ykM (f n:Int) (k s c:Nat) (hp:∀ a,a < c->p8 f (s+a)=s+a/\lV f (s+a)=k+a) (w:Nat):ors f n w (s+c)=ors f n w s ||| As.dQ n s c * 2 ^ k:=by
 induction c with
 | zero =>
  have:As.dQ n s 0=0:=by have:=Az n s 0; omega
  rw [this];simp
 | succ c ih =>
  have h:=hp c (by omega);show ors f n w (s+c) ||| As.dQ n (p8 f (s+c)) 1 * 2 ^ lV f (s+c)=_;rw [ih fun a ha=>hp a (by omega),h.1,h.2,Nat.or_assoc,ykI _ _ _ _ (Az n s c),yjL n s c]
theorem XT (f:Int) (w a:Nat):ors f 0 w a=w:=by
 induction a with
 | zero=>rfl
 | succ a ih =>
  show ors f 0 w a ||| As.dQ 0 (p8 f a) 1 * 2 ^ lV f a=w
  have:As.dQ 0 (p8 f a) 1=0:=by unfold As.dQ; simp
  rw [this,ih];simp
theorem Uy (f n:Int) (w:Nat):ors f n w 0=w:=rfl
theorem Qd (f n:Int) (k s c M:Nat) (hM:2 ^ k=M) (hp:∀ a,a < c->p8 f (s+a)=s+a/\lV f (s+a)=k+a) (w:Nat):ors f n w (s+c)=ors f n w s ||| As.dQ n s c * M:=by
 rw [<- hM];exact ykM f n k s c hp w
theorem yjo (f:Nat) (n:Int) (w:Nat) (hf:1<=f/\f<=7) (hn:f=2\/f=4->n=0):ors f n w (qx f)=w ||| As.place' f n:=by
 rcases (show f=1\/f=2\/f=3\/f=4\/f=5\/f=6\/f=7 by omega) with rfl | rfl | rfl | rfl | rfl | rfl | rfl
 ·have e:As.place' 1 n=As.dQ n 0 20 * 4096:=by unfold As.place'; rw [if_pos rfl]
  have h:=Qd 1 n 12 0 20 4096 (by decide) (by decide) w;rw [Nat.zero_add,Uy] at h;rw [e,<- h];rfl
 ·have e:As.place' 2 0=0:=by decide
  rw [hn (.inl rfl),XT,e,Nat.or_zero]
 ·have e:As.place' 3 n=As.dQ n 0 12 * 1048576:=by unfold As.place'; rw [if_neg (by decide),if_neg (by decide),if_pos rfl]
  have h:=Qd 3 n 20 0 12 1048576 (by decide) (by decide) w;rw [Nat.zero_add,Uy] at h;rw [e,<- h];rfl
 ·have e:As.place' 4 0=0:=by decide
  rw [hn (.inr rfl),XT,e,Nat.or_zero]
 ·have e:As.place' 5 n=(As.dQ n 5 7 * 33554432 ||| As.dQ n 0 5 * 128):=by unfold As.place'; rw [if_neg (by decide),if_neg (by decide),if_neg (by decide),if_neg (by decide),if_pos rfl]
  have h1:=Qd 5 n 7 0 5 128 (by decide) (by decide) w;have h2:=Qd 5 n 25 5 7 33554432 (by decide) (by decide) w;rw [Nat.zero_add,Uy] at h1;rw [h1,Nat.or_assoc,Nat.or_comm (As.dQ n 0 5 * 128),<- e] at h2;rw [<- h2];rfl
 ·have e:As.place' 6 n=0:=by unfold As.place'; rw [if_neg (by decide),if_neg (by decide),if_neg (by decide),if_neg (by decide),if_neg (by decide)]
  rw [e,Nat.or_zero];rfl
 ·have e:As.place' 7 n=0:=by unfold As.place'; rw [if_neg (by decide),if_neg (by decide),if_neg (by decide),if_neg (by decide),if_neg (by decide)]
  rw [e,Nat.or_zero];rfl
theorem Yi (f n:Int) (w a:Nat) (hw:w < 2 ^ 40) (hq:∀ i,i < a->lV f i<=31):ors f n w a < 2 ^ 40:=by
 induction a with
 | zero=>exact hw
 | succ a ih =>
  refine Nat.or_lt_two_pow (ih fun i hi=>hq i (by omega)) ?_;have h:=Az n (p8 f a) 1;have h2:=Nat.pow_le_pow_right (show 0 < 2 by decide) (hq a (by omega));have h3:As.dQ n (p8 f a) 1 * 2 ^ lV f a<=1 * 2 ^ 31:=Nat.mul_le_mul (by omega) h2;omega
end Go.Proofs.YtnkkepfcpjllmaaGreatDoor
