
import Derived.Test.YtpgklkhgfcjceaaGreatDoorV15
set_option maxHeartbeats 16000000
set_option maxRecDepth 100000
namespace Go.Proofs.YtpgklkhgfcjceaaGreatDoor
open Go.RowKit
theorem ypE {w:World} {base:Nat} {e t:TypeId} {size n:Nat} {v:Value} {xs:List Value} {k:Nat} {cs:Array Value} (h:w.ownsRow base e size v n xs) (hk:v.ownBlock=some k) (hb:yc w k cs t) (hne:e≠t):False:=by
 rcases h.2 with ⟨rfl,_⟩ | ⟨g',cap,cur,rfl,_,hg,_⟩
 ·simp [Value.ownBlock] at hk
 ·obtain rfl:g'=k:=by simpa [Value.ownBlock] using hk
  have:=hg.symm.trans hb
  simp at this;exact hne this.2
theorem yl.xW {B:Nat} {s:ByteArray} {b g:Nat} {V W':World} {st:As.St} {vt vf vd va vs vr v':Value} (h:yl B s b g st V) (ho:rT B V b g st.obj vt vf vd va vs vr) (n:nG B V W' b g vr v') (ys:List Lk.Rel) (hys:ys.length<=32)
  (hblk:yc W' g #[vt,vf,vd,.int .i64 st.obj.bss,va,vs,v'] 71) (hown:W'.ownsRow B 102 5 v' ys.length (ys.flatMap iN)):Does B s b g V { st with obj:={ st.obj with aj:=ys } } W':=by
 refine n.does h ho (i:=7) rfl (by omega) ⟨vt,vf,vd,va,vs,v',hblk,?_,?_,?_,?_,?_,hown,n.apart ho h.blk.lt (i:=7) rfl⟩ rfl (h.ok.xq _ h.ok.text h.ok.far h.ok.data h.ok.bss h.ok.align h.ok.syms hys) (Ib ho.aj (by simp))
 ·exact n.row ho (i:=7) (j:=2) rfl rfl (by omega) (by omega) ho.text
 ·exact n.row ho (i:=7) (j:=3) rfl rfl (by omega) (by omega) ho.far
 ·exact n.row ho (i:=7) (j:=4) rfl rfl (by omega) (by omega) ho.data
 ·exact n.row ho (i:=7) (j:=5) rfl rfl (by omega) (by omega) ho.align
 ·exact n.row ho (i:=7) (j:=6) rfl rfl (by omega) (by omega) ho.syms
theorem Hw (B:Nat) (s:ByteArray) (b g:Nat) (st:As.St) (kind:Int) (sym:Nat) (addend:Int) (ao:Option Addr) (cap:Nat) (ws:List Int) (W:World) (h:yl B s b g st W) (hw:qR W ao cap ws) (hn:ws.length<=4096) :
  Calls Tryz.prog 195 #[.pointer (some ⟨b,0,none⟩),.int .i64 kind,.int .i64 sym,.int .i64 addend,.slice ao ws.length cap] W fun en W'=>en = .returned (.tuple #[])/\Does B s b g W (As.bX kind sym addend ws st) W':=by
 obtain ⟨i2,hi2,hx0,hx1,hx2⟩:=info_parts Tryz.sZ;have HW:=hid h;have A8:=hid hw;have hpos:=h.ok.op.pos;have aaj:=h.ok.aj;have hsb:=TL h.ok;have RS:=hid (show As.bX kind sym addend ws st=if As.failed (As.aT (decide (32<=st.obj.aj.length)) 12 st.op.pos st) then As.aT (decide (32<=st.obj.aj.length)) 12 st.op.pos st else
  As.lay ws { As.aT (decide (32<=st.obj.aj.length)) 12 st.op.pos st with obj:={ (As.aT (decide (32<=st.obj.aj.length)) 12 st.op.pos st).obj with aj:=(As.aT (decide (32<=st.obj.aj.length)) 12 st.op.pos st).obj.aj ++ [⟨(As.aT (decide (32<=st.obj.aj.length)) 12 st.op.pos st).ah,4 * As.bM (As.aT (decide (32<=st.obj.aj.length)) 12 st.op.pos st).obj (As.aT (decide (32<=st.obj.aj.length)) 12 st.op.pos st).ah,kind,sym,addend⟩] } } from rfl)
 generalize As.bX kind sym addend ws st=X at *;have c14:=uq h;obtain ⟨vt0,vf0,WT,va0,vs0,vr0,ho0⟩:=h.own;obtain ⟨ar0,cr0,rfl⟩:=yi ho0.aj;have Rm:=ho0.blk.cell 6;simp only [bI,bN,bK] at Rm;clear ho0;have c10:=Qd h;clear h hw;go_enter Tryz.func195,Tryz.ntmps195;by_cases h32:32<=st.obj.aj.length
 ·have D1:decide ((32:Int)<=(st.obj.aj.length:Int))=true:=by simp; omega
  rw [show decide (32<=st.obj.aj.length)=true by simp; omega] at RS;clear h32;go_wp2_with fail;refine (yK B s b g st 12 st.op.pos W HW.o (by omega) hpos).mono ?_;rintro e V2 ⟨rfl,h2⟩;have D2:=hid (h2.does HW.o);have Ol:=hid (show As.failed (As.refuse 12 st.op.pos st)=true from OW _ _ _ (by omega));clear h2 c10 c14 Rm;go_wp2_with fail;refine (D9 B s b g _ V2 D2.o.1).mono ?_;rintro e w2 ⟨rfl,rfl⟩;rw [Ol.o];go_wp2
  (try simp only [Exit.inBlock,Exit.then]); refine bodyPost_ret (results_none rfl _ _ _) rfl ?_
  rw [RS.o];refine ⟨rfl,?_⟩;simp only [As.aT,if_true,Ol.o];exact D2.o
 ·have D1:decide ((32:Int)<=(st.obj.aj.length:Int))=false:=by simp; omega
  rw [show decide (32<=st.obj.aj.length)=false by simp; omega] at RS;simp only [As.aT,Bool.false_eq_true,if_false] at RS;go_wp2_with fail;refine (D9 B s b g st W HW.o).mono ?_;rintro e w2 ⟨rfl,rfl⟩
  cases hf:As.failed st
  ·rw [hf,if_neg (by simp)] at RS;clear hf;have cL:=hid (fun V hV=>KR B s b g st V hV);have HD0:=hid (fun n=>HW.o.jU.drewN n);have c13:=vQ HW.o;generalize hq:As.bM st.obj st.ah=q at *;have RX:=hid RS.o;clear RS hq;go_wp2
   go_quiet ((go_at_call 87; exact Calls.quiet_of_same (cL.o _ (HD0.o _).1)))
   have D:=hid ((HD0.o nq).does HW.o);have uN:=hid (A8.o.grown (yf (World.grownBy.refl _ _) nq));clear HD0 c13 c14 cL A8 c10 Rm;generalize w2.drewN nq=V1 at *;obtain ⟨vt,vf,vd,va,vs,vr,ho⟩:=D.o.1.own;obtain ⟨ar,cr,rfl⟩:=yi ho.aj;have HO:=hid ho;have c13:=vQ D.o.1;have c14:=uq D.o.1;have g6:=ho.blk.cell 6;simp only [bI,bN,bK] at g6;have hgl:g < V1.heap.size:=ho.blk.lt;have hn32:st.obj.aj.length+1<=32:=by omega
   have GA:=hid (aJ V1 (.cells #[.int .i64 st.ah,.int .i64 (4 * q),.int .i64 kind,.int .i64 sym,.int .i64 addend] 102) none);have Et:Hd ((V1.alloc (.cells #[.int .i64 st.ah,.int .i64 (4 * q),.int .i64 kind,.int .i64 sym,.int .i64 addend] 102)).drew.cell? ⟨b,14,none⟩=some (.pointer (some ⟨g,0,none⟩))):=yd c14 (yh GA.o);have Eu:Hd ((V1.alloc (.cells #[.int .i64 st.ah,.int .i64 (4 * q),.int .i64 kind,.int .i64 sym,.int .i64 addend] 102)).drew.cell? ⟨b,13,none⟩=some (.int .i64 st.ah)):=yd c13 (yh GA.o);have hb0:Hd (some b≠Value.ownBlock (.slice ar st.obj.aj.length cr)):=fun e=>ho.apart.ne (i:=0) (j:=7) rfl rfl (by omega) b rfl e.symm
   have hg0:Hd (some g≠Value.ownBlock (.slice ar st.obj.aj.length cr)):=fun e=>ho.apart.ne (i:=1) (j:=7) rfl rfl (by omega) g rfl e.symm
   have qg:Hd (∀ w3,(V1.alloc (.cells #[.int .i64 st.ah,.int .i64 (4 * q),.int .i64 kind,.int .i64 sym,.int .i64 addend] 102)).grownBy w3 (Value.ownBlock (.slice ar st.obj.aj.length cr))->w3.cell? ⟨b,14,none⟩=some (.pointer (some ⟨g,0,none⟩))):=fun w3 h=>h.cell Et.o hb0.o
   have qh:Hd (∀ w3,(V1.alloc (.cells #[.int .i64 st.ah,.int .i64 (4 * q),.int .i64 kind,.int .i64 sym,.int .i64 addend] 102)).grownBy w3 (Value.ownBlock (.slice ar st.obj.aj.length cr))->w3.cell? ⟨b,13,none⟩=some (.int .i64 st.ah)):=fun w3 h=>h.cell Eu.o hb0.o
   have qj:Hd (∀ w3,(V1.alloc (.cells #[.int .i64 st.ah,.int .i64 (4 * q),.int .i64 kind,.int .i64 sym,.int .i64 addend] 102)).grownBy w3 (Value.ownBlock (.slice ar st.obj.aj.length cr))->yc w3 g #[vt,vf,vd,.int .i64 st.obj.bss,va,vs,.slice ar st.obj.aj.length cr] 71):=fun w3 h=>(HO.o.blk.grown GA.o (by simp)).grown h hg0.o
   have hgb:Hd (g≠b):=fun e=>D.o.1.lo.2.2.2 e.symm
   have FIN:Hd (∀ w3 fJ cap',(V1.alloc (.cells #[.int .i64 st.ah,.int .i64 (4 * q),.int .i64 kind,.int .i64 sym,.int .i64 addend] 102)).grownBy w3 (Value.ownBlock (.slice ar st.obj.aj.length cr))->(Value.ownBlock (.slice fJ (st.obj.aj.length+1) cap')=Value.ownBlock (.slice ar st.obj.aj.length cr)\/Value.ownBlock (.slice fJ (st.obj.aj.length+1) cap')=some (V1.alloc (.cells #[.int .i64 st.ah,.int .i64 (4 * q),.int .i64 kind,.int .i64 sym,.int .i64 addend] 102)).heap.size) ->
     w3.ownsRow B 102 5 (.slice fJ (st.obj.aj.length+1) cap') (st.obj.aj.length+1) (st.obj.aj.flatMap iN ++ [.int .i64 st.ah,.int .i64 (4 * q),.int .i64 kind,.int .i64 sym,.int .i64 addend]) ->
     Does B s b g w2 { st with obj:={ st.obj with aj:=st.obj.aj ++ [⟨st.ah,4 * q,kind,sym,addend⟩] } } (w3.setCell ⟨g,6,none⟩ (.slice fJ (st.obj.aj.length+1) cap'))/\qR (w3.setCell ⟨g,6,none⟩ (.slice fJ (st.obj.aj.length+1) cap')) ao cap ws/\(w3.setCell ⟨g,6,none⟩ (.slice fJ (st.obj.aj.length+1) cap')).cell? ⟨b,14,none⟩=some (.pointer (some ⟨g,0,none⟩))/\(w3.setCell ⟨g,6,none⟩ (.slice fJ (st.obj.aj.length+1) cap')).cell? ⟨b,13,none⟩=some (.int .i64 st.ah)):=fun w3 fJ cap' gd hat hown=>by
    have nr:nG B V1 (w3.setCell ⟨g,6,none⟩ (.slice fJ (st.obj.aj.length+1) cap')) b g (.slice ar st.obj.aj.length cr) (.slice fJ (st.obj.aj.length+1) cap'):=nG.app (fun k hk=>(HO.o.aj.lt k hk).2) gd hat
    have nb:=(qj.o w3 gd).set 6 (.slice fJ (st.obj.aj.length+1) cap');have gs:=ye w3 g 6 (.slice fJ (st.obj.aj.length+1) cap');refine ⟨D.o.after (D.o.1.xW HO.o nr _ (by simp; omega) (by simpa using nb) ?_),?_,gs.cell (qg.o w3 gd) (by simpa using hgb.o.symm),gs.cell (qh.o w3 gd) (by simpa using hgb.o.symm)⟩
    ·have e:(st.obj.aj ++ [(⟨st.ah,4 * q,kind,sym,addend⟩:Lk.Rel)]).flatMap iN=st.obj.aj.flatMap iN ++ [.int .i64 st.ah,.int .i64 (4 * q),.int .i64 kind,.int .i64 sym,.int .i64 addend]:=by rw [List.flatMap_append]; rfl
     rw [e,eZ,List.length_singleton];exact KA hown (fun k hk=>by
      rcases hat with h1 | h1
      ·rw [h1] at hk;exact fun e=>hg0.o (by rw [e,hk])
      ·rw [h1] at hk;simp at hk;omega)
    ·refine uN.o.kept fun k cs hb _=>(nr.keep k hb.lt ?_ ?_).trans hb
     ·intro e;obtain ⟨-,cs',t',hb',ht'⟩:=Ib HO.o.aj (by simp) k e.symm;exact ypE HO.o.aj e.symm hb (by decide)
     ·rintro rfl
      have:=hb.symm.trans HO.o.blk
      simp at this
   have hA:Hd ((V1.alloc (.cells #[.int .i64 st.ah,.int .i64 (4 * q),.int .i64 kind,.int .i64 sym,.int .i64 addend] 102)).drew.ownsRow B 102 5 (.slice ar st.obj.aj.length cr) st.obj.aj.length (st.obj.aj.flatMap iN)):=(HO.o.aj.alloc _).drew;have hN:Hd (∀ j u,([.int .i64 st.ah,.int .i64 (4 * q),.int .i64 kind,.int .i64 sym,.int .i64 addend]:List Value)[j]?=some u->(V1.alloc (.cells #[.int .i64 st.ah,.int .i64 (4 * q),.int .i64 kind,.int .i64 sym,.int .i64 addend] 102)).drew.cell? ((⟨V1.heap.size,0,none⟩:Addr).add j)=some u):=World.news_of_block (heap_alloc_new V1 (.cells #[.int .i64 st.ah,.int .i64 (4 * q),.int .i64 kind,.int .i64 sym,.int .i64 addend] 102))
   have iC:Hd (∀ u∈([.int .i64 st.ah,.int .i64 (4 * q),.int .i64 kind,.int .i64 sym,.int .i64 addend]:List Value),u.oneCell'=true):=by intro u hu; simp at hu; rcases hu with rfl | rfl | rfl | rfl | rfl <;> rfl
   have h63:Hd (st.obj.aj.length+1<=maxLen):=by show _<=_; unfold maxLen; omega
   have hby:Hd ((st.obj.aj.length+1) * 40<=140737488355328):=by show _<=_; omega
   have hbs:Hd (B<=(V1.alloc (.cells #[.int .i64 st.ah,.int .i64 (4 * q),.int .i64 kind,.int .i64 sym,.int .i64 addend] 102)).drew.heap.size):=by have:=D.o.1.size; show _<=_; simp; omega
   clear ho;go_wp2;refine wp_region_held_drew (S:=(fun w'=>w'.cell? ⟨b,14,none⟩=some (.pointer (some ⟨g,0,none⟩))/\w'.cell? ⟨b,13,none⟩=some (.int .i64 st.ah))) (by kernel_rfl) ⟨c14,c13⟩ ?_;intro hS;refine aU (i:=0) (v:=?_) rfl ?_ hS ?_
   rotate_left
   ·intro w' hw'; obtain ⟨x0,x1⟩:=hw'; go_simp; with_reducible rfl
   refine aU (i:=1) (v:=?_) rfl ?_ hS ?_
   rotate_left
   ·intro w' hw'; obtain ⟨x0,x1⟩:=hw'; go_simp; with_reducible rfl
   refine aU (i:=2) (v:=?_) rfl ?_ hS ?_
   rotate_left
   ·intro w' hw'; obtain ⟨x0,x1⟩:=hw'; go_simp; with_reducible rfl
   refine aU (i:=3) (v:=?_) rfl ?_ hS ?_
   rotate_left
   ·intro w' hw'; obtain ⟨x0,x1⟩:=hw'; go_simp; with_reducible rfl
   refine aU (i:=4) (v:=?_) rfl ?_ hS ?_
   rotate_left
   ·intro w' hw'; obtain ⟨x0,x1⟩:=hw'; go_simp; with_reducible rfl
   refine aU (i:=5) (v:=?_) rfl ?_ hS ?_
   rotate_left
   ·intro w' hw'; obtain ⟨x0,x1⟩:=hw'; go_simp; with_reducible rfl
   refine aU (i:=6) (v:=?_) rfl ?_ hS ?_
   rotate_left
   ·intro w' hw'; obtain ⟨x0,x1⟩:=hw'; go_simp; with_reducible rfl
   refine aU (i:=7) (v:=?_) rfl ?_ hS ?_
   rotate_left
   ·intro w' hw'; obtain ⟨x0,x1⟩:=hw'; go_simp; with_reducible rfl
   refine aU (i:=8) (v:=?_) rfl ?_ hS ?_
   rotate_left
   ·intro w' hw'; obtain ⟨x0,x1⟩:=hw'; go_simp; with_reducible rfl
   refine aU (i:=9) (v:=?_) rfl ?_ hS ?_
   rotate_left
   ·intro w' hw'; obtain ⟨x0,x1⟩:=hw'; go_simp; with_reducible rfl
   refine aU (i:=11) (v:=?_) rfl ?_ hS ?_
   rotate_left
   ·intro w' hw'; obtain ⟨x0,x1⟩:=hw'; go_simp; with_reducible rfl
   refine aU (i:=12) (v:=?_) rfl ?_ hS ?_
   rotate_left
   ·intro w' hw'; obtain ⟨x0,x1⟩:=hw'; go_simp; with_reducible rfl
   refine aU (i:=13) (v:=?_) rfl ?_ hS ?_
   rotate_left
   ·intro w' hw'; obtain ⟨x0,x1⟩:=hw'; go_simp; with_reducible rfl
   refine aU (i:=14) (v:=?_) rfl ?_ hS ?_
   rotate_left
   ·intro w' hw'; obtain ⟨x0,x1⟩:=hw'; go_simp; with_reducible rfl
   refine aU (i:=15) (v:=?_) rfl ?_ hS ?_
   rotate_left
   ·intro w' hw'; obtain ⟨x0,x1⟩:=hw'; go_simp; with_reducible rfl
   refine aU (i:=16) (v:=?_) rfl ?_ hS ?_
   rotate_left
   ·intro w' hw'; obtain ⟨x0,x1⟩:=hw'; go_simp; with_reducible rfl
   refine aU (i:=17) (v:=?_) rfl ?_ hS ?_
   rotate_left
   ·intro w' hw'; obtain ⟨x0,x1⟩:=hw'; go_simp; with_reducible rfl
   refine aU (i:=18) (v:=?_) rfl ?_ hS ?_
   rotate_left
   ·intro w' hw'; obtain ⟨x0,x1⟩:=hw'; go_simp; with_reducible rfl
   refine aU (i:=19) (v:=?_) rfl ?_ hS ?_
   rotate_left
   ·intro w' hw'; obtain ⟨x0,x1⟩:=hw'; go_simp; with_reducible rfl
   refine wpAnyH_ready (rs:=[10,20]) (by kernel_rfl) (by simp) ?_;refine AllReadyH.cons rfl (fun K hK=>?_) (AllReadyH.cons rfl (fun K hK=>?_) AllReadyH.nil)
   ·go_simp;refine hK.out _ _ hS (fun hS2=>?_);clear hK K;refine wpAnyH_ready (rs:=[20]) (by kernel_rfl) (by simp) ?_;refine AllReadyH.cons rfl (fun K hK=>?_) AllReadyH.nil;go_simp;refine hK.out _ _ ⟨Et.o,Eu.o⟩ (fun je=>?_);clear hK K hS2 je;refine wpAnyH_ready (rs:=[21]) (by kernel_rfl) (by simp) ?_;refine AllReadyH.cons rfl (fun K hK=>?_) AllReadyH.nil;rw [if_pos (by kernel_rfl)];refine Du _ (.tmp 48) (.tmp 58) 69 rfl B 102 i2 (.agg #[.int .i64 0,.int .i64 0,.int .i64 0,.int .i64 0,.int .i64 0]) 5 40 Tryz.underlying69 hi2 hx0 hx1 hx2 rfl (by decide) (.slice ar st.obj.aj.length cr) st.obj.aj.length (st.obj.aj.flatMap iN) (by kernel_rfl) hA.o ⟨V1.heap.size,0,none⟩ 1 1 [.int .i64 st.ah,.int .i64 (4 * q),.int .i64 kind,.int .i64 sym,.int .i64 addend] (by kernel_rfl) rfl hN.o iC.o h63.o hby.o hbs.o ?_
    intro v' w3 hown' hgrow _ hat
    obtain ⟨fJ,cap',rfl⟩:=yi hown';have gd:(V1.alloc (.cells #[.int .i64 st.ah,.int .i64 (4 * q),.int .i64 kind,.int .i64 sym,.int .i64 addend] 102)).grownBy w3 (Value.ownBlock (.slice ar st.obj.aj.length cr)):=⟨hgrow.os,hgrow.tape,hgrow.output,hgrow.size,hgrow.block⟩
    have jP:Value.ownBlock (.slice fJ (st.obj.aj.length+1) cap')=Value.ownBlock (.slice ar st.obj.aj.length cr)\/Value.ownBlock (.slice fJ (st.obj.aj.length+1) cap')=some (V1.alloc (.cells #[.int .i64 st.ah,.int .i64 (4 * q),.int .i64 kind,.int .i64 sym,.int .i64 addend] 102)).heap.size:=hat
    have F:=hid (FIN.o _ _ _ gd jP hown');have n14:=qg.o _ gd;have n13:=qh.o _ gd;have ng:=qj.o _ gd;have m5:=ng.cell 6;have f5:=ng.free 6;simp only [bI,bN,bK] at m5;clear hown' hgrow gd hat jP ng;refine hK.out _ _ ⟨n14,n13⟩ (fun jh=>?_);clear hK K;refine aU (i:=22) (v:=?_) rfl ?_ jh ?_
    rotate_left
    ·intro w' hw'; obtain ⟨x0,x1⟩:=hw'; go_simp; with_reducible rfl
    refine aU (i:=23) (v:=?_) rfl ?_ jh ?_
    rotate_left
    ·intro w' hw'; obtain ⟨x0,x1⟩:=hw'; go_simp; with_reducible rfl
    refine wpAnyH_ready (rs:=[24]) (by kernel_rfl) (by simp) ?_;refine AllReadyH.cons rfl (fun K hK=>?_) AllReadyH.nil;go_simp;refine hK.out _ _ ⟨F.o.2.2.1,F.o.2.2.2⟩ (fun hS5=>?_);clear hK K;refine wpAnyH_done (by kernel_rfl) ?_ _
    try simp only [sN,qc,pz,pU,gu,fZ,gq]
    clear hA hN iC h63 hby hbs c13 c14 g6 n14 n13 m5 f5 jh hS5 hS;generalize World.setCell _ _ _=W5 at *;go_wp2_with fail;refine (J3 B s b g _ ao cap ws W5 F.o.1.1 F.o.2.1 hn).mono ?_;rintro e W6 ⟨rfl,h6⟩;have HF:=hid (F.o.1.after h6);clear h6;go_wp2
    go_end0
    rw [RX.o];exact ⟨rfl,HF.o⟩
   ·go_simp;refine hK.out _ _ ⟨Et.o,Eu.o⟩ (fun hS2=>?_);clear hK K;refine wpAnyH_ready (rs:=[10]) (by kernel_rfl) (by simp) ?_;refine AllReadyH.cons rfl (fun K hK=>?_) AllReadyH.nil;go_simp;refine hK.out _ _ ⟨Et.o,Eu.o⟩ (fun je=>?_);clear hK K hS2 je;refine wpAnyH_ready (rs:=[21]) (by kernel_rfl) (by simp) ?_;refine AllReadyH.cons rfl (fun K hK=>?_) AllReadyH.nil;rw [if_pos (by kernel_rfl)];refine Du _ (.tmp 48) (.tmp 58) 69 rfl B 102 i2 (.agg #[.int .i64 0,.int .i64 0,.int .i64 0,.int .i64 0,.int .i64 0]) 5 40 Tryz.underlying69 hi2 hx0 hx1 hx2 rfl (by decide) (.slice ar st.obj.aj.length cr) st.obj.aj.length (st.obj.aj.flatMap iN) (by kernel_rfl) hA.o ⟨V1.heap.size,0,none⟩ 1 1 [.int .i64 st.ah,.int .i64 (4 * q),.int .i64 kind,.int .i64 sym,.int .i64 addend] (by kernel_rfl) rfl hN.o iC.o h63.o hby.o hbs.o ?_
    intro v' w3 hown' hgrow _ hat
    obtain ⟨fJ,cap',rfl⟩:=yi hown';have gd:(V1.alloc (.cells #[.int .i64 st.ah,.int .i64 (4 * q),.int .i64 kind,.int .i64 sym,.int .i64 addend] 102)).grownBy w3 (Value.ownBlock (.slice ar st.obj.aj.length cr)):=⟨hgrow.os,hgrow.tape,hgrow.output,hgrow.size,hgrow.block⟩
    have jP:Value.ownBlock (.slice fJ (st.obj.aj.length+1) cap')=Value.ownBlock (.slice ar st.obj.aj.length cr)\/Value.ownBlock (.slice fJ (st.obj.aj.length+1) cap')=some (V1.alloc (.cells #[.int .i64 st.ah,.int .i64 (4 * q),.int .i64 kind,.int .i64 sym,.int .i64 addend] 102)).heap.size:=hat
    have F:=hid (FIN.o _ _ _ gd jP hown');have n14:=qg.o _ gd;have n13:=qh.o _ gd;have ng:=qj.o _ gd;have m5:=ng.cell 6;have f5:=ng.free 6;simp only [bI,bN,bK] at m5;clear hown' hgrow gd hat jP ng;refine hK.out _ _ ⟨n14,n13⟩ (fun jh=>?_);clear hK K;refine aU (i:=22) (v:=?_) rfl ?_ jh ?_
    rotate_left
    ·intro w' hw'; obtain ⟨x0,x1⟩:=hw'; go_simp; with_reducible rfl
    refine aU (i:=23) (v:=?_) rfl ?_ jh ?_
    rotate_left
    ·intro w' hw'; obtain ⟨x0,x1⟩:=hw'; go_simp; with_reducible rfl
    refine wpAnyH_ready (rs:=[24]) (by kernel_rfl) (by simp) ?_;refine AllReadyH.cons rfl (fun K hK=>?_) AllReadyH.nil;go_simp;refine hK.out _ _ ⟨F.o.2.2.1,F.o.2.2.2⟩ (fun hS5=>?_);clear hK K;refine wpAnyH_done (by kernel_rfl) ?_ _
    try simp only [sN,qc,pz,pU,gu,fZ,gq]
    clear hA hN iC h63 hby hbs c13 c14 g6 n14 n13 m5 f5 jh hS5 hS;generalize World.setCell _ _ _=W5 at *;go_wp2_with fail;refine (J3 B s b g _ ao cap ws W5 F.o.1.1 F.o.2.1 hn).mono ?_;rintro e W6 ⟨rfl,h6⟩;have HF:=hid (F.o.1.after h6);clear h6;go_wp2
    go_end0
    rw [RX.o];exact ⟨rfl,HF.o⟩
  ·rw [hf,if_pos rfl] at RS;clear hf;go_wp2
   (try simp only [Exit.inBlock,Exit.then]); refine bodyPost_ret (results_none rfl _ _ _) rfl ?_
   rw [RS.o];exact ⟨rfl,HW.o.does⟩
theorem Un (n:Int):bits .and .i64 n 1=((n % 2).toNat:Int):=by
 have h1:(BitVec.ofInt 64 1).toNat=2 ^ 1 - 1:=by decide
 have key:(BitVec.ofInt 64 n &&& BitVec.ofInt 64 1).toNat=(n % ((2 ^ 64:Nat):Int)).toNat % 2 ^ 1:=by
  rw [BitVec.toNat_and,BitVec.toNat_ofInt,h1,Nat.and_two_pow_sub_one_eq_mod]
 show IntKind.i64.wrap ((BitVec.ofInt 64 n &&& BitVec.ofInt 64 1).toNat:Nat)=_;rw [key,IntKind.wrap_i64];omega
theorem yra (n:Int):bits .and .i64 n 15=((n % 16).toNat:Int):=by
 have h1:(BitVec.ofInt 64 15).toNat=2 ^ 4 - 1:=by decide
 have key:(BitVec.ofInt 64 n &&& BitVec.ofInt 64 15).toNat=(n % ((2 ^ 64:Nat):Int)).toNat % 2 ^ 4:=by
  rw [BitVec.toNat_and,BitVec.toNat_ofInt,h1,Nat.and_two_pow_sub_one_eq_mod]
 show IntKind.i64.wrap ((BitVec.ofInt 64 n &&& BitVec.ofInt 64 15).toNat:Nat)=_;rw [key,IntKind.wrap_i64];omega
theorem yrb (n:Int):bits .and .i64 n 31=((n % 32).toNat:Int):=by
 have h1:(BitVec.ofInt 64 31).toNat=2 ^ 5 - 1:=by decide
 have key:(BitVec.ofInt 64 n &&& BitVec.ofInt 64 31).toNat=(n % ((2 ^ 64:Nat):Int)).toNat % 2 ^ 5:=by
  rw [BitVec.toNat_and,BitVec.toNat_ofInt,h1,Nat.and_two_pow_sub_one_eq_mod]
 show IntKind.i64.wrap ((BitVec.ofInt 64 n &&& BitVec.ofInt 64 31).toNat:Nat)=_;rw [key,IntKind.wrap_i64];omega
theorem yrc (n:Int):bits .and .i64 n 63=((n % 64).toNat:Int):=by
 have h1:(BitVec.ofInt 64 63).toNat=2 ^ 6 - 1:=by decide
 have key:(BitVec.ofInt 64 n &&& BitVec.ofInt 64 63).toNat=(n % ((2 ^ 64:Nat):Int)).toNat % 2 ^ 6:=by
  rw [BitVec.toNat_and,BitVec.toNat_ofInt,h1,Nat.and_two_pow_sub_one_eq_mod]
 show IntKind.i64.wrap ((BitVec.ofInt 64 n &&& BitVec.ofInt 64 63).toNat:Nat)=_;rw [key,IntKind.wrap_i64];omega
theorem yrd (n:Int):bits .and .i64 n 127=((n % 128).toNat:Int):=by
 have h1:(BitVec.ofInt 64 127).toNat=2 ^ 7 - 1:=by decide
 have key:(BitVec.ofInt 64 n &&& BitVec.ofInt 64 127).toNat=(n % ((2 ^ 64:Nat):Int)).toNat % 2 ^ 7:=by
  rw [BitVec.toNat_and,BitVec.toNat_ofInt,h1,Nat.and_two_pow_sub_one_eq_mod]
 show IntKind.i64.wrap ((BitVec.ofInt 64 n &&& BitVec.ofInt 64 127).toNat:Nat)=_;rw [key,IntKind.wrap_i64];omega
theorem yre (n:Int):bits .and .i64 n 255=((n % 256).toNat:Int):=by
 have h1:(BitVec.ofInt 64 255).toNat=2 ^ 8 - 1:=by decide
 have key:(BitVec.ofInt 64 n &&& BitVec.ofInt 64 255).toNat=(n % ((2 ^ 64:Nat):Int)).toNat % 2 ^ 8:=by
  rw [BitVec.toNat_and,BitVec.toNat_ofInt,h1,Nat.and_two_pow_sub_one_eq_mod]
 show IntKind.i64.wrap ((BitVec.ofInt 64 n &&& BitVec.ofInt 64 255).toNat:Nat)=_;rw [key,IntKind.wrap_i64];omega
theorem yqj (n:Int):bits .and .i64 n 1023=((n % 1024).toNat:Int):=by
 have h1:(BitVec.ofInt 64 1023).toNat=2 ^ 10 - 1:=by decide
 have key:(BitVec.ofInt 64 n &&& BitVec.ofInt 64 1023).toNat=(n % ((2 ^ 64:Nat):Int)).toNat % 2 ^ 10:=by
  rw [BitVec.toNat_and,BitVec.toNat_ofInt,h1,Nat.and_two_pow_sub_one_eq_mod]
 show IntKind.i64.wrap ((BitVec.ofInt 64 n &&& BitVec.ofInt 64 1023).toNat:Nat)=_;rw [key,IntKind.wrap_i64];omega
theorem Zc (n:Int):bits .and .i64 n 4095=((n % 4096).toNat:Int):=by
 have h1:(BitVec.ofInt 64 4095).toNat=2 ^ 12 - 1:=by decide
 have key:(BitVec.ofInt 64 n &&& BitVec.ofInt 64 4095).toNat=(n % ((2 ^ 64:Nat):Int)).toNat % 2 ^ 12:=by
  rw [BitVec.toNat_and,BitVec.toNat_ofInt,h1,Nat.and_two_pow_sub_one_eq_mod]
 show IntKind.i64.wrap ((BitVec.ofInt 64 n &&& BitVec.ofInt 64 4095).toNat:Nat)=_;rw [key,IntKind.wrap_i64];omega
theorem Uc (n:Int):bits .and .i64 n 1048575=((n % 1048576).toNat:Int):=by
 have h1:(BitVec.ofInt 64 1048575).toNat=2 ^ 20 - 1:=by decide
 have key:(BitVec.ofInt 64 n &&& BitVec.ofInt 64 1048575).toNat=(n % ((2 ^ 64:Nat):Int)).toNat % 2 ^ 20:=by
  rw [BitVec.toNat_and,BitVec.toNat_ofInt,h1,Nat.and_two_pow_sub_one_eq_mod]
 show IntKind.i64.wrap ((BitVec.ofInt 64 n &&& BitVec.ofInt 64 1048575).toNat:Nat)=_;rw [key,IntKind.wrap_i64];omega
theorem yqa (a:Nat) (h:a < 9223372036854775808):wrap64 (a:Int)=(a:Int):=IntWalk.wrap64_in _ ⟨by omega,by omega⟩
theorem pQ (n:Int) (low count:Nat):As.fI n low count < 2 ^ count:=by
 unfold As.fI;have h:=Int.emod_lt_of_pos (n / (2:Int) ^ low) (show (0:Int) < (2:Int) ^ count from Int.pow_pos (by decide));have h2:=Int.emod_nonneg (n / (2:Int) ^ low) (show (2:Int) ^ count≠0 from Int.ne_of_gt (Int.pow_pos (by decide)));have e:((2 ^ count:Nat):Int)=(2:Int) ^ count:=by simp
 omega
theorem yoZ (n:Int):bits .and .i64 n 1048575=(As.fI n 0 20:Int):=by rw [Uc]; unfold As.fI; simp
theorem Zi (n:Int):As.fI n 0 20 < 1048576:=pQ n 0 20
theorem ypd (n:Int):bits .and .i64 (n / 1048576) 1=(As.fI n 20 1:Int):=by rw [Un]; unfold As.fI; simp
theorem Zm (n:Int):As.fI n 20 1 < 2:=pQ n 20 1
theorem ypc (n:Int):bits .and .i64 (n / 2) 1023=(As.fI n 1 10:Int):=by rw [yqj]; unfold As.fI; simp
theorem Zl (n:Int):As.fI n 1 10 < 1024:=pQ n 1 10
theorem YL (n:Int):bits .and .i64 (n / 2048) 1=(As.fI n 11 1:Int):=by rw [Un]; unfold As.fI; simp
theorem Ug (n:Int):As.fI n 11 1 < 2:=pQ n 11 1
theorem ypb (n:Int):bits .and .i64 (n / 4096) 255=(As.fI n 12 8:Int):=by rw [yre]; unfold As.fI; simp
theorem Zk (n:Int):As.fI n 12 8 < 256:=pQ n 12 8
theorem yoY (n:Int):bits .and .i64 n 4095=(As.fI n 0 12:Int):=by rw [Zc]; unfold As.fI; simp
theorem Zh (n:Int):As.fI n 0 12 < 4096:=pQ n 0 12
theorem ypa (n:Int):bits .and .i64 (n / 4096) 1=(As.fI n 12 1:Int):=by rw [Un]; unfold As.fI; simp
theorem Zj (n:Int):As.fI n 12 1 < 2:=pQ n 12 1
theorem yqF (n:Int):bits .and .i64 (n / 32) 63=(As.fI n 5 6:Int):=by rw [yrc]; unfold As.fI; simp
theorem ZT (n:Int):As.fI n 5 6 < 64:=pQ n 5 6
theorem yqE (n:Int):bits .and .i64 (n / 2) 15=(As.fI n 1 4:Int):=by rw [yra]; unfold As.fI; simp
theorem ZR (n:Int):As.fI n 1 4 < 16:=pQ n 1 4
theorem yqG (n:Int):bits .and .i64 (n / 32) 127=(As.fI n 5 7:Int):=by rw [yrd]; unfold As.fI; simp
theorem yoe (n:Int):As.fI n 5 7 < 128:=pQ n 5 7
theorem Zf (n:Int):bits .and .i64 n 31=(As.fI n 0 5:Int):=by rw [yrb]; unfold As.fI; simp
theorem Ul (n:Int):As.fI n 0 5 < 32:=pQ n 0 5
theorem yrK (a m:Nat) (h:a * m < 9223372036854775808):wrap64 ((a:Int) * (m:Int))=((a * m:Nat):Int):=by
 rw [<- Int.natCast_mul];exact yqa _ h
theorem Ah (a m:Nat) (M:Int) (hM:M=(m:Int)) (h:a * m < 9223372036854775808):wrap64 ((a:Int) * M)=((a * m:Nat):Int):=by
 rw [hM]; exact yrK a m h
theorem yhi (form:Nat) (n:Int) (w:World) (hf:1<=form/\form<=7) :
  Calls Tryz.prog 217 #[.int .i64 form,.int .i64 n] w fun e w'=>e = .returned (.int .i64 (As.place' form n:Nat))/\w'=w:=by
 rcases (show form=1\/form=2\/form=3\/form=4\/form=5\/form=6\/form=7 from by omega) with rfl | rfl | rfl | rfl | rfl | rfl | rfl
 ·have E:=hid (show wrap64 (bits .and .i64 n 1048575 * 4096)=((As.place' 1 n:Nat):Int) from by
   have a:=Zi n;rw [yoZ,Ah _ 4096 4096 rfl (by omega)]; unfold As.place'; rw [if_pos rfl])
  go_enter Tryz.func217,Tryz.ntmps217;go_wp2;go_ret;exact ⟨yM E.o,rfl⟩
 ·have E:=hid (show bits .or .i64 (bits .or .i64 (bits .or .i64 (wrap64 (bits .and .i64 (n / 1048576) 1 * 2147483648)) (wrap64 (bits .and .i64 (n / 2) 1023 * 2097152))) (wrap64 (bits .and .i64 (n / 2048) 1 * 1048576))) (wrap64 (bits .and .i64 (n / 4096) 255 * 4096))=((As.place' 2 n:Nat):Int) from by
   have a:=Zm n;have b:=Zl n;have c:=Ug n;have d:=Zk n;have x1:As.fI n 20 1 * 2147483648 ||| As.fI n 1 10 * 2097152 < 2 ^ 33:=Nat.or_lt_two_pow (by omega) (by omega);have x2:As.fI n 20 1 * 2147483648 ||| As.fI n 1 10 * 2097152 ||| As.fI n 11 1 * 1048576 < 2 ^ 33:=Nat.or_lt_two_pow x1 (by omega);rw [ypd,ypc,YL,ypb,Ah _ 2147483648 2147483648 rfl (by omega),Ah _ 2097152 2097152 rfl (by omega),Ah _ 1048576 1048576 rfl (by omega),Ah _ 4096 4096 rfl (by omega),Au _ _ (by omega) (by omega),Au _ _ (by omega) (by omega),Au _ _ (by omega) (by omega)]; unfold As.place'; rw [if_neg (by decide),if_pos rfl])
  go_enter Tryz.func217,Tryz.ntmps217;go_wp2;go_ret;exact ⟨yM E.o,rfl⟩
 ·have E:=hid (show wrap64 (bits .and .i64 n 4095 * 1048576)=((As.place' 3 n:Nat):Int) from by
   have a:=Zh n;rw [yoY,Ah _ 1048576 1048576 rfl (by omega)]; unfold As.place'; rw [if_neg (by decide),if_neg (by decide),if_pos rfl])
  go_enter Tryz.func217,Tryz.ntmps217;go_wp2;go_ret;exact ⟨yM E.o,rfl⟩
 ·have E:=hid (show bits .or .i64 (bits .or .i64 (bits .or .i64 (wrap64 (bits .and .i64 (n / 4096) 1 * 2147483648)) (wrap64 (bits .and .i64 (n / 32) 63 * 33554432))) (wrap64 (bits .and .i64 (n / 2) 15 * 256))) (wrap64 (bits .and .i64 (n / 2048) 1 * 128))=((As.place' 4 n:Nat):Int) from by
   have a:=Zj n;have b:=ZT n;have c:=ZR n;have d:=Ug n;have x1:As.fI n 12 1 * 2147483648 ||| As.fI n 5 6 * 33554432 < 2 ^ 33:=Nat.or_lt_two_pow (by omega) (by omega);have x2:As.fI n 12 1 * 2147483648 ||| As.fI n 5 6 * 33554432 ||| As.fI n 1 4 * 256 < 2 ^ 33:=Nat.or_lt_two_pow x1 (by omega);rw [ypa,yqF,yqE,YL,Ah _ 2147483648 2147483648 rfl (by omega),Ah _ 33554432 33554432 rfl (by omega),Ah _ 256 256 rfl (by omega),Ah _ 128 128 rfl (by omega),Au _ _ (by omega) (by omega),Au _ _ (by omega) (by omega),Au _ _ (by omega) (by omega)]; unfold As.place'; rw [if_neg (by decide),if_neg (by decide),if_neg (by decide),if_pos rfl])
  go_enter Tryz.func217,Tryz.ntmps217;go_wp2;go_ret;exact ⟨yM E.o,rfl⟩
 ·have E:=hid (show bits .or .i64 (wrap64 (bits .and .i64 (n / 32) 127 * 33554432)) (wrap64 (bits .and .i64 n 31 * 128))=((As.place' 5 n:Nat):Int) from by
   have a:=yoe n;have b:=Ul n;rw [yqG,Zf,Ah _ 33554432 33554432 rfl (by omega),Ah _ 128 128 rfl (by omega),Au _ _ (by omega) (by omega)]; unfold As.place'; rw [if_neg (by decide),if_neg (by decide),if_neg (by decide),if_neg (by decide),if_pos rfl])
  go_enter Tryz.func217,Tryz.ntmps217;go_wp2;go_ret;exact ⟨yM E.o,rfl⟩
 ·go_enter Tryz.func217,Tryz.ntmps217;go_wp2;go_ret;exact ⟨rfl,rfl⟩
 ·go_enter Tryz.func217,Tryz.ntmps217;go_wp2;go_ret;exact ⟨rfl,rfl⟩
theorem ypI (form:Nat) (n:Int):As.place' form n < 2 ^ 33:=by
 have a1:=Zi n;have a2:=Zm n;have a3:=Zl n;have a4:=Ug n;have a5:=Zk n;have a6:=Zh n;have a7:=Zj n;have a8:=ZT n;have a9:=ZR n;have VN:=yoe n;have VO:=Ul n;unfold As.place'
 repeat' split
 ·omega
 ·exact Nat.or_lt_two_pow (Nat.or_lt_two_pow (Nat.or_lt_two_pow (by omega) (by omega)) (by omega)) (by omega)
 ·omega
 ·exact Nat.or_lt_two_pow (Nat.or_lt_two_pow (Nat.or_lt_two_pow (by omega) (by omega)) (by omega)) (by omega)
 ·exact Nat.or_lt_two_pow (by omega) (by omega)
 ·omega
theorem Yp (k:Nat) (h:k<=25):uK.getD k 0=((As.forms.getD k 0:Nat):Int):=by
 rcases (show k=0\/k=1\/k=2\/k=3\/k=4\/k=5\/k=6\/k=7\/k=8\/k=9\/k=10\/k=11\/k=12\/k=13\/k=14\/k=15\/k=16\/k=17\/k=18\/k=19\/k=20\/k=21\/k=22\/k=23\/k=24\/k=25 by omega) with rfl | rfl | rfl | rfl | rfl | rfl | rfl | rfl | rfl | rfl | rfl | rfl | rfl | rfl | rfl | rfl | rfl | rfl | rfl | rfl | rfl | rfl | rfl | rfl | rfl | rfl <;> rfl
theorem yoH (k:Nat) (h:k<=25):Ed.getD k 0=((As.jO.getD k 0:Nat):Int):=by
 rcases (show k=0\/k=1\/k=2\/k=3\/k=4\/k=5\/k=6\/k=7\/k=8\/k=9\/k=10\/k=11\/k=12\/k=13\/k=14\/k=15\/k=16\/k=17\/k=18\/k=19\/k=20\/k=21\/k=22\/k=23\/k=24\/k=25 by omega) with rfl | rfl | rfl | rfl | rfl | rfl | rfl | rfl | rfl | rfl | rfl | rfl | rfl | rfl | rfl | rfl | rfl | rfl | rfl | rfl | rfl | rfl | rfl | rfl | rfl | rfl <;> rfl
theorem yoW (k:Nat) (h:k<=25):As.jO.getD k 0 < 2147483648:=by
 rcases (show k=0\/k=1\/k=2\/k=3\/k=4\/k=5\/k=6\/k=7\/k=8\/k=9\/k=10\/k=11\/k=12\/k=13\/k=14\/k=15\/k=16\/k=17\/k=18\/k=19\/k=20\/k=21\/k=22\/k=23\/k=24\/k=25 by omega) with rfl | rfl | rfl | rfl | rfl | rfl | rfl | rfl | rfl | rfl | rfl | rfl | rfl | rfl | rfl | rfl | rfl | rfl | rfl | rfl | rfl | rfl | rfl | rfl | rfl | rfl <;> decide
theorem yqH (k:Nat) (h:1<=k) (h2:k<=25):1<=As.forms.getD k 0/\As.forms.getD k 0<=7:=by
 have:=Td k h h2
 rw [Yp k h2] at this;omega
theorem ZW (a b:Nat) (ha:a < 2 ^ 40) (hb:b < 2 ^ 40):a ||| b < 2 ^ 40:=Nat.or_lt_two_pow ha hb
theorem Dw (a:Nat) (r:Nat) (m:Nat) (M:Int) (hM:M=(m:Int)) (ha:a < 2 ^ 40) (hm:m<=1048576):bits .or .i64 (a:Int) (wrap64 (bits .and .i64 (r:Int) 31 * M))=((a ||| As.fI r 0 5 * m:Nat):Int)/\a ||| As.fI r 0 5 * m < 2 ^ 40:=by
 have h:=Ul (r:Int);have h2:As.fI r 0 5 * m<=31 * 1048576:=Nat.mul_le_mul (by omega) hm;rw [Zf,Ah _ m M hM (by omega),Au _ _ (by omega) (by omega)];exact ⟨rfl,ZW _ _ ha (by omega)⟩
def ru (op rd au aF:Nat) (n:Int):Value:=.agg #[.int .i64 op,.int .i64 rd,.int .i64 au,.int .i64 aF,.int .i64 n]
theorem za (op rd au aF:Nat) (n:Int) (w:World) (ht:dQ w) (h1:1<=op) (h2:op<=25) :
  Calls Tryz.prog 194 #[ru op rd au aF n] w fun e w'=>e = .returned (.int .i64 (As.enc op rd au aF n:Nat))/\w.grownBy w' none:=by
 have G:=hid (fun o:Obj=>aJ w o none);have t1:=ht.form op (by omega);have t2:=ht.fix op (by omega);have hs1:0 < w.heap.size:=World.block_lt_of_cell? w ⟨0,op,none⟩ t1;have hs2:1 < w.heap.size:=World.block_lt_of_cell? w ⟨1,op,none⟩ t2;rw [Yp op h2] at t1;rw [yoH op h2] at t2;have hx:=yoW op h2;have hf:=yqH op h1 h2;have EN:=hid (show As.enc op rd au aF n=As.kM (As.forms.getD op 0) (As.jO.getD op 0) rd au aF n from rfl);generalize As.forms.getD op 0=form at *;generalize As.jO.getD op 0=x at *;generalize As.enc op rd au aF n=R at *;have hpl:=ypI form n;have cP:=hid (fun W=>yhi form n W hf);have PW:=hid (show bits .or .i64 (x:Int) (As.place' form n:Nat)=((x ||| As.place' form n:Nat):Int)/\x ||| As.place' form n < 2 ^ 40 from ⟨Au _ _ (by omega) (by omega),ZW _ _ (by omega) (by omega)⟩)
 have e0:(1:Int)<=(op:Int):=by omega
 have e1:(op:Int)<=25:=by omega
 have b1:decide ((op:Int) < 1)=false:=by simp; omega
 have b2:decide ((25:Int) < (op:Int))=false:=by simp; omega
 clear ht h1 h2;unfold ru;rcases (show form=1\/form=2\/form=3\/form=4\/form=5\/form=6\/form=7 from by omega) with rfl | rfl | rfl | rfl | rfl | rfl | rfl
 ·have zn:=hid (show R=As.kM 1 x rd au aF n from EN.o);generalize hpn:As.place' 1 n=pn at *;have zq:=hid hpn;clear hpn;go_enter Tryz.func194,Tryz.ntmps194;go_wp2
  go_quiet ((go_at_call 217; exact Calls.quiet_of_same (cP.o _)))
  go_wp2;go_ret;refine ⟨yM ?_,yf (G.o _) _⟩;rw [zn.o];unfold As.kM;rw [zq.o];simp only [];rw [if_pos (show As.kZ 1=true from rfl),if_neg (show ¬ As.jy 1=true by decide),if_neg (show ¬ As.j5 1=true by decide)];rw [PW.o.1];have s1:=Dw (x ||| pn) rd 128 128 rfl PW.o.2 (by omega);rw [s1.1]
 ·have zn:=hid (show R=As.kM 2 x rd au aF n from EN.o);generalize hpn:As.place' 2 n=pn at *;have zq:=hid hpn;clear hpn;go_enter Tryz.func194,Tryz.ntmps194;go_wp2
  go_quiet ((go_at_call 217; exact Calls.quiet_of_same (cP.o _)))
  go_wp2;go_ret;refine ⟨yM ?_,yf (G.o _) _⟩;rw [zn.o];unfold As.kM;rw [zq.o];simp only [];rw [if_pos (show As.kZ 2=true from rfl),if_neg (show ¬ As.jy 2=true by decide),if_neg (show ¬ As.j5 2=true by decide)];rw [PW.o.1];have s1:=Dw (x ||| pn) rd 128 128 rfl PW.o.2 (by omega);rw [s1.1]
 ·have zn:=hid (show R=As.kM 3 x rd au aF n from EN.o);generalize hpn:As.place' 3 n=pn at *;have zq:=hid hpn;clear hpn;go_enter Tryz.func194,Tryz.ntmps194;go_wp2
  go_quiet ((go_at_call 217; exact Calls.quiet_of_same (cP.o _)))
  go_wp2;go_ret;refine ⟨yM ?_,yf (G.o _) _⟩;rw [zn.o];unfold As.kM;rw [zq.o];simp only [];rw [if_pos (show As.kZ 3=true from rfl),if_pos (show As.jy 3=true from rfl),if_neg (show ¬ As.j5 3=true by decide)];rw [PW.o.1];have s1:=Dw (x ||| pn) rd 128 128 rfl PW.o.2 (by omega);rw [s1.1];have s2:=Dw ((x ||| pn) ||| As.fI rd 0 5 * 128) au 32768 32768 rfl s1.2 (by omega);rw [s2.1]
 ·have zn:=hid (show R=As.kM 4 x rd au aF n from EN.o);generalize hpn:As.place' 4 n=pn at *;have zq:=hid hpn;clear hpn;go_enter Tryz.func194,Tryz.ntmps194;go_wp2
  go_quiet ((go_at_call 217; exact Calls.quiet_of_same (cP.o _)))
  go_wp2;go_ret;refine ⟨yM ?_,yf (G.o _) _⟩;rw [zn.o];unfold As.kM;rw [zq.o];simp only [];rw [if_neg (show ¬ As.kZ 4=true by decide),if_pos (show As.jy 4=true from rfl),if_pos (show As.j5 4=true from rfl)];rw [PW.o.1];have s1:=Dw (x ||| pn) au 32768 32768 rfl PW.o.2 (by omega);rw [s1.1];have s2:=Dw ((x ||| pn) ||| As.fI au 0 5 * 32768) aF 1048576 1048576 rfl s1.2 (by omega);rw [s2.1]
 ·have zn:=hid (show R=As.kM 5 x rd au aF n from EN.o);generalize hpn:As.place' 5 n=pn at *;have zq:=hid hpn;clear hpn;go_enter Tryz.func194,Tryz.ntmps194;go_wp2
  go_quiet ((go_at_call 217; exact Calls.quiet_of_same (cP.o _)))
  go_wp2;go_ret;refine ⟨yM ?_,yf (G.o _) _⟩;rw [zn.o];unfold As.kM;rw [zq.o];simp only [];rw [if_neg (show ¬ As.kZ 5=true by decide),if_pos (show As.jy 5=true from rfl),if_pos (show As.j5 5=true from rfl)];rw [PW.o.1];have s1:=Dw (x ||| pn) au 32768 32768 rfl PW.o.2 (by omega);rw [s1.1];have s2:=Dw ((x ||| pn) ||| As.fI au 0 5 * 32768) aF 1048576 1048576 rfl s1.2 (by omega);rw [s2.1]
 ·have zn:=hid (show R=As.kM 6 x rd au aF n from EN.o);generalize hpn:As.place' 6 n=pn at *;have zq:=hid hpn;clear hpn;go_enter Tryz.func194,Tryz.ntmps194;go_wp2
  go_quiet ((go_at_call 217; exact Calls.quiet_of_same (cP.o _)))
  go_wp2;go_ret;refine ⟨yM ?_,yf (G.o _) _⟩;rw [zn.o];unfold As.kM;rw [zq.o];simp only [];rw [if_pos (show As.kZ 6=true from rfl),if_pos (show As.jy 6=true from rfl),if_pos (show As.j5 6=true from rfl)];rw [PW.o.1];have s1:=Dw (x ||| pn) rd 128 128 rfl PW.o.2 (by omega);rw [s1.1];have s2:=Dw ((x ||| pn) ||| As.fI rd 0 5 * 128) au 32768 32768 rfl s1.2 (by omega);rw [s2.1];have s3:=Dw (((x ||| pn) ||| As.fI rd 0 5 * 128) ||| As.fI au 0 5 * 32768) aF 1048576 1048576 rfl s2.2 (by omega);rw [s3.1]
 ·have zn:=hid (show R=As.kM 7 x rd au aF n from EN.o);generalize hpn:As.place' 7 n=pn at *;have zq:=hid hpn;clear hpn;go_enter Tryz.func194,Tryz.ntmps194;go_wp2
  go_quiet ((go_at_call 217; exact Calls.quiet_of_same (cP.o _)))
  go_wp2;go_ret;refine ⟨yM ?_,yf (G.o _) _⟩;rw [zn.o];unfold As.kM;rw [zq.o];simp only [];rw [if_neg (show ¬ As.kZ 7=true by decide),if_neg (show ¬ As.jy 7=true by decide),if_neg (show ¬ As.j5 7=true by decide)];rw [PW.o.1]
theorem Tv (v:Int) (w:World) (h0:-2147483648<=v) (h1:v<=2147483647) :
  Calls Tryz.prog 197 #[.int .i64 v] w fun e w'=>e = .returned (.tuple #[.int .i64 (As.dG v),.int .i64 (As.bP v)])/\w'=w:=by
 have a1:=Zc v;have r1:0<=v % 4096/\v % 4096 < 4096:=by omega
 have e1:bits .and .i64 v 4095=v % 4096:=by rw [a1]; omega
 have HH:=hid (show As.dG v=(v - As.bP v) / 4096 % 1048576 from rfl);have Kn:=hid (show As.bP v=if v % 4096 < 2048 then v % 4096 else v % 4096 - 4096 from rfl);clear a1;by_cases c:v % 4096 < 2048
 ·have EL:=hid (show As.bP v=v % 4096 by rw [Kn.o,if_pos c]);have EH:=hid (show bits .and .i64 ((v - v % 4096) / 4096) 1048575=As.dG v by rw [Uc,HH.o,EL.o]; omega);generalize As.bP v=lo at *;generalize As.dG v=hi at *;go_enter Tryz.func197,Tryz.ntmps197;go_wp2;go_ret2;exact ⟨by rw [EL.o,<- EH.o]; rfl,rfl⟩
 ·have EL:=hid (show As.bP v=v % 4096 - 4096 by rw [Kn.o,if_neg c]);have EH:=hid (show bits .and .i64 ((v - (v % 4096 - 4096)) / 4096) 1048575=As.dG v by rw [Uc,HH.o,EL.o]; omega);generalize As.bP v=lo at *;generalize As.dG v=hi at *;go_enter Tryz.func197,Tryz.ntmps197;go_wp2;go_ret2;exact ⟨by rw [EL.o,<- EH.o]; rfl,rfl⟩
theorem NH (W:World) (x:Int):qR (W.alloc (.cells #[.int .i64 x] 3)) (some ⟨W.heap.size,0,none⟩) 1 [x] :=
 .inr ⟨W.heap.size,0,_,rfl,yc.new W _ _,fun i h=>by
  have:i=0:=by simp at h; omega
  subst this; rfl⟩
theorem K8 (W:World) (x y:Int):qR (W.alloc (.cells #[.int .i64 x,.int .i64 y] 3)) (some ⟨W.heap.size,0,none⟩) 2 [x,y] :=
 .inr ⟨W.heap.size,0,_,rfl,yc.new W _ _,fun i h=>by
  rcases (show i=0\/i=1 by simp at h; omega) with rfl | rfl <;> rfl⟩
theorem Dr (B:Nat) (s:ByteArray) (b g:Nat) (st:As.St) (op rd au aF:Nat) (n:Int) (W:World) (h:yl B s b g st W) (h1:1<=op) (h2:op<=25) :
  Calls Tryz.prog 188 #[.pointer (some ⟨b,0,none⟩),ru op rd au aF n] W fun en W'=>en = .returned (.tuple #[])/\Does B s b g W (As.bH op rd au aF n st) W':=by
 have HW:=hid h;have cE:=hid (fun V (hV:dQ V)=>za op rd au aF n V hV h1 h2);clear h;unfold ru As.bH at *;generalize As.enc op rd au aF n=x at *;go_enter Tryz.func188,Tryz.ntmps188;go_wp2_with fail;refine (cE.o _ (HW.o.does.alloc _).1.tabs).mono ?_;rintro e V ⟨rfl,hg⟩;have D:=hid ((HW.o.does.alloc _).grown hg);clear hg cE;go_wp2_with fail;refine (J3 B s b g st _ 1 [(x:Int)] _ (D.o.alloc _).1 (NH V x) (by simp)).mono ?_;rintro e V2 ⟨rfl,h2⟩;have D2:=hid ((D.o.alloc _).after h2);clear h2;go_wp2
 go_end0
 exact ⟨rfl,D2.o⟩
def Kh (op rd au aF:Nat) (n:Int):Array Value:=#[.int .i64 op,.int .i64 rd,.int .i64 au,.int .i64 aF,.int .i64 n]
theorem SK (B:Nat) (s:ByteArray) (b g:Nat) (st:As.St) (reg op rd au aF:Nat) (n:Int) (sym:Nat) (addend:Int) (W:World) (h:yl B s b g st W) (h1:1<=op) (h2:op<=25) :
  Calls Tryz.prog 192 #[.pointer (some ⟨b,0,none⟩),.int .i64 reg,ru op rd au aF n,.int .i64 sym,.int .i64 addend] W fun en W'=>en = .returned (.tuple #[])/\Does B s b g W (As.bV reg op rd au aF n sym addend st) W':=by
 have HW:=hid h;have L0:=hid ((Loc.begin h).alloc (Kh op rd au aF n) 143);have hpos:=h.ok.op.pos;have cE:=hid (fun V (hV:dQ V)=>za op rd au aF n V hV h1 h2);have Ou:=hid (fun V (hV:dQ V)=>za 1 reg 0 0 0 V hV (by omega) (by omega));have hbl:=h.blk.lt;have c10:=Qd h;have RS:=hid (show As.bV reg op rd au aF n sym addend st=As.bX 5 sym addend [(As.enc 1 reg 0 0 0:Int),(As.enc op rd au aF n:Int)] (As.aT (reg == 0) 7 st.op.pos st) from rfl);generalize As.bV reg op rd au aF n sym addend st=X at *;generalize As.enc op rd au aF n=x at *;generalize As.enc 1 reg 0 0 0=y at *;clear h;unfold ru at *;have hn1:b≠W.heap.size:=by omega
 cases hr:(reg == 0)
 ·have d:((reg:Int) == 0)=false:=by simp at hr ⊢; omega
  rw [hr] at RS;have RF:=hid (show X=As.bX 5 sym addend [(y:Int),(x:Int)] st from RS.o);clear RS hr;go_enter Tryz.func192,Tryz.ntmps192;go_wp2_with fail;refine Calls.aL (Loc B s b g W [(W.heap.size,Kh op rd au aF n,143)] st) L0.o ?_;clear L0 c10;intro V0 Kv;have L:=hid Kv;clear Kv;refine (Ou.o _ L.o.d.1.tabs).mono ?_;rintro e V2 ⟨rfl,hg⟩;have L2:=hid (L.o.grown hg);clear hg L Ou;have Lr:=L2.o.l (W.heap.size,Kh op rd au aF n,143) (by simp);have m0:=Lr.cell 0;have m1:=Lr.cell 1;have m2:=Lr.cell 2;have m3:=Lr.cell 3;have m4:=Lr.cell 4;simp only [Kh,bI,bN,bK] at m0 m1 m2 m3 m4;clear Lr;go_wp2_with fail
  refine (cE.o _ L2.o.d.1.tabs).mono ?_;rintro e V3 ⟨rfl,hg⟩;have L3:=hid (L2.o.grown hg);have D3:=hid (L3.o.d.does HW.o);clear hg L2 cE m0 m1 m2 m3 m4 L3;go_wp2_with fail;refine (Hw B s b g _ 5 sym addend _ 2 [(y:Int),(x:Int)] _ (D3.o.alloc _).1 (K8 V3 y x) (by simp)).mono ?_;rintro e V4 ⟨rfl,h4⟩;have D4:=hid ((D3.o.alloc _).after h4);clear h4 D3;go_wp2
  go_end0
  rw [RF.o];exact ⟨rfl,D4.o⟩
 ·have d:((reg:Int) == 0)=true:=by simp at hr ⊢; omega
  rw [hr] at RS;have RF:=hid (show X=As.bX 5 sym addend [(y:Int),(x:Int)] (As.refuse 7 st.op.pos st) from RS.o);clear RS hr;go_enter Tryz.func192,Tryz.ntmps192;go_wp2_with fail;refine Calls.aL (Loc B s b g W [(W.heap.size,Kh op rd au aF n,143)] st) L0.o ?_;clear L0 c10;intro V0 Kv;refine (yK B s b g st 7 st.op.pos V0 Kv.d.1 (by omega) hpos).mono ?_;rintro e V1 ⟨rfl,hh⟩;have L:=hid (Kv.step hh);clear hh Kv V0;generalize As.refuse 7 st.op.pos st=st1 at *;go_wp2_with fail;refine (Ou.o _ L.o.d.1.tabs).mono ?_;rintro e V2 ⟨rfl,hg⟩;have L2:=hid (L.o.grown hg);clear hg L Ou;have Lr:=L2.o.l (W.heap.size,Kh op rd au aF n,143) (by simp)
  have m0:=Lr.cell 0;have m1:=Lr.cell 1;have m2:=Lr.cell 2;have m3:=Lr.cell 3;have m4:=Lr.cell 4;simp only [Kh,bI,bN,bK] at m0 m1 m2 m3 m4;clear Lr;go_wp2_with fail;refine (cE.o _ L2.o.d.1.tabs).mono ?_;rintro e V3 ⟨rfl,hg⟩;have L3:=hid (L2.o.grown hg);have D3:=hid (L3.o.d.does HW.o);clear hg L2 cE m0 m1 m2 m3 m4 L3;go_wp2_with fail;refine (Hw B s b g _ 5 sym addend _ 2 [(y:Int),(x:Int)] _ (D3.o.alloc _).1 (K8 V3 y x) (by simp)).mono ?_;rintro e V4 ⟨rfl,h4⟩;have D4:=hid ((D3.o.alloc _).after h4);clear h4 D3;go_wp2
  go_end0
  rw [RF.o];exact ⟨rfl,D4.o⟩
theorem yja (B:Nat) (s:ByteArray) (b g:Nat) (st0:As.St) (op:Nat) (W:World) (h:yl B s b g st0 W) (h1:1<=op) (h2:op<=25) :
  Calls Tryz.prog 139 #[.pointer (some ⟨b,0,none⟩),.int .i64 op] W fun en W'=>en = .returned (.tuple #[])/\Does B s b g W (As.dX (sl s) op st0) W':=by
 have D0:=hid h.does;clear h;obtain ⟨X,hX⟩:∃ X,X=As.dX (sl s) op st0:=⟨_,rfl⟩
 rw [<- hX];unfold As.dX at hX;dsimp only at hX;have RS:=hid hX;clear hX;go_enter Tryz.func139,Tryz.ntmps139;go_wp2_with fail;refine (yQ B s b g st0 _ D0.o.1).mono ?_;rintro e V1 ⟨rfl,hh⟩;have D1:=hid (D0.o.aN hh);clear hh D0;generalize As.register (sl s) st0=R1 at *;obtain ⟨rd,st1⟩:=R1;dsimp only at RS D1 ⊢;go_wp2_with fail;refine (vR B s b g st1 [44] _ D1.o.1).mono ?_;rintro e V2 ⟨rfl,hh⟩;have D2:=hid (D1.o.aN hh);clear hh D1;generalize As.sign (sl s) [44] st1=st2 at *;go_wp2_with fail;refine (yQ B s b g st2 _ D2.o.1).mono ?_;rintro e V3 ⟨rfl,hh⟩;have D3:=hid (D2.o.aN hh);clear hh D2;generalize As.register (sl s) st2=R3 at *
 obtain ⟨au,iU⟩:=R3;dsimp only at RS D3 ⊢;go_wp2_with fail;refine (vR B s b g iU [44] _ D3.o.1).mono ?_;rintro e V4 ⟨rfl,hh⟩;have D4:=hid (D3.o.aN hh);clear hh D3;generalize As.sign (sl s) [44] iU=rM at *;go_wp2_with fail;refine (yQ B s b g rM _ D4.o.1).mono ?_;rintro e V5 ⟨rfl,hh⟩;have D5:=hid (D4.o.aN hh);clear hh D4;generalize As.register (sl s) rM=R5 at *;obtain ⟨aF,Dc⟩:=R5;dsimp only at RS D5 ⊢;go_wp2_with fail;refine (Dr B s b g Dc op rd au aF 0 _ D5.o.1 h1 h2).mono ?_;rintro e VF ⟨rfl,hh⟩;have DF:=hid (D5.o.after hh);clear hh;go_wp2
 go_end0
 rw [RS.o];exact ⟨rfl,DF.o⟩
theorem yif (B:Nat) (s:ByteArray) (b g:Nat) (st0:As.St) (op:Nat) (W:World) (h:yl B s b g st0 W) (h1:1<=op) (h2:op<=25) :
  Calls Tryz.prog 140 #[.pointer (some ⟨b,0,none⟩),.int .i64 op] W fun en W'=>en = .returned (.tuple #[])/\Does B s b g W (As.dI (sl s) op st0) W':=by
 have D0:=hid h.does;clear h;obtain ⟨X,hX⟩:∃ X,X=As.dI (sl s) op st0:=⟨_,rfl⟩
 rw [<- hX];unfold As.dI at hX;dsimp only at hX;have RS:=hid hX;clear hX;go_enter Tryz.func140,Tryz.ntmps140;go_wp2_with fail;refine (yQ B s b g st0 _ D0.o.1).mono ?_;rintro e V1 ⟨rfl,hh⟩;have D1:=hid (D0.o.aN hh);clear hh D0;generalize As.register (sl s) st0=R1 at *;obtain ⟨rd,st1⟩:=R1;dsimp only at RS D1 ⊢;go_wp2_with fail;refine (vR B s b g st1 [44] _ D1.o.1).mono ?_;rintro e V2 ⟨rfl,hh⟩;have D2:=hid (D1.o.aN hh);clear hh D1;generalize As.sign (sl s) [44] st1=st2 at *;go_wp2_with fail;refine (yQ B s b g st2 _ D2.o.1).mono ?_;rintro e V3 ⟨rfl,hh⟩;have D3:=hid (D2.o.aN hh);clear hh D2;generalize As.register (sl s) st2=R3 at *
 obtain ⟨au,iU⟩:=R3;dsimp only at RS D3 ⊢;go_wp2_with fail;refine (vR B s b g iU [44] _ D3.o.1).mono ?_;rintro e V4 ⟨rfl,hh⟩;have D4:=hid (D3.o.aN hh);clear hh D3;generalize As.sign (sl s) [44] iU=rM at *;go_wp2_with fail;refine (Gn B s b g rM (-2048) 2047 _ D4.o.1).mono ?_;rintro e V5 ⟨rfl,hh⟩;have D5:=hid (D4.o.aN hh);clear hh D4;generalize As.number (sl s) (-2048) 2047 rM=R5 at *;obtain ⟨n,Dc⟩:=R5;dsimp only at RS D5 ⊢;go_wp2_with fail;refine (Dr B s b g Dc op rd au 0 n _ D5.o.1 h1 h2).mono ?_;rintro e VF ⟨rfl,hh⟩;have DF:=hid (D5.o.after hh);clear hh;go_wp2
 go_end0
 rw [RS.o];exact ⟨rfl,DF.o⟩
theorem yoJ (B:Nat) (s:ByteArray) (b g:Nat) (st0:As.St) (W:World) (h:yl B s b g st0 W) :
  Calls Tryz.prog 141 #[.pointer (some ⟨b,0,none⟩)] W fun en W'=>en = .returned (.tuple #[])/\Does B s b g W (As.upper (sl s) st0) W':=by
 have D0:=hid h.does;clear h;obtain ⟨X,hX⟩:∃ X,X=As.upper (sl s) st0:=⟨_,rfl⟩
 rw [<- hX];unfold As.upper at hX;dsimp only at hX;have RS:=hid hX;clear hX;go_enter Tryz.func141,Tryz.ntmps141;go_wp2_with fail;refine (yQ B s b g st0 _ D0.o.1).mono ?_;rintro e V1 ⟨rfl,hh⟩;have D1:=hid (D0.o.aN hh);clear hh D0;generalize As.register (sl s) st0=R1 at *;obtain ⟨rd,st1⟩:=R1;dsimp only at RS D1 ⊢;go_wp2_with fail;refine (vR B s b g st1 [44] _ D1.o.1).mono ?_;rintro e V2 ⟨rfl,hh⟩;have D2:=hid (D1.o.aN hh);clear hh D1;generalize As.sign (sl s) [44] st1=st2 at *;go_wp2_with fail;refine (Gn B s b g st2 0 1048575 _ D2.o.1).mono ?_;rintro e V3 ⟨rfl,hh⟩;have D3:=hid (D2.o.aN hh);clear hh D2
 generalize As.number (sl s) 0 1048575 st2=R3 at *;obtain ⟨n,iU⟩:=R3;dsimp only at RS D3 ⊢;go_wp2_with fail;refine (Dr B s b g iU 1 rd 0 0 n _ D3.o.1 (by omega) (by omega)).mono ?_;rintro e VF ⟨rfl,hh⟩;have DF:=hid (D3.o.after hh);clear hh;go_wp2
 go_end0
 rw [RS.o];exact ⟨rfl,DF.o⟩
theorem ygC (B:Nat) (s:ByteArray) (b g:Nat) (st0:As.St) (W:World) (h:yl B s b g st0 W) :
  Calls Tryz.prog 144 #[.pointer (some ⟨b,0,none⟩)] W fun en W'=>en = .returned (.tuple #[])/\Does B s b g W (As.bO (sl s) st0) W':=by
 have D0:=hid h.does;clear h;obtain ⟨X,hX⟩:∃ X,X=As.bO (sl s) st0:=⟨_,rfl⟩
 rw [<- hX];unfold As.bO at hX;dsimp only at hX;have RS:=hid hX;clear hX;go_enter Tryz.func144,Tryz.ntmps144;go_wp2_with fail;refine (yQ B s b g st0 _ D0.o.1).mono ?_;rintro e V1 ⟨rfl,hh⟩;have D1:=hid (D0.o.aN hh);clear hh D0;generalize As.register (sl s) st0=R1 at *;obtain ⟨rd,st1⟩:=R1;dsimp only at RS D1 ⊢;go_wp2_with fail;refine (vR B s b g st1 [44] _ D1.o.1).mono ?_;rintro e V2 ⟨rfl,hh⟩;have D2:=hid (D1.o.aN hh);clear hh D1;generalize As.sign (sl s) [44] st1=st2 at *;go_wp2_with fail;refine (Tw B s b g st2 _ D2.o.1).mono ?_;rintro e V3 ⟨rfl,hh⟩;have D3:=hid (D2.o.aN hh);clear hh D2;generalize As.place (sl s) st2=R3 at *
 obtain ⟨⟨n,au⟩,iU⟩:=R3;dsimp only at RS D3 ⊢;go_wp2_with fail;refine (Dr B s b g iU 4 rd au 0 n _ D3.o.1 (by omega) (by omega)).mono ?_;rintro e VF ⟨rfl,hh⟩;have DF:=hid (D3.o.after hh);clear hh;go_wp2
 go_end0
 rw [RS.o];exact ⟨rfl,DF.o⟩
theorem ypw (B:Nat) (s:ByteArray) (b g:Nat) (st0:As.St) (W:World) (h:yl B s b g st0 W) :
  Calls Tryz.prog 149 #[.pointer (some ⟨b,0,none⟩)] W fun en W'=>en = .returned (.tuple #[])/\Does B s b g W (As.move (sl s) st0) W':=by
 have D0:=hid h.does;clear h;obtain ⟨X,hX⟩:∃ X,X=As.move (sl s) st0:=⟨_,rfl⟩
 rw [<- hX];unfold As.move at hX;dsimp only at hX;have RS:=hid hX;clear hX;go_enter Tryz.func149,Tryz.ntmps149;go_wp2_with fail;refine (yQ B s b g st0 _ D0.o.1).mono ?_;rintro e V1 ⟨rfl,hh⟩;have D1:=hid (D0.o.aN hh);clear hh D0;generalize As.register (sl s) st0=R1 at *;obtain ⟨rd,st1⟩:=R1;dsimp only at RS D1 ⊢;go_wp2_with fail;refine (vR B s b g st1 [44] _ D1.o.1).mono ?_;rintro e V2 ⟨rfl,hh⟩;have D2:=hid (D1.o.aN hh);clear hh D1;generalize As.sign (sl s) [44] st1=st2 at *;go_wp2_with fail;refine (yQ B s b g st2 _ D2.o.1).mono ?_;rintro e V3 ⟨rfl,hh⟩;have D3:=hid (D2.o.aN hh);clear hh D2;generalize As.register (sl s) st2=R3 at *
 obtain ⟨au,iU⟩:=R3;dsimp only at RS D3 ⊢;go_wp2_with fail;refine (Dr B s b g iU 13 rd au 0 0 _ D3.o.1 (by omega) (by omega)).mono ?_;rintro e VF ⟨rfl,hh⟩;have DF:=hid (D3.o.after hh);clear hh;go_wp2
 go_end0
 rw [RS.o];exact ⟨rfl,DF.o⟩
theorem yhb (B:Nat) (s:ByteArray) (b g:Nat) (st0:As.St) (W:World) (h:yl B s b g st0 W) :
  Calls Tryz.prog 152 #[.pointer (some ⟨b,0,none⟩)] W fun en W'=>en = .returned (.tuple #[])/\Does B s b g W (As.bY (sl s) st0) W':=by
 have D0:=hid h.does;clear h;obtain ⟨X,hX⟩:∃ X,X=As.bY (sl s) st0:=⟨_,rfl⟩
 rw [<- hX];unfold As.bY at hX;dsimp only at hX;have RS:=hid hX;clear hX;go_enter Tryz.func152,Tryz.ntmps152;go_wp2_with fail;refine (yQ B s b g st0 _ D0.o.1).mono ?_;rintro e V1 ⟨rfl,hh⟩;have D1:=hid (D0.o.aN hh);clear hh D0;generalize As.register (sl s) st0=R1 at *;obtain ⟨rd,st1⟩:=R1;dsimp only at RS D1 ⊢;go_wp2_with fail;refine (vR B s b g st1 [44] _ D1.o.1).mono ?_;rintro e V2 ⟨rfl,hh⟩;have D2:=hid (D1.o.aN hh);clear hh D1;generalize As.sign (sl s) [44] st1=st2 at *;go_wp2_with fail;refine (Pg B s b g st2 _ D2.o.1).mono ?_;rintro e V3 ⟨rfl,hh⟩;have D3:=hid (D2.o.after hh);clear hh D2;generalize As.target (sl s) st2=R3 at *
 obtain ⟨⟨sym,add⟩,iU⟩:=R3;dsimp only at RS D3 ⊢;go_wp2_with fail;refine (SK B s b g iU rd 13 rd rd 0 0 sym add _ D3.o.1 (by omega) (by omega)).mono ?_;rintro e VF ⟨rfl,hh⟩;have DF:=hid (D3.o.after hh);clear hh;go_wp2
 go_end0
 rw [RS.o];exact ⟨rfl,DF.o⟩
end Go.Proofs.YtpgklkhgfcjceaaGreatDoor
