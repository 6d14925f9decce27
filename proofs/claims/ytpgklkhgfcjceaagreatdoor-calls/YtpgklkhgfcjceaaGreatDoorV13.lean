
import Derived.Test.YtpgklkhgfcjceaaGreatDoorV12
import Derived.Test.YtpgklkhgfcjceaaGreatDoorV10
set_option maxHeartbeats 16000000
namespace Go.Proofs.YtpgklkhgfcjceaaGreatDoor
open Go.RowKit
theorem rQ {B:Nat} {s:ByteArray} {b g:Nat} {st:As.St} {W:World} (h:yl B s b g st W):W.cell? ⟨b,14,none⟩=some (.pointer (some ⟨g,0,none⟩)):=by
 have c:=yL h 14
 simpa only [yE,bC,bG,bE] using c
theorem tH {B:Nat} {s:ByteArray} {b g:Nat} {st:As.St} {W:World} (h:yl B s b g st W):W.cell? ⟨b,13,none⟩=some (.int .i64 st.ah):=by
 have c:=yL h 13
 simpa only [yE,bC,bG,bE] using c
theorem ynG (ys:List Lk.Sym) (nm:List UInt8) (k:Nat) (hk:k < ys.length) (h:ys[k].name=nm) (hall:∀ j (hj:j < ys.length),j < k->ys[j].name≠nm):As.jJ ys nm=some k:=by
 unfold As.jJ
 rw [List.findIdx?_eq_some_iff_getElem]
 exact ⟨hk,by simp [h],fun j hj=>by simpa using hall j (by omega) hj⟩
theorem ynF (ys:List Lk.Sym) (nm:List UInt8) (hall:∀ j (hj:j < ys.length),ys[j].name≠nm):As.jJ ys nm=none:=by
 unfold As.jJ
 rw [List.findIdx?_eq_none_iff]
 intro y hy
 obtain ⟨j,hj,rfl⟩:=List.getElem_of_mem hy
 simpa using hall j hj
theorem GI {w:World} {base:Nat} {e:TypeId} {size n:Nat} {v:Value} {xs:List Value} {g o:Nat} {u:Value} (h:w.ownsRow base e size v n xs) (hk:∀ k,v.ownBlock=some k->g≠k):(w.setCell ⟨g,o,none⟩ u).ownsRow base e size v n xs :=
 JZ h fun k hk'=>Below.heap_setCell _ _ _ _ (fun e=>hk k hk' e.symm)
def MH (r:Nat×Bool):Value:=.tuple #[.int .i64 r.1,.bool r.2]
theorem jm.uH {s:ByteArray} {st:As.St} (h:jm s st) (o:Lk.Obj) (h1:o.text.length<=1200) (h2:o.far.length<=1200) (h3:o.data.length<=64) (h4:0<=o.bss/\o.bss<=64) (h5:o.align.length=4) (h6:o.syms.length<=16) (h7:o.aj.length<=32):jm s { st with obj:=o } :=
 ⟨h.size,h.p,h.tok,h.fe,h.fa,h.op,h.ah,h1,h2,h3,h4,h5,h6,h7⟩
theorem yl.vE {B:Nat} {s:ByteArray} {b g:Nat} {V W':World} {st:As.St} {vt vf vd va vs vr v':Value} (h:yl B s b g st V) (ho:qy B V b g st.obj vt vf vd va vs vr) (n:lY B V W' b g vs v') (ys:List Lk.Sym) (hys:ys.length<=16)
  (hblk:yc W' g #[vt,vf,vd,.int .i64 st.obj.bss,va,v',vr] 71) (hown:W'.ownsRow B 100 4 v' ys.length (ys.flatMap gP)):Does B s b g V { st with obj:={ st.obj with syms:=ys } } W':=by
 refine n.does h ho (i:=6) rfl (by omega) ⟨vt,vf,vd,va,v',vr,hblk,?_,?_,?_,?_,hown,?_,n.apart ho h.blk.lt (i:=6) rfl⟩ rfl (h.ok.uH _ h.ok.text h.ok.far h.ok.data h.ok.bss h.ok.align hys h.ok.aj) (D8 ho.syms (by simp))
 ·exact n.row ho (i:=6) (j:=2) rfl rfl (by omega) (by omega) ho.text
 ·exact n.row ho (i:=6) (j:=3) rfl rfl (by omega) (by omega) ho.far
 ·exact n.row ho (i:=6) (j:=4) rfl rfl (by omega) (by omega) ho.data
 ·exact n.row ho (i:=6) (j:=5) rfl rfl (by omega) (by omega) ho.align
 ·exact n.row ho (i:=6) (j:=7) rfl rfl (by omega) (by omega) ho.aj
set_option maxRecDepth 100000 in
theorem OM (B:Nat) (s:ByteArray) (b g:Nat) (st:As.St) (t:As.Tok) (W:World) (h:yl B s b g st W) (ht:uU t) :
  Calls Tryz.prog 86 #[.pointer (some ⟨b,0,none⟩),fM t] W fun en W'=>en = .returned (MH (As.aS t st).1)/\Does B s b g W (As.aS t st).2 W':=by
 obtain ⟨i1,hi1,hy0,hy1,hy2⟩:=info_parts Tryz.vg
 have L0:=hid ((Loc.begin h).alloc (yS t) 64)
 have HW:=hid h
 have hpos:=ht.pos
 have cF:=hid (fun V hV=>AZ B s b g st V hV)
 clear h
 unfold fM
 cases hf:As.failed st
 ·have RS:=hid (show As.aS t st=match As.jJ st.obj.syms t.text with
   | some i=>((i,true),st)
   | none=>if 16<=st.obj.syms.length then ((0,false),As.refuse 11 t.pos st) else ((st.obj.syms.length,true),{ st with obj:={ st.obj with syms:=st.obj.syms ++ [⟨t.text,0,0,0⟩] } }) by unfold As.aS; rw [hf]; rfl)
  rw [hf] at cF
  clear hf
  generalize As.aS t st=X at *
  go_enter Tryz.func86,Tryz.ntmps86
  go_wp2_with fail
  refine Calls.aJ (Loc B s b g W [(W.heap.size,yS t,64)] st) L0.o ?_
  clear L0
  generalize hr:W.heap.size=r at *
  have HR:=hid hr
  clear hr
  intro V hV
  have L:=hid hV
  clear hV
  refine (cF.o V L.o.d.1).mono ?_
  rintro e V' ⟨rfl,rfl⟩
  clear cF
  obtain ⟨vt,vf,vd,va,vs,vr,ho⟩:=L.o.d.1.own
  obtain ⟨fU,cs,rfl⟩:=yh ho.syms
  have HO:=hid ho
  have hcap:=pV ho.syms
  have SI:=hid (mW.aR ho.syms)
  have hn16:=L.o.d.1.ok.syms
  have c14:=rQ L.o.d.1
  have g5:=ho.blk.cell 5
  simp only [bC,bG,bE] at g5
  clear ho
  go_wp2
  go_loopw [18] (fun i wr=>∃ k:Nat,k<=st.obj.syms.length/\i = .int .i64 k/\(∀ j (hj:j < st.obj.syms.length),j < k->st.obj.syms[j].name≠t.text)/\V'.grownBy wr none) (fun i _=>st.obj.syms.length - (intOf i).toNat)
  case atStart=>exact ⟨0,Nat.zero_le _,rfl,fun j _ hj=>absurd hj (Nat.not_lt_zero j),World.grownBy.refl _ _⟩
  case round =>
   obtain ⟨k,hk,rfl,hall,hgr⟩:=hrel
   have HA:=hid hall
   have HG:=hid hgr
   have LW:=hid (L.o.grown hgr)
   have JI:=yd c14 hgr
   have q5:=yd g5 hgr
   clear hall hgr c14 g5
   obtain ⟨m0,m1,m2,m3⟩:=(⟨LW.o.d,LW.o.l (r,yS t,64) (by simp)⟩:kJ B s b g W r t st wr).cells
   have hrl:r < wr.heap.size:=(LW.o.l (r,yS t,64) (by simp)).lt
   have hrn:r≠wr.heap.size:=by omega
   by_cases hlt:k < st.obj.syms.length
   ·obtain ⟨sg,hsg,hgs,hc⟩:=SI.o.grown HG.o (by omega)
    obtain ⟨k0,k1,k2,k3⟩:=hc k hlt
    clear hc
    subst hsg
    by_cases e1:st.obj.syms[k].name=t.text
    ·have E:=hid (ynG _ _ k hlt e1 HA.o)
     have b1:((bs st.obj.syms[k].name).toList == (bs t.text).toList)=true:=by rw [e1]; simp
     clear e1
     go_wp2
     go_ret2
     rw [RS.o,E.o]
     exact ⟨rfl,(LW.o.d.alloc _).does HW.o⟩
    ·have E:=hid e1
     have b1:((bs st.obj.syms[k].name).toList == (bs t.text).toList)=false:=by rw [yG,yG]; simpa using e1
     clear e1
     go_wp2
     go_roundw
     case rel=>exact ⟨k+1,by omega,by go_num,fun j hj hjk=>(Nat.lt_succ_iff_lt_or_eq.1 hjk).elim (fun h=>HA.o j hj h) (fun h=>by subst h; exact E.o),ya HG.o (aH _ _ _)⟩
     case measure=>simp [intOf]; omega
   ·have EN:=hid (ynF st.obj.syms t.text (fun j hj=>HA.o j hj (by omega)))
    rw [EN.o] at RS
    by_cases h16:16<=st.obj.syms.length
    ·have D:decide ((16:Int)<=(st.obj.syms.length:Int))=true:=by simp; omega
     have RF:=hid (show X=((0,false),As.refuse 11 t.pos st) by rw [RS.o]; simp only; rw [if_pos h16])
     go_wp2_with fail
     refine (yJ B s b g st 11 t.pos wr LW.o.d.1 (by omega) hpos).mono ?_
     rintro e V2 ⟨rfl,h2⟩
     have HF:=hid (LW.o.d.after h2)
     clear h2
     go_wp2
     go_ret2
     rw [RF.o]
     exact ⟨rfl,HF.o.does HW.o⟩
    ·have D:decide ((16:Int)<=(st.obj.syms.length:Int))=false:=by simp; omega
     have RF:=hid (show X=((st.obj.syms.length,true),{ st with obj:={ st.obj with syms:=st.obj.syms ++ [⟨t.text,0,0,0⟩] } }) by rw [RS.o]; simp only; rw [if_neg h16])
     have hgl:g < wr.heap.size:=by have:=HO.o.blk.lt; have:=HG.o.size; omega
     have HOW:=hid (HO.o.keep (W':=wr) (fun k _ hk=>HG.o.block k hk (by simp)))
     have GA:=hid (aH wr (.cells #[.string (bs t.text),.int .i64 0,.int .i64 0,.int .i64 0] 100) none)
     have Bz:Hd ((wr.alloc (.cells #[.string (bs t.text),.int .i64 0,.int .i64 0,.int .i64 0] 100)).drew.cell? ⟨b,14,none⟩=some (.pointer (some ⟨g,0,none⟩))):=yd JI (yi GA.o)
     have BA:Hd ((wr.alloc (.cells #[.string (bs t.text),.int .i64 0,.int .i64 0,.int .i64 0] 100)).drew.cell? ⟨r,2,none⟩=some (.string (bs t.text))):=yd m2 (yi GA.o)
     have LT:=hid (LW.o.l (r,yS t,64) (by simp))
     have hrs:Hd (some r≠Value.ownBlock (.slice fU st.obj.syms.length cs)):=fun e=>by
      obtain ⟨-,cs',t',hb',ht'⟩:=D8 HOW.o.syms (by simp) r e.symm
      have:=LT.o.symm.trans hb'
      simp at this
      rcases ht' with rfl | rfl | rfl <;> exact absurd this.2 (by decide)
     have Oh:Hd (some b≠Value.ownBlock (.slice fU st.obj.syms.length cs)):=fun e=>HOW.o.apart.ne (i:=0) (j:=6) rfl rfl (by omega) b rfl e.symm
     have hgs0:Hd (some g≠Value.ownBlock (.slice fU st.obj.syms.length cs)):=fun e=>HOW.o.apart.ne (i:=1) (j:=6) rfl rfl (by omega) g rfl e.symm
     have oG:Hd (∀ w3,(wr.alloc (.cells #[.string (bs t.text),.int .i64 0,.int .i64 0,.int .i64 0] 100)).grownBy w3 (Value.ownBlock (.slice fU st.obj.syms.length cs))->w3.cell? ⟨b,14,none⟩=some (.pointer (some ⟨g,0,none⟩))):=fun w3 h=>h.cell Bz.o Oh.o
     have oH:Hd (∀ w3,(wr.alloc (.cells #[.string (bs t.text),.int .i64 0,.int .i64 0,.int .i64 0] 100)).grownBy w3 (Value.ownBlock (.slice fU st.obj.syms.length cs))->w3.cell? ⟨r,2,none⟩=some (.string (bs t.text))):=fun w3 h=>h.cell BA.o hrs.o
     have oI:Hd (∀ w3,(wr.alloc (.cells #[.string (bs t.text),.int .i64 0,.int .i64 0,.int .i64 0] 100)).grownBy w3 (Value.ownBlock (.slice fU st.obj.syms.length cs))->yc w3 g #[vt,vf,vd,.int .i64 st.obj.bss,va,.slice fU st.obj.syms.length cs,vr] 71):=fun w3 h=>(HOW.o.blk.grown GA.o (by simp)).grown h hgs0.o
     have hgb:Hd (g≠b):=fun e=>LW.o.d.1.lo.2.2.2 e.symm
     have Oj:Hd (r≠g):=fun e=>by
      subst e
      have:=LT.o.symm.trans HOW.o.blk
      simp at this
     have FIN:Hd (∀ w3 fA cap',(wr.alloc (.cells #[.string (bs t.text),.int .i64 0,.int .i64 0,.int .i64 0] 100)).grownBy w3 (Value.ownBlock (.slice fU st.obj.syms.length cs))->(Value.ownBlock (.slice fA (st.obj.syms.length+1) cap')=Value.ownBlock (.slice fU st.obj.syms.length cs)\/Value.ownBlock (.slice fA (st.obj.syms.length+1) cap')=some (wr.alloc (.cells #[.string (bs t.text),.int .i64 0,.int .i64 0,.int .i64 0] 100)).heap.size) ->
       w3.ownsRow B 100 4 (.slice fA (st.obj.syms.length+1) cap') (st.obj.syms.length+1) (st.obj.syms.flatMap gP ++ [.string (bs t.text),.int .i64 0,.int .i64 0,.int .i64 0]) ->
       Does B s b g W { st with obj:={ st.obj with syms:=st.obj.syms ++ [⟨t.text,0,0,0⟩] } } (w3.setCell ⟨g,5,none⟩ (.slice fA (st.obj.syms.length+1) cap'))/\(w3.setCell ⟨g,5,none⟩ (.slice fA (st.obj.syms.length+1) cap')).cell? ⟨b,14,none⟩=some (.pointer (some ⟨g,0,none⟩))/\(w3.setCell ⟨g,5,none⟩ (.slice fA (st.obj.syms.length+1) cap')).cell? ⟨r,2,none⟩=some (.string (bs t.text))/\(w3.setCell ⟨g,5,none⟩ (.slice fA (st.obj.syms.length+1) cap')).cell? ⟨g,5,none⟩=some (.slice fA (st.obj.syms.length+1) cap')):=fun w3 fA cap' gd hat hown=>by
      have nr:lY B wr (w3.setCell ⟨g,5,none⟩ (.slice fA (st.obj.syms.length+1) cap')) b g (.slice fU st.obj.syms.length cs) (.slice fA (st.obj.syms.length+1) cap'):=lY.app (fun k hk=>(HOW.o.syms.lt k hk).2) gd hat
      have nb:=(oI.o w3 gd).set 5 (.slice fA (st.obj.syms.length+1) cap')
      have gs:=yf w3 g 5 (.slice fA (st.obj.syms.length+1) cap')
      refine ⟨(LW.o.d.does HW.o).after (LW.o.d.1.vE HOW.o nr _ (by simp; omega) (by simpa using nb) ?_),gs.cell (oG.o w3 gd) (by simpa using hgb.o.symm),gs.cell (oH.o w3 gd) (by simpa using Oj.o),?_⟩
      ·have e:(st.obj.syms ++ [(⟨t.text,0,0,0⟩:Lk.Sym)]).flatMap gP=st.obj.syms.flatMap gP ++ [.string (bs t.text),.int .i64 0,.int .i64 0,.int .i64 0]:=by rw [List.flatMap_append]; rfl
       rw [e,fu,List.length_singleton]
       exact GI hown (fun k hk=>by
        rcases hat with h1 | h1
        ·rw [h1] at hk
         exact fun e=>hgs0.o (by rw [e,hk])
        ·rw [h1] at hk
         simp at hk
         have:=HOW.o.blk.lt
         omega)
      ·have:=nb.cell 5
       simpa using this
     go_wp2
     have hA:Hd ((wr.alloc (.cells #[.string (bs t.text),.int .i64 0,.int .i64 0,.int .i64 0] 100)).drew.ownsRow B 100 4 (.slice fU st.obj.syms.length cs) st.obj.syms.length (st.obj.syms.flatMap gP)):=(HOW.o.syms.alloc _).drew
     have hN:Hd (∀ j u,[Value.string (bs t.text),.int .i64 0,.int .i64 0,.int .i64 0][j]?=some u->(wr.alloc (.cells #[.string (bs t.text),.int .i64 0,.int .i64 0,.int .i64 0] 100)).drew.cell? ((⟨wr.heap.size,0,none⟩:Addr).add j)=some u):=World.news_of_block (heap_alloc_new wr (.cells #[.string (bs t.text),.int .i64 0,.int .i64 0,.int .i64 0] 100))
     have gQ:Hd (∀ u∈[Value.string (bs t.text),.int .i64 0,.int .i64 0,.int .i64 0],u.oneCell'=true):=by intro u hu; simp at hu; rcases hu with rfl | rfl | rfl | rfl <;> rfl
     have h63:Hd (st.obj.syms.length+1<=maxLen):=by show _<=_; unfold maxLen; omega
     have hby:Hd ((st.obj.syms.length+1) * 40<=140737488355328):=by show _<=_; omega
     have hbs:Hd (B<=(wr.alloc (.cells #[.string (bs t.text),.int .i64 0,.int .i64 0,.int .i64 0] 100)).drew.heap.size):=by have:=LW.o.d.1.size; show _<=_; simp; omega
     refine wp_region_held_drew (S:=(fun w'=>w'.cell? ⟨b,14,none⟩=some (.pointer (some ⟨g,0,none⟩))/\w'.cell? ⟨r,2,none⟩=some (.string (bs t.text)))) (by kernel_rfl) ⟨JI,m2⟩ ?_
     intro hS
     refine wpAnyH_take (i:=0) (v:=?_) rfl (by kernel_rfl) (by kernel_rfl) (by kernel_rfl) (fun _ _ _ h=>h) (Or.inl ⟨by kernel_rfl,?_⟩) hS ?_
     rotate_left
     ·intro w' hw'; obtain ⟨x0,x1⟩:=hw'; go_simp; with_reducible rfl
     refine wpAnyH_take (i:=1) (v:=?_) rfl (by kernel_rfl) (by kernel_rfl) (by kernel_rfl) (fun _ _ _ h=>h) (Or.inl ⟨by kernel_rfl,?_⟩) hS ?_
     rotate_left
     ·intro w' hw'; obtain ⟨x0,x1⟩:=hw'; go_simp; with_reducible rfl
     refine wpAnyH_take (i:=2) (v:=?_) rfl (by kernel_rfl) (by kernel_rfl) (by kernel_rfl) (fun _ _ _ h=>h) (Or.inl ⟨by kernel_rfl,?_⟩) hS ?_
     rotate_left
     ·intro w' hw'; obtain ⟨x0,x1⟩:=hw'; go_simp; with_reducible rfl
     refine wpAnyH_take (i:=3) (v:=?_) rfl (by kernel_rfl) (by kernel_rfl) (by kernel_rfl) (fun _ _ _ h=>h) (Or.inl ⟨by kernel_rfl,?_⟩) hS ?_
     rotate_left
     ·intro w' hw'; obtain ⟨x0,x1⟩:=hw'; go_simp; with_reducible rfl
     refine wpAnyH_take (i:=4) (v:=?_) rfl (by kernel_rfl) (by kernel_rfl) (by kernel_rfl) (fun _ _ _ h=>h) (Or.inl ⟨by kernel_rfl,?_⟩) hS ?_
     rotate_left
     ·intro w' hw'; obtain ⟨x0,x1⟩:=hw'; go_simp; with_reducible rfl
     refine wpAnyH_take (i:=5) (v:=?_) rfl (by kernel_rfl) (by kernel_rfl) (by kernel_rfl) (fun _ _ _ h=>h) (Or.inl ⟨by kernel_rfl,?_⟩) hS ?_
     rotate_left
     ·intro w' hw'; obtain ⟨x0,x1⟩:=hw'; go_simp; with_reducible rfl
     refine wpAnyH_take (i:=6) (v:=?_) rfl (by kernel_rfl) (by kernel_rfl) (by kernel_rfl) (fun _ _ _ h=>h) (Or.inl ⟨by kernel_rfl,?_⟩) hS ?_
     rotate_left
     ·intro w' hw'; obtain ⟨x0,x1⟩:=hw'; go_simp; with_reducible rfl
     refine wpAnyH_take (i:=7) (v:=?_) rfl (by kernel_rfl) (by kernel_rfl) (by kernel_rfl) (fun _ _ _ h=>h) (Or.inl ⟨by kernel_rfl,?_⟩) hS ?_
     rotate_left
     ·intro w' hw'; obtain ⟨x0,x1⟩:=hw'; go_simp; with_reducible rfl
     refine wpAnyH_take (i:=8) (v:=?_) rfl (by kernel_rfl) (by kernel_rfl) (by kernel_rfl) (fun _ _ _ h=>h) (Or.inl ⟨by kernel_rfl,?_⟩) hS ?_
     rotate_left
     ·intro w' hw'; obtain ⟨x0,x1⟩:=hw'; go_simp; with_reducible rfl
     refine wpAnyH_take (i:=9) (v:=?_) rfl (by kernel_rfl) (by kernel_rfl) (by kernel_rfl) (fun _ _ _ h=>h) (Or.inl ⟨by kernel_rfl,?_⟩) hS ?_
     rotate_left
     ·intro w' hw'; obtain ⟨x0,x1⟩:=hw'; go_simp; with_reducible rfl
     refine wpAnyH_take (i:=11) (v:=?_) rfl (by kernel_rfl) (by kernel_rfl) (by kernel_rfl) (fun _ _ _ h=>h) (Or.inl ⟨by kernel_rfl,?_⟩) hS ?_
     rotate_left
     ·intro w' hw'; obtain ⟨x0,x1⟩:=hw'; go_simp; with_reducible rfl
     refine wpAnyH_take (i:=12) (v:=?_) rfl (by kernel_rfl) (by kernel_rfl) (by kernel_rfl) (fun _ _ _ h=>h) (Or.inl ⟨by kernel_rfl,?_⟩) hS ?_
     rotate_left
     ·intro w' hw'; obtain ⟨x0,x1⟩:=hw'; go_simp; with_reducible rfl
     refine wpAnyH_take (i:=13) (v:=?_) rfl (by kernel_rfl) (by kernel_rfl) (by kernel_rfl) (fun _ _ _ h=>h) (Or.inl ⟨by kernel_rfl,?_⟩) hS ?_
     rotate_left
     ·intro w' hw'; obtain ⟨x0,x1⟩:=hw'; go_simp; with_reducible rfl
     refine wpAnyH_ready (rs:=[10,14]) (by kernel_rfl) (by simp) ?_
     refine AllReadyH.cons rfl (fun K hK=>?_) (AllReadyH.cons rfl (fun K hK=>?_) AllReadyH.nil)
     ·go_simp
      refine hK.out _ _ hS (fun hS2=>?_)
      clear hK K
      refine wpAnyH_ready (rs:=[14]) (by kernel_rfl) (by simp) ?_
      refine AllReadyH.cons rfl (fun K hK=>?_) AllReadyH.nil
      go_simp
      refine hK.out _ _ ⟨Bz.o,BA.o⟩ (fun iP=>?_)
      clear hK K hS2 iP
      refine wpAnyH_ready (rs:=[15]) (by kernel_rfl) (by simp) ?_
      refine AllReadyH.cons rfl (fun K hK=>?_) AllReadyH.nil
      rw [if_pos (by kernel_rfl)]
      refine yZ _ (.tmp 53) (.tmp 57) 68 rfl B 100 i1 (.agg #[.string ⟨#[]⟩,.int .i64 0,.int .i64 0,.int .i64 0]) 4 40 Tryz.underlying68 hi1 hy0 hy1 hy2 rfl (by decide) (.slice fU st.obj.syms.length cs) st.obj.syms.length (st.obj.syms.flatMap gP) (by kernel_rfl) hA.o ⟨wr.heap.size,0,none⟩ 1 1 [.string (bs t.text),.int .i64 0,.int .i64 0,.int .i64 0] (by kernel_rfl) rfl hN.o gQ.o h63.o hby.o hbs.o ?_
      intro v' w3 hown' hgrow _ hat
      obtain ⟨fA,cap',rfl⟩:=yh hown'
      have gd:(wr.alloc (.cells #[.string (bs t.text),.int .i64 0,.int .i64 0,.int .i64 0] 100)).grownBy w3 (Value.ownBlock (.slice fU st.obj.syms.length cs)):=⟨hgrow.os,hgrow.tape,hgrow.output,hgrow.size,hgrow.block⟩
      have jC:Value.ownBlock (.slice fA (st.obj.syms.length+1) cap')=Value.ownBlock (.slice fU st.obj.syms.length cs)\/Value.ownBlock (.slice fA (st.obj.syms.length+1) cap')=some (wr.alloc (.cells #[.string (bs t.text),.int .i64 0,.int .i64 0,.int .i64 0] 100)).heap.size:=hat
      have F:=hid (FIN.o _ _ _ gd jC hown')
      have n14:=oG.o _ gd
      have n2:=oH.o _ gd
      have ng:=oI.o _ gd
      have m5:=ng.cell 5
      have f5:=ng.free 5
      simp only [bC,bG,bE] at m5
      clear hown' hgrow gd hat jC ng
      refine hK.out _ _ ⟨n14,n2⟩ (fun iT=>?_)
      clear hK K
      refine wpAnyH_take (i:=16) (v:=?_) rfl (by kernel_rfl) (by kernel_rfl) (by kernel_rfl) (fun _ _ _ h=>h) (Or.inl ⟨by kernel_rfl,?_⟩) iT ?_
      rotate_left
      ·intro w' hw'; obtain ⟨x0,x1⟩:=hw'; go_simp; with_reducible rfl
      refine wpAnyH_take (i:=17) (v:=?_) rfl (by kernel_rfl) (by kernel_rfl) (by kernel_rfl) (fun _ _ _ h=>h) (Or.inl ⟨by kernel_rfl,?_⟩) iT ?_
      rotate_left
      ·intro w' hw'; obtain ⟨x0,x1⟩:=hw'; go_simp; with_reducible rfl
      refine wpAnyH_ready (rs:=[18]) (by kernel_rfl) (by simp) ?_
      refine AllReadyH.cons rfl (fun K hK=>?_) AllReadyH.nil
      go_simp
      refine hK.out _ _ ⟨F.o.2.1,F.o.2.2.1⟩ (fun hS5=>?_)
      clear hK K
      refine wpAnyH_done (by kernel_rfl) ?_ _
      try simp only [qM,oD,nQ,om,fQ,fT,fP]
      have z14:=F.o.2.1
      have z5:=F.o.2.2.2
      clear hA hN gQ h63 hby hbs JI q5 m0 m1 m2 m3 n14 n2 m5 f5 iT hS5 hS
      go_wp2
      go_ret2
      rw [RF.o]
      exact ⟨rfl,F.o.1⟩
     ·go_simp
      refine hK.out _ _ ⟨Bz.o,BA.o⟩ (fun hS2=>?_)
      clear hK K
      refine wpAnyH_ready (rs:=[10]) (by kernel_rfl) (by simp) ?_
      refine AllReadyH.cons rfl (fun K hK=>?_) AllReadyH.nil
      go_simp
      refine hK.out _ _ ⟨Bz.o,BA.o⟩ (fun iP=>?_)
      clear hK K hS2 iP
      refine wpAnyH_ready (rs:=[15]) (by kernel_rfl) (by simp) ?_
      refine AllReadyH.cons rfl (fun K hK=>?_) AllReadyH.nil
      rw [if_pos (by kernel_rfl)]
      refine yZ _ (.tmp 53) (.tmp 57) 68 rfl B 100 i1 (.agg #[.string ⟨#[]⟩,.int .i64 0,.int .i64 0,.int .i64 0]) 4 40 Tryz.underlying68 hi1 hy0 hy1 hy2 rfl (by decide) (.slice fU st.obj.syms.length cs) st.obj.syms.length (st.obj.syms.flatMap gP) (by kernel_rfl) hA.o ⟨wr.heap.size,0,none⟩ 1 1 [.string (bs t.text),.int .i64 0,.int .i64 0,.int .i64 0] (by kernel_rfl) rfl hN.o gQ.o h63.o hby.o hbs.o ?_
      intro v' w3 hown' hgrow _ hat
      obtain ⟨fA,cap',rfl⟩:=yh hown'
      have gd:(wr.alloc (.cells #[.string (bs t.text),.int .i64 0,.int .i64 0,.int .i64 0] 100)).grownBy w3 (Value.ownBlock (.slice fU st.obj.syms.length cs)):=⟨hgrow.os,hgrow.tape,hgrow.output,hgrow.size,hgrow.block⟩
      have jC:Value.ownBlock (.slice fA (st.obj.syms.length+1) cap')=Value.ownBlock (.slice fU st.obj.syms.length cs)\/Value.ownBlock (.slice fA (st.obj.syms.length+1) cap')=some (wr.alloc (.cells #[.string (bs t.text),.int .i64 0,.int .i64 0,.int .i64 0] 100)).heap.size:=hat
      have F:=hid (FIN.o _ _ _ gd jC hown')
      have n14:=oG.o _ gd
      have n2:=oH.o _ gd
      have ng:=oI.o _ gd
      have m5:=ng.cell 5
      have f5:=ng.free 5
      simp only [bC,bG,bE] at m5
      clear hown' hgrow gd hat jC ng
      refine hK.out _ _ ⟨n14,n2⟩ (fun iT=>?_)
      clear hK K
      refine wpAnyH_take (i:=16) (v:=?_) rfl (by kernel_rfl) (by kernel_rfl) (by kernel_rfl) (fun _ _ _ h=>h) (Or.inl ⟨by kernel_rfl,?_⟩) iT ?_
      rotate_left
      ·intro w' hw'; obtain ⟨x0,x1⟩:=hw'; go_simp; with_reducible rfl
      refine wpAnyH_take (i:=17) (v:=?_) rfl (by kernel_rfl) (by kernel_rfl) (by kernel_rfl) (fun _ _ _ h=>h) (Or.inl ⟨by kernel_rfl,?_⟩) iT ?_
      rotate_left
      ·intro w' hw'; obtain ⟨x0,x1⟩:=hw'; go_simp; with_reducible rfl
      refine wpAnyH_ready (rs:=[18]) (by kernel_rfl) (by simp) ?_
      refine AllReadyH.cons rfl (fun K hK=>?_) AllReadyH.nil
      go_simp
      refine hK.out _ _ ⟨F.o.2.1,F.o.2.2.1⟩ (fun hS5=>?_)
      clear hK K
      refine wpAnyH_done (by kernel_rfl) ?_ _
      try simp only [qM,oD,nQ,om,fQ,fT,fP]
      have z14:=F.o.2.1
      have z5:=F.o.2.2.2
      clear hA hN gQ h63 hby hbs JI q5 m0 m1 m2 m3 n14 n2 m5 f5 iT hS5 hS
      go_wp2
      go_ret2
      rw [RF.o]
      exact ⟨rfl,F.o.1⟩
 ·have R:=hid (show As.aS t st=((0,false),st) by unfold As.aS; rw [hf]; rfl)
  rw [hf] at cF
  clear hf
  go_enter Tryz.func86,Tryz.ntmps86
  go_wp2_with fail
  refine (cF.o _ L0.o.d.1).mono ?_
  rintro e w1 ⟨rfl,rfl⟩
  go_wp2
  go_ret2
  rw [R.o]
  exact ⟨rfl,L0.o.d.does HW.o⟩
theorem Tryz.zw:(Tryz.prog.info? 123).map (fun i=>(i.zero,i.size,i.bytes))=some (some (.agg #[.pointer none,.int .i64 0,.int .i64 0]),3,24):=by kernel_rfl
structure vQ (WB:World) (bi:Nat) (g:Nat) (v2 v3 v4:Value) (d b:Int) (sl:List Value) (j:Nat) (rV:Value) (wr:World):Prop where
 gr:WB.grownBy wr (some bi)
 blk:yc wr bi #[aT g,rV,v2,v3,v4,.int .i64 d,.int .i64 b] 130
 row:wr.ownsRow WB.heap.size 123 3 rV j sl
 nil:j=0->rV = .slice none 0 0
section
variable {WB V wr w3:World} {bi g j:Nat} {v2 v3 v4 rV v':Value} {d b:Int} {sl news:List Value}
theorem vQ.kept (h:vQ WB bi g v2 v3 v4 d b sl j rV wr) (hV:wr.grownBy V none):vQ WB bi g v2 v3 v4 d b sl j rV V :=
 ⟨h.gr.trans (hV.but _),h.blk.grown hV (by simp),h.row.kept hV (Decidable.em _),h.nil⟩
theorem vQ.step (h:vQ WB bi g v2 v3 v4 d b sl j rV V) (hown:w3.ownsRow WB.heap.size 123 3 v' (j+1) (sl ++ news)) (hg:V.grownBy w3 rV.ownBlock):vQ WB bi g v2 v3 v4 d b (sl ++ news) (j+1) v' (w3.setCell ⟨bi,1,none⟩ v'):=by
 have b3:=yK h.blk hg (bI.own h.row) (by decide)
 have gs:=yf w3 bi 1 v'
 refine ⟨(h.gr.andThen hg (fun k hk=>.inl (h.row.lt k hk).1)).trans gs,?_,yy hown gs (bI.blk b3) (by decide),fun c=>by omega⟩
 simpa using b3.set 1 v'
end
theorem vQ.mod {WB wr:World} {bi g:Nat} {v2 v3 v4 rV:Value} {m:Ln.Mod} {bl:List Nat} {l:List Ln.gB} {cur:Array Value} (hq:yc WB bi cur 130) (ho:yu WB g m.obj) (q3:WB.ownsRow 0 4 1 v2 m.short.length (m.short.map Value.bool)) (q4:WB.ownsRow 0 3 1 v3 m.text.length (m.text.map (Value.int .i64))) (q5:WB.ownsRow 0 3 1 v4 m.far.length (m.far.map (Value.int .i64))) (q7:m.short=[]->v2 = .slice none 0 0) (h:vQ WB bi g v2 v3 v4 m.data m.bss (l.flatMap (xM bl)) l.length rV wr):yD wr bl bi g { m with means:=l }:=by
 have R:=bI.blk hq
 exact ⟨_,_,_,_,h.blk,rP ho h.gr R (by decide) (by decide) (by decide) (by decide),FV h.row,yy q3 h.gr R (by decide),yy q4 h.gr R (by decide),yy q5 h.gr R (by decide),fun e=>h.nil (by simp only at e; rw [e]; rfl),q7⟩
namespace Ln
def dU:List UInt8:=[95,115,116,97,114,116]
def bJ (os:List Lk.Obj):pO :=
 if (gX os).e≠0 then gX os
 else if (fH os).e≠0 then fH os
 else if (named os dU).ah≠1/\(named os dU).ah≠2 then ⟨35,0,[]⟩
 else fH os
end Ln
theorem ProgAt.flt {W0 W:World} {P:Nat} {bt bf bd:Int} {vm:Value} {bl gl:List Nat} {ms:List Ln.Mod} {st:Ln.gB} {no:Int} {R:Nat} {cs:Array Value} (h:ProgAt W0 P bt bf bd vm bl gl ms st no W) (hb:yc W R cs 45) (hR:W0.heap.size<=R) (a b c:Value):ProgAt W0 P bt bf bd vm bl gl ms st no (((W.setCell ⟨R,0,none⟩ a).setCell ⟨R,1,none⟩ b).setCell ⟨R,2,none⟩ c) :=
 h.ty (World.grownBy.trans (World.grownBy.trans (yf _ R 0 a) (yf _ R 1 b)) (yf _ R 2 c)) (bI.blk hb) (fun k e=>by simp at e; subst e; exact hR) (by decide) (by decide) (by decide) (by decide) (by decide) (by decide) (by decide) (by decide) (by decide)
theorem yU.flt {Wf W0 W:World} {P:Nat} {bt bf bd:Int} {vm:Value} {bl gl:List Nat} {ms:List Ln.Mod} {st:Ln.gB} {no:Int} {R:Nat} {cs:Array Value} (h:yU Wf W0 P bt bf bd vm bl gl ms st no W) (hb:yc W R cs 45) (hR:Wf.heap.size<=R) (a b c:Value):yU Wf W0 P bt bf bd vm bl gl ms st no (((W.setCell ⟨R,0,none⟩ a).setCell ⟨R,1,none⟩ b).setCell ⟨R,2,none⟩ c):=by
 have G:=World.grownBy.trans (World.grownBy.trans (yf W R 0 a) (yf _ R 1 b)) (yf _ R 2 c)
 exact ⟨h.toProgAt.flt hb (Nat.le_trans h.le hR) a b c,fun k cs q=>(h.kf k cs q).grown G (by have:=q.lt; simp; omega),h.le,Nat.le_trans h.sz G.size⟩
theorem Mg {W:World} {R L:Nat} {cs:Array Value} {t:TypeId} (hb:yc W R cs t) (hne:R≠L) (a b c:Value):yc (((W.setCell ⟨L,0,none⟩ a).setCell ⟨L,1,none⟩ b).setCell ⟨L,2,none⟩ c) R cs t :=
 hb.grown (World.grownBy.trans (World.grownBy.trans (yf _ L 0 a) (yf _ L 1 b)) (yf _ L 2 c)) (by simpa using hne)
set_option maxRecDepth 100000 in
theorem ylu (Wf W0:World) (P:Nat) (bt bf bd:Int) (vm:Value) (bl gl:List Nat) (os:List Lk.Obj) (W:World) (h:yU Wf W0 P bt bf bd vm bl gl (os.map Ln.bare) Ln.none_ 0 W) :
  Calls Tryz.prog 38 #[aT P] W fun e W'=>e = .returned (fF (Ln.bJ os))/\yU Wf W0 P bt bf bd vm bl gl (Ln.bO os (os.map Ln.bare)) (Ln.named os Ln.dU) 0 W':=by
 obtain ⟨i0,hi,hz0,hz1,hz2⟩:=info_parts Tryz.zw
 obtain ⟨am,cm,rfl⟩:=yh h.row
 have A0:=aH W (.cells #[.int .i64 0,.int .i64 0,.string ⟨#[]⟩] 45) none
 have BR:=hid (yc.new W #[.int .i64 0,.int .i64 0,.string ⟨#[]⟩] 45)
 have H0:=hid (h.kept A0)
 have c3:(W.alloc (.cells #[.int .i64 0,.int .i64 0,.string ⟨#[]⟩] 45)).cell? ⟨P,3,none⟩=some (.slice am bl.length cm):=H0.o.blk.cell 3
 have hbl:=h.few
 have HRW:=hid h.sz
 have LO:=hid (show os.length=bl.length by have:=h.gy; rwa [pX] at this)
 clear h A0
 unfold aT
 go_enter Tryz.func38,Tryz.ntmps38
 go_wp2
 generalize W.alloc (.cells #[.int .i64 0,.int .i64 0,.string ⟨#[]⟩] 45)=W1 at *
 generalize W.heap.size=R at *
 have RL:=hid (show (Ln.bO os (os.map Ln.bare)).length=(os.map Ln.bare).length by simp [Ln.bO])
 have OB:=hid (show ∀ k,k<=os.length->((Ln.bO os (os.map Ln.bare)).take k ++ (os.map Ln.bare).drop k).map Ln.Mod.obj=os from fun k hk=>by
  rw [List.map_append,List.map_take,List.map_drop]
  have e1:(Ln.bO os (os.map Ln.bare)).map Ln.Mod.obj=os:=by
   apply List.ext_getElem
   ·simp [Ln.bO]
   ·intro i h1 h2
    simp [Ln.bO,Ln.jc,Ln.bare]
  have e2:(os.map Ln.bare).map Ln.Mod.obj=os:=by
   rw [List.map_map]
   exact List.map_id _
  rw [e1,e2,List.take_append_drop])
 go_loopw [14] (fun i wr=>∃ k:Nat,k<=bl.length/\i = .int .i64 k/\yU Wf W0 P bt bf bd (.slice am bl.length cm) bl gl ((Ln.bO os (os.map Ln.bare)).take k ++ (os.map Ln.bare).drop k) Ln.none_ 0 wr/\yc wr R #[.int .i64 0,.int .i64 0,.string ⟨#[]⟩] 45) (fun i _=>bl.length - (intOf i).toNat)
 case atStart=>exact ⟨0,Nat.zero_le _,rfl,by simpa using H0.o,BR.o⟩
 case round =>
  obtain ⟨k,hk,rfl,hpa,hbr⟩:=hrel
  have HP:=hid hpa
  have HB:=hid hbr
  clear hpa hbr H0 BR
  by_cases hlt:k < bl.length
  ·have hko:k < os.length:=by rw [LO.o]; exact hlt
   obtain ⟨sg,off,hsg,hsc⟩:=HP.o.iW.ptrs (by omega)
   have ck:=hsc k hlt
   subst hsg
   have hkg:k < gl.length:=by rw [HP.o.iB]; exact hlt
   have HM:yD wr bl bl[k] (gl[k]'hkg) _:=HP.o.mods k hlt
   have uo:((Ln.bO os (os.map Ln.bare)).take k ++ (os.map Ln.bare).drop k)[k]'(by rw [HP.o.gy]; exact hlt)=Ln.bare os[k]:=by
    rw [Hr _ _ k (by simpa using hko) (by rw [RL.o,pX]; omega) (by rw [HP.o.gy]; exact hlt),List.getElem_map]
   rw [uo] at HM
   obtain ⟨v1,v2,v3,v4,q0,q1,-,q3,q4,q5,q6,q7⟩:=HM
   have e6:=q6 rfl
   subst e6
   obtain ⟨at_,ct,af,cf,ad,cd,aa,ca,fU,cs,ar,cr,hb,-,-,-,-,p5,-⟩:=q1.open
   have S:=hid (mW.aR p5)
   have k5:=hb.cell 5
   simp only [bC,bG,bE] at k5
   have k0:wr.cell? ⟨bl[k],0,none⟩=some (aT (gl[k]'hkg)):=q0.cell 0
   unfold aT at k0
   have M0:=hid (show vQ wr bl[k] (gl[k]'hkg) v2 v3 v4 0 0 [] 0 (.slice none 0 0) wr from ⟨World.grownBy.refl _ _,q0,World.ownsRow_nil _ _ _ _,fun _=>rfl⟩)
   have PK:=hid (fun (l:List Ln.gB) (rV:Value) (wr2:World) (hm:vQ wr bl[k] (gl[k]'hkg) v2 v3 v4 0 0 (l.flatMap (xM bl)) l.length rV wr2)=>show yU Wf W0 P bt bf bd (.slice (some ⟨sg,off,none⟩) bl.length cm) bl gl (((Ln.bO os (os.map Ln.bare)).take k ++ (os.map Ln.bare).drop k).set k { Ln.bare os[k] with means:=l }) Ln.none_ 0 wr2 from
    HP.o.upd hlt (by rw [HP.o.gy]; exact hlt) hm.gr (vQ.mod (m:=Ln.bare os[k]) q0 q1 q3 q4 q5 q7 hm) (by rw [uo]))
   have PI:=hid (fun (l:List Ln.gB) (rV:Value) (wr2:World) (hm:vQ wr bl[k] (gl[k]'hkg) v2 v3 v4 0 0 (l.flatMap (xM bl)) l.length rV wr2)=>show wr2.cell? ⟨P,3,none⟩=some (.slice (some ⟨sg,off,none⟩) bl.length cm)/\rY wr2 (some ⟨sg,off,none⟩) bl os from by
    have A:=PK.o l rV wr2 hm
    refine ⟨A.blk.cell 3,?_⟩
    have B:=A.iW
    have e:((((Ln.bO os (os.map Ln.bare)).take k ++ (os.map Ln.bare).drop k).set k { Ln.bare os[k] with means:=l }).map Ln.Mod.obj)=os:=by
     rw [List.map_set,OB.o k (by omega)]
     exact List.set_getElem_self hko
    rw [e] at B
    exact B)
   have PS:=hid (fun (wr2:World) (hg:wr.grownBy wr2 (some bl[k]))=>show mW wr2 fU (Ln.bare os[k]).obj.syms from mW.aR (yy p5 hg (bI.blk q0) (by decide)))
   have PB:=hid (fun (wr2:World) (hg:wr.grownBy wr2 (some bl[k]))=>show yc wr2 R #[.int .i64 0,.int .i64 0,.string ⟨#[]⟩] 45 from yK HB.o hg (bI.blk q0) (by decide))
   have hys:os[k].syms.length<=65535:=HP.o.iW.syms _ (by rw [OB.o k (by omega)]; exact gW hko)
   have FIN:=hid (show ((Ln.bO os (os.map Ln.bare)).take k ++ (os.map Ln.bare).drop k).set k { Ln.bare os[k] with means:=os[k].syms.map (Ln.meaning os k) }=(Ln.bO os (os.map Ln.bare)).take (k+1) ++ (os.map Ln.bare).drop (k+1) by
    rw [<- Ml _ _ k (by simpa using hko) (by rw [RL.o,pX]; exact hko) RL.o]
    congr 1
    simp [Ln.bO,Ln.jc,Ln.bare])
   have hbk:bl[k] < wr.heap.size:=q0.lt
   have QM:(Ln.bare os[k]).obj.syms=os[k].syms:=rfl
   rw [QM] at PS S k5
   generalize hY:os[k].syms=ys at *
   have g1:(k:Int) < (bl.length:Int):=by omega
   clear hsc q0 q1 q3 q4 q5 q6 q7 hb p5 HP HB uo hY QM RL OB
   generalize (gl[k]'hkg)=gk at *
   generalize hbb:bl[k]=bk at *
   have mV:=hid hbb
   clear hbb
   go_wp2
   generalize wr=WB at *
   clear ck k0 k5
   go_loopw [26] (fun i wr2=>∃ (j:Nat) (rV:Value),j<=ys.length/\i = .int .i64 j/\vQ WB bk gk v2 v3 v4 0 0 (((ys.take j).map (Ln.meaning os k)).flatMap (xM bl)) j rV wr2) (fun i _=>ys.length - (intOf i).toNat)
   case atStart=>exact ⟨0,_,Nat.zero_le _,rfl,M0.o⟩
   case round =>
    obtain ⟨j,rV,hj,rfl,hme⟩:=hrel
    have HM:=hid hme
    clear hme M0
    obtain ⟨av,cv,rfl⟩:=yh HM.o.row
    have LJ:((ys.take j).map (Ln.meaning os k)).length=j:=by rw [pX,List.length_take]; omega
    obtain ⟨Oz,OA⟩:=PI.o ((ys.take j).map (Ln.meaning os k)) _ wr (by rw [LJ]; exact HM.o)
    by_cases hlt2:j < ys.length
    ·obtain ⟨sg2,zn,hgs,hcs⟩:=PS.o wr HM.o.gr (by omega)
     subst zn
     obtain ⟨q0,q1,q2,q3⟩:=hcs j hlt2
     clear hcs
     have g2:(j:Int) < (ys.length:Int):=by omega
     have TK:=hid (show (((ys.take (j+1)).map (Ln.meaning os k)).flatMap (xM bl))=(((ys.take j).map (Ln.meaning os k)).flatMap (xM bl)) ++ xM bl (Ln.meaning os k ys[j]) by
      rw [List.take_succ_eq_append_getElem hlt2,List.map_append,List.flatMap_append]
      simp)
     generalize ys[j]=y at *
     generalize hsl:((ys.take j).map (Ln.meaning os k)).flatMap (xM bl)=sl at *
     have GA:=hid (aH wr (.cells #[.string (bs y.name),.int .i64 y.bind,.int .i64 y.ah,.int .i64 y.off] 100) none)
     have cM:=hid (ylj P (some ⟨sg,off,none⟩) cm bl os k hlt y _ (yd Oz GA.o) (OA.kept GA.o))
     rw [mV.o] at cM
     have Gt:=hid (HM.o.kept GA.o)
     clear Oz OA hsl
     unfold pG at cM
     go_wp2_with fail
     refine cM.o.mono ?_
     rintro e W5 ⟨rfl,h5⟩
     have Dr:=hid (Gt.o.kept h5)
     clear h5 cM q0 q1 q2 q3
     unfold nI
     generalize Ln.meaning os k y=N at *
     obtain ⟨nm,ns,nof⟩:=N
     have X5:=hid (show (((ys.take (j+1)).map (Ln.meaning os k)).flatMap (xM bl))=sl ++ [.pointer (lZ bl nm),.int .i64 ns,.int .i64 nof] from TK.o)
     clear TK
     dsimp only
     generalize hq:lZ bl nm=q at *
     clear hq
     have A6:=aH W5 (.cells #[.pointer q,.int .i64 ns,.int .i64 nof] 123) none
     have B6:=hid (yc.new W5 #[.pointer q,.int .i64 ns,.int .i64 nof] 123)
     have tN:=hid (Dr.o.kept A6)
     have XW:=hid (show ∀ b,Value.ownBlock (.slice av j cv)=some b->b≠W5.heap.size from fun b e c=>by
      have:=(Dr.o.row.lt b e).2
      omega)
     clear A6 Dr
     go_wp2
     generalize W5.alloc (.cells #[.pointer q,.int .i64 ns,.int .i64 nof] 123)=W6 at *
     generalize W5.heap.size=L at *
     have s0:W6.cell? ⟨L,0,none⟩=some (.pointer q):=B6.o.cell 0
     have s1:W6.cell? ⟨L,1,none⟩=some (.int .i64 ns):=B6.o.cell 1
     have s2:W6.cell? ⟨L,2,none⟩=some (.int .i64 nof):=B6.o.cell 2
     have m1:W6.cell? ⟨bk,1,none⟩=some (.slice av j cv):=tN.o.blk.cell 1
     have A7:=yi (aH W6 (.cells #[.pointer q,.int .i64 ns,.int .i64 nof] 123) none)
     have B7:=hid (B6.o.grown A7 (by simp))
     have jA:=hid (tN.o.kept A7)
     have hA:=hid jA.o.row
     have n1:(W6.alloc (.cells #[.pointer q,.int .i64 ns,.int .i64 nof] 123)).drew.cell? ⟨bk,1,none⟩=some (.slice av j cv):=jA.o.blk.cell 1
     have hN:Hd (∀ j u,[Value.pointer q,.int .i64 ns,.int .i64 nof][j]?=some u->(W6.alloc (.cells #[.pointer q,.int .i64 ns,.int .i64 nof] 123)).drew.cell? ((⟨W6.heap.size,0,none⟩:Addr).add j)=some u):=World.news_of_block (heap_alloc_new W6 (.cells #[.pointer q,.int .i64 ns,.int .i64 nof] 123))
     have gQ:Hd (∀ u∈[Value.pointer q,.int .i64 ns,.int .i64 nof],u.oneCell'=true):=by intro u hu; simp at hu; rcases hu with rfl | rfl | rfl <;> rfl
     have h63:Hd (j+1<=maxLen):=by show _<=_; unfold maxLen; omega
     have hby:Hd ((j+1) * 24<=140737488355328):=by show _<=_; omega
     have hbs:Hd (WB.heap.size<=(W6.alloc (.cells #[.pointer q,.int .i64 ns,.int .i64 nof] 123)).drew.heap.size):=jA.o.gr.size
     have SA:Hd ((W6.alloc (.cells #[.pointer q,.int .i64 ns,.int .i64 nof] 123)).drew.cell? ⟨L,0,none⟩=some (.pointer q)/\(W6.alloc (.cells #[.pointer q,.int .i64 ns,.int .i64 nof] 123)).drew.cell? ⟨L,1,none⟩=some (.int .i64 ns)/\(W6.alloc (.cells #[.pointer q,.int .i64 ns,.int .i64 nof] 123)).drew.cell? ⟨L,2,none⟩=some (.int .i64 nof)):=⟨B7.o.cell 0,B7.o.cell 1,B7.o.cell 2⟩
     have STEP:=hid (fun (v':Value) (w3:World) (hown':w3.ownsRow WB.heap.size 123 3 v' (j+1) (sl ++ [.pointer q,.int .i64 ns,.int .i64 nof])) (hg:(W6.alloc (.cells #[.pointer q,.int .i64 ns,.int .i64 nof] 123)).drew.grownBy w3 (Value.ownBlock (.slice av j cv)))=>show vQ WB bk gk v2 v3 v4 0 0 (sl ++ [.pointer q,.int .i64 ns,.int .i64 nof]) (j+1) v' (w3.setCell ⟨bk,1,none⟩ v')/\yc w3 L #[.pointer q,.int .i64 ns,.int .i64 nof] 123/\yc (w3.setCell ⟨bk,1,none⟩ v') L #[.pointer q,.int .i64 ns,.int .i64 nof] 123/\w3.cell? ⟨bk,1,none⟩=some (.slice av j cv)/\w3.frozen? ⟨bk,1,none⟩=false by
      have st:=jA.o.step hown' hg
      have b3:=yK jA.o.blk hg (bI.own jA.o.row) (by decide)
      have l3:=B7.o.grown hg (fun e=>XW.o L e.symm rfl)
      exact ⟨st,l3,yK l3 (yf w3 bk 1 v') (bI.blk b3) (by decide),b3.cell 1,b3.free 1⟩)
     clear A7 B7 jA tN B6
     refine wp_region_held_drew (S:=(fun w'=>w'.cell? ⟨L,0,none⟩=some (.pointer q)/\w'.cell? ⟨L,1,none⟩=some (.int .i64 ns)/\w'.cell? ⟨L,2,none⟩=some (.int .i64 nof))) (by kernel_rfl) ⟨s0,s1,s2⟩ ?_
     intro hS
     refine wpAnyH_take (i:=0) (v:=?_) rfl (by kernel_rfl) (by kernel_rfl) (by kernel_rfl) (fun _ _ _ h=>h) (Or.inl ⟨by kernel_rfl,?_⟩) hS ?_
     rotate_left
     ·intro w' hw'; obtain ⟨x0,x1,x2⟩:=hw'; go_simp; with_reducible rfl
     refine wpAnyH_take (i:=1) (v:=?_) rfl (by kernel_rfl) (by kernel_rfl) (by kernel_rfl) (fun _ _ _ h=>h) (Or.inl ⟨by kernel_rfl,?_⟩) hS ?_
     rotate_left
     ·intro w' hw'; obtain ⟨x0,x1,x2⟩:=hw'; go_simp; with_reducible rfl
     refine wpAnyH_take (i:=2) (v:=?_) rfl (by kernel_rfl) (by kernel_rfl) (by kernel_rfl) (fun _ _ _ h=>h) (Or.inl ⟨by kernel_rfl,?_⟩) hS ?_
     rotate_left
     ·intro w' hw'; obtain ⟨x0,x1,x2⟩:=hw'; go_simp; with_reducible rfl
     refine wpAnyH_take (i:=3) (v:=?_) rfl (by kernel_rfl) (by kernel_rfl) (by kernel_rfl) (fun _ _ _ h=>h) (Or.inl ⟨by kernel_rfl,?_⟩) hS ?_
     rotate_left
     ·intro w' hw'; obtain ⟨x0,x1,x2⟩:=hw'; go_simp; with_reducible rfl
     refine wpAnyH_take (i:=5) (v:=?_) rfl (by kernel_rfl) (by kernel_rfl) (by kernel_rfl) (fun _ _ _ h=>h) (Or.inl ⟨by kernel_rfl,?_⟩) hS ?_
     rotate_left
     ·intro w' hw'; obtain ⟨x0,x1,x2⟩:=hw'; go_simp; with_reducible rfl
     refine wpAnyH_ready (rs:=[4,6]) (by kernel_rfl) (by simp) ?_
     refine AllReadyH.cons rfl (fun K hK=>?_) (AllReadyH.cons rfl (fun K hK=>?_) AllReadyH.nil)
     go_simp
     refine hK.out _ _ hS (fun hS2=>?_)
     clear hK K
     refine wpAnyH_ready (rs:=[6]) (by kernel_rfl) (by simp) ?_
     rotate_left
     go_simp
     refine hK.out _ _ SA.o (fun hS2=>?_)
     clear hK K
     refine wpAnyH_ready (rs:=[4]) (by kernel_rfl) (by simp) ?_
     all_goals
      refine AllReadyH.cons rfl (fun K hK=>?_) AllReadyH.nil
      go_simp
      refine hK.out _ _ SA.o (fun iP=>?_)
      clear hK K hS2 iP
      refine wpAnyH_ready (rs:=[7]) (by kernel_rfl) (by simp) ?_
      refine AllReadyH.cons rfl (fun K hK=>?_) AllReadyH.nil
      rw [if_pos (by kernel_rfl)]
      refine yZ _ (.tmp 38) (.tmp 40) 127 rfl WB.heap.size 123 i0 (.agg #[.pointer none,.int .i64 0,.int .i64 0]) 3 24 Tryz.underlying127 hi hz0 hz1 hz2 rfl (by decide) (.slice av j cv) j sl (by kernel_rfl) hA.o ⟨W6.heap.size,0,none⟩ 1 1 [.pointer q,.int .i64 ns,.int .i64 nof] (by kernel_rfl) rfl hN.o gQ.o h63.o hby.o hbs.o ?_
      intro v' w3 hown' hgrow _ _
      obtain ⟨mY,cv',rfl⟩:=yh hown'
      obtain ⟨t1,t2,t3,t4,t5⟩:=STEP.o _ _ hown' hgrow
      have T1:=hid t1
      have T3:Hd ((w3.setCell ⟨bk,1,none⟩ (.slice mY (j+1) cv')).cell? ⟨L,0,none⟩=some (.pointer q)/\(w3.setCell ⟨bk,1,none⟩ (.slice mY (j+1) cv')).cell? ⟨L,1,none⟩=some (.int .i64 ns)/\(w3.setCell ⟨bk,1,none⟩ (.slice mY (j+1) cv')).cell? ⟨L,2,none⟩=some (.int .i64 nof)):=⟨t3.cell 0,t3.cell 1,t3.cell 2⟩
      refine hK.out _ _ ⟨t2.cell 0,t2.cell 1,t2.cell 2⟩ (fun iT=>?_)
      clear hK K hown' hgrow t1 t2 t3
      refine wpAnyH_take (i:=8) (v:=?_) rfl (by kernel_rfl) (by kernel_rfl) (by kernel_rfl) (fun _ _ _ h=>h) (Or.inl ⟨by kernel_rfl,?_⟩) iT ?_
      rotate_left
      ·intro w' hw'; obtain ⟨x0,x1,x2⟩:=hw'; go_simp; with_reducible rfl
      refine wpAnyH_take (i:=9) (v:=?_) rfl (by kernel_rfl) (by kernel_rfl) (by kernel_rfl) (fun _ _ _ h=>h) (Or.inl ⟨by kernel_rfl,?_⟩) iT ?_
      rotate_left
      ·intro w' hw'; obtain ⟨x0,x1,x2⟩:=hw'; go_simp; with_reducible rfl
      refine wpAnyH_ready (rs:=[10]) (by kernel_rfl) (by simp) ?_
      refine AllReadyH.cons rfl (fun K hK=>?_) AllReadyH.nil
      go_simp
      refine hK.out _ _ T3.o (fun hS5=>?_)
      clear hK K
      refine wpAnyH_done (by kernel_rfl) ?_ _
      try simp only [qM,oD,nQ,om,fQ,fT,fP]
      clear hA hN gQ h63 hby hbs m1 n1 t4 t5 iT hS5 hS STEP SA T3
      go_wp2
      go_roundw
      case rel=>exact ⟨j+1,_,by omega,by go_num,by rw [X5.o]; exact T1.o⟩
      case measure=>simp [intOf]; omega
    ·obtain rfl:j=ys.length:=by omega
     have g3:decide ((ys.length:Int) < (ys.length:Int))=false:=by simp
     have PA:=hid (PK.o ((ys.take ys.length).map (Ln.meaning os k)) _ wr (by rw [LJ]; exact HM.o))
     have XY:=hid (PB.o wr HM.o.gr)
     rw [List.take_length,FIN.o] at PA
     clear Oz OA LJ
     go_wp2
     go_roundw
     case rel=>exact ⟨k+1,by omega,by go_num,PA.o,XY.o⟩
     case measure=>simp [intOf]; omega
  ·obtain rfl:k=bl.length:=by omega
   have g3:decide ((bl.length:Int) < (bl.length:Int))=false:=by simp
   have hR:=HB.o.lt
   have Rm:=hid (show (Ln.bO os (os.map Ln.bare)).map Ln.Mod.obj=os by
    have B:=OB.o os.length (Nat.le_refl _)
    rwa [List.drop_of_length_le (by simp),List.append_nil,List.take_of_length_le (by rw [RL.o,pX]; exact Nat.le_refl _)] at B)
   obtain ⟨PM,Rq⟩:yU Wf W0 P bt bf bd (.slice am bl.length cm) bl gl (Ln.bO os (os.map Ln.bare)) Ln.none_ 0 wr/\rY wr am bl os:=by
    have A:=HP.o
    have B:=A.iW
    rw [OB.o bl.length (by rw [LO.o]; exact Nat.le_refl _)] at B
    rw [List.drop_of_length_le (by simp [LO.o]),List.append_nil,List.take_of_length_le (by rw [RL.o,pX,LO.o]; exact Nat.le_refl _)] at A
    exact ⟨A,B⟩
   have M9:=hid PM
   have Q9:=hid Rq
   have hcap:=pV PM.row
   clear PM Rq HP RL OB
   have cN:=hid (Pv P am cm bl os Ln.dU wr (M9.o.blk.cell 3) Q9.o)
   have e0:bs Ln.dU=⟨#[95,115,116,97,114,116]⟩:=rfl
   rw [e0] at cN
   unfold nI at cN
   go_wp2_with fail
   refine cN.o.mono ?_
   rintro e W5 ⟨rfl,h5⟩
   have P5:=hid (M9.o.kept h5)
   have B5:=hid (HB.o.grown h5 (by simp))
   clear h5 cN M9 HB Q9
   have PV:=hid (P5.o.spot (st':=Ln.named os Ln.dU))
   have BV:=hid (show yc (((W5.setCell ⟨P,4,none⟩ (.pointer (lZ bl (Ln.named os Ln.dU).mod))).setCell ⟨P,5,none⟩ (.int .i64 (Ln.named os Ln.dU).ah)).setCell ⟨P,6,none⟩ (.int .i64 (Ln.named os Ln.dU).off)) R #[.int .i64 0,.int .i64 0,.string ⟨#[]⟩] 45 from
    yK B5.o (World.grownBy.trans (World.grownBy.trans (yf W5 P 4 _) (yf _ P 5 _)) (yf _ P 6 _)) (bI.blk P5.o.blk) (by decide))
   have p4:W5.cell? ⟨P,4,none⟩=some (.pointer (lZ bl Ln.none_.mod)):=P5.o.blk.cell 4
   have p5:W5.cell? ⟨P,5,none⟩=some (.int .i64 0):=P5.o.blk.cell 5
   have p6:W5.cell? ⟨P,6,none⟩=some (.int .i64 0):=P5.o.blk.cell 6
   have f4:=P5.o.blk.free 4
   have f5:=P5.o.blk.free 5
   have f6:=P5.o.blk.free 6
   have cT:=hid (fun V (hV:yU Wf W0 P bt bf bd (.slice am bl.length cm) bl gl (Ln.bO os (os.map Ln.bare)) (Ln.named os Ln.dU) 0 V)=>Zf P am cm bl os V (hV.blk.cell 3) (by have:=hV.iW; rwa [Rm.o] at this) hcap.1 hcap.2)
   have cW:=hid (fun V (hV:yU Wf W0 P bt bf bd (.slice am bl.length cm) bl gl (Ln.bO os (os.map Ln.bare)) (Ln.named os Ln.dU) 0 V)=>Y7 P am cm bl os V (hV.blk.cell 3) (by have:=hV.iW; rwa [Rm.o] at this))
   generalize ht:Ln.gX os=t at *
   generalize hu:Ln.fH os=u at *
   generalize SF:Ln.named os Ln.dU=N at *
   have IL:=hid ht
   have KN:=hid hu
   have Dt:=hid SF
   clear ht hu SF
   obtain ⟨nm,ns,nof⟩:=N
   dsimp only at *
   generalize hq:lZ bl nm=q at *
   have HQ:=hid hq
   clear hq P5 B5
   unfold fF at cT cW
   go_wp2_with fail
   refine (cT.o _ (by exact PV.o)).mono ?_
   rintro e V2 ⟨rfl,h2⟩
   have P2:=hid (PV.o.kept h2)
   have B2:=hid (BV.o.grown h2 (by simp))
   clear h2 cT PV BV p4 p5 p6 f4 f5 f6
   have AF:=aH V2 (.cells #[.int .i64 t.e,.int .i64 t.at_,.string (bs t.name)] 45) none
   have BL:=hid (yc.new V2 #[.int .i64 t.e,.int .i64 t.at_,.string (bs t.name)] 45)
   have P3:=hid (P2.o.kept AF)
   have B3:=hid (B2.o.grown AF (by simp))
   have SK:R≠V2.heap.size:=by have:=B2.o.lt; omega
   clear AF
   have z0:V2.cell? ⟨R,0,none⟩=some (.int .i64 0):=B2.o.cell 0
   have z1:V2.cell? ⟨R,1,none⟩=some (.int .i64 0):=B2.o.cell 1
   have z2:V2.cell? ⟨R,2,none⟩=some (.string ⟨#[]⟩):=B2.o.cell 2
   have f0:=B2.o.free 0
   have f1:=B2.o.free 1
   have f2:=B2.o.free 2
   have hRV:=B2.o.lt
   have Bt:=hid P2.o.sz
   by_cases he:t.e=0
   case neg =>
    have d1:(t.e == 0)=false:=by simpa using he
    have E:=hid (show Ln.bJ os=t by unfold Ln.bJ; rw [IL.o,if_pos he])
    go_wp2
    have AX:=aH (((V2.setCell ⟨R,0,none⟩ (.int .i64 t.e)).setCell ⟨R,1,none⟩ (.int .i64 t.at_)).setCell ⟨R,2,none⟩ (.string (bs t.name))) (.cells #[.int .i64 t.e,.int .i64 t.at_,.string (bs t.name)] 45) none
    have F:=(((B2.o.set 0 (.int .i64 t.e)).set 1 (.int .i64 t.at_)).set 2 (.string (bs t.name))).grown AX (by simp)
    have GF:=(P2.o.flt B2.o HRW.o (.int .i64 t.e) (.int .i64 t.at_) (.string (bs t.name))).kept AX
    have h0:=F.cell 0
    have h1:=F.cell 1
    have h2:=F.cell 2
    simp only [fQ,fT,fP,bC,bG,bE] at h0 h1 h2
    refine bodyPost_ret (v:=fF t) ?_ rfl ⟨by rw [E.o],by rw [Dt.o]; exact GF⟩
    clear F GF z0 z1 z2 f0 f1 f2 AX
    generalize World.alloc _ _=WF at *
    simp [results,Tryz.results38,go_sem,fF,h0,h1,h2]
   case pos =>
    have d1:(t.e == 0)=true:=by simpa using he
    have HE:=hid he
    clear he z0 z1 z2 f0 f1 f2
    go_wp2_with fail
    refine (cW.o _ P3.o).mono ?_
    rintro e V4 ⟨rfl,h4⟩
    have P4:=hid (P3.o.kept h4)
    have B4:=hid (B3.o.grown h4 (by simp))
    have L4:=hid (BL.o.grown h4 (by simp))
    clear h4 cW P3 P2 B3 B2 BL
    generalize V2.heap.size=FL at *
    have z0:V4.cell? ⟨R,0,none⟩=some (.int .i64 0):=B4.o.cell 0
    have z1:V4.cell? ⟨R,1,none⟩=some (.int .i64 0):=B4.o.cell 1
    have z2:V4.cell? ⟨R,2,none⟩=some (.string ⟨#[]⟩):=B4.o.cell 2
    have f0:=B4.o.free 0
    have f1:=B4.o.free 1
    have f2:=B4.o.free 2
    have y0:V4.cell? ⟨FL,0,none⟩=some (.int .i64 t.e):=L4.o.cell 0
    have y1:V4.cell? ⟨FL,1,none⟩=some (.int .i64 t.at_):=L4.o.cell 1
    have y2:V4.cell? ⟨FL,2,none⟩=some (.string (bs t.name)):=L4.o.cell 2
    have e0:=L4.o.free 0
    have e1:=L4.o.free 1
    have e2:=L4.o.free 2
    have p5:V4.cell? ⟨P,5,none⟩=some (.int .i64 ns):=P4.o.blk.cell 5
    have hPF:P≠FL:=fun c=>by
     have:=L4.o
     rw [<- c] at this
     have:=this.symm.trans P4.o.blk
     simp at this
    have p7:=(P4.o).flt (L4.o) Bt.o (.int .i64 u.e) (.int .i64 u.at_) (.string (bs u.name))
    have b7:=Mg (B4.o) SK (.int .i64 u.e) (.int .i64 u.at_) (.string (bs u.name))
    have l7:yc (((V4.setCell ⟨FL,0,none⟩ (.int .i64 u.e)).setCell ⟨FL,1,none⟩ (.int .i64 u.at_)).setCell ⟨FL,2,none⟩ (.string (bs u.name))) FL #[.int .i64 u.e,.int .i64 u.at_,.string (bs u.name)] 45:=by simpa using ((L4.o.set 0 (.int .i64 u.e)).set 1 (.int .i64 u.at_)).set 2 (.string (bs u.name))
    have P7:=hid p7
    have B7:=hid b7
    have L7:=hid l7
    clear p7 b7 l7 P4 B4 L4
    go_upto_region 15 with fail
    clear p5 y0 y1 y2 z0 z1 z2 e0 e1 e2 f0 f1 f2
    generalize ((V4.setCell ⟨FL,0,none⟩ (.int .i64 u.e)).setCell ⟨FL,1,none⟩ (.int .i64 u.at_)).setCell ⟨FL,2,none⟩ (.string (bs u.name))=V5 at *
    have z0:V5.cell? ⟨R,0,none⟩=some (.int .i64 0):=B7.o.cell 0
    have z1:V5.cell? ⟨R,1,none⟩=some (.int .i64 0):=B7.o.cell 1
    have z2:V5.cell? ⟨R,2,none⟩=some (.string ⟨#[]⟩):=B7.o.cell 2
    have f0:=B7.o.free 0
    have f1:=B7.o.free 1
    have f2:=B7.o.free 2
    have y0:V5.cell? ⟨FL,0,none⟩=some (.int .i64 u.e):=L7.o.cell 0
    have y1:V5.cell? ⟨FL,1,none⟩=some (.int .i64 u.at_):=L7.o.cell 1
    have y2:V5.cell? ⟨FL,2,none⟩=some (.string (bs u.name)):=L7.o.cell 2
    have p5:V5.cell? ⟨P,5,none⟩=some (.int .i64 ns):=P7.o.blk.cell 5
    by_cases hue:u.e=0
    case neg =>
     have d2:(u.e == 0)=false:=by simpa using hue
     have E:=hid (show Ln.bJ os=u by unfold Ln.bJ; rw [IL.o,KN.o,if_neg (by simpa using HE.o),if_pos hue])
     clear hue
     go_wp2
     have GF:=P7.o.flt B7.o HRW.o (.int .i64 u.e) (.int .i64 u.at_) (.string (bs u.name))
     have F:=((B7.o.set 0 (.int .i64 u.e)).set 1 (.int .i64 u.at_)).set 2 (.string (bs u.name))
     have h0:=F.cell 0
     have h1:=F.cell 1
     have h2:=F.cell 2
     simp only [fQ,fT,fP,bC,bG,bE] at h0 h1 h2
     refine bodyPost_ret (v:=fF u) ?_ rfl ⟨by rw [E.o],by rw [Dt.o]; exact GF⟩
     clear F GF z0 z1 z2 f0 f1 f2 y0 y1 y2
     generalize World.setCell _ _ _=WF at *
     simp [results,Tryz.results38,go_sem,fF,h0,h1,h2]
    case pos =>
     have d2:(u.e == 0)=true:=by simpa using hue
     have HU:=hid hue
     clear hue
     by_cases n1:ns=1
     ·subst n1
      have E:=hid (show Ln.bJ os=u by unfold Ln.bJ; rw [IL.o,KN.o,Dt.o,if_neg (by simpa using HE.o),if_neg (by simpa using HU.o),if_neg (by simp)])
      go_wp2
      have GF:=P7.o.flt B7.o HRW.o (.int .i64 u.e) (.int .i64 u.at_) (.string (bs u.name))
      have F:=((B7.o.set 0 (.int .i64 u.e)).set 1 (.int .i64 u.at_)).set 2 (.string (bs u.name))
      have h0:=F.cell 0
      have h1:=F.cell 1
      have h2:=F.cell 2
      simp only [fQ,fT,fP,bC,bG,bE] at h0 h1 h2
      refine bodyPost_ret (v:=fF u) ?_ rfl ⟨by rw [E.o],by rw [Dt.o]; exact GF⟩
      clear F GF z0 z1 z2 f0 f1 f2 y0 y1 y2
      generalize World.setCell _ _ _=WF at *
      simp [results,Tryz.results38,go_sem,fF,h0,h1,h2]
     by_cases n2:ns=2
     ·subst n2
      have E:=hid (show Ln.bJ os=u by unfold Ln.bJ; rw [IL.o,KN.o,Dt.o,if_neg (by simpa using HE.o),if_neg (by simpa using HU.o),if_neg (by simp)])
      go_wp2
      have GF:=P7.o.flt B7.o HRW.o (.int .i64 u.e) (.int .i64 u.at_) (.string (bs u.name))
      have F:=((B7.o.set 0 (.int .i64 u.e)).set 1 (.int .i64 u.at_)).set 2 (.string (bs u.name))
      have h0:=F.cell 0
      have h1:=F.cell 1
      have h2:=F.cell 2
      simp only [fQ,fT,fP,bC,bG,bE] at h0 h1 h2
      refine bodyPost_ret (v:=fF u) ?_ rfl ⟨by rw [E.o],by rw [Dt.o]; exact GF⟩
      clear F GF z0 z1 z2 f0 f1 f2 y0 y1 y2
      generalize World.setCell _ _ _=WF at *
      simp [results,Tryz.results38,go_sem,fF,h0,h1,h2]
     have d3:(ns == 1)=false:=by simpa using n1
     have d4:(ns == 2)=false:=by simpa using n2
     have d5:(ns != 1)=true:=by simpa using n1
     have d6:(ns != 2)=true:=by simpa using n2
     have E:=hid (show Ln.bJ os=⟨35,0,[]⟩ by unfold Ln.bJ; rw [IL.o,KN.o,Dt.o,if_neg (by simpa using HE.o),if_neg (by simpa using HU.o),if_pos ⟨n1,n2⟩])
     have p8:=P7.o.flt L7.o Bt.o (.int .i64 35) (.int .i64 0) (.string ⟨#[]⟩)
     have b8:=Mg B7.o SK (.int .i64 35) (.int .i64 0) (.string ⟨#[]⟩)
     have l8:yc (((V5.setCell ⟨FL,0,none⟩ (.int .i64 35)).setCell ⟨FL,1,none⟩ (.int .i64 0)).setCell ⟨FL,2,none⟩ (.string ⟨#[]⟩)) FL #[.int .i64 35,.int .i64 0,.string ⟨#[]⟩] 45:=by simpa using ((L7.o.set 0 (.int .i64 35)).set 1 (.int .i64 0)).set 2 (.string ⟨#[]⟩)
     have e0:=L7.o.free 0
     have e1:=L7.o.free 1
     have e2:=L7.o.free 2
     have P8:=hid p8
     have B8:=hid b8
     have L8:=hid l8
     clear n1 n2 p8 b8 l8
     go_upto_region 17 with fail
     clear p5 y0 y1 y2 z0 z1 z2 e0 e1 e2 f0 f1 f2
     generalize ((V5.setCell ⟨FL,0,none⟩ (.int .i64 35)).setCell ⟨FL,1,none⟩ (.int .i64 0)).setCell ⟨FL,2,none⟩ (.string ⟨#[]⟩)=V6 at *
     have z0:V6.cell? ⟨R,0,none⟩=some (.int .i64 0):=B8.o.cell 0
     have z1:V6.cell? ⟨R,1,none⟩=some (.int .i64 0):=B8.o.cell 1
     have z2:V6.cell? ⟨R,2,none⟩=some (.string ⟨#[]⟩):=B8.o.cell 2
     have f0:=B8.o.free 0
     have f1:=B8.o.free 1
     have f2:=B8.o.free 2
     have y0:V6.cell? ⟨FL,0,none⟩=some (.int .i64 35):=L8.o.cell 0
     have y1:V6.cell? ⟨FL,1,none⟩=some (.int .i64 0):=L8.o.cell 1
     have y2:V6.cell? ⟨FL,2,none⟩=some (.string ⟨#[]⟩):=L8.o.cell 2
     go_wp2
     have GF:=P8.o.flt B8.o HRW.o (.int .i64 35) (.int .i64 0) (.string ⟨#[]⟩)
     have F:=((B8.o.set 0 (.int .i64 35)).set 1 (.int .i64 0)).set 2 (.string ⟨#[]⟩)
     have h0:=F.cell 0
     have h1:=F.cell 1
     have h2:=F.cell 2
     simp only [fQ,fT,fP,bC,bG,bE] at h0 h1 h2
     refine bodyPost_ret (v:=fF ⟨35,0,[]⟩) ?_ rfl ⟨by rw [E.o],by rw [Dt.o]; exact GF⟩
     clear F GF z0 z1 z2 f0 f1 f2 y0 y1 y2
     generalize World.setCell _ _ _=WF at *
     simp [results,Tryz.results38,go_sem,fF,bs,h0,h1,h2]
end Go.Proofs.YtpgklkhgfcjceaaGreatDoor
