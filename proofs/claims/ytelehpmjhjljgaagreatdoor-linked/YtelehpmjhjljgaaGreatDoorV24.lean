
import Derived.Test.YtelehpmjhjljgaaGreatDoorV23
import Derived.Deep.CutBlock
set_option maxHeartbeats 16000000
set_option maxRecDepth 100000
namespace Go.Proofs.YtelehpmjhjljgaaGreatDoor
open Go.RowKit
theorem yjH {P:Program} (w:World) {o:Oper} {a:Act} {K:Act->World->Prop} {Q:Exit->Act->World->Prop} (l c:Operand) (t:TypeId) (hop:o.op=Op.makeSlice t l c)
  (base:Nat) (e:TypeId) (i:TypeInfo) (z:Value) (size:Nat) (h1:P.underlying t=some (.slice e)) (h2:P.info? e=some i) (h3:i.zero=some z) (h4:i.size=size)
  (kl kc:IntKind) (L C:Int) (n:Nat) (hl:a.eval l = .int kl L) (hc:a.eval c = .int kc C) (hL:L=(n:Int)) (hC:C=(n:Int)) (b2:i.bytes * n<=281474976710656) (b3:n<=maxLen) (b4:base<=w.heap.size)
  (hK:∀ w',w'.ownsRow base e size (.slice (some ⟨w.heap.size,0,none⟩) n n) n (madeCells z.cells (n * size)).toList->w.grownBy w' none->K (a.put o.dst (.slice (some ⟨w.heap.size,0,none⟩) n n)) w'):o.wp P a w K Q:=by
 obtain ⟨w',hrun,r1,r2⟩:=run_make_full (P:=P) w base t e i z size h1 h2 h3 h4 kl kc n b2 b3 b4;subst hL;subst hC;unfold Oper.wp;simp [execOp,hop,hl,hc,hrun,Result.andThen];exact hK w' r1 r2
theorem ylv:(madeCells (Value.int .i64 0).cells (5 * 1)).toList.toArray=(([0,0,0,0,0]:List Int).map (Value.int .i64)).toArray:=by
 rw [show 5 * 1=5 from rfl];show (madeCells #[Value.int .i64 0] 5).toList.toArray=_;rw [toList_madeCells_one];rfl
theorem ylw:(madeCells (Value.slice none 0 0).cells (5 * 1)).toList.toArray.size=5:=by
 rw [List.size_toArray,Array.length_toList,size_madeCells]
theorem QO (m:Ln.Mod) (ah:Int):∀ (ws:List Int) (i:Nat) (a:Int),(Ln.aA m ah i ws a).length=ws.length+1:=by
 intro ws
 induction ws with
 | nil=>intro i a; rfl
 | cons x ws ih=>intro i a; rw [Ln.aA,gL,ih,gL]
structure vO (W:World) (ao:Option Addr) (n:Nat) (ms:List Ln.Mod):Prop where
 row:0 < n->∃ g off,ao=some ⟨g,off,none⟩/\∀ i (h:i < ms.length),∃ ab cb sl,W.cell? ⟨g,off+i,none⟩=some (.slice ab sl.length cb)/\Kv W ab sl/\Zi ms[i] sl
 len:n=ms.length
theorem vO.kept {W W':World} {ao:Option Addr} {n:Nat} {ms:List Ln.Mod} (h:vO W ao n ms) (hg:W.grownBy W' none):vO W' ao n ms:=by
 refine ⟨fun hp=>?_,h.len⟩;obtain ⟨g,off,e,hc⟩:=h.row hp;refine ⟨g,off,e,fun i hi=>?_⟩;obtain ⟨ab,cb,sl,q1,q2,q3⟩:=hc i hi;exact ⟨ab,cb,sl,yc q1 hg,q2.kept hg,q3⟩
theorem Yo (ao:Option Addr) (cap:Nat) (gl:List Nat) (ms:List Ln.Mod) (bt bf bd:Int) (lF:Option Addr) (pF:Nat) (w:World) (h:qx w ao gl (ms.map Ln.Mod.obj)) (hsh:vO w lF gl.length ms) (ht:0<=bt/\bt<=1073741824) (hf:0<=bf/\bf<=1073741824) (hd:0<=bd/\bd<=1073741824) :
  Calls Tryz.prog 14 #[.slice ao gl.length cap,.agg #[.int .i64 bt,.int .i64 bf,.int .i64 bd],.slice lF gl.length pF] w fun e w'=>∃ va L E bl,e = .returned (.agg #[va,.slice (some ⟨E,0,none⟩) 5 5])/\bl.length=ms.length /\
   jL w L E va bl [0,Dl.ends bt bf bd ms 1,Dl.ends bt bf bd ms 2,Dl.ends bt bf bd ms 3,Dl.ends bt bf bd ms 4] (fun _ s=>1<=s/\s<=4) (Dl.tab bt bf bd ms) w':=by
 obtain ⟨i0,hi0,hz0,hz1,hz2⟩:=info_parts Tryz.fP;obtain ⟨i1,hi1,hy0,hy1,hy2⟩:=info_parts Tryz.zQ;obtain ⟨i2,hi2,hx0,hx1,hx2⟩:=info_parts Tryz.wQ;have H:=hid h;have Fx:=hid hsh;have hgl:gl.length<=48:=by rw [h.len]; exact h.few
 have hml:gl.length=ms.length:=by rw [h.len,jc]
 have A8:=hid hml;clear h hsh hml;generalize hT:Dl.tab bt bf bd ms=T at *;have HT:=hid hT;clear hT;go_enter Tryz.func14,Tryz.ntmps14;have hsz1:(w.alloc (.cells #[.int .i64 bt,.int .i64 bf,.int .i64 bd] 27)).heap.size=w.heap.size+1:=Array.size_push _;have GA:=hid (ya (aH w (.cells #[.int .i64 bt,.int .i64 bf,.int .i64 bd] 27) none) (aH _ (.cells #[.slice none 0 0,.slice none 0 0] 45) none));have BB:=hid ((ye.new w #[.int .i64 bt,.int .i64 bf,.int .i64 bd] 27).grown (aH _ (.cells #[.slice none 0 0,.slice none 0 0] 45) none) (by simp));have BR:=hid (ye.new (w.alloc (.cells #[.int .i64 bt,.int .i64 bf,.int .i64 bd] 27)) #[.slice none 0 0,.slice none 0 0] 45)
 rw [hsz1] at BR;clear hsz1
 go_upto_region 1 with fail
 generalize (w.alloc (.cells #[.int .i64 bt,.int .i64 bf,.int .i64 bd] 27)).alloc (.cells #[.slice none 0 0,.slice none 0 0] 45)=Wa at *;have hRl:=BR.o.lt;have hwR:w.heap.size < w.heap.size+1:=by omega
 generalize w.heap.size+1=R at *;have GB:=hid (aH Wa (.cells #[.slice none 0 0,.slice none 0 0] 45) none);have BL:=hid (ye.new Wa #[.slice none 0 0,.slice none 0 0] 45);have G1:=hid (ya GA.o GB.o);have Gv:=hid (BB.o.grown GB.o (by simp));have GJ:=hid (BR.o.grown GB.o (by simp))
 go_upto_region 2 with fail
 generalize Wa.alloc (.cells #[.slice none 0 0,.slice none 0 0] 45)=Wb at *;have hLw:=GA.o.size;have hLb:=BL.o.lt;generalize Wa.heap.size=L at *;clear GA GB BB BR;have ML:=hid (fun (V:World) (hg:Wb.grownBy V none)=>show ye V L #[.slice none 0 0,.slice none 0 0] 45 from BL.o.grown hg (by simp))
 go_upto_region 3 with (at_make; refine wpList_make_full _ rfl _ _ 35 rfl Wb.heap.size 3 i0 (.int .i64 0) 1 Tryz.underlying35 hi0 hz0 hz1 .i64 .i64 _ _ 5 rfl rfl rfl rfl (by rw [hz2]; omega) (by unfold maxLen; omega) (Nat.le_refl _) ?_; intro w2 hown2 hg2; have OE:=hid (M7 hown2); have G2:=hid hg2; have l0:=(ML.o w2 hg2).cell 0; have l1:=(ML.o w2 hg2).cell 1; have f1:=(ML.o w2 hg2).free 1; simp only [dH,dL,dK] at l0 l1; clear hown2 hg2)
 have E5:∃ E,E=Wb.heap.size:=⟨_,rfl⟩
 obtain ⟨E,hE⟩:=E5;rw [<- hE];rw [<- hE] at OE;have hEL:L≠E:=by omega
 have LH:R≠L:=by omega
 have hEw:w.heap.size<=E:=by omega
 have LS:=hid (show jL w L E (.slice none 0 0) [] [0,0,0,0,0] (fun _ _=>False) T (w2.setCell ⟨L,1,none⟩ (.slice (some ⟨E,0,none⟩) 5 5)) from
  ⟨by simpa using (ML.o w2 G2.o).set 1 (.slice (some ⟨E,0,none⟩) 5 5),ye.grown (show ye w2 E (([0,0,0,0,0]:List Int).map (Value.int .i64)).toArray 3 by rw [<- ylv]; exact OE.o) (yi w2 L 1 _) (by simpa using fun c=>hEL c.symm),World.ownsRow_nil _ _ _ _,fun i hi=>by simp at hi,by simp,fun b hb=>by simp at hb,hLw,hEw,yD (ya G1.o G2.o) (yi w2 L 1 _) (by intro b hb; simp at hb; omega)⟩)
 have kU:=hid ((GJ.o.grown G2.o (by simp)).grown (yi w2 L 1 (.slice (some ⟨E,0,none⟩) 5 5)) (by simpa using LH));have tu:=hid ((Gv.o.grown G2.o (by simp)).grown (yi w2 L 1 (.slice (some ⟨E,0,none⟩) 5 5)) (by simp; omega));clear ML OE G2 l0 l1 f1 BL Gv GJ hE;generalize w2.setCell ⟨L,1,none⟩ (.slice (some ⟨E,0,none⟩) 5 5)=Wc at *;go_wp2
 go_loopw [8] (fun i wr=>∃ (k:Nat) (bl:List Nat) (va:Value),k<=gl.length/\i = .int .i64 k/\bl.length=k/\jL w L E va bl [0,0,0,0,0] (fun _ _=>False) T wr/\ye wr R #[.slice none 0 0,.slice none 0 0] 45/\ye wr w.heap.size #[.int .i64 bt,.int .i64 bf,.int .i64 bd] 27) (fun i _=>gl.length - (intOf i).toNat)
 case atStart=>exact ⟨0,[],_,Nat.zero_le _,rfl,rfl,LS.o,kU.o,tu.o⟩
 case round =>
  clear LS kU tu;obtain ⟨k,bl,va,hk,rfl,hbl,hla,hbr,hbb⟩:=hrel;have LA:=hid hla;have BR:=hid hbr;have BB:=hid hbb;have Ag:=hid hbl;obtain ⟨av,cv,rfl⟩:=yj hla.row;have hblk:bl.length<=48:=by omega
  clear hla hbr hbb hbl;by_cases hlt:k < gl.length
  ·have g1:(k:Int) < (gl.length:Int):=by omega
   have l0:=LA.o.blk.cell 0;simp only [dH,dK] at l0;have hsw:=LA.o.gr.size
   go_upto_region 6 with fail
   refine wp_region_held_drew (S:=(fun w'=>w'.cell? ⟨L,0,none⟩=some (.slice av bl.length cv))) (by kernel_rfl) l0 ?_;intro hS
   iterate 2
    refine yU (v:=?_) rfl (by kernel_rfl) (fun _ _ _ h=>h) hS ?_ ?_
    rotate_left
    ·intro w' hw'; have x0:w'.cell? ⟨L,0,none⟩=some (.slice av bl.length cv):=hw'; go_simp; with_reducible rfl
   refine wpAnyH_ready (rs:=[2]) (by kernel_rfl) (by simp) ?_;refine AllReadyH.cons rfl (fun K hK=>?_) AllReadyH.nil;rw [if_pos (by kernel_rfl)];refine yjH _ _ _ 86 rfl w.heap.size 35 i1 (.slice none 0 0) 1 Tryz.underlying86 hi1 hy0 hy1 .i64 .i64 _ _ 5 rfl rfl rfl rfl (by rw [hy2]; omega) (by unfold maxLen; omega) hsw ?_;intro V1 hown1 hg1;have hd1:wr.grownBy V1 none:=ya (yf (World.grownBy.refl _ _)) hg1;have FE:=hid (LA.o.kept hd1);have BX:=hid (M7 hown1);have hX1:=BX.o.lt;have GJ:=hid (BR.o.grown hd1 (by simp));have Gv:=hid (BB.o.grown hd1 (by simp));have Qh:=yc l0 hd1;have hwX:w.heap.size<=wr.drew.heap.size:=hsw
   have Ei:=hid (fun b (hb:b∈bl)=>show b≠wr.drew.heap.size from fun c=>by have:=(LA.o.lo b hb).2; rw [c] at this; exact absurd this (Nat.lt_irrefl _));clear hown1 hg1 hd1;generalize wr.drew.heap.size=X at *;refine hK.out _ _ Qh (fun hS2=>?_);clear hK K hS2;refine wpAnyH_ready (rs:=[3]) (by kernel_rfl) (by simp) ?_;refine AllReadyH.cons rfl (fun K hK=>?_) AllReadyH.nil;go_simp;have vU:=aH V1 (.cells #[pQ X] 86) none;have A9:=hid (FE.o.kept vU);have qW:=hid (BX.o.grown vU (by simp));have kU:=hid (GJ.o.grown vU (by simp));have tu:=hid (Gv.o.grown vU (by simp));have Qi:=yc Qh vU;have hN:Hd (∀ j u,([pQ X]:List Value)[j]?=some u->(V1.alloc (.cells #[pQ X] 86)).cell? ((⟨V1.heap.size,0,none⟩:Addr).add j)=some u):=C9 _ _ _
   have Qd:=A9.o.gr.size;unfold pQ at hN;refine hK.out _ _ Qi (fun hS2=>?_);clear hK K hS2 vU FE BX GJ Gv LA BR BB l0 Qh;refine wpAnyH_ready (rs:=[4]) (by kernel_rfl) (by simp) ?_;refine AllReadyH.cons rfl (fun K hK=>?_) AllReadyH.nil;rw [if_pos (by kernel_rfl)];refine EK _ (.tmp 24) (.tmp 26) 43 rfl w.heap.size 86 i2 (.slice none 0 0) 1 24 Tryz.underlying43 hi2 hx0 hx1 hx2 rfl (by decide) (.slice av bl.length cv) bl.length (bl.map pQ) (by kernel_rfl) A9.o.row ⟨V1.heap.size,0,none⟩ 1 1 [.slice (some ⟨X,0,none⟩) 5 5] (by kernel_rfl) rfl hN.o (by intro u hu; simp at hu; rcases hu with rfl; rfl) (by unfold maxLen; omega) (by omega) Qd ?_
   intro v' w3 hown' hgrow _ hat
   have RT:=aW.own A9.o.row;have LA3:=hid (A9.o.more qW.o ylw hwX Ei.o hgrow hown');have Nt:=yy A9.o.blk hgrow RT (by decide);have fF:=hid (yy kU.o hgrow RT (by decide));have vT:=hid (yy tu.o hgrow RT (by decide));have l3:=Nt.cell 0;have f3:=Nt.free 0;simp only [dH,dK] at l3;obtain ⟨jN,cv',rfl⟩:=yj hown';refine hK.out _ _ l3 (fun hS2=>?_);clear hK K hat hgrow hown' RT Nt A9 qW kU tu;refine yU (v:=?_) rfl (by kernel_rfl) (fun _ _ _ h=>h) hS2 ?_ ?_
   rotate_left
   ·intro w' hw'; go_simp; with_reducible rfl
   refine wpAnyH_done (by kernel_rfl) ?_ _;have bZ:=hid (fF.o.grown (yi w3 L 0 (.slice jN (bl.length+1) cv')) (by simpa using LH));have Ck:=hid (vT.o.grown (yi w3 L 0 (.slice jN (bl.length+1) cv')) (by simp; omega));go_wp2
   go_roundw
   case rel=>exact ⟨k+1,bl ++ [X],_,by omega,by go_num,by rw [fE,o7,Ag.o],LA3.o,bZ.o,Ck.o⟩
   case measure=>simp [intOf]; omega
  ·obtain rfl:k=gl.length:=by omega
   have g3:decide ((gl.length:Int) < (gl.length:Int))=false:=by simp
   have Vf:=hid (fun i (hi:i < ms.length)=>show yp ms[i].obj from H.o.val _ (List.mem_map.2 ⟨ms[i],dM hi,rfl⟩));have E3:=hid (show bd<=Dl.aR 3 ms bd/\Dl.aR 3 ms bd<=bd+4832 * 48 by
    have hl:=A8.o
    have:=Dl.iC 3 (by omega) (by omega) ms bd (fun m hm=>by obtain ⟨i,hi,rfl⟩:=List.getElem_of_mem hm; exact Vf.o i hi) hd.1 (by omega)
    omega)
   have FR:=hid (fun (s:Nat)=>show 0<=Dl.bN bt bf bd ms s/\Dl.bN bt bf bd ms s<=1074741824 by
    have:=E3.o
    unfold Dl.bN;split
    ·omega
    ·split
     ·omega
     ·split <;> omega)
   have Uu:=hid (LA.o.mono (D':=fun i b=>1<=b/\b < 1) (fun a b _ h=>by omega));generalize VH:(fun s:Nat=>([0,if 1 < s then Dl.ends bt bf bd ms 1 else 0,if 2 < s then Dl.ends bt bf bd ms 2 else 0,if 3 < s then Dl.ends bt bf bd ms 3 else 0,if 4 < s then Dl.ends bt bf bd ms 4 else 0]:List Int))=ES at *;have KU:=hid VH;clear VH LA;go_wp2
   go_loopw [10,11] (fun av i wr=>∃ (s:Nat) (c:Int) (va:Value),1<=s/\s<=5/\i = .int .i64 s/\av = .int .i64 c/\(s=4->c=Dl.bN bt bf bd ms 4)/\jL w L E va bl (ES s) (fun i b=>1<=b/\b < s) T wr/\ye wr R #[.slice none 0 0,.slice none 0 0] 45/\ye wr w.heap.size #[.int .i64 bt,.int .i64 bf,.int .i64 bd] 27) (fun _ i _=>5 - (intOf i).toNat)
   case atStart=>exact ⟨1,0,_,by omega,by omega,rfl,rfl,fun c=>by omega,by rw [<- KU.o]; exact Uu.o,BR.o,BB.o⟩
   case round =>
    clear Uu BR BB;obtain ⟨s,c,va,hs1,hs5,rfl,rfl,hs4,hla,hbr,hbb⟩:=hrel;have LA:=hid hla;have BR:=hid hbr;have BB:=hid hbb;have Ud:=hid hs4;obtain ⟨av,cv,rfl⟩:=yj hla.row;clear hla hbr hbb hs4;have bb0:wr.cell? ⟨w.heap.size,0,none⟩=some (.int .i64 bt):=BB.o.cell 0;have bb1:wr.cell? ⟨w.heap.size,1,none⟩=some (.int .i64 bf):=BB.o.cell 1;have bb2:wr.cell? ⟨w.heap.size,2,none⟩=some (.int .i64 bd):=BB.o.cell 2;by_cases hlt:s < 5
    ·have g1:(s:Int) < 5:=by omega
     have F0:=FR.o s;have A0:=hid (show Dl.dA s ms (Dl.bN bt bf bd ms s)=[] ++ Dl.dA s (ms.drop 0) (Dl.bN bt bf bd ms s) from rfl);have Ny:=hid (show Dl.ends bt bf bd ms s=Dl.aR s (ms.drop 0) (Dl.bN bt bf bd ms s) from rfl);have Uo:=hid (LA.o.mono (D':=fun p b=>(1<=b/\b < s)\/(b=s/\p < 0)) (fun a b _ h=>by omega));obtain ⟨f,hf'⟩:∃ f,f=Dl.bN bt bf bd ms s:=⟨_,rfl⟩
     have HF:=hid hf';have hfr:0<=f/\f<=1074741824:=by rw [hf']; exact F0
     clear hf' F0
     go_upto_block 4 with fail
     go_cut [10] from 35 to 46 (fun v wx=>v = .int .i64 f/\wx=wr)
     case first =>
      rcases (show s=1\/s=2\/s=3\/s=4 by omega) with rfl | rfl | rfl | rfl
      ·obtain rfl:f=bt:=HF.o;go_wp2_with fail;go_meet;exact ⟨rfl,rfl⟩
      ·obtain rfl:f=bf:=HF.o;go_wp2_with fail;go_meet;exact ⟨rfl,rfl⟩
      ·obtain rfl:f=bd:=HF.o;go_wp2_with fail;go_meet;exact ⟨rfl,rfl⟩
      ·obtain rfl:c=f:=(Ud.o rfl).trans HF.o.symm;go_wp2_with fail;go_meet;exact ⟨rfl,rfl⟩
     case rest =>
      obtain ⟨rfl,rfl⟩:=hcut;clear bb0 bb1 bb2 Ud LA;have TB:=hid (fun p=>show T p s=(Dl.dA s ms (Dl.bN bt bf bd ms s)).getD p [] by rw [<- HT.o]; rfl);rw [<- HF.o] at A0 Ny TB;clear HF;have ZO:=hid (show (ES s).set s (Dl.ends bt bf bd ms s)=ES (s+1) by rw [<- KU.o]; rcases (show s=1\/s=2\/s=3\/s=4 by omega) with rfl | rfl | rfl | rfl <;> rfl);have NX4:=hid (fun (h:s+1=4)=>show Dl.ends bt bf bd ms s=Dl.bN bt bf bd ms 4 by obtain rfl:s=3:=(by omega); rfl);generalize Dl.ends bt bf bd ms s=en at *;go_wp2_with fail
      go_loopw [10,12] (fun av i wr=>∃ (k:Nat) (c:Int) (acc:List (List Int)) (va:Value),k<=gl.length/\i = .int .i64 k/\av = .int .i64 c/\acc.length=k/\(0<=c/\c<=f+4832 * k)/\Dl.dA s ms f=acc ++ Dl.dA s (ms.drop k) c/\en=Dl.aR s (ms.drop k) c/\jL w L E va bl (ES s) (fun p b=>(1<=b/\b < s)\/(b=s/\p < k)) T wr/\ye wr R #[.slice none 0 0,.slice none 0 0] 45/\ye wr w.heap.size #[.int .i64 bt,.int .i64 bf,.int .i64 bd] 27) (fun _ i _=>gl.length - (intOf i).toNat)
      case atStart=>exact ⟨0,f,[],_,Nat.zero_le _,rfl,rfl,rfl,⟨by omega,by omega⟩,A0.o,Ny.o,Uo.o,BR.o,BB.o⟩
      case round =>
       clear A0 Ny Uo BR BB;obtain ⟨k,c,acc,va,hk,rfl,rfl,hac,⟨c0,c1⟩,hA,hE,hla,hbr,hbb⟩:=hrel;have A:=hid hA;have EN:=hid hE;have LA:=hid hla;have BR:=hid hbr;have BB:=hid hbb;have Ib:=hid hac;obtain ⟨av,cv,rfl⟩:=yj hla.row;clear hA hE hla hbr hbb hac;by_cases hlk:k < gl.length
       ·have hkm:k < ms.length:=by rw [<- A8.o]; exact hlk
        have hbk:k < bl.length:=by rw [Ag.o]; exact hlk
        have g2:(k:Int) < (gl.length:Int):=by omega
        obtain ⟨g0,off,hao,hc⟩:=H.o.ptrs (by omega);subst hao;have ck:=yc (hc k hlk) LA.o.gr;have UC:=hid (show yq w gl[k] ms[k].obj by have:=H.o.obj k hlk (by rw [jc]; exact hkm); rw [List.getElem_map] at this; exact this);obtain ⟨at_,ct,af,cf,ad,cd,wm,wD,gF,cs,ar,cr,hb,-,-,-,q4,-,-⟩:=UC.o.open;have k4:=(hb.grown LA.o.gr (by simp)).cell 4;simp only [dH,dL,dK] at k4;have VK:=hid (Vf.o k hkm);obtain ⟨hal,CJ⟩:=Dl.nN VK.o s hs1 (by omega);obtain ⟨ag,aO,hag,hca⟩:=ym.aB q4 (by omega);subst hag;have Vz:=yc (hca (s - 1) hal) LA.o.gr;obtain ⟨sg,so,hsg,hsc⟩:=Fx.o.row (by omega);subst hsg;obtain ⟨ab,cb,sl,J8,J9,Gb⟩:=hsc k hkm
        have LX:=yc J8 LA.o.gr;have SH2:=hid J9;have SH3:=hid Gb;have ST:=Dl.nT VK.o s hs1 (by omega) c c0 (by omega);have AS:=hid (Dl.sO s ms k hkm c);have EZ:=hid (Dl.sP s ms k hkm c);have cU:=hid (fun W=>ypm c (Dl.fG ms[k] s) W c0 (by omega) (by omega));have hsub:((s:Int) - 1)=((s - 1:Nat):Int):=by omega
        have w1:IntKind.i64.wrap ((s:Int) - 1)=((s - 1:Nat):Int):=by rw [hsub]; exact IntWalk.i64_in _ ⟨by omega,by omega⟩
        have i1:((s - 1:Nat):Int) < (ms[k].obj.align.length:Int):=by omega
        have cW:=hid (fun W (hg:w.grownBy W none)=>ynU gl[k] ms[k] s (Ln.rup c (Dl.fG ms[k] s)) ab cb sl W (UC.o.kept hg) VK.o hs1 (by omega) (by omega) (by omega) (SH2.o.kept hg) SH3.o);have TK:=hid (TB.o k);clear hc hb q4 hca J8 J9 Gb hsc hsub;generalize PZ:gl[k]=bk at *
        go_upto_region 22 with fail
        go_cut [10] from 53 to 67 (fun v wx=>v = .int .i64 (Ln.rup c (Dl.fG ms[k] s))/\wx=wr)
        case first =>
         have CU:=hid (fun b (h:b=Dl.fG ms[k] s) W=>show Calls Tryz.prog 35 #[.int .i64 c,.int .i64 b] W fun e w'=>e = .returned (.int .i64 (Ln.rup c (Dl.fG ms[k] s)))/\w'=W by rw [h]; exact cU.o W);generalize Ln.rup c (Dl.fG ms[k] s)=RU at *;rcases CJ with ⟨ha,hb⟩ | ⟨ha,hb⟩ | ⟨ha,hb⟩ <;> rw [ha] at Vz
         ·have CV:=hid (CU.o 4 hb.symm);clear ha hb CU;go_wp2_with (go_at_call 35; refine (CV.o _).mono ?_; rintro e w' ⟨rfl,rfl⟩)
          go_meet;exact ⟨rfl,rfl⟩
         ·have CV:=hid (CU.o 8 hb.symm);clear ha hb CU;go_wp2_with (go_at_call 35; refine (CV.o _).mono ?_; rintro e w' ⟨rfl,rfl⟩)
          go_meet;exact ⟨rfl,rfl⟩
         ·have CV:=hid (CU.o 16 hb.symm);clear ha hb CU;go_wp2_with (go_at_call 35; refine (CV.o _).mono ?_; rintro e w' ⟨rfl,rfl⟩)
          go_meet;exact ⟨rfl,rfl⟩
        case rest =>
         obtain ⟨rfl,rfl⟩:=hcut;clear cU CJ Vz k4 w1 i1;obtain ⟨rt,hrt⟩:∃ rt,rt=Ln.rup c (Dl.fG ms[k] s):=⟨_,rfl⟩
         rw [<- hrt];rw [<- hrt] at cW ST AS EZ;clear hrt;have PL:=hid (show T k s=Ln.aA ms[k] s 0 (eZ ms[k].obj s) rt by rw [TK.o,A.o,AS.o]; exact Dl.getD_at _ _ _ _ _ Ib.o);have A2:=hid (show Dl.dA s ms f=(acc ++ [Ln.aA ms[k] s 0 (eZ ms[k].obj s) rt]) ++ Dl.dA s (ms.drop (k+1)) (Ln.aL ms[k] s 0 (eZ ms[k].obj s) rt) by rw [A.o,AS.o]; simp);have qC:=hid (show en=Dl.aR s (ms.drop (k+1)) (Ln.aL ms[k] s 0 (eZ ms[k].obj s) rt) by rw [EN.o,EZ.o]);have UJ:=hid (QO ms[k] s (eZ ms[k].obj s) 0 rt);generalize Ln.aL ms[k] s 0 (eZ ms[k].obj s) rt=en2 at *;rw [<- PL.o] at cW UJ A2
         go_upto_region 23 with fail
         go_region_held3 (fun w'=>w'.cell? ⟨g0,off+k,none⟩=some (.pointer (some ⟨bk,0,none⟩))/\w'.cell? ⟨sg,so+k,none⟩=some (.slice ab sl.length cb))
          (go_keep)
          (first | (go_at_call 36; refine (cW.o _ (yf LA.o.gr)).mono ?_; rintro e w' ⟨v7,rfl,LU,hq⟩; have s0:=yc (yc ck (yf (World.grownBy.refl _ none))) hq; have s1:=yc (yc LX (yf (World.grownBy.refl _ none))) hq))
         have GQ:=ya (yf (World.grownBy.refl _ none)) hq;have zm:=hid (LA.o.kept GQ);have AJ:=hid (BR.o.grown GQ (by simp));have u6:=hid (BB.o.grown GQ (by simp));have hEh:=LA.o.ends.lt;rw [<- UJ.o] at LU;have UG:=hid (Kr (b':=E+1) LU hEh);obtain ⟨a7,c7,rfl⟩:=yj LU;clear hq s0 s1 LU GQ LA BR BB ck LX cW;obtain ⟨ga,hga,hnn,hgc⟩:=zm.o.at_ (by omega);subst hga;have x0:=zm.o.blk.cell 0;simp only [dH,dK] at x0;have x1:=hgc k hbk;unfold pQ at x1;obtain ⟨xf,xv,xc⟩:=zm.o.rows.free k s hbk (by omega);have IJ:=hid (zm.o.put (D':=fun p b=>(1<=b/\b < s)\/(b=s/\p < k+1)) k s hbk (by omega) a7 c7 UG.o (fun a b h=>by omega))
         have hne1:=hid (show R≠bl[k] from fun cc=>by
          obtain ⟨cur,q1,-⟩:=zm.o.rows k hbk
          have:=AJ.o
          rw [cc] at this;have e:=q1.symm.trans this;simp at e)
         have hne2:=hid (show w.heap.size≠bl[k] from fun cc=>by
          obtain ⟨cur,q1,-⟩:=zm.o.rows k hbk
          have:=u6.o
          rw [cc] at this;have e:=q1.symm.trans this;simp at e)
         have Nv:=hid (AJ.o.grown (yi w' bl[k] s (.slice a7 (T k s).length c7)) (by simpa using hne1.o));have nV:=hid (u6.o.grown (yi w' bl[k] s (.slice a7 (T k s).length c7)) (by simpa using hne2.o));clear hgc zm AJ u6 UG hne1 hne2 hnn;generalize hbq:bl[k]=bq at *;have i2':(k:Int) < (bl.length:Int):=by omega
         go_wp2
         go_roundw
         case rel=>exact ⟨k+1,en2,acc ++ [T k s],_,by omega,by go_num,by go_num,by rw [fE,o7,Ib.o],⟨by omega,by omega⟩,A2.o,qC.o,IJ.o,Nv.o,nV.o⟩
         case measure=>simp [intOf]; omega
       ·obtain rfl:k=gl.length:=by omega
        have g4:decide ((gl.length:Int) < (gl.length:Int))=false:=by simp
        have EC:=hid (show en=c by rw [EN.o,A8.o,List.drop_length]; rfl);have x1:=LA.o.blk.cell 1;simp only [dH,dL,dK] at x1;have esl:=hid (show (ES s).length=5 by rw [<- KU.o]; rfl);have xE:∃ v,wr.cell? ⟨E,s,none⟩=some v:=by
         have hs':s < (ES s).length:=by rw [esl.o]; exact hlt
         refine ⟨.int .i64 (ES s)[s],?_⟩;rw [LA.o.ends.cell s];simp [hs']
        obtain ⟨xv,xc⟩:=xE;have xf:=LA.o.ends.free s;have IJ:=hid ((LA.o.Eu s c).mono (D':=fun i b=>1<=b/\b < s+1) (fun a b hab h=>by have:=Ag.o; omega));rw [<- EC.o] at IJ;rw [ZO.o,EC.o] at IJ;have VR:=hid (show R≠E from fun cc=>by
         have q:=BR.o;rw [cc] at q;have e:=q.symm.trans LA.o.ends;simp at e)
        have VW:=hid (show w.heap.size≠E from fun cc=>by
         have q:=BB.o;rw [cc] at q;have e:=q.symm.trans LA.o.ends;simp at e)
        have Nv:=hid (BR.o.grown (yi wr E s (.int .i64 c)) (by simpa using VR.o));have nV:=hid (BB.o.grown (yi wr E s (.int .i64 c)) (by simpa using VW.o));clear LA BR BB VR VW;go_wp2
        go_roundw
        case rel=>exact ⟨s+1,c,_,by omega,by omega,by go_num,by go_num,fun h=>by rw [<- EC.o]; exact NX4.o h,IJ.o,Nv.o,nV.o⟩
        case measure=>simp [intOf]; omega
    ·obtain rfl:s=5:=by omega
     have x0:=LA.o.blk.cell 0;have x1:=LA.o.blk.cell 1;simp only [dH,dL,dK] at x0 x1;have z0:wr.cell? ⟨R,0,none⟩=some (.slice none 0 0):=BR.o.cell 0;have z1:wr.cell? ⟨R,1,none⟩=some (.slice none 0 0):=BR.o.cell 1;have f0:=BR.o.free 0;have f1:=BR.o.free 1;have JJ:w.heap.size<=R:=by omega
     have B1:=BR.o.set 0 (.slice av bl.length cv);have B2:=B1.set 1 (.slice (some ⟨E,0,none⟩) 5 5);have Ut:=hid ((LA.o.J7 LH BR.o JJ 0 (.slice av bl.length cv)).J7 LH B1 JJ 1 (.slice (some ⟨E,0,none⟩) 5 5));have h0:=B2.cell 0;have h1:=B2.cell 1;simp only [fu,fC,eX,dH,dL,dK] at h0 h1;have RES:=hid (And.intro h0 h1);have ZN:=hid (show ES 5=[0,Dl.ends bt bf bd ms 1,Dl.ends bt bf bd ms 2,Dl.ends bt bf bd ms 3,Dl.ends bt bf bd ms 4] by rw [<- KU.o]; rfl);have FIN:=hid (Ut.o.mono (D':=fun _ s=>1<=s/\s<=4) (fun a b _ h=>by omega));rw [ZN.o] at FIN;clear LA Ut B1 B2 h0 h1 BB;go_wp2;refine bodyPost_ret (v:=.agg #[.slice av bl.length cv,.slice (some ⟨E,0,none⟩) 5 5]) ?_ rfl ⟨_,L,E,bl,rfl,by rw [Ag.o,A8.o],FIN.o⟩
     obtain ⟨h0,h1⟩:=RES.o;clear z0 z1 f0 f1 x0 x1;generalize World.setCell _ _ _=WF at *;simp [results,Tryz.results14,go_sem,h0,h1]
namespace Dl
theorem zC (n:List UInt8) (b:Int) (i:Nat):∀ (ys:List Lk.Sym) (k j:Nat) (y:Lk.Sym),ys[j]?=some y->qK n b y=true->(i,k+j)∈gU n b i k ys:=by
 intro ys
 induction ys with
 | nil=>intro k j y h; cases h
 | cons z ys ih =>
  intro k j y h hg;rw [gU]
  cases j with
  | zero =>
   cases h
   rw [if_pos hg];exact List.mem_cons_self
  | succ j =>
   have:=ih (k+1) j y h hg
   rw [show k+1+j=k+(j+1) by omega] at this;split
   ·exact List.mem_cons_of_mem _ this
   ·exact this
theorem zB (n:List UInt8) (b:Int):∀ (os:List Lk.Obj) (i j k:Nat) (o:Lk.Obj) (y:Lk.Sym),os[j]?=some o->o.syms[k]?=some y->qK n b y=true->(i+j,k)∈dW n b i os:=by
 intro os
 induction os with
 | nil=>intro i j k o y h; cases h
 | cons x os ih =>
  intro i j k o y h hk hg;rw [dW]
  cases j with
  | zero =>
   cases h
   have:=zC n b i x.syms 0 k y hk hg
   rw [Nat.zero_add] at this;exact List.mem_append_left _ this
  | succ j =>
   have:=ih (i+1) j k o y h hk hg
   rw [show i+1+j=i+(j+1) by omega] at this;exact List.mem_append_right _ this
theorem rZ {os:List Lk.Obj} {i k:Nat} (hi:i < os.length) (hk:k < os[i].syms.length) (n:List UInt8) (b:Int) (hg:qK n b os[i].syms[k]=true):bT os n b≠[]:=by
 have:=zB n b os 0 i k os[i] os[i].syms[k] (gy hi) (gy hk) hg
 intro h;unfold bT at h;rw [h] at this
 cases this
end Dl
theorem ylc (ao:Option Addr) (cap:Nat) (gl:List Nat) (os:List Lk.Obj) (w:World) (h:qx w ao gl os) :
  Calls Tryz.prog 12 #[.slice ao gl.length cap] w fun e w'=>e = .returned (bJ (Ln.aM os))/\w.grownBy w' none:=by
 have H:=hid h;have HL:=hid h.len;have hgl:gl.length<=48:=by rw [h.len]; exact h.few
 have PS:=hid h.pos;have cG:=hid (fun nm W (hg:w.grownBy W none)=>Kg ao cap gl os nm 1 W (h.kept hg));have cM:=hid (fun i k W (hi:i < os.length) (hk:k < os[i].syms.length) (hg:w.grownBy W none)=>Xy ao cap gl os i k W (h.kept hg) hi hk);have cS:=hid (fun W (hg:w.grownBy W none)=>yet ao cap gl os W (h.kept hg));have G0:=hid (aH w (.cells #[.int .i64 0,.int .i64 0,.string ⟨#[]⟩] 32) none);have B0:=hid (ye.new w #[.int .i64 0,.int .i64 0,.string ⟨#[]⟩] 32);clear h;go_enter Tryz.func12,Tryz.ntmps12;go_wp2;generalize w.alloc (.cells #[.int .i64 0,.int .i64 0,.string ⟨#[]⟩] 32)=W1 at *;have iX:Hd (∀ (V:World) (fe fa:Int) (fn:List UInt8),W1.grownBy V none->∀ W,W=(((V.setCell ⟨w.heap.size,0,none⟩ (.int .i64 fe)).setCell ⟨w.heap.size,1,none⟩ (.int .i64 fa)).setCell ⟨w.heap.size,2,none⟩ (.string (bs fn)))->(W.cell? ⟨w.heap.size,0,none⟩=some (.int .i64 fe)/\W.cell? ⟨w.heap.size,1,none⟩=some (.int .i64 fa)/\W.cell? ⟨w.heap.size,2,none⟩=some (.string (bs fn)))/\w.grownBy W none):=by
  rintro V fe fa fn hg W rfl;have F:=(((B0.o.grown hg (by simp)).set 0 (.int .i64 fe)).set 1 (.int .i64 fa)).set 2 (.string (bs fn));exact ⟨⟨F.cell 0,F.cell 1,F.cell 2⟩,yx (ya G0.o hg) _ (Nat.le_refl _) _ _ _⟩
 have FC:Hd (∀ (V:World),W1.grownBy V none->(V.cell? ⟨w.heap.size,0,none⟩=some (.int .i64 0)/\V.cell? ⟨w.heap.size,1,none⟩=some (.int .i64 0)/\V.cell? ⟨w.heap.size,2,none⟩=some (.string ⟨#[]⟩))/\V.frozen? ⟨w.heap.size,0,none⟩=false/\V.frozen? ⟨w.heap.size,1,none⟩=false/\V.frozen? ⟨w.heap.size,2,none⟩=false):=by
  intro V hg;have B:=B0.o.grown hg (by simp);exact ⟨⟨B.cell 0,B.cell 1,B.cell 2⟩,B.free 0,B.free 1,B.free 2⟩
 clear B0
 go_loopw [3] (fun i wr=>∃ k:Nat,k<=gl.length/\i = .int .i64 k/\Ln.dS os=Ln.jF os k (os.drop k)/\W1.grownBy wr none) (fun i _=>gl.length - (intOf i).toNat)
 case atStart=>exact ⟨0,Nat.zero_le _,rfl,rfl,World.grownBy.refl _ _⟩
 case round =>
  obtain ⟨k,hk,rfl,hf,hgr⟩:=hrel;have HF:=hid hf;have HG:=hid hgr;clear hf hgr;by_cases hlt:k < gl.length
  ·have hko:k < os.length:=by rw [<- HL.o]; exact hlt
   obtain ⟨g0,off,hao,hc⟩:=H.o.ptrs (by omega);subst hao;have CK:=hid (hc k hlt);obtain ⟨at_,ct,af,cf,ad,cd,wm,wD,gF,cs,ar,cr,hb,-,-,-,-,q5,-⟩:=(H.o.obj k hlt hko).open;have S:=hid (yI.aB q5);have HB:=hid hb;have hns:=(H.o.val os[k] (dM hko)).gT;have FD:=hid (Xf os os k hko);have YP:=hid (PS.o os[k] (dM hko));have OC:=hid (fun j (hj:j < os[k].syms.length) n b=>Dl.rZ hko hj n b);clear hc hb q5;generalize os[k].syms=ys at *;generalize gl[k]=bk at *;have g1:(k:Int) < (gl.length:Int):=by omega
   go_wp2
   go_loopw [4] (fun i wr=>∃ j:Nat,j<=ys.length/\i = .int .i64 j/\Ln.aZ os k ys=Ln.aZ os k (ys.drop j)/\W1.grownBy wr none) (fun i _=>ys.length - (intOf i).toNat)
   case atStart=>exact ⟨0,Nat.zero_le _,rfl,rfl,HG.o⟩
   case round =>
    obtain ⟨j,hj,rfl,hf2,dN⟩:=hrel;have iq:=hid hf2;have HG2:=hid dN;clear hf2 dN;have GT:=hid (ya G0.o HG2.o);have ck:=yc CK.o GT.o;have k5:=(HB.o.grown GT.o (by simp)).cell 5;simp only [dH,dL,dK] at k5;by_cases hlt2:j < ys.length
    ·obtain ⟨sg,hsg,hgs,hcs⟩:=S.o.grown GT.o (by omega);subst hsg;obtain ⟨q0,q1,q2,q3⟩:=hcs j hlt2;clear hcs;have g2:(j:Int) < (ys.length:Int):=by omega
     have FI:=hid (show Ln.aZ os k ys=_ from iq.o.trans (Xg os k ys j hlt2));have hyp:=YP.o ys[j] (dM hlt2);have SF:=hid (OC.o j hlt2);generalize ys[j]=y at *;have BX:=hid (ye.new wr #[.string (bs y.name),.int .i64 y.bind,.int .i64 y.ah,.int .i64 y.off] 77);have GA:=hid (aH wr (.cells #[.string (bs y.name),.int .i64 y.bind,.int .i64 y.ah,.int .i64 y.off] 77) none);have GW:=hid (ya HG2.o GA.o);have Vp:=hid (cG.o y.name);have SFy:=hid (SF.o y.name 1);have AH:=hid (Dl.wu PS.o y.name 1 k);clear GA SF
     go_upto_region 8 with fail
     generalize wr.alloc (.cells #[.string (bs y.name),.int .i64 y.bind,.int .i64 y.ah,.int .i64 y.off] 77)=V1 at *;generalize wr.heap.size=X at *;clear ck k5 q0 q1 q2 q3;have x0:V1.cell? ⟨X,0,none⟩=some (.string (bs y.name)):=BX.o.cell 0;go_wp2_with fail;refine (Vp.o _ (ya G0.o GW.o)).mono ?_;rintro e V2 ⟨v1,rfl,ho1,hg1⟩;obtain ⟨a1,VB,rfl⟩:=yj ho1;have G2:=hid (ya GW.o hg1);have qW:=hid (BX.o.grown hg1 (by simp));have O1:=hid ho1;clear ho1 hg1 x0 Vp BX;have x0:V2.cell? ⟨X,0,none⟩=some (.string (bs y.name)):=qW.o.cell 0;have x1:V2.cell? ⟨X,1,none⟩=some (.int .i64 y.bind):=qW.o.cell 1;have x2:V2.cell? ⟨X,2,none⟩=some (.int .i64 y.ah):=qW.o.cell 2
     generalize Dl.bT os y.name 1=A at *;by_cases e1:y.bind=1
     ·have b1:(y.bind == 1)=true:=by simpa using e1
      by_cases e2:0 < y.ah
      ·have b2:decide (0 < y.ah)=true:=by simpa using e2
       have ny:=hid (show Ln.aZ os k ys=if (Ln.find (os.take k) y.name 1).mod.isSome then some ⟨33,k,y.name⟩ else Ln.aZ os k (ys.drop (j+1)) by rw [FI.o,if_neg (fun h=>h.elim (fun a=>a e1) (fun a=>by omega))]);have hA:=SFy.o (by unfold Dl.qK; simp [e1,e2])
       cases A with
       | nil=>exact absurd rfl hA
       | cons p A =>
        obtain ⟨gr,rfl,hgr,r0,r1⟩:=RH O1.o (by simp);have gA:(0:Int) < ((p :: A).length:Int):=by simp only [gL]; omega
        by_cases e3:p.1 < k
        ·have b3:decide ((p.1:Int) < (k:Int))=true:=by simp; omega
         have E:=hid (show Ln.dS os=⟨33,k,y.name⟩ by
          rw [HF.o,FD.o,ny.o,if_pos (AH.o.2 ⟨p,rfl,e3⟩)])
         obtain ⟨⟨z0,z1,z2⟩,f0,f1,f2⟩:=FC.o V2 G2.o;clear e1 e2 hA;generalize (p :: A).length=nA at *;go_wp2;obtain ⟨⟨h0,h1,h2⟩,h3⟩:=iX.o V2 33 k y.name G2.o _ rfl;refine bodyPost_ret (v:=bJ ⟨33,k,y.name⟩) ?_ rfl ⟨by unfold Ln.aM; rw [E.o]; rfl,h3⟩;clear z0 z1 z2 f0 f1 f2 x0 x1 x2 r0 r1;generalize World.setCell _ _ _=WF at *;simp [results,Tryz.results12,go_sem,bJ,h0,h1,h2]
        ·have b3:decide ((p.1:Int) < (k:Int))=false:=by simp; omega
         have E:=hid (show Ln.aZ os k ys=Ln.aZ os k (ys.drop (j+1)) by
          rw [ny.o,if_neg (fun hc=>by obtain ⟨q,hq1,hq2⟩:=AH.o.1 hc; cases hq1; exact e3 hq2)])
         clear e1 e2 hA;generalize (p :: A).length=nA at *;go_wp2
         go_roundw
         case rel=>exact ⟨j+1,by omega,by go_num,E.o,G2.o⟩
         case measure=>simp [intOf]; omega
      ·have b2:decide (0 < y.ah)=false:=by simpa using e2
       have E:=hid (show Ln.aZ os k ys=Ln.aZ os k (ys.drop (j+1)) by rw [FI.o,if_pos (.inr (by omega))]);clear e1 e2;go_wp2
       go_roundw
       case rel=>exact ⟨j+1,by omega,by go_num,E.o,G2.o⟩
       case measure=>simp [intOf]; omega
     ·have b1:(y.bind == 1)=false:=by simpa using e1
      have E:=hid (show Ln.aZ os k ys=Ln.aZ os k (ys.drop (j+1)) by rw [FI.o,if_pos (.inl e1)]);clear e1;go_wp2
      go_roundw
      case rel=>exact ⟨j+1,by omega,by go_num,E.o,G2.o⟩
      case measure=>simp [intOf]; omega
    ·obtain rfl:j=ys.length:=by omega
     have E:=hid (show Ln.aZ os k ys=none by rw [iq.o,List.drop_length]; rfl);have g3:decide ((ys.length:Int) < (ys.length:Int))=false:=by simp
     go_wp2
     go_roundw
     case rel=>exact ⟨k+1,by omega,by go_num,by rw [HF.o,FD.o,E.o],HG2.o⟩
     case measure=>simp [intOf]; omega
  ·obtain rfl:k=gl.length:=by omega
   have ET:=hid (show Ln.dS os=Ln.ok by rw [HF.o,HL.o,List.drop_length]; rfl);have g3:decide ((gl.length:Int) < (gl.length:Int))=false:=by simp
   clear cG;go_wp2
   go_loopw [7] (fun i wr=>∃ k:Nat,k<=gl.length/\i = .int .i64 k/\Ln.dw os=Ln.wantedAt os k (os.drop k)/\W1.grownBy wr none) (fun i _=>gl.length - (intOf i).toNat)
   case atStart=>exact ⟨0,Nat.zero_le _,rfl,rfl,HG.o⟩
   case round =>
    clear HF HG;obtain ⟨k,hk,rfl,hf,hgr⟩:=hrel;have HF:=hid hf;have HG:=hid hgr;clear hf hgr;by_cases hlt:k < gl.length
    ·have hko:k < os.length:=by rw [<- HL.o]; exact hlt
     obtain ⟨g0,off,hao,hc⟩:=H.o.ptrs (by omega);subst hao;have CK:=hid (hc k hlt);obtain ⟨at_,ct,af,cf,ad,cd,wm,wD,gF,cs,ar,cr,hb,-,-,-,-,q5,-⟩:=(H.o.obj k hlt hko).open;have S:=hid (yI.aB q5);have HB:=hid hb;have hns:=(H.o.val os[k] (dM hko)).gT;have FD:=hid (WT os os k hko);have YP:=hid (PS.o os[k] (dM hko));have cMk:=hid (fun j W (hj:j < os[k].syms.length) (hg:w.grownBy W none)=>cM.o k j W hko hj hg);have SA:=hid (fun j (hj:j < os[k].syms.length)=>Aq hko hj);clear hc hb q5;generalize os[k].syms=ys at *;generalize gl[k]=bk at *;have g1:(k:Int) < (gl.length:Int):=by omega
     go_wp2
     go_loopw [8] (fun i wr=>∃ j:Nat,j<=ys.length/\i = .int .i64 j/\Ln.aV os k ys=Ln.aV os k (ys.drop j)/\W1.grownBy wr none) (fun i _=>ys.length - (intOf i).toNat)
     case atStart=>exact ⟨0,Nat.zero_le _,rfl,rfl,HG.o⟩
     case round =>
      obtain ⟨j,hj,rfl,hf2,dN⟩:=hrel;have iq:=hid hf2;have HG2:=hid dN;clear hf2 dN;have GT:=hid (ya G0.o HG2.o);have ck:=yc CK.o GT.o;have k5:=(HB.o.grown GT.o (by simp)).cell 5;simp only [dH,dL,dK] at k5;by_cases hlt2:j < ys.length
      ·obtain ⟨sg,hsg,hgs,hcs⟩:=S.o.grown GT.o (by omega);subst hsg;obtain ⟨q0,q1,q2,q3⟩:=hcs j hlt2;clear hcs;have g2:(j:Int) < (ys.length:Int):=by omega
       have FI:=hid (show Ln.aV os k ys=_ from iq.o.trans (WU os k ys j hlt2));have Vs:=hid (fun W hg=>cMk.o j W hlt2 hg);have NC:=hid (Dl.iW PS.o ys[j].name);have ME:=hid (show Dl.means os k j=if ys[j].bind=0 then some (k,j) else (Dl.cand os ys[j].name).head? by unfold Dl.means; rw [SA.o j hlt2]);generalize ys[j]=y at *;have BX:=hid (ye.new wr #[.string (bs y.name),.int .i64 y.bind,.int .i64 y.ah,.int .i64 y.off] 77);have GA:=hid (aH wr (.cells #[.string (bs y.name),.int .i64 y.bind,.int .i64 y.ah,.int .i64 y.off] 77) none);have GW:=hid (ya HG2.o GA.o);clear GA
       go_upto_region 18 with fail
       generalize wr.alloc (.cells #[.string (bs y.name),.int .i64 y.bind,.int .i64 y.ah,.int .i64 y.off] 77)=V1 at *;generalize wr.heap.size=X at *;clear ck k5 q0 q1 q2 q3;go_wp2_with fail;refine (Vs.o _ (ya G0.o GW.o)).mono ?_;rintro e V2 ⟨rfl,hg1⟩;have G2:=hid (ya GW.o hg1);have qW:=hid (BX.o.grown hg1 (by simp));clear hg1 Vs BX;generalize Dl.means os k j=M at *;obtain ⟨mp,mq,vB,hM0⟩:∃ mp mq:Int,iF M = .agg #[.int .i64 mp,.int .i64 mq]/\(mp < 0↔M=none):=by
        cases M with
        | none=>exact ⟨-1,0,rfl,by simp⟩
        | some p=>exact ⟨p.1,p.2,rfl,by simp⟩
       rw [vB];have BM:=hid (ye.new V2 #[.int .i64 mp,.int .i64 mq] 51);have GM:=hid (aH V2 (.cells #[.int .i64 mp,.int .i64 mq] 51) none);have Ip:=hid hM0;clear vB hM0
       go_upto_region 19 with fail
       have G3:=hid (ya G2.o GM.o);have lT:=hid (qW.o.grown GM.o (by simp));clear GM G2 qW;generalize V2.alloc (.cells #[.int .i64 mp,.int .i64 mq] 51)=V3 at *;generalize V2.heap.size=Y at *;have x0:V3.cell? ⟨X,0,none⟩=some (.string (bs y.name)):=lT.o.cell 0;have x1:V3.cell? ⟨X,1,none⟩=some (.int .i64 y.bind):=lT.o.cell 1;have x2:V3.cell? ⟨X,2,none⟩=some (.int .i64 y.ah):=lT.o.cell 2;have m0:V3.cell? ⟨Y,0,none⟩=some (.int .i64 mp):=BM.o.cell 0;by_cases e1:y.bind=1
       ·have b1:(y.bind == 1)=true:=by simpa using e1
        by_cases e2:y.ah=0
        ·have b2:(y.ah == 0)=true:=by simpa using e2
         have ny:=hid (show Ln.aV os k ys=if (Ln.named os y.name).mod.isSome then Ln.aV os k (ys.drop (j+1)) else some ⟨34,k,y.name⟩ by rw [FI.o,if_neg (by unfold Ln.wanted; simp [e1,e2])]);have Uw:=hid (show M=(Dl.cand os y.name).head? by rw [ME.o,if_neg (by omega)]);by_cases e3:mp < 0
         ·have b3:decide (mp < 0)=true:=by simpa using e3
          have E:=hid (show Ln.dw os=⟨34,k,y.name⟩ by
           rw [HF.o,FD.o,ny.o,NC.o,<- Uw.o,Ip.o.1 e3];rfl)
          obtain ⟨⟨z0,z1,z2⟩,f0,f1,f2⟩:=FC.o V3 G3.o;clear e1 e2;go_wp2;obtain ⟨⟨h0,h1,h2⟩,h3⟩:=iX.o V3 34 k y.name G3.o _ rfl;refine bodyPost_ret (v:=bJ ⟨34,k,y.name⟩) ?_ rfl ⟨by unfold Ln.aM; rw [ET.o,E.o]; rfl,h3⟩;clear z0 z1 z2 f0 f1 f2 x0 x1 x2 m0;generalize World.setCell _ _ _=WF at *;simp [results,Tryz.results12,go_sem,bJ,h0,h1,h2]
         ·have b3:decide (mp < 0)=false:=by simpa using e3
          have E:=hid (show Ln.aV os k ys=Ln.aV os k (ys.drop (j+1)) by
           rw [ny.o,NC.o,<- Uw.o]
           cases hM:M with
           | none=>exact absurd (Ip.o.2 hM) e3
           | some p=>rfl)
          clear e1 e2;go_wp2
          go_roundw
          case rel=>exact ⟨j+1,by omega,by go_num,E.o,G3.o⟩
          case measure=>simp [intOf]; omega
        ·have b2:(y.ah == 0)=false:=by simpa using e2
         have E:=hid (show Ln.aV os k ys=Ln.aV os k (ys.drop (j+1)) by rw [FI.o,if_pos (by unfold Ln.wanted; simp [e2])]);clear e1 e2;go_wp2
         go_roundw
         case rel=>exact ⟨j+1,by omega,by go_num,E.o,G3.o⟩
         case measure=>simp [intOf]; omega
       ·have b1:(y.bind == 1)=false:=by simpa using e1
        have E:=hid (show Ln.aV os k ys=Ln.aV os k (ys.drop (j+1)) by rw [FI.o,if_pos (by unfold Ln.wanted; simp [e1])]);clear e1;go_wp2
        go_roundw
        case rel=>exact ⟨j+1,by omega,by go_num,E.o,G3.o⟩
        case measure=>simp [intOf]; omega
      ·obtain rfl:j=ys.length:=by omega
       have E:=hid (show Ln.aV os k ys=none by rw [iq.o,List.drop_length]; rfl);have g3:decide ((ys.length:Int) < (ys.length:Int))=false:=by simp
       go_wp2
       go_roundw
       case rel=>exact ⟨k+1,by omega,by go_num,by rw [HF.o,FD.o,E.o],HG2.o⟩
       case measure=>simp [intOf]; omega
    ·obtain rfl:k=gl.length:=by omega
     have EW:=hid (show Ln.dw os=Ln.ok by rw [HF.o,HL.o,List.drop_length]; rfl);have g3:decide ((gl.length:Int) < (gl.length:Int))=false:=by simp
     have NC:=hid (Dl.iW PS.o Dl.bF);have SD:=hid (show Dl.start os=match (Dl.cand os Dl.bF).head? with
      | none=>none
      | some (i,k)=>if (Dl.bD os i k).ah≠1/\(Dl.bD os i k).ah≠2 then none else some (i,k) from rfl)
     have RS:=hid (show Ln.aM os=if Dl.start os=none then ⟨35,0,[]⟩ else Ln.ok by
      unfold Ln.aM;rw [ET.o,EW.o,if_neg (by decide),if_neg (by decide),show Ln.eU=Dl.bF from rfl,NC.o,SD.o]
      cases hc:(Dl.cand os Dl.bF).head? with
      | none=>rfl
      | some p =>
       obtain ⟨a,b⟩:=p;unfold Dl.lQ;dsimp only;split
       ·rw [if_pos rfl]
       ·rw [if_neg (by simp)])
     clear NC SD ET EW;go_wp2_with fail;refine (cS.o _ (ya G0.o HG.o)).mono ?_;rintro e V2 ⟨rfl,hg1⟩;have G2:=hid (ya HG.o hg1);clear hg1 cS cM;generalize Dl.start os=M at *;obtain ⟨mp,mq,vB,hM0⟩:∃ mp mq:Int,iF M = .agg #[.int .i64 mp,.int .i64 mq]/\(mp < 0↔M=none):=by
      cases M with
      | none=>exact ⟨-1,0,rfl,by simp⟩
      | some p=>exact ⟨p.1,p.2,rfl,by simp⟩
     rw [vB];have BM:=hid (ye.new V2 #[.int .i64 mp,.int .i64 mq] 51);have GM:=hid (aH V2 (.cells #[.int .i64 mp,.int .i64 mq] 51) none);have Ip:=hid hM0;clear vB hM0
     go_upto_region 22 with fail
     have G3:=hid (ya G2.o GM.o);clear GM G2;generalize V2.alloc (.cells #[.int .i64 mp,.int .i64 mq] 51)=V3 at *;generalize V2.heap.size=Y at *;have m0:V3.cell? ⟨Y,0,none⟩=some (.int .i64 mp):=BM.o.cell 0;obtain ⟨⟨z0,z1,z2⟩,f0,f1,f2⟩:=FC.o V3 G3.o;by_cases e3:mp < 0
     ·have b3:decide (mp < 0)=true:=by simpa using e3
      have E:=hid (show Ln.aM os=⟨35,0,[]⟩ by rw [RS.o,if_pos (Ip.o.1 e3)]);go_wp2;have FI:=iX.o V3 35 0 [] G3.o _ rfl;rw [show bs []=(⟨#[]⟩:ByteArray) from rfl] at FI;obtain ⟨⟨h0,h1,h2⟩,h3⟩:=FI;refine bodyPost_ret (v:=bJ ⟨35,0,[]⟩) ?_ rfl ⟨by rw [E.o],h3⟩;clear z0 z1 z2 f0 f1 f2 m0;generalize World.setCell _ _ _=WF at *;simp [results,Tryz.results12,go_sem,bJ,bs,h0,h1,h2]
     ·have b3:decide (mp < 0)=false:=by simpa using e3
      have E:=hid (show Ln.aM os=Ln.ok by rw [RS.o,if_neg (fun c=>e3 (Ip.o.2 c))]);go_wp2;have FI:=iX.o V3 0 0 [] G3.o _ rfl;rw [show bs []=(⟨#[]⟩:ByteArray) from rfl] at FI;obtain ⟨⟨h0,h1,h2⟩,h3⟩:=FI;refine bodyPost_ret (v:=bJ Ln.ok) ?_ rfl ⟨by rw [E.o],h3⟩;clear z0 z1 z2 f0 f1 f2 m0;generalize World.setCell _ _ _=WF at *;simp [results,Tryz.results12,go_sem,bJ,Ln.ok,bs,h0,h1,h2]
structure o8 (W:World) (P:Nat) (n:Nat) (T:Nat->Nat->List Int) (es:List Int):Prop where
 main:∃ ao ca E,W.cell? ⟨P,0,none⟩=some (.slice ao n ca)/\W.cell? ⟨P,1,none⟩=some (.slice (some ⟨E,0,none⟩) 5 5)/\(∀ s (h:s < es.length),W.cell? ⟨E,s,none⟩=some (.int .i64 es[s])) /\
  (0 < n->∃ ga,ao=some ⟨ga,0,none⟩/\∀ i,i < n->∃ b,W.cell? ⟨ga,i,none⟩=some (.slice (some ⟨b,0,none⟩) 5 5)/\∀ s,1<=s->s<=4->∃ au cu,W.cell? ⟨b,s,none⟩=some (.slice au (T i s).length cu)/\ym W au (T i s))
theorem o8.kept {W W':World} {P n:Nat} {T:Nat->Nat->List Int} {es:List Int} (h:o8 W P n T es) (hg:W.grownBy W' none):o8 W' P n T es:=by
 obtain ⟨ao,ca,E,h1,h2,h3,h4⟩:=h.main;refine ⟨ao,ca,E,yc h1 hg,yc h2 hg,fun s hs=>yc (h3 s hs) hg,fun hn=>?_⟩;obtain ⟨ga,e,hc⟩:=h4 hn;refine ⟨ga,e,fun i hi=>?_⟩;obtain ⟨b,q1,q2⟩:=hc i hi;refine ⟨b,yc q1 hg,fun s s1 s4=>?_⟩;obtain ⟨au,cu,q3,q4⟩:=q2 s s1 s4;exact ⟨au,cu,yc q3 hg,q4.kept (fun _ _ hv=>yc hv hg)⟩
theorem o8.of {w W:World} {L E P n:Nat} {va:Value} {bl:List Nat} {es:List Int} {T:Nat->Nat->List Int} (h:jL w L E va bl es (fun _ s=>1<=s/\s<=4) T W) (hP:ye W P #[va,.slice (some ⟨E,0,none⟩) 5 5] 45) (hn:bl.length=n):o8 W P n T es:=by
 obtain ⟨ao,ca,rfl⟩:=yj h.row;subst hn;refine ⟨ao,ca,E,hP.cell 0,hP.cell 1,fun s hs=>?_,fun hn=>?_⟩
 ·rw [h.ends.cell s];simp [hs]
 ·obtain ⟨ga,e,-,hc⟩:=h.at_ hn;refine ⟨ga,e,fun i hi=>⟨bl[i],hc i hi,fun s s1 s4=>?_⟩⟩;exact h.rows.cell i s hi (by omega) ⟨s1,s4⟩
namespace Dl
def addr (os:List Lk.Obj) (T:Nat->Nat->List Int):Option (Nat×Nat)->Int
 | none=>0
 | some p=>(T p.1 (bD os p.1 p.2).ah.toNat).getD ((bD os p.1 p.2).off / 4).toNat 0
def Ba (os:List Lk.Obj) (T:Nat->Nat->List Int) (p:Nat×Nat):Prop:=iP os p/\(1<=(bD os p.1 p.2).ah/\(bD os p.1 p.2).ah<=4)/\(0<=(bD os p.1 p.2).off/\(bD os p.1 p.2).off<=1048576)/\((bD os p.1 p.2).off / 4).toNat < (T p.1 (bD os p.1 p.2).ah.toNat).length
end Dl
theorem yii (P:Nat) (v:Value) (w:World):Calls Tryz.prog 18 #[.pointer (some ⟨P,0,none⟩),v,iF none] w fun e w'=>e = .returned (.int .i64 0)/\w.grownBy w' none:=by
 have G:=hid (aH w (.cells #[.int .i64 (-1),.int .i64 0] 51) none);unfold iF;go_enter Tryz.func18,Tryz.ntmps18;go_wp2;go_ret;exact ⟨rfl,G.o⟩
theorem yij (P:Nat) (ao:Option Addr) (cap:Nat) (gl:List Nat) (os:List Lk.Obj) (T:Nat->Nat->List Int) (es:List Int) (i k:Nat) (w:World) (h:qx w ao gl os) (hl:o8 w P gl.length T es) (hp:Dl.Ba os T (i,k)) :
  Calls Tryz.prog 18 #[.pointer (some ⟨P,0,none⟩),.slice ao gl.length cap,iF (some (i,k))] w fun e w'=>e = .returned (.int .i64 (Dl.addr os T (some (i,k))))/\w.grownBy w' none:=by
 obtain ⟨⟨zI,hk⟩,⟨s1,s4⟩,⟨o0,o1⟩,o4⟩:=hp;dsimp only at zI hk s1 s4 o0 o1 o4;have hil:i < gl.length:=by rw [h.len]; exact zI
 have hgl:gl.length<=48:=by rw [h.len]; exact h.few
 have SE:=Aq zI hk;rw [SE] at s1 s4 o0 o1 o4;have AD:=hid (show Dl.addr os T (some (i,k))=(T i (Dl.bD os i k).ah.toNat).getD ((Dl.bD os i k).off / 4).toNat 0 from rfl);rw [SE] at AD;obtain ⟨g0,off,hao,hc⟩:=h.ptrs (by omega);subst hao;have CK:=hid (hc i hil);obtain ⟨at_,ct,af,cf,ad,cd,wm,wD,gF,cs,ar,cr,hb,-,-,-,-,q5,-⟩:=(h.obj i hil zI).open;have HB:=hid hb;have hns:=(h.val os[i] (dM zI)).gT;have SI:=hid (yI.aB q5);obtain ⟨al,ca,E,l1,-,-,l4⟩:=hl.main;obtain ⟨ga,hga,hgc⟩:=l4 (by omega);subst hga;obtain ⟨b,l5,l6⟩:=hgc i hil;generalize hy:os[i].syms[k]=y at *;obtain ⟨au,cu,l7,l8⟩:=l6 y.ah.toNat (by omega) (by omega)
 have LL:=hid (And.intro l1 (And.intro l5 (And.intro l7 l8)));clear hc hb q5 h SE hl hgc l1 l4 l5 l6 l7 l8;generalize T i y.ah.toNat=TL at *;generalize Dl.addr os T (some (i,k))=R at *;have HY:=hid hy;clear hy;unfold iF;dsimp only;have G0:=hid (aH w (.cells #[.int .i64 i,.int .i64 k] 51) none);have B0:=hid (ye.new w #[.int .i64 i,.int .i64 k] 51);go_enter Tryz.func18,Tryz.ntmps18
 go_upto_region 1 with fail
 generalize w.alloc (.cells #[.int .i64 i,.int .i64 k] 51)=W1 at *;generalize w.heap.size=X at *;have x0:W1.cell? ⟨X,0,none⟩=some (.int .i64 i):=B0.o.cell 0;have x1:W1.cell? ⟨X,1,none⟩=some (.int .i64 k):=B0.o.cell 1;have ck:=yc CK.o G0.o;have k5:=(HB.o.grown G0.o (by simp)).cell 5;simp only [dH,dL,dK] at k5;obtain ⟨sg,hsg,hgs,hcs⟩:=SI.o.grown G0.o (by omega);subst hsg;obtain ⟨q0,q1,q2,q3⟩:=hcs k hk;rw [HY.o] at q0 q1 q2 q3;have j1:(i:Int) < (gl.length:Int):=by omega
 have j2:(k:Int) < (os[i].syms.length:Int):=by omega
 clear hcs;generalize gl[i]=bk at *
 go_upto_region 3 with fail
 go_region_held3 (fun w'=>w'.cell? ⟨X,0,none⟩=some (.int .i64 i)/\w'.cell? ⟨X,1,none⟩=some (.int .i64 k)/\w'.cell? ⟨g0,off+i,none⟩=some (.pointer (some ⟨bk,0,none⟩))/\w'.cell? ⟨bk,5,none⟩=some (.slice (some ⟨sg,0,none⟩) os[i].syms.length cs)/\w'.cell? ⟨sg,k * 4,none⟩=some (.string (bs y.name))/\w'.cell? ⟨sg,k * 4+1,none⟩=some (.int .i64 y.bind)/\w'.cell? ⟨sg,k * 4+2,none⟩=some (.int .i64 y.ah)/\w'.cell? ⟨sg,k * 4+3,none⟩=some (.int .i64 y.off))
  (go_keep)
  (fail)
 have GV:=hid (yf (aH W1 (.cells #[.string (bs y.name),.int .i64 y.bind,.int .i64 y.ah,.int .i64 y.off] 77) none));have BV:=hid (uV (ye.new W1 #[.string (bs y.name),.int .i64 y.bind,.int .i64 y.ah,.int .i64 y.off] 77));have GT:=hid (ya G0.o GV.o);have BX:=hid (B0.o.grown GV.o (by simp));clear x0 x1 ck k5 q0 q1 q2 q3 GV G0 B0;generalize (W1.alloc (.cells #[.string (bs y.name),.int .i64 y.bind,.int .i64 y.ah,.int .i64 y.off] 77)).drew=V at *;generalize W1.heap.size=Y at *;obtain ⟨l1,l5,l7,l8⟩:=LL.o;have m1:=yc l1 GT.o;have m5:=yc l5 GT.o;have m7:=yc l7 GT.o;obtain ⟨sn,hsn⟩:=Int.eq_ofNat_of_zero_le (show 0<=y.ah by omega)
 obtain ⟨q,hq⟩:=Int.eq_ofNat_of_zero_le (show 0<=y.off / 4 by omega);have x0:V.cell? ⟨X,0,none⟩=some (.int .i64 i):=BX.o.cell 0;have y2:V.cell? ⟨Y,2,none⟩=some (.int .i64 y.ah):=BV.o.cell 2;have y3:V.cell? ⟨Y,3,none⟩=some (.int .i64 y.off):=BV.o.cell 3;rw [hq,Int.toNat_natCast] at o4 AD;obtain ⟨ug,uo,Qf,huc⟩:=l8 (by omega);subst Qf;have m8:=yc (huc q o4) GT.o;have ZH:=hid (show R=TL[q] by rw [AD.o,iJ,gy o4]; rfl);rw [hsn] at y2;rw [hsn,Int.toNat_natCast] at m7;have t1:Int.tdiv y.off 4=(q:Int):=by rw [Int.tdiv_eq_ediv_of_nonneg o0,hq]
 have sn5:(sn:Int) < 5:=by omega
 have wq:IntKind.i64.wrap (q:Int)=(q:Int):=IntWalk.i64_in _ ⟨by omega,by omega⟩;have q5':(q:Int) < (TL.length:Int):=by omega
 clear l1 l5 l7 l8 LL AD huc;go_wp2
 go_quiet (fail)
 go_wp2;go_ret;exact ⟨by rw [ZH.o]; rfl,yd GT.o nq⟩
theorem QY (P:Nat) (ao:Option Addr) (cap:Nat) (gl:List Nat) (os:List Lk.Obj) (T:Nat->Nat->List Int) (es:List Int) (r:Option (Nat×Nat)) (w:World) (h:qx w ao gl os) (hl:o8 w P gl.length T es) (hp:∀ p,r=some p->Dl.Ba os T p) :
  Calls Tryz.prog 18 #[.pointer (some ⟨P,0,none⟩),.slice ao gl.length cap,iF r] w fun e w'=>e = .returned (.int .i64 (Dl.addr os T r))/\w.grownBy w' none:=by
 cases r with
 | none=>exact yii P _ w
 | some p=>exact yij P ao cap gl os T es p.1 p.2 w h hl (hp p rfl)
structure Laid (w:World) (P:Nat) (ao:Option Addr) (gl:List Nat) (os:List Lk.Obj) (T:Nat->Nat->List Int) (es:List Int):Prop where
 parts:qx w ao gl os
 ld:o8 w P gl.length T es
 len:∀ i s (h:i < os.length),1<=s->s<=4->(T i s).length=(eZ os[i] s).length+1
 rng:∀ i s k,1<=s->s<=4->0<=(T i s).getD k 0/\(T i s).getD k 0<=2147483648
theorem Laid.kept {w w':World} {P:Nat} {ao:Option Addr} {gl:List Nat} {os:List Lk.Obj} {T:Nat->Nat->List Int} {es:List Int} (h:Laid w P ao gl os T es) (hg:w.grownBy w' none):Laid w' P ao gl os T es:=⟨h.parts.kept hg,h.ld.kept hg,h.len,h.rng⟩
theorem XU {o:Lk.Obj} (h:yp o) (s:Nat) (h1:1<=s) (h4:s<=4):((eZ o s).length:Int)=kY o s:=by
 have hb:=h.1.2.1.1;unfold eZ jE kY;rcases (show s=1\/s=2\/s=3\/s=4 by omega) with rfl | rfl | rfl | rfl
 ·rfl
 ·rfl
 ·rfl
 ·rw [if_pos (by omega),if_pos (by omega),List.length_replicate]; omega
theorem Si {w:World} {P:Nat} {ao:Option Addr} {gl:List Nat} {os:List Lk.Obj} {T:Nat->Nat->List Int} {es:List Int} (h:Laid w P ao gl os T es) {p:Nat×Nat} (hp:Dl.iP os p) (hs:1<=(Dl.bD os p.1 p.2).ah):Dl.Ba os T p:=by
 obtain ⟨h1,h2⟩:=hp;have hv:=h.parts.val os[p.1] (dM h1);have so:=(hv.2.2.2.1 p.2 h2).1;rw [Aq h1 h2] at hs;refine ⟨⟨h1,h2⟩,?_⟩;rw [Aq h1 h2];generalize os[p.1].syms[p.2]=y at *;obtain ⟨-,-,⟨-,q2⟩,-,q3,q4,q5⟩:=so;obtain ⟨sn,hsn⟩:=Int.eq_ofNat_of_zero_le (show 0<=y.ah by omega);have hl:=h.len p.1 y.ah.toNat h1 (by omega) (by omega);have hsl:=XU hv y.ah.toNat (by omega) (by omega)
 have hsz:=EY hv y.ah.toNat
 rw [show ((y.ah.toNat:Nat):Int)=y.ah by omega] at hsl;refine ⟨⟨hs,q2⟩,⟨q3,by omega⟩,?_⟩;rw [hl];omega
theorem Rv {os:List Lk.Obj} (hv:∀ o∈os,yp o) {i k:Nat} (hi:Dl.iP os (i,k)) {p:Nat×Nat} (h:Dl.means os i k=some p):Dl.iP os p/\1<=(Dl.bD os p.1 p.2).ah:=by
 refine ⟨Dl.wU hi h,?_⟩;unfold Dl.means at h;split at h
 ·rename_i hb
  cases h
  obtain ⟨h1,h2⟩:=hi;dsimp only at h1 h2 ⊢;have so:=((hv os[i] (dM h1)).2.2.2.1 k h2).1;rw [Aq h1 h2] at hb ⊢;obtain ⟨-,-,⟨q1,-⟩,q3,-⟩:=so
  have:os[i].syms[k].ah≠0:=fun c=>q3 ⟨c,hb⟩
  omega
 ·have:=(Dl.lG (List.mem_of_mem_head? h)).2
  unfold Dl.qK at this;rcases this with h | h
  ·simp only [Bool.and_eq_true,decide_eq_true_iff] at h; omega
  ·simp only [Bool.and_eq_true,decide_eq_true_iff] at h; omega
theorem QL (P:Nat) (ao:Option Addr) (cap:Nat) (gl:List Nat) (os:List Lk.Obj) (T:Nat->Nat->List Int) (es:List Int) (i k sy:Nat) (w:World) (h:Laid w P ao gl os T es) (hi:i < os.length) (hk:k < os[i].aj.length) (hsy:os[i].aj[k].sym=(sy:Int)) (hss:sy < os[i].syms.length) :
  Calls Tryz.prog 33 #[.pointer (some ⟨P,0,none⟩),.slice ao gl.length cap,.int .i64 i,.int .i64 k] w fun e w'=>e = .returned (.int .i64 (Dl.addr os T (Dl.means os i sy)))/\w.grownBy w' none:=by
 have hil:i < gl.length:=by rw [h.parts.len]; exact hi
 have hgl:gl.length<=48:=by rw [h.parts.len]; exact h.parts.few
 have cM:=hid (fun W (hg:w.grownBy W none)=>Xy ao cap gl os i sy W (h.parts.kept hg) hi hss);have cA:=hid (fun W (hg:w.grownBy W none)=>QY P ao cap gl os T es (Dl.means os i sy) W (h.parts.kept hg) (h.ld.kept hg) (fun p hp=>by
  obtain ⟨q1,q2⟩:=Rv h.parts.val ⟨hi,hss⟩ hp;exact Si h q1 q2))
 obtain ⟨g0,off,hao,hc⟩:=h.parts.ptrs (by omega);subst hao;have ck:=hc i hil;obtain ⟨at_,ct,af,cf,ad,cd,wm,wD,gF,cs,ar,cr,hb,-,-,-,-,-,q6⟩:=(h.parts.obj i hil hi).open;have k6:=hb.cell 6;simp only [dH,dL,dK] at k6;obtain ⟨rg,hrg,-,hrc⟩:=lX.aB q6 (by omega);subst hrg;obtain ⟨-,-,-,r3,-⟩:=hrc k hk;rw [hsy] at r3;have wM:=(h.parts.val os[i] (dM hi)).jU;have j1:(i:Int) < (gl.length:Int):=by omega
 have j2:(k:Int) < (os[i].aj.length:Int):=by omega
 clear hc hb q6 hrc h hsy;generalize gl[i]=bk at *;generalize Dl.means os i sy=M at *;generalize Dl.addr os T M=AD at *;obtain ⟨mp,mq,vB⟩:∃ mp mq:Int,iF M = .agg #[.int .i64 mp,.int .i64 mq]:=by
  cases M with
  | none=>exact ⟨-1,0,rfl⟩
  | some p=>exact ⟨p.1,p.2,rfl⟩
 rw [vB] at cM cA;clear vB;go_enter Tryz.func33,Tryz.ntmps33;go_wp2_with fail;refine (cM.o _ (World.grownBy.refl _ _)).mono ?_;rintro e W2 ⟨rfl,hg2⟩;have BM:=hid (ye.new W2 #[.int .i64 mp,.int .i64 mq] 51);have G3:=hid (ya hg2 (aH W2 (.cells #[.int .i64 mp,.int .i64 mq] 51) none));clear hg2 cM ck k6 r3
 go_upto_region 2 with fail
 generalize W2.alloc (.cells #[.int .i64 mp,.int .i64 mq] 51)=W3 at *;generalize W2.heap.size=Y at *;have m0:W3.cell? ⟨Y,0,none⟩=some (.int .i64 mp):=BM.o.cell 0;have m1:W3.cell? ⟨Y,1,none⟩=some (.int .i64 mq):=BM.o.cell 1;go_wp2_with fail;refine (cA.o _ G3.o).mono ?_;rintro e W4 ⟨rfl,hg4⟩;have G4:=hid (ya G3.o hg4);clear hg4 cA m0 m1;go_wp2;go_ret;exact ⟨rfl,G4.o⟩
theorem Rh (P:Nat) (ao:Option Addr) (cap:Nat) (gl:List Nat) (os:List Lk.Obj) (T:Nat->Nat->List Int) (es:List Int) (i k:Nat) (w:World) (h:Laid w P ao gl os T es) (hi:i < os.length) (hk:k < os[i].aj.length) :
  Calls Tryz.prog 34 #[.pointer (some ⟨P,0,none⟩),.slice ao gl.length cap,.int .i64 i,.int .i64 k] w fun e w'=>e = .returned (.int .i64 ((T i os[i].aj[k].ah.toNat).getD (os[i].aj[k].off / 4).toNat 0))/\w.grownBy w' none:=by
 have hil:i < gl.length:=by rw [h.parts.len]; exact hi
 have hgl:gl.length<=48:=by rw [h.parts.len]; exact h.parts.few
 have hv:=h.parts.val os[i] (dM hi);have ro:=hv.rel k hk;have hlen:=fun s=>h.len i s hi
 obtain ⟨g0,off,hao,hc⟩:=h.parts.ptrs (by omega);subst hao;have ck:=hc i hil;obtain ⟨at_,ct,af,cf,ad,cd,wm,wD,gF,cs,ar,cr,hb,-,-,-,-,-,q6⟩:=(h.parts.obj i hil hi).open;have k6:=hb.cell 6;simp only [dH,dL,dK] at k6;obtain ⟨rg,hrg,-,hrc⟩:=lX.aB q6 (by omega);subst hrg;obtain ⟨r0,r1,r2,r3,r4⟩:=hrc k hk;have wM:=hv.jU;have j1:(i:Int) < (gl.length:Int):=by omega
 have j2:(k:Int) < (os[i].aj.length:Int):=by omega
 obtain ⟨al,ca,E,l1,-,-,l4⟩:=h.ld.main;obtain ⟨ga,hga,hgc⟩:=l4 (by omega);subst hga;obtain ⟨b,l5,l6⟩:=hgc i hil;have hab:=ro.2.2.2.2.1;have hko:=ro.1;have hsp:=yC ro.2.1;generalize os[i].aj[k]=r at *;unfold yH at hko;obtain ⟨b1,b2,b3⟩:=hab;obtain ⟨sn,hsn⟩:=Int.eq_ofNat_of_zero_le (show 0<=r.ah by omega);have s13:1<=sn/\sn<=3:=by omega
 obtain ⟨au,cu,l7,l8⟩:=l6 sn (by omega) (by omega);have hl:=hlen sn (by omega) (by omega);have hwd:(eZ os[i] sn)=yh os[i] r.ah:=by
  unfold eZ jE;rw [if_neg (by omega),hsn]
  congr 1
  omega
 rw [hwd] at hl;obtain ⟨q,hq⟩:=Int.eq_ofNat_of_zero_le (show 0<=r.off / 4 by omega);have Wm:q < (T i sn).length:=by omega
 have hsz:=EY hv sn;rw [hwd] at hsz;obtain ⟨ug,uo,Qf,huc⟩:=l8 (by omega);subst Qf;have l9:=huc q Wm;have LL:=hid (And.intro l1 (And.intro l5 (And.intro l7 l9)));have RES:=hid (show (T i r.ah.toNat).getD (r.off / 4).toNat 0=(T i sn)[q] by
  rw [hsn,hq,Int.toNat_natCast,Int.toNat_natCast,iJ,gy Wm];rfl)
 have t1:Int.tdiv r.off 4=(q:Int):=by rw [Int.tdiv_eq_ediv_of_nonneg b1,hq]
 have wq:IntKind.i64.wrap (q:Int)=(q:Int):=IntWalk.i64_in _ ⟨by omega,by omega⟩;have sn5:(sn:Int) < 5:=by omega
 have q5':(q:Int) < ((T i sn).length:Int):=by omega
 rw [hsn] at r0;clear hc hb q6 hrc h hlen hgc l1 l4 l5 l6 l7 l8 l9 huc ro hwd hl b3 hko;generalize (T i r.ah.toNat).getD (r.off / 4).toNat 0=R at *;generalize T i sn=TL at *;generalize gl[i]=bk at *;have GA:=hid (aH w (.cells #[.int .i64 sn,.int .i64 r.off,.int .i64 r.kind,.int .i64 r.sym,.int .i64 r.addend] 83) none);have BX:=hid (ye.new w #[.int .i64 sn,.int .i64 r.off,.int .i64 r.kind,.int .i64 r.sym,.int .i64 r.addend] 83);clear hsn;go_enter Tryz.func34,Tryz.ntmps34
 go_upto_region 2 with fail
 generalize w.alloc (.cells #[.int .i64 sn,.int .i64 r.off,.int .i64 r.kind,.int .i64 r.sym,.int .i64 r.addend] 83)=W1 at *;generalize w.heap.size=X at *;obtain ⟨l1,l5,l7,l9⟩:=LL.o;have m1:=yc l1 GA.o;have m5:=yc l5 GA.o;have m7:=yc l7 GA.o;have m9:=yc l9 GA.o;have x0:W1.cell? ⟨X,0,none⟩=some (.int .i64 sn):=BX.o.cell 0;have x1:W1.cell? ⟨X,1,none⟩=some (.int .i64 r.off):=BX.o.cell 1;clear l1 l5 l7 l9 LL r0 r1 r2 r3 r4 k6 ck;go_wp2
 go_quiet (fail)
 go_wp2;go_ret;exact ⟨by rw [RES.o]; rfl,yd GA.o nq⟩
end Go.Proofs.YtelehpmjhjljgaaGreatDoor
