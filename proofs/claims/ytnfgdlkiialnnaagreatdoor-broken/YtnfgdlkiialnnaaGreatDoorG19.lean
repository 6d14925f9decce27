/- Linking: which calls are short. -/
/- Linking: the layout. -/
/- Walks over package machine: a step. -/
import Derived.Test.YtnfgdlkiialnnaaGreatDoorG18
import Derived.Test.YtnfgdlkiialnnaaGreatDoorG14
namespace Go.Proofs.YtnfgdlkiialnnaaGreatDoor
open Go.RowKit

set_option maxRecDepth 100000 in
set_option maxHeartbeats 16000000 in
theorem shorten_any (Wf W0:World) (P:Nat) (bt bf bd:Int) (vm:Value) (bl gl:List Nat) (ms:List Ln.Mod) (st:Ln.Spot) (no:Int) (W:World) (h:ProgF Wf W0 P bt bf bd vm bl gl ms st no W) (hn:∀ m∈ms,MNice bl.length m) (hz:∀ m∈ms,m.short=[]) :
  Calls Tryz.prog 66 #[ptrV P] W fun e W'=>e = .returned (.tuple #[])∧ProgF Wf W0 P bt bf bd vm bl gl (Ln.shorten ms) st no W':=by
 obtain ⟨i0,hi,hz0,hz1,hz2⟩:=info_parts Tryz.infoBool
 obtain ⟨am,cm,rfl⟩:=own_form h.row
 have H0:=hid h
 have c3:W.cell? ⟨P,3,none⟩=some (.slice am bl.length cm):=h.blk.cell 3
 have hbl:=h.few
 have LO:=hid h.lenO
 have HN:=hid hn
 have HZ:=hid hz
 obtain ⟨L1,hL1⟩:∃ L1,L1=Ln.shorten ms:=⟨_,rfl⟩
 have LL:=hid (show L1.length=ms.length by rw [hL1]; simp [Ln.shorten])
 have LA:=hid (show ∀ k (h:k < ms.length) (h':k < L1.length),L1[k]={ ms[k] with short:=ms[k].obj.rels.map (Ln.shortOne ms ms[k]) } by intro k h h'; subst hL1; simp [Ln.shorten])
 have HL1:=hid hL1
 clear h hn hz hL1
 unfold ptrV
 go_enter Tryz.func66,Tryz.ntmps66
 go_wp2
 clear c3
 go_loopw [12] (fun i wr=>∃ k:Nat,k≤bl.length∧i = .int .i64 k∧ProgF Wf W0 P bt bf bd (.slice am bl.length cm) bl gl (L1.take k ++ ms.drop k) st no wr) (fun i _=>bl.length - (intOf i).toNat)
 case atStart=>exact ⟨0,Nat.zero_le _,rfl,by simpa using H0.out⟩
 case round =>
  obtain ⟨k,hk,rfl,hpa⟩:=hrel
  have HP:=hid hpa
  clear hpa H0
  by_cases hlt:k < bl.length
  ·have hko:k < ms.length:=by rw [LO.out]; exact hlt
   have hkg:k < gl.length:=by rw [HP.out.lenG]; exact hlt
   have hkL:k < L1.length:=by rw [LL.out]; exact hko
   obtain ⟨sg,off,hsg,hsc⟩:=HP.out.modsIn.ptrs (by omega)
   have ck:=hsc k hlt
   subst hsg
   have ecur:(L1.take k ++ ms.drop k)[k]'(by rw [HP.out.lenO]; exact hlt)=ms[k]:=step_at ms L1 k hko (by rw [LL.out]; omega) (by rw [HP.out.lenO]; exact hlt)
   have HM:ModAt wr bl bl[k] (gl[k]'hkg) ms[k]:=by
    have:=HP.out.mods k hlt
    rwa [ecur] at this
   have MN:=HN.out _ (List.getElem_mem hko)
   have MZ:=HZ.out _ (List.getElem_mem hko)
   obtain ⟨v1,v2,v3,v4,q0,q1,q2,-,q4,q5,q6,q7⟩:=HM
   have e7:=q7 MZ
   subst e7
   obtain ⟨at_,ct,af,cf,ad,cd,aa,ca,as_,cs,ar,cr,hb,-,-,-,-,-,p6⟩:=q1.open
   have k6:=hb.cell 6
   simp only [List.getElem?_toArray,List.getElem?_cons_succ,List.getElem?_cons_zero] at k6
   have k0:wr.cell? ⟨bl[k],0,none⟩=some (.pointer (some ⟨gl[k]'hkg,0,none⟩)):=q0.cell 0
   have M0:=hid (show ShortAt wr bl[k] (gl[k]'hkg) v1 v3 v4 ms[k].data ms[k].bss [] 0 (.slice none 0 0) wr from ⟨World.grownBy.refl _ _,q0,World.ownsRow_nil _ _ _ _,fun _=>rfl⟩)
   have PM:=hid (fun (l:List Bool) (vs:Value) (wr2:World) (hm:ShortAt wr bl[k] (gl[k]'hkg) v1 v3 v4 ms[k].data ms[k].bss (l.map Value.bool) l.length vs wr2)=>show ModAt wr2 bl bl[k] (gl[k]'hkg) { ms[k] with short:=l } from ShortAt.mod (m:=ms[k]) q0 q1 q2 q4 q5 q6 hm)
   have PK:=hid (fun (l:List Bool) (vs:Value) (wr2:World) (hm:ShortAt wr bl[k] (gl[k]'hkg) v1 v3 v4 ms[k].data ms[k].bss (l.map Value.bool) l.length vs wr2)=>show ProgF Wf W0 P bt bf bd (.slice (some ⟨sg,off,none⟩) bl.length cm) bl gl ((L1.take k ++ ms.drop k).set k { ms[k] with short:=l }) st no wr2 from
    HP.out.upd hlt (by rw [HP.out.lenO]; exact hlt) hm.gr (PM.out l vs wr2 hm) (by rw [ecur]))
   have US:=hid (show ∀ l:List Bool,((L1.take k ++ ms.drop k).set k { ms[k] with short:=l }).map Ln.unshort=ms.map Ln.unshort from fun l=>by
    have eL:L1.map Ln.unshort=ms.map Ln.unshort:=by rw [HL1.out]; unfold Ln.shorten; rw [List.map_map]; rfl
    rw [List.map_set,List.map_append,List.map_take,List.map_drop,eL,List.take_append_drop]
    have:Ln.unshort { ms[k] with short:=l }=(ms.map Ln.unshort)[k]'(by simpa using hko):=by rw [List.getElem_map]; rfl
    rw [this]
    exact List.set_getElem_self _)
   have NI:=hid (show ∀ l:List Bool,l.length≤65535→∀ x∈(L1.take k ++ ms.drop k).set k { ms[k] with short:=l },MNice bl.length x from fun l hl x hx=>by
    rcases List.mem_or_eq_of_mem_set hx with q | rfl
    ·rcases List.mem_append.1 q with q | q
     ·have q2:=List.mem_of_mem_take q
      rw [HL1.out] at q2
      unfold Ln.shorten at q2
      obtain ⟨y,hy,rfl⟩:=List.mem_map.1 q2
      exact (HN.out y hy).setShort (by rw [List.length_map]; exact (HN.out y hy).rels.1)
     ·exact HN.out x (List.mem_of_mem_drop q)
    ·exact MN.setShort hl)
   have cD:=hid (fun (l:List Bool) (hl:l.length≤65535) (vs:Value) (wr2:World) (hm:ShortAt wr bl[k] (gl[k]'hkg) v1 v3 v4 ms[k].data ms[k].bss (l.map Value.bool) l.length vs wr2) (W3:World) (hg:wr2.grownBy W3 none) (r:Lk.Rel) (hr:r∈ms[k].obj.rels)=>show Calls Tryz.prog 97 #[ptrV bl[k],relA r] W3 (fun e w'=>e = .returned (.int .i64 (Ln.distance ms ms[k] r))∧W3.grownBy w' none) by
    have d:=distance_any bl _ bl[k] (gl[k]'hkg) { ms[k] with short:=l } r W3 (((PK.out l vs wr2 hm).modsAt (NI.out l hl)).kept hg) ((PM.out l vs wr2 hm).kept hg) (MN.setShort hl) (MN.rels.2 r hr).2.1 (MN.rels.2 r hr).2.2
    refine d.mono ?_
    rintro e w' ⟨rfl,q⟩
    exact ⟨congrArg (fun z=>Ending.returned (Value.int .i64 z)) (distance_same (US.out l) rfl r),q⟩)
   have PS:=hid (fun (wr2:World) (hg:wr.grownBy wr2 (some bl[k]))=>show RelsIn wr2 ar ms[k].obj.rels from RelsIn.of_own (own_ty p6 hg (RowT.blk q0) (by decide)))
   have hrl:=MN.rels.1
   have FIN:=hid (show (L1.take k ++ ms.drop k).set k { ms[k] with short:=ms[k].obj.rels.map (Ln.shortOne ms ms[k]) }=L1.take (k+1) ++ ms.drop (k+1) by rw [← step_list ms L1 k hko hkL LL.out,LA.out k hko hkL])
   have HR:=hid (show ∀ r∈ms[k].obj.rels,r∈ms[k].obj.rels from fun r h=>h)
   have g1:(k:Int) < (bl.length:Int):=by omega
   clear hsc q0 q1 q2 q4 q5 q6 q7 hb p6 HP ecur NI US PM MN MZ
   generalize (gl[k]'hkg)=gk at *
   generalize hbb:bl[k]=bk at *
   clear hbb
   generalize hm:ms[k]=m at *
   clear hm
   go_wp2
   generalize wr=WB at *
   clear ck k0 k6
   go_loopw [24] (fun i wr2=>∃ (j:Nat) (vs:Value),j≤m.obj.rels.length∧i = .int .i64 j∧ShortAt WB bk gk v1 v3 v4 m.data m.bss (((m.obj.rels.take j).map (Ln.shortOne ms m)).map Value.bool) j vs wr2) (fun i _=>m.obj.rels.length - (intOf i).toNat)
   case atStart=>exact ⟨0,_,Nat.zero_le _,rfl,M0.out⟩
   case round =>
    obtain ⟨j,vs,hj,rfl,hme⟩:=hrel
    have HM:=hid hme
    clear hme M0
    obtain ⟨av,cv,rfl⟩:=own_form HM.out.row
    have LJ:((m.obj.rels.take j).map (Ln.shortOne ms m)).length=j:=by rw [List.length_map,List.length_take]; omega
    by_cases hlt2:j < m.obj.rels.length
    ·obtain ⟨sg2,hsg2,hgs,hcs⟩:=PS.out wr HM.out.gr (by omega)
     subst hsg2
     obtain ⟨q0,q1,q2,q3,q4⟩:=hcs j hlt2
     clear hcs
     have g2:(j:Int) < (m.obj.rels.length:Int):=by omega
     have TK:=hid (show ((m.obj.rels.take (j+1)).map (Ln.shortOne ms m)).map Value.bool=(((m.obj.rels.take j).map (Ln.shortOne ms m)).map Value.bool) ++ [Value.bool (Ln.shortOne ms m m.obj.rels[j])] by
      rw [List.take_succ_eq_append_getElem hlt2,List.map_append,List.map_append]
      simp)
     have hrm:m.obj.rels[j]∈m.obj.rels:=List.getElem_mem hlt2
     have GA:=hid (World.grownBy_alloc wr (.cells #[.int .i64 m.obj.rels[j].sect,.int .i64 m.obj.rels[j].off,.int .i64 m.obj.rels[j].kind,.int .i64 m.obj.rels[j].sym,.int .i64 m.obj.rels[j].addend] 139) none)
     have cM:=hid (cD.out ((m.obj.rels.take j).map (Ln.shortOne ms m)) (by rw [LJ]; omega) _ wr (by rw [LJ]; exact HM.out) _ GA.out m.obj.rels[j] hrm)
     have HDS:=hid (show Ln.distance ms m m.obj.rels[j]=Ln.distance ms m m.obj.rels[j] from rfl)
     generalize m.obj.rels[j]=r at *
     generalize hsl:((m.obj.rels.take j).map (Ln.shortOne ms m)).map Value.bool=sl at *
     have HM1:=hid (HM.out.kept GA.out)
     have BL1:=hid (BlkAt.new wr #[.int .i64 r.sect,.int .i64 r.off,.int .i64 r.kind,.int .i64 r.sym,.int .i64 r.addend] 139)
     clear hsl hrm
     unfold ptrV relA at cM
     obtain ⟨ds,hds⟩:∃ ds,Ln.distance ms m r=ds:=⟨_,rfl⟩
     rw [hds] at cM
     clear HDS
     have HDS:=hid hds
     clear hds
     go_wp2_with fail
     refine cM.out.mono ?_
     rintro e W6 ⟨rfl,h5⟩
     have HM6:=hid (HM1.out.kept h5)
     have B6:=hid (BL1.out.grown h5 (by simp))
     clear h5 cM q0 q1 q2 q3 q4 HM1 BL1 GA
     go_wp2
     generalize wr.heap.size=L at *
     have s2:W6.cell? ⟨L,2,none⟩=some (.int .i64 r.kind):=B6.out.cell 2
     have m2:W6.cell? ⟨bk,2,none⟩=some (.slice av j cv):=HM6.out.blk.cell 2
     by_cases e1:r.kind=4
     ·have d1:(r.kind == 4)=true:=by simpa using e1
      by_cases e2:-1015808 < ds
      ·have d2:decide (-1015808 < ds)=true:=by simpa using e2
       by_cases e3:ds < 1015808
       ·have d3:decide (ds < 1015808)=true:=by simpa using e3
        have EX:=hid (show Value.bool (Ln.shortOne ms m r) = .bool true by unfold Ln.shortOne; rw [HDS.out]; simp [e1,e2,e3])
        clear e1 e2 e3
        have A7:=grown_drew (World.grownBy_alloc W6 (.cells #[.bool true] 4) none)
        have B7:=hid (B6.out.grown A7 (by simp))
        have HM7:=hid (HM6.out.kept A7)
        have hA:=hid HM7.out.row
        have n2:(W6.alloc (.cells #[.bool true] 4)).drew.cell? ⟨bk,2,none⟩=some (.slice av j cv):=HM7.out.blk.cell 2
        have hN:Hid (∀ j u,[Value.bool true][j]?=some u→(W6.alloc (.cells #[.bool true] 4)).drew.cell? ((⟨W6.heap.size,0,none⟩:Addr).add j)=some u):=World.news_of_block (heap_alloc_new W6 (.cells #[.bool true] 4))
        have hOne:Hid (∀ u∈[Value.bool true],u.oneCell'=true):=by intro u hu; simp at hu; subst hu; rfl
        have h63:Hid (j+1≤maxLen):=by show _≤_; unfold maxLen; omega
        have hby:Hid ((j+1) * 1≤140737488355328):=by show _≤_; omega
        have hbs:Hid (WB.heap.size≤(W6.alloc (.cells #[.bool true] 4)).drew.heap.size):=HM7.out.gr.size
        have SA:Hid ((W6.alloc (.cells #[.bool true] 4)).drew.cell? ⟨L,2,none⟩=some (.int .i64 r.kind)):=B7.out.cell 2
        have STEP:=hid (fun (v':Value) (w3:World) (hown':w3.ownsRow WB.heap.size 4 1 v' (j+1) (sl ++ [.bool true])) (hg:(W6.alloc (.cells #[.bool true] 4)).drew.grownBy w3 (Value.ownBlock (.slice av j cv)))=>show ShortAt WB bk gk v1 v3 v4 m.data m.bss (sl ++ [.bool true]) (j+1) v' (w3.setCell ⟨bk,2,none⟩ v')∧BlkAt w3 L #[.int .i64 r.sect,.int .i64 r.off,.int .i64 r.kind,.int .i64 r.sym,.int .i64 r.addend] 139∧BlkAt (w3.setCell ⟨bk,2,none⟩ v') L #[.int .i64 r.sect,.int .i64 r.off,.int .i64 r.kind,.int .i64 r.sym,.int .i64 r.addend] 139∧w3.cell? ⟨bk,2,none⟩=some (.slice av j cv)∧w3.frozen? ⟨bk,2,none⟩=false by
         have st:=HM7.out.step hown' hg
         have b3:=blk_ty HM7.out.blk hg (RowT.own HM7.out.row) (by decide)
         have l3:=blk_ty B7.out hg (RowT.own HM7.out.row) (by decide)
         exact ⟨st,l3,blk_ty l3 (grown_set w3 bk 2 v') (RowT.blk b3) (by decide),b3.cell 2,b3.free 2⟩)
        clear A7 B7 HM7 HM6 B6
        refine wp_region_held_drew (S:=(fun w'=>w'.cell? ⟨L,2,none⟩=some (.int .i64 r.kind))) (by kernel_rfl) s2 ?_
        intro hS
        refine wpAnyH_take (i:=0) (v:=?_) rfl (by kernel_rfl) (by kernel_rfl) (by kernel_rfl) (fun _ _ _ h=>h) (Or.inl ⟨by kernel_rfl,?_⟩) hS ?_
        rotate_left
        ·intro w' hw'; have x2:=hw'; go_simp; with_reducible rfl
        refine wpAnyH_take (i:=1) (v:=?_) rfl (by kernel_rfl) (by kernel_rfl) (by kernel_rfl) (fun _ _ _ h=>h) (Or.inl ⟨by kernel_rfl,?_⟩) hS ?_
        rotate_left
        ·intro w' hw'; have x2:=hw'; go_simp; with_reducible rfl
        refine wpAnyH_take (i:=2) (v:=?_) rfl (by kernel_rfl) (by kernel_rfl) (by kernel_rfl) (fun _ _ _ h=>h) (Or.inl ⟨by kernel_rfl,?_⟩) hS ?_
        rotate_left
        ·intro w' hw'; have x2:=hw'; go_simp; with_reducible rfl
        refine wpAnyH_take (i:=3) (v:=?_) rfl (by kernel_rfl) (by kernel_rfl) (by kernel_rfl) (fun _ _ _ h=>h) (Or.inl ⟨by kernel_rfl,?_⟩) hS ?_
        rotate_left
        ·intro w' hw'; have x2:=hw'; go_simp; with_reducible rfl
        refine wpAnyH_take (i:=5) (v:=?_) rfl (by kernel_rfl) (by kernel_rfl) (by kernel_rfl) (fun _ _ _ h=>h) (Or.inl ⟨by kernel_rfl,?_⟩) hS ?_
        rotate_left
        ·intro w' hw'; have x2:=hw'; go_simp; with_reducible rfl
        refine wpAnyH_take (i:=6) (v:=?_) rfl (by kernel_rfl) (by kernel_rfl) (by kernel_rfl) (fun _ _ _ h=>h) (Or.inl ⟨by kernel_rfl,?_⟩) hS ?_
        rotate_left
        ·intro w' hw'; have x2:=hw'; go_simp; with_reducible rfl
        refine wpAnyH_take (i:=7) (v:=?_) rfl (by kernel_rfl) (by kernel_rfl) (by kernel_rfl) (fun _ _ _ h=>h) (Or.inl ⟨by kernel_rfl,?_⟩) hS ?_
        rotate_left
        ·intro w' hw'; have x2:=hw'; go_simp; with_reducible rfl
        refine wpAnyH_take (i:=8) (v:=?_) rfl (by kernel_rfl) (by kernel_rfl) (by kernel_rfl) (fun _ _ _ h=>h) (Or.inl ⟨by kernel_rfl,?_⟩) hS ?_
        rotate_left
        ·intro w' hw'; have x2:=hw'; go_simp; with_reducible rfl
        refine wpAnyH_take (i:=9) (v:=?_) rfl (by kernel_rfl) (by kernel_rfl) (by kernel_rfl) (fun _ _ _ h=>h) (Or.inl ⟨by kernel_rfl,?_⟩) hS ?_
        rotate_left
        ·intro w' hw'; have x2:=hw'; go_simp; with_reducible rfl
        refine wpAnyH_take (i:=10) (v:=?_) rfl (by kernel_rfl) (by kernel_rfl) (by kernel_rfl) (fun _ _ _ h=>h) (Or.inl ⟨by kernel_rfl,?_⟩) hS ?_
        rotate_left
        ·intro w' hw'; have x2:=hw'; go_simp; with_reducible rfl
        refine wpAnyH_take (i:=11) (v:=.bool true) rfl (by kernel_rfl) (by kernel_rfl) (by kernel_rfl) (fun _ _ _ h=>h) (Or.inl ⟨by kernel_rfl,fun _ _=>by kernel_rfl⟩) hS ?_
        refine wpAnyH_take (i:=12) (v:=.bool true) rfl (by kernel_rfl) (by kernel_rfl) (by kernel_rfl) (fun _ _ _ h=>h) (Or.inl ⟨by kernel_rfl,fun _ _=>by kernel_rfl⟩) hS ?_
        refine wpAnyH_take (i:=13) (v:=?_) rfl (by kernel_rfl) (by kernel_rfl) (by kernel_rfl) (fun _ _ _ h=>h) (Or.inl ⟨by kernel_rfl,?_⟩) hS ?_
        rotate_left
        ·intro w' hw'; have x2:=hw'; go_simp; with_reducible rfl
        refine wpAnyH_take (i:=14) (v:=?_) rfl (by kernel_rfl) (by kernel_rfl) (by kernel_rfl) (fun _ _ _ h=>h) (Or.inl ⟨by kernel_rfl,?_⟩) hS ?_
        rotate_left
        ·intro w' hw'; have x2:=hw'; go_simp; with_reducible rfl
        refine wpAnyH_take (i:=15) (v:=.bool true) rfl (by kernel_rfl) (by kernel_rfl) (by kernel_rfl) (fun _ _ _ h=>h) (Or.inl ⟨by kernel_rfl,fun _ _=>by kernel_rfl⟩) hS ?_
        refine wpAnyH_ready (rs:=[4,16]) (by kernel_rfl) (by simp) ?_
        refine AllReadyH.cons rfl (fun K hK=>?_) (AllReadyH.cons rfl (fun K hK=>?_) AllReadyH.nil)
        ·go_simp
         refine hK.out _ _ hS (fun hS2=>?_)
         clear hK K
         refine wpAnyH_ready (rs:=[16]) (by kernel_rfl) (by simp) ?_
         refine AllReadyH.cons rfl (fun K hK=>?_) AllReadyH.nil
         go_simp
         refine hK.out _ _ SA.out (fun hS3=>?_)
         clear hK K hS2 hS3
         refine wpAnyH_ready (rs:=[17]) (by kernel_rfl) (by simp) ?_
         refine AllReadyH.cons rfl (fun K hK=>?_) AllReadyH.nil
         rw [if_pos (by kernel_rfl)]
         refine wp_append_own_at _ (.tmp 35) (.tmp 47) 120 rfl WB.heap.size 4 i0 (.bool false) 1 1 Tryz.underlying120 hi hz0 hz1 hz2 rfl (by decide) (.slice av j cv) j sl (by kernel_rfl) hA.out ⟨W6.heap.size,0,none⟩ 1 1 [.bool true] (by kernel_rfl) rfl hN.out hOne.out h63.out hby.out hbs.out ?_
         intro v' w3 hown' hgrow _ _
         obtain ⟨av',cv',rfl⟩:=own_form hown'
         obtain ⟨t1,t2,t3,t4,t5⟩:=STEP.out _ _ hown' hgrow
         have T1:=hid t1
         have T3:Hid ((w3.setCell ⟨bk,2,none⟩ (.slice av' (j+1) cv')).cell? ⟨L,2,none⟩=some (.int .i64 r.kind)):=t3.cell 2
         refine hK.out _ _ (t2.cell 2) (fun hS4=>?_)
         clear hK K hown' hgrow t1 t2 t3
         refine wpAnyH_take (i:=18) (v:=?_) rfl (by kernel_rfl) (by kernel_rfl) (by kernel_rfl) (fun _ _ _ h=>h) (Or.inl ⟨by kernel_rfl,?_⟩) hS4 ?_
         rotate_left
         ·intro w' hw'; have x2:=hw'; go_simp; with_reducible rfl
         refine wpAnyH_take (i:=19) (v:=?_) rfl (by kernel_rfl) (by kernel_rfl) (by kernel_rfl) (fun _ _ _ h=>h) (Or.inl ⟨by kernel_rfl,?_⟩) hS4 ?_
         rotate_left
         ·intro w' hw'; have x2:=hw'; go_simp; with_reducible rfl
         refine wpAnyH_ready (rs:=[20]) (by kernel_rfl) (by simp) ?_
         refine AllReadyH.cons rfl (fun K hK=>?_) AllReadyH.nil
         go_simp
         refine hK.out _ _ T3.out (fun hS5=>?_)
         clear hK K
         refine wpAnyH_done (by kernel_rfl) ?_ _
         try simp only [put_mk,List.getElem_toArray,List.getElem_cons_succ,List.getElem_cons_zero,List.setIfInBounds_toArray,List.set_cons_succ,List.set_cons_zero]
         clear hA hN hOne h63 hby hbs m2 n2 t4 t5 hS4 hS5 hS STEP SA T3
         go_wp2
         go_roundw
         case rel=>exact ⟨j+1,_,by omega,by go_num,by rw [TK.out,EX.out]; exact T1.out⟩
         case measure=>simp [intOf]; omega
        ·go_simp
         refine hK.out _ _ SA.out (fun hS2=>?_)
         clear hK K
         refine wpAnyH_ready (rs:=[4]) (by kernel_rfl) (by simp) ?_
         refine AllReadyH.cons rfl (fun K hK=>?_) AllReadyH.nil
         go_simp
         refine hK.out _ _ SA.out (fun hS3=>?_)
         clear hK K hS2 hS3
         refine wpAnyH_ready (rs:=[17]) (by kernel_rfl) (by simp) ?_
         refine AllReadyH.cons rfl (fun K hK=>?_) AllReadyH.nil
         rw [if_pos (by kernel_rfl)]
         refine wp_append_own_at _ (.tmp 35) (.tmp 47) 120 rfl WB.heap.size 4 i0 (.bool false) 1 1 Tryz.underlying120 hi hz0 hz1 hz2 rfl (by decide) (.slice av j cv) j sl (by kernel_rfl) hA.out ⟨W6.heap.size,0,none⟩ 1 1 [.bool true] (by kernel_rfl) rfl hN.out hOne.out h63.out hby.out hbs.out ?_
         intro v' w3 hown' hgrow _ _
         obtain ⟨av',cv',rfl⟩:=own_form hown'
         obtain ⟨t1,t2,t3,t4,t5⟩:=STEP.out _ _ hown' hgrow
         have T1:=hid t1
         have T3:Hid ((w3.setCell ⟨bk,2,none⟩ (.slice av' (j+1) cv')).cell? ⟨L,2,none⟩=some (.int .i64 r.kind)):=t3.cell 2
         refine hK.out _ _ (t2.cell 2) (fun hS4=>?_)
         clear hK K hown' hgrow t1 t2 t3
         refine wpAnyH_take (i:=18) (v:=?_) rfl (by kernel_rfl) (by kernel_rfl) (by kernel_rfl) (fun _ _ _ h=>h) (Or.inl ⟨by kernel_rfl,?_⟩) hS4 ?_
         rotate_left
         ·intro w' hw'; have x2:=hw'; go_simp; with_reducible rfl
         refine wpAnyH_take (i:=19) (v:=?_) rfl (by kernel_rfl) (by kernel_rfl) (by kernel_rfl) (fun _ _ _ h=>h) (Or.inl ⟨by kernel_rfl,?_⟩) hS4 ?_
         rotate_left
         ·intro w' hw'; have x2:=hw'; go_simp; with_reducible rfl
         refine wpAnyH_ready (rs:=[20]) (by kernel_rfl) (by simp) ?_
         refine AllReadyH.cons rfl (fun K hK=>?_) AllReadyH.nil
         go_simp
         refine hK.out _ _ T3.out (fun hS5=>?_)
         clear hK K
         refine wpAnyH_done (by kernel_rfl) ?_ _
         try simp only [put_mk,List.getElem_toArray,List.getElem_cons_succ,List.getElem_cons_zero,List.setIfInBounds_toArray,List.set_cons_succ,List.set_cons_zero]
         clear hA hN hOne h63 hby hbs m2 n2 t4 t5 hS4 hS5 hS STEP SA T3
         go_wp2
         go_roundw
         case rel=>exact ⟨j+1,_,by omega,by go_num,by rw [TK.out,EX.out]; exact T1.out⟩
         case measure=>simp [intOf]; omega
       ·have d3:decide (ds < 1015808)=false:=by simpa using e3
        have EX:=hid (show Value.bool (Ln.shortOne ms m r) = .bool false by unfold Ln.shortOne; rw [HDS.out]; simp [e3])
        clear e1 e2 e3
        have A7:=grown_drew (World.grownBy_alloc W6 (.cells #[.bool false] 4) none)
        have B7:=hid (B6.out.grown A7 (by simp))
        have HM7:=hid (HM6.out.kept A7)
        have hA:=hid HM7.out.row
        have n2:(W6.alloc (.cells #[.bool false] 4)).drew.cell? ⟨bk,2,none⟩=some (.slice av j cv):=HM7.out.blk.cell 2
        have hN:Hid (∀ j u,[Value.bool false][j]?=some u→(W6.alloc (.cells #[.bool false] 4)).drew.cell? ((⟨W6.heap.size,0,none⟩:Addr).add j)=some u):=World.news_of_block (heap_alloc_new W6 (.cells #[.bool false] 4))
        have hOne:Hid (∀ u∈[Value.bool false],u.oneCell'=true):=by intro u hu; simp at hu; subst hu; rfl
        have h63:Hid (j+1≤maxLen):=by show _≤_; unfold maxLen; omega
        have hby:Hid ((j+1) * 1≤140737488355328):=by show _≤_; omega
        have hbs:Hid (WB.heap.size≤(W6.alloc (.cells #[.bool false] 4)).drew.heap.size):=HM7.out.gr.size
        have SA:Hid ((W6.alloc (.cells #[.bool false] 4)).drew.cell? ⟨L,2,none⟩=some (.int .i64 r.kind)):=B7.out.cell 2
        have STEP:=hid (fun (v':Value) (w3:World) (hown':w3.ownsRow WB.heap.size 4 1 v' (j+1) (sl ++ [.bool false])) (hg:(W6.alloc (.cells #[.bool false] 4)).drew.grownBy w3 (Value.ownBlock (.slice av j cv)))=>show ShortAt WB bk gk v1 v3 v4 m.data m.bss (sl ++ [.bool false]) (j+1) v' (w3.setCell ⟨bk,2,none⟩ v')∧BlkAt w3 L #[.int .i64 r.sect,.int .i64 r.off,.int .i64 r.kind,.int .i64 r.sym,.int .i64 r.addend] 139∧BlkAt (w3.setCell ⟨bk,2,none⟩ v') L #[.int .i64 r.sect,.int .i64 r.off,.int .i64 r.kind,.int .i64 r.sym,.int .i64 r.addend] 139∧w3.cell? ⟨bk,2,none⟩=some (.slice av j cv)∧w3.frozen? ⟨bk,2,none⟩=false by
         have st:=HM7.out.step hown' hg
         have b3:=blk_ty HM7.out.blk hg (RowT.own HM7.out.row) (by decide)
         have l3:=blk_ty B7.out hg (RowT.own HM7.out.row) (by decide)
         exact ⟨st,l3,blk_ty l3 (grown_set w3 bk 2 v') (RowT.blk b3) (by decide),b3.cell 2,b3.free 2⟩)
        clear A7 B7 HM7 HM6 B6
        refine wp_region_held_drew (S:=(fun w'=>w'.cell? ⟨L,2,none⟩=some (.int .i64 r.kind))) (by kernel_rfl) s2 ?_
        intro hS
        refine wpAnyH_take (i:=0) (v:=?_) rfl (by kernel_rfl) (by kernel_rfl) (by kernel_rfl) (fun _ _ _ h=>h) (Or.inl ⟨by kernel_rfl,?_⟩) hS ?_
        rotate_left
        ·intro w' hw'; have x2:=hw'; go_simp; with_reducible rfl
        refine wpAnyH_take (i:=1) (v:=?_) rfl (by kernel_rfl) (by kernel_rfl) (by kernel_rfl) (fun _ _ _ h=>h) (Or.inl ⟨by kernel_rfl,?_⟩) hS ?_
        rotate_left
        ·intro w' hw'; have x2:=hw'; go_simp; with_reducible rfl
        refine wpAnyH_take (i:=2) (v:=?_) rfl (by kernel_rfl) (by kernel_rfl) (by kernel_rfl) (fun _ _ _ h=>h) (Or.inl ⟨by kernel_rfl,?_⟩) hS ?_
        rotate_left
        ·intro w' hw'; have x2:=hw'; go_simp; with_reducible rfl
        refine wpAnyH_take (i:=3) (v:=?_) rfl (by kernel_rfl) (by kernel_rfl) (by kernel_rfl) (fun _ _ _ h=>h) (Or.inl ⟨by kernel_rfl,?_⟩) hS ?_
        rotate_left
        ·intro w' hw'; have x2:=hw'; go_simp; with_reducible rfl
        refine wpAnyH_take (i:=5) (v:=?_) rfl (by kernel_rfl) (by kernel_rfl) (by kernel_rfl) (fun _ _ _ h=>h) (Or.inl ⟨by kernel_rfl,?_⟩) hS ?_
        rotate_left
        ·intro w' hw'; have x2:=hw'; go_simp; with_reducible rfl
        refine wpAnyH_take (i:=6) (v:=?_) rfl (by kernel_rfl) (by kernel_rfl) (by kernel_rfl) (fun _ _ _ h=>h) (Or.inl ⟨by kernel_rfl,?_⟩) hS ?_
        rotate_left
        ·intro w' hw'; have x2:=hw'; go_simp; with_reducible rfl
        refine wpAnyH_take (i:=7) (v:=?_) rfl (by kernel_rfl) (by kernel_rfl) (by kernel_rfl) (fun _ _ _ h=>h) (Or.inl ⟨by kernel_rfl,?_⟩) hS ?_
        rotate_left
        ·intro w' hw'; have x2:=hw'; go_simp; with_reducible rfl
        refine wpAnyH_take (i:=8) (v:=?_) rfl (by kernel_rfl) (by kernel_rfl) (by kernel_rfl) (fun _ _ _ h=>h) (Or.inl ⟨by kernel_rfl,?_⟩) hS ?_
        rotate_left
        ·intro w' hw'; have x2:=hw'; go_simp; with_reducible rfl
        refine wpAnyH_take (i:=9) (v:=?_) rfl (by kernel_rfl) (by kernel_rfl) (by kernel_rfl) (fun _ _ _ h=>h) (Or.inl ⟨by kernel_rfl,?_⟩) hS ?_
        rotate_left
        ·intro w' hw'; have x2:=hw'; go_simp; with_reducible rfl
        refine wpAnyH_take (i:=10) (v:=?_) rfl (by kernel_rfl) (by kernel_rfl) (by kernel_rfl) (fun _ _ _ h=>h) (Or.inl ⟨by kernel_rfl,?_⟩) hS ?_
        rotate_left
        ·intro w' hw'; have x2:=hw'; go_simp; with_reducible rfl
        refine wpAnyH_take (i:=11) (v:=.bool true) rfl (by kernel_rfl) (by kernel_rfl) (by kernel_rfl) (fun _ _ _ h=>h) (Or.inl ⟨by kernel_rfl,fun _ _=>by kernel_rfl⟩) hS ?_
        refine wpAnyH_take (i:=12) (v:=.bool true) rfl (by kernel_rfl) (by kernel_rfl) (by kernel_rfl) (fun _ _ _ h=>h) (Or.inl ⟨by kernel_rfl,fun _ _=>by kernel_rfl⟩) hS ?_
        refine wpAnyH_take (i:=13) (v:=?_) rfl (by kernel_rfl) (by kernel_rfl) (by kernel_rfl) (fun _ _ _ h=>h) (Or.inl ⟨by kernel_rfl,?_⟩) hS ?_
        rotate_left
        ·intro w' hw'; have x2:=hw'; go_simp; with_reducible rfl
        refine wpAnyH_take (i:=14) (v:=?_) rfl (by kernel_rfl) (by kernel_rfl) (by kernel_rfl) (fun _ _ _ h=>h) (Or.inl ⟨by kernel_rfl,?_⟩) hS ?_
        rotate_left
        ·intro w' hw'; have x2:=hw'; go_simp; with_reducible rfl
        refine wpAnyH_take (i:=15) (v:=.bool false) rfl (by kernel_rfl) (by kernel_rfl) (by kernel_rfl) (fun _ _ _ h=>h) (Or.inl ⟨by kernel_rfl,fun _ _=>by kernel_rfl⟩) hS ?_
        refine wpAnyH_ready (rs:=[4,16]) (by kernel_rfl) (by simp) ?_
        refine AllReadyH.cons rfl (fun K hK=>?_) (AllReadyH.cons rfl (fun K hK=>?_) AllReadyH.nil)
        ·go_simp
         refine hK.out _ _ hS (fun hS2=>?_)
         clear hK K
         refine wpAnyH_ready (rs:=[16]) (by kernel_rfl) (by simp) ?_
         refine AllReadyH.cons rfl (fun K hK=>?_) AllReadyH.nil
         go_simp
         refine hK.out _ _ SA.out (fun hS3=>?_)
         clear hK K hS2 hS3
         refine wpAnyH_ready (rs:=[17]) (by kernel_rfl) (by simp) ?_
         refine AllReadyH.cons rfl (fun K hK=>?_) AllReadyH.nil
         rw [if_pos (by kernel_rfl)]
         refine wp_append_own_at _ (.tmp 35) (.tmp 47) 120 rfl WB.heap.size 4 i0 (.bool false) 1 1 Tryz.underlying120 hi hz0 hz1 hz2 rfl (by decide) (.slice av j cv) j sl (by kernel_rfl) hA.out ⟨W6.heap.size,0,none⟩ 1 1 [.bool false] (by kernel_rfl) rfl hN.out hOne.out h63.out hby.out hbs.out ?_
         intro v' w3 hown' hgrow _ _
         obtain ⟨av',cv',rfl⟩:=own_form hown'
         obtain ⟨t1,t2,t3,t4,t5⟩:=STEP.out _ _ hown' hgrow
         have T1:=hid t1
         have T3:Hid ((w3.setCell ⟨bk,2,none⟩ (.slice av' (j+1) cv')).cell? ⟨L,2,none⟩=some (.int .i64 r.kind)):=t3.cell 2
         refine hK.out _ _ (t2.cell 2) (fun hS4=>?_)
         clear hK K hown' hgrow t1 t2 t3
         refine wpAnyH_take (i:=18) (v:=?_) rfl (by kernel_rfl) (by kernel_rfl) (by kernel_rfl) (fun _ _ _ h=>h) (Or.inl ⟨by kernel_rfl,?_⟩) hS4 ?_
         rotate_left
         ·intro w' hw'; have x2:=hw'; go_simp; with_reducible rfl
         refine wpAnyH_take (i:=19) (v:=?_) rfl (by kernel_rfl) (by kernel_rfl) (by kernel_rfl) (fun _ _ _ h=>h) (Or.inl ⟨by kernel_rfl,?_⟩) hS4 ?_
         rotate_left
         ·intro w' hw'; have x2:=hw'; go_simp; with_reducible rfl
         refine wpAnyH_ready (rs:=[20]) (by kernel_rfl) (by simp) ?_
         refine AllReadyH.cons rfl (fun K hK=>?_) AllReadyH.nil
         go_simp
         refine hK.out _ _ T3.out (fun hS5=>?_)
         clear hK K
         refine wpAnyH_done (by kernel_rfl) ?_ _
         try simp only [put_mk,List.getElem_toArray,List.getElem_cons_succ,List.getElem_cons_zero,List.setIfInBounds_toArray,List.set_cons_succ,List.set_cons_zero]
         clear hA hN hOne h63 hby hbs m2 n2 t4 t5 hS4 hS5 hS STEP SA T3
         go_wp2
         go_roundw
         case rel=>exact ⟨j+1,_,by omega,by go_num,by rw [TK.out,EX.out]; exact T1.out⟩
         case measure=>simp [intOf]; omega
        ·go_simp
         refine hK.out _ _ SA.out (fun hS2=>?_)
         clear hK K
         refine wpAnyH_ready (rs:=[4]) (by kernel_rfl) (by simp) ?_
         refine AllReadyH.cons rfl (fun K hK=>?_) AllReadyH.nil
         go_simp
         refine hK.out _ _ SA.out (fun hS3=>?_)
         clear hK K hS2 hS3
         refine wpAnyH_ready (rs:=[17]) (by kernel_rfl) (by simp) ?_
         refine AllReadyH.cons rfl (fun K hK=>?_) AllReadyH.nil
         rw [if_pos (by kernel_rfl)]
         refine wp_append_own_at _ (.tmp 35) (.tmp 47) 120 rfl WB.heap.size 4 i0 (.bool false) 1 1 Tryz.underlying120 hi hz0 hz1 hz2 rfl (by decide) (.slice av j cv) j sl (by kernel_rfl) hA.out ⟨W6.heap.size,0,none⟩ 1 1 [.bool false] (by kernel_rfl) rfl hN.out hOne.out h63.out hby.out hbs.out ?_
         intro v' w3 hown' hgrow _ _
         obtain ⟨av',cv',rfl⟩:=own_form hown'
         obtain ⟨t1,t2,t3,t4,t5⟩:=STEP.out _ _ hown' hgrow
         have T1:=hid t1
         have T3:Hid ((w3.setCell ⟨bk,2,none⟩ (.slice av' (j+1) cv')).cell? ⟨L,2,none⟩=some (.int .i64 r.kind)):=t3.cell 2
         refine hK.out _ _ (t2.cell 2) (fun hS4=>?_)
         clear hK K hown' hgrow t1 t2 t3
         refine wpAnyH_take (i:=18) (v:=?_) rfl (by kernel_rfl) (by kernel_rfl) (by kernel_rfl) (fun _ _ _ h=>h) (Or.inl ⟨by kernel_rfl,?_⟩) hS4 ?_
         rotate_left
         ·intro w' hw'; have x2:=hw'; go_simp; with_reducible rfl
         refine wpAnyH_take (i:=19) (v:=?_) rfl (by kernel_rfl) (by kernel_rfl) (by kernel_rfl) (fun _ _ _ h=>h) (Or.inl ⟨by kernel_rfl,?_⟩) hS4 ?_
         rotate_left
         ·intro w' hw'; have x2:=hw'; go_simp; with_reducible rfl
         refine wpAnyH_ready (rs:=[20]) (by kernel_rfl) (by simp) ?_
         refine AllReadyH.cons rfl (fun K hK=>?_) AllReadyH.nil
         go_simp
         refine hK.out _ _ T3.out (fun hS5=>?_)
         clear hK K
         refine wpAnyH_done (by kernel_rfl) ?_ _
         try simp only [put_mk,List.getElem_toArray,List.getElem_cons_succ,List.getElem_cons_zero,List.setIfInBounds_toArray,List.set_cons_succ,List.set_cons_zero]
         clear hA hN hOne h63 hby hbs m2 n2 t4 t5 hS4 hS5 hS STEP SA T3
         go_wp2
         go_roundw
         case rel=>exact ⟨j+1,_,by omega,by go_num,by rw [TK.out,EX.out]; exact T1.out⟩
         case measure=>simp [intOf]; omega
      ·have d2:decide (-1015808 < ds)=false:=by simpa using e2
       have EX:=hid (show Value.bool (Ln.shortOne ms m r) = .bool false by unfold Ln.shortOne; rw [HDS.out]; simp [e2])
       clear e1 e2
       have A7:=grown_drew (World.grownBy_alloc W6 (.cells #[.bool false] 4) none)
       have B7:=hid (B6.out.grown A7 (by simp))
       have HM7:=hid (HM6.out.kept A7)
       have hA:=hid HM7.out.row
       have n2:(W6.alloc (.cells #[.bool false] 4)).drew.cell? ⟨bk,2,none⟩=some (.slice av j cv):=HM7.out.blk.cell 2
       have hN:Hid (∀ j u,[Value.bool false][j]?=some u→(W6.alloc (.cells #[.bool false] 4)).drew.cell? ((⟨W6.heap.size,0,none⟩:Addr).add j)=some u):=World.news_of_block (heap_alloc_new W6 (.cells #[.bool false] 4))
       have hOne:Hid (∀ u∈[Value.bool false],u.oneCell'=true):=by intro u hu; simp at hu; subst hu; rfl
       have h63:Hid (j+1≤maxLen):=by show _≤_; unfold maxLen; omega
       have hby:Hid ((j+1) * 1≤140737488355328):=by show _≤_; omega
       have hbs:Hid (WB.heap.size≤(W6.alloc (.cells #[.bool false] 4)).drew.heap.size):=HM7.out.gr.size
       have SA:Hid ((W6.alloc (.cells #[.bool false] 4)).drew.cell? ⟨L,2,none⟩=some (.int .i64 r.kind)):=B7.out.cell 2
       have STEP:=hid (fun (v':Value) (w3:World) (hown':w3.ownsRow WB.heap.size 4 1 v' (j+1) (sl ++ [.bool false])) (hg:(W6.alloc (.cells #[.bool false] 4)).drew.grownBy w3 (Value.ownBlock (.slice av j cv)))=>show ShortAt WB bk gk v1 v3 v4 m.data m.bss (sl ++ [.bool false]) (j+1) v' (w3.setCell ⟨bk,2,none⟩ v')∧BlkAt w3 L #[.int .i64 r.sect,.int .i64 r.off,.int .i64 r.kind,.int .i64 r.sym,.int .i64 r.addend] 139∧BlkAt (w3.setCell ⟨bk,2,none⟩ v') L #[.int .i64 r.sect,.int .i64 r.off,.int .i64 r.kind,.int .i64 r.sym,.int .i64 r.addend] 139∧w3.cell? ⟨bk,2,none⟩=some (.slice av j cv)∧w3.frozen? ⟨bk,2,none⟩=false by
        have st:=HM7.out.step hown' hg
        have b3:=blk_ty HM7.out.blk hg (RowT.own HM7.out.row) (by decide)
        have l3:=blk_ty B7.out hg (RowT.own HM7.out.row) (by decide)
        exact ⟨st,l3,blk_ty l3 (grown_set w3 bk 2 v') (RowT.blk b3) (by decide),b3.cell 2,b3.free 2⟩)
       clear A7 B7 HM7 HM6 B6
       refine wp_region_held_drew (S:=(fun w'=>w'.cell? ⟨L,2,none⟩=some (.int .i64 r.kind))) (by kernel_rfl) s2 ?_
       intro hS
       refine wpAnyH_take (i:=0) (v:=?_) rfl (by kernel_rfl) (by kernel_rfl) (by kernel_rfl) (fun _ _ _ h=>h) (Or.inl ⟨by kernel_rfl,?_⟩) hS ?_
       rotate_left
       ·intro w' hw'; have x2:=hw'; go_simp; with_reducible rfl
       refine wpAnyH_take (i:=1) (v:=?_) rfl (by kernel_rfl) (by kernel_rfl) (by kernel_rfl) (fun _ _ _ h=>h) (Or.inl ⟨by kernel_rfl,?_⟩) hS ?_
       rotate_left
       ·intro w' hw'; have x2:=hw'; go_simp; with_reducible rfl
       refine wpAnyH_take (i:=2) (v:=?_) rfl (by kernel_rfl) (by kernel_rfl) (by kernel_rfl) (fun _ _ _ h=>h) (Or.inl ⟨by kernel_rfl,?_⟩) hS ?_
       rotate_left
       ·intro w' hw'; have x2:=hw'; go_simp; with_reducible rfl
       refine wpAnyH_take (i:=3) (v:=?_) rfl (by kernel_rfl) (by kernel_rfl) (by kernel_rfl) (fun _ _ _ h=>h) (Or.inl ⟨by kernel_rfl,?_⟩) hS ?_
       rotate_left
       ·intro w' hw'; have x2:=hw'; go_simp; with_reducible rfl
       refine wpAnyH_take (i:=5) (v:=?_) rfl (by kernel_rfl) (by kernel_rfl) (by kernel_rfl) (fun _ _ _ h=>h) (Or.inl ⟨by kernel_rfl,?_⟩) hS ?_
       rotate_left
       ·intro w' hw'; have x2:=hw'; go_simp; with_reducible rfl
       refine wpAnyH_take (i:=6) (v:=?_) rfl (by kernel_rfl) (by kernel_rfl) (by kernel_rfl) (fun _ _ _ h=>h) (Or.inl ⟨by kernel_rfl,?_⟩) hS ?_
       rotate_left
       ·intro w' hw'; have x2:=hw'; go_simp; with_reducible rfl
       refine wpAnyH_take (i:=7) (v:=?_) rfl (by kernel_rfl) (by kernel_rfl) (by kernel_rfl) (fun _ _ _ h=>h) (Or.inl ⟨by kernel_rfl,?_⟩) hS ?_
       rotate_left
       ·intro w' hw'; have x2:=hw'; go_simp; with_reducible rfl
       refine wpAnyH_take (i:=8) (v:=?_) rfl (by kernel_rfl) (by kernel_rfl) (by kernel_rfl) (fun _ _ _ h=>h) (Or.inl ⟨by kernel_rfl,?_⟩) hS ?_
       rotate_left
       ·intro w' hw'; have x2:=hw'; go_simp; with_reducible rfl
       refine wpAnyH_take (i:=9) (v:=?_) rfl (by kernel_rfl) (by kernel_rfl) (by kernel_rfl) (fun _ _ _ h=>h) (Or.inl ⟨by kernel_rfl,?_⟩) hS ?_
       rotate_left
       ·intro w' hw'; have x2:=hw'; go_simp; with_reducible rfl
       refine wpAnyH_take (i:=10) (v:=?_) rfl (by kernel_rfl) (by kernel_rfl) (by kernel_rfl) (fun _ _ _ h=>h) (Or.inl ⟨by kernel_rfl,?_⟩) hS ?_
       rotate_left
       ·intro w' hw'; have x2:=hw'; go_simp; with_reducible rfl
       refine wpAnyH_take (i:=11) (v:=.bool false) rfl (by kernel_rfl) (by kernel_rfl) (by kernel_rfl) (fun _ _ _ h=>h) (Or.inl ⟨by kernel_rfl,fun _ _=>by kernel_rfl⟩) hS ?_
       refine wpAnyH_take (i:=12) (v:=.bool false) rfl (by kernel_rfl) (by kernel_rfl) (by kernel_rfl) (fun _ _ _ h=>h) (Or.inl ⟨by kernel_rfl,fun _ _=>by kernel_rfl⟩) hS ?_
       refine wpAnyH_take (i:=13) (v:=undef) rfl (by kernel_rfl) (by kernel_rfl) (by kernel_rfl) (fun _ _ _ h=>h) (Or.inr ⟨by kernel_rfl,rfl⟩) hS ?_
       refine wpAnyH_take (i:=14) (v:=undef) rfl (by kernel_rfl) (by kernel_rfl) (by kernel_rfl) (fun _ _ _ h=>h) (Or.inr ⟨by kernel_rfl,rfl⟩) hS ?_
       refine wpAnyH_take (i:=15) (v:=.bool false) rfl (by kernel_rfl) (by kernel_rfl) (by kernel_rfl) (fun _ _ _ h=>h) (Or.inl ⟨by kernel_rfl,fun _ _=>by kernel_rfl⟩) hS ?_
       refine wpAnyH_ready (rs:=[4,16]) (by kernel_rfl) (by simp) ?_
       refine AllReadyH.cons rfl (fun K hK=>?_) (AllReadyH.cons rfl (fun K hK=>?_) AllReadyH.nil)
       ·go_simp
        refine hK.out _ _ hS (fun hS2=>?_)
        clear hK K
        refine wpAnyH_ready (rs:=[16]) (by kernel_rfl) (by simp) ?_
        refine AllReadyH.cons rfl (fun K hK=>?_) AllReadyH.nil
        go_simp
        refine hK.out _ _ SA.out (fun hS3=>?_)
        clear hK K hS2 hS3
        refine wpAnyH_ready (rs:=[17]) (by kernel_rfl) (by simp) ?_
        refine AllReadyH.cons rfl (fun K hK=>?_) AllReadyH.nil
        rw [if_pos (by kernel_rfl)]
        refine wp_append_own_at _ (.tmp 35) (.tmp 47) 120 rfl WB.heap.size 4 i0 (.bool false) 1 1 Tryz.underlying120 hi hz0 hz1 hz2 rfl (by decide) (.slice av j cv) j sl (by kernel_rfl) hA.out ⟨W6.heap.size,0,none⟩ 1 1 [.bool false] (by kernel_rfl) rfl hN.out hOne.out h63.out hby.out hbs.out ?_
        intro v' w3 hown' hgrow _ _
        obtain ⟨av',cv',rfl⟩:=own_form hown'
        obtain ⟨t1,t2,t3,t4,t5⟩:=STEP.out _ _ hown' hgrow
        have T1:=hid t1
        have T3:Hid ((w3.setCell ⟨bk,2,none⟩ (.slice av' (j+1) cv')).cell? ⟨L,2,none⟩=some (.int .i64 r.kind)):=t3.cell 2
        refine hK.out _ _ (t2.cell 2) (fun hS4=>?_)
        clear hK K hown' hgrow t1 t2 t3
        refine wpAnyH_take (i:=18) (v:=?_) rfl (by kernel_rfl) (by kernel_rfl) (by kernel_rfl) (fun _ _ _ h=>h) (Or.inl ⟨by kernel_rfl,?_⟩) hS4 ?_
        rotate_left
        ·intro w' hw'; have x2:=hw'; go_simp; with_reducible rfl
        refine wpAnyH_take (i:=19) (v:=?_) rfl (by kernel_rfl) (by kernel_rfl) (by kernel_rfl) (fun _ _ _ h=>h) (Or.inl ⟨by kernel_rfl,?_⟩) hS4 ?_
        rotate_left
        ·intro w' hw'; have x2:=hw'; go_simp; with_reducible rfl
        refine wpAnyH_ready (rs:=[20]) (by kernel_rfl) (by simp) ?_
        refine AllReadyH.cons rfl (fun K hK=>?_) AllReadyH.nil
        go_simp
        refine hK.out _ _ T3.out (fun hS5=>?_)
        clear hK K
        refine wpAnyH_done (by kernel_rfl) ?_ _
        try simp only [put_mk,List.getElem_toArray,List.getElem_cons_succ,List.getElem_cons_zero,List.setIfInBounds_toArray,List.set_cons_succ,List.set_cons_zero]
        clear hA hN hOne h63 hby hbs m2 n2 t4 t5 hS4 hS5 hS STEP SA T3
        go_wp2
        go_roundw
        case rel=>exact ⟨j+1,_,by omega,by go_num,by rw [TK.out,EX.out]; exact T1.out⟩
        case measure=>simp [intOf]; omega
       ·go_simp
        refine hK.out _ _ SA.out (fun hS2=>?_)
        clear hK K
        refine wpAnyH_ready (rs:=[4]) (by kernel_rfl) (by simp) ?_
        refine AllReadyH.cons rfl (fun K hK=>?_) AllReadyH.nil
        go_simp
        refine hK.out _ _ SA.out (fun hS3=>?_)
        clear hK K hS2 hS3
        refine wpAnyH_ready (rs:=[17]) (by kernel_rfl) (by simp) ?_
        refine AllReadyH.cons rfl (fun K hK=>?_) AllReadyH.nil
        rw [if_pos (by kernel_rfl)]
        refine wp_append_own_at _ (.tmp 35) (.tmp 47) 120 rfl WB.heap.size 4 i0 (.bool false) 1 1 Tryz.underlying120 hi hz0 hz1 hz2 rfl (by decide) (.slice av j cv) j sl (by kernel_rfl) hA.out ⟨W6.heap.size,0,none⟩ 1 1 [.bool false] (by kernel_rfl) rfl hN.out hOne.out h63.out hby.out hbs.out ?_
        intro v' w3 hown' hgrow _ _
        obtain ⟨av',cv',rfl⟩:=own_form hown'
        obtain ⟨t1,t2,t3,t4,t5⟩:=STEP.out _ _ hown' hgrow
        have T1:=hid t1
        have T3:Hid ((w3.setCell ⟨bk,2,none⟩ (.slice av' (j+1) cv')).cell? ⟨L,2,none⟩=some (.int .i64 r.kind)):=t3.cell 2
        refine hK.out _ _ (t2.cell 2) (fun hS4=>?_)
        clear hK K hown' hgrow t1 t2 t3
        refine wpAnyH_take (i:=18) (v:=?_) rfl (by kernel_rfl) (by kernel_rfl) (by kernel_rfl) (fun _ _ _ h=>h) (Or.inl ⟨by kernel_rfl,?_⟩) hS4 ?_
        rotate_left
        ·intro w' hw'; have x2:=hw'; go_simp; with_reducible rfl
        refine wpAnyH_take (i:=19) (v:=?_) rfl (by kernel_rfl) (by kernel_rfl) (by kernel_rfl) (fun _ _ _ h=>h) (Or.inl ⟨by kernel_rfl,?_⟩) hS4 ?_
        rotate_left
        ·intro w' hw'; have x2:=hw'; go_simp; with_reducible rfl
        refine wpAnyH_ready (rs:=[20]) (by kernel_rfl) (by simp) ?_
        refine AllReadyH.cons rfl (fun K hK=>?_) AllReadyH.nil
        go_simp
        refine hK.out _ _ T3.out (fun hS5=>?_)
        clear hK K
        refine wpAnyH_done (by kernel_rfl) ?_ _
        try simp only [put_mk,List.getElem_toArray,List.getElem_cons_succ,List.getElem_cons_zero,List.setIfInBounds_toArray,List.set_cons_succ,List.set_cons_zero]
        clear hA hN hOne h63 hby hbs m2 n2 t4 t5 hS4 hS5 hS STEP SA T3
        go_wp2
        go_roundw
        case rel=>exact ⟨j+1,_,by omega,by go_num,by rw [TK.out,EX.out]; exact T1.out⟩
        case measure=>simp [intOf]; omega
     ·have d1:(r.kind == 4)=false:=by simpa using e1
      have EX:=hid (show Value.bool (Ln.shortOne ms m r) = .bool false by unfold Ln.shortOne; simp [e1])
      clear e1
      have A7:=grown_drew (World.grownBy_alloc W6 (.cells #[.bool false] 4) none)
      have B7:=hid (B6.out.grown A7 (by simp))
      have HM7:=hid (HM6.out.kept A7)
      have hA:=hid HM7.out.row
      have n2:(W6.alloc (.cells #[.bool false] 4)).drew.cell? ⟨bk,2,none⟩=some (.slice av j cv):=HM7.out.blk.cell 2
      have hN:Hid (∀ j u,[Value.bool false][j]?=some u→(W6.alloc (.cells #[.bool false] 4)).drew.cell? ((⟨W6.heap.size,0,none⟩:Addr).add j)=some u):=World.news_of_block (heap_alloc_new W6 (.cells #[.bool false] 4))
      have hOne:Hid (∀ u∈[Value.bool false],u.oneCell'=true):=by intro u hu; simp at hu; subst hu; rfl
      have h63:Hid (j+1≤maxLen):=by show _≤_; unfold maxLen; omega
      have hby:Hid ((j+1) * 1≤140737488355328):=by show _≤_; omega
      have hbs:Hid (WB.heap.size≤(W6.alloc (.cells #[.bool false] 4)).drew.heap.size):=HM7.out.gr.size
      have SA:Hid ((W6.alloc (.cells #[.bool false] 4)).drew.cell? ⟨L,2,none⟩=some (.int .i64 r.kind)):=B7.out.cell 2
      have STEP:=hid (fun (v':Value) (w3:World) (hown':w3.ownsRow WB.heap.size 4 1 v' (j+1) (sl ++ [.bool false])) (hg:(W6.alloc (.cells #[.bool false] 4)).drew.grownBy w3 (Value.ownBlock (.slice av j cv)))=>show ShortAt WB bk gk v1 v3 v4 m.data m.bss (sl ++ [.bool false]) (j+1) v' (w3.setCell ⟨bk,2,none⟩ v')∧BlkAt w3 L #[.int .i64 r.sect,.int .i64 r.off,.int .i64 r.kind,.int .i64 r.sym,.int .i64 r.addend] 139∧BlkAt (w3.setCell ⟨bk,2,none⟩ v') L #[.int .i64 r.sect,.int .i64 r.off,.int .i64 r.kind,.int .i64 r.sym,.int .i64 r.addend] 139∧w3.cell? ⟨bk,2,none⟩=some (.slice av j cv)∧w3.frozen? ⟨bk,2,none⟩=false by
       have st:=HM7.out.step hown' hg
       have b3:=blk_ty HM7.out.blk hg (RowT.own HM7.out.row) (by decide)
       have l3:=blk_ty B7.out hg (RowT.own HM7.out.row) (by decide)
       exact ⟨st,l3,blk_ty l3 (grown_set w3 bk 2 v') (RowT.blk b3) (by decide),b3.cell 2,b3.free 2⟩)
      clear A7 B7 HM7 HM6 B6
      refine wp_region_held_drew (S:=(fun w'=>w'.cell? ⟨L,2,none⟩=some (.int .i64 r.kind))) (by kernel_rfl) s2 ?_
      intro hS
      refine wpAnyH_take (i:=0) (v:=?_) rfl (by kernel_rfl) (by kernel_rfl) (by kernel_rfl) (fun _ _ _ h=>h) (Or.inl ⟨by kernel_rfl,?_⟩) hS ?_
      rotate_left
      ·intro w' hw'; have x2:=hw'; go_simp; with_reducible rfl
      refine wpAnyH_take (i:=1) (v:=?_) rfl (by kernel_rfl) (by kernel_rfl) (by kernel_rfl) (fun _ _ _ h=>h) (Or.inl ⟨by kernel_rfl,?_⟩) hS ?_
      rotate_left
      ·intro w' hw'; have x2:=hw'; go_simp; with_reducible rfl
      refine wpAnyH_take (i:=2) (v:=?_) rfl (by kernel_rfl) (by kernel_rfl) (by kernel_rfl) (fun _ _ _ h=>h) (Or.inl ⟨by kernel_rfl,?_⟩) hS ?_
      rotate_left
      ·intro w' hw'; have x2:=hw'; go_simp; with_reducible rfl
      refine wpAnyH_take (i:=3) (v:=?_) rfl (by kernel_rfl) (by kernel_rfl) (by kernel_rfl) (fun _ _ _ h=>h) (Or.inl ⟨by kernel_rfl,?_⟩) hS ?_
      rotate_left
      ·intro w' hw'; have x2:=hw'; go_simp; with_reducible rfl
      refine wpAnyH_take (i:=5) (v:=?_) rfl (by kernel_rfl) (by kernel_rfl) (by kernel_rfl) (fun _ _ _ h=>h) (Or.inl ⟨by kernel_rfl,?_⟩) hS ?_
      rotate_left
      ·intro w' hw'; have x2:=hw'; go_simp; with_reducible rfl
      refine wpAnyH_take (i:=6) (v:=?_) rfl (by kernel_rfl) (by kernel_rfl) (by kernel_rfl) (fun _ _ _ h=>h) (Or.inl ⟨by kernel_rfl,?_⟩) hS ?_
      rotate_left
      ·intro w' hw'; have x2:=hw'; go_simp; with_reducible rfl
      refine wpAnyH_take (i:=7) (v:=?_) rfl (by kernel_rfl) (by kernel_rfl) (by kernel_rfl) (fun _ _ _ h=>h) (Or.inl ⟨by kernel_rfl,?_⟩) hS ?_
      rotate_left
      ·intro w' hw'; have x2:=hw'; go_simp; with_reducible rfl
      refine wpAnyH_take (i:=8) (v:=?_) rfl (by kernel_rfl) (by kernel_rfl) (by kernel_rfl) (fun _ _ _ h=>h) (Or.inl ⟨by kernel_rfl,?_⟩) hS ?_
      rotate_left
      ·intro w' hw'; have x2:=hw'; go_simp; with_reducible rfl
      refine wpAnyH_take (i:=9) (v:=undef) rfl (by kernel_rfl) (by kernel_rfl) (by kernel_rfl) (fun _ _ _ h=>h) (Or.inr ⟨by kernel_rfl,rfl⟩) hS ?_
      refine wpAnyH_take (i:=10) (v:=undef) rfl (by kernel_rfl) (by kernel_rfl) (by kernel_rfl) (fun _ _ _ h=>h) (Or.inr ⟨by kernel_rfl,rfl⟩) hS ?_
      refine wpAnyH_take (i:=11) (v:=.bool false) rfl (by kernel_rfl) (by kernel_rfl) (by kernel_rfl) (fun _ _ _ h=>h) (Or.inl ⟨by kernel_rfl,fun _ _=>by kernel_rfl⟩) hS ?_
      refine wpAnyH_take (i:=12) (v:=.bool false) rfl (by kernel_rfl) (by kernel_rfl) (by kernel_rfl) (fun _ _ _ h=>h) (Or.inl ⟨by kernel_rfl,fun _ _=>by kernel_rfl⟩) hS ?_
      refine wpAnyH_take (i:=13) (v:=undef) rfl (by kernel_rfl) (by kernel_rfl) (by kernel_rfl) (fun _ _ _ h=>h) (Or.inr ⟨by kernel_rfl,rfl⟩) hS ?_
      refine wpAnyH_take (i:=14) (v:=undef) rfl (by kernel_rfl) (by kernel_rfl) (by kernel_rfl) (fun _ _ _ h=>h) (Or.inr ⟨by kernel_rfl,rfl⟩) hS ?_
      refine wpAnyH_take (i:=15) (v:=.bool false) rfl (by kernel_rfl) (by kernel_rfl) (by kernel_rfl) (fun _ _ _ h=>h) (Or.inl ⟨by kernel_rfl,fun _ _=>by kernel_rfl⟩) hS ?_
      refine wpAnyH_ready (rs:=[4,16]) (by kernel_rfl) (by simp) ?_
      refine AllReadyH.cons rfl (fun K hK=>?_) (AllReadyH.cons rfl (fun K hK=>?_) AllReadyH.nil)
      ·go_simp
       refine hK.out _ _ hS (fun hS2=>?_)
       clear hK K
       refine wpAnyH_ready (rs:=[16]) (by kernel_rfl) (by simp) ?_
       refine AllReadyH.cons rfl (fun K hK=>?_) AllReadyH.nil
       go_simp
       refine hK.out _ _ SA.out (fun hS3=>?_)
       clear hK K hS2 hS3
       refine wpAnyH_ready (rs:=[17]) (by kernel_rfl) (by simp) ?_
       refine AllReadyH.cons rfl (fun K hK=>?_) AllReadyH.nil
       rw [if_pos (by kernel_rfl)]
       refine wp_append_own_at _ (.tmp 35) (.tmp 47) 120 rfl WB.heap.size 4 i0 (.bool false) 1 1 Tryz.underlying120 hi hz0 hz1 hz2 rfl (by decide) (.slice av j cv) j sl (by kernel_rfl) hA.out ⟨W6.heap.size,0,none⟩ 1 1 [.bool false] (by kernel_rfl) rfl hN.out hOne.out h63.out hby.out hbs.out ?_
       intro v' w3 hown' hgrow _ _
       obtain ⟨av',cv',rfl⟩:=own_form hown'
       obtain ⟨t1,t2,t3,t4,t5⟩:=STEP.out _ _ hown' hgrow
       have T1:=hid t1
       have T3:Hid ((w3.setCell ⟨bk,2,none⟩ (.slice av' (j+1) cv')).cell? ⟨L,2,none⟩=some (.int .i64 r.kind)):=t3.cell 2
       refine hK.out _ _ (t2.cell 2) (fun hS4=>?_)
       clear hK K hown' hgrow t1 t2 t3
       refine wpAnyH_take (i:=18) (v:=?_) rfl (by kernel_rfl) (by kernel_rfl) (by kernel_rfl) (fun _ _ _ h=>h) (Or.inl ⟨by kernel_rfl,?_⟩) hS4 ?_
       rotate_left
       ·intro w' hw'; have x2:=hw'; go_simp; with_reducible rfl
       refine wpAnyH_take (i:=19) (v:=?_) rfl (by kernel_rfl) (by kernel_rfl) (by kernel_rfl) (fun _ _ _ h=>h) (Or.inl ⟨by kernel_rfl,?_⟩) hS4 ?_
       rotate_left
       ·intro w' hw'; have x2:=hw'; go_simp; with_reducible rfl
       refine wpAnyH_ready (rs:=[20]) (by kernel_rfl) (by simp) ?_
       refine AllReadyH.cons rfl (fun K hK=>?_) AllReadyH.nil
       go_simp
       refine hK.out _ _ T3.out (fun hS5=>?_)
       clear hK K
       refine wpAnyH_done (by kernel_rfl) ?_ _
       try simp only [put_mk,List.getElem_toArray,List.getElem_cons_succ,List.getElem_cons_zero,List.setIfInBounds_toArray,List.set_cons_succ,List.set_cons_zero]
       clear hA hN hOne h63 hby hbs m2 n2 t4 t5 hS4 hS5 hS STEP SA T3
       go_wp2
       go_roundw
       case rel=>exact ⟨j+1,_,by omega,by go_num,by rw [TK.out,EX.out]; exact T1.out⟩
       case measure=>simp [intOf]; omega
      ·go_simp
       refine hK.out _ _ SA.out (fun hS2=>?_)
       clear hK K
       refine wpAnyH_ready (rs:=[4]) (by kernel_rfl) (by simp) ?_
       refine AllReadyH.cons rfl (fun K hK=>?_) AllReadyH.nil
       go_simp
       refine hK.out _ _ SA.out (fun hS3=>?_)
       clear hK K hS2 hS3
       refine wpAnyH_ready (rs:=[17]) (by kernel_rfl) (by simp) ?_
       refine AllReadyH.cons rfl (fun K hK=>?_) AllReadyH.nil
       rw [if_pos (by kernel_rfl)]
       refine wp_append_own_at _ (.tmp 35) (.tmp 47) 120 rfl WB.heap.size 4 i0 (.bool false) 1 1 Tryz.underlying120 hi hz0 hz1 hz2 rfl (by decide) (.slice av j cv) j sl (by kernel_rfl) hA.out ⟨W6.heap.size,0,none⟩ 1 1 [.bool false] (by kernel_rfl) rfl hN.out hOne.out h63.out hby.out hbs.out ?_
       intro v' w3 hown' hgrow _ _
       obtain ⟨av',cv',rfl⟩:=own_form hown'
       obtain ⟨t1,t2,t3,t4,t5⟩:=STEP.out _ _ hown' hgrow
       have T1:=hid t1
       have T3:Hid ((w3.setCell ⟨bk,2,none⟩ (.slice av' (j+1) cv')).cell? ⟨L,2,none⟩=some (.int .i64 r.kind)):=t3.cell 2
       refine hK.out _ _ (t2.cell 2) (fun hS4=>?_)
       clear hK K hown' hgrow t1 t2 t3
       refine wpAnyH_take (i:=18) (v:=?_) rfl (by kernel_rfl) (by kernel_rfl) (by kernel_rfl) (fun _ _ _ h=>h) (Or.inl ⟨by kernel_rfl,?_⟩) hS4 ?_
       rotate_left
       ·intro w' hw'; have x2:=hw'; go_simp; with_reducible rfl
       refine wpAnyH_take (i:=19) (v:=?_) rfl (by kernel_rfl) (by kernel_rfl) (by kernel_rfl) (fun _ _ _ h=>h) (Or.inl ⟨by kernel_rfl,?_⟩) hS4 ?_
       rotate_left
       ·intro w' hw'; have x2:=hw'; go_simp; with_reducible rfl
       refine wpAnyH_ready (rs:=[20]) (by kernel_rfl) (by simp) ?_
       refine AllReadyH.cons rfl (fun K hK=>?_) AllReadyH.nil
       go_simp
       refine hK.out _ _ T3.out (fun hS5=>?_)
       clear hK K
       refine wpAnyH_done (by kernel_rfl) ?_ _
       try simp only [put_mk,List.getElem_toArray,List.getElem_cons_succ,List.getElem_cons_zero,List.setIfInBounds_toArray,List.set_cons_succ,List.set_cons_zero]
       clear hA hN hOne h63 hby hbs m2 n2 t4 t5 hS4 hS5 hS STEP SA T3
       go_wp2
       go_roundw
       case rel=>exact ⟨j+1,_,by omega,by go_num,by rw [TK.out,EX.out]; exact T1.out⟩
       case measure=>simp [intOf]; omega
    ·obtain rfl:j=m.obj.rels.length:=by omega
     have g3:decide ((m.obj.rels.length:Int) < (m.obj.rels.length:Int))=false:=by simp
     have PA:=hid (PK.out ((m.obj.rels.take m.obj.rels.length).map (Ln.shortOne ms m)) _ wr (by rw [LJ]; exact HM.out))
     rw [List.take_length,FIN.out] at PA
     clear LJ
     go_wp2
     go_roundw
     case rel=>exact ⟨k+1,by omega,by go_num,PA.out⟩
     case measure=>simp [intOf]; omega
  ·obtain rfl:k=bl.length:=by omega
   have g3:decide ((bl.length:Int) < (bl.length:Int))=false:=by simp
   have HP1:=hid (show ProgF Wf W0 P bt bf bd (.slice am bl.length cm) bl gl L1 st no wr by
    have:=HP.out
    rwa [List.drop_of_length_le (by rw [LO.out]; exact Nat.le_refl _),List.append_nil,List.take_of_length_le (by rw [LL.out,LO.out]; exact Nat.le_refl _)] at this)
   clear HP
   go_wp2
   go_end0
   rw [← HL1.out]
   exact ⟨rfl,HP1.out⟩

end Go.Proofs.YtnfgdlkiialnnaaGreatDoor

namespace Go.Proofs.YtnfgdlkiialnnaaGreatDoor
open Go.RowKit

theorem layMods_short:∀ (ms:List Ln.Mod) (t f d:Int),(Ln.layMods ms t f d).map Ln.Mod.short=ms.map Ln.Mod.short:=by
 intro ms
 induction ms with
 | nil=>intro t f d; rfl
 | cons m ms ih=>intro t f d; unfold Ln.layMods; rw [List.map_cons,ih,List.map_cons]; rfl
theorem layBss_short:∀ (ms:List Ln.Mod) (b:Int),(Ln.layBss ms b).map Ln.Mod.short=ms.map Ln.Mod.short:=by
 intro ms
 induction ms with
 | nil=>intro b; rfl
 | cons m ms ih=>intro b; unfold Ln.layBss; rw [List.map_cons,ih,List.map_cons]
theorem layBss_obj:∀ (ms:List Ln.Mod) (b:Int),(Ln.layBss ms b).map Ln.Mod.obj=ms.map Ln.Mod.obj:=by
 intro ms
 induction ms with
 | nil=>intro b; rfl
 | cons m ms ih=>intro b; unfold Ln.layBss; rw [List.map_cons,ih,List.map_cons]
theorem lay_obj (ms:List Ln.Mod) (t f d:Int):(Ln.lay t f d ms).map Ln.Mod.obj=ms.map Ln.Mod.obj:=by unfold Ln.lay; rw [layBss_obj,layMods_obj]
theorem lay_short (ms:List Ln.Mod) (t f d:Int):(Ln.lay t f d ms).map Ln.Mod.short=ms.map Ln.Mod.short:=by unfold Ln.lay; rw [layBss_short,layMods_short]
theorem shorten_obj (ms:List Ln.Mod):(Ln.shorten ms).map Ln.Mod.obj=ms.map Ln.Mod.obj:=by unfold Ln.shorten; rw [List.map_map]; rfl
theorem valid_same {ms ms':List Ln.Mod} (h:ms'.map Ln.Mod.obj=ms.map Ln.Mod.obj) (hv:∀ m∈ms,Valid m.obj):∀ m∈ms',Valid m.obj:=by
 intro m hm
 have:m.obj∈ms.map Ln.Mod.obj:=by rw [← h]; exact List.mem_map_of_mem hm
 obtain ⟨x,hx,e⟩:=List.mem_map.1 this
 rw [← e]
 exact hv x hx
theorem dataEnd_range:∀ (ms:List Ln.Mod) (d:Int),(∀ m∈ms,Valid m.obj)→0≤d→d+5000 * ms.length≤562949953421312→d≤Ln.dataEnd ms d∧Ln.dataEnd ms d≤d+5000 * ms.length:=by
 intro ms
 induction ms with
 | nil=>intro d _ _ _; simp [Ln.dataEnd]
 | cons m ms ih =>
  intro d hv h0 h1
  simp only [List.length_cons] at h1 ⊢
  unfold Ln.dataEnd
  have r:=rup_range d (Ln.border m.obj 3) h0 (by omega) (borderI_vals _)
  have hl:m.obj.data.length≤64:=(hv m (by simp)).1.1.2.2
  have q:=ih (Ln.rup d (Ln.border m.obj 3)+4 * m.obj.data.length) (fun x hx=>hv x (by simp [hx])) (by omega) (by omega)
  omega
theorem layMods_nice (n:Nat):∀ (ms:List Ln.Mod) (t f d:Int),(∀ m∈ms,MNice n m)→(∀ m∈ms,Valid m.obj)→0≤t→t+5000 * ms.length≤562949953421312→0≤f→f+5000 * ms.length≤562949953421312→0≤d→d+5000 * ms.length≤562949953421312→∀ m∈Ln.layMods ms t f d,MNice n m:=by
 intro ms
 induction ms with
 | nil=>intro t f d _ _ _ _ _ _ _ _ m hm; simp [Ln.layMods] at hm
 | cons x ms ih =>
  intro t f d hn hv a0 a1 b0 b1 c0 c1 m hm
  simp only [List.length_cons] at a1 b1 c1
  have vx:=hv x (by simp)
  have r1:=lay_range vx 1 (.inl rfl) t a0 (by omega)
  have r2:=lay_range vx 2 (.inr rfl) f b0 (by omega)
  have r3:=rup_range d (Ln.border x.obj 3) c0 (by omega) (borderI_vals _)
  have hl:x.obj.data.length≤64:=vx.1.1.2.2
  unfold Ln.layMods at hm
  rcases List.mem_cons.1 hm with rfl | hm
  ·have s1:=MNice.setText (ps:=Ln.layPlaces x 1 t) (hn x (by simp)) (by omega) (fun p hp=>by have:=r1.2.2 p hp; omega)
   have s2:=MNice.setFar (ps:=Ln.layPlaces x 2 f) s1 (by omega) (fun p hp=>by have:=r2.2.2 p hp; omega)
   exact MNice.setData (x:=Ln.rup d (Ln.border x.obj 3)) s2 ⟨by omega,by omega⟩
  ·exact ih _ _ _ (fun y hy=>hn y (by simp [hy])) (fun y hy=>hv y (by simp [hy])) (by omega) (by omega) (by omega) (by omega) (by omega) (by omega) m hm
theorem layBss_nice (n:Nat):∀ (ms:List Ln.Mod) (b:Int),(∀ m∈ms,MNice n m)→(∀ m∈ms,Valid m.obj)→0≤b→b+5000 * ms.length≤562949953421312→∀ m∈Ln.layBss ms b,MNice n m:=by
 intro ms
 induction ms with
 | nil=>intro b _ _ _ _ m hm; simp [Ln.layBss] at hm
 | cons x ms ih =>
  intro b hn hv a0 a1 m hm
  simp only [List.length_cons] at a1
  have vx:=hv x (by simp)
  have r3:=rup_range b (Ln.border x.obj 4) a0 (by omega) (borderI_vals _)
  have hl:=vx.1.2.1
  unfold Ln.layBss at hm
  rcases List.mem_cons.1 hm with rfl | hm
  ·exact (hn x (by simp)).setBss ⟨by omega,by omega⟩
  ·exact ih _ (fun y hy=>hn y (by simp [hy])) (fun y hy=>hv y (by simp [hy])) (by omega) (by omega) m hm
theorem lay_nice {n:Nat} {ms:List Ln.Mod} {t f d:Int} (hn:∀ m∈ms,MNice n m) (hv:∀ m∈ms,Valid m.obj) (hl:ms.length≤4096) (ht:0≤t∧t≤4294967296) (hf:0≤f∧f≤4294967296) (hd:0≤d∧d≤4294967296):∀ m∈Ln.lay t f d ms,MNice n m:=by
 have r:=dataEnd_range ms d hv hd.1 (by omega)
 exact layBss_nice n _ _ (layMods_nice n ms t f d hn hv ht.1 (by omega) hf.1 (by omega) hd.1 (by omega)) (valid_same (layMods_obj ms t f d) hv) (by omega) (by rw [layMods_len]; omega)
theorem shorten_nice {n:Nat} {ms:List Ln.Mod} (hn:∀ m∈ms,MNice n m):∀ m∈Ln.shorten ms,MNice n m:=by
 intro m hm
 unfold Ln.shorten at hm
 obtain ⟨y,hy,rfl⟩:=List.mem_map.1 hm
 exact (hn y hy).setShort (by rw [List.length_map]; exact (hn y hy).rels.1)

set_option maxRecDepth 100000 in
set_option maxHeartbeats 4000000 in
theorem layout_any (Wf W0:World) (P:Nat) (bt bf bd:Int) (vm:Value) (bl gl:List Nat) (ms:List Ln.Mod) (st:Ln.Spot) (no:Int) (W:World) (h:ProgF Wf W0 P bt bf bd vm bl gl ms st no W) (hn:∀ m∈ms,MNice bl.length m) (hv:∀ m∈ms,Valid m.obj) (hz:∀ m∈ms,m.short=[])
  (hbt:0≤bt∧bt≤4294967296) (hbf:0≤bf∧bf≤4294967296) (hbd:0≤bd∧bd≤4294967296) :
  Calls Tryz.prog 43 #[ptrV P] W fun e W'=>e = .returned (.tuple #[])∧ProgF Wf W0 P bt bf bd vm bl gl (Ln.layout bt bf bd ms) st (Ln.noughts bd (Ln.shorten (Ln.lay bt bf bd ms))) W':=by
 have hl:ms.length≤4096:=by rw [h.lenO]; exact h.few
 have n1:=lay_nice hn hv hl hbt hbf hbd
 have v1:=valid_same (lay_obj ms bt bf bd) hv
 have z1:∀ m∈Ln.lay bt bf bd ms,m.short=[]:=by
  intro m hm
  have:m.short∈ms.map Ln.Mod.short:=by rw [← lay_short ms bt bf bd]; exact List.mem_map_of_mem hm
  obtain ⟨x,hx,e⟩:=List.mem_map.1 this
  rw [← e]
  exact hz x hx
 have c1:=hid (layAll_any Wf W0 P bt bf bd vm bl gl ms st no W h hn hv hbt hbf hbd)
 have c2:=hid (fun W2 no2 (h2:ProgF Wf W0 P bt bf bd vm bl gl (Ln.lay bt bf bd ms) st no2 W2)=>shorten_any Wf W0 P bt bf bd vm bl gl _ st no2 W2 h2 n1 z1)
 have c3:=hid (fun W2 no2 (h2:ProgF Wf W0 P bt bf bd vm bl gl (Ln.shorten (Ln.lay bt bf bd ms)) st no2 W2)=>layAll_any Wf W0 P bt bf bd vm bl gl _ st no2 W2 h2 (shorten_nice n1) (valid_same (shorten_obj _) v1) hbt hbf hbd)
 have E:=hid (show Ln.layout bt bf bd ms=Ln.lay bt bf bd (Ln.shorten (Ln.lay bt bf bd ms)) from rfl)
 clear h hn hv hz n1 v1 z1 hbt hbf hbd hl
 unfold ptrV at *
 go_enter Tryz.func43,Tryz.ntmps43
 go_wp2_with fail
 refine c1.out.mono ?_
 rintro e W2 ⟨rfl,h2⟩
 have H2:=hid h2
 clear h2 c1
 go_wp2_with fail
 refine (c2.out _ _ H2.out).mono ?_
 rintro e W3 ⟨rfl,h3⟩
 have H3:=hid h3
 clear h3 c2
 go_wp2_with fail
 refine (c3.out _ _ H3.out).mono ?_
 rintro e W4 ⟨rfl,h4⟩
 have H4:=hid h4
 clear h4 c3
 go_wp2
 go_end0
 rw [E.out]
 exact ⟨rfl,H4.out⟩

end Go.Proofs.YtnfgdlkiialnnaaGreatDoor

namespace Go.Proofs.YtnfgdlkiialnnaaGreatDoor
open Go.RowKit

theorem rng_rdF (f n:Int) (h0:0≤n) (h1:n≤4294967295):0≤rdF f n∧rdF f n < 32:=by
 unfold rdF
 split
 ·rw [low (n / 128) 5 (by decide) 31 32 rfl rfl (by omega) (by omega)]; omega
 ·decide
theorem rng_rs1F (f n:Int) (h0:0≤n) (h1:n≤4294967295):0≤rs1F f n∧rs1F f n < 32:=by
 unfold rs1F
 split
 ·rw [low (n / 32768) 5 (by decide) 31 32 rfl rfl (by omega) (by omega)]; omega
 ·decide
theorem rng_rs2F (f n:Int) (h0:0≤n) (h1:n≤4294967295):0≤rs2F f n∧rs2F f n < 32:=by
 unfold rs2F
 split
 ·rw [low (n / 1048576) 5 (by decide) 31 32 rfl rfl (by omega) (by omega)]; omega
 ·decide
end Go.Proofs.YtnfgdlkiialnnaaGreatDoor
