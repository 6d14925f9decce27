/- Linking: which calls are short. -/
/- Linking: the layout. -/
/- Walks over package machine: a step. -/
/- Linking: words with other numbers. -/
import Derived.Test.YtpgklkhgfcjceaaGreatDoorG18
import Derived.Test.YtpgklkhgfcjceaaGreatDoorG14
import Derived.Test.YtpgklkhgfcjceaaGreatDoorG16
namespace Go.Proofs.YtpgklkhgfcjceaaGreatDoor
open Go.RowKit
set_option maxRecDepth 100000 in
set_option maxHeartbeats 16000000 in
theorem ylr (Wf W0:World) (P:Nat) (bt bf bd:Int) (vm:Value) (bl gl:List Nat) (ms:List Ln.Mod) (st:Ln.Spot) (no:Int) (W:World) (h:yT Wf W0 P bt bf bd vm bl gl ms st no W) (hn:∀ m∈ms,yI bl.length m) (hz:∀ m∈ms,m.short=[]) :
  Calls Tryz.prog 71 #[ptrV P] W fun e W'=>e = .returned (.tuple #[])/\yT Wf W0 P bt bf bd vm bl gl (Ln.shorten ms) st no W':=by
 obtain ⟨i0,hi,hz0,hz1,hz2⟩:=info_parts Tryz.infoBool
 obtain ⟨am,cm,rfl⟩:=yh h.row
 have H0:=hid h
 have c3:W.cell? ⟨P,3,none⟩=some (.slice am bl.length cm):=h.blk.cell 3
 have hbl:=h.few
 have LO:=hid h.lenO
 have HN:=hid hn
 have HZ:=hid hz
 obtain ⟨L1,hL1⟩:∃ L1,L1=Ln.shorten ms:=⟨_,rfl⟩
 have LL:=hid (show L1.length=ms.length by rw [hL1]; simp [Ln.shorten])
 have LA:=hid (show ∀ k (h:k < ms.length) (h':k < L1.length),L1[k]={ ms[k] with short:=ms[k].obj.rels.map (Ln.shortOne ms ms[k]) } by intro k h h'; subst hL1; simp [Ln.shorten])
 have HL1:=hid hL1
 clear h hn hz hL1
 unfold ptrV
 go_enter Tryz.func71,Tryz.ntmps71
 go_wp2
 clear c3
 go_loopw [12] (fun i wr=>∃ k:Nat,k<=bl.length/\i = .int .i64 k/\yT Wf W0 P bt bf bd (.slice am bl.length cm) bl gl (L1.take k ++ ms.drop k) st no wr) (fun i _=>bl.length - (intOf i).toNat)
 case atStart=>exact ⟨0,Nat.zero_le _,rfl,by simpa using H0.out⟩
 case round =>
  obtain ⟨k,hk,rfl,hpa⟩:=hrel
  have HP:=hid hpa
  clear hpa H0
  by_cases hlt:k < bl.length
  ·have hko:k < ms.length:=by rw [LO.out]; exact hlt
   have hkg:k < gl.length:=by rw [HP.out.lenG]; exact hlt
   have hkL:k < L1.length:=by rw [LL.out]; exact hko
   obtain ⟨sg,off,hsg,hsc⟩:=HP.out.modsIn.ptrs (by omega)
   have ck:=hsc k hlt
   subst hsg
   have ecur:(L1.take k ++ ms.drop k)[k]'(by rw [HP.out.lenO]; exact hlt)=ms[k]:=ydP ms L1 k hko (by rw [LL.out]; omega) (by rw [HP.out.lenO]; exact hlt)
   have HM:yD wr bl bl[k] (gl[k]'hkg) ms[k]:=by
    have:=HP.out.mods k hlt
    rwa [ecur] at this
   have MN:=HN.out _ (ysr hko)
   have MZ:=HZ.out _ (ysr hko)
   obtain ⟨v1,v2,v3,v4,q0,q1,q2,-,q4,q5,q6,q7⟩:=HM
   have e7:=q7 MZ
   subst e7
   obtain ⟨at_,ct,af,cf,ad,cd,aa,ca,as_,cs,ar,cr,hb,-,-,-,-,-,p6⟩:=q1.open
   have k6:=hb.cell 6
   simp only [ysk,ysl,ysj] at k6
   have k0:wr.cell? ⟨bl[k],0,none⟩=some (.pointer (some ⟨gl[k]'hkg,0,none⟩)):=q0.cell 0
   have M0:=hid (show yaB wr bl[k] (gl[k]'hkg) v1 v3 v4 ms[k].data ms[k].bss [] 0 (.slice none 0 0) wr from ⟨World.grownBy.refl _ _,q0,World.ownsRow_nil _ _ _ _,fun _=>rfl⟩)
   have PM:=hid (fun (l:List Bool) (vs:Value) (wr2:World) (hm:yaB wr bl[k] (gl[k]'hkg) v1 v3 v4 ms[k].data ms[k].bss (l.map Value.bool) l.length vs wr2)=>show yD wr2 bl bl[k] (gl[k]'hkg) { ms[k] with short:=l } from yaB.mod (m:=ms[k]) q0 q1 q2 q4 q5 q6 hm)
   have PK:=hid (fun (l:List Bool) (vs:Value) (wr2:World) (hm:yaB wr bl[k] (gl[k]'hkg) v1 v3 v4 ms[k].data ms[k].bss (l.map Value.bool) l.length vs wr2)=>show yT Wf W0 P bt bf bd (.slice (some ⟨sg,off,none⟩) bl.length cm) bl gl ((L1.take k ++ ms.drop k).set k { ms[k] with short:=l }) st no wr2 from
    HP.out.upd hlt (by rw [HP.out.lenO]; exact hlt) hm.gr (PM.out l vs wr2 hm) (by rw [ecur]))
   have US:=hid (show ∀ l:List Bool,((L1.take k ++ ms.drop k).set k { ms[k] with short:=l }).map Ln.unshort=ms.map Ln.unshort from fun l=>by
    have eL:L1.map Ln.unshort=ms.map Ln.unshort:=by rw [HL1.out]; unfold Ln.shorten; rw [List.map_map]; rfl
    rw [List.map_set,List.map_append,List.map_take,List.map_drop,eL,List.take_append_drop]
    have:Ln.unshort { ms[k] with short:=l }=(ms.map Ln.unshort)[k]'(by simpa using hko):=by rw [List.getElem_map]; rfl
    rw [this]
    exact List.set_getElem_self _)
   have NI:=hid (show ∀ l:List Bool,l.length<=65535->∀ x∈(L1.take k ++ ms.drop k).set k { ms[k] with short:=l },yI bl.length x from fun l hl x hx=>by
    rcases List.mem_or_eq_of_mem_set hx with q | rfl
    ·rcases List.mem_append.1 q with q | q
     ·have q2:=List.mem_of_mem_take q
      rw [HL1.out] at q2
      unfold Ln.shorten at q2
      obtain ⟨y,hy,rfl⟩:=List.mem_map.1 q2
      exact (HN.out y hy).setShort (by rw [ysv]; exact (HN.out y hy).rels.1)
     ·exact HN.out x (List.mem_of_mem_drop q)
    ·exact MN.setShort hl)
   have cD:=hid (fun (l:List Bool) (hl:l.length<=65535) (vs:Value) (wr2:World) (hm:yaB wr bl[k] (gl[k]'hkg) v1 v3 v4 ms[k].data ms[k].bss (l.map Value.bool) l.length vs wr2) (W3:World) (hg:wr2.grownBy W3 none) (r:Lk.Rel) (hr:r∈ms[k].obj.rels)=>show Calls Tryz.prog 107 #[ptrV bl[k],relA r] W3 (fun e w'=>e = .returned (.int .i64 (Ln.distance ms ms[k] r))/\W3.grownBy w' none) by
    have d:=ycS bl _ bl[k] (gl[k]'hkg) { ms[k] with short:=l } r W3 (((PK.out l vs wr2 hm).modsAt (NI.out l hl)).kept hg) ((PM.out l vs wr2 hm).kept hg) (MN.setShort hl) (MN.rels.2 r hr).2.1 (MN.rels.2 r hr).2.2
    refine d.mono ?_
    rintro e w' ⟨rfl,q⟩
    exact ⟨congrArg (fun z=>Ending.returned (Value.int .i64 z)) (yiy (US.out l) rfl r),q⟩)
   have PS:=hid (fun (wr2:World) (hg:wr.grownBy wr2 (some bl[k]))=>show ycj wr2 ar ms[k].obj.rels from ycj.of_own (yy p6 hg (RowT.blk q0) (by decide)))
   have hrl:=MN.rels.1
   have FIN:=hid (show (L1.take k ++ ms.drop k).set k { ms[k] with short:=ms[k].obj.rels.map (Ln.shortOne ms ms[k]) }=L1.take (k+1) ++ ms.drop (k+1) by rw [<- yei ms L1 k hko hkL LL.out,LA.out k hko hkL])
   have HR:=hid (show ∀ r∈ms[k].obj.rels,r∈ms[k].obj.rels from fun r h=>h)
   have g1:(k:Int) < (bl.length:Int):=by omega
   clear hsc q0 q1 q2 q4 q5 q6 q7 hb p6 HP ecur NI US PM MN MZ
   generalize (gl[k]'hkg)=gk at *
   generalize hbb:bl[k]=bk at *
   clear hbb
   generalize hm:ms[k]=m at *
   clear hm
   go_wp2
   generalize wr=WB at *
   clear ck k0 k6
   go_loopw [24] (fun i wr2=>∃ (j:Nat) (vs:Value),j<=m.obj.rels.length/\i = .int .i64 j/\yaB WB bk gk v1 v3 v4 m.data m.bss (((m.obj.rels.take j).map (Ln.shortOne ms m)).map Value.bool) j vs wr2) (fun i _=>m.obj.rels.length - (intOf i).toNat)
   case atStart=>exact ⟨0,_,Nat.zero_le _,rfl,M0.out⟩
   case round =>
    obtain ⟨j,vs,hj,rfl,hme⟩:=hrel
    have HM:=hid hme
    clear hme M0
    obtain ⟨av,cv,rfl⟩:=yh HM.out.row
    have LJ:((m.obj.rels.take j).map (Ln.shortOne ms m)).length=j:=by rw [ysv,List.length_take]; omega
    by_cases hlt2:j < m.obj.rels.length
    ·obtain ⟨sg2,hsg2,hgs,hcs⟩:=PS.out wr HM.out.gr (by omega)
     subst hsg2
     obtain ⟨q0,q1,q2,q3,q4⟩:=hcs j hlt2
     clear hcs
     have g2:(j:Int) < (m.obj.rels.length:Int):=by omega
     have TK:=hid (show ((m.obj.rels.take (j+1)).map (Ln.shortOne ms m)).map Value.bool=(((m.obj.rels.take j).map (Ln.shortOne ms m)).map Value.bool) ++ [Value.bool (Ln.shortOne ms m m.obj.rels[j])] by
      rw [List.take_succ_eq_append_getElem hlt2,List.map_append,List.map_append]
      simp)
     have hrm:m.obj.rels[j]∈m.obj.rels:=ysr hlt2
     have GA:=hid (ysp wr (.cells #[.int .i64 m.obj.rels[j].sect,.int .i64 m.obj.rels[j].off,.int .i64 m.obj.rels[j].kind,.int .i64 m.obj.rels[j].sym,.int .i64 m.obj.rels[j].addend] 102) none)
     have cM:=hid (cD.out ((m.obj.rels.take j).map (Ln.shortOne ms m)) (by rw [LJ]; omega) _ wr (by rw [LJ]; exact HM.out) _ GA.out m.obj.rels[j] hrm)
     have HDS:=hid (show Ln.distance ms m m.obj.rels[j]=Ln.distance ms m m.obj.rels[j] from rfl)
     generalize m.obj.rels[j]=r at *
     generalize hsl:((m.obj.rels.take j).map (Ln.shortOne ms m)).map Value.bool=sl at *
     have HM1:=hid (HM.out.kept GA.out)
     have BL1:=hid (yc.new wr #[.int .i64 r.sect,.int .i64 r.off,.int .i64 r.kind,.int .i64 r.sym,.int .i64 r.addend] 102)
     clear hsl hrm
     unfold ptrV relA at cM
     obtain ⟨ds,hds⟩:∃ ds,Ln.distance ms m r=ds:=⟨_,rfl⟩
     rw [hds] at cM
     clear HDS
     have HDS:=hid hds
     clear hds
     go_wp2_with fail
     refine cM.out.mono ?_
     rintro e W6 ⟨rfl,h5⟩
     have HM6:=hid (HM1.out.kept h5)
     have B6:=hid (BL1.out.grown h5 (by simp))
     clear h5 cM q0 q1 q2 q3 q4 HM1 BL1 GA
     go_wp2
     generalize wr.heap.size=L at *
     have s2:W6.cell? ⟨L,2,none⟩=some (.int .i64 r.kind):=B6.out.cell 2
     have m2:W6.cell? ⟨bk,2,none⟩=some (.slice av j cv):=HM6.out.blk.cell 2
     by_cases e1:r.kind=4
     ·have d1:(r.kind == 4)=true:=by simpa using e1
      by_cases e2:-1015808 < ds
      ·have d2:decide (-1015808 < ds)=true:=by simpa using e2
       by_cases e3:ds < 1015808
       ·have d3:decide (ds < 1015808)=true:=by simpa using e3
        have EX:=hid (show Value.bool (Ln.shortOne ms m r) = .bool true by unfold Ln.shortOne; rw [HDS.out]; simp [e1,e2,e3])
        clear e1 e2 e3
        have A7:=yi (ysp W6 (.cells #[.bool true] 4) none)
        have B7:=hid (B6.out.grown A7 (by simp))
        have HM7:=hid (HM6.out.kept A7)
        have hA:=hid HM7.out.row
        have n2:(W6.alloc (.cells #[.bool true] 4)).drew.cell? ⟨bk,2,none⟩=some (.slice av j cv):=HM7.out.blk.cell 2
        have hN:Hid (∀ j u,[Value.bool true][j]?=some u->(W6.alloc (.cells #[.bool true] 4)).drew.cell? ((⟨W6.heap.size,0,none⟩:Addr).add j)=some u):=World.news_of_block (heap_alloc_new W6 (.cells #[.bool true] 4))
        have hOne:Hid (∀ u∈[Value.bool true],u.oneCell'=true):=by intro u hu; simp at hu; subst hu; rfl
        have h63:Hid (j+1<=maxLen):=by show _<=_; unfold maxLen; omega
        have hby:Hid ((j+1) * 1<=140737488355328):=by show _<=_; omega
        have hbs:Hid (WB.heap.size<=(W6.alloc (.cells #[.bool true] 4)).drew.heap.size):=HM7.out.gr.size
        have SA:Hid ((W6.alloc (.cells #[.bool true] 4)).drew.cell? ⟨L,2,none⟩=some (.int .i64 r.kind)):=B7.out.cell 2
        have STEP:=hid (fun (v':Value) (w3:World) (hown':w3.ownsRow WB.heap.size 4 1 v' (j+1) (sl ++ [.bool true])) (hg:(W6.alloc (.cells #[.bool true] 4)).drew.grownBy w3 (Value.ownBlock (.slice av j cv)))=>show yaB WB bk gk v1 v3 v4 m.data m.bss (sl ++ [.bool true]) (j+1) v' (w3.setCell ⟨bk,2,none⟩ v')/\yc w3 L #[.int .i64 r.sect,.int .i64 r.off,.int .i64 r.kind,.int .i64 r.sym,.int .i64 r.addend] 102/\yc (w3.setCell ⟨bk,2,none⟩ v') L #[.int .i64 r.sect,.int .i64 r.off,.int .i64 r.kind,.int .i64 r.sym,.int .i64 r.addend] 102/\w3.cell? ⟨bk,2,none⟩=some (.slice av j cv)/\w3.frozen? ⟨bk,2,none⟩=false by
         have st:=HM7.out.step hown' hg
         have b3:=yF HM7.out.blk hg (RowT.own HM7.out.row) (by decide)
         have l3:=yF B7.out hg (RowT.own HM7.out.row) (by decide)
         exact ⟨st,l3,yF l3 (yf w3 bk 2 v') (RowT.blk b3) (by decide),b3.cell 2,b3.free 2⟩)
        clear A7 B7 HM7 HM6 B6
        refine wp_region_held_drew (S:=(fun w'=>w'.cell? ⟨L,2,none⟩=some (.int .i64 r.kind))) (by kernel_rfl) s2 ?_
        intro hS
        refine wpAnyH_take (i:=0) (v:=?_) rfl (by kernel_rfl) (by kernel_rfl) (by kernel_rfl) (fun _ _ _ h=>h) (Or.inl ⟨by kernel_rfl,?_⟩) hS ?_
        rotate_left
        ·intro w' hw'; have x2:=hw'; go_simp; with_reducible rfl
        refine wpAnyH_take (i:=1) (v:=?_) rfl (by kernel_rfl) (by kernel_rfl) (by kernel_rfl) (fun _ _ _ h=>h) (Or.inl ⟨by kernel_rfl,?_⟩) hS ?_
        rotate_left
        ·intro w' hw'; have x2:=hw'; go_simp; with_reducible rfl
        refine wpAnyH_take (i:=2) (v:=?_) rfl (by kernel_rfl) (by kernel_rfl) (by kernel_rfl) (fun _ _ _ h=>h) (Or.inl ⟨by kernel_rfl,?_⟩) hS ?_
        rotate_left
        ·intro w' hw'; have x2:=hw'; go_simp; with_reducible rfl
        refine wpAnyH_take (i:=3) (v:=?_) rfl (by kernel_rfl) (by kernel_rfl) (by kernel_rfl) (fun _ _ _ h=>h) (Or.inl ⟨by kernel_rfl,?_⟩) hS ?_
        rotate_left
        ·intro w' hw'; have x2:=hw'; go_simp; with_reducible rfl
        refine wpAnyH_take (i:=5) (v:=?_) rfl (by kernel_rfl) (by kernel_rfl) (by kernel_rfl) (fun _ _ _ h=>h) (Or.inl ⟨by kernel_rfl,?_⟩) hS ?_
        rotate_left
        ·intro w' hw'; have x2:=hw'; go_simp; with_reducible rfl
        refine wpAnyH_take (i:=6) (v:=?_) rfl (by kernel_rfl) (by kernel_rfl) (by kernel_rfl) (fun _ _ _ h=>h) (Or.inl ⟨by kernel_rfl,?_⟩) hS ?_
        rotate_left
        ·intro w' hw'; have x2:=hw'; go_simp; with_reducible rfl
        refine wpAnyH_take (i:=7) (v:=?_) rfl (by kernel_rfl) (by kernel_rfl) (by kernel_rfl) (fun _ _ _ h=>h) (Or.inl ⟨by kernel_rfl,?_⟩) hS ?_
        rotate_left
        ·intro w' hw'; have x2:=hw'; go_simp; with_reducible rfl
        refine wpAnyH_take (i:=8) (v:=?_) rfl (by kernel_rfl) (by kernel_rfl) (by kernel_rfl) (fun _ _ _ h=>h) (Or.inl ⟨by kernel_rfl,?_⟩) hS ?_
        rotate_left
        ·intro w' hw'; have x2:=hw'; go_simp; with_reducible rfl
        refine wpAnyH_take (i:=9) (v:=?_) rfl (by kernel_rfl) (by kernel_rfl) (by kernel_rfl) (fun _ _ _ h=>h) (Or.inl ⟨by kernel_rfl,?_⟩) hS ?_
        rotate_left
        ·intro w' hw'; have x2:=hw'; go_simp; with_reducible rfl
        refine wpAnyH_take (i:=10) (v:=?_) rfl (by kernel_rfl) (by kernel_rfl) (by kernel_rfl) (fun _ _ _ h=>h) (Or.inl ⟨by kernel_rfl,?_⟩) hS ?_
        rotate_left
        ·intro w' hw'; have x2:=hw'; go_simp; with_reducible rfl
        refine wpAnyH_take (i:=11) (v:=.bool true) rfl (by kernel_rfl) (by kernel_rfl) (by kernel_rfl) (fun _ _ _ h=>h) (Or.inl ⟨by kernel_rfl,fun _ _=>by kernel_rfl⟩) hS ?_
        refine wpAnyH_take (i:=12) (v:=.bool true) rfl (by kernel_rfl) (by kernel_rfl) (by kernel_rfl) (fun _ _ _ h=>h) (Or.inl ⟨by kernel_rfl,fun _ _=>by kernel_rfl⟩) hS ?_
        refine wpAnyH_take (i:=13) (v:=?_) rfl (by kernel_rfl) (by kernel_rfl) (by kernel_rfl) (fun _ _ _ h=>h) (Or.inl ⟨by kernel_rfl,?_⟩) hS ?_
        rotate_left
        ·intro w' hw'; have x2:=hw'; go_simp; with_reducible rfl
        refine wpAnyH_take (i:=14) (v:=?_) rfl (by kernel_rfl) (by kernel_rfl) (by kernel_rfl) (fun _ _ _ h=>h) (Or.inl ⟨by kernel_rfl,?_⟩) hS ?_
        rotate_left
        ·intro w' hw'; have x2:=hw'; go_simp; with_reducible rfl
        refine wpAnyH_take (i:=15) (v:=.bool true) rfl (by kernel_rfl) (by kernel_rfl) (by kernel_rfl) (fun _ _ _ h=>h) (Or.inl ⟨by kernel_rfl,fun _ _=>by kernel_rfl⟩) hS ?_
        refine wpAnyH_ready (rs:=[4,16]) (by kernel_rfl) (by simp) ?_
        refine AllReadyH.cons rfl (fun K hK=>?_) (AllReadyH.cons rfl (fun K hK=>?_) AllReadyH.nil)
        go_simp
        refine hK.out _ _ hS (fun hS2=>?_)
        clear hK K
        refine wpAnyH_ready (rs:=[16]) (by kernel_rfl) (by simp) ?_
        rotate_left
        go_simp
        refine hK.out _ _ SA.out (fun hS2=>?_)
        clear hK K
        refine wpAnyH_ready (rs:=[4]) (by kernel_rfl) (by simp) ?_
        all_goals
         refine AllReadyH.cons rfl (fun K hK=>?_) AllReadyH.nil
         go_simp
         refine hK.out _ _ SA.out (fun hS3=>?_)
         clear hK K hS2 hS3
         refine wpAnyH_ready (rs:=[17]) (by kernel_rfl) (by simp) ?_
         refine AllReadyH.cons rfl (fun K hK=>?_) AllReadyH.nil
         rw [if_pos (by kernel_rfl)]
         refine yZ _ (.tmp 35) (.tmp 47) 128 rfl WB.heap.size 4 i0 (.bool false) 1 1 Tryz.underlying128 hi hz0 hz1 hz2 rfl (by decide) (.slice av j cv) j sl (by kernel_rfl) hA.out ⟨W6.heap.size,0,none⟩ 1 1 [.bool true] (by kernel_rfl) rfl hN.out hOne.out h63.out hby.out hbs.out ?_
         intro v' w3 hown' hgrow _ _
         obtain ⟨av',cv',rfl⟩:=yh hown'
         obtain ⟨t1,t2,t3,t4,t5⟩:=STEP.out _ _ hown' hgrow
         have T1:=hid t1
         have T3:Hid ((w3.setCell ⟨bk,2,none⟩ (.slice av' (j+1) cv')).cell? ⟨L,2,none⟩=some (.int .i64 r.kind)):=t3.cell 2
         refine hK.out _ _ (t2.cell 2) (fun hS4=>?_)
         clear hK K hown' hgrow t1 t2 t3
         refine wpAnyH_take (i:=18) (v:=?_) rfl (by kernel_rfl) (by kernel_rfl) (by kernel_rfl) (fun _ _ _ h=>h) (Or.inl ⟨by kernel_rfl,?_⟩) hS4 ?_
         rotate_left
         ·intro w' hw'; have x2:=hw'; go_simp; with_reducible rfl
         refine wpAnyH_take (i:=19) (v:=?_) rfl (by kernel_rfl) (by kernel_rfl) (by kernel_rfl) (fun _ _ _ h=>h) (Or.inl ⟨by kernel_rfl,?_⟩) hS4 ?_
         rotate_left
         ·intro w' hw'; have x2:=hw'; go_simp; with_reducible rfl
         refine wpAnyH_ready (rs:=[20]) (by kernel_rfl) (by simp) ?_
         refine AllReadyH.cons rfl (fun K hK=>?_) AllReadyH.nil
         go_simp
         refine hK.out _ _ T3.out (fun hS5=>?_)
         clear hK K
         refine wpAnyH_done (by kernel_rfl) ?_ _
         try simp only [yaL,ysy,ysw,ysx,yso,ysm,ysn]
         clear hA hN hOne h63 hby hbs m2 n2 t4 t5 hS4 hS5 hS STEP SA T3
         go_wp2
         go_roundw
         case rel=>exact ⟨j+1,_,by omega,by go_num,by rw [TK.out,EX.out]; exact T1.out⟩
         case measure=>simp [intOf]; omega
       ·have d3:decide (ds < 1015808)=false:=by simpa using e3
        have EX:=hid (show Value.bool (Ln.shortOne ms m r) = .bool false by unfold Ln.shortOne; rw [HDS.out]; simp [e3])
        clear e1 e2 e3
        have A7:=yi (ysp W6 (.cells #[.bool false] 4) none)
        have B7:=hid (B6.out.grown A7 (by simp))
        have HM7:=hid (HM6.out.kept A7)
        have hA:=hid HM7.out.row
        have n2:(W6.alloc (.cells #[.bool false] 4)).drew.cell? ⟨bk,2,none⟩=some (.slice av j cv):=HM7.out.blk.cell 2
        have hN:Hid (∀ j u,[Value.bool false][j]?=some u->(W6.alloc (.cells #[.bool false] 4)).drew.cell? ((⟨W6.heap.size,0,none⟩:Addr).add j)=some u):=World.news_of_block (heap_alloc_new W6 (.cells #[.bool false] 4))
        have hOne:Hid (∀ u∈[Value.bool false],u.oneCell'=true):=by intro u hu; simp at hu; subst hu; rfl
        have h63:Hid (j+1<=maxLen):=by show _<=_; unfold maxLen; omega
        have hby:Hid ((j+1) * 1<=140737488355328):=by show _<=_; omega
        have hbs:Hid (WB.heap.size<=(W6.alloc (.cells #[.bool false] 4)).drew.heap.size):=HM7.out.gr.size
        have SA:Hid ((W6.alloc (.cells #[.bool false] 4)).drew.cell? ⟨L,2,none⟩=some (.int .i64 r.kind)):=B7.out.cell 2
        have STEP:=hid (fun (v':Value) (w3:World) (hown':w3.ownsRow WB.heap.size 4 1 v' (j+1) (sl ++ [.bool false])) (hg:(W6.alloc (.cells #[.bool false] 4)).drew.grownBy w3 (Value.ownBlock (.slice av j cv)))=>show yaB WB bk gk v1 v3 v4 m.data m.bss (sl ++ [.bool false]) (j+1) v' (w3.setCell ⟨bk,2,none⟩ v')/\yc w3 L #[.int .i64 r.sect,.int .i64 r.off,.int .i64 r.kind,.int .i64 r.sym,.int .i64 r.addend] 102/\yc (w3.setCell ⟨bk,2,none⟩ v') L #[.int .i64 r.sect,.int .i64 r.off,.int .i64 r.kind,.int .i64 r.sym,.int .i64 r.addend] 102/\w3.cell? ⟨bk,2,none⟩=some (.slice av j cv)/\w3.frozen? ⟨bk,2,none⟩=false by
         have st:=HM7.out.step hown' hg
         have b3:=yF HM7.out.blk hg (RowT.own HM7.out.row) (by decide)
         have l3:=yF B7.out hg (RowT.own HM7.out.row) (by decide)
         exact ⟨st,l3,yF l3 (yf w3 bk 2 v') (RowT.blk b3) (by decide),b3.cell 2,b3.free 2⟩)
        clear A7 B7 HM7 HM6 B6
        refine wp_region_held_drew (S:=(fun w'=>w'.cell? ⟨L,2,none⟩=some (.int .i64 r.kind))) (by kernel_rfl) s2 ?_
        intro hS
        refine wpAnyH_take (i:=0) (v:=?_) rfl (by kernel_rfl) (by kernel_rfl) (by kernel_rfl) (fun _ _ _ h=>h) (Or.inl ⟨by kernel_rfl,?_⟩) hS ?_
        rotate_left
        ·intro w' hw'; have x2:=hw'; go_simp; with_reducible rfl
        refine wpAnyH_take (i:=1) (v:=?_) rfl (by kernel_rfl) (by kernel_rfl) (by kernel_rfl) (fun _ _ _ h=>h) (Or.inl ⟨by kernel_rfl,?_⟩) hS ?_
        rotate_left
        ·intro w' hw'; have x2:=hw'; go_simp; with_reducible rfl
        refine wpAnyH_take (i:=2) (v:=?_) rfl (by kernel_rfl) (by kernel_rfl) (by kernel_rfl) (fun _ _ _ h=>h) (Or.inl ⟨by kernel_rfl,?_⟩) hS ?_
        rotate_left
        ·intro w' hw'; have x2:=hw'; go_simp; with_reducible rfl
        refine wpAnyH_take (i:=3) (v:=?_) rfl (by kernel_rfl) (by kernel_rfl) (by kernel_rfl) (fun _ _ _ h=>h) (Or.inl ⟨by kernel_rfl,?_⟩) hS ?_
        rotate_left
        ·intro w' hw'; have x2:=hw'; go_simp; with_reducible rfl
        refine wpAnyH_take (i:=5) (v:=?_) rfl (by kernel_rfl) (by kernel_rfl) (by kernel_rfl) (fun _ _ _ h=>h) (Or.inl ⟨by kernel_rfl,?_⟩) hS ?_
        rotate_left
        ·intro w' hw'; have x2:=hw'; go_simp; with_reducible rfl
        refine wpAnyH_take (i:=6) (v:=?_) rfl (by kernel_rfl) (by kernel_rfl) (by kernel_rfl) (fun _ _ _ h=>h) (Or.inl ⟨by kernel_rfl,?_⟩) hS ?_
        rotate_left
        ·intro w' hw'; have x2:=hw'; go_simp; with_reducible rfl
        refine wpAnyH_take (i:=7) (v:=?_) rfl (by kernel_rfl) (by kernel_rfl) (by kernel_rfl) (fun _ _ _ h=>h) (Or.inl ⟨by kernel_rfl,?_⟩) hS ?_
        rotate_left
        ·intro w' hw'; have x2:=hw'; go_simp; with_reducible rfl
        refine wpAnyH_take (i:=8) (v:=?_) rfl (by kernel_rfl) (by kernel_rfl) (by kernel_rfl) (fun _ _ _ h=>h) (Or.inl ⟨by kernel_rfl,?_⟩) hS ?_
        rotate_left
        ·intro w' hw'; have x2:=hw'; go_simp; with_reducible rfl
        refine wpAnyH_take (i:=9) (v:=?_) rfl (by kernel_rfl) (by kernel_rfl) (by kernel_rfl) (fun _ _ _ h=>h) (Or.inl ⟨by kernel_rfl,?_⟩) hS ?_
        rotate_left
        ·intro w' hw'; have x2:=hw'; go_simp; with_reducible rfl
        refine wpAnyH_take (i:=10) (v:=?_) rfl (by kernel_rfl) (by kernel_rfl) (by kernel_rfl) (fun _ _ _ h=>h) (Or.inl ⟨by kernel_rfl,?_⟩) hS ?_
        rotate_left
        ·intro w' hw'; have x2:=hw'; go_simp; with_reducible rfl
        refine wpAnyH_take (i:=11) (v:=.bool true) rfl (by kernel_rfl) (by kernel_rfl) (by kernel_rfl) (fun _ _ _ h=>h) (Or.inl ⟨by kernel_rfl,fun _ _=>by kernel_rfl⟩) hS ?_
        refine wpAnyH_take (i:=12) (v:=.bool true) rfl (by kernel_rfl) (by kernel_rfl) (by kernel_rfl) (fun _ _ _ h=>h) (Or.inl ⟨by kernel_rfl,fun _ _=>by kernel_rfl⟩) hS ?_
        refine wpAnyH_take (i:=13) (v:=?_) rfl (by kernel_rfl) (by kernel_rfl) (by kernel_rfl) (fun _ _ _ h=>h) (Or.inl ⟨by kernel_rfl,?_⟩) hS ?_
        rotate_left
        ·intro w' hw'; have x2:=hw'; go_simp; with_reducible rfl
        refine wpAnyH_take (i:=14) (v:=?_) rfl (by kernel_rfl) (by kernel_rfl) (by kernel_rfl) (fun _ _ _ h=>h) (Or.inl ⟨by kernel_rfl,?_⟩) hS ?_
        rotate_left
        ·intro w' hw'; have x2:=hw'; go_simp; with_reducible rfl
        refine wpAnyH_take (i:=15) (v:=.bool false) rfl (by kernel_rfl) (by kernel_rfl) (by kernel_rfl) (fun _ _ _ h=>h) (Or.inl ⟨by kernel_rfl,fun _ _=>by kernel_rfl⟩) hS ?_
        refine wpAnyH_ready (rs:=[4,16]) (by kernel_rfl) (by simp) ?_
        refine AllReadyH.cons rfl (fun K hK=>?_) (AllReadyH.cons rfl (fun K hK=>?_) AllReadyH.nil)
        go_simp
        refine hK.out _ _ hS (fun hS2=>?_)
        clear hK K
        refine wpAnyH_ready (rs:=[16]) (by kernel_rfl) (by simp) ?_
        rotate_left
        go_simp
        refine hK.out _ _ SA.out (fun hS2=>?_)
        clear hK K
        refine wpAnyH_ready (rs:=[4]) (by kernel_rfl) (by simp) ?_
        all_goals
         refine AllReadyH.cons rfl (fun K hK=>?_) AllReadyH.nil
         go_simp
         refine hK.out _ _ SA.out (fun hS3=>?_)
         clear hK K hS2 hS3
         refine wpAnyH_ready (rs:=[17]) (by kernel_rfl) (by simp) ?_
         refine AllReadyH.cons rfl (fun K hK=>?_) AllReadyH.nil
         rw [if_pos (by kernel_rfl)]
         refine yZ _ (.tmp 35) (.tmp 47) 128 rfl WB.heap.size 4 i0 (.bool false) 1 1 Tryz.underlying128 hi hz0 hz1 hz2 rfl (by decide) (.slice av j cv) j sl (by kernel_rfl) hA.out ⟨W6.heap.size,0,none⟩ 1 1 [.bool false] (by kernel_rfl) rfl hN.out hOne.out h63.out hby.out hbs.out ?_
         intro v' w3 hown' hgrow _ _
         obtain ⟨av',cv',rfl⟩:=yh hown'
         obtain ⟨t1,t2,t3,t4,t5⟩:=STEP.out _ _ hown' hgrow
         have T1:=hid t1
         have T3:Hid ((w3.setCell ⟨bk,2,none⟩ (.slice av' (j+1) cv')).cell? ⟨L,2,none⟩=some (.int .i64 r.kind)):=t3.cell 2
         refine hK.out _ _ (t2.cell 2) (fun hS4=>?_)
         clear hK K hown' hgrow t1 t2 t3
         refine wpAnyH_take (i:=18) (v:=?_) rfl (by kernel_rfl) (by kernel_rfl) (by kernel_rfl) (fun _ _ _ h=>h) (Or.inl ⟨by kernel_rfl,?_⟩) hS4 ?_
         rotate_left
         ·intro w' hw'; have x2:=hw'; go_simp; with_reducible rfl
         refine wpAnyH_take (i:=19) (v:=?_) rfl (by kernel_rfl) (by kernel_rfl) (by kernel_rfl) (fun _ _ _ h=>h) (Or.inl ⟨by kernel_rfl,?_⟩) hS4 ?_
         rotate_left
         ·intro w' hw'; have x2:=hw'; go_simp; with_reducible rfl
         refine wpAnyH_ready (rs:=[20]) (by kernel_rfl) (by simp) ?_
         refine AllReadyH.cons rfl (fun K hK=>?_) AllReadyH.nil
         go_simp
         refine hK.out _ _ T3.out (fun hS5=>?_)
         clear hK K
         refine wpAnyH_done (by kernel_rfl) ?_ _
         try simp only [yaL,ysy,ysw,ysx,yso,ysm,ysn]
         clear hA hN hOne h63 hby hbs m2 n2 t4 t5 hS4 hS5 hS STEP SA T3
         go_wp2
         go_roundw
         case rel=>exact ⟨j+1,_,by omega,by go_num,by rw [TK.out,EX.out]; exact T1.out⟩
         case measure=>simp [intOf]; omega
      ·have d2:decide (-1015808 < ds)=false:=by simpa using e2
       have EX:=hid (show Value.bool (Ln.shortOne ms m r) = .bool false by unfold Ln.shortOne; rw [HDS.out]; simp [e2])
       clear e1 e2
       have A7:=yi (ysp W6 (.cells #[.bool false] 4) none)
       have B7:=hid (B6.out.grown A7 (by simp))
       have HM7:=hid (HM6.out.kept A7)
       have hA:=hid HM7.out.row
       have n2:(W6.alloc (.cells #[.bool false] 4)).drew.cell? ⟨bk,2,none⟩=some (.slice av j cv):=HM7.out.blk.cell 2
       have hN:Hid (∀ j u,[Value.bool false][j]?=some u->(W6.alloc (.cells #[.bool false] 4)).drew.cell? ((⟨W6.heap.size,0,none⟩:Addr).add j)=some u):=World.news_of_block (heap_alloc_new W6 (.cells #[.bool false] 4))
       have hOne:Hid (∀ u∈[Value.bool false],u.oneCell'=true):=by intro u hu; simp at hu; subst hu; rfl
       have h63:Hid (j+1<=maxLen):=by show _<=_; unfold maxLen; omega
       have hby:Hid ((j+1) * 1<=140737488355328):=by show _<=_; omega
       have hbs:Hid (WB.heap.size<=(W6.alloc (.cells #[.bool false] 4)).drew.heap.size):=HM7.out.gr.size
       have SA:Hid ((W6.alloc (.cells #[.bool false] 4)).drew.cell? ⟨L,2,none⟩=some (.int .i64 r.kind)):=B7.out.cell 2
       have STEP:=hid (fun (v':Value) (w3:World) (hown':w3.ownsRow WB.heap.size 4 1 v' (j+1) (sl ++ [.bool false])) (hg:(W6.alloc (.cells #[.bool false] 4)).drew.grownBy w3 (Value.ownBlock (.slice av j cv)))=>show yaB WB bk gk v1 v3 v4 m.data m.bss (sl ++ [.bool false]) (j+1) v' (w3.setCell ⟨bk,2,none⟩ v')/\yc w3 L #[.int .i64 r.sect,.int .i64 r.off,.int .i64 r.kind,.int .i64 r.sym,.int .i64 r.addend] 102/\yc (w3.setCell ⟨bk,2,none⟩ v') L #[.int .i64 r.sect,.int .i64 r.off,.int .i64 r.kind,.int .i64 r.sym,.int .i64 r.addend] 102/\w3.cell? ⟨bk,2,none⟩=some (.slice av j cv)/\w3.frozen? ⟨bk,2,none⟩=false by
        have st:=HM7.out.step hown' hg
        have b3:=yF HM7.out.blk hg (RowT.own HM7.out.row) (by decide)
        have l3:=yF B7.out hg (RowT.own HM7.out.row) (by decide)
        exact ⟨st,l3,yF l3 (yf w3 bk 2 v') (RowT.blk b3) (by decide),b3.cell 2,b3.free 2⟩)
       clear A7 B7 HM7 HM6 B6
       refine wp_region_held_drew (S:=(fun w'=>w'.cell? ⟨L,2,none⟩=some (.int .i64 r.kind))) (by kernel_rfl) s2 ?_
       intro hS
       refine wpAnyH_take (i:=0) (v:=?_) rfl (by kernel_rfl) (by kernel_rfl) (by kernel_rfl) (fun _ _ _ h=>h) (Or.inl ⟨by kernel_rfl,?_⟩) hS ?_
       rotate_left
       ·intro w' hw'; have x2:=hw'; go_simp; with_reducible rfl
       refine wpAnyH_take (i:=1) (v:=?_) rfl (by kernel_rfl) (by kernel_rfl) (by kernel_rfl) (fun _ _ _ h=>h) (Or.inl ⟨by kernel_rfl,?_⟩) hS ?_
       rotate_left
       ·intro w' hw'; have x2:=hw'; go_simp; with_reducible rfl
       refine wpAnyH_take (i:=2) (v:=?_) rfl (by kernel_rfl) (by kernel_rfl) (by kernel_rfl) (fun _ _ _ h=>h) (Or.inl ⟨by kernel_rfl,?_⟩) hS ?_
       rotate_left
       ·intro w' hw'; have x2:=hw'; go_simp; with_reducible rfl
       refine wpAnyH_take (i:=3) (v:=?_) rfl (by kernel_rfl) (by kernel_rfl) (by kernel_rfl) (fun _ _ _ h=>h) (Or.inl ⟨by kernel_rfl,?_⟩) hS ?_
       rotate_left
       ·intro w' hw'; have x2:=hw'; go_simp; with_reducible rfl
       refine wpAnyH_take (i:=5) (v:=?_) rfl (by kernel_rfl) (by kernel_rfl) (by kernel_rfl) (fun _ _ _ h=>h) (Or.inl ⟨by kernel_rfl,?_⟩) hS ?_
       rotate_left
       ·intro w' hw'; have x2:=hw'; go_simp; with_reducible rfl
       refine wpAnyH_take (i:=6) (v:=?_) rfl (by kernel_rfl) (by kernel_rfl) (by kernel_rfl) (fun _ _ _ h=>h) (Or.inl ⟨by kernel_rfl,?_⟩) hS ?_
       rotate_left
       ·intro w' hw'; have x2:=hw'; go_simp; with_reducible rfl
       refine wpAnyH_take (i:=7) (v:=?_) rfl (by kernel_rfl) (by kernel_rfl) (by kernel_rfl) (fun _ _ _ h=>h) (Or.inl ⟨by kernel_rfl,?_⟩) hS ?_
       rotate_left
       ·intro w' hw'; have x2:=hw'; go_simp; with_reducible rfl
       refine wpAnyH_take (i:=8) (v:=?_) rfl (by kernel_rfl) (by kernel_rfl) (by kernel_rfl) (fun _ _ _ h=>h) (Or.inl ⟨by kernel_rfl,?_⟩) hS ?_
       rotate_left
       ·intro w' hw'; have x2:=hw'; go_simp; with_reducible rfl
       refine wpAnyH_take (i:=9) (v:=?_) rfl (by kernel_rfl) (by kernel_rfl) (by kernel_rfl) (fun _ _ _ h=>h) (Or.inl ⟨by kernel_rfl,?_⟩) hS ?_
       rotate_left
       ·intro w' hw'; have x2:=hw'; go_simp; with_reducible rfl
       refine wpAnyH_take (i:=10) (v:=?_) rfl (by kernel_rfl) (by kernel_rfl) (by kernel_rfl) (fun _ _ _ h=>h) (Or.inl ⟨by kernel_rfl,?_⟩) hS ?_
       rotate_left
       ·intro w' hw'; have x2:=hw'; go_simp; with_reducible rfl
       refine wpAnyH_take (i:=11) (v:=.bool false) rfl (by kernel_rfl) (by kernel_rfl) (by kernel_rfl) (fun _ _ _ h=>h) (Or.inl ⟨by kernel_rfl,fun _ _=>by kernel_rfl⟩) hS ?_
       refine wpAnyH_take (i:=12) (v:=.bool false) rfl (by kernel_rfl) (by kernel_rfl) (by kernel_rfl) (fun _ _ _ h=>h) (Or.inl ⟨by kernel_rfl,fun _ _=>by kernel_rfl⟩) hS ?_
       refine wpAnyH_take (i:=13) (v:=undef) rfl (by kernel_rfl) (by kernel_rfl) (by kernel_rfl) (fun _ _ _ h=>h) (Or.inr ⟨by kernel_rfl,rfl⟩) hS ?_
       refine wpAnyH_take (i:=14) (v:=undef) rfl (by kernel_rfl) (by kernel_rfl) (by kernel_rfl) (fun _ _ _ h=>h) (Or.inr ⟨by kernel_rfl,rfl⟩) hS ?_
       refine wpAnyH_take (i:=15) (v:=.bool false) rfl (by kernel_rfl) (by kernel_rfl) (by kernel_rfl) (fun _ _ _ h=>h) (Or.inl ⟨by kernel_rfl,fun _ _=>by kernel_rfl⟩) hS ?_
       refine wpAnyH_ready (rs:=[4,16]) (by kernel_rfl) (by simp) ?_
       refine AllReadyH.cons rfl (fun K hK=>?_) (AllReadyH.cons rfl (fun K hK=>?_) AllReadyH.nil)
       go_simp
       refine hK.out _ _ hS (fun hS2=>?_)
       clear hK K
       refine wpAnyH_ready (rs:=[16]) (by kernel_rfl) (by simp) ?_
       rotate_left
       go_simp
       refine hK.out _ _ SA.out (fun hS2=>?_)
       clear hK K
       refine wpAnyH_ready (rs:=[4]) (by kernel_rfl) (by simp) ?_
       all_goals
        refine AllReadyH.cons rfl (fun K hK=>?_) AllReadyH.nil
        go_simp
        refine hK.out _ _ SA.out (fun hS3=>?_)
        clear hK K hS2 hS3
        refine wpAnyH_ready (rs:=[17]) (by kernel_rfl) (by simp) ?_
        refine AllReadyH.cons rfl (fun K hK=>?_) AllReadyH.nil
        rw [if_pos (by kernel_rfl)]
        refine yZ _ (.tmp 35) (.tmp 47) 128 rfl WB.heap.size 4 i0 (.bool false) 1 1 Tryz.underlying128 hi hz0 hz1 hz2 rfl (by decide) (.slice av j cv) j sl (by kernel_rfl) hA.out ⟨W6.heap.size,0,none⟩ 1 1 [.bool false] (by kernel_rfl) rfl hN.out hOne.out h63.out hby.out hbs.out ?_
        intro v' w3 hown' hgrow _ _
        obtain ⟨av',cv',rfl⟩:=yh hown'
        obtain ⟨t1,t2,t3,t4,t5⟩:=STEP.out _ _ hown' hgrow
        have T1:=hid t1
        have T3:Hid ((w3.setCell ⟨bk,2,none⟩ (.slice av' (j+1) cv')).cell? ⟨L,2,none⟩=some (.int .i64 r.kind)):=t3.cell 2
        refine hK.out _ _ (t2.cell 2) (fun hS4=>?_)
        clear hK K hown' hgrow t1 t2 t3
        refine wpAnyH_take (i:=18) (v:=?_) rfl (by kernel_rfl) (by kernel_rfl) (by kernel_rfl) (fun _ _ _ h=>h) (Or.inl ⟨by kernel_rfl,?_⟩) hS4 ?_
        rotate_left
        ·intro w' hw'; have x2:=hw'; go_simp; with_reducible rfl
        refine wpAnyH_take (i:=19) (v:=?_) rfl (by kernel_rfl) (by kernel_rfl) (by kernel_rfl) (fun _ _ _ h=>h) (Or.inl ⟨by kernel_rfl,?_⟩) hS4 ?_
        rotate_left
        ·intro w' hw'; have x2:=hw'; go_simp; with_reducible rfl
        refine wpAnyH_ready (rs:=[20]) (by kernel_rfl) (by simp) ?_
        refine AllReadyH.cons rfl (fun K hK=>?_) AllReadyH.nil
        go_simp
        refine hK.out _ _ T3.out (fun hS5=>?_)
        clear hK K
        refine wpAnyH_done (by kernel_rfl) ?_ _
        try simp only [yaL,ysy,ysw,ysx,yso,ysm,ysn]
        clear hA hN hOne h63 hby hbs m2 n2 t4 t5 hS4 hS5 hS STEP SA T3
        go_wp2
        go_roundw
        case rel=>exact ⟨j+1,_,by omega,by go_num,by rw [TK.out,EX.out]; exact T1.out⟩
        case measure=>simp [intOf]; omega
     ·have d1:(r.kind == 4)=false:=by simpa using e1
      have EX:=hid (show Value.bool (Ln.shortOne ms m r) = .bool false by unfold Ln.shortOne; simp [e1])
      clear e1
      have A7:=yi (ysp W6 (.cells #[.bool false] 4) none)
      have B7:=hid (B6.out.grown A7 (by simp))
      have HM7:=hid (HM6.out.kept A7)
      have hA:=hid HM7.out.row
      have n2:(W6.alloc (.cells #[.bool false] 4)).drew.cell? ⟨bk,2,none⟩=some (.slice av j cv):=HM7.out.blk.cell 2
      have hN:Hid (∀ j u,[Value.bool false][j]?=some u->(W6.alloc (.cells #[.bool false] 4)).drew.cell? ((⟨W6.heap.size,0,none⟩:Addr).add j)=some u):=World.news_of_block (heap_alloc_new W6 (.cells #[.bool false] 4))
      have hOne:Hid (∀ u∈[Value.bool false],u.oneCell'=true):=by intro u hu; simp at hu; subst hu; rfl
      have h63:Hid (j+1<=maxLen):=by show _<=_; unfold maxLen; omega
      have hby:Hid ((j+1) * 1<=140737488355328):=by show _<=_; omega
      have hbs:Hid (WB.heap.size<=(W6.alloc (.cells #[.bool false] 4)).drew.heap.size):=HM7.out.gr.size
      have SA:Hid ((W6.alloc (.cells #[.bool false] 4)).drew.cell? ⟨L,2,none⟩=some (.int .i64 r.kind)):=B7.out.cell 2
      have STEP:=hid (fun (v':Value) (w3:World) (hown':w3.ownsRow WB.heap.size 4 1 v' (j+1) (sl ++ [.bool false])) (hg:(W6.alloc (.cells #[.bool false] 4)).drew.grownBy w3 (Value.ownBlock (.slice av j cv)))=>show yaB WB bk gk v1 v3 v4 m.data m.bss (sl ++ [.bool false]) (j+1) v' (w3.setCell ⟨bk,2,none⟩ v')/\yc w3 L #[.int .i64 r.sect,.int .i64 r.off,.int .i64 r.kind,.int .i64 r.sym,.int .i64 r.addend] 102/\yc (w3.setCell ⟨bk,2,none⟩ v') L #[.int .i64 r.sect,.int .i64 r.off,.int .i64 r.kind,.int .i64 r.sym,.int .i64 r.addend] 102/\w3.cell? ⟨bk,2,none⟩=some (.slice av j cv)/\w3.frozen? ⟨bk,2,none⟩=false by
       have st:=HM7.out.step hown' hg
       have b3:=yF HM7.out.blk hg (RowT.own HM7.out.row) (by decide)
       have l3:=yF B7.out hg (RowT.own HM7.out.row) (by decide)
       exact ⟨st,l3,yF l3 (yf w3 bk 2 v') (RowT.blk b3) (by decide),b3.cell 2,b3.free 2⟩)
      clear A7 B7 HM7 HM6 B6
      refine wp_region_held_drew (S:=(fun w'=>w'.cell? ⟨L,2,none⟩=some (.int .i64 r.kind))) (by kernel_rfl) s2 ?_
      intro hS
      refine wpAnyH_take (i:=0) (v:=?_) rfl (by kernel_rfl) (by kernel_rfl) (by kernel_rfl) (fun _ _ _ h=>h) (Or.inl ⟨by kernel_rfl,?_⟩) hS ?_
      rotate_left
      ·intro w' hw'; have x2:=hw'; go_simp; with_reducible rfl
      refine wpAnyH_take (i:=1) (v:=?_) rfl (by kernel_rfl) (by kernel_rfl) (by kernel_rfl) (fun _ _ _ h=>h) (Or.inl ⟨by kernel_rfl,?_⟩) hS ?_
      rotate_left
      ·intro w' hw'; have x2:=hw'; go_simp; with_reducible rfl
      refine wpAnyH_take (i:=2) (v:=?_) rfl (by kernel_rfl) (by kernel_rfl) (by kernel_rfl) (fun _ _ _ h=>h) (Or.inl ⟨by kernel_rfl,?_⟩) hS ?_
      rotate_left
      ·intro w' hw'; have x2:=hw'; go_simp; with_reducible rfl
      refine wpAnyH_take (i:=3) (v:=?_) rfl (by kernel_rfl) (by kernel_rfl) (by kernel_rfl) (fun _ _ _ h=>h) (Or.inl ⟨by kernel_rfl,?_⟩) hS ?_
      rotate_left
      ·intro w' hw'; have x2:=hw'; go_simp; with_reducible rfl
      refine wpAnyH_take (i:=5) (v:=?_) rfl (by kernel_rfl) (by kernel_rfl) (by kernel_rfl) (fun _ _ _ h=>h) (Or.inl ⟨by kernel_rfl,?_⟩) hS ?_
      rotate_left
      ·intro w' hw'; have x2:=hw'; go_simp; with_reducible rfl
      refine wpAnyH_take (i:=6) (v:=?_) rfl (by kernel_rfl) (by kernel_rfl) (by kernel_rfl) (fun _ _ _ h=>h) (Or.inl ⟨by kernel_rfl,?_⟩) hS ?_
      rotate_left
      ·intro w' hw'; have x2:=hw'; go_simp; with_reducible rfl
      refine wpAnyH_take (i:=7) (v:=?_) rfl (by kernel_rfl) (by kernel_rfl) (by kernel_rfl) (fun _ _ _ h=>h) (Or.inl ⟨by kernel_rfl,?_⟩) hS ?_
      rotate_left
      ·intro w' hw'; have x2:=hw'; go_simp; with_reducible rfl
      refine wpAnyH_take (i:=8) (v:=?_) rfl (by kernel_rfl) (by kernel_rfl) (by kernel_rfl) (fun _ _ _ h=>h) (Or.inl ⟨by kernel_rfl,?_⟩) hS ?_
      rotate_left
      ·intro w' hw'; have x2:=hw'; go_simp; with_reducible rfl
      refine wpAnyH_take (i:=9) (v:=undef) rfl (by kernel_rfl) (by kernel_rfl) (by kernel_rfl) (fun _ _ _ h=>h) (Or.inr ⟨by kernel_rfl,rfl⟩) hS ?_
      refine wpAnyH_take (i:=10) (v:=undef) rfl (by kernel_rfl) (by kernel_rfl) (by kernel_rfl) (fun _ _ _ h=>h) (Or.inr ⟨by kernel_rfl,rfl⟩) hS ?_
      refine wpAnyH_take (i:=11) (v:=.bool false) rfl (by kernel_rfl) (by kernel_rfl) (by kernel_rfl) (fun _ _ _ h=>h) (Or.inl ⟨by kernel_rfl,fun _ _=>by kernel_rfl⟩) hS ?_
      refine wpAnyH_take (i:=12) (v:=.bool false) rfl (by kernel_rfl) (by kernel_rfl) (by kernel_rfl) (fun _ _ _ h=>h) (Or.inl ⟨by kernel_rfl,fun _ _=>by kernel_rfl⟩) hS ?_
      refine wpAnyH_take (i:=13) (v:=undef) rfl (by kernel_rfl) (by kernel_rfl) (by kernel_rfl) (fun _ _ _ h=>h) (Or.inr ⟨by kernel_rfl,rfl⟩) hS ?_
      refine wpAnyH_take (i:=14) (v:=undef) rfl (by kernel_rfl) (by kernel_rfl) (by kernel_rfl) (fun _ _ _ h=>h) (Or.inr ⟨by kernel_rfl,rfl⟩) hS ?_
      refine wpAnyH_take (i:=15) (v:=.bool false) rfl (by kernel_rfl) (by kernel_rfl) (by kernel_rfl) (fun _ _ _ h=>h) (Or.inl ⟨by kernel_rfl,fun _ _=>by kernel_rfl⟩) hS ?_
      refine wpAnyH_ready (rs:=[4,16]) (by kernel_rfl) (by simp) ?_
      refine AllReadyH.cons rfl (fun K hK=>?_) (AllReadyH.cons rfl (fun K hK=>?_) AllReadyH.nil)
      go_simp
      refine hK.out _ _ hS (fun hS2=>?_)
      clear hK K
      refine wpAnyH_ready (rs:=[16]) (by kernel_rfl) (by simp) ?_
      rotate_left
      go_simp
      refine hK.out _ _ SA.out (fun hS2=>?_)
      clear hK K
      refine wpAnyH_ready (rs:=[4]) (by kernel_rfl) (by simp) ?_
      all_goals
       refine AllReadyH.cons rfl (fun K hK=>?_) AllReadyH.nil
       go_simp
       refine hK.out _ _ SA.out (fun hS3=>?_)
       clear hK K hS2 hS3
       refine wpAnyH_ready (rs:=[17]) (by kernel_rfl) (by simp) ?_
       refine AllReadyH.cons rfl (fun K hK=>?_) AllReadyH.nil
       rw [if_pos (by kernel_rfl)]
       refine yZ _ (.tmp 35) (.tmp 47) 128 rfl WB.heap.size 4 i0 (.bool false) 1 1 Tryz.underlying128 hi hz0 hz1 hz2 rfl (by decide) (.slice av j cv) j sl (by kernel_rfl) hA.out ⟨W6.heap.size,0,none⟩ 1 1 [.bool false] (by kernel_rfl) rfl hN.out hOne.out h63.out hby.out hbs.out ?_
       intro v' w3 hown' hgrow _ _
       obtain ⟨av',cv',rfl⟩:=yh hown'
       obtain ⟨t1,t2,t3,t4,t5⟩:=STEP.out _ _ hown' hgrow
       have T1:=hid t1
       have T3:Hid ((w3.setCell ⟨bk,2,none⟩ (.slice av' (j+1) cv')).cell? ⟨L,2,none⟩=some (.int .i64 r.kind)):=t3.cell 2
       refine hK.out _ _ (t2.cell 2) (fun hS4=>?_)
       clear hK K hown' hgrow t1 t2 t3
       refine wpAnyH_take (i:=18) (v:=?_) rfl (by kernel_rfl) (by kernel_rfl) (by kernel_rfl) (fun _ _ _ h=>h) (Or.inl ⟨by kernel_rfl,?_⟩) hS4 ?_
       rotate_left
       ·intro w' hw'; have x2:=hw'; go_simp; with_reducible rfl
       refine wpAnyH_take (i:=19) (v:=?_) rfl (by kernel_rfl) (by kernel_rfl) (by kernel_rfl) (fun _ _ _ h=>h) (Or.inl ⟨by kernel_rfl,?_⟩) hS4 ?_
       rotate_left
       ·intro w' hw'; have x2:=hw'; go_simp; with_reducible rfl
       refine wpAnyH_ready (rs:=[20]) (by kernel_rfl) (by simp) ?_
       refine AllReadyH.cons rfl (fun K hK=>?_) AllReadyH.nil
       go_simp
       refine hK.out _ _ T3.out (fun hS5=>?_)
       clear hK K
       refine wpAnyH_done (by kernel_rfl) ?_ _
       try simp only [yaL,ysy,ysw,ysx,yso,ysm,ysn]
       clear hA hN hOne h63 hby hbs m2 n2 t4 t5 hS4 hS5 hS STEP SA T3
       go_wp2
       go_roundw
       case rel=>exact ⟨j+1,_,by omega,by go_num,by rw [TK.out,EX.out]; exact T1.out⟩
       case measure=>simp [intOf]; omega
    ·obtain rfl:j=m.obj.rels.length:=by omega
     have g3:decide ((m.obj.rels.length:Int) < (m.obj.rels.length:Int))=false:=by simp
     have PA:=hid (PK.out ((m.obj.rels.take m.obj.rels.length).map (Ln.shortOne ms m)) _ wr (by rw [LJ]; exact HM.out))
     rw [List.take_length,FIN.out] at PA
     clear LJ
     go_wp2
     go_roundw
     case rel=>exact ⟨k+1,by omega,by go_num,PA.out⟩
     case measure=>simp [intOf]; omega
  ·obtain rfl:k=bl.length:=by omega
   have g3:decide ((bl.length:Int) < (bl.length:Int))=false:=by simp
   have HP1:=hid (show yT Wf W0 P bt bf bd (.slice am bl.length cm) bl gl L1 st no wr by
    have:=HP.out
    rwa [List.drop_of_length_le (by rw [LO.out]; exact Nat.le_refl _),List.append_nil,List.take_of_length_le (by rw [LL.out,LO.out]; exact Nat.le_refl _)] at this)
   clear HP
   go_wp2
   go_end0
   rw [<- HL1.out]
   exact ⟨rfl,HP1.out⟩
theorem yiF:∀ (ms:List Ln.Mod) (t f d:Int),(Ln.layMods ms t f d).map Ln.Mod.short=ms.map Ln.Mod.short:=by
 intro ms
 induction ms with
 | nil=>intro t f d; rfl
 | cons m ms ih=>intro t f d; unfold Ln.layMods; rw [List.map_cons,ih,List.map_cons]; rfl
theorem yjE:∀ (ms:List Ln.Mod) (b:Int),(Ln.layBss ms b).map Ln.Mod.short=ms.map Ln.Mod.short:=by
 intro ms
 induction ms with
 | nil=>intro b; rfl
 | cons m ms ih=>intro b; unfold Ln.layBss; rw [List.map_cons,ih,List.map_cons]
theorem ymw:∀ (ms:List Ln.Mod) (b:Int),(Ln.layBss ms b).map Ln.Mod.obj=ms.map Ln.Mod.obj:=by
 intro ms
 induction ms with
 | nil=>intro b; rfl
 | cons m ms ih=>intro b; unfold Ln.layBss; rw [List.map_cons,ih,List.map_cons]
theorem ydh (ms:List Ln.Mod) (t f d:Int):(Ln.lay t f d ms).map Ln.Mod.obj=ms.map Ln.Mod.obj:=by unfold Ln.lay; rw [ymw,ycz]
theorem ynJ (ms:List Ln.Mod) (t f d:Int):(Ln.lay t f d ms).map Ln.Mod.short=ms.map Ln.Mod.short:=by unfold Ln.lay; rw [yjE,yiF]
theorem ycA (ms:List Ln.Mod):(Ln.shorten ms).map Ln.Mod.obj=ms.map Ln.Mod.obj:=by unfold Ln.shorten; rw [List.map_map]; rfl
theorem yaJ {ms ms':List Ln.Mod} (h:ms'.map Ln.Mod.obj=ms.map Ln.Mod.obj) (hv:∀ m∈ms,yv m.obj):∀ m∈ms',yv m.obj:=by
 intro m hm
 have:m.obj∈ms.map Ln.Mod.obj:=by rw [<- h]; exact List.mem_map_of_mem hm
 obtain ⟨x,hx,e⟩:=List.mem_map.1 this
 rw [<- e]
 exact hv x hx
theorem yfg:∀ (ms:List Ln.Mod) (d:Int),(∀ m∈ms,yv m.obj)->0<=d->d+5000 * ms.length<=562949953421312->d<=Ln.dataEnd ms d/\Ln.dataEnd ms d<=d+5000 * ms.length:=by
 intro ms
 induction ms with
 | nil=>intro d _ _ _; simp [Ln.dataEnd]
 | cons m ms ih =>
  intro d hv h0 h1
  simp only [yss] at h1 ⊢
  unfold Ln.dataEnd
  have r:=yaM d (Ln.border m.obj 3) h0 (by omega) (yY _)
  have hl:m.obj.data.length<=64:=(hv m (by simp)).1.1.2.2
  have q:=ih (Ln.rup d (Ln.border m.obj 3)+4 * m.obj.data.length) (fun x hx=>hv x (by simp [hx])) (by omega) (by omega)
  omega
theorem yjF (n:Nat):∀ (ms:List Ln.Mod) (t f d:Int),(∀ m∈ms,yI n m)->(∀ m∈ms,yv m.obj)->0<=t->t+5000 * ms.length<=562949953421312->0<=f->f+5000 * ms.length<=562949953421312->0<=d->d+5000 * ms.length<=562949953421312->∀ m∈Ln.layMods ms t f d,yI n m:=by
 intro ms
 induction ms with
 | nil=>intro t f d _ _ _ _ _ _ _ _ m hm; simp [Ln.layMods] at hm
 | cons x ms ih =>
  intro t f d hn hv a0 a1 b0 b1 c0 c1 m hm
  simp only [yss] at a1 b1 c1
  have vx:=hv x (by simp)
  have r1:=ybR vx 1 (.inl rfl) t a0 (by omega)
  have r2:=ybR vx 2 (.inr rfl) f b0 (by omega)
  have r3:=yaM d (Ln.border x.obj 3) c0 (by omega) (yY _)
  have hl:x.obj.data.length<=64:=vx.1.1.2.2
  unfold Ln.layMods at hm
  rcases List.mem_cons.1 hm with rfl | hm
  ·have s1:=yI.setText (ps:=Ln.layPlaces x 1 t) (hn x (by simp)) (by omega) (fun p hp=>by have:=r1.2.2 p hp; omega)
   have s2:=yI.setFar (ps:=Ln.layPlaces x 2 f) s1 (by omega) (fun p hp=>by have:=r2.2.2 p hp; omega)
   exact yI.setData (x:=Ln.rup d (Ln.border x.obj 3)) s2 ⟨by omega,by omega⟩
  ·exact ih _ _ _ (fun y hy=>hn y (by simp [hy])) (fun y hy=>hv y (by simp [hy])) (by omega) (by omega) (by omega) (by omega) (by omega) (by omega) m hm
theorem ykR (n:Nat):∀ (ms:List Ln.Mod) (b:Int),(∀ m∈ms,yI n m)->(∀ m∈ms,yv m.obj)->0<=b->b+5000 * ms.length<=562949953421312->∀ m∈Ln.layBss ms b,yI n m:=by
 intro ms
 induction ms with
 | nil=>intro b _ _ _ _ m hm; simp [Ln.layBss] at hm
 | cons x ms ih =>
  intro b hn hv a0 a1 m hm
  simp only [yss] at a1
  have vx:=hv x (by simp)
  have r3:=yaM b (Ln.border x.obj 4) a0 (by omega) (yY _)
  have hl:=vx.1.2.1
  unfold Ln.layBss at hm
  rcases List.mem_cons.1 hm with rfl | hm
  ·exact (hn x (by simp)).setBss ⟨by omega,by omega⟩
  ·exact ih _ (fun y hy=>hn y (by simp [hy])) (fun y hy=>hv y (by simp [hy])) (by omega) (by omega) m hm
theorem ygv {n:Nat} {ms:List Ln.Mod} {t f d:Int} (hn:∀ m∈ms,yI n m) (hv:∀ m∈ms,yv m.obj) (hl:ms.length<=4096) (ht:0<=t/\t<=4294967296) (hf:0<=f/\f<=4294967296) (hd:0<=d/\d<=4294967296):∀ m∈Ln.lay t f d ms,yI n m:=by
 have r:=yfg ms d hv hd.1 (by omega)
 exact ykR n _ _ (yjF n ms t f d hn hv ht.1 (by omega) hf.1 (by omega) hd.1 (by omega)) (yaJ (ycz ms t f d) hv) (by omega) (by rw [ydr]; omega)
theorem yfE {n:Nat} {ms:List Ln.Mod} (hn:∀ m∈ms,yI n m):∀ m∈Ln.shorten ms,yI n m:=by
 intro m hm
 unfold Ln.shorten at hm
 obtain ⟨y,hy,rfl⟩:=List.mem_map.1 hm
 exact (hn y hy).setShort (by rw [ysv]; exact (hn y hy).rels.1)
set_option maxRecDepth 100000 in
set_option maxHeartbeats 4000000 in
theorem ymx (Wf W0:World) (P:Nat) (bt bf bd:Int) (vm:Value) (bl gl:List Nat) (ms:List Ln.Mod) (st:Ln.Spot) (no:Int) (W:World) (h:yT Wf W0 P bt bf bd vm bl gl ms st no W) (hn:∀ m∈ms,yI bl.length m) (hv:∀ m∈ms,yv m.obj) (hz:∀ m∈ms,m.short=[])
  (hbt:0<=bt/\bt<=4294967296) (hbf:0<=bf/\bf<=4294967296) (hbd:0<=bd/\bd<=4294967296) :
  Calls Tryz.prog 39 #[ptrV P] W fun e W'=>e = .returned (.tuple #[])/\yT Wf W0 P bt bf bd vm bl gl (Ln.layout bt bf bd ms) st (Ln.noughts bd (Ln.shorten (Ln.lay bt bf bd ms))) W':=by
 have hl:ms.length<=4096:=by rw [h.lenO]; exact h.few
 have n1:=ygv hn hv hl hbt hbf hbd
 have v1:=yaJ (ydh ms bt bf bd) hv
 have z1:∀ m∈Ln.lay bt bf bd ms,m.short=[]:=by
  intro m hm
  have:m.short∈ms.map Ln.Mod.short:=by rw [<- ynJ ms bt bf bd]; exact List.mem_map_of_mem hm
  obtain ⟨x,hx,e⟩:=List.mem_map.1 this
  rw [<- e]
  exact hz x hx
 have c1:=hid (ygT Wf W0 P bt bf bd vm bl gl ms st no W h hn hv hbt hbf hbd)
 have c2:=hid (fun W2 no2 (h2:yT Wf W0 P bt bf bd vm bl gl (Ln.lay bt bf bd ms) st no2 W2)=>ylr Wf W0 P bt bf bd vm bl gl _ st no2 W2 h2 n1 z1)
 have c3:=hid (fun W2 no2 (h2:yT Wf W0 P bt bf bd vm bl gl (Ln.shorten (Ln.lay bt bf bd ms)) st no2 W2)=>ygT Wf W0 P bt bf bd vm bl gl _ st no2 W2 h2 (yfE n1) (yaJ (ycA _) v1) hbt hbf hbd)
 have E:=hid (show Ln.layout bt bf bd ms=Ln.lay bt bf bd (Ln.shorten (Ln.lay bt bf bd ms)) from rfl)
 clear h hn hv hz n1 v1 z1 hbt hbf hbd hl
 unfold ptrV at *
 go_enter Tryz.func39,Tryz.ntmps39
 go_wp2_with fail
 refine c1.out.mono ?_
 rintro e W2 ⟨rfl,h2⟩
 have H2:=hid h2
 clear h2 c1
 go_wp2_with fail
 refine (c2.out _ _ H2.out).mono ?_
 rintro e W3 ⟨rfl,h3⟩
 have H3:=hid h3
 clear h3 c2
 go_wp2_with fail
 refine (c3.out _ _ H3.out).mono ?_
 rintro e W4 ⟨rfl,h4⟩
 have H4:=hid h4
 clear h4 c3
 go_wp2
 go_end0
 rw [E.out]
 exact ⟨rfl,H4.out⟩
theorem yhT (f n:Int) (h0:0<=n) (h1:n<=4294967295):0<=rdF f n/\rdF f n < 32:=by
 unfold rdF
 split
 ·rw [low (n / 128) 5 (by decide) 31 32 rfl rfl (by omega) (by omega)]; omega
 ·decide
theorem ykf (f n:Int) (h0:0<=n) (h1:n<=4294967295):0<=rs1F f n/\rs1F f n < 32:=by
 unfold rs1F
 split
 ·rw [low (n / 32768) 5 (by decide) 31 32 rfl rfl (by omega) (by omega)]; omega
 ·decide
theorem ykg (f n:Int) (h0:0<=n) (h1:n<=4294967295):0<=rs2F f n/\rs2F f n < 32:=by
 unfold rs2F
 split
 ·rw [low (n / 1048576) 5 (by decide) 31 32 rfl rfl (by omega) (by omega)]; omega
 ·decide
theorem ypx (f n:Int) (h0:0<=n) (h1:n<=4294967295):-2147483648<=Mc.numF f n/\Mc.numF f n<=2147483647:=by
 unfold Mc.numF Mc.v2 Mc.v4 Mc.v5
 split
 ·omega
 split
 ·split <;> omega
 split
 ·split <;> omega
 split
 ·split <;> omega
 split
 ·split <;> omega
 ·decide
theorem ymM (n:Int):Mc.opOf n<=25:=by
 unfold Mc.opOf
 cases h:(List.range 26).find? (fun k=>decide (1<=k) && decide (Is k n)) with
 | none=>simp
 | some k =>
  have:=List.mem_range.1 (List.mem_of_find?_eq_some h)
  simp
  omega
def Im.Wordy (m:Im.Img):Prop:=(∀ i,0<=m.T.getD i 0/\m.T.getD i 0 < 4294967296)/\∀ i,0<=m.F.getD i 0/\m.F.getD i 0 < 4294967296
theorem ynr {m:Im.Img} (h:Im.Wordy m) {a w:Int} (hc:Im.code m a=some w):0<=w/\w<=4294967295:=by
 unfold Im.code at hc
 split at hc
 ·simp only [Option.some.injEq] at hc
  have:=h.1 (Im.place m.text m.T.length a).toNat
  omega
 split at hc
 ·simp only [Option.some.injEq] at hc
  have:=h.2 (Im.place m.far m.F.length a).toNat
  omega
 ·cases hc
set_option maxRecDepth 100000 in
set_option maxHeartbeats 8000000 in
theorem ynT (W0:World) (b g:Nat) (ai:Option Addr) (ci:Nat) (ins:List Int) (st:Mc.St) (vd vo:Value) (m:Im.Img) (W:World) (h:yu W0 b g (.slice ai ins.length ci) st vd vo W) (hI:yah W0 g m) (hT:Im.Tame m) (hW:Im.Wordy m) (hin:yz W0 ai ins) (hl:ins.length<=16) (ht:Tabs W0) (hs:st.steps < 65536)
  (cD:∀ (st:Mc.St) (op rd rs1 rs2 n:Int) (W:World),yas W0 b g ai ci ins st vd vo m rd rs1 rs2 n W->0<=op/\op<=25 ->
   Calls Tryz.prog 83 #[.pointer (some ⟨b,0,none⟩),insV op rd rs1 rs2 n] W fun e W'=>e = .returned (.tuple #[])/\yac W0 b g (.slice ai ins.length ci) (Mc.doIt m ins op rd rs1 rs2 n st) W') :
  Calls Tryz.prog 48 #[.pointer (some ⟨b,0,none⟩)] W fun e W'=>e = .returned (.tuple #[])/\yac W0 b g (.slice ai ins.length ci) (Mc.step m ins st) W':=by
 have H:=hid h
 have c40:=h.c.2.2.2.2.2.2.2.2.1
 have f40:=h.free 40
 have hp:=h.ok.pc
 have x1:IntKind.i64.wrap ((st.steps:Int)+1)=(st.steps:Int)+1:=IntWalk.i64_in _ ⟨by omega,by omega⟩
 have x2:IntKind.i64.wrap (st.pc+4)=st.pc+4:=IntWalk.i64_in _ ⟨by omega,by omega⟩
 have H1:Hid (yu W0 b g (.slice ai ins.length ci) { st with steps:=st.steps+1 } vd vo (W.setCell ⟨b,40,none⟩ (.int .i64 ((st.steps:Int)+1)))):=by
  have:=h.putSteps (st.steps+1) (by omega)
  rw [show ((st.steps+1:Nat):Int)=(st.steps:Int)+1 by omega] at this
  exact this
 have cC:=hid (fun V (hV:yu W0 b g (.slice ai ins.length ci) { st with steps:=st.steps+1 } vd vo V)=>yeM g m st.pc V (hI.kept hV.gr) hT hp.1 hp.2)
 have cW:=hid (fun W=>ybb (st.pc+4) W)
 have CD:=hid cD
 have HI:=hid hI
 have HT:=hid hT
 have HN:=hid hin
 have TB:=hid ht
 have CWD:=hid (fun w (hc:Im.code m st.pc=some w)=>ynr hW hc)
 obtain ⟨X,hX⟩:∃ X,X=Mc.step m ins st:=⟨_,rfl⟩
 rw [<- hX]
 unfold Mc.step at hX
 have RX:=hid hX
 clear h hI hT hin ht cD hX
 generalize Im.code m st.pc=cd at *
 go_enter Tryz.func48,Tryz.ntmps48
 go_wp2
 generalize W.setCell ⟨b,40,none⟩ (.int .i64 ((st.steps:Int)+1))=V at *
 clear c40 f40 x1 H
 have c0:=H1.out.c.1
 have c35:=H1.out.c.2.2.2.1
 go_quiet ((go_at_call 76; refine Calls.quiet_of (cC.out _ ?_); exact H1.out.grown (ye (World.grownBy.refl _ none) _)))
 have H2:=hid (H1.out.grown (ye (World.grownBy.refl _ none) nq))
 clear c0 c35 H1 cC
 generalize V.drewN nq=V2 at *
 have c35:=H2.out.c.2.2.2.1
 have c36:=H2.out.c.2.2.2.2.1
 have f36:=H2.out.free 36
 cases cd with
 | none =>
  simp only at RX
  have c37:=H2.out.c.2.2.2.2.2.1
  have f37:=H2.out.free 37
  go_wp2
  (try simp only [Exit.inBlock,Exit.then]); refine bodyPost_ret (results_none rfl _ _ _) rfl ?_
  rw [RX.out]
  exact ⟨rfl,_,_,H2.out.putEnd 2⟩
 | some wv =>
  have wr:=CWD.out wv rfl
  simp only at RX
  go_wp2_with fail
  refine (cW.out _).mono ?_
  rintro e V3 ⟨rfl,hV⟩
  subst hV
  have H3:=hid (H2.out.putNext (Mc.wd (st.pc+4)) (Mc.wd_range _))
  go_wp2_with fail
  generalize V3.setCell ⟨b,36,none⟩ (.int .i64 (Mc.wd (st.pc+4)))=V4 at *
  clear c35 c36 f36 H2 cW x2
  have o1:=ymM wv
  have p1:=yhT (Mc.formOf wv) wv wr.1 wr.2
  have p2:=ykf (Mc.formOf wv) wv wr.1 wr.2
  have p3:=ykg (Mc.formOf wv) wv wr.1 wr.2
  have p4:=ypx (Mc.formOf wv) wv wr.1 wr.2
  have cE:=hid (ydS wv V4 (TB.out.grown H3.out.gr) wr.1 wr.2)
  generalize Mc.opOf wv=op at *
  generalize rdF (Mc.formOf wv) wv=rd at *
  generalize rs1F (Mc.formOf wv) wv=rs1 at *
  generalize rs2F (Mc.formOf wv) wv=rs2 at *
  generalize Mc.numF (Mc.formOf wv) wv=n at *
  refine cE.out.mono ?_
  rintro e V5 ⟨rfl,hg⟩
  have H4:=hid (H3.out.grown hg)
  have H5:=hid (H4.out.grown (ysp V5 (.cells #[.int .i64 op,.int .i64 rd,.int .i64 rs1,.int .i64 rs2,.int .i64 n] 143) none))
  clear hg H3 cE
  unfold insV
  go_wp2_with fail
  refine (CD.out _ op rd rs1 rs2 n _ ⟨H5.out,HI.out,HT.out,HN.out,hl,p1,p2,p3,p4⟩ (by omega)).mono ?_
  rintro e V6 ⟨rfl,vd',vo',h6⟩
  have H6:=hid h6
  clear h6 H4 H5 CD
  have c35:=H6.out.c.2.2.2.1
  have c36:=H6.out.c.2.2.2.2.1
  have f35:=H6.out.free 35
  go_wp2
  go_end0
  rw [RX.out]
  exact ⟨rfl,_,_,H6.out.putPc _ H6.out.ok.next⟩
theorem yqB (n:Int):Mc.opOf n<=25:=by
 unfold Mc.opOf
 cases e:(List.range 26).find? (fun k=>decide (1<=k) && decide (Is k n)) with
 | none=>simp
 | some k =>
  have:=List.mem_of_find?_eq_some e
  have:=List.mem_range.1 this
  simp only [Option.getD_some]
  omega
namespace Ln
def encZ (op rd rs1 rs2:Nat) (n:Int):Int:=if op=0 then 0 else (As.enc op rd rs1 rs2 n:Nat)
def withNumber (w n:Int):Int:=encZ (Mc.opOf w) (rdF (Mc.formOf w) w).toNat (rs1F (Mc.formOf w) w).toNat (rs2F (Mc.formOf w) w).toNat n
def withPart (w:Int) (first:Bool) (v:Int):Int:=withNumber w (if first then As.partHigh v else As.partLow v)
end Ln
set_option maxRecDepth 100000 in
set_option maxHeartbeats 4000000 in
theorem yfY (op rd rs1 rs2:Nat) (n:Int) (w:World) (ht:Tabs w) (h2:op<=25) :
  Calls Tryz.prog 194 #[insN op rd rs1 rs2 n] w fun e w'=>e = .returned (.int .i64 (Ln.encZ op rd rs1 rs2 n))/\w.grownBy w' none:=by
 by_cases h:op=0
 ·subst h
  have A0:=hid (ysp w (.cells #[.int .i64 0,.int .i64 rd,.int .i64 rs1,.int .i64 rs2,.int .i64 n] 143) none)
  unfold insN
  go_enter Tryz.func194,Tryz.ntmps194
  go_wp2
  go_ret
  exact ⟨rfl,A0.out⟩
 ·have:=yat op rd rs1 rs2 n w ht (by omega) h2
  unfold Ln.encZ
  rw [if_neg h]
  exact this
set_option maxRecDepth 100000 in
set_option maxHeartbeats 4000000 in
theorem yeE (x n:Int) (w:World) (ht:Tabs w) (h0:0<=x) (h1:x<=4294967295) :
  Calls Tryz.prog 171 #[.int .i64 x,.int .i64 n] w fun e w'=>e = .returned (.int .i64 (Ln.withNumber x n))/\w.grownBy w' none:=by
 have cD:=hid (ydS x w ht h0 h1)
 have r1:=yhT (Mc.formOf x) x h0 h1
 have r2:=ykf (Mc.formOf x) x h0 h1
 have r3:=ykg (Mc.formOf x) x h0 h1
 have E:=hid (show Ln.withNumber x n=Ln.encZ (Mc.opOf x) (rdF (Mc.formOf x) x).toNat (rs1F (Mc.formOf x) x).toNat (rs2F (Mc.formOf x) x).toNat n from rfl)
 have ho:=yqB x
 have HT:=hid ht
 generalize Mc.opOf x=op at *
 generalize Mc.numF (Mc.formOf x) x=nf at *
 generalize rdF (Mc.formOf x) x=rd at *
 generalize rs1F (Mc.formOf x) x=rs1 at *
 generalize rs2F (Mc.formOf x) x=rs2 at *
 obtain ⟨a,rfl⟩:∃ a:Nat,rd=(a:Int):=⟨rd.toNat,by omega⟩
 obtain ⟨b,rfl⟩:∃ b:Nat,rs1=(b:Int):=⟨rs1.toNat,by omega⟩
 obtain ⟨c,rfl⟩:∃ c:Nat,rs2=(c:Int):=⟨rs2.toNat,by omega⟩
 rw [Int.toNat_natCast,Int.toNat_natCast,Int.toNat_natCast] at E
 have cE:=hid (fun W hW=>yfY op a b c n W hW ho)
 clear ht r1 r2 r3
 unfold insV at cD
 unfold insN at cE
 go_enter Tryz.func171,Tryz.ntmps171
 go_wp2_with fail
 refine cD.out.mono ?_
 rintro e W2 ⟨rfl,h2⟩
 have A2:=hid (ya h2 (ysp W2 (.cells #[.int .i64 op,.int .i64 a,.int .i64 b,.int .i64 c,.int .i64 n] 143) none))
 clear h2
 go_wp2_with fail
 refine (cE.out _ (HT.out.grown A2.out)).mono ?_
 rintro e W3 ⟨rfl,h3⟩
 have G3:=hid (ya A2.out h3)
 clear h3 cE cD
 go_wp2
 go_ret
 exact ⟨by rw [E.out]; rfl,G3.out⟩
set_option maxRecDepth 100000 in
set_option maxHeartbeats 4000000 in
theorem ykx (x:Int) (f:Bool) (v:Int) (w:World) (ht:Tabs w) (h0:0<=x) (h1:x<=4294967295) (h2:-2147483648<=v) (h3:v<=2147483647) :
  Calls Tryz.prog 174 #[.int .i64 x,.bool f,.int .i64 v] w fun e w'=>e = .returned (.int .i64 (Ln.withPart x f v))/\w.grownBy w' none:=by
 have cP:=hid (yfA v w h2 h3)
 have cN:=hid (fun n=>yeE x n w ht h0 h1)
 cases f
 ·have E:=hid (show Ln.withPart x false v=Ln.withNumber x (As.partLow v) from rfl)
  clear ht
  go_enter Tryz.func174,Tryz.ntmps174
  go_wp2_with fail
  refine cP.out.mono ?_
  rintro e w' ⟨rfl,hw⟩
  rw [hw]
  clear hw w' cP
  go_wp2_with fail
  refine (cN.out _).mono ?_
  rintro e W2 ⟨rfl,h5⟩
  have G:=hid h5
  clear h5 cN
  go_wp2
  go_ret
  exact ⟨by rw [E.out]; rfl,G.out⟩
 ·have E:=hid (show Ln.withPart x true v=Ln.withNumber x (As.partHigh v) from rfl)
  clear ht
  go_enter Tryz.func174,Tryz.ntmps174
  go_wp2_with fail
  refine cP.out.mono ?_
  rintro e w' ⟨rfl,hw⟩
  rw [hw]
  clear hw w' cP
  go_wp2_with fail
  refine (cN.out _).mono ?_
  rintro e W2 ⟨rfl,h5⟩
  have G:=hid h5
  clear h5 cN
  go_wp2
  go_ret
  exact ⟨by rw [E.out]; rfl,G.out⟩
end Go.Proofs.YtpgklkhgfcjceaaGreatDoor
