/- Walks over package object's checks: validReloc. -/
/- Walks over package object's checks: validRelocs. -/
/- Walks over package object: valid, Read. -/
/- Walks over package object: Read. -/
/- Linking: modules in memory; names. -/
/- Linking: walks over names. -/
import Derived.Test.YtnfgdlkiialnnaaGreatDoorG05
import Derived.Test.YtnfgdlkiialnnaaGreatDoorG04
namespace Go.Proofs.YtnfgdlkiialnnaaGreatDoor
open Go.RowKit

def BordOk (o:Lk.Obj) (r:Lk.Rel):Prop:=r.kind=6→r.addend+4≤borderI (o.align.getD (r.sect.toNat - 1) 0)
def RelOk (o:Lk.Obj) (r:Lk.Rel):Prop:=KindOk r∧AddendOk r∧SymIx o r∧BordOk o r∧AboutOk o r∧GoesP r.kind (about o r)∧¬ WithinP o r

theorem about_facts {o:Lk.Obj} {r:Lk.Rel} (ha:AddendOk r) (hab:AboutOk o r) (hw:Words (wordsOf o r.sect)):(about o r).length=(spanI r).toNat∧Words (about o r)∧(about o r).length≤3∧1≤(about o r).length:=by
 have hs:=span_range ha
 obtain ⟨b1,b2,b3⟩:=hab
 have hl:(about o r).length=(spanI r).toNat:=by unfold about; simp; omega
 refine ⟨hl,?_,by omega,by omega⟩
 intro i hi
 have hi':(r.off / 4).toNat+i < (wordsOf o r.sect).length:=by omega
 have e:(about o r)[i]=(wordsOf o r.sect)[(r.off / 4).toNat+i]:=by
  simp only [about,List.getElem_take,List.getElem_drop]
 rw [e]
 exact hw _ hi'

theorem wordsOf_words {o:Lk.Obj} (h:AllWords o) (sect:Int):Words (wordsOf o sect):=by
 unfold wordsOf
 split
 ·exact h.1
 split
 ·exact h.2.1
 split
 ·exact h.2.2
 ·intro i hi; simp at hi

theorem tells_yes {e:Ending} {P:Prop} (h:Tells e P) (hp:P):e = .returned (.bool true):=by
 rcases h.split with ⟨_,q⟩ | ⟨h1,_⟩
 ·exact absurd hp q.out
 ·exact h1
theorem tells_no {e:Ending} {P:Prop} (h:Tells e P) (hp:¬ P):e = .returned (.bool false):=by
 rcases h.split with ⟨h1,_⟩ | ⟨_,q⟩
 ·exact h1
 ·exact absurd q.out hp

set_option maxHeartbeats 4000000 in
theorem validReloc_any (g:Nat) (o:Lk.Obj) (r:Lk.Rel) (w:World) (ht:Tabs w) (h:ObjAt w g o) (hn:Small o) (hb4:Borders o.align) (hw:AllWords o) (hr:r.off≤9223372036854775807) :
  Calls Tryz.prog 175 #[.pointer (some ⟨g,0,none⟩),relA r] w fun e w'=>Tells e (RelOk o r)∧w.grownBy w' none:=by
 have no:Hid (∀ W,(¬ RelOk o r)→w.grownBy W none→Tells (.returned (.bool false)) (RelOk o r)∧w.grownBy W none):=fun W a b=>⟨Tells.no a,b⟩
 have HO:=hid h
 have HT:=hid ht
 have HN:=hid hn
 have HB4:=hid hb4
 have HW:=hid hw
 clear h ht hn hb4 hw
 have B:=BlkAt.new w #[.int .i64 r.sect,.int .i64 r.off,.int .i64 r.kind,.int .i64 r.sym,.int .i64 r.addend] 139
 have GB:=World.grownBy_alloc w (.cells #[.int .i64 r.sect,.int .i64 r.off,.int .i64 r.kind,.int .i64 r.sym,.int .i64 r.addend] 139) none
 have HBk:=hid B
 have HGB:=hid GB
 clear B GB
 have cK:=hid (fun W=>validKind_any r W)
 have cA:=hid (fun W=>validAddend_any r W)
 have cS:=hid (fun W (hW:ObjAt W g o)=>validSym_any g o r W hW HN.out)
 have fold:relA r = .agg #[.int .i64 r.sect,.int .i64 r.off,.int .i64 r.kind,.int .i64 r.sym,.int .i64 r.addend]:=rfl
 rw [fold]
 rw [fold] at cK cA cS
 clear fold
 go_enter Tryz.func175,Tryz.ntmps175
 go_wp2_with fail
 refine Calls.at_world (fun W=>BlkAt W w.heap.size #[.int .i64 r.sect,.int .i64 r.off,.int .i64 r.kind,.int .i64 r.sym,.int .i64 r.addend] 139∧w.grownBy W none) ⟨HBk.out,HGB.out⟩ ?_
 rintro W1 ⟨bk1,g1⟩
 refine (cK.out W1).mono ?_
 rintro e W2 ⟨t,q⟩
 have BK2:=bk1.grown q (by simp)
 have G2:=hid (grown_trans g1 q)
 rcases t.split with ⟨rfl,p1⟩ | ⟨rfl,p1⟩ <;> clear t q bk1 g1
 ·clear BK2
  go_wp2
  go_ret
  exact no.out _ (fun h=>p1.out h.1) G2.out
 have c0:=BK2.cell 0
 have c1:=BK2.cell 1
 have c2:=BK2.cell 2
 have c3:=BK2.cell 3
 have c4:=BK2.cell 4
 have HB2:=hid BK2
 clear BK2
 go_wp2_with fail
 refine (cA.out W2).mono ?_
 rintro e W3 ⟨t,q⟩
 have BK3:=HB2.out.grown q (by simp)
 have G3:=hid (grown_trans G2.out q)
 clear c0 c1 c2 c3 c4
 rcases t.split with ⟨rfl,p2⟩ | ⟨rfl,p2⟩ <;> clear t q
 ·clear BK3
  go_wp2
  go_ret
  exact no.out _ (fun h=>p2.out h.2.1) G3.out
 have c0:=BK3.cell 0
 have c1:=BK3.cell 1
 have c2:=BK3.cell 2
 have c3:=BK3.cell 3
 have c4:=BK3.cell 4
 have HB3:=hid BK3
 clear BK3
 go_wp2_with fail
 refine (cS.out W3 (HO.out.kept G3.out)).mono ?_
 rintro e W4 ⟨t,q⟩
 have BK4:=HB3.out.grown q (by simp)
 have G4:=hid (grown_trans G3.out q)
 clear c0 c1 c2 c3 c4
 rcases t.split with ⟨rfl,p3⟩ | ⟨rfl,p3⟩ <;> clear t q
 ·clear BK4
  go_wp2
  go_ret
  exact no.out _ (fun h=>p3.out h.2.2.1) G4.out
 have c0:=BK4.cell 0
 have c1:=BK4.cell 1
 have c2:=BK4.cell 2
 have c3:=BK4.cell 3
 have c4:=BK4.cell 4
 have HB4':=hid BK4
 clear BK4
 have kinds:=p1.out
 unfold KindOk at kinds
 by_cases hk6:r.kind=6
 ·have hs:1≤r.sect∧r.sect≤2:=by omega
  have ha:=p2.out.six hk6
  obtain ⟨sn,hsn⟩:∃ sn:Nat,r.sect=(sn:Int):=⟨r.sect.toNat,by omega⟩
  have hal:=HB4.out.1
  have cB:=hid (fun W (hW:ObjAt W g o)=>show Calls Tryz.prog 95 #[.pointer (some ⟨g,0,none⟩),.int .i64 r.sect] W fun e w'=>e = .returned (.int .i64 (borderI (o.align.getD (r.sect.toNat - 1) 0)))∧w'=W from by
   have:=borderOf_any g o sn W hW HB4.out (by omega) (by omega)
   rw [hsn,Int.toNat_natCast,List.getD_eq_getElem?_getD,List.getElem?_eq_getElem (by omega)]
   exact this)
  have BB:=hid (show BordOk o r↔r.addend+4≤borderI (o.align.getD (r.sect.toNat - 1) 0) from ⟨fun h=>h hk6,fun h _=>h⟩)
  generalize borderI (o.align.getD (r.sect.toNat - 1) 0)=bd at *
  have d6:(r.kind == 6)=true:=beq_iff_eq.2 hk6
  have hw4:IntKind.i64.wrap (r.addend+4)=r.addend+4:=IntWalk.i64_in _ ⟨by omega,by omega⟩
  have K6:=hid hk6
  clear hk6 kinds hsn hal
  by_cases hbd:bd < r.addend+4
  ·have db:decide (bd < r.addend+4)=true:=by simpa using hbd
   go_wp2
   go_quiet ((go_at_call 95; exact Calls.quiet_of_same (cB.out _ ((HO.out.kept G4.out).drewN _))))
   go_wp2
   go_ret
   exact no.out _ (fun h=>by have:=BB.out.1 h.2.2.2.1; omega) (grown_drewN G4.out _)
  ·have db:decide (bd < r.addend+4)=false:=by simp; omega
   have HBD:=hid (show BordOk o r from BB.out.2 (by omega))
   go_wp2
   go_quiet ((go_at_call 95; exact Calls.quiet_of_same (cB.out _ ((HO.out.kept G4.out).drewN _))))
   go_wp2
   have B5:=HB4'.out.drewN nq
   have G5:=hid (grown_drewN G4.out nq)
   have e0:Hid ((W4.drewN nq).drew.cell? ⟨w.heap.size,0,none⟩=some (.int .i64 r.sect)):=B5.cell 0
   have e1:Hid ((W4.drewN nq).drew.cell? ⟨w.heap.size,1,none⟩=some (.int .i64 r.off)):=B5.cell 1
   have e2:Hid ((W4.drewN nq).drew.cell? ⟨w.heap.size,2,none⟩=some (.int .i64 r.kind)):=B5.cell 2
   have e3:Hid ((W4.drewN nq).drew.cell? ⟨w.heap.size,3,none⟩=some (.int .i64 r.sym)):=B5.cell 3
   have e4:Hid ((W4.drewN nq).drew.cell? ⟨w.heap.size,4,none⟩=some (.int .i64 r.addend)):=B5.cell 4
   have HO5:Hid (ObjAt (W4.drewN nq).drew g o):=ObjAt.drew (HO.out.kept G5.out)
   have HT5:Hid (Tabs (W4.drewN nq).drew):=HT.out.grown (grown_drew G5.out)
   have G6:=hid (grown_drew G5.out)
   clear B5
   have hcr:=hid (show 1≤r.kind∧r.kind≤6 from by have:=p1.out; unfold KindOk at this; omega)
   by_cases hab:AboutOk o r
   ·have haf:=about_facts p2.out hab (wordsOf_words HW.out r.sect)
    have hoff:0≤r.off∧r.off≤1048576:=by
     obtain ⟨x1,x2,x3⟩:=hab
     have y1:=wordsOf_small HN.out r.sect
     have y2:=span_range p2.out
     omega
    have cAb:=hid (fun W (hW:ObjAt W g o)=>aboutWords_yes g o r W hW HN.out p2.out hab)
    have cWg:=hid (fun W ao cap (hW:Tabs W) (hI:IntsIn W ao (about o r))=>show Calls Tryz.prog 216 #[.int .i64 r.kind,.slice ao (spanI r).toNat cap] W fun e w'=>Tells e (GoesP r.kind (about o r))∧W.grownBy w' none from by
     rw [← haf.1]
     exact wordsGo_any r.kind ao cap (about o r) W hW hI haf.2.1 haf.2.2.1 haf.2.2.2 hcr.out (fun h=>by rw [haf.1]; unfold spanI; rw [if_pos h]; rfl))
    have cSw:=hid (fun W (hW:ObjAt W g o)=>symbolWithin_any g o r W hW HN.out p2.out hoff.1 hoff.2)
    have HAB:=hid hab
    unfold relA at cAb cSw
    clear hab haf hoff
    generalize (spanI r).toNat=sp at *
    by_cases hg:GoesP r.kind (about o r)
    ·have HGO:=hid hg
     clear hg
     go_region_held3 (fun w'=>w'.cell? ⟨w.heap.size,0,none⟩=some (.int .i64 r.sect)∧w'.cell? ⟨w.heap.size,1,none⟩=some (.int .i64 r.off)∧w'.cell? ⟨w.heap.size,2,none⟩=some (.int .i64 r.kind)∧w'.cell? ⟨w.heap.size,3,none⟩=some (.int .i64 r.sym)∧w'.cell? ⟨w.heap.size,4,none⟩=some (.int .i64 r.addend))
      (go_keep)
      (first | (go_at_call 195; refine (cAb.out _ HO5.out).mono ?_; rintro e w5 ⟨ao,cap,rfl,hI,hq⟩; have s0:=gcell e0.out hq; have s1:=gcell e1.out hq; have s2:=gcell e2.out hq; have s3:=gcell e3.out hq; have s4:=gcell e4.out hq) | (go_at_call 216; refine (cWg.out _ ao cap (HT5.out.grown hq) hI).mono ?_; rintro e w6 ⟨ht6,hq2⟩; obtain rfl:=tells_yes ht6 HGO.out; have z0:=gcell s0 hq2; have z1:=gcell s1 hq2; have z2:=gcell s2 hq2; have z3:=gcell s3 hq2; have z4:=gcell s4 hq2) | (go_at_call 217; refine (cSw.out _ ((HO5.out.kept hq).kept hq2)).mono ?_; rintro e w7 ⟨⟨b,rfl,hb⟩,hq3⟩; have y0:=gcell z0 hq3; have y1:=gcell z1 hq3; have y2:=gcell z2 hq3; have y3:=gcell z3 hq3; have y4:=gcell z4 hq3))
     have GF:=hid (grown_trans (grown_trans (grown_trans G6.out hq) hq2) hq3)
     have HBB:=hid hb
     clear hb hq hq2 hq3 s0 s1 s2 s3 s4 z0 z1 z2 z3 z4 y0 y1 y2 y3 y4 hI ht6
     go_wp2
     go_ret
     refine ⟨Tells.of ?_,GF.out⟩
     have hbb:=HBB.out
     constructor
     ·intro h
      refine ⟨p1.out,p2.out,p3.out,HBD.out,HAB.out,HGO.out,fun hwi=>?_⟩
      rw [hbb.2 hwi] at h
      simp at h
     ·intro h
      cases b
      ·rfl
      ·exact absurd (hbb.1 rfl) h.2.2.2.2.2.2
    ·have HGO:=hid hg
     clear hg
     refine wp_region_held_drew (S:=(fun w'=>w'.cell? ⟨w.heap.size,0,none⟩=some (.int .i64 r.sect)∧w'.cell? ⟨w.heap.size,1,none⟩=some (.int .i64 r.off)∧w'.cell? ⟨w.heap.size,2,none⟩=some (.int .i64 r.kind)∧w'.cell? ⟨w.heap.size,3,none⟩=some (.int .i64 r.sym)∧w'.cell? ⟨w.heap.size,4,none⟩=some (.int .i64 r.addend))) (by kernel_rfl) ⟨e0.out,e1.out,e2.out,e3.out,e4.out⟩ ?_
     intro hS
     refine wpAnyH_take (i:=0) (v:=?_) rfl (by kernel_rfl) (by kernel_rfl) (by kernel_rfl) (fun _ _ _ h=>h) (Or.inl ⟨by kernel_rfl,?_⟩) hS ?_
     rotate_left
     ·intro w' _; go_simp; with_reducible rfl
     refine wpAnyH_take (i:=1) (v:=?_) rfl (by kernel_rfl) (by kernel_rfl) (by kernel_rfl) (fun _ _ _ h=>h) (Or.inl ⟨by kernel_rfl,?_⟩) hS ?_
     rotate_left
     ·intro w' hw'; obtain ⟨x0,x1,x2,x3,x4⟩:=hw'; go_simp; with_reducible rfl
     refine wpAnyH_take (i:=2) (v:=?_) rfl (by kernel_rfl) (by kernel_rfl) (by kernel_rfl) (fun _ _ _ h=>h) (Or.inl ⟨by kernel_rfl,?_⟩) hS ?_
     rotate_left
     ·intro w' _; go_simp; with_reducible rfl
     refine wpAnyH_take (i:=3) (v:=?_) rfl (by kernel_rfl) (by kernel_rfl) (by kernel_rfl) (fun _ _ _ h=>h) (Or.inl ⟨by kernel_rfl,?_⟩) hS ?_
     rotate_left
     ·intro w' hw'; obtain ⟨x0,x1,x2,x3,x4⟩:=hw'; go_simp; with_reducible rfl
     refine wpAnyH_ready (rs:=[4]) (by kernel_rfl) (by simp) ?_
     refine AllReadyH.cons rfl (fun K hK=>?_) AllReadyH.nil
     go_simp
     go_wp2_with (go_at_call 195; refine (cAb.out _ HO5.out).mono ?_; rintro e w5 ⟨ao,cap,rfl,hI,hq⟩)
     refine hK.out _ _ ⟨gcell e0.out hq,gcell e1.out hq,gcell e2.out hq,gcell e3.out hq,gcell e4.out hq⟩ (fun hS2=>?_)
     clear hK K
     refine wpAnyH_ready (rs:=[5]) (by kernel_rfl) (by simp) ?_
     refine AllReadyH.cons rfl (fun K hK=>?_) AllReadyH.nil
     go_simp
     go_wp2_with (go_at_call 216; refine (cWg.out _ ao cap (HT5.out.grown hq) hI).mono ?_; rintro e w6 ⟨ht6,hq2⟩; obtain rfl:=tells_no ht6 HGO.out)
     refine hK.out _ _ ⟨gcell (gcell e0.out hq) hq2,gcell (gcell e1.out hq) hq2,gcell (gcell e2.out hq) hq2,gcell (gcell e3.out hq) hq2,gcell (gcell e4.out hq) hq2⟩ (fun hS3=>?_)
     clear hK K
     refine wpAnyH_take (i:=6) (v:=?_) rfl (by kernel_rfl) (by kernel_rfl) (by kernel_rfl) (fun _ _ _ h=>h) (Or.inl ⟨by kernel_rfl,?_⟩) hS3 ?_
     rotate_left
     ·intro w' _; go_simp; with_reducible rfl
     refine wpAnyH_take (i:=7) (v:=undef) rfl (by kernel_rfl) (by kernel_rfl) (by kernel_rfl) (fun _ _ _ h=>h) (Or.inr ⟨by kernel_rfl,rfl⟩) hS3 ?_
     refine wpAnyH_take (i:=8) (v:=undef) rfl (by kernel_rfl) (by kernel_rfl) (by kernel_rfl) (fun _ _ _ h=>h) (Or.inr ⟨by kernel_rfl,rfl⟩) hS3 ?_
     refine wpAnyH_take (i:=9) (v:=undef) rfl (by kernel_rfl) (by kernel_rfl) (by kernel_rfl) (fun _ _ _ h=>h) (Or.inr ⟨by kernel_rfl,rfl⟩) hS3 ?_
     refine wpAnyH_take (i:=10) (v:=undef) rfl (by kernel_rfl) (by kernel_rfl) (by kernel_rfl) (fun _ _ _ h=>h) (Or.inr ⟨by kernel_rfl,rfl⟩) hS3 ?_
     refine wpAnyH_take (i:=11) (v:=.bool false) rfl (by kernel_rfl) (by kernel_rfl) (by kernel_rfl) (fun _ _ _ h=>h) (Or.inl ⟨by kernel_rfl,fun _ _=>by kernel_rfl⟩) hS3 ?_
     refine wpAnyH_take (i:=12) (v:=.bool false) rfl (by kernel_rfl) (by kernel_rfl) (by kernel_rfl) (fun _ _ _ h=>h) (Or.inl ⟨by kernel_rfl,fun _ _=>by kernel_rfl⟩) hS3 ?_
     refine wpAnyH_done (by kernel_rfl) ?_ _
     simp only [put_mk,List.getElem_toArray,List.getElem_cons_succ,List.getElem_cons_zero,List.setIfInBounds_toArray,List.set_cons_succ,List.set_cons_zero]
     go_wp2
     go_ret
     exact no.out _ (fun h=>HGO.out h.2.2.2.2.2.1) (grown_trans (grown_trans G6.out hq) hq2)
   ·have cAb:=hid (fun W (hW:ObjAt W g o)=>aboutWords_no g o r W hW HN.out p2.out hab hr)
    have cWg:=hid (fun W=>wordsGo_nil r.kind W)
    have HAB:=hid hab
    unfold relA at cAb
    clear hab
    refine wp_region_held_drew (S:=(fun w'=>w'.cell? ⟨w.heap.size,0,none⟩=some (.int .i64 r.sect)∧w'.cell? ⟨w.heap.size,1,none⟩=some (.int .i64 r.off)∧w'.cell? ⟨w.heap.size,2,none⟩=some (.int .i64 r.kind)∧w'.cell? ⟨w.heap.size,3,none⟩=some (.int .i64 r.sym)∧w'.cell? ⟨w.heap.size,4,none⟩=some (.int .i64 r.addend))) (by kernel_rfl) ⟨e0.out,e1.out,e2.out,e3.out,e4.out⟩ ?_
    intro hS
    refine wpAnyH_take (i:=0) (v:=?_) rfl (by kernel_rfl) (by kernel_rfl) (by kernel_rfl) (fun _ _ _ h=>h) (Or.inl ⟨by kernel_rfl,?_⟩) hS ?_
    rotate_left
    ·intro w' _; go_simp; with_reducible rfl
    refine wpAnyH_take (i:=1) (v:=?_) rfl (by kernel_rfl) (by kernel_rfl) (by kernel_rfl) (fun _ _ _ h=>h) (Or.inl ⟨by kernel_rfl,?_⟩) hS ?_
    rotate_left
    ·intro w' hw'; obtain ⟨x0,x1,x2,x3,x4⟩:=hw'; go_simp; with_reducible rfl
    refine wpAnyH_take (i:=2) (v:=?_) rfl (by kernel_rfl) (by kernel_rfl) (by kernel_rfl) (fun _ _ _ h=>h) (Or.inl ⟨by kernel_rfl,?_⟩) hS ?_
    rotate_left
    ·intro w' _; go_simp; with_reducible rfl
    refine wpAnyH_take (i:=3) (v:=?_) rfl (by kernel_rfl) (by kernel_rfl) (by kernel_rfl) (fun _ _ _ h=>h) (Or.inl ⟨by kernel_rfl,?_⟩) hS ?_
    rotate_left
    ·intro w' hw'; obtain ⟨x0,x1,x2,x3,x4⟩:=hw'; go_simp; with_reducible rfl
    refine wpAnyH_ready (rs:=[4]) (by kernel_rfl) (by simp) ?_
    refine AllReadyH.cons rfl (fun K hK=>?_) AllReadyH.nil
    go_simp
    go_wp2_with (go_at_call 195; refine (cAb.out _ HO5.out).mono ?_; rintro e w5 ⟨rfl,hq⟩)
    refine hK.out _ _ ⟨gcell e0.out hq,gcell e1.out hq,gcell e2.out hq,gcell e3.out hq,gcell e4.out hq⟩ (fun hS2=>?_)
    clear hK K
    refine wpAnyH_ready (rs:=[5]) (by kernel_rfl) (by simp) ?_
    refine AllReadyH.cons rfl (fun K hK=>?_) AllReadyH.nil
    go_simp
    go_wp2_with (go_at_call 216; refine (cWg.out _).mono ?_; rintro e w6 ⟨rfl,hw6⟩)
    subst hw6
    refine hK.out _ _ ⟨gcell e0.out hq,gcell e1.out hq,gcell e2.out hq,gcell e3.out hq,gcell e4.out hq⟩ (fun hS3=>?_)
    clear hK K
    refine wpAnyH_take (i:=6) (v:=?_) rfl (by kernel_rfl) (by kernel_rfl) (by kernel_rfl) (fun _ _ _ h=>h) (Or.inl ⟨by kernel_rfl,?_⟩) hS3 ?_
    rotate_left
    ·intro w' _; go_simp; with_reducible rfl
    refine wpAnyH_take (i:=7) (v:=undef) rfl (by kernel_rfl) (by kernel_rfl) (by kernel_rfl) (fun _ _ _ h=>h) (Or.inr ⟨by kernel_rfl,rfl⟩) hS3 ?_
    refine wpAnyH_take (i:=8) (v:=undef) rfl (by kernel_rfl) (by kernel_rfl) (by kernel_rfl) (fun _ _ _ h=>h) (Or.inr ⟨by kernel_rfl,rfl⟩) hS3 ?_
    refine wpAnyH_take (i:=9) (v:=undef) rfl (by kernel_rfl) (by kernel_rfl) (by kernel_rfl) (fun _ _ _ h=>h) (Or.inr ⟨by kernel_rfl,rfl⟩) hS3 ?_
    refine wpAnyH_take (i:=10) (v:=undef) rfl (by kernel_rfl) (by kernel_rfl) (by kernel_rfl) (fun _ _ _ h=>h) (Or.inr ⟨by kernel_rfl,rfl⟩) hS3 ?_
    refine wpAnyH_take (i:=11) (v:=.bool false) rfl (by kernel_rfl) (by kernel_rfl) (by kernel_rfl) (fun _ _ _ h=>h) (Or.inl ⟨by kernel_rfl,fun _ _=>by kernel_rfl⟩) hS3 ?_
    refine wpAnyH_take (i:=12) (v:=.bool false) rfl (by kernel_rfl) (by kernel_rfl) (by kernel_rfl) (fun _ _ _ h=>h) (Or.inl ⟨by kernel_rfl,fun _ _=>by kernel_rfl⟩) hS3 ?_
    refine wpAnyH_done (by kernel_rfl) ?_ _
    simp only [put_mk,List.getElem_toArray,List.getElem_cons_succ,List.getElem_cons_zero,List.setIfInBounds_toArray,List.set_cons_succ,List.set_cons_zero]
    go_wp2
    go_ret
    exact no.out _ (fun h=>HAB.out h.2.2.2.2.1) (grown_trans G6.out hq)
 ·have HBD:=hid (show BordOk o r from fun h=>absurd h hk6)
  have d6:(r.kind == 6)=false:=beq_eq_false_iff_ne.2 hk6
  have K6:=hid hk6
  clear hk6 kinds
  go_wp2
  go_quiet (fail)
  go_wp2
  have B5:=HB4'.out.drewN nq
  have G5:=hid (grown_drewN G4.out nq)
  have e0:Hid ((W4.drewN nq).drew.cell? ⟨w.heap.size,0,none⟩=some (.int .i64 r.sect)):=B5.cell 0
  have e1:Hid ((W4.drewN nq).drew.cell? ⟨w.heap.size,1,none⟩=some (.int .i64 r.off)):=B5.cell 1
  have e2:Hid ((W4.drewN nq).drew.cell? ⟨w.heap.size,2,none⟩=some (.int .i64 r.kind)):=B5.cell 2
  have e3:Hid ((W4.drewN nq).drew.cell? ⟨w.heap.size,3,none⟩=some (.int .i64 r.sym)):=B5.cell 3
  have e4:Hid ((W4.drewN nq).drew.cell? ⟨w.heap.size,4,none⟩=some (.int .i64 r.addend)):=B5.cell 4
  have HO5:Hid (ObjAt (W4.drewN nq).drew g o):=ObjAt.drew (HO.out.kept G5.out)
  have HT5:Hid (Tabs (W4.drewN nq).drew):=HT.out.grown (grown_drew G5.out)
  have G6:=hid (grown_drew G5.out)
  clear B5
  have hcr:=hid (show 1≤r.kind∧r.kind≤6 from by have:=p1.out; unfold KindOk at this; omega)
  by_cases hab:AboutOk o r
  ·have haf:=about_facts p2.out hab (wordsOf_words HW.out r.sect)
   have hoff:0≤r.off∧r.off≤1048576:=by
    obtain ⟨x1,x2,x3⟩:=hab
    have y1:=wordsOf_small HN.out r.sect
    have y2:=span_range p2.out
    omega
   have cAb:=hid (fun W (hW:ObjAt W g o)=>aboutWords_yes g o r W hW HN.out p2.out hab)
   have cWg:=hid (fun W ao cap (hW:Tabs W) (hI:IntsIn W ao (about o r))=>show Calls Tryz.prog 216 #[.int .i64 r.kind,.slice ao (spanI r).toNat cap] W fun e w'=>Tells e (GoesP r.kind (about o r))∧W.grownBy w' none from by
    rw [← haf.1]
    exact wordsGo_any r.kind ao cap (about o r) W hW hI haf.2.1 haf.2.2.1 haf.2.2.2 hcr.out (fun h=>by rw [haf.1]; unfold spanI; rw [if_pos h]; rfl))
   have cSw:=hid (fun W (hW:ObjAt W g o)=>symbolWithin_any g o r W hW HN.out p2.out hoff.1 hoff.2)
   have HAB:=hid hab
   unfold relA at cAb cSw
   clear hab haf hoff
   generalize (spanI r).toNat=sp at *
   by_cases hg:GoesP r.kind (about o r)
   ·have HGO:=hid hg
    clear hg
    go_region_held3 (fun w'=>w'.cell? ⟨w.heap.size,0,none⟩=some (.int .i64 r.sect)∧w'.cell? ⟨w.heap.size,1,none⟩=some (.int .i64 r.off)∧w'.cell? ⟨w.heap.size,2,none⟩=some (.int .i64 r.kind)∧w'.cell? ⟨w.heap.size,3,none⟩=some (.int .i64 r.sym)∧w'.cell? ⟨w.heap.size,4,none⟩=some (.int .i64 r.addend))
     (go_keep)
     (first | (go_at_call 195; refine (cAb.out _ HO5.out).mono ?_; rintro e w5 ⟨ao,cap,rfl,hI,hq⟩; have s0:=gcell e0.out hq; have s1:=gcell e1.out hq; have s2:=gcell e2.out hq; have s3:=gcell e3.out hq; have s4:=gcell e4.out hq) | (go_at_call 216; refine (cWg.out _ ao cap (HT5.out.grown hq) hI).mono ?_; rintro e w6 ⟨ht6,hq2⟩; obtain rfl:=tells_yes ht6 HGO.out; have z0:=gcell s0 hq2; have z1:=gcell s1 hq2; have z2:=gcell s2 hq2; have z3:=gcell s3 hq2; have z4:=gcell s4 hq2) | (go_at_call 217; refine (cSw.out _ ((HO5.out.kept hq).kept hq2)).mono ?_; rintro e w7 ⟨⟨b,rfl,hb⟩,hq3⟩; have y0:=gcell z0 hq3; have y1:=gcell z1 hq3; have y2:=gcell z2 hq3; have y3:=gcell z3 hq3; have y4:=gcell z4 hq3))
    have GF:=hid (grown_trans (grown_trans (grown_trans G6.out hq) hq2) hq3)
    have HBB:=hid hb
    clear hb hq hq2 hq3 s0 s1 s2 s3 s4 z0 z1 z2 z3 z4 y0 y1 y2 y3 y4 hI ht6
    go_wp2
    go_ret
    refine ⟨Tells.of ?_,GF.out⟩
    have hbb:=HBB.out
    constructor
    ·intro h
     refine ⟨p1.out,p2.out,p3.out,HBD.out,HAB.out,HGO.out,fun hwi=>?_⟩
     rw [hbb.2 hwi] at h
     simp at h
    ·intro h
     cases b
     ·rfl
     ·exact absurd (hbb.1 rfl) h.2.2.2.2.2.2
   ·have HGO:=hid hg
    clear hg
    refine wp_region_held_drew (S:=(fun w'=>w'.cell? ⟨w.heap.size,0,none⟩=some (.int .i64 r.sect)∧w'.cell? ⟨w.heap.size,1,none⟩=some (.int .i64 r.off)∧w'.cell? ⟨w.heap.size,2,none⟩=some (.int .i64 r.kind)∧w'.cell? ⟨w.heap.size,3,none⟩=some (.int .i64 r.sym)∧w'.cell? ⟨w.heap.size,4,none⟩=some (.int .i64 r.addend))) (by kernel_rfl) ⟨e0.out,e1.out,e2.out,e3.out,e4.out⟩ ?_
    intro hS
    refine wpAnyH_take (i:=0) (v:=?_) rfl (by kernel_rfl) (by kernel_rfl) (by kernel_rfl) (fun _ _ _ h=>h) (Or.inl ⟨by kernel_rfl,?_⟩) hS ?_
    rotate_left
    ·intro w' _; go_simp; with_reducible rfl
    refine wpAnyH_take (i:=1) (v:=?_) rfl (by kernel_rfl) (by kernel_rfl) (by kernel_rfl) (fun _ _ _ h=>h) (Or.inl ⟨by kernel_rfl,?_⟩) hS ?_
    rotate_left
    ·intro w' hw'; obtain ⟨x0,x1,x2,x3,x4⟩:=hw'; go_simp; with_reducible rfl
    refine wpAnyH_take (i:=2) (v:=?_) rfl (by kernel_rfl) (by kernel_rfl) (by kernel_rfl) (fun _ _ _ h=>h) (Or.inl ⟨by kernel_rfl,?_⟩) hS ?_
    rotate_left
    ·intro w' _; go_simp; with_reducible rfl
    refine wpAnyH_take (i:=3) (v:=?_) rfl (by kernel_rfl) (by kernel_rfl) (by kernel_rfl) (fun _ _ _ h=>h) (Or.inl ⟨by kernel_rfl,?_⟩) hS ?_
    rotate_left
    ·intro w' hw'; obtain ⟨x0,x1,x2,x3,x4⟩:=hw'; go_simp; with_reducible rfl
    refine wpAnyH_ready (rs:=[4]) (by kernel_rfl) (by simp) ?_
    refine AllReadyH.cons rfl (fun K hK=>?_) AllReadyH.nil
    go_simp
    go_wp2_with (go_at_call 195; refine (cAb.out _ HO5.out).mono ?_; rintro e w5 ⟨ao,cap,rfl,hI,hq⟩)
    refine hK.out _ _ ⟨gcell e0.out hq,gcell e1.out hq,gcell e2.out hq,gcell e3.out hq,gcell e4.out hq⟩ (fun hS2=>?_)
    clear hK K
    refine wpAnyH_ready (rs:=[5]) (by kernel_rfl) (by simp) ?_
    refine AllReadyH.cons rfl (fun K hK=>?_) AllReadyH.nil
    go_simp
    go_wp2_with (go_at_call 216; refine (cWg.out _ ao cap (HT5.out.grown hq) hI).mono ?_; rintro e w6 ⟨ht6,hq2⟩; obtain rfl:=tells_no ht6 HGO.out)
    refine hK.out _ _ ⟨gcell (gcell e0.out hq) hq2,gcell (gcell e1.out hq) hq2,gcell (gcell e2.out hq) hq2,gcell (gcell e3.out hq) hq2,gcell (gcell e4.out hq) hq2⟩ (fun hS3=>?_)
    clear hK K
    refine wpAnyH_take (i:=6) (v:=?_) rfl (by kernel_rfl) (by kernel_rfl) (by kernel_rfl) (fun _ _ _ h=>h) (Or.inl ⟨by kernel_rfl,?_⟩) hS3 ?_
    rotate_left
    ·intro w' _; go_simp; with_reducible rfl
    refine wpAnyH_take (i:=7) (v:=undef) rfl (by kernel_rfl) (by kernel_rfl) (by kernel_rfl) (fun _ _ _ h=>h) (Or.inr ⟨by kernel_rfl,rfl⟩) hS3 ?_
    refine wpAnyH_take (i:=8) (v:=undef) rfl (by kernel_rfl) (by kernel_rfl) (by kernel_rfl) (fun _ _ _ h=>h) (Or.inr ⟨by kernel_rfl,rfl⟩) hS3 ?_
    refine wpAnyH_take (i:=9) (v:=undef) rfl (by kernel_rfl) (by kernel_rfl) (by kernel_rfl) (fun _ _ _ h=>h) (Or.inr ⟨by kernel_rfl,rfl⟩) hS3 ?_
    refine wpAnyH_take (i:=10) (v:=undef) rfl (by kernel_rfl) (by kernel_rfl) (by kernel_rfl) (fun _ _ _ h=>h) (Or.inr ⟨by kernel_rfl,rfl⟩) hS3 ?_
    refine wpAnyH_take (i:=11) (v:=.bool false) rfl (by kernel_rfl) (by kernel_rfl) (by kernel_rfl) (fun _ _ _ h=>h) (Or.inl ⟨by kernel_rfl,fun _ _=>by kernel_rfl⟩) hS3 ?_
    refine wpAnyH_take (i:=12) (v:=.bool false) rfl (by kernel_rfl) (by kernel_rfl) (by kernel_rfl) (fun _ _ _ h=>h) (Or.inl ⟨by kernel_rfl,fun _ _=>by kernel_rfl⟩) hS3 ?_
    refine wpAnyH_done (by kernel_rfl) ?_ _
    simp only [put_mk,List.getElem_toArray,List.getElem_cons_succ,List.getElem_cons_zero,List.setIfInBounds_toArray,List.set_cons_succ,List.set_cons_zero]
    go_wp2
    go_ret
    exact no.out _ (fun h=>HGO.out h.2.2.2.2.2.1) (grown_trans (grown_trans G6.out hq) hq2)
  ·have cAb:=hid (fun W (hW:ObjAt W g o)=>aboutWords_no g o r W hW HN.out p2.out hab hr)
   have cWg:=hid (fun W=>wordsGo_nil r.kind W)
   have HAB:=hid hab
   unfold relA at cAb
   clear hab
   refine wp_region_held_drew (S:=(fun w'=>w'.cell? ⟨w.heap.size,0,none⟩=some (.int .i64 r.sect)∧w'.cell? ⟨w.heap.size,1,none⟩=some (.int .i64 r.off)∧w'.cell? ⟨w.heap.size,2,none⟩=some (.int .i64 r.kind)∧w'.cell? ⟨w.heap.size,3,none⟩=some (.int .i64 r.sym)∧w'.cell? ⟨w.heap.size,4,none⟩=some (.int .i64 r.addend))) (by kernel_rfl) ⟨e0.out,e1.out,e2.out,e3.out,e4.out⟩ ?_
   intro hS
   refine wpAnyH_take (i:=0) (v:=?_) rfl (by kernel_rfl) (by kernel_rfl) (by kernel_rfl) (fun _ _ _ h=>h) (Or.inl ⟨by kernel_rfl,?_⟩) hS ?_
   rotate_left
   ·intro w' _; go_simp; with_reducible rfl
   refine wpAnyH_take (i:=1) (v:=?_) rfl (by kernel_rfl) (by kernel_rfl) (by kernel_rfl) (fun _ _ _ h=>h) (Or.inl ⟨by kernel_rfl,?_⟩) hS ?_
   rotate_left
   ·intro w' hw'; obtain ⟨x0,x1,x2,x3,x4⟩:=hw'; go_simp; with_reducible rfl
   refine wpAnyH_take (i:=2) (v:=?_) rfl (by kernel_rfl) (by kernel_rfl) (by kernel_rfl) (fun _ _ _ h=>h) (Or.inl ⟨by kernel_rfl,?_⟩) hS ?_
   rotate_left
   ·intro w' _; go_simp; with_reducible rfl
   refine wpAnyH_take (i:=3) (v:=?_) rfl (by kernel_rfl) (by kernel_rfl) (by kernel_rfl) (fun _ _ _ h=>h) (Or.inl ⟨by kernel_rfl,?_⟩) hS ?_
   rotate_left
   ·intro w' hw'; obtain ⟨x0,x1,x2,x3,x4⟩:=hw'; go_simp; with_reducible rfl
   refine wpAnyH_ready (rs:=[4]) (by kernel_rfl) (by simp) ?_
   refine AllReadyH.cons rfl (fun K hK=>?_) AllReadyH.nil
   go_simp
   go_wp2_with (go_at_call 195; refine (cAb.out _ HO5.out).mono ?_; rintro e w5 ⟨rfl,hq⟩)
   refine hK.out _ _ ⟨gcell e0.out hq,gcell e1.out hq,gcell e2.out hq,gcell e3.out hq,gcell e4.out hq⟩ (fun hS2=>?_)
   clear hK K
   refine wpAnyH_ready (rs:=[5]) (by kernel_rfl) (by simp) ?_
   refine AllReadyH.cons rfl (fun K hK=>?_) AllReadyH.nil
   go_simp
   go_wp2_with (go_at_call 216; refine (cWg.out _).mono ?_; rintro e w6 ⟨rfl,hw6⟩)
   subst hw6
   refine hK.out _ _ ⟨gcell e0.out hq,gcell e1.out hq,gcell e2.out hq,gcell e3.out hq,gcell e4.out hq⟩ (fun hS3=>?_)
   clear hK K
   refine wpAnyH_take (i:=6) (v:=?_) rfl (by kernel_rfl) (by kernel_rfl) (by kernel_rfl) (fun _ _ _ h=>h) (Or.inl ⟨by kernel_rfl,?_⟩) hS3 ?_
   rotate_left
   ·intro w' _; go_simp; with_reducible rfl
   refine wpAnyH_take (i:=7) (v:=undef) rfl (by kernel_rfl) (by kernel_rfl) (by kernel_rfl) (fun _ _ _ h=>h) (Or.inr ⟨by kernel_rfl,rfl⟩) hS3 ?_
   refine wpAnyH_take (i:=8) (v:=undef) rfl (by kernel_rfl) (by kernel_rfl) (by kernel_rfl) (fun _ _ _ h=>h) (Or.inr ⟨by kernel_rfl,rfl⟩) hS3 ?_
   refine wpAnyH_take (i:=9) (v:=undef) rfl (by kernel_rfl) (by kernel_rfl) (by kernel_rfl) (fun _ _ _ h=>h) (Or.inr ⟨by kernel_rfl,rfl⟩) hS3 ?_
   refine wpAnyH_take (i:=10) (v:=undef) rfl (by kernel_rfl) (by kernel_rfl) (by kernel_rfl) (fun _ _ _ h=>h) (Or.inr ⟨by kernel_rfl,rfl⟩) hS3 ?_
   refine wpAnyH_take (i:=11) (v:=.bool false) rfl (by kernel_rfl) (by kernel_rfl) (by kernel_rfl) (fun _ _ _ h=>h) (Or.inl ⟨by kernel_rfl,fun _ _=>by kernel_rfl⟩) hS3 ?_
   refine wpAnyH_take (i:=12) (v:=.bool false) rfl (by kernel_rfl) (by kernel_rfl) (by kernel_rfl) (fun _ _ _ h=>h) (Or.inl ⟨by kernel_rfl,fun _ _=>by kernel_rfl⟩) hS3 ?_
   refine wpAnyH_done (by kernel_rfl) ?_ _
   simp only [put_mk,List.getElem_toArray,List.getElem_cons_succ,List.getElem_cons_zero,List.setIfInBounds_toArray,List.set_cons_succ,List.set_cons_zero]
   go_wp2
   go_ret
   exact no.out _ (fun h=>HAB.out h.2.2.2.2.1) (grown_trans G6.out hq)

end Go.Proofs.YtnfgdlkiialnnaaGreatDoor

namespace Go.Proofs.YtnfgdlkiialnnaaGreatDoor
open Go.RowKit

/-- a list of relocations at ao -/
def RelsIn (w:World) (ao:Option Addr) (ys:List Lk.Rel):Prop :=
 0 < ys.length→∃ g,ao=some ⟨g,0,none⟩∧g < w.heap.size∧∀ i (h:i < ys.length),w.cell? ⟨g,i * 5,none⟩=some (.int .i64 ys[i].sect)∧w.cell? ⟨g,i * 5+1,none⟩=some (.int .i64 ys[i].off) ∧
  w.cell? ⟨g,i * 5+2,none⟩=some (.int .i64 ys[i].kind)∧w.cell? ⟨g,i * 5+3,none⟩=some (.int .i64 ys[i].sym)∧w.cell? ⟨g,i * 5+4,none⟩=some (.int .i64 ys[i].addend)

theorem RelsIn.of_own {w:World} {base:Nat} {ao:Option Addr} {n cap:Nat} {ys:List Lk.Rel} (h:w.ownsRow base 139 5 (.slice ao n cap) n (ys.flatMap relV)):RelsIn w ao ys:=by
 intro h0
 have hl:(ys.flatMap relV).length=ys.length * 5:=by
  clear h h0
  induction ys with
  | nil=>rfl
  | cons y t ih=>rw [List.flatMap_cons,List.length_append,ih]; simp [relV]; omega
 have hn:ys.length=n:=by have:=h.1; omega
 have hlt:=h.lt
 rcases h.2 with ⟨h1,h2⟩ | ⟨g,cap',cur,hv,_⟩
 ·simp at h1; omega
 ·simp only [Value.slice.injEq] at hv
  obtain ⟨rfl,_,rfl⟩:=hv
  refine ⟨g,rfl,(hlt g rfl).2,fun i hi=>?_⟩
  have q:=fun j (hj:j < 5)=>(h.cellAt (i * 5+j) (by omega)).trans (flat_get relV 5 (fun _=>rfl) ys i j hi hj)
  exact ⟨q 0 (by omega),q 1 (by omega),q 2 (by omega),q 3 (by omega),q 4 (by omega)⟩

theorem RelsIn.grown {w w':World} {ao:Option Addr} {ys:List Lk.Rel} (h:RelsIn w ao ys) (hg:w.grownBy w' none):RelsIn w' ao ys:=by
 intro h0
 obtain ⟨g,h1,h2,h3⟩:=h h0
 refine ⟨g,h1,Nat.lt_of_lt_of_le h2 hg.size,fun i hi=>?_⟩
 obtain ⟨a,b,c,d,e⟩:=h3 i hi
 exact ⟨gcell a hg,gcell b hg,gcell c hg,gcell d hg,gcell e hg⟩

def RelsOk (o:Lk.Obj):Prop:=∀ i (h:i < o.rels.length),RelOk o o.rels[i]∧(∀ _:0 < i,FollowsP (o.rels[i - 1]'(by omega)) o.rels[i])

set_option maxHeartbeats 4000000 in
theorem validRelocs_any (g:Nat) (o:Lk.Obj) (w:World) (ht:Tabs w) (h:ObjAt w g o) (hn:Small o) (hb4:Borders o.align) (hw:AllWords o) (hr:∀ r∈o.rels,r.off≤9223372036854775807) :
  Calls Tryz.prog 118 #[.pointer (some ⟨g,0,none⟩)] w fun e w'=>Tells e (RelsOk o)∧w.grownBy w' none:=by
 obtain ⟨at_,ct,af,cf,ad,cd,aa,ca,as_,cs,ar,cr,hb,h1,h2,h3,h4,h5,h6⟩:=h.open
 have k6:=hb.cell 6
 have S:=hid (RelsIn.of_own h6)
 have hns:=hn.2.2.2.2.2
 have HB:=hid hb
 have HO:=hid h
 have HN:=hid hn
 have HT:=hid ht
 have HB4:=hid hb4
 have HW:=hid hw
 have HR:=hid hr
 clear h hn hb h1 h2 h3 h4 h5 h6 ht hb4 hw hr
 go_enter Tryz.func118,Tryz.ntmps118
 go_wp2
 go_loopw [10] (fun i wr=>∃ k:Nat,k≤o.rels.length∧i = .int .i64 k∧(∀ i (h:i < o.rels.length),i < k→RelOk o o.rels[i]∧(∀ _:0 < i,FollowsP (o.rels[i - 1]'(by omega)) o.rels[i]))∧w.grownBy wr none) (fun i _=>o.rels.length - (intOf i).toNat)
 case atStart=>exact ⟨0,Nat.zero_le _,rfl,fun j _ hj=>absurd hj (Nat.not_lt_zero j),World.grownBy.refl _ _⟩
 case round =>
  obtain ⟨k,hk,rfl,hall,hgr⟩:=hrel
  have HA:=hid hall
  have HG:=hid hgr
  clear hall hgr
  by_cases hlt:k < o.rels.length
  ·obtain ⟨sg,hao,hgs,hc⟩:=S.out.grown HG.out (by omega)
   subst hao
   obtain ⟨q0,q1,q2,q3,q4⟩:=hc k hlt
   have HC:=hid hc
   clear hc
   have cV:=hid (fun W (hT:Tabs W) (hW:ObjAt W g o)=>validReloc_any g o o.rels[k] W hT hW HN.out HB4.out HW.out (HR.out _ (List.getElem_mem hlt)))
   unfold relA at cV
   have B1:=hid (BlkAt.new wr #[.int .i64 o.rels[k].sect,.int .i64 o.rels[k].off,.int .i64 o.rels[k].kind,.int .i64 o.rels[k].sym,.int .i64 o.rels[k].addend] 139)
   have GA:=hid (World.grownBy_alloc wr (.cells #[.int .i64 o.rels[k].sect,.int .i64 o.rels[k].off,.int .i64 o.rels[k].kind,.int .i64 o.rels[k].sym,.int .i64 o.rels[k].addend] 139) none)
   go_wp2_with fail
   refine (cV.out _ (HT.out.grown (grown_trans HG.out GA.out)) (HO.out.kept (grown_trans HG.out GA.out))).mono ?_
   rintro e W2 ⟨t,q⟩
   have G2:=hid (grown_trans (grown_trans HG.out GA.out) q)
   have B2:=hid (B1.out.grown q (by simp))
   have GQ:=hid (grown_trans GA.out q)
   rcases t.split with ⟨rfl,p1⟩ | ⟨rfl,p1⟩ <;> clear t q
   ·go_wp2
    go_ret
    exact ⟨Tells.no (fun h=>p1.out (h k hlt).1),G2.out⟩
   by_cases hk0:k=0
   ·subst hk0
    have d0:decide ((0:Int) < 0)=false:=by simp
    go_wp2
    go_quiet (fail)
    go_wp2
    go_roundw
    case rel=>exact ⟨1,by omega,rfl,fun j hj hjk=>by
     have:j=0:=by omega
     subst this
     exact ⟨p1.out,fun h=>by omega⟩,grown_drewN G2.out _⟩
    case measure=>simp [intOf]; omega
   ·have hk1:1≤k:=by omega
    have hpl:k - 1 < o.rels.length:=by omega
    have hprev:=(HA.out (k - 1) hpl (by omega)).1
    have hoff:0≤(o.rels[k - 1]'hpl).off∧(o.rels[k - 1]'hpl).off≤1048576:=by
     obtain ⟨x1,x2,x3⟩:=hprev.2.2.2.2.1
     have y1:=wordsOf_small HN.out (o.rels[k - 1]'hpl).sect
     have y2:=span_range hprev.2.1
     omega
    have cF:=hid (fun W=>follows_any (o.rels[k - 1]'hpl) o.rels[k] W hprev.2.1 hoff.1 hoff.2)
    have hcc:=HC.out (k - 1) hpl
    generalize hpr:o.rels[k - 1]'hpl=pr at *
    have HPR:=hid hpr
    clear hpr
    obtain ⟨r0,r1,r2,r3,r4⟩:=hcc
    unfold relA at cF
    have m6:=(HB.out.grown G2.out (by simp)).cell 6
    have n0:=gcell r0 GQ.out
    have n1:=gcell r1 GQ.out
    have n2:=gcell r2 GQ.out
    have n3:=gcell r3 GQ.out
    have n4:=gcell r4 GQ.out
    have c0:=B2.out.cell 0
    have c1:=B2.out.cell 1
    have c2:=B2.out.cell 2
    have c3:=B2.out.cell 3
    have c4:=B2.out.cell 4
    have M6:Hid (W2.drew.cell? ⟨g,6,none⟩=some (.slice (some ⟨sg,0,none⟩) o.rels.length cr)):=m6
    have N0:Hid (W2.drew.cell? ⟨sg,(k - 1) * 5,none⟩=some (.int .i64 pr.sect)):=n0
    have N1:Hid (W2.drew.cell? ⟨sg,(k - 1) * 5+1,none⟩=some (.int .i64 pr.off)):=n1
    have N2:Hid (W2.drew.cell? ⟨sg,(k - 1) * 5+2,none⟩=some (.int .i64 pr.kind)):=n2
    have N3:Hid (W2.drew.cell? ⟨sg,(k - 1) * 5+3,none⟩=some (.int .i64 pr.sym)):=n3
    have N4:Hid (W2.drew.cell? ⟨sg,(k - 1) * 5+4,none⟩=some (.int .i64 pr.addend)):=n4
    have C0:Hid (W2.drew.cell? ⟨wr.heap.size,0,none⟩=some (.int .i64 o.rels[k].sect)):=c0
    have C1:Hid (W2.drew.cell? ⟨wr.heap.size,1,none⟩=some (.int .i64 o.rels[k].off)):=c1
    have C2:Hid (W2.drew.cell? ⟨wr.heap.size,2,none⟩=some (.int .i64 o.rels[k].kind)):=c2
    have C3:Hid (W2.drew.cell? ⟨wr.heap.size,3,none⟩=some (.int .i64 o.rels[k].sym)):=c3
    have C4:Hid (W2.drew.cell? ⟨wr.heap.size,4,none⟩=some (.int .i64 o.rels[k].addend)):=c4
    have hk2:0 < k:=by omega
    have d00:decide (0 < k)=true:=by simpa using hk2
    have d0:decide ((0:Int) < (k:Int))=true:=by simp; omega
    have g1:(1:Int)≤(k:Int):=by omega
    have g2:(k:Int) - 1 < (o.rels.length:Int):=by omega
    have g3:(0:Int)≤(k:Int) - 1:=by omega
    have hwk:IntKind.i64.wrap ((k:Int) - 1)=(k:Int) - 1:=IntWalk.i64_in _ ⟨by omega,by omega⟩
    have HP:=hid hprev
    clear hprev hoff q0 q1 q2 q3 q4 r0 r1 r2 r3 r4 hk0
    go_wp2
    go_region_held3 (fun w'=>w'.cell? ⟨g,6,none⟩=some (.slice (some ⟨sg,0,none⟩) o.rels.length cr)∧w'.cell? ⟨wr.heap.size,0,none⟩=some (.int .i64 o.rels[k].sect)∧w'.cell? ⟨wr.heap.size,1,none⟩=some (.int .i64 o.rels[k].off)∧w'.cell? ⟨wr.heap.size,2,none⟩=some (.int .i64 o.rels[k].kind)∧w'.cell? ⟨wr.heap.size,3,none⟩=some (.int .i64 o.rels[k].sym)∧w'.cell? ⟨wr.heap.size,4,none⟩=some (.int .i64 o.rels[k].addend)∧w'.cell? ⟨sg,(k - 1) * 5,none⟩=some (.int .i64 pr.sect)∧w'.cell? ⟨sg,(k - 1) * 5+1,none⟩=some (.int .i64 pr.off)∧w'.cell? ⟨sg,(k - 1) * 5+2,none⟩=some (.int .i64 pr.kind)∧w'.cell? ⟨sg,(k - 1) * 5+3,none⟩=some (.int .i64 pr.sym)∧w'.cell? ⟨sg,(k - 1) * 5+4,none⟩=some (.int .i64 pr.addend))
     (go_keep)
     (first | (go_at_call 176; refine (cF.out _).mono ?_; rintro e w5 ⟨⟨b,rfl,hb⟩,hq⟩; have s6:=gcell M6.out hq; have s0:=gcell C0.out hq; have s1:=gcell C1.out hq; have s2:=gcell C2.out hq; have s3:=gcell C3.out hq; have s4:=gcell C4.out hq; have t0:=gcell N0.out hq; have t1:=gcell N1.out hq; have t2:=gcell N2.out hq; have t3:=gcell N3.out hq; have t4:=gcell N4.out hq))
    have HBB:=hid hb
    have GF:=hid (grown_trans (grown_drew G2.out) hq)
    clear hb hq s6 s0 s1 s2 s3 s4 t0 t1 t2 t3 t4 c0 c1 c2 c3 c4 n0 n1 n2 n3 n4 m6
    cases b
    ·have NF:=hid (show ¬ FollowsP pr o.rels[k] from fun h=>by have:=HBB.out.2 h; simp at this)
     clear HBB
     go_wp2
     go_ret
     exact ⟨Tells.no (fun h=>NF.out (HPR.out ▸ (h k hlt).2 hk2)),GF.out⟩
    ·have YF:=hid (show FollowsP pr o.rels[k] from HBB.out.1 rfl)
     clear HBB
     go_wp2
     go_roundw
     case rel=>exact ⟨k+1,by omega,by go_num,fun j hj hjk=>(Nat.lt_succ_iff_lt_or_eq.1 hjk).elim (fun h=>HA.out j hj h) (fun h=>by subst h; exact ⟨p1.out,fun _=>by rw [HPR.out]; exact YF.out⟩),GF.out⟩
     case measure=>simp [intOf]; omega
  ·go_wp2
   go_ret
   exact ⟨Tells.yes fun i hi=>HA.out i hi (by omega),HG.out⟩

end Go.Proofs.YtnfgdlkiialnnaaGreatDoor

namespace Go.Proofs.YtnfgdlkiialnnaaGreatDoor
open Go.RowKit

def Valid (o:Lk.Obj):Prop:=Sizes o∧Borders o.align∧AllWords o∧SymsOk o∧RelsOk o

/-- an object whose numbers are such as reading gives -/
def Tame (o:Lk.Obj):Prop:=Small o∧(∀ y∈o.syms,y.name.length≤255)∧∀ r∈o.rels,r.off≤9223372036854775807

set_option maxHeartbeats 4000000 in
theorem valid_any (g:Nat) (o:Lk.Obj) (w:World) (ht:Tabs w) (h:ObjAt w g o) (hn:Tame o) :
  Calls Tryz.prog 80 #[.pointer (some ⟨g,0,none⟩)] w fun e w'=>Tells e (Valid o)∧w.grownBy w' none:=by
 obtain ⟨at_,ct,af,cf,ad,cd,aa,ca,as_,cs,ar,cr,hb,h1,h2,h3,h4,h5,h6⟩:=h.open
 have k4:=hb.cell 4
 have c1:=hid (validSizes_any g o w h hn.1)
 have c2:=hid (validBorders_any aa ca o.align w (IntsIn.of_own h4) hn.1.2.2.2.1)
 have c3:=hid (validWords_any g o w h hn.1)
 have HO:=hid h
 have HT:=hid ht
 have HN:=hid hn
 clear h ht hn hb h1 h2 h3 h4 h5 h6
 go_enter Tryz.func80,Tryz.ntmps80
 go_wp2_with fail
 refine c1.out.mono ?_
 rintro e w1 ⟨t,rfl⟩
 rcases t.split with ⟨rfl,p1⟩ | ⟨rfl,p1⟩ <;> clear t c1
 ·go_wp2
  go_ret
  exact ⟨Tells.no (fun h=>p1.out h.1),World.grownBy.refl _ _⟩
 go_wp2_with fail
 refine c2.out.mono ?_
 rintro e w2 ⟨t,rfl⟩
 rcases t.split with ⟨rfl,p2⟩ | ⟨rfl,p2⟩ <;> clear t c2
 ·go_wp2
  go_ret
  exact ⟨Tells.no (fun h=>p2.out h.2.1),World.grownBy.refl _ _⟩
 go_wp2_with fail
 refine c3.out.mono ?_
 rintro e w3 ⟨t,rfl⟩
 rcases t.split with ⟨rfl,p3⟩ | ⟨rfl,p3⟩ <;> clear t c3
 ·go_wp2
  go_ret
  exact ⟨Tells.no (fun h=>p3.out h.2.2.1),World.grownBy.refl _ _⟩
 have c4:=hid (validSymbols_any g o w3 HO.out HN.out.1 p1.out.2.1 HN.out.2.1)
 go_wp2_with fail
 refine c4.out.mono ?_
 rintro e w4 ⟨t,q4⟩
 have Q4:=hid q4
 rcases t.split with ⟨rfl,p4⟩ | ⟨rfl,p4⟩ <;> clear t c4 q4
 ·go_wp2
  go_ret
  exact ⟨Tells.no (fun h=>p4.out h.2.2.2.1),Q4.out⟩
 have c5:=hid (validRelocs_any g o w4 (HT.out.grown Q4.out) (HO.out.kept Q4.out) HN.out.1 p2.out p3.out HN.out.2.2)
 go_wp2_with fail
 refine c5.out.mono ?_
 rintro e w5 ⟨t,q5⟩
 have Q5:=hid (grown_trans Q4.out q5)
 rcases t.split with ⟨rfl,p5⟩ | ⟨rfl,p5⟩ <;> clear t c5 q5
 ·go_wp2
  go_ret
  exact ⟨Tells.no (fun h=>p5.out h.2.2.2.2),Q5.out⟩
 go_wp2
 go_ret
 exact ⟨Tells.yes ⟨p1.out,p2.out,p3.out,p4.out,p5.out⟩,Q5.out⟩

end Go.Proofs.YtnfgdlkiialnnaaGreatDoor

namespace Go.Proofs.YtnfgdlkiialnnaaGreatDoor
open Go.RowKit

theorem grown_above {w a c:World} {b:Nat} (h:w.grownBy a none) (k:a.grownBy c (some b)) (hb:w.heap.size≤b):w.grownBy c none :=
 ⟨k.os.trans h.os,k.tape.trans h.tape,k.output.trans h.output,Nat.le_trans h.size k.size,fun i hi _ =>
  (k.block i (Nat.lt_of_lt_of_le hi h.size) (by simp; omega)).trans (h.block i hi (by simp))⟩

theorem good_tame {o:Lk.Obj} (h:Lk.goodObj o):Tame o:=by
 obtain ⟨h1,h2,h3,h4,h5,h6,h7,h8,h9,h10,h11,h12,h13⟩:=h
 refine ⟨⟨by omega,by omega,by omega,by omega,by omega,by omega⟩,fun y hy=>?_,fun r hr=>?_⟩
 ·have:=(h9 y hy).1; omega
 ·have:=(h10 r hr).2.2.1.2; omega

/-- what Read gives -/
def ReadRet (w:World) (s:ByteArray) (e:Ending) (w':World):Prop :=
 (∃ o g,Lk.readObj (sl s)=some o∧Valid o∧e = .returned (.tuple #[.pointer (some ⟨g,0,none⟩),.int .i64 0])∧ObjAt w' g o∧w.heap.size≤g) ∨
 ((∀ o,Lk.readObj (sl s)=some o→¬ Valid o)∧e = .returned (.tuple #[.pointer none,.int .i64 20]))

set_option maxHeartbeats 4000000 in
theorem read_any (s:ByteArray) (w:World) (ht:Tabs w) (hs:s.size≤1048576) :
  Calls Tryz.prog 53 #[.string s] w fun e w'=>ReadRet w s e w'∧w.grownBy w' none:=by
 have HT:=hid ht
 clear ht
 go_enter Tryz.func53,Tryz.ntmps53
 go_wp2_with fail
 refine (newReader_any s w).mono ?_
 rintro e W1 ⟨rfl,g1⟩
 have R:RdAt (W1.alloc (.cells #[.string s,.int .i64 0,.bool false] 63)) W1.heap.size s 0 false:=heap_alloc_new W1 _
 have HR:=hid R
 have G1:=hid g1
 have GA:=hid (World.grownBy_alloc W1 (.cells #[.string s,.int .i64 0,.bool false] 63) none)
 have hz:=hid g1.size
 clear R g1
 by_cases hm:(Lk.rdText (sl s) 2 (0,false)).1=[76,75]
 ·have cR:=hid (readObject_yes W1.heap.size s 0 false _ HR.out hs (Nat.zero_le _) hm)
  have hro:=hid (show Lk.readObj (sl s)=if (Lk.rdRest (sl s) (Lk.rdText (sl s) 2 (0,false)).2).2=((sl s).length,false) then some (Lk.rdRest (sl s) (Lk.rdText (sl s) 2 (0,false)).2).1 else none from by unfold Lk.readObj; rw [if_pos hm])
  generalize Lk.rdRest (sl s) (Lk.rdText (sl s) 2 (0,false)).2=X at *
  obtain ⟨o,p',s'⟩:=X
  simp only at cR hro
  clear hm
  go_wp2_with fail
  refine cR.out.mono ?_
  rintro e W2 ⟨g,rfl,hg,hobj,hrd,hgr⟩
  have HOB:=hid hobj
  have HRD:=hid hrd
  have GR:=hid hgr
  have HGG:=hid hg
  clear hobj hrd hgr hg cR
  have cD:=hid (done_any W1.heap.size s p' s' W2 HRD.out)
  go_wp2_with fail
  refine cD.out.mono ?_
  rintro e W3 ⟨rfl,kd,rfl⟩
  have GF:=hid (grown_drewN (grown_above (grown_trans G1.out GA.out) GR.out hz.out) kd)
  clear cD
  have hsz:=sl_length s
  by_cases hd:s'=false∧p'=s.size
  ·obtain ⟨rfl,rfl⟩:=hd
   have hro2:Lk.readObj (sl s)=some o:=by rw [hro.out,if_pos (by rw [hsz])]
   have HRO:=hid hro2
   have hgood:=((Lk.readObj_iff (sl s) o).1 hro2).1
   have cV:=hid (valid_any g o (W2.drewN kd) (HT.out.grown GF.out) (HOB.out.drewN kd) (good_tame hgood))
   have dd:(!false && decide (s.size=s.size))=true:=by simp
   clear hro2 hgood hsz hro
   go_wp2_with fail
   refine cV.out.mono ?_
   rintro e W4 ⟨t,q⟩
   have GQ:=hid (grown_trans GF.out q)
   have HO4:=hid ((HOB.out.drewN kd).kept q)
   rcases t.split with ⟨rfl,pv⟩ | ⟨rfl,pv⟩ <;> clear t q cV
   ·go_wp2
    go_ret2
    exact ⟨.inr ⟨fun o' ho'=>by have h1:=HRO.out.symm.trans ho'; simp only [Option.some.injEq] at h1; subst h1; exact pv.out,rfl⟩,GQ.out⟩
   ·go_wp2
    go_ret2
    refine ⟨.inl ⟨o,g,HRO.out,pv.out,rfl,HO4.out,?_⟩,GQ.out⟩
    have h1:=HGG.out
    have h2:=hz.out
    simp at h1
    omega
  ·have hro2:Lk.readObj (sl s)=none:=by
    rw [hro.out,if_neg]
    intro h
    simp only [Prod.mk.injEq] at h
    exact hd ⟨h.2,by rw [← hsz]; exact h.1⟩
   have HRO:=hid hro2
   have dd:(!s' && decide (p'=s.size))=false:=by
    cases s'
    ·simp at hd ⊢; exact hd
    ·rfl
   clear hro2 hro hsz hd
   go_wp2
   go_ret2
   exact ⟨.inr ⟨fun o' ho'=>by have h1:=HRO.out.symm.trans ho'; simp at h1,rfl⟩,GF.out⟩
 ·have cR:=hid (readObject_no W1.heap.size s 0 false _ HR.out hs (Nat.zero_le _) hm)
  have hro:=hid (show Lk.readObj (sl s)=none from by unfold Lk.readObj; rw [if_neg hm])
  clear hm
  go_wp2_with fail
  refine cR.out.mono ?_
  rintro e W2 ⟨rfl,hgr⟩
  have GR:=hid hgr
  clear hgr cR
  go_wp2
  go_ret2
  exact ⟨.inr ⟨fun o' ho'=>by have h1:=hro.out.symm.trans ho'; simp at h1,rfl⟩,grown_above (grown_trans G1.out GA.out) GR.out hz.out⟩

end Go.Proofs.YtnfgdlkiialnnaaGreatDoor

namespace Go.Proofs.YtnfgdlkiialnnaaGreatDoor
open Go.RowKit

def symA (y:Lk.Sym):Value:=.agg #[.string (bs y.name),.int .i64 y.bind,.int .i64 y.sect,.int .i64 y.off]

/-- a row of pointers to modules -/
def PtrsIn (w:World) (ao:Option Addr) (bl:List Nat):Prop :=
 0 < bl.length→∃ g off,ao=some ⟨g,off,none⟩∧∀ i (h:i < bl.length),w.cell? ⟨g,off+i,none⟩=some (.pointer (some ⟨bl[i],0,none⟩))
/-- a module's object -/
def ModO (w:World) (b:Nat) (o:Lk.Obj):Prop:=∃ g,w.cell? ⟨b,0,none⟩=some (.pointer (some ⟨g,0,none⟩))∧ObjAt w g o
structure ModsIn (w:World) (ao:Option Addr) (bl:List Nat) (os:List Lk.Obj):Prop where
 ptrs:PtrsIn w ao bl
 len:bl.length=os.length
 mod:∀ i (h:i < bl.length) (h':i < os.length),ModO w bl[i] os[i]
 few:os.length≤4096
 syms:∀ o∈os,o.syms.length≤65535

theorem ModO.kept {w w':World} {b:Nat} {o:Lk.Obj} (h:ModO w b o) (hg:w.grownBy w' none):ModO w' b o:=by
 obtain ⟨g,h1,h2⟩:=h
 exact ⟨g,gcell h1 hg,h2.kept hg⟩
theorem PtrsIn.kept {w w':World} {ao:Option Addr} {bl:List Nat} (h:PtrsIn w ao bl) (hg:w.grownBy w' none):PtrsIn w' ao bl:=by
 intro hp
 obtain ⟨g,off,e,hc⟩:=h hp
 exact ⟨g,off,e,fun i hi=>gcell (hc i hi) hg⟩
theorem ModsIn.kept {w w':World} {ao:Option Addr} {bl:List Nat} {os:List Lk.Obj} (h:ModsIn w ao bl os) (hg:w.grownBy w' none):ModsIn w' ao bl os :=
 ⟨h.ptrs.kept hg,h.len,fun i h1 h2=>(h.mod i h1 h2).kept hg,h.few,h.syms⟩
theorem ModsIn.take {w:World} {ao:Option Addr} {bl:List Nat} {os:List Lk.Obj} (h:ModsIn w ao bl os) (k:Nat):ModsIn w ao (bl.take k) (os.take k):=by
 refine ⟨?_,by rw [List.length_take,List.length_take,h.len],fun i h1 h2=>?_,?_,fun o ho=>h.syms o (List.mem_of_mem_take ho)⟩
 ·intro hp
  have hp2:0 < bl.length:=by rw [List.length_take] at hp; omega
  obtain ⟨g,off,e,hc⟩:=h.ptrs hp2
  refine ⟨g,off,e,fun i hi=>?_⟩
  rw [List.length_take] at hi
  rw [List.getElem_take]
  exact hc i (by omega)
 ·rw [List.length_take] at h1 h2
  rw [List.getElem_take,List.getElem_take]
  exact h.mod i (by omega) (by omega)
 ·have:=h.few; rw [List.length_take]; omega

/-- a spot, the modules' blocks being bl -/
def ptrOf (bl:List Nat) (m:Option Nat):Option Addr:=m.bind fun i=>bl[i]?.map fun b=>⟨b,0,none⟩
def spotA (bl:List Nat) (s:Ln.Spot):Value:=.agg #[.pointer (ptrOf bl s.mod),.int .i64 s.sect,.int .i64 s.off]

theorem ret_bool'' {a b:Bool} (h:a=b):Ending.returned (.bool a) = .returned (.bool b):=by rw [h]

set_option maxHeartbeats 2000000 in
theorem wanted_any (y:Lk.Sym) (w:World):Calls Tryz.prog 92 #[symA y] w fun e w'=>e = .returned (.bool (Ln.wanted y))∧w.grownBy w' none:=by
 unfold symA
 by_cases h1:y.bind=1
 ·have d1:(y.bind == 1)=true:=by simpa using h1
  by_cases h2:y.sect=0
  ·have R:=hid (show Ln.wanted y=true by unfold Ln.wanted; rw [decide_eq_true h1,decide_eq_true h2]; rfl)
   have d2:(y.sect == 0)=true:=by simpa using h2
   clear h1 h2
   go_enter Tryz.func92,Tryz.ntmps92
   go_wp2
   go_ret
   exact ⟨ret_bool'' R.out.symm,World.grownBy_alloc _ _ _⟩
  ·have R:=hid (show Ln.wanted y=false by unfold Ln.wanted; rw [decide_eq_false h2]; simp)
   have d2:(y.sect == 0)=false:=by simpa using h2
   clear h1 h2
   go_enter Tryz.func92,Tryz.ntmps92
   go_wp2
   go_ret
   exact ⟨ret_bool'' R.out.symm,World.grownBy_alloc _ _ _⟩
 ·have R:=hid (show Ln.wanted y=false by unfold Ln.wanted; rw [decide_eq_false h1]; simp)
  have d1:(y.bind == 1)=false:=by simpa using h1
  clear h1
  go_enter Tryz.func92,Tryz.ntmps92
  go_wp2
  go_ret
  exact ⟨ret_bool'' R.out.symm,World.grownBy_alloc _ _ _⟩

set_option maxHeartbeats 2000000 in
theorem defines_any (y:Lk.Sym) (w:World):Calls Tryz.prog 190 #[symA y] w fun e w'=>e = .returned (.bool (Ln.defines y))∧w.grownBy w' none:=by
 obtain ⟨n,b,s,o⟩:=y
 unfold symA
 dsimp only
 by_cases h1:b=0
 ·subst h1
  have R:=hid (show Ln.defines ⟨n,0,s,o⟩=false from rfl)
  go_enter Tryz.func190,Tryz.ntmps190
  go_wp2
  go_ret
  exact ⟨ret_bool'' R.out.symm,World.grownBy_alloc _ _ _⟩
 ·by_cases h2:s=0
  ·subst h2
   have R:=hid (show Ln.defines ⟨n,b,0,o⟩=false by unfold Ln.defines; simp)
   go_enter Tryz.func190,Tryz.ntmps190
   go_wp2
   go_ret
   exact ⟨ret_bool'' R.out.symm,World.grownBy_alloc _ _ _⟩
  ·have R:=hid (show Ln.defines ⟨n,b,s,o⟩=true by unfold Ln.defines; rw [decide_eq_false h1,decide_eq_false h2]; rfl)
   go_enter Tryz.func190,Tryz.ntmps190
   go_wp2
   go_ret
   exact ⟨ret_bool'' ((show (b != 0 && s != 0)=true by simp [h1,h2]).trans R.out.symm),World.grownBy_alloc _ _ _⟩

end Go.Proofs.YtnfgdlkiialnnaaGreatDoor

namespace Go.Proofs.YtnfgdlkiialnnaaGreatDoor
open Go.RowKit

theorem findAt_drop (n:List UInt8) (bind:Int) (os:List Lk.Obj) (k:Nat) (h:k < os.length):Ln.findAt n bind k (os.drop k)=match Ln.findIn n bind os[k].syms with | some (s,f)=>⟨some k,s,f⟩ | none=>Ln.findAt n bind (k+1) (os.drop (k+1)):=by
 rw [List.drop_eq_getElem_cons h,Ln.findAt]
 cases Ln.findIn n bind os[k].syms <;> rfl
theorem findIn_drop (n:List UInt8) (bind:Int) (ys:List Lk.Sym) (k:Nat) (h:k < ys.length):Ln.findIn n bind (ys.drop k)=if ys[k].name=n∧ys[k].bind=bind∧ys[k].sect≠0 then some (ys[k].sect,ys[k].off) else Ln.findIn n bind (ys.drop (k+1)):=by
 rw [List.drop_eq_getElem_cons h,Ln.findIn]

theorem sets3_grown {w V:World} (h:w.grownBy V none) (r:Nat) (hr:w.heap.size≤r) (a b c:Value):w.grownBy (((V.setCell ⟨r,0,none⟩ a).setCell ⟨r,1,none⟩ b).setCell ⟨r,2,none⟩ c) none :=
 grown_hi (grown_hi (grown_hi h (grown_set V r 0 a) (by intro k e; simp at e; omega)) (grown_set _ r 1 b) (by intro k e; simp at e; omega)) (grown_set _ r 2 c) (by intro k e; simp at e; omega)

set_option maxRecDepth 100000 in
set_option maxHeartbeats 8000000 in
theorem find_any (ao:Option Addr) (cap:Nat) (bl:List Nat) (os:List Lk.Obj) (nm:List UInt8) (bind:Int) (w:World) (h:ModsIn w ao bl os) :
  Calls Tryz.prog 91 #[.slice ao bl.length cap,.string (bs nm),.int .i64 bind] w fun e w'=>e = .returned (spotA bl (Ln.find os nm bind))∧w.grownBy w' none:=by
 have H:=hid h
 have hfew:=h.few
 have HL:=hid h.len
 have G0:=hid (World.grownBy_alloc w (.cells #[.pointer none,.int .i64 0,.int .i64 0] 115) none)
 have B0:=hid (BlkAt.new w #[.pointer none,.int .i64 0,.int .i64 0] 115)
 have hbl:bl.length≤4096:=by rw [h.len]; exact hfew
 clear h
 go_enter Tryz.func91,Tryz.ntmps91
 go_wp2
 generalize w.alloc (.cells #[.pointer none,.int .i64 0,.int .i64 0] 115)=W1 at *
 go_loopw [13] (fun i wr=>∃ k:Nat,k≤bl.length∧i = .int .i64 k∧Ln.find os nm bind=Ln.findAt nm bind k (os.drop k)∧W1.grownBy wr none) (fun i _=>bl.length - (intOf i).toNat)
 case atStart=>exact ⟨0,Nat.zero_le _,rfl,rfl,World.grownBy.refl _ _⟩
 case round =>
  obtain ⟨k,hk,rfl,hf,hgr⟩:=hrel
  have HF:=hid hf
  have HG:=hid hgr
  clear hf hgr
  by_cases hlt:k < bl.length
  ·have hko:k < os.length:=by rw [← HL.out]; exact hlt
   have MI:=H.out.kept (grown_trans G0.out HG.out)
   obtain ⟨g0,off,hao,hc⟩:=MI.ptrs (by omega)
   subst hao
   obtain ⟨og,hm0,hob⟩:=MI.mod k hlt hko
   have ck:=hc k hlt
   obtain ⟨at_,ct,af,cf,ad,cd,aa,ca,as_,cs,ar,cr,hb,-,-,-,-,q5,-⟩:=hob.open
   have S:=hid (SymsIn.of_own q5)
   have k5:=hb.cell 5
   simp only [List.getElem?_toArray,List.getElem?_cons_succ,List.getElem?_cons_zero] at k5
   have hns:=MI.syms os[k] (List.getElem_mem hko)
   have FD:=hid (findAt_drop nm bind os k hko)
   clear hc hob hb q5 MI
   generalize os[k].syms=ys at *
   generalize hbk:bl[k]=bk at *
   have HBK:=hid hbk
   clear hbk
   have g1:(k:Int) < (bl.length:Int):=by omega
   obtain ⟨U,hU⟩:∃ U:World,U=wr:=⟨_,rfl⟩
   subst hU
   go_wp2
   go_loopw [25] (fun i wr=>∃ j:Nat,j≤ys.length∧i = .int .i64 j∧Ln.findIn nm bind ys=Ln.findIn nm bind (ys.drop j)∧U.grownBy wr none) (fun i _=>ys.length - (intOf i).toNat)
   case atStart=>exact ⟨0,Nat.zero_le _,rfl,rfl,World.grownBy.refl _ _⟩
   case round =>
    obtain ⟨j,hj,rfl,hf2,hgr2⟩:=hrel
    have HF2:=hid hf2
    have HG2:=hid hgr2
    clear hf2 hgr2 ck hm0 k5
    by_cases hlt2:j < ys.length
    ·obtain ⟨sg,hsg,hgs,hcs⟩:=S.out.grown HG2.out (by omega)
     subst hsg
     obtain ⟨q0,q1,q2,q3⟩:=hcs j hlt2
     clear hcs
     have g2:(j:Int) < (ys.length:Int):=by omega
     have FI:=hid (findIn_drop nm bind ys j hlt2)
     generalize ys[j]=y at *
     have GA:=hid (fun ob:Obj=>World.grownBy_alloc wr ob none)
     have NX:=hid (fun (hn:¬ (y.name=nm∧y.bind=bind∧y.sect≠0))=>show Ln.findIn nm bind ys=Ln.findIn nm bind (ys.drop (j+1)) by rw [HF2.out,FI.out,if_neg hn])
     by_cases e1:y.name=nm
     ·have b1:((bs y.name).toList == (bs nm).toList)=true:=by rw [e1]; simp
      by_cases e2:y.bind=bind
      ·have b2:(y.bind == bind)=true:=by simpa using e2
       by_cases e3:y.sect=0
       ·have b3:(y.sect == 0)=true:=by simpa using e3
        have E:=hid (NX.out (fun h=>h.2.2 e3))
        clear e1 e2 e3
        go_wp2
        go_roundw
        case rel=>exact ⟨j+1,by omega,by go_num,E.out,grown_trans HG2.out (GA.out _)⟩
        case measure=>simp [intOf]; omega
       ·have b3:(y.sect == 0)=false:=by simpa using e3
        have E:=hid (show Ln.find os nm bind=⟨some k,y.sect,y.off⟩ by rw [HF.out,FD.out,HF2.out,FI.out,if_pos ⟨e1,e2,e3⟩])
        have BR:=hid (B0.out.grown (grown_trans HG.out HG2.out) (by simp))
        have hRl:=BR.out.lt
        have z0:=BR.out.cell 0
        have z1:=BR.out.cell 1
        have z2:=BR.out.cell 2
        simp only [List.getElem?_toArray,List.getElem?_cons_succ,List.getElem?_cons_zero] at z0 z1 z2
        have f0:=BR.out.free 0
        have f1:=BR.out.free 1
        have f2:=BR.out.free 2
        have hRn:w.heap.size≠wr.heap.size:=by omega
        have PO:=hid (show ptrOf bl (some k)=some ⟨bk,0,none⟩ by unfold ptrOf; rw [Option.bind_some,List.getElem?_eq_getElem hlt,Option.map_some,HBK.out])
        clear e1 e2
        go_wp2
        have F:=(((BR.out.set 0 (.pointer (some ⟨bk,0,none⟩))).set 1 (.int .i64 y.sect)).set 2 (.int .i64 y.off)).grown (World.grownBy_alloc _ (.cells #[.string (bs y.name),.int .i64 y.bind,.int .i64 y.sect,.int .i64 y.off] 124) none) (by simp)
        have h0:=F.cell 0
        have h1:=F.cell 1
        have h2:=F.cell 2
        simp only [List.setIfInBounds_toArray,List.set_cons_succ,List.set_cons_zero,List.getElem?_toArray,List.getElem?_cons_succ,List.getElem?_cons_zero] at h0 h1 h2
        refine bodyPost_ret (v:=spotA bl ⟨some k,y.sect,y.off⟩) ?_ rfl ⟨by rw [E.out],grown_trans (sets3_grown (grown_trans G0.out (grown_trans HG.out HG2.out)) _ (Nat.le_refl _) _ _ _) (World.grownBy_alloc _ _ none)⟩
        clear F z0 z1 z2 f0 f1 f2 q0 q1 q2 q3
        generalize World.alloc _ _=WF at *
        simp [results,Tryz.results91,go_sem,spotA,PO.out,h0,h1,h2]
      ·have b2:(y.bind == bind)=false:=by simpa using e2
       have E:=hid (NX.out (fun h=>e2 h.2.1))
       clear e1 e2
       go_wp2
       go_roundw
       case rel=>exact ⟨j+1,by omega,by go_num,E.out,grown_trans HG2.out (GA.out _)⟩
       case measure=>simp [intOf]; omega
     ·have b1:((bs y.name).toList == (bs nm).toList)=false:=by rw [toList_bs,toList_bs]; simpa using e1
      have E:=hid (NX.out (fun h=>e1 h.1))
      clear e1
      go_wp2
      go_roundw
      case rel=>exact ⟨j+1,by omega,by go_num,E.out,grown_trans HG2.out (GA.out _)⟩
      case measure=>simp [intOf]; omega
    ·obtain rfl:j=ys.length:=by omega
     have E:=hid (show Ln.findIn nm bind ys=none by rw [HF2.out,List.drop_length]; rfl)
     have g3:decide ((ys.length:Int) < (ys.length:Int))=false:=by simp
     go_wp2
     go_roundw
     case rel=>exact ⟨k+1,by omega,by go_num,by rw [HF.out,FD.out,E.out],grown_trans HG.out HG2.out⟩
     case measure=>simp [intOf]; omega
  ·obtain rfl:k=bl.length:=by omega
   have E:=hid (show Ln.find os nm bind=Ln.none_ by rw [HF.out,HL.out,List.drop_length]; rfl)
   have g3:decide ((bl.length:Int) < (bl.length:Int))=false:=by simp
   have BR:=hid (B0.out.grown HG.out (by simp))
   have z0:=BR.out.cell 0
   have z1:=BR.out.cell 1
   have z2:=BR.out.cell 2
   simp only [List.getElem?_toArray,List.getElem?_cons_succ,List.getElem?_cons_zero] at z0 z1 z2
   have f0:=BR.out.free 0
   have f1:=BR.out.free 1
   have f2:=BR.out.free 2
   go_wp2
   have F:=((BR.out.set 0 (.pointer none)).set 1 (.int .i64 0)).set 2 (.int .i64 0)
   have h0:=F.cell 0
   have h1:=F.cell 1
   have h2:=F.cell 2
   simp only [List.setIfInBounds_toArray,List.set_cons_succ,List.set_cons_zero,List.getElem?_toArray,List.getElem?_cons_succ,List.getElem?_cons_zero] at h0 h1 h2
   refine bodyPost_ret (v:=spotA bl Ln.none_) ?_ rfl ⟨by rw [E.out],sets3_grown (grown_trans G0.out HG.out) _ (Nat.le_refl _) _ _ _⟩
   clear F z0 z1 z2 f0 f1 f2
   generalize World.setCell _ _ _=WF at *
   simp [results,Tryz.results91,go_sem,spotA,ptrOf,Ln.none_,h0,h1,h2]

end Go.Proofs.YtnfgdlkiialnnaaGreatDoor
