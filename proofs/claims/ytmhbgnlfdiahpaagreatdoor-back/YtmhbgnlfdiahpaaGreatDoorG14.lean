/- Walks over package object's checks: validReloc. -/
/- Walks over package object's checks: validRelocs. -/
/- Walks: relocations brought together. -/
import Derived.Test.YtmhbgnlfdiahpaaGreatDoorG13
import Derived.Test.YtmhbgnlfdiahpaaGreatDoorG12
namespace Go.Proofs.YtmhbgnlfdiahpaaGreatDoor
open Go.RowKit

def BordOk (o : Lk.Obj) (r : Lk.Rel) : Prop := r.kind = 6 → r.addend + 4 ≤ borderI (o.align.getD (r.sect.toNat - 1) 0)
def RelOk (o : Lk.Obj) (r : Lk.Rel) : Prop := KindOk r ∧ AddendOk r ∧ SymIx o r ∧ BordOk o r ∧ AboutOk o r ∧ GoesP r.kind (about o r) ∧ ¬ WithinP o r

theorem about_facts {o : Lk.Obj} {r : Lk.Rel} (ha : AddendOk r) (hab : AboutOk o r) (hw : Words (wordsOf o r.sect)) : (about o r).length = (spanI r).toNat ∧ Words (about o r) ∧ (about o r).length ≤ 3 ∧ 1 ≤ (about o r).length := by
  have hs := span_range ha
  obtain ⟨b1, b2, b3⟩ := hab
  have hl : (about o r).length = (spanI r).toNat := by unfold about; simp; omega
  refine ⟨hl, ?_, by omega, by omega⟩
  intro i hi
  have hi' : (r.off / 4).toNat + i < (wordsOf o r.sect).length := by omega
  have e : (about o r)[i] = (wordsOf o r.sect)[(r.off / 4).toNat + i] := by
    simp only [about, List.getElem_take, List.getElem_drop]
  rw [e]
  exact hw _ hi'

theorem wordsOf_words {o : Lk.Obj} (h : AllWords o) (sect : Int) : Words (wordsOf o sect) := by
  unfold wordsOf
  split
  · exact h.1
  split
  · exact h.2.1
  split
  · exact h.2.2
  · intro i hi; simp at hi

theorem tells_yes {e : Ending} {P : Prop} (h : Tells e P) (hp : P) : e = .returned (.bool true) := by
  rcases h.split with ⟨_, q⟩ | ⟨h1, _⟩
  · exact absurd hp q.out
  · exact h1
theorem tells_no {e : Ending} {P : Prop} (h : Tells e P) (hp : ¬ P) : e = .returned (.bool false) := by
  rcases h.split with ⟨h1, _⟩ | ⟨_, q⟩
  · exact h1
  · exact absurd q.out hp

set_option maxHeartbeats 4000000 in
theorem validReloc_any (g : Nat) (o : Lk.Obj) (r : Lk.Rel) (w : World) (ht : Tabs w) (h : ObjAt w g o) (hn : Small o) (hb4 : Borders o.align) (hw : AllWords o) (hr : r.off ≤ 9223372036854775807) :
    Calls Tryz.prog 70 #[.pointer (some ⟨g, 0, none⟩), relA r] w fun e w' => Tells e (RelOk o r) ∧ w.grownBy w' none := by
  have no : Hid (∀ W, (¬ RelOk o r) → w.grownBy W none → Tells (.returned (.bool false)) (RelOk o r) ∧ w.grownBy W none) := fun W a b => ⟨Tells.no a, b⟩
  have HO := hid h
  have HT := hid ht
  have HN := hid hn
  have HB4 := hid hb4
  have HW := hid hw
  clear h ht hn hb4 hw
  have B := BlkAt.new w #[.int .i64 r.sect, .int .i64 r.off, .int .i64 r.kind, .int .i64 r.sym, .int .i64 r.addend] 75
  have GB := World.grownBy_alloc w (.cells #[.int .i64 r.sect, .int .i64 r.off, .int .i64 r.kind, .int .i64 r.sym, .int .i64 r.addend] 75) none
  have HBk := hid B
  have HGB := hid GB
  clear B GB
  have cK := hid (fun W => validKind_any r W)
  have cA := hid (fun W => validAddend_any r W)
  have cS := hid (fun W (hW : ObjAt W g o) => validSym_any g o r W hW HN.out)
  have fold : relA r = .agg #[.int .i64 r.sect, .int .i64 r.off, .int .i64 r.kind, .int .i64 r.sym, .int .i64 r.addend] := rfl
  rw [fold]
  rw [fold] at cK cA cS
  clear fold
  go_enter Tryz.func70, Tryz.ntmps70
  go_wp2_with fail
  refine Calls.at_world (fun W => BlkAt W w.heap.size #[.int .i64 r.sect, .int .i64 r.off, .int .i64 r.kind, .int .i64 r.sym, .int .i64 r.addend] 75 ∧ w.grownBy W none) ⟨HBk.out, HGB.out⟩ ?_
  rintro W1 ⟨bk1, g1⟩
  refine (cK.out W1).mono ?_
  rintro e W2 ⟨t, q⟩
  have BK2 := bk1.grown q (by simp)
  have G2 := hid (grown_trans g1 q)
  rcases t.split with ⟨rfl, p1⟩ | ⟨rfl, p1⟩ <;> clear t q bk1 g1
  · clear BK2
    go_wp2
    go_ret
    exact no.out _ (fun h => p1.out h.1) G2.out
  have c0 := BK2.cell 0
  have c1 := BK2.cell 1
  have c2 := BK2.cell 2
  have c3 := BK2.cell 3
  have c4 := BK2.cell 4
  have HB2 := hid BK2
  clear BK2
  go_wp2_with fail
  refine (cA.out W2).mono ?_
  rintro e W3 ⟨t, q⟩
  have BK3 := HB2.out.grown q (by simp)
  have G3 := hid (grown_trans G2.out q)
  clear c0 c1 c2 c3 c4
  rcases t.split with ⟨rfl, p2⟩ | ⟨rfl, p2⟩ <;> clear t q
  · clear BK3
    go_wp2
    go_ret
    exact no.out _ (fun h => p2.out h.2.1) G3.out
  have c0 := BK3.cell 0
  have c1 := BK3.cell 1
  have c2 := BK3.cell 2
  have c3 := BK3.cell 3
  have c4 := BK3.cell 4
  have HB3 := hid BK3
  clear BK3
  go_wp2_with fail
  refine (cS.out W3 (HO.out.kept G3.out)).mono ?_
  rintro e W4 ⟨t, q⟩
  have BK4 := HB3.out.grown q (by simp)
  have G4 := hid (grown_trans G3.out q)
  clear c0 c1 c2 c3 c4
  rcases t.split with ⟨rfl, p3⟩ | ⟨rfl, p3⟩ <;> clear t q
  · clear BK4
    go_wp2
    go_ret
    exact no.out _ (fun h => p3.out h.2.2.1) G4.out
  have c0 := BK4.cell 0
  have c1 := BK4.cell 1
  have c2 := BK4.cell 2
  have c3 := BK4.cell 3
  have c4 := BK4.cell 4
  have HB4' := hid BK4
  clear BK4
  have kinds := p1.out
  unfold KindOk at kinds
  by_cases hk6 : r.kind = 6
  · have hs : 1 ≤ r.sect ∧ r.sect ≤ 2 := by omega
    have ha := p2.out.six hk6
    obtain ⟨sn, hsn⟩ : ∃ sn : Nat, r.sect = (sn : Int) := ⟨r.sect.toNat, by omega⟩
    have hal := HB4.out.1
    have cB := hid (fun W (hW : ObjAt W g o) => show Calls Tryz.prog 110 #[.pointer (some ⟨g, 0, none⟩), .int .i64 r.sect] W fun e w' => e = .returned (.int .i64 (borderI (o.align.getD (r.sect.toNat - 1) 0))) ∧ w' = W from by
      have := borderOf_any g o sn W hW HB4.out (by omega) (by omega)
      rw [hsn, Int.toNat_natCast, List.getD_eq_getElem?_getD, List.getElem?_eq_getElem (by omega)]
      exact this)
    have BB := hid (show BordOk o r ↔ r.addend + 4 ≤ borderI (o.align.getD (r.sect.toNat - 1) 0) from ⟨fun h => h hk6, fun h _ => h⟩)
    generalize borderI (o.align.getD (r.sect.toNat - 1) 0) = bd at *
    have d6 : (r.kind == 6) = true := beq_iff_eq.2 hk6
    have hw4 : IntKind.i64.wrap (r.addend + 4) = r.addend + 4 := IntWalk.i64_in _ ⟨by omega, by omega⟩
    have K6 := hid hk6
    clear hk6 kinds hsn hal
    by_cases hbd : bd < r.addend + 4
    · have db : decide (bd < r.addend + 4) = true := by simpa using hbd
      go_wp2
      go_quiet ((go_at_call 110; exact Calls.quiet_of_same (cB.out _ ((HO.out.kept G4.out).drewN _))))
      go_wp2
      go_ret
      exact no.out _ (fun h => by have := BB.out.1 h.2.2.2.1; omega) (grown_drewN G4.out _)
    · have db : decide (bd < r.addend + 4) = false := by simp; omega
      have HBD := hid (show BordOk o r from BB.out.2 (by omega))
      go_wp2
      go_quiet ((go_at_call 110; exact Calls.quiet_of_same (cB.out _ ((HO.out.kept G4.out).drewN _))))
      go_wp2
      have B5 := HB4'.out.drewN nq
      have G5 := hid (grown_drewN G4.out nq)
      have e0 : Hid ((W4.drewN nq).drew.cell? ⟨w.heap.size, 0, none⟩ = some (.int .i64 r.sect)) := B5.cell 0
      have e1 : Hid ((W4.drewN nq).drew.cell? ⟨w.heap.size, 1, none⟩ = some (.int .i64 r.off)) := B5.cell 1
      have e2 : Hid ((W4.drewN nq).drew.cell? ⟨w.heap.size, 2, none⟩ = some (.int .i64 r.kind)) := B5.cell 2
      have e3 : Hid ((W4.drewN nq).drew.cell? ⟨w.heap.size, 3, none⟩ = some (.int .i64 r.sym)) := B5.cell 3
      have e4 : Hid ((W4.drewN nq).drew.cell? ⟨w.heap.size, 4, none⟩ = some (.int .i64 r.addend)) := B5.cell 4
      have HO5 : Hid (ObjAt (W4.drewN nq).drew g o) := ObjAt.drew (HO.out.kept G5.out)
      have HT5 : Hid (Tabs (W4.drewN nq).drew) := HT.out.grown (grown_drew G5.out)
      have G6 := hid (grown_drew G5.out)
      clear B5
      have hcr := hid (show 1 ≤ r.kind ∧ r.kind ≤ 6 from by have := p1.out; unfold KindOk at this; omega)
      by_cases hab : AboutOk o r
      · have haf := about_facts p2.out hab (wordsOf_words HW.out r.sect)
        have hoff : 0 ≤ r.off ∧ r.off ≤ 1048576 := by
          obtain ⟨x1, x2, x3⟩ := hab
          have y1 := wordsOf_small HN.out r.sect
          have y2 := span_range p2.out
          omega
        have cAb := hid (fun W (hW : ObjAt W g o) => aboutWords_yes g o r W hW HN.out p2.out hab)
        have cWg := hid (fun W ao cap (hW : Tabs W) (hI : IntsIn W ao (about o r)) => show Calls Tryz.prog 111 #[.int .i64 r.kind, .slice ao (spanI r).toNat cap] W fun e w' => Tells e (GoesP r.kind (about o r)) ∧ W.grownBy w' none from by
          rw [← haf.1]
          exact wordsGo_any r.kind ao cap (about o r) W hW hI haf.2.1 haf.2.2.1 haf.2.2.2 hcr.out (fun h => by rw [haf.1]; unfold spanI; rw [if_pos h]; rfl))
        have cSw := hid (fun W (hW : ObjAt W g o) => symbolWithin_any g o r W hW HN.out p2.out hoff.1 hoff.2)
        have HAB := hid hab
        unfold relA at cAb cSw
        clear hab haf hoff
        generalize (spanI r).toNat = sp at *
        by_cases hg : GoesP r.kind (about o r)
        · have HGO := hid hg
          clear hg
          go_region_held3 (fun w' => w'.cell? ⟨w.heap.size, 0, none⟩ = some (.int .i64 r.sect) ∧ w'.cell? ⟨w.heap.size, 1, none⟩ = some (.int .i64 r.off) ∧ w'.cell? ⟨w.heap.size, 2, none⟩ = some (.int .i64 r.kind) ∧ w'.cell? ⟨w.heap.size, 3, none⟩ = some (.int .i64 r.sym) ∧ w'.cell? ⟨w.heap.size, 4, none⟩ = some (.int .i64 r.addend))
            (go_keep)
            (first | (go_at_call 112; refine (cAb.out _ HO5.out).mono ?_; rintro e w5 ⟨ao, cap, rfl, hI, hq⟩; have s0 := gcell e0.out hq; have s1 := gcell e1.out hq; have s2 := gcell e2.out hq; have s3 := gcell e3.out hq; have s4 := gcell e4.out hq) | (go_at_call 111; refine (cWg.out _ ao cap (HT5.out.grown hq) hI).mono ?_; rintro e w6 ⟨ht6, hq2⟩; obtain rfl := tells_yes ht6 HGO.out; have z0 := gcell s0 hq2; have z1 := gcell s1 hq2; have z2 := gcell s2 hq2; have z3 := gcell s3 hq2; have z4 := gcell s4 hq2) | (go_at_call 113; refine (cSw.out _ ((HO5.out.kept hq).kept hq2)).mono ?_; rintro e w7 ⟨⟨b, rfl, hb⟩, hq3⟩; have y0 := gcell z0 hq3; have y1 := gcell z1 hq3; have y2 := gcell z2 hq3; have y3 := gcell z3 hq3; have y4 := gcell z4 hq3))
          have GF := hid (grown_trans (grown_trans (grown_trans G6.out hq) hq2) hq3)
          have HBB := hid hb
          clear hb hq hq2 hq3 s0 s1 s2 s3 s4 z0 z1 z2 z3 z4 y0 y1 y2 y3 y4 hI ht6
          go_wp2
          go_ret
          refine ⟨Tells.of ?_, GF.out⟩
          have hbb := HBB.out
          constructor
          · intro h
            refine ⟨p1.out, p2.out, p3.out, HBD.out, HAB.out, HGO.out, fun hwi => ?_⟩
            rw [hbb.2 hwi] at h
            simp at h
          · intro h
            cases b
            · rfl
            · exact absurd (hbb.1 rfl) h.2.2.2.2.2.2
        · have HGO := hid hg
          clear hg
          refine wp_region_held_drew (S := (fun w' => w'.cell? ⟨w.heap.size, 0, none⟩ = some (.int .i64 r.sect) ∧ w'.cell? ⟨w.heap.size, 1, none⟩ = some (.int .i64 r.off) ∧ w'.cell? ⟨w.heap.size, 2, none⟩ = some (.int .i64 r.kind) ∧ w'.cell? ⟨w.heap.size, 3, none⟩ = some (.int .i64 r.sym) ∧ w'.cell? ⟨w.heap.size, 4, none⟩ = some (.int .i64 r.addend))) (by kernel_rfl) ⟨e0.out, e1.out, e2.out, e3.out, e4.out⟩ ?_
          intro hS
          refine wpAnyH_take (i := 0) (v := ?_) rfl (by kernel_rfl) (by kernel_rfl) (by kernel_rfl) (fun _ _ _ h => h) (Or.inl ⟨by kernel_rfl, ?_⟩) hS ?_
          rotate_left
          · intro w' _; go_simp; with_reducible rfl
          refine wpAnyH_take (i := 1) (v := ?_) rfl (by kernel_rfl) (by kernel_rfl) (by kernel_rfl) (fun _ _ _ h => h) (Or.inl ⟨by kernel_rfl, ?_⟩) hS ?_
          rotate_left
          · intro w' hw'; obtain ⟨x0, x1, x2, x3, x4⟩ := hw'; go_simp; with_reducible rfl
          refine wpAnyH_take (i := 2) (v := ?_) rfl (by kernel_rfl) (by kernel_rfl) (by kernel_rfl) (fun _ _ _ h => h) (Or.inl ⟨by kernel_rfl, ?_⟩) hS ?_
          rotate_left
          · intro w' _; go_simp; with_reducible rfl
          refine wpAnyH_take (i := 3) (v := ?_) rfl (by kernel_rfl) (by kernel_rfl) (by kernel_rfl) (fun _ _ _ h => h) (Or.inl ⟨by kernel_rfl, ?_⟩) hS ?_
          rotate_left
          · intro w' hw'; obtain ⟨x0, x1, x2, x3, x4⟩ := hw'; go_simp; with_reducible rfl
          refine wpAnyH_ready (rs := [4]) (by kernel_rfl) (by simp) ?_
          refine AllReadyH.cons rfl (fun K hK => ?_) AllReadyH.nil
          go_simp
          go_wp2_with (go_at_call 112; refine (cAb.out _ HO5.out).mono ?_; rintro e w5 ⟨ao, cap, rfl, hI, hq⟩)
          refine hK.out _ _ ⟨gcell e0.out hq, gcell e1.out hq, gcell e2.out hq, gcell e3.out hq, gcell e4.out hq⟩ (fun hS2 => ?_)
          clear hK K
          refine wpAnyH_ready (rs := [5]) (by kernel_rfl) (by simp) ?_
          refine AllReadyH.cons rfl (fun K hK => ?_) AllReadyH.nil
          go_simp
          go_wp2_with (go_at_call 111; refine (cWg.out _ ao cap (HT5.out.grown hq) hI).mono ?_; rintro e w6 ⟨ht6, hq2⟩; obtain rfl := tells_no ht6 HGO.out)
          refine hK.out _ _ ⟨gcell (gcell e0.out hq) hq2, gcell (gcell e1.out hq) hq2, gcell (gcell e2.out hq) hq2, gcell (gcell e3.out hq) hq2, gcell (gcell e4.out hq) hq2⟩ (fun hS3 => ?_)
          clear hK K
          refine wpAnyH_take (i := 6) (v := ?_) rfl (by kernel_rfl) (by kernel_rfl) (by kernel_rfl) (fun _ _ _ h => h) (Or.inl ⟨by kernel_rfl, ?_⟩) hS3 ?_
          rotate_left
          · intro w' _; go_simp; with_reducible rfl
          refine wpAnyH_take (i := 7) (v := undef) rfl (by kernel_rfl) (by kernel_rfl) (by kernel_rfl) (fun _ _ _ h => h) (Or.inr ⟨by kernel_rfl, rfl⟩) hS3 ?_
          refine wpAnyH_take (i := 8) (v := undef) rfl (by kernel_rfl) (by kernel_rfl) (by kernel_rfl) (fun _ _ _ h => h) (Or.inr ⟨by kernel_rfl, rfl⟩) hS3 ?_
          refine wpAnyH_take (i := 9) (v := undef) rfl (by kernel_rfl) (by kernel_rfl) (by kernel_rfl) (fun _ _ _ h => h) (Or.inr ⟨by kernel_rfl, rfl⟩) hS3 ?_
          refine wpAnyH_take (i := 10) (v := undef) rfl (by kernel_rfl) (by kernel_rfl) (by kernel_rfl) (fun _ _ _ h => h) (Or.inr ⟨by kernel_rfl, rfl⟩) hS3 ?_
          refine wpAnyH_take (i := 11) (v := .bool false) rfl (by kernel_rfl) (by kernel_rfl) (by kernel_rfl) (fun _ _ _ h => h) (Or.inl ⟨by kernel_rfl, fun _ _ => by kernel_rfl⟩) hS3 ?_
          refine wpAnyH_take (i := 12) (v := .bool false) rfl (by kernel_rfl) (by kernel_rfl) (by kernel_rfl) (fun _ _ _ h => h) (Or.inl ⟨by kernel_rfl, fun _ _ => by kernel_rfl⟩) hS3 ?_
          refine wpAnyH_done (by kernel_rfl) ?_ _
          simp only [put_mk, List.getElem_toArray, List.getElem_cons_succ, List.getElem_cons_zero, List.setIfInBounds_toArray, List.set_cons_succ, List.set_cons_zero]
          go_wp2
          go_ret
          exact no.out _ (fun h => HGO.out h.2.2.2.2.2.1) (grown_trans (grown_trans G6.out hq) hq2)
      · have cAb := hid (fun W (hW : ObjAt W g o) => aboutWords_no g o r W hW HN.out p2.out hab hr)
        have cWg := hid (fun W => wordsGo_nil r.kind W)
        have HAB := hid hab
        unfold relA at cAb
        clear hab
        refine wp_region_held_drew (S := (fun w' => w'.cell? ⟨w.heap.size, 0, none⟩ = some (.int .i64 r.sect) ∧ w'.cell? ⟨w.heap.size, 1, none⟩ = some (.int .i64 r.off) ∧ w'.cell? ⟨w.heap.size, 2, none⟩ = some (.int .i64 r.kind) ∧ w'.cell? ⟨w.heap.size, 3, none⟩ = some (.int .i64 r.sym) ∧ w'.cell? ⟨w.heap.size, 4, none⟩ = some (.int .i64 r.addend))) (by kernel_rfl) ⟨e0.out, e1.out, e2.out, e3.out, e4.out⟩ ?_
        intro hS
        refine wpAnyH_take (i := 0) (v := ?_) rfl (by kernel_rfl) (by kernel_rfl) (by kernel_rfl) (fun _ _ _ h => h) (Or.inl ⟨by kernel_rfl, ?_⟩) hS ?_
        rotate_left
        · intro w' _; go_simp; with_reducible rfl
        refine wpAnyH_take (i := 1) (v := ?_) rfl (by kernel_rfl) (by kernel_rfl) (by kernel_rfl) (fun _ _ _ h => h) (Or.inl ⟨by kernel_rfl, ?_⟩) hS ?_
        rotate_left
        · intro w' hw'; obtain ⟨x0, x1, x2, x3, x4⟩ := hw'; go_simp; with_reducible rfl
        refine wpAnyH_take (i := 2) (v := ?_) rfl (by kernel_rfl) (by kernel_rfl) (by kernel_rfl) (fun _ _ _ h => h) (Or.inl ⟨by kernel_rfl, ?_⟩) hS ?_
        rotate_left
        · intro w' _; go_simp; with_reducible rfl
        refine wpAnyH_take (i := 3) (v := ?_) rfl (by kernel_rfl) (by kernel_rfl) (by kernel_rfl) (fun _ _ _ h => h) (Or.inl ⟨by kernel_rfl, ?_⟩) hS ?_
        rotate_left
        · intro w' hw'; obtain ⟨x0, x1, x2, x3, x4⟩ := hw'; go_simp; with_reducible rfl
        refine wpAnyH_ready (rs := [4]) (by kernel_rfl) (by simp) ?_
        refine AllReadyH.cons rfl (fun K hK => ?_) AllReadyH.nil
        go_simp
        go_wp2_with (go_at_call 112; refine (cAb.out _ HO5.out).mono ?_; rintro e w5 ⟨rfl, hq⟩)
        refine hK.out _ _ ⟨gcell e0.out hq, gcell e1.out hq, gcell e2.out hq, gcell e3.out hq, gcell e4.out hq⟩ (fun hS2 => ?_)
        clear hK K
        refine wpAnyH_ready (rs := [5]) (by kernel_rfl) (by simp) ?_
        refine AllReadyH.cons rfl (fun K hK => ?_) AllReadyH.nil
        go_simp
        go_wp2_with (go_at_call 111; refine (cWg.out _).mono ?_; rintro e w6 ⟨rfl, hw6⟩)
        subst hw6
        refine hK.out _ _ ⟨gcell e0.out hq, gcell e1.out hq, gcell e2.out hq, gcell e3.out hq, gcell e4.out hq⟩ (fun hS3 => ?_)
        clear hK K
        refine wpAnyH_take (i := 6) (v := ?_) rfl (by kernel_rfl) (by kernel_rfl) (by kernel_rfl) (fun _ _ _ h => h) (Or.inl ⟨by kernel_rfl, ?_⟩) hS3 ?_
        rotate_left
        · intro w' _; go_simp; with_reducible rfl
        refine wpAnyH_take (i := 7) (v := undef) rfl (by kernel_rfl) (by kernel_rfl) (by kernel_rfl) (fun _ _ _ h => h) (Or.inr ⟨by kernel_rfl, rfl⟩) hS3 ?_
        refine wpAnyH_take (i := 8) (v := undef) rfl (by kernel_rfl) (by kernel_rfl) (by kernel_rfl) (fun _ _ _ h => h) (Or.inr ⟨by kernel_rfl, rfl⟩) hS3 ?_
        refine wpAnyH_take (i := 9) (v := undef) rfl (by kernel_rfl) (by kernel_rfl) (by kernel_rfl) (fun _ _ _ h => h) (Or.inr ⟨by kernel_rfl, rfl⟩) hS3 ?_
        refine wpAnyH_take (i := 10) (v := undef) rfl (by kernel_rfl) (by kernel_rfl) (by kernel_rfl) (fun _ _ _ h => h) (Or.inr ⟨by kernel_rfl, rfl⟩) hS3 ?_
        refine wpAnyH_take (i := 11) (v := .bool false) rfl (by kernel_rfl) (by kernel_rfl) (by kernel_rfl) (fun _ _ _ h => h) (Or.inl ⟨by kernel_rfl, fun _ _ => by kernel_rfl⟩) hS3 ?_
        refine wpAnyH_take (i := 12) (v := .bool false) rfl (by kernel_rfl) (by kernel_rfl) (by kernel_rfl) (fun _ _ _ h => h) (Or.inl ⟨by kernel_rfl, fun _ _ => by kernel_rfl⟩) hS3 ?_
        refine wpAnyH_done (by kernel_rfl) ?_ _
        simp only [put_mk, List.getElem_toArray, List.getElem_cons_succ, List.getElem_cons_zero, List.setIfInBounds_toArray, List.set_cons_succ, List.set_cons_zero]
        go_wp2
        go_ret
        exact no.out _ (fun h => HAB.out h.2.2.2.2.1) (grown_trans G6.out hq)
  · have HBD := hid (show BordOk o r from fun h => absurd h hk6)
    have d6 : (r.kind == 6) = false := beq_eq_false_iff_ne.2 hk6
    have K6 := hid hk6
    clear hk6 kinds
    go_wp2
    go_quiet (fail)
    go_wp2
    have B5 := HB4'.out.drewN nq
    have G5 := hid (grown_drewN G4.out nq)
    have e0 : Hid ((W4.drewN nq).drew.cell? ⟨w.heap.size, 0, none⟩ = some (.int .i64 r.sect)) := B5.cell 0
    have e1 : Hid ((W4.drewN nq).drew.cell? ⟨w.heap.size, 1, none⟩ = some (.int .i64 r.off)) := B5.cell 1
    have e2 : Hid ((W4.drewN nq).drew.cell? ⟨w.heap.size, 2, none⟩ = some (.int .i64 r.kind)) := B5.cell 2
    have e3 : Hid ((W4.drewN nq).drew.cell? ⟨w.heap.size, 3, none⟩ = some (.int .i64 r.sym)) := B5.cell 3
    have e4 : Hid ((W4.drewN nq).drew.cell? ⟨w.heap.size, 4, none⟩ = some (.int .i64 r.addend)) := B5.cell 4
    have HO5 : Hid (ObjAt (W4.drewN nq).drew g o) := ObjAt.drew (HO.out.kept G5.out)
    have HT5 : Hid (Tabs (W4.drewN nq).drew) := HT.out.grown (grown_drew G5.out)
    have G6 := hid (grown_drew G5.out)
    clear B5
    have hcr := hid (show 1 ≤ r.kind ∧ r.kind ≤ 6 from by have := p1.out; unfold KindOk at this; omega)
    by_cases hab : AboutOk o r
    · have haf := about_facts p2.out hab (wordsOf_words HW.out r.sect)
      have hoff : 0 ≤ r.off ∧ r.off ≤ 1048576 := by
        obtain ⟨x1, x2, x3⟩ := hab
        have y1 := wordsOf_small HN.out r.sect
        have y2 := span_range p2.out
        omega
      have cAb := hid (fun W (hW : ObjAt W g o) => aboutWords_yes g o r W hW HN.out p2.out hab)
      have cWg := hid (fun W ao cap (hW : Tabs W) (hI : IntsIn W ao (about o r)) => show Calls Tryz.prog 111 #[.int .i64 r.kind, .slice ao (spanI r).toNat cap] W fun e w' => Tells e (GoesP r.kind (about o r)) ∧ W.grownBy w' none from by
        rw [← haf.1]
        exact wordsGo_any r.kind ao cap (about o r) W hW hI haf.2.1 haf.2.2.1 haf.2.2.2 hcr.out (fun h => by rw [haf.1]; unfold spanI; rw [if_pos h]; rfl))
      have cSw := hid (fun W (hW : ObjAt W g o) => symbolWithin_any g o r W hW HN.out p2.out hoff.1 hoff.2)
      have HAB := hid hab
      unfold relA at cAb cSw
      clear hab haf hoff
      generalize (spanI r).toNat = sp at *
      by_cases hg : GoesP r.kind (about o r)
      · have HGO := hid hg
        clear hg
        go_region_held3 (fun w' => w'.cell? ⟨w.heap.size, 0, none⟩ = some (.int .i64 r.sect) ∧ w'.cell? ⟨w.heap.size, 1, none⟩ = some (.int .i64 r.off) ∧ w'.cell? ⟨w.heap.size, 2, none⟩ = some (.int .i64 r.kind) ∧ w'.cell? ⟨w.heap.size, 3, none⟩ = some (.int .i64 r.sym) ∧ w'.cell? ⟨w.heap.size, 4, none⟩ = some (.int .i64 r.addend))
          (go_keep)
          (first | (go_at_call 112; refine (cAb.out _ HO5.out).mono ?_; rintro e w5 ⟨ao, cap, rfl, hI, hq⟩; have s0 := gcell e0.out hq; have s1 := gcell e1.out hq; have s2 := gcell e2.out hq; have s3 := gcell e3.out hq; have s4 := gcell e4.out hq) | (go_at_call 111; refine (cWg.out _ ao cap (HT5.out.grown hq) hI).mono ?_; rintro e w6 ⟨ht6, hq2⟩; obtain rfl := tells_yes ht6 HGO.out; have z0 := gcell s0 hq2; have z1 := gcell s1 hq2; have z2 := gcell s2 hq2; have z3 := gcell s3 hq2; have z4 := gcell s4 hq2) | (go_at_call 113; refine (cSw.out _ ((HO5.out.kept hq).kept hq2)).mono ?_; rintro e w7 ⟨⟨b, rfl, hb⟩, hq3⟩; have y0 := gcell z0 hq3; have y1 := gcell z1 hq3; have y2 := gcell z2 hq3; have y3 := gcell z3 hq3; have y4 := gcell z4 hq3))
        have GF := hid (grown_trans (grown_trans (grown_trans G6.out hq) hq2) hq3)
        have HBB := hid hb
        clear hb hq hq2 hq3 s0 s1 s2 s3 s4 z0 z1 z2 z3 z4 y0 y1 y2 y3 y4 hI ht6
        go_wp2
        go_ret
        refine ⟨Tells.of ?_, GF.out⟩
        have hbb := HBB.out
        constructor
        · intro h
          refine ⟨p1.out, p2.out, p3.out, HBD.out, HAB.out, HGO.out, fun hwi => ?_⟩
          rw [hbb.2 hwi] at h
          simp at h
        · intro h
          cases b
          · rfl
          · exact absurd (hbb.1 rfl) h.2.2.2.2.2.2
      · have HGO := hid hg
        clear hg
        refine wp_region_held_drew (S := (fun w' => w'.cell? ⟨w.heap.size, 0, none⟩ = some (.int .i64 r.sect) ∧ w'.cell? ⟨w.heap.size, 1, none⟩ = some (.int .i64 r.off) ∧ w'.cell? ⟨w.heap.size, 2, none⟩ = some (.int .i64 r.kind) ∧ w'.cell? ⟨w.heap.size, 3, none⟩ = some (.int .i64 r.sym) ∧ w'.cell? ⟨w.heap.size, 4, none⟩ = some (.int .i64 r.addend))) (by kernel_rfl) ⟨e0.out, e1.out, e2.out, e3.out, e4.out⟩ ?_
        intro hS
        refine wpAnyH_take (i := 0) (v := ?_) rfl (by kernel_rfl) (by kernel_rfl) (by kernel_rfl) (fun _ _ _ h => h) (Or.inl ⟨by kernel_rfl, ?_⟩) hS ?_
        rotate_left
        · intro w' _; go_simp; with_reducible rfl
        refine wpAnyH_take (i := 1) (v := ?_) rfl (by kernel_rfl) (by kernel_rfl) (by kernel_rfl) (fun _ _ _ h => h) (Or.inl ⟨by kernel_rfl, ?_⟩) hS ?_
        rotate_left
        · intro w' hw'; obtain ⟨x0, x1, x2, x3, x4⟩ := hw'; go_simp; with_reducible rfl
        refine wpAnyH_take (i := 2) (v := ?_) rfl (by kernel_rfl) (by kernel_rfl) (by kernel_rfl) (fun _ _ _ h => h) (Or.inl ⟨by kernel_rfl, ?_⟩) hS ?_
        rotate_left
        · intro w' _; go_simp; with_reducible rfl
        refine wpAnyH_take (i := 3) (v := ?_) rfl (by kernel_rfl) (by kernel_rfl) (by kernel_rfl) (fun _ _ _ h => h) (Or.inl ⟨by kernel_rfl, ?_⟩) hS ?_
        rotate_left
        · intro w' hw'; obtain ⟨x0, x1, x2, x3, x4⟩ := hw'; go_simp; with_reducible rfl
        refine wpAnyH_ready (rs := [4]) (by kernel_rfl) (by simp) ?_
        refine AllReadyH.cons rfl (fun K hK => ?_) AllReadyH.nil
        go_simp
        go_wp2_with (go_at_call 112; refine (cAb.out _ HO5.out).mono ?_; rintro e w5 ⟨ao, cap, rfl, hI, hq⟩)
        refine hK.out _ _ ⟨gcell e0.out hq, gcell e1.out hq, gcell e2.out hq, gcell e3.out hq, gcell e4.out hq⟩ (fun hS2 => ?_)
        clear hK K
        refine wpAnyH_ready (rs := [5]) (by kernel_rfl) (by simp) ?_
        refine AllReadyH.cons rfl (fun K hK => ?_) AllReadyH.nil
        go_simp
        go_wp2_with (go_at_call 111; refine (cWg.out _ ao cap (HT5.out.grown hq) hI).mono ?_; rintro e w6 ⟨ht6, hq2⟩; obtain rfl := tells_no ht6 HGO.out)
        refine hK.out _ _ ⟨gcell (gcell e0.out hq) hq2, gcell (gcell e1.out hq) hq2, gcell (gcell e2.out hq) hq2, gcell (gcell e3.out hq) hq2, gcell (gcell e4.out hq) hq2⟩ (fun hS3 => ?_)
        clear hK K
        refine wpAnyH_take (i := 6) (v := ?_) rfl (by kernel_rfl) (by kernel_rfl) (by kernel_rfl) (fun _ _ _ h => h) (Or.inl ⟨by kernel_rfl, ?_⟩) hS3 ?_
        rotate_left
        · intro w' _; go_simp; with_reducible rfl
        refine wpAnyH_take (i := 7) (v := undef) rfl (by kernel_rfl) (by kernel_rfl) (by kernel_rfl) (fun _ _ _ h => h) (Or.inr ⟨by kernel_rfl, rfl⟩) hS3 ?_
        refine wpAnyH_take (i := 8) (v := undef) rfl (by kernel_rfl) (by kernel_rfl) (by kernel_rfl) (fun _ _ _ h => h) (Or.inr ⟨by kernel_rfl, rfl⟩) hS3 ?_
        refine wpAnyH_take (i := 9) (v := undef) rfl (by kernel_rfl) (by kernel_rfl) (by kernel_rfl) (fun _ _ _ h => h) (Or.inr ⟨by kernel_rfl, rfl⟩) hS3 ?_
        refine wpAnyH_take (i := 10) (v := undef) rfl (by kernel_rfl) (by kernel_rfl) (by kernel_rfl) (fun _ _ _ h => h) (Or.inr ⟨by kernel_rfl, rfl⟩) hS3 ?_
        refine wpAnyH_take (i := 11) (v := .bool false) rfl (by kernel_rfl) (by kernel_rfl) (by kernel_rfl) (fun _ _ _ h => h) (Or.inl ⟨by kernel_rfl, fun _ _ => by kernel_rfl⟩) hS3 ?_
        refine wpAnyH_take (i := 12) (v := .bool false) rfl (by kernel_rfl) (by kernel_rfl) (by kernel_rfl) (fun _ _ _ h => h) (Or.inl ⟨by kernel_rfl, fun _ _ => by kernel_rfl⟩) hS3 ?_
        refine wpAnyH_done (by kernel_rfl) ?_ _
        simp only [put_mk, List.getElem_toArray, List.getElem_cons_succ, List.getElem_cons_zero, List.setIfInBounds_toArray, List.set_cons_succ, List.set_cons_zero]
        go_wp2
        go_ret
        exact no.out _ (fun h => HGO.out h.2.2.2.2.2.1) (grown_trans (grown_trans G6.out hq) hq2)
    · have cAb := hid (fun W (hW : ObjAt W g o) => aboutWords_no g o r W hW HN.out p2.out hab hr)
      have cWg := hid (fun W => wordsGo_nil r.kind W)
      have HAB := hid hab
      unfold relA at cAb
      clear hab
      refine wp_region_held_drew (S := (fun w' => w'.cell? ⟨w.heap.size, 0, none⟩ = some (.int .i64 r.sect) ∧ w'.cell? ⟨w.heap.size, 1, none⟩ = some (.int .i64 r.off) ∧ w'.cell? ⟨w.heap.size, 2, none⟩ = some (.int .i64 r.kind) ∧ w'.cell? ⟨w.heap.size, 3, none⟩ = some (.int .i64 r.sym) ∧ w'.cell? ⟨w.heap.size, 4, none⟩ = some (.int .i64 r.addend))) (by kernel_rfl) ⟨e0.out, e1.out, e2.out, e3.out, e4.out⟩ ?_
      intro hS
      refine wpAnyH_take (i := 0) (v := ?_) rfl (by kernel_rfl) (by kernel_rfl) (by kernel_rfl) (fun _ _ _ h => h) (Or.inl ⟨by kernel_rfl, ?_⟩) hS ?_
      rotate_left
      · intro w' _; go_simp; with_reducible rfl
      refine wpAnyH_take (i := 1) (v := ?_) rfl (by kernel_rfl) (by kernel_rfl) (by kernel_rfl) (fun _ _ _ h => h) (Or.inl ⟨by kernel_rfl, ?_⟩) hS ?_
      rotate_left
      · intro w' hw'; obtain ⟨x0, x1, x2, x3, x4⟩ := hw'; go_simp; with_reducible rfl
      refine wpAnyH_take (i := 2) (v := ?_) rfl (by kernel_rfl) (by kernel_rfl) (by kernel_rfl) (fun _ _ _ h => h) (Or.inl ⟨by kernel_rfl, ?_⟩) hS ?_
      rotate_left
      · intro w' _; go_simp; with_reducible rfl
      refine wpAnyH_take (i := 3) (v := ?_) rfl (by kernel_rfl) (by kernel_rfl) (by kernel_rfl) (fun _ _ _ h => h) (Or.inl ⟨by kernel_rfl, ?_⟩) hS ?_
      rotate_left
      · intro w' hw'; obtain ⟨x0, x1, x2, x3, x4⟩ := hw'; go_simp; with_reducible rfl
      refine wpAnyH_ready (rs := [4]) (by kernel_rfl) (by simp) ?_
      refine AllReadyH.cons rfl (fun K hK => ?_) AllReadyH.nil
      go_simp
      go_wp2_with (go_at_call 112; refine (cAb.out _ HO5.out).mono ?_; rintro e w5 ⟨rfl, hq⟩)
      refine hK.out _ _ ⟨gcell e0.out hq, gcell e1.out hq, gcell e2.out hq, gcell e3.out hq, gcell e4.out hq⟩ (fun hS2 => ?_)
      clear hK K
      refine wpAnyH_ready (rs := [5]) (by kernel_rfl) (by simp) ?_
      refine AllReadyH.cons rfl (fun K hK => ?_) AllReadyH.nil
      go_simp
      go_wp2_with (go_at_call 111; refine (cWg.out _).mono ?_; rintro e w6 ⟨rfl, hw6⟩)
      subst hw6
      refine hK.out _ _ ⟨gcell e0.out hq, gcell e1.out hq, gcell e2.out hq, gcell e3.out hq, gcell e4.out hq⟩ (fun hS3 => ?_)
      clear hK K
      refine wpAnyH_take (i := 6) (v := ?_) rfl (by kernel_rfl) (by kernel_rfl) (by kernel_rfl) (fun _ _ _ h => h) (Or.inl ⟨by kernel_rfl, ?_⟩) hS3 ?_
      rotate_left
      · intro w' _; go_simp; with_reducible rfl
      refine wpAnyH_take (i := 7) (v := undef) rfl (by kernel_rfl) (by kernel_rfl) (by kernel_rfl) (fun _ _ _ h => h) (Or.inr ⟨by kernel_rfl, rfl⟩) hS3 ?_
      refine wpAnyH_take (i := 8) (v := undef) rfl (by kernel_rfl) (by kernel_rfl) (by kernel_rfl) (fun _ _ _ h => h) (Or.inr ⟨by kernel_rfl, rfl⟩) hS3 ?_
      refine wpAnyH_take (i := 9) (v := undef) rfl (by kernel_rfl) (by kernel_rfl) (by kernel_rfl) (fun _ _ _ h => h) (Or.inr ⟨by kernel_rfl, rfl⟩) hS3 ?_
      refine wpAnyH_take (i := 10) (v := undef) rfl (by kernel_rfl) (by kernel_rfl) (by kernel_rfl) (fun _ _ _ h => h) (Or.inr ⟨by kernel_rfl, rfl⟩) hS3 ?_
      refine wpAnyH_take (i := 11) (v := .bool false) rfl (by kernel_rfl) (by kernel_rfl) (by kernel_rfl) (fun _ _ _ h => h) (Or.inl ⟨by kernel_rfl, fun _ _ => by kernel_rfl⟩) hS3 ?_
      refine wpAnyH_take (i := 12) (v := .bool false) rfl (by kernel_rfl) (by kernel_rfl) (by kernel_rfl) (fun _ _ _ h => h) (Or.inl ⟨by kernel_rfl, fun _ _ => by kernel_rfl⟩) hS3 ?_
      refine wpAnyH_done (by kernel_rfl) ?_ _
      simp only [put_mk, List.getElem_toArray, List.getElem_cons_succ, List.getElem_cons_zero, List.setIfInBounds_toArray, List.set_cons_succ, List.set_cons_zero]
      go_wp2
      go_ret
      exact no.out _ (fun h => HAB.out h.2.2.2.2.1) (grown_trans G6.out hq)

end Go.Proofs.YtmhbgnlfdiahpaaGreatDoor

namespace Go.Proofs.YtmhbgnlfdiahpaaGreatDoor
open Go.RowKit

/-- a list of relocations at ao -/
def RelsIn (w : World) (ao : Option Addr) (ys : List Lk.Rel) : Prop :=
  0 < ys.length → ∃ g, ao = some ⟨g, 0, none⟩ ∧ g < w.heap.size ∧ ∀ i (h : i < ys.length), w.cell? ⟨g, i * 5, none⟩ = some (.int .i64 ys[i].sect) ∧ w.cell? ⟨g, i * 5 + 1, none⟩ = some (.int .i64 ys[i].off) ∧
    w.cell? ⟨g, i * 5 + 2, none⟩ = some (.int .i64 ys[i].kind) ∧ w.cell? ⟨g, i * 5 + 3, none⟩ = some (.int .i64 ys[i].sym) ∧ w.cell? ⟨g, i * 5 + 4, none⟩ = some (.int .i64 ys[i].addend)

theorem RelsIn.of_own {w : World} {base : Nat} {ao : Option Addr} {n cap : Nat} {ys : List Lk.Rel} (h : w.ownsRow base 75 5 (.slice ao n cap) n (ys.flatMap relV)) : RelsIn w ao ys := by
  intro h0
  have hl : (ys.flatMap relV).length = ys.length * 5 := by
    clear h h0
    induction ys with
    | nil => rfl
    | cons y t ih => rw [List.flatMap_cons, List.length_append, ih]; simp [relV]; omega
  have hn : ys.length = n := by have := h.1; omega
  have hlt := h.lt
  rcases h.2 with ⟨h1, h2⟩ | ⟨g, cap', cur, hv, _⟩
  · simp at h1; omega
  · simp only [Value.slice.injEq] at hv
    obtain ⟨rfl, _, rfl⟩ := hv
    refine ⟨g, rfl, (hlt g rfl).2, fun i hi => ?_⟩
    have q := fun j (hj : j < 5) => (h.cellAt (i * 5 + j) (by omega)).trans (flat_get relV 5 (fun _ => rfl) ys i j hi hj)
    exact ⟨q 0 (by omega), q 1 (by omega), q 2 (by omega), q 3 (by omega), q 4 (by omega)⟩

theorem RelsIn.grown {w w' : World} {ao : Option Addr} {ys : List Lk.Rel} (h : RelsIn w ao ys) (hg : w.grownBy w' none) : RelsIn w' ao ys := by
  intro h0
  obtain ⟨g, h1, h2, h3⟩ := h h0
  refine ⟨g, h1, Nat.lt_of_lt_of_le h2 hg.size, fun i hi => ?_⟩
  obtain ⟨a, b, c, d, e⟩ := h3 i hi
  exact ⟨gcell a hg, gcell b hg, gcell c hg, gcell d hg, gcell e hg⟩

def RelsOk (o : Lk.Obj) : Prop := ∀ i (h : i < o.rels.length), RelOk o o.rels[i] ∧ (∀ _ : 0 < i, FollowsP (o.rels[i - 1]'(by omega)) o.rels[i])

set_option maxHeartbeats 4000000 in
theorem validRelocs_any (g : Nat) (o : Lk.Obj) (w : World) (ht : Tabs w) (h : ObjAt w g o) (hn : Small o) (hb4 : Borders o.align) (hw : AllWords o) (hr : ∀ r ∈ o.rels, r.off ≤ 9223372036854775807) :
    Calls Tryz.prog 51 #[.pointer (some ⟨g, 0, none⟩)] w fun e w' => Tells e (RelsOk o) ∧ w.grownBy w' none := by
  obtain ⟨at_, ct, af, cf, ad, cd, aa, ca, as_, cs, ar, cr, hb, h1, h2, h3, h4, h5, h6⟩ := h.open
  have k6 := hb.cell 6
  have S := hid (RelsIn.of_own h6)
  have hns := hn.2.2.2.2.2
  have HB := hid hb
  have HO := hid h
  have HN := hid hn
  have HT := hid ht
  have HB4 := hid hb4
  have HW := hid hw
  have HR := hid hr
  clear h hn hb h1 h2 h3 h4 h5 h6 ht hb4 hw hr
  go_enter Tryz.func51, Tryz.ntmps51
  go_wp2
  go_loopw [10] (fun i wr => ∃ k : Nat, k ≤ o.rels.length ∧ i = .int .i64 k ∧ (∀ i (h : i < o.rels.length), i < k → RelOk o o.rels[i] ∧ (∀ _ : 0 < i, FollowsP (o.rels[i - 1]'(by omega)) o.rels[i])) ∧ w.grownBy wr none) (fun i _ => o.rels.length - (intOf i).toNat)
  case atStart => exact ⟨0, Nat.zero_le _, rfl, fun j _ hj => absurd hj (Nat.not_lt_zero j), World.grownBy.refl _ _⟩
  case round =>
    obtain ⟨k, hk, rfl, hall, hgr⟩ := hrel
    have HA := hid hall
    have HG := hid hgr
    clear hall hgr
    by_cases hlt : k < o.rels.length
    · obtain ⟨sg, hao, hgs, hc⟩ := S.out.grown HG.out (by omega)
      subst hao
      obtain ⟨q0, q1, q2, q3, q4⟩ := hc k hlt
      have HC := hid hc
      clear hc
      have cV := hid (fun W (hT : Tabs W) (hW : ObjAt W g o) => validReloc_any g o o.rels[k] W hT hW HN.out HB4.out HW.out (HR.out _ (List.getElem_mem hlt)))
      unfold relA at cV
      have B1 := hid (BlkAt.new wr #[.int .i64 o.rels[k].sect, .int .i64 o.rels[k].off, .int .i64 o.rels[k].kind, .int .i64 o.rels[k].sym, .int .i64 o.rels[k].addend] 75)
      have GA := hid (World.grownBy_alloc wr (.cells #[.int .i64 o.rels[k].sect, .int .i64 o.rels[k].off, .int .i64 o.rels[k].kind, .int .i64 o.rels[k].sym, .int .i64 o.rels[k].addend] 75) none)
      go_wp2_with fail
      refine (cV.out _ (HT.out.grown (grown_trans HG.out GA.out)) (HO.out.kept (grown_trans HG.out GA.out))).mono ?_
      rintro e W2 ⟨t, q⟩
      have G2 := hid (grown_trans (grown_trans HG.out GA.out) q)
      have B2 := hid (B1.out.grown q (by simp))
      have GQ := hid (grown_trans GA.out q)
      rcases t.split with ⟨rfl, p1⟩ | ⟨rfl, p1⟩ <;> clear t q
      · go_wp2
        go_ret
        exact ⟨Tells.no (fun h => p1.out (h k hlt).1), G2.out⟩
      by_cases hk0 : k = 0
      · subst hk0
        have d0 : decide ((0 : Int) < 0) = false := by simp
        go_wp2
        go_quiet (fail)
        go_wp2
        go_roundw
        case rel => exact ⟨1, by omega, rfl, fun j hj hjk => by
          have : j = 0 := by omega
          subst this
          exact ⟨p1.out, fun h => by omega⟩, grown_drewN G2.out _⟩
        case measure => simp [intOf]; omega
      · have hk1 : 1 ≤ k := by omega
        have hpl : k - 1 < o.rels.length := by omega
        have hprev := (HA.out (k - 1) hpl (by omega)).1
        have hoff : 0 ≤ (o.rels[k - 1]'hpl).off ∧ (o.rels[k - 1]'hpl).off ≤ 1048576 := by
          obtain ⟨x1, x2, x3⟩ := hprev.2.2.2.2.1
          have y1 := wordsOf_small HN.out (o.rels[k - 1]'hpl).sect
          have y2 := span_range hprev.2.1
          omega
        have cF := hid (fun W => follows_any (o.rels[k - 1]'hpl) o.rels[k] W hprev.2.1 hoff.1 hoff.2)
        have hcc := HC.out (k - 1) hpl
        generalize hpr : o.rels[k - 1]'hpl = pr at *
        have HPR := hid hpr
        clear hpr
        obtain ⟨r0, r1, r2, r3, r4⟩ := hcc
        unfold relA at cF
        have m6 := (HB.out.grown G2.out (by simp)).cell 6
        have n0 := gcell r0 GQ.out
        have n1 := gcell r1 GQ.out
        have n2 := gcell r2 GQ.out
        have n3 := gcell r3 GQ.out
        have n4 := gcell r4 GQ.out
        have c0 := B2.out.cell 0
        have c1 := B2.out.cell 1
        have c2 := B2.out.cell 2
        have c3 := B2.out.cell 3
        have c4 := B2.out.cell 4
        have M6 : Hid (W2.drew.cell? ⟨g, 6, none⟩ = some (.slice (some ⟨sg, 0, none⟩) o.rels.length cr)) := m6
        have N0 : Hid (W2.drew.cell? ⟨sg, (k - 1) * 5, none⟩ = some (.int .i64 pr.sect)) := n0
        have N1 : Hid (W2.drew.cell? ⟨sg, (k - 1) * 5 + 1, none⟩ = some (.int .i64 pr.off)) := n1
        have N2 : Hid (W2.drew.cell? ⟨sg, (k - 1) * 5 + 2, none⟩ = some (.int .i64 pr.kind)) := n2
        have N3 : Hid (W2.drew.cell? ⟨sg, (k - 1) * 5 + 3, none⟩ = some (.int .i64 pr.sym)) := n3
        have N4 : Hid (W2.drew.cell? ⟨sg, (k - 1) * 5 + 4, none⟩ = some (.int .i64 pr.addend)) := n4
        have C0 : Hid (W2.drew.cell? ⟨wr.heap.size, 0, none⟩ = some (.int .i64 o.rels[k].sect)) := c0
        have C1 : Hid (W2.drew.cell? ⟨wr.heap.size, 1, none⟩ = some (.int .i64 o.rels[k].off)) := c1
        have C2 : Hid (W2.drew.cell? ⟨wr.heap.size, 2, none⟩ = some (.int .i64 o.rels[k].kind)) := c2
        have C3 : Hid (W2.drew.cell? ⟨wr.heap.size, 3, none⟩ = some (.int .i64 o.rels[k].sym)) := c3
        have C4 : Hid (W2.drew.cell? ⟨wr.heap.size, 4, none⟩ = some (.int .i64 o.rels[k].addend)) := c4
        have hk2 : 0 < k := by omega
        have d00 : decide (0 < k) = true := by simpa using hk2
        have d0 : decide ((0 : Int) < (k : Int)) = true := by simp; omega
        have g1 : (1 : Int) ≤ (k : Int) := by omega
        have g2 : (k : Int) - 1 < (o.rels.length : Int) := by omega
        have g3 : (0 : Int) ≤ (k : Int) - 1 := by omega
        have hwk : IntKind.i64.wrap ((k : Int) - 1) = (k : Int) - 1 := IntWalk.i64_in _ ⟨by omega, by omega⟩
        have HP := hid hprev
        clear hprev hoff q0 q1 q2 q3 q4 r0 r1 r2 r3 r4 hk0
        go_wp2
        go_region_held3 (fun w' => w'.cell? ⟨g, 6, none⟩ = some (.slice (some ⟨sg, 0, none⟩) o.rels.length cr) ∧ w'.cell? ⟨wr.heap.size, 0, none⟩ = some (.int .i64 o.rels[k].sect) ∧ w'.cell? ⟨wr.heap.size, 1, none⟩ = some (.int .i64 o.rels[k].off) ∧ w'.cell? ⟨wr.heap.size, 2, none⟩ = some (.int .i64 o.rels[k].kind) ∧ w'.cell? ⟨wr.heap.size, 3, none⟩ = some (.int .i64 o.rels[k].sym) ∧ w'.cell? ⟨wr.heap.size, 4, none⟩ = some (.int .i64 o.rels[k].addend) ∧ w'.cell? ⟨sg, (k - 1) * 5, none⟩ = some (.int .i64 pr.sect) ∧ w'.cell? ⟨sg, (k - 1) * 5 + 1, none⟩ = some (.int .i64 pr.off) ∧ w'.cell? ⟨sg, (k - 1) * 5 + 2, none⟩ = some (.int .i64 pr.kind) ∧ w'.cell? ⟨sg, (k - 1) * 5 + 3, none⟩ = some (.int .i64 pr.sym) ∧ w'.cell? ⟨sg, (k - 1) * 5 + 4, none⟩ = some (.int .i64 pr.addend))
          (go_keep)
          (first | (go_at_call 71; refine (cF.out _).mono ?_; rintro e w5 ⟨⟨b, rfl, hb⟩, hq⟩; have s6 := gcell M6.out hq; have s0 := gcell C0.out hq; have s1 := gcell C1.out hq; have s2 := gcell C2.out hq; have s3 := gcell C3.out hq; have s4 := gcell C4.out hq; have t0 := gcell N0.out hq; have t1 := gcell N1.out hq; have t2 := gcell N2.out hq; have t3 := gcell N3.out hq; have t4 := gcell N4.out hq))
        have HBB := hid hb
        have GF := hid (grown_trans (grown_drew G2.out) hq)
        clear hb hq s6 s0 s1 s2 s3 s4 t0 t1 t2 t3 t4 c0 c1 c2 c3 c4 n0 n1 n2 n3 n4 m6
        cases b
        · have NF := hid (show ¬ FollowsP pr o.rels[k] from fun h => by have := HBB.out.2 h; simp at this)
          clear HBB
          go_wp2
          go_ret
          exact ⟨Tells.no (fun h => NF.out (HPR.out ▸ (h k hlt).2 hk2)), GF.out⟩
        · have YF := hid (show FollowsP pr o.rels[k] from HBB.out.1 rfl)
          clear HBB
          go_wp2
          go_roundw
          case rel => exact ⟨k + 1, by omega, by go_num, fun j hj hjk => (Nat.lt_succ_iff_lt_or_eq.1 hjk).elim (fun h => HA.out j hj h) (fun h => by subst h; exact ⟨p1.out, fun _ => by rw [HPR.out]; exact YF.out⟩), GF.out⟩
          case measure => simp [intOf]; omega
    · go_wp2
      go_ret
      exact ⟨Tells.yes fun i hi => HA.out i hi (by omega), HG.out⟩

end Go.Proofs.YtmhbgnlfdiahpaaGreatDoor

namespace Go.Proofs.YtmhbgnlfdiahpaaGreatDoor
open Go.RowKit

/-- those of the sections 1 to c -/
def relsDone (rs : List Lk.Rel) : Nat → List Lk.Rel
  | 0 => []
  | c + 1 => relsDone rs c ++ rs.filter (fun r => r.sect = ((c + 1 : Nat) : Int))
def relsUpTo (rs : List Lk.Rel) (c k : Nat) : List Lk.Rel := relsDone rs c ++ (rs.take k).filter (fun r => r.sect = ((c + 1 : Nat) : Int))
theorem relsUpTo_end (rs : List Lk.Rel) (c : Nat) : relsUpTo rs c rs.length = relsDone rs (c + 1) := by unfold relsUpTo; rw [List.take_length]; rfl
theorem relsUpTo_zero (rs : List Lk.Rel) (c : Nat) : relsUpTo rs c 0 = relsDone rs c := by simp [relsUpTo]
theorem relsUpTo_yes (rs : List Lk.Rel) (c k : Nat) (h : k < rs.length) (he : rs[k].sect = ((c + 1 : Nat) : Int)) : relsUpTo rs c (k + 1) = relsUpTo rs c k ++ [rs[k]] := by
  unfold relsUpTo
  rw [List.take_succ_eq_append_getElem h, List.filter_append, List.append_assoc]
  congr 1
  rw [List.filter_cons_of_pos (by simpa using he)]
  rfl
theorem relsUpTo_no (rs : List Lk.Rel) (c k : Nat) (h : k < rs.length) (he : ¬ rs[k].sect = ((c + 1 : Nat) : Int)) : relsUpTo rs c (k + 1) = relsUpTo rs c k := by
  unfold relsUpTo
  rw [List.take_succ_eq_append_getElem h, List.filter_append]
  congr 1
  rw [List.filter_cons_of_neg (by simpa using he)]
  simp
theorem relsDone_three (rs : List Lk.Rel) : relsDone rs 3 = As.orderRels rs := by
  simp only [relsDone, As.orderRels, List.nil_append]
  rfl
theorem order_le (rs : List Lk.Rel) : (As.orderRels rs).length ≤ rs.length := by
  unfold As.orderRels
  induction rs with
  | nil => simp
  | cons r rs ih =>
    simp only [List.length_append, List.length_cons] at ih ⊢
    rcases (show r.sect = 1 ∨ r.sect = 2 ∨ r.sect = 3 ∨ ¬ (r.sect = 1 ∨ r.sect = 2 ∨ r.sect = 3) by omega) with h | h | h | h
    · rw [List.filter_cons_of_pos (by simp [h]), List.filter_cons_of_neg (by simp [h]), List.filter_cons_of_neg (by simp [h])]; simp only [List.length_cons]; omega
    · rw [List.filter_cons_of_neg (by simp [h]), List.filter_cons_of_pos (by simp [h]), List.filter_cons_of_neg (by simp [h])]; simp only [List.length_cons]; omega
    · rw [List.filter_cons_of_neg (by simp [h]), List.filter_cons_of_neg (by simp [h]), List.filter_cons_of_pos (by simp [h])]; simp only [List.length_cons]; omega
    · rw [List.filter_cons_of_neg (by simp; omega), List.filter_cons_of_neg (by simp; omega), List.filter_cons_of_neg (by simp; omega)]; omega
theorem done_le (rs : List Lk.Rel) (c : Nat) : (relsDone rs c).length ≤ c * rs.length := by
  induction c with
  | zero => simp [relsDone]
  | succ c ih =>
    have h := List.length_filter_le (fun r : Lk.Rel => decide (r.sect = ((c + 1 : Nat) : Int))) rs
    simp only [relsDone, List.length_append]
    rw [Nat.succ_mul]
    omega
theorem upTo_le (rs : List Lk.Rel) (c k : Nat) (hc : c ≤ 2) (hr : rs.length ≤ 32) : (relsUpTo rs c k).length ≤ 96 := by
  have h1 := done_le rs c
  have h2 := List.length_filter_le (fun r : Lk.Rel => decide (r.sect = ((c + 1 : Nat) : Int))) (rs.take k)
  have h3 : (rs.take k).length ≤ 32 := by rw [List.length_take]; omega
  have h4 : c * rs.length ≤ 2 * 32 := Nat.mul_le_mul hc hr
  unfold relsUpTo
  rw [List.length_append]
  omega

def withRels (st : As.St) (rs : List Lk.Rel) : As.St := { st with obj := { st.obj with rels := rs } }

set_option maxRecDepth 100000 in
set_option maxHeartbeats 8000000 in
theorem orderRelocs_any (B : Nat) (s : ByteArray) (b g : Nat) (st : As.St) (W : World) (h : AsmAt B s b g st W) :
    Calls Tryz.prog 20 #[.pointer (some ⟨b, 0, none⟩)] W fun en W' => en = .returned (.tuple #[]) ∧ Does B s b g W (withRels st (As.orderRels st.obj.rels)) W' := by
  obtain ⟨i2, hi2, hx0, hx1, hx2⟩ := info_parts Tryz.infoRel
  have HW := hid h
  have c14 := cell_obj h
  obtain ⟨vt, vf, vd, va, vs, vr, ho⟩ := h.own
  obtain ⟨ar, cr, rfl⟩ := own_form ho.rels
  have HO := hid ho
  have RI := hid (RelsIn.of_own ho.rels)
  have hcap := own_cap ho.rels
  have g6 := ho.blk.cell 6
  have fg := ho.blk.free 6
  simp only [List.getElem?_toArray, List.getElem?_cons_succ, List.getElem?_cons_zero] at g6
  have hn32 := h.ok.rels
  clear ho h
  generalize hrs : st.obj.rels = rs at *
  have HRS := hid hrs
  clear hrs
  go_enter Tryz.func20, Tryz.ntmps20
  go_wp2
  go_loopw [2, 3] (fun v i wr => ∃ c : Nat, c ≤ 3 ∧ i = .int .i64 (c + 1 : Nat) ∧ wr.ownsRow W.heap.size 75 5 v (relsDone rs c).length ((relsDone rs c).flatMap relV) ∧ W.grownBy wr none) (fun _ i _ => 4 - (intOf i).toNat)
  case atStart => exact ⟨0, by omega, rfl, World.ownsRow_nil _ _ _ _, World.grownBy.refl _ _⟩
  case round =>
    obtain ⟨c, hc3, rfl, hown, hgr⟩ := hrel
    obtain ⟨av, cv, rfl⟩ := own_form hown
    have HOW := hid hown
    have HG := hid hgr
    have q14 := gcell c14 hgr
    have q6 := gcell g6 hgr
    clear hown hgr
    by_cases hlt : c ≤ 2
    · have g1 : (c : Int) + 1 ≤ 3 := by omega
      go_wp2
      go_loopw [2, 18] (fun v i w2 => ∃ k : Nat, k ≤ rs.length ∧ i = .int .i64 k ∧ w2.ownsRow W.heap.size 75 5 v (relsUpTo rs c k).length ((relsUpTo rs c k).flatMap relV) ∧ W.grownBy w2 none) (fun _ i _ => rs.length - (intOf i).toNat)
      case atStart => exact ⟨0, Nat.zero_le _, rfl, by rw [relsUpTo_zero]; exact HOW.out, HG.out⟩
      case round =>
        obtain ⟨k, hk, rfl, hown, hgr⟩ := hrel
        obtain ⟨av2, cv2, rfl⟩ := own_form hown
        have HG2 := hid hgr
        have hsz := hgr.size
        have hle := upTo_le rs c k hlt hn32
        by_cases hkl : k < rs.length
        · obtain ⟨sg, hsg, hgs, hcs⟩ := RI.out.grown hgr (by omega)
          obtain ⟨k0, k1, k2, k3, k4⟩ := hcs k hkl
          clear hcs hgr
          subst hsg
          have hk' : (k : Int) < (rs.length : Int) := by omega
          have hk2' : (k : Int) ≤ (cr : Int) := by omega
          by_cases e1 : rs[k].sect = ((c + 1 : Nat) : Int)
          · have d : (rs[k].sect == (c : Int) + 1) = true := by simp; omega
            have E := hid (relsUpTo_yes rs c k hkl e1)
            clear e1
            have AG : Hid (W.grownBy ((wr.alloc (.cells #[.int .i64 rs[k].sect, .int .i64 rs[k].off, .int .i64 rs[k].kind, .int .i64 rs[k].sym, .int .i64 rs[k].addend] 75)).alloc (.cells #[.int .i64 rs[k].sect, .int .i64 rs[k].off, .int .i64 rs[k].kind, .int .i64 rs[k].sym, .int .i64 rs[k].addend] 75)) none) := grown_trans (grown_trans HG2.out (World.grownBy_alloc _ _ _)) (World.grownBy_alloc _ _ _)
            go_wp2_with (at_builtin; refine wpList_append_own _ rfl _ _ 54 rfl W.heap.size 75 i2 (.agg #[.int .i64 0, .int .i64 0, .int .i64 0, .int .i64 0, .int .i64 0]) 5 40 Tryz.underlying54 hi2 hx0 hx1 hx2 rfl (by decide) _ _ _ rfl ((hown.alloc _).alloc _) ⟨wr.heap.size + 1, 0, none⟩ 1 1 (relV rs[k]) rfl rfl (news2 _ _ _ _) (by intro u hu; simp [relV] at hu; rcases hu with rfl | rfl | rfl | rfl | rfl <;> rfl) (by unfold maxLen; omega) (by omega) (by simp; omega) ?_; intro v' w3 hown' hgrow _; obtain ⟨av', cv', rfl⟩ := own_form hown'; have K := hid (grown_ownN AG.out hgrow (fun b hb => (hown.lt b hb).1)); have HO3 := hid hown'; clear hgrow hown')
            go_wp2
            go_roundw
            case rel =>
              refine ⟨_, _, _, _, _, _, _, _, _, _, _, _, _, _, _, ⟨k + 1, by omega, ?_, ?_, K.out⟩, rfl⟩
              · go_num
              · rw [E.out, List.length_append, List.flatMap_append]; simpa using HO3.out
            case measure => simp [intOf]; omega
          · have d : (rs[k].sect == (c : Int) + 1) = false := by simp; omega
            have E := hid (relsUpTo_no rs c k hkl e1)
            have HO2 := hid hown
            clear e1 hown
            go_wp2
            go_roundw
            case rel => exact ⟨k + 1, by omega, by go_num, by rw [E.out]; exact HO2.out.alloc _, grown_trans HG2.out (World.grownBy_alloc _ _ _)⟩
            case measure => simp [intOf]; omega
        · obtain rfl : k = rs.length := by omega
          have HO2 := hid hown
          clear hown hgr
          go_wp2
          go_roundw
          case rel => exact ⟨c + 1, by omega, by go_num, by rw [← relsUpTo_end]; exact HO2.out, HG2.out⟩
          case measure => simp [intOf]; omega
    · obtain rfl : c = 3 := by omega
      have qf : wr.frozen? ⟨g, 6, none⟩ = false := (HO.out.blk.grown HG.out (by simp)).free 6
      go_wp2
      go_end0
      rw [← relsDone_three]
      have gs := grown_set wr g 6 (.slice av (relsDone rs 3).length cv)
      have hlt0 := HO.out.blk.lt
      have hav : ∀ k, Value.ownBlock (.slice av (relsDone rs 3).length cv) = some k → W.heap.size ≤ k := fun k hk => (HOW.out.lt k hk).1
      have nr : NewRow B W (wr.setCell ⟨g, 6, none⟩ (.slice av (relsDone rs 3).length cv)) b g (.slice ar rs.length cr) (.slice av (relsDone rs 3).length cv) :=
        ⟨fun k hk _ hkg => (gs.block k (by have := HG.out.size; omega) (by simpa using hkg)).trans (HG.out.block k hk (by simp)), fun k hk => .inr (hav k hk), gs.os.trans HG.out.os, gs.tape.trans HG.out.tape, gs.output.trans HG.out.output, Nat.le_trans HG.out.size gs.size⟩
      have nb := (HO.out.blk.grown HG.out (by simp)).set 6 (.slice av (relsDone rs 3).length cv)
      have hle : (relsDone rs 3).length ≤ 32 := by rw [relsDone_three]; have := order_le rs; omega
      refine ⟨rfl, HW.out.newRels HO.out nr (relsDone rs 3) hle (by simpa using nb) ?_⟩
      refine own_base (own_keep_set HOW.out fun k hk e => ?_) HW.out.size
      have := hav k hk
      omega

end Go.Proofs.YtmhbgnlfdiahpaaGreatDoor
