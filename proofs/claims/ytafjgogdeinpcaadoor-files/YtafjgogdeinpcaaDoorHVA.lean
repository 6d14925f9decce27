/- Walks over package object's checks: validReloc. -/
import Derived.Test.YtafjgogdeinpcaaDoorGD
namespace Go.Proofs.YtafjgogdeinpcaaDoor
open Go.RowKit

def BordOk (o : Lk.Obj) (r : Lk.Rel) : Prop := r.kind = 6 → r.addend + 4 ≤ borderI (o.align.getD (r.sect.toNat - 1) 0)
def RelOk (o : Lk.Obj) (r : Lk.Rel) : Prop := KindOk r ∧ AddendOk r ∧ SymIx o r ∧ BordOk o r ∧ AboutOk o r ∧ GoesP r.kind (about o r) ∧ ¬ WithinP o r

theorem about_facts {o : Lk.Obj} {r : Lk.Rel} (ha : AddendOk r) (hab : AboutOk o r) (hw : Words (wordsOf o r.sect)) : (about o r).length = (spanI r).toNat ∧ Words (about o r) ∧ (about o r).length ≤ 3 ∧ 1 ≤ (about o r).length := by
  have hs := span_range ha
  obtain ⟨b1, b2, b3⟩ := hab
  have hl : (about o r).length = (spanI r).toNat := by unfold about; simp; omega
  refine ⟨hl, ?_, by omega, by omega⟩
  intro i hi
  have hi' : (r.off / 4).toNat + i < (wordsOf o r.sect).length := by omega
  have e : (about o r)[i] = (wordsOf o r.sect)[(r.off / 4).toNat + i] := by
    simp only [about, List.getElem_take, List.getElem_drop]
  rw [e]
  exact hw _ hi'

theorem wordsOf_words {o : Lk.Obj} (h : AllWords o) (sect : Int) : Words (wordsOf o sect) := by
  unfold wordsOf
  split
  · exact h.1
  split
  · exact h.2.1
  split
  · exact h.2.2
  · intro i hi; simp at hi

theorem tells_yes {e : Ending} {P : Prop} (h : Tells e P) (hp : P) : e = .returned (.bool true) := by
  rcases h.split with ⟨_, q⟩ | ⟨h1, _⟩
  · exact absurd hp q.out
  · exact h1
theorem tells_no {e : Ending} {P : Prop} (h : Tells e P) (hp : ¬ P) : e = .returned (.bool false) := by
  rcases h.split with ⟨h1, _⟩ | ⟨_, q⟩
  · exact h1
  · exact absurd q.out hp

set_option maxHeartbeats 4000000 in
theorem validReloc_any (g : Nat) (o : Lk.Obj) (r : Lk.Rel) (w : World) (ht : Tabs w) (h : ObjAt w g o) (hn : Small o) (hb4 : Borders o.align) (hw : AllWords o) (hr : r.off ≤ 9223372036854775807) :
    Calls Tryd.prog 58 #[.pointer (some ⟨g, 0, none⟩), relA r] w fun e w' => Tells e (RelOk o r) ∧ w.grownBy w' none := by
  have no : Hid (∀ W, (¬ RelOk o r) → w.grownBy W none → Tells (.returned (.bool false)) (RelOk o r) ∧ w.grownBy W none) := fun W a b => ⟨Tells.no a, b⟩
  have HO := hid h
  have HT := hid ht
  have HN := hid hn
  have HB4 := hid hb4
  have HW := hid hw
  clear h ht hn hb4 hw
  have B := BlkAt.new w #[.int .i64 r.sect, .int .i64 r.off, .int .i64 r.kind, .int .i64 r.sym, .int .i64 r.addend] 48
  have GB := World.grownBy_alloc w (.cells #[.int .i64 r.sect, .int .i64 r.off, .int .i64 r.kind, .int .i64 r.sym, .int .i64 r.addend] 48) none
  have HBk := hid B
  have HGB := hid GB
  clear B GB
  have cK := hid (fun W => validKind_any r W)
  have cA := hid (fun W => validAddend_any r W)
  have cS := hid (fun W (hW : ObjAt W g o) => validSym_any g o r W hW HN.out)
  have fold : relA r = .agg #[.int .i64 r.sect, .int .i64 r.off, .int .i64 r.kind, .int .i64 r.sym, .int .i64 r.addend] := rfl
  rw [fold]
  rw [fold] at cK cA cS
  clear fold
  go_enter Tryd.func58, Tryd.ntmps58
  go_wp2_with fail
  refine Calls.at_world (fun W => BlkAt W w.heap.size #[.int .i64 r.sect, .int .i64 r.off, .int .i64 r.kind, .int .i64 r.sym, .int .i64 r.addend] 48 ∧ w.grownBy W none) ⟨HBk.out, HGB.out⟩ ?_
  rintro W1 ⟨bk1, g1⟩
  refine (cK.out W1).mono ?_
  rintro e W2 ⟨t, q⟩
  have BK2 := bk1.grown q (by simp)
  have G2 := hid (grown_trans g1 q)
  rcases t.split with ⟨rfl, p1⟩ | ⟨rfl, p1⟩ <;> clear t q bk1 g1
  · clear BK2
    go_wp2
    go_ret
    exact no.out _ (fun h => p1.out h.1) G2.out
  have c0 := BK2.cell 0
  have c1 := BK2.cell 1
  have c2 := BK2.cell 2
  have c3 := BK2.cell 3
  have c4 := BK2.cell 4
  have HB2 := hid BK2
  clear BK2
  go_wp2_with fail
  refine (cA.out W2).mono ?_
  rintro e W3 ⟨t, q⟩
  have BK3 := HB2.out.grown q (by simp)
  have G3 := hid (grown_trans G2.out q)
  clear c0 c1 c2 c3 c4
  rcases t.split with ⟨rfl, p2⟩ | ⟨rfl, p2⟩ <;> clear t q
  · clear BK3
    go_wp2
    go_ret
    exact no.out _ (fun h => p2.out h.2.1) G3.out
  have c0 := BK3.cell 0
  have c1 := BK3.cell 1
  have c2 := BK3.cell 2
  have c3 := BK3.cell 3
  have c4 := BK3.cell 4
  have HB3 := hid BK3
  clear BK3
  go_wp2_with fail
  refine (cS.out W3 (HO.out.kept G3.out)).mono ?_
  rintro e W4 ⟨t, q⟩
  have BK4 := HB3.out.grown q (by simp)
  have G4 := hid (grown_trans G3.out q)
  clear c0 c1 c2 c3 c4
  rcases t.split with ⟨rfl, p3⟩ | ⟨rfl, p3⟩ <;> clear t q
  · clear BK4
    go_wp2
    go_ret
    exact no.out _ (fun h => p3.out h.2.2.1) G4.out
  have c0 := BK4.cell 0
  have c1 := BK4.cell 1
  have c2 := BK4.cell 2
  have c3 := BK4.cell 3
  have c4 := BK4.cell 4
  have HB4' := hid BK4
  clear BK4
  have kinds := p1.out
  unfold KindOk at kinds
  by_cases hk6 : r.kind = 6
  · have hs : 1 ≤ r.sect ∧ r.sect ≤ 2 := by omega
    have ha := p2.out.six hk6
    obtain ⟨sn, hsn⟩ : ∃ sn : Nat, r.sect = (sn : Int) := ⟨r.sect.toNat, by omega⟩
    have hal := HB4.out.1
    have cB := hid (fun W (hW : ObjAt W g o) => show Calls Tryd.prog 69 #[.pointer (some ⟨g, 0, none⟩), .int .i64 r.sect] W fun e w' => e = .returned (.int .i64 (borderI (o.align.getD (r.sect.toNat - 1) 0))) ∧ w' = W from by
      have := borderOf_any g o sn W hW HB4.out (by omega) (by omega)
      rw [hsn, Int.toNat_natCast, List.getD_eq_getElem?_getD, List.getElem?_eq_getElem (by omega)]
      exact this)
    have BB := hid (show BordOk o r ↔ r.addend + 4 ≤ borderI (o.align.getD (r.sect.toNat - 1) 0) from ⟨fun h => h hk6, fun h _ => h⟩)
    generalize borderI (o.align.getD (r.sect.toNat - 1) 0) = bd at *
    have d6 : (r.kind == 6) = true := beq_iff_eq.2 hk6
    have hw4 : IntKind.i64.wrap (r.addend + 4) = r.addend + 4 := IntWalk.i64_in _ ⟨by omega, by omega⟩
    have K6 := hid hk6
    clear hk6 kinds hsn hal
    by_cases hbd : bd < r.addend + 4
    · have db : decide (bd < r.addend + 4) = true := by simpa using hbd
      go_wp2
      go_quiet ((go_at_call 69; exact Calls.quiet_of_same (cB.out _ ((HO.out.kept G4.out).drewN _))))
      go_wp2
      go_ret
      exact no.out _ (fun h => by have := BB.out.1 h.2.2.2.1; omega) (grown_drewN G4.out _)
    · have db : decide (bd < r.addend + 4) = false := by simp; omega
      have HBD := hid (show BordOk o r from BB.out.2 (by omega))
      go_wp2
      go_quiet ((go_at_call 69; exact Calls.quiet_of_same (cB.out _ ((HO.out.kept G4.out).drewN _))))
      go_wp2
      have B5 := HB4'.out.drewN nq
      have G5 := hid (grown_drewN G4.out nq)
      have e0 : Hid ((W4.drewN nq).drew.cell? ⟨w.heap.size, 0, none⟩ = some (.int .i64 r.sect)) := B5.cell 0
      have e1 : Hid ((W4.drewN nq).drew.cell? ⟨w.heap.size, 1, none⟩ = some (.int .i64 r.off)) := B5.cell 1
      have e2 : Hid ((W4.drewN nq).drew.cell? ⟨w.heap.size, 2, none⟩ = some (.int .i64 r.kind)) := B5.cell 2
      have e3 : Hid ((W4.drewN nq).drew.cell? ⟨w.heap.size, 3, none⟩ = some (.int .i64 r.sym)) := B5.cell 3
      have e4 : Hid ((W4.drewN nq).drew.cell? ⟨w.heap.size, 4, none⟩ = some (.int .i64 r.addend)) := B5.cell 4
      have HO5 : Hid (ObjAt (W4.drewN nq).drew g o) := ObjAt.drew (HO.out.kept G5.out)
      have HT5 : Hid (Tabs (W4.drewN nq).drew) := HT.out.grown (grown_drew G5.out)
      have G6 := hid (grown_drew G5.out)
      clear B5
      have hcr := hid (show 1 ≤ r.kind ∧ r.kind ≤ 6 from by have := p1.out; unfold KindOk at this; omega)
      by_cases hab : AboutOk o r
      · have haf := about_facts p2.out hab (wordsOf_words HW.out r.sect)
        have hoff : 0 ≤ r.off ∧ r.off ≤ 1048576 := by
          obtain ⟨x1, x2, x3⟩ := hab
          have y1 := wordsOf_small HN.out r.sect
          have y2 := span_range p2.out
          omega
        have cAb := hid (fun W (hW : ObjAt W g o) => aboutWords_yes g o r W hW HN.out p2.out hab)
        have cWg := hid (fun W ao cap (hW : Tabs W) (hI : IntsIn W ao (about o r)) => show Calls Tryd.prog 70 #[.int .i64 r.kind, .slice ao (spanI r).toNat cap] W fun e w' => Tells e (GoesP r.kind (about o r)) ∧ W.grownBy w' none from by
          rw [← haf.1]
          exact wordsGo_any r.kind ao cap (about o r) W hW hI haf.2.1 haf.2.2.1 haf.2.2.2 hcr.out (fun h => by rw [haf.1]; unfold spanI; rw [if_pos h]; rfl))
        have cSw := hid (fun W (hW : ObjAt W g o) => symbolWithin_any g o r W hW HN.out p2.out hoff.1 hoff.2)
        have HAB := hid hab
        unfold relA at cAb cSw
        clear hab haf hoff
        generalize (spanI r).toNat = sp at *
        by_cases hg : GoesP r.kind (about o r)
        · have HGO := hid hg
          clear hg
          go_region_held3 (fun w' => w'.cell? ⟨w.heap.size, 0, none⟩ = some (.int .i64 r.sect) ∧ w'.cell? ⟨w.heap.size, 1, none⟩ = some (.int .i64 r.off) ∧ w'.cell? ⟨w.heap.size, 2, none⟩ = some (.int .i64 r.kind) ∧ w'.cell? ⟨w.heap.size, 3, none⟩ = some (.int .i64 r.sym) ∧ w'.cell? ⟨w.heap.size, 4, none⟩ = some (.int .i64 r.addend))
            (go_keep)
            (first | (go_at_call 71; refine (cAb.out _ HO5.out).mono ?_; rintro e w5 ⟨ao, cap, rfl, hI, hq⟩; have s0 := gcell e0.out hq; have s1 := gcell e1.out hq; have s2 := gcell e2.out hq; have s3 := gcell e3.out hq; have s4 := gcell e4.out hq) | (go_at_call 70; refine (cWg.out _ ao cap (HT5.out.grown hq) hI).mono ?_; rintro e w6 ⟨ht6, hq2⟩; obtain rfl := tells_yes ht6 HGO.out; have z0 := gcell s0 hq2; have z1 := gcell s1 hq2; have z2 := gcell s2 hq2; have z3 := gcell s3 hq2; have z4 := gcell s4 hq2) | (go_at_call 72; refine (cSw.out _ ((HO5.out.kept hq).kept hq2)).mono ?_; rintro e w7 ⟨⟨b, rfl, hb⟩, hq3⟩; have y0 := gcell z0 hq3; have y1 := gcell z1 hq3; have y2 := gcell z2 hq3; have y3 := gcell z3 hq3; have y4 := gcell z4 hq3))
          have GF := hid (grown_trans (grown_trans (grown_trans G6.out hq) hq2) hq3)
          have HBB := hid hb
          clear hb hq hq2 hq3 s0 s1 s2 s3 s4 z0 z1 z2 z3 z4 y0 y1 y2 y3 y4 hI ht6
          go_wp2
          go_ret
          refine ⟨Tells.of ?_, GF.out⟩
          have hbb := HBB.out
          constructor
          · intro h
            refine ⟨p1.out, p2.out, p3.out, HBD.out, HAB.out, HGO.out, fun hwi => ?_⟩
            rw [hbb.2 hwi] at h
            simp at h
          · intro h
            cases b
            · rfl
            · exact absurd (hbb.1 rfl) h.2.2.2.2.2.2
        · have HGO := hid hg
          clear hg
          refine wp_region_held_drew (S := (fun w' => w'.cell? ⟨w.heap.size, 0, none⟩ = some (.int .i64 r.sect) ∧ w'.cell? ⟨w.heap.size, 1, none⟩ = some (.int .i64 r.off) ∧ w'.cell? ⟨w.heap.size, 2, none⟩ = some (.int .i64 r.kind) ∧ w'.cell? ⟨w.heap.size, 3, none⟩ = some (.int .i64 r.sym) ∧ w'.cell? ⟨w.heap.size, 4, none⟩ = some (.int .i64 r.addend))) (by kernel_rfl) ⟨e0.out, e1.out, e2.out, e3.out, e4.out⟩ ?_
          intro hS
          refine wpAnyH_take (i := 0) (v := ?_) rfl (by kernel_rfl) (by kernel_rfl) (by kernel_rfl) (fun _ _ _ h => h) (Or.inl ⟨by kernel_rfl, ?_⟩) hS ?_
          rotate_left
          · intro w' _; go_simp; with_reducible rfl
          refine wpAnyH_take (i := 1) (v := ?_) rfl (by kernel_rfl) (by kernel_rfl) (by kernel_rfl) (fun _ _ _ h => h) (Or.inl ⟨by kernel_rfl, ?_⟩) hS ?_
          rotate_left
          · intro w' hw'; obtain ⟨x0, x1, x2, x3, x4⟩ := hw'; go_simp; with_reducible rfl
          refine wpAnyH_take (i := 2) (v := ?_) rfl (by kernel_rfl) (by kernel_rfl) (by kernel_rfl) (fun _ _ _ h => h) (Or.inl ⟨by kernel_rfl, ?_⟩) hS ?_
          rotate_left
          · intro w' _; go_simp; with_reducible rfl
          refine wpAnyH_take (i := 3) (v := ?_) rfl (by kernel_rfl) (by kernel_rfl) (by kernel_rfl) (fun _ _ _ h => h) (Or.inl ⟨by kernel_rfl, ?_⟩) hS ?_
          rotate_left
          · intro w' hw'; obtain ⟨x0, x1, x2, x3, x4⟩ := hw'; go_simp; with_reducible rfl
          refine wpAnyH_ready (rs := [4]) (by kernel_rfl) (by simp) ?_
          refine AllReadyH.cons rfl (fun K hK => ?_) AllReadyH.nil
          go_simp
          go_wp2_with (go_at_call 71; refine (cAb.out _ HO5.out).mono ?_; rintro e w5 ⟨ao, cap, rfl, hI, hq⟩)
          refine hK.out _ _ ⟨gcell e0.out hq, gcell e1.out hq, gcell e2.out hq, gcell e3.out hq, gcell e4.out hq⟩ (fun hS2 => ?_)
          clear hK K
          refine wpAnyH_ready (rs := [5]) (by kernel_rfl) (by simp) ?_
          refine AllReadyH.cons rfl (fun K hK => ?_) AllReadyH.nil
          go_simp
          go_wp2_with (go_at_call 70; refine (cWg.out _ ao cap (HT5.out.grown hq) hI).mono ?_; rintro e w6 ⟨ht6, hq2⟩; obtain rfl := tells_no ht6 HGO.out)
          refine hK.out _ _ ⟨gcell (gcell e0.out hq) hq2, gcell (gcell e1.out hq) hq2, gcell (gcell e2.out hq) hq2, gcell (gcell e3.out hq) hq2, gcell (gcell e4.out hq) hq2⟩ (fun hS3 => ?_)
          clear hK K
          refine wpAnyH_take (i := 6) (v := ?_) rfl (by kernel_rfl) (by kernel_rfl) (by kernel_rfl) (fun _ _ _ h => h) (Or.inl ⟨by kernel_rfl, ?_⟩) hS3 ?_
          rotate_left
          · intro w' _; go_simp; with_reducible rfl
          refine wpAnyH_take (i := 7) (v := undef) rfl (by kernel_rfl) (by kernel_rfl) (by kernel_rfl) (fun _ _ _ h => h) (Or.inr ⟨by kernel_rfl, rfl⟩) hS3 ?_
          refine wpAnyH_take (i := 8) (v := undef) rfl (by kernel_rfl) (by kernel_rfl) (by kernel_rfl) (fun _ _ _ h => h) (Or.inr ⟨by kernel_rfl, rfl⟩) hS3 ?_
          refine wpAnyH_take (i := 9) (v := undef) rfl (by kernel_rfl) (by kernel_rfl) (by kernel_rfl) (fun _ _ _ h => h) (Or.inr ⟨by kernel_rfl, rfl⟩) hS3 ?_
          refine wpAnyH_take (i := 10) (v := undef) rfl (by kernel_rfl) (by kernel_rfl) (by kernel_rfl) (fun _ _ _ h => h) (Or.inr ⟨by kernel_rfl, rfl⟩) hS3 ?_
          refine wpAnyH_take (i := 11) (v := .bool false) rfl (by kernel_rfl) (by kernel_rfl) (by kernel_rfl) (fun _ _ _ h => h) (Or.inl ⟨by kernel_rfl, fun _ _ => by kernel_rfl⟩) hS3 ?_
          refine wpAnyH_take (i := 12) (v := .bool false) rfl (by kernel_rfl) (by kernel_rfl) (by kernel_rfl) (fun _ _ _ h => h) (Or.inl ⟨by kernel_rfl, fun _ _ => by kernel_rfl⟩) hS3 ?_
          refine wpAnyH_done (by kernel_rfl) ?_ _
          simp only [put_mk, List.getElem_toArray, List.getElem_cons_succ, List.getElem_cons_zero, List.setIfInBounds_toArray, List.set_cons_succ, List.set_cons_zero]
          go_wp2
          go_ret
          exact no.out _ (fun h => HGO.out h.2.2.2.2.2.1) (grown_trans (grown_trans G6.out hq) hq2)
      · have cAb := hid (fun W (hW : ObjAt W g o) => aboutWords_no g o r W hW HN.out p2.out hab hr)
        have cWg := hid (fun W => wordsGo_nil r.kind W)
        have HAB := hid hab
        unfold relA at cAb
        clear hab
        refine wp_region_held_drew (S := (fun w' => w'.cell? ⟨w.heap.size, 0, none⟩ = some (.int .i64 r.sect) ∧ w'.cell? ⟨w.heap.size, 1, none⟩ = some (.int .i64 r.off) ∧ w'.cell? ⟨w.heap.size, 2, none⟩ = some (.int .i64 r.kind) ∧ w'.cell? ⟨w.heap.size, 3, none⟩ = some (.int .i64 r.sym) ∧ w'.cell? ⟨w.heap.size, 4, none⟩ = some (.int .i64 r.addend))) (by kernel_rfl) ⟨e0.out, e1.out, e2.out, e3.out, e4.out⟩ ?_
        intro hS
        refine wpAnyH_take (i := 0) (v := ?_) rfl (by kernel_rfl) (by kernel_rfl) (by kernel_rfl) (fun _ _ _ h => h) (Or.inl ⟨by kernel_rfl, ?_⟩) hS ?_
        rotate_left
        · intro w' _; go_simp; with_reducible rfl
        refine wpAnyH_take (i := 1) (v := ?_) rfl (by kernel_rfl) (by kernel_rfl) (by kernel_rfl) (fun _ _ _ h => h) (Or.inl ⟨by kernel_rfl, ?_⟩) hS ?_
        rotate_left
        · intro w' hw'; obtain ⟨x0, x1, x2, x3, x4⟩ := hw'; go_simp; with_reducible rfl
        refine wpAnyH_take (i := 2) (v := ?_) rfl (by kernel_rfl) (by kernel_rfl) (by kernel_rfl) (fun _ _ _ h => h) (Or.inl ⟨by kernel_rfl, ?_⟩) hS ?_
        rotate_left
        · intro w' _; go_simp; with_reducible rfl
        refine wpAnyH_take (i := 3) (v := ?_) rfl (by kernel_rfl) (by kernel_rfl) (by kernel_rfl) (fun _ _ _ h => h) (Or.inl ⟨by kernel_rfl, ?_⟩) hS ?_
        rotate_left
        · intro w' hw'; obtain ⟨x0, x1, x2, x3, x4⟩ := hw'; go_simp; with_reducible rfl
        refine wpAnyH_ready (rs := [4]) (by kernel_rfl) (by simp) ?_
        refine AllReadyH.cons rfl (fun K hK => ?_) AllReadyH.nil
        go_simp
        go_wp2_with (go_at_call 71; refine (cAb.out _ HO5.out).mono ?_; rintro e w5 ⟨rfl, hq⟩)
        refine hK.out _ _ ⟨gcell e0.out hq, gcell e1.out hq, gcell e2.out hq, gcell e3.out hq, gcell e4.out hq⟩ (fun hS2 => ?_)
        clear hK K
        refine wpAnyH_ready (rs := [5]) (by kernel_rfl) (by simp) ?_
        refine AllReadyH.cons rfl (fun K hK => ?_) AllReadyH.nil
        go_simp
        go_wp2_with (go_at_call 70; refine (cWg.out _).mono ?_; rintro e w6 ⟨rfl, hw6⟩)
        subst hw6
        refine hK.out _ _ ⟨gcell e0.out hq, gcell e1.out hq, gcell e2.out hq, gcell e3.out hq, gcell e4.out hq⟩ (fun hS3 => ?_)
        clear hK K
        refine wpAnyH_take (i := 6) (v := ?_) rfl (by kernel_rfl) (by kernel_rfl) (by kernel_rfl) (fun _ _ _ h => h) (Or.inl ⟨by kernel_rfl, ?_⟩) hS3 ?_
        rotate_left
        · intro w' _; go_simp; with_reducible rfl
        refine wpAnyH_take (i := 7) (v := undef) rfl (by kernel_rfl) (by kernel_rfl) (by kernel_rfl) (fun _ _ _ h => h) (Or.inr ⟨by kernel_rfl, rfl⟩) hS3 ?_
        refine wpAnyH_take (i := 8) (v := undef) rfl (by kernel_rfl) (by kernel_rfl) (by kernel_rfl) (fun _ _ _ h => h) (Or.inr ⟨by kernel_rfl, rfl⟩) hS3 ?_
        refine wpAnyH_take (i := 9) (v := undef) rfl (by kernel_rfl) (by kernel_rfl) (by kernel_rfl) (fun _ _ _ h => h) (Or.inr ⟨by kernel_rfl, rfl⟩) hS3 ?_
        refine wpAnyH_take (i := 10) (v := undef) rfl (by kernel_rfl) (by kernel_rfl) (by kernel_rfl) (fun _ _ _ h => h) (Or.inr ⟨by kernel_rfl, rfl⟩) hS3 ?_
        refine wpAnyH_take (i := 11) (v := .bool false) rfl (by kernel_rfl) (by kernel_rfl) (by kernel_rfl) (fun _ _ _ h => h) (Or.inl ⟨by kernel_rfl, fun _ _ => by kernel_rfl⟩) hS3 ?_
        refine wpAnyH_take (i := 12) (v := .bool false) rfl (by kernel_rfl) (by kernel_rfl) (by kernel_rfl) (fun _ _ _ h => h) (Or.inl ⟨by kernel_rfl, fun _ _ => by kernel_rfl⟩) hS3 ?_
        refine wpAnyH_done (by kernel_rfl) ?_ _
        simp only [put_mk, List.getElem_toArray, List.getElem_cons_succ, List.getElem_cons_zero, List.setIfInBounds_toArray, List.set_cons_succ, List.set_cons_zero]
        go_wp2
        go_ret
        exact no.out _ (fun h => HAB.out h.2.2.2.2.1) (grown_trans G6.out hq)
  · have HBD := hid (show BordOk o r from fun h => absurd h hk6)
    have d6 : (r.kind == 6) = false := beq_eq_false_iff_ne.2 hk6
    have K6 := hid hk6
    clear hk6 kinds
    go_wp2
    go_quiet (fail)
    go_wp2
    have B5 := HB4'.out.drewN nq
    have G5 := hid (grown_drewN G4.out nq)
    have e0 : Hid ((W4.drewN nq).drew.cell? ⟨w.heap.size, 0, none⟩ = some (.int .i64 r.sect)) := B5.cell 0
    have e1 : Hid ((W4.drewN nq).drew.cell? ⟨w.heap.size, 1, none⟩ = some (.int .i64 r.off)) := B5.cell 1
    have e2 : Hid ((W4.drewN nq).drew.cell? ⟨w.heap.size, 2, none⟩ = some (.int .i64 r.kind)) := B5.cell 2
    have e3 : Hid ((W4.drewN nq).drew.cell? ⟨w.heap.size, 3, none⟩ = some (.int .i64 r.sym)) := B5.cell 3
    have e4 : Hid ((W4.drewN nq).drew.cell? ⟨w.heap.size, 4, none⟩ = some (.int .i64 r.addend)) := B5.cell 4
    have HO5 : Hid (ObjAt (W4.drewN nq).drew g o) := ObjAt.drew (HO.out.kept G5.out)
    have HT5 : Hid (Tabs (W4.drewN nq).drew) := HT.out.grown (grown_drew G5.out)
    have G6 := hid (grown_drew G5.out)
    clear B5
    have hcr := hid (show 1 ≤ r.kind ∧ r.kind ≤ 6 from by have := p1.out; unfold KindOk at this; omega)
    by_cases hab : AboutOk o r
    · have haf := about_facts p2.out hab (wordsOf_words HW.out r.sect)
      have hoff : 0 ≤ r.off ∧ r.off ≤ 1048576 := by
        obtain ⟨x1, x2, x3⟩ := hab
        have y1 := wordsOf_small HN.out r.sect
        have y2 := span_range p2.out
        omega
      have cAb := hid (fun W (hW : ObjAt W g o) => aboutWords_yes g o r W hW HN.out p2.out hab)
      have cWg := hid (fun W ao cap (hW : Tabs W) (hI : IntsIn W ao (about o r)) => show Calls Tryd.prog 70 #[.int .i64 r.kind, .slice ao (spanI r).toNat cap] W fun e w' => Tells e (GoesP r.kind (about o r)) ∧ W.grownBy w' none from by
        rw [← haf.1]
        exact wordsGo_any r.kind ao cap (about o r) W hW hI haf.2.1 haf.2.2.1 haf.2.2.2 hcr.out (fun h => by rw [haf.1]; unfold spanI; rw [if_pos h]; rfl))
      have cSw := hid (fun W (hW : ObjAt W g o) => symbolWithin_any g o r W hW HN.out p2.out hoff.1 hoff.2)
      have HAB := hid hab
      unfold relA at cAb cSw
      clear hab haf hoff
      generalize (spanI r).toNat = sp at *
      by_cases hg : GoesP r.kind (about o r)
      · have HGO := hid hg
        clear hg
        go_region_held3 (fun w' => w'.cell? ⟨w.heap.size, 0, none⟩ = some (.int .i64 r.sect) ∧ w'.cell? ⟨w.heap.size, 1, none⟩ = some (.int .i64 r.off) ∧ w'.cell? ⟨w.heap.size, 2, none⟩ = some (.int .i64 r.kind) ∧ w'.cell? ⟨w.heap.size, 3, none⟩ = some (.int .i64 r.sym) ∧ w'.cell? ⟨w.heap.size, 4, none⟩ = some (.int .i64 r.addend))
          (go_keep)
          (first | (go_at_call 71; refine (cAb.out _ HO5.out).mono ?_; rintro e w5 ⟨ao, cap, rfl, hI, hq⟩; have s0 := gcell e0.out hq; have s1 := gcell e1.out hq; have s2 := gcell e2.out hq; have s3 := gcell e3.out hq; have s4 := gcell e4.out hq) | (go_at_call 70; refine (cWg.out _ ao cap (HT5.out.grown hq) hI).mono ?_; rintro e w6 ⟨ht6, hq2⟩; obtain rfl := tells_yes ht6 HGO.out; have z0 := gcell s0 hq2; have z1 := gcell s1 hq2; have z2 := gcell s2 hq2; have z3 := gcell s3 hq2; have z4 := gcell s4 hq2) | (go_at_call 72; refine (cSw.out _ ((HO5.out.kept hq).kept hq2)).mono ?_; rintro e w7 ⟨⟨b, rfl, hb⟩, hq3⟩; have y0 := gcell z0 hq3; have y1 := gcell z1 hq3; have y2 := gcell z2 hq3; have y3 := gcell z3 hq3; have y4 := gcell z4 hq3))
        have GF := hid (grown_trans (grown_trans (grown_trans G6.out hq) hq2) hq3)
        have HBB := hid hb
        clear hb hq hq2 hq3 s0 s1 s2 s3 s4 z0 z1 z2 z3 z4 y0 y1 y2 y3 y4 hI ht6
        go_wp2
        go_ret
        refine ⟨Tells.of ?_, GF.out⟩
        have hbb := HBB.out
        constructor
        · intro h
          refine ⟨p1.out, p2.out, p3.out, HBD.out, HAB.out, HGO.out, fun hwi => ?_⟩
          rw [hbb.2 hwi] at h
          simp at h
        · intro h
          cases b
          · rfl
          · exact absurd (hbb.1 rfl) h.2.2.2.2.2.2
      · have HGO := hid hg
        clear hg
        refine wp_region_held_drew (S := (fun w' => w'.cell? ⟨w.heap.size, 0, none⟩ = some (.int .i64 r.sect) ∧ w'.cell? ⟨w.heap.size, 1, none⟩ = some (.int .i64 r.off) ∧ w'.cell? ⟨w.heap.size, 2, none⟩ = some (.int .i64 r.kind) ∧ w'.cell? ⟨w.heap.size, 3, none⟩ = some (.int .i64 r.sym) ∧ w'.cell? ⟨w.heap.size, 4, none⟩ = some (.int .i64 r.addend))) (by kernel_rfl) ⟨e0.out, e1.out, e2.out, e3.out, e4.out⟩ ?_
        intro hS
        refine wpAnyH_take (i := 0) (v := ?_) rfl (by kernel_rfl) (by kernel_rfl) (by kernel_rfl) (fun _ _ _ h => h) (Or.inl ⟨by kernel_rfl, ?_⟩) hS ?_
        rotate_left
        · intro w' _; go_simp; with_reducible rfl
        refine wpAnyH_take (i := 1) (v := ?_) rfl (by kernel_rfl) (by kernel_rfl) (by kernel_rfl) (fun _ _ _ h => h) (Or.inl ⟨by kernel_rfl, ?_⟩) hS ?_
        rotate_left
        · intro w' hw'; obtain ⟨x0, x1, x2, x3, x4⟩ := hw'; go_simp; with_reducible rfl
        refine wpAnyH_take (i := 2) (v := ?_) rfl (by kernel_rfl) (by kernel_rfl) (by kernel_rfl) (fun _ _ _ h => h) (Or.inl ⟨by kernel_rfl, ?_⟩) hS ?_
        rotate_left
        · intro w' _; go_simp; with_reducible rfl
        refine wpAnyH_take (i := 3) (v := ?_) rfl (by kernel_rfl) (by kernel_rfl) (by kernel_rfl) (fun _ _ _ h => h) (Or.inl ⟨by kernel_rfl, ?_⟩) hS ?_
        rotate_left
        · intro w' hw'; obtain ⟨x0, x1, x2, x3, x4⟩ := hw'; go_simp; with_reducible rfl
        refine wpAnyH_ready (rs := [4]) (by kernel_rfl) (by simp) ?_
        refine AllReadyH.cons rfl (fun K hK => ?_) AllReadyH.nil
        go_simp
        go_wp2_with (go_at_call 71; refine (cAb.out _ HO5.out).mono ?_; rintro e w5 ⟨ao, cap, rfl, hI, hq⟩)
        refine hK.out _ _ ⟨gcell e0.out hq, gcell e1.out hq, gcell e2.out hq, gcell e3.out hq, gcell e4.out hq⟩ (fun hS2 => ?_)
        clear hK K
        refine wpAnyH_ready (rs := [5]) (by kernel_rfl) (by simp) ?_
        refine AllReadyH.cons rfl (fun K hK => ?_) AllReadyH.nil
        go_simp
        go_wp2_with (go_at_call 70; refine (cWg.out _ ao cap (HT5.out.grown hq) hI).mono ?_; rintro e w6 ⟨ht6, hq2⟩; obtain rfl := tells_no ht6 HGO.out)
        refine hK.out _ _ ⟨gcell (gcell e0.out hq) hq2, gcell (gcell e1.out hq) hq2, gcell (gcell e2.out hq) hq2, gcell (gcell e3.out hq) hq2, gcell (gcell e4.out hq) hq2⟩ (fun hS3 => ?_)
        clear hK K
        refine wpAnyH_take (i := 6) (v := ?_) rfl (by kernel_rfl) (by kernel_rfl) (by kernel_rfl) (fun _ _ _ h => h) (Or.inl ⟨by kernel_rfl, ?_⟩) hS3 ?_
        rotate_left
        · intro w' _; go_simp; with_reducible rfl
        refine wpAnyH_take (i := 7) (v := undef) rfl (by kernel_rfl) (by kernel_rfl) (by kernel_rfl) (fun _ _ _ h => h) (Or.inr ⟨by kernel_rfl, rfl⟩) hS3 ?_
        refine wpAnyH_take (i := 8) (v := undef) rfl (by kernel_rfl) (by kernel_rfl) (by kernel_rfl) (fun _ _ _ h => h) (Or.inr ⟨by kernel_rfl, rfl⟩) hS3 ?_
        refine wpAnyH_take (i := 9) (v := undef) rfl (by kernel_rfl) (by kernel_rfl) (by kernel_rfl) (fun _ _ _ h => h) (Or.inr ⟨by kernel_rfl, rfl⟩) hS3 ?_
        refine wpAnyH_take (i := 10) (v := undef) rfl (by kernel_rfl) (by kernel_rfl) (by kernel_rfl) (fun _ _ _ h => h) (Or.inr ⟨by kernel_rfl, rfl⟩) hS3 ?_
        refine wpAnyH_take (i := 11) (v := .bool false) rfl (by kernel_rfl) (by kernel_rfl) (by kernel_rfl) (fun _ _ _ h => h) (Or.inl ⟨by kernel_rfl, fun _ _ => by kernel_rfl⟩) hS3 ?_
        refine wpAnyH_take (i := 12) (v := .bool false) rfl (by kernel_rfl) (by kernel_rfl) (by kernel_rfl) (fun _ _ _ h => h) (Or.inl ⟨by kernel_rfl, fun _ _ => by kernel_rfl⟩) hS3 ?_
        refine wpAnyH_done (by kernel_rfl) ?_ _
        simp only [put_mk, List.getElem_toArray, List.getElem_cons_succ, List.getElem_cons_zero, List.setIfInBounds_toArray, List.set_cons_succ, List.set_cons_zero]
        go_wp2
        go_ret
        exact no.out _ (fun h => HGO.out h.2.2.2.2.2.1) (grown_trans (grown_trans G6.out hq) hq2)
    · have cAb := hid (fun W (hW : ObjAt W g o) => aboutWords_no g o r W hW HN.out p2.out hab hr)
      have cWg := hid (fun W => wordsGo_nil r.kind W)
      have HAB := hid hab
      unfold relA at cAb
      clear hab
      refine wp_region_held_drew (S := (fun w' => w'.cell? ⟨w.heap.size, 0, none⟩ = some (.int .i64 r.sect) ∧ w'.cell? ⟨w.heap.size, 1, none⟩ = some (.int .i64 r.off) ∧ w'.cell? ⟨w.heap.size, 2, none⟩ = some (.int .i64 r.kind) ∧ w'.cell? ⟨w.heap.size, 3, none⟩ = some (.int .i64 r.sym) ∧ w'.cell? ⟨w.heap.size, 4, none⟩ = some (.int .i64 r.addend))) (by kernel_rfl) ⟨e0.out, e1.out, e2.out, e3.out, e4.out⟩ ?_
      intro hS
      refine wpAnyH_take (i := 0) (v := ?_) rfl (by kernel_rfl) (by kernel_rfl) (by kernel_rfl) (fun _ _ _ h => h) (Or.inl ⟨by kernel_rfl, ?_⟩) hS ?_
      rotate_left
      · intro w' _; go_simp; with_reducible rfl
      refine wpAnyH_take (i := 1) (v := ?_) rfl (by kernel_rfl) (by kernel_rfl) (by kernel_rfl) (fun _ _ _ h => h) (Or.inl ⟨by kernel_rfl, ?_⟩) hS ?_
      rotate_left
      · intro w' hw'; obtain ⟨x0, x1, x2, x3, x4⟩ := hw'; go_simp; with_reducible rfl
      refine wpAnyH_take (i := 2) (v := ?_) rfl (by kernel_rfl) (by kernel_rfl) (by kernel_rfl) (fun _ _ _ h => h) (Or.inl ⟨by kernel_rfl, ?_⟩) hS ?_
      rotate_left
      · intro w' _; go_simp; with_reducible rfl
      refine wpAnyH_take (i := 3) (v := ?_) rfl (by kernel_rfl) (by kernel_rfl) (by kernel_rfl) (fun _ _ _ h => h) (Or.inl ⟨by kernel_rfl, ?_⟩) hS ?_
      rotate_left
      · intro w' hw'; obtain ⟨x0, x1, x2, x3, x4⟩ := hw'; go_simp; with_reducible rfl
      refine wpAnyH_ready (rs := [4]) (by kernel_rfl) (by simp) ?_
      refine AllReadyH.cons rfl (fun K hK => ?_) AllReadyH.nil
      go_simp
      go_wp2_with (go_at_call 71; refine (cAb.out _ HO5.out).mono ?_; rintro e w5 ⟨rfl, hq⟩)
      refine hK.out _ _ ⟨gcell e0.out hq, gcell e1.out hq, gcell e2.out hq, gcell e3.out hq, gcell e4.out hq⟩ (fun hS2 => ?_)
      clear hK K
      refine wpAnyH_ready (rs := [5]) (by kernel_rfl) (by simp) ?_
      refine AllReadyH.cons rfl (fun K hK => ?_) AllReadyH.nil
      go_simp
      go_wp2_with (go_at_call 70; refine (cWg.out _).mono ?_; rintro e w6 ⟨rfl, hw6⟩)
      subst hw6
      refine hK.out _ _ ⟨gcell e0.out hq, gcell e1.out hq, gcell e2.out hq, gcell e3.out hq, gcell e4.out hq⟩ (fun hS3 => ?_)
      clear hK K
      refine wpAnyH_take (i := 6) (v := ?_) rfl (by kernel_rfl) (by kernel_rfl) (by kernel_rfl) (fun _ _ _ h => h) (Or.inl ⟨by kernel_rfl, ?_⟩) hS3 ?_
      rotate_left
      · intro w' _; go_simp; with_reducible rfl
      refine wpAnyH_take (i := 7) (v := undef) rfl (by kernel_rfl) (by kernel_rfl) (by kernel_rfl) (fun _ _ _ h => h) (Or.inr ⟨by kernel_rfl, rfl⟩) hS3 ?_
      refine wpAnyH_take (i := 8) (v := undef) rfl (by kernel_rfl) (by kernel_rfl) (by kernel_rfl) (fun _ _ _ h => h) (Or.inr ⟨by kernel_rfl, rfl⟩) hS3 ?_
      refine wpAnyH_take (i := 9) (v := undef) rfl (by kernel_rfl) (by kernel_rfl) (by kernel_rfl) (fun _ _ _ h => h) (Or.inr ⟨by kernel_rfl, rfl⟩) hS3 ?_
      refine wpAnyH_take (i := 10) (v := undef) rfl (by kernel_rfl) (by kernel_rfl) (by kernel_rfl) (fun _ _ _ h => h) (Or.inr ⟨by kernel_rfl, rfl⟩) hS3 ?_
      refine wpAnyH_take (i := 11) (v := .bool false) rfl (by kernel_rfl) (by kernel_rfl) (by kernel_rfl) (fun _ _ _ h => h) (Or.inl ⟨by kernel_rfl, fun _ _ => by kernel_rfl⟩) hS3 ?_
      refine wpAnyH_take (i := 12) (v := .bool false) rfl (by kernel_rfl) (by kernel_rfl) (by kernel_rfl) (fun _ _ _ h => h) (Or.inl ⟨by kernel_rfl, fun _ _ => by kernel_rfl⟩) hS3 ?_
      refine wpAnyH_done (by kernel_rfl) ?_ _
      simp only [put_mk, List.getElem_toArray, List.getElem_cons_succ, List.getElem_cons_zero, List.setIfInBounds_toArray, List.set_cons_succ, List.set_cons_zero]
      go_wp2
      go_ret
      exact no.out _ (fun h => HAB.out h.2.2.2.2.1) (grown_trans G6.out hq)

end Go.Proofs.YtafjgogdeinpcaaDoor
