/- Walks over package object's checks: validReloc. -/
/- Walks over package object's checks: validRelocs. -/
/- Walks over package object: the writers. -/
/- Walks over the document's answer: numbers of a file. -/
/- Walks over the document's answer: numbers and parts of a file. -/
import Derived.Test.YtogbomihnhfaiaaDoorG05
import Derived.Test.YtogbomihnhfaiaaDoorG04
import Derived.Test.YtogbomihnhfaiaaDoorG01
namespace Go.Proofs.YtogbomihnhfaiaaDoor
open Go.RowKit

def BordOk (o : Lk.Obj) (r : Lk.Rel) : Prop := r.kind = 6 → r.addend + 4 ≤ borderI (o.align.getD (r.sect.toNat - 1) 0)
def RelOk (o : Lk.Obj) (r : Lk.Rel) : Prop := KindOk r ∧ AddendOk r ∧ SymIx o r ∧ BordOk o r ∧ AboutOk o r ∧ GoesP r.kind (about o r) ∧ ¬ WithinP o r

theorem about_facts {o : Lk.Obj} {r : Lk.Rel} (ha : AddendOk r) (hab : AboutOk o r) (hw : Words (wordsOf o r.sect)) : (about o r).length = (spanI r).toNat ∧ Words (about o r) ∧ (about o r).length ≤ 3 ∧ 1 ≤ (about o r).length := by
  have hs := span_range ha
  obtain ⟨b1, b2, b3⟩ := hab
  have hl : (about o r).length = (spanI r).toNat := by unfold about; simp; omega
  refine ⟨hl, ?_, by omega, by omega⟩
  intro i hi
  have hi' : (r.off / 4).toNat + i < (wordsOf o r.sect).length := by omega
  have e : (about o r)[i] = (wordsOf o r.sect)[(r.off / 4).toNat + i] := by
    simp only [about, List.getElem_take, List.getElem_drop]
  rw [e]
  exact hw _ hi'

theorem wordsOf_words {o : Lk.Obj} (h : AllWords o) (sect : Int) : Words (wordsOf o sect) := by
  unfold wordsOf
  split
  · exact h.1
  split
  · exact h.2.1
  split
  · exact h.2.2
  · intro i hi; simp at hi

theorem tells_yes {e : Ending} {P : Prop} (h : Tells e P) (hp : P) : e = .returned (.bool true) := by
  rcases h.split with ⟨_, q⟩ | ⟨h1, _⟩
  · exact absurd hp q.out
  · exact h1
theorem tells_no {e : Ending} {P : Prop} (h : Tells e P) (hp : ¬ P) : e = .returned (.bool false) := by
  rcases h.split with ⟨h1, _⟩ | ⟨_, q⟩
  · exact h1
  · exact absurd q.out hp

set_option maxHeartbeats 4000000 in
theorem validReloc_any (g : Nat) (o : Lk.Obj) (r : Lk.Rel) (w : World) (ht : Tabs w) (h : ObjAt w g o) (hn : Small o) (hb4 : Borders o.align) (hw : AllWords o) (hr : r.off ≤ 9223372036854775807) :
    Calls Tryd.prog 58 #[.pointer (some ⟨g, 0, none⟩), relA r] w fun e w' => Tells e (RelOk o r) ∧ w.grownBy w' none := by
  have no : Hid (∀ W, (¬ RelOk o r) → w.grownBy W none → Tells (.returned (.bool false)) (RelOk o r) ∧ w.grownBy W none) := fun W a b => ⟨Tells.no a, b⟩
  have HO := hid h
  have HT := hid ht
  have HN := hid hn
  have HB4 := hid hb4
  have HW := hid hw
  clear h ht hn hb4 hw
  have B := BlkAt.new w #[.int .i64 r.sect, .int .i64 r.off, .int .i64 r.kind, .int .i64 r.sym, .int .i64 r.addend] 48
  have GB := World.grownBy_alloc w (.cells #[.int .i64 r.sect, .int .i64 r.off, .int .i64 r.kind, .int .i64 r.sym, .int .i64 r.addend] 48) none
  have HBk := hid B
  have HGB := hid GB
  clear B GB
  have cK := hid (fun W => validKind_any r W)
  have cA := hid (fun W => validAddend_any r W)
  have cS := hid (fun W (hW : ObjAt W g o) => validSym_any g o r W hW HN.out)
  have fold : relA r = .agg #[.int .i64 r.sect, .int .i64 r.off, .int .i64 r.kind, .int .i64 r.sym, .int .i64 r.addend] := rfl
  rw [fold]
  rw [fold] at cK cA cS
  clear fold
  go_enter Tryd.func58, Tryd.ntmps58
  go_wp2_with fail
  refine Calls.at_world (fun W => BlkAt W w.heap.size #[.int .i64 r.sect, .int .i64 r.off, .int .i64 r.kind, .int .i64 r.sym, .int .i64 r.addend] 48 ∧ w.grownBy W none) ⟨HBk.out, HGB.out⟩ ?_
  rintro W1 ⟨bk1, g1⟩
  refine (cK.out W1).mono ?_
  rintro e W2 ⟨t, q⟩
  have BK2 := bk1.grown q (by simp)
  have G2 := hid (grown_trans g1 q)
  rcases t.split with ⟨rfl, p1⟩ | ⟨rfl, p1⟩ <;> clear t q bk1 g1
  · clear BK2
    go_wp2
    go_ret
    exact no.out _ (fun h => p1.out h.1) G2.out
  have c0 := BK2.cell 0
  have c1 := BK2.cell 1
  have c2 := BK2.cell 2
  have c3 := BK2.cell 3
  have c4 := BK2.cell 4
  have HB2 := hid BK2
  clear BK2
  go_wp2_with fail
  refine (cA.out W2).mono ?_
  rintro e W3 ⟨t, q⟩
  have BK3 := HB2.out.grown q (by simp)
  have G3 := hid (grown_trans G2.out q)
  clear c0 c1 c2 c3 c4
  rcases t.split with ⟨rfl, p2⟩ | ⟨rfl, p2⟩ <;> clear t q
  · clear BK3
    go_wp2
    go_ret
    exact no.out _ (fun h => p2.out h.2.1) G3.out
  have c0 := BK3.cell 0
  have c1 := BK3.cell 1
  have c2 := BK3.cell 2
  have c3 := BK3.cell 3
  have c4 := BK3.cell 4
  have HB3 := hid BK3
  clear BK3
  go_wp2_with fail
  refine (cS.out W3 (HO.out.kept G3.out)).mono ?_
  rintro e W4 ⟨t, q⟩
  have BK4 := HB3.out.grown q (by simp)
  have G4 := hid (grown_trans G3.out q)
  clear c0 c1 c2 c3 c4
  rcases t.split with ⟨rfl, p3⟩ | ⟨rfl, p3⟩ <;> clear t q
  · clear BK4
    go_wp2
    go_ret
    exact no.out _ (fun h => p3.out h.2.2.1) G4.out
  have c0 := BK4.cell 0
  have c1 := BK4.cell 1
  have c2 := BK4.cell 2
  have c3 := BK4.cell 3
  have c4 := BK4.cell 4
  have HB4' := hid BK4
  clear BK4
  have kinds := p1.out
  unfold KindOk at kinds
  by_cases hk6 : r.kind = 6
  · have hs : 1 ≤ r.sect ∧ r.sect ≤ 2 := by omega
    have ha := p2.out.six hk6
    obtain ⟨sn, hsn⟩ : ∃ sn : Nat, r.sect = (sn : Int) := ⟨r.sect.toNat, by omega⟩
    have hal := HB4.out.1
    have cB := hid (fun W (hW : ObjAt W g o) => show Calls Tryd.prog 69 #[.pointer (some ⟨g, 0, none⟩), .int .i64 r.sect] W fun e w' => e = .returned (.int .i64 (borderI (o.align.getD (r.sect.toNat - 1) 0))) ∧ w' = W from by
      have := borderOf_any g o sn W hW HB4.out (by omega) (by omega)
      rw [hsn, Int.toNat_natCast, List.getD_eq_getElem?_getD, List.getElem?_eq_getElem (by omega)]
      exact this)
    have BB := hid (show BordOk o r ↔ r.addend + 4 ≤ borderI (o.align.getD (r.sect.toNat - 1) 0) from ⟨fun h => h hk6, fun h _ => h⟩)
    generalize borderI (o.align.getD (r.sect.toNat - 1) 0) = bd at *
    have d6 : (r.kind == 6) = true := beq_iff_eq.2 hk6
    have hw4 : IntKind.i64.wrap (r.addend + 4) = r.addend + 4 := IntWalk.i64_in _ ⟨by omega, by omega⟩
    have K6 := hid hk6
    clear hk6 kinds hsn hal
    by_cases hbd : bd < r.addend + 4
    · have db : decide (bd < r.addend + 4) = true := by simpa using hbd
      go_wp2
      go_quiet ((go_at_call 69; exact Calls.quiet_of_same (cB.out _ ((HO.out.kept G4.out).drewN _))))
      go_wp2
      go_ret
      exact no.out _ (fun h => by have := BB.out.1 h.2.2.2.1; omega) (grown_drewN G4.out _)
    · have db : decide (bd < r.addend + 4) = false := by simp; omega
      have HBD := hid (show BordOk o r from BB.out.2 (by omega))
      go_wp2
      go_quiet ((go_at_call 69; exact Calls.quiet_of_same (cB.out _ ((HO.out.kept G4.out).drewN _))))
      go_wp2
      have B5 := HB4'.out.drewN nq
      have G5 := hid (grown_drewN G4.out nq)
      have e0 : Hid ((W4.drewN nq).drew.cell? ⟨w.heap.size, 0, none⟩ = some (.int .i64 r.sect)) := B5.cell 0
      have e1 : Hid ((W4.drewN nq).drew.cell? ⟨w.heap.size, 1, none⟩ = some (.int .i64 r.off)) := B5.cell 1
      have e2 : Hid ((W4.drewN nq).drew.cell? ⟨w.heap.size, 2, none⟩ = some (.int .i64 r.kind)) := B5.cell 2
      have e3 : Hid ((W4.drewN nq).drew.cell? ⟨w.heap.size, 3, none⟩ = some (.int .i64 r.sym)) := B5.cell 3
      have e4 : Hid ((W4.drewN nq).drew.cell? ⟨w.heap.size, 4, none⟩ = some (.int .i64 r.addend)) := B5.cell 4
      have HO5 : Hid (ObjAt (W4.drewN nq).drew g o) := ObjAt.drew (HO.out.kept G5.out)
      have HT5 : Hid (Tabs (W4.drewN nq).drew) := HT.out.grown (grown_drew G5.out)
      have G6 := hid (grown_drew G5.out)
      clear B5
      have hcr := hid (show 1 ≤ r.kind ∧ r.kind ≤ 6 from by have := p1.out; unfold KindOk at this; omega)
      by_cases hab : AboutOk o r
      · have haf := about_facts p2.out hab (wordsOf_words HW.out r.sect)
        have hoff : 0 ≤ r.off ∧ r.off ≤ 1048576 := by
          obtain ⟨x1, x2, x3⟩ := hab
          have y1 := wordsOf_small HN.out r.sect
          have y2 := span_range p2.out
          omega
        have cAb := hid (fun W (hW : ObjAt W g o) => aboutWords_yes g o r W hW HN.out p2.out hab)
        have cWg := hid (fun W ao cap (hW : Tabs W) (hI : IntsIn W ao (about o r)) => show Calls Tryd.prog 70 #[.int .i64 r.kind, .slice ao (spanI r).toNat cap] W fun e w' => Tells e (GoesP r.kind (about o r)) ∧ W.grownBy w' none from by
          rw [← haf.1]
          exact wordsGo_any r.kind ao cap (about o r) W hW hI haf.2.1 haf.2.2.1 haf.2.2.2 hcr.out (fun h => by rw [haf.1]; unfold spanI; rw [if_pos h]; rfl))
        have cSw := hid (fun W (hW : ObjAt W g o) => symbolWithin_any g o r W hW HN.out p2.out hoff.1 hoff.2)
        have HAB := hid hab
        unfold relA at cAb cSw
        clear hab haf hoff
        generalize (spanI r).toNat = sp at *
        by_cases hg : GoesP r.kind (about o r)
        · have HGO := hid hg
          clear hg
          go_region_held3 (fun w' => w'.cell? ⟨w.heap.size, 0, none⟩ = some (.int .i64 r.sect) ∧ w'.cell? ⟨w.heap.size, 1, none⟩ = some (.int .i64 r.off) ∧ w'.cell? ⟨w.heap.size, 2, none⟩ = some (.int .i64 r.kind) ∧ w'.cell? ⟨w.heap.size, 3, none⟩ = some (.int .i64 r.sym) ∧ w'.cell? ⟨w.heap.size, 4, none⟩ = some (.int .i64 r.addend))
            (go_keep)
            (first | (go_at_call 71; refine (cAb.out _ HO5.out).mono ?_; rintro e w5 ⟨ao, cap, rfl, hI, hq⟩; have s0 := gcell e0.out hq; have s1 := gcell e1.out hq; have s2 := gcell e2.out hq; have s3 := gcell e3.out hq; have s4 := gcell e4.out hq) | (go_at_call 70; refine (cWg.out _ ao cap (HT5.out.grown hq) hI).mono ?_; rintro e w6 ⟨ht6, hq2⟩; obtain rfl := tells_yes ht6 HGO.out; have z0 := gcell s0 hq2; have z1 := gcell s1 hq2; have z2 := gcell s2 hq2; have z3 := gcell s3 hq2; have z4 := gcell s4 hq2) | (go_at_call 72; refine (cSw.out _ ((HO5.out.kept hq).kept hq2)).mono ?_; rintro e w7 ⟨⟨b, rfl, hb⟩, hq3⟩; have y0 := gcell z0 hq3; have y1 := gcell z1 hq3; have y2 := gcell z2 hq3; have y3 := gcell z3 hq3; have y4 := gcell z4 hq3))
          have GF := hid (grown_trans (grown_trans (grown_trans G6.out hq) hq2) hq3)
          have HBB := hid hb
          clear hb hq hq2 hq3 s0 s1 s2 s3 s4 z0 z1 z2 z3 z4 y0 y1 y2 y3 y4 hI ht6
          go_wp2
          go_ret
          refine ⟨Tells.of ?_, GF.out⟩
          have hbb := HBB.out
          constructor
          · intro h
            refine ⟨p1.out, p2.out, p3.out, HBD.out, HAB.out, HGO.out, fun hwi => ?_⟩
            rw [hbb.2 hwi] at h
            simp at h
          · intro h
            cases b
            · rfl
            · exact absurd (hbb.1 rfl) h.2.2.2.2.2.2
        · have HGO := hid hg
          clear hg
          refine wp_region_held_drew (S := (fun w' => w'.cell? ⟨w.heap.size, 0, none⟩ = some (.int .i64 r.sect) ∧ w'.cell? ⟨w.heap.size, 1, none⟩ = some (.int .i64 r.off) ∧ w'.cell? ⟨w.heap.size, 2, none⟩ = some (.int .i64 r.kind) ∧ w'.cell? ⟨w.heap.size, 3, none⟩ = some (.int .i64 r.sym) ∧ w'.cell? ⟨w.heap.size, 4, none⟩ = some (.int .i64 r.addend))) (by kernel_rfl) ⟨e0.out, e1.out, e2.out, e3.out, e4.out⟩ ?_
          intro hS
          refine wpAnyH_take (i := 0) (v := ?_) rfl (by kernel_rfl) (by kernel_rfl) (by kernel_rfl) (fun _ _ _ h => h) (Or.inl ⟨by kernel_rfl, ?_⟩) hS ?_
          rotate_left
          · intro w' _; go_simp; with_reducible rfl
          refine wpAnyH_take (i := 1) (v := ?_) rfl (by kernel_rfl) (by kernel_rfl) (by kernel_rfl) (fun _ _ _ h => h) (Or.inl ⟨by kernel_rfl, ?_⟩) hS ?_
          rotate_left
          · intro w' hw'; obtain ⟨x0, x1, x2, x3, x4⟩ := hw'; go_simp; with_reducible rfl
          refine wpAnyH_take (i := 2) (v := ?_) rfl (by kernel_rfl) (by kernel_rfl) (by kernel_rfl) (fun _ _ _ h => h) (Or.inl ⟨by kernel_rfl, ?_⟩) hS ?_
          rotate_left
          · intro w' _; go_simp; with_reducible rfl
          refine wpAnyH_take (i := 3) (v := ?_) rfl (by kernel_rfl) (by kernel_rfl) (by kernel_rfl) (fun _ _ _ h => h) (Or.inl ⟨by kernel_rfl, ?_⟩) hS ?_
          rotate_left
          · intro w' hw'; obtain ⟨x0, x1, x2, x3, x4⟩ := hw'; go_simp; with_reducible rfl
          refine wpAnyH_ready (rs := [4]) (by kernel_rfl) (by simp) ?_
          refine AllReadyH.cons rfl (fun K hK => ?_) AllReadyH.nil
          go_simp
          go_wp2_with (go_at_call 71; refine (cAb.out _ HO5.out).mono ?_; rintro e w5 ⟨ao, cap, rfl, hI, hq⟩)
          refine hK.out _ _ ⟨gcell e0.out hq, gcell e1.out hq, gcell e2.out hq, gcell e3.out hq, gcell e4.out hq⟩ (fun hS2 => ?_)
          clear hK K
          refine wpAnyH_ready (rs := [5]) (by kernel_rfl) (by simp) ?_
          refine AllReadyH.cons rfl (fun K hK => ?_) AllReadyH.nil
          go_simp
          go_wp2_with (go_at_call 70; refine (cWg.out _ ao cap (HT5.out.grown hq) hI).mono ?_; rintro e w6 ⟨ht6, hq2⟩; obtain rfl := tells_no ht6 HGO.out)
          refine hK.out _ _ ⟨gcell (gcell e0.out hq) hq2, gcell (gcell e1.out hq) hq2, gcell (gcell e2.out hq) hq2, gcell (gcell e3.out hq) hq2, gcell (gcell e4.out hq) hq2⟩ (fun hS3 => ?_)
          clear hK K
          refine wpAnyH_take (i := 6) (v := ?_) rfl (by kernel_rfl) (by kernel_rfl) (by kernel_rfl) (fun _ _ _ h => h) (Or.inl ⟨by kernel_rfl, ?_⟩) hS3 ?_
          rotate_left
          · intro w' _; go_simp; with_reducible rfl
          refine wpAnyH_take (i := 7) (v := undef) rfl (by kernel_rfl) (by kernel_rfl) (by kernel_rfl) (fun _ _ _ h => h) (Or.inr ⟨by kernel_rfl, rfl⟩) hS3 ?_
          refine wpAnyH_take (i := 8) (v := undef) rfl (by kernel_rfl) (by kernel_rfl) (by kernel_rfl) (fun _ _ _ h => h) (Or.inr ⟨by kernel_rfl, rfl⟩) hS3 ?_
          refine wpAnyH_take (i := 9) (v := undef) rfl (by kernel_rfl) (by kernel_rfl) (by kernel_rfl) (fun _ _ _ h => h) (Or.inr ⟨by kernel_rfl, rfl⟩) hS3 ?_
          refine wpAnyH_take (i := 10) (v := undef) rfl (by kernel_rfl) (by kernel_rfl) (by kernel_rfl) (fun _ _ _ h => h) (Or.inr ⟨by kernel_rfl, rfl⟩) hS3 ?_
          refine wpAnyH_take (i := 11) (v := .bool false) rfl (by kernel_rfl) (by kernel_rfl) (by kernel_rfl) (fun _ _ _ h => h) (Or.inl ⟨by kernel_rfl, fun _ _ => by kernel_rfl⟩) hS3 ?_
          refine wpAnyH_take (i := 12) (v := .bool false) rfl (by kernel_rfl) (by kernel_rfl) (by kernel_rfl) (fun _ _ _ h => h) (Or.inl ⟨by kernel_rfl, fun _ _ => by kernel_rfl⟩) hS3 ?_
          refine wpAnyH_done (by kernel_rfl) ?_ _
          simp only [put_mk, List.getElem_toArray, List.getElem_cons_succ, List.getElem_cons_zero, List.setIfInBounds_toArray, List.set_cons_succ, List.set_cons_zero]
          go_wp2
          go_ret
          exact no.out _ (fun h => HGO.out h.2.2.2.2.2.1) (grown_trans (grown_trans G6.out hq) hq2)
      · have cAb := hid (fun W (hW : ObjAt W g o) => aboutWords_no g o r W hW HN.out p2.out hab hr)
        have cWg := hid (fun W => wordsGo_nil r.kind W)
        have HAB := hid hab
        unfold relA at cAb
        clear hab
        refine wp_region_held_drew (S := (fun w' => w'.cell? ⟨w.heap.size, 0, none⟩ = some (.int .i64 r.sect) ∧ w'.cell? ⟨w.heap.size, 1, none⟩ = some (.int .i64 r.off) ∧ w'.cell? ⟨w.heap.size, 2, none⟩ = some (.int .i64 r.kind) ∧ w'.cell? ⟨w.heap.size, 3, none⟩ = some (.int .i64 r.sym) ∧ w'.cell? ⟨w.heap.size, 4, none⟩ = some (.int .i64 r.addend))) (by kernel_rfl) ⟨e0.out, e1.out, e2.out, e3.out, e4.out⟩ ?_
        intro hS
        refine wpAnyH_take (i := 0) (v := ?_) rfl (by kernel_rfl) (by kernel_rfl) (by kernel_rfl) (fun _ _ _ h => h) (Or.inl ⟨by kernel_rfl, ?_⟩) hS ?_
        rotate_left
        · intro w' _; go_simp; with_reducible rfl
        refine wpAnyH_take (i := 1) (v := ?_) rfl (by kernel_rfl) (by kernel_rfl) (by kernel_rfl) (fun _ _ _ h => h) (Or.inl ⟨by kernel_rfl, ?_⟩) hS ?_
        rotate_left
        · intro w' hw'; obtain ⟨x0, x1, x2, x3, x4⟩ := hw'; go_simp; with_reducible rfl
        refine wpAnyH_take (i := 2) (v := ?_) rfl (by kernel_rfl) (by kernel_rfl) (by kernel_rfl) (fun _ _ _ h => h) (Or.inl ⟨by kernel_rfl, ?_⟩) hS ?_
        rotate_left
        · intro w' _; go_simp; with_reducible rfl
        refine wpAnyH_take (i := 3) (v := ?_) rfl (by kernel_rfl) (by kernel_rfl) (by kernel_rfl) (fun _ _ _ h => h) (Or.inl ⟨by kernel_rfl, ?_⟩) hS ?_
        rotate_left
        · intro w' hw'; obtain ⟨x0, x1, x2, x3, x4⟩ := hw'; go_simp; with_reducible rfl
        refine wpAnyH_ready (rs := [4]) (by kernel_rfl) (by simp) ?_
        refine AllReadyH.cons rfl (fun K hK => ?_) AllReadyH.nil
        go_simp
        go_wp2_with (go_at_call 71; refine (cAb.out _ HO5.out).mono ?_; rintro e w5 ⟨rfl, hq⟩)
        refine hK.out _ _ ⟨gcell e0.out hq, gcell e1.out hq, gcell e2.out hq, gcell e3.out hq, gcell e4.out hq⟩ (fun hS2 => ?_)
        clear hK K
        refine wpAnyH_ready (rs := [5]) (by kernel_rfl) (by simp) ?_
        refine AllReadyH.cons rfl (fun K hK => ?_) AllReadyH.nil
        go_simp
        go_wp2_with (go_at_call 70; refine (cWg.out _).mono ?_; rintro e w6 ⟨rfl, hw6⟩)
        subst hw6
        refine hK.out _ _ ⟨gcell e0.out hq, gcell e1.out hq, gcell e2.out hq, gcell e3.out hq, gcell e4.out hq⟩ (fun hS3 => ?_)
        clear hK K
        refine wpAnyH_take (i := 6) (v := ?_) rfl (by kernel_rfl) (by kernel_rfl) (by kernel_rfl) (fun _ _ _ h => h) (Or.inl ⟨by kernel_rfl, ?_⟩) hS3 ?_
        rotate_left
        · intro w' _; go_simp; with_reducible rfl
        refine wpAnyH_take (i := 7) (v := undef) rfl (by kernel_rfl) (by kernel_rfl) (by kernel_rfl) (fun _ _ _ h => h) (Or.inr ⟨by kernel_rfl, rfl⟩) hS3 ?_
        refine wpAnyH_take (i := 8) (v := undef) rfl (by kernel_rfl) (by kernel_rfl) (by kernel_rfl) (fun _ _ _ h => h) (Or.inr ⟨by kernel_rfl, rfl⟩) hS3 ?_
        refine wpAnyH_take (i := 9) (v := undef) rfl (by kernel_rfl) (by kernel_rfl) (by kernel_rfl) (fun _ _ _ h => h) (Or.inr ⟨by kernel_rfl, rfl⟩) hS3 ?_
        refine wpAnyH_take (i := 10) (v := undef) rfl (by kernel_rfl) (by kernel_rfl) (by kernel_rfl) (fun _ _ _ h => h) (Or.inr ⟨by kernel_rfl, rfl⟩) hS3 ?_
        refine wpAnyH_take (i := 11) (v := .bool false) rfl (by kernel_rfl) (by kernel_rfl) (by kernel_rfl) (fun _ _ _ h => h) (Or.inl ⟨by kernel_rfl, fun _ _ => by kernel_rfl⟩) hS3 ?_
        refine wpAnyH_take (i := 12) (v := .bool false) rfl (by kernel_rfl) (by kernel_rfl) (by kernel_rfl) (fun _ _ _ h => h) (Or.inl ⟨by kernel_rfl, fun _ _ => by kernel_rfl⟩) hS3 ?_
        refine wpAnyH_done (by kernel_rfl) ?_ _
        simp only [put_mk, List.getElem_toArray, List.getElem_cons_succ, List.getElem_cons_zero, List.setIfInBounds_toArray, List.set_cons_succ, List.set_cons_zero]
        go_wp2
        go_ret
        exact no.out _ (fun h => HAB.out h.2.2.2.2.1) (grown_trans G6.out hq)
  · have HBD := hid (show BordOk o r from fun h => absurd h hk6)
    have d6 : (r.kind == 6) = false := beq_eq_false_iff_ne.2 hk6
    have K6 := hid hk6
    clear hk6 kinds
    go_wp2
    go_quiet (fail)
    go_wp2
    have B5 := HB4'.out.drewN nq
    have G5 := hid (grown_drewN G4.out nq)
    have e0 : Hid ((W4.drewN nq).drew.cell? ⟨w.heap.size, 0, none⟩ = some (.int .i64 r.sect)) := B5.cell 0
    have e1 : Hid ((W4.drewN nq).drew.cell? ⟨w.heap.size, 1, none⟩ = some (.int .i64 r.off)) := B5.cell 1
    have e2 : Hid ((W4.drewN nq).drew.cell? ⟨w.heap.size, 2, none⟩ = some (.int .i64 r.kind)) := B5.cell 2
    have e3 : Hid ((W4.drewN nq).drew.cell? ⟨w.heap.size, 3, none⟩ = some (.int .i64 r.sym)) := B5.cell 3
    have e4 : Hid ((W4.drewN nq).drew.cell? ⟨w.heap.size, 4, none⟩ = some (.int .i64 r.addend)) := B5.cell 4
    have HO5 : Hid (ObjAt (W4.drewN nq).drew g o) := ObjAt.drew (HO.out.kept G5.out)
    have HT5 : Hid (Tabs (W4.drewN nq).drew) := HT.out.grown (grown_drew G5.out)
    have G6 := hid (grown_drew G5.out)
    clear B5
    have hcr := hid (show 1 ≤ r.kind ∧ r.kind ≤ 6 from by have := p1.out; unfold KindOk at this; omega)
    by_cases hab : AboutOk o r
    · have haf := about_facts p2.out hab (wordsOf_words HW.out r.sect)
      have hoff : 0 ≤ r.off ∧ r.off ≤ 1048576 := by
        obtain ⟨x1, x2, x3⟩ := hab
        have y1 := wordsOf_small HN.out r.sect
        have y2 := span_range p2.out
        omega
      have cAb := hid (fun W (hW : ObjAt W g o) => aboutWords_yes g o r W hW HN.out p2.out hab)
      have cWg := hid (fun W ao cap (hW : Tabs W) (hI : IntsIn W ao (about o r)) => show Calls Tryd.prog 70 #[.int .i64 r.kind, .slice ao (spanI r).toNat cap] W fun e w' => Tells e (GoesP r.kind (about o r)) ∧ W.grownBy w' none from by
        rw [← haf.1]
        exact wordsGo_any r.kind ao cap (about o r) W hW hI haf.2.1 haf.2.2.1 haf.2.2.2 hcr.out (fun h => by rw [haf.1]; unfold spanI; rw [if_pos h]; rfl))
      have cSw := hid (fun W (hW : ObjAt W g o) => symbolWithin_any g o r W hW HN.out p2.out hoff.1 hoff.2)
      have HAB := hid hab
      unfold relA at cAb cSw
      clear hab haf hoff
      generalize (spanI r).toNat = sp at *
      by_cases hg : GoesP r.kind (about o r)
      · have HGO := hid hg
        clear hg
        go_region_held3 (fun w' => w'.cell? ⟨w.heap.size, 0, none⟩ = some (.int .i64 r.sect) ∧ w'.cell? ⟨w.heap.size, 1, none⟩ = some (.int .i64 r.off) ∧ w'.cell? ⟨w.heap.size, 2, none⟩ = some (.int .i64 r.kind) ∧ w'.cell? ⟨w.heap.size, 3, none⟩ = some (.int .i64 r.sym) ∧ w'.cell? ⟨w.heap.size, 4, none⟩ = some (.int .i64 r.addend))
          (go_keep)
          (first | (go_at_call 71; refine (cAb.out _ HO5.out).mono ?_; rintro e w5 ⟨ao, cap, rfl, hI, hq⟩; have s0 := gcell e0.out hq; have s1 := gcell e1.out hq; have s2 := gcell e2.out hq; have s3 := gcell e3.out hq; have s4 := gcell e4.out hq) | (go_at_call 70; refine (cWg.out _ ao cap (HT5.out.grown hq) hI).mono ?_; rintro e w6 ⟨ht6, hq2⟩; obtain rfl := tells_yes ht6 HGO.out; have z0 := gcell s0 hq2; have z1 := gcell s1 hq2; have z2 := gcell s2 hq2; have z3 := gcell s3 hq2; have z4 := gcell s4 hq2) | (go_at_call 72; refine (cSw.out _ ((HO5.out.kept hq).kept hq2)).mono ?_; rintro e w7 ⟨⟨b, rfl, hb⟩, hq3⟩; have y0 := gcell z0 hq3; have y1 := gcell z1 hq3; have y2 := gcell z2 hq3; have y3 := gcell z3 hq3; have y4 := gcell z4 hq3))
        have GF := hid (grown_trans (grown_trans (grown_trans G6.out hq) hq2) hq3)
        have HBB := hid hb
        clear hb hq hq2 hq3 s0 s1 s2 s3 s4 z0 z1 z2 z3 z4 y0 y1 y2 y3 y4 hI ht6
        go_wp2
        go_ret
        refine ⟨Tells.of ?_, GF.out⟩
        have hbb := HBB.out
        constructor
        · intro h
          refine ⟨p1.out, p2.out, p3.out, HBD.out, HAB.out, HGO.out, fun hwi => ?_⟩
          rw [hbb.2 hwi] at h
          simp at h
        · intro h
          cases b
          · rfl
          · exact absurd (hbb.1 rfl) h.2.2.2.2.2.2
      · have HGO := hid hg
        clear hg
        refine wp_region_held_drew (S := (fun w' => w'.cell? ⟨w.heap.size, 0, none⟩ = some (.int .i64 r.sect) ∧ w'.cell? ⟨w.heap.size, 1, none⟩ = some (.int .i64 r.off) ∧ w'.cell? ⟨w.heap.size, 2, none⟩ = some (.int .i64 r.kind) ∧ w'.cell? ⟨w.heap.size, 3, none⟩ = some (.int .i64 r.sym) ∧ w'.cell? ⟨w.heap.size, 4, none⟩ = some (.int .i64 r.addend))) (by kernel_rfl) ⟨e0.out, e1.out, e2.out, e3.out, e4.out⟩ ?_
        intro hS
        refine wpAnyH_take (i := 0) (v := ?_) rfl (by kernel_rfl) (by kernel_rfl) (by kernel_rfl) (fun _ _ _ h => h) (Or.inl ⟨by kernel_rfl, ?_⟩) hS ?_
        rotate_left
        · intro w' _; go_simp; with_reducible rfl
        refine wpAnyH_take (i := 1) (v := ?_) rfl (by kernel_rfl) (by kernel_rfl) (by kernel_rfl) (fun _ _ _ h => h) (Or.inl ⟨by kernel_rfl, ?_⟩) hS ?_
        rotate_left
        · intro w' hw'; obtain ⟨x0, x1, x2, x3, x4⟩ := hw'; go_simp; with_reducible rfl
        refine wpAnyH_take (i := 2) (v := ?_) rfl (by kernel_rfl) (by kernel_rfl) (by kernel_rfl) (fun _ _ _ h => h) (Or.inl ⟨by kernel_rfl, ?_⟩) hS ?_
        rotate_left
        · intro w' _; go_simp; with_reducible rfl
        refine wpAnyH_take (i := 3) (v := ?_) rfl (by kernel_rfl) (by kernel_rfl) (by kernel_rfl) (fun _ _ _ h => h) (Or.inl ⟨by kernel_rfl, ?_⟩) hS ?_
        rotate_left
        · intro w' hw'; obtain ⟨x0, x1, x2, x3, x4⟩ := hw'; go_simp; with_reducible rfl
        refine wpAnyH_ready (rs := [4]) (by kernel_rfl) (by simp) ?_
        refine AllReadyH.cons rfl (fun K hK => ?_) AllReadyH.nil
        go_simp
        go_wp2_with (go_at_call 71; refine (cAb.out _ HO5.out).mono ?_; rintro e w5 ⟨ao, cap, rfl, hI, hq⟩)
        refine hK.out _ _ ⟨gcell e0.out hq, gcell e1.out hq, gcell e2.out hq, gcell e3.out hq, gcell e4.out hq⟩ (fun hS2 => ?_)
        clear hK K
        refine wpAnyH_ready (rs := [5]) (by kernel_rfl) (by simp) ?_
        refine AllReadyH.cons rfl (fun K hK => ?_) AllReadyH.nil
        go_simp
        go_wp2_with (go_at_call 70; refine (cWg.out _ ao cap (HT5.out.grown hq) hI).mono ?_; rintro e w6 ⟨ht6, hq2⟩; obtain rfl := tells_no ht6 HGO.out)
        refine hK.out _ _ ⟨gcell (gcell e0.out hq) hq2, gcell (gcell e1.out hq) hq2, gcell (gcell e2.out hq) hq2, gcell (gcell e3.out hq) hq2, gcell (gcell e4.out hq) hq2⟩ (fun hS3 => ?_)
        clear hK K
        refine wpAnyH_take (i := 6) (v := ?_) rfl (by kernel_rfl) (by kernel_rfl) (by kernel_rfl) (fun _ _ _ h => h) (Or.inl ⟨by kernel_rfl, ?_⟩) hS3 ?_
        rotate_left
        · intro w' _; go_simp; with_reducible rfl
        refine wpAnyH_take (i := 7) (v := undef) rfl (by kernel_rfl) (by kernel_rfl) (by kernel_rfl) (fun _ _ _ h => h) (Or.inr ⟨by kernel_rfl, rfl⟩) hS3 ?_
        refine wpAnyH_take (i := 8) (v := undef) rfl (by kernel_rfl) (by kernel_rfl) (by kernel_rfl) (fun _ _ _ h => h) (Or.inr ⟨by kernel_rfl, rfl⟩) hS3 ?_
        refine wpAnyH_take (i := 9) (v := undef) rfl (by kernel_rfl) (by kernel_rfl) (by kernel_rfl) (fun _ _ _ h => h) (Or.inr ⟨by kernel_rfl, rfl⟩) hS3 ?_
        refine wpAnyH_take (i := 10) (v := undef) rfl (by kernel_rfl) (by kernel_rfl) (by kernel_rfl) (fun _ _ _ h => h) (Or.inr ⟨by kernel_rfl, rfl⟩) hS3 ?_
        refine wpAnyH_take (i := 11) (v := .bool false) rfl (by kernel_rfl) (by kernel_rfl) (by kernel_rfl) (fun _ _ _ h => h) (Or.inl ⟨by kernel_rfl, fun _ _ => by kernel_rfl⟩) hS3 ?_
        refine wpAnyH_take (i := 12) (v := .bool false) rfl (by kernel_rfl) (by kernel_rfl) (by kernel_rfl) (fun _ _ _ h => h) (Or.inl ⟨by kernel_rfl, fun _ _ => by kernel_rfl⟩) hS3 ?_
        refine wpAnyH_done (by kernel_rfl) ?_ _
        simp only [put_mk, List.getElem_toArray, List.getElem_cons_succ, List.getElem_cons_zero, List.setIfInBounds_toArray, List.set_cons_succ, List.set_cons_zero]
        go_wp2
        go_ret
        exact no.out _ (fun h => HGO.out h.2.2.2.2.2.1) (grown_trans (grown_trans G6.out hq) hq2)
    · have cAb := hid (fun W (hW : ObjAt W g o) => aboutWords_no g o r W hW HN.out p2.out hab hr)
      have cWg := hid (fun W => wordsGo_nil r.kind W)
      have HAB := hid hab
      unfold relA at cAb
      clear hab
      refine wp_region_held_drew (S := (fun w' => w'.cell? ⟨w.heap.size, 0, none⟩ = some (.int .i64 r.sect) ∧ w'.cell? ⟨w.heap.size, 1, none⟩ = some (.int .i64 r.off) ∧ w'.cell? ⟨w.heap.size, 2, none⟩ = some (.int .i64 r.kind) ∧ w'.cell? ⟨w.heap.size, 3, none⟩ = some (.int .i64 r.sym) ∧ w'.cell? ⟨w.heap.size, 4, none⟩ = some (.int .i64 r.addend))) (by kernel_rfl) ⟨e0.out, e1.out, e2.out, e3.out, e4.out⟩ ?_
      intro hS
      refine wpAnyH_take (i := 0) (v := ?_) rfl (by kernel_rfl) (by kernel_rfl) (by kernel_rfl) (fun _ _ _ h => h) (Or.inl ⟨by kernel_rfl, ?_⟩) hS ?_
      rotate_left
      · intro w' _; go_simp; with_reducible rfl
      refine wpAnyH_take (i := 1) (v := ?_) rfl (by kernel_rfl) (by kernel_rfl) (by kernel_rfl) (fun _ _ _ h => h) (Or.inl ⟨by kernel_rfl, ?_⟩) hS ?_
      rotate_left
      · intro w' hw'; obtain ⟨x0, x1, x2, x3, x4⟩ := hw'; go_simp; with_reducible rfl
      refine wpAnyH_take (i := 2) (v := ?_) rfl (by kernel_rfl) (by kernel_rfl) (by kernel_rfl) (fun _ _ _ h => h) (Or.inl ⟨by kernel_rfl, ?_⟩) hS ?_
      rotate_left
      · intro w' _; go_simp; with_reducible rfl
      refine wpAnyH_take (i := 3) (v := ?_) rfl (by kernel_rfl) (by kernel_rfl) (by kernel_rfl) (fun _ _ _ h => h) (Or.inl ⟨by kernel_rfl, ?_⟩) hS ?_
      rotate_left
      · intro w' hw'; obtain ⟨x0, x1, x2, x3, x4⟩ := hw'; go_simp; with_reducible rfl
      refine wpAnyH_ready (rs := [4]) (by kernel_rfl) (by simp) ?_
      refine AllReadyH.cons rfl (fun K hK => ?_) AllReadyH.nil
      go_simp
      go_wp2_with (go_at_call 71; refine (cAb.out _ HO5.out).mono ?_; rintro e w5 ⟨rfl, hq⟩)
      refine hK.out _ _ ⟨gcell e0.out hq, gcell e1.out hq, gcell e2.out hq, gcell e3.out hq, gcell e4.out hq⟩ (fun hS2 => ?_)
      clear hK K
      refine wpAnyH_ready (rs := [5]) (by kernel_rfl) (by simp) ?_
      refine AllReadyH.cons rfl (fun K hK => ?_) AllReadyH.nil
      go_simp
      go_wp2_with (go_at_call 70; refine (cWg.out _).mono ?_; rintro e w6 ⟨rfl, hw6⟩)
      subst hw6
      refine hK.out _ _ ⟨gcell e0.out hq, gcell e1.out hq, gcell e2.out hq, gcell e3.out hq, gcell e4.out hq⟩ (fun hS3 => ?_)
      clear hK K
      refine wpAnyH_take (i := 6) (v := ?_) rfl (by kernel_rfl) (by kernel_rfl) (by kernel_rfl) (fun _ _ _ h => h) (Or.inl ⟨by kernel_rfl, ?_⟩) hS3 ?_
      rotate_left
      · intro w' _; go_simp; with_reducible rfl
      refine wpAnyH_take (i := 7) (v := undef) rfl (by kernel_rfl) (by kernel_rfl) (by kernel_rfl) (fun _ _ _ h => h) (Or.inr ⟨by kernel_rfl, rfl⟩) hS3 ?_
      refine wpAnyH_take (i := 8) (v := undef) rfl (by kernel_rfl) (by kernel_rfl) (by kernel_rfl) (fun _ _ _ h => h) (Or.inr ⟨by kernel_rfl, rfl⟩) hS3 ?_
      refine wpAnyH_take (i := 9) (v := undef) rfl (by kernel_rfl) (by kernel_rfl) (by kernel_rfl) (fun _ _ _ h => h) (Or.inr ⟨by kernel_rfl, rfl⟩) hS3 ?_
      refine wpAnyH_take (i := 10) (v := undef) rfl (by kernel_rfl) (by kernel_rfl) (by kernel_rfl) (fun _ _ _ h => h) (Or.inr ⟨by kernel_rfl, rfl⟩) hS3 ?_
      refine wpAnyH_take (i := 11) (v := .bool false) rfl (by kernel_rfl) (by kernel_rfl) (by kernel_rfl) (fun _ _ _ h => h) (Or.inl ⟨by kernel_rfl, fun _ _ => by kernel_rfl⟩) hS3 ?_
      refine wpAnyH_take (i := 12) (v := .bool false) rfl (by kernel_rfl) (by kernel_rfl) (by kernel_rfl) (fun _ _ _ h => h) (Or.inl ⟨by kernel_rfl, fun _ _ => by kernel_rfl⟩) hS3 ?_
      refine wpAnyH_done (by kernel_rfl) ?_ _
      simp only [put_mk, List.getElem_toArray, List.getElem_cons_succ, List.getElem_cons_zero, List.setIfInBounds_toArray, List.set_cons_succ, List.set_cons_zero]
      go_wp2
      go_ret
      exact no.out _ (fun h => HAB.out h.2.2.2.2.1) (grown_trans G6.out hq)

end Go.Proofs.YtogbomihnhfaiaaDoor

namespace Go.Proofs.YtogbomihnhfaiaaDoor
open Go.RowKit

/-- a list of relocations at ao -/
def RelsIn (w : World) (ao : Option Addr) (ys : List Lk.Rel) : Prop :=
  0 < ys.length → ∃ g, ao = some ⟨g, 0, none⟩ ∧ g < w.heap.size ∧ ∀ i (h : i < ys.length), w.cell? ⟨g, i * 5, none⟩ = some (.int .i64 ys[i].sect) ∧ w.cell? ⟨g, i * 5 + 1, none⟩ = some (.int .i64 ys[i].off) ∧
    w.cell? ⟨g, i * 5 + 2, none⟩ = some (.int .i64 ys[i].kind) ∧ w.cell? ⟨g, i * 5 + 3, none⟩ = some (.int .i64 ys[i].sym) ∧ w.cell? ⟨g, i * 5 + 4, none⟩ = some (.int .i64 ys[i].addend)

theorem RelsIn.of_own {w : World} {base : Nat} {ao : Option Addr} {n cap : Nat} {ys : List Lk.Rel} (h : w.ownsRow base 48 5 (.slice ao n cap) n (ys.flatMap relV)) : RelsIn w ao ys := by
  intro h0
  have hl : (ys.flatMap relV).length = ys.length * 5 := by
    clear h h0
    induction ys with
    | nil => rfl
    | cons y t ih => rw [List.flatMap_cons, List.length_append, ih]; simp [relV]; omega
  have hn : ys.length = n := by have := h.1; omega
  have hlt := h.lt
  rcases h.2 with ⟨h1, h2⟩ | ⟨g, cap', cur, hv, _⟩
  · simp at h1; omega
  · simp only [Value.slice.injEq] at hv
    obtain ⟨rfl, _, rfl⟩ := hv
    refine ⟨g, rfl, (hlt g rfl).2, fun i hi => ?_⟩
    have q := fun j (hj : j < 5) => (h.cellAt (i * 5 + j) (by omega)).trans (flat_get relV 5 (fun _ => rfl) ys i j hi hj)
    exact ⟨q 0 (by omega), q 1 (by omega), q 2 (by omega), q 3 (by omega), q 4 (by omega)⟩

theorem RelsIn.grown {w w' : World} {ao : Option Addr} {ys : List Lk.Rel} (h : RelsIn w ao ys) (hg : w.grownBy w' none) : RelsIn w' ao ys := by
  intro h0
  obtain ⟨g, h1, h2, h3⟩ := h h0
  refine ⟨g, h1, Nat.lt_of_lt_of_le h2 hg.size, fun i hi => ?_⟩
  obtain ⟨a, b, c, d, e⟩ := h3 i hi
  exact ⟨gcell a hg, gcell b hg, gcell c hg, gcell d hg, gcell e hg⟩

def RelsOk (o : Lk.Obj) : Prop := ∀ i (h : i < o.rels.length), RelOk o o.rels[i] ∧ (∀ _ : 0 < i, FollowsP (o.rels[i - 1]'(by omega)) o.rels[i])

set_option maxHeartbeats 4000000 in
theorem validRelocs_any (g : Nat) (o : Lk.Obj) (w : World) (ht : Tabs w) (h : ObjAt w g o) (hn : Small o) (hb4 : Borders o.align) (hw : AllWords o) (hr : ∀ r ∈ o.rels, r.off ≤ 9223372036854775807) :
    Calls Tryd.prog 48 #[.pointer (some ⟨g, 0, none⟩)] w fun e w' => Tells e (RelsOk o) ∧ w.grownBy w' none := by
  obtain ⟨at_, ct, af, cf, ad, cd, aa, ca, as_, cs, ar, cr, hb, h1, h2, h3, h4, h5, h6⟩ := h.open
  have k6 := hb.cell 6
  have S := hid (RelsIn.of_own h6)
  have hns := hn.2.2.2.2.2
  have HB := hid hb
  have HO := hid h
  have HN := hid hn
  have HT := hid ht
  have HB4 := hid hb4
  have HW := hid hw
  have HR := hid hr
  clear h hn hb h1 h2 h3 h4 h5 h6 ht hb4 hw hr
  go_enter Tryd.func48, Tryd.ntmps48
  go_wp2
  go_loopw [10] (fun i wr => ∃ k : Nat, k ≤ o.rels.length ∧ i = .int .i64 k ∧ (∀ i (h : i < o.rels.length), i < k → RelOk o o.rels[i] ∧ (∀ _ : 0 < i, FollowsP (o.rels[i - 1]'(by omega)) o.rels[i])) ∧ w.grownBy wr none) (fun i _ => o.rels.length - (intOf i).toNat)
  case atStart => exact ⟨0, Nat.zero_le _, rfl, fun j _ hj => absurd hj (Nat.not_lt_zero j), World.grownBy.refl _ _⟩
  case round =>
    obtain ⟨k, hk, rfl, hall, hgr⟩ := hrel
    have HA := hid hall
    have HG := hid hgr
    clear hall hgr
    by_cases hlt : k < o.rels.length
    · obtain ⟨sg, hao, hgs, hc⟩ := S.out.grown HG.out (by omega)
      subst hao
      obtain ⟨q0, q1, q2, q3, q4⟩ := hc k hlt
      have HC := hid hc
      clear hc
      have cV := hid (fun W (hT : Tabs W) (hW : ObjAt W g o) => validReloc_any g o o.rels[k] W hT hW HN.out HB4.out HW.out (HR.out _ (List.getElem_mem hlt)))
      unfold relA at cV
      have B1 := hid (BlkAt.new wr #[.int .i64 o.rels[k].sect, .int .i64 o.rels[k].off, .int .i64 o.rels[k].kind, .int .i64 o.rels[k].sym, .int .i64 o.rels[k].addend] 48)
      have GA := hid (World.grownBy_alloc wr (.cells #[.int .i64 o.rels[k].sect, .int .i64 o.rels[k].off, .int .i64 o.rels[k].kind, .int .i64 o.rels[k].sym, .int .i64 o.rels[k].addend] 48) none)
      go_wp2_with fail
      refine (cV.out _ (HT.out.grown (grown_trans HG.out GA.out)) (HO.out.kept (grown_trans HG.out GA.out))).mono ?_
      rintro e W2 ⟨t, q⟩
      have G2 := hid (grown_trans (grown_trans HG.out GA.out) q)
      have B2 := hid (B1.out.grown q (by simp))
      have GQ := hid (grown_trans GA.out q)
      rcases t.split with ⟨rfl, p1⟩ | ⟨rfl, p1⟩ <;> clear t q
      · go_wp2
        go_ret
        exact ⟨Tells.no (fun h => p1.out (h k hlt).1), G2.out⟩
      by_cases hk0 : k = 0
      · subst hk0
        have d0 : decide ((0 : Int) < 0) = false := by simp
        go_wp2
        go_quiet (fail)
        go_wp2
        go_roundw
        case rel => exact ⟨1, by omega, rfl, fun j hj hjk => by
          have : j = 0 := by omega
          subst this
          exact ⟨p1.out, fun h => by omega⟩, grown_drewN G2.out _⟩
        case measure => simp [intOf]; omega
      · have hk1 : 1 ≤ k := by omega
        have hpl : k - 1 < o.rels.length := by omega
        have hprev := (HA.out (k - 1) hpl (by omega)).1
        have hoff : 0 ≤ (o.rels[k - 1]'hpl).off ∧ (o.rels[k - 1]'hpl).off ≤ 1048576 := by
          obtain ⟨x1, x2, x3⟩ := hprev.2.2.2.2.1
          have y1 := wordsOf_small HN.out (o.rels[k - 1]'hpl).sect
          have y2 := span_range hprev.2.1
          omega
        have cF := hid (fun W => follows_any (o.rels[k - 1]'hpl) o.rels[k] W hprev.2.1 hoff.1 hoff.2)
        have hcc := HC.out (k - 1) hpl
        generalize hpr : o.rels[k - 1]'hpl = pr at *
        have HPR := hid hpr
        clear hpr
        obtain ⟨r0, r1, r2, r3, r4⟩ := hcc
        unfold relA at cF
        have m6 := (HB.out.grown G2.out (by simp)).cell 6
        have n0 := gcell r0 GQ.out
        have n1 := gcell r1 GQ.out
        have n2 := gcell r2 GQ.out
        have n3 := gcell r3 GQ.out
        have n4 := gcell r4 GQ.out
        have c0 := B2.out.cell 0
        have c1 := B2.out.cell 1
        have c2 := B2.out.cell 2
        have c3 := B2.out.cell 3
        have c4 := B2.out.cell 4
        have M6 : Hid (W2.drew.cell? ⟨g, 6, none⟩ = some (.slice (some ⟨sg, 0, none⟩) o.rels.length cr)) := m6
        have N0 : Hid (W2.drew.cell? ⟨sg, (k - 1) * 5, none⟩ = some (.int .i64 pr.sect)) := n0
        have N1 : Hid (W2.drew.cell? ⟨sg, (k - 1) * 5 + 1, none⟩ = some (.int .i64 pr.off)) := n1
        have N2 : Hid (W2.drew.cell? ⟨sg, (k - 1) * 5 + 2, none⟩ = some (.int .i64 pr.kind)) := n2
        have N3 : Hid (W2.drew.cell? ⟨sg, (k - 1) * 5 + 3, none⟩ = some (.int .i64 pr.sym)) := n3
        have N4 : Hid (W2.drew.cell? ⟨sg, (k - 1) * 5 + 4, none⟩ = some (.int .i64 pr.addend)) := n4
        have C0 : Hid (W2.drew.cell? ⟨wr.heap.size, 0, none⟩ = some (.int .i64 o.rels[k].sect)) := c0
        have C1 : Hid (W2.drew.cell? ⟨wr.heap.size, 1, none⟩ = some (.int .i64 o.rels[k].off)) := c1
        have C2 : Hid (W2.drew.cell? ⟨wr.heap.size, 2, none⟩ = some (.int .i64 o.rels[k].kind)) := c2
        have C3 : Hid (W2.drew.cell? ⟨wr.heap.size, 3, none⟩ = some (.int .i64 o.rels[k].sym)) := c3
        have C4 : Hid (W2.drew.cell? ⟨wr.heap.size, 4, none⟩ = some (.int .i64 o.rels[k].addend)) := c4
        have hk2 : 0 < k := by omega
        have d00 : decide (0 < k) = true := by simpa using hk2
        have d0 : decide ((0 : Int) < (k : Int)) = true := by simp; omega
        have g1 : (1 : Int) ≤ (k : Int) := by omega
        have g2 : (k : Int) - 1 < (o.rels.length : Int) := by omega
        have g3 : (0 : Int) ≤ (k : Int) - 1 := by omega
        have hwk : IntKind.i64.wrap ((k : Int) - 1) = (k : Int) - 1 := IntWalk.i64_in _ ⟨by omega, by omega⟩
        have HP := hid hprev
        clear hprev hoff q0 q1 q2 q3 q4 r0 r1 r2 r3 r4 hk0
        go_wp2
        go_region_held3 (fun w' => w'.cell? ⟨g, 6, none⟩ = some (.slice (some ⟨sg, 0, none⟩) o.rels.length cr) ∧ w'.cell? ⟨wr.heap.size, 0, none⟩ = some (.int .i64 o.rels[k].sect) ∧ w'.cell? ⟨wr.heap.size, 1, none⟩ = some (.int .i64 o.rels[k].off) ∧ w'.cell? ⟨wr.heap.size, 2, none⟩ = some (.int .i64 o.rels[k].kind) ∧ w'.cell? ⟨wr.heap.size, 3, none⟩ = some (.int .i64 o.rels[k].sym) ∧ w'.cell? ⟨wr.heap.size, 4, none⟩ = some (.int .i64 o.rels[k].addend) ∧ w'.cell? ⟨sg, (k - 1) * 5, none⟩ = some (.int .i64 pr.sect) ∧ w'.cell? ⟨sg, (k - 1) * 5 + 1, none⟩ = some (.int .i64 pr.off) ∧ w'.cell? ⟨sg, (k - 1) * 5 + 2, none⟩ = some (.int .i64 pr.kind) ∧ w'.cell? ⟨sg, (k - 1) * 5 + 3, none⟩ = some (.int .i64 pr.sym) ∧ w'.cell? ⟨sg, (k - 1) * 5 + 4, none⟩ = some (.int .i64 pr.addend))
          (go_keep)
          (first | (go_at_call 59; refine (cF.out _).mono ?_; rintro e w5 ⟨⟨b, rfl, hb⟩, hq⟩; have s6 := gcell M6.out hq; have s0 := gcell C0.out hq; have s1 := gcell C1.out hq; have s2 := gcell C2.out hq; have s3 := gcell C3.out hq; have s4 := gcell C4.out hq; have t0 := gcell N0.out hq; have t1 := gcell N1.out hq; have t2 := gcell N2.out hq; have t3 := gcell N3.out hq; have t4 := gcell N4.out hq))
        have HBB := hid hb
        have GF := hid (grown_trans (grown_drew G2.out) hq)
        clear hb hq s6 s0 s1 s2 s3 s4 t0 t1 t2 t3 t4 c0 c1 c2 c3 c4 n0 n1 n2 n3 n4 m6
        cases b
        · have NF := hid (show ¬ FollowsP pr o.rels[k] from fun h => by have := HBB.out.2 h; simp at this)
          clear HBB
          go_wp2
          go_ret
          exact ⟨Tells.no (fun h => NF.out (HPR.out ▸ (h k hlt).2 hk2)), GF.out⟩
        · have YF := hid (show FollowsP pr o.rels[k] from HBB.out.1 rfl)
          clear HBB
          go_wp2
          go_roundw
          case rel => exact ⟨k + 1, by omega, by go_num, fun j hj hjk => (Nat.lt_succ_iff_lt_or_eq.1 hjk).elim (fun h => HA.out j hj h) (fun h => by subst h; exact ⟨p1.out, fun _ => by rw [HPR.out]; exact YF.out⟩), GF.out⟩
          case measure => simp [intOf]; omega
    · go_wp2
      go_ret
      exact ⟨Tells.yes fun i hi => HA.out i hi (by omega), HG.out⟩

end Go.Proofs.YtogbomihnhfaiaaDoor

namespace Go.Proofs.YtogbomihnhfaiaaDoor
open Go.RowKit

/-- a list of numbers whose array is no Writer's -/
def IntsB (w : World) (b : Nat) (ao : Option Addr) (xs : List Int) : Prop :=
  0 < xs.length → ∃ g cs, ao = some ⟨g, 0, none⟩ ∧ g ≠ b ∧ BlkAt w g cs 3 ∧ ∀ i (h : i < xs.length), cs[i]? = some (.int .i64 xs[i])
theorem IntsB.kept {w w' : World} {b : Nat} {ao : Option Addr} {xs : List Int} (h : IntsB w b ao xs) (hk : Wk b w w') : IntsB w' b ao xs := by
  intro h0
  obtain ⟨g, cs, h1, h2, h3, h4⟩ := h h0
  exact ⟨g, cs, h1, h2, hk.2 g cs _ h2 (by decide) h3, h4⟩
theorem IntsB.of_own {w : World} {base b : Nat} {ao : Option Addr} {n cap : Nat} {xs : List Int} (h : w.ownsRow base 3 1 (.slice ao n cap) n (xs.map (Value.int .i64))) (hb : ∀ g, Value.ownBlock (.slice ao n cap) = some g → g ≠ b) : IntsB w b ao xs := by
  intro h0
  have hn : xs.length = n := by have := h.1; simpa using this
  rcases h.2 with ⟨h1, h2⟩ | ⟨g, cap', cur, hv, _, hh, _, _, hcs, htk⟩
  · simp at h1; omega
  · simp only [Value.slice.injEq] at hv
    obtain ⟨rfl, _, rfl⟩ := hv
    refine ⟨g, cur, rfl, hb g rfl, hh, fun i hi => ?_⟩
    have e : (cur.toList.take (n * 1))[i]? = (xs.map (Value.int .i64))[i]? := by rw [htk]
    rw [List.getElem?_take, if_pos (by omega)] at e
    rw [← Array.getElem?_toList, e]
    simp [hi]

theorem wNumber_lit (b : Nat) (n : Int) (size : Nat) (ms : Int) (hms : ms = (size : Int)) (l : List UInt8) (w : World) (h : WrAt w b l) (hl : l.length ≤ 16777216) (hs : size ≤ 4) (hn0 : -1099511627776 ≤ n) (hn1 : n ≤ 1099511627776) :
    Calls Tryd.prog 27 #[.pointer (some ⟨b, 0, none⟩), .int .i64 n, .int .i64 ms] w fun e w' => e = .returned (.tuple #[]) ∧ WrAt w' b (l ++ Lk.le n size) ∧ Wk b w w' := by
  subst hms; exact wNumber_any b n size l w h hl hs hn0 hn1

theorem nums_snoc (xs : List Int) (k size : Nat) (h : k < xs.length) : Lk.nums (xs.take (k + 1)) size = Lk.nums (xs.take k) size ++ Lk.le xs[k] size := by
  unfold Lk.nums
  rw [List.take_succ_eq_append_getElem h, List.flatMap_append]
  simp
theorem nums_length (xs : List Int) (size : Nat) : (Lk.nums xs size).length = xs.length * size := by
  unfold Lk.nums
  induction xs with
  | nil => simp
  | cons x t ih => simp only [List.flatMap_cons, List.length_append, ih, Lk.le_length, List.length_cons, Nat.succ_mul]; omega

set_option maxHeartbeats 2000000 in
theorem writeNumbers_any (b : Nat) (ao : Option Addr) (cap size : Nat) (ms : Int) (hms : ms = (size : Int)) (xs : List Int) (l : List UInt8) (w : World) (h : WrAt w b l) (hI : IntsB w b ao xs)
    (hl : l.length ≤ 1048576) (hs : size ≤ 4) (hn : xs.length ≤ 65535) (hx : ∀ i (h : i < xs.length), -1099511627776 ≤ xs[i] ∧ xs[i] ≤ 1099511627776) :
    Calls Tryd.prog 28 #[.pointer (some ⟨b, 0, none⟩), .slice ao xs.length cap, .int .i64 ms] w fun e w' => e = .returned (.tuple #[]) ∧ WrAt w' b (l ++ Lk.nums xs size) ∧ Wk b w w' := by
  subst hms
  have H := hid h
  have HI := hid hI
  have HX := hid hx
  clear h hI hx
  go_enter Tryd.func28, Tryd.ntmps28
  go_wp2
  go_loopw [10] (fun i wr => ∃ k : Nat, k ≤ xs.length ∧ i = .int .i64 k ∧ WrAt wr b (l ++ Lk.nums (xs.take k) size) ∧ Wk b w wr) (fun i _ => xs.length - (intOf i).toNat)
  case atStart => exact ⟨0, Nat.zero_le _, rfl, by simpa [Lk.nums] using H.out, Wk.refl _ _⟩
  case round =>
    obtain ⟨k, hk, rfl, hw, hbel⟩ := hrel
    have HW := hid hw
    have HB := hid hbel
    clear hw hbel
    by_cases hlt2 : k < xs.length
    · obtain ⟨g, cs, hao, -, hbk, hc⟩ := HI.out.kept HB.out (by omega)
      subst hao
      have hck := (hbk.cell k).trans (hc k hlt2)
      clear hbk
      have hxk := HX.out k hlt2
      have hlen : (l ++ Lk.nums (xs.take k) size).length ≤ 16777216 := by
        rw [List.length_append, nums_length, List.length_take_of_le (by omega)]
        have : k * size ≤ k * 4 := Nat.mul_le_mul_left k hs
        omega
      have cN := hid (fun W h => wNumber_any b xs[k] size (l ++ Lk.nums (xs.take k) size) W h hlen hs hxk.1 hxk.2)
      clear hc hlen
      go_wp2_with fail
      refine (cN.out _ HW.out).mono ?_
      rintro e w2 ⟨rfl, hw2, hb2⟩
      have HW2 := hid hw2
      have HB2 := hid (HB.out.trans hb2)
      clear hw2 hb2
      go_wp2
      go_roundw
      case rel => exact ⟨k + 1, by omega, by go_num, by rw [nums_snoc xs k size hlt2, ← List.append_assoc]; exact HW2.out, HB2.out⟩
      case measure => simp [intOf]; omega
    · go_wp2
      go_end0
      have e : xs.take k = xs := List.take_of_length_le (by omega)
      have hw := HW.out
      rw [e] at hw
      exact ⟨rfl, hw, HB.out⟩

/-- while a Writer in b gathers: what was gathered, a variable of the call's own in block v -/
structure St3 (w : World) (b v : Nat) (t : TypeId) (cs : Array Value) (l : List UInt8) (W : World) : Prop where
  wr : WrAt W b l
  own : BlkAt W v cs t
  wk : Wk b w W

theorem St3.begin {w : World} {b : Nat} {l : List UInt8} (h : WrAt w b l) (cs : Array Value) (t : TypeId) : St3 w b w.heap.size t cs l (w.alloc (.cells cs t)) := by
  obtain ⟨ao, cap, h1, h2⟩ := h
  exact ⟨⟨ao, cap, h1.grown (World.grownBy_alloc _ _ none) (by simp), h2.alloc _⟩, BlkAt.new _ _ _, (Wk.refl b w).alloc (Nat.le_of_lt h1.lt) _⟩
theorem St3.step {w W W' : World} {b v : Nat} {t : TypeId} {cs : Array Value} {l l' : List UInt8} (h : St3 w b v t cs l W) (hv : v ≠ b) (ht : t ≠ 5) (hw : WrAt W' b l') (hk : Wk b W W') : St3 w b v t cs l' W' :=
  ⟨hw, hk.2 v cs t hv ht h.own, h.wk.trans hk⟩

set_option maxHeartbeats 2000000 in
theorem writeSymbol_any (b : Nat) (y : Lk.Sym) (l : List UInt8) (w : World) (h : WrAt w b l) (hl : l.length ≤ 1048576) (hg : Lk.goodSym y) :
    Calls Tryd.prog 29 #[.pointer (some ⟨b, 0, none⟩), .agg #[.string (bs y.name), .int .i64 y.bind, .int .i64 y.sect, .int .i64 y.off]] w fun e w' => e = .returned (.tuple #[]) ∧ WrAt w' b (l ++ Lk.symB y) ∧ Wk b w w' := by
  obtain ⟨hn, ⟨hb0, hb1⟩, ⟨hs0, hs1⟩, ho0, ho1⟩ := hg
  have hvb : w.heap.size ≠ b := by obtain ⟨_, _, h1, _⟩ := h; have := h1.lt; omega
  have S0 := hid (St3.begin h #[.string (bs y.name), .int .i64 y.bind, .int .i64 y.sect, .int .i64 y.off] 46)
  have hsz : ((bs y.name).size : Int) = (y.name.length : Int) := by rw [bs_size]
  have hsz2 : (bs y.name).size = y.name.length := bs_size _
  have c1 := hid (fun W (h : WrAt W b l) => wNumber_lit b ((bs y.name).size : Int) 1 1 rfl l W h (by omega) (by omega) (by omega) (by omega))
  have c2 := hid (fun W (h : WrAt W b (l ++ Lk.le y.name.length 1)) => wText_any b (bs y.name) (l ++ Lk.le y.name.length 1) W h (by rw [List.length_append, Lk.le_length]; omega) (by omega))
  have c3 := hid (fun W (h : WrAt W b (l ++ Lk.le y.name.length 1 ++ y.name)) => wNumber_lit b y.bind 1 1 rfl (l ++ Lk.le y.name.length 1 ++ y.name) W h (by rw [List.length_append, List.length_append, Lk.le_length]; omega) (by omega) (by omega) (by omega))
  have c4 := hid (fun W (h : WrAt W b (l ++ Lk.le y.name.length 1 ++ y.name ++ Lk.le y.bind 1)) => wNumber_lit b y.sect 1 1 rfl (l ++ Lk.le y.name.length 1 ++ y.name ++ Lk.le y.bind 1) W h (by rw [List.length_append, List.length_append, List.length_append, Lk.le_length, Lk.le_length]; omega) (by omega) (by omega) (by omega))
  have c5 := hid (fun W (h : WrAt W b (l ++ Lk.le y.name.length 1 ++ y.name ++ Lk.le y.bind 1 ++ Lk.le y.sect 1)) => wNumber_lit b y.off 2 2 rfl (l ++ Lk.le y.name.length 1 ++ y.name ++ Lk.le y.bind 1 ++ Lk.le y.sect 1) W h (by rw [List.length_append, List.length_append, List.length_append, List.length_append, Lk.le_length, Lk.le_length, Lk.le_length]; omega) (by omega) (by omega) (by omega))
  have HS := hid hsz
  have HSL := hid (sl_bs y.name)
  clear h hsz hsz2
  go_enter Tryd.func29, Tryd.ntmps29
  go_wp2_with fail
  refine Calls.at_world (St3 w b w.heap.size 46 #[.string (bs y.name), .int .i64 y.bind, .int .i64 y.sect, .int .i64 y.off] l) S0.out ?_
  intro W1 s1
  refine (c1.out W1 s1.wr).mono ?_
  rintro e W2 ⟨rfl, hw, hk⟩
  rw [HS.out] at hw
  have S2 := hid (s1.step hvb (by decide) hw hk)
  have k0 := S2.out.own.cell 0
  clear hw hk s1
  go_wp2_with fail
  refine (c2.out W2 S2.out.wr).mono ?_
  rintro e W3 ⟨rfl, hw, hk⟩
  rw [HSL.out] at hw
  have S3 := hid (S2.out.step hvb (by decide) hw hk)
  have k1 := S3.out.own.cell 1
  clear hw hk k0
  go_wp2_with fail
  refine (c3.out W3 S3.out.wr).mono ?_
  rintro e W4 ⟨rfl, hw, hk⟩
  have S4 := hid (S3.out.step hvb (by decide) hw hk)
  have k2 := S4.out.own.cell 2
  clear hw hk k1
  go_wp2_with fail
  refine (c4.out W4 S4.out.wr).mono ?_
  rintro e W5 ⟨rfl, hw, hk⟩
  have S5 := hid (S4.out.step hvb (by decide) hw hk)
  have k3 := S5.out.own.cell 3
  clear hw hk k2
  go_wp2_with fail
  refine (c5.out W5 S5.out.wr).mono ?_
  rintro e W6 ⟨rfl, hw, hk⟩
  have S6 := hid (S5.out.step hvb (by decide) hw hk)
  clear hw hk k3
  go_wp2
  go_end0
  refine ⟨rfl, ?_, S6.out.wk⟩
  have := S6.out.wr
  simpa [Lk.symB] using this

end Go.Proofs.YtogbomihnhfaiaaDoor

namespace Go.Proofs.YtogbomihnhfaiaaDoor
open Go.RowKit

/-- the number that n bytes from p on say; noughts stand for what is not there -/
def atL (l : List UInt8) (p : Nat) : Nat → Int
  | 0 => 0
  | n + 1 => ((l.getD p 0).toNat : Int) + 256 * atL l (p + 1) n

theorem atL_range (l : List UInt8) (p n : Nat) : 0 ≤ atL l p n ∧ atL l p n < (256 : Int) ^ n := by
  induction n generalizing p with
  | zero => simp [atL]
  | succ n ih =>
    have h := ih (p + 1)
    have hb : (l.getD p 0).toNat < 256 := (l.getD p 0).toNat_lt
    simp only [atL, Int.pow_succ]
    omega

theorem sl_getD (s : ByteArray) (k : Nat) (h : k < s.size) : ((sl s).getD k 0) = s[k] := by
  have h' : k < (sl s).length := by rw [sl_length]; exact h
  rw [List.getD_eq_getElem?_getD, List.getElem?_eq_getElem h']
  rfl
theorem sl_getD_none (s : ByteArray) (k : Nat) (h : s.size ≤ k) : ((sl s).getD k 0) = 0 := by
  rw [List.getD_eq_getElem?_getD, List.getElem?_eq_none (by rw [sl_length]; exact h)]
  rfl

set_option maxHeartbeats 1000000 in
theorem at_any (s : ByteArray) (p n : Nat) (w : World) (hs : s.size ≤ 1048576) (hp : p ≤ 16777216) (hn : n ≤ 4) :
    Calls Tryd.prog 15 #[.string s, .int .i64 p, .int .i64 n] w fun e w' => e = .returned (.int .i64 (atL (sl s) p n)) ∧ w' = w := by
  go_enter Tryd.func15, Tryd.ntmps15
  go_wp2
  go_loop [7, 8] (fun v i => ∃ k : Nat, k ≤ n ∧ i = .int .i64 ((k : Int) - 1) ∧ v = .int .i64 (atL (sl s) (p + k) (n - k))) (fun _ i => (intOf i + 1).toNat)
  case atStart => exact ⟨n, Nat.le_refl _, rfl, by simp [atL]⟩
  case round =>
    obtain ⟨k, hk, rfl, rfl⟩ := hrel
    have hr := atL_range (sl s) (p + k) (n - k)
    have hpw := pow_le4 (n - k) (by omega)
    cases k with
    | zero =>
      go_wp2
      go_ret
      exact ⟨rfl, rfl⟩
    | succ m =>
      have e1 : ((m + 1 : Nat) : Int) - 1 = (m : Int) := by omega
      rw [e1]
      have hr2 : atL (sl s) (p + (m + 1)) (n - (m + 1)) < 4294967296 := by omega
      have hr0 := hr.1
      have HS := hid (show atL (sl s) (p + m) (n - m) = ((sl s).getD (p + m) 0).toNat + 256 * atL (sl s) (p + (m + 1)) (n - (m + 1)) from by
        have e : n - m = (n - (m + 1)) + 1 := by omega
        rw [e]
        rfl)
      generalize atL (sl s) (p + (m + 1)) (n - (m + 1)) = v at *
      have d0 : decide ((0 : Int) ≤ (p : Int) + (m : Int)) = true := by simp; omega
      clear hr hpw e1
      by_cases hlt : p + m < s.size
      · have g1 : (p : Int) + (m : Int) < (s.size : Int) := by omega
        have HB := hid (sl_getD s (p + m) hlt)
        go_wp2
        go_round
        case rel =>
          refine ⟨m, by omega, rfl, ?_⟩
          have hb : ((s[p + m]'hlt).toNat : Int) < 256 := by have := (s[p + m]'hlt).toNat_lt; omega
          rw [HS.out, HB.out, IntWalk.wrap64_in ((s[p + m]'hlt).toNat : Int) ⟨by omega, by omega⟩, IntWalk.wrap64_in _ ⟨by omega, by omega⟩, Int.add_comm]
        case measure => simp [intOf]
      · have g1 : (s.size : Int) ≤ (p : Int) + (m : Int) := by omega
        have HB := hid (sl_getD_none s (p + m) (by omega))
        go_wp2
        go_round
        case rel => exact ⟨m, by omega, rfl, by rw [HS.out, HB.out]; simp⟩
        case measure => simp [intOf]

theorem at_lit (s : ByteArray) (p n : Nat) (mp mn : Int) (hmp : mp = (p : Int)) (hmn : mn = (n : Int)) (w : World) (hs : s.size ≤ 1048576) (hp : p ≤ 16777216) (hn : n ≤ 4) :
    Calls Tryd.prog 15 #[.string s, .int .i64 mp, .int .i64 mn] w fun e w' => e = .returned (.int .i64 (atL (sl s) p n)) ∧ w' = w := by
  subst hmp hmn; exact at_any s p n w hs hp hn

end Go.Proofs.YtogbomihnhfaiaaDoor

namespace Go.Proofs.YtogbomihnhfaiaaDoor
open Go.RowKit

/-- the bytes from p on, n of them, as many as there are -/
def cutL (l : List UInt8) (p n : Nat) : List UInt8 := (l.drop p).take n

set_option maxHeartbeats 1000000 in
theorem cut_any (s : ByteArray) (p n : Nat) (w : World) (hs : s.size ≤ 1048576) (hp : p ≤ 16777216) (hn : n ≤ 16777216) :
    Calls Tryd.prog 16 #[.string s, .int .i64 p, .int .i64 n] w fun e w' => e = .returned (.string (bs (cutL (sl s) p n))) ∧ w' = w := by
  have hsz := hid (sl_length s)
  by_cases h1 : s.size < p
  · have C := hid (show cutL (sl s) p n = [] from by unfold cutL; rw [List.drop_of_length_le (by rw [hsz.out]; omega)]; simp)
    have g1 : (s.size : Int) < (p : Int) := by omega
    by_cases h2 : 0 < n
    · have g2 : (0 : Int) < (n : Int) := by omega
      go_enter Tryd.func16, Tryd.ntmps16
      go_wp2
      go_ret
      exact ⟨ret_str (by rw [C.out]; rfl), rfl⟩
    · have e : n = 0 := by omega
      subst e
      go_enter Tryd.func16, Tryd.ntmps16
      go_wp2
      go_ret
      exact ⟨ret_str (by rw [C.out]; rfl), rfl⟩
  · have g1 : (p : Int) ≤ (s.size : Int) := by omega
    by_cases h2 : s.size - p < n
    · have g2 : (s.size : Int) - (p : Int) < (n : Int) := by omega
      go_enter Tryd.func16, Tryd.ntmps16
      go_wp2
      go_ret
      refine ⟨ret_str ?_, rfl⟩
      rw [extract_bs]
      unfold cutL
      congr 1
      rw [List.take_of_length_le (by rw [List.length_drop, hsz.out]; omega), List.take_of_length_le (by rw [List.length_drop, hsz.out]; omega)]
    · have g2 : (n : Int) ≤ (s.size : Int) - (p : Int) := by omega
      go_enter Tryd.func16, Tryd.ntmps16
      go_wp2
      go_ret
      refine ⟨ret_str ?_, rfl⟩
      rw [extract_bs, Nat.add_sub_cancel_left]
      rfl

/-- n words from p on -/
def numsAt (l : List UInt8) (p : Nat) : Nat → List Int
  | 0 => []
  | n + 1 => numsAt l p n ++ [atL l (p + 4 * n) 4]
theorem numsAt_length (l : List UInt8) (p n : Nat) : (numsAt l p n).length = n := by
  induction n with
  | zero => rfl
  | succ n ih => simp [numsAt, ih]

set_option maxHeartbeats 1000000 in
theorem numbers_any (s : ByteArray) (p n : Nat) (w : World) (hs : s.size ≤ 1048576) (hp : p ≤ 8388608) (hn : n ≤ 65535) :
    Calls Tryd.prog 17 #[.string s, .int .i64 p, .int .i64 n] w fun e w' => ∃ v, e = .returned v ∧ w'.ownsRow w.heap.size 3 1 v (min n 1201) ((numsAt (sl s) p (min n 1201)).map (Value.int .i64)) ∧ w.grownBy w' none := by
  obtain ⟨i0, hi, hz0, hz1, hz2⟩ := info_parts Tryd.infoInt
  go_enter Tryd.func17, Tryd.ntmps17
  go_wp2
  go_loopw [7, 8] (fun v i wr => ∃ k : Nat, k ≤ n ∧ k ≤ 1201 ∧ i = .int .i64 k ∧ wr.ownsRow w.heap.size 3 1 v k ((numsAt (sl s) p k).map (Value.int .i64)) ∧ w.grownBy wr none) (fun _ i _ => n - (intOf i).toNat)
  case atStart => exact ⟨0, Nat.zero_le _, Nat.zero_le _, rfl, World.ownsRow_nil _ _ _ _, World.grownBy.refl _ _⟩
  case round =>
    obtain ⟨k, hk, hk2, rfl, hown, hgr⟩ := hrel
    have HG := hid hgr
    have hsz := hgr.size
    clear hgr
    by_cases hlt : k < n ∧ k < 1201
    · obtain ⟨hlt1, hlt2⟩ := hlt
      have g1 : (k : Int) < (n : Int) := by omega
      have g2 : (k : Int) < 1201 := by omega
      have cA := hid (fun W => at_lit s (p + 4 * k) 4 ((p : Int) + 4 * (k : Int)) 4 (by omega) rfl W hs (by omega) (by omega))
      go_wp2_with fail
      refine (cA.out _).mono ?_
      rintro e w1 ⟨rfl, rfl⟩
      have HX := hid (show numsAt (sl s) p (k + 1) = numsAt (sl s) p k ++ [atL (sl s) (p + 4 * k) 4] from rfl)
      generalize atL (sl s) (p + 4 * k) 4 = x at *
      go_wp2_with (at_builtin; refine wpList_append_own _ rfl _ _ 38 rfl w.heap.size 3 i0 (.int .i64 0) 1 8 Tryd.underlying38 hi hz0 hz1 hz2 rfl (by decide) _ _ _ rfl (hown.alloc _) ⟨w1.heap.size, 0, none⟩ 1 1 [.int .i64 x] rfl rfl (cell_one_new _ _ _) (by intro u hu; simp at hu; subst hu; rfl) (by unfold maxLen; omega) (by omega) (by simp; omega) ?_; intro v' w3 hown' hgrow _)
      have G3 := hid (show w.grownBy w3 none from ⟨hgrow.os.trans HG.out.os, hgrow.tape.trans HG.out.tape, hgrow.output.trans HG.out.output, by have := hgrow.size; simp at this; omega, fun i hi' _ =>
        (hgrow.block i (by simp; omega) (fun e => by have := (hown.lt i e.symm).1; omega)).trans ((Below.heap_alloc _ _ i (by omega)).trans (HG.out.block i hi' (by simp)))⟩)
      clear hgrow hown
      go_wp2
      go_roundw
      case rel => exact ⟨k + 1, by omega, by omega, by go_num, by rw [HX.out]; simpa using hown', G3.out⟩
      case measure => simp [intOf]; omega
    · have hmin : min n 1201 = k := by omega
      have HM := hid hmin
      by_cases hlt1 : k < n
      · have g1 : decide ((k : Int) < (n : Int)) = true := by simp; omega
        have g2 : decide ((k : Int) < 1201) = false := by simp; omega
        clear hmin
        go_wp2
        go_ret
        rw [HM.out]
        exact ⟨_, rfl, hown, HG.out⟩
      · have g1 : decide ((k : Int) < (n : Int)) = false := by simp; omega
        clear hmin
        go_wp2
        go_ret
        rw [HM.out]
        exact ⟨_, rfl, hown, HG.out⟩

end Go.Proofs.YtogbomihnhfaiaaDoor
