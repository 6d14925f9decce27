/- Walks over the document's answer: isReloc, the first. -/
import Derived.Test.YtafjgogdeinpcaaDoorGJ
namespace Go.Proofs.YtafjgogdeinpcaaDoor
open Go.RowKit

set_option maxRecDepth 100000 in
set_option maxHeartbeats 16000000 in
theorem isReloc_first_no (g B : Nat) (o : Lk.Obj) (at_ : Option Addr) (ct : Nat) (af : Option Addr) (cf : Nat) (ad : Option Addr) (cd : Nat) (Z : Nat) (w : World) (h : ObjAt w g o) (hs : SectsAt w B o at_ ct af cf ad cd Z) (hn : Small o) (hb4 : Borders o.align) (hw : AllWords o)
    (hgr : ∀ r ∈ o.rels, r.off ≤ 9223372036854775807) (hk : 0 < o.rels.length) (hpre : ¬ (((1 ≤ (o.rels[0]'hk).sect ∧ (o.rels[0]'hk).sect ≤ 3) ∧ 0 ≤ (o.rels[0]'hk).off ∧ (o.rels[0]'hk).off % 4 = 0) ∧ 1 ≤ (o.rels[0]'hk).kind ∧ (o.rels[0]'hk).kind ≤ 6)) :
    Calls Tryd.prog 37 #[.pointer (some ⟨g, 0, none⟩), .slice (some ⟨B, 0, none⟩) 5 5, .int .i64 0] w fun e w' => Tells e (RelAt o 0 hk) ∧ w.grownBy w' none := by
  have HPRE := hid hpre
  clear hpre
  obtain ⟨_, _, _, _, _, _, aa, ca, as_, cs, ar, cr, hb, -, -, -, h4, h5, h6⟩ := h.open
  have hnr := hn.2.2.2.2.2
  have hns := hn.2.2.2.2.1
  obtain ⟨rg, hao, hgs, hc⟩ := RelsIn.of_own h6 (by omega)
  subst hao
  obtain ⟨q0, q1, q2, q3, q4⟩ := hc 0 hk
  simp only [Nat.zero_mul, Nat.zero_add] at q0 q1 q2 q3 q4
  have k6 := hb.cell 6
  have S := hid (SymsIn.of_own h5)
  have hb4l := hb4.1
  obtain ⟨ga, offa, haa, hca⟩ := IntsIn.of_own h4 (by omega)
  subst haa
  have HCA := hid hca
  have HB4 := hid hb4
  have hcapa := own_cap h4
  have HB := hid hb
  have HS := hid hs
  have HW := hid hw
  have hsm := hid (fun sect => wordsOf_small hn sect)
  have f3 := hgr _ (List.getElem_mem hk)
  have HQ := hid (show RelAt o 0 hk ↔ RelOk o (o.rels[0]'hk) from ⟨fun h => h.1, fun h => ⟨h, fun h => absurd h (Nat.lt_irrefl _)⟩⟩)
  generalize RelAt o 0 hk = Q at *
  have g1 : (0 : Int) < (o.rels.length : Int) := by omega
  generalize o.rels[0]'hk = r at *
  have HAF := hid (fun (a : AddendOk r) (b : AboutOk o r) (c : Words (wordsOf o r.sect)) => about_facts a b c)
  have cC := hid (fun W (a : AddendOk r) => covers_any r W a.six)
  have HSP := hid (fun (a : AddendOk r) => span_range a)
  have HAB := hid (show AboutOk o r ↔ 0 ≤ r.off ∧ r.off % 4 = 0 ∧ r.off / 4 + spanI r ≤ (wordsOf o r.sect).length from Iff.rfl)
  have HABL := hid (show about o r = ((wordsOf o r.sect).drop (r.off / 4).toNat).take (spanI r).toNat from rfl)
  have HWI := hid (show WithinP o r ↔ ∃ i, ∃ h : i < o.syms.length, o.syms[i].sect = r.sect ∧ r.off < o.syms[i].off ∧ o.syms[i].off < r.off + 4 * spanI r from Iff.rfl)
  have HSI := hid (show SymIx o r ↔ if r.kind = 6 then r.sym = 0 else 0 ≤ r.sym ∧ r.sym < o.syms.length from Iff.rfl)
  have HBO := hid (show BordOk o r ↔ (r.kind = 6 → r.addend + 4 ≤ borderI (o.align.getD (r.sect.toNat - 1) 0)) from Iff.rfl)
  have HKO := hid (show KindOk r ↔ ((r.sect = 1 ∨ r.sect = 2) ∧ 1 ≤ r.kind ∧ r.kind ≤ 6) ∨ (r.sect = 3 ∧ r.kind = 1) from Iff.rfl)
  have HAO := hid (show AddendOk r ↔ if r.kind = 1 ∨ r.kind = 5 then -2048 ≤ r.addend ∧ r.addend ≤ 2047 else if r.kind = 6 then r.addend = 4 ∨ r.addend = 12 else r.addend = 0 from Iff.rfl)
  have HRO := hid (show RelOk o r ↔ KindOk r ∧ AddendOk r ∧ SymIx o r ∧ BordOk o r ∧ AboutOk o r ∧ GoesP r.kind (about o r) ∧ ¬ WithinP o r from Iff.rfl)
  generalize RelOk o r = RO at *
  generalize SymIx o r = SI at *
  generalize BordOk o r = BO at *
  generalize KindOk r = KO at *
  generalize AddendOk r = AO at *
  generalize AboutOk o r = AB at *
  generalize WithinP o r = WI at *
  generalize about o r = ab at *
  have HK2 := hid (show r.kind = 4 ∨ r.kind = 5 → spanI r = 2 from fun h => if_pos h)
  generalize spanI r = sp at *
  unfold relA at cC
  obtain ⟨sect, off, kind, sym, addend⟩ := r
  simp only at *
  have no : Hid (∀ W, (¬ Q) → w.grownBy W none → Tells (.returned (.bool false)) Q ∧ w.grownBy W none) := fun W a b => ⟨Tells.no a, b⟩
  have B0 := BlkAt.new w #[.int .i64 sect, .int .i64 off, .int .i64 kind, .int .i64 sym, .int .i64 addend] 48
  have HB0 := hid B0
  have G0 := hid (World.grownBy_alloc w (.cells #[.int .i64 sect, .int .i64 off, .int .i64 kind, .int .i64 sym, .int .i64 addend] 48) none)
  clear h hs hn h4 h5 h6 hb hb4 hw hgr hca hc B0
  go_enter Tryd.func37, Tryd.ntmps37
  by_cases c : sect < 1
  · have d : decide (sect < 1) = true := by simp; omega
    go_wp2
    go_ret
    exact no.out _ (fun h => by have h2 := HRO.out.1 (HQ.out.1 h); have h3 := HKO.out.1 h2.1; omega) G0.out
  have n0 : decide (sect < 1) = false := by simp; omega
  have m0 : ¬ (sect < 1) := c
  clear c
  by_cases c : 3 < sect
  · have d : decide (3 < sect) = true := by simp; omega
    go_wp2
    go_ret
    exact no.out _ (fun h => by have h2 := HRO.out.1 (HQ.out.1 h); have h3 := HKO.out.1 h2.1; omega) G0.out
  have n1 : decide (3 < sect) = false := by simp; omega
  have m1 : ¬ (3 < sect) := c
  clear c
  by_cases c : kind < 1
  · have d : decide (kind < 1) = true := by simp; omega
    go_wp2
    go_ret
    exact no.out _ (fun h => by have h2 := HRO.out.1 (HQ.out.1 h); have h3 := HKO.out.1 h2.1; omega) G0.out
  have n2 : decide (kind < 1) = false := by simp; omega
  have m2 : ¬ (kind < 1) := c
  clear c
  by_cases c : 6 < kind
  · have d : decide (6 < kind) = true := by simp; omega
    go_wp2
    go_ret
    exact no.out _ (fun h => by have h2 := HRO.out.1 (HQ.out.1 h); have h3 := HKO.out.1 h2.1; omega) G0.out
  have n3 : decide (6 < kind) = false := by simp; omega
  have m3 : ¬ (6 < kind) := c
  clear c
  by_cases c : off < 0
  · have d : decide (off < 0) = true := by simp; omega
    go_wp2
    go_ret
    exact no.out _ (fun h => by have h2 := HRO.out.1 (HQ.out.1 h); have h3 := HAB.out.1 h2.2.2.2.2.1; omega) G0.out
  have n4 : decide (off < 0) = false := by simp; omega
  have m4 : ¬ (off < 0) := c
  clear c
  have m5 : 0 ≤ off := by omega
  by_cases c : off % 4 = 0
  rotate_left
  · have d : (off % 4 == 0) = false := beq_eq_false_iff_ne.2 c
    have CC := hid c
    clear c
    go_wp2
    go_ret
    exact no.out _ (fun h => by have h2 := HRO.out.1 (HQ.out.1 h); exact CC.out (HAB.out.1 h2.2.2.2.2.1).2.1) G0.out
  have n5 : (off % 4 == 0) = true := beq_iff_eq.2 c
  have C5 := hid c
  exact absurd ⟨⟨⟨by omega, by omega⟩, m5, C5.out⟩, by omega, by omega⟩ HPRE.out

end Go.Proofs.YtafjgogdeinpcaaDoor
