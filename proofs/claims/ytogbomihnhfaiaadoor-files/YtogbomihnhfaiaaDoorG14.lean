/- Walks over the document's answer: isReloc, a later one. -/
import Derived.Test.YtogbomihnhfaiaaDoorG09
namespace Go.Proofs.YtogbomihnhfaiaaDoor
open Go.RowKit

set_option maxRecDepth 100000 in
set_option maxHeartbeats 16000000 in
theorem isReloc_later_five (g B j : Nat) (o : Lk.Obj) (at_ : Option Addr) (ct : Nat) (af : Option Addr) (cf : Nat) (ad : Option Addr) (cd : Nat) (Z : Nat) (w : World) (h : ObjAt w g o) (hs : SectsAt w B o at_ ct af cf ad cd Z) (hn : Small o) (hb4 : Borders o.align) (hw : AllWords o)
    (hgr : ∀ r ∈ o.rels, r.off ≤ 9223372036854775807) (hk : (j + 1) < o.rels.length) (hprev : RelOk o (o.rels[j]'(by omega))) (hpre : (1 ≤ (o.rels[j + 1]'hk).sect ∧ (o.rels[j + 1]'hk).sect ≤ 3) ∧ 0 ≤ (o.rels[j + 1]'hk).off ∧ (o.rels[j + 1]'hk).off % 4 = 0) (hkd : (o.rels[j + 1]'hk).kind = 5) :
    Calls Tryd.prog 37 #[.pointer (some ⟨g, 0, none⟩), .slice (some ⟨B, 0, none⟩) 5 5, .int .i64 ((j + 1 : Nat) : Int)] w fun e w' => Tells e (RelAt o (j + 1) hk) ∧ w.grownBy w' none := by
  have HPRE := hid hpre
  have HKD := hid hkd
  clear hpre hkd
  obtain ⟨_, _, _, _, _, _, aa, ca, as_, cs, ar, cr, hb, -, -, -, h4, h5, h6⟩ := h.open
  have hnr := hn.2.2.2.2.2
  have hns := hn.2.2.2.2.1
  obtain ⟨rg, hao, hgs, hc⟩ := RelsIn.of_own h6 (by omega)
  subst hao
  obtain ⟨q0, q1, q2, q3, q4⟩ := hc (j + 1) hk
  have k6 := hb.cell 6
  have S := hid (SymsIn.of_own h5)
  have hb4l := hb4.1
  obtain ⟨ga, offa, haa, hca⟩ := IntsIn.of_own h4 (by omega)
  subst haa
  have HCA := hid hca
  have HB4 := hid hb4
  have hcapa := own_cap h4
  have HB := hid hb
  have HS := hid hs
  have HW := hid hw
  have hsm := hid (fun sect => wordsOf_small hn sect)
  have f3 := hgr _ (List.getElem_mem hk)
  have hkj : j < o.rels.length := by omega
  have HP := hid (hc j hkj)
  have hpa := hprev.2.1
  have fp3 : 0 ≤ (o.rels[j]'hkj).off ∧ (o.rels[j]'hkj).off ≤ 1048576 := by
    have h1 := hprev.2.2.2.2.1
    have h2 := wordsOf_small hn (o.rels[j]'hkj).sect
    have h3 := span_range hpa
    unfold AboutOk at h1
    omega
  have HQ := hid (show RelAt o (j + 1) hk ↔ RelOk o (o.rels[j + 1]'hk) ∧ FollowsP (o.rels[j]'hkj) (o.rels[j + 1]'hk) from ⟨fun h => ⟨h.1, h.2 (Nat.succ_pos j)⟩, fun h => ⟨h.1, fun _ => h.2⟩⟩)
  generalize RelAt o (j + 1) hk = Q at *
  generalize o.rels[j]'hkj = p at *
  have hpsp := span_range hpa
  have cP := hid (fun W => covers_any p W hpa.six)
  have HFP := hid (fun r => show FollowsP p r ↔ if r.sect = p.sect then p.off + 4 * spanI p ≤ r.off else p.sect < r.sect from Iff.rfl)
  generalize FollowsP p = FP at *
  generalize spanI p = psp at *
  obtain ⟨psect, poff, pkind, psym, padd⟩ := p
  unfold relA at cP
  simp only at *
  have g1 : (j : Int) + 1 < (o.rels.length : Int) := by omega
  have g2 : (j : Int) < (o.rels.length : Int) := by omega
  clear hprev hpa
  generalize o.rels[(j + 1)]'hk = r at *
  have HAF := hid (fun (a : AddendOk r) (b : AboutOk o r) (c : Words (wordsOf o r.sect)) => about_facts a b c)
  have cC := hid (fun W (a : AddendOk r) => covers_any r W a.six)
  have HSP := hid (fun (a : AddendOk r) => span_range a)
  have HAB := hid (show AboutOk o r ↔ 0 ≤ r.off ∧ r.off % 4 = 0 ∧ r.off / 4 + spanI r ≤ (wordsOf o r.sect).length from Iff.rfl)
  have HABL := hid (show about o r = ((wordsOf o r.sect).drop (r.off / 4).toNat).take (spanI r).toNat from rfl)
  have HWI := hid (show WithinP o r ↔ ∃ i, ∃ h : i < o.syms.length, o.syms[i].sect = r.sect ∧ r.off < o.syms[i].off ∧ o.syms[i].off < r.off + 4 * spanI r from Iff.rfl)
  have HSI := hid (show SymIx o r ↔ if r.kind = 6 then r.sym = 0 else 0 ≤ r.sym ∧ r.sym < o.syms.length from Iff.rfl)
  have HBO := hid (show BordOk o r ↔ (r.kind = 6 → r.addend + 4 ≤ borderI (o.align.getD (r.sect.toNat - 1) 0)) from Iff.rfl)
  have HKO := hid (show KindOk r ↔ ((r.sect = 1 ∨ r.sect = 2) ∧ 1 ≤ r.kind ∧ r.kind ≤ 6) ∨ (r.sect = 3 ∧ r.kind = 1) from Iff.rfl)
  have HAO := hid (show AddendOk r ↔ if r.kind = 1 ∨ r.kind = 5 then -2048 ≤ r.addend ∧ r.addend ≤ 2047 else if r.kind = 6 then r.addend = 4 ∨ r.addend = 12 else r.addend = 0 from Iff.rfl)
  have HRO := hid (show RelOk o r ↔ KindOk r ∧ AddendOk r ∧ SymIx o r ∧ BordOk o r ∧ AboutOk o r ∧ GoesP r.kind (about o r) ∧ ¬ WithinP o r from Iff.rfl)
  have HFQ := hid (HFP.out r)
  generalize FP r = FQ at *
  clear HFP
  generalize RelOk o r = RO at *
  generalize SymIx o r = SI at *
  generalize BordOk o r = BO at *
  generalize KindOk r = KO at *
  generalize AddendOk r = AO at *
  generalize AboutOk o r = AB at *
  generalize WithinP o r = WI at *
  generalize about o r = ab at *
  have HK2 := hid (show r.kind = 4 ∨ r.kind = 5 → spanI r = 2 from fun h => if_pos h)
  generalize spanI r = sp at *
  unfold relA at cC
  obtain ⟨sect, off, kind, sym, addend⟩ := r
  simp only at *
  have no : Hid (∀ W, (¬ Q) → w.grownBy W none → Tells (.returned (.bool false)) Q ∧ w.grownBy W none) := fun W a b => ⟨Tells.no a, b⟩
  have B0 := BlkAt.new w #[.int .i64 sect, .int .i64 off, .int .i64 kind, .int .i64 sym, .int .i64 addend] 48
  have HB0 := hid B0
  have G0 := hid (World.grownBy_alloc w (.cells #[.int .i64 sect, .int .i64 off, .int .i64 kind, .int .i64 sym, .int .i64 addend] 48) none)
  clear h hs hn h4 h5 h6 hb hb4 hw hgr hca hc B0
  go_enter Tryd.func37, Tryd.ntmps37
  by_cases c : sect < 1
  · have d : decide (sect < 1) = true := by simp; omega
    have := HPRE.out
    have := HKD.out
    omega
  have n0 : decide (sect < 1) = false := by simp; omega
  have m0 : ¬ (sect < 1) := c
  clear c
  by_cases c : 3 < sect
  · have d : decide (3 < sect) = true := by simp; omega
    have := HPRE.out
    have := HKD.out
    omega
  have n1 : decide (3 < sect) = false := by simp; omega
  have m1 : ¬ (3 < sect) := c
  clear c
  by_cases c : kind < 1
  · have d : decide (kind < 1) = true := by simp; omega
    have := HPRE.out
    have := HKD.out
    omega
  have n2 : decide (kind < 1) = false := by simp; omega
  have m2 : ¬ (kind < 1) := c
  clear c
  by_cases c : 6 < kind
  · have d : decide (6 < kind) = true := by simp; omega
    have := HPRE.out
    have := HKD.out
    omega
  have n3 : decide (6 < kind) = false := by simp; omega
  have m3 : ¬ (6 < kind) := c
  clear c
  by_cases c : off < 0
  · have d : decide (off < 0) = true := by simp; omega
    have := HPRE.out
    have := HKD.out
    omega
  have n4 : decide (off < 0) = false := by simp; omega
  have m4 : ¬ (off < 0) := c
  clear c
  have m5 : 0 ≤ off := by omega
  by_cases c : off % 4 = 0
  rotate_left
  · have d : (off % 4 == 0) = false := beq_eq_false_iff_ne.2 c
    have CC := hid c
    clear c
    have := HPRE.out
    have := HKD.out
    have := CC.out
    omega
  have n5 : (off % 4 == 0) = true := beq_iff_eq.2 c
  have C5 := hid c
  obtain ⟨q, hq4⟩ : ∃ q : Nat, off = 4 * (q : Int) := ⟨(off / 4).toNat, by omega⟩
  have hq4' : off / 4 = (q : Int) := by omega
  have HQ4 := hid hq4'
  have HQ5 := hid hq4
  clear c hq4 hq4'
  obtain ⟨n, hsn⟩ : ∃ n : Nat, sect = (n : Int) + 1 := ⟨(sect - 1).toNat, by omega⟩
  have hn2 : n ≤ 2 := by omega
  subst hsn
  clear m0 m1
  obtain ⟨sao, scap, s1, s2, s3, s4⟩ := (HS.out.grown G0.out).sec n hn2
  unfold maxLen at s3
  have s5 := hsm.out ((n : Int) + 1)
  have HSI4 := hid s4
  clear s4
  have HWW := hid (wordsOf_words HW.out ((n : Int) + 1))
  generalize wordsOf o ((n : Int) + 1) = ws at *
  have hkd := HKD.out
  · subst hkd
    by_cases c : addend < -2048
    · have d : decide (addend < -2048) = true := by simp; omega
      have CC := hid (show ¬ AO from fun h => by rw [HAO.out] at h; simp at h; omega)
      go_wp2
      go_ret
      exact no.out _ (fun h => CC.out (HRO.out.1 (HQ.out.1 h).1).2.1) G0.out
    have a1 : decide (addend < -2048) = false := by simp; omega
    have e1 : ¬ (addend < -2048) := c
    clear c
    by_cases c : 2047 < addend
    · have d : decide (2047 < addend) = true := by simp; omega
      have CC := hid (show ¬ AO from fun h => by rw [HAO.out] at h; simp at h; omega)
      go_wp2
      go_ret
      exact no.out _ (fun h => CC.out (HRO.out.1 (HQ.out.1 h).1).2.1) G0.out
    have a2 : decide (2047 < addend) = false := by simp; omega
    have e2 : ¬ (2047 < addend) := c
    clear c
    have HA := hid (HAO.out.2 (by simp; omega))
    have hsp := HSP.out HA.out
    have cC2 := hid (fun W => cC.out W HA.out)
    go_wp2_with fail
    refine (cC2.out _).mono ?_
    rintro e w2 ⟨rfl, hq2⟩
    have BR := hid (HB0.out.grown hq2 (by simp))
    have G2 := hid (grown_trans G0.out hq2)
    have t1 := gcell s1 hq2
    have SI2 := hid (HSI4.out.kept (fun a v hv => gcell hv hq2))
    have c0 := BR.out.cell 0
    have c1 := BR.out.cell 1
    have c2 := BR.out.cell 2
    have c3 := BR.out.cell 3
    have c4 := BR.out.cell 4
    have b4 := (HB.out.grown G2.out (by simp)).cell 4
    have b5 := (HB.out.grown G2.out (by simp)).cell 5
    have b6 := (HB.out.grown G2.out (by simp)).cell 6
    clear hq2 s1 q0 q1 q2 q3 q4 k6
    have hRlt := BR.out.lt
    have HA2 := hid HA.out
    by_cases r1 : (ws.length : Int) < off / 4 + sp
    · have d : decide ((ws.length : Int) < off / 4 + sp) = true := by simp; omega
      have CC := hid (show ¬ AB from fun h => by have := (HAB.out.1 h).2.2; omega)
      go_wp2
      go_quiet (fail)
      go_wp2
      go_ret
      exact no.out _ (fun h => CC.out (HRO.out.1 (HQ.out.1 h).1).2.2.2.2.1) (grown_drewN G2.out nq)
    have d17 : decide ((ws.length : Int) < off / 4 + sp) = false := by simp; omega
    have HABY := hid (HAB.out.2 ⟨m5, C5.out, by omega⟩)
    by_cases r2 : n = 2
    · have d18 : ((n : Int) + 1 == 3) = true := by simp; omega
      have CC := hid (show ¬ KO from fun h => by have := HKO.out.1 h; omega)
      clear r2
      go_wp2
      go_quiet (fail)
      go_wp2
      go_ret
      exact no.out _ (fun h => CC.out (HRO.out.1 (HQ.out.1 h).1).1) (grown_drewN G2.out nq)
    have d18 : ((n : Int) + 1 == 3) = false := by simp; omega
    have HKY := hid (HKO.out.2 (by omega))
    go_wp2
    go_quiet (fail)
    have BR3 := hid (BR.out.drewN nq)
    have G3 := hid (grown_drewN G2.out nq)
    have t3 := gcell t1 (grown_drewN (World.grownBy.refl w2 none) nq)
    have SI3 := hid (SI2.out.kept (fun a v hv => gcell hv (grown_drewN (World.grownBy.refl w2 none) nq)))
    clear c0 c1 c2 c3 c4 b4 b5 b6 t1 SI2 BR G2 hRlt
    generalize w2.drewN nq = w3 at *
    have hRlt := BR3.out.lt
    have u0 := gcell HP.out.1 G3.out
    have u1 := gcell HP.out.2.1 G3.out
    have u2 := gcell HP.out.2.2.1 G3.out
    have u3 := gcell HP.out.2.2.2.1 G3.out
    have u4 := gcell HP.out.2.2.2.2 G3.out
    have b6 := (HB.out.grown G3.out (by simp)).cell 6
    have BP := hid (BlkAt.new w3 #[.int .i64 psect, .int .i64 poff, .int .i64 pkind, .int .i64 psym, .int .i64 padd] 48)
    have GP := hid (World.grownBy_alloc w3 (.cells #[.int .i64 psect, .int .i64 poff, .int .i64 pkind, .int .i64 psym, .int .i64 padd] 48) none)
    go_wp2_with fail
    refine (cP.out _).mono ?_
    rintro e w4 ⟨rfl, hq4⟩
    have GQ := hid (grown_trans GP.out hq4)
    have BP4 := hid (BP.out.grown hq4 (by simp))
    have BR4 := hid (BR3.out.grown GQ.out (by simp))
    have G4 := hid (grown_trans G3.out GQ.out)
    have t4 := gcell t3 GQ.out
    have SI4 := hid (SI3.out.kept (fun a v hv => gcell hv GQ.out))
    have c0 := BR4.out.cell 0
    have c1 := BR4.out.cell 1
    have p0 := BP4.out.cell 0
    have p1 := BP4.out.cell 1
    clear hq4 u0 u1 u2 u3 u4 t3 SI3 b6 BR3 G3 GQ BP GP hRlt
    have hRlt := BR4.out.lt
    have w4p : IntKind.i64.wrap (4 * psp) = 4 * psp := IntWalk.i64_in _ ⟨by omega, by omega⟩
    have w5p : IntKind.i64.wrap (poff + 4 * psp) = poff + 4 * psp := IntWalk.i64_in _ ⟨by omega, by omega⟩
    by_cases r5 : (n : Int) + 1 < psect
    · have d : decide ((n : Int) + 1 < psect) = true := by simp; omega
      have CC := hid (show ¬ FQ from fun h => by rw [HFQ.out, if_neg (by omega)] at h; omega)
      go_wp2
      go_ret
      exact no.out _ (fun h => CC.out (HQ.out.1 h).2) G4.out
    have d20 : decide ((n : Int) + 1 < psect) = false := by simp; omega
    by_cases r6 : (n : Int) + 1 = psect
    rotate_left
    · have d21 : ((n : Int) + 1 == psect) = false := beq_eq_false_iff_ne.2 r6
      have HFY := hid (show FQ from by rw [HFQ.out, if_neg (by omega)]; omega)
      clear r6
      have c0 := BR4.out.cell 0
      have c1 := BR4.out.cell 1
      have c2 := BR4.out.cell 2
      have c3 := BR4.out.cell 3
      have c4 := BR4.out.cell 4
      have b4 := (HB.out.grown G4.out (by simp)).cell 4
      have b5 := (HB.out.grown G4.out (by simp)).cell 5
      by_cases r8 : sym < 0
      · have d : decide (sym < 0) = true := by simp; omega
        have CC := hid (show ¬ SI from fun h => by have h2 := HSI.out.1 h; first | omega | (rw [if_neg (by omega)] at h2; omega) | (simp at h2; omega))
        go_wp2
        go_quiet (fail)
        go_wp2
        go_ret
        exact no.out _ (fun h => CC.out (HRO.out.1 (HQ.out.1 h).1).2.2.1) (grown_drewN G4.out nq)
      have d23 : decide (sym < 0) = false := by simp; omega
      by_cases r9 : (o.syms.length : Int) ≤ sym
      · have d : decide ((o.syms.length : Int) ≤ sym) = true := by simp; omega
        have CC := hid (show ¬ SI from fun h => by have h2 := HSI.out.1 h; first | omega | (rw [if_neg (by omega)] at h2; omega) | (simp at h2; omega))
        go_wp2
        go_quiet (fail)
        go_wp2
        go_ret
        exact no.out _ (fun h => CC.out (HRO.out.1 (HQ.out.1 h).1).2.2.1) (grown_drewN G4.out nq)
      have d24 : decide ((o.syms.length : Int) ≤ sym) = false := by simp; omega
      have HSY := hid (show SI from HSI.out.2 (by first | (rw [if_neg (by omega)]; omega) | (simp; omega)))
      have HBY := hid (show BO from HBO.out.2 (fun h => by exfalso; omega))
      go_wp2
      go_quiet (fail)
      have BR5 := hid (BR4.out.drewN nq)
      have G5 := hid (grown_drewN G4.out nq)
      have t5 := gcell t4 (grown_drewN (World.grownBy.refl w4 none) nq)
      have SI5 := hid (SI4.out.kept (fun a v hv => gcell hv (grown_drewN (World.grownBy.refl w4 none) nq)))
      clear c0 c1 c2 c3 c4 b4 b5 t4 SI4 BR4 G4 hRlt
      generalize w4.drewN nq = w5 at *
      have hRlt := BR5.out.lt
      have b5 := (HB.out.grown G5.out (by simp)).cell 5
      go_wp2
      have S5 := hid (S.out.grown G5.out)
      have wsp : IntKind.i64.wrap (4 * sp) = 4 * sp := IntWalk.i64_in _ ⟨by omega, by omega⟩
      have wsp2 : IntKind.i64.wrap (off + 4 * sp) = off + 4 * sp := IntWalk.i64_in _ ⟨by omega, by omega⟩
      go_loopw [13] (fun i wr => ∃ a : Nat, a ≤ o.syms.length ∧ i = .int .i64 a ∧ (∀ b (hb : b < o.syms.length), b < a → ¬ (o.syms[b].sect = (n : Int) + 1 ∧ off < o.syms[b].off ∧ o.syms[b].off < off + 4 * sp)) ∧ w5.grownBy wr none) (fun i _ => o.syms.length - (intOf i).toNat)
      case atStart => exact ⟨0, Nat.zero_le _, rfl, fun j _ hj => absurd hj (Nat.not_lt_zero j), World.grownBy.refl _ _⟩
      case round =>
        obtain ⟨a, ha, rfl, hall, hgr⟩ := hrel
        have HAL := hid hall
        have HG := hid hgr
        clear hall hgr
        have BRw := hid (BR5.out.grown HG.out (by simp))
        have c0 := BRw.out.cell 0
        have c1 := BRw.out.cell 1
        have hRw := BRw.out.lt
        have hnn : w.heap.size ≠ wr.heap.size := by omega
        have b5 := (HB.out.grown (grown_trans G5.out HG.out) (by simp)).cell 5
        have GA := hid (fun ob : Obj => World.grownBy_alloc wr ob none)
        by_cases hlt : a < o.syms.length
        · obtain ⟨sg, hso, hgs2, hcs⟩ := S5.out.grown HG.out (by omega)
          subst hso
          obtain ⟨y0, y1, y2, y3⟩ := hcs a hlt
          clear hcs
          have g3 : (a : Int) < (o.syms.length : Int) := by omega
          by_cases x1 : o.syms[a].sect = (n : Int) + 1
          · have z1 : (o.syms[a].sect == (n : Int) + 1) = true := beq_iff_eq.2 x1
            by_cases x2 : off < o.syms[a].off
            · have z2 : decide (off < o.syms[a].off) = true := by simpa using x2
              by_cases x3 : o.syms[a].off < off + 4 * sp
              · have z3 : decide (o.syms[a].off < off + 4 * sp) = true := by simpa using x3
                have CC := hid (show WI from HWI.out.2 ⟨a, hlt, x1, x2, x3⟩)
                clear x1
                go_wp2
                go_ret
                exact no.out _ (fun h => (HRO.out.1 (HQ.out.1 h).1).2.2.2.2.2.2 CC.out) (grown_trans (grown_trans G5.out HG.out) (GA.out _))
              · have z3 : decide (o.syms[a].off < off + 4 * sp) = false := by simp; omega
                have CC := hid (show ¬ (o.syms[a].sect = (n : Int) + 1 ∧ off < o.syms[a].off ∧ o.syms[a].off < off + 4 * sp) from fun h => x3 h.2.2)
                clear x1 x3
                go_wp2
                go_roundw
                case rel => exact ⟨a + 1, by omega, by go_num, fun j hj hjk => (Nat.lt_succ_iff_lt_or_eq.1 hjk).elim (fun h => HAL.out j hj h) (fun h => by subst h; exact CC.out), grown_trans HG.out (GA.out _)⟩
                case measure => simp [intOf]; omega
            · have z2 : decide (off < o.syms[a].off) = false := by simp; omega
              have CC := hid (show ¬ (o.syms[a].sect = (n : Int) + 1 ∧ off < o.syms[a].off ∧ o.syms[a].off < off + 4 * sp) from fun h => x2 h.2.1)
              clear x1 x2
              go_wp2
              go_roundw
              case rel => exact ⟨a + 1, by omega, by go_num, fun j hj hjk => (Nat.lt_succ_iff_lt_or_eq.1 hjk).elim (fun h => HAL.out j hj h) (fun h => by subst h; exact CC.out), grown_trans HG.out (GA.out _)⟩
              case measure => simp [intOf]; omega
          · have z1 : (o.syms[a].sect == (n : Int) + 1) = false := beq_eq_false_iff_ne.2 x1
            have CC := hid (show ¬ (o.syms[a].sect = (n : Int) + 1 ∧ off < o.syms[a].off ∧ o.syms[a].off < off + 4 * sp) from fun h => x1 h.1)
            clear x1
            go_wp2
            go_roundw
            case rel => exact ⟨a + 1, by omega, by go_num, fun j hj hjk => (Nat.lt_succ_iff_lt_or_eq.1 hjk).elim (fun h => HAL.out j hj h) (fun h => by subst h; exact CC.out), grown_trans HG.out (GA.out _)⟩
            case measure => simp [intOf]; omega
        · have NW := hid (show ¬ WI from fun h => by obtain ⟨i, hi, hh⟩ := HWI.out.1 h; exact HAL.out i hi (by omega) hh)
          obtain ⟨m, hm⟩ := Int.eq_ofNat_of_zero_le (show 0 ≤ sp from by omega)
          obtain ⟨ag, aoff, hsa, hcl⟩ := SI5.out (by omega)
          subst hsa
          have AF := HAF.out HA2.out HABY.out HWW.out
          rw [HABL.out] at AF
          have hoff : off = 4 * (q : Int) := HQ5.out
          have hqq : (off / 4).toNat = q := by have := HQ4.out; omega
          rw [hqq, hm, Int.toNat_natCast] at AF
          rw [hqq, hm, Int.toNat_natCast] at HABL
          have c2 := BRw.out.cell 2
          have t6 := gcell t5 HG.out
          have m1 : 1 ≤ m := by omega
          have m3 : m ≤ 3 := by omega
          have hqm : q + m ≤ ws.length := by have := HQ4.out; omega
          have IW := hid (show IntsIn wr (some ⟨ag, aoff + q, none⟩) ((ws.drop q).take m) from fun _ => ⟨ag, aoff + q, rfl, fun i hi => by
            have hi' : q + i < ws.length := by simp at hi; omega
            have := gcell (hcl (q + i) hi') HG.out
            rw [Nat.add_assoc, this]
            simp⟩)
          have hk456 := hid (HK2.out)
          have cG := hid (fun W (hW : IntsIn W (some ⟨ag, aoff + q, none⟩) ((ws.drop q).take m)) => goes_any 5 (some ⟨ag, aoff + q, none⟩) (scap - q) ((ws.drop q).take m) W hW AF.2.1 AF.2.2.1 AF.2.2.2 (by omega) (fun h => by have := hk456.out (by first | exact h | simp); have := AF.1; omega))
          rw [show ((ws.drop q).take m).length = m from AF.1] at cG
          have HQF := hid (show GoesP 5 ((ws.drop q).take m) ↔ Q from ⟨fun h => HQ.out.2 ⟨HRO.out.2 ⟨HKY.out, HA2.out, HSY.out, HBY.out, HABY.out, by rw [HABL.out]; exact h, NW.out⟩, HFY.out⟩, fun h => by have := (HRO.out.1 (HQ.out.1 h).1).2.2.2.2.2.1; rw [HABL.out] at this; exact this⟩)
          generalize GoesP 5 ((ws.drop q).take m) = GP at *
          subst hoff
          subst hm
          have k0 : Hid (wr.drew.cell? ⟨w.heap.size, 0, none⟩ = some (.int .i64 ((n : Int) + 1))) := c0
          have k1 : Hid (wr.drew.cell? ⟨w.heap.size, 1, none⟩ = some (.int .i64 (4 * (q : Int)))) := c1
          have k2 : Hid (wr.drew.cell? ⟨w.heap.size, 2, none⟩ = some (.int .i64 5)) := c2
          have k3 : Hid (wr.drew.cell? ⟨B, n + 1, none⟩ = some (.slice (some ⟨ag, aoff, none⟩) ws.length scap)) := t6
          have i1 : (0 : Int) ≤ (n : Int) + 1 := by omega
          have i2 : (n : Int) + 1 < 5 := by omega
          have i3 : (0 : Int) ≤ (q : Int) := by omega
          have i4 : (q : Int) ≤ (q : Int) + (m : Int) := by omega
          have i5 : (q : Int) + (m : Int) ≤ (scap : Int) := by omega
          have i6 : IntKind.i64.wrap ((q : Int) + (m : Int)) = (q : Int) + (m : Int) := IntWalk.i64_in _ ⟨by omega, by omega⟩
          have j1 : IntKind.i64.wrap (q : Int) = (q : Int) := IntWalk.i64_in _ ⟨by omega, by omega⟩
          have hsq : ¬ scap = q := by omega
          have j2 : max ((q : Int) + (m : Int)) 0 = (q : Int) + (m : Int) := by omega
          have i7 : (0 : Int) ≤ (q : Int) + (m : Int) := by omega
          go_wp2
          refine wp_region_held_drew (S := (fun w' => w'.cell? ⟨w.heap.size, 0, none⟩ = some (.int .i64 ((n : Int) + 1)) ∧ w'.cell? ⟨w.heap.size, 1, none⟩ = some (.int .i64 (4 * (q : Int))) ∧ w'.cell? ⟨w.heap.size, 2, none⟩ = some (.int .i64 5) ∧ w'.cell? ⟨B, n + 1, none⟩ = some (.slice (some ⟨ag, aoff, none⟩) ws.length scap))) (by kernel_rfl) ⟨k0.out, k1.out, k2.out, k3.out⟩ ?_
          intro hS
          refine wpAnyH_take (i := 0) (v := ?_) rfl (by kernel_rfl) (by kernel_rfl) (by kernel_rfl) (fun _ _ _ h => h) (Or.inl ⟨by kernel_rfl, ?_⟩) hS ?_
          rotate_left
          · intro w' hw'; obtain ⟨x0, x1, x2, x3⟩ := hw'; go_simp; with_reducible rfl
          refine wpAnyH_take (i := 1) (v := ?_) rfl (by kernel_rfl) (by kernel_rfl) (by kernel_rfl) (fun _ _ _ h => h) (Or.inl ⟨by kernel_rfl, ?_⟩) hS ?_
          rotate_left
          · intro w' hw'; obtain ⟨x0, x1, x2, x3⟩ := hw'; go_simp; with_reducible rfl
          refine wpAnyH_take (i := 2) (v := ?_) rfl (by kernel_rfl) (by kernel_rfl) (by kernel_rfl) (fun _ _ _ h => h) (Or.inl ⟨by kernel_rfl, ?_⟩) hS ?_
          rotate_left
          · intro w' hw'; obtain ⟨x0, x1, x2, x3⟩ := hw'; go_simp; with_reducible rfl
          refine wpAnyH_take (i := 3) (v := ?_) rfl (by kernel_rfl) (by kernel_rfl) (by kernel_rfl) (fun _ _ _ h => h) (Or.inl ⟨by kernel_rfl, ?_⟩) hS ?_
          rotate_left
          · intro w' hw'; obtain ⟨x0, x1, x2, x3⟩ := hw'; go_simp; with_reducible rfl
          refine wpAnyH_take (i := 4) (v := ?_) rfl (by kernel_rfl) (by kernel_rfl) (by kernel_rfl) (fun _ _ _ h => h) (Or.inl ⟨by kernel_rfl, ?_⟩) hS ?_
          rotate_left
          · intro w' hw'; obtain ⟨x0, x1, x2, x3⟩ := hw'; go_simp; with_reducible rfl
          refine wpAnyH_take (i := 5) (v := ?_) rfl (by kernel_rfl) (by kernel_rfl) (by kernel_rfl) (fun _ _ _ h => h) (Or.inl ⟨by kernel_rfl, ?_⟩) hS ?_
          rotate_left
          · intro w' hw'; obtain ⟨x0, x1, x2, x3⟩ := hw'; go_simp; with_reducible rfl
          refine wpAnyH_take (i := 6) (v := ?_) rfl (by kernel_rfl) (by kernel_rfl) (by kernel_rfl) (fun _ _ _ h => h) (Or.inl ⟨by kernel_rfl, ?_⟩) hS ?_
          rotate_left
          · intro w' hw'; obtain ⟨x0, x1, x2, x3⟩ := hw'; go_simp; with_reducible rfl
          refine wpAnyH_take (i := 7) (v := ?_) rfl (by kernel_rfl) (by kernel_rfl) (by kernel_rfl) (fun _ _ _ h => h) (Or.inl ⟨by kernel_rfl, ?_⟩) hS ?_
          rotate_left
          · intro w' hw'; obtain ⟨x0, x1, x2, x3⟩ := hw'; go_simp; with_reducible rfl
          refine wpAnyH_take (i := 8) (v := ?_) rfl (by kernel_rfl) (by kernel_rfl) (by kernel_rfl) (fun _ _ _ h => h) (Or.inl ⟨by kernel_rfl, ?_⟩) hS ?_
          rotate_left
          · intro w' hw'; obtain ⟨x0, x1, x2, x3⟩ := hw'; go_simp; with_reducible rfl
          refine wpAnyH_take (i := 9) (v := ?_) rfl (by kernel_rfl) (by kernel_rfl) (by kernel_rfl) (fun _ _ _ h => h) (Or.inl ⟨by kernel_rfl, ?_⟩) hS ?_
          rotate_left
          · intro w' hw'; obtain ⟨x0, x1, x2, x3⟩ := hw'; go_simp; with_reducible rfl
          refine wpAnyH_take (i := 10) (v := ?_) rfl (by kernel_rfl) (by kernel_rfl) (by kernel_rfl) (fun _ _ _ h => h) (Or.inl ⟨by kernel_rfl, ?_⟩) hS ?_
          rotate_left
          · intro w' hw'; obtain ⟨x0, x1, x2, x3⟩ := hw'; go_simp; with_reducible rfl
          refine wpAnyH_take (i := 11) (v := ?_) rfl (by kernel_rfl) (by kernel_rfl) (by kernel_rfl) (fun _ _ _ h => h) (Or.inl ⟨by kernel_rfl, ?_⟩) hS ?_
          rotate_left
          · intro w' hw'; obtain ⟨x0, x1, x2, x3⟩ := hw'; go_simp; with_reducible rfl
          refine wpAnyH_take (i := 12) (v := ?_) rfl (by kernel_rfl) (by kernel_rfl) (by kernel_rfl) (fun _ _ _ h => h) (Or.inl ⟨by kernel_rfl, ?_⟩) hS ?_
          rotate_left
          · intro w' hw'; obtain ⟨x0, x1, x2, x3⟩ := hw'; go_simp; with_reducible rfl
          refine wpAnyH_take (i := 13) (v := ?_) rfl (by kernel_rfl) (by kernel_rfl) (by kernel_rfl) (fun _ _ _ h => h) (Or.inl ⟨by kernel_rfl, ?_⟩) hS ?_
          rotate_left
          · intro w' hw'; obtain ⟨x0, x1, x2, x3⟩ := hw'; go_simp; with_reducible rfl
          refine wpAnyH_take (i := 14) (v := ?_) rfl (by kernel_rfl) (by kernel_rfl) (by kernel_rfl) (fun _ _ _ h => h) (Or.inl ⟨by kernel_rfl, ?_⟩) hS ?_
          rotate_left
          · intro w' hw'; obtain ⟨x0, x1, x2, x3⟩ := hw'; go_simp; with_reducible rfl
          refine wpAnyH_take (i := 15) (v := .slice (some ⟨ag, aoff + q, none⟩) m (scap - q)) rfl (by kernel_rfl) (by kernel_rfl) (by kernel_rfl) (fun _ _ _ h => h) (Or.inl ⟨by kernel_rfl, ?_⟩) hS ?_
          · intro w' hw'; obtain ⟨x0, x1, x2, x3⟩ := hw'; go_simp
            omega
          refine wpAnyH_ready (rs := [16]) (by kernel_rfl) (by simp) ?_
          refine AllReadyH.cons rfl (fun K hK => ?_) AllReadyH.nil
          go_simp
          go_wp2_with (go_at_call 54; refine (cG.out _ ?_).mono ?_; (exact IW.out.kept (fun a v hv => gcell hv (grown_drew (World.grownBy.refl wr none)))); rintro e w' ⟨⟨bb, rfl, hbb⟩, hq⟩)
          refine hK.out _ _ ⟨gcell k0.out hq, gcell k1.out hq, gcell k2.out hq, gcell k3.out hq⟩ (fun hS2 => ?_)
          clear hK K
          refine wpAnyH_take (i := 17) (v := ?_) rfl (by kernel_rfl) (by kernel_rfl) (by kernel_rfl) (fun _ _ _ h => h) (Or.inl ⟨by kernel_rfl, ?_⟩) hS2 ?_
          rotate_left
          · intro w' hw'; go_simp; with_reducible rfl
          refine wpAnyH_done (by kernel_rfl) ?_ _
          simp only [put_mk, List.getElem_toArray, List.getElem_cons_succ, List.getElem_cons_zero, List.setIfInBounds_toArray, List.set_cons_succ, List.set_cons_zero]
          go_wp2
          go_ret
          exact ⟨Tells.of (hbb.trans HQF.out), grown_trans (grown_trans G5.out HG.out) (grown_trans (grown_drew (World.grownBy.refl _ _)) hq)⟩
    have d21 : ((n : Int) + 1 == psect) = true := beq_iff_eq.2 r6
    by_cases r7 : off < poff + 4 * psp
    · have d : decide (off < poff + 4 * psp) = true := by simp; omega
      have CC := hid (show ¬ FQ from fun h => by rw [HFQ.out, if_pos (by omega)] at h; omega)
      clear r6
      go_wp2
      go_ret
      exact no.out _ (fun h => CC.out (HQ.out.1 h).2) G4.out
    have d22 : decide (off < poff + 4 * psp) = false := by simp; omega
    have HFY := hid (show FQ from by rw [HFQ.out, if_pos (by omega)]; omega)
    clear r6
    have c0 := BR4.out.cell 0
    have c1 := BR4.out.cell 1
    have c2 := BR4.out.cell 2
    have c3 := BR4.out.cell 3
    have c4 := BR4.out.cell 4
    have b4 := (HB.out.grown G4.out (by simp)).cell 4
    have b5 := (HB.out.grown G4.out (by simp)).cell 5
    by_cases r8 : sym < 0
    · have d : decide (sym < 0) = true := by simp; omega
      have CC := hid (show ¬ SI from fun h => by have h2 := HSI.out.1 h; first | omega | (rw [if_neg (by omega)] at h2; omega) | (simp at h2; omega))
      go_wp2
      go_quiet (fail)
      go_wp2
      go_ret
      exact no.out _ (fun h => CC.out (HRO.out.1 (HQ.out.1 h).1).2.2.1) (grown_drewN G4.out nq)
    have d23 : decide (sym < 0) = false := by simp; omega
    by_cases r9 : (o.syms.length : Int) ≤ sym
    · have d : decide ((o.syms.length : Int) ≤ sym) = true := by simp; omega
      have CC := hid (show ¬ SI from fun h => by have h2 := HSI.out.1 h; first | omega | (rw [if_neg (by omega)] at h2; omega) | (simp at h2; omega))
      go_wp2
      go_quiet (fail)
      go_wp2
      go_ret
      exact no.out _ (fun h => CC.out (HRO.out.1 (HQ.out.1 h).1).2.2.1) (grown_drewN G4.out nq)
    have d24 : decide ((o.syms.length : Int) ≤ sym) = false := by simp; omega
    have HSY := hid (show SI from HSI.out.2 (by first | (rw [if_neg (by omega)]; omega) | (simp; omega)))
    have HBY := hid (show BO from HBO.out.2 (fun h => by exfalso; omega))
    go_wp2
    go_quiet (fail)
    have BR5 := hid (BR4.out.drewN nq)
    have G5 := hid (grown_drewN G4.out nq)
    have t5 := gcell t4 (grown_drewN (World.grownBy.refl w4 none) nq)
    have SI5 := hid (SI4.out.kept (fun a v hv => gcell hv (grown_drewN (World.grownBy.refl w4 none) nq)))
    clear c0 c1 c2 c3 c4 b4 b5 t4 SI4 BR4 G4 hRlt
    generalize w4.drewN nq = w5 at *
    have hRlt := BR5.out.lt
    have b5 := (HB.out.grown G5.out (by simp)).cell 5
    go_wp2
    have S5 := hid (S.out.grown G5.out)
    have wsp : IntKind.i64.wrap (4 * sp) = 4 * sp := IntWalk.i64_in _ ⟨by omega, by omega⟩
    have wsp2 : IntKind.i64.wrap (off + 4 * sp) = off + 4 * sp := IntWalk.i64_in _ ⟨by omega, by omega⟩
    go_loopw [13] (fun i wr => ∃ a : Nat, a ≤ o.syms.length ∧ i = .int .i64 a ∧ (∀ b (hb : b < o.syms.length), b < a → ¬ (o.syms[b].sect = (n : Int) + 1 ∧ off < o.syms[b].off ∧ o.syms[b].off < off + 4 * sp)) ∧ w5.grownBy wr none) (fun i _ => o.syms.length - (intOf i).toNat)
    case atStart => exact ⟨0, Nat.zero_le _, rfl, fun j _ hj => absurd hj (Nat.not_lt_zero j), World.grownBy.refl _ _⟩
    case round =>
      obtain ⟨a, ha, rfl, hall, hgr⟩ := hrel
      have HAL := hid hall
      have HG := hid hgr
      clear hall hgr
      have BRw := hid (BR5.out.grown HG.out (by simp))
      have c0 := BRw.out.cell 0
      have c1 := BRw.out.cell 1
      have hRw := BRw.out.lt
      have hnn : w.heap.size ≠ wr.heap.size := by omega
      have b5 := (HB.out.grown (grown_trans G5.out HG.out) (by simp)).cell 5
      have GA := hid (fun ob : Obj => World.grownBy_alloc wr ob none)
      by_cases hlt : a < o.syms.length
      · obtain ⟨sg, hso, hgs2, hcs⟩ := S5.out.grown HG.out (by omega)
        subst hso
        obtain ⟨y0, y1, y2, y3⟩ := hcs a hlt
        clear hcs
        have g3 : (a : Int) < (o.syms.length : Int) := by omega
        by_cases x1 : o.syms[a].sect = (n : Int) + 1
        · have z1 : (o.syms[a].sect == (n : Int) + 1) = true := beq_iff_eq.2 x1
          by_cases x2 : off < o.syms[a].off
          · have z2 : decide (off < o.syms[a].off) = true := by simpa using x2
            by_cases x3 : o.syms[a].off < off + 4 * sp
            · have z3 : decide (o.syms[a].off < off + 4 * sp) = true := by simpa using x3
              have CC := hid (show WI from HWI.out.2 ⟨a, hlt, x1, x2, x3⟩)
              clear x1
              go_wp2
              go_ret
              exact no.out _ (fun h => (HRO.out.1 (HQ.out.1 h).1).2.2.2.2.2.2 CC.out) (grown_trans (grown_trans G5.out HG.out) (GA.out _))
            · have z3 : decide (o.syms[a].off < off + 4 * sp) = false := by simp; omega
              have CC := hid (show ¬ (o.syms[a].sect = (n : Int) + 1 ∧ off < o.syms[a].off ∧ o.syms[a].off < off + 4 * sp) from fun h => x3 h.2.2)
              clear x1 x3
              go_wp2
              go_roundw
              case rel => exact ⟨a + 1, by omega, by go_num, fun j hj hjk => (Nat.lt_succ_iff_lt_or_eq.1 hjk).elim (fun h => HAL.out j hj h) (fun h => by subst h; exact CC.out), grown_trans HG.out (GA.out _)⟩
              case measure => simp [intOf]; omega
          · have z2 : decide (off < o.syms[a].off) = false := by simp; omega
            have CC := hid (show ¬ (o.syms[a].sect = (n : Int) + 1 ∧ off < o.syms[a].off ∧ o.syms[a].off < off + 4 * sp) from fun h => x2 h.2.1)
            clear x1 x2
            go_wp2
            go_roundw
            case rel => exact ⟨a + 1, by omega, by go_num, fun j hj hjk => (Nat.lt_succ_iff_lt_or_eq.1 hjk).elim (fun h => HAL.out j hj h) (fun h => by subst h; exact CC.out), grown_trans HG.out (GA.out _)⟩
            case measure => simp [intOf]; omega
        · have z1 : (o.syms[a].sect == (n : Int) + 1) = false := beq_eq_false_iff_ne.2 x1
          have CC := hid (show ¬ (o.syms[a].sect = (n : Int) + 1 ∧ off < o.syms[a].off ∧ o.syms[a].off < off + 4 * sp) from fun h => x1 h.1)
          clear x1
          go_wp2
          go_roundw
          case rel => exact ⟨a + 1, by omega, by go_num, fun j hj hjk => (Nat.lt_succ_iff_lt_or_eq.1 hjk).elim (fun h => HAL.out j hj h) (fun h => by subst h; exact CC.out), grown_trans HG.out (GA.out _)⟩
          case measure => simp [intOf]; omega
      · have NW := hid (show ¬ WI from fun h => by obtain ⟨i, hi, hh⟩ := HWI.out.1 h; exact HAL.out i hi (by omega) hh)
        obtain ⟨m, hm⟩ := Int.eq_ofNat_of_zero_le (show 0 ≤ sp from by omega)
        obtain ⟨ag, aoff, hsa, hcl⟩ := SI5.out (by omega)
        subst hsa
        have AF := HAF.out HA2.out HABY.out HWW.out
        rw [HABL.out] at AF
        have hoff : off = 4 * (q : Int) := HQ5.out
        have hqq : (off / 4).toNat = q := by have := HQ4.out; omega
        rw [hqq, hm, Int.toNat_natCast] at AF
        rw [hqq, hm, Int.toNat_natCast] at HABL
        have c2 := BRw.out.cell 2
        have t6 := gcell t5 HG.out
        have m1 : 1 ≤ m := by omega
        have m3 : m ≤ 3 := by omega
        have hqm : q + m ≤ ws.length := by have := HQ4.out; omega
        have IW := hid (show IntsIn wr (some ⟨ag, aoff + q, none⟩) ((ws.drop q).take m) from fun _ => ⟨ag, aoff + q, rfl, fun i hi => by
          have hi' : q + i < ws.length := by simp at hi; omega
          have := gcell (hcl (q + i) hi') HG.out
          rw [Nat.add_assoc, this]
          simp⟩)
        have hk456 := hid (HK2.out)
        have cG := hid (fun W (hW : IntsIn W (some ⟨ag, aoff + q, none⟩) ((ws.drop q).take m)) => goes_any 5 (some ⟨ag, aoff + q, none⟩) (scap - q) ((ws.drop q).take m) W hW AF.2.1 AF.2.2.1 AF.2.2.2 (by omega) (fun h => by have := hk456.out (by first | exact h | simp); have := AF.1; omega))
        rw [show ((ws.drop q).take m).length = m from AF.1] at cG
        have HQF := hid (show GoesP 5 ((ws.drop q).take m) ↔ Q from ⟨fun h => HQ.out.2 ⟨HRO.out.2 ⟨HKY.out, HA2.out, HSY.out, HBY.out, HABY.out, by rw [HABL.out]; exact h, NW.out⟩, HFY.out⟩, fun h => by have := (HRO.out.1 (HQ.out.1 h).1).2.2.2.2.2.1; rw [HABL.out] at this; exact this⟩)
        generalize GoesP 5 ((ws.drop q).take m) = GP at *
        subst hoff
        subst hm
        have k0 : Hid (wr.drew.cell? ⟨w.heap.size, 0, none⟩ = some (.int .i64 ((n : Int) + 1))) := c0
        have k1 : Hid (wr.drew.cell? ⟨w.heap.size, 1, none⟩ = some (.int .i64 (4 * (q : Int)))) := c1
        have k2 : Hid (wr.drew.cell? ⟨w.heap.size, 2, none⟩ = some (.int .i64 5)) := c2
        have k3 : Hid (wr.drew.cell? ⟨B, n + 1, none⟩ = some (.slice (some ⟨ag, aoff, none⟩) ws.length scap)) := t6
        have i1 : (0 : Int) ≤ (n : Int) + 1 := by omega
        have i2 : (n : Int) + 1 < 5 := by omega
        have i3 : (0 : Int) ≤ (q : Int) := by omega
        have i4 : (q : Int) ≤ (q : Int) + (m : Int) := by omega
        have i5 : (q : Int) + (m : Int) ≤ (scap : Int) := by omega
        have i6 : IntKind.i64.wrap ((q : Int) + (m : Int)) = (q : Int) + (m : Int) := IntWalk.i64_in _ ⟨by omega, by omega⟩
        have j1 : IntKind.i64.wrap (q : Int) = (q : Int) := IntWalk.i64_in _ ⟨by omega, by omega⟩
        have hsq : ¬ scap = q := by omega
        have j2 : max ((q : Int) + (m : Int)) 0 = (q : Int) + (m : Int) := by omega
        have i7 : (0 : Int) ≤ (q : Int) + (m : Int) := by omega
        go_wp2
        refine wp_region_held_drew (S := (fun w' => w'.cell? ⟨w.heap.size, 0, none⟩ = some (.int .i64 ((n : Int) + 1)) ∧ w'.cell? ⟨w.heap.size, 1, none⟩ = some (.int .i64 (4 * (q : Int))) ∧ w'.cell? ⟨w.heap.size, 2, none⟩ = some (.int .i64 5) ∧ w'.cell? ⟨B, n + 1, none⟩ = some (.slice (some ⟨ag, aoff, none⟩) ws.length scap))) (by kernel_rfl) ⟨k0.out, k1.out, k2.out, k3.out⟩ ?_
        intro hS
        refine wpAnyH_take (i := 0) (v := ?_) rfl (by kernel_rfl) (by kernel_rfl) (by kernel_rfl) (fun _ _ _ h => h) (Or.inl ⟨by kernel_rfl, ?_⟩) hS ?_
        rotate_left
        · intro w' hw'; obtain ⟨x0, x1, x2, x3⟩ := hw'; go_simp; with_reducible rfl
        refine wpAnyH_take (i := 1) (v := ?_) rfl (by kernel_rfl) (by kernel_rfl) (by kernel_rfl) (fun _ _ _ h => h) (Or.inl ⟨by kernel_rfl, ?_⟩) hS ?_
        rotate_left
        · intro w' hw'; obtain ⟨x0, x1, x2, x3⟩ := hw'; go_simp; with_reducible rfl
        refine wpAnyH_take (i := 2) (v := ?_) rfl (by kernel_rfl) (by kernel_rfl) (by kernel_rfl) (fun _ _ _ h => h) (Or.inl ⟨by kernel_rfl, ?_⟩) hS ?_
        rotate_left
        · intro w' hw'; obtain ⟨x0, x1, x2, x3⟩ := hw'; go_simp; with_reducible rfl
        refine wpAnyH_take (i := 3) (v := ?_) rfl (by kernel_rfl) (by kernel_rfl) (by kernel_rfl) (fun _ _ _ h => h) (Or.inl ⟨by kernel_rfl, ?_⟩) hS ?_
        rotate_left
        · intro w' hw'; obtain ⟨x0, x1, x2, x3⟩ := hw'; go_simp; with_reducible rfl
        refine wpAnyH_take (i := 4) (v := ?_) rfl (by kernel_rfl) (by kernel_rfl) (by kernel_rfl) (fun _ _ _ h => h) (Or.inl ⟨by kernel_rfl, ?_⟩) hS ?_
        rotate_left
        · intro w' hw'; obtain ⟨x0, x1, x2, x3⟩ := hw'; go_simp; with_reducible rfl
        refine wpAnyH_take (i := 5) (v := ?_) rfl (by kernel_rfl) (by kernel_rfl) (by kernel_rfl) (fun _ _ _ h => h) (Or.inl ⟨by kernel_rfl, ?_⟩) hS ?_
        rotate_left
        · intro w' hw'; obtain ⟨x0, x1, x2, x3⟩ := hw'; go_simp; with_reducible rfl
        refine wpAnyH_take (i := 6) (v := ?_) rfl (by kernel_rfl) (by kernel_rfl) (by kernel_rfl) (fun _ _ _ h => h) (Or.inl ⟨by kernel_rfl, ?_⟩) hS ?_
        rotate_left
        · intro w' hw'; obtain ⟨x0, x1, x2, x3⟩ := hw'; go_simp; with_reducible rfl
        refine wpAnyH_take (i := 7) (v := ?_) rfl (by kernel_rfl) (by kernel_rfl) (by kernel_rfl) (fun _ _ _ h => h) (Or.inl ⟨by kernel_rfl, ?_⟩) hS ?_
        rotate_left
        · intro w' hw'; obtain ⟨x0, x1, x2, x3⟩ := hw'; go_simp; with_reducible rfl
        refine wpAnyH_take (i := 8) (v := ?_) rfl (by kernel_rfl) (by kernel_rfl) (by kernel_rfl) (fun _ _ _ h => h) (Or.inl ⟨by kernel_rfl, ?_⟩) hS ?_
        rotate_left
        · intro w' hw'; obtain ⟨x0, x1, x2, x3⟩ := hw'; go_simp; with_reducible rfl
        refine wpAnyH_take (i := 9) (v := ?_) rfl (by kernel_rfl) (by kernel_rfl) (by kernel_rfl) (fun _ _ _ h => h) (Or.inl ⟨by kernel_rfl, ?_⟩) hS ?_
        rotate_left
        · intro w' hw'; obtain ⟨x0, x1, x2, x3⟩ := hw'; go_simp; with_reducible rfl
        refine wpAnyH_take (i := 10) (v := ?_) rfl (by kernel_rfl) (by kernel_rfl) (by kernel_rfl) (fun _ _ _ h => h) (Or.inl ⟨by kernel_rfl, ?_⟩) hS ?_
        rotate_left
        · intro w' hw'; obtain ⟨x0, x1, x2, x3⟩ := hw'; go_simp; with_reducible rfl
        refine wpAnyH_take (i := 11) (v := ?_) rfl (by kernel_rfl) (by kernel_rfl) (by kernel_rfl) (fun _ _ _ h => h) (Or.inl ⟨by kernel_rfl, ?_⟩) hS ?_
        rotate_left
        · intro w' hw'; obtain ⟨x0, x1, x2, x3⟩ := hw'; go_simp; with_reducible rfl
        refine wpAnyH_take (i := 12) (v := ?_) rfl (by kernel_rfl) (by kernel_rfl) (by kernel_rfl) (fun _ _ _ h => h) (Or.inl ⟨by kernel_rfl, ?_⟩) hS ?_
        rotate_left
        · intro w' hw'; obtain ⟨x0, x1, x2, x3⟩ := hw'; go_simp; with_reducible rfl
        refine wpAnyH_take (i := 13) (v := ?_) rfl (by kernel_rfl) (by kernel_rfl) (by kernel_rfl) (fun _ _ _ h => h) (Or.inl ⟨by kernel_rfl, ?_⟩) hS ?_
        rotate_left
        · intro w' hw'; obtain ⟨x0, x1, x2, x3⟩ := hw'; go_simp; with_reducible rfl
        refine wpAnyH_take (i := 14) (v := ?_) rfl (by kernel_rfl) (by kernel_rfl) (by kernel_rfl) (fun _ _ _ h => h) (Or.inl ⟨by kernel_rfl, ?_⟩) hS ?_
        rotate_left
        · intro w' hw'; obtain ⟨x0, x1, x2, x3⟩ := hw'; go_simp; with_reducible rfl
        refine wpAnyH_take (i := 15) (v := .slice (some ⟨ag, aoff + q, none⟩) m (scap - q)) rfl (by kernel_rfl) (by kernel_rfl) (by kernel_rfl) (fun _ _ _ h => h) (Or.inl ⟨by kernel_rfl, ?_⟩) hS ?_
        · intro w' hw'; obtain ⟨x0, x1, x2, x3⟩ := hw'; go_simp
          omega
        refine wpAnyH_ready (rs := [16]) (by kernel_rfl) (by simp) ?_
        refine AllReadyH.cons rfl (fun K hK => ?_) AllReadyH.nil
        go_simp
        go_wp2_with (go_at_call 54; refine (cG.out _ ?_).mono ?_; (exact IW.out.kept (fun a v hv => gcell hv (grown_drew (World.grownBy.refl wr none)))); rintro e w' ⟨⟨bb, rfl, hbb⟩, hq⟩)
        refine hK.out _ _ ⟨gcell k0.out hq, gcell k1.out hq, gcell k2.out hq, gcell k3.out hq⟩ (fun hS2 => ?_)
        clear hK K
        refine wpAnyH_take (i := 17) (v := ?_) rfl (by kernel_rfl) (by kernel_rfl) (by kernel_rfl) (fun _ _ _ h => h) (Or.inl ⟨by kernel_rfl, ?_⟩) hS2 ?_
        rotate_left
        · intro w' hw'; go_simp; with_reducible rfl
        refine wpAnyH_done (by kernel_rfl) ?_ _
        simp only [put_mk, List.getElem_toArray, List.getElem_cons_succ, List.getElem_cons_zero, List.setIfInBounds_toArray, List.set_cons_succ, List.set_cons_zero]
        go_wp2
        go_ret
        exact ⟨Tells.of (hbb.trans HQF.out), grown_trans (grown_trans G5.out HG.out) (grown_trans (grown_drew (World.grownBy.refl _ _)) hq)⟩

end Go.Proofs.YtogbomihnhfaiaaDoor
