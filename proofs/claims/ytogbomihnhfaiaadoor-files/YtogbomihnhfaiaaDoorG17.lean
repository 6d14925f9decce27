/- Walks over the document's answer: isReloc, a later one. -/
/- Walks over the document's answer: isReloc. -/
/- Walks over the document's answer: IsObject. -/
/- Walks over the document's answer: numbers as bytes. -/
/- Walks over package object: writeReloc; what a Writer leaves as it was. -/
/- Walks over the document's answer: lists of numbers as bytes. -/
/- Walks over package object: Write. -/
import Derived.Test.YtogbomihnhfaiaaDoorG09
import Derived.Test.YtogbomihnhfaiaaDoorG10
import Derived.Test.YtogbomihnhfaiaaDoorG11
import Derived.Test.YtogbomihnhfaiaaDoorG12
import Derived.Test.YtogbomihnhfaiaaDoorG13
import Derived.Test.YtogbomihnhfaiaaDoorG14
import Derived.Test.YtogbomihnhfaiaaDoorG15
import Derived.Test.YtogbomihnhfaiaaDoorG16
import Derived.Test.YtogbomihnhfaiaaDoorG07
import Derived.Test.YtogbomihnhfaiaaDoorG04
import Derived.Test.YtogbomihnhfaiaaDoorG06
import Derived.Lib.AppendStr
import Derived.Test.YtogbomihnhfaiaaDoorG08
namespace Go.Proofs.YtogbomihnhfaiaaDoor
open Go.RowKit

set_option maxRecDepth 100000 in
set_option maxHeartbeats 16000000 in
theorem isReloc_later_no (g B j : Nat) (o : Lk.Obj) (at_ : Option Addr) (ct : Nat) (af : Option Addr) (cf : Nat) (ad : Option Addr) (cd : Nat) (Z : Nat) (w : World) (h : ObjAt w g o) (hs : SectsAt w B o at_ ct af cf ad cd Z) (hn : Small o) (hb4 : Borders o.align) (hw : AllWords o)
    (hgr : ∀ r ∈ o.rels, r.off ≤ 9223372036854775807) (hk : (j + 1) < o.rels.length) (hprev : RelOk o (o.rels[j]'(by omega))) (hpre : ¬ (((1 ≤ (o.rels[j + 1]'hk).sect ∧ (o.rels[j + 1]'hk).sect ≤ 3) ∧ 0 ≤ (o.rels[j + 1]'hk).off ∧ (o.rels[j + 1]'hk).off % 4 = 0) ∧ 1 ≤ (o.rels[j + 1]'hk).kind ∧ (o.rels[j + 1]'hk).kind ≤ 6)) :
    Calls Tryd.prog 37 #[.pointer (some ⟨g, 0, none⟩), .slice (some ⟨B, 0, none⟩) 5 5, .int .i64 ((j + 1 : Nat) : Int)] w fun e w' => Tells e (RelAt o (j + 1) hk) ∧ w.grownBy w' none := by
  have HPRE := hid hpre
  clear hpre
  obtain ⟨_, _, _, _, _, _, aa, ca, as_, cs, ar, cr, hb, -, -, -, h4, h5, h6⟩ := h.open
  have hnr := hn.2.2.2.2.2
  have hns := hn.2.2.2.2.1
  obtain ⟨rg, hao, hgs, hc⟩ := RelsIn.of_own h6 (by omega)
  subst hao
  obtain ⟨q0, q1, q2, q3, q4⟩ := hc (j + 1) hk
  have k6 := hb.cell 6
  have S := hid (SymsIn.of_own h5)
  have hb4l := hb4.1
  obtain ⟨ga, offa, haa, hca⟩ := IntsIn.of_own h4 (by omega)
  subst haa
  have HCA := hid hca
  have HB4 := hid hb4
  have hcapa := own_cap h4
  have HB := hid hb
  have HS := hid hs
  have HW := hid hw
  have hsm := hid (fun sect => wordsOf_small hn sect)
  have f3 := hgr _ (List.getElem_mem hk)
  have hkj : j < o.rels.length := by omega
  have HP := hid (hc j hkj)
  have hpa := hprev.2.1
  have fp3 : 0 ≤ (o.rels[j]'hkj).off ∧ (o.rels[j]'hkj).off ≤ 1048576 := by
    have h1 := hprev.2.2.2.2.1
    have h2 := wordsOf_small hn (o.rels[j]'hkj).sect
    have h3 := span_range hpa
    unfold AboutOk at h1
    omega
  have HQ := hid (show RelAt o (j + 1) hk ↔ RelOk o (o.rels[j + 1]'hk) ∧ FollowsP (o.rels[j]'hkj) (o.rels[j + 1]'hk) from ⟨fun h => ⟨h.1, h.2 (Nat.succ_pos j)⟩, fun h => ⟨h.1, fun _ => h.2⟩⟩)
  generalize RelAt o (j + 1) hk = Q at *
  generalize o.rels[j]'hkj = p at *
  have hpsp := span_range hpa
  have cP := hid (fun W => covers_any p W hpa.six)
  have HFP := hid (fun r => show FollowsP p r ↔ if r.sect = p.sect then p.off + 4 * spanI p ≤ r.off else p.sect < r.sect from Iff.rfl)
  generalize FollowsP p = FP at *
  generalize spanI p = psp at *
  obtain ⟨psect, poff, pkind, psym, padd⟩ := p
  unfold relA at cP
  simp only at *
  have g1 : (j : Int) + 1 < (o.rels.length : Int) := by omega
  have g2 : (j : Int) < (o.rels.length : Int) := by omega
  clear hprev hpa
  generalize o.rels[(j + 1)]'hk = r at *
  have HAF := hid (fun (a : AddendOk r) (b : AboutOk o r) (c : Words (wordsOf o r.sect)) => about_facts a b c)
  have cC := hid (fun W (a : AddendOk r) => covers_any r W a.six)
  have HSP := hid (fun (a : AddendOk r) => span_range a)
  have HAB := hid (show AboutOk o r ↔ 0 ≤ r.off ∧ r.off % 4 = 0 ∧ r.off / 4 + spanI r ≤ (wordsOf o r.sect).length from Iff.rfl)
  have HABL := hid (show about o r = ((wordsOf o r.sect).drop (r.off / 4).toNat).take (spanI r).toNat from rfl)
  have HWI := hid (show WithinP o r ↔ ∃ i, ∃ h : i < o.syms.length, o.syms[i].sect = r.sect ∧ r.off < o.syms[i].off ∧ o.syms[i].off < r.off + 4 * spanI r from Iff.rfl)
  have HSI := hid (show SymIx o r ↔ if r.kind = 6 then r.sym = 0 else 0 ≤ r.sym ∧ r.sym < o.syms.length from Iff.rfl)
  have HBO := hid (show BordOk o r ↔ (r.kind = 6 → r.addend + 4 ≤ borderI (o.align.getD (r.sect.toNat - 1) 0)) from Iff.rfl)
  have HKO := hid (show KindOk r ↔ ((r.sect = 1 ∨ r.sect = 2) ∧ 1 ≤ r.kind ∧ r.kind ≤ 6) ∨ (r.sect = 3 ∧ r.kind = 1) from Iff.rfl)
  have HAO := hid (show AddendOk r ↔ if r.kind = 1 ∨ r.kind = 5 then -2048 ≤ r.addend ∧ r.addend ≤ 2047 else if r.kind = 6 then r.addend = 4 ∨ r.addend = 12 else r.addend = 0 from Iff.rfl)
  have HRO := hid (show RelOk o r ↔ KindOk r ∧ AddendOk r ∧ SymIx o r ∧ BordOk o r ∧ AboutOk o r ∧ GoesP r.kind (about o r) ∧ ¬ WithinP o r from Iff.rfl)
  have HFQ := hid (HFP.out r)
  generalize FP r = FQ at *
  clear HFP
  generalize RelOk o r = RO at *
  generalize SymIx o r = SI at *
  generalize BordOk o r = BO at *
  generalize KindOk r = KO at *
  generalize AddendOk r = AO at *
  generalize AboutOk o r = AB at *
  generalize WithinP o r = WI at *
  generalize about o r = ab at *
  have HK2 := hid (show r.kind = 4 ∨ r.kind = 5 → spanI r = 2 from fun h => if_pos h)
  generalize spanI r = sp at *
  unfold relA at cC
  obtain ⟨sect, off, kind, sym, addend⟩ := r
  simp only at *
  have no : Hid (∀ W, (¬ Q) → w.grownBy W none → Tells (.returned (.bool false)) Q ∧ w.grownBy W none) := fun W a b => ⟨Tells.no a, b⟩
  have B0 := BlkAt.new w #[.int .i64 sect, .int .i64 off, .int .i64 kind, .int .i64 sym, .int .i64 addend] 48
  have HB0 := hid B0
  have G0 := hid (World.grownBy_alloc w (.cells #[.int .i64 sect, .int .i64 off, .int .i64 kind, .int .i64 sym, .int .i64 addend] 48) none)
  clear h hs hn h4 h5 h6 hb hb4 hw hgr hca hc B0
  go_enter Tryd.func37, Tryd.ntmps37
  by_cases c : sect < 1
  · have d : decide (sect < 1) = true := by simp; omega
    go_wp2
    go_ret
    exact no.out _ (fun h => by have h2 := HRO.out.1 (HQ.out.1 h).1; have h3 := HKO.out.1 h2.1; omega) G0.out
  have n0 : decide (sect < 1) = false := by simp; omega
  have m0 : ¬ (sect < 1) := c
  clear c
  by_cases c : 3 < sect
  · have d : decide (3 < sect) = true := by simp; omega
    go_wp2
    go_ret
    exact no.out _ (fun h => by have h2 := HRO.out.1 (HQ.out.1 h).1; have h3 := HKO.out.1 h2.1; omega) G0.out
  have n1 : decide (3 < sect) = false := by simp; omega
  have m1 : ¬ (3 < sect) := c
  clear c
  by_cases c : kind < 1
  · have d : decide (kind < 1) = true := by simp; omega
    go_wp2
    go_ret
    exact no.out _ (fun h => by have h2 := HRO.out.1 (HQ.out.1 h).1; have h3 := HKO.out.1 h2.1; omega) G0.out
  have n2 : decide (kind < 1) = false := by simp; omega
  have m2 : ¬ (kind < 1) := c
  clear c
  by_cases c : 6 < kind
  · have d : decide (6 < kind) = true := by simp; omega
    go_wp2
    go_ret
    exact no.out _ (fun h => by have h2 := HRO.out.1 (HQ.out.1 h).1; have h3 := HKO.out.1 h2.1; omega) G0.out
  have n3 : decide (6 < kind) = false := by simp; omega
  have m3 : ¬ (6 < kind) := c
  clear c
  by_cases c : off < 0
  · have d : decide (off < 0) = true := by simp; omega
    go_wp2
    go_ret
    exact no.out _ (fun h => by have h2 := HRO.out.1 (HQ.out.1 h).1; have h3 := HAB.out.1 h2.2.2.2.2.1; omega) G0.out
  have n4 : decide (off < 0) = false := by simp; omega
  have m4 : ¬ (off < 0) := c
  clear c
  have m5 : 0 ≤ off := by omega
  by_cases c : off % 4 = 0
  rotate_left
  · have d : (off % 4 == 0) = false := beq_eq_false_iff_ne.2 c
    have CC := hid c
    clear c
    go_wp2
    go_ret
    exact no.out _ (fun h => by have h2 := HRO.out.1 (HQ.out.1 h).1; exact CC.out (HAB.out.1 h2.2.2.2.2.1).2.1) G0.out
  have n5 : (off % 4 == 0) = true := beq_iff_eq.2 c
  have C5 := hid c
  exact absurd ⟨⟨⟨by omega, by omega⟩, m5, C5.out⟩, by omega, by omega⟩ HPRE.out

end Go.Proofs.YtogbomihnhfaiaaDoor

namespace Go.Proofs.YtogbomihnhfaiaaDoor
open Go.RowKit

theorem isReloc_any (k : Nat) (g B : Nat) (o : Lk.Obj) (at_ : Option Addr) (ct : Nat) (af : Option Addr) (cf : Nat) (ad : Option Addr) (cd : Nat) (Z : Nat) (w : World) (h : ObjAt w g o) (hs : SectsAt w B o at_ ct af cf ad cd Z) (hn : Small o) (hb4 : Borders o.align) (hw : AllWords o) (hgr : ∀ r ∈ o.rels, r.off ≤ 9223372036854775807) (hk : k < o.rels.length) (hprev : ∀ j (hj : j < o.rels.length), j + 1 = k → RelOk o (o.rels[j]'hj)) :
    Calls Tryd.prog 37 #[.pointer (some ⟨g, 0, none⟩), .slice (some ⟨B, 0, none⟩) 5 5, .int .i64 (k : Int)] w fun e w' => Tells e (RelAt o k hk) ∧ w.grownBy w' none := by
  cases k with
  | zero =>
    by_cases hp : ((1 ≤ (o.rels[0]'hk).sect ∧ (o.rels[0]'hk).sect ≤ 3) ∧ 0 ≤ (o.rels[0]'hk).off ∧ (o.rels[0]'hk).off % 4 = 0) ∧ 1 ≤ (o.rels[0]'hk).kind ∧ (o.rels[0]'hk).kind ≤ 6
    · rcases (show (o.rels[0]'hk).kind = 1 ∨ (o.rels[0]'hk).kind = 5 ∨ (2 ≤ (o.rels[0]'hk).kind ∧ (o.rels[0]'hk).kind ≤ 4) ∨ (o.rels[0]'hk).kind = 6 from by omega) with c | c | c | c
      · exact isReloc_first_one g B o at_ ct af cf ad cd Z w h hs hn hb4 hw hgr hk hp.1 c
      · exact isReloc_first_five g B o at_ ct af cf ad cd Z w h hs hn hb4 hw hgr hk hp.1 c
      · exact isReloc_first_call g B o at_ ct af cf ad cd Z w h hs hn hb4 hw hgr hk hp.1 c
      · exact isReloc_first_align g B o at_ ct af cf ad cd Z w h hs hn hb4 hw hgr hk hp.1 c
    · exact isReloc_first_no g B o at_ ct af cf ad cd Z w h hs hn hb4 hw hgr hk hp
  | succ j =>
    have hpv := hprev j (by omega) rfl
    by_cases hp : ((1 ≤ (o.rels[j + 1]'hk).sect ∧ (o.rels[j + 1]'hk).sect ≤ 3) ∧ 0 ≤ (o.rels[j + 1]'hk).off ∧ (o.rels[j + 1]'hk).off % 4 = 0) ∧ 1 ≤ (o.rels[j + 1]'hk).kind ∧ (o.rels[j + 1]'hk).kind ≤ 6
    · rcases (show (o.rels[j + 1]'hk).kind = 1 ∨ (o.rels[j + 1]'hk).kind = 5 ∨ (2 ≤ (o.rels[j + 1]'hk).kind ∧ (o.rels[j + 1]'hk).kind ≤ 4) ∨ (o.rels[j + 1]'hk).kind = 6 from by omega) with c | c | c | c
      · exact isReloc_later_one g B j o at_ ct af cf ad cd Z w h hs hn hb4 hw hgr hk hpv hp.1 c
      · exact isReloc_later_five g B j o at_ ct af cf ad cd Z w h hs hn hb4 hw hgr hk hpv hp.1 c
      · exact isReloc_later_call g B j o at_ ct af cf ad cd Z w h hs hn hb4 hw hgr hk hpv hp.1 c
      · exact isReloc_later_align g B j o at_ ct af cf ad cd Z w h hs hn hb4 hw hgr hk hpv hp.1 c
    · exact isReloc_later_no g B j o at_ ct af cf ad cd Z w h hs hn hb4 hw hgr hk hpv hp

end Go.Proofs.YtogbomihnhfaiaaDoor

namespace Go.Proofs.YtogbomihnhfaiaaDoor
open Go.RowKit

/-- the words of section n + 1, noughts for the last -/
def secL (o : Lk.Obj) (n : Nat) : List Int := if n = 3 then List.replicate o.bss.toNat 0 else wordsOf o ((n : Int) + 1)

theorem SectsAt.all {W : World} {B : Nat} {o : Lk.Obj} {at_ : Option Addr} {ct : Nat} {af : Option Addr} {cf : Nat} {ad : Option Addr} {cd : Nat} {Z : Nat} (h : SectsAt W B o at_ ct af cf ad cd Z) (n : Nat) (hn : n ≤ 3) :
    ∃ ao cap, W.cell? ⟨B, n + 1, none⟩ = some (.slice ao (secL o n).length cap) ∧ IntsIn W ao (secL o n) := by
  rcases (show n = 0 ∨ n = 1 ∨ n = 2 ∨ n = 3 from by omega) with rfl | rfl | rfl | rfl
  · exact ⟨_, _, h.blk.cell 1, h.text⟩
  · exact ⟨_, _, h.blk.cell 2, h.far⟩
  · exact ⟨_, _, h.blk.cell 3, h.data⟩
  · have e : secL o 3 = List.replicate o.bss.toNat 0 := rfl
    rw [e, List.length_replicate]
    exact ⟨_, _, h.blk.cell 4, h.zero⟩

theorem allWords_sec {o : Lk.Obj} (h : AllWords o) (n : Nat) (hn : n ≤ 3) : Words (secL o n) := by
  rcases (show n = 0 ∨ n = 1 ∨ n = 2 ∨ n = 3 from by omega) with rfl | rfl | rfl | rfl
  · exact h.1
  · exact h.2.1
  · exact h.2.2
  · intro i hi
    have e : secL o 3 = List.replicate o.bss.toNat 0 := rfl
    simp [e]
theorem allWords_of {o : Lk.Obj} (h : ∀ n, n < 4 → Words (secL o n)) : AllWords o := ⟨h 0 (by omega), h 1 (by omega), h 2 (by omega)⟩
theorem secL_small {o : Lk.Obj} (h : Small o) (hz : o.bss ≤ 64) (n : Nat) : (secL o n).length ≤ 65535 := by
  unfold secL
  split
  · simp; omega
  · exact wordsOf_small h _

set_option maxRecDepth 100000 in
set_option maxHeartbeats 8000000 in
theorem isObject_any (g : Nat) (o : Lk.Obj) (w : World) (h : ObjAt w g o) (hn : Tame o) :
    Calls Tryd.prog 18 #[.pointer (some ⟨g, 0, none⟩)] w fun e w' => Tells e (Valid o) ∧ w.grownBy w' none := by
  obtain ⟨at_, ct, af, cf, ad, cd, aa, ca, as_, cs, ar, cr, hb, h1, h2, h3, h4, h5, h6⟩ := h.open
  have HB := hid hb
  have HO := hid h
  have HN := hid hn
  have HA4 := hid (IntsIn.of_own h4)
  obtain ⟨n1, n2, n3, n4, n5, n6⟩ := hn.1
  have k0 := hb.cell 0
  have k1 := hb.cell 1
  have k2 := hb.cell 2
  have k3 := hb.cell 3
  have k4 := hb.cell 4
  have k5 := hb.cell 5
  have k6 := hb.cell 6
  have HQ := hid (show Valid o ↔ Sizes o ∧ Borders o.align ∧ AllWords o ∧ SymsOk o ∧ RelsOk o from Iff.rfl)
  have HZ := hid (show Sizes o ↔ (o.text.length ≤ 1200 ∧ o.far.length ≤ 1200 ∧ o.data.length ≤ 64) ∧ (0 ≤ o.bss ∧ o.bss ≤ 64) ∧ o.syms.length ≤ 16 ∧ o.rels.length ≤ 32 from Iff.rfl)
  generalize Valid o = Q at *
  have no : Hid (∀ W, (¬ Q) → w.grownBy W none → Tells (.returned (.bool false)) Q ∧ w.grownBy W none) := fun W a b => ⟨Tells.no a, b⟩
  have RF := hid (World.grownBy.refl w none)
  clear h hn hb h1 h2 h3 h4 h5 h6
  go_enter Tryd.func18, Tryd.ntmps18
  by_cases c : 1200 < o.text.length
  · have d : decide (1200 < (o.text.length : Int)) = true := by simp; omega
    go_wp2
    go_ret
    exact no.out _ (fun hq => by have := HZ.out.1 (HQ.out.1 hq).1; omega) RF.out
  have d0 : decide (1200 < (o.text.length : Int)) = false := by simp; omega
  have c0 : ¬ (1200 < o.text.length) := c
  clear c
  by_cases c : 1200 < o.far.length
  · have d : decide (1200 < (o.far.length : Int)) = true := by simp; omega
    go_wp2
    go_ret
    exact no.out _ (fun hq => by have := HZ.out.1 (HQ.out.1 hq).1; omega) RF.out
  have d1 : decide (1200 < (o.far.length : Int)) = false := by simp; omega
  have c1 : ¬ (1200 < o.far.length) := c
  clear c
  by_cases c : 64 < o.data.length
  · have d : decide (64 < (o.data.length : Int)) = true := by simp; omega
    go_wp2
    go_ret
    exact no.out _ (fun hq => by have := HZ.out.1 (HQ.out.1 hq).1; omega) RF.out
  have d2 : decide (64 < (o.data.length : Int)) = false := by simp; omega
  have c2 : ¬ (64 < o.data.length) := c
  clear c
  by_cases c : o.bss < 0
  · have d : decide (o.bss < 0) = true := by simp; omega
    go_wp2
    go_ret
    exact no.out _ (fun hq => by have := HZ.out.1 (HQ.out.1 hq).1; omega) RF.out
  have d3 : decide (o.bss < 0) = false := by simp; omega
  have c3 : ¬ (o.bss < 0) := c
  clear c
  by_cases c : 64 < o.bss
  · have d : decide (64 < o.bss) = true := by simp; omega
    go_wp2
    go_ret
    exact no.out _ (fun hq => by have := HZ.out.1 (HQ.out.1 hq).1; omega) RF.out
  have d4 : decide (64 < o.bss) = false := by simp; omega
  have c4 : ¬ (64 < o.bss) := c
  clear c
  by_cases c : o.align.length = 4
  rotate_left
  · have d : ((o.align.length : Int) == 4) = false := by rw [beq_eq_false_iff_ne]; omega
    have d' : ((o.align.length : Int) != 4) = true := by simp only [bne, d, Bool.not_false]
    have CC := hid c
    clear c
    go_wp2
    go_ret
    exact no.out _ (fun hq => CC.out (HQ.out.1 hq).2.1.1) RF.out
  have d5 : ((o.align.length : Int) == 4) = true := by rw [beq_iff_eq]; omega
  have d5' : ((o.align.length : Int) != 4) = false := by simp only [bne, d5, Bool.not_true]
  have C4 := hid c
  clear c
  by_cases c : 16 < o.syms.length
  · have d : decide (16 < (o.syms.length : Int)) = true := by simp; omega
    go_wp2
    go_ret
    exact no.out _ (fun hq => by have := HZ.out.1 (HQ.out.1 hq).1; omega) RF.out
  have d6 : decide (16 < (o.syms.length : Int)) = false := by simp; omega
  have c6 : ¬ (16 < o.syms.length) := c
  clear c
  by_cases c : 32 < o.rels.length
  · have d : decide (32 < (o.rels.length : Int)) = true := by simp; omega
    go_wp2
    go_ret
    exact no.out _ (fun hq => by have := HZ.out.1 (HQ.out.1 hq).1; omega) RF.out
  have d7 : decide (32 < (o.rels.length : Int)) = false := by simp; omega
  have c7 : ¬ (32 < o.rels.length) := c
  clear c
  have SZ := hid (HZ.out.2 ⟨⟨by omega, by omega, by omega⟩, ⟨by omega, by omega⟩, by omega, by omega⟩)
  have cS := hid (sections_any g o w HO.out ⟨by omega, by omega⟩)
  go_wp2_with fail
  refine cS.out.mono ?_
  rintro e w1 ⟨B, sat, sct, saf, scf, sad, scd, Z, rfl, hsec, hq1⟩
  have HS := hid hsec
  have G1 := hid hq1
  have A1 := hid (HA4.out.kept (fun a v hv => gcell hv hq1))
  have b4 := gcell k4 hq1
  have b5 := gcell k5 hq1
  have b6 := gcell k6 hq1
  clear hsec hq1 k0 k1 k2 k3 k4 k5 k6 cS HA4
  have SMW := hid (fun n => secL_small HN.out.1 (show o.bss ≤ 64 from by omega) n)
  clear n1 n2 n3 n4
  go_wp2
  go_loop [4] (fun i => ∃ n : Nat, n ≤ 4 ∧ i = .int .i64 ((n : Int) + 1) ∧ (∀ j (hj : j < o.align.length), j < n → 2 ≤ o.align[j] ∧ o.align[j] ≤ 4) ∧ ∀ j, j < n → Words (secL o j)) (fun i => 5 - (intOf i).toNat)
  case atStart => exact ⟨0, Nat.zero_le _, rfl, fun j _ hj => absurd hj (Nat.not_lt_zero j), fun j hj => absurd hj (Nat.not_lt_zero j)⟩
  case round =>
    obtain ⟨n, hn4, rfl, hal, hwo⟩ := hrel
    have HAL := hid hal
    have HWO := hid hwo
    clear hal hwo
    by_cases hlt : n < 4
    · have hlt' : (n : Int) + 1 < 5 := by omega
      have hln : n < o.align.length := by have := C4.out; omega
      have hli : (n : Int) < (o.align.length : Int) := by omega
      obtain ⟨ga, offa, haa, hca⟩ := A1.out (by omega)
      subst haa
      have ca := hca n hln
      clear hca
      have HBO := hid (show Borders o.align → 2 ≤ o.align[n] ∧ o.align[n] ≤ 4 from fun h => h.2 n hln)
      have HAN := hid (show 2 ≤ o.align[n] ∧ o.align[n] ≤ 4 → ∀ j (hj : j < o.align.length), j < n + 1 → 2 ≤ o.align[j] ∧ o.align[j] ≤ 4 from fun h j hj hjk => (Nat.lt_succ_iff_lt_or_eq.1 hjk).elim (fun h => HAL.out j hj h) (fun e => by subst e; exact h))
      generalize o.align[n] = av at *
      by_cases c : av < 2
      · have d : decide (av < 2) = true := by simp; omega
        go_wp2
        go_ret
        exact no.out _ (fun hq => by have := HBO.out (HQ.out.1 hq).2.1; omega) G1.out
      have e1 : decide (av < 2) = false := by simp; omega
      by_cases cc : 4 < av
      · have d : decide (4 < av) = true := by simp; omega
        go_wp2
        go_ret
        exact no.out _ (fun hq => by have := HBO.out (HQ.out.1 hq).2.1; omega) G1.out
      have e2 : decide (4 < av) = false := by simp; omega
      have HAN2 := hid (HAN.out ⟨by omega, by omega⟩)
      clear c cc
      obtain ⟨sao, scap, s1, s2⟩ := HS.out.all n (by omega)
      have HS2 := hid s2
      have HWS := hid (show AllWords o → Words (secL o n) from fun h => allWords_sec h n (by omega))
      have HWN := hid (show Words (secL o n) → ∀ j, j < n + 1 → Words (secL o j) from fun h j hjk => (Nat.lt_succ_iff_lt_or_eq.1 hjk).elim (fun h => HWO.out j h) (fun e => by subst e; exact h))
      have hsz := SMW.out n
      clear s2
      generalize secL o n = ws at *
      go_wp2
      go_loop [5] (fun i => ∃ a : Nat, a ≤ ws.length ∧ i = .int .i64 a ∧ ∀ j (hj : j < ws.length), j < a → 0 ≤ ws[j] ∧ ws[j] ≤ 4294967295) (fun i => ws.length - (intOf i).toNat)
      case atStart => exact ⟨0, Nat.zero_le _, rfl, fun j _ hj => absurd hj (Nat.not_lt_zero j)⟩
      case round =>
        obtain ⟨a, ha, rfl, hall⟩ := hrel
        have HALL := hid hall
        clear hall
        by_cases hla : a < ws.length
        · have hla' : (a : Int) < (ws.length : Int) := by omega
          obtain ⟨gs, offs, hss, hcs⟩ := HS2.out (by omega)
          subst hss
          have cw := hcs a hla
          clear hcs
          have HX := hid (show Words ws → 0 ≤ ws[a] ∧ ws[a] ≤ 4294967295 from fun h => h a hla)
          have HY := hid (show 0 ≤ ws[a] ∧ ws[a] ≤ 4294967295 → ∀ j (hj : j < ws.length), j < a + 1 → 0 ≤ ws[j] ∧ ws[j] ≤ 4294967295 from fun h j hj hjk => (Nat.lt_succ_iff_lt_or_eq.1 hjk).elim (fun h => HALL.out j hj h) (fun e => by subst e; exact h))
          generalize ws[a] = x at *
          by_cases c : x < 0
          · have d : decide (x < 0) = true := by simp; omega
            go_wp2
            go_ret
            exact no.out _ (fun hq => by have := HX.out (HWS.out (HQ.out.1 hq).2.2.1); omega) G1.out
          have f1 : decide (x < 0) = false := by simp; omega
          by_cases cc : 4294967296 ≤ x
          · have d : decide (4294967296 ≤ x) = true := by simp; omega
            go_wp2
            go_ret
            exact no.out _ (fun hq => by have := HX.out (HWS.out (HQ.out.1 hq).2.2.1); omega) G1.out
          have f2 : decide (4294967296 ≤ x) = false := by simp; omega
          have HYY := hid (HY.out ⟨by omega, by omega⟩)
          clear c cc
          go_wp2
          go_round
          case rel => exact ⟨a + 1, by omega, by go_num, HYY.out⟩
          case measure => simp [intOf]; omega
        · have HWY := hid (HWN.out (fun j hj => HALL.out j hj (by omega)))
          go_wp2
          go_round
          case rel => exact ⟨n + 1, by omega, by go_num, HAN2.out, HWY.out⟩
          case measure => simp [intOf]; omega
    · have HBY := hid (show Borders o.align from ⟨C4.out, fun i hi => HAL.out i hi (by have := C4.out; omega)⟩)
      have HWY := hid (allWords_of (fun j hj => HWO.out j (by omega)))
      have hge : ¬ ((n : Int) + 1 < 5) := by omega
      clear hlt
      go_wp2
      go_loopw [6] (fun i wr => ∃ k : Nat, k ≤ o.syms.length ∧ i = .int .i64 k ∧ (∀ j (hj : j < o.syms.length), j < k → SymAt o j hj) ∧ w1.grownBy wr none) (fun i _ => o.syms.length - (intOf i).toNat)
      case atStart => exact ⟨0, Nat.zero_le _, rfl, fun j _ hj => absurd hj (Nat.not_lt_zero j), World.grownBy.refl _ _⟩
      case round =>
        obtain ⟨k, hk, rfl, hall, hgr⟩ := hrel
        have HALL := hid hall
        have HG := hid (grown_trans G1.out hgr)
        have HGS := hid hgr
        have b5 := gcell b5 hgr
        have b6 := gcell b6 hgr
        clear hall hgr
        by_cases hlt : k < o.syms.length
        · have hlt' : (k : Int) < (o.syms.length : Int) := by omega
          have cI := hid (isSymbol_any g B k o _ _ _ _ _ _ _ wr (HO.out.kept HG.out) (HS.out.grown HGS.out) HN.out.1 SZ.out.2.1 HN.out.2.1 hlt)
          go_wp2_with fail
          refine cI.out.mono ?_
          rintro e w2 ⟨t, q2⟩
          have Q2 := hid (grown_trans HG.out q2)
          have Q3 := hid (grown_trans HGS.out q2)
          rcases t.split with ⟨rfl, p1⟩ | ⟨rfl, p1⟩ <;> clear t cI q2
          · have CC := hid (show ¬ SymsOk o from fun h => p1.out (h k hlt))
            clear p1
            go_wp2
            go_ret
            exact no.out _ (fun hq => CC.out (HQ.out.1 hq).2.2.2.1) Q2.out
          · have HY := hid (show ∀ j (hj : j < o.syms.length), j < k + 1 → SymAt o j hj from fun j hj hjk => (Nat.lt_succ_iff_lt_or_eq.1 hjk).elim (fun h => HALL.out j hj h) (fun e => by subst e; exact p1.out))
            clear p1
            go_wp2
            go_roundw
            case rel => exact ⟨k + 1, by omega, by go_num, HY.out, Q3.out⟩
            case measure => simp [intOf]; omega
        · have HSY := hid (show SymsOk o from fun i hi => HALL.out i hi (by omega))
          have hge2 : ¬ ((k : Int) < (o.syms.length : Int)) := by omega
          obtain ⟨wo, hwo⟩ : ∃ wo : World, wo = wr := ⟨_, rfl⟩
          subst hwo
          clear hlt
          go_wp2
          go_loopw [8] (fun i wr => ∃ k : Nat, k ≤ o.rels.length ∧ i = .int .i64 k ∧ (∀ j (hj : j < o.rels.length), j < k → RelAt o j hj) ∧ wo.grownBy wr none) (fun i _ => o.rels.length - (intOf i).toNat)
          case atStart => exact ⟨0, Nat.zero_le _, rfl, fun j _ hj => absurd hj (Nat.not_lt_zero j), World.grownBy.refl _ _⟩
          case round =>
            obtain ⟨m, hm, rfl, hall, hgr⟩ := hrel
            have HALR := hid hall
            have HH := hid (grown_trans HG.out hgr)
            have HHS := hid (grown_trans HGS.out hgr)
            have HHR := hid hgr
            have b6 := gcell b6 hgr
            clear hall hgr
            by_cases hlt : m < o.rels.length
            · have hlt' : (m : Int) < (o.rels.length : Int) := by omega
              have cI := hid (isReloc_any m g B o _ _ _ _ _ _ _ wr (HO.out.kept HH.out) (HS.out.grown HHS.out) HN.out.1 HBY.out HWY.out HN.out.2.2 hlt (fun j hj hjm => (HALR.out j hj (by omega)).1))
              go_wp2_with fail
              refine cI.out.mono ?_
              rintro e w2 ⟨t, q2⟩
              have Q2 := hid (grown_trans HH.out q2)
              have Q3 := hid (grown_trans HHR.out q2)
              rcases t.split with ⟨rfl, p1⟩ | ⟨rfl, p1⟩ <;> clear t cI q2
              · have CC := hid (show ¬ RelsOk o from fun h => p1.out (h m hlt))
                clear p1
                go_wp2
                go_ret
                exact no.out _ (fun hq => CC.out (HQ.out.1 hq).2.2.2.2) Q2.out
              · have HY := hid (show ∀ j (hj : j < o.rels.length), j < m + 1 → RelAt o j hj from fun j hj hjk => (Nat.lt_succ_iff_lt_or_eq.1 hjk).elim (fun h => HALR.out j hj h) (fun e => by subst e; exact p1.out))
                clear p1
                go_wp2
                go_roundw
                case rel => exact ⟨m + 1, by omega, by go_num, HY.out, Q3.out⟩
                case measure => simp [intOf]; omega
            · have HRY := hid (show RelsOk o from fun i hi => HALR.out i hi (by omega))
              have hge3 : ¬ ((m : Int) < (o.rels.length : Int)) := by omega
              clear hlt
              go_wp2
              go_ret
              exact ⟨Tells.yes (HQ.out.2 ⟨SZ.out, HBY.out, HWY.out, HSY.out, HRY.out⟩), HH.out⟩

end Go.Proofs.YtogbomihnhfaiaaDoor

namespace Go.Proofs.YtogbomihnhfaiaaDoor
open Go.RowKit

theorem conv1 (W : World) (x : Int) : (convert 57 9 (.slice (some ⟨W.heap.size, 0, none⟩) 1 1)).run Tryd.prog (W.alloc (.cells #[.int .u8 x] 5)) = .ok (.string (strOfNums [x])) (W.alloc (.cells #[.int .u8 x] 5)) :=
  run_convert_bytes_arg (P := Tryd.prog) _ 57 5 Tryd.underlying57 Tryd.underlying5 W.heap.size 0 1 1 [x] rfl (fun i hi => by
    have e : i = 0 := by omega
    subst e
    exact (BlkAt.new W #[.int .u8 x] 5).cell 0) 9 Tryd.underlying9

theorem le_snoc (v : Int) (k : Nat) : Lk.le v (k + 1) = Lk.le v k ++ [UInt8.ofNat (v / (256 : Int) ^ k % 256).toNat] := by
  induction k generalizing v with
  | zero => simp [Lk.le]
  | succ k ih =>
    have h := ih (v / 256)
    have e : v / 256 / (256 : Int) ^ k = v / (256 : Int) ^ (k + 1) := by
      rw [Int.ediv_ediv_of_nonneg (by decide), Int.pow_succ, Int.mul_comm]
    rw [e] at h
    show UInt8.ofNat (v % 256).toNat :: Lk.le (v / 256) (k + 1) = (UInt8.ofNat (v % 256).toNat :: Lk.le (v / 256) k) ++ _
    rw [h]
    rfl

theorem bs_append (a b : List UInt8) : bs a ++ bs b = bs (a ++ b) := by
  apply ByteArray.ext
  simp [bs]

theorem le_step (v x : Int) (k : Nat) (hx : x = v / (256 : Int) ^ k % 256) : bs (Lk.le v k) ++ strOfNums [x] = bs (Lk.le v (k + 1)) := by
  subst hx
  rw [le_snoc, ← bs_append]
  rfl

set_option maxHeartbeats 2000000 in
theorem le_any (v : Int) (n : Nat) (w : World) (hn : n ≤ 4) :
    Calls Tryd.prog 38 #[.int .i64 v, .int .i64 n] w fun e w' => e = .returned (.string (bs (Lk.le v n))) ∧ w.grownBy w' none := by
  have hcv := conv1
  go_enter Tryd.func38, Tryd.ntmps38
  go_wp2
  go_loopw [5, 6] (fun t i wr => ∃ k : Nat, k ≤ n ∧ i = .int .i64 k ∧ t = .string (bs (Lk.le v k)) ∧ w.grownBy wr none) (fun _ i _ => n - (intOf i).toNat)
  case atStart => exact ⟨0, Nat.zero_le _, rfl, rfl, World.grownBy.refl _ _⟩
  case round =>
    obtain ⟨k, hk, rfl, rfl, hgr⟩ := hrel
    have HG := hid hgr
    clear hgr
    by_cases hlt : k < n
    · rcases (show k = 0 ∨ k = 1 ∨ k = 2 ∨ k = 3 from by omega) with rfl | rfl | rfl | rfl
      · have HS := hid (le_step v (v % 256) 0 (by simp))
        go_wp2
        go_roundw
        case rel => exact ⟨1, by omega, rfl, by rw [← HS.out], grown_trans HG.out (World.grownBy_alloc _ _ _)⟩
        case measure => simp [intOf]; omega
      · have HS := hid (le_step v (v / 256 % 256) 1 (by simp))
        go_wp2
        go_roundw
        case rel => exact ⟨2, by omega, rfl, by rw [← HS.out], grown_trans HG.out (World.grownBy_alloc _ _ _)⟩
        case measure => simp [intOf]; omega
      · have HS := hid (le_step v (v / 65536 % 256) 2 (by simp))
        go_wp2
        go_roundw
        case rel => exact ⟨3, by omega, rfl, by rw [← HS.out], grown_trans HG.out (World.grownBy_alloc _ _ _)⟩
        case measure => simp [intOf]; omega
      · have HS := hid (le_step v (v / 16777216 % 256) 3 (by simp))
        go_wp2
        go_roundw
        case rel => exact ⟨4, by omega, rfl, by rw [← HS.out], grown_trans HG.out (World.grownBy_alloc _ _ _)⟩
        case measure => simp [intOf]; omega
    · have e : k = n := by omega
      subst e
      go_wp2
      go_ret
      exact ⟨rfl, HG.out⟩

end Go.Proofs.YtogbomihnhfaiaaDoor

namespace Go.Proofs.YtogbomihnhfaiaaDoor
open Go.RowKit

set_option maxHeartbeats 2000000 in
theorem writeReloc_any (b : Nat) (r : Lk.Rel) (l : List UInt8) (w : World) (h : WrAt w b l) (hl : l.length ≤ 1048576) (hg : Lk.goodRel r) :
    Calls Tryd.prog 30 #[.pointer (some ⟨b, 0, none⟩), .agg #[.int .i64 r.sect, .int .i64 r.off, .int .i64 r.kind, .int .i64 r.sym, .int .i64 r.addend]] w fun e w' => e = .returned (.tuple #[]) ∧ WrAt w' b (l ++ Lk.relB r) ∧ Wk b w w' := by
  obtain ⟨⟨hs0, hs1⟩, ⟨hk0, hk1⟩, ⟨ho0, ho1⟩, ⟨hy0, hy1⟩, ha0, ha1⟩ := hg
  have hvb : w.heap.size ≠ b := by obtain ⟨_, _, h1, _⟩ := h; have := h1.lt; omega
  have S1 := hid (St3.begin h #[.int .i64 r.sect, .int .i64 r.off, .int .i64 r.kind, .int .i64 r.sym, .int .i64 r.addend] 48)
  have c1 := hid (fun W (h : WrAt W b (l)) => wNumber_lit b r.sect 1 1 rfl (l) W h (by omega) (by omega) (by omega) (by omega))
  have c2 := hid (fun W (h : WrAt W b (l ++ Lk.le r.sect 1)) => wNumber_lit b r.kind 1 1 rfl (l ++ Lk.le r.sect 1) W h (by simp only [List.length_append, Lk.le_length]; omega) (by omega) (by omega) (by omega))
  have c3 := hid (fun W (h : WrAt W b (l ++ Lk.le r.sect 1 ++ Lk.le r.kind 1)) => wNumber_lit b r.off 2 2 rfl (l ++ Lk.le r.sect 1 ++ Lk.le r.kind 1) W h (by simp only [List.length_append, Lk.le_length]; omega) (by omega) (by omega) (by omega))
  have c4 := hid (fun W (h : WrAt W b (l ++ Lk.le r.sect 1 ++ Lk.le r.kind 1 ++ Lk.le r.off 2)) => wNumber_lit b r.sym 1 1 rfl (l ++ Lk.le r.sect 1 ++ Lk.le r.kind 1 ++ Lk.le r.off 2) W h (by simp only [List.length_append, Lk.le_length]; omega) (by omega) (by omega) (by omega))
  have c5 := hid (fun W (h : WrAt W b (l ++ Lk.le r.sect 1 ++ Lk.le r.kind 1 ++ Lk.le r.off 2 ++ Lk.le r.sym 1)) => wNumber_lit b r.addend 2 2 rfl (l ++ Lk.le r.sect 1 ++ Lk.le r.kind 1 ++ Lk.le r.off 2 ++ Lk.le r.sym 1) W h (by simp only [List.length_append, Lk.le_length]; omega) (by omega) (by omega) (by omega))
  clear h
  go_enter Tryd.func30, Tryd.ntmps30
  go_wp2_with fail
  refine Calls.at_world (St3 w b w.heap.size 48 #[.int .i64 r.sect, .int .i64 r.off, .int .i64 r.kind, .int .i64 r.sym, .int .i64 r.addend] l) S1.out ?_
  clear S1
  intro W1 s1
  have S1 := hid s1
  clear s1
  refine (c1.out W1 S1.out.wr).mono ?_
  rintro e W2 ⟨rfl, hw, hk⟩
  have S2 := hid (S1.out.step hvb (by decide) hw hk)
  clear hw hk
  have k2 := S2.out.own.cell 2
  go_wp2_with fail
  refine (c2.out W2 S2.out.wr).mono ?_
  rintro e W3 ⟨rfl, hw, hk⟩
  have S3 := hid (S2.out.step hvb (by decide) hw hk)
  clear hw hk k2
  have k3 := S3.out.own.cell 1
  go_wp2_with fail
  refine (c3.out W3 S3.out.wr).mono ?_
  rintro e W4 ⟨rfl, hw, hk⟩
  have S4 := hid (S3.out.step hvb (by decide) hw hk)
  clear hw hk k3
  have k4 := S4.out.own.cell 3
  go_wp2_with fail
  refine (c4.out W4 S4.out.wr).mono ?_
  rintro e W5 ⟨rfl, hw, hk⟩
  have S5 := hid (S4.out.step hvb (by decide) hw hk)
  clear hw hk k4
  have k5 := S5.out.own.cell 4
  go_wp2_with fail
  refine (c5.out W5 S5.out.wr).mono ?_
  rintro e W6 ⟨rfl, hw, hk⟩
  have S6 := hid (S5.out.step hvb (by decide) hw hk)
  clear hw hk k5
  go_wp2
  go_end0
  refine ⟨rfl, ?_, S6.out.wk⟩
  have := S6.out.wr
  simpa [Lk.relB] using this

def SymsB (w : World) (b : Nat) (ao : Option Addr) (ys : List Lk.Sym) : Prop :=
  0 < ys.length → ∃ g cs, ao = some ⟨g, 0, none⟩ ∧ g ≠ b ∧ BlkAt w g cs 46 ∧ ∀ i (h : i < ys.length), cs[i * 4]? = some (.string (bs ys[i].name)) ∧ cs[i * 4 + 1]? = some (.int .i64 ys[i].bind) ∧ cs[i * 4 + 2]? = some (.int .i64 ys[i].sect) ∧ cs[i * 4 + 3]? = some (.int .i64 ys[i].off)
theorem SymsB.kept {w w' : World} {b : Nat} {ao : Option Addr} {xs : List Lk.Sym} (h : SymsB w b ao xs) (hk : Wk b w w') : SymsB w' b ao xs := by
  intro h0
  obtain ⟨g, cs, h1, h2, h3, h4⟩ := h h0
  exact ⟨g, cs, h1, h2, hk.2 g cs _ h2 (by decide) h3, h4⟩
def RelsB (w : World) (b : Nat) (ao : Option Addr) (ys : List Lk.Rel) : Prop :=
  0 < ys.length → ∃ g cs, ao = some ⟨g, 0, none⟩ ∧ g ≠ b ∧ BlkAt w g cs 48 ∧ ∀ i (h : i < ys.length), cs[i * 5]? = some (.int .i64 ys[i].sect) ∧ cs[i * 5 + 1]? = some (.int .i64 ys[i].off) ∧ cs[i * 5 + 2]? = some (.int .i64 ys[i].kind) ∧ cs[i * 5 + 3]? = some (.int .i64 ys[i].sym) ∧ cs[i * 5 + 4]? = some (.int .i64 ys[i].addend)
theorem RelsB.kept {w w' : World} {b : Nat} {ao : Option Addr} {xs : List Lk.Rel} (h : RelsB w b ao xs) (hk : Wk b w w') : RelsB w' b ao xs := by
  intro h0
  obtain ⟨g, cs, h1, h2, h3, h4⟩ := h h0
  exact ⟨g, cs, h1, h2, hk.2 g cs _ h2 (by decide) h3, h4⟩

theorem own_blkX {w : World} {base b : Nat} {e : TypeId} {size : Nat} {ao : Option Addr} {n cap : Nat} {xs : List Value} (h : w.ownsRow base e size (.slice ao n cap) n xs) (hn : 0 < n) (hb : ∀ g, Value.ownBlock (.slice ao n cap) = some g → g ≠ b) :
    ∃ g cs, ao = some ⟨g, 0, none⟩ ∧ g ≠ b ∧ BlkAt w g cs e ∧ ∀ j, j < n * size → cs[j]? = xs[j]? := by
  rcases h.2 with ⟨h1, h2⟩ | ⟨g, cap', cur, hv, _, hh, _, _, hcs, htk⟩
  · omega
  · simp only [Value.slice.injEq] at hv
    obtain ⟨rfl, _, rfl⟩ := hv
    refine ⟨g, cur, rfl, hb g rfl, hh, fun j hj => ?_⟩
    have e : (cur.toList.take (n * size))[j]? = xs[j]? := by rw [htk]
    rw [List.getElem?_take, if_pos hj] at e
    rw [← Array.getElem?_toList, e]

theorem flat_len {α : Type} (f : α → List Value) (size : Nat) (hf : ∀ x, (f x).length = size) (l : List α) : (l.flatMap f).length = l.length * size := by
  induction l with
  | nil => simp
  | cons y t ih => rw [List.flatMap_cons, List.length_append, ih, hf, List.length_cons, Nat.succ_mul]; omega

theorem SymsB.of_own {w : World} {base b : Nat} {ao : Option Addr} {n cap : Nat} {ys : List Lk.Sym} (h : w.ownsRow base 46 4 (.slice ao n cap) n (ys.flatMap symV)) (hb : ∀ g, Value.ownBlock (.slice ao n cap) = some g → g ≠ b) : SymsB w b ao ys := by
  intro h0
  have hl := flat_len symV 4 (fun _ => rfl) ys
  have hn : ys.length = n := by have := h.1; omega
  obtain ⟨g, cs, h1, h2, h3, h4⟩ := own_blkX h (by omega) hb
  refine ⟨g, cs, h1, h2, h3, fun i hi => ?_⟩
  have q := fun j (hj : j < 4) => (h4 (i * 4 + j) (by omega)).trans (flat_get symV 4 (fun _ => rfl) ys i j hi hj)
  exact ⟨q 0 (by omega), q 1 (by omega), q 2 (by omega), q 3 (by omega)⟩
theorem RelsB.of_own {w : World} {base b : Nat} {ao : Option Addr} {n cap : Nat} {ys : List Lk.Rel} (h : w.ownsRow base 48 5 (.slice ao n cap) n (ys.flatMap relV)) (hb : ∀ g, Value.ownBlock (.slice ao n cap) = some g → g ≠ b) : RelsB w b ao ys := by
  intro h0
  have hl := flat_len relV 5 (fun _ => rfl) ys
  have hn : ys.length = n := by have := h.1; omega
  obtain ⟨g, cs, h1, h2, h3, h4⟩ := own_blkX h (by omega) hb
  refine ⟨g, cs, h1, h2, h3, fun i hi => ?_⟩
  have q := fun j (hj : j < 5) => (h4 (i * 5 + j) (by omega)).trans (flat_get relV 5 (fun _ => rfl) ys i j hi hj)
  exact ⟨q 0 (by omega), q 1 (by omega), q 2 (by omega), q 3 (by omega), q 4 (by omega)⟩

end Go.Proofs.YtogbomihnhfaiaaDoor

namespace Go.Proofs.YtogbomihnhfaiaaDoor
open Go.RowKit

theorem str_cells (l : List UInt8) : Lib.strCells (bs l) = byV l := by
  simp [Lib.strCells, byV, bs]

theorem byV_append (a b : List UInt8) : byV (a ++ b) = byV a ++ byV b := by simp [byV]

theorem le_lit (v : Int) (n : Nat) (mn : Int) (hmn : mn = (n : Int)) (w : World) (hn : n ≤ 4) :
    Calls Tryd.prog 38 #[.int .i64 v, .int .i64 mn] w fun e w' => e = .returned (.string (bs (Lk.le v n))) ∧ w.grownBy w' none := by
  subst hmn; exact le_any v n w hn

set_option maxHeartbeats 2000000 in
theorem leAll_any (ao : Option Addr) (cap : Nat) (xs : List Int) (w : World) (hI : IntsIn w ao xs) (hn : xs.length ≤ 65535) :
    Calls Tryd.prog 39 #[.slice ao xs.length cap] w fun e w' => e = .returned (.string (bs (Lk.nums xs 4))) ∧ w.grownBy w' none := by
  obtain ⟨i0, hi, hz0, hz1, hz2⟩ := info_parts Tryd.infoU8
  have HI := hid hI
  clear hI
  go_enter Tryd.func39, Tryd.ntmps39
  go_wp2
  go_loopw [3, 4] (fun v i wr => ∃ k : Nat, k ≤ xs.length ∧ i = .int .i64 k ∧ (∃ acc : List UInt8, acc = Lk.nums (xs.take k) 4 ∧ wr.ownsRow w.heap.size 5 1 v acc.length (byV acc)) ∧ w.grownBy wr none) (fun _ i _ => xs.length - (intOf i).toNat)
  case atStart => exact ⟨0, Nat.zero_le _, rfl, ⟨[], by simp [Lk.nums], World.ownsRow_nil _ _ _ _⟩, World.grownBy.refl _ _⟩
  case round =>
    obtain ⟨k, hk, rfl, hacc, hgr⟩ := hrel
    have HG := hid hgr
    have HC := hid hacc
    clear hgr hacc
    by_cases hlt : k < xs.length
    · obtain ⟨acc, hae, hown⟩ := HC.out
      obtain ⟨g, off, hao, hc⟩ := (HI.out.kept (fun a v hv => gcell hv HG.out)) (by omega)
      subst hao
      have hck := hc k hlt
      have cL := hid (fun W => le_lit xs[k] 4 4 rfl W (by omega))
      have hal : acc.length ≤ 262140 := by rw [hae, nums_length, List.length_take_of_le (by omega)]; omega
      have HAE := hid hae
      clear hc hae HC
      go_wp2_with fail
      refine (cL.out _).mono ?_
      rintro e w2 ⟨rfl, hq⟩
      have G2 := hid (grown_trans HG.out hq)
      have hown2 := hown.kept hq (by cases Value.ownBlock _ <;> simp)
      have hsz := (grown_trans HG.out hq).size
      have hbl : (bs (Lk.le xs[k] 4)).size = 4 := by rw [bs_size, Lk.le_length]
      have HBL := hid hbl
      have hb2 : (bs (Lk.le xs[k] 4)).size ≤ 4 := by omega
      clear hown hq hbl
      go_wp2_with (at_builtin; refine Lib.wpList_append_own_string _ rfl _ _ 57 9 rfl w.heap.size 5 i0 Tryd.underlying57 Tryd.underlying9 hi hz0 hz1 hz2 _ acc.length (byV acc) rfl hown2 (bs (Lk.le xs[k] 4)) rfl (by unfold maxLen; omega) (by omega) (by omega) ?_; intro v' w3 hown' hgrow _)
      rw [str_cells, HBL.out] at hown'
      have G3 := hid (show w.grownBy w3 none from ⟨hgrow.os.trans G2.out.os, hgrow.tape.trans G2.out.tape, hgrow.output.trans G2.out.output, Nat.le_trans G2.out.size hgrow.size, fun i hi' _ =>
        (hgrow.block i (by omega) (fun e => by have := (hown2.lt i e.symm).1; omega)).trans (G2.out.block i hi' (by simp))⟩)
      have HOW := hid hown'
      clear hgrow hown2 hown'
      go_wp2
      go_roundw
      case rel =>
        refine ⟨k + 1, by omega, by go_num, ⟨acc ++ Lk.le xs[k] 4, ?_, ?_⟩, G3.out⟩
        · rw [HAE.out, nums_snoc xs k 4 hlt]
        · rw [List.length_append, Lk.le_length, byV_append]; exact HOW.out
      case measure => simp [intOf]; omega
    · obtain ⟨acc, hae, hown⟩ := HC.out
      rw [List.take_of_length_le (show xs.length ≤ k by omega)] at hae
      subst hae
      obtain ⟨ao', cap', hv⟩ := own_form hown
      subst hv
      have hr := own_convert hown
      clear HC
      go_wp2
      go_ret
      exact ⟨rfl, HG.out⟩

end Go.Proofs.YtogbomihnhfaiaaDoor

namespace Go.Proofs.YtogbomihnhfaiaaDoor
open Go.RowKit

/-- an object whose memory is none of a Writer's in block b -/
structure ObjB (W : World) (b g : Nat) (o : Lk.Obj) (at_ : Option Addr) (ct : Nat) (af : Option Addr) (cf : Nat) (ad : Option Addr) (cd : Nat) (aa : Option Addr) (ca : Nat) (as_ : Option Addr) (cs : Nat) (ar : Option Addr) (cr : Nat) : Prop where
  blk : BlkAt W g #[.slice at_ o.text.length ct, .slice af o.far.length cf, .slice ad o.data.length cd, .int .i64 o.bss, .slice aa o.align.length ca, .slice as_ o.syms.length cs, .slice ar o.rels.length cr] 42
  ne : g ≠ b
  text : IntsB W b at_ o.text
  far : IntsB W b af o.far
  data : IntsB W b ad o.data
  align : IntsB W b aa o.align
  syms : SymsB W b as_ o.syms
  rels : RelsB W b ar o.rels

section
variable {W W' : World} {b g : Nat} {o : Lk.Obj} {at_ af ad aa as_ ar : Option Addr} {ct cf cd ca cs cr : Nat}
theorem ObjB.kept (h : ObjB W b g o at_ ct af cf ad cd aa ca as_ cs ar cr) (hk : Wk b W W') : ObjB W' b g o at_ ct af cf ad cd aa ca as_ cs ar cr :=
  ⟨hk.2 g _ _ h.ne (by decide) h.blk, h.ne, h.text.kept hk, h.far.kept hk, h.data.kept hk, h.align.kept hk, h.syms.kept hk, h.rels.kept hk⟩
end

theorem ObjAt.toB {W : World} {g : Nat} {o : Lk.Obj} (h : ObjAt W g o) (ob : Obj) : ∃ at_ ct af cf ad cd aa ca as_ cs ar cr, ObjB (W.alloc ob) W.heap.size g o at_ ct af cf ad cd aa ca as_ cs ar cr := by
  obtain ⟨at_, ct, af, cf, ad, cd, aa, ca, as_, cs, ar, cr, hb, h1, h2, h3, h4, h5, h6⟩ := h.open
  have ne : ∀ {e : TypeId} {size : Nat} {ao : Option Addr} {n cap : Nat} {xs : List Value}, W.ownsRow 0 e size (.slice ao n cap) n xs → ∀ k, Value.ownBlock (.slice ao n cap) = some k → k ≠ W.heap.size := fun h k hk => by have := (h.lt k hk).2; omega
  refine ⟨at_, ct, af, cf, ad, cd, aa, ca, as_, cs, ar, cr, hb.grown (World.grownBy_alloc _ _ none) (by simp), by have := hb.lt; omega, ?_, ?_, ?_, ?_, ?_, ?_⟩
  · exact IntsB.of_own (h1.alloc _) (ne h1)
  · exact IntsB.of_own (h2.alloc _) (ne h2)
  · exact IntsB.of_own (h3.alloc _) (ne h3)
  · exact IntsB.of_own (h4.alloc _) (ne h4)
  · exact SymsB.of_own (h5.alloc _) (ne h5)
  · exact RelsB.of_own (h6.alloc _) (ne h6)

/-- while an object is written -/
structure St4 (w : World) (b g : Nat) (o : Lk.Obj) (at_ : Option Addr) (ct : Nat) (af : Option Addr) (cf : Nat) (ad : Option Addr) (cd : Nat) (aa : Option Addr) (ca : Nat) (as_ : Option Addr) (cs : Nat) (ar : Option Addr) (cr : Nat) (l : List UInt8) (W : World) : Prop where
  wr : WrAt W b l
  ob : ObjB W b g o at_ ct af cf ad cd aa ca as_ cs ar cr
  be : Below b w W

section
variable {w W W' : World} {b g : Nat} {o : Lk.Obj} {at_ af ad aa as_ ar : Option Addr} {ct cf cd ca cs cr : Nat} {l l' : List UInt8}
theorem St4.step (h : St4 w b g o at_ ct af cf ad cd aa ca as_ cs ar cr l W) (hw : WrAt W' b l') (hk : Wk b W W') : St4 w b g o at_ ct af cf ad cd aa ca as_ cs ar cr l' W' :=
  ⟨hw, h.ob.kept hk, h.be.trans hk.1⟩
end

theorem syms_snoc {α : Type} (f : α → List UInt8) (ys : List α) (k : Nat) (h : k < ys.length) : (ys.take (k + 1)).flatMap f = (ys.take k).flatMap f ++ f ys[k] := by
  rw [List.take_succ_eq_append_getElem h, List.flatMap_append]
  simp
theorem flat_le {α : Type} (f : α → List UInt8) (c : Nat) (ys : List α) (hf : ∀ y ∈ ys, (f y).length ≤ c) : (ys.flatMap f).length ≤ ys.length * c := by
  induction ys with
  | nil => simp
  | cons y t ih =>
    have h1 := hf y (by simp)
    have h2 := ih (fun z hz => hf z (by simp [hz]))
    rw [List.flatMap_cons, List.length_append, List.length_cons, Nat.succ_mul]
    omega
theorem flat_take_le {α : Type} (f : α → List UInt8) (c k : Nat) (ys : List α) (hf : ∀ y ∈ ys, (f y).length ≤ c) : ((ys.take k).flatMap f).length ≤ ys.length * c := by
  have h1 := flat_le f c (ys.take k) (fun y hy => hf y (List.mem_of_mem_take hy))
  have h2 : (ys.take k).length * c ≤ ys.length * c := Nat.mul_le_mul_right c (by simp; omega)
  omega
theorem symB_le (y : Lk.Sym) (h : Lk.goodSym y) : (Lk.symB y).length ≤ 260 := by
  have := h.1
  simp only [Lk.symB, List.length_append, Lk.le_length]
  omega
theorem relB_le (r : Lk.Rel) : (Lk.relB r).length ≤ 7 := by
  simp only [Lk.relB, List.length_append, Lk.le_length]
  omega

set_option maxHeartbeats 8000000 in
theorem write_yes (g : Nat) (o : Lk.Obj) (w : World) (ht : Tabs w) (h : ObjAt w g o) (hgood : Lk.goodObj o) (hv : Valid o) :
    Calls Tryd.prog 13 #[.pointer (some ⟨g, 0, none⟩)] w fun e w' => e = .returned (.tuple #[.string (bs (Lk.objB o)), .int .i64 0]) ∧ w.grownBy w' none := by
  have cV := hid (valid_any g o w ht h (good_tame hgood))
  have HV := hid hv
  have HO := hid h
  have HGO := hid hgood
  obtain ⟨z1, z2, z3, z4, z5, z6, z7, z8, z9, z10, z11, z12, z13⟩ := hgood
  obtain ⟨⟨s1, s2, s3⟩, s4, s5, s6⟩ := hv.1
  have HS := hid z9
  have HRL := hid z10
  have HW1 := hid z6
  have HWt := hid z11
  have HWf := hid z12
  have HWd := hid z13
  have z5a : o.align.length ≤ 4 := by omega
  clear ht h hv z9 z10 z6 z11 z12 z13 z5
  go_enter Tryd.func13, Tryd.ntmps13
  go_wp2_with fail
  refine cV.out.mono ?_
  rintro e W1 ⟨tv, q1⟩
  obtain rfl := tells_yes tv HV.out
  have Q1 := hid q1
  have HO1 := hid (HO.out.kept q1)
  clear tv q1 cV
  go_wp2_with fail
  obtain ⟨at_, ct, af, cf, ad, cd, aa, ca, as_, cs, ar, cr, hob⟩ := HO1.out.toB (.cells #[.slice none 0 0] 59)
  have S0 : Hid (St4 W1 W1.heap.size g o at_ ct af cf ad cd aa ca as_ cs ar cr [] (W1.alloc (.cells #[.slice none 0 0] 59))) := ⟨wrAt_new W1, hob, (Below.refl _ _).alloc (Nat.le_refl _) _⟩
  clear hob
  generalize hbb : W1.heap.size = b at *
  have HBB := hid hbb
  clear hbb
  refine Calls.at_world (St4 W1 b g o at_ ct af cf ad cd aa ca as_ cs ar cr []) S0.out ?_
  clear S0
  intro V0 h0
  have S0 := hid h0
  clear h0
  refine (wText_any b ⟨#[76, 75]⟩ [] V0 S0.out.wr (by simp) (by decide)).mono ?_
  rintro e V1 ⟨rfl, hw, hk⟩
  have S1 := hid (S0.out.step hw hk)
  clear S0
  generalize hE1 : [] ++ sl ⟨#[76, 75]⟩ = l1 at *
  have n1 : l1.length ≤ 2 := by rw [← hE1]; decide
  have E1 := hid hE1
  clear hE1 hw hk
  have k0 := S1.out.ob.blk.cell 0
  go_wp2_with fail
  refine (wNumber_lit b (o.text.length : Int) 2 2 rfl l1 V1 S1.out.wr (by omega) (by omega) (by omega) (by omega)).mono ?_
  rintro e V2 ⟨rfl, hw, hk⟩
  have S2 := hid (S1.out.step hw hk)
  clear S1 k0
  generalize hE2 : l1 ++ Lk.le (o.text.length : Int) 2 = l2 at *
  have n2 : l2.length ≤ 4 := by rw [← hE2, List.length_append, Lk.le_length]; omega
  have E2 := hid hE2
  clear hE2 hw hk
  have k0 := S2.out.ob.blk.cell 1
  go_wp2_with fail
  refine (wNumber_lit b (o.far.length : Int) 2 2 rfl l2 V2 S2.out.wr (by omega) (by omega) (by omega) (by omega)).mono ?_
  rintro e V3 ⟨rfl, hw, hk⟩
  have S3 := hid (S2.out.step hw hk)
  clear S2 k0
  generalize hE3 : l2 ++ Lk.le (o.far.length : Int) 2 = l3 at *
  have n3 : l3.length ≤ 6 := by rw [← hE3, List.length_append, Lk.le_length]; omega
  have E3 := hid hE3
  clear hE3 hw hk
  have k0 := S3.out.ob.blk.cell 2
  go_wp2_with fail
  refine (wNumber_lit b (o.data.length : Int) 2 2 rfl l3 V3 S3.out.wr (by omega) (by omega) (by omega) (by omega)).mono ?_
  rintro e V4 ⟨rfl, hw, hk⟩
  have S4 := hid (S3.out.step hw hk)
  clear S3 k0
  generalize hE4 : l3 ++ Lk.le (o.data.length : Int) 2 = l4 at *
  have n4 : l4.length ≤ 8 := by rw [← hE4, List.length_append, Lk.le_length]; omega
  have E4 := hid hE4
  clear hE4 hw hk
  have k0 := S4.out.ob.blk.cell 3
  go_wp2_with fail
  refine (wNumber_lit b o.bss 2 2 rfl l4 V4 S4.out.wr (by omega) (by omega) (by omega) (by omega)).mono ?_
  rintro e V5 ⟨rfl, hw, hk⟩
  have S5 := hid (S4.out.step hw hk)
  clear S4 k0
  generalize hE5 : l4 ++ Lk.le o.bss 2 = l5 at *
  have n5 : l5.length ≤ 10 := by rw [← hE5, List.length_append, Lk.le_length]; omega
  have E5 := hid hE5
  clear hE5 hw hk
  have k0 := S5.out.ob.blk.cell 4
  go_wp2_with fail
  refine (writeNumbers_any b aa ca 1 1 rfl o.align l5 V5 S5.out.wr S5.out.ob.align (by omega) (by omega) (by omega) (fun i hi => by have := HW1.out _ (List.getElem_mem hi); simp only [Int.reducePow] at this; omega)).mono ?_
  rintro e V6 ⟨rfl, hw, hk⟩
  have S6 := hid (S5.out.step hw hk)
  clear S5 k0
  generalize hE6 : l5 ++ Lk.nums o.align 1 = l6 at *
  have n6 : l6.length ≤ 14 := by rw [← hE6, List.length_append, nums_length]; omega
  have E6 := hid hE6
  clear hE6 hw hk
  have k0 := S6.out.ob.blk.cell 5
  go_wp2_with fail
  refine (wNumber_lit b (o.syms.length : Int) 1 1 rfl l6 V6 S6.out.wr (by omega) (by omega) (by omega) (by omega)).mono ?_
  rintro e V7 ⟨rfl, hw, hk⟩
  have S7 := hid (S6.out.step hw hk)
  clear S6 k0
  generalize hE7 : l6 ++ Lk.le (o.syms.length : Int) 1 = l7 at *
  have n7 : l7.length ≤ 15 := by rw [← hE7, List.length_append, Lk.le_length]; omega
  have E7 := hid hE7
  clear hE7 hw hk
  have k0 := S7.out.ob.blk.cell 6
  go_wp2_with fail
  refine (wNumber_lit b (o.rels.length : Int) 1 1 rfl l7 V7 S7.out.wr (by omega) (by omega) (by omega) (by omega)).mono ?_
  rintro e V8 ⟨rfl, hw, hk⟩
  have S8 := hid (S7.out.step hw hk)
  clear S7 k0
  generalize hE8 : l7 ++ Lk.le (o.rels.length : Int) 1 = l8 at *
  have n8 : l8.length ≤ 16 := by rw [← hE8, List.length_append, Lk.le_length]; omega
  have E8 := hid hE8
  clear hE8 hw hk
  have k0 := S8.out.ob.blk.cell 5
  go_wp2
  go_loopw [63] (fun i wr => ∃ n : Nat, n ≤ o.syms.length ∧ i = .int .i64 n ∧ St4 W1 b g o at_ ct af cf ad cd aa ca as_ cs ar cr (l8 ++ (o.syms.take n).flatMap Lk.symB) wr) (fun i _ => o.syms.length - (intOf i).toNat)
  case atStart => exact ⟨0, Nat.zero_le _, rfl, by simpa using S8.out⟩
  case round =>
    obtain ⟨n, hn, rfl, hst⟩ := hrel
    have ST := hid hst
    clear hst
    by_cases hlt : n < o.syms.length
    · obtain ⟨sg, bs0, hao, hne, hbk, hc⟩ := ST.out.ob.syms (by omega)
      subst hao
      obtain ⟨q0, q1, q2, q3⟩ := hc n hlt
      have m0 := (hbk.cell (n * 4)).trans q0
      have m1 := (hbk.cell (n * 4 + 1)).trans q1
      have m2 := (hbk.cell (n * 4 + 2)).trans q2
      have m3 := (hbk.cell (n * 4 + 3)).trans q3
      have hgl := hbk.lt
      have hwb : b < wr.heap.size := by obtain ⟨_, _, x1, _⟩ := ST.out.wr; exact x1.lt
      have hgd := HS.out _ (List.getElem_mem hlt)
      have hlen : (l8 ++ (o.syms.take n).flatMap Lk.symB).length ≤ 1048576 := by
        have := flat_take_le Lk.symB 260 n o.syms (fun y hy => symB_le y (HS.out y hy))
        rw [List.length_append]
        omega
      have STA := hid (St3.begin ST.out.wr #[.string (bs o.syms[n].name), .int .i64 o.syms[n].bind, .int .i64 o.syms[n].sect, .int .i64 o.syms[n].off] 46)
      have cW := hid (fun W hW => writeSymbol_any b o.syms[n] (l8 ++ (o.syms.take n).flatMap Lk.symB) W hW hlen hgd)
      clear hbk hc q0 q1 q2 q3 hgd hlen k0
      go_wp2_with fail
      refine (cW.out _ STA.out.wr).mono ?_
      rintro e W2 ⟨rfl, hw, hk⟩
      have S2 := hid (ST.out.step hw (STA.out.wk.trans hk))
      clear hw hk
      go_wp2
      go_roundw
      case rel => exact ⟨n + 1, by omega, by go_num, by rw [syms_snoc Lk.symB o.syms n hlt, ← List.append_assoc]; exact S2.out⟩
      case measure => simp [intOf]; omega
    · have S9' := ST.out
      rw [List.take_of_length_le (show o.syms.length ≤ n by omega)] at S9'
      have S9 := hid S9'
      clear S9' ST k0 S8
      generalize hE9 : l8 ++ o.syms.flatMap Lk.symB = l9 at *
      have n9 : l9.length ≤ 4176 := by
        have := flat_le Lk.symB 260 o.syms (fun y hy => symB_le y (HS.out y hy))
        rw [← hE9, List.length_append]
        omega
      have E9 := hid hE9
      clear hE9
      have k0 := S9.out.ob.blk.cell 6
      go_wp2
      go_loopw [75] (fun i wr => ∃ n : Nat, n ≤ o.rels.length ∧ i = .int .i64 n ∧ St4 W1 b g o at_ ct af cf ad cd aa ca as_ cs ar cr (l9 ++ (o.rels.take n).flatMap Lk.relB) wr) (fun i _ => o.rels.length - (intOf i).toNat)
      case atStart => exact ⟨0, Nat.zero_le _, rfl, by simpa using S9.out⟩
      case round =>
        obtain ⟨n, hn, rfl, hst⟩ := hrel
        have ST := hid hst
        clear hst
        by_cases hlt : n < o.rels.length
        · obtain ⟨sg, bs0, hao, hne, hbk, hc⟩ := ST.out.ob.rels (by omega)
          subst hao
          obtain ⟨q0, q1, q2, q3, q4⟩ := hc n hlt
          have m0 := (hbk.cell (n * 5)).trans q0
          have m1 := (hbk.cell (n * 5 + 1)).trans q1
          have m2 := (hbk.cell (n * 5 + 2)).trans q2
          have m3 := (hbk.cell (n * 5 + 3)).trans q3
          have m4 := (hbk.cell (n * 5 + 4)).trans q4
          have hgl := hbk.lt
          have hwb : b < wr.heap.size := by obtain ⟨_, _, x1, _⟩ := ST.out.wr; exact x1.lt
          have hgd := HRL.out _ (List.getElem_mem hlt)
          have hlen : (l9 ++ (o.rels.take n).flatMap Lk.relB).length ≤ 1048576 := by
            have := flat_take_le Lk.relB 7 n o.rels (fun y hy => relB_le y)
            rw [List.length_append]
            omega
          have STA := hid (St3.begin ST.out.wr #[.int .i64 o.rels[n].sect, .int .i64 o.rels[n].off, .int .i64 o.rels[n].kind, .int .i64 o.rels[n].sym, .int .i64 o.rels[n].addend] 48)
          have cW := hid (fun W hW => writeReloc_any b o.rels[n] (l9 ++ (o.rels.take n).flatMap Lk.relB) W hW hlen hgd)
          clear hbk hc q0 q1 q2 q3 q4 hgd hlen k0
          go_wp2_with fail
          refine (cW.out _ STA.out.wr).mono ?_
          rintro e W2 ⟨rfl, hw, hk⟩
          have S2 := hid (ST.out.step hw (STA.out.wk.trans hk))
          clear hw hk
          go_wp2
          go_roundw
          case rel => exact ⟨n + 1, by omega, by go_num, by rw [syms_snoc Lk.relB o.rels n hlt, ← List.append_assoc]; exact S2.out⟩
          case measure => simp [intOf]; omega
        · have S10' := ST.out
          rw [List.take_of_length_le (show o.rels.length ≤ n by omega)] at S10'
          have S10 := hid S10'
          clear S10' ST k0 S9
          generalize hE10 : l9 ++ o.rels.flatMap Lk.relB = l10 at *
          have n10 : l10.length ≤ 4400 := by
            have := flat_le Lk.relB 7 o.rels (fun y hy => relB_le y)
            rw [← hE10, List.length_append]
            omega
          have E10 := hid hE10
          clear hE10
          have k0 := S10.out.ob.blk.cell 0
          go_wp2_with fail
          refine (writeNumbers_any b at_ ct 4 4 rfl o.text l10 wr S10.out.wr S10.out.ob.text (by omega) (by omega) (by omega) (fun i hi => by have := HWt.out _ (List.getElem_mem hi); simp only [Int.reducePow] at this; omega)).mono ?_
          rintro e V11 ⟨rfl, hw, hk⟩
          have S11 := hid (S10.out.step hw hk)
          clear S10 k0
          generalize hE11 : l10 ++ Lk.nums o.text 4 = l11 at *
          have n11 : l11.length ≤ 9200 := by rw [← hE11, List.length_append, nums_length]; omega
          have E11 := hid hE11
          clear hE11 hw hk
          have k0 := S11.out.ob.blk.cell 1
          go_wp2_with fail
          refine (writeNumbers_any b af cf 4 4 rfl o.far l11 V11 S11.out.wr S11.out.ob.far (by omega) (by omega) (by omega) (fun i hi => by have := HWf.out _ (List.getElem_mem hi); simp only [Int.reducePow] at this; omega)).mono ?_
          rintro e V12 ⟨rfl, hw, hk⟩
          have S12 := hid (S11.out.step hw hk)
          clear S11 k0
          generalize hE12 : l11 ++ Lk.nums o.far 4 = l12 at *
          have n12 : l12.length ≤ 14000 := by rw [← hE12, List.length_append, nums_length]; omega
          have E12 := hid hE12
          clear hE12 hw hk
          have k0 := S12.out.ob.blk.cell 2
          go_wp2_with fail
          refine (writeNumbers_any b ad cd 4 4 rfl o.data l12 V12 S12.out.wr S12.out.ob.data (by omega) (by omega) (by omega) (fun i hi => by have := HWd.out _ (List.getElem_mem hi); simp only [Int.reducePow] at this; omega)).mono ?_
          rintro e V13 ⟨rfl, hw, hk⟩
          have S13 := hid (S12.out.step hw hk)
          clear S12 k0
          generalize hE13 : l12 ++ Lk.nums o.data 4 = l13 at *
          have n13 : l13.length ≤ 14256 := by rw [← hE13, List.length_append, nums_length]; omega
          have E13 := hid hE13
          clear hE13 hw hk
          go_wp2_with fail
          refine (wBytes_any b l13 V13 S13.out.wr).mono ?_
          rintro e V14 ⟨rfl, hv14⟩
          subst hv14
          go_wp2
          go_ret2
          have hfin : l13 = Lk.objB o := by
            rw [← E13.out, ← E12.out, ← E11.out, ← E10.out, ← E9.out, ← E8.out, ← E7.out, ← E6.out, ← E5.out, ← E4.out, ← E3.out, ← E2.out, ← E1.out]
            simp [Lk.objB, sl]
          refine ⟨by rw [hfin]; rfl, ?_⟩
          have hb := S13.out.be
          exact ⟨hb.os.trans Q1.out.os, hb.tape.trans Q1.out.tape, hb.output.trans Q1.out.output, Nat.le_trans Q1.out.size hb.size, fun i hi _ => (hb.block i (by have := Q1.out.size; have := HBB.out; omega)).trans (Q1.out.block i hi (by simp))⟩

end Go.Proofs.YtogbomihnhfaiaaDoor
