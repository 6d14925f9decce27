/- Walks over the document's answer: isReloc. -/
/- Walks over the document's answer: IsObject. -/
import Derived.Test.YtafjgogdeinpcaaDoorHRE0
import Derived.Test.YtafjgogdeinpcaaDoorHRE1
import Derived.Test.YtafjgogdeinpcaaDoorHRE2
import Derived.Test.YtafjgogdeinpcaaDoorHRE3
import Derived.Test.YtafjgogdeinpcaaDoorHRE4
import Derived.Test.YtafjgogdeinpcaaDoorHRF0
import Derived.Test.YtafjgogdeinpcaaDoorHRF1
import Derived.Test.YtafjgogdeinpcaaDoorHRF2
import Derived.Test.YtafjgogdeinpcaaDoorHRF3
import Derived.Test.YtafjgogdeinpcaaDoorHRF4
import Derived.Test.YtafjgogdeinpcaaDoorGE
namespace Go.Proofs.YtafjgogdeinpcaaDoor
open Go.RowKit

theorem isReloc_any (k : Nat) (g B : Nat) (o : Lk.Obj) (at_ : Option Addr) (ct : Nat) (af : Option Addr) (cf : Nat) (ad : Option Addr) (cd : Nat) (Z : Nat) (w : World) (h : ObjAt w g o) (hs : SectsAt w B o at_ ct af cf ad cd Z) (hn : Small o) (hb4 : Borders o.align) (hw : AllWords o) (hgr : ∀ r ∈ o.rels, r.off ≤ 9223372036854775807) (hk : k < o.rels.length) (hprev : ∀ j (hj : j < o.rels.length), j + 1 = k → RelOk o (o.rels[j]'hj)) :
    Calls Tryd.prog 37 #[.pointer (some ⟨g, 0, none⟩), .slice (some ⟨B, 0, none⟩) 5 5, .int .i64 (k : Int)] w fun e w' => Tells e (RelAt o k hk) ∧ w.grownBy w' none := by
  cases k with
  | zero =>
    by_cases hp : ((1 ≤ (o.rels[0]'hk).sect ∧ (o.rels[0]'hk).sect ≤ 3) ∧ 0 ≤ (o.rels[0]'hk).off ∧ (o.rels[0]'hk).off % 4 = 0) ∧ 1 ≤ (o.rels[0]'hk).kind ∧ (o.rels[0]'hk).kind ≤ 6
    · rcases (show (o.rels[0]'hk).kind = 1 ∨ (o.rels[0]'hk).kind = 5 ∨ (2 ≤ (o.rels[0]'hk).kind ∧ (o.rels[0]'hk).kind ≤ 4) ∨ (o.rels[0]'hk).kind = 6 from by omega) with c | c | c | c
      · exact isReloc_first_one g B o at_ ct af cf ad cd Z w h hs hn hb4 hw hgr hk hp.1 c
      · exact isReloc_first_five g B o at_ ct af cf ad cd Z w h hs hn hb4 hw hgr hk hp.1 c
      · exact isReloc_first_call g B o at_ ct af cf ad cd Z w h hs hn hb4 hw hgr hk hp.1 c
      · exact isReloc_first_align g B o at_ ct af cf ad cd Z w h hs hn hb4 hw hgr hk hp.1 c
    · exact isReloc_first_no g B o at_ ct af cf ad cd Z w h hs hn hb4 hw hgr hk hp
  | succ j =>
    have hpv := hprev j (by omega) rfl
    by_cases hp : ((1 ≤ (o.rels[j + 1]'hk).sect ∧ (o.rels[j + 1]'hk).sect ≤ 3) ∧ 0 ≤ (o.rels[j + 1]'hk).off ∧ (o.rels[j + 1]'hk).off % 4 = 0) ∧ 1 ≤ (o.rels[j + 1]'hk).kind ∧ (o.rels[j + 1]'hk).kind ≤ 6
    · rcases (show (o.rels[j + 1]'hk).kind = 1 ∨ (o.rels[j + 1]'hk).kind = 5 ∨ (2 ≤ (o.rels[j + 1]'hk).kind ∧ (o.rels[j + 1]'hk).kind ≤ 4) ∨ (o.rels[j + 1]'hk).kind = 6 from by omega) with c | c | c | c
      · exact isReloc_later_one g B j o at_ ct af cf ad cd Z w h hs hn hb4 hw hgr hk hpv hp.1 c
      · exact isReloc_later_five g B j o at_ ct af cf ad cd Z w h hs hn hb4 hw hgr hk hpv hp.1 c
      · exact isReloc_later_call g B j o at_ ct af cf ad cd Z w h hs hn hb4 hw hgr hk hpv hp.1 c
      · exact isReloc_later_align g B j o at_ ct af cf ad cd Z w h hs hn hb4 hw hgr hk hpv hp.1 c
    · exact isReloc_later_no g B j o at_ ct af cf ad cd Z w h hs hn hb4 hw hgr hk hpv hp

end Go.Proofs.YtafjgogdeinpcaaDoor

namespace Go.Proofs.YtafjgogdeinpcaaDoor
open Go.RowKit

/-- the words of section n + 1, noughts for the last -/
def secL (o : Lk.Obj) (n : Nat) : List Int := if n = 3 then List.replicate o.bss.toNat 0 else wordsOf o ((n : Int) + 1)

theorem SectsAt.all {W : World} {B : Nat} {o : Lk.Obj} {at_ : Option Addr} {ct : Nat} {af : Option Addr} {cf : Nat} {ad : Option Addr} {cd : Nat} {Z : Nat} (h : SectsAt W B o at_ ct af cf ad cd Z) (n : Nat) (hn : n ≤ 3) :
    ∃ ao cap, W.cell? ⟨B, n + 1, none⟩ = some (.slice ao (secL o n).length cap) ∧ IntsIn W ao (secL o n) := by
  rcases (show n = 0 ∨ n = 1 ∨ n = 2 ∨ n = 3 from by omega) with rfl | rfl | rfl | rfl
  · exact ⟨_, _, h.blk.cell 1, h.text⟩
  · exact ⟨_, _, h.blk.cell 2, h.far⟩
  · exact ⟨_, _, h.blk.cell 3, h.data⟩
  · have e : secL o 3 = List.replicate o.bss.toNat 0 := rfl
    rw [e, List.length_replicate]
    exact ⟨_, _, h.blk.cell 4, h.zero⟩

theorem allWords_sec {o : Lk.Obj} (h : AllWords o) (n : Nat) (hn : n ≤ 3) : Words (secL o n) := by
  rcases (show n = 0 ∨ n = 1 ∨ n = 2 ∨ n = 3 from by omega) with rfl | rfl | rfl | rfl
  · exact h.1
  · exact h.2.1
  · exact h.2.2
  · intro i hi
    have e : secL o 3 = List.replicate o.bss.toNat 0 := rfl
    simp [e]
theorem allWords_of {o : Lk.Obj} (h : ∀ n, n < 4 → Words (secL o n)) : AllWords o := ⟨h 0 (by omega), h 1 (by omega), h 2 (by omega)⟩
theorem secL_small {o : Lk.Obj} (h : Small o) (hz : o.bss ≤ 64) (n : Nat) : (secL o n).length ≤ 65535 := by
  unfold secL
  split
  · simp; omega
  · exact wordsOf_small h _

set_option maxRecDepth 100000 in
set_option maxHeartbeats 8000000 in
theorem isObject_any (g : Nat) (o : Lk.Obj) (w : World) (h : ObjAt w g o) (hn : Tame o) :
    Calls Tryd.prog 18 #[.pointer (some ⟨g, 0, none⟩)] w fun e w' => Tells e (Valid o) ∧ w.grownBy w' none := by
  obtain ⟨at_, ct, af, cf, ad, cd, aa, ca, as_, cs, ar, cr, hb, h1, h2, h3, h4, h5, h6⟩ := h.open
  have HB := hid hb
  have HO := hid h
  have HN := hid hn
  have HA4 := hid (IntsIn.of_own h4)
  obtain ⟨n1, n2, n3, n4, n5, n6⟩ := hn.1
  have k0 := hb.cell 0
  have k1 := hb.cell 1
  have k2 := hb.cell 2
  have k3 := hb.cell 3
  have k4 := hb.cell 4
  have k5 := hb.cell 5
  have k6 := hb.cell 6
  have HQ := hid (show Valid o ↔ Sizes o ∧ Borders o.align ∧ AllWords o ∧ SymsOk o ∧ RelsOk o from Iff.rfl)
  have HZ := hid (show Sizes o ↔ (o.text.length ≤ 1200 ∧ o.far.length ≤ 1200 ∧ o.data.length ≤ 64) ∧ (0 ≤ o.bss ∧ o.bss ≤ 64) ∧ o.syms.length ≤ 16 ∧ o.rels.length ≤ 32 from Iff.rfl)
  generalize Valid o = Q at *
  have no : Hid (∀ W, (¬ Q) → w.grownBy W none → Tells (.returned (.bool false)) Q ∧ w.grownBy W none) := fun W a b => ⟨Tells.no a, b⟩
  have RF := hid (World.grownBy.refl w none)
  clear h hn hb h1 h2 h3 h4 h5 h6
  go_enter Tryd.func18, Tryd.ntmps18
  by_cases c : 1200 < o.text.length
  · have d : decide (1200 < (o.text.length : Int)) = true := by simp; omega
    go_wp2
    go_ret
    exact no.out _ (fun hq => by have := HZ.out.1 (HQ.out.1 hq).1; omega) RF.out
  have d0 : decide (1200 < (o.text.length : Int)) = false := by simp; omega
  have c0 : ¬ (1200 < o.text.length) := c
  clear c
  by_cases c : 1200 < o.far.length
  · have d : decide (1200 < (o.far.length : Int)) = true := by simp; omega
    go_wp2
    go_ret
    exact no.out _ (fun hq => by have := HZ.out.1 (HQ.out.1 hq).1; omega) RF.out
  have d1 : decide (1200 < (o.far.length : Int)) = false := by simp; omega
  have c1 : ¬ (1200 < o.far.length) := c
  clear c
  by_cases c : 64 < o.data.length
  · have d : decide (64 < (o.data.length : Int)) = true := by simp; omega
    go_wp2
    go_ret
    exact no.out _ (fun hq => by have := HZ.out.1 (HQ.out.1 hq).1; omega) RF.out
  have d2 : decide (64 < (o.data.length : Int)) = false := by simp; omega
  have c2 : ¬ (64 < o.data.length) := c
  clear c
  by_cases c : o.bss < 0
  · have d : decide (o.bss < 0) = true := by simp; omega
    go_wp2
    go_ret
    exact no.out _ (fun hq => by have := HZ.out.1 (HQ.out.1 hq).1; omega) RF.out
  have d3 : decide (o.bss < 0) = false := by simp; omega
  have c3 : ¬ (o.bss < 0) := c
  clear c
  by_cases c : 64 < o.bss
  · have d : decide (64 < o.bss) = true := by simp; omega
    go_wp2
    go_ret
    exact no.out _ (fun hq => by have := HZ.out.1 (HQ.out.1 hq).1; omega) RF.out
  have d4 : decide (64 < o.bss) = false := by simp; omega
  have c4 : ¬ (64 < o.bss) := c
  clear c
  by_cases c : o.align.length = 4
  rotate_left
  · have d : ((o.align.length : Int) == 4) = false := by rw [beq_eq_false_iff_ne]; omega
    have d' : ((o.align.length : Int) != 4) = true := by simp only [bne, d, Bool.not_false]
    have CC := hid c
    clear c
    go_wp2
    go_ret
    exact no.out _ (fun hq => CC.out (HQ.out.1 hq).2.1.1) RF.out
  have d5 : ((o.align.length : Int) == 4) = true := by rw [beq_iff_eq]; omega
  have d5' : ((o.align.length : Int) != 4) = false := by simp only [bne, d5, Bool.not_true]
  have C4 := hid c
  clear c
  by_cases c : 16 < o.syms.length
  · have d : decide (16 < (o.syms.length : Int)) = true := by simp; omega
    go_wp2
    go_ret
    exact no.out _ (fun hq => by have := HZ.out.1 (HQ.out.1 hq).1; omega) RF.out
  have d6 : decide (16 < (o.syms.length : Int)) = false := by simp; omega
  have c6 : ¬ (16 < o.syms.length) := c
  clear c
  by_cases c : 32 < o.rels.length
  · have d : decide (32 < (o.rels.length : Int)) = true := by simp; omega
    go_wp2
    go_ret
    exact no.out _ (fun hq => by have := HZ.out.1 (HQ.out.1 hq).1; omega) RF.out
  have d7 : decide (32 < (o.rels.length : Int)) = false := by simp; omega
  have c7 : ¬ (32 < o.rels.length) := c
  clear c
  have SZ := hid (HZ.out.2 ⟨⟨by omega, by omega, by omega⟩, ⟨by omega, by omega⟩, by omega, by omega⟩)
  have cS := hid (sections_any g o w HO.out ⟨by omega, by omega⟩)
  go_wp2_with fail
  refine cS.out.mono ?_
  rintro e w1 ⟨B, sat, sct, saf, scf, sad, scd, Z, rfl, hsec, hq1⟩
  have HS := hid hsec
  have G1 := hid hq1
  have A1 := hid (HA4.out.kept (fun a v hv => gcell hv hq1))
  have b4 := gcell k4 hq1
  have b5 := gcell k5 hq1
  have b6 := gcell k6 hq1
  clear hsec hq1 k0 k1 k2 k3 k4 k5 k6 cS HA4
  have SMW := hid (fun n => secL_small HN.out.1 (show o.bss ≤ 64 from by omega) n)
  clear n1 n2 n3 n4
  go_wp2
  go_loop [4] (fun i => ∃ n : Nat, n ≤ 4 ∧ i = .int .i64 ((n : Int) + 1) ∧ (∀ j (hj : j < o.align.length), j < n → 2 ≤ o.align[j] ∧ o.align[j] ≤ 4) ∧ ∀ j, j < n → Words (secL o j)) (fun i => 5 - (intOf i).toNat)
  case atStart => exact ⟨0, Nat.zero_le _, rfl, fun j _ hj => absurd hj (Nat.not_lt_zero j), fun j hj => absurd hj (Nat.not_lt_zero j)⟩
  case round =>
    obtain ⟨n, hn4, rfl, hal, hwo⟩ := hrel
    have HAL := hid hal
    have HWO := hid hwo
    clear hal hwo
    by_cases hlt : n < 4
    · have hlt' : (n : Int) + 1 < 5 := by omega
      have hln : n < o.align.length := by have := C4.out; omega
      have hli : (n : Int) < (o.align.length : Int) := by omega
      obtain ⟨ga, offa, haa, hca⟩ := A1.out (by omega)
      subst haa
      have ca := hca n hln
      clear hca
      have HBO := hid (show Borders o.align → 2 ≤ o.align[n] ∧ o.align[n] ≤ 4 from fun h => h.2 n hln)
      have HAN := hid (show 2 ≤ o.align[n] ∧ o.align[n] ≤ 4 → ∀ j (hj : j < o.align.length), j < n + 1 → 2 ≤ o.align[j] ∧ o.align[j] ≤ 4 from fun h j hj hjk => (Nat.lt_succ_iff_lt_or_eq.1 hjk).elim (fun h => HAL.out j hj h) (fun e => by subst e; exact h))
      generalize o.align[n] = av at *
      by_cases c : av < 2
      · have d : decide (av < 2) = true := by simp; omega
        go_wp2
        go_ret
        exact no.out _ (fun hq => by have := HBO.out (HQ.out.1 hq).2.1; omega) G1.out
      have e1 : decide (av < 2) = false := by simp; omega
      by_cases cc : 4 < av
      · have d : decide (4 < av) = true := by simp; omega
        go_wp2
        go_ret
        exact no.out _ (fun hq => by have := HBO.out (HQ.out.1 hq).2.1; omega) G1.out
      have e2 : decide (4 < av) = false := by simp; omega
      have HAN2 := hid (HAN.out ⟨by omega, by omega⟩)
      clear c cc
      obtain ⟨sao, scap, s1, s2⟩ := HS.out.all n (by omega)
      have HS2 := hid s2
      have HWS := hid (show AllWords o → Words (secL o n) from fun h => allWords_sec h n (by omega))
      have HWN := hid (show Words (secL o n) → ∀ j, j < n + 1 → Words (secL o j) from fun h j hjk => (Nat.lt_succ_iff_lt_or_eq.1 hjk).elim (fun h => HWO.out j h) (fun e => by subst e; exact h))
      have hsz := SMW.out n
      clear s2
      generalize secL o n = ws at *
      go_wp2
      go_loop [5] (fun i => ∃ a : Nat, a ≤ ws.length ∧ i = .int .i64 a ∧ ∀ j (hj : j < ws.length), j < a → 0 ≤ ws[j] ∧ ws[j] ≤ 4294967295) (fun i => ws.length - (intOf i).toNat)
      case atStart => exact ⟨0, Nat.zero_le _, rfl, fun j _ hj => absurd hj (Nat.not_lt_zero j)⟩
      case round =>
        obtain ⟨a, ha, rfl, hall⟩ := hrel
        have HALL := hid hall
        clear hall
        by_cases hla : a < ws.length
        · have hla' : (a : Int) < (ws.length : Int) := by omega
          obtain ⟨gs, offs, hss, hcs⟩ := HS2.out (by omega)
          subst hss
          have cw := hcs a hla
          clear hcs
          have HX := hid (show Words ws → 0 ≤ ws[a] ∧ ws[a] ≤ 4294967295 from fun h => h a hla)
          have HY := hid (show 0 ≤ ws[a] ∧ ws[a] ≤ 4294967295 → ∀ j (hj : j < ws.length), j < a + 1 → 0 ≤ ws[j] ∧ ws[j] ≤ 4294967295 from fun h j hj hjk => (Nat.lt_succ_iff_lt_or_eq.1 hjk).elim (fun h => HALL.out j hj h) (fun e => by subst e; exact h))
          generalize ws[a] = x at *
          by_cases c : x < 0
          · have d : decide (x < 0) = true := by simp; omega
            go_wp2
            go_ret
            exact no.out _ (fun hq => by have := HX.out (HWS.out (HQ.out.1 hq).2.2.1); omega) G1.out
          have f1 : decide (x < 0) = false := by simp; omega
          by_cases cc : 4294967296 ≤ x
          · have d : decide (4294967296 ≤ x) = true := by simp; omega
            go_wp2
            go_ret
            exact no.out _ (fun hq => by have := HX.out (HWS.out (HQ.out.1 hq).2.2.1); omega) G1.out
          have f2 : decide (4294967296 ≤ x) = false := by simp; omega
          have HYY := hid (HY.out ⟨by omega, by omega⟩)
          clear c cc
          go_wp2
          go_round
          case rel => exact ⟨a + 1, by omega, by go_num, HYY.out⟩
          case measure => simp [intOf]; omega
        · have HWY := hid (HWN.out (fun j hj => HALL.out j hj (by omega)))
          go_wp2
          go_round
          case rel => exact ⟨n + 1, by omega, by go_num, HAN2.out, HWY.out⟩
          case measure => simp [intOf]; omega
    · have HBY := hid (show Borders o.align from ⟨C4.out, fun i hi => HAL.out i hi (by have := C4.out; omega)⟩)
      have HWY := hid (allWords_of (fun j hj => HWO.out j (by omega)))
      have hge : ¬ ((n : Int) + 1 < 5) := by omega
      clear hlt
      go_wp2
      go_loopw [6] (fun i wr => ∃ k : Nat, k ≤ o.syms.length ∧ i = .int .i64 k ∧ (∀ j (hj : j < o.syms.length), j < k → SymAt o j hj) ∧ w1.grownBy wr none) (fun i _ => o.syms.length - (intOf i).toNat)
      case atStart => exact ⟨0, Nat.zero_le _, rfl, fun j _ hj => absurd hj (Nat.not_lt_zero j), World.grownBy.refl _ _⟩
      case round =>
        obtain ⟨k, hk, rfl, hall, hgr⟩ := hrel
        have HALL := hid hall
        have HG := hid (grown_trans G1.out hgr)
        have HGS := hid hgr
        have b5 := gcell b5 hgr
        have b6 := gcell b6 hgr
        clear hall hgr
        by_cases hlt : k < o.syms.length
        · have hlt' : (k : Int) < (o.syms.length : Int) := by omega
          have cI := hid (isSymbol_any g B k o _ _ _ _ _ _ _ wr (HO.out.kept HG.out) (HS.out.grown HGS.out) HN.out.1 SZ.out.2.1 HN.out.2.1 hlt)
          go_wp2_with fail
          refine cI.out.mono ?_
          rintro e w2 ⟨t, q2⟩
          have Q2 := hid (grown_trans HG.out q2)
          have Q3 := hid (grown_trans HGS.out q2)
          rcases t.split with ⟨rfl, p1⟩ | ⟨rfl, p1⟩ <;> clear t cI q2
          · have CC := hid (show ¬ SymsOk o from fun h => p1.out (h k hlt))
            clear p1
            go_wp2
            go_ret
            exact no.out _ (fun hq => CC.out (HQ.out.1 hq).2.2.2.1) Q2.out
          · have HY := hid (show ∀ j (hj : j < o.syms.length), j < k + 1 → SymAt o j hj from fun j hj hjk => (Nat.lt_succ_iff_lt_or_eq.1 hjk).elim (fun h => HALL.out j hj h) (fun e => by subst e; exact p1.out))
            clear p1
            go_wp2
            go_roundw
            case rel => exact ⟨k + 1, by omega, by go_num, HY.out, Q3.out⟩
            case measure => simp [intOf]; omega
        · have HSY := hid (show SymsOk o from fun i hi => HALL.out i hi (by omega))
          have hge2 : ¬ ((k : Int) < (o.syms.length : Int)) := by omega
          obtain ⟨wo, hwo⟩ : ∃ wo : World, wo = wr := ⟨_, rfl⟩
          subst hwo
          clear hlt
          go_wp2
          go_loopw [8] (fun i wr => ∃ k : Nat, k ≤ o.rels.length ∧ i = .int .i64 k ∧ (∀ j (hj : j < o.rels.length), j < k → RelAt o j hj) ∧ wo.grownBy wr none) (fun i _ => o.rels.length - (intOf i).toNat)
          case atStart => exact ⟨0, Nat.zero_le _, rfl, fun j _ hj => absurd hj (Nat.not_lt_zero j), World.grownBy.refl _ _⟩
          case round =>
            obtain ⟨m, hm, rfl, hall, hgr⟩ := hrel
            have HALR := hid hall
            have HH := hid (grown_trans HG.out hgr)
            have HHS := hid (grown_trans HGS.out hgr)
            have HHR := hid hgr
            have b6 := gcell b6 hgr
            clear hall hgr
            by_cases hlt : m < o.rels.length
            · have hlt' : (m : Int) < (o.rels.length : Int) := by omega
              have cI := hid (isReloc_any m g B o _ _ _ _ _ _ _ wr (HO.out.kept HH.out) (HS.out.grown HHS.out) HN.out.1 HBY.out HWY.out HN.out.2.2 hlt (fun j hj hjm => (HALR.out j hj (by omega)).1))
              go_wp2_with fail
              refine cI.out.mono ?_
              rintro e w2 ⟨t, q2⟩
              have Q2 := hid (grown_trans HH.out q2)
              have Q3 := hid (grown_trans HHR.out q2)
              rcases t.split with ⟨rfl, p1⟩ | ⟨rfl, p1⟩ <;> clear t cI q2
              · have CC := hid (show ¬ RelsOk o from fun h => p1.out (h m hlt))
                clear p1
                go_wp2
                go_ret
                exact no.out _ (fun hq => CC.out (HQ.out.1 hq).2.2.2.2) Q2.out
              · have HY := hid (show ∀ j (hj : j < o.rels.length), j < m + 1 → RelAt o j hj from fun j hj hjk => (Nat.lt_succ_iff_lt_or_eq.1 hjk).elim (fun h => HALR.out j hj h) (fun e => by subst e; exact p1.out))
                clear p1
                go_wp2
                go_roundw
                case rel => exact ⟨m + 1, by omega, by go_num, HY.out, Q3.out⟩
                case measure => simp [intOf]; omega
            · have HRY := hid (show RelsOk o from fun i hi => HALR.out i hi (by omega))
              have hge3 : ¬ ((m : Int) < (o.rels.length : Int)) := by omega
              clear hlt
              go_wp2
              go_ret
              exact ⟨Tells.yes (HQ.out.2 ⟨SZ.out, HBY.out, HWY.out, HSY.out, HRY.out⟩), HH.out⟩

end Go.Proofs.YtafjgogdeinpcaaDoor
