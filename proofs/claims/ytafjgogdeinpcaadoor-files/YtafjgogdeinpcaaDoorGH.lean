/- Walks over the document's answer: sections. -/
/- Walks over the document's answer: isSymbol. -/
import Derived.Test.YtafjgogdeinpcaaDoorGG
import Derived.Test.YtafjgogdeinpcaaDoorHVA
import Derived.BigRegion
namespace Go.Proofs.YtafjgogdeinpcaaDoor
open Go.RowKit

/-- the words of the four sections, as the document's answer lays them -/
structure SectsAt (W : World) (B : Nat) (o : Lk.Obj) (at_ : Option Addr) (ct : Nat) (af : Option Addr) (cf : Nat) (ad : Option Addr) (cd : Nat) (Z : Nat) : Prop where
  blk : BlkAt W B #[.slice none 0 0, .slice at_ o.text.length ct, .slice af o.far.length cf, .slice ad o.data.length cd, .slice (some ⟨Z, 0, none⟩) o.bss.toNat o.bss.toNat] 38
  text : IntsIn W at_ o.text
  far : IntsIn W af o.far
  data : IntsIn W ad o.data
  zero : IntsIn W (some ⟨Z, 0, none⟩) (List.replicate o.bss.toNat 0)
  ct : o.text.length ≤ ct ∧ ct ≤ maxLen
  cf : o.far.length ≤ cf ∧ cf ≤ maxLen
  cd : o.data.length ≤ cd ∧ cd ≤ maxLen

theorem SectsAt.grown {W W' : World} {B : Nat} {o : Lk.Obj} {at_ : Option Addr} {ct : Nat} {af : Option Addr} {cf : Nat} {ad : Option Addr} {cd : Nat} {Z : Nat} (h : SectsAt W B o at_ ct af cf ad cd Z) (hg : W.grownBy W' none) : SectsAt W' B o at_ ct af cf ad cd Z :=
  ⟨h.blk.grown hg (by simp), h.text.kept (fun _ _ hv => gcell hv hg), h.far.kept (fun _ _ hv => gcell hv hg), h.data.kept (fun _ _ hv => gcell hv hg), h.zero.kept (fun _ _ hv => gcell hv hg), h.ct, h.cf, h.cd⟩

set_option maxHeartbeats 2000000 in
theorem sections_any (g : Nat) (o : Lk.Obj) (w : World) (h : ObjAt w g o) (hz : 0 ≤ o.bss ∧ o.bss ≤ 64) :
    Calls Tryd.prog 35 #[.pointer (some ⟨g, 0, none⟩)] w fun e w' => ∃ B at_ ct af cf ad cd Z, e = .returned (.slice (some ⟨B, 0, none⟩) 5 5) ∧ SectsAt w' B o at_ ct af cf ad cd Z ∧ w.grownBy w' none := by
  obtain ⟨i0, hi, hz0, hz1, hz2⟩ := info_parts Tryd.infoInt
  obtain ⟨at_, ct, af, cf, ad, cd, aa, ca, as_, cs, ar, cr, hb, h1, h2, h3, -⟩ := h.open
  have k3 := hb.cell 3
  have HB := hid hb
  have I1 := hid (IntsIn.of_own h1)
  have I2 := hid (IntsIn.of_own h2)
  have I3 := hid (IntsIn.of_own h3)
  have C1 := hid (own_cap h1)
  have C2 := hid (own_cap h2)
  have C3 := hid (own_cap h3)
  clear h hb h1 h2 h3
  obtain ⟨n, hn⟩ := Int.eq_ofNat_of_zero_le hz.1
  have HN := hid hn
  have hn64 : n ≤ 64 := by omega
  rw [hn] at k3
  clear hn hz
  go_enter Tryd.func35, Tryd.ntmps35
  go_wp2_with (first | (refine wpList_make_full _ rfl _ _ 38 rfl w.heap.size 3 i0 (.int .i64 0) 1 Tryd.underlying38 hi hz0 hz1 .i64 .i64 (n : Int) (n : Int) n rfl rfl rfl rfl (by rw [hz2]; omega) (by unfold maxLen; omega) (Nat.le_refl _) ?_; intro w1 hown hgrow))
  have HO := hid hown
  have HG := hid hgrow
  have hb1 := HB.out.grown hgrow (by simp)
  have c0 := hb1.cell 0
  have c1 := hb1.cell 1
  have c2 := hb1.cell 2
  clear hown hgrow hb1 k3
  go_wp2
  go_region
  go_wp2
  go_ret
  have G2 := grown_drew (World.grownBy_alloc w1 (.cells #[.slice none 0 0, .slice at_ o.text.length ct, .slice af o.far.length cf, .slice ad o.data.length cd, .slice (some ⟨w.heap.size, 0, none⟩) n n] 38) none)
  have e : o.bss.toNat = n := by rw [HN.out]; simp
  have GK := fun (a : Addr) (v : Value) (hv : w.cell? a = some v) => gcell (gcell hv HG.out) G2
  refine ⟨w1.heap.size, at_, ct, af, cf, ad, cd, w.heap.size, rfl, ⟨?_, I1.out.kept GK, I2.out.kept GK, I3.out.kept GK, ?_, C1.out, C2.out, C3.out⟩, grown_trans HG.out G2⟩
  · rw [e]
    exact BlkAt.new w1 _ _
  · rw [e]
    have hz : IntsIn w1 (some ⟨w.heap.size, 0, none⟩) (List.replicate n 0) := by
      refine IntsIn.of_own (n := n) (cap := n) (base := w.heap.size) ?_
      have h := HO.out
      have e2 : (madeCells (Value.int .i64 0).cells (n * 1)).toList = (List.replicate n (0 : Int)).map (Value.int .i64) := by
        rw [Nat.mul_one]
        show (madeCells #[Value.int .i64 0] n).toList = _
        rw [toList_madeCells_one]
        simp
      rw [e2] at h
      exact h
    exact hz.kept (fun _ _ hv => gcell hv G2)

end Go.Proofs.YtafjgogdeinpcaaDoor

namespace Go.Proofs.YtafjgogdeinpcaaDoor
open Go.RowKit

def SymAt (o : Lk.Obj) (k : Nat) (h : k < o.syms.length) : Prop := SymOk o o.syms[k] ∧ ¬ ∃ j, ∃ hj : j < o.syms.length, j < k ∧ o.syms[j].name = o.syms[k].name

theorem SectsAt.len {W : World} {B : Nat} {o : Lk.Obj} {at_ : Option Addr} {ct : Nat} {af : Option Addr} {cf : Nat} {ad : Option Addr} {cd : Nat} {Z : Nat} (h : SectsAt W B o at_ ct af cf ad cd Z) (hz : 0 ≤ o.bss) (n : Nat) (hn : n ≤ 4) :
    ∃ ao L cap, W.cell? ⟨B, n, none⟩ = some (.slice ao L cap) ∧ (L : Int) = seclen o n := by
  rcases (show n = 0 ∨ n = 1 ∨ n = 2 ∨ n = 3 ∨ n = 4 from by omega) with rfl | rfl | rfl | rfl | rfl
  · exact ⟨_, _, _, h.blk.cell 0, by simp [seclen, wordsOf]⟩
  · exact ⟨_, _, _, h.blk.cell 1, by simp [seclen, wordsOf]⟩
  · exact ⟨_, _, _, h.blk.cell 2, by simp [seclen, wordsOf]⟩
  · exact ⟨_, _, _, h.blk.cell 3, by simp [seclen, wordsOf]⟩
  · exact ⟨_, _, _, h.blk.cell 4, by simp [seclen]; omega⟩

set_option maxRecDepth 100000 in
set_option maxHeartbeats 8000000 in
theorem isSymbol_any (g B k : Nat) (o : Lk.Obj) (at_ : Option Addr) (ct : Nat) (af : Option Addr) (cf : Nat) (ad : Option Addr) (cd : Nat) (Z : Nat) (w : World) (h : ObjAt w g o) (hs : SectsAt w B o at_ ct af cf ad cd Z) (hn : Small o) (hz : 0 ≤ o.bss ∧ o.bss ≤ 64)
    (hl : ∀ y ∈ o.syms, y.name.length ≤ 255) (hk : k < o.syms.length) :
    Calls Tryd.prog 36 #[.pointer (some ⟨g, 0, none⟩), .slice (some ⟨B, 0, none⟩) 5 5, .int .i64 k] w fun e w' => Tells e (SymAt o k hk) ∧ w.grownBy w' none := by
  obtain ⟨_, _, _, _, _, _, _, _, as_, cs, _, _, hb, -, -, -, -, h5, -⟩ := h.open
  have hns := hn.2.2.2.2.1
  obtain ⟨sg, hao, hgs, hc⟩ := SymsIn.of_own h5 (by omega)
  subst hao
  obtain ⟨q0, q1, q2, q3⟩ := hc k hk
  have HC := hid hc
  have k5 := hb.cell 5
  have HB := hid hb
  have HS := hid hs
  have hnl := hl o.syms[k] (List.getElem_mem hk)
  have hlen : 0 ≤ seclen o o.syms[k].sect ∧ seclen o o.syms[k].sect ≤ 65535 := by
    have := wordsOf_small hn o.syms[k].sect
    unfold seclen; split <;> omega
  have S0 := hid (BlkAt.new w #[.string (bs o.syms[k].name), .int .i64 o.syms[k].bind, .int .i64 o.syms[k].sect, .int .i64 o.syms[k].off] 46)
  have G0 := hid (World.grownBy_alloc w (.cells #[.string (bs o.syms[k].name), .int .i64 o.syms[k].bind, .int .i64 o.syms[k].sect, .int .i64 o.syms[k].off] 46) none)
  have cN := hid (fun W => name_any (bs o.syms[k].name) W (by rw [bs_size]; omega))
  have HQ := hid (show SymAt o k hk ↔ (NameOk (bs o.syms[k].name) ∧ (0 ≤ o.syms[k].bind ∧ o.syms[k].bind ≤ 2) ∧ (0 ≤ o.syms[k].sect ∧ o.syms[k].sect ≤ 4) ∧ ¬ (o.syms[k].sect = 0 ∧ o.syms[k].bind = 0) ∧ 0 ≤ o.syms[k].off ∧ o.syms[k].off % 4 = 0 ∧ o.syms[k].off ≤ 4 * seclen o o.syms[k].sect) ∧ ¬ ∃ j, ∃ hj : j < o.syms.length, j < k ∧ o.syms[j].name = o.syms[k].name from Iff.rfl)
  have g1 : (k : Int) < (o.syms.length : Int) := by omega
  clear h hs h5 hb hc hn hl
  generalize SymAt o k hk = Q at *
  go_enter Tryd.func36, Tryd.ntmps36
  go_wp2_with fail
  refine (cN.out _).mono ?_
  rintro e w1 ⟨t, hw1⟩
  subst hw1
  have s1 := S0.out.cell 1
  have s2 := S0.out.cell 2
  have s3 := S0.out.cell 3
  rcases t.split with ⟨rfl, p1⟩ | ⟨rfl, p1⟩ <;> clear t
  · go_wp2
    go_ret
    exact ⟨Tells.no (fun hq => p1.out (HQ.out.1 hq).1.1), G0.out⟩
  have no : Hid (∀ W, (¬ Q) → w.grownBy W none → Tells (.returned (.bool false)) Q ∧ w.grownBy W none) := fun W a b => ⟨Tells.no a, b⟩
  generalize hbd : o.syms[k].bind = bind at *
  generalize hsc : o.syms[k].sect = sect at *
  generalize hof : o.syms[k].off = off at *
  have HY := hid (show o.syms[k].bind = bind ∧ o.syms[k].sect = sect ∧ o.syms[k].off = off from ⟨hbd, hsc, hof⟩)
  clear hbd hsc hof
  by_cases r1 : bind < 0
  · have d : decide (bind < 0) = true := by simp; omega
    go_wp2
    go_ret
    exact no.out _ (fun hq => by have := (HQ.out.1 hq).1.2.1.1; omega) G0.out
  have d1 : decide (bind < 0) = false := by simp; omega
  by_cases r2 : 2 < bind
  · have d : decide (2 < bind) = true := by simp; omega
    go_wp2
    go_ret
    exact no.out _ (fun hq => by have := (HQ.out.1 hq).1.2.1.2; omega) G0.out
  have d2 : decide (2 < bind) = false := by simp; omega
  by_cases r3 : sect < 0
  · have d : decide (sect < 0) = true := by simp; omega
    go_wp2
    go_ret
    exact no.out _ (fun hq => by have := (HQ.out.1 hq).1.2.2.1.1; omega) G0.out
  have d3 : decide (sect < 0) = false := by simp; omega
  by_cases r4 : 4 < sect
  · have d : decide (4 < sect) = true := by simp; omega
    go_wp2
    go_ret
    exact no.out _ (fun hq => by have := (HQ.out.1 hq).1.2.2.1.2; omega) G0.out
  have d4 : decide (4 < sect) = false := by simp; omega
  by_cases r6 : off < 0
  · have d : decide (off < 0) = true := by simp; omega
    go_wp2
    go_ret
    exact no.out _ (fun hq => by have := (HQ.out.1 hq).1.2.2.2.2.1; omega) G0.out
  have d6 : decide (off < 0) = false := by simp; omega
  have r6' : 0 ≤ off := by omega
  by_cases r7 : off % 4 = 0
  rotate_left
  · have d : (off % 4 == 0) = false := beq_eq_false_iff_ne.2 r7
    have R7 := hid r7
    clear r7
    go_wp2
    go_ret
    exact no.out _ (fun hq => R7.out (HQ.out.1 hq).1.2.2.2.2.2.1) G0.out
  have d7 : (off % 4 == 0) = true := beq_iff_eq.2 r7
  have R7 := hid r7
  clear r7
  obtain ⟨n, hsn⟩ := Int.eq_ofNat_of_zero_le (show 0 ≤ sect from by omega)
  have hn4 : n ≤ 4 := by omega
  obtain ⟨ao, L, cap, hcl, hL⟩ := (HS.out.grown (G0.out)).len hz.1 n hn4
  subst hsn
  have hL2 : seclen o (n : Int) = (L : Int) := hL.symm
  have HL2 := hid hL2
  rw [hL2] at hlen
  have hLs : L ≤ 65535 := by omega
  clear hL hL2 hlen
  have hwl : IntKind.i64.wrap (4 * (L : Int)) = 4 * (L : Int) := IntWalk.i64_in _ ⟨by omega, by omega⟩
  have hn5 : n < 5 := by omega
  by_cases r8 : 4 * (L : Int) < off
  · have e1 : decide (4 * (L : Int) < off) = true := by simp; omega
    go_wp2
    go_quiet (fail)
    go_wp2
    go_ret
    exact no.out _ (fun hq => by have := (HQ.out.1 hq).1.2.2.2.2.2.2; rw [HL2.out] at this; omega) (grown_drewN G0.out _)
  have e8 : decide (4 * (L : Int) < off) = false := by simp; omega
  by_cases r5 : n = 0 ∧ bind = 0
  · obtain ⟨r5a, r5b⟩ := r5
    have x1 : (n : Int) ≤ 0 := by omega
    have x2 : bind ≤ 0 := by omega
    have x3 : (((n : Int)) == 0) = true := by simp; omega
    have x4 : (bind == 0) = true := by simp; omega
    have R5 := hid (show (n : Int) = 0 ∧ bind = 0 from by omega)
    clear r5a r5b
    go_wp2
    go_quiet (fail)
    go_wp2
    go_ret
    exact no.out _ (fun hq => (HQ.out.1 hq).1.2.2.2.1 R5.out) (grown_drewN G0.out _)
  have R5 := hid (show ¬ ((n : Int) = 0 ∧ bind = 0) from fun h => r5 ⟨by omega, h.2⟩)
  have HP := hid (show NameOk (bs o.syms[k].name) ∧ (0 ≤ bind ∧ bind ≤ 2) ∧ (0 ≤ (n : Int) ∧ (n : Int) ≤ 4) ∧ ¬ ((n : Int) = 0 ∧ bind = 0) ∧ 0 ≤ off ∧ off % 4 = 0 ∧ off ≤ 4 * seclen o n from ⟨p1.out, ⟨by omega, by omega⟩, ⟨by omega, by omega⟩, R5.out, by omega, R7.out, by rw [HL2.out]; omega⟩)
  rcases (show (((n : Int) == 0) = false) ∨ ((((n : Int)) == 0) = true ∧ (bind == 0) = false) from by
      by_cases hh : n = 0
      · exact Or.inr ⟨by simp [hh], by simp; omega⟩
      · exact Or.inl (by simp; omega)) with x3 | ⟨x3, x4⟩ <;> clear r5
  all_goals
    go_wp2
    go_quiet (fail)
    go_wp2
    go_loopw [9] (fun i wr => ∃ j : Nat, j ≤ k ∧ i = .int .i64 j ∧ (∀ a (ha : a < o.syms.length), a < j → ¬ o.syms[a].name = o.syms[k].name) ∧ w.grownBy wr none ∧ wr.cell? ⟨w.heap.size, 0, none⟩ = some (.string (bs o.syms[k].name))) (fun i _ => k - (intOf i).toNat)
    case atStart => exact ⟨0, Nat.zero_le _, rfl, fun j _ hj => absurd hj (Nat.not_lt_zero j), grown_drewN G0.out _, by simp⟩
    case round =>
      obtain ⟨j, hj, rfl, hall, hgr, hc0⟩ := hrel
      have HA := hid hall
      have HG := hid hgr
      clear hall hgr
      by_cases hlt : j < k
      · have hb5 := (HB.out.grown HG.out (by simp)).cell 5
        have hjl : j < o.syms.length := by omega
        have hq0 := gcell (HC.out j hjl).1 HG.out
        have g2 : (j : Int) < (k : Int) := by omega
        have g3 : (j : Int) < (o.syms.length : Int) := by omega
        by_cases hnm : o.syms[j].name = o.syms[k].name
        · have dn : ((bs o.syms[j].name).toList == (bs o.syms[k].name).toList) = true := by rw [hnm]; simp
          have HN := hid hnm
          clear hnm
          go_wp2
          go_quiet (fail)
          go_wp2
          go_ret
          exact no.out _ (fun hq => (HQ.out.1 hq).2 ⟨j, hjl, hlt, HN.out⟩) (grown_drewN HG.out _)
        · have dn : ((bs o.syms[j].name).toList == (bs o.syms[k].name).toList) = false := by rw [toList_bs, toList_bs]; simpa using hnm
          have HN := hid hnm
          clear hnm
          go_wp2
          go_quiet (fail)
          go_wp2
          all_goals first
            | (refine ⟨⟨j + 1, by omega, by go_num, fun a ha hak => (Nat.lt_succ_iff_lt_or_eq.1 hak).elim (fun h => HA.out a ha h) (fun h => by subst h; exact HN.out), grown_drewN HG.out _, hc0⟩, ?_⟩; simp [intOf]; omega)
            | (go_roundw; all_goals first | (case rel => exact ⟨j + 1, by omega, by go_num, fun a ha hak => (Nat.lt_succ_iff_lt_or_eq.1 hak).elim (fun h => HA.out a ha h) (fun h => by subst h; exact HN.out), grown_drewN HG.out _, hc0⟩) | (case measure => simp [intOf]; omega))
      · go_wp2
        go_ret
        exact ⟨Tells.yes (HQ.out.2 ⟨HP.out, fun ⟨a, ha, hak, e⟩ => HA.out a ha (by omega) e⟩), HG.out⟩

end Go.Proofs.YtafjgogdeinpcaaDoor
