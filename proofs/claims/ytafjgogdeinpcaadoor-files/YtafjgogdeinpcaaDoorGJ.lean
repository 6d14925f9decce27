/- Walks over the document's answer: do the words go with the relocation. -/
/- Walks over the document's answer: what isReloc asks. -/
import Derived.Test.YtafjgogdeinpcaaDoorHRB
import Derived.Test.YtafjgogdeinpcaaDoorGD
namespace Go.Proofs.YtafjgogdeinpcaaDoor
open Go.RowKit

set_option maxRecDepth 100000 in
set_option maxHeartbeats 8000000 in
theorem goes_any (kind : Int) (ao : Option Addr) (cap : Nat) (xs : List Int) (w : World) (h : IntsIn w ao xs) (hw : Words xs) (hn : xs.length ≤ 3) (hn1 : 1 ≤ xs.length) (hk : 1 ≤ kind ∧ kind ≤ 6) (h2 : kind = 4 ∨ kind = 5 → xs.length = 2) :
    Calls Tryd.prog 54 #[.int .i64 kind, .slice ao xs.length cap] w fun e w' => Tells e (GoesP kind xs) ∧ w.grownBy w' none := by
  obtain ⟨g, off, rfl, hc⟩ := h (by omega)
  have hx0 := hw 0 (by omega)
  have hgd : xs.getD 0 0 = xs[0] := by rw [List.getD_eq_getElem?_getD, List.getElem?_eq_getElem (by omega)]; rfl
  have q0 := hc 0 (by omega)
  have cD := hid (of_any xs[0] w hx0.1 hx0.2)
  have HI := hid h
  simp only [Nat.add_zero] at q0
  have g0 : (0 : Int) < (xs.length : Int) := by omega
  rcases (show kind = 1 ∨ kind = 2 ∨ kind = 3 ∨ kind = 6 ∨ kind = 4 ∨ kind = 5 from by omega) with rfl | rfl | rfl | rfl | rfl | rfl
  · have HQ := hid (show GoesP 1 xs ↔ xs[0] = 0 from by simp only [GoesP, if_true]; rw [hgd])
    generalize GoesP 1 xs = Q at *
    clear h2 hk h hc hw
    go_enter Tryd.func54, Tryd.ntmps54
    go_wp2_with fail
    refine cD.out.mono ?_
    rintro e w1 ⟨⟨op, rd, s1, t1, m, fb, ok, rfl, hd, hok, hfb⟩, hq⟩
    have q1 := gcell q0 hq
    unfold insR
    have HQQ := hid hq
    have DF := hid (dec_facts xs[0] op rd s1 m hx0.1 hx0.2 hd)
    have HOK := hid hok
    have HFB := hid hfb
    clear hq q0 hd hok hfb
    have GA := hid (fun ob : Obj => World.grownBy_alloc w1 ob none)
    have hgl : g < w1.heap.size := World.block_lt_of_cell? w1 _ q1
    have hnew := World.new_ne w1 ⟨g, off, none⟩ q1
    go_wp2
    go_ret
    exact ⟨Tells.of (by rw [HQ.out, beq_iff_eq]), grown_trans HQQ.out (GA.out _)⟩
  · have HQ := hid (show GoesP 2 xs ↔ Branch0 xs[0] from by unfold GoesP; rw [if_neg (by decide), if_pos rfl, hgd])
    generalize GoesP 2 xs = Q at *
    clear h2 hk h hc hw
    go_enter Tryd.func54, Tryd.ntmps54
    go_wp2_with fail
    refine cD.out.mono ?_
    rintro e w1 ⟨⟨op, rd, s1, t1, m, fb, ok, rfl, hd, hok, hfb⟩, hq⟩
    have q1 := gcell q0 hq
    unfold insR
    have HQQ := hid hq
    have DF := hid (dec_facts xs[0] op rd s1 m hx0.1 hx0.2 hd)
    have HOK := hid hok
    have HFB := hid hfb
    clear hq q0 hd hok hfb
    have GA := hid (fun ob : Obj => World.grownBy_alloc w1 ob none)
    have hgl : g < w1.heap.size := World.block_lt_of_cell? w1 _ q1
    have hnew := World.new_ne w1 ⟨g, off, none⟩ q1
    cases ok
    · go_wp2
      go_ret
      exact ⟨Tells.no (by rw [HQ.out, ← DF.out.1]; have := HOK.out; simp at this; omega), grown_trans HQQ.out (GA.out _)⟩
    · by_cases o1 : fb = 66
      · have d1 : (fb == 66) = true := beq_iff_eq.2 o1
        have O := hid (HFB.out.1 o1)
        clear o1
        go_wp2
        go_ret
        exact ⟨Tells.of (by rw [HQ.out, ← DF.out.1, beq_iff_eq]; have := O.out; omega), grown_trans HQQ.out (GA.out _)⟩
      · have d1 : (fb == 66) = false := beq_eq_false_iff_ne.2 o1
        have O := hid (fun h => o1 (HFB.out.2 h))
        clear o1
        go_wp2
        go_ret
        exact ⟨Tells.no (by rw [HQ.out, ← DF.out.1]; exact fun h => O.out ⟨h.1, h.2.1⟩), grown_trans HQQ.out (GA.out _)⟩
  · have HQ := hid (show GoesP 3 xs ↔ Jal0 xs[0] from by unfold GoesP; rw [if_neg (by decide), if_neg (by decide), if_pos rfl, hgd])
    generalize GoesP 3 xs = Q at *
    clear h2 hk h hc hw
    go_enter Tryd.func54, Tryd.ntmps54
    go_wp2_with fail
    refine cD.out.mono ?_
    rintro e w1 ⟨⟨op, rd, s1, t1, m, fb, ok, rfl, hd, hok, hfb⟩, hq⟩
    have q1 := gcell q0 hq
    unfold insR
    have HQQ := hid hq
    have DF := hid (dec_facts xs[0] op rd s1 m hx0.1 hx0.2 hd)
    have HOK := hid hok
    have HFB := hid hfb
    clear hq q0 hd hok hfb
    have GA := hid (fun ob : Obj => World.grownBy_alloc w1 ob none)
    have hgl : g < w1.heap.size := World.block_lt_of_cell? w1 _ q1
    have hnew := World.new_ne w1 ⟨g, off, none⟩ q1
    cases ok
    · go_wp2
      go_ret
      exact ⟨Tells.no (by rw [HQ.out, ← DF.out.2.1]; have := HOK.out; simp at this; omega), grown_trans HQQ.out (GA.out _)⟩
    · by_cases o1 : op = 3
      · have d1 : (op == 3) = true := beq_iff_eq.2 o1
        have O := hid o1
        clear o1
        go_wp2
        go_ret
        exact ⟨Tells.of (by rw [HQ.out, ← DF.out.2.1, beq_iff_eq]; have := O.out; simp; omega), grown_trans HQQ.out (GA.out _)⟩
      · have d1 : (op == 3) = false := beq_eq_false_iff_ne.2 o1
        have O := hid o1
        clear o1
        go_wp2
        go_ret
        exact ⟨Tells.no (by rw [HQ.out, ← DF.out.2.1]; have := O.out; omega), grown_trans HQQ.out (GA.out _)⟩
  · have HQ := hid (show GoesP 6 xs ↔ Nops xs from by unfold GoesP; rw [if_neg (by decide), if_neg (by decide), if_neg (by decide), if_neg (by decide), if_pos rfl])
    generalize GoesP 6 xs = Q at *
    clear h2 hk h hc hw
    go_enter Tryd.func54, Tryd.ntmps54
    go_wp2_with fail
    refine cD.out.mono ?_
    rintro e w1 ⟨⟨op, rd, s1, t1, m, fb, ok, rfl, hd, hok, hfb⟩, hq⟩
    have q1 := gcell q0 hq
    unfold insR
    have HQQ := hid hq
    have DF := hid (dec_facts xs[0] op rd s1 m hx0.1 hx0.2 hd)
    have HOK := hid hok
    have HFB := hid hfb
    clear hq q0 hd hok hfb
    have GA := hid (fun ob : Obj => World.grownBy_alloc w1 ob none)
    have hgl : g < w1.heap.size := World.block_lt_of_cell? w1 _ q1
    have hnew := World.new_ne w1 ⟨g, off, none⟩ q1
    have GB := hid (fun i (hi : i < xs.length) => (show w1.cell? ⟨g, off + i, none⟩ = some (.int .i64 xs[i]) from by obtain ⟨g', off', e, hc⟩ := HI.out (by omega); cases e; exact gcell (hc i hi) HQQ.out))
    go_wp2
    go_loopw [7] (fun i wr => ∃ k : Nat, k ≤ xs.length ∧ i = .int .i64 k ∧ (∀ j (hj : j < xs.length), j < k → xs[j] = 19) ∧ w1.grownBy wr none) (fun i _ => xs.length - (intOf i).toNat)
    case atStart => exact ⟨0, Nat.zero_le _, rfl, fun j _ hj => absurd hj (Nat.not_lt_zero j), GA.out _⟩
    case round =>
      obtain ⟨k, hk, rfl, hall, hgr⟩ := hrel
      have HA := hid hall
      have HG := hid hgr
      clear hall hgr
      by_cases hlt : k < xs.length
      · have ck := gcell (GB.out k hlt) HG.out
        have g1 : (k : Int) < (xs.length : Int) := by omega
        by_cases hx : xs[k] = 19
        · have d1 : (xs[k] == 19) = true := beq_iff_eq.2 hx
          have HX := hid hx
          clear hx
          go_wp2
          go_roundw
          case rel => exact ⟨k + 1, by omega, by go_num, fun j hj hjk => (Nat.lt_succ_iff_lt_or_eq.1 hjk).elim (fun h => HA.out j hj h) (fun h => by subst h; exact HX.out), HG.out⟩
          case measure => simp [intOf]; omega
        · have d1 : (xs[k] == 19) = false := beq_eq_false_iff_ne.2 hx
          have HX := hid hx
          clear hx
          go_wp2
          go_ret
          exact ⟨Tells.no (by rw [HQ.out]; exact fun h => HX.out (h k hlt)), grown_trans HQQ.out HG.out⟩
      · go_wp2
        go_ret
        exact ⟨Tells.yes (by rw [HQ.out]; exact fun i hi => HA.out i hi (by omega)), grown_trans HQQ.out HG.out⟩
  · have hl2 := h2 (by omega)
    have hlt1 : 1 < xs.length := by omega
    have hx1 := hw 1 hlt1
    have hgd1 : xs.getD 1 0 = xs[1]'hlt1 := by rw [List.getD_eq_getElem?_getD, List.getElem?_eq_getElem hlt1]; rfl
    have HQ := hid (show GoesP 4 xs ↔ PairW 4 xs[0] xs[1] from by unfold GoesP; rw [if_neg (by decide), if_neg (by decide), if_neg (by decide), if_pos (by decide), hgd, hgd1])
    have r0 := hc 1 hlt1
    have cD1 := hid (fun W => of_any xs[1] W hx1.1 hx1.2)
    have g1 : (1 : Int) < (xs.length : Int) := by omega
    generalize GoesP 4 xs = Q at *
    clear h2 hk h hc hw
    go_enter Tryd.func54, Tryd.ntmps54
    go_wp2_with fail
    refine cD.out.mono ?_
    rintro e w1 ⟨⟨op, rd, s1, t1, m, fb, ok, rfl, hd, hok, hfb⟩, hq⟩
    have q1 := gcell q0 hq
    unfold insR
    have HQQ := hid hq
    have DF := hid (dec_facts xs[0] op rd s1 m hx0.1 hx0.2 hd)
    have HOK := hid hok
    have HFB := hid hfb
    clear hq q0 hd hok hfb
    have GA := hid (fun ob : Obj => World.grownBy_alloc w1 ob none)
    have hgl : g < w1.heap.size := World.block_lt_of_cell? w1 _ q1
    have hnew := World.new_ne w1 ⟨g, off, none⟩ q1
    have r1 := gcell r0 HQQ.out
    have hnew1 := World.new_ne w1 ⟨g, off + 1, none⟩ r1
    clear r0 hl2
    have B1 := BlkAt.new w1 #[.int .i64 op, .int .i64 rd, .int .i64 s1, .int .i64 t1, .int .i64 m, .int .u8 fb] 95
    have HB1 := hid B1
    clear B1
    go_wp2_with fail
    refine (cD1.out _).mono ?_
    rintro e w2 ⟨⟨op2, rd2, s2, t2, m2, fb2, ok2, rfl, hd2, hok2, hfb2⟩, hq2⟩
    have B2 := HB1.out.grown hq2 (by simp)
    have k0 := B2.cell 0
    have k1 := B2.cell 1
    have k4 := B2.cell 4
    have hB2 := B2.lt
    have hne2 : w1.heap.size ≠ w2.heap.size := by omega
    unfold insR
    have GF := hid (grown_trans (grown_trans HQQ.out (GA.out _)) hq2)
    have G2 := hid (fun ob : Obj => World.grownBy_alloc w2 ob none)
    have PW := hid (pair_words 4 xs[0] xs[1] op rd s1 m op2 rd2 s2 m2 DF.out (dec_facts xs[1] op2 rd2 s2 m2 hx1.1 hx1.2 hd2))
    have HOK2 := hid hok2
    clear hd2 hok2 hfb2 hq2 B2 q1 r1
    have no : Hid (∀ W, (¬ PairP 4 op rd m op2 s2 m2) → w.grownBy W none → Tells (.returned (.bool false)) Q ∧ w.grownBy W none) := fun W a b => ⟨Tells.no (by rw [HQ.out, ← PW.out]; exact a), b⟩
    cases ok
    · have O := hid (show op = 0 from by have := HOK.out; simp at this; omega)
      go_wp2
      go_ret
      exact no.out _ (fun h => by have := h.2; have := O.out; simp at *; omega) (grown_trans GF.out (G2.out _))
    cases ok2
    · have O := hid (show op2 = 0 from by have := HOK2.out; simp at this; omega)
      go_wp2
      go_ret
      exact no.out _ (fun h => by have := h.2; have := O.out; simp at *; omega) (grown_trans GF.out (G2.out _))
    by_cases a1 : rd = 0
    · have d1 : (rd == 0) = true := beq_iff_eq.2 a1
      have A1 := hid a1
      clear a1
      go_wp2
      go_ret
      exact no.out _ (fun h => h.1.1 A1.out) (grown_trans GF.out (G2.out _))
    have d1 : (rd == 0) = false := beq_eq_false_iff_ne.2 a1
    have A1 := hid a1
    clear a1
    by_cases a2 : s2 = rd
    rotate_left
    · have d2 : (s2 == rd) = false := beq_eq_false_iff_ne.2 a2
      have A2 := hid a2
      clear a2
      go_wp2
      go_ret
      exact no.out _ (fun h => A2.out h.1.2.1) (grown_trans GF.out (G2.out _))
    have d2 : (s2 == rd) = true := beq_iff_eq.2 a2
    have A2 := hid a2
    clear a2
    by_cases a3 : m = 0
    rotate_left
    · have d3 : (m == 0) = false := beq_eq_false_iff_ne.2 a3
      have A3 := hid a3
      clear a3
      go_wp2
      go_ret
      exact no.out _ (fun h => A3.out h.1.2.2.1) (grown_trans GF.out (G2.out _))
    have d3 : (m == 0) = true := beq_iff_eq.2 a3
    have A3 := hid a3
    clear a3
    by_cases a4 : m2 = 0
    rotate_left
    · have d4 : (m2 == 0) = false := beq_eq_false_iff_ne.2 a4
      have A4 := hid a4
      clear a4
      go_wp2
      go_ret
      exact no.out _ (fun h => A4.out h.1.2.2.2) (grown_trans GF.out (G2.out _))
    have d4 : (m2 == 0) = true := beq_iff_eq.2 a4
    have A4 := hid a4
    clear a4
    have HQ2 := hid (show Q ↔ op = 2 ∧ op2 = 4 from by rw [HQ.out, ← PW.out]; unfold PairP; rw [if_pos rfl]; exact ⟨fun h => h.2, fun h => ⟨⟨A1.out, A2.out, A3.out, A4.out⟩, h⟩⟩)
    by_cases o1 : op = 2
    · have d5 : (op == 2) = true := beq_iff_eq.2 o1
      have O := hid o1
      clear o1
      go_wp2
      go_ret
      exact ⟨Tells.of (by rw [HQ2.out, beq_iff_eq]; have := O.out; simp; omega), grown_trans GF.out (G2.out _)⟩
    · have d5 : (op == 2) = false := beq_eq_false_iff_ne.2 o1
      have O := hid o1
      clear o1
      go_wp2
      go_ret
      exact ⟨Tells.no (by rw [HQ2.out]; exact fun h => O.out h.1), grown_trans GF.out (G2.out _)⟩
  · have hl2 := h2 (by omega)
    have hlt1 : 1 < xs.length := by omega
    have hx1 := hw 1 hlt1
    have hgd1 : xs.getD 1 0 = xs[1]'hlt1 := by rw [List.getD_eq_getElem?_getD, List.getElem?_eq_getElem hlt1]; rfl
    have HQ := hid (show GoesP 5 xs ↔ PairW 5 xs[0] xs[1] from by unfold GoesP; rw [if_neg (by decide), if_neg (by decide), if_neg (by decide), if_pos (by decide), hgd, hgd1])
    have r0 := hc 1 hlt1
    have cD1 := hid (fun W => of_any xs[1] W hx1.1 hx1.2)
    have g1 : (1 : Int) < (xs.length : Int) := by omega
    generalize GoesP 5 xs = Q at *
    clear h2 hk h hc hw
    go_enter Tryd.func54, Tryd.ntmps54
    go_wp2_with fail
    refine cD.out.mono ?_
    rintro e w1 ⟨⟨op, rd, s1, t1, m, fb, ok, rfl, hd, hok, hfb⟩, hq⟩
    have q1 := gcell q0 hq
    unfold insR
    have HQQ := hid hq
    have DF := hid (dec_facts xs[0] op rd s1 m hx0.1 hx0.2 hd)
    have HOK := hid hok
    have HFB := hid hfb
    clear hq q0 hd hok hfb
    have GA := hid (fun ob : Obj => World.grownBy_alloc w1 ob none)
    have hgl : g < w1.heap.size := World.block_lt_of_cell? w1 _ q1
    have hnew := World.new_ne w1 ⟨g, off, none⟩ q1
    have r1 := gcell r0 HQQ.out
    have hnew1 := World.new_ne w1 ⟨g, off + 1, none⟩ r1
    clear r0 hl2
    have B1 := BlkAt.new w1 #[.int .i64 op, .int .i64 rd, .int .i64 s1, .int .i64 t1, .int .i64 m, .int .u8 fb] 95
    have HB1 := hid B1
    clear B1
    go_wp2_with fail
    refine (cD1.out _).mono ?_
    rintro e w2 ⟨⟨op2, rd2, s2, t2, m2, fb2, ok2, rfl, hd2, hok2, hfb2⟩, hq2⟩
    have B2 := HB1.out.grown hq2 (by simp)
    have k0 := B2.cell 0
    have k1 := B2.cell 1
    have k4 := B2.cell 4
    have hB2 := B2.lt
    have hne2 : w1.heap.size ≠ w2.heap.size := by omega
    unfold insR
    have GF := hid (grown_trans (grown_trans HQQ.out (GA.out _)) hq2)
    have G2 := hid (fun ob : Obj => World.grownBy_alloc w2 ob none)
    have PW := hid (pair_words 5 xs[0] xs[1] op rd s1 m op2 rd2 s2 m2 DF.out (dec_facts xs[1] op2 rd2 s2 m2 hx1.1 hx1.2 hd2))
    have HOK2 := hid hok2
    clear hd2 hok2 hfb2 hq2 B2 q1 r1
    have no : Hid (∀ W, (¬ PairP 5 op rd m op2 s2 m2) → w.grownBy W none → Tells (.returned (.bool false)) Q ∧ w.grownBy W none) := fun W a b => ⟨Tells.no (by rw [HQ.out, ← PW.out]; exact a), b⟩
    cases ok
    · have O := hid (show op = 0 from by have := HOK.out; simp at this; omega)
      go_wp2
      go_ret
      exact no.out _ (fun h => by have := h.2; have := O.out; simp at *; omega) (grown_trans GF.out (G2.out _))
    cases ok2
    · have O := hid (show op2 = 0 from by have := HOK2.out; simp at this; omega)
      go_wp2
      go_ret
      exact no.out _ (fun h => by have := h.2; have := O.out; simp at *; omega) (grown_trans GF.out (G2.out _))
    by_cases a1 : rd = 0
    · have d1 : (rd == 0) = true := beq_iff_eq.2 a1
      have A1 := hid a1
      clear a1
      go_wp2
      go_ret
      exact no.out _ (fun h => h.1.1 A1.out) (grown_trans GF.out (G2.out _))
    have d1 : (rd == 0) = false := beq_eq_false_iff_ne.2 a1
    have A1 := hid a1
    clear a1
    by_cases a2 : s2 = rd
    rotate_left
    · have d2 : (s2 == rd) = false := beq_eq_false_iff_ne.2 a2
      have A2 := hid a2
      clear a2
      go_wp2
      go_ret
      exact no.out _ (fun h => A2.out h.1.2.1) (grown_trans GF.out (G2.out _))
    have d2 : (s2 == rd) = true := beq_iff_eq.2 a2
    have A2 := hid a2
    clear a2
    by_cases a3 : m = 0
    rotate_left
    · have d3 : (m == 0) = false := beq_eq_false_iff_ne.2 a3
      have A3 := hid a3
      clear a3
      go_wp2
      go_ret
      exact no.out _ (fun h => A3.out h.1.2.2.1) (grown_trans GF.out (G2.out _))
    have d3 : (m == 0) = true := beq_iff_eq.2 a3
    have A3 := hid a3
    clear a3
    by_cases a4 : m2 = 0
    rotate_left
    · have d4 : (m2 == 0) = false := beq_eq_false_iff_ne.2 a4
      have A4 := hid a4
      clear a4
      go_wp2
      go_ret
      exact no.out _ (fun h => A4.out h.1.2.2.2) (grown_trans GF.out (G2.out _))
    have d4 : (m2 == 0) = true := beq_iff_eq.2 a4
    have A4 := hid a4
    clear a4
    have HQ2 := hid (show Q ↔ op = 1 ∧ (op2 = 13 ∨ op2 = 11 ∨ op2 = 12) from by rw [HQ.out, ← PW.out]; unfold PairP; rw [if_neg (by decide)]; exact ⟨fun h => h.2, fun h => ⟨⟨A1.out, A2.out, A3.out, A4.out⟩, h⟩⟩)
    by_cases o1 : op = 1
    rotate_left
    · have d5 : (op == 1) = false := beq_eq_false_iff_ne.2 o1
      have O := hid o1
      clear o1
      go_wp2
      go_ret
      exact ⟨Tells.no (by rw [HQ2.out]; exact fun h => O.out h.1), grown_trans GF.out (G2.out _)⟩
    have d5 : (op == 1) = true := beq_iff_eq.2 o1
    have O := hid o1
    clear o1
    by_cases o2 : op2 = 13
    · have d6 : (op2 == 13) = true := beq_iff_eq.2 o2
      have O2 := hid o2
      clear o2
      go_wp2
      go_ret
      exact ⟨Tells.yes (by rw [HQ2.out]; exact ⟨O.out, .inl O2.out⟩), grown_trans GF.out (G2.out _)⟩
    have d6 : (op2 == 13) = false := beq_eq_false_iff_ne.2 o2
    have O2 := hid o2
    clear o2
    by_cases o3 : op2 = 11
    · have d7 : (op2 == 11) = true := beq_iff_eq.2 o3
      have O3 := hid o3
      clear o3
      go_wp2
      go_ret
      exact ⟨Tells.yes (by rw [HQ2.out]; exact ⟨O.out, .inr (.inl O3.out)⟩), grown_trans GF.out (G2.out _)⟩
    have d7 : (op2 == 11) = false := beq_eq_false_iff_ne.2 o3
    have O3 := hid o3
    clear o3
    go_wp2
    go_ret
    exact ⟨Tells.of (by rw [HQ2.out, beq_iff_eq]; have := O.out; have := O2.out; have := O3.out; omega), grown_trans GF.out (G2.out _)⟩

end Go.Proofs.YtafjgogdeinpcaaDoor

namespace Go.Proofs.YtafjgogdeinpcaaDoor
open Go.RowKit

def RelAt (o : Lk.Obj) (k : Nat) (h : k < o.rels.length) : Prop := RelOk o o.rels[k] ∧ (∀ _ : 0 < k, FollowsP (o.rels[k - 1]'(by omega)) o.rels[k])

theorem SectsAt.sec {W : World} {B : Nat} {o : Lk.Obj} {at_ : Option Addr} {ct : Nat} {af : Option Addr} {cf : Nat} {ad : Option Addr} {cd : Nat} {Z : Nat} (h : SectsAt W B o at_ ct af cf ad cd Z) (n : Nat) (hn : n ≤ 2) :
    ∃ ao cap, W.cell? ⟨B, n + 1, none⟩ = some (.slice ao (wordsOf o ((n : Int) + 1)).length cap) ∧ (wordsOf o ((n : Int) + 1)).length ≤ cap ∧ cap ≤ maxLen ∧ IntsIn W ao (wordsOf o ((n : Int) + 1)) := by
  rcases (show n = 0 ∨ n = 1 ∨ n = 2 from by omega) with rfl | rfl | rfl
  · exact ⟨_, _, h.blk.cell 1, h.ct.1, h.ct.2, h.text⟩
  · exact ⟨_, _, h.blk.cell 2, h.cf.1, h.cf.2, h.far⟩
  · exact ⟨_, _, h.blk.cell 3, h.cd.1, h.cd.2, h.data⟩

end Go.Proofs.YtafjgogdeinpcaaDoor
