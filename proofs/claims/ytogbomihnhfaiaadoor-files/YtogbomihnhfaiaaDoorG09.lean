/- Walks over the document's answer: the instruction of a word. -/
/- Walks over the document's answer: do the words go with the relocation. -/
/- Walks over the document's answer: what isReloc asks. -/
import Derived.Test.YtogbomihnhfaiaaDoorG08
import Derived.Test.YtogbomihnhfaiaaDoorG05
namespace Go.Proofs.YtogbomihnhfaiaaDoor
open Go.RowKit

def insR (op rd rs1 rs2 m fb : Int) : Value := .agg #[.int .i64 op, .int .i64 rd, .int .i64 rs1, .int .i64 rs2, .int .i64 m, .int .u8 fb]
def OfRet (e : Ending) (n : Int) : Prop := ∃ op rd rs1 rs2 m fb ok, e = .returned (.tuple #[insR op rd rs1 rs2 m fb, .bool ok]) ∧ Dec n op rd rs1 m ∧ (ok = true ↔ op ≠ 0) ∧ (fb = 66 ↔ (5 ≤ op ∧ op ≤ 10))

theorem tabCell.grown {k : Nat} {w w' : World} {b : Nat} (h : tabCell k w b) (hg : w.grownBy w' none) : tabCell k w' b := ⟨gcell h.1 hg, gcell h.2.1 hg, gcell h.2.2.1 hg, gcell h.2.2.2 hg⟩

theorem shl_in (b : Int) (p : Nat) (h0 : 0 ≤ b) (h1 : b ≤ 1) (hp : p ≤ 20) : wrap64 (b * 2 ^ p) = b * 2 ^ p := by
  have : (2 : Int) ^ p ≤ 1048576 := by
    have := Nat.pow_le_pow_right (show 0 < 2 by decide) hp
    rw [show (2 : Int) ^ p = ((2 ^ p : Nat) : Int) from by simp]
    omega
  have h2 : (0 : Int) < 2 ^ p := Int.pow_pos (by decide)
  rcases (show b = 0 ∨ b = 1 from by omega) with rfl | rfl
  · rw [Int.zero_mul]; exact IntWalk.wrap64_in _ ⟨by omega, by omega⟩
  · exact IntWalk.wrap64_in _ ⟨by omega, by omega⟩
theorem grown_setX {w W : World} {X : Nat} (h : w.grownBy W (some X)) (o : Nat) (v : Value) : w.grownBy (W.setCell ⟨X, o, none⟩ v) (some X) :=
  ⟨h.os, h.tape, h.output, by simpa [World.setCell] using h.size, fun i hi hne => (Below.heap_setCell W ⟨X, o, none⟩ v i (by simp at hne ⊢; omega)).trans (h.block i hi hne)⟩

theorem bit_lit (v : Int) (j : Nat) (m : Int) (hm : m = (j : Int)) (w : World) (hv : 0 ≤ v) (hv' : v ≤ 4294967295) (hj : j ≤ 31) :
    Calls Tryd.prog 76 #[.int .i64 v, .int .i64 m] w fun e w' => e = .returned (.int .i64 (v / 2 ^ j % 2)) ∧ w' = w := by
  subst hm; exact bit_any v j w hv hv' hj

theorem blk_other {W : World} {R X : Nat} {cs : Array Value} {t : TypeId} (h : BlkAt W R cs t) (hne : X ≠ R) (o : Nat) (v : Value) : BlkAt (W.setCell ⟨X, o, none⟩ v) R cs t := (Below.heap_setCell W ⟨X, o, none⟩ v R (by simp; omega)).trans h
theorem put6 {w W : World} {a0 a1 a2 a3 a4 a5 : Value} (h : w.grownBy W none) (hB : BlkAt W w.heap.size #[a0, a1, a2, a3, a4, a5] 95) (b0 b1 b2 b3 b4 b5 : Value) :
    BlkAt ((((((W.setCell ⟨w.heap.size, 0, none⟩ b0).setCell ⟨w.heap.size, 1, none⟩ b1).setCell ⟨w.heap.size, 2, none⟩ b2).setCell ⟨w.heap.size, 3, none⟩ b3).setCell ⟨w.heap.size, 4, none⟩ b4).setCell ⟨w.heap.size, 5, none⟩ b5) w.heap.size #[b0, b1, b2, b3, b4, b5] 95 ∧
    w.grownBy ((((((W.setCell ⟨w.heap.size, 0, none⟩ b0).setCell ⟨w.heap.size, 1, none⟩ b1).setCell ⟨w.heap.size, 2, none⟩ b2).setCell ⟨w.heap.size, 3, none⟩ b3).setCell ⟨w.heap.size, 4, none⟩ b4).setCell ⟨w.heap.size, 5, none⟩ b5) none :=
  ⟨(((((hB.set 0 b0).set 1 b1).set 2 b2).set 3 b3).set 4 b4).set 5 b5, grown_new (grown_new (grown_new (grown_new (grown_new (grown_new h (Nat.le_refl _) _ _) (Nat.le_refl _) _ _) (Nat.le_refl _) _ _) (Nat.le_refl _) _ _) (Nat.le_refl _) _ _) (Nat.le_refl _) _ _⟩
theorem form_B (k : Nat) (hk : k < 25) (f : Int) (hf : formL.getD (k + 1) 0 = f) : f = 4 ↔ (5 ≤ (k : Int) + 1 ∧ (k : Int) + 1 ≤ 10) := by
  have : ∀ k, k < 25 → (formL.getD (k + 1) 0 = 4 ↔ (4 ≤ k ∧ k ≤ 9)) := by decide
  rw [← hf, this k hk]
  omega

theorem BlkAt.drew {w : World} {g : Nat} {cs : Array Value} {t : TypeId} (h : BlkAt w g cs t) : BlkAt w.drew g cs t := h.drewN 1

theorem wide_le (form : Int) (hf : 1 ≤ form ∧ form ≤ 7) : wideN form ≤ 21 := by
  rcases (show form = 1 ∨ form = 2 ∨ form = 3 ∨ form = 4 ∨ form = 5 ∨ form = 6 ∨ form = 7 from by omega) with rfl | rfl | rfl | rfl | rfl | rfl | rfl <;> decide

set_option maxRecDepth 100000 in
set_option maxHeartbeats 8000000 in
theorem of_any (n : Int) (w : World) (h0 : 0 ≤ n) (h1 : n ≤ 4294967295) :
    Calls Tryd.prog 63 #[.int .i64 n] w fun e w' => OfRet e n ∧ w.grownBy w' none := by
  have G := hid (fun o : Obj => World.grownBy_alloc w o none)
  have cT := hid table_any
  go_enter Tryd.func63, Tryd.ntmps63
  go_wp2_with fail
  refine (cT.out _).mono ?_
  rintro e w1 ⟨rfl, htab, hlt, hg1⟩
  have BR := hid (((BlkAt.new w _ _).grown hg1 (by simp)) : BlkAt w1 w.heap.size #[.int .i64 0, .int .i64 0, .int .i64 0, .int .i64 0, .int .i64 0, .int .u8 0] 95)
  have G1 := hid (grown_trans (G.out _) hg1)
  generalize (w.alloc _).heap.size = TB at *
  have HTB := hid htab
  clear htab hg1 hlt
  go_wp2
  go_loopw [5] (fun i wr => ∃ k : Nat, k ≤ 25 ∧ i = .int .i64 k ∧ (∀ j, 1 ≤ j → j < k + 1 → ¬ Is j n) ∧ w1.grownBy wr none) (fun i _ => 25 - (intOf i).toNat)
  case atStart => exact ⟨0, Nat.zero_le _, rfl, fun j h1 h2 => by omega, World.grownBy.refl _ _⟩
  case round =>
    obtain ⟨k, hk1, rfl, hall, hgr⟩ := hrel
    have HA := hid hall
    have HG := hid hgr
    clear hall hgr
    by_cases hlt : k < 25
    · obtain ⟨q1, q2, q3, q4⟩ := (HTB.out k hlt).grown HG.out
      have hfr := form_range (k + 1) (by omega) (by omega)
      have IsE := hid (show Is (k + 1) n ↔ bits .and .i64 n (maskF (formL.getD (k + 1) 0)) = fixedL.getD (k + 1) 0 from Iff.rfl)
      generalize hF : formL.getD (k + 1) 0 = f at *
      generalize fixedL.getD (k + 1) 0 = x at *
      have HF := hid hF
      clear hF
      have g2 : (k : Int) < 25 := by omega
      by_cases hI : Is (k + 1) n
      · have d : (bits .and .i64 n (maskF f) == x) = true := beq_iff_eq.2 (IsE.out.1 hI)
        have HI := hid hI
        clear hI
        go_wp2
        go_quiet (fail)
        have T2 := (HTB.out k hlt).grown (grown_drewN HG.out nq)
        unfold tabCell at T2
        rw [HF.out] at T2
        have HG2 := hid (grown_drewN HG.out nq)
        clear q1 q2 q3 q4
        generalize wr.drewN nq = w2 at *
        obtain ⟨q1, -, -, q4⟩ := T2
        have cP := hid (fun W => places_any f W hfr)
        go_wp2_with fail
        refine (cP.out _).mono ?_
        rintro e w3 ⟨v, rfl, hown, hg3⟩
        obtain ⟨ao, cap, rfl⟩ := own_form hown
        have BX := hid (((BlkAt.new w2 _ _).grown hg3 (by simp)) : BlkAt w3 w2.heap.size #[.int .i64 ((k : Int) + 1), .int .i64 0, .int .i64 0, .int .i64 0, .int .i64 0, .int .u8 (formB f)] 95)
        have G3 := hid (grown_trans (grown_trans HG2.out (World.grownBy_alloc _ _ _)) hg3)
        have II := hid (IntsIn.of_own hown)
        have HNE := hid (show ∀ g off, ao = some ⟨g, off, none⟩ → w2.heap.size < g from fun g off h => by subst h; have := (hown.lt g rfl).1; simp at this; omega)
        have hcap := own_cap hown
        have hXs := hid (grown_trans G1.out HG2.out).size
        obtain ⟨L1, L2, L3⟩ := places_facts f hfr
        rw [L1] at hcap
        have HL := hid L3
        have hXR := BX.out.lt
        clear hown hg3 L3 q1 q4
        have hcap1 := hcap.1
        have hcap2 := hcap.2
        unfold maxLen at hcap2
        clear hcap
        rw [L1]
        have HL1 := hid L1
        clear L1
        generalize hX : w2.heap.size = X at *
        have HX := hid hX
        clear hX
        go_wp2
        go_loopw [9] (fun i wr => ∃ a : Nat, ∃ v : Int, a ≤ pln f ∧ i = .int .i64 ((a * 2 : Nat) : Int) ∧ 0 ≤ v ∧ v < 2 ^ wideN f ∧ (v = 0 ↔ BitsZero f n a) ∧ BlkAt wr X #[.int .i64 ((k : Int) + 1), .int .i64 0, .int .i64 0, .int .i64 0, .int .i64 v, .int .u8 (formB f)] 95 ∧ w3.grownBy wr (some X)) (fun i _ => pln f * 2 - (intOf i).toNat)
        case atStart => exact ⟨0, 0, Nat.zero_le _, rfl, by omega, Int.pow_pos (by decide), ⟨fun _ a ha => absurd ha (Nat.not_lt_zero a), fun _ => rfl⟩, BX.out, World.grownBy.refl _ _⟩
        case round =>
          obtain ⟨a, v, ha, rfl, hv0, hv1, hv2, hbx, hgr⟩ := hrel
          have HV2 := hid hv2
          have HBX := hid hbx
          have HGX := hid hgr
          clear hv2 hbx hgr
          by_cases hla : a < pln f
          · obtain ⟨e1, e2, e3, e4⟩ := HL.out a hla
            obtain ⟨g', off', hao, hcell⟩ := II.out (by have := HL1.out; omega)
            have hne := HNE.out g' off' hao
            subst hao
            have s1 : a * 2 < (placesL f).length := by have := HL1.out; omega
            have s2 : a * 2 + 1 < (placesL f).length := by have := HL1.out; omega
            have c1 := HGX.out.cell (hcell (a * 2) s1) (by simp; omega)
            have c2 := HGX.out.cell (hcell (a * 2 + 1) s2) (by simp; omega)
            rw [show (placesL f)[a * 2] = (plp f a : Int) from by rw [← e1, List.getD_eq_getElem?_getD, List.getElem?_eq_getElem s1]; rfl] at c1
            rw [show (placesL f)[a * 2 + 1] = (plq f a : Int) from by rw [← e2, List.getD_eq_getElem?_getD, List.getElem?_eq_getElem s2]; rfl] at c2
            have b4 := HBX.out.cell 4
            have b4f := HBX.out.free 4
            have hXg : X ≠ g' := by omega
            have cB := hid (fun W => bit_any n (plq f a) W h0 h1 e4)
            have hK21 := wide_le f hfr
            have STEP := hid (bits_step f n v (wideN f) a hK21 e3 hv0 hv1 HV2.out)
            clear hcell e1 e2 s1 s2
            generalize hbb : n / 2 ^ plq f a % 2 = b at *
            have hb0 : 0 ≤ b := by omega
            have hb1 : b ≤ 1 := by omega
            clear hbb
            generalize plq f a = q at *
            generalize plp f a = p at *
            have g3 : (a * 2 : Int) < (pln f * 2 : Int) := by omega
            have g4 : ((a * 2 : Nat) : Int) + 1 < ((pln f * 2 : Nat) : Int) := by omega
            have g5 : p ≤ 20 := by omega
            go_wp2_with fail
            refine (cB.out _).mono ?_
            rintro e w4 ⟨rfl, rfl⟩
            go_wp2
            go_region
            go_wp2
            have F := STEP.out _ rfl
            have es := shl_in b p hb0 hb1 g5
            rw [es]
            refine ⟨⟨a + 1, bits .or .i64 v (b * 2 ^ p), by omega, by go_num, F.1, F.2.1, F.2.2, (HBX.out.set 4 _).drewN 1, grown_drewN (grown_setX HGX.out 4 _) 1⟩, ?_⟩
            simp [intOf]; omega
          · have ea : a = pln f := by omega
            have HNZ := hid (show v = 0 ↔ NumZero f n from by rw [HV2.out, ea]; exact bits_zero f n h0 h1 hfr)
            have cW := hid (fun W => wide_any f W hfr)
            have hK21 := wide_le f hfr
            subst ea
            go_wp2_with fail
            refine (cW.out _).mono ?_
            rintro e w4 ⟨rfl, rfl⟩
            have hXlt := HBX.out.lt
            have hXw : w.heap.size < X := by have h1 := BR.out.lt; have h2 := HG2.out.size; have h3 := HX.out; omega
            have BR4 := hid ((((BR.out.grown G3.out (by simp)).grown HGX.out (by simp; omega))) : BlkAt w4 w.heap.size #[.int .i64 0, .int .i64 0, .int .i64 0, .int .i64 0, .int .i64 0, .int .u8 0] 95)
            have GW := hid (grown_above (grown_trans G1.out G3.out) HGX.out (by omega))
            have x0 := HBX.out.cell 0
            have x1 := HBX.out.cell 1
            have x2 := HBX.out.cell 2
            have x3 := HBX.out.cell 3
            have x4 := HBX.out.cell 4
            have y1 := HBX.out.free 1
            have y2 := HBX.out.free 2
            have y3 := HBX.out.free 3
            have y4 := HBX.out.free 4
            have z0 := BR4.out.cell 0
            have z1 := BR4.out.cell 1
            have z2 := BR4.out.cell 2
            have z3 := BR4.out.cell 3
            have z4 := BR4.out.cell 4
            have z5 := BR4.out.cell 5
            have t0 := BR4.out.free 0
            have t1 := BR4.out.free 1
            have t2 := BR4.out.free 2
            have t3 := BR4.out.free 3
            have t4 := BR4.out.free 4
            have t5 := BR4.out.free 5
            have hne : X ≠ w.heap.size := by omega
            rcases (show f = 1 ∨ f = 2 ∨ f = 3 ∨ f = 4 ∨ f = 5 ∨ f = 6 ∨ f = 7 from by omega) with rfl | rfl | rfl | rfl | rfl | rfl | rfl
            · rw [show formB 1 = 85 from rfl, show wideN 1 = 20 from rfl]
              have x5 : w4.cell? ⟨X, 5, none⟩ = some (.int .u8 85) := HBX.out.cell 5
              go_wp2
              have F := put6 (W := (w4.setCell ⟨X, 1, none⟩ (.int .i64 (bits .and .i64 (n / 128) 31)))) (grown_new GW.out (by omega) _ _) (blk_other BR4.out hne _ _) (.int .i64 ((k : Int) + 1)) (.int .i64 (bits .and .i64 (n / 128) 31)) (.int .i64 0) (.int .i64 0) (.int .i64 v) (.int .u8 85)
              have e0 := (F.1).cell 0
              have e1 := (F.1).cell 1
              have e2 := (F.1).cell 2
              have e3 := (F.1).cell 3
              have e4 := (F.1).cell 4
              have e5 := (F.1).cell 5
              refine bodyPost_ret (v := .tuple #[insR ((k : Int) + 1) (bits .and .i64 (n / 128) 31) 0 0 v 85, .bool true]) ?_ rfl ⟨⟨(k : Int) + 1, (bits .and .i64 (n / 128) 31), 0, 0, v, 85, true, rfl, .inr ⟨k + 1, by omega, by omega, HI.out, HA.out, by simp, by rw [HF.out]; rfl, by rw [HF.out]; rfl, by rw [HF.out]; exact HNZ.out⟩, by simp; omega, by rw [← form_B k hlt _ HF.out]; decide⟩, F.2⟩
              clear F x0 x1 x2 x3 x4 x5 y1 y2 y3 y4 z0 z1 z2 z3 z4 z5 t0 t1 t2 t3 t4 t5
              simp [results, Tryd.results63, go_sem, insR, e0, e1, e2, e3, e4, e5]
            · rw [show formB 2 = 74 from rfl, show wideN 2 = 21 from rfl]
              have x5 : w4.cell? ⟨X, 5, none⟩ = some (.int .u8 74) := HBX.out.cell 5
              rw [show wideN 2 = 21 from rfl] at hv1
              simp only [Int.reducePow] at hv1
              have cB := hid (fun W => bit_lit v 20 20 rfl W hv0 (by omega) (by decide))
              by_cases hsb : v / 2 ^ 20 % 2 = 1
              · have d1 : (v / 2 ^ 20 % 2 == 1) = true := beq_iff_eq.2 hsb
                have HV0 := hid (show v ≠ 0 from fun h => by subst h; simp at hsb)
                clear hsb
                generalize v / 2 ^ 20 % 2 = sb at *
                go_wp2_with fail
                refine (cB.out _).mono ?_
                rintro e w5 ⟨rfl, rfl⟩
                go_wp2
                go_region
                go_wp2
                have F := put6 (W := ((w5.setCell ⟨X, 4, none⟩ (.int .i64 (v - 2097152))).setCell ⟨X, 1, none⟩ (.int .i64 (bits .and .i64 (n / 128) 31)))) (grown_new (grown_new GW.out (by omega) _ _) (by omega) _ _) (blk_other (blk_other BR4.out hne _ _) hne _ _) (.int .i64 ((k : Int) + 1)) (.int .i64 (bits .and .i64 (n / 128) 31)) (.int .i64 0) (.int .i64 0) (.int .i64 (v - 2097152)) (.int .u8 74)
                have e0 := (BlkAt.drew F.1).cell 0
                have e1 := (BlkAt.drew F.1).cell 1
                have e2 := (BlkAt.drew F.1).cell 2
                have e3 := (BlkAt.drew F.1).cell 3
                have e4 := (BlkAt.drew F.1).cell 4
                have e5 := (BlkAt.drew F.1).cell 5
                refine bodyPost_ret (v := .tuple #[insR ((k : Int) + 1) (bits .and .i64 (n / 128) 31) 0 0 (v - 2097152) 74, .bool true]) ?_ rfl ⟨⟨(k : Int) + 1, (bits .and .i64 (n / 128) 31), 0, 0, (v - 2097152), 74, true, rfl, .inr ⟨k + 1, by omega, by omega, HI.out, HA.out, by simp, by rw [HF.out]; rfl, by rw [HF.out]; rfl, by rw [HF.out]; exact ⟨fun h => by omega, fun h => absurd (HNZ.out.2 h) HV0.out⟩⟩, by simp; omega, by rw [← form_B k hlt _ HF.out]; decide⟩, (grown_drew F.2)⟩
                clear F x0 x1 x2 x3 x4 x5 y1 y2 y3 y4 z0 z1 z2 z3 z4 z5 t0 t1 t2 t3 t4 t5
                generalize World.drew _ = WF at *
                simp [results, Tryd.results63, go_sem, insR, e0, e1, e2, e3, e4, e5]
              · have d1 : (v / 2 ^ 20 % 2 == 1) = false := beq_eq_false_iff_ne.2 hsb
                clear hsb
                generalize v / 2 ^ 20 % 2 = sb at *
                go_wp2_with fail
                refine (cB.out _).mono ?_
                rintro e w5 ⟨rfl, rfl⟩
                go_wp2
                have F := put6 (W := (w5.setCell ⟨X, 1, none⟩ (.int .i64 (bits .and .i64 (n / 128) 31)))) (grown_new GW.out (by omega) _ _) (blk_other BR4.out hne _ _) (.int .i64 ((k : Int) + 1)) (.int .i64 (bits .and .i64 (n / 128) 31)) (.int .i64 0) (.int .i64 0) (.int .i64 v) (.int .u8 74)
                have e0 := (F.1).cell 0
                have e1 := (F.1).cell 1
                have e2 := (F.1).cell 2
                have e3 := (F.1).cell 3
                have e4 := (F.1).cell 4
                have e5 := (F.1).cell 5
                refine bodyPost_ret (v := .tuple #[insR ((k : Int) + 1) (bits .and .i64 (n / 128) 31) 0 0 v 74, .bool true]) ?_ rfl ⟨⟨(k : Int) + 1, (bits .and .i64 (n / 128) 31), 0, 0, v, 74, true, rfl, .inr ⟨k + 1, by omega, by omega, HI.out, HA.out, by simp, by rw [HF.out]; rfl, by rw [HF.out]; rfl, by rw [HF.out]; exact HNZ.out⟩, by simp; omega, by rw [← form_B k hlt _ HF.out]; decide⟩, F.2⟩
                clear F x0 x1 x2 x3 x4 x5 y1 y2 y3 y4 z0 z1 z2 z3 z4 z5 t0 t1 t2 t3 t4 t5
                simp [results, Tryd.results63, go_sem, insR, e0, e1, e2, e3, e4, e5]
            · rw [show formB 3 = 73 from rfl, show wideN 3 = 12 from rfl]
              have x5 : w4.cell? ⟨X, 5, none⟩ = some (.int .u8 73) := HBX.out.cell 5
              rw [show wideN 3 = 12 from rfl] at hv1
              simp only [Int.reducePow] at hv1
              have cB := hid (fun W => bit_lit v 11 11 rfl W hv0 (by omega) (by decide))
              by_cases hsb : v / 2 ^ 11 % 2 = 1
              · have d1 : (v / 2 ^ 11 % 2 == 1) = true := beq_iff_eq.2 hsb
                have HV0 := hid (show v ≠ 0 from fun h => by subst h; simp at hsb)
                clear hsb
                generalize v / 2 ^ 11 % 2 = sb at *
                go_wp2_with fail
                refine (cB.out _).mono ?_
                rintro e w5 ⟨rfl, rfl⟩
                go_wp2
                go_region
                go_wp2
                have F := put6 (W := (((w5.setCell ⟨X, 4, none⟩ (.int .i64 (v - 4096))).setCell ⟨X, 1, none⟩ (.int .i64 (bits .and .i64 (n / 128) 31))).setCell ⟨X, 2, none⟩ (.int .i64 (bits .and .i64 (n / 32768) 31)))) (grown_new (grown_new (grown_new GW.out (by omega) _ _) (by omega) _ _) (by omega) _ _) (blk_other (blk_other (blk_other BR4.out hne _ _) hne _ _) hne _ _) (.int .i64 ((k : Int) + 1)) (.int .i64 (bits .and .i64 (n / 128) 31)) (.int .i64 (bits .and .i64 (n / 32768) 31)) (.int .i64 0) (.int .i64 (v - 4096)) (.int .u8 73)
                have e0 := (BlkAt.drew F.1).cell 0
                have e1 := (BlkAt.drew F.1).cell 1
                have e2 := (BlkAt.drew F.1).cell 2
                have e3 := (BlkAt.drew F.1).cell 3
                have e4 := (BlkAt.drew F.1).cell 4
                have e5 := (BlkAt.drew F.1).cell 5
                refine bodyPost_ret (v := .tuple #[insR ((k : Int) + 1) (bits .and .i64 (n / 128) 31) (bits .and .i64 (n / 32768) 31) 0 (v - 4096) 73, .bool true]) ?_ rfl ⟨⟨(k : Int) + 1, (bits .and .i64 (n / 128) 31), (bits .and .i64 (n / 32768) 31), 0, (v - 4096), 73, true, rfl, .inr ⟨k + 1, by omega, by omega, HI.out, HA.out, by simp, by rw [HF.out]; rfl, by rw [HF.out]; rfl, by rw [HF.out]; exact ⟨fun h => by omega, fun h => absurd (HNZ.out.2 h) HV0.out⟩⟩, by simp; omega, by rw [← form_B k hlt _ HF.out]; decide⟩, (grown_drew F.2)⟩
                clear F x0 x1 x2 x3 x4 x5 y1 y2 y3 y4 z0 z1 z2 z3 z4 z5 t0 t1 t2 t3 t4 t5
                generalize World.drew _ = WF at *
                simp [results, Tryd.results63, go_sem, insR, e0, e1, e2, e3, e4, e5]
              · have d1 : (v / 2 ^ 11 % 2 == 1) = false := beq_eq_false_iff_ne.2 hsb
                clear hsb
                generalize v / 2 ^ 11 % 2 = sb at *
                go_wp2_with fail
                refine (cB.out _).mono ?_
                rintro e w5 ⟨rfl, rfl⟩
                go_wp2
                have F := put6 (W := ((w5.setCell ⟨X, 1, none⟩ (.int .i64 (bits .and .i64 (n / 128) 31))).setCell ⟨X, 2, none⟩ (.int .i64 (bits .and .i64 (n / 32768) 31)))) (grown_new (grown_new GW.out (by omega) _ _) (by omega) _ _) (blk_other (blk_other BR4.out hne _ _) hne _ _) (.int .i64 ((k : Int) + 1)) (.int .i64 (bits .and .i64 (n / 128) 31)) (.int .i64 (bits .and .i64 (n / 32768) 31)) (.int .i64 0) (.int .i64 v) (.int .u8 73)
                have e0 := (F.1).cell 0
                have e1 := (F.1).cell 1
                have e2 := (F.1).cell 2
                have e3 := (F.1).cell 3
                have e4 := (F.1).cell 4
                have e5 := (F.1).cell 5
                refine bodyPost_ret (v := .tuple #[insR ((k : Int) + 1) (bits .and .i64 (n / 128) 31) (bits .and .i64 (n / 32768) 31) 0 v 73, .bool true]) ?_ rfl ⟨⟨(k : Int) + 1, (bits .and .i64 (n / 128) 31), (bits .and .i64 (n / 32768) 31), 0, v, 73, true, rfl, .inr ⟨k + 1, by omega, by omega, HI.out, HA.out, by simp, by rw [HF.out]; rfl, by rw [HF.out]; rfl, by rw [HF.out]; exact HNZ.out⟩, by simp; omega, by rw [← form_B k hlt _ HF.out]; decide⟩, F.2⟩
                clear F x0 x1 x2 x3 x4 x5 y1 y2 y3 y4 z0 z1 z2 z3 z4 z5 t0 t1 t2 t3 t4 t5
                simp [results, Tryd.results63, go_sem, insR, e0, e1, e2, e3, e4, e5]
            · rw [show formB 4 = 66 from rfl, show wideN 4 = 13 from rfl]
              have x5 : w4.cell? ⟨X, 5, none⟩ = some (.int .u8 66) := HBX.out.cell 5
              rw [show wideN 4 = 13 from rfl] at hv1
              simp only [Int.reducePow] at hv1
              have cB := hid (fun W => bit_lit v 12 12 rfl W hv0 (by omega) (by decide))
              by_cases hsb : v / 2 ^ 12 % 2 = 1
              · have d1 : (v / 2 ^ 12 % 2 == 1) = true := beq_iff_eq.2 hsb
                have HV0 := hid (show v ≠ 0 from fun h => by subst h; simp at hsb)
                clear hsb
                generalize v / 2 ^ 12 % 2 = sb at *
                go_wp2_with fail
                refine (cB.out _).mono ?_
                rintro e w5 ⟨rfl, rfl⟩
                go_wp2
                go_region
                go_wp2
                have F := put6 (W := (((w5.setCell ⟨X, 4, none⟩ (.int .i64 (v - 8192))).setCell ⟨X, 2, none⟩ (.int .i64 (bits .and .i64 (n / 32768) 31))).setCell ⟨X, 3, none⟩ (.int .i64 (bits .and .i64 (n / 1048576) 31)))) (grown_new (grown_new (grown_new GW.out (by omega) _ _) (by omega) _ _) (by omega) _ _) (blk_other (blk_other (blk_other BR4.out hne _ _) hne _ _) hne _ _) (.int .i64 ((k : Int) + 1)) (.int .i64 0) (.int .i64 (bits .and .i64 (n / 32768) 31)) (.int .i64 (bits .and .i64 (n / 1048576) 31)) (.int .i64 (v - 8192)) (.int .u8 66)
                have e0 := (BlkAt.drew F.1).cell 0
                have e1 := (BlkAt.drew F.1).cell 1
                have e2 := (BlkAt.drew F.1).cell 2
                have e3 := (BlkAt.drew F.1).cell 3
                have e4 := (BlkAt.drew F.1).cell 4
                have e5 := (BlkAt.drew F.1).cell 5
                refine bodyPost_ret (v := .tuple #[insR ((k : Int) + 1) 0 (bits .and .i64 (n / 32768) 31) (bits .and .i64 (n / 1048576) 31) (v - 8192) 66, .bool true]) ?_ rfl ⟨⟨(k : Int) + 1, 0, (bits .and .i64 (n / 32768) 31), (bits .and .i64 (n / 1048576) 31), (v - 8192), 66, true, rfl, .inr ⟨k + 1, by omega, by omega, HI.out, HA.out, by simp, by rw [HF.out]; rfl, by rw [HF.out]; rfl, by rw [HF.out]; exact ⟨fun h => by omega, fun h => absurd (HNZ.out.2 h) HV0.out⟩⟩, by simp; omega, by rw [← form_B k hlt _ HF.out]; decide⟩, (grown_drew F.2)⟩
                clear F x0 x1 x2 x3 x4 x5 y1 y2 y3 y4 z0 z1 z2 z3 z4 z5 t0 t1 t2 t3 t4 t5
                generalize World.drew _ = WF at *
                simp [results, Tryd.results63, go_sem, insR, e0, e1, e2, e3, e4, e5]
              · have d1 : (v / 2 ^ 12 % 2 == 1) = false := beq_eq_false_iff_ne.2 hsb
                clear hsb
                generalize v / 2 ^ 12 % 2 = sb at *
                go_wp2_with fail
                refine (cB.out _).mono ?_
                rintro e w5 ⟨rfl, rfl⟩
                go_wp2
                have F := put6 (W := ((w5.setCell ⟨X, 2, none⟩ (.int .i64 (bits .and .i64 (n / 32768) 31))).setCell ⟨X, 3, none⟩ (.int .i64 (bits .and .i64 (n / 1048576) 31)))) (grown_new (grown_new GW.out (by omega) _ _) (by omega) _ _) (blk_other (blk_other BR4.out hne _ _) hne _ _) (.int .i64 ((k : Int) + 1)) (.int .i64 0) (.int .i64 (bits .and .i64 (n / 32768) 31)) (.int .i64 (bits .and .i64 (n / 1048576) 31)) (.int .i64 v) (.int .u8 66)
                have e0 := (F.1).cell 0
                have e1 := (F.1).cell 1
                have e2 := (F.1).cell 2
                have e3 := (F.1).cell 3
                have e4 := (F.1).cell 4
                have e5 := (F.1).cell 5
                refine bodyPost_ret (v := .tuple #[insR ((k : Int) + 1) 0 (bits .and .i64 (n / 32768) 31) (bits .and .i64 (n / 1048576) 31) v 66, .bool true]) ?_ rfl ⟨⟨(k : Int) + 1, 0, (bits .and .i64 (n / 32768) 31), (bits .and .i64 (n / 1048576) 31), v, 66, true, rfl, .inr ⟨k + 1, by omega, by omega, HI.out, HA.out, by simp, by rw [HF.out]; rfl, by rw [HF.out]; rfl, by rw [HF.out]; exact HNZ.out⟩, by simp; omega, by rw [← form_B k hlt _ HF.out]; decide⟩, F.2⟩
                clear F x0 x1 x2 x3 x4 x5 y1 y2 y3 y4 z0 z1 z2 z3 z4 z5 t0 t1 t2 t3 t4 t5
                simp [results, Tryd.results63, go_sem, insR, e0, e1, e2, e3, e4, e5]
            · rw [show formB 5 = 83 from rfl, show wideN 5 = 12 from rfl]
              have x5 : w4.cell? ⟨X, 5, none⟩ = some (.int .u8 83) := HBX.out.cell 5
              rw [show wideN 5 = 12 from rfl] at hv1
              simp only [Int.reducePow] at hv1
              have cB := hid (fun W => bit_lit v 11 11 rfl W hv0 (by omega) (by decide))
              by_cases hsb : v / 2 ^ 11 % 2 = 1
              · have d1 : (v / 2 ^ 11 % 2 == 1) = true := beq_iff_eq.2 hsb
                have HV0 := hid (show v ≠ 0 from fun h => by subst h; simp at hsb)
                clear hsb
                generalize v / 2 ^ 11 % 2 = sb at *
                go_wp2_with fail
                refine (cB.out _).mono ?_
                rintro e w5 ⟨rfl, rfl⟩
                go_wp2
                go_region
                go_wp2
                have F := put6 (W := (((w5.setCell ⟨X, 4, none⟩ (.int .i64 (v - 4096))).setCell ⟨X, 2, none⟩ (.int .i64 (bits .and .i64 (n / 32768) 31))).setCell ⟨X, 3, none⟩ (.int .i64 (bits .and .i64 (n / 1048576) 31)))) (grown_new (grown_new (grown_new GW.out (by omega) _ _) (by omega) _ _) (by omega) _ _) (blk_other (blk_other (blk_other BR4.out hne _ _) hne _ _) hne _ _) (.int .i64 ((k : Int) + 1)) (.int .i64 0) (.int .i64 (bits .and .i64 (n / 32768) 31)) (.int .i64 (bits .and .i64 (n / 1048576) 31)) (.int .i64 (v - 4096)) (.int .u8 83)
                have e0 := (BlkAt.drew F.1).cell 0
                have e1 := (BlkAt.drew F.1).cell 1
                have e2 := (BlkAt.drew F.1).cell 2
                have e3 := (BlkAt.drew F.1).cell 3
                have e4 := (BlkAt.drew F.1).cell 4
                have e5 := (BlkAt.drew F.1).cell 5
                refine bodyPost_ret (v := .tuple #[insR ((k : Int) + 1) 0 (bits .and .i64 (n / 32768) 31) (bits .and .i64 (n / 1048576) 31) (v - 4096) 83, .bool true]) ?_ rfl ⟨⟨(k : Int) + 1, 0, (bits .and .i64 (n / 32768) 31), (bits .and .i64 (n / 1048576) 31), (v - 4096), 83, true, rfl, .inr ⟨k + 1, by omega, by omega, HI.out, HA.out, by simp, by rw [HF.out]; rfl, by rw [HF.out]; rfl, by rw [HF.out]; exact ⟨fun h => by omega, fun h => absurd (HNZ.out.2 h) HV0.out⟩⟩, by simp; omega, by rw [← form_B k hlt _ HF.out]; decide⟩, (grown_drew F.2)⟩
                clear F x0 x1 x2 x3 x4 x5 y1 y2 y3 y4 z0 z1 z2 z3 z4 z5 t0 t1 t2 t3 t4 t5
                generalize World.drew _ = WF at *
                simp [results, Tryd.results63, go_sem, insR, e0, e1, e2, e3, e4, e5]
              · have d1 : (v / 2 ^ 11 % 2 == 1) = false := beq_eq_false_iff_ne.2 hsb
                clear hsb
                generalize v / 2 ^ 11 % 2 = sb at *
                go_wp2_with fail
                refine (cB.out _).mono ?_
                rintro e w5 ⟨rfl, rfl⟩
                go_wp2
                have F := put6 (W := ((w5.setCell ⟨X, 2, none⟩ (.int .i64 (bits .and .i64 (n / 32768) 31))).setCell ⟨X, 3, none⟩ (.int .i64 (bits .and .i64 (n / 1048576) 31)))) (grown_new (grown_new GW.out (by omega) _ _) (by omega) _ _) (blk_other (blk_other BR4.out hne _ _) hne _ _) (.int .i64 ((k : Int) + 1)) (.int .i64 0) (.int .i64 (bits .and .i64 (n / 32768) 31)) (.int .i64 (bits .and .i64 (n / 1048576) 31)) (.int .i64 v) (.int .u8 83)
                have e0 := (F.1).cell 0
                have e1 := (F.1).cell 1
                have e2 := (F.1).cell 2
                have e3 := (F.1).cell 3
                have e4 := (F.1).cell 4
                have e5 := (F.1).cell 5
                refine bodyPost_ret (v := .tuple #[insR ((k : Int) + 1) 0 (bits .and .i64 (n / 32768) 31) (bits .and .i64 (n / 1048576) 31) v 83, .bool true]) ?_ rfl ⟨⟨(k : Int) + 1, 0, (bits .and .i64 (n / 32768) 31), (bits .and .i64 (n / 1048576) 31), v, 83, true, rfl, .inr ⟨k + 1, by omega, by omega, HI.out, HA.out, by simp, by rw [HF.out]; rfl, by rw [HF.out]; rfl, by rw [HF.out]; exact HNZ.out⟩, by simp; omega, by rw [← form_B k hlt _ HF.out]; decide⟩, F.2⟩
                clear F x0 x1 x2 x3 x4 x5 y1 y2 y3 y4 z0 z1 z2 z3 z4 z5 t0 t1 t2 t3 t4 t5
                simp [results, Tryd.results63, go_sem, insR, e0, e1, e2, e3, e4, e5]
            · rw [show formB 6 = 82 from rfl, show wideN 6 = 12 from rfl]
              have x5 : w4.cell? ⟨X, 5, none⟩ = some (.int .u8 82) := HBX.out.cell 5
              rw [show wideN 6 = 12 from rfl] at hv1
              simp only [Int.reducePow] at hv1
              have cB := hid (fun W => bit_lit v 11 11 rfl W hv0 (by omega) (by decide))
              by_cases hsb : v / 2 ^ 11 % 2 = 1
              · have d1 : (v / 2 ^ 11 % 2 == 1) = true := beq_iff_eq.2 hsb
                have HV0 := hid (show v ≠ 0 from fun h => by subst h; simp at hsb)
                clear hsb
                generalize v / 2 ^ 11 % 2 = sb at *
                go_wp2_with fail
                refine (cB.out _).mono ?_
                rintro e w5 ⟨rfl, rfl⟩
                go_wp2
                go_region
                go_wp2
                have F := put6 (W := ((((w5.setCell ⟨X, 4, none⟩ (.int .i64 (v - 4096))).setCell ⟨X, 1, none⟩ (.int .i64 (bits .and .i64 (n / 128) 31))).setCell ⟨X, 2, none⟩ (.int .i64 (bits .and .i64 (n / 32768) 31))).setCell ⟨X, 3, none⟩ (.int .i64 (bits .and .i64 (n / 1048576) 31)))) (grown_new (grown_new (grown_new (grown_new GW.out (by omega) _ _) (by omega) _ _) (by omega) _ _) (by omega) _ _) (blk_other (blk_other (blk_other (blk_other BR4.out hne _ _) hne _ _) hne _ _) hne _ _) (.int .i64 ((k : Int) + 1)) (.int .i64 (bits .and .i64 (n / 128) 31)) (.int .i64 (bits .and .i64 (n / 32768) 31)) (.int .i64 (bits .and .i64 (n / 1048576) 31)) (.int .i64 (v - 4096)) (.int .u8 82)
                have e0 := (BlkAt.drew F.1).cell 0
                have e1 := (BlkAt.drew F.1).cell 1
                have e2 := (BlkAt.drew F.1).cell 2
                have e3 := (BlkAt.drew F.1).cell 3
                have e4 := (BlkAt.drew F.1).cell 4
                have e5 := (BlkAt.drew F.1).cell 5
                refine bodyPost_ret (v := .tuple #[insR ((k : Int) + 1) (bits .and .i64 (n / 128) 31) (bits .and .i64 (n / 32768) 31) (bits .and .i64 (n / 1048576) 31) (v - 4096) 82, .bool true]) ?_ rfl ⟨⟨(k : Int) + 1, (bits .and .i64 (n / 128) 31), (bits .and .i64 (n / 32768) 31), (bits .and .i64 (n / 1048576) 31), (v - 4096), 82, true, rfl, .inr ⟨k + 1, by omega, by omega, HI.out, HA.out, by simp, by rw [HF.out]; rfl, by rw [HF.out]; rfl, by rw [HF.out]; exact ⟨fun h => by omega, fun h => absurd (HNZ.out.2 h) HV0.out⟩⟩, by simp; omega, by rw [← form_B k hlt _ HF.out]; decide⟩, (grown_drew F.2)⟩
                clear F x0 x1 x2 x3 x4 x5 y1 y2 y3 y4 z0 z1 z2 z3 z4 z5 t0 t1 t2 t3 t4 t5
                generalize World.drew _ = WF at *
                simp [results, Tryd.results63, go_sem, insR, e0, e1, e2, e3, e4, e5]
              · have d1 : (v / 2 ^ 11 % 2 == 1) = false := beq_eq_false_iff_ne.2 hsb
                clear hsb
                generalize v / 2 ^ 11 % 2 = sb at *
                go_wp2_with fail
                refine (cB.out _).mono ?_
                rintro e w5 ⟨rfl, rfl⟩
                go_wp2
                have F := put6 (W := (((w5.setCell ⟨X, 1, none⟩ (.int .i64 (bits .and .i64 (n / 128) 31))).setCell ⟨X, 2, none⟩ (.int .i64 (bits .and .i64 (n / 32768) 31))).setCell ⟨X, 3, none⟩ (.int .i64 (bits .and .i64 (n / 1048576) 31)))) (grown_new (grown_new (grown_new GW.out (by omega) _ _) (by omega) _ _) (by omega) _ _) (blk_other (blk_other (blk_other BR4.out hne _ _) hne _ _) hne _ _) (.int .i64 ((k : Int) + 1)) (.int .i64 (bits .and .i64 (n / 128) 31)) (.int .i64 (bits .and .i64 (n / 32768) 31)) (.int .i64 (bits .and .i64 (n / 1048576) 31)) (.int .i64 v) (.int .u8 82)
                have e0 := (F.1).cell 0
                have e1 := (F.1).cell 1
                have e2 := (F.1).cell 2
                have e3 := (F.1).cell 3
                have e4 := (F.1).cell 4
                have e5 := (F.1).cell 5
                refine bodyPost_ret (v := .tuple #[insR ((k : Int) + 1) (bits .and .i64 (n / 128) 31) (bits .and .i64 (n / 32768) 31) (bits .and .i64 (n / 1048576) 31) v 82, .bool true]) ?_ rfl ⟨⟨(k : Int) + 1, (bits .and .i64 (n / 128) 31), (bits .and .i64 (n / 32768) 31), (bits .and .i64 (n / 1048576) 31), v, 82, true, rfl, .inr ⟨k + 1, by omega, by omega, HI.out, HA.out, by simp, by rw [HF.out]; rfl, by rw [HF.out]; rfl, by rw [HF.out]; exact HNZ.out⟩, by simp; omega, by rw [← form_B k hlt _ HF.out]; decide⟩, F.2⟩
                clear F x0 x1 x2 x3 x4 x5 y1 y2 y3 y4 z0 z1 z2 z3 z4 z5 t0 t1 t2 t3 t4 t5
                simp [results, Tryd.results63, go_sem, insR, e0, e1, e2, e3, e4, e5]
            · rw [show formB 7 = 69 from rfl, show wideN 7 = 12 from rfl]
              have x5 : w4.cell? ⟨X, 5, none⟩ = some (.int .u8 69) := HBX.out.cell 5
              rw [show wideN 7 = 12 from rfl] at hv1
              simp only [Int.reducePow] at hv1
              have cB := hid (fun W => bit_lit v 11 11 rfl W hv0 (by omega) (by decide))
              by_cases hsb : v / 2 ^ 11 % 2 = 1
              · have d1 : (v / 2 ^ 11 % 2 == 1) = true := beq_iff_eq.2 hsb
                have HV0 := hid (show v ≠ 0 from fun h => by subst h; simp at hsb)
                clear hsb
                generalize v / 2 ^ 11 % 2 = sb at *
                go_wp2_with fail
                refine (cB.out _).mono ?_
                rintro e w5 ⟨rfl, rfl⟩
                go_wp2
                go_region
                go_wp2
                have F := put6 (W := (w5.setCell ⟨X, 4, none⟩ (.int .i64 (v - 4096)))) (grown_new GW.out (by omega) _ _) (blk_other BR4.out hne _ _) (.int .i64 ((k : Int) + 1)) (.int .i64 0) (.int .i64 0) (.int .i64 0) (.int .i64 (v - 4096)) (.int .u8 69)
                have e0 := (BlkAt.drew F.1).cell 0
                have e1 := (BlkAt.drew F.1).cell 1
                have e2 := (BlkAt.drew F.1).cell 2
                have e3 := (BlkAt.drew F.1).cell 3
                have e4 := (BlkAt.drew F.1).cell 4
                have e5 := (BlkAt.drew F.1).cell 5
                refine bodyPost_ret (v := .tuple #[insR ((k : Int) + 1) 0 0 0 (v - 4096) 69, .bool true]) ?_ rfl ⟨⟨(k : Int) + 1, 0, 0, 0, (v - 4096), 69, true, rfl, .inr ⟨k + 1, by omega, by omega, HI.out, HA.out, by simp, by rw [HF.out]; rfl, by rw [HF.out]; rfl, by rw [HF.out]; exact ⟨fun h => by omega, fun h => absurd (HNZ.out.2 h) HV0.out⟩⟩, by simp; omega, by rw [← form_B k hlt _ HF.out]; decide⟩, (grown_drew F.2)⟩
                clear F x0 x1 x2 x3 x4 x5 y1 y2 y3 y4 z0 z1 z2 z3 z4 z5 t0 t1 t2 t3 t4 t5
                generalize World.drew _ = WF at *
                simp [results, Tryd.results63, go_sem, insR, e0, e1, e2, e3, e4, e5]
              · have d1 : (v / 2 ^ 11 % 2 == 1) = false := beq_eq_false_iff_ne.2 hsb
                clear hsb
                generalize v / 2 ^ 11 % 2 = sb at *
                go_wp2_with fail
                refine (cB.out _).mono ?_
                rintro e w5 ⟨rfl, rfl⟩
                go_wp2
                have F := put6 (W := w5) GW.out BR4.out (.int .i64 ((k : Int) + 1)) (.int .i64 0) (.int .i64 0) (.int .i64 0) (.int .i64 v) (.int .u8 69)
                have e0 := (F.1).cell 0
                have e1 := (F.1).cell 1
                have e2 := (F.1).cell 2
                have e3 := (F.1).cell 3
                have e4 := (F.1).cell 4
                have e5 := (F.1).cell 5
                refine bodyPost_ret (v := .tuple #[insR ((k : Int) + 1) 0 0 0 v 69, .bool true]) ?_ rfl ⟨⟨(k : Int) + 1, 0, 0, 0, v, 69, true, rfl, .inr ⟨k + 1, by omega, by omega, HI.out, HA.out, by simp, by rw [HF.out]; rfl, by rw [HF.out]; rfl, by rw [HF.out]; exact HNZ.out⟩, by simp; omega, by rw [← form_B k hlt _ HF.out]; decide⟩, F.2⟩
                clear F x0 x1 x2 x3 x4 x5 y1 y2 y3 y4 z0 z1 z2 z3 z4 z5 t0 t1 t2 t3 t4 t5
                simp [results, Tryd.results63, go_sem, insR, e0, e1, e2, e3, e4, e5]
      · have d : (bits .and .i64 n (maskF f) == x) = false := beq_eq_false_iff_ne.2 (fun h => hI (IsE.out.2 h))
        have HI := hid hI
        clear hI
        go_wp2
        go_quiet (fail)
        go_wp2
        go_roundw
        case rel => exact ⟨k + 1, by omega, by go_num, fun j hj hjk => (Nat.lt_succ_iff_lt_or_eq.1 hjk).elim (fun h => HA.out j hj h) (fun h => by subst h; exact HI.out), grown_drewN HG.out _⟩
        case measure => simp [intOf]; omega
    · have z0 := (BR.out.grown HG.out (by simp)).cell 0
      have z1 := (BR.out.grown HG.out (by simp)).cell 1
      have z2 := (BR.out.grown HG.out (by simp)).cell 2
      have z3 := (BR.out.grown HG.out (by simp)).cell 3
      have z4 := (BR.out.grown HG.out (by simp)).cell 4
      have z5 := (BR.out.grown HG.out (by simp)).cell 5
      have t0 := (BR.out.grown HG.out (by simp)).free 0
      have t1 := (BR.out.grown HG.out (by simp)).free 1
      have t2 := (BR.out.grown HG.out (by simp)).free 2
      have t3 := (BR.out.grown HG.out (by simp)).free 3
      have t4 := (BR.out.grown HG.out (by simp)).free 4
      have t5 := (BR.out.grown HG.out (by simp)).free 5
      go_wp2
      have F := put6 (W := wr) (grown_trans G1.out HG.out) (BR.out.grown HG.out (by simp)) (.int .i64 0) (.int .i64 0) (.int .i64 0) (.int .i64 0) (.int .i64 0) (.int .u8 0)
      have e0 := F.1.cell 0
      have e1 := F.1.cell 1
      have e2 := F.1.cell 2
      have e3 := F.1.cell 3
      have e4 := F.1.cell 4
      have e5 := F.1.cell 5
      refine bodyPost_ret (v := .tuple #[insR 0 0 0 0 0 0, .bool false]) ?_ rfl ⟨⟨0, 0, 0, 0, 0, 0, false, rfl, .inl ⟨rfl, rfl, rfl, rfl, fun j h1 h2 => HA.out j h1 (by omega)⟩, by simp, by decide⟩, F.2⟩
      clear F z0 z1 z2 z3 z4 z5 t0 t1 t2 t3 t4 t5
      generalize World.setCell _ _ _ = WF at *
      simp [results, Tryd.results63, go_sem, insR, e0, e1, e2, e3, e4, e5]

end Go.Proofs.YtogbomihnhfaiaaDoor

namespace Go.Proofs.YtogbomihnhfaiaaDoor
open Go.RowKit

set_option maxRecDepth 100000 in
set_option maxHeartbeats 8000000 in
theorem goes_any (kind : Int) (ao : Option Addr) (cap : Nat) (xs : List Int) (w : World) (h : IntsIn w ao xs) (hw : Words xs) (hn : xs.length ≤ 3) (hn1 : 1 ≤ xs.length) (hk : 1 ≤ kind ∧ kind ≤ 6) (h2 : kind = 4 ∨ kind = 5 → xs.length = 2) :
    Calls Tryd.prog 54 #[.int .i64 kind, .slice ao xs.length cap] w fun e w' => Tells e (GoesP kind xs) ∧ w.grownBy w' none := by
  obtain ⟨g, off, rfl, hc⟩ := h (by omega)
  have hx0 := hw 0 (by omega)
  have hgd : xs.getD 0 0 = xs[0] := by rw [List.getD_eq_getElem?_getD, List.getElem?_eq_getElem (by omega)]; rfl
  have q0 := hc 0 (by omega)
  have cD := hid (of_any xs[0] w hx0.1 hx0.2)
  have HI := hid h
  simp only [Nat.add_zero] at q0
  have g0 : (0 : Int) < (xs.length : Int) := by omega
  rcases (show kind = 1 ∨ kind = 2 ∨ kind = 3 ∨ kind = 6 ∨ kind = 4 ∨ kind = 5 from by omega) with rfl | rfl | rfl | rfl | rfl | rfl
  · have HQ := hid (show GoesP 1 xs ↔ xs[0] = 0 from by simp only [GoesP, if_true]; rw [hgd])
    generalize GoesP 1 xs = Q at *
    clear h2 hk h hc hw
    go_enter Tryd.func54, Tryd.ntmps54
    go_wp2_with fail
    refine cD.out.mono ?_
    rintro e w1 ⟨⟨op, rd, s1, t1, m, fb, ok, rfl, hd, hok, hfb⟩, hq⟩
    have q1 := gcell q0 hq
    unfold insR
    have HQQ := hid hq
    have DF := hid (dec_facts xs[0] op rd s1 m hx0.1 hx0.2 hd)
    have HOK := hid hok
    have HFB := hid hfb
    clear hq q0 hd hok hfb
    have GA := hid (fun ob : Obj => World.grownBy_alloc w1 ob none)
    have hgl : g < w1.heap.size := World.block_lt_of_cell? w1 _ q1
    have hnew := World.new_ne w1 ⟨g, off, none⟩ q1
    go_wp2
    go_ret
    exact ⟨Tells.of (by rw [HQ.out, beq_iff_eq]), grown_trans HQQ.out (GA.out _)⟩
  · have HQ := hid (show GoesP 2 xs ↔ Branch0 xs[0] from by unfold GoesP; rw [if_neg (by decide), if_pos rfl, hgd])
    generalize GoesP 2 xs = Q at *
    clear h2 hk h hc hw
    go_enter Tryd.func54, Tryd.ntmps54
    go_wp2_with fail
    refine cD.out.mono ?_
    rintro e w1 ⟨⟨op, rd, s1, t1, m, fb, ok, rfl, hd, hok, hfb⟩, hq⟩
    have q1 := gcell q0 hq
    unfold insR
    have HQQ := hid hq
    have DF := hid (dec_facts xs[0] op rd s1 m hx0.1 hx0.2 hd)
    have HOK := hid hok
    have HFB := hid hfb
    clear hq q0 hd hok hfb
    have GA := hid (fun ob : Obj => World.grownBy_alloc w1 ob none)
    have hgl : g < w1.heap.size := World.block_lt_of_cell? w1 _ q1
    have hnew := World.new_ne w1 ⟨g, off, none⟩ q1
    cases ok
    · go_wp2
      go_ret
      exact ⟨Tells.no (by rw [HQ.out, ← DF.out.1]; have := HOK.out; simp at this; omega), grown_trans HQQ.out (GA.out _)⟩
    · by_cases o1 : fb = 66
      · have d1 : (fb == 66) = true := beq_iff_eq.2 o1
        have O := hid (HFB.out.1 o1)
        clear o1
        go_wp2
        go_ret
        exact ⟨Tells.of (by rw [HQ.out, ← DF.out.1, beq_iff_eq]; have := O.out; omega), grown_trans HQQ.out (GA.out _)⟩
      · have d1 : (fb == 66) = false := beq_eq_false_iff_ne.2 o1
        have O := hid (fun h => o1 (HFB.out.2 h))
        clear o1
        go_wp2
        go_ret
        exact ⟨Tells.no (by rw [HQ.out, ← DF.out.1]; exact fun h => O.out ⟨h.1, h.2.1⟩), grown_trans HQQ.out (GA.out _)⟩
  · have HQ := hid (show GoesP 3 xs ↔ Jal0 xs[0] from by unfold GoesP; rw [if_neg (by decide), if_neg (by decide), if_pos rfl, hgd])
    generalize GoesP 3 xs = Q at *
    clear h2 hk h hc hw
    go_enter Tryd.func54, Tryd.ntmps54
    go_wp2_with fail
    refine cD.out.mono ?_
    rintro e w1 ⟨⟨op, rd, s1, t1, m, fb, ok, rfl, hd, hok, hfb⟩, hq⟩
    have q1 := gcell q0 hq
    unfold insR
    have HQQ := hid hq
    have DF := hid (dec_facts xs[0] op rd s1 m hx0.1 hx0.2 hd)
    have HOK := hid hok
    have HFB := hid hfb
    clear hq q0 hd hok hfb
    have GA := hid (fun ob : Obj => World.grownBy_alloc w1 ob none)
    have hgl : g < w1.heap.size := World.block_lt_of_cell? w1 _ q1
    have hnew := World.new_ne w1 ⟨g, off, none⟩ q1
    cases ok
    · go_wp2
      go_ret
      exact ⟨Tells.no (by rw [HQ.out, ← DF.out.2.1]; have := HOK.out; simp at this; omega), grown_trans HQQ.out (GA.out _)⟩
    · by_cases o1 : op = 3
      · have d1 : (op == 3) = true := beq_iff_eq.2 o1
        have O := hid o1
        clear o1
        go_wp2
        go_ret
        exact ⟨Tells.of (by rw [HQ.out, ← DF.out.2.1, beq_iff_eq]; have := O.out; simp; omega), grown_trans HQQ.out (GA.out _)⟩
      · have d1 : (op == 3) = false := beq_eq_false_iff_ne.2 o1
        have O := hid o1
        clear o1
        go_wp2
        go_ret
        exact ⟨Tells.no (by rw [HQ.out, ← DF.out.2.1]; have := O.out; omega), grown_trans HQQ.out (GA.out _)⟩
  · have HQ := hid (show GoesP 6 xs ↔ Nops xs from by unfold GoesP; rw [if_neg (by decide), if_neg (by decide), if_neg (by decide), if_neg (by decide), if_pos rfl])
    generalize GoesP 6 xs = Q at *
    clear h2 hk h hc hw
    go_enter Tryd.func54, Tryd.ntmps54
    go_wp2_with fail
    refine cD.out.mono ?_
    rintro e w1 ⟨⟨op, rd, s1, t1, m, fb, ok, rfl, hd, hok, hfb⟩, hq⟩
    have q1 := gcell q0 hq
    unfold insR
    have HQQ := hid hq
    have DF := hid (dec_facts xs[0] op rd s1 m hx0.1 hx0.2 hd)
    have HOK := hid hok
    have HFB := hid hfb
    clear hq q0 hd hok hfb
    have GA := hid (fun ob : Obj => World.grownBy_alloc w1 ob none)
    have hgl : g < w1.heap.size := World.block_lt_of_cell? w1 _ q1
    have hnew := World.new_ne w1 ⟨g, off, none⟩ q1
    have GB := hid (fun i (hi : i < xs.length) => (show w1.cell? ⟨g, off + i, none⟩ = some (.int .i64 xs[i]) from by obtain ⟨g', off', e, hc⟩ := HI.out (by omega); cases e; exact gcell (hc i hi) HQQ.out))
    go_wp2
    go_loopw [7] (fun i wr => ∃ k : Nat, k ≤ xs.length ∧ i = .int .i64 k ∧ (∀ j (hj : j < xs.length), j < k → xs[j] = 19) ∧ w1.grownBy wr none) (fun i _ => xs.length - (intOf i).toNat)
    case atStart => exact ⟨0, Nat.zero_le _, rfl, fun j _ hj => absurd hj (Nat.not_lt_zero j), GA.out _⟩
    case round =>
      obtain ⟨k, hk, rfl, hall, hgr⟩ := hrel
      have HA := hid hall
      have HG := hid hgr
      clear hall hgr
      by_cases hlt : k < xs.length
      · have ck := gcell (GB.out k hlt) HG.out
        have g1 : (k : Int) < (xs.length : Int) := by omega
        by_cases hx : xs[k] = 19
        · have d1 : (xs[k] == 19) = true := beq_iff_eq.2 hx
          have HX := hid hx
          clear hx
          go_wp2
          go_roundw
          case rel => exact ⟨k + 1, by omega, by go_num, fun j hj hjk => (Nat.lt_succ_iff_lt_or_eq.1 hjk).elim (fun h => HA.out j hj h) (fun h => by subst h; exact HX.out), HG.out⟩
          case measure => simp [intOf]; omega
        · have d1 : (xs[k] == 19) = false := beq_eq_false_iff_ne.2 hx
          have HX := hid hx
          clear hx
          go_wp2
          go_ret
          exact ⟨Tells.no (by rw [HQ.out]; exact fun h => HX.out (h k hlt)), grown_trans HQQ.out HG.out⟩
      · go_wp2
        go_ret
        exact ⟨Tells.yes (by rw [HQ.out]; exact fun i hi => HA.out i hi (by omega)), grown_trans HQQ.out HG.out⟩
  · have hl2 := h2 (by omega)
    have hlt1 : 1 < xs.length := by omega
    have hx1 := hw 1 hlt1
    have hgd1 : xs.getD 1 0 = xs[1]'hlt1 := by rw [List.getD_eq_getElem?_getD, List.getElem?_eq_getElem hlt1]; rfl
    have HQ := hid (show GoesP 4 xs ↔ PairW 4 xs[0] xs[1] from by unfold GoesP; rw [if_neg (by decide), if_neg (by decide), if_neg (by decide), if_pos (by decide), hgd, hgd1])
    have r0 := hc 1 hlt1
    have cD1 := hid (fun W => of_any xs[1] W hx1.1 hx1.2)
    have g1 : (1 : Int) < (xs.length : Int) := by omega
    generalize GoesP 4 xs = Q at *
    clear h2 hk h hc hw
    go_enter Tryd.func54, Tryd.ntmps54
    go_wp2_with fail
    refine cD.out.mono ?_
    rintro e w1 ⟨⟨op, rd, s1, t1, m, fb, ok, rfl, hd, hok, hfb⟩, hq⟩
    have q1 := gcell q0 hq
    unfold insR
    have HQQ := hid hq
    have DF := hid (dec_facts xs[0] op rd s1 m hx0.1 hx0.2 hd)
    have HOK := hid hok
    have HFB := hid hfb
    clear hq q0 hd hok hfb
    have GA := hid (fun ob : Obj => World.grownBy_alloc w1 ob none)
    have hgl : g < w1.heap.size := World.block_lt_of_cell? w1 _ q1
    have hnew := World.new_ne w1 ⟨g, off, none⟩ q1
    have r1 := gcell r0 HQQ.out
    have hnew1 := World.new_ne w1 ⟨g, off + 1, none⟩ r1
    clear r0 hl2
    have B1 := BlkAt.new w1 #[.int .i64 op, .int .i64 rd, .int .i64 s1, .int .i64 t1, .int .i64 m, .int .u8 fb] 95
    have HB1 := hid B1
    clear B1
    go_wp2_with fail
    refine (cD1.out _).mono ?_
    rintro e w2 ⟨⟨op2, rd2, s2, t2, m2, fb2, ok2, rfl, hd2, hok2, hfb2⟩, hq2⟩
    have B2 := HB1.out.grown hq2 (by simp)
    have k0 := B2.cell 0
    have k1 := B2.cell 1
    have k4 := B2.cell 4
    have hB2 := B2.lt
    have hne2 : w1.heap.size ≠ w2.heap.size := by omega
    unfold insR
    have GF := hid (grown_trans (grown_trans HQQ.out (GA.out _)) hq2)
    have G2 := hid (fun ob : Obj => World.grownBy_alloc w2 ob none)
    have PW := hid (pair_words 4 xs[0] xs[1] op rd s1 m op2 rd2 s2 m2 DF.out (dec_facts xs[1] op2 rd2 s2 m2 hx1.1 hx1.2 hd2))
    have HOK2 := hid hok2
    clear hd2 hok2 hfb2 hq2 B2 q1 r1
    have no : Hid (∀ W, (¬ PairP 4 op rd m op2 s2 m2) → w.grownBy W none → Tells (.returned (.bool false)) Q ∧ w.grownBy W none) := fun W a b => ⟨Tells.no (by rw [HQ.out, ← PW.out]; exact a), b⟩
    cases ok
    · have O := hid (show op = 0 from by have := HOK.out; simp at this; omega)
      go_wp2
      go_ret
      exact no.out _ (fun h => by have := h.2; have := O.out; simp at *; omega) (grown_trans GF.out (G2.out _))
    cases ok2
    · have O := hid (show op2 = 0 from by have := HOK2.out; simp at this; omega)
      go_wp2
      go_ret
      exact no.out _ (fun h => by have := h.2; have := O.out; simp at *; omega) (grown_trans GF.out (G2.out _))
    by_cases a1 : rd = 0
    · have d1 : (rd == 0) = true := beq_iff_eq.2 a1
      have A1 := hid a1
      clear a1
      go_wp2
      go_ret
      exact no.out _ (fun h => h.1.1 A1.out) (grown_trans GF.out (G2.out _))
    have d1 : (rd == 0) = false := beq_eq_false_iff_ne.2 a1
    have A1 := hid a1
    clear a1
    by_cases a2 : s2 = rd
    rotate_left
    · have d2 : (s2 == rd) = false := beq_eq_false_iff_ne.2 a2
      have A2 := hid a2
      clear a2
      go_wp2
      go_ret
      exact no.out _ (fun h => A2.out h.1.2.1) (grown_trans GF.out (G2.out _))
    have d2 : (s2 == rd) = true := beq_iff_eq.2 a2
    have A2 := hid a2
    clear a2
    by_cases a3 : m = 0
    rotate_left
    · have d3 : (m == 0) = false := beq_eq_false_iff_ne.2 a3
      have A3 := hid a3
      clear a3
      go_wp2
      go_ret
      exact no.out _ (fun h => A3.out h.1.2.2.1) (grown_trans GF.out (G2.out _))
    have d3 : (m == 0) = true := beq_iff_eq.2 a3
    have A3 := hid a3
    clear a3
    by_cases a4 : m2 = 0
    rotate_left
    · have d4 : (m2 == 0) = false := beq_eq_false_iff_ne.2 a4
      have A4 := hid a4
      clear a4
      go_wp2
      go_ret
      exact no.out _ (fun h => A4.out h.1.2.2.2) (grown_trans GF.out (G2.out _))
    have d4 : (m2 == 0) = true := beq_iff_eq.2 a4
    have A4 := hid a4
    clear a4
    have HQ2 := hid (show Q ↔ op = 2 ∧ op2 = 4 from by rw [HQ.out, ← PW.out]; unfold PairP; rw [if_pos rfl]; exact ⟨fun h => h.2, fun h => ⟨⟨A1.out, A2.out, A3.out, A4.out⟩, h⟩⟩)
    by_cases o1 : op = 2
    · have d5 : (op == 2) = true := beq_iff_eq.2 o1
      have O := hid o1
      clear o1
      go_wp2
      go_ret
      exact ⟨Tells.of (by rw [HQ2.out, beq_iff_eq]; have := O.out; simp; omega), grown_trans GF.out (G2.out _)⟩
    · have d5 : (op == 2) = false := beq_eq_false_iff_ne.2 o1
      have O := hid o1
      clear o1
      go_wp2
      go_ret
      exact ⟨Tells.no (by rw [HQ2.out]; exact fun h => O.out h.1), grown_trans GF.out (G2.out _)⟩
  · have hl2 := h2 (by omega)
    have hlt1 : 1 < xs.length := by omega
    have hx1 := hw 1 hlt1
    have hgd1 : xs.getD 1 0 = xs[1]'hlt1 := by rw [List.getD_eq_getElem?_getD, List.getElem?_eq_getElem hlt1]; rfl
    have HQ := hid (show GoesP 5 xs ↔ PairW 5 xs[0] xs[1] from by unfold GoesP; rw [if_neg (by decide), if_neg (by decide), if_neg (by decide), if_pos (by decide), hgd, hgd1])
    have r0 := hc 1 hlt1
    have cD1 := hid (fun W => of_any xs[1] W hx1.1 hx1.2)
    have g1 : (1 : Int) < (xs.length : Int) := by omega
    generalize GoesP 5 xs = Q at *
    clear h2 hk h hc hw
    go_enter Tryd.func54, Tryd.ntmps54
    go_wp2_with fail
    refine cD.out.mono ?_
    rintro e w1 ⟨⟨op, rd, s1, t1, m, fb, ok, rfl, hd, hok, hfb⟩, hq⟩
    have q1 := gcell q0 hq
    unfold insR
    have HQQ := hid hq
    have DF := hid (dec_facts xs[0] op rd s1 m hx0.1 hx0.2 hd)
    have HOK := hid hok
    have HFB := hid hfb
    clear hq q0 hd hok hfb
    have GA := hid (fun ob : Obj => World.grownBy_alloc w1 ob none)
    have hgl : g < w1.heap.size := World.block_lt_of_cell? w1 _ q1
    have hnew := World.new_ne w1 ⟨g, off, none⟩ q1
    have r1 := gcell r0 HQQ.out
    have hnew1 := World.new_ne w1 ⟨g, off + 1, none⟩ r1
    clear r0 hl2
    have B1 := BlkAt.new w1 #[.int .i64 op, .int .i64 rd, .int .i64 s1, .int .i64 t1, .int .i64 m, .int .u8 fb] 95
    have HB1 := hid B1
    clear B1
    go_wp2_with fail
    refine (cD1.out _).mono ?_
    rintro e w2 ⟨⟨op2, rd2, s2, t2, m2, fb2, ok2, rfl, hd2, hok2, hfb2⟩, hq2⟩
    have B2 := HB1.out.grown hq2 (by simp)
    have k0 := B2.cell 0
    have k1 := B2.cell 1
    have k4 := B2.cell 4
    have hB2 := B2.lt
    have hne2 : w1.heap.size ≠ w2.heap.size := by omega
    unfold insR
    have GF := hid (grown_trans (grown_trans HQQ.out (GA.out _)) hq2)
    have G2 := hid (fun ob : Obj => World.grownBy_alloc w2 ob none)
    have PW := hid (pair_words 5 xs[0] xs[1] op rd s1 m op2 rd2 s2 m2 DF.out (dec_facts xs[1] op2 rd2 s2 m2 hx1.1 hx1.2 hd2))
    have HOK2 := hid hok2
    clear hd2 hok2 hfb2 hq2 B2 q1 r1
    have no : Hid (∀ W, (¬ PairP 5 op rd m op2 s2 m2) → w.grownBy W none → Tells (.returned (.bool false)) Q ∧ w.grownBy W none) := fun W a b => ⟨Tells.no (by rw [HQ.out, ← PW.out]; exact a), b⟩
    cases ok
    · have O := hid (show op = 0 from by have := HOK.out; simp at this; omega)
      go_wp2
      go_ret
      exact no.out _ (fun h => by have := h.2; have := O.out; simp at *; omega) (grown_trans GF.out (G2.out _))
    cases ok2
    · have O := hid (show op2 = 0 from by have := HOK2.out; simp at this; omega)
      go_wp2
      go_ret
      exact no.out _ (fun h => by have := h.2; have := O.out; simp at *; omega) (grown_trans GF.out (G2.out _))
    by_cases a1 : rd = 0
    · have d1 : (rd == 0) = true := beq_iff_eq.2 a1
      have A1 := hid a1
      clear a1
      go_wp2
      go_ret
      exact no.out _ (fun h => h.1.1 A1.out) (grown_trans GF.out (G2.out _))
    have d1 : (rd == 0) = false := beq_eq_false_iff_ne.2 a1
    have A1 := hid a1
    clear a1
    by_cases a2 : s2 = rd
    rotate_left
    · have d2 : (s2 == rd) = false := beq_eq_false_iff_ne.2 a2
      have A2 := hid a2
      clear a2
      go_wp2
      go_ret
      exact no.out _ (fun h => A2.out h.1.2.1) (grown_trans GF.out (G2.out _))
    have d2 : (s2 == rd) = true := beq_iff_eq.2 a2
    have A2 := hid a2
    clear a2
    by_cases a3 : m = 0
    rotate_left
    · have d3 : (m == 0) = false := beq_eq_false_iff_ne.2 a3
      have A3 := hid a3
      clear a3
      go_wp2
      go_ret
      exact no.out _ (fun h => A3.out h.1.2.2.1) (grown_trans GF.out (G2.out _))
    have d3 : (m == 0) = true := beq_iff_eq.2 a3
    have A3 := hid a3
    clear a3
    by_cases a4 : m2 = 0
    rotate_left
    · have d4 : (m2 == 0) = false := beq_eq_false_iff_ne.2 a4
      have A4 := hid a4
      clear a4
      go_wp2
      go_ret
      exact no.out _ (fun h => A4.out h.1.2.2.2) (grown_trans GF.out (G2.out _))
    have d4 : (m2 == 0) = true := beq_iff_eq.2 a4
    have A4 := hid a4
    clear a4
    have HQ2 := hid (show Q ↔ op = 1 ∧ (op2 = 13 ∨ op2 = 11 ∨ op2 = 12) from by rw [HQ.out, ← PW.out]; unfold PairP; rw [if_neg (by decide)]; exact ⟨fun h => h.2, fun h => ⟨⟨A1.out, A2.out, A3.out, A4.out⟩, h⟩⟩)
    by_cases o1 : op = 1
    rotate_left
    · have d5 : (op == 1) = false := beq_eq_false_iff_ne.2 o1
      have O := hid o1
      clear o1
      go_wp2
      go_ret
      exact ⟨Tells.no (by rw [HQ2.out]; exact fun h => O.out h.1), grown_trans GF.out (G2.out _)⟩
    have d5 : (op == 1) = true := beq_iff_eq.2 o1
    have O := hid o1
    clear o1
    by_cases o2 : op2 = 13
    · have d6 : (op2 == 13) = true := beq_iff_eq.2 o2
      have O2 := hid o2
      clear o2
      go_wp2
      go_ret
      exact ⟨Tells.yes (by rw [HQ2.out]; exact ⟨O.out, .inl O2.out⟩), grown_trans GF.out (G2.out _)⟩
    have d6 : (op2 == 13) = false := beq_eq_false_iff_ne.2 o2
    have O2 := hid o2
    clear o2
    by_cases o3 : op2 = 11
    · have d7 : (op2 == 11) = true := beq_iff_eq.2 o3
      have O3 := hid o3
      clear o3
      go_wp2
      go_ret
      exact ⟨Tells.yes (by rw [HQ2.out]; exact ⟨O.out, .inr (.inl O3.out)⟩), grown_trans GF.out (G2.out _)⟩
    have d7 : (op2 == 11) = false := beq_eq_false_iff_ne.2 o3
    have O3 := hid o3
    clear o3
    go_wp2
    go_ret
    exact ⟨Tells.of (by rw [HQ2.out, beq_iff_eq]; have := O.out; have := O2.out; have := O3.out; omega), grown_trans GF.out (G2.out _)⟩

end Go.Proofs.YtogbomihnhfaiaaDoor

namespace Go.Proofs.YtogbomihnhfaiaaDoor
open Go.RowKit

def RelAt (o : Lk.Obj) (k : Nat) (h : k < o.rels.length) : Prop := RelOk o o.rels[k] ∧ (∀ _ : 0 < k, FollowsP (o.rels[k - 1]'(by omega)) o.rels[k])

theorem SectsAt.sec {W : World} {B : Nat} {o : Lk.Obj} {at_ : Option Addr} {ct : Nat} {af : Option Addr} {cf : Nat} {ad : Option Addr} {cd : Nat} {Z : Nat} (h : SectsAt W B o at_ ct af cf ad cd Z) (n : Nat) (hn : n ≤ 2) :
    ∃ ao cap, W.cell? ⟨B, n + 1, none⟩ = some (.slice ao (wordsOf o ((n : Int) + 1)).length cap) ∧ (wordsOf o ((n : Int) + 1)).length ≤ cap ∧ cap ≤ maxLen ∧ IntsIn W ao (wordsOf o ((n : Int) + 1)) := by
  rcases (show n = 0 ∨ n = 1 ∨ n = 2 from by omega) with rfl | rfl | rfl
  · exact ⟨_, _, h.blk.cell 1, h.ct.1, h.ct.2, h.text⟩
  · exact ⟨_, _, h.blk.cell 2, h.cf.1, h.cf.2, h.far⟩
  · exact ⟨_, _, h.blk.cell 3, h.cd.1, h.cd.2, h.data⟩

end Go.Proofs.YtogbomihnhfaiaaDoor
