/- Walks over the document's answer: the instruction of a word. -/
/- Walks over package machine: what an instruction does. -/
/- Walks over package machine: a step. -/
import Derived.Test.YtaiplongpjimnaaDoorG07
import Derived.Test.YtaiplongpjimnaaDoorG04
namespace Go.Proofs.YtaiplongpjimnaaDoor
open Go.RowKit

def insR (op rd rs1 rs2 m fb : Int) : Value := .agg #[.int .i64 op, .int .i64 rd, .int .i64 rs1, .int .i64 rs2, .int .i64 m, .int .u8 fb]
def OfRet (e : Ending) (n : Int) : Prop := ∃ op rd rs1 rs2 m fb ok, e = .returned (.tuple #[insR op rd rs1 rs2 m fb, .bool ok]) ∧ Dec n op rd rs1 m ∧ (ok = true ↔ op ≠ 0) ∧ (fb = 66 ↔ (5 ≤ op ∧ op ≤ 10))

theorem tabCell.grown {k : Nat} {w w' : World} {b : Nat} (h : tabCell k w b) (hg : w.grownBy w' none) : tabCell k w' b := ⟨gcell h.1 hg, gcell h.2.1 hg, gcell h.2.2.1 hg, gcell h.2.2.2 hg⟩

theorem shl_in (b : Int) (p : Nat) (h0 : 0 ≤ b) (h1 : b ≤ 1) (hp : p ≤ 20) : wrap64 (b * 2 ^ p) = b * 2 ^ p := by
  have : (2 : Int) ^ p ≤ 1048576 := by
    have := Nat.pow_le_pow_right (show 0 < 2 by decide) hp
    rw [show (2 : Int) ^ p = ((2 ^ p : Nat) : Int) from by simp]
    omega
  have h2 : (0 : Int) < 2 ^ p := Int.pow_pos (by decide)
  rcases (show b = 0 ∨ b = 1 from by omega) with rfl | rfl
  · rw [Int.zero_mul]; exact IntWalk.wrap64_in _ ⟨by omega, by omega⟩
  · exact IntWalk.wrap64_in _ ⟨by omega, by omega⟩
theorem grown_setX {w W : World} {X : Nat} (h : w.grownBy W (some X)) (o : Nat) (v : Value) : w.grownBy (W.setCell ⟨X, o, none⟩ v) (some X) :=
  ⟨h.os, h.tape, h.output, by simpa [World.setCell] using h.size, fun i hi hne => (Below.heap_setCell W ⟨X, o, none⟩ v i (by simp at hne ⊢; omega)).trans (h.block i hi hne)⟩

theorem bit_lit (v : Int) (j : Nat) (m : Int) (hm : m = (j : Int)) (w : World) (hv : 0 ≤ v) (hv' : v ≤ 4294967295) (hj : j ≤ 31) :
    Calls Tryd.prog 43 #[.int .i64 v, .int .i64 m] w fun e w' => e = .returned (.int .i64 (v / 2 ^ j % 2)) ∧ w' = w := by
  subst hm; exact bit_any v j w hv hv' hj

theorem blk_other {W : World} {R X : Nat} {cs : Array Value} {t : TypeId} (h : BlkAt W R cs t) (hne : X ≠ R) (o : Nat) (v : Value) : BlkAt (W.setCell ⟨X, o, none⟩ v) R cs t := (Below.heap_setCell W ⟨X, o, none⟩ v R (by simp; omega)).trans h
theorem put6 {w W : World} {a0 a1 a2 a3 a4 a5 : Value} (h : w.grownBy W none) (hB : BlkAt W w.heap.size #[a0, a1, a2, a3, a4, a5] 75) (b0 b1 b2 b3 b4 b5 : Value) :
    BlkAt ((((((W.setCell ⟨w.heap.size, 0, none⟩ b0).setCell ⟨w.heap.size, 1, none⟩ b1).setCell ⟨w.heap.size, 2, none⟩ b2).setCell ⟨w.heap.size, 3, none⟩ b3).setCell ⟨w.heap.size, 4, none⟩ b4).setCell ⟨w.heap.size, 5, none⟩ b5) w.heap.size #[b0, b1, b2, b3, b4, b5] 75 ∧
    w.grownBy ((((((W.setCell ⟨w.heap.size, 0, none⟩ b0).setCell ⟨w.heap.size, 1, none⟩ b1).setCell ⟨w.heap.size, 2, none⟩ b2).setCell ⟨w.heap.size, 3, none⟩ b3).setCell ⟨w.heap.size, 4, none⟩ b4).setCell ⟨w.heap.size, 5, none⟩ b5) none :=
  ⟨(((((hB.set 0 b0).set 1 b1).set 2 b2).set 3 b3).set 4 b4).set 5 b5, grown_new (grown_new (grown_new (grown_new (grown_new (grown_new h (Nat.le_refl _) _ _) (Nat.le_refl _) _ _) (Nat.le_refl _) _ _) (Nat.le_refl _) _ _) (Nat.le_refl _) _ _) (Nat.le_refl _) _ _⟩
theorem form_B (k : Nat) (hk : k < 25) (f : Int) (hf : formL.getD (k + 1) 0 = f) : f = 4 ↔ (5 ≤ (k : Int) + 1 ∧ (k : Int) + 1 ≤ 10) := by
  have : ∀ k, k < 25 → (formL.getD (k + 1) 0 = 4 ↔ (4 ≤ k ∧ k ≤ 9)) := by decide
  rw [← hf, this k hk]
  omega

theorem BlkAt.drew {w : World} {g : Nat} {cs : Array Value} {t : TypeId} (h : BlkAt w g cs t) : BlkAt w.drew g cs t := h.drewN 1

theorem wide_le (form : Int) (hf : 1 ≤ form ∧ form ≤ 7) : wideN form ≤ 21 := by
  rcases (show form = 1 ∨ form = 2 ∨ form = 3 ∨ form = 4 ∨ form = 5 ∨ form = 6 ∨ form = 7 from by omega) with rfl | rfl | rfl | rfl | rfl | rfl | rfl <;> decide

set_option maxRecDepth 100000 in
set_option maxHeartbeats 8000000 in
theorem of_any (n : Int) (w : World) (h0 : 0 ≤ n) (h1 : n ≤ 4294967295) :
    Calls Tryd.prog 25 #[.int .i64 n] w fun e w' => OfRet e n ∧ w.grownBy w' none := by
  have G := hid (fun o : Obj => World.grownBy_alloc w o none)
  have cT := hid table_any
  go_enter Tryd.func25, Tryd.ntmps25
  go_wp2_with fail
  refine (cT.out _).mono ?_
  rintro e w1 ⟨rfl, htab, hlt, hg1⟩
  have BR := hid (((BlkAt.new w _ _).grown hg1 (by simp)) : BlkAt w1 w.heap.size #[.int .i64 0, .int .i64 0, .int .i64 0, .int .i64 0, .int .i64 0, .int .u8 0] 75)
  have G1 := hid (grown_trans (G.out _) hg1)
  generalize (w.alloc _).heap.size = TB at *
  have HTB := hid htab
  clear htab hg1 hlt
  go_wp2
  go_loopw [5] (fun i wr => ∃ k : Nat, k ≤ 25 ∧ i = .int .i64 k ∧ (∀ j, 1 ≤ j → j < k + 1 → ¬ Is j n) ∧ w1.grownBy wr none) (fun i _ => 25 - (intOf i).toNat)
  case atStart => exact ⟨0, Nat.zero_le _, rfl, fun j h1 h2 => by omega, World.grownBy.refl _ _⟩
  case round =>
    obtain ⟨k, hk1, rfl, hall, hgr⟩ := hrel
    have HA := hid hall
    have HG := hid hgr
    clear hall hgr
    by_cases hlt : k < 25
    · obtain ⟨q1, q2, q3, q4⟩ := (HTB.out k hlt).grown HG.out
      have hfr := form_range (k + 1) (by omega) (by omega)
      have IsE := hid (show Is (k + 1) n ↔ bits .and .i64 n (maskF (formL.getD (k + 1) 0)) = fixedL.getD (k + 1) 0 from Iff.rfl)
      generalize hF : formL.getD (k + 1) 0 = f at *
      generalize fixedL.getD (k + 1) 0 = x at *
      have HF := hid hF
      clear hF
      have g2 : (k : Int) < 25 := by omega
      by_cases hI : Is (k + 1) n
      · have d : (bits .and .i64 n (maskF f) == x) = true := beq_iff_eq.2 (IsE.out.1 hI)
        have HI := hid hI
        clear hI
        go_wp2
        go_quiet (fail)
        have T2 := (HTB.out k hlt).grown (grown_drewN HG.out nq)
        unfold tabCell at T2
        rw [HF.out] at T2
        have HG2 := hid (grown_drewN HG.out nq)
        clear q1 q2 q3 q4
        generalize wr.drewN nq = w2 at *
        obtain ⟨q1, -, -, q4⟩ := T2
        have cP := hid (fun W => places_any f W hfr)
        go_wp2_with fail
        refine (cP.out _).mono ?_
        rintro e w3 ⟨v, rfl, hown, hg3⟩
        obtain ⟨ao, cap, rfl⟩ := own_form hown
        have BX := hid (((BlkAt.new w2 _ _).grown hg3 (by simp)) : BlkAt w3 w2.heap.size #[.int .i64 ((k : Int) + 1), .int .i64 0, .int .i64 0, .int .i64 0, .int .i64 0, .int .u8 (formB f)] 75)
        have G3 := hid (grown_trans (grown_trans HG2.out (World.grownBy_alloc _ _ _)) hg3)
        have II := hid (IntsIn.of_own hown)
        have HNE := hid (show ∀ g off, ao = some ⟨g, off, none⟩ → w2.heap.size < g from fun g off h => by subst h; have := (hown.lt g rfl).1; simp at this; omega)
        have hcap := own_cap hown
        have hXs := hid (grown_trans G1.out HG2.out).size
        obtain ⟨L1, L2, L3⟩ := places_facts f hfr
        rw [L1] at hcap
        have HL := hid L3
        have hXR := BX.out.lt
        clear hown hg3 L3 q1 q4
        have hcap1 := hcap.1
        have hcap2 := hcap.2
        unfold maxLen at hcap2
        clear hcap
        rw [L1]
        have HL1 := hid L1
        clear L1
        generalize hX : w2.heap.size = X at *
        have HX := hid hX
        clear hX
        go_wp2
        go_loopw [9] (fun i wr => ∃ a : Nat, ∃ v : Int, a ≤ pln f ∧ i = .int .i64 ((a * 2 : Nat) : Int) ∧ 0 ≤ v ∧ v < 2 ^ wideN f ∧ (v = 0 ↔ BitsZero f n a) ∧ BlkAt wr X #[.int .i64 ((k : Int) + 1), .int .i64 0, .int .i64 0, .int .i64 0, .int .i64 v, .int .u8 (formB f)] 75 ∧ w3.grownBy wr (some X)) (fun i _ => pln f * 2 - (intOf i).toNat)
        case atStart => exact ⟨0, 0, Nat.zero_le _, rfl, by omega, Int.pow_pos (by decide), ⟨fun _ a ha => absurd ha (Nat.not_lt_zero a), fun _ => rfl⟩, BX.out, World.grownBy.refl _ _⟩
        case round =>
          obtain ⟨a, v, ha, rfl, hv0, hv1, hv2, hbx, hgr⟩ := hrel
          have HV2 := hid hv2
          have HBX := hid hbx
          have HGX := hid hgr
          clear hv2 hbx hgr
          by_cases hla : a < pln f
          · obtain ⟨e1, e2, e3, e4⟩ := HL.out a hla
            obtain ⟨g', off', hao, hcell⟩ := II.out (by have := HL1.out; omega)
            have hne := HNE.out g' off' hao
            subst hao
            have s1 : a * 2 < (placesL f).length := by have := HL1.out; omega
            have s2 : a * 2 + 1 < (placesL f).length := by have := HL1.out; omega
            have c1 := HGX.out.cell (hcell (a * 2) s1) (by simp; omega)
            have c2 := HGX.out.cell (hcell (a * 2 + 1) s2) (by simp; omega)
            rw [show (placesL f)[a * 2] = (plp f a : Int) from by rw [← e1, List.getD_eq_getElem?_getD, List.getElem?_eq_getElem s1]; rfl] at c1
            rw [show (placesL f)[a * 2 + 1] = (plq f a : Int) from by rw [← e2, List.getD_eq_getElem?_getD, List.getElem?_eq_getElem s2]; rfl] at c2
            have b4 := HBX.out.cell 4
            have b4f := HBX.out.free 4
            have hXg : X ≠ g' := by omega
            have cB := hid (fun W => bit_any n (plq f a) W h0 h1 e4)
            have hK21 := wide_le f hfr
            have STEP := hid (bits_step f n v (wideN f) a hK21 e3 hv0 hv1 HV2.out)
            clear hcell e1 e2 s1 s2
            generalize hbb : n / 2 ^ plq f a % 2 = b at *
            have hb0 : 0 ≤ b := by omega
            have hb1 : b ≤ 1 := by omega
            clear hbb
            generalize plq f a = q at *
            generalize plp f a = p at *
            have g3 : (a * 2 : Int) < (pln f * 2 : Int) := by omega
            have g4 : ((a * 2 : Nat) : Int) + 1 < ((pln f * 2 : Nat) : Int) := by omega
            have g5 : p ≤ 20 := by omega
            go_wp2_with fail
            refine (cB.out _).mono ?_
            rintro e w4 ⟨rfl, rfl⟩
            go_wp2
            go_region
            go_wp2
            have F := STEP.out _ rfl
            have es := shl_in b p hb0 hb1 g5
            rw [es]
            refine ⟨⟨a + 1, bits .or .i64 v (b * 2 ^ p), by omega, by go_num, F.1, F.2.1, F.2.2, (HBX.out.set 4 _).drewN 1, grown_drewN (grown_setX HGX.out 4 _) 1⟩, ?_⟩
            simp [intOf]; omega
          · have ea : a = pln f := by omega
            have HNZ := hid (show v = 0 ↔ NumZero f n from by rw [HV2.out, ea]; exact bits_zero f n h0 h1 hfr)
            have cW := hid (fun W => wide_any f W hfr)
            have hK21 := wide_le f hfr
            subst ea
            go_wp2_with fail
            refine (cW.out _).mono ?_
            rintro e w4 ⟨rfl, rfl⟩
            have hXlt := HBX.out.lt
            have hXw : w.heap.size < X := by have h1 := BR.out.lt; have h2 := HG2.out.size; have h3 := HX.out; omega
            have BR4 := hid ((((BR.out.grown G3.out (by simp)).grown HGX.out (by simp; omega))) : BlkAt w4 w.heap.size #[.int .i64 0, .int .i64 0, .int .i64 0, .int .i64 0, .int .i64 0, .int .u8 0] 75)
            have GW := hid (grown_above (grown_trans G1.out G3.out) HGX.out (by omega))
            have x0 := HBX.out.cell 0
            have x1 := HBX.out.cell 1
            have x2 := HBX.out.cell 2
            have x3 := HBX.out.cell 3
            have x4 := HBX.out.cell 4
            have y1 := HBX.out.free 1
            have y2 := HBX.out.free 2
            have y3 := HBX.out.free 3
            have y4 := HBX.out.free 4
            have z0 := BR4.out.cell 0
            have z1 := BR4.out.cell 1
            have z2 := BR4.out.cell 2
            have z3 := BR4.out.cell 3
            have z4 := BR4.out.cell 4
            have z5 := BR4.out.cell 5
            have t0 := BR4.out.free 0
            have t1 := BR4.out.free 1
            have t2 := BR4.out.free 2
            have t3 := BR4.out.free 3
            have t4 := BR4.out.free 4
            have t5 := BR4.out.free 5
            have hne : X ≠ w.heap.size := by omega
            rcases (show f = 1 ∨ f = 2 ∨ f = 3 ∨ f = 4 ∨ f = 5 ∨ f = 6 ∨ f = 7 from by omega) with rfl | rfl | rfl | rfl | rfl | rfl | rfl
            · rw [show formB 1 = 85 from rfl, show wideN 1 = 20 from rfl]
              have x5 : w4.cell? ⟨X, 5, none⟩ = some (.int .u8 85) := HBX.out.cell 5
              go_wp2
              have F := put6 (W := (w4.setCell ⟨X, 1, none⟩ (.int .i64 (bits .and .i64 (n / 128) 31)))) (grown_new GW.out (by omega) _ _) (blk_other BR4.out hne _ _) (.int .i64 ((k : Int) + 1)) (.int .i64 (bits .and .i64 (n / 128) 31)) (.int .i64 0) (.int .i64 0) (.int .i64 v) (.int .u8 85)
              have e0 := (F.1).cell 0
              have e1 := (F.1).cell 1
              have e2 := (F.1).cell 2
              have e3 := (F.1).cell 3
              have e4 := (F.1).cell 4
              have e5 := (F.1).cell 5
              refine bodyPost_ret (v := .tuple #[insR ((k : Int) + 1) (bits .and .i64 (n / 128) 31) 0 0 v 85, .bool true]) ?_ rfl ⟨⟨(k : Int) + 1, (bits .and .i64 (n / 128) 31), 0, 0, v, 85, true, rfl, .inr ⟨k + 1, by omega, by omega, HI.out, HA.out, by simp, by rw [HF.out]; rfl, by rw [HF.out]; rfl, by rw [HF.out]; exact HNZ.out⟩, by simp; omega, by rw [← form_B k hlt _ HF.out]; decide⟩, F.2⟩
              clear F x0 x1 x2 x3 x4 x5 y1 y2 y3 y4 z0 z1 z2 z3 z4 z5 t0 t1 t2 t3 t4 t5
              simp [results, Tryd.results25, go_sem, insR, e0, e1, e2, e3, e4, e5]
            · rw [show formB 2 = 74 from rfl, show wideN 2 = 21 from rfl]
              have x5 : w4.cell? ⟨X, 5, none⟩ = some (.int .u8 74) := HBX.out.cell 5
              rw [show wideN 2 = 21 from rfl] at hv1
              simp only [Int.reducePow] at hv1
              have cB := hid (fun W => bit_lit v 20 20 rfl W hv0 (by omega) (by decide))
              by_cases hsb : v / 2 ^ 20 % 2 = 1
              · have d1 : (v / 2 ^ 20 % 2 == 1) = true := beq_iff_eq.2 hsb
                have HV0 := hid (show v ≠ 0 from fun h => by subst h; simp at hsb)
                clear hsb
                generalize v / 2 ^ 20 % 2 = sb at *
                go_wp2_with fail
                refine (cB.out _).mono ?_
                rintro e w5 ⟨rfl, rfl⟩
                go_wp2
                go_region
                go_wp2
                have F := put6 (W := ((w5.setCell ⟨X, 4, none⟩ (.int .i64 (v - 2097152))).setCell ⟨X, 1, none⟩ (.int .i64 (bits .and .i64 (n / 128) 31)))) (grown_new (grown_new GW.out (by omega) _ _) (by omega) _ _) (blk_other (blk_other BR4.out hne _ _) hne _ _) (.int .i64 ((k : Int) + 1)) (.int .i64 (bits .and .i64 (n / 128) 31)) (.int .i64 0) (.int .i64 0) (.int .i64 (v - 2097152)) (.int .u8 74)
                have e0 := (BlkAt.drew F.1).cell 0
                have e1 := (BlkAt.drew F.1).cell 1
                have e2 := (BlkAt.drew F.1).cell 2
                have e3 := (BlkAt.drew F.1).cell 3
                have e4 := (BlkAt.drew F.1).cell 4
                have e5 := (BlkAt.drew F.1).cell 5
                refine bodyPost_ret (v := .tuple #[insR ((k : Int) + 1) (bits .and .i64 (n / 128) 31) 0 0 (v - 2097152) 74, .bool true]) ?_ rfl ⟨⟨(k : Int) + 1, (bits .and .i64 (n / 128) 31), 0, 0, (v - 2097152), 74, true, rfl, .inr ⟨k + 1, by omega, by omega, HI.out, HA.out, by simp, by rw [HF.out]; rfl, by rw [HF.out]; rfl, by rw [HF.out]; exact ⟨fun h => by omega, fun h => absurd (HNZ.out.2 h) HV0.out⟩⟩, by simp; omega, by rw [← form_B k hlt _ HF.out]; decide⟩, (grown_drew F.2)⟩
                clear F x0 x1 x2 x3 x4 x5 y1 y2 y3 y4 z0 z1 z2 z3 z4 z5 t0 t1 t2 t3 t4 t5
                generalize World.drew _ = WF at *
                simp [results, Tryd.results25, go_sem, insR, e0, e1, e2, e3, e4, e5]
              · have d1 : (v / 2 ^ 20 % 2 == 1) = false := beq_eq_false_iff_ne.2 hsb
                clear hsb
                generalize v / 2 ^ 20 % 2 = sb at *
                go_wp2_with fail
                refine (cB.out _).mono ?_
                rintro e w5 ⟨rfl, rfl⟩
                go_wp2
                have F := put6 (W := (w5.setCell ⟨X, 1, none⟩ (.int .i64 (bits .and .i64 (n / 128) 31)))) (grown_new GW.out (by omega) _ _) (blk_other BR4.out hne _ _) (.int .i64 ((k : Int) + 1)) (.int .i64 (bits .and .i64 (n / 128) 31)) (.int .i64 0) (.int .i64 0) (.int .i64 v) (.int .u8 74)
                have e0 := (F.1).cell 0
                have e1 := (F.1).cell 1
                have e2 := (F.1).cell 2
                have e3 := (F.1).cell 3
                have e4 := (F.1).cell 4
                have e5 := (F.1).cell 5
                refine bodyPost_ret (v := .tuple #[insR ((k : Int) + 1) (bits .and .i64 (n / 128) 31) 0 0 v 74, .bool true]) ?_ rfl ⟨⟨(k : Int) + 1, (bits .and .i64 (n / 128) 31), 0, 0, v, 74, true, rfl, .inr ⟨k + 1, by omega, by omega, HI.out, HA.out, by simp, by rw [HF.out]; rfl, by rw [HF.out]; rfl, by rw [HF.out]; exact HNZ.out⟩, by simp; omega, by rw [← form_B k hlt _ HF.out]; decide⟩, F.2⟩
                clear F x0 x1 x2 x3 x4 x5 y1 y2 y3 y4 z0 z1 z2 z3 z4 z5 t0 t1 t2 t3 t4 t5
                simp [results, Tryd.results25, go_sem, insR, e0, e1, e2, e3, e4, e5]
            · rw [show formB 3 = 73 from rfl, show wideN 3 = 12 from rfl]
              have x5 : w4.cell? ⟨X, 5, none⟩ = some (.int .u8 73) := HBX.out.cell 5
              rw [show wideN 3 = 12 from rfl] at hv1
              simp only [Int.reducePow] at hv1
              have cB := hid (fun W => bit_lit v 11 11 rfl W hv0 (by omega) (by decide))
              by_cases hsb : v / 2 ^ 11 % 2 = 1
              · have d1 : (v / 2 ^ 11 % 2 == 1) = true := beq_iff_eq.2 hsb
                have HV0 := hid (show v ≠ 0 from fun h => by subst h; simp at hsb)
                clear hsb
                generalize v / 2 ^ 11 % 2 = sb at *
                go_wp2_with fail
                refine (cB.out _).mono ?_
                rintro e w5 ⟨rfl, rfl⟩
                go_wp2
                go_region
                go_wp2
                have F := put6 (W := (((w5.setCell ⟨X, 4, none⟩ (.int .i64 (v - 4096))).setCell ⟨X, 1, none⟩ (.int .i64 (bits .and .i64 (n / 128) 31))).setCell ⟨X, 2, none⟩ (.int .i64 (bits .and .i64 (n / 32768) 31)))) (grown_new (grown_new (grown_new GW.out (by omega) _ _) (by omega) _ _) (by omega) _ _) (blk_other (blk_other (blk_other BR4.out hne _ _) hne _ _) hne _ _) (.int .i64 ((k : Int) + 1)) (.int .i64 (bits .and .i64 (n / 128) 31)) (.int .i64 (bits .and .i64 (n / 32768) 31)) (.int .i64 0) (.int .i64 (v - 4096)) (.int .u8 73)
                have e0 := (BlkAt.drew F.1).cell 0
                have e1 := (BlkAt.drew F.1).cell 1
                have e2 := (BlkAt.drew F.1).cell 2
                have e3 := (BlkAt.drew F.1).cell 3
                have e4 := (BlkAt.drew F.1).cell 4
                have e5 := (BlkAt.drew F.1).cell 5
                refine bodyPost_ret (v := .tuple #[insR ((k : Int) + 1) (bits .and .i64 (n / 128) 31) (bits .and .i64 (n / 32768) 31) 0 (v - 4096) 73, .bool true]) ?_ rfl ⟨⟨(k : Int) + 1, (bits .and .i64 (n / 128) 31), (bits .and .i64 (n / 32768) 31), 0, (v - 4096), 73, true, rfl, .inr ⟨k + 1, by omega, by omega, HI.out, HA.out, by simp, by rw [HF.out]; rfl, by rw [HF.out]; rfl, by rw [HF.out]; exact ⟨fun h => by omega, fun h => absurd (HNZ.out.2 h) HV0.out⟩⟩, by simp; omega, by rw [← form_B k hlt _ HF.out]; decide⟩, (grown_drew F.2)⟩
                clear F x0 x1 x2 x3 x4 x5 y1 y2 y3 y4 z0 z1 z2 z3 z4 z5 t0 t1 t2 t3 t4 t5
                generalize World.drew _ = WF at *
                simp [results, Tryd.results25, go_sem, insR, e0, e1, e2, e3, e4, e5]
              · have d1 : (v / 2 ^ 11 % 2 == 1) = false := beq_eq_false_iff_ne.2 hsb
                clear hsb
                generalize v / 2 ^ 11 % 2 = sb at *
                go_wp2_with fail
                refine (cB.out _).mono ?_
                rintro e w5 ⟨rfl, rfl⟩
                go_wp2
                have F := put6 (W := ((w5.setCell ⟨X, 1, none⟩ (.int .i64 (bits .and .i64 (n / 128) 31))).setCell ⟨X, 2, none⟩ (.int .i64 (bits .and .i64 (n / 32768) 31)))) (grown_new (grown_new GW.out (by omega) _ _) (by omega) _ _) (blk_other (blk_other BR4.out hne _ _) hne _ _) (.int .i64 ((k : Int) + 1)) (.int .i64 (bits .and .i64 (n / 128) 31)) (.int .i64 (bits .and .i64 (n / 32768) 31)) (.int .i64 0) (.int .i64 v) (.int .u8 73)
                have e0 := (F.1).cell 0
                have e1 := (F.1).cell 1
                have e2 := (F.1).cell 2
                have e3 := (F.1).cell 3
                have e4 := (F.1).cell 4
                have e5 := (F.1).cell 5
                refine bodyPost_ret (v := .tuple #[insR ((k : Int) + 1) (bits .and .i64 (n / 128) 31) (bits .and .i64 (n / 32768) 31) 0 v 73, .bool true]) ?_ rfl ⟨⟨(k : Int) + 1, (bits .and .i64 (n / 128) 31), (bits .and .i64 (n / 32768) 31), 0, v, 73, true, rfl, .inr ⟨k + 1, by omega, by omega, HI.out, HA.out, by simp, by rw [HF.out]; rfl, by rw [HF.out]; rfl, by rw [HF.out]; exact HNZ.out⟩, by simp; omega, by rw [← form_B k hlt _ HF.out]; decide⟩, F.2⟩
                clear F x0 x1 x2 x3 x4 x5 y1 y2 y3 y4 z0 z1 z2 z3 z4 z5 t0 t1 t2 t3 t4 t5
                simp [results, Tryd.results25, go_sem, insR, e0, e1, e2, e3, e4, e5]
            · rw [show formB 4 = 66 from rfl, show wideN 4 = 13 from rfl]
              have x5 : w4.cell? ⟨X, 5, none⟩ = some (.int .u8 66) := HBX.out.cell 5
              rw [show wideN 4 = 13 from rfl] at hv1
              simp only [Int.reducePow] at hv1
              have cB := hid (fun W => bit_lit v 12 12 rfl W hv0 (by omega) (by decide))
              by_cases hsb : v / 2 ^ 12 % 2 = 1
              · have d1 : (v / 2 ^ 12 % 2 == 1) = true := beq_iff_eq.2 hsb
                have HV0 := hid (show v ≠ 0 from fun h => by subst h; simp at hsb)
                clear hsb
                generalize v / 2 ^ 12 % 2 = sb at *
                go_wp2_with fail
                refine (cB.out _).mono ?_
                rintro e w5 ⟨rfl, rfl⟩
                go_wp2
                go_region
                go_wp2
                have F := put6 (W := (((w5.setCell ⟨X, 4, none⟩ (.int .i64 (v - 8192))).setCell ⟨X, 2, none⟩ (.int .i64 (bits .and .i64 (n / 32768) 31))).setCell ⟨X, 3, none⟩ (.int .i64 (bits .and .i64 (n / 1048576) 31)))) (grown_new (grown_new (grown_new GW.out (by omega) _ _) (by omega) _ _) (by omega) _ _) (blk_other (blk_other (blk_other BR4.out hne _ _) hne _ _) hne _ _) (.int .i64 ((k : Int) + 1)) (.int .i64 0) (.int .i64 (bits .and .i64 (n / 32768) 31)) (.int .i64 (bits .and .i64 (n / 1048576) 31)) (.int .i64 (v - 8192)) (.int .u8 66)
                have e0 := (BlkAt.drew F.1).cell 0
                have e1 := (BlkAt.drew F.1).cell 1
                have e2 := (BlkAt.drew F.1).cell 2
                have e3 := (BlkAt.drew F.1).cell 3
                have e4 := (BlkAt.drew F.1).cell 4
                have e5 := (BlkAt.drew F.1).cell 5
                refine bodyPost_ret (v := .tuple #[insR ((k : Int) + 1) 0 (bits .and .i64 (n / 32768) 31) (bits .and .i64 (n / 1048576) 31) (v - 8192) 66, .bool true]) ?_ rfl ⟨⟨(k : Int) + 1, 0, (bits .and .i64 (n / 32768) 31), (bits .and .i64 (n / 1048576) 31), (v - 8192), 66, true, rfl, .inr ⟨k + 1, by omega, by omega, HI.out, HA.out, by simp, by rw [HF.out]; rfl, by rw [HF.out]; rfl, by rw [HF.out]; exact ⟨fun h => by omega, fun h => absurd (HNZ.out.2 h) HV0.out⟩⟩, by simp; omega, by rw [← form_B k hlt _ HF.out]; decide⟩, (grown_drew F.2)⟩
                clear F x0 x1 x2 x3 x4 x5 y1 y2 y3 y4 z0 z1 z2 z3 z4 z5 t0 t1 t2 t3 t4 t5
                generalize World.drew _ = WF at *
                simp [results, Tryd.results25, go_sem, insR, e0, e1, e2, e3, e4, e5]
              · have d1 : (v / 2 ^ 12 % 2 == 1) = false := beq_eq_false_iff_ne.2 hsb
                clear hsb
                generalize v / 2 ^ 12 % 2 = sb at *
                go_wp2_with fail
                refine (cB.out _).mono ?_
                rintro e w5 ⟨rfl, rfl⟩
                go_wp2
                have F := put6 (W := ((w5.setCell ⟨X, 2, none⟩ (.int .i64 (bits .and .i64 (n / 32768) 31))).setCell ⟨X, 3, none⟩ (.int .i64 (bits .and .i64 (n / 1048576) 31)))) (grown_new (grown_new GW.out (by omega) _ _) (by omega) _ _) (blk_other (blk_other BR4.out hne _ _) hne _ _) (.int .i64 ((k : Int) + 1)) (.int .i64 0) (.int .i64 (bits .and .i64 (n / 32768) 31)) (.int .i64 (bits .and .i64 (n / 1048576) 31)) (.int .i64 v) (.int .u8 66)
                have e0 := (F.1).cell 0
                have e1 := (F.1).cell 1
                have e2 := (F.1).cell 2
                have e3 := (F.1).cell 3
                have e4 := (F.1).cell 4
                have e5 := (F.1).cell 5
                refine bodyPost_ret (v := .tuple #[insR ((k : Int) + 1) 0 (bits .and .i64 (n / 32768) 31) (bits .and .i64 (n / 1048576) 31) v 66, .bool true]) ?_ rfl ⟨⟨(k : Int) + 1, 0, (bits .and .i64 (n / 32768) 31), (bits .and .i64 (n / 1048576) 31), v, 66, true, rfl, .inr ⟨k + 1, by omega, by omega, HI.out, HA.out, by simp, by rw [HF.out]; rfl, by rw [HF.out]; rfl, by rw [HF.out]; exact HNZ.out⟩, by simp; omega, by rw [← form_B k hlt _ HF.out]; decide⟩, F.2⟩
                clear F x0 x1 x2 x3 x4 x5 y1 y2 y3 y4 z0 z1 z2 z3 z4 z5 t0 t1 t2 t3 t4 t5
                simp [results, Tryd.results25, go_sem, insR, e0, e1, e2, e3, e4, e5]
            · rw [show formB 5 = 83 from rfl, show wideN 5 = 12 from rfl]
              have x5 : w4.cell? ⟨X, 5, none⟩ = some (.int .u8 83) := HBX.out.cell 5
              rw [show wideN 5 = 12 from rfl] at hv1
              simp only [Int.reducePow] at hv1
              have cB := hid (fun W => bit_lit v 11 11 rfl W hv0 (by omega) (by decide))
              by_cases hsb : v / 2 ^ 11 % 2 = 1
              · have d1 : (v / 2 ^ 11 % 2 == 1) = true := beq_iff_eq.2 hsb
                have HV0 := hid (show v ≠ 0 from fun h => by subst h; simp at hsb)
                clear hsb
                generalize v / 2 ^ 11 % 2 = sb at *
                go_wp2_with fail
                refine (cB.out _).mono ?_
                rintro e w5 ⟨rfl, rfl⟩
                go_wp2
                go_region
                go_wp2
                have F := put6 (W := (((w5.setCell ⟨X, 4, none⟩ (.int .i64 (v - 4096))).setCell ⟨X, 2, none⟩ (.int .i64 (bits .and .i64 (n / 32768) 31))).setCell ⟨X, 3, none⟩ (.int .i64 (bits .and .i64 (n / 1048576) 31)))) (grown_new (grown_new (grown_new GW.out (by omega) _ _) (by omega) _ _) (by omega) _ _) (blk_other (blk_other (blk_other BR4.out hne _ _) hne _ _) hne _ _) (.int .i64 ((k : Int) + 1)) (.int .i64 0) (.int .i64 (bits .and .i64 (n / 32768) 31)) (.int .i64 (bits .and .i64 (n / 1048576) 31)) (.int .i64 (v - 4096)) (.int .u8 83)
                have e0 := (BlkAt.drew F.1).cell 0
                have e1 := (BlkAt.drew F.1).cell 1
                have e2 := (BlkAt.drew F.1).cell 2
                have e3 := (BlkAt.drew F.1).cell 3
                have e4 := (BlkAt.drew F.1).cell 4
                have e5 := (BlkAt.drew F.1).cell 5
                refine bodyPost_ret (v := .tuple #[insR ((k : Int) + 1) 0 (bits .and .i64 (n / 32768) 31) (bits .and .i64 (n / 1048576) 31) (v - 4096) 83, .bool true]) ?_ rfl ⟨⟨(k : Int) + 1, 0, (bits .and .i64 (n / 32768) 31), (bits .and .i64 (n / 1048576) 31), (v - 4096), 83, true, rfl, .inr ⟨k + 1, by omega, by omega, HI.out, HA.out, by simp, by rw [HF.out]; rfl, by rw [HF.out]; rfl, by rw [HF.out]; exact ⟨fun h => by omega, fun h => absurd (HNZ.out.2 h) HV0.out⟩⟩, by simp; omega, by rw [← form_B k hlt _ HF.out]; decide⟩, (grown_drew F.2)⟩
                clear F x0 x1 x2 x3 x4 x5 y1 y2 y3 y4 z0 z1 z2 z3 z4 z5 t0 t1 t2 t3 t4 t5
                generalize World.drew _ = WF at *
                simp [results, Tryd.results25, go_sem, insR, e0, e1, e2, e3, e4, e5]
              · have d1 : (v / 2 ^ 11 % 2 == 1) = false := beq_eq_false_iff_ne.2 hsb
                clear hsb
                generalize v / 2 ^ 11 % 2 = sb at *
                go_wp2_with fail
                refine (cB.out _).mono ?_
                rintro e w5 ⟨rfl, rfl⟩
                go_wp2
                have F := put6 (W := ((w5.setCell ⟨X, 2, none⟩ (.int .i64 (bits .and .i64 (n / 32768) 31))).setCell ⟨X, 3, none⟩ (.int .i64 (bits .and .i64 (n / 1048576) 31)))) (grown_new (grown_new GW.out (by omega) _ _) (by omega) _ _) (blk_other (blk_other BR4.out hne _ _) hne _ _) (.int .i64 ((k : Int) + 1)) (.int .i64 0) (.int .i64 (bits .and .i64 (n / 32768) 31)) (.int .i64 (bits .and .i64 (n / 1048576) 31)) (.int .i64 v) (.int .u8 83)
                have e0 := (F.1).cell 0
                have e1 := (F.1).cell 1
                have e2 := (F.1).cell 2
                have e3 := (F.1).cell 3
                have e4 := (F.1).cell 4
                have e5 := (F.1).cell 5
                refine bodyPost_ret (v := .tuple #[insR ((k : Int) + 1) 0 (bits .and .i64 (n / 32768) 31) (bits .and .i64 (n / 1048576) 31) v 83, .bool true]) ?_ rfl ⟨⟨(k : Int) + 1, 0, (bits .and .i64 (n / 32768) 31), (bits .and .i64 (n / 1048576) 31), v, 83, true, rfl, .inr ⟨k + 1, by omega, by omega, HI.out, HA.out, by simp, by rw [HF.out]; rfl, by rw [HF.out]; rfl, by rw [HF.out]; exact HNZ.out⟩, by simp; omega, by rw [← form_B k hlt _ HF.out]; decide⟩, F.2⟩
                clear F x0 x1 x2 x3 x4 x5 y1 y2 y3 y4 z0 z1 z2 z3 z4 z5 t0 t1 t2 t3 t4 t5
                simp [results, Tryd.results25, go_sem, insR, e0, e1, e2, e3, e4, e5]
            · rw [show formB 6 = 82 from rfl, show wideN 6 = 12 from rfl]
              have x5 : w4.cell? ⟨X, 5, none⟩ = some (.int .u8 82) := HBX.out.cell 5
              rw [show wideN 6 = 12 from rfl] at hv1
              simp only [Int.reducePow] at hv1
              have cB := hid (fun W => bit_lit v 11 11 rfl W hv0 (by omega) (by decide))
              by_cases hsb : v / 2 ^ 11 % 2 = 1
              · have d1 : (v / 2 ^ 11 % 2 == 1) = true := beq_iff_eq.2 hsb
                have HV0 := hid (show v ≠ 0 from fun h => by subst h; simp at hsb)
                clear hsb
                generalize v / 2 ^ 11 % 2 = sb at *
                go_wp2_with fail
                refine (cB.out _).mono ?_
                rintro e w5 ⟨rfl, rfl⟩
                go_wp2
                go_region
                go_wp2
                have F := put6 (W := ((((w5.setCell ⟨X, 4, none⟩ (.int .i64 (v - 4096))).setCell ⟨X, 1, none⟩ (.int .i64 (bits .and .i64 (n / 128) 31))).setCell ⟨X, 2, none⟩ (.int .i64 (bits .and .i64 (n / 32768) 31))).setCell ⟨X, 3, none⟩ (.int .i64 (bits .and .i64 (n / 1048576) 31)))) (grown_new (grown_new (grown_new (grown_new GW.out (by omega) _ _) (by omega) _ _) (by omega) _ _) (by omega) _ _) (blk_other (blk_other (blk_other (blk_other BR4.out hne _ _) hne _ _) hne _ _) hne _ _) (.int .i64 ((k : Int) + 1)) (.int .i64 (bits .and .i64 (n / 128) 31)) (.int .i64 (bits .and .i64 (n / 32768) 31)) (.int .i64 (bits .and .i64 (n / 1048576) 31)) (.int .i64 (v - 4096)) (.int .u8 82)
                have e0 := (BlkAt.drew F.1).cell 0
                have e1 := (BlkAt.drew F.1).cell 1
                have e2 := (BlkAt.drew F.1).cell 2
                have e3 := (BlkAt.drew F.1).cell 3
                have e4 := (BlkAt.drew F.1).cell 4
                have e5 := (BlkAt.drew F.1).cell 5
                refine bodyPost_ret (v := .tuple #[insR ((k : Int) + 1) (bits .and .i64 (n / 128) 31) (bits .and .i64 (n / 32768) 31) (bits .and .i64 (n / 1048576) 31) (v - 4096) 82, .bool true]) ?_ rfl ⟨⟨(k : Int) + 1, (bits .and .i64 (n / 128) 31), (bits .and .i64 (n / 32768) 31), (bits .and .i64 (n / 1048576) 31), (v - 4096), 82, true, rfl, .inr ⟨k + 1, by omega, by omega, HI.out, HA.out, by simp, by rw [HF.out]; rfl, by rw [HF.out]; rfl, by rw [HF.out]; exact ⟨fun h => by omega, fun h => absurd (HNZ.out.2 h) HV0.out⟩⟩, by simp; omega, by rw [← form_B k hlt _ HF.out]; decide⟩, (grown_drew F.2)⟩
                clear F x0 x1 x2 x3 x4 x5 y1 y2 y3 y4 z0 z1 z2 z3 z4 z5 t0 t1 t2 t3 t4 t5
                generalize World.drew _ = WF at *
                simp [results, Tryd.results25, go_sem, insR, e0, e1, e2, e3, e4, e5]
              · have d1 : (v / 2 ^ 11 % 2 == 1) = false := beq_eq_false_iff_ne.2 hsb
                clear hsb
                generalize v / 2 ^ 11 % 2 = sb at *
                go_wp2_with fail
                refine (cB.out _).mono ?_
                rintro e w5 ⟨rfl, rfl⟩
                go_wp2
                have F := put6 (W := (((w5.setCell ⟨X, 1, none⟩ (.int .i64 (bits .and .i64 (n / 128) 31))).setCell ⟨X, 2, none⟩ (.int .i64 (bits .and .i64 (n / 32768) 31))).setCell ⟨X, 3, none⟩ (.int .i64 (bits .and .i64 (n / 1048576) 31)))) (grown_new (grown_new (grown_new GW.out (by omega) _ _) (by omega) _ _) (by omega) _ _) (blk_other (blk_other (blk_other BR4.out hne _ _) hne _ _) hne _ _) (.int .i64 ((k : Int) + 1)) (.int .i64 (bits .and .i64 (n / 128) 31)) (.int .i64 (bits .and .i64 (n / 32768) 31)) (.int .i64 (bits .and .i64 (n / 1048576) 31)) (.int .i64 v) (.int .u8 82)
                have e0 := (F.1).cell 0
                have e1 := (F.1).cell 1
                have e2 := (F.1).cell 2
                have e3 := (F.1).cell 3
                have e4 := (F.1).cell 4
                have e5 := (F.1).cell 5
                refine bodyPost_ret (v := .tuple #[insR ((k : Int) + 1) (bits .and .i64 (n / 128) 31) (bits .and .i64 (n / 32768) 31) (bits .and .i64 (n / 1048576) 31) v 82, .bool true]) ?_ rfl ⟨⟨(k : Int) + 1, (bits .and .i64 (n / 128) 31), (bits .and .i64 (n / 32768) 31), (bits .and .i64 (n / 1048576) 31), v, 82, true, rfl, .inr ⟨k + 1, by omega, by omega, HI.out, HA.out, by simp, by rw [HF.out]; rfl, by rw [HF.out]; rfl, by rw [HF.out]; exact HNZ.out⟩, by simp; omega, by rw [← form_B k hlt _ HF.out]; decide⟩, F.2⟩
                clear F x0 x1 x2 x3 x4 x5 y1 y2 y3 y4 z0 z1 z2 z3 z4 z5 t0 t1 t2 t3 t4 t5
                simp [results, Tryd.results25, go_sem, insR, e0, e1, e2, e3, e4, e5]
            · rw [show formB 7 = 69 from rfl, show wideN 7 = 12 from rfl]
              have x5 : w4.cell? ⟨X, 5, none⟩ = some (.int .u8 69) := HBX.out.cell 5
              rw [show wideN 7 = 12 from rfl] at hv1
              simp only [Int.reducePow] at hv1
              have cB := hid (fun W => bit_lit v 11 11 rfl W hv0 (by omega) (by decide))
              by_cases hsb : v / 2 ^ 11 % 2 = 1
              · have d1 : (v / 2 ^ 11 % 2 == 1) = true := beq_iff_eq.2 hsb
                have HV0 := hid (show v ≠ 0 from fun h => by subst h; simp at hsb)
                clear hsb
                generalize v / 2 ^ 11 % 2 = sb at *
                go_wp2_with fail
                refine (cB.out _).mono ?_
                rintro e w5 ⟨rfl, rfl⟩
                go_wp2
                go_region
                go_wp2
                have F := put6 (W := (w5.setCell ⟨X, 4, none⟩ (.int .i64 (v - 4096)))) (grown_new GW.out (by omega) _ _) (blk_other BR4.out hne _ _) (.int .i64 ((k : Int) + 1)) (.int .i64 0) (.int .i64 0) (.int .i64 0) (.int .i64 (v - 4096)) (.int .u8 69)
                have e0 := (BlkAt.drew F.1).cell 0
                have e1 := (BlkAt.drew F.1).cell 1
                have e2 := (BlkAt.drew F.1).cell 2
                have e3 := (BlkAt.drew F.1).cell 3
                have e4 := (BlkAt.drew F.1).cell 4
                have e5 := (BlkAt.drew F.1).cell 5
                refine bodyPost_ret (v := .tuple #[insR ((k : Int) + 1) 0 0 0 (v - 4096) 69, .bool true]) ?_ rfl ⟨⟨(k : Int) + 1, 0, 0, 0, (v - 4096), 69, true, rfl, .inr ⟨k + 1, by omega, by omega, HI.out, HA.out, by simp, by rw [HF.out]; rfl, by rw [HF.out]; rfl, by rw [HF.out]; exact ⟨fun h => by omega, fun h => absurd (HNZ.out.2 h) HV0.out⟩⟩, by simp; omega, by rw [← form_B k hlt _ HF.out]; decide⟩, (grown_drew F.2)⟩
                clear F x0 x1 x2 x3 x4 x5 y1 y2 y3 y4 z0 z1 z2 z3 z4 z5 t0 t1 t2 t3 t4 t5
                generalize World.drew _ = WF at *
                simp [results, Tryd.results25, go_sem, insR, e0, e1, e2, e3, e4, e5]
              · have d1 : (v / 2 ^ 11 % 2 == 1) = false := beq_eq_false_iff_ne.2 hsb
                clear hsb
                generalize v / 2 ^ 11 % 2 = sb at *
                go_wp2_with fail
                refine (cB.out _).mono ?_
                rintro e w5 ⟨rfl, rfl⟩
                go_wp2
                have F := put6 (W := w5) GW.out BR4.out (.int .i64 ((k : Int) + 1)) (.int .i64 0) (.int .i64 0) (.int .i64 0) (.int .i64 v) (.int .u8 69)
                have e0 := (F.1).cell 0
                have e1 := (F.1).cell 1
                have e2 := (F.1).cell 2
                have e3 := (F.1).cell 3
                have e4 := (F.1).cell 4
                have e5 := (F.1).cell 5
                refine bodyPost_ret (v := .tuple #[insR ((k : Int) + 1) 0 0 0 v 69, .bool true]) ?_ rfl ⟨⟨(k : Int) + 1, 0, 0, 0, v, 69, true, rfl, .inr ⟨k + 1, by omega, by omega, HI.out, HA.out, by simp, by rw [HF.out]; rfl, by rw [HF.out]; rfl, by rw [HF.out]; exact HNZ.out⟩, by simp; omega, by rw [← form_B k hlt _ HF.out]; decide⟩, F.2⟩
                clear F x0 x1 x2 x3 x4 x5 y1 y2 y3 y4 z0 z1 z2 z3 z4 z5 t0 t1 t2 t3 t4 t5
                simp [results, Tryd.results25, go_sem, insR, e0, e1, e2, e3, e4, e5]
      · have d : (bits .and .i64 n (maskF f) == x) = false := beq_eq_false_iff_ne.2 (fun h => hI (IsE.out.2 h))
        have HI := hid hI
        clear hI
        go_wp2
        go_quiet (fail)
        go_wp2
        go_roundw
        case rel => exact ⟨k + 1, by omega, by go_num, fun j hj hjk => (Nat.lt_succ_iff_lt_or_eq.1 hjk).elim (fun h => HA.out j hj h) (fun h => by subst h; exact HI.out), grown_drewN HG.out _⟩
        case measure => simp [intOf]; omega
    · have z0 := (BR.out.grown HG.out (by simp)).cell 0
      have z1 := (BR.out.grown HG.out (by simp)).cell 1
      have z2 := (BR.out.grown HG.out (by simp)).cell 2
      have z3 := (BR.out.grown HG.out (by simp)).cell 3
      have z4 := (BR.out.grown HG.out (by simp)).cell 4
      have z5 := (BR.out.grown HG.out (by simp)).cell 5
      have t0 := (BR.out.grown HG.out (by simp)).free 0
      have t1 := (BR.out.grown HG.out (by simp)).free 1
      have t2 := (BR.out.grown HG.out (by simp)).free 2
      have t3 := (BR.out.grown HG.out (by simp)).free 3
      have t4 := (BR.out.grown HG.out (by simp)).free 4
      have t5 := (BR.out.grown HG.out (by simp)).free 5
      go_wp2
      have F := put6 (W := wr) (grown_trans G1.out HG.out) (BR.out.grown HG.out (by simp)) (.int .i64 0) (.int .i64 0) (.int .i64 0) (.int .i64 0) (.int .i64 0) (.int .u8 0)
      have e0 := F.1.cell 0
      have e1 := F.1.cell 1
      have e2 := F.1.cell 2
      have e3 := F.1.cell 3
      have e4 := F.1.cell 4
      have e5 := F.1.cell 5
      refine bodyPost_ret (v := .tuple #[insR 0 0 0 0 0 0, .bool false]) ?_ rfl ⟨⟨0, 0, 0, 0, 0, 0, false, rfl, .inl ⟨rfl, rfl, rfl, rfl, fun j h1 h2 => HA.out j h1 (by omega)⟩, by simp, by decide⟩, F.2⟩
      clear F z0 z1 z2 z3 z4 z5 t0 t1 t2 t3 t4 t5
      generalize World.setCell _ _ _ = WF at *
      simp [results, Tryd.results25, go_sem, insR, e0, e1, e2, e3, e4, e5]

end Go.Proofs.YtaiplongpjimnaaDoor

namespace Go.Proofs.YtaiplongpjimnaaDoor
open Go.RowKit

theorem andNot_one (n : Int) (h0 : -9223372036854775808 ≤ n) (h1 : n ≤ 9223372036854775807) : bits .andNot .i64 n 1 = n - n % 2 := by
  have e1 : (~~~ (BitVec.ofInt 64 1)).toNat = (2 ^ 63 - 1) <<< 1 := by decide
  have key : (BitVec.ofInt 64 n &&& ~~~ (BitVec.ofInt 64 1)).toNat = (n % ((2 ^ 64 : Nat) : Int)).toNat / 2 * 2 := by
    rw [BitVec.toNat_and, e1, BitVec.toNat_ofInt, and_bits, Nat.and_two_pow_sub_one_eq_mod, Nat.shiftRight_eq_div_pow, Nat.shiftLeft_eq]
    omega
  show IntKind.i64.wrap ((BitVec.ofInt 64 n &&& ~~~ (BitVec.ofInt 64 1)).toNat : Nat) = _
  rw [key, IntKind.wrap_i64]
  omega

/-- what stands when an instruction is done -/
structure DoPre (W0 : World) (b g : Nat) (ai : Option Addr) (ci : Nat) (ins : List Int) (st : Mc.St) (vd vo : Value) (m : Im.Img) (rd rs1 rs2 n : Int) (W : World) : Prop where
  h : RunAt W0 b g (.slice ai ins.length ci) st vd vo W
  img : ImgAt W0 g m
  tame : Im.Tame m
  inp : IntsIn W0 ai ins
  few : ins.length ≤ 16
  hrd : 0 ≤ rd ∧ rd < 32
  hrs1 : 0 ≤ rs1 ∧ rs1 < 32
  hrs2 : 0 ≤ rs2 ∧ rs2 < 32
  hn : -2147483648 ≤ n ∧ n ≤ 2147483647

theorem insC (W : World) (a b c d e : Value) : (W.alloc (.cells #[a, b, c, d, e] 86)).cell? ⟨W.heap.size, 0, none⟩ = some a ∧ (W.alloc (.cells #[a, b, c, d, e] 86)).cell? ⟨W.heap.size, 1, none⟩ = some b ∧ (W.alloc (.cells #[a, b, c, d, e] 86)).cell? ⟨W.heap.size, 2, none⟩ = some c ∧
    (W.alloc (.cells #[a, b, c, d, e] 86)).cell? ⟨W.heap.size, 3, none⟩ = some d ∧ (W.alloc (.cells #[a, b, c, d, e] 86)).cell? ⟨W.heap.size, 4, none⟩ = some e := by
  have B := BlkAt.new W #[a, b, c, d, e] 86
  exact ⟨B.cell 0, B.cell 1, B.cell 2, B.cell 3, B.cell 4⟩

set_option maxRecDepth 100000 in
set_option maxHeartbeats 8000000 in
theorem do_none (W0 : World) (b g : Nat) (ai : Option Addr) (ci : Nat) (ins : List Int) (st : Mc.St) (vd vo : Value) (m : Im.Img) (op rd rs1 rs2 n : Int) (W : World) (hpre : DoPre W0 b g ai ci ins st vd vo m rd rs1 rs2 n W) (hop : op = 0) :
    Calls Tryd.prog 40 #[.pointer (some ⟨b, 0, none⟩), insV op rd rs1 rs2 n] W fun e W' => e = .returned (.tuple #[]) ∧ DoesR W0 b g (.slice ai ins.length ci) (Mc.doIt m ins op rd rs1 rs2 n st) W' := by
  obtain ⟨h, hI, hT, hin, hl, d0, s1, s2, hn⟩ := hpre
  have HA := hid (h.grown (World.grownBy_alloc W (.cells #[.int .i64 op, .int .i64 rd, .int .i64 rs1, .int .i64 rs2, .int .i64 n] 86) none))
  have NE := hid (show W.heap.size ≠ b from fun e => by have := h.blk.lt; omega)
  have IC := hid (insC W (.int .i64 op) (.int .i64 rd) (.int .i64 rs1) (.int .i64 rs2) (.int .i64 n))
  have r1 := hid (fun W hW => register_any' W0 b g (.slice ai ins.length ci) st vd vo rs1 W hW s1.1 s1.2)
  have r2 := hid (fun W hW => register_any' W0 b g (.slice ai ins.length ci) st vd vo rs2 W hW s2.1 s2.2)
  have q1 := reg_range h.ok rs1
  have q2 := reg_range h.ok rs2
  have hp := h.ok.pc
  obtain ⟨X, hX⟩ : ∃ X, X = Mc.doIt m ins op rd rs1 rs2 n st := ⟨_, rfl⟩
  rw [← hX]
  have RX := hid hX
  clear hX
  unfold insV
  subst hop
  replace RX := hid (show X = { st with ende := 3 } from RX.out)
  clear h hI hT hin
  go_enter Tryd.func40, Tryd.ntmps40
  go_wp2_with fail
  generalize W.alloc (.cells #[.int .i64 0, .int .i64 rd, .int .i64 rs1, .int .i64 rs2, .int .i64 n] 86) = V at *
  generalize W.heap.size = ib at *
  obtain ⟨i0, i1, i2, i3, i4⟩ := IC.out
  refine (r1.out _ HA.out).mono ?_
  rintro e V1 ⟨rfl, hV⟩
  subst hV
  go_wp2_with fail
  refine (r2.out _ HA.out).mono ?_
  rintro e V1 ⟨rfl, hV⟩
  subst hV
  have c37 := HA.out.c.2.2.2.2.2.1
  have f37 := HA.out.free 37
  go_wp2
  go_end0
  rw [RX.out]
  exact ⟨rfl, _, _, HA.out.putEnd 3⟩

set_option maxRecDepth 100000 in
set_option maxHeartbeats 8000000 in
theorem do_lui (W0 : World) (b g : Nat) (ai : Option Addr) (ci : Nat) (ins : List Int) (st : Mc.St) (vd vo : Value) (m : Im.Img) (op rd rs1 rs2 n : Int) (W : World) (hpre : DoPre W0 b g ai ci ins st vd vo m rd rs1 rs2 n W) (hop : op = 1) :
    Calls Tryd.prog 40 #[.pointer (some ⟨b, 0, none⟩), insV op rd rs1 rs2 n] W fun e W' => e = .returned (.tuple #[]) ∧ DoesR W0 b g (.slice ai ins.length ci) (Mc.doIt m ins op rd rs1 rs2 n st) W' := by
  obtain ⟨h, hI, hT, hin, hl, d0, s1, s2, hn⟩ := hpre
  have HA := hid (h.grown (World.grownBy_alloc W (.cells #[.int .i64 op, .int .i64 rd, .int .i64 rs1, .int .i64 rs2, .int .i64 n] 86) none))
  have NE := hid (show W.heap.size ≠ b from fun e => by have := h.blk.lt; omega)
  have IC := hid (insC W (.int .i64 op) (.int .i64 rd) (.int .i64 rs1) (.int .i64 rs2) (.int .i64 n))
  have r1 := hid (fun W hW => register_any' W0 b g (.slice ai ins.length ci) st vd vo rs1 W hW s1.1 s1.2)
  have r2 := hid (fun W hW => register_any' W0 b g (.slice ai ins.length ci) st vd vo rs2 W hW s2.1 s2.2)
  have q1 := reg_range h.ok rs1
  have q2 := reg_range h.ok rs2
  have hp := h.ok.pc
  obtain ⟨X, hX⟩ : ∃ X, X = Mc.doIt m ins op rd rs1 rs2 n st := ⟨_, rfl⟩
  rw [← hX]
  have RX := hid hX
  clear hX
  unfold insV
  subst hop
  replace RX := hid (show X = Mc.set rd (n * 4096) st from RX.out)
  have x : IntKind.i64.wrap (n * 4096) = n * 4096 := IntWalk.i64_in _ ⟨by omega, by omega⟩
  have cS := hid (fun W hW => mSet_any W0 b g (.slice ai ins.length ci) st vd vo rd (n * 4096) W hW d0.1 d0.2)
  clear h hI hT hin
  go_enter Tryd.func40, Tryd.ntmps40
  go_wp2_with fail
  generalize W.alloc (.cells #[.int .i64 1, .int .i64 rd, .int .i64 rs1, .int .i64 rs2, .int .i64 n] 86) = V at *
  generalize W.heap.size = ib at *
  obtain ⟨i0, i1, i2, i3, i4⟩ := IC.out
  refine (r1.out _ HA.out).mono ?_
  rintro e V1 ⟨rfl, hV⟩
  subst hV
  go_wp2_with fail
  refine (r2.out _ HA.out).mono ?_
  rintro e V1 ⟨rfl, hV⟩
  subst hV
  go_wp2_with fail
  refine (cS.out _ HA.out).mono ?_
  rintro e V2 ⟨rfl, h2⟩
  have H2 := hid h2
  clear h2
  go_wp2
  go_end0
  rw [RX.out]
  exact ⟨rfl, _, _, H2.out⟩

set_option maxRecDepth 100000 in
set_option maxHeartbeats 8000000 in
theorem do_jalr (W0 : World) (b g : Nat) (ai : Option Addr) (ci : Nat) (ins : List Int) (st : Mc.St) (vd vo : Value) (m : Im.Img) (op rd rs1 rs2 n : Int) (W : World) (hpre : DoPre W0 b g ai ci ins st vd vo m rd rs1 rs2 n W) (hop : op = 4) :
    Calls Tryd.prog 40 #[.pointer (some ⟨b, 0, none⟩), insV op rd rs1 rs2 n] W fun e W' => e = .returned (.tuple #[]) ∧ DoesR W0 b g (.slice ai ins.length ci) (Mc.doIt m ins op rd rs1 rs2 n st) W' := by
  obtain ⟨h, hI, hT, hin, hl, d0, s1, s2, hn⟩ := hpre
  have HA := hid (h.grown (World.grownBy_alloc W (.cells #[.int .i64 op, .int .i64 rd, .int .i64 rs1, .int .i64 rs2, .int .i64 n] 86) none))
  have NE := hid (show W.heap.size ≠ b from fun e => by have := h.blk.lt; omega)
  have IC := hid (insC W (.int .i64 op) (.int .i64 rd) (.int .i64 rs1) (.int .i64 rs2) (.int .i64 n))
  have r1 := hid (fun W hW => register_any' W0 b g (.slice ai ins.length ci) st vd vo rs1 W hW s1.1 s1.2)
  have r2 := hid (fun W hW => register_any' W0 b g (.slice ai ins.length ci) st vd vo rs2 W hW s2.1 s2.2)
  have q1 := reg_range h.ok rs1
  have q2 := reg_range h.ok rs2
  have hp := h.ok.pc
  obtain ⟨X, hX⟩ : ∃ X, X = Mc.doIt m ins op rd rs1 rs2 n st := ⟨_, rfl⟩
  rw [← hX]
  have RX := hid hX
  clear hX
  unfold insV
  subst hop
  replace RX := hid (show X = Mc.jump rd ((Mc.reg st rs1 + n) - (Mc.reg st rs1 + n) % 2) st from RX.out)
  generalize Mc.reg st rs1 = a at *
  have x : IntKind.i64.wrap (a + n) = a + n := IntWalk.i64_in _ ⟨by omega, by omega⟩
  have y : bits .andNot .i64 (a + n) 1 = (a + n) - (a + n) % 2 := andNot_one _ (by omega) (by omega)
  have cJ := hid (fun W hW => jump_any W0 b g (.slice ai ins.length ci) st vd vo rd ((a + n) - (a + n) % 2) W hW d0.1 d0.2)
  clear h hI hT hin
  go_enter Tryd.func40, Tryd.ntmps40
  go_wp2_with fail
  generalize W.alloc (.cells #[.int .i64 4, .int .i64 rd, .int .i64 rs1, .int .i64 rs2, .int .i64 n] 86) = V at *
  generalize W.heap.size = ib at *
  obtain ⟨i0, i1, i2, i3, i4⟩ := IC.out
  refine (r1.out _ HA.out).mono ?_
  rintro e V1 ⟨rfl, hV⟩
  subst hV
  go_wp2_with fail
  refine (r2.out _ HA.out).mono ?_
  rintro e V1 ⟨rfl, hV⟩
  subst hV
  go_wp2_with fail
  refine (cJ.out _ HA.out).mono ?_
  rintro e V2 ⟨rfl, h2⟩
  have H2 := hid h2
  clear h2
  go_wp2
  go_end0
  rw [RX.out]
  exact ⟨rfl, _, _, H2.out⟩

set_option maxRecDepth 100000 in
set_option maxHeartbeats 8000000 in
theorem do_sw (W0 : World) (b g : Nat) (ai : Option Addr) (ci : Nat) (ins : List Int) (st : Mc.St) (vd vo : Value) (m : Im.Img) (op rd rs1 rs2 n : Int) (W : World) (hpre : DoPre W0 b g ai ci ins st vd vo m rd rs1 rs2 n W) (hop : op = 12) :
    Calls Tryd.prog 40 #[.pointer (some ⟨b, 0, none⟩), insV op rd rs1 rs2 n] W fun e W' => e = .returned (.tuple #[]) ∧ DoesR W0 b g (.slice ai ins.length ci) (Mc.doIt m ins op rd rs1 rs2 n st) W' := by
  obtain ⟨h, hI, hT, hin, hl, d0, s1, s2, hn⟩ := hpre
  have HA := hid (h.grown (World.grownBy_alloc W (.cells #[.int .i64 op, .int .i64 rd, .int .i64 rs1, .int .i64 rs2, .int .i64 n] 86) none))
  have NE := hid (show W.heap.size ≠ b from fun e => by have := h.blk.lt; omega)
  have IC := hid (insC W (.int .i64 op) (.int .i64 rd) (.int .i64 rs1) (.int .i64 rs2) (.int .i64 n))
  have r1 := hid (fun W hW => register_any' W0 b g (.slice ai ins.length ci) st vd vo rs1 W hW s1.1 s1.2)
  have r2 := hid (fun W hW => register_any' W0 b g (.slice ai ins.length ci) st vd vo rs2 W hW s2.1 s2.2)
  have q1 := reg_range h.ok rs1
  have q2 := reg_range h.ok rs2
  have hp := h.ok.pc
  obtain ⟨X, hX⟩ : ∃ X, X = Mc.doIt m ins op rd rs1 rs2 n st := ⟨_, rfl⟩
  rw [← hX]
  have RX := hid hX
  clear hX
  unfold insV
  subst hop
  replace RX := hid (show X = Mc.store m (Mc.wd (Mc.reg st rs1 + n)) (Mc.reg st rs2) st from RX.out)
  generalize Mc.reg st rs1 = a at *
  generalize Mc.reg st rs2 = bb at *
  have x : IntKind.i64.wrap (a + n) = a + n := IntWalk.i64_in _ ⟨by omega, by omega⟩
  have cW := hid (fun W => mWord_any (a + n) W)
  have wr := Mc.wd_range (a + n)
  have cT := hid (fun W hW => mStore_any W0 b g (.slice ai ins.length ci) st vd vo m (Mc.wd (a + n)) bb W hW hI hT wr.1 wr.2 q2)
  clear h hI hT hin
  go_enter Tryd.func40, Tryd.ntmps40
  go_wp2_with fail
  generalize W.alloc (.cells #[.int .i64 12, .int .i64 rd, .int .i64 rs1, .int .i64 rs2, .int .i64 n] 86) = V at *
  generalize W.heap.size = ib at *
  obtain ⟨i0, i1, i2, i3, i4⟩ := IC.out
  refine (r1.out _ HA.out).mono ?_
  rintro e V1 ⟨rfl, hV⟩
  subst hV
  go_wp2_with fail
  refine (r2.out _ HA.out).mono ?_
  rintro e V1 ⟨rfl, hV⟩
  subst hV
  go_wp2_with fail
  refine (cW.out _).mono ?_
  rintro e V2 ⟨rfl, hV⟩
  subst hV
  go_wp2_with fail
  refine (cT.out _ HA.out).mono ?_
  rintro e V2 ⟨rfl, h2⟩
  have H2 := hid h2
  clear h2
  go_wp2
  go_end0
  rw [RX.out]
  exact ⟨rfl, H2.out⟩

set_option maxRecDepth 100000 in
set_option maxHeartbeats 8000000 in
theorem do_ecall (W0 : World) (b g : Nat) (ai : Option Addr) (ci : Nat) (ins : List Int) (st : Mc.St) (vd vo : Value) (m : Im.Img) (op rd rs1 rs2 n : Int) (W : World) (hpre : DoPre W0 b g ai ci ins st vd vo m rd rs1 rs2 n W) (hop : op = 25) :
    Calls Tryd.prog 40 #[.pointer (some ⟨b, 0, none⟩), insV op rd rs1 rs2 n] W fun e W' => e = .returned (.tuple #[]) ∧ DoesR W0 b g (.slice ai ins.length ci) (Mc.doIt m ins op rd rs1 rs2 n st) W' := by
  obtain ⟨h, hI, hT, hin, hl, d0, s1, s2, hn⟩ := hpre
  have HA := hid (h.grown (World.grownBy_alloc W (.cells #[.int .i64 op, .int .i64 rd, .int .i64 rs1, .int .i64 rs2, .int .i64 n] 86) none))
  have NE := hid (show W.heap.size ≠ b from fun e => by have := h.blk.lt; omega)
  have IC := hid (insC W (.int .i64 op) (.int .i64 rd) (.int .i64 rs1) (.int .i64 rs2) (.int .i64 n))
  have r1 := hid (fun W hW => register_any' W0 b g (.slice ai ins.length ci) st vd vo rs1 W hW s1.1 s1.2)
  have r2 := hid (fun W hW => register_any' W0 b g (.slice ai ins.length ci) st vd vo rs2 W hW s2.1 s2.2)
  have q1 := reg_range h.ok rs1
  have q2 := reg_range h.ok rs2
  have hp := h.ok.pc
  obtain ⟨X, hX⟩ : ∃ X, X = Mc.doIt m ins op rd rs1 rs2 n st := ⟨_, rfl⟩
  rw [← hX]
  have RX := hid hX
  clear hX
  unfold insV
  subst hop
  replace RX := hid (show X = Mc.call ins st from RX.out)
  have cC := hid (fun W hW => mCall_any W0 b g ai ci ins st vd vo W hW hin hl)
  clear h hI hT hin
  go_enter Tryd.func40, Tryd.ntmps40
  go_wp2_with fail
  generalize W.alloc (.cells #[.int .i64 25, .int .i64 rd, .int .i64 rs1, .int .i64 rs2, .int .i64 n] 86) = V at *
  generalize W.heap.size = ib at *
  obtain ⟨i0, i1, i2, i3, i4⟩ := IC.out
  refine (r1.out _ HA.out).mono ?_
  rintro e V1 ⟨rfl, hV⟩
  subst hV
  go_wp2_with fail
  refine (r2.out _ HA.out).mono ?_
  rintro e V1 ⟨rfl, hV⟩
  subst hV
  go_wp2_with fail
  refine (cC.out _ HA.out).mono ?_
  rintro e V2 ⟨rfl, h2⟩
  have H2 := hid h2
  clear h2
  go_wp2
  go_end0
  rw [RX.out]
  exact ⟨rfl, H2.out⟩

end Go.Proofs.YtaiplongpjimnaaDoor

namespace Go.Proofs.YtaiplongpjimnaaDoor
open Go.RowKit

theorem rng_rdF (f n : Int) (h0 : 0 ≤ n) (h1 : n ≤ 4294967295) : 0 ≤ rdF f n ∧ rdF f n < 32 := by
  unfold rdF
  split
  · rw [low (n / 128) 5 (by decide) 31 32 rfl rfl (by omega) (by omega)]; omega
  · decide
theorem rng_rs1F (f n : Int) (h0 : 0 ≤ n) (h1 : n ≤ 4294967295) : 0 ≤ rs1F f n ∧ rs1F f n < 32 := by
  unfold rs1F
  split
  · rw [low (n / 32768) 5 (by decide) 31 32 rfl rfl (by omega) (by omega)]; omega
  · decide
theorem rng_rs2F (f n : Int) (h0 : 0 ≤ n) (h1 : n ≤ 4294967295) : 0 ≤ rs2F f n ∧ rs2F f n < 32 := by
  unfold rs2F
  split
  · rw [low (n / 1048576) 5 (by decide) 31 32 rfl rfl (by omega) (by omega)]; omega
  · decide
theorem rng_numF (f n : Int) (h0 : 0 ≤ n) (h1 : n ≤ 4294967295) : -2147483648 ≤ Mc.numF f n ∧ Mc.numF f n ≤ 2147483647 := by
  unfold Mc.numF Mc.v2 Mc.v4 Mc.v5
  split
  · omega
  split
  · split <;> omega
  split
  · split <;> omega
  split
  · split <;> omega
  split
  · split <;> omega
  · decide
theorem opOf_range (n : Int) : Mc.opOf n ≤ 25 := by
  unfold Mc.opOf
  cases h : (List.range 26).find? (fun k => decide (1 ≤ k) && decide (Is k n)) with
  | none => simp
  | some k =>
    have := List.mem_range.1 (List.mem_of_find?_eq_some h)
    simp
    omega
/-- an image whose words are words -/
def Im.Wordy (m : Im.Img) : Prop := (∀ i, 0 ≤ m.T.getD i 0 ∧ m.T.getD i 0 < 4294967296) ∧ ∀ i, 0 ≤ m.F.getD i 0 ∧ m.F.getD i 0 < 4294967296
theorem code_word {m : Im.Img} (h : Im.Wordy m) {a w : Int} (hc : Im.code m a = some w) : 0 ≤ w ∧ w ≤ 4294967295 := by
  unfold Im.code at hc
  split at hc
  · simp only [Option.some.injEq] at hc
    have := h.1 (Im.place m.text m.T.length a).toNat
    omega
  split at hc
  · simp only [Option.some.injEq] at hc
    have := h.2 (Im.place m.far m.F.length a).toNat
    omega
  · cases hc

set_option maxRecDepth 100000 in
set_option maxHeartbeats 8000000 in
theorem mStep_any (W0 : World) (b g : Nat) (ai : Option Addr) (ci : Nat) (ins : List Int) (st : Mc.St) (vd vo : Value) (m : Im.Img) (W : World) (h : RunAt W0 b g (.slice ai ins.length ci) st vd vo W) (hI : ImgAt W0 g m) (hT : Im.Tame m) (hW : Im.Wordy m) (hin : IntsIn W0 ai ins) (hl : ins.length ≤ 16) (ht : Tabs W0) (hs : st.steps < 65536)
    (cD : ∀ (st : Mc.St) (op rd rs1 rs2 n : Int) (W : World), DoPre W0 b g ai ci ins st vd vo m rd rs1 rs2 n W → 0 ≤ op ∧ op ≤ 25 →
      Calls Tryd.prog 40 #[.pointer (some ⟨b, 0, none⟩), insV op rd rs1 rs2 n] W fun e W' => e = .returned (.tuple #[]) ∧ DoesR W0 b g (.slice ai ins.length ci) (Mc.doIt m ins op rd rs1 rs2 n st) W') :
    Calls Tryd.prog 24 #[.pointer (some ⟨b, 0, none⟩)] W fun e W' => e = .returned (.tuple #[]) ∧ DoesR W0 b g (.slice ai ins.length ci) (Mc.step m ins st) W' := by
  have H := hid h
  have c40 := h.c.2.2.2.2.2.2.2.2.1
  have f40 := h.free 40
  have hp := h.ok.pc
  have x1 : IntKind.i64.wrap ((st.steps : Int) + 1) = (st.steps : Int) + 1 := IntWalk.i64_in _ ⟨by omega, by omega⟩
  have x2 : IntKind.i64.wrap (st.pc + 4) = st.pc + 4 := IntWalk.i64_in _ ⟨by omega, by omega⟩
  have H1 : Hid (RunAt W0 b g (.slice ai ins.length ci) { st with steps := st.steps + 1 } vd vo (W.setCell ⟨b, 40, none⟩ (.int .i64 ((st.steps : Int) + 1)))) := by
    have := h.putSteps (st.steps + 1) (by omega)
    rw [show ((st.steps + 1 : Nat) : Int) = (st.steps : Int) + 1 by omega] at this
    exact this
  have cC := hid (fun V (hV : RunAt W0 b g (.slice ai ins.length ci) { st with steps := st.steps + 1 } vd vo V) => code_any g m st.pc V (hI.kept hV.gr) hT hp.1 hp.2)
  have cW := hid (fun W => mWord_any (st.pc + 4) W)
  have CD := hid cD
  have HI := hid hI
  have HT := hid hT
  have HN := hid hin
  have TB := hid ht
  have CWD := hid (fun w (hc : Im.code m st.pc = some w) => code_word hW hc)
  obtain ⟨X, hX⟩ : ∃ X, X = Mc.step m ins st := ⟨_, rfl⟩
  rw [← hX]
  unfold Mc.step at hX
  have RX := hid hX
  clear h hI hT hin ht cD hX
  generalize Im.code m st.pc = cd at *
  go_enter Tryd.func24, Tryd.ntmps24
  go_wp2
  generalize W.setCell ⟨b, 40, none⟩ (.int .i64 ((st.steps : Int) + 1)) = V at *
  clear c40 f40 x1 H
  have c0 := H1.out.c.1
  have c35 := H1.out.c.2.2.2.1
  go_quiet ((go_at_call 37; refine Calls.quiet_of (cC.out _ ?_); exact H1.out.grown (grown_drewN (World.grownBy.refl _ none) _)))
  have H2 := hid (H1.out.grown (grown_drewN (World.grownBy.refl _ none) nq))
  clear c0 c35 H1 cC
  generalize V.drewN nq = V2 at *
  have c35 := H2.out.c.2.2.2.1
  have c36 := H2.out.c.2.2.2.2.1
  have f36 := H2.out.free 36
  cases cd with
  | none =>
    simp only at RX
    have c37 := H2.out.c.2.2.2.2.2.1
    have f37 := H2.out.free 37
    go_wp2
    (try simp only [Exit.inBlock, Exit.then]); refine bodyPost_ret (results_none rfl _ _ _) rfl ?_
    rw [RX.out]
    exact ⟨rfl, _, _, H2.out.putEnd 2⟩
  | some wv =>
    have wr := CWD.out wv rfl
    simp only at RX
    go_wp2_with fail
    refine (cW.out _).mono ?_
    rintro e V3 ⟨rfl, hV⟩
    subst hV
    have H3 := hid (H2.out.putNext (Mc.wd (st.pc + 4)) (Mc.wd_range _))
    go_wp2_with fail
    generalize V3.setCell ⟨b, 36, none⟩ (.int .i64 (Mc.wd (st.pc + 4))) = V4 at *
    clear c35 c36 f36 H2 cW x2
    have o1 := opOf_range wv
    have p1 := rng_rdF (Mc.formOf wv) wv wr.1 wr.2
    have p2 := rng_rs1F (Mc.formOf wv) wv wr.1 wr.2
    have p3 := rng_rs2F (Mc.formOf wv) wv wr.1 wr.2
    have p4 := rng_numF (Mc.formOf wv) wv wr.1 wr.2
    have cE := hid (decode_exact wv V4 (TB.out.grown H3.out.gr) wr.1 wr.2)
    generalize Mc.opOf wv = op at *
    generalize rdF (Mc.formOf wv) wv = rd at *
    generalize rs1F (Mc.formOf wv) wv = rs1 at *
    generalize rs2F (Mc.formOf wv) wv = rs2 at *
    generalize Mc.numF (Mc.formOf wv) wv = n at *
    refine cE.out.mono ?_
    rintro e V5 ⟨rfl, hg⟩
    have H4 := hid (H3.out.grown hg)
    have H5 := hid (H4.out.grown (World.grownBy_alloc V5 (.cells #[.int .i64 op, .int .i64 rd, .int .i64 rs1, .int .i64 rs2, .int .i64 n] 86) none))
    clear hg H3 cE
    unfold insV
    go_wp2_with fail
    refine (CD.out _ op rd rs1 rs2 n _ ⟨H5.out, HI.out, HT.out, HN.out, hl, p1, p2, p3, p4⟩ (by omega)).mono ?_
    rintro e V6 ⟨rfl, vd', vo', h6⟩
    have H6 := hid h6
    clear h6 H4 H5 CD
    have c35 := H6.out.c.2.2.2.1
    have c36 := H6.out.c.2.2.2.2.1
    have f35 := H6.out.free 35
    go_wp2
    go_end0
    rw [RX.out]
    exact ⟨rfl, _, _, H6.out.putPc _ H6.out.ok.next⟩

end Go.Proofs.YtaiplongpjimnaaDoor
