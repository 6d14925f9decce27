/- The document's instruction of a word, exactly. -/
/- The document's machine: a tick, whatever stands there; steps that are the same. -/
import Derived.Test.YtaiplongpjimnaaDoorG08
import Derived.Test.YtaiplongpjimnaaDoorG02
import Derived.Test.YtaiplongpjimnaaDoorG11
import Derived.Test.YtaiplongpjimnaaDoorG12
namespace Go.Proofs.YtaiplongpjimnaaDoor
open Go.RowKit

/-- the bits taken so far -/
def orB (form n : Int) : Nat → Int
  | 0 => 0
  | a + 1 => orB form n a + n / 2 ^ plq form a % 2 * 2 ^ plp form a
def runA (n : Int) (a p : Nat) (acc : Int) : Nat → Int
  | 0 => acc
  | m + 1 => runA n a p acc m + n / 2 ^ (a + m) % 2 * 2 ^ (p + m)
theorem nat_chain (N a m : Nat) : N / 2 ^ a % 2 ^ (m + 1) = N / 2 ^ a % 2 ^ m + 2 ^ m * (N / 2 ^ (a + m) % 2) := by
  rw [Nat.pow_succ, Nat.mod_mul, Nat.div_div_eq_div_mul, ← Nat.pow_add]
theorem int_chain (n : Int) (h0 : 0 ≤ n) (a m : Nat) : n / 2 ^ a % 2 ^ (m + 1) = n / 2 ^ a % 2 ^ m + n / 2 ^ (a + m) % 2 * 2 ^ m := by
  obtain ⟨N, rfl⟩ := Int.eq_ofNat_of_zero_le h0
  have e := nat_chain N a m
  rw [Nat.mul_comm] at e
  exact_mod_cast e
theorem runA_eq (n : Int) (h0 : 0 ≤ n) (a p : Nat) (acc : Int) (m : Nat) : runA n a p acc m = acc + n / 2 ^ a % 2 ^ m * 2 ^ p := by
  induction m with
  | zero => simp [runA, Int.emod_one]
  | succ m ih =>
    rw [runA, ih, int_chain n h0 a m, Int.add_mul, Int.add_assoc, Int.mul_assoc, ← Int.pow_add, Nat.add_comm m p]
/-- the number's bits, without its sign -/
def numU (form n : Int) : Int := if form = 1 then n / 4096 % 1048576 else if form = 2 then Mc.v2 n else if form = 3 then n / 1048576 % 4096 else if form = 4 then Mc.v4 n else if form = 5 then Mc.v5 n else 0
theorem orB_num (form n : Int) (h0 : 0 ≤ n) (hf : 1 ≤ form ∧ form ≤ 7) : orB form n (pln form) = numU form n := by
  rcases (show form = 1 ∨ form = 2 ∨ form = 3 ∨ form = 4 ∨ form = 5 ∨ form = 6 ∨ form = 7 from by omega) with rfl | rfl | rfl | rfl | rfl | rfl | rfl
  · show runA n 12 0 0 20 = n / 4096 % 1048576
    rw [runA_eq n h0]; simp only [Int.reducePow]; omega
  · show runA n 31 20 (runA n 12 12 (runA n 20 11 (runA n 21 1 0 10) 1) 8) 1 = Mc.v2 n
    rw [runA_eq n h0, runA_eq n h0, runA_eq n h0, runA_eq n h0]; unfold Mc.v2; simp only [Int.reducePow]; omega
  · show runA n 20 0 0 12 = n / 1048576 % 4096
    rw [runA_eq n h0]; simp only [Int.reducePow]; omega
  · show runA n 31 12 (runA n 7 11 (runA n 25 5 (runA n 8 1 0 4) 6) 1) 1 = Mc.v4 n
    rw [runA_eq n h0, runA_eq n h0, runA_eq n h0, runA_eq n h0]; unfold Mc.v4; simp only [Int.reducePow]; omega
  · show runA n 25 5 (runA n 7 0 0 5) 7 = Mc.v5 n
    rw [runA_eq n h0, runA_eq n h0]; unfold Mc.v5; simp only [Int.reducePow]; omega
  · rfl
  · rfl
theorem plp_asc (form : Int) (hf : 1 ≤ form ∧ form ≤ 7) : ∀ c, c < pln form → ∀ a, a < c → plp form a < plp form c := by
  rcases (show form = 1 ∨ form = 2 ∨ form = 3 ∨ form = 4 ∨ form = 5 ∨ form = 6 ∨ form = 7 from by omega) with rfl | rfl | rfl | rfl | rfl | rfl | rfl <;> decide
theorem pow_le (a b : Nat) (h : a ≤ b) : (2 : Int) ^ a ≤ 2 ^ b := by
  have := Nat.pow_le_pow_right (show 0 < 2 by decide) h
  exact_mod_cast this
theorem orB_range (form n : Int) (hf : 1 ≤ form ∧ form ≤ 7) : ∀ a, a ≤ pln form → 0 ≤ orB form n a ∧ ∀ K : Nat, (∀ i, i < a → plp form i < K) → orB form n a < 2 ^ K := by
  intro a
  induction a with
  | zero => intro _; exact ⟨Int.le_refl _, fun K _ => Int.pow_pos (by decide)⟩
  | succ a ih =>
    intro ha
    obtain ⟨i0, i1⟩ := ih (by omega)
    have hlt := i1 (plp form a) (fun i hi => plp_asc form hf a (by omega) i hi)
    have hb : n / 2 ^ plq form a % 2 = 0 ∨ n / 2 ^ plq form a % 2 = 1 := by omega
    have hpos : (0 : Int) < 2 ^ plp form a := Int.pow_pos (by decide)
    have hs : (2 : Int) ^ (plp form a + 1) = 2 ^ plp form a * 2 := Int.pow_succ _ _
    refine ⟨?_, fun K hK => ?_⟩
    · rw [orB]; rcases hb with hb | hb <;> rw [hb] <;> omega
    · have hk := pow_le (plp form a + 1) K (hK a (by omega))
      rw [orB]; rcases hb with hb | hb <;> rw [hb] <;> omega
theorem or_comm64 (a b : Int) : bits .or .i64 a b = bits .or .i64 b a := by
  show IntKind.i64.wrap ((BitVec.ofInt 64 a ||| BitVec.ofInt 64 b).toNat : Nat) = IntKind.i64.wrap ((BitVec.ofInt 64 b ||| BitVec.ofInt 64 a).toNat : Nat)
  rw [BitVec.or_comm]
theorem orB_step (form n : Int) (a : Nat) (hf : 1 ≤ form ∧ form ≤ 7) (ha : a < pln form) : bits .or .i64 (orB form n a) (n / 2 ^ plq form a % 2 * 2 ^ plp form a) = orB form n (a + 1) := by
  obtain ⟨i0, i1⟩ := orB_range form n hf a (by omega)
  have hlt := i1 (plp form a) (fun i hi => plp_asc form hf a ha i hi)
  have hb : n / 2 ^ plq form a % 2 = 0 ∨ n / 2 ^ plq form a % 2 = 1 := by omega
  have hpos : (0 : Int) < 2 ^ plp form a := Int.pow_pos (by decide)
  obtain ⟨-, -, L⟩ := places_facts form hf
  obtain ⟨-, -, hw, -⟩ := L a ha
  have hw2 := wide_le form hf
  have hp2 := pow_le (plp form a) 20 (by omega)
  simp only [Int.reducePow] at hp2
  rw [or_comm64, or_sum _ _ (plp form a) (by rcases hb with hb | hb <;> rw [hb] <;> omega) (by rcases hb with hb | hb <;> rw [hb] <;> omega) (by rcases hb with hb | hb <;> rw [hb] <;> simp) i0 hlt (by omega), orB, Int.add_comm]
theorem numN_2 (n v : Int) (e : v = numU 2 n) (h0 : 0 ≤ v) (h1 : v < 2097152) : (v / 2 ^ 20 % 2 = 1 → Mc.numF 2 n = v - 2097152) ∧ (¬ v / 2 ^ 20 % 2 = 1 → Mc.numF 2 n = v) := by
  have e' : v = Mc.v2 n := e
  unfold Mc.numF
  rw [if_neg (by decide), if_pos rfl, ← e']
  simp only [Int.reducePow]
  exact ⟨fun h => if_neg (by omega), fun h => if_pos (by omega)⟩
theorem numN_3 (n v : Int) (e : v = numU 3 n) (h0 : 0 ≤ v) (h1 : v < 4096) : (v / 2 ^ 11 % 2 = 1 → Mc.numF 3 n = v - 4096) ∧ (¬ v / 2 ^ 11 % 2 = 1 → Mc.numF 3 n = v) := by
  have e' : v = n / 1048576 % 4096 := e
  unfold Mc.numF
  rw [if_neg (by decide), if_neg (by decide), if_pos rfl, ← e']
  simp only [Int.reducePow]
  exact ⟨fun h => if_neg (by omega), fun h => if_pos (by omega)⟩
theorem numN_4 (n v : Int) (e : v = numU 4 n) (h0 : 0 ≤ v) (h1 : v < 8192) : (v / 2 ^ 12 % 2 = 1 → Mc.numF 4 n = v - 8192) ∧ (¬ v / 2 ^ 12 % 2 = 1 → Mc.numF 4 n = v) := by
  have e' : v = Mc.v4 n := e
  unfold Mc.numF
  rw [if_neg (by decide), if_neg (by decide), if_neg (by decide), if_pos rfl, ← e']
  simp only [Int.reducePow]
  exact ⟨fun h => if_neg (by omega), fun h => if_pos (by omega)⟩
theorem numN_5 (n v : Int) (e : v = numU 5 n) (h0 : 0 ≤ v) (h1 : v < 4096) : (v / 2 ^ 11 % 2 = 1 → Mc.numF 5 n = v - 4096) ∧ (¬ v / 2 ^ 11 % 2 = 1 → Mc.numF 5 n = v) := by
  have e' : v = Mc.v5 n := e
  unfold Mc.numF
  rw [if_neg (by decide), if_neg (by decide), if_neg (by decide), if_neg (by decide), if_pos rfl, ← e']
  simp only [Int.reducePow]
  exact ⟨fun h => if_neg (by omega), fun h => if_pos (by omega)⟩
theorem numN_6 (n v : Int) (e : v = numU 6 n) (h0 : 0 ≤ v) (h1 : v < 4096) : (v / 2 ^ 11 % 2 = 1 → Mc.numF 6 n = v - 4096) ∧ (¬ v / 2 ^ 11 % 2 = 1 → Mc.numF 6 n = v) := by
  have e' : v = 0 := e
  subst e'
  exact ⟨fun h => absurd h (by decide), fun _ => rfl⟩
theorem numN_7 (n v : Int) (e : v = numU 7 n) (h0 : 0 ≤ v) (h1 : v < 4096) : (v / 2 ^ 11 % 2 = 1 → Mc.numF 7 n = v - 4096) ∧ (¬ v / 2 ^ 11 % 2 = 1 → Mc.numF 7 n = v) := by
  have e' : v = 0 := e
  subst e'
  exact ⟨fun h => absurd h (by decide), fun _ => rfl⟩
def fbF (form : Int) : Int := if form = 0 then 0 else formB form
/-- what the document's Of gives -/
def OfV (n : Int) : Value := .tuple #[insR (Mc.opOf n) (rdF (Mc.formOf n) n) (rs1F (Mc.formOf n) n) (rs2F (Mc.formOf n) n) (Mc.numF (Mc.formOf n) n) (fbF (Mc.formOf n)), .bool (decide (Mc.opOf n ≠ 0))]
theorem ofV_at (n : Int) (k : Nat) (f : Int) (hk : k < 25) (hI : Is (k + 1) n) (hall : ∀ j, 1 ≤ j → j < k + 1 → ¬ Is j n) (hF : formL.getD (k + 1) 0 = f) (hfr : 1 ≤ f ∧ f ≤ 7) :
    ∀ x1 x2 x3 x4 fb, rdF f n = x1 → rs1F f n = x2 → rs2F f n = x3 → Mc.numF f n = x4 → formB f = fb → Ending.returned (.tuple #[insR ((k : Int) + 1) x1 x2 x3 x4 fb, .bool true]) = .returned (OfV n) := by
  rintro _ _ _ _ _ rfl rfl rfl rfl rfl
  have OP := Mc.opOf_at n (k + 1) (by omega) (by omega) hI hall
  have FO : Mc.formOf n = f := by unfold Mc.formOf; rw [OP]; exact hF
  unfold OfV
  rw [OP, FO]
  unfold fbF
  rw [if_neg (by omega)]
  congr 3

set_option maxRecDepth 100000 in
set_option maxHeartbeats 8000000 in
theorem of_exact (n : Int) (w : World) (h0 : 0 ≤ n) (h1 : n ≤ 4294967295) :
    Calls Tryd.prog 25 #[.int .i64 n] w fun e w' => e = .returned (OfV n) ∧ w.grownBy w' none := by
  have G := hid (fun o : Obj => World.grownBy_alloc w o none)
  have cT := hid table_any
  go_enter Tryd.func25, Tryd.ntmps25
  go_wp2_with fail
  refine (cT.out _).mono ?_
  rintro e w1 ⟨rfl, htab, hlt, hg1⟩
  have BR := hid (((BlkAt.new w _ _).grown hg1 (by simp)) : BlkAt w1 w.heap.size #[.int .i64 0, .int .i64 0, .int .i64 0, .int .i64 0, .int .i64 0, .int .u8 0] 75)
  have G1 := hid (grown_trans (G.out _) hg1)
  generalize (w.alloc _).heap.size = TB at *
  have HTB := hid htab
  clear htab hg1 hlt
  go_wp2
  go_loopw [5] (fun i wr => ∃ k : Nat, k ≤ 25 ∧ i = .int .i64 k ∧ (∀ j, 1 ≤ j → j < k + 1 → ¬ Is j n) ∧ w1.grownBy wr none) (fun i _ => 25 - (intOf i).toNat)
  case atStart => exact ⟨0, Nat.zero_le _, rfl, fun j h1 h2 => by omega, World.grownBy.refl _ _⟩
  case round =>
    obtain ⟨k, hk1, rfl, hall, hgr⟩ := hrel
    have HA := hid hall
    have HG := hid hgr
    clear hall hgr
    by_cases hlt : k < 25
    · obtain ⟨q1, q2, q3, q4⟩ := (HTB.out k hlt).grown HG.out
      have hfr := form_range (k + 1) (by omega) (by omega)
      have IsE := hid (show Is (k + 1) n ↔ bits .and .i64 n (maskF (formL.getD (k + 1) 0)) = fixedL.getD (k + 1) 0 from Iff.rfl)
      generalize hF : formL.getD (k + 1) 0 = f at *
      generalize fixedL.getD (k + 1) 0 = x at *
      have HF := hid hF
      clear hF
      have g2 : (k : Int) < 25 := by omega
      by_cases hI : Is (k + 1) n
      · have d : (bits .and .i64 n (maskF f) == x) = true := beq_iff_eq.2 (IsE.out.1 hI)
        have HI := hid hI
        clear hI
        go_wp2
        go_quiet (fail)
        have T2 := (HTB.out k hlt).grown (grown_drewN HG.out nq)
        unfold tabCell at T2
        rw [HF.out] at T2
        have HG2 := hid (grown_drewN HG.out nq)
        clear q1 q2 q3 q4
        generalize wr.drewN nq = w2 at *
        obtain ⟨q1, -, -, q4⟩ := T2
        have cP := hid (fun W => places_any f W hfr)
        go_wp2_with fail
        refine (cP.out _).mono ?_
        rintro e w3 ⟨v, rfl, hown, hg3⟩
        obtain ⟨ao, cap, rfl⟩ := own_form hown
        have BX := hid (((BlkAt.new w2 _ _).grown hg3 (by simp)) : BlkAt w3 w2.heap.size #[.int .i64 ((k : Int) + 1), .int .i64 0, .int .i64 0, .int .i64 0, .int .i64 0, .int .u8 (formB f)] 75)
        have G3 := hid (grown_trans (grown_trans HG2.out (World.grownBy_alloc _ _ _)) hg3)
        have II := hid (IntsIn.of_own hown)
        have HNE := hid (show ∀ g off, ao = some ⟨g, off, none⟩ → w2.heap.size < g from fun g off h => by subst h; have := (hown.lt g rfl).1; simp at this; omega)
        have hcap := own_cap hown
        have hXs := hid (grown_trans G1.out HG2.out).size
        obtain ⟨L1, L2, L3⟩ := places_facts f hfr
        rw [L1] at hcap
        have HL := hid L3
        have hXR := BX.out.lt
        clear hown hg3 L3 q1 q4
        have hcap1 := hcap.1
        have hcap2 := hcap.2
        unfold maxLen at hcap2
        clear hcap
        rw [L1]
        have HL1 := hid L1
        clear L1
        generalize hX : w2.heap.size = X at *
        have HX := hid hX
        clear hX
        go_wp2
        go_loopw [9] (fun i wr => ∃ a : Nat, ∃ v : Int, a ≤ pln f ∧ i = .int .i64 ((a * 2 : Nat) : Int) ∧ 0 ≤ v ∧ v < 2 ^ wideN f ∧ v = orB f n a ∧ BlkAt wr X #[.int .i64 ((k : Int) + 1), .int .i64 0, .int .i64 0, .int .i64 0, .int .i64 v, .int .u8 (formB f)] 75 ∧ w3.grownBy wr (some X)) (fun i _ => pln f * 2 - (intOf i).toNat)
        case atStart => exact ⟨0, 0, Nat.zero_le _, rfl, by omega, Int.pow_pos (by decide), rfl, BX.out, World.grownBy.refl _ _⟩
        case round =>
          obtain ⟨a, v, ha, rfl, hv0, hv1, hv2, hbx, hgr⟩ := hrel
          have HV2 := hid hv2
          have HBX := hid hbx
          have HGX := hid hgr
          clear hv2 hbx hgr
          by_cases hla : a < pln f
          · obtain ⟨e1, e2, e3, e4⟩ := HL.out a hla
            obtain ⟨g', off', hao, hcell⟩ := II.out (by have := HL1.out; omega)
            have hne := HNE.out g' off' hao
            subst hao
            have s1 : a * 2 < (placesL f).length := by have := HL1.out; omega
            have s2 : a * 2 + 1 < (placesL f).length := by have := HL1.out; omega
            have c1 := HGX.out.cell (hcell (a * 2) s1) (by simp; omega)
            have c2 := HGX.out.cell (hcell (a * 2 + 1) s2) (by simp; omega)
            rw [show (placesL f)[a * 2] = (plp f a : Int) from by rw [← e1, List.getD_eq_getElem?_getD, List.getElem?_eq_getElem s1]; rfl] at c1
            rw [show (placesL f)[a * 2 + 1] = (plq f a : Int) from by rw [← e2, List.getD_eq_getElem?_getD, List.getElem?_eq_getElem s2]; rfl] at c2
            have b4 := HBX.out.cell 4
            have b4f := HBX.out.free 4
            have hXg : X ≠ g' := by omega
            have cB := hid (fun W => bit_any n (plq f a) W h0 h1 e4)
            have hK21 := wide_le f hfr
            have STEP := hid (show ∀ x, x = bits .or .i64 v (n / 2 ^ plq f a % 2 * 2 ^ plp f a) → 0 ≤ x ∧ x < 2 ^ wideN f ∧ x = orB f n (a + 1) from fun x hx => by
              have hx2 : x = orB f n (a + 1) := by rw [hx, HV2.out]; exact orB_step f n a hfr hla
              obtain ⟨r0, r1⟩ := orB_range f n hfr (a + 1) (by omega)
              rw [hx2]
              exact ⟨r0, r1 _ (fun i hi => (HL.out i (by omega)).2.2.1), rfl⟩)
            clear hcell e1 e2 s1 s2
            generalize hbb : n / 2 ^ plq f a % 2 = b at *
            have hb0 : 0 ≤ b := by omega
            have hb1 : b ≤ 1 := by omega
            clear hbb
            generalize plq f a = q at *
            generalize plp f a = p at *
            have g3 : (a * 2 : Int) < (pln f * 2 : Int) := by omega
            have g4 : ((a * 2 : Nat) : Int) + 1 < ((pln f * 2 : Nat) : Int) := by omega
            have g5 : p ≤ 20 := by omega
            go_wp2_with fail
            refine (cB.out _).mono ?_
            rintro e w4 ⟨rfl, rfl⟩
            go_wp2
            go_region
            go_wp2
            have F := STEP.out _ rfl
            have es := shl_in b p hb0 hb1 g5
            rw [es]
            refine ⟨⟨a + 1, bits .or .i64 v (b * 2 ^ p), by omega, by go_num, F.1, F.2.1, F.2.2, (HBX.out.set 4 _).drewN 1, grown_drewN (grown_setX HGX.out 4 _) 1⟩, ?_⟩
            simp [intOf]; omega
          · have ea : a = pln f := by omega
            have HNZ := hid (show v = numU f n from by rw [HV2.out, ea]; exact orB_num f n h0 hfr)
            have OX := hid (ofV_at n k f hlt HI.out HA.out HF.out hfr)
            have cW := hid (fun W => wide_any f W hfr)
            have hK21 := wide_le f hfr
            subst ea
            go_wp2_with fail
            refine (cW.out _).mono ?_
            rintro e w4 ⟨rfl, rfl⟩
            have hXlt := HBX.out.lt
            have hXw : w.heap.size < X := by have h1 := BR.out.lt; have h2 := HG2.out.size; have h3 := HX.out; omega
            have BR4 := hid ((((BR.out.grown G3.out (by simp)).grown HGX.out (by simp; omega))) : BlkAt w4 w.heap.size #[.int .i64 0, .int .i64 0, .int .i64 0, .int .i64 0, .int .i64 0, .int .u8 0] 75)
            have GW := hid (grown_above (grown_trans G1.out G3.out) HGX.out (by omega))
            have x0 := HBX.out.cell 0
            have x1 := HBX.out.cell 1
            have x2 := HBX.out.cell 2
            have x3 := HBX.out.cell 3
            have x4 := HBX.out.cell 4
            have y1 := HBX.out.free 1
            have y2 := HBX.out.free 2
            have y3 := HBX.out.free 3
            have y4 := HBX.out.free 4
            have z0 := BR4.out.cell 0
            have z1 := BR4.out.cell 1
            have z2 := BR4.out.cell 2
            have z3 := BR4.out.cell 3
            have z4 := BR4.out.cell 4
            have z5 := BR4.out.cell 5
            have t0 := BR4.out.free 0
            have t1 := BR4.out.free 1
            have t2 := BR4.out.free 2
            have t3 := BR4.out.free 3
            have t4 := BR4.out.free 4
            have t5 := BR4.out.free 5
            have hne : X ≠ w.heap.size := by omega
            rcases (show f = 1 ∨ f = 2 ∨ f = 3 ∨ f = 4 ∨ f = 5 ∨ f = 6 ∨ f = 7 from by omega) with rfl | rfl | rfl | rfl | rfl | rfl | rfl
            · rw [show formB 1 = 85 from rfl, show wideN 1 = 20 from rfl]
              have x5 : w4.cell? ⟨X, 5, none⟩ = some (.int .u8 85) := HBX.out.cell 5
              go_wp2
              have F := put6 (W := (w4.setCell ⟨X, 1, none⟩ (.int .i64 (bits .and .i64 (n / 128) 31)))) (grown_new GW.out (by omega) _ _) (blk_other BR4.out hne _ _) (.int .i64 ((k : Int) + 1)) (.int .i64 (bits .and .i64 (n / 128) 31)) (.int .i64 0) (.int .i64 0) (.int .i64 v) (.int .u8 85)
              have e0 := (F.1).cell 0
              have e1 := (F.1).cell 1
              have e2 := (F.1).cell 2
              have e3 := (F.1).cell 3
              have e4 := (F.1).cell 4
              have e5 := (F.1).cell 5
              refine bodyPost_ret (v := .tuple #[insR ((k : Int) + 1) (bits .and .i64 (n / 128) 31) 0 0 v 85, .bool true]) ?_ rfl ⟨OX.out _ _ _ _ _ rfl rfl rfl HNZ.out.symm rfl, F.2⟩
              clear F x0 x1 x2 x3 x4 x5 y1 y2 y3 y4 z0 z1 z2 z3 z4 z5 t0 t1 t2 t3 t4 t5
              simp [results, Tryd.results25, go_sem, insR, e0, e1, e2, e3, e4, e5]
            · rw [show formB 2 = 74 from rfl, show wideN 2 = 21 from rfl]
              have x5 : w4.cell? ⟨X, 5, none⟩ = some (.int .u8 74) := HBX.out.cell 5
              rw [show wideN 2 = 21 from rfl] at hv1
              simp only [Int.reducePow] at hv1
              have cB := hid (fun W => bit_lit v 20 20 rfl W hv0 (by omega) (by decide))
              by_cases hsb : v / 2 ^ 20 % 2 = 1
              · have d1 : (v / 2 ^ 20 % 2 == 1) = true := beq_iff_eq.2 hsb
                have HN := hid ((numN_2 n v HNZ.out hv0 hv1).1 hsb)
                clear hsb
                generalize v / 2 ^ 20 % 2 = sb at *
                go_wp2_with fail
                refine (cB.out _).mono ?_
                rintro e w5 ⟨rfl, rfl⟩
                go_wp2
                go_region
                go_wp2
                have F := put6 (W := ((w5.setCell ⟨X, 4, none⟩ (.int .i64 (v - 2097152))).setCell ⟨X, 1, none⟩ (.int .i64 (bits .and .i64 (n / 128) 31)))) (grown_new (grown_new GW.out (by omega) _ _) (by omega) _ _) (blk_other (blk_other BR4.out hne _ _) hne _ _) (.int .i64 ((k : Int) + 1)) (.int .i64 (bits .and .i64 (n / 128) 31)) (.int .i64 0) (.int .i64 0) (.int .i64 (v - 2097152)) (.int .u8 74)
                have e0 := (BlkAt.drew F.1).cell 0
                have e1 := (BlkAt.drew F.1).cell 1
                have e2 := (BlkAt.drew F.1).cell 2
                have e3 := (BlkAt.drew F.1).cell 3
                have e4 := (BlkAt.drew F.1).cell 4
                have e5 := (BlkAt.drew F.1).cell 5
                refine bodyPost_ret (v := .tuple #[insR ((k : Int) + 1) (bits .and .i64 (n / 128) 31) 0 0 (v - 2097152) 74, .bool true]) ?_ rfl ⟨OX.out _ _ _ _ _ rfl rfl rfl HN.out rfl, (grown_drew F.2)⟩
                clear F x0 x1 x2 x3 x4 x5 y1 y2 y3 y4 z0 z1 z2 z3 z4 z5 t0 t1 t2 t3 t4 t5
                generalize World.drew _ = WF at *
                simp [results, Tryd.results25, go_sem, insR, e0, e1, e2, e3, e4, e5]
              · have d1 : (v / 2 ^ 20 % 2 == 1) = false := beq_eq_false_iff_ne.2 hsb
                have HN := hid ((numN_2 n v HNZ.out hv0 hv1).2 hsb)
                clear hsb
                generalize v / 2 ^ 20 % 2 = sb at *
                go_wp2_with fail
                refine (cB.out _).mono ?_
                rintro e w5 ⟨rfl, rfl⟩
                go_wp2
                have F := put6 (W := (w5.setCell ⟨X, 1, none⟩ (.int .i64 (bits .and .i64 (n / 128) 31)))) (grown_new GW.out (by omega) _ _) (blk_other BR4.out hne _ _) (.int .i64 ((k : Int) + 1)) (.int .i64 (bits .and .i64 (n / 128) 31)) (.int .i64 0) (.int .i64 0) (.int .i64 v) (.int .u8 74)
                have e0 := (F.1).cell 0
                have e1 := (F.1).cell 1
                have e2 := (F.1).cell 2
                have e3 := (F.1).cell 3
                have e4 := (F.1).cell 4
                have e5 := (F.1).cell 5
                refine bodyPost_ret (v := .tuple #[insR ((k : Int) + 1) (bits .and .i64 (n / 128) 31) 0 0 v 74, .bool true]) ?_ rfl ⟨OX.out _ _ _ _ _ rfl rfl rfl HN.out rfl, F.2⟩
                clear F x0 x1 x2 x3 x4 x5 y1 y2 y3 y4 z0 z1 z2 z3 z4 z5 t0 t1 t2 t3 t4 t5
                simp [results, Tryd.results25, go_sem, insR, e0, e1, e2, e3, e4, e5]
            · rw [show formB 3 = 73 from rfl, show wideN 3 = 12 from rfl]
              have x5 : w4.cell? ⟨X, 5, none⟩ = some (.int .u8 73) := HBX.out.cell 5
              rw [show wideN 3 = 12 from rfl] at hv1
              simp only [Int.reducePow] at hv1
              have cB := hid (fun W => bit_lit v 11 11 rfl W hv0 (by omega) (by decide))
              by_cases hsb : v / 2 ^ 11 % 2 = 1
              · have d1 : (v / 2 ^ 11 % 2 == 1) = true := beq_iff_eq.2 hsb
                have HN := hid ((numN_3 n v HNZ.out hv0 hv1).1 hsb)
                clear hsb
                generalize v / 2 ^ 11 % 2 = sb at *
                go_wp2_with fail
                refine (cB.out _).mono ?_
                rintro e w5 ⟨rfl, rfl⟩
                go_wp2
                go_region
                go_wp2
                have F := put6 (W := (((w5.setCell ⟨X, 4, none⟩ (.int .i64 (v - 4096))).setCell ⟨X, 1, none⟩ (.int .i64 (bits .and .i64 (n / 128) 31))).setCell ⟨X, 2, none⟩ (.int .i64 (bits .and .i64 (n / 32768) 31)))) (grown_new (grown_new (grown_new GW.out (by omega) _ _) (by omega) _ _) (by omega) _ _) (blk_other (blk_other (blk_other BR4.out hne _ _) hne _ _) hne _ _) (.int .i64 ((k : Int) + 1)) (.int .i64 (bits .and .i64 (n / 128) 31)) (.int .i64 (bits .and .i64 (n / 32768) 31)) (.int .i64 0) (.int .i64 (v - 4096)) (.int .u8 73)
                have e0 := (BlkAt.drew F.1).cell 0
                have e1 := (BlkAt.drew F.1).cell 1
                have e2 := (BlkAt.drew F.1).cell 2
                have e3 := (BlkAt.drew F.1).cell 3
                have e4 := (BlkAt.drew F.1).cell 4
                have e5 := (BlkAt.drew F.1).cell 5
                refine bodyPost_ret (v := .tuple #[insR ((k : Int) + 1) (bits .and .i64 (n / 128) 31) (bits .and .i64 (n / 32768) 31) 0 (v - 4096) 73, .bool true]) ?_ rfl ⟨OX.out _ _ _ _ _ rfl rfl rfl HN.out rfl, (grown_drew F.2)⟩
                clear F x0 x1 x2 x3 x4 x5 y1 y2 y3 y4 z0 z1 z2 z3 z4 z5 t0 t1 t2 t3 t4 t5
                generalize World.drew _ = WF at *
                simp [results, Tryd.results25, go_sem, insR, e0, e1, e2, e3, e4, e5]
              · have d1 : (v / 2 ^ 11 % 2 == 1) = false := beq_eq_false_iff_ne.2 hsb
                have HN := hid ((numN_3 n v HNZ.out hv0 hv1).2 hsb)
                clear hsb
                generalize v / 2 ^ 11 % 2 = sb at *
                go_wp2_with fail
                refine (cB.out _).mono ?_
                rintro e w5 ⟨rfl, rfl⟩
                go_wp2
                have F := put6 (W := ((w5.setCell ⟨X, 1, none⟩ (.int .i64 (bits .and .i64 (n / 128) 31))).setCell ⟨X, 2, none⟩ (.int .i64 (bits .and .i64 (n / 32768) 31)))) (grown_new (grown_new GW.out (by omega) _ _) (by omega) _ _) (blk_other (blk_other BR4.out hne _ _) hne _ _) (.int .i64 ((k : Int) + 1)) (.int .i64 (bits .and .i64 (n / 128) 31)) (.int .i64 (bits .and .i64 (n / 32768) 31)) (.int .i64 0) (.int .i64 v) (.int .u8 73)
                have e0 := (F.1).cell 0
                have e1 := (F.1).cell 1
                have e2 := (F.1).cell 2
                have e3 := (F.1).cell 3
                have e4 := (F.1).cell 4
                have e5 := (F.1).cell 5
                refine bodyPost_ret (v := .tuple #[insR ((k : Int) + 1) (bits .and .i64 (n / 128) 31) (bits .and .i64 (n / 32768) 31) 0 v 73, .bool true]) ?_ rfl ⟨OX.out _ _ _ _ _ rfl rfl rfl HN.out rfl, F.2⟩
                clear F x0 x1 x2 x3 x4 x5 y1 y2 y3 y4 z0 z1 z2 z3 z4 z5 t0 t1 t2 t3 t4 t5
                simp [results, Tryd.results25, go_sem, insR, e0, e1, e2, e3, e4, e5]
            · rw [show formB 4 = 66 from rfl, show wideN 4 = 13 from rfl]
              have x5 : w4.cell? ⟨X, 5, none⟩ = some (.int .u8 66) := HBX.out.cell 5
              rw [show wideN 4 = 13 from rfl] at hv1
              simp only [Int.reducePow] at hv1
              have cB := hid (fun W => bit_lit v 12 12 rfl W hv0 (by omega) (by decide))
              by_cases hsb : v / 2 ^ 12 % 2 = 1
              · have d1 : (v / 2 ^ 12 % 2 == 1) = true := beq_iff_eq.2 hsb
                have HN := hid ((numN_4 n v HNZ.out hv0 hv1).1 hsb)
                clear hsb
                generalize v / 2 ^ 12 % 2 = sb at *
                go_wp2_with fail
                refine (cB.out _).mono ?_
                rintro e w5 ⟨rfl, rfl⟩
                go_wp2
                go_region
                go_wp2
                have F := put6 (W := (((w5.setCell ⟨X, 4, none⟩ (.int .i64 (v - 8192))).setCell ⟨X, 2, none⟩ (.int .i64 (bits .and .i64 (n / 32768) 31))).setCell ⟨X, 3, none⟩ (.int .i64 (bits .and .i64 (n / 1048576) 31)))) (grown_new (grown_new (grown_new GW.out (by omega) _ _) (by omega) _ _) (by omega) _ _) (blk_other (blk_other (blk_other BR4.out hne _ _) hne _ _) hne _ _) (.int .i64 ((k : Int) + 1)) (.int .i64 0) (.int .i64 (bits .and .i64 (n / 32768) 31)) (.int .i64 (bits .and .i64 (n / 1048576) 31)) (.int .i64 (v - 8192)) (.int .u8 66)
                have e0 := (BlkAt.drew F.1).cell 0
                have e1 := (BlkAt.drew F.1).cell 1
                have e2 := (BlkAt.drew F.1).cell 2
                have e3 := (BlkAt.drew F.1).cell 3
                have e4 := (BlkAt.drew F.1).cell 4
                have e5 := (BlkAt.drew F.1).cell 5
                refine bodyPost_ret (v := .tuple #[insR ((k : Int) + 1) 0 (bits .and .i64 (n / 32768) 31) (bits .and .i64 (n / 1048576) 31) (v - 8192) 66, .bool true]) ?_ rfl ⟨OX.out _ _ _ _ _ rfl rfl rfl HN.out rfl, (grown_drew F.2)⟩
                clear F x0 x1 x2 x3 x4 x5 y1 y2 y3 y4 z0 z1 z2 z3 z4 z5 t0 t1 t2 t3 t4 t5
                generalize World.drew _ = WF at *
                simp [results, Tryd.results25, go_sem, insR, e0, e1, e2, e3, e4, e5]
              · have d1 : (v / 2 ^ 12 % 2 == 1) = false := beq_eq_false_iff_ne.2 hsb
                have HN := hid ((numN_4 n v HNZ.out hv0 hv1).2 hsb)
                clear hsb
                generalize v / 2 ^ 12 % 2 = sb at *
                go_wp2_with fail
                refine (cB.out _).mono ?_
                rintro e w5 ⟨rfl, rfl⟩
                go_wp2
                have F := put6 (W := ((w5.setCell ⟨X, 2, none⟩ (.int .i64 (bits .and .i64 (n / 32768) 31))).setCell ⟨X, 3, none⟩ (.int .i64 (bits .and .i64 (n / 1048576) 31)))) (grown_new (grown_new GW.out (by omega) _ _) (by omega) _ _) (blk_other (blk_other BR4.out hne _ _) hne _ _) (.int .i64 ((k : Int) + 1)) (.int .i64 0) (.int .i64 (bits .and .i64 (n / 32768) 31)) (.int .i64 (bits .and .i64 (n / 1048576) 31)) (.int .i64 v) (.int .u8 66)
                have e0 := (F.1).cell 0
                have e1 := (F.1).cell 1
                have e2 := (F.1).cell 2
                have e3 := (F.1).cell 3
                have e4 := (F.1).cell 4
                have e5 := (F.1).cell 5
                refine bodyPost_ret (v := .tuple #[insR ((k : Int) + 1) 0 (bits .and .i64 (n / 32768) 31) (bits .and .i64 (n / 1048576) 31) v 66, .bool true]) ?_ rfl ⟨OX.out _ _ _ _ _ rfl rfl rfl HN.out rfl, F.2⟩
                clear F x0 x1 x2 x3 x4 x5 y1 y2 y3 y4 z0 z1 z2 z3 z4 z5 t0 t1 t2 t3 t4 t5
                simp [results, Tryd.results25, go_sem, insR, e0, e1, e2, e3, e4, e5]
            · rw [show formB 5 = 83 from rfl, show wideN 5 = 12 from rfl]
              have x5 : w4.cell? ⟨X, 5, none⟩ = some (.int .u8 83) := HBX.out.cell 5
              rw [show wideN 5 = 12 from rfl] at hv1
              simp only [Int.reducePow] at hv1
              have cB := hid (fun W => bit_lit v 11 11 rfl W hv0 (by omega) (by decide))
              by_cases hsb : v / 2 ^ 11 % 2 = 1
              · have d1 : (v / 2 ^ 11 % 2 == 1) = true := beq_iff_eq.2 hsb
                have HN := hid ((numN_5 n v HNZ.out hv0 hv1).1 hsb)
                clear hsb
                generalize v / 2 ^ 11 % 2 = sb at *
                go_wp2_with fail
                refine (cB.out _).mono ?_
                rintro e w5 ⟨rfl, rfl⟩
                go_wp2
                go_region
                go_wp2
                have F := put6 (W := (((w5.setCell ⟨X, 4, none⟩ (.int .i64 (v - 4096))).setCell ⟨X, 2, none⟩ (.int .i64 (bits .and .i64 (n / 32768) 31))).setCell ⟨X, 3, none⟩ (.int .i64 (bits .and .i64 (n / 1048576) 31)))) (grown_new (grown_new (grown_new GW.out (by omega) _ _) (by omega) _ _) (by omega) _ _) (blk_other (blk_other (blk_other BR4.out hne _ _) hne _ _) hne _ _) (.int .i64 ((k : Int) + 1)) (.int .i64 0) (.int .i64 (bits .and .i64 (n / 32768) 31)) (.int .i64 (bits .and .i64 (n / 1048576) 31)) (.int .i64 (v - 4096)) (.int .u8 83)
                have e0 := (BlkAt.drew F.1).cell 0
                have e1 := (BlkAt.drew F.1).cell 1
                have e2 := (BlkAt.drew F.1).cell 2
                have e3 := (BlkAt.drew F.1).cell 3
                have e4 := (BlkAt.drew F.1).cell 4
                have e5 := (BlkAt.drew F.1).cell 5
                refine bodyPost_ret (v := .tuple #[insR ((k : Int) + 1) 0 (bits .and .i64 (n / 32768) 31) (bits .and .i64 (n / 1048576) 31) (v - 4096) 83, .bool true]) ?_ rfl ⟨OX.out _ _ _ _ _ rfl rfl rfl HN.out rfl, (grown_drew F.2)⟩
                clear F x0 x1 x2 x3 x4 x5 y1 y2 y3 y4 z0 z1 z2 z3 z4 z5 t0 t1 t2 t3 t4 t5
                generalize World.drew _ = WF at *
                simp [results, Tryd.results25, go_sem, insR, e0, e1, e2, e3, e4, e5]
              · have d1 : (v / 2 ^ 11 % 2 == 1) = false := beq_eq_false_iff_ne.2 hsb
                have HN := hid ((numN_5 n v HNZ.out hv0 hv1).2 hsb)
                clear hsb
                generalize v / 2 ^ 11 % 2 = sb at *
                go_wp2_with fail
                refine (cB.out _).mono ?_
                rintro e w5 ⟨rfl, rfl⟩
                go_wp2
                have F := put6 (W := ((w5.setCell ⟨X, 2, none⟩ (.int .i64 (bits .and .i64 (n / 32768) 31))).setCell ⟨X, 3, none⟩ (.int .i64 (bits .and .i64 (n / 1048576) 31)))) (grown_new (grown_new GW.out (by omega) _ _) (by omega) _ _) (blk_other (blk_other BR4.out hne _ _) hne _ _) (.int .i64 ((k : Int) + 1)) (.int .i64 0) (.int .i64 (bits .and .i64 (n / 32768) 31)) (.int .i64 (bits .and .i64 (n / 1048576) 31)) (.int .i64 v) (.int .u8 83)
                have e0 := (F.1).cell 0
                have e1 := (F.1).cell 1
                have e2 := (F.1).cell 2
                have e3 := (F.1).cell 3
                have e4 := (F.1).cell 4
                have e5 := (F.1).cell 5
                refine bodyPost_ret (v := .tuple #[insR ((k : Int) + 1) 0 (bits .and .i64 (n / 32768) 31) (bits .and .i64 (n / 1048576) 31) v 83, .bool true]) ?_ rfl ⟨OX.out _ _ _ _ _ rfl rfl rfl HN.out rfl, F.2⟩
                clear F x0 x1 x2 x3 x4 x5 y1 y2 y3 y4 z0 z1 z2 z3 z4 z5 t0 t1 t2 t3 t4 t5
                simp [results, Tryd.results25, go_sem, insR, e0, e1, e2, e3, e4, e5]
            · rw [show formB 6 = 82 from rfl, show wideN 6 = 12 from rfl]
              have x5 : w4.cell? ⟨X, 5, none⟩ = some (.int .u8 82) := HBX.out.cell 5
              rw [show wideN 6 = 12 from rfl] at hv1
              simp only [Int.reducePow] at hv1
              have cB := hid (fun W => bit_lit v 11 11 rfl W hv0 (by omega) (by decide))
              by_cases hsb : v / 2 ^ 11 % 2 = 1
              · have d1 : (v / 2 ^ 11 % 2 == 1) = true := beq_iff_eq.2 hsb
                have HN := hid ((numN_6 n v HNZ.out hv0 hv1).1 hsb)
                clear hsb
                generalize v / 2 ^ 11 % 2 = sb at *
                go_wp2_with fail
                refine (cB.out _).mono ?_
                rintro e w5 ⟨rfl, rfl⟩
                go_wp2
                go_region
                go_wp2
                have F := put6 (W := ((((w5.setCell ⟨X, 4, none⟩ (.int .i64 (v - 4096))).setCell ⟨X, 1, none⟩ (.int .i64 (bits .and .i64 (n / 128) 31))).setCell ⟨X, 2, none⟩ (.int .i64 (bits .and .i64 (n / 32768) 31))).setCell ⟨X, 3, none⟩ (.int .i64 (bits .and .i64 (n / 1048576) 31)))) (grown_new (grown_new (grown_new (grown_new GW.out (by omega) _ _) (by omega) _ _) (by omega) _ _) (by omega) _ _) (blk_other (blk_other (blk_other (blk_other BR4.out hne _ _) hne _ _) hne _ _) hne _ _) (.int .i64 ((k : Int) + 1)) (.int .i64 (bits .and .i64 (n / 128) 31)) (.int .i64 (bits .and .i64 (n / 32768) 31)) (.int .i64 (bits .and .i64 (n / 1048576) 31)) (.int .i64 (v - 4096)) (.int .u8 82)
                have e0 := (BlkAt.drew F.1).cell 0
                have e1 := (BlkAt.drew F.1).cell 1
                have e2 := (BlkAt.drew F.1).cell 2
                have e3 := (BlkAt.drew F.1).cell 3
                have e4 := (BlkAt.drew F.1).cell 4
                have e5 := (BlkAt.drew F.1).cell 5
                refine bodyPost_ret (v := .tuple #[insR ((k : Int) + 1) (bits .and .i64 (n / 128) 31) (bits .and .i64 (n / 32768) 31) (bits .and .i64 (n / 1048576) 31) (v - 4096) 82, .bool true]) ?_ rfl ⟨OX.out _ _ _ _ _ rfl rfl rfl HN.out rfl, (grown_drew F.2)⟩
                clear F x0 x1 x2 x3 x4 x5 y1 y2 y3 y4 z0 z1 z2 z3 z4 z5 t0 t1 t2 t3 t4 t5
                generalize World.drew _ = WF at *
                simp [results, Tryd.results25, go_sem, insR, e0, e1, e2, e3, e4, e5]
              · have d1 : (v / 2 ^ 11 % 2 == 1) = false := beq_eq_false_iff_ne.2 hsb
                have HN := hid ((numN_6 n v HNZ.out hv0 hv1).2 hsb)
                clear hsb
                generalize v / 2 ^ 11 % 2 = sb at *
                go_wp2_with fail
                refine (cB.out _).mono ?_
                rintro e w5 ⟨rfl, rfl⟩
                go_wp2
                have F := put6 (W := (((w5.setCell ⟨X, 1, none⟩ (.int .i64 (bits .and .i64 (n / 128) 31))).setCell ⟨X, 2, none⟩ (.int .i64 (bits .and .i64 (n / 32768) 31))).setCell ⟨X, 3, none⟩ (.int .i64 (bits .and .i64 (n / 1048576) 31)))) (grown_new (grown_new (grown_new GW.out (by omega) _ _) (by omega) _ _) (by omega) _ _) (blk_other (blk_other (blk_other BR4.out hne _ _) hne _ _) hne _ _) (.int .i64 ((k : Int) + 1)) (.int .i64 (bits .and .i64 (n / 128) 31)) (.int .i64 (bits .and .i64 (n / 32768) 31)) (.int .i64 (bits .and .i64 (n / 1048576) 31)) (.int .i64 v) (.int .u8 82)
                have e0 := (F.1).cell 0
                have e1 := (F.1).cell 1
                have e2 := (F.1).cell 2
                have e3 := (F.1).cell 3
                have e4 := (F.1).cell 4
                have e5 := (F.1).cell 5
                refine bodyPost_ret (v := .tuple #[insR ((k : Int) + 1) (bits .and .i64 (n / 128) 31) (bits .and .i64 (n / 32768) 31) (bits .and .i64 (n / 1048576) 31) v 82, .bool true]) ?_ rfl ⟨OX.out _ _ _ _ _ rfl rfl rfl HN.out rfl, F.2⟩
                clear F x0 x1 x2 x3 x4 x5 y1 y2 y3 y4 z0 z1 z2 z3 z4 z5 t0 t1 t2 t3 t4 t5
                simp [results, Tryd.results25, go_sem, insR, e0, e1, e2, e3, e4, e5]
            · rw [show formB 7 = 69 from rfl, show wideN 7 = 12 from rfl]
              have x5 : w4.cell? ⟨X, 5, none⟩ = some (.int .u8 69) := HBX.out.cell 5
              rw [show wideN 7 = 12 from rfl] at hv1
              simp only [Int.reducePow] at hv1
              have cB := hid (fun W => bit_lit v 11 11 rfl W hv0 (by omega) (by decide))
              by_cases hsb : v / 2 ^ 11 % 2 = 1
              · have d1 : (v / 2 ^ 11 % 2 == 1) = true := beq_iff_eq.2 hsb
                have HN := hid ((numN_7 n v HNZ.out hv0 hv1).1 hsb)
                clear hsb
                generalize v / 2 ^ 11 % 2 = sb at *
                go_wp2_with fail
                refine (cB.out _).mono ?_
                rintro e w5 ⟨rfl, rfl⟩
                go_wp2
                go_region
                go_wp2
                have F := put6 (W := (w5.setCell ⟨X, 4, none⟩ (.int .i64 (v - 4096)))) (grown_new GW.out (by omega) _ _) (blk_other BR4.out hne _ _) (.int .i64 ((k : Int) + 1)) (.int .i64 0) (.int .i64 0) (.int .i64 0) (.int .i64 (v - 4096)) (.int .u8 69)
                have e0 := (BlkAt.drew F.1).cell 0
                have e1 := (BlkAt.drew F.1).cell 1
                have e2 := (BlkAt.drew F.1).cell 2
                have e3 := (BlkAt.drew F.1).cell 3
                have e4 := (BlkAt.drew F.1).cell 4
                have e5 := (BlkAt.drew F.1).cell 5
                refine bodyPost_ret (v := .tuple #[insR ((k : Int) + 1) 0 0 0 (v - 4096) 69, .bool true]) ?_ rfl ⟨OX.out _ _ _ _ _ rfl rfl rfl HN.out rfl, (grown_drew F.2)⟩
                clear F x0 x1 x2 x3 x4 x5 y1 y2 y3 y4 z0 z1 z2 z3 z4 z5 t0 t1 t2 t3 t4 t5
                generalize World.drew _ = WF at *
                simp [results, Tryd.results25, go_sem, insR, e0, e1, e2, e3, e4, e5]
              · have d1 : (v / 2 ^ 11 % 2 == 1) = false := beq_eq_false_iff_ne.2 hsb
                have HN := hid ((numN_7 n v HNZ.out hv0 hv1).2 hsb)
                clear hsb
                generalize v / 2 ^ 11 % 2 = sb at *
                go_wp2_with fail
                refine (cB.out _).mono ?_
                rintro e w5 ⟨rfl, rfl⟩
                go_wp2
                have F := put6 (W := w5) GW.out BR4.out (.int .i64 ((k : Int) + 1)) (.int .i64 0) (.int .i64 0) (.int .i64 0) (.int .i64 v) (.int .u8 69)
                have e0 := (F.1).cell 0
                have e1 := (F.1).cell 1
                have e2 := (F.1).cell 2
                have e3 := (F.1).cell 3
                have e4 := (F.1).cell 4
                have e5 := (F.1).cell 5
                refine bodyPost_ret (v := .tuple #[insR ((k : Int) + 1) 0 0 0 v 69, .bool true]) ?_ rfl ⟨OX.out _ _ _ _ _ rfl rfl rfl HN.out rfl, F.2⟩
                clear F x0 x1 x2 x3 x4 x5 y1 y2 y3 y4 z0 z1 z2 z3 z4 z5 t0 t1 t2 t3 t4 t5
                simp [results, Tryd.results25, go_sem, insR, e0, e1, e2, e3, e4, e5]
      · have d : (bits .and .i64 n (maskF f) == x) = false := beq_eq_false_iff_ne.2 (fun h => hI (IsE.out.2 h))
        have HI := hid hI
        clear hI
        go_wp2
        go_quiet (fail)
        go_wp2
        go_roundw
        case rel => exact ⟨k + 1, by omega, by go_num, fun j hj hjk => (Nat.lt_succ_iff_lt_or_eq.1 hjk).elim (fun h => HA.out j hj h) (fun h => by subst h; exact HI.out), grown_drewN HG.out _⟩
        case measure => simp [intOf]; omega
    · have z0 := (BR.out.grown HG.out (by simp)).cell 0
      have z1 := (BR.out.grown HG.out (by simp)).cell 1
      have z2 := (BR.out.grown HG.out (by simp)).cell 2
      have z3 := (BR.out.grown HG.out (by simp)).cell 3
      have z4 := (BR.out.grown HG.out (by simp)).cell 4
      have z5 := (BR.out.grown HG.out (by simp)).cell 5
      have t0 := (BR.out.grown HG.out (by simp)).free 0
      have t1 := (BR.out.grown HG.out (by simp)).free 1
      have t2 := (BR.out.grown HG.out (by simp)).free 2
      have t3 := (BR.out.grown HG.out (by simp)).free 3
      have t4 := (BR.out.grown HG.out (by simp)).free 4
      have t5 := (BR.out.grown HG.out (by simp)).free 5
      go_wp2
      have F := put6 (W := wr) (grown_trans G1.out HG.out) (BR.out.grown HG.out (by simp)) (.int .i64 0) (.int .i64 0) (.int .i64 0) (.int .i64 0) (.int .i64 0) (.int .u8 0)
      have e0 := F.1.cell 0
      have e1 := F.1.cell 1
      have e2 := F.1.cell 2
      have e3 := F.1.cell 3
      have e4 := F.1.cell 4
      have e5 := F.1.cell 5
      have OP := Mc.opOf_none n (fun j h1 h2 => HA.out j h1 (by omega))
      have FO : Mc.formOf n = 0 := by unfold Mc.formOf; rw [OP]; rfl
      refine bodyPost_ret (v := .tuple #[insR 0 0 0 0 0 0, .bool false]) ?_ rfl ⟨by unfold OfV; rw [OP, FO]; rfl, F.2⟩
      clear F z0 z1 z2 z3 z4 z5 t0 t1 t2 t3 t4 t5
      generalize World.setCell _ _ _ = WF at *
      simp [results, Tryd.results25, go_sem, insR, e0, e1, e2, e3, e4, e5]

end Go.Proofs.YtaiplongpjimnaaDoor

namespace Go.Proofs.YtaiplongpjimnaaDoor
open Go.RowKit

namespace Mc
theorem set_stepk (r v : Int) (k : Nat) (st : St) : set r v { st with steps := k } = { set r v st with steps := k } := by unfold set; split <;> rfl
theorem call_stepk (ins : List Int) (k : Nat) (st : Mc.St) : Mc.call ins { st with steps := k } = { Mc.call ins st with steps := k } := by
  unfold Mc.call
  have r : ∀ j, Mc.reg { st with steps := k } j = Mc.reg st j := fun _ => rfl
  simp only [r]
  split
  · rfl
  split
  · split <;> rfl
  split
  · split
    · rfl
    · rw [set_stepk]
  · rfl
theorem load_stepk (m : Im.Img) (rd a : Int) (k : Nat) (st : Mc.St) : Mc.load m rd a { st with steps := k } = { Mc.load m rd a st with steps := k } := by
  unfold Mc.load
  cases Im.code m a with
  | some w => exact set_stepk _ _ _ _
  | none =>
    simp only
    split
    · exact set_stepk _ _ _ _
    · rfl
theorem doIt_stepk (m : Im.Img) (ins : List Int) (op rd rs1 rs2 n : Int) (k : Nat) (st : Mc.St) : Mc.doIt m ins op rd rs1 rs2 n { st with steps := k } = { Mc.doIt m ins op rd rs1 rs2 n st with steps := k } := by
  unfold Mc.doIt
  by_cases h0 : op = 0
  · rw [if_pos h0, if_pos h0]
  rw [if_neg h0, if_neg h0]
  by_cases h1 : op = 1
  · rw [if_pos h1, if_pos h1]
    exact set_stepk _ _ _ _
  rw [if_neg h1, if_neg h1]
  by_cases h2 : op = 2
  · rw [if_pos h2, if_pos h2]
    exact set_stepk _ _ _ _
  rw [if_neg h2, if_neg h2]
  by_cases h3 : op = 3
  · rw [if_pos h3, if_pos h3]
    unfold jump; rw [set_stepk]
  rw [if_neg h3, if_neg h3]
  by_cases h4 : op = 4
  · rw [if_pos h4, if_pos h4]
    show jump rd (reg st rs1 + n - (reg st rs1 + n) % 2) { st with steps := k } = _; unfold jump; rw [set_stepk]
  rw [if_neg h4, if_neg h4]
  by_cases h5 : 5 ≤ op ∧ op ≤ 10
  · rw [if_pos h5, if_pos h5]
    show branch (holds op (reg st rs1) (reg st rs2)) n { st with steps := k } = _; unfold branch; cases holds op (reg st rs1) (reg st rs2) <;> rfl
  rw [if_neg h5, if_neg h5]
  by_cases h6 : op = 11
  · rw [if_pos h6, if_pos h6]
    exact load_stepk _ _ _ _ _
  rw [if_neg h6, if_neg h6]
  by_cases h7 : op = 12
  · rw [if_pos h7, if_pos h7]
    show store m (wd (reg st rs1 + n)) (reg st rs2) { st with steps := k } = _; unfold store; dsimp only; by_cases q : 0 ≤ Im.place m.data st.data.length (wd (reg st rs1 + n)) <;> simp only [q, if_true, if_false]
  rw [if_neg h7, if_neg h7]
  by_cases h8 : 13 ≤ op ∧ op ≤ 17
  · rw [if_pos h8, if_pos h8]
    exact set_stepk _ _ _ _
  rw [if_neg h8, if_neg h8]
  by_cases h9 : op = 25
  · rw [if_pos h9, if_pos h9]
    exact call_stepk _ _ _
  rw [if_neg h9, if_neg h9]
  exact set_stepk _ _ _ _
theorem step_did (m : Im.Img) (ins : List Int) (st : St) (w : Int) (h : Im.code m st.pc = some w) : step m ins st = { did m ins (opOf w) (rdF (formOf w) w) (rs1F (formOf w) w) (rs2F (formOf w) w) (numF (formOf w) w) st with steps := st.steps + 1 } := by
  unfold step did
  rw [h]
  simp only
  rw [show ({ st with steps := st.steps + 1, next := wd (st.pc + 4) } : St) = { ({ st with next := wd (st.pc + 4) } : St) with steps := st.steps + 1 } from rfl, doIt_stepk]
theorem Same.steps {s t : St} (h : Same s t) (k : Nat) : Same s { t with steps := k } := ⟨h.regs, h.data, h.ende, h.code, h.out, h.read, h.pc⟩
theorem same_step (m : Im.Img) (ins : List Int) (s t : St) (h : Same s t) (hs : s.steps = t.steps) (h0 : t.ende = 0) : Same (step m ins s) (step m ins t) ∧ (step m ins s).steps = (step m ins t).steps := by
  have e : s = { t with next := s.next } := by
    cases s; cases t
    have h1 := h.regs; have h2 := h.data; have h3 := h.ende; have h4 := h.code; have h5 := h.out; have h6 := h.read; have h7 := h.pc h0
    simp only at h1 h2 h3 h4 h5 h6 h7 hs
    subst h1; subst h2; subst h3; subst h4; subst h5; subst h6; subst h7; subst hs
    rfl
  rw [e]
  generalize s.next = x
  unfold step
  dsimp only
  cases Im.code m t.pc with
  | none => exact ⟨⟨rfl, rfl, rfl, rfl, rfl, rfl, fun _ => rfl⟩, rfl⟩
  | some w => exact ⟨⟨rfl, rfl, rfl, rfl, rfl, rfl, fun _ => rfl⟩, rfl⟩
theorem same_steps (m : Im.Img) (ins : List Int) (fuel : Nat) : ∀ (k : Nat) (s t : St), Same s t → s.steps = t.steps → Same (steps m ins fuel k s) (steps m ins fuel k t) ∧ (steps m ins fuel k s).steps = (steps m ins fuel k t).steps := by
  intro k
  induction k with
  | zero => intro s t h hs; exact ⟨h, hs⟩
  | succ k ih =>
    intro s t h hs
    by_cases hc : t.ende = 0 ∧ t.steps < fuel
    · have hc2 : s.ende = 0 ∧ s.steps < fuel := by rw [h.ende, hs]; exact hc
      rw [steps_more m ins fuel k s hc2, steps_more m ins fuel k t hc]
      obtain ⟨a, b⟩ := same_step m ins s t h hs hc.1
      exact ih _ _ a b
    · have hc2 : ¬ (s.ende = 0 ∧ s.steps < fuel) := by rw [h.ende, hs]; exact hc
      rw [steps_end m ins fuel _ s hc2, steps_end m ins fuel _ t hc]
      exact ⟨h, hs⟩
end Mc

theorem Ticks.to {W0 : World} {b g : Nat} {vin : Value} {n k : Nat} {t : Mc.St} {W : World} (h : Ticks W0 b g vin n t W) : Ticks W0 b g vin n { t with steps := k } W := by
  obtain ⟨s, vr, vd, vo, h1, h2, h3⟩ := h
  exact ⟨s, vr, vd, vo, h1, h2.steps k, h3⟩

set_option maxRecDepth 100000 in
set_option maxHeartbeats 4000000 in
theorem tick_none (W0 : World) (b g : Nat) (ai : Option Addr) (ci : Nat) (ins : List Int) (st : Mc.St) (vr vd vo : Value) (m : Im.Img) (W : World) (h : StAt W0 b g (.slice ai ins.length ci) st vr vd vo W) (hI : RImgAt W0 g m) (hT : Im.Tame m) (hc : Im.code m st.pc = none) :
    Calls Tryd.prog 17 #[.pointer (some ⟨b, 0, none⟩)] W fun e W' => e = .returned (.tuple #[]) ∧ Ticks W0 b g (.slice ai ins.length ci) st.steps (Mc.step m ins st) W' := by
  have hp := h.ok.pc
  have cC := hid (fun k => fetch_any g m st.pc (W.drewN k) (hI.kept (grown_drewN h.gr k)) hT hp.1 hp.2)
  rw [hc] at cC
  have SM := hid (show Mc.Same { st with ende := 2 } (Mc.step m ins st) by
    unfold Mc.step
    rw [hc]
    exact ⟨rfl, rfl, rfl, rfl, rfl, rfl, fun e => absurd (show (2 : Int) = 0 from e) (by decide)⟩)
  have H := hid h
  have c0 : W.cell? ⟨b, 0, none⟩ = some (.pointer (some ⟨g, 0, none⟩)) := h.cells 0
  have c2 : W.cell? ⟨b, 2, none⟩ = some (.int .i64 st.pc) := h.cells 2
  clear h
  simp only [Option.getD_none, Option.isSome_none] at cC
  go_enter Tryd.func17, Tryd.ntmps17
  go_wp2
  go_quiet ((go_at_call 15; exact Calls.quiet_of (cC.out _)))
  have H1 := hid (H.out.grown (grown_drewN (World.grownBy.refl _ none) nq))
  clear H cC c0 c2
  generalize W.drewN nq = V at *
  have c5 : V.cell? ⟨b, 5, none⟩ = some (.int .i64 st.ende) := H1.out.cells 5
  have f5 := H1.out.free 5
  go_wp2
  (try simp only [Exit.inBlock, Exit.then]); refine bodyPost_ret (results_none rfl _ _ _) rfl ?_
  exact ⟨rfl, _, _, _, _, H1.out.putEnd 2, SM.out, rfl⟩

set_option maxRecDepth 100000 in
set_option maxHeartbeats 4000000 in
theorem tick_bad (W0 : World) (b g : Nat) (ai : Option Addr) (ci : Nat) (ins : List Int) (st : Mc.St) (vr vd vo : Value) (m : Im.Img) (W : World) (wv : Int) (h : StAt W0 b g (.slice ai ins.length ci) st vr vd vo W) (hI : RImgAt W0 g m) (hT : Im.Tame m) (hc : Im.code m st.pc = some wv) (hw0 : 0 ≤ wv) (hw1 : wv ≤ 4294967295) (ho : Mc.opOf wv = 0) :
    Calls Tryd.prog 17 #[.pointer (some ⟨b, 0, none⟩)] W fun e W' => e = .returned (.tuple #[]) ∧ Ticks W0 b g (.slice ai ins.length ci) st.steps (Mc.step m ins st) W' := by
  have hp := h.ok.pc
  have cC := hid (fun k => fetch_any g m st.pc (W.drewN k) (hI.kept (grown_drewN h.gr k)) hT hp.1 hp.2)
  rw [hc] at cC
  have SM := hid (show Mc.Same { st with ende := 3 } (Mc.step m ins st) by
    unfold Mc.step
    rw [hc]
    simp only [ho]
    exact ⟨rfl, rfl, rfl, rfl, rfl, rfl, fun e => absurd (show (3 : Int) = 0 from e) (by decide)⟩)
  have cO := hid (fun V => of_exact wv V hw0 hw1)
  unfold OfV at cO
  have FO : Mc.formOf wv = 0 := by unfold Mc.formOf; rw [ho]; rfl
  rw [ho, FO] at cO
  unfold insR at cO
  have H := hid h
  have c0 : W.cell? ⟨b, 0, none⟩ = some (.pointer (some ⟨g, 0, none⟩)) := h.cells 0
  have c2 : W.cell? ⟨b, 2, none⟩ = some (.int .i64 st.pc) := h.cells 2
  clear h
  simp only [Option.getD_some, Option.isSome_some] at cC
  simp only [ne_eq, not_true_eq_false, decide_false] at cO
  go_enter Tryd.func17, Tryd.ntmps17
  go_wp2
  go_quiet ((go_at_call 15; exact Calls.quiet_of (cC.out _)))
  have H1 := hid (H.out.grown (grown_drewN (World.grownBy.refl _ none) nq))
  clear H cC c0 c2
  generalize W.drewN nq = V at *
  go_wp2_with fail
  refine (cO.out _).mono ?_
  rintro e V2 ⟨rfl, hg2⟩
  have H2 := hid (H1.out.grown hg2)
  have c5 : V2.cell? ⟨b, 5, none⟩ = some (.int .i64 st.ende) := H2.out.cells 5
  have f5 := H2.out.free 5
  have hlt := H2.out.blk.lt
  clear H1 hg2 cO
  go_wp2
  (try simp only [Exit.inBlock, Exit.then]); refine bodyPost_ret (results_none rfl _ _ _) rfl ?_
  exact ⟨rfl, _, _, _, _, (H2.out.putEnd 3).grown (World.grownBy_alloc _ _ none), SM.out, rfl⟩

theorem rTick_any (W0 : World) (b g : Nat) (ai : Option Addr) (ci : Nat) (ins : List Int) (st : Mc.St) (vr vd vo : Value) (m : Im.Img) (W : World) (h : StAt W0 b g (.slice ai ins.length ci) st vr vd vo W) (hI : RImgAt W0 g m) (hT : Im.Tame m) (hW : Im.Wordy m) (hin : IntsIn W0 ai ins) (hl : ins.length ≤ 16) :
    Calls Tryd.prog 17 #[.pointer (some ⟨b, 0, none⟩)] W fun e W' => e = .returned (.tuple #[]) ∧ Ticks W0 b g (.slice ai ins.length ci) st.steps (Mc.step m ins st) W' := by
  cases hc : Im.code m st.pc with
  | none => exact tick_none W0 b g ai ci ins st vr vd vo m W h hI hT hc
  | some wv =>
    obtain ⟨hw0, hw1⟩ := code_word hW hc
    by_cases ho : Mc.opOf wv = 0
    · exact tick_bad W0 b g ai ci ins st vr vd vo m W wv h hI hT hc hw0 hw1 ho
    have cO := fun V => of_exact wv V hw0 hw1
    unfold OfV at cO
    rw [decide_eq_true ho] at cO
    rw [Mc.step_did m ins st wv hc]
    have r1 := rng_rdF (Mc.formOf wv) wv hw0 hw1
    have r2 := rng_rs1F (Mc.formOf wv) wv hw0 hw1
    have r3 := rng_rs2F (Mc.formOf wv) wv hw0 hw1
    have r4 := rng_numF (Mc.formOf wv) wv hw0 hw1
    have r5 := opOf_range wv
    have hf : fbF (Mc.formOf wv) = fbF (formL.getD (Mc.opOf wv) 0) := rfl
    rw [hf] at cO
    clear hf
    generalize rdF (Mc.formOf wv) wv = rd at *
    generalize rs1F (Mc.formOf wv) wv = rs1 at *
    generalize rs2F (Mc.formOf wv) wv = rs2 at *
    generalize Mc.numF (Mc.formOf wv) wv = n at *
    generalize Mc.opOf wv = op at *
    obtain ⟨rd, rfl⟩ := Int.eq_ofNat_of_zero_le r1.1
    obtain ⟨rs1, rfl⟩ := Int.eq_ofNat_of_zero_le r2.1
    obtain ⟨rs2, rfl⟩ := Int.eq_ofNat_of_zero_le r3.1
    have P : ∀ fb, fbF (formL.getD op 0) = fb → TickPre W0 b g ai ci ins st vr vd vo m W wv op rd rs1 rs2 n fb := fun fb e => ⟨h, hI, hT, hin, hl, hc, by rw [← e]; exact cO, by omega, by omega, by omega, r4.1, r4.2, h.lo⟩
    suffices S : Calls Tryd.prog 17 #[.pointer (some ⟨b, 0, none⟩)] W fun e W' => e = .returned (.tuple #[]) ∧ Ticks W0 b g (.slice ai ins.length ci) st.steps (Mc.did m ins op rd rs1 rs2 n st) W' from S.mono fun e W' k => ⟨k.1, k.2.to⟩
    clear cO
    rcases (show op = 1 ∨ op = 2 ∨ op = 3 ∨ op = 4 ∨ (5 ≤ op ∧ op ≤ 10) ∨ op = 11 ∨ op = 12 ∨ (13 ≤ op ∧ op ≤ 17) ∨ (18 ≤ op ∧ op ≤ 24) ∨ op = 25 by omega) with rfl | rfl | rfl | rfl | q | rfl | rfl | q | q | rfl
    · exact tick_1 W0 b g ai ci ins st vr vd vo m W wv rd rs1 rs2 n _ (P _ rfl)
    · exact tick_2 W0 b g ai ci ins st vr vd vo m W wv rd rs1 rs2 n _ (P _ rfl)
    · exact tick_3 W0 b g ai ci ins st vr vd vo m W wv rd rs1 rs2 n _ (P _ rfl)
    · exact tick_4 W0 b g ai ci ins st vr vd vo m W wv rd rs1 rs2 n _ (P _ rfl)
    · refine tick_B W0 b g ai ci ins st vr vd vo m W wv op rd rs1 rs2 n (P _ ?_) q
      have : ∀ k, k < 26 → 5 ≤ k → k ≤ 10 → fbF (formL.getD k 0) = 66 := by decide
      exact this op (by omega) q.1 q.2
    · exact tick_11 W0 b g ai ci ins st vr vd vo m W wv rd rs1 rs2 n _ (P _ rfl)
    · exact tick_12 W0 b g ai ci ins st vr vd vo m W wv rd rs1 rs2 n _ (P _ rfl)
    · refine tick_I W0 b g ai ci ins st vr vd vo m W wv op rd rs1 rs2 n (P _ ?_) q
      have : ∀ k, k < 26 → 13 ≤ k → k ≤ 17 → fbF (formL.getD k 0) = 73 := by decide
      exact this op (by omega) q.1 q.2
    · refine tick_R W0 b g ai ci ins st vr vd vo m W wv op rd rs1 rs2 n (P _ ?_) q
      have : ∀ k, k < 26 → 18 ≤ k → k ≤ 24 → fbF (formL.getD k 0) = 82 := by decide
      exact this op (by omega) q.1 q.2
    · exact tick_25 W0 b g ai ci ins st vr vd vo m W wv rd rs1 rs2 n _ (P _ rfl)

end Go.Proofs.YtaiplongpjimnaaDoor
