/- Walks over the document's answer: which bits stand where. -/
/- Bits at places: the plain side. -/
/- Walks over the document's answer: the table of instructions. -/
/- Walks over package object: Read. -/
import Derived.Test.YtogbomihnhfaiaaDoorG07
namespace Go.Proofs.YtogbomihnhfaiaaDoor
open Go.RowKit

theorem cells_new (w : World) (l : List Value) (t : TypeId) : ∀ j u, l[j]? = some u → (w.alloc (.cells l.toArray t)).cell? ((⟨w.heap.size, 0, none⟩ : Addr).add j) = some u := by
  intro j u hj
  have := (BlkAt.new w l.toArray t).cell (0 + j)
  rw [show (⟨w.heap.size, 0, none⟩ : Addr).add j = ⟨w.heap.size, 0 + j, none⟩ from by simp [Addr.add]; omega, this]
  simpa using hj

/-- pairs of places: the number's bit and the word's, k of them from a on -/
def pairs (f : Nat → Int) (a : Nat) : Nat → List Int
  | 0 => []
  | k + 1 => pairs f a k ++ [((a + k : Nat) : Int), f (a + k)]
theorem pairs_length (f : Nat → Int) (a k : Nat) : (pairs f a k).length = k * 2 := by
  induction k with
  | zero => rfl
  | succ k ih => simp [pairs, ih]; omega
def fU (i : Nat) : Int := 12 + (i : Int)
def fI (i : Nat) : Int := 20 + (i : Int)
def fS (i : Nat) : Int := if 5 ≤ i then 20 + (i : Int) else 7 + (i : Int)
def fJ (i : Nat) : Int := if i = 11 then 20 else if 12 ≤ i then (i : Int) else 20 + (i : Int)
def placesL (form : Int) : List Int := if form = 1 then pairs fU 0 20 else if form = 2 then pairs fJ 1 19 ++ [20, 31] else if form = 3 then pairs fI 0 12 else if form = 4 then pairs fS 1 10 ++ [11, 7, 12, 31] else if form = 5 then pairs fS 0 12 else []

theorem own_grow {w wr w3 : World} {v : Value} {n : Nat} {xs : List Value} {o : Obj} (HG : w.grownBy wr none) (hown : wr.ownsRow w.heap.size 3 1 v n xs) (hgrow : (wr.alloc o).grownBy w3 v.ownBlock) : w.grownBy w3 none := by
  have hsz := HG.size
  exact ⟨hgrow.os.trans HG.os, hgrow.tape.trans HG.tape, hgrow.output.trans HG.output, by have := hgrow.size; simp at this; omega, fun i hi' _ =>
    (hgrow.block i (by simp; omega) (fun e => by have := (hown.lt i e.symm).1; omega)).trans ((Below.heap_alloc _ _ i (by omega)).trans (HG.block i hi' (by simp)))⟩


set_option maxRecDepth 100000 in
set_option maxHeartbeats 4000000 in
theorem places_U (w : World) :
    Calls Tryd.prog 75 #[.int .u8 85] w fun e w' => ∃ v, e = .returned v ∧ w'.ownsRow w.heap.size 3 1 v ((placesL 1).length) ((placesL 1).map (Value.int .i64)) ∧ w.grownBy w' none := by
  obtain ⟨i0, hi, hz0, hz1, hz2⟩ := info_parts Tryd.infoInt
  have HX := hid (fun k => show pairs fU 0 (k + 1) = pairs fU 0 k ++ [((0 + k : Nat) : Int), fU (0 + k)] from rfl)
  have HL := hid (show placesL 1 = pairs fU 0 20 from rfl)
  go_enter Tryd.func75, Tryd.ntmps75
  go_wp2
  go_loopw [3, 4] (fun v i wr => ∃ k : Nat, k ≤ 20 ∧ i = .int .i64 ((0 + k : Nat) : Int) ∧ wr.ownsRow w.heap.size 3 1 v (k * 2) ((pairs fU 0 k).map (Value.int .i64)) ∧ w.grownBy wr none) (fun _ i _ => 20 - (intOf i).toNat)
  case atStart => exact ⟨0, Nat.zero_le _, rfl, World.ownsRow_nil _ _ _ _, World.grownBy.refl _ _⟩
  case round =>
    obtain ⟨k, hk, rfl, hown, hgr⟩ := hrel
    have HG := hid hgr
    have hsz := hgr.size
    clear hgr
    by_cases hlt : k < 20
    · generalize hj : 0 + k = j at *
      have HJ := hid hj
      have hj1 : j < 20 := by omega
      have HF := hid (show fU j = 12 + (j : Int) from rfl)
      clear hj
      go_wp2_with (at_builtin; refine wpList_append_own _ rfl _ _ 38 rfl w.heap.size 3 i0 (.int .i64 0) 1 8 Tryd.underlying38 hi hz0 hz1 hz2 rfl (by decide) _ _ _ rfl (hown.alloc _) ⟨wr.heap.size, 0, none⟩ 2 2 [.int .i64 (j : Int), .int .i64 (12 + (j : Int))] rfl rfl (cells_new _ _ _) (by intro u hu; simp at hu; first | (subst hu; rfl) | (rcases hu with hu | hu <;> (subst hu; rfl))) (by unfold maxLen; omega) (by omega) (by simp; omega) ?_; intro v' w3 hown' hgrow _)
      have G3 := hid (own_grow HG.out hown hgrow)
      clear hgrow hown
      go_wp2
      go_roundw
      case rel => exact ⟨k + 1, by omega, by have := HJ.out; go_num, by rw [HX.out k, HJ.out, HF.out]; simpa [Nat.succ_mul] using hown', G3.out⟩
      case measure => simp [intOf]; omega
    · have ek : k = 20 := by omega
      subst ek
      go_wp2
      go_ret
      rw [HL.out]
      exact ⟨_, rfl, by simpa [pairs_length] using hown, HG.out⟩

set_option maxRecDepth 100000 in
set_option maxHeartbeats 4000000 in
theorem places_I (w : World) :
    Calls Tryd.prog 75 #[.int .u8 73] w fun e w' => ∃ v, e = .returned v ∧ w'.ownsRow w.heap.size 3 1 v ((placesL 3).length) ((placesL 3).map (Value.int .i64)) ∧ w.grownBy w' none := by
  obtain ⟨i0, hi, hz0, hz1, hz2⟩ := info_parts Tryd.infoInt
  have HX := hid (fun k => show pairs fI 0 (k + 1) = pairs fI 0 k ++ [((0 + k : Nat) : Int), fI (0 + k)] from rfl)
  have HL := hid (show placesL 3 = pairs fI 0 12 from rfl)
  go_enter Tryd.func75, Tryd.ntmps75
  go_wp2
  go_loopw [3, 5] (fun v i wr => ∃ k : Nat, k ≤ 12 ∧ i = .int .i64 ((0 + k : Nat) : Int) ∧ wr.ownsRow w.heap.size 3 1 v (k * 2) ((pairs fI 0 k).map (Value.int .i64)) ∧ w.grownBy wr none) (fun _ i _ => 12 - (intOf i).toNat)
  case atStart => exact ⟨0, Nat.zero_le _, rfl, World.ownsRow_nil _ _ _ _, World.grownBy.refl _ _⟩
  case round =>
    obtain ⟨k, hk, rfl, hown, hgr⟩ := hrel
    have HG := hid hgr
    have hsz := hgr.size
    clear hgr
    by_cases hlt : k < 12
    · generalize hj : 0 + k = j at *
      have HJ := hid hj
      have hj1 : j < 12 := by omega
      have HF := hid (show fI j = 20 + (j : Int) from rfl)
      clear hj
      go_wp2_with (at_builtin; refine wpList_append_own _ rfl _ _ 38 rfl w.heap.size 3 i0 (.int .i64 0) 1 8 Tryd.underlying38 hi hz0 hz1 hz2 rfl (by decide) _ _ _ rfl (hown.alloc _) ⟨wr.heap.size, 0, none⟩ 2 2 [.int .i64 (j : Int), .int .i64 (20 + (j : Int))] rfl rfl (cells_new _ _ _) (by intro u hu; simp at hu; first | (subst hu; rfl) | (rcases hu with hu | hu <;> (subst hu; rfl))) (by unfold maxLen; omega) (by omega) (by simp; omega) ?_; intro v' w3 hown' hgrow _)
      have G3 := hid (own_grow HG.out hown hgrow)
      clear hgrow hown
      go_wp2
      go_roundw
      case rel => exact ⟨k + 1, by omega, by have := HJ.out; go_num, by rw [HX.out k, HJ.out, HF.out]; simpa [Nat.succ_mul] using hown', G3.out⟩
      case measure => simp [intOf]; omega
    · have ek : k = 12 := by omega
      subst ek
      go_wp2
      go_ret
      rw [HL.out]
      exact ⟨_, rfl, by simpa [pairs_length] using hown, HG.out⟩

set_option maxRecDepth 100000 in
set_option maxHeartbeats 4000000 in
theorem places_S (w : World) :
    Calls Tryd.prog 75 #[.int .u8 83] w fun e w' => ∃ v, e = .returned v ∧ w'.ownsRow w.heap.size 3 1 v ((placesL 5).length) ((placesL 5).map (Value.int .i64)) ∧ w.grownBy w' none := by
  obtain ⟨i0, hi, hz0, hz1, hz2⟩ := info_parts Tryd.infoInt
  have HX := hid (fun k => show pairs fS 0 (k + 1) = pairs fS 0 k ++ [((0 + k : Nat) : Int), fS (0 + k)] from rfl)
  have HL := hid (show placesL 5 = pairs fS 0 12 from rfl)
  go_enter Tryd.func75, Tryd.ntmps75
  go_wp2
  go_loopw [3, 6] (fun v i wr => ∃ k : Nat, k ≤ 12 ∧ i = .int .i64 ((0 + k : Nat) : Int) ∧ wr.ownsRow w.heap.size 3 1 v (k * 2) ((pairs fS 0 k).map (Value.int .i64)) ∧ w.grownBy wr none) (fun _ i _ => 12 - (intOf i).toNat)
  case atStart => exact ⟨0, Nat.zero_le _, rfl, World.ownsRow_nil _ _ _ _, World.grownBy.refl _ _⟩
  case round =>
    obtain ⟨k, hk, rfl, hown, hgr⟩ := hrel
    have HG := hid hgr
    have hsz := hgr.size
    clear hgr
    by_cases hlt : k < 12
    · generalize hj : 0 + k = j at *
      have HJ := hid hj
      have hj1 : j < 12 := by omega
      rcases (show (j < 5) ∨ (5 ≤ j) from by omega) with c1 | c1
      · have HF := hid (show fS j = 7 + (j : Int) from if_neg (by omega))
        clear hj
        go_wp2_with (at_builtin; refine wpList_append_own _ rfl _ _ 38 rfl w.heap.size 3 i0 (.int .i64 0) 1 8 Tryd.underlying38 hi hz0 hz1 hz2 rfl (by decide) _ _ _ rfl (hown.alloc _) ⟨wr.heap.size, 0, none⟩ 2 2 [.int .i64 (j : Int), .int .i64 (7 + (j : Int))] rfl rfl (cells_new _ _ _) (by intro u hu; simp at hu; first | (subst hu; rfl) | (rcases hu with hu | hu <;> (subst hu; rfl))) (by unfold maxLen; omega) (by omega) (by simp; omega) ?_; intro v' w3 hown' hgrow _)
        have G3 := hid (own_grow HG.out hown hgrow)
        clear hgrow hown
        go_wp2
        go_roundw
        case rel => exact ⟨k + 1, by omega, by have := HJ.out; go_num, by rw [HX.out k, HJ.out, HF.out]; simpa [Nat.succ_mul] using hown', G3.out⟩
        case measure => simp [intOf]; omega
      · have HF := hid (show fS j = 20 + (j : Int) from if_pos (by omega))
        clear hj
        go_wp2_with (at_builtin; refine wpList_append_own _ rfl _ _ 38 rfl w.heap.size 3 i0 (.int .i64 0) 1 8 Tryd.underlying38 hi hz0 hz1 hz2 rfl (by decide) _ _ _ rfl (hown.alloc _) ⟨wr.heap.size, 0, none⟩ 2 2 [.int .i64 (j : Int), .int .i64 (20 + (j : Int))] rfl rfl (cells_new _ _ _) (by intro u hu; simp at hu; first | (subst hu; rfl) | (rcases hu with hu | hu <;> (subst hu; rfl))) (by unfold maxLen; omega) (by omega) (by simp; omega) ?_; intro v' w3 hown' hgrow _)
        have G3 := hid (own_grow HG.out hown hgrow)
        clear hgrow hown
        go_wp2
        go_roundw
        case rel => exact ⟨k + 1, by omega, by have := HJ.out; go_num, by rw [HX.out k, HJ.out, HF.out]; simpa [Nat.succ_mul] using hown', G3.out⟩
        case measure => simp [intOf]; omega
    · have ek : k = 12 := by omega
      subst ek
      go_wp2
      go_ret
      rw [HL.out]
      exact ⟨_, rfl, by simpa [pairs_length] using hown, HG.out⟩

set_option maxRecDepth 100000 in
set_option maxHeartbeats 4000000 in
theorem places_B (w : World) :
    Calls Tryd.prog 75 #[.int .u8 66] w fun e w' => ∃ v, e = .returned v ∧ w'.ownsRow w.heap.size 3 1 v ((placesL 4).length) ((placesL 4).map (Value.int .i64)) ∧ w.grownBy w' none := by
  obtain ⟨i0, hi, hz0, hz1, hz2⟩ := info_parts Tryd.infoInt
  have HX := hid (fun k => show pairs fS 1 (k + 1) = pairs fS 1 k ++ [((1 + k : Nat) : Int), fS (1 + k)] from rfl)
  have HL := hid (show placesL 4 = pairs fS 1 10 ++ [11, 7, 12, 31] from rfl)
  go_enter Tryd.func75, Tryd.ntmps75
  go_wp2
  go_loopw [3, 8] (fun v i wr => ∃ k : Nat, k ≤ 10 ∧ i = .int .i64 ((1 + k : Nat) : Int) ∧ wr.ownsRow w.heap.size 3 1 v (k * 2) ((pairs fS 1 k).map (Value.int .i64)) ∧ w.grownBy wr none) (fun _ i _ => 11 - (intOf i).toNat)
  case atStart => exact ⟨0, Nat.zero_le _, rfl, World.ownsRow_nil _ _ _ _, World.grownBy.refl _ _⟩
  case round =>
    obtain ⟨k, hk, rfl, hown, hgr⟩ := hrel
    have HG := hid hgr
    have hsz := hgr.size
    clear hgr
    by_cases hlt : k < 10
    · generalize hj : 1 + k = j at *
      have HJ := hid hj
      have hj1 : j < 11 := by omega
      rcases (show (j < 5) ∨ (5 ≤ j) from by omega) with c1 | c1
      · have HF := hid (show fS j = 7 + (j : Int) from if_neg (by omega))
        clear hj
        go_wp2_with (at_builtin; refine wpList_append_own _ rfl _ _ 38 rfl w.heap.size 3 i0 (.int .i64 0) 1 8 Tryd.underlying38 hi hz0 hz1 hz2 rfl (by decide) _ _ _ rfl (hown.alloc _) ⟨wr.heap.size, 0, none⟩ 2 2 [.int .i64 (j : Int), .int .i64 (7 + (j : Int))] rfl rfl (cells_new _ _ _) (by intro u hu; simp at hu; first | (subst hu; rfl) | (rcases hu with hu | hu <;> (subst hu; rfl))) (by unfold maxLen; omega) (by omega) (by simp; omega) ?_; intro v' w3 hown' hgrow _)
        have G3 := hid (own_grow HG.out hown hgrow)
        clear hgrow hown
        go_wp2
        go_roundw
        case rel => exact ⟨k + 1, by omega, by have := HJ.out; go_num, by rw [HX.out k, HJ.out, HF.out]; simpa [Nat.succ_mul] using hown', G3.out⟩
        case measure => simp [intOf]; omega
      · have HF := hid (show fS j = 20 + (j : Int) from if_pos (by omega))
        clear hj
        go_wp2_with (at_builtin; refine wpList_append_own _ rfl _ _ 38 rfl w.heap.size 3 i0 (.int .i64 0) 1 8 Tryd.underlying38 hi hz0 hz1 hz2 rfl (by decide) _ _ _ rfl (hown.alloc _) ⟨wr.heap.size, 0, none⟩ 2 2 [.int .i64 (j : Int), .int .i64 (20 + (j : Int))] rfl rfl (cells_new _ _ _) (by intro u hu; simp at hu; first | (subst hu; rfl) | (rcases hu with hu | hu <;> (subst hu; rfl))) (by unfold maxLen; omega) (by omega) (by simp; omega) ?_; intro v' w3 hown' hgrow _)
        have G3 := hid (own_grow HG.out hown hgrow)
        clear hgrow hown
        go_wp2
        go_roundw
        case rel => exact ⟨k + 1, by omega, by have := HJ.out; go_num, by rw [HX.out k, HJ.out, HF.out]; simpa [Nat.succ_mul] using hown', G3.out⟩
        case measure => simp [intOf]; omega
    · have ek : k = 10 := by omega
      subst ek
      go_wp2_with (at_builtin; refine wpList_append_own _ rfl _ _ 38 rfl w.heap.size 3 i0 (.int .i64 0) 1 8 Tryd.underlying38 hi hz0 hz1 hz2 rfl (by decide) _ _ _ rfl (hown.alloc _) ⟨wr.heap.size, 0, none⟩ 4 4 [.int .i64 11, .int .i64 7, .int .i64 12, .int .i64 31] rfl rfl (cells_new _ _ _) (by intro u hu; simp at hu; first | (subst hu; rfl) | (rcases hu with hu | hu | hu | hu <;> (subst hu; rfl))) (by unfold maxLen; omega) (by omega) (by simp; omega) ?_; intro v' w3 hown' hgrow _)
      have G3 := hid (own_grow HG.out hown hgrow)
      clear hgrow hown
      go_wp2
      go_ret
      rw [HL.out]
      exact ⟨_, rfl, by simpa [pairs_length] using hown', G3.out⟩

set_option maxRecDepth 100000 in
set_option maxHeartbeats 4000000 in
theorem places_J (w : World) :
    Calls Tryd.prog 75 #[.int .u8 74] w fun e w' => ∃ v, e = .returned v ∧ w'.ownsRow w.heap.size 3 1 v ((placesL 2).length) ((placesL 2).map (Value.int .i64)) ∧ w.grownBy w' none := by
  obtain ⟨i0, hi, hz0, hz1, hz2⟩ := info_parts Tryd.infoInt
  have HX := hid (fun k => show pairs fJ 1 (k + 1) = pairs fJ 1 k ++ [((1 + k : Nat) : Int), fJ (1 + k)] from rfl)
  have HL := hid (show placesL 2 = pairs fJ 1 19 ++ [20, 31] from rfl)
  go_enter Tryd.func75, Tryd.ntmps75
  go_wp2
  go_loopw [3, 10] (fun v i wr => ∃ k : Nat, k ≤ 19 ∧ i = .int .i64 ((1 + k : Nat) : Int) ∧ wr.ownsRow w.heap.size 3 1 v (k * 2) ((pairs fJ 1 k).map (Value.int .i64)) ∧ w.grownBy wr none) (fun _ i _ => 20 - (intOf i).toNat)
  case atStart => exact ⟨0, Nat.zero_le _, rfl, World.ownsRow_nil _ _ _ _, World.grownBy.refl _ _⟩
  case round =>
    obtain ⟨k, hk, rfl, hown, hgr⟩ := hrel
    have HG := hid hgr
    have hsz := hgr.size
    clear hgr
    by_cases hlt : k < 19
    · generalize hj : 1 + k = j at *
      have HJ := hid hj
      have hj1 : j < 20 := by omega
      rcases (show (j < 11) ∨ (11 ≤ j ∧ j ≤ 11) ∨ (12 ≤ j) from by omega) with c1 | ⟨c1, c2⟩ | c1
      · have HF := hid (show fJ j = 20 + (j : Int) from by unfold fJ; rw [if_neg (by omega), if_neg (by omega)])
        clear hj
        go_wp2_with (at_builtin; refine wpList_append_own _ rfl _ _ 38 rfl w.heap.size 3 i0 (.int .i64 0) 1 8 Tryd.underlying38 hi hz0 hz1 hz2 rfl (by decide) _ _ _ rfl (hown.alloc _) ⟨wr.heap.size, 0, none⟩ 2 2 [.int .i64 (j : Int), .int .i64 (20 + (j : Int))] rfl rfl (cells_new _ _ _) (by intro u hu; simp at hu; first | (subst hu; rfl) | (rcases hu with hu | hu <;> (subst hu; rfl))) (by unfold maxLen; omega) (by omega) (by simp; omega) ?_; intro v' w3 hown' hgrow _)
        have G3 := hid (own_grow HG.out hown hgrow)
        clear hgrow hown
        go_wp2
        go_roundw
        case rel => exact ⟨k + 1, by omega, by have := HJ.out; go_num, by rw [HX.out k, HJ.out, HF.out]; simpa [Nat.succ_mul] using hown', G3.out⟩
        case measure => simp [intOf]; omega
      · have HF := hid (show fJ j = 20 from if_pos (by omega))
        clear hj
        go_wp2_with (at_builtin; refine wpList_append_own _ rfl _ _ 38 rfl w.heap.size 3 i0 (.int .i64 0) 1 8 Tryd.underlying38 hi hz0 hz1 hz2 rfl (by decide) _ _ _ rfl (hown.alloc _) ⟨wr.heap.size, 0, none⟩ 2 2 [.int .i64 (j : Int), .int .i64 (20)] rfl rfl (cells_new _ _ _) (by intro u hu; simp at hu; first | (subst hu; rfl) | (rcases hu with hu | hu <;> (subst hu; rfl))) (by unfold maxLen; omega) (by omega) (by simp; omega) ?_; intro v' w3 hown' hgrow _)
        have G3 := hid (own_grow HG.out hown hgrow)
        clear hgrow hown
        go_wp2
        go_roundw
        case rel => exact ⟨k + 1, by omega, by have := HJ.out; go_num, by rw [HX.out k, HJ.out, HF.out]; simpa [Nat.succ_mul] using hown', G3.out⟩
        case measure => simp [intOf]; omega
      · have HF := hid (show fJ j = (j : Int) from by unfold fJ; rw [if_neg (by omega), if_pos (by omega)])
        clear hj
        go_wp2_with (at_builtin; refine wpList_append_own _ rfl _ _ 38 rfl w.heap.size 3 i0 (.int .i64 0) 1 8 Tryd.underlying38 hi hz0 hz1 hz2 rfl (by decide) _ _ _ rfl (hown.alloc _) ⟨wr.heap.size, 0, none⟩ 2 2 [.int .i64 (j : Int), .int .i64 ((j : Int))] rfl rfl (cells_new _ _ _) (by intro u hu; simp at hu; first | (subst hu; rfl) | (rcases hu with hu | hu <;> (subst hu; rfl))) (by unfold maxLen; omega) (by omega) (by simp; omega) ?_; intro v' w3 hown' hgrow _)
        have G3 := hid (own_grow HG.out hown hgrow)
        clear hgrow hown
        go_wp2
        go_roundw
        case rel => exact ⟨k + 1, by omega, by have := HJ.out; go_num, by rw [HX.out k, HJ.out, HF.out]; simpa [Nat.succ_mul] using hown', G3.out⟩
        case measure => simp [intOf]; omega
    · have ek : k = 19 := by omega
      subst ek
      go_wp2_with (at_builtin; refine wpList_append_own _ rfl _ _ 38 rfl w.heap.size 3 i0 (.int .i64 0) 1 8 Tryd.underlying38 hi hz0 hz1 hz2 rfl (by decide) _ _ _ rfl (hown.alloc _) ⟨wr.heap.size, 0, none⟩ 2 2 [.int .i64 20, .int .i64 31] rfl rfl (cells_new _ _ _) (by intro u hu; simp at hu; first | (subst hu; rfl) | (rcases hu with hu | hu <;> (subst hu; rfl))) (by unfold maxLen; omega) (by omega) (by simp; omega) ?_; intro v' w3 hown' hgrow _)
      have G3 := hid (own_grow HG.out hown hgrow)
      clear hgrow hown
      go_wp2
      go_ret
      rw [HL.out]
      exact ⟨_, rfl, by simpa [pairs_length] using hown', G3.out⟩

set_option maxRecDepth 100000 in
theorem places_R (w : World) :
    Calls Tryd.prog 75 #[.int .u8 82] w fun e w' => ∃ v, e = .returned v ∧ w'.ownsRow w.heap.size 3 1 v ((placesL 6).length) ((placesL 6).map (Value.int .i64)) ∧ w.grownBy w' none := by
  go_enter Tryd.func75, Tryd.ntmps75
  go_wp2
  go_ret
  exact ⟨_, rfl, World.ownsRow_nil _ _ _ _, World.grownBy.refl _ _⟩

set_option maxRecDepth 100000 in
theorem places_E (w : World) :
    Calls Tryd.prog 75 #[.int .u8 69] w fun e w' => ∃ v, e = .returned v ∧ w'.ownsRow w.heap.size 3 1 v ((placesL 7).length) ((placesL 7).map (Value.int .i64)) ∧ w.grownBy w' none := by
  go_enter Tryd.func75, Tryd.ntmps75
  go_wp2
  go_ret
  exact ⟨_, rfl, World.ownsRow_nil _ _ _ _, World.grownBy.refl _ _⟩

theorem places_any (form : Int) (w : World) (hf : 1 ≤ form ∧ form ≤ 7) :
    Calls Tryd.prog 75 #[.int .u8 (formB form)] w fun e w' => ∃ v, e = .returned v ∧ w'.ownsRow w.heap.size 3 1 v ((placesL form).length) ((placesL form).map (Value.int .i64)) ∧ w.grownBy w' none := by
  rcases (show form = 1 ∨ form = 2 ∨ form = 3 ∨ form = 4 ∨ form = 5 ∨ form = 6 ∨ form = 7 from by omega) with rfl | rfl | rfl | rfl | rfl | rfl | rfl
  · exact places_U w
  · exact places_J w
  · exact places_I w
  · exact places_B w
  · exact places_S w
  · exact places_R w
  · exact places_E w

end Go.Proofs.YtogbomihnhfaiaaDoor

namespace Go.Proofs.YtogbomihnhfaiaaDoor
open Go.RowKit

theorem nat_range_zero (N a m : Nat) : (∀ i, i < m → N / 2 ^ (a + i) % 2 = 0) ↔ N / 2 ^ a % 2 ^ m = 0 := by
  induction m with
  | zero => simp [Nat.mod_one]
  | succ m ih =>
    have e : N / 2 ^ a % 2 ^ (m + 1) = N / 2 ^ a % 2 ^ m + 2 ^ m * (N / 2 ^ (a + m) % 2) := by
      rw [Nat.pow_succ, Nat.mod_mul, Nat.div_div_eq_div_mul, ← Nat.pow_add]
    have hp : 0 < 2 ^ m := Nat.two_pow_pos m
    constructor
    · intro h
      rw [e, ih.1 (fun i hi => h i (by omega)), h m (by omega)]
      simp
    · intro h i hi
      rw [e] at h
      have h1 : N / 2 ^ a % 2 ^ m = 0 := by omega
      have h2 : 2 ^ m * (N / 2 ^ (a + m) % 2) = 0 := by omega
      rcases (Nat.lt_succ_iff_lt_or_eq.1 hi) with hi | rfl
      · exact ih.2 h1 i hi
      · rcases Nat.mul_eq_zero.1 h2 with h | h
        · omega
        · exact h

theorem range_zero (n : Int) (h0 : 0 ≤ n) (a m : Nat) : (∀ i, i < m → n / 2 ^ (a + i) % 2 = 0) ↔ n / 2 ^ a % 2 ^ m = 0 := by
  obtain ⟨N, rfl⟩ := Int.eq_ofNat_of_zero_le h0
  have e := nat_range_zero N a m
  have c : ∀ k : Nat, ((N : Int) / 2 ^ k) = ((N / 2 ^ k : Nat) : Int) := fun k => by simp
  constructor
  · intro h
    have := e.1 (fun i hi => by have := h i hi; rw [c] at this; omega)
    rw [c, show (2 : Int) ^ m = ((2 ^ m : Nat) : Int) from by simp, ← Int.natCast_emod, this]
    rfl
  · intro h i hi
    rw [c, show (2 : Int) ^ m = ((2 ^ m : Nat) : Int) from by simp, ← Int.natCast_emod] at h
    have := e.2 (by omega) i hi
    rw [c]
    omega

def plq (form : Int) (a : Nat) : Nat := ((placesL form).getD (a * 2 + 1) 0).toNat
def plp (form : Int) (a : Nat) : Nat := ((placesL form).getD (a * 2) 0).toNat
def pln (form : Int) : Nat := (placesL form).length / 2
def BitsZero (form n : Int) (k : Nat) : Prop := ∀ a, a < k → n / 2 ^ plq form a % 2 = 0

theorem one_range (form n : Int) (h0 : 0 ≤ n) (k a m : Nat) (hk : pln form = k) (h1 : ∀ i, i < m → ∃ x ∈ List.range k, plq form x = a + i) (h2 : ∀ x, x < k → ∃ i ∈ List.range m, plq form x = a + i) : BitsZero form n (pln form) ↔ n / 2 ^ a % 2 ^ m = 0 := by
  rw [← range_zero n h0 a m, hk]
  constructor
  · intro h i hi
    obtain ⟨x, hx, e⟩ := h1 i hi
    rw [← e]
    exact h x (List.mem_range.1 hx)
  · intro h x hx
    obtain ⟨i, hi, e⟩ := h2 x hx
    rw [e]
    exact h i (List.mem_range.1 hi)
theorem two_ranges (form n : Int) (h0 : 0 ≤ n) (k a m b l : Nat) (hk : pln form = k) (h1 : ∀ i, i < m → ∃ x ∈ List.range k, plq form x = a + i) (h1' : ∀ i, i < l → ∃ x ∈ List.range k, plq form x = b + i) (h2 : ∀ x, x < k → (∃ i ∈ List.range m, plq form x = a + i) ∨ ∃ i ∈ List.range l, plq form x = b + i) : BitsZero form n (pln form) ↔ n / 2 ^ a % 2 ^ m = 0 ∧ n / 2 ^ b % 2 ^ l = 0 := by
  rw [← range_zero n h0 a m, ← range_zero n h0 b l, hk]
  constructor
  · intro h
    refine ⟨fun i hi => ?_, fun i hi => ?_⟩
    · obtain ⟨x, hx, e⟩ := h1 i hi
      rw [← e]
      exact h x (List.mem_range.1 hx)
    · obtain ⟨x, hx, e⟩ := h1' i hi
      rw [← e]
      exact h x (List.mem_range.1 hx)
  · rintro ⟨h, h'⟩ x hx
    rcases h2 x hx with ⟨i, hi, e⟩ | ⟨i, hi, e⟩
    · rw [e]
      exact h i (List.mem_range.1 hi)
    · rw [e]
      exact h' i (List.mem_range.1 hi)

theorem bits_zero (form n : Int) (h0 : 0 ≤ n) (h1 : n ≤ 4294967295) (hf : 1 ≤ form ∧ form ≤ 7) : BitsZero form n (pln form) ↔ NumZero form n := by
  rcases (show form = 1 ∨ form = 2 ∨ form = 3 ∨ form = 4 ∨ form = 5 ∨ form = 6 ∨ form = 7 from by omega) with rfl | rfl | rfl | rfl | rfl | rfl | rfl
  · rw [one_range 1 n h0 20 12 20 (by decide) (by decide) (by decide)]
    simp [NumZero]; omega
  · rw [one_range 2 n h0 20 12 20 (by decide) (by decide) (by decide)]
    simp [NumZero]; omega
  · rw [one_range 3 n h0 12 20 12 (by decide) (by decide) (by decide)]
    simp [NumZero]; omega
  · rw [two_ranges 4 n h0 12 7 5 25 7 (by decide) (by decide) (by decide) (by decide)]
    simp [NumZero]; omega
  · rw [two_ranges 5 n h0 12 7 5 25 7 (by decide) (by decide) (by decide) (by decide)]
    simp [NumZero]; omega
  · simp [BitsZero, pln, placesL, NumZero]
  · simp [BitsZero, pln, placesL, NumZero]

theorem places_facts (form : Int) (hf : 1 ≤ form ∧ form ≤ 7) : (placesL form).length = pln form * 2 ∧ pln form ≤ 20 ∧ ∀ a, a < pln form → (placesL form).getD (a * 2) 0 = (plp form a : Int) ∧ (placesL form).getD (a * 2 + 1) 0 = (plq form a : Int) ∧ plp form a < wideN form ∧ plq form a ≤ 31 := by
  rcases (show form = 1 ∨ form = 2 ∨ form = 3 ∨ form = 4 ∨ form = 5 ∨ form = 6 ∨ form = 7 from by omega) with rfl | rfl | rfl | rfl | rfl | rfl | rfl <;> decide

theorem bits_step (form n v : Int) (K a : Nat) (hK : K ≤ 21) (hp : plp form a < K) (hv0 : 0 ≤ v) (hv1 : v < 2 ^ K) (hv : v = 0 ↔ BitsZero form n a) :
    ∀ x, x = bits .or .i64 v (n / 2 ^ plq form a % 2 * 2 ^ plp form a) → 0 ≤ x ∧ x < 2 ^ K ∧ (x = 0 ↔ BitsZero form n (a + 1)) := by
  rintro x rfl
  have hb : n / 2 ^ plq form a % 2 = 0 ∨ n / 2 ^ plq form a % 2 = 1 := by omega
  have hpos : (0 : Int) < 2 ^ plp form a := Int.pow_pos (by decide)
  have hle : (2 : Int) ^ plp form a < 2 ^ K := Int.pow_lt_pow_of_lt (by decide) hp
  have hK2 : (2 : Int) ^ K ≤ 2097152 := by
    have := Nat.pow_le_pow_right (show 0 < 2 by decide) hK
    rw [show (2 : Int) ^ K = ((2 ^ K : Nat) : Int) from by simp]
    omega
  have hy : 0 ≤ n / 2 ^ plq form a % 2 * 2 ^ plp form a ∧ n / 2 ^ plq form a % 2 * 2 ^ plp form a < 2 ^ K ∧ (n / 2 ^ plq form a % 2 * 2 ^ plp form a = 0 ↔ n / 2 ^ plq form a % 2 = 0) := by
    rcases hb with hb | hb <;> rw [hb] <;> simp <;> omega
  have z := or_zero v (n / 2 ^ plq form a % 2 * 2 ^ plp form a) hv0 (by omega) hy.1 (by omega)
  refine ⟨z.1, or_lt _ _ K (by omega) hv0 hv1 hy.1 hy.2.1, ?_⟩
  rw [z.2, hy.2.2, hv]
  constructor
  · rintro ⟨h1, h2⟩ i hi
    rcases (Nat.lt_succ_iff_lt_or_eq.1 hi) with hi | rfl
    · exact h1 i hi
    · exact h2
  · intro h
    exact ⟨fun i hi => h i (by omega), h a (by omega)⟩

end Go.Proofs.YtogbomihnhfaiaaDoor

namespace Go.Proofs.YtogbomihnhfaiaaDoor
open Go.RowKit

def tabCell (k : Nat) (w : World) (b : Nat) : Prop := w.cell? ⟨b, k * 5 + 1, none⟩ = some (.int .i64 ((k : Int) + 1)) ∧ w.cell? ⟨b, k * 5 + 2, none⟩ = some (.int .i64 (fixedL.getD (k + 1) 0)) ∧ w.cell? ⟨b, k * 5 + 3, none⟩ = some (.int .i64 (maskF (formL.getD (k + 1) 0))) ∧ w.cell? ⟨b, k * 5 + 4, none⟩ = some (.int .u8 (formB (formL.getD (k + 1) 0)))

set_option maxRecDepth 100000 in
set_option maxHeartbeats 2000000 in
theorem table_any (w : World) :
    Calls Tryd.prog 74 #[] w fun e w' => e = .returned (.slice (some ⟨w.heap.size, 0, none⟩) 25 25) ∧ (∀ k, k < 25 → tabCell k w' w.heap.size) ∧ w.heap.size < w'.heap.size ∧ w.grownBy w' none := by
  have G := hid (fun o : Obj => World.grownBy_alloc w o none)
  go_enter Tryd.func74, Tryd.ntmps74
  go_wp2
  go_ret
  refine ⟨rfl, fun k hk => ?_, by simp, G.out _⟩
  refine ⟨((BlkAt.new w _ _).cell _).trans ?_, ((BlkAt.new w _ _).cell _).trans ?_, ((BlkAt.new w _ _).cell _).trans ?_, ((BlkAt.new w _ _).cell _).trans ?_⟩
  all_goals
    clear G
    rcases (show k = 0 ∨ k = 1 ∨ k = 2 ∨ k = 3 ∨ k = 4 ∨ k = 5 ∨ k = 6 ∨ k = 7 ∨ k = 8 ∨ k = 9 ∨ k = 10 ∨ k = 11 ∨ k = 12 ∨ k = 13 ∨ k = 14 ∨ k = 15 ∨ k = 16 ∨ k = 17 ∨ k = 18 ∨ k = 19 ∨ k = 20 ∨ k = 21 ∨ k = 22 ∨ k = 23 ∨ k = 24 from by omega) with rfl | rfl | rfl | rfl | rfl | rfl | rfl | rfl | rfl | rfl | rfl | rfl | rfl | rfl | rfl | rfl | rfl | rfl | rfl | rfl | rfl | rfl | rfl | rfl | rfl <;> rfl

end Go.Proofs.YtogbomihnhfaiaaDoor

namespace Go.Proofs.YtogbomihnhfaiaaDoor
open Go.RowKit

theorem grown_above {w a c : World} {b : Nat} (h : w.grownBy a none) (k : a.grownBy c (some b)) (hb : w.heap.size ≤ b) : w.grownBy c none :=
  ⟨k.os.trans h.os, k.tape.trans h.tape, k.output.trans h.output, Nat.le_trans h.size k.size, fun i hi _ =>
    (k.block i (Nat.lt_of_lt_of_le hi h.size) (by simp; omega)).trans (h.block i hi (by simp))⟩

theorem good_tame {o : Lk.Obj} (h : Lk.goodObj o) : Tame o := by
  obtain ⟨h1, h2, h3, h4, h5, h6, h7, h8, h9, h10, h11, h12, h13⟩ := h
  refine ⟨⟨by omega, by omega, by omega, by omega, by omega, by omega⟩, fun y hy => ?_, fun r hr => ?_⟩
  · have := (h9 y hy).1; omega
  · have := (h10 r hr).2.2.1.2; omega

/-- what Read gives -/
def ReadRet (w : World) (s : ByteArray) (e : Ending) (w' : World) : Prop :=
  (∃ o g, Lk.readObj (sl s) = some o ∧ Valid o ∧ e = .returned (.tuple #[.pointer (some ⟨g, 0, none⟩), .int .i64 0]) ∧ ObjAt w' g o ∧ w.heap.size ≤ g) ∨
  ((∀ o, Lk.readObj (sl s) = some o → ¬ Valid o) ∧ e = .returned (.tuple #[.pointer none, .int .i64 20]))

set_option maxHeartbeats 4000000 in
theorem read_any (s : ByteArray) (w : World) (ht : Tabs w) (hs : s.size ≤ 1048576) :
    Calls Tryd.prog 14 #[.string s] w fun e w' => ReadRet w s e w' ∧ w.grownBy w' none := by
  have HT := hid ht
  clear ht
  go_enter Tryd.func14, Tryd.ntmps14
  go_wp2_with fail
  refine (newReader_any s w).mono ?_
  rintro e W1 ⟨rfl, g1⟩
  have R : RdAt (W1.alloc (.cells #[.string s, .int .i64 0, .bool false] 68)) W1.heap.size s 0 false := heap_alloc_new W1 _
  have HR := hid R
  have G1 := hid g1
  have GA := hid (World.grownBy_alloc W1 (.cells #[.string s, .int .i64 0, .bool false] 68) none)
  have hz := hid g1.size
  clear R g1
  by_cases hm : (Lk.rdText (sl s) 2 (0, false)).1 = [76, 75]
  · have cR := hid (readObject_yes W1.heap.size s 0 false _ HR.out hs (Nat.zero_le _) hm)
    have hro := hid (show Lk.readObj (sl s) = if (Lk.rdRest (sl s) (Lk.rdText (sl s) 2 (0, false)).2).2 = ((sl s).length, false) then some (Lk.rdRest (sl s) (Lk.rdText (sl s) 2 (0, false)).2).1 else none from by unfold Lk.readObj; rw [if_pos hm])
    generalize Lk.rdRest (sl s) (Lk.rdText (sl s) 2 (0, false)).2 = X at *
    obtain ⟨o, p', s'⟩ := X
    simp only at cR hro
    clear hm
    go_wp2_with fail
    refine cR.out.mono ?_
    rintro e W2 ⟨g, rfl, hg, hobj, hrd, hgr⟩
    have HOB := hid hobj
    have HRD := hid hrd
    have GR := hid hgr
    have HGG := hid hg
    clear hobj hrd hgr hg cR
    have cD := hid (done_any W1.heap.size s p' s' W2 HRD.out)
    go_wp2_with fail
    refine cD.out.mono ?_
    rintro e W3 ⟨rfl, kd, rfl⟩
    have GF := hid (grown_drewN (grown_above (grown_trans G1.out GA.out) GR.out hz.out) kd)
    clear cD
    have hsz := sl_length s
    by_cases hd : s' = false ∧ p' = s.size
    · obtain ⟨rfl, rfl⟩ := hd
      have hro2 : Lk.readObj (sl s) = some o := by rw [hro.out, if_pos (by rw [hsz])]
      have HRO := hid hro2
      have hgood := ((Lk.readObj_iff (sl s) o).1 hro2).1
      have cV := hid (valid_any g o (W2.drewN kd) (HT.out.grown GF.out) (HOB.out.drewN kd) (good_tame hgood))
      have dd : (!false && decide (s.size = s.size)) = true := by simp
      clear hro2 hgood hsz hro
      go_wp2_with fail
      refine cV.out.mono ?_
      rintro e W4 ⟨t, q⟩
      have GQ := hid (grown_trans GF.out q)
      have HO4 := hid ((HOB.out.drewN kd).kept q)
      rcases t.split with ⟨rfl, pv⟩ | ⟨rfl, pv⟩ <;> clear t q cV
      · go_wp2
        go_ret2
        exact ⟨.inr ⟨fun o' ho' => by have h1 := HRO.out.symm.trans ho'; simp only [Option.some.injEq] at h1; subst h1; exact pv.out, rfl⟩, GQ.out⟩
      · go_wp2
        go_ret2
        refine ⟨.inl ⟨o, g, HRO.out, pv.out, rfl, HO4.out, ?_⟩, GQ.out⟩
        have h1 := HGG.out
        have h2 := hz.out
        simp at h1
        omega
    · have hro2 : Lk.readObj (sl s) = none := by
        rw [hro.out, if_neg]
        intro h
        simp only [Prod.mk.injEq] at h
        exact hd ⟨h.2, by rw [← hsz]; exact h.1⟩
      have HRO := hid hro2
      have dd : (!s' && decide (p' = s.size)) = false := by
        cases s'
        · simp at hd ⊢; exact hd
        · rfl
      clear hro2 hro hsz hd
      go_wp2
      go_ret2
      exact ⟨.inr ⟨fun o' ho' => by have h1 := HRO.out.symm.trans ho'; simp at h1, rfl⟩, GF.out⟩
  · have cR := hid (readObject_no W1.heap.size s 0 false _ HR.out hs (Nat.zero_le _) hm)
    have hro := hid (show Lk.readObj (sl s) = none from by unfold Lk.readObj; rw [if_neg hm])
    clear hm
    go_wp2_with fail
    refine cR.out.mono ?_
    rintro e W2 ⟨rfl, hgr⟩
    have GR := hid hgr
    clear hgr cR
    go_wp2
    go_ret2
    exact ⟨.inr ⟨fun o' ho' => by have h1 := hro.out.symm.trans ho'; simp at h1, rfl⟩, grown_above (grown_trans G1.out GA.out) GR.out hz.out⟩

end Go.Proofs.YtogbomihnhfaiaaDoor
