/- Walks over the document's answer: numbers and parts of a file. -/
/- Walks over the document's answer: names, what a relocation covers, numbers as bytes. -/
/- Walks over the document's answer: numbers as bytes. -/
/- Walks over the document's answer: lists of numbers as bytes. -/
import Derived.Test.YtafjgogdeinpcaaDoorGF
import Derived.Test.YtafjgogdeinpcaaDoorGB
import Derived.Lib.AppendStr
namespace Go.Proofs.YtafjgogdeinpcaaDoor
open Go.RowKit

/-- the number that n bytes from p on say; noughts stand for what is not there -/
def atL (l : List UInt8) (p : Nat) : Nat → Int
  | 0 => 0
  | n + 1 => ((l.getD p 0).toNat : Int) + 256 * atL l (p + 1) n

theorem atL_range (l : List UInt8) (p n : Nat) : 0 ≤ atL l p n ∧ atL l p n < (256 : Int) ^ n := by
  induction n generalizing p with
  | zero => simp [atL]
  | succ n ih =>
    have h := ih (p + 1)
    have hb : (l.getD p 0).toNat < 256 := (l.getD p 0).toNat_lt
    simp only [atL, Int.pow_succ]
    omega

theorem sl_getD (s : ByteArray) (k : Nat) (h : k < s.size) : ((sl s).getD k 0) = s[k] := by
  have h' : k < (sl s).length := by rw [sl_length]; exact h
  rw [List.getD_eq_getElem?_getD, List.getElem?_eq_getElem h']
  rfl
theorem sl_getD_none (s : ByteArray) (k : Nat) (h : s.size ≤ k) : ((sl s).getD k 0) = 0 := by
  rw [List.getD_eq_getElem?_getD, List.getElem?_eq_none (by rw [sl_length]; exact h)]
  rfl

set_option maxHeartbeats 1000000 in
theorem at_any (s : ByteArray) (p n : Nat) (w : World) (hs : s.size ≤ 1048576) (hp : p ≤ 16777216) (hn : n ≤ 4) :
    Calls Tryd.prog 15 #[.string s, .int .i64 p, .int .i64 n] w fun e w' => e = .returned (.int .i64 (atL (sl s) p n)) ∧ w' = w := by
  go_enter Tryd.func15, Tryd.ntmps15
  go_wp2
  go_loop [7, 8] (fun v i => ∃ k : Nat, k ≤ n ∧ i = .int .i64 ((k : Int) - 1) ∧ v = .int .i64 (atL (sl s) (p + k) (n - k))) (fun _ i => (intOf i + 1).toNat)
  case atStart => exact ⟨n, Nat.le_refl _, rfl, by simp [atL]⟩
  case round =>
    obtain ⟨k, hk, rfl, rfl⟩ := hrel
    have hr := atL_range (sl s) (p + k) (n - k)
    have hpw := pow_le4 (n - k) (by omega)
    cases k with
    | zero =>
      go_wp2
      go_ret
      exact ⟨rfl, rfl⟩
    | succ m =>
      have e1 : ((m + 1 : Nat) : Int) - 1 = (m : Int) := by omega
      rw [e1]
      have hr2 : atL (sl s) (p + (m + 1)) (n - (m + 1)) < 4294967296 := by omega
      have hr0 := hr.1
      have HS := hid (show atL (sl s) (p + m) (n - m) = ((sl s).getD (p + m) 0).toNat + 256 * atL (sl s) (p + (m + 1)) (n - (m + 1)) from by
        have e : n - m = (n - (m + 1)) + 1 := by omega
        rw [e]
        rfl)
      generalize atL (sl s) (p + (m + 1)) (n - (m + 1)) = v at *
      have d0 : decide ((0 : Int) ≤ (p : Int) + (m : Int)) = true := by simp; omega
      clear hr hpw e1
      by_cases hlt : p + m < s.size
      · have g1 : (p : Int) + (m : Int) < (s.size : Int) := by omega
        have HB := hid (sl_getD s (p + m) hlt)
        go_wp2
        go_round
        case rel =>
          refine ⟨m, by omega, rfl, ?_⟩
          have hb : ((s[p + m]'hlt).toNat : Int) < 256 := by have := (s[p + m]'hlt).toNat_lt; omega
          rw [HS.out, HB.out, IntWalk.wrap64_in ((s[p + m]'hlt).toNat : Int) ⟨by omega, by omega⟩, IntWalk.wrap64_in _ ⟨by omega, by omega⟩, Int.add_comm]
        case measure => simp [intOf]
      · have g1 : (s.size : Int) ≤ (p : Int) + (m : Int) := by omega
        have HB := hid (sl_getD_none s (p + m) (by omega))
        go_wp2
        go_round
        case rel => exact ⟨m, by omega, rfl, by rw [HS.out, HB.out]; simp⟩
        case measure => simp [intOf]

theorem at_lit (s : ByteArray) (p n : Nat) (mp mn : Int) (hmp : mp = (p : Int)) (hmn : mn = (n : Int)) (w : World) (hs : s.size ≤ 1048576) (hp : p ≤ 16777216) (hn : n ≤ 4) :
    Calls Tryd.prog 15 #[.string s, .int .i64 mp, .int .i64 mn] w fun e w' => e = .returned (.int .i64 (atL (sl s) p n)) ∧ w' = w := by
  subst hmp hmn; exact at_any s p n w hs hp hn

/-- the bytes from p on, n of them, as many as there are -/
def cutL (l : List UInt8) (p n : Nat) : List UInt8 := (l.drop p).take n

set_option maxHeartbeats 1000000 in
theorem cut_any (s : ByteArray) (p n : Nat) (w : World) (hs : s.size ≤ 1048576) (hp : p ≤ 16777216) (hn : n ≤ 16777216) :
    Calls Tryd.prog 16 #[.string s, .int .i64 p, .int .i64 n] w fun e w' => e = .returned (.string (bs (cutL (sl s) p n))) ∧ w' = w := by
  have hsz := hid (sl_length s)
  by_cases h1 : s.size < p
  · have C := hid (show cutL (sl s) p n = [] from by unfold cutL; rw [List.drop_of_length_le (by rw [hsz.out]; omega)]; simp)
    have g1 : (s.size : Int) < (p : Int) := by omega
    by_cases h2 : 0 < n
    · have g2 : (0 : Int) < (n : Int) := by omega
      go_enter Tryd.func16, Tryd.ntmps16
      go_wp2
      go_ret
      exact ⟨ret_str (by rw [C.out]; rfl), rfl⟩
    · have e : n = 0 := by omega
      subst e
      go_enter Tryd.func16, Tryd.ntmps16
      go_wp2
      go_ret
      exact ⟨ret_str (by rw [C.out]; rfl), rfl⟩
  · have g1 : (p : Int) ≤ (s.size : Int) := by omega
    by_cases h2 : s.size - p < n
    · have g2 : (s.size : Int) - (p : Int) < (n : Int) := by omega
      go_enter Tryd.func16, Tryd.ntmps16
      go_wp2
      go_ret
      refine ⟨ret_str ?_, rfl⟩
      rw [extract_bs]
      unfold cutL
      congr 1
      rw [List.take_of_length_le (by rw [List.length_drop, hsz.out]; omega), List.take_of_length_le (by rw [List.length_drop, hsz.out]; omega)]
    · have g2 : (n : Int) ≤ (s.size : Int) - (p : Int) := by omega
      go_enter Tryd.func16, Tryd.ntmps16
      go_wp2
      go_ret
      refine ⟨ret_str ?_, rfl⟩
      rw [extract_bs, Nat.add_sub_cancel_left]
      rfl

/-- n words from p on -/
def numsAt (l : List UInt8) (p : Nat) : Nat → List Int
  | 0 => []
  | n + 1 => numsAt l p n ++ [atL l (p + 4 * n) 4]
theorem numsAt_length (l : List UInt8) (p n : Nat) : (numsAt l p n).length = n := by
  induction n with
  | zero => rfl
  | succ n ih => simp [numsAt, ih]

set_option maxHeartbeats 1000000 in
theorem numbers_any (s : ByteArray) (p n : Nat) (w : World) (hs : s.size ≤ 1048576) (hp : p ≤ 8388608) (hn : n ≤ 65535) :
    Calls Tryd.prog 17 #[.string s, .int .i64 p, .int .i64 n] w fun e w' => ∃ v, e = .returned v ∧ w'.ownsRow w.heap.size 3 1 v (min n 1201) ((numsAt (sl s) p (min n 1201)).map (Value.int .i64)) ∧ w.grownBy w' none := by
  obtain ⟨i0, hi, hz0, hz1, hz2⟩ := info_parts Tryd.infoInt
  go_enter Tryd.func17, Tryd.ntmps17
  go_wp2
  go_loopw [7, 8] (fun v i wr => ∃ k : Nat, k ≤ n ∧ k ≤ 1201 ∧ i = .int .i64 k ∧ wr.ownsRow w.heap.size 3 1 v k ((numsAt (sl s) p k).map (Value.int .i64)) ∧ w.grownBy wr none) (fun _ i _ => n - (intOf i).toNat)
  case atStart => exact ⟨0, Nat.zero_le _, Nat.zero_le _, rfl, World.ownsRow_nil _ _ _ _, World.grownBy.refl _ _⟩
  case round =>
    obtain ⟨k, hk, hk2, rfl, hown, hgr⟩ := hrel
    have HG := hid hgr
    have hsz := hgr.size
    clear hgr
    by_cases hlt : k < n ∧ k < 1201
    · obtain ⟨hlt1, hlt2⟩ := hlt
      have g1 : (k : Int) < (n : Int) := by omega
      have g2 : (k : Int) < 1201 := by omega
      have cA := hid (fun W => at_lit s (p + 4 * k) 4 ((p : Int) + 4 * (k : Int)) 4 (by omega) rfl W hs (by omega) (by omega))
      go_wp2_with fail
      refine (cA.out _).mono ?_
      rintro e w1 ⟨rfl, rfl⟩
      have HX := hid (show numsAt (sl s) p (k + 1) = numsAt (sl s) p k ++ [atL (sl s) (p + 4 * k) 4] from rfl)
      generalize atL (sl s) (p + 4 * k) 4 = x at *
      go_wp2_with (at_builtin; refine wpList_append_own _ rfl _ _ 38 rfl w.heap.size 3 i0 (.int .i64 0) 1 8 Tryd.underlying38 hi hz0 hz1 hz2 rfl (by decide) _ _ _ rfl (hown.alloc _) ⟨w1.heap.size, 0, none⟩ 1 1 [.int .i64 x] rfl rfl (cell_one_new _ _ _) (by intro u hu; simp at hu; subst hu; rfl) (by unfold maxLen; omega) (by omega) (by simp; omega) ?_; intro v' w3 hown' hgrow _)
      have G3 := hid (show w.grownBy w3 none from ⟨hgrow.os.trans HG.out.os, hgrow.tape.trans HG.out.tape, hgrow.output.trans HG.out.output, by have := hgrow.size; simp at this; omega, fun i hi' _ =>
        (hgrow.block i (by simp; omega) (fun e => by have := (hown.lt i e.symm).1; omega)).trans ((Below.heap_alloc _ _ i (by omega)).trans (HG.out.block i hi' (by simp)))⟩)
      clear hgrow hown
      go_wp2
      go_roundw
      case rel => exact ⟨k + 1, by omega, by omega, by go_num, by rw [HX.out]; simpa using hown', G3.out⟩
      case measure => simp [intOf]; omega
    · have hmin : min n 1201 = k := by omega
      have HM := hid hmin
      by_cases hlt1 : k < n
      · have g1 : decide ((k : Int) < (n : Int)) = true := by simp; omega
        have g2 : decide ((k : Int) < 1201) = false := by simp; omega
        clear hmin
        go_wp2
        go_ret
        rw [HM.out]
        exact ⟨_, rfl, hown, HG.out⟩
      · have g1 : decide ((k : Int) < (n : Int)) = false := by simp; omega
        clear hmin
        go_wp2
        go_ret
        rw [HM.out]
        exact ⟨_, rfl, hown, HG.out⟩

end Go.Proofs.YtafjgogdeinpcaaDoor

namespace Go.Proofs.YtafjgogdeinpcaaDoor
open Go.RowKit

set_option maxHeartbeats 1000000 in
theorem covers_any (r : Lk.Rel) (w : World) (h : r.kind = 6 → r.addend = 4 ∨ r.addend = 12) :
    Calls Tryd.prog 53 #[relA r] w fun e w' => e = .returned (.int .i64 (spanI r)) ∧ w.grownBy w' none := by
  have G := hid (fun o : Obj => World.grownBy_alloc w o none)
  unfold relA spanI
  obtain ⟨sect, off, kind, sym, addend⟩ := r
  simp only at *
  by_cases e4 : kind = 4
  · subst e4
    go_enter Tryd.func53, Tryd.ntmps53
    go_wp2
    go_ret
    exact ⟨by simp, G.out _⟩
  by_cases e5 : kind = 5
  · subst e5
    clear e4
    go_enter Tryd.func53, Tryd.ntmps53
    go_wp2
    go_ret
    exact ⟨by simp, G.out _⟩
  by_cases e6 : kind = 6
  · subst e6
    have ha := h rfl
    clear e4 e5 h
    rcases ha with rfl | rfl
    all_goals
      go_enter Tryd.func53, Tryd.ntmps53
      go_wp2
      go_ret
      exact ⟨by simp, G.out _⟩
  have d4 : (kind == 4) = false := beq_eq_false_iff_ne.2 e4
  have d5 : (kind == 5) = false := beq_eq_false_iff_ne.2 e5
  have d6 : (kind == 6) = false := beq_eq_false_iff_ne.2 e6
  rw [if_neg (by omega), if_neg e6]
  clear e4 e5 e6 h
  go_enter Tryd.func53, Tryd.ntmps53
  go_wp2
  go_ret
  exact ⟨rfl, G.out _⟩

set_option maxHeartbeats 2000000 in
theorem name_any (s : ByteArray) (w : World) (hs : s.size ≤ 1048576) :
    Calls Tryd.prog 52 #[.string s] w fun e w' => Tells e (NameOk s) ∧ w' = w := by
  go_enter Tryd.func52, Tryd.ntmps52
  go_wp2
  go_loop [3] (fun i => ∃ k : Nat, k ≤ s.size ∧ i = .int .i64 k ∧ (∀ j (hj : j < s.size), j < k → Chr (s[j].toNat : Int)) ∧ ∀ h : 0 < s.size, 0 < k → ¬ (48 ≤ (s[0].toNat : Int) ∧ (s[0].toNat : Int) ≤ 57)) (fun i => s.size - (intOf i).toNat)
  case atStart => exact ⟨0, Nat.zero_le _, rfl, fun j _ hj => absurd hj (Nat.not_lt_zero j), fun _ h => absurd h (Nat.lt_irrefl _)⟩
  case round =>
    obtain ⟨k, hk, rfl, hall, hfst⟩ := hrel
    have HA := hid hall
    have HF := hid hfst
    clear hall hfst
    by_cases hlt : k < s.size
    · have hb : (0 : Int) ≤ (s[k].toNat : Int) := by omega
      rcases (show (s[k].toNat : Int) ≤ 47 ∨ (48 ≤ (s[k].toNat : Int) ∧ (s[k].toNat : Int) ≤ 57) ∨ (58 ≤ (s[k].toNat : Int) ∧ (s[k].toNat : Int) ≤ 94) ∨ (95 ≤ (s[k].toNat : Int) ∧ (s[k].toNat : Int) ≤ 95) ∨ (96 ≤ (s[k].toNat : Int) ∧ (s[k].toNat : Int) ≤ 96) ∨ (97 ≤ (s[k].toNat : Int) ∧ (s[k].toNat : Int) ≤ 122) ∨ 123 ≤ (s[k].toNat : Int) from by omega) with r | ⟨r1, r2⟩ | ⟨r1, r2⟩ | ⟨r1, r2⟩ | ⟨r1, r2⟩ | ⟨r1, r2⟩ | r
      · have N := hid (show ¬ NameOk s from fun h => by have := h.2.2.2 k hlt; unfold Chr at this; omega)
        go_wp2
        all_goals first | (go_ret; exact ⟨Tells.no N.out, rfl⟩) | (exfalso; rename_i hx; simp at hx; omega)
      · have HC := hid (show Chr (s[k].toNat : Int) from by unfold Chr; omega)
        by_cases hk0 : k = 0
        · subst hk0
          have N := hid (show ¬ NameOk s from fun h => h.2.2.1 hlt ⟨r1, r2⟩)
          go_wp2
          all_goals first | (go_ret; exact ⟨Tells.no N.out, rfl⟩) | (exfalso; rename_i hx; simp at hx; omega)
        · have hk1 : 1 ≤ k := by omega
          have dk : ((k : Int) == 0) = false := beq_eq_false_iff_ne.2 (by omega)
          clear hk0
          go_wp2
          all_goals go_round
          all_goals first
            | (case rel => exact ⟨k + 1, by omega, by go_num, fun j hj hjk => (Nat.lt_succ_iff_lt_or_eq.1 hjk).elim (fun h => HA.out j hj h) (fun h => by subst h; exact HC.out), fun h0 _ => HF.out h0 (by omega)⟩)
            | (case measure => simp [intOf]; omega)
      · have N := hid (show ¬ NameOk s from fun h => by have := h.2.2.2 k hlt; unfold Chr at this; omega)
        go_wp2
        all_goals first | (go_ret; exact ⟨Tells.no N.out, rfl⟩) | (exfalso; rename_i hx; simp at hx; omega)
      · have HC := hid (show Chr (s[k].toNat : Int) from by unfold Chr; omega)
        have HND := hid (show ¬ (48 ≤ (s[k].toNat : Int) ∧ (s[k].toNat : Int) ≤ 57) from by omega)
        go_wp2
        all_goals go_round
        all_goals first
          | (case rel => exact ⟨k + 1, by omega, by go_num, fun j hj hjk => (Nat.lt_succ_iff_lt_or_eq.1 hjk).elim (fun h => HA.out j hj h) (fun h => by subst h; exact HC.out), fun h0 _ => (Nat.eq_zero_or_pos k).elim (fun hk0 => by subst hk0; exact HND.out) (fun hk0 => HF.out h0 hk0)⟩)
          | (case measure => simp [intOf]; omega)
      · have N := hid (show ¬ NameOk s from fun h => by have := h.2.2.2 k hlt; unfold Chr at this; omega)
        go_wp2
        all_goals first | (go_ret; exact ⟨Tells.no N.out, rfl⟩) | (exfalso; rename_i hx; simp at hx; omega)
      · have HC := hid (show Chr (s[k].toNat : Int) from by unfold Chr; omega)
        have HND := hid (show ¬ (48 ≤ (s[k].toNat : Int) ∧ (s[k].toNat : Int) ≤ 57) from by omega)
        go_wp2
        all_goals go_round
        all_goals first
          | (case rel => exact ⟨k + 1, by omega, by go_num, fun j hj hjk => (Nat.lt_succ_iff_lt_or_eq.1 hjk).elim (fun h => HA.out j hj h) (fun h => by subst h; exact HC.out), fun h0 _ => (Nat.eq_zero_or_pos k).elim (fun hk0 => by subst hk0; exact HND.out) (fun hk0 => HF.out h0 hk0)⟩)
          | (case measure => simp [intOf]; omega)
      · have N := hid (show ¬ NameOk s from fun h => by have := h.2.2.2 k hlt; unfold Chr at this; omega)
        go_wp2
        all_goals first | (go_ret; exact ⟨Tells.no N.out, rfl⟩) | (exfalso; rename_i hx; simp at hx; omega)
    · by_cases c1 : 1 ≤ s.size
      · have d1 : decide ((1 : Int) ≤ (s.size : Int)) = true := by simp; omega
        go_wp2
        go_ret
        refine ⟨Tells.of ?_, rfl⟩
        rw [decide_eq_true_iff]
        exact ⟨fun h => ⟨c1, by omega, fun h0 => HF.out h0 (by omega), fun i hi => HA.out i hi (by omega)⟩, fun h => by have := h.2.1; omega⟩
      · have d1 : decide ((1 : Int) ≤ (s.size : Int)) = false := by simp; omega
        have N := hid (show ¬ NameOk s from fun h => by have := h.1; omega)
        go_wp2
        go_ret
        exact ⟨Tells.no N.out, rfl⟩

end Go.Proofs.YtafjgogdeinpcaaDoor

namespace Go.Proofs.YtafjgogdeinpcaaDoor
open Go.RowKit

theorem conv1 (W : World) (x : Int) : (convert 57 9 (.slice (some ⟨W.heap.size, 0, none⟩) 1 1)).run Tryd.prog (W.alloc (.cells #[.int .u8 x] 5)) = .ok (.string (strOfNums [x])) (W.alloc (.cells #[.int .u8 x] 5)) :=
  run_convert_bytes_arg (P := Tryd.prog) _ 57 5 Tryd.underlying57 Tryd.underlying5 W.heap.size 0 1 1 [x] rfl (fun i hi => by
    have e : i = 0 := by omega
    subst e
    exact (BlkAt.new W #[.int .u8 x] 5).cell 0) 9 Tryd.underlying9

theorem le_snoc (v : Int) (k : Nat) : Lk.le v (k + 1) = Lk.le v k ++ [UInt8.ofNat (v / (256 : Int) ^ k % 256).toNat] := by
  induction k generalizing v with
  | zero => simp [Lk.le]
  | succ k ih =>
    have h := ih (v / 256)
    have e : v / 256 / (256 : Int) ^ k = v / (256 : Int) ^ (k + 1) := by
      rw [Int.ediv_ediv_of_nonneg (by decide), Int.pow_succ, Int.mul_comm]
    rw [e] at h
    show UInt8.ofNat (v % 256).toNat :: Lk.le (v / 256) (k + 1) = (UInt8.ofNat (v % 256).toNat :: Lk.le (v / 256) k) ++ _
    rw [h]
    rfl

theorem bs_append (a b : List UInt8) : bs a ++ bs b = bs (a ++ b) := by
  apply ByteArray.ext
  simp [bs]

theorem le_step (v x : Int) (k : Nat) (hx : x = v / (256 : Int) ^ k % 256) : bs (Lk.le v k) ++ strOfNums [x] = bs (Lk.le v (k + 1)) := by
  subst hx
  rw [le_snoc, ← bs_append]
  rfl

set_option maxHeartbeats 2000000 in
theorem le_any (v : Int) (n : Nat) (w : World) (hn : n ≤ 4) :
    Calls Tryd.prog 38 #[.int .i64 v, .int .i64 n] w fun e w' => e = .returned (.string (bs (Lk.le v n))) ∧ w.grownBy w' none := by
  have hcv := conv1
  go_enter Tryd.func38, Tryd.ntmps38
  go_wp2
  go_loopw [5, 6] (fun t i wr => ∃ k : Nat, k ≤ n ∧ i = .int .i64 k ∧ t = .string (bs (Lk.le v k)) ∧ w.grownBy wr none) (fun _ i _ => n - (intOf i).toNat)
  case atStart => exact ⟨0, Nat.zero_le _, rfl, rfl, World.grownBy.refl _ _⟩
  case round =>
    obtain ⟨k, hk, rfl, rfl, hgr⟩ := hrel
    have HG := hid hgr
    clear hgr
    by_cases hlt : k < n
    · rcases (show k = 0 ∨ k = 1 ∨ k = 2 ∨ k = 3 from by omega) with rfl | rfl | rfl | rfl
      · have HS := hid (le_step v (v % 256) 0 (by simp))
        go_wp2
        go_roundw
        case rel => exact ⟨1, by omega, rfl, by rw [← HS.out], grown_trans HG.out (World.grownBy_alloc _ _ _)⟩
        case measure => simp [intOf]; omega
      · have HS := hid (le_step v (v / 256 % 256) 1 (by simp))
        go_wp2
        go_roundw
        case rel => exact ⟨2, by omega, rfl, by rw [← HS.out], grown_trans HG.out (World.grownBy_alloc _ _ _)⟩
        case measure => simp [intOf]; omega
      · have HS := hid (le_step v (v / 65536 % 256) 2 (by simp))
        go_wp2
        go_roundw
        case rel => exact ⟨3, by omega, rfl, by rw [← HS.out], grown_trans HG.out (World.grownBy_alloc _ _ _)⟩
        case measure => simp [intOf]; omega
      · have HS := hid (le_step v (v / 16777216 % 256) 3 (by simp))
        go_wp2
        go_roundw
        case rel => exact ⟨4, by omega, rfl, by rw [← HS.out], grown_trans HG.out (World.grownBy_alloc _ _ _)⟩
        case measure => simp [intOf]; omega
    · have e : k = n := by omega
      subst e
      go_wp2
      go_ret
      exact ⟨rfl, HG.out⟩

end Go.Proofs.YtafjgogdeinpcaaDoor

namespace Go.Proofs.YtafjgogdeinpcaaDoor
open Go.RowKit

theorem str_cells (l : List UInt8) : Lib.strCells (bs l) = byV l := by
  simp [Lib.strCells, byV, bs]

theorem byV_append (a b : List UInt8) : byV (a ++ b) = byV a ++ byV b := by simp [byV]

theorem le_lit (v : Int) (n : Nat) (mn : Int) (hmn : mn = (n : Int)) (w : World) (hn : n ≤ 4) :
    Calls Tryd.prog 38 #[.int .i64 v, .int .i64 mn] w fun e w' => e = .returned (.string (bs (Lk.le v n))) ∧ w.grownBy w' none := by
  subst hmn; exact le_any v n w hn

set_option maxHeartbeats 2000000 in
theorem leAll_any (ao : Option Addr) (cap : Nat) (xs : List Int) (w : World) (hI : IntsIn w ao xs) (hn : xs.length ≤ 65535) :
    Calls Tryd.prog 39 #[.slice ao xs.length cap] w fun e w' => e = .returned (.string (bs (Lk.nums xs 4))) ∧ w.grownBy w' none := by
  obtain ⟨i0, hi, hz0, hz1, hz2⟩ := info_parts Tryd.infoU8
  have HI := hid hI
  clear hI
  go_enter Tryd.func39, Tryd.ntmps39
  go_wp2
  go_loopw [3, 4] (fun v i wr => ∃ k : Nat, k ≤ xs.length ∧ i = .int .i64 k ∧ (∃ acc : List UInt8, acc = Lk.nums (xs.take k) 4 ∧ wr.ownsRow w.heap.size 5 1 v acc.length (byV acc)) ∧ w.grownBy wr none) (fun _ i _ => xs.length - (intOf i).toNat)
  case atStart => exact ⟨0, Nat.zero_le _, rfl, ⟨[], by simp [Lk.nums], World.ownsRow_nil _ _ _ _⟩, World.grownBy.refl _ _⟩
  case round =>
    obtain ⟨k, hk, rfl, hacc, hgr⟩ := hrel
    have HG := hid hgr
    have HC := hid hacc
    clear hgr hacc
    by_cases hlt : k < xs.length
    · obtain ⟨acc, hae, hown⟩ := HC.out
      obtain ⟨g, off, hao, hc⟩ := (HI.out.kept (fun a v hv => gcell hv HG.out)) (by omega)
      subst hao
      have hck := hc k hlt
      have cL := hid (fun W => le_lit xs[k] 4 4 rfl W (by omega))
      have hal : acc.length ≤ 262140 := by rw [hae, nums_length, List.length_take_of_le (by omega)]; omega
      have HAE := hid hae
      clear hc hae HC
      go_wp2_with fail
      refine (cL.out _).mono ?_
      rintro e w2 ⟨rfl, hq⟩
      have G2 := hid (grown_trans HG.out hq)
      have hown2 := hown.kept hq (by cases Value.ownBlock _ <;> simp)
      have hsz := (grown_trans HG.out hq).size
      have hbl : (bs (Lk.le xs[k] 4)).size = 4 := by rw [bs_size, Lk.le_length]
      have HBL := hid hbl
      have hb2 : (bs (Lk.le xs[k] 4)).size ≤ 4 := by omega
      clear hown hq hbl
      go_wp2_with (at_builtin; refine Lib.wpList_append_own_string _ rfl _ _ 57 9 rfl w.heap.size 5 i0 Tryd.underlying57 Tryd.underlying9 hi hz0 hz1 hz2 _ acc.length (byV acc) rfl hown2 (bs (Lk.le xs[k] 4)) rfl (by unfold maxLen; omega) (by omega) (by omega) ?_; intro v' w3 hown' hgrow _)
      rw [str_cells, HBL.out] at hown'
      have G3 := hid (show w.grownBy w3 none from ⟨hgrow.os.trans G2.out.os, hgrow.tape.trans G2.out.tape, hgrow.output.trans G2.out.output, Nat.le_trans G2.out.size hgrow.size, fun i hi' _ =>
        (hgrow.block i (by omega) (fun e => by have := (hown2.lt i e.symm).1; omega)).trans (G2.out.block i hi' (by simp))⟩)
      have HOW := hid hown'
      clear hgrow hown2 hown'
      go_wp2
      go_roundw
      case rel =>
        refine ⟨k + 1, by omega, by go_num, ⟨acc ++ Lk.le xs[k] 4, ?_, ?_⟩, G3.out⟩
        · rw [HAE.out, nums_snoc xs k 4 hlt]
        · rw [List.length_append, Lk.le_length, byV_append]; exact HOW.out
      case measure => simp [intOf]; omega
    · obtain ⟨acc, hae, hown⟩ := HC.out
      rw [List.take_of_length_le (show xs.length ≤ k by omega)] at hae
      subst hae
      obtain ⟨ao', cap', hv⟩ := own_form hown
      subst hv
      have hr := own_convert hown
      clear HC
      go_wp2
      go_ret
      exact ⟨rfl, HG.out⟩

end Go.Proofs.YtafjgogdeinpcaaDoor
