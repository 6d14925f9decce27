/- Bits of numbers: the plain side. -/
/- Walks over package instr: the number of a word. -/
/- Walks over package instr: the parts of a word; Decode. -/
/- Walks over package instr: Decode. -/
/- What Decode's answer says of a word: the plain side. -/
import Derived.Laws.BitsAllLaws
import Derived.WalkKit
import Derived.Test.YtafjgogdeinpcaaDoorGB
namespace Go.Proofs.YtafjgogdeinpcaaDoor
open Go.RowKit

theorem i64_and_nat (a b : Nat) (ha : a < 9223372036854775808) (hb : b < 9223372036854775808) : bits .and .i64 (a : Int) (b : Int) = ((a &&& b : Nat) : Int) := by
  have hx : a &&& b < 2 ^ 63 := Nat.and_lt_two_pow _ (by omega)
  show IntKind.i64.wrap ((BitVec.ofInt 64 (a : Int) &&& BitVec.ofInt 64 (b : Int)).toNat : Int) = _
  rw [BitVec.toNat_and, ofInt_u64 a (by omega), ofInt_u64 b (by omega)]
  exact IntWalk.i64_in _ ⟨by omega, by omega⟩
theorem i64_or_nat (a b : Nat) (ha : a < 9223372036854775808) (hb : b < 9223372036854775808) : bits .or .i64 (a : Int) (b : Int) = ((a ||| b : Nat) : Int) := by
  have hx : a ||| b < 2 ^ 63 := Nat.or_lt_two_pow (by omega) (by omega)
  show IntKind.i64.wrap ((BitVec.ofInt 64 (a : Int) ||| BitVec.ofInt 64 (b : Int)).toNat : Int) = _
  rw [BitVec.toNat_or, ofInt_u64 a (by omega), ofInt_u64 b (by omega)]
  exact IntWalk.i64_in _ ⟨by omega, by omega⟩

/-- the lowest k bits -/
theorem and_low (n : Int) (k : Nat) (hk : k ≤ 40) (m : Int) (hm : m = (2 : Int) ^ k - 1) (h0 : 0 ≤ n) (h1 : n ≤ 4294967295) : bits .and .i64 n m = n % (2 : Int) ^ k := by
  obtain ⟨a, rfl⟩ := Int.eq_ofNat_of_zero_le h0
  have hp : 0 < 2 ^ k := Nat.two_pow_pos k
  have hq : 2 ^ k ≤ 2 ^ 40 := Nat.pow_le_pow_right (by decide) hk
  have e : m = ((2 ^ k - 1 : Nat) : Int) := by
    rw [hm, Int.natCast_sub hp]
    simp
  rw [e, i64_and_nat a _ (by omega) (by omega), Nat.and_two_pow_sub_one_eq_mod]
  simp

theorem or_zero (a b : Int) (ha : 0 ≤ a) (ha' : a < 9223372036854775808) (hb : 0 ≤ b) (hb' : b < 9223372036854775808) : 0 ≤ bits .or .i64 a b ∧ (bits .or .i64 a b = 0 ↔ a = 0 ∧ b = 0) := by
  obtain ⟨x, rfl⟩ := Int.eq_ofNat_of_zero_le ha
  obtain ⟨y, rfl⟩ := Int.eq_ofNat_of_zero_le hb
  rw [i64_or_nat x y (by omega) (by omega)]
  refine ⟨by omega, ?_⟩
  constructor
  · intro h
    have h' : x ||| y = 0 := by omega
    have hx : x ≤ x ||| y := Nat.left_le_or
    have hy : y ≤ x ||| y := Nat.right_le_or
    omega
  · rintro ⟨h1, h2⟩
    have : x = 0 := by omega
    have : y = 0 := by omega
    subst x y
    simp
theorem or_lt (a b : Int) (k : Nat) (hk : k ≤ 60) (ha : 0 ≤ a) (ha' : a < (2 : Int) ^ k) (hb : 0 ≤ b) (hb' : b < (2 : Int) ^ k) : bits .or .i64 a b < (2 : Int) ^ k := by
  obtain ⟨x, rfl⟩ := Int.eq_ofNat_of_zero_le ha
  obtain ⟨y, rfl⟩ := Int.eq_ofNat_of_zero_le hb
  have e : ((2 ^ k : Nat) : Int) = (2 : Int) ^ k := by simp
  rw [← e] at ha' hb' ⊢
  have hq : 2 ^ k ≤ 2 ^ 60 := Nat.pow_le_pow_right (by decide) hk
  have := Nat.or_lt_two_pow (x := x) (y := y) (n := k) (by omega) (by omega)
  rw [i64_or_nat x y (by omega) (by omega)]
  omega

theorem and_bits (a b : Nat) (k : Nat) : a &&& (b <<< k) = ((a >>> k) &&& b) <<< k := by
  apply Nat.eq_of_testBit_eq
  intro i
  simp only [Nat.testBit_and, Nat.testBit_shiftLeft, Nat.testBit_shiftRight]
  by_cases h : k ≤ i
  · simp [h]
  · simp [h]

theorem or_add (a b k : Nat) (h : a < 2 ^ k) : a ||| (b <<< k) = a + b * 2 ^ k := by
  rw [Nat.or_comm, ← Nat.shiftLeft_add_eq_or_of_lt h, Nat.shiftLeft_eq]
  omega

theorem mask3 (n : Int) (h0 : 0 ≤ n) (h1 : n ≤ 4294967295) : bits .and .i64 n 28799 = n % 128 + 4096 * (n / 4096 % 8) := by
  obtain ⟨a, rfl⟩ := Int.eq_ofNat_of_zero_le h0
  have e : (28799 : Int) = ((127 ||| (7 <<< 12) : Nat) : Int) := by decide
  rw [e, i64_and_nat a _ (by omega) (by decide), Nat.and_or_distrib_left, and_bits]
  have e1 : a &&& 127 = a % 128 := Nat.and_two_pow_sub_one_eq_mod a 7
  have e2 : (a >>> 12) &&& 7 = a / 4096 % 8 := by rw [Nat.shiftRight_eq_div_pow]; exact Nat.and_two_pow_sub_one_eq_mod _ 3
  rw [e1, e2, or_add _ _ 12 (by omega)]
  omega

theorem maskR (n : Int) (h0 : 0 ≤ n) (h1 : n ≤ 4294967295) : bits .and .i64 n 4261441663 = n % 128 + 4096 * (n / 4096 % 8) + 33554432 * (n / 33554432) := by
  obtain ⟨a, rfl⟩ := Int.eq_ofNat_of_zero_le h0
  have e : (4261441663 : Int) = (((127 ||| (7 <<< 12)) ||| (127 <<< 25) : Nat) : Int) := by decide
  rw [e, i64_and_nat a _ (by omega) (by decide), Nat.and_or_distrib_left, Nat.and_or_distrib_left, and_bits, and_bits]
  have e1 : a &&& 127 = a % 128 := Nat.and_two_pow_sub_one_eq_mod a 7
  have e2 : (a >>> 12) &&& 7 = a / 4096 % 8 := by rw [Nat.shiftRight_eq_div_pow]; exact Nat.and_two_pow_sub_one_eq_mod _ 3
  have e3 : (a >>> 25) &&& 127 = a / 33554432 % 128 := by rw [Nat.shiftRight_eq_div_pow]; exact Nat.and_two_pow_sub_one_eq_mod _ 7
  rw [e1, e2, e3, or_add _ _ 12 (by omega), or_add _ _ 25 (by omega)]
  omega

theorem mask7 (n : Int) (h0 : 0 ≤ n) (h1 : n ≤ 4294967295) : bits .and .i64 n 127 = n % 128 := and_low n 7 (by decide) 127 rfl h0 h1
theorem maskW (n : Int) (h0 : 0 ≤ n) (h1 : n ≤ 4294967295) : bits .and .i64 n 4294967295 = n := by
  rw [and_low n 32 (by decide) 4294967295 rfl h0 h1]
  simp only [Int.reducePow]
  omega

end Go.Proofs.YtafjgogdeinpcaaDoor

namespace Go.Proofs.YtafjgogdeinpcaaDoor
open Go.RowKit

/-- it returned a number that is 0 just if P -/
def TellsN (e : Ending) (P : Prop) : Prop := ∃ v, e = .returned (.int .i64 v) ∧ (v = 0 ↔ P)
theorem TellsN.of {P : Prop} {v : Int} (h : v = 0 ↔ P) : TellsN (.returned (.int .i64 v)) P := ⟨v, rfl, h⟩

/-- the number in a word of this form is 0 -/
def NumZero (form n : Int) : Prop :=
  if form = 1 ∨ form = 2 then n / 4096 = 0 else if form = 3 then n / 1048576 = 0 else if form = 4 ∨ form = 5 then n / 33554432 = 0 ∧ n / 128 % 32 = 0 else True

theorem low (n : Int) (k : Nat) (hk : k ≤ 32) (m d : Int) (hm : m = (2 : Int) ^ k - 1) (hd : d = (2 : Int) ^ k) (h0 : 0 ≤ n) (h1 : n ≤ 4294967295) : bits .and .i64 n m = n % d := by
  rw [hd]; exact and_low n k (by omega) m hm h0 h1

theorem t1_spec (n : Int) (h0 : 0 ≤ n) (h1 : n ≤ 4294967295) : bits .and .i64 (n / 4096) 1048575 = 0 ↔ NumZero 1 n := by
  rw [low (n / 4096) 20 (by decide) 1048575 1048576 rfl rfl (by omega) (by omega)]
  unfold NumZero
  rw [if_pos (.inl rfl)]
  omega

def t2 (n : Int) : Int := bits .or .i64 (bits .or .i64 (bits .or .i64 (wrap64 (bits .and .i64 (n / 2147483648) 1 * 1048576)) (wrap64 (bits .and .i64 (n / 4096) 255 * 4096))) (wrap64 (bits .and .i64 (n / 1048576) 1 * 2048))) (wrap64 (bits .and .i64 (n / 2097152) 1023 * 2))
theorem t2_spec (n : Int) (h0 : 0 ≤ n) (h1 : n ≤ 4294967295) : 0 ≤ t2 n ∧ t2 n < 2097152 ∧ (t2 n = 0 ↔ NumZero 2 n) := by
  unfold t2
  rw [low (n / 2147483648) 1 (by decide) 1 2 rfl rfl (by omega) (by omega), low (n / 4096) 8 (by decide) 255 256 rfl rfl (by omega) (by omega), low (n / 1048576) 1 (by decide) 1 2 rfl rfl (by omega) (by omega), low (n / 2097152) 10 (by decide) 1023 1024 rfl rfl (by omega) (by omega)]
  rw [IntWalk.wrap64_in (n / 2147483648 % 2 * 1048576) ⟨by omega, by omega⟩, IntWalk.wrap64_in (n / 4096 % 256 * 4096) ⟨by omega, by omega⟩, IntWalk.wrap64_in (n / 1048576 % 2 * 2048) ⟨by omega, by omega⟩, IntWalk.wrap64_in (n / 2097152 % 1024 * 2) ⟨by omega, by omega⟩]
  have a1 := or_zero (n / 2147483648 % 2 * 1048576) (n / 4096 % 256 * 4096) (by omega) (by omega) (by omega) (by omega)
  have l1 := or_lt (n / 2147483648 % 2 * 1048576) (n / 4096 % 256 * 4096) 21 (by decide) (by omega) (by simp only [Int.reducePow]; omega) (by omega) (by simp only [Int.reducePow]; omega)
  generalize bits .or .i64 (n / 2147483648 % 2 * 1048576) (n / 4096 % 256 * 4096) = x1 at *
  simp only [Int.reducePow] at l1
  have a2 := or_zero x1 (n / 1048576 % 2 * 2048) (by omega) (by omega) (by omega) (by omega)
  have l2 := or_lt x1 (n / 1048576 % 2 * 2048) 21 (by decide) (by omega) (by simp only [Int.reducePow]; omega) (by omega) (by simp only [Int.reducePow]; omega)
  generalize bits .or .i64 x1 (n / 1048576 % 2 * 2048) = x2 at *
  simp only [Int.reducePow] at l2
  have a3 := or_zero x2 (n / 2097152 % 1024 * 2) (by omega) (by omega) (by omega) (by omega)
  have l3 := or_lt x2 (n / 2097152 % 1024 * 2) 21 (by decide) (by omega) (by simp only [Int.reducePow]; omega) (by omega) (by simp only [Int.reducePow]; omega)
  simp only [Int.reducePow] at l3
  refine ⟨a3.1, l3, ?_⟩
  rw [a3.2, a2.2, a1.2]
  unfold NumZero
  rw [if_pos (.inr rfl)]
  omega

def t3 (n : Int) : Int := bits .and .i64 (n / 1048576) 4095
theorem t3_spec (n : Int) (h0 : 0 ≤ n) (h1 : n ≤ 4294967295) : 0 ≤ t3 n ∧ t3 n < 4096 ∧ (t3 n = 0 ↔ NumZero 3 n) := by
  unfold t3
  rw [low (n / 1048576) 12 (by decide) 4095 4096 rfl rfl (by omega) (by omega)]
  unfold NumZero
  rw [if_neg (by decide), if_pos rfl]
  omega

def t4 (n : Int) : Int := bits .or .i64 (bits .or .i64 (bits .or .i64 (wrap64 (bits .and .i64 (n / 2147483648) 1 * 4096)) (wrap64 (bits .and .i64 (n / 128) 1 * 2048))) (wrap64 (bits .and .i64 (n / 33554432) 63 * 32))) (wrap64 (bits .and .i64 (n / 256) 15 * 2))
theorem t4_spec (n : Int) (h0 : 0 ≤ n) (h1 : n ≤ 4294967295) : 0 ≤ t4 n ∧ t4 n < 8192 ∧ (t4 n = 0 ↔ NumZero 4 n) := by
  unfold t4
  rw [low (n / 2147483648) 1 (by decide) 1 2 rfl rfl (by omega) (by omega), low (n / 128) 1 (by decide) 1 2 rfl rfl (by omega) (by omega), low (n / 33554432) 6 (by decide) 63 64 rfl rfl (by omega) (by omega), low (n / 256) 4 (by decide) 15 16 rfl rfl (by omega) (by omega)]
  rw [IntWalk.wrap64_in (n / 2147483648 % 2 * 4096) ⟨by omega, by omega⟩, IntWalk.wrap64_in (n / 128 % 2 * 2048) ⟨by omega, by omega⟩, IntWalk.wrap64_in (n / 33554432 % 64 * 32) ⟨by omega, by omega⟩, IntWalk.wrap64_in (n / 256 % 16 * 2) ⟨by omega, by omega⟩]
  have a1 := or_zero (n / 2147483648 % 2 * 4096) (n / 128 % 2 * 2048) (by omega) (by omega) (by omega) (by omega)
  have l1 := or_lt (n / 2147483648 % 2 * 4096) (n / 128 % 2 * 2048) 13 (by decide) (by omega) (by simp only [Int.reducePow]; omega) (by omega) (by simp only [Int.reducePow]; omega)
  generalize bits .or .i64 (n / 2147483648 % 2 * 4096) (n / 128 % 2 * 2048) = x1 at *
  simp only [Int.reducePow] at l1
  have a2 := or_zero x1 (n / 33554432 % 64 * 32) (by omega) (by omega) (by omega) (by omega)
  have l2 := or_lt x1 (n / 33554432 % 64 * 32) 13 (by decide) (by omega) (by simp only [Int.reducePow]; omega) (by omega) (by simp only [Int.reducePow]; omega)
  generalize bits .or .i64 x1 (n / 33554432 % 64 * 32) = x2 at *
  simp only [Int.reducePow] at l2
  have a3 := or_zero x2 (n / 256 % 16 * 2) (by omega) (by omega) (by omega) (by omega)
  have l3 := or_lt x2 (n / 256 % 16 * 2) 13 (by decide) (by omega) (by simp only [Int.reducePow]; omega) (by omega) (by simp only [Int.reducePow]; omega)
  simp only [Int.reducePow] at l3
  refine ⟨a3.1, l3, ?_⟩
  rw [a3.2, a2.2, a1.2]
  unfold NumZero
  rw [if_neg (by decide), if_neg (by decide), if_pos (.inl rfl)]
  omega

def t5 (n : Int) : Int := bits .or .i64 (wrap64 (bits .and .i64 (n / 33554432) 127 * 32)) (bits .and .i64 (n / 128) 31)
theorem t5_spec (n : Int) (h0 : 0 ≤ n) (h1 : n ≤ 4294967295) : 0 ≤ t5 n ∧ t5 n < 4096 ∧ (t5 n = 0 ↔ NumZero 5 n) := by
  unfold t5
  rw [low (n / 33554432) 7 (by decide) 127 128 rfl rfl (by omega) (by omega), low (n / 128) 5 (by decide) 31 32 rfl rfl (by omega) (by omega)]
  rw [IntWalk.wrap64_in (n / 33554432 % 128 * 32) ⟨by omega, by omega⟩]
  have a1 := or_zero (n / 33554432 % 128 * 32) (n / 128 % 32) (by omega) (by omega) (by omega) (by omega)
  have l1 := or_lt (n / 33554432 % 128 * 32) (n / 128 % 32) 12 (by decide) (by omega) (by simp only [Int.reducePow]; omega) (by omega) (by simp only [Int.reducePow]; omega)
  simp only [Int.reducePow] at l1
  refine ⟨a1.1, l1, ?_⟩
  rw [a1.2]
  unfold NumZero
  rw [if_neg (by decide), if_neg (by decide), if_pos (.inr rfl)]
  omega

theorem minus_zero (t d : Int) (P : Prop) (_h0 : 0 ≤ t) (h1 : t < d) (hd : d ≤ 4294967296) (h : t = 0 ↔ P) (hge : 1 ≤ t) : wrap64 (t - d) = 0 ↔ P := by
  rw [IntWalk.wrap64_in _ ⟨by omega, by omega⟩, ← h]
  omega

set_option maxHeartbeats 1000000 in
theorem takeNumber_any (form n : Int) (w : World) (h0 : 0 ≤ n) (h1 : n ≤ 4294967295) :
    Calls Tryd.prog 86 #[.int .i64 form, .int .i64 n] w fun e w' => TellsN e (NumZero form n) ∧ w' = w := by
  by_cases e1 : form = 1
  · subst e1
    go_enter Tryd.func86, Tryd.ntmps86
    go_wp2
    go_ret
    exact ⟨TellsN.of (t1_spec n h0 h1), rfl⟩
  by_cases e2 : form = 2
  · subst e2
    have T := hid (t2_spec n h0 h1)
    clear e1
    go_enter Tryd.func86, Tryd.ntmps86
    go_wp2
    · go_ret
      exact ⟨TellsN.of T.out.2.2, rfl⟩
    · rename_i hx
      go_ret
      refine ⟨TellsN.of (minus_zero (t2 n) 2097152 _ T.out.1 T.out.2.1 (by decide) T.out.2.2 ?_), rfl⟩
      have : (1048576 : Int) ≤ t2 n := by assumption
      omega
  by_cases e3 : form = 3
  · subst e3
    have T := hid (t3_spec n h0 h1)
    clear e1 e2
    go_enter Tryd.func86, Tryd.ntmps86
    go_wp2
    · go_ret
      exact ⟨TellsN.of T.out.2.2, rfl⟩
    · go_ret
      refine ⟨TellsN.of (minus_zero (t3 n) 4096 _ T.out.1 T.out.2.1 (by decide) T.out.2.2 ?_), rfl⟩
      have : (2048 : Int) ≤ t3 n := by assumption
      omega
  by_cases e4 : form = 4
  · subst e4
    have T := hid (t4_spec n h0 h1)
    clear e1 e2 e3
    go_enter Tryd.func86, Tryd.ntmps86
    go_wp2
    · go_ret
      exact ⟨TellsN.of T.out.2.2, rfl⟩
    · go_ret
      refine ⟨TellsN.of (minus_zero (t4 n) 8192 _ T.out.1 T.out.2.1 (by decide) T.out.2.2 ?_), rfl⟩
      have : (4096 : Int) ≤ t4 n := by assumption
      omega
  by_cases e5 : form = 5
  · subst e5
    have T := hid (t5_spec n h0 h1)
    clear e1 e2 e3 e4
    go_enter Tryd.func86, Tryd.ntmps86
    go_wp2
    · go_ret
      exact ⟨TellsN.of T.out.2.2, rfl⟩
    · go_ret
      refine ⟨TellsN.of (minus_zero (t5 n) 4096 _ T.out.1 T.out.2.1 (by decide) T.out.2.2 ?_), rfl⟩
      have : (2048 : Int) ≤ t5 n := by assumption
      omega
  have T := hid (show NumZero form n from by unfold NumZero; rw [if_neg (by omega), if_neg e3, if_neg (by omega)]; trivial)
  have d1 : (form == 1) = false := beq_eq_false_iff_ne.2 e1
  have d2 : (form == 2) = false := beq_eq_false_iff_ne.2 e2
  have d3 : (form == 3) = false := beq_eq_false_iff_ne.2 e3
  have d4 : (form == 4) = false := beq_eq_false_iff_ne.2 e4
  have d5 : (form == 5) = false := beq_eq_false_iff_ne.2 e5
  clear e1 e2 e3 e4 e5
  go_enter Tryd.func86, Tryd.ntmps86
  go_wp2
  go_ret
  exact ⟨TellsN.of ⟨fun _ => T.out, fun _ => rfl⟩, rfl⟩

end Go.Proofs.YtafjgogdeinpcaaDoor

namespace Go.Proofs.YtafjgogdeinpcaaDoor
open Go.RowKit

def rdF (form n : Int) : Int := if form = 1 ∨ form = 2 ∨ form = 3 ∨ form = 6 then bits .and .i64 (n / 128) 31 else 0
def rs1F (form n : Int) : Int := if form = 3 ∨ form = 4 ∨ form = 5 ∨ form = 6 then bits .and .i64 (n / 32768) 31 else 0
def rs2F (form n : Int) : Int := if form = 4 ∨ form = 5 ∨ form = 6 then bits .and .i64 (n / 1048576) 31 else 0

def insV (op rd rs1 rs2 m : Int) : Value := .agg #[.int .i64 op, .int .i64 rd, .int .i64 rs1, .int .i64 rs2, .int .i64 m]
def TellsF (e : Ending) (op form n : Int) : Prop := ∃ m, e = .returned (insV op (rdF form n) (rs1F form n) (rs2F form n) m) ∧ (m = 0 ↔ NumZero form n)

set_option maxHeartbeats 2000000 in
theorem fields_any (op form n : Int) (w : World) (h0 : 0 ≤ n) (h1 : n ≤ 4294967295) (hf : 1 ≤ form ∧ form ≤ 7) :
    Calls Tryd.prog 85 #[.int .i64 op, .int .i64 form, .int .i64 n] w fun e w' => TellsF e op form n ∧ w.grownBy w' none := by
  have cT := hid (fun W => takeNumber_any form n W h0 h1)
  have G1 := hid (fun o : Obj => World.grownBy_alloc w o none)
  have G2 := hid (fun o o' : Obj => World.grownBy_alloc (w.alloc o) o' none)
  have Z : Hid (∀ m, (m = 0 ↔ NumZero form n) → ∀ e, e = Ending.returned (insV op (rdF form n) (rs1F form n) (rs2F form n) m) → TellsF e op form n) := fun m hm e he => ⟨m, he, hm⟩
  have S := hid (show ∀ (W : World) (a b : Nat) (cs zs : Array Value), True from fun _ _ _ _ _ => trivial)
  rcases (show form = 1 ∨ form = 2 ∨ form = 3 ∨ form = 4 ∨ form = 5 ∨ form = 6 ∨ form = 7 from by omega) with rfl | rfl | rfl | rfl | rfl | rfl | rfl
  all_goals
    clear hf S
    go_enter Tryd.func85, Tryd.ntmps85
    go_wp2_with fail
    refine (cT.out _).mono ?_
    rintro e w1 ⟨⟨m, rfl, hm⟩, rfl⟩
    have HM := hid hm
    clear hm cT
    go_wp2
    refine bodyPost_ret (v := insV op (rdF _ n) (rs1F _ n) (rs2F _ n) m) ?_ rfl ⟨⟨m, rfl, HM.out⟩, grown_trans (G1.out _) (G2.out _ _)⟩
    simp [results, Tryd.results85, go_sem, insV, rdF, rs1F, rs2F]

/-- the tables of package instr lie where they were laid -/
def formL : List Int := [0, 1, 1, 2, 3, 4, 4, 4, 4, 4, 4, 3, 5, 3, 3, 3, 3, 3, 6, 6, 6, 6, 6, 6, 6, 7]
def fixedL : List Int := [0, 55, 23, 111, 103, 99, 4195, 16483, 20579, 24675, 28771, 8195, 8227, 19, 8211, 16403, 24595, 28691, 51, 1073741875, 8243, 12339, 16435, 24627, 28723, 115]
structure Tabs (w : World) : Prop where
  form : ∀ i, i < 26 → w.cell? ⟨0, i, none⟩ = some (.int .i64 (formL.getD i 0))
  fix : ∀ i, i < 26 → w.cell? ⟨1, i, none⟩ = some (.int .i64 (fixedL.getD i 0))
theorem Tabs.grown {w w' : World} (h : Tabs w) (hg : w.grownBy w' none) : Tabs w' := ⟨fun i hi => gcell (h.form i hi) hg, fun i hi => gcell (h.fix i hi) hg⟩
theorem Tabs.grownAt {w w' : World} (h : Tabs w) {b : Nat} (hg : w.grownBy w' (some b)) (hb : 2 ≤ b) : Tabs w' :=
  ⟨fun i hi => hg.cell (h.form i hi) (by simp; omega), fun i hi => hg.cell (h.fix i hi) (by simp; omega)⟩

def maskF (form : Int) : Int := if form = 1 ∨ form = 2 then 127 else if form = 3 ∨ form = 4 ∨ form = 5 then 28799 else if form = 6 then 4261441663 else 4294967295

set_option maxHeartbeats 1000000 in
theorem fixedMask_any (form : Int) (w : World) (hf : 1 ≤ form ∧ form ≤ 7) :
    Calls Tryd.prog 84 #[.int .i64 form] w fun e w' => e = .returned (.int .i64 (maskF form)) ∧ w' = w := by
  rcases (show form = 1 ∨ form = 2 ∨ form = 3 ∨ form = 4 ∨ form = 5 ∨ form = 6 ∨ form = 7 from by omega) with rfl | rfl | rfl | rfl | rfl | rfl | rfl
  all_goals
    clear hf
    go_enter Tryd.func84, Tryd.ntmps84
    go_wp2
    go_ret
    exact ⟨by simp [maskF], rfl⟩

/-- the word is of instruction k -/
def Is (k : Nat) (n : Int) : Prop := bits .and .i64 n (maskF (formL.getD k 0)) = fixedL.getD k 0

/-- what Decode gives -/
def Dec (n op rd rs1 m : Int) : Prop :=
  (op = 0 ∧ rd = 0 ∧ rs1 = 0 ∧ m = 0 ∧ ∀ k, 1 ≤ k → k ≤ 25 → ¬ Is k n) ∨
  ∃ k : Nat, 1 ≤ k ∧ k ≤ 25 ∧ Is k n ∧ (∀ j, 1 ≤ j → j < k → ¬ Is j n) ∧ op = k ∧ rd = rdF (formL.getD k 0) n ∧ rs1 = rs1F (formL.getD k 0) n ∧ (m = 0 ↔ NumZero (formL.getD k 0) n)
def TellsD (e : Ending) (n : Int) : Prop := ∃ op rd rs1 rs2 m, e = .returned (insV op rd rs1 rs2 m) ∧ Dec n op rd rs1 m

theorem form_range (k : Nat) (h1 : 1 ≤ k) (h2 : k ≤ 25) : 1 ≤ formL.getD k 0 ∧ formL.getD k 0 ≤ 7 := by
  have : ∀ k, k < 26 → 1 ≤ k → 1 ≤ formL.getD k 0 ∧ formL.getD k 0 ≤ 7 := by decide
  exact this k (by omega) h1

end Go.Proofs.YtafjgogdeinpcaaDoor

namespace Go.Proofs.YtafjgogdeinpcaaDoor
open Go.RowKit

theorem grown_new {w W : World} (h : w.grownBy W none) {b : Nat} (hb : w.heap.size ≤ b) (o : Nat) (v : Value) : w.grownBy (W.setCell ⟨b, o, none⟩ v) none :=
  ⟨h.os, h.tape, h.output, by simpa [World.setCell] using h.size, fun i hi _ => (Below.heap_setCell W ⟨b, o, none⟩ v i (by simp; omega)).trans (h.block i hi (by simp))⟩

theorem put5 {w W : World} {a0 a1 a2 a3 a4 : Value} (h : w.grownBy W none) (hB : BlkAt W w.heap.size #[a0, a1, a2, a3, a4] 111) (b0 b1 b2 b3 b4 : Value) :
    BlkAt (((((W.setCell ⟨w.heap.size, 0, none⟩ b0).setCell ⟨w.heap.size, 1, none⟩ b1).setCell ⟨w.heap.size, 2, none⟩ b2).setCell ⟨w.heap.size, 3, none⟩ b3).setCell ⟨w.heap.size, 4, none⟩ b4) w.heap.size #[b0, b1, b2, b3, b4] 111 ∧
    w.grownBy (((((W.setCell ⟨w.heap.size, 0, none⟩ b0).setCell ⟨w.heap.size, 1, none⟩ b1).setCell ⟨w.heap.size, 2, none⟩ b2).setCell ⟨w.heap.size, 3, none⟩ b3).setCell ⟨w.heap.size, 4, none⟩ b4) none :=
  ⟨((((hB.set 0 b0).set 1 b1).set 2 b2).set 3 b3).set 4 b4, grown_new (grown_new (grown_new (grown_new (grown_new h (Nat.le_refl _) _ _) (Nat.le_refl _) _ _) (Nat.le_refl _) _ _) (Nat.le_refl _) _ _) (Nat.le_refl _) _ _⟩

set_option maxHeartbeats 4000000 in
theorem decode_any (n : Int) (w : World) (ht : Tabs w) (h0 : 0 ≤ n) (h1 : n ≤ 4294967295) :
    Calls Tryd.prog 80 #[.int .i64 n] w fun e w' => TellsD e n ∧ w.grownBy w' none := by
  have HT := hid ht
  clear ht
  have G := hid (fun o : Obj => World.grownBy_alloc w o none)
  go_enter Tryd.func80, Tryd.ntmps80
  go_wp2
  go_loopw [3] (fun i wr => ∃ k : Nat, 1 ≤ k ∧ k ≤ 26 ∧ i = .int .i64 k ∧ (∀ j, 1 ≤ j → j < k → ¬ Is j n) ∧ w.grownBy wr none ∧ BlkAt wr w.heap.size #[.int .i64 0, .int .i64 0, .int .i64 0, .int .i64 0, .int .i64 0] 111) (fun i _ => 26 - (intOf i).toNat)
  case atStart => exact ⟨1, Nat.le_refl _, by omega, rfl, fun j h1 h2 => by omega, G.out _, BlkAt.new _ _ _⟩
  case round =>
    obtain ⟨k, hk1, hk2, rfl, hall, hgr, hbk⟩ := hrel
    have HA := hid hall
    have HG := hid hgr
    have HB := hid hbk
    clear hall hgr hbk
    by_cases hlt : k ≤ 25
    · have T := HT.out.grown HG.out
      have cf := T.form k (by omega)
      have cx := T.fix k (by omega)
      have hfr := form_range k hk1 hlt
      clear T
      have IsE := hid (show Is k n ↔ bits .and .i64 n (maskF (formL.getD k 0)) = fixedL.getD k 0 from Iff.rfl)
      generalize hF : formL.getD k 0 = f at *
      generalize fixedL.getD k 0 = x at *
      have HF := hid hF
      clear hF
      have cM := hid (fun W => fixedMask_any f W hfr)
      have g1 : (1 : Int) ≤ (k : Int) := by omega
      have g2 : (k : Int) ≤ 25 := by omega
      by_cases hI : Is k n
      · have d : (bits .and .i64 n (maskF f) == x) = true := beq_iff_eq.2 (IsE.out.1 hI)
        have HI := hid hI
        have cF := hid (fun W => fields_any k f n W h0 h1 hfr)
        clear hI
        go_wp2
        go_quiet ((go_at_call 84; exact Calls.quiet_of_same (cM.out _)))
        go_wp2_with fail
        refine (cF.out _).mono ?_
        rintro e w2 ⟨⟨m, rfl, hm⟩, hq⟩
        unfold insV
        have B2 := hid ((HB.out.drewN nq).grown hq (by simp))
        have G2 := hid (grown_trans (grown_drewN HG.out nq) hq)
        have HM := hid hm
        have k0 := B2.out.cell 0
        have k1 := B2.out.cell 1
        have k2 := B2.out.cell 2
        have k3 := B2.out.cell 3
        have k4 := B2.out.cell 4
        have f0 := B2.out.free 0
        have f1 := B2.out.free 1
        have f2 := B2.out.free 2
        have f3 := B2.out.free 3
        have f4 := B2.out.free 4
        clear hm hq
        generalize hrd : rdF f n = rd at *
        generalize hr1 : rs1F f n = r1 at *
        have HRD := hid hrd
        have HR1 := hid hr1
        clear hrd hr1
        generalize rs2F f n = r2 at *
        go_wp2
        have F := put5 G2.out B2.out (.int .i64 k) (.int .i64 rd) (.int .i64 r1) (.int .i64 r2) (.int .i64 m)
        have e0 := F.1.cell 0
        have e1 := F.1.cell 1
        have e2 := F.1.cell 2
        have e3 := F.1.cell 3
        have e4 := F.1.cell 4
        refine bodyPost_ret (v := insV k rd r1 r2 m) ?_ rfl ⟨⟨k, rd, r1, r2, m, rfl, .inr ⟨k, hk1, hlt, HI.out, HA.out, rfl, ?_, ?_, ?_⟩⟩, F.2⟩
        · clear F k0 k1 k2 k3 k4 f0 f1 f2 f3 f4 B2 G2
          generalize World.setCell _ _ _ = WF at *
          simp [results, Tryd.results80, go_sem, insV, e0, e1, e2, e3, e4]
        · rw [HF.out, HRD.out]
        · rw [HF.out, HR1.out]
        · rw [HF.out]; exact HM.out
      · have d : (bits .and .i64 n (maskF f) == x) = false := beq_eq_false_iff_ne.2 (fun h => hI (IsE.out.2 h))
        have HI := hid hI
        clear hI
        go_wp2
        go_quiet ((go_at_call 84; exact Calls.quiet_of_same (cM.out _)))
        go_wp2
        go_roundw
        case rel => exact ⟨k + 1, by omega, by omega, by go_num, fun j hj hjk => (Nat.lt_succ_iff_lt_or_eq.1 hjk).elim (fun h => HA.out j hj h) (fun h => by subst h; exact HI.out), grown_drewN HG.out _, HB.out.drewN _⟩
        case measure => simp [intOf]; omega
    · have k0 := HB.out.cell 0
      have k1 := HB.out.cell 1
      have k2 := HB.out.cell 2
      have k3 := HB.out.cell 3
      have k4 := HB.out.cell 4
      have f0 := HB.out.free 0
      have f1 := HB.out.free 1
      have f2 := HB.out.free 2
      have f3 := HB.out.free 3
      have f4 := HB.out.free 4
      go_wp2
      have F := put5 HG.out HB.out (.int .i64 0) (.int .i64 0) (.int .i64 0) (.int .i64 0) (.int .i64 0)
      have e0 := F.1.cell 0
      have e1 := F.1.cell 1
      have e2 := F.1.cell 2
      have e3 := F.1.cell 3
      have e4 := F.1.cell 4
      refine bodyPost_ret (v := insV 0 0 0 0 0) ?_ rfl ⟨⟨0, 0, 0, 0, 0, rfl, .inl ⟨rfl, rfl, rfl, rfl, fun j h1 h2 => HA.out j h1 (by omega)⟩⟩, F.2⟩
      clear F k0 k1 k2 k3 k4 f0 f1 f2 f3 f4
      generalize World.setCell _ _ _ = WF at *
      simp [results, Tryd.results80, go_sem, insV, e0, e1, e2, e3, e4]

end Go.Proofs.YtafjgogdeinpcaaDoor

namespace Go.Proofs.YtafjgogdeinpcaaDoor
open Go.RowKit

def Branch0 (n : Int) : Prop := n % 128 = 99 ∧ (n / 4096 % 8 = 0 ∨ n / 4096 % 8 = 1 ∨ n / 4096 % 8 = 4 ∨ n / 4096 % 8 = 5 ∨ n / 4096 % 8 = 6 ∨ n / 4096 % 8 = 7) ∧ n / 33554432 = 0 ∧ n / 128 % 32 = 0
def Jal0 (n : Int) : Prop := n % 128 = 111 ∧ n / 4096 = 0
def Upper0 (opc n : Int) : Prop := n % 128 = opc ∧ n / 4096 = 0
def Short0 (opc f n : Int) : Prop := n % 128 = opc ∧ n / 4096 % 8 = f ∧ n / 1048576 = 0
def Store0 (n : Int) : Prop := n % 128 = 35 ∧ n / 4096 % 8 = 2 ∧ n / 33554432 = 0 ∧ n / 128 % 32 = 0

theorem is_1 (n : Int) (h0 : 0 ≤ n) (h1 : n ≤ 4294967295) : Is 1 n ↔ n % 128 = 55 := by
  show bits .and .i64 n 127 = 55 ↔ _
  rw [mask7 n h0 h1]
theorem is_2 (n : Int) (h0 : 0 ≤ n) (h1 : n ≤ 4294967295) : Is 2 n ↔ n % 128 = 23 := by
  show bits .and .i64 n 127 = 23 ↔ _
  rw [mask7 n h0 h1]
theorem is_3 (n : Int) (h0 : 0 ≤ n) (h1 : n ≤ 4294967295) : Is 3 n ↔ n % 128 = 111 := by
  show bits .and .i64 n 127 = 111 ↔ _
  rw [mask7 n h0 h1]
theorem is_4 (n : Int) (h0 : 0 ≤ n) (h1 : n ≤ 4294967295) : Is 4 n ↔ n % 128 + 4096 * (n / 4096 % 8) = 103 := by
  show bits .and .i64 n 28799 = 103 ↔ _
  rw [mask3 n h0 h1]
theorem is_5 (n : Int) (h0 : 0 ≤ n) (h1 : n ≤ 4294967295) : Is 5 n ↔ n % 128 + 4096 * (n / 4096 % 8) = 99 := by
  show bits .and .i64 n 28799 = 99 ↔ _
  rw [mask3 n h0 h1]
theorem is_6 (n : Int) (h0 : 0 ≤ n) (h1 : n ≤ 4294967295) : Is 6 n ↔ n % 128 + 4096 * (n / 4096 % 8) = 4195 := by
  show bits .and .i64 n 28799 = 4195 ↔ _
  rw [mask3 n h0 h1]
theorem is_7 (n : Int) (h0 : 0 ≤ n) (h1 : n ≤ 4294967295) : Is 7 n ↔ n % 128 + 4096 * (n / 4096 % 8) = 16483 := by
  show bits .and .i64 n 28799 = 16483 ↔ _
  rw [mask3 n h0 h1]
theorem is_8 (n : Int) (h0 : 0 ≤ n) (h1 : n ≤ 4294967295) : Is 8 n ↔ n % 128 + 4096 * (n / 4096 % 8) = 20579 := by
  show bits .and .i64 n 28799 = 20579 ↔ _
  rw [mask3 n h0 h1]
theorem is_9 (n : Int) (h0 : 0 ≤ n) (h1 : n ≤ 4294967295) : Is 9 n ↔ n % 128 + 4096 * (n / 4096 % 8) = 24675 := by
  show bits .and .i64 n 28799 = 24675 ↔ _
  rw [mask3 n h0 h1]
theorem is_10 (n : Int) (h0 : 0 ≤ n) (h1 : n ≤ 4294967295) : Is 10 n ↔ n % 128 + 4096 * (n / 4096 % 8) = 28771 := by
  show bits .and .i64 n 28799 = 28771 ↔ _
  rw [mask3 n h0 h1]
theorem is_11 (n : Int) (h0 : 0 ≤ n) (h1 : n ≤ 4294967295) : Is 11 n ↔ n % 128 + 4096 * (n / 4096 % 8) = 8195 := by
  show bits .and .i64 n 28799 = 8195 ↔ _
  rw [mask3 n h0 h1]
theorem is_12 (n : Int) (h0 : 0 ≤ n) (h1 : n ≤ 4294967295) : Is 12 n ↔ n % 128 + 4096 * (n / 4096 % 8) = 8227 := by
  show bits .and .i64 n 28799 = 8227 ↔ _
  rw [mask3 n h0 h1]
theorem is_13 (n : Int) (h0 : 0 ≤ n) (h1 : n ≤ 4294967295) : Is 13 n ↔ n % 128 + 4096 * (n / 4096 % 8) = 19 := by
  show bits .and .i64 n 28799 = 19 ↔ _
  rw [mask3 n h0 h1]
theorem is_14 (n : Int) (h0 : 0 ≤ n) (h1 : n ≤ 4294967295) : Is 14 n ↔ n % 128 + 4096 * (n / 4096 % 8) = 8211 := by
  show bits .and .i64 n 28799 = 8211 ↔ _
  rw [mask3 n h0 h1]
theorem is_15 (n : Int) (h0 : 0 ≤ n) (h1 : n ≤ 4294967295) : Is 15 n ↔ n % 128 + 4096 * (n / 4096 % 8) = 16403 := by
  show bits .and .i64 n 28799 = 16403 ↔ _
  rw [mask3 n h0 h1]
theorem is_16 (n : Int) (h0 : 0 ≤ n) (h1 : n ≤ 4294967295) : Is 16 n ↔ n % 128 + 4096 * (n / 4096 % 8) = 24595 := by
  show bits .and .i64 n 28799 = 24595 ↔ _
  rw [mask3 n h0 h1]
theorem is_17 (n : Int) (h0 : 0 ≤ n) (h1 : n ≤ 4294967295) : Is 17 n ↔ n % 128 + 4096 * (n / 4096 % 8) = 28691 := by
  show bits .and .i64 n 28799 = 28691 ↔ _
  rw [mask3 n h0 h1]
theorem is_18 (n : Int) (h0 : 0 ≤ n) (h1 : n ≤ 4294967295) : Is 18 n ↔ n % 128 + 4096 * (n / 4096 % 8) + 33554432 * (n / 33554432) = 51 := by
  show bits .and .i64 n 4261441663 = 51 ↔ _
  rw [maskR n h0 h1]
theorem is_19 (n : Int) (h0 : 0 ≤ n) (h1 : n ≤ 4294967295) : Is 19 n ↔ n % 128 + 4096 * (n / 4096 % 8) + 33554432 * (n / 33554432) = 1073741875 := by
  show bits .and .i64 n 4261441663 = 1073741875 ↔ _
  rw [maskR n h0 h1]
theorem is_20 (n : Int) (h0 : 0 ≤ n) (h1 : n ≤ 4294967295) : Is 20 n ↔ n % 128 + 4096 * (n / 4096 % 8) + 33554432 * (n / 33554432) = 8243 := by
  show bits .and .i64 n 4261441663 = 8243 ↔ _
  rw [maskR n h0 h1]
theorem is_21 (n : Int) (h0 : 0 ≤ n) (h1 : n ≤ 4294967295) : Is 21 n ↔ n % 128 + 4096 * (n / 4096 % 8) + 33554432 * (n / 33554432) = 12339 := by
  show bits .and .i64 n 4261441663 = 12339 ↔ _
  rw [maskR n h0 h1]
theorem is_22 (n : Int) (h0 : 0 ≤ n) (h1 : n ≤ 4294967295) : Is 22 n ↔ n % 128 + 4096 * (n / 4096 % 8) + 33554432 * (n / 33554432) = 16435 := by
  show bits .and .i64 n 4261441663 = 16435 ↔ _
  rw [maskR n h0 h1]
theorem is_23 (n : Int) (h0 : 0 ≤ n) (h1 : n ≤ 4294967295) : Is 23 n ↔ n % 128 + 4096 * (n / 4096 % 8) + 33554432 * (n / 33554432) = 24627 := by
  show bits .and .i64 n 4261441663 = 24627 ↔ _
  rw [maskR n h0 h1]
theorem is_24 (n : Int) (h0 : 0 ≤ n) (h1 : n ≤ 4294967295) : Is 24 n ↔ n % 128 + 4096 * (n / 4096 % 8) + 33554432 * (n / 33554432) = 28723 := by
  show bits .and .i64 n 4261441663 = 28723 ↔ _
  rw [maskR n h0 h1]
theorem is_25 (n : Int) (h0 : 0 ≤ n) (h1 : n ≤ 4294967295) : Is 25 n ↔ n = 115 := by
  show bits .and .i64 n 4294967295 = 115 ↔ _
  rw [maskW n h0 h1]

def DecFacts (n op rd rs1 m : Int) : Prop :=
    ((5 ≤ op ∧ op ≤ 10 ∧ m = 0) ↔ Branch0 n) ∧ ((op = 3 ∧ m = 0) ↔ Jal0 n) ∧ ((op = 1 ∧ m = 0) ↔ Upper0 55 n) ∧ ((op = 2 ∧ m = 0) ↔ Upper0 23 n) ∧
    ((op = 4 ∧ m = 0) ↔ Short0 103 0 n) ∧ ((op = 11 ∧ m = 0) ↔ Short0 3 2 n) ∧ ((op = 12 ∧ m = 0) ↔ Store0 n) ∧ ((op = 13 ∧ m = 0) ↔ Short0 19 0 n) ∧
    ((op = 1 ∨ op = 2) → rd = n / 128 % 32) ∧ ((op = 4 ∨ op = 11 ∨ op = 12 ∨ op = 13) → rs1 = n / 32768 % 32)

theorem reg_low (n d : Int) (h0 : 0 ≤ n) (h1 : n ≤ 4294967295) (hd : 1 ≤ d) : bits .and .i64 (n / d) 31 = n / d % 32 := by
  have a : 0 ≤ n / d := Int.ediv_nonneg h0 (by omega)
  have b : n / d ≤ n := Int.ediv_le_self d h0
  exact low (n / d) 5 (by decide) 31 32 rfl rfl a (by omega)

theorem dec_no (n : Int) (h0 : 0 ≤ n) (h1 : n ≤ 4294967295) (h : ∀ k, 1 ≤ k → k ≤ 25 → ¬ Is k n) : DecFacts n 0 0 0 0 := by
  have i1 := h 1 (by decide) (by decide)
  rw [is_1 n h0 h1] at i1
  have i2 := h 2 (by decide) (by decide)
  rw [is_2 n h0 h1] at i2
  have i3 := h 3 (by decide) (by decide)
  rw [is_3 n h0 h1] at i3
  have i4 := h 4 (by decide) (by decide)
  rw [is_4 n h0 h1] at i4
  have i5 := h 5 (by decide) (by decide)
  rw [is_5 n h0 h1] at i5
  have i6 := h 6 (by decide) (by decide)
  rw [is_6 n h0 h1] at i6
  have i7 := h 7 (by decide) (by decide)
  rw [is_7 n h0 h1] at i7
  have i8 := h 8 (by decide) (by decide)
  rw [is_8 n h0 h1] at i8
  have i9 := h 9 (by decide) (by decide)
  rw [is_9 n h0 h1] at i9
  have i10 := h 10 (by decide) (by decide)
  rw [is_10 n h0 h1] at i10
  have i11 := h 11 (by decide) (by decide)
  rw [is_11 n h0 h1] at i11
  have i12 := h 12 (by decide) (by decide)
  rw [is_12 n h0 h1] at i12
  have i13 := h 13 (by decide) (by decide)
  rw [is_13 n h0 h1] at i13
  clear h
  unfold DecFacts Branch0 Jal0 Upper0 Short0 Store0
  refine ⟨?_, ?_, ?_, ?_, ?_, ?_, ?_, ?_, ?_, ?_⟩ <;> omega

theorem dec_1 (n m : Int) (h0 : 0 ≤ n) (h1 : n ≤ 4294967295) (hi : Is 1 n) (_hm : m = 0 ↔ NumZero 1 n) : DecFacts n 1 (rdF 1 n) (rs1F 1 n) m := by
  rw [is_1 n h0 h1] at hi
  have hz : NumZero 1 n ↔ n / 4096 = 0 := by simp [NumZero]
  rw [hz] at _hm
  have hrd : rdF 1 n = n / 128 % 32 := by rw [← reg_low n 128 h0 h1 (by decide)]; rfl
  have hrs : rs1F 1 n = 0 := by rfl
  unfold DecFacts Branch0 Jal0 Upper0 Short0 Store0
  rw [hrd, hrs]
  clear hz
  refine ⟨?_, ?_, ?_, ?_, ?_, ?_, ?_, ?_, ?_, ?_⟩ <;> omega
theorem dec_2 (n m : Int) (h0 : 0 ≤ n) (h1 : n ≤ 4294967295) (hi : Is 2 n) (_hm : m = 0 ↔ NumZero 1 n) : DecFacts n 2 (rdF 1 n) (rs1F 1 n) m := by
  rw [is_2 n h0 h1] at hi
  have hz : NumZero 1 n ↔ n / 4096 = 0 := by simp [NumZero]
  rw [hz] at _hm
  have hrd : rdF 1 n = n / 128 % 32 := by rw [← reg_low n 128 h0 h1 (by decide)]; rfl
  have hrs : rs1F 1 n = 0 := by rfl
  unfold DecFacts Branch0 Jal0 Upper0 Short0 Store0
  rw [hrd, hrs]
  clear hz
  refine ⟨?_, ?_, ?_, ?_, ?_, ?_, ?_, ?_, ?_, ?_⟩ <;> omega
theorem dec_3 (n m : Int) (h0 : 0 ≤ n) (h1 : n ≤ 4294967295) (hi : Is 3 n) (_hm : m = 0 ↔ NumZero 2 n) : DecFacts n 3 (rdF 2 n) (rs1F 2 n) m := by
  rw [is_3 n h0 h1] at hi
  have hz : NumZero 2 n ↔ n / 4096 = 0 := by simp [NumZero]
  rw [hz] at _hm
  have hrd : rdF 2 n = n / 128 % 32 := by rw [← reg_low n 128 h0 h1 (by decide)]; rfl
  have hrs : rs1F 2 n = 0 := by rfl
  unfold DecFacts Branch0 Jal0 Upper0 Short0 Store0
  rw [hrd, hrs]
  clear hz
  refine ⟨?_, ?_, ?_, ?_, ?_, ?_, ?_, ?_, ?_, ?_⟩ <;> omega
theorem dec_4 (n m : Int) (h0 : 0 ≤ n) (h1 : n ≤ 4294967295) (hi : Is 4 n) (_hm : m = 0 ↔ NumZero 3 n) : DecFacts n 4 (rdF 3 n) (rs1F 3 n) m := by
  rw [is_4 n h0 h1] at hi
  have hz : NumZero 3 n ↔ n / 1048576 = 0 := by simp [NumZero]
  rw [hz] at _hm
  have hrd : rdF 3 n = n / 128 % 32 := by rw [← reg_low n 128 h0 h1 (by decide)]; rfl
  have hrs : rs1F 3 n = n / 32768 % 32 := by rw [← reg_low n 32768 h0 h1 (by decide)]; rfl
  unfold DecFacts Branch0 Jal0 Upper0 Short0 Store0
  rw [hrd, hrs]
  clear hz
  refine ⟨?_, ?_, ?_, ?_, ?_, ?_, ?_, ?_, ?_, ?_⟩ <;> omega
theorem dec_5 (n m : Int) (h0 : 0 ≤ n) (h1 : n ≤ 4294967295) (hi : Is 5 n) (_hm : m = 0 ↔ NumZero 4 n) : DecFacts n 5 (rdF 4 n) (rs1F 4 n) m := by
  rw [is_5 n h0 h1] at hi
  have hz : NumZero 4 n ↔ n / 33554432 = 0 ∧ n / 128 % 32 = 0 := by simp [NumZero]
  rw [hz] at _hm
  have hrd : rdF 4 n = 0 := by rfl
  have hrs : rs1F 4 n = n / 32768 % 32 := by rw [← reg_low n 32768 h0 h1 (by decide)]; rfl
  unfold DecFacts Branch0 Jal0 Upper0 Short0 Store0
  rw [hrd, hrs]
  clear hz
  refine ⟨?_, ?_, ?_, ?_, ?_, ?_, ?_, ?_, ?_, ?_⟩ <;> omega
theorem dec_6 (n m : Int) (h0 : 0 ≤ n) (h1 : n ≤ 4294967295) (hi : Is 6 n) (_hm : m = 0 ↔ NumZero 4 n) : DecFacts n 6 (rdF 4 n) (rs1F 4 n) m := by
  rw [is_6 n h0 h1] at hi
  have hz : NumZero 4 n ↔ n / 33554432 = 0 ∧ n / 128 % 32 = 0 := by simp [NumZero]
  rw [hz] at _hm
  have hrd : rdF 4 n = 0 := by rfl
  have hrs : rs1F 4 n = n / 32768 % 32 := by rw [← reg_low n 32768 h0 h1 (by decide)]; rfl
  unfold DecFacts Branch0 Jal0 Upper0 Short0 Store0
  rw [hrd, hrs]
  clear hz
  refine ⟨?_, ?_, ?_, ?_, ?_, ?_, ?_, ?_, ?_, ?_⟩ <;> omega
theorem dec_7 (n m : Int) (h0 : 0 ≤ n) (h1 : n ≤ 4294967295) (hi : Is 7 n) (_hm : m = 0 ↔ NumZero 4 n) : DecFacts n 7 (rdF 4 n) (rs1F 4 n) m := by
  rw [is_7 n h0 h1] at hi
  have hz : NumZero 4 n ↔ n / 33554432 = 0 ∧ n / 128 % 32 = 0 := by simp [NumZero]
  rw [hz] at _hm
  have hrd : rdF 4 n = 0 := by rfl
  have hrs : rs1F 4 n = n / 32768 % 32 := by rw [← reg_low n 32768 h0 h1 (by decide)]; rfl
  unfold DecFacts Branch0 Jal0 Upper0 Short0 Store0
  rw [hrd, hrs]
  clear hz
  refine ⟨?_, ?_, ?_, ?_, ?_, ?_, ?_, ?_, ?_, ?_⟩ <;> omega
theorem dec_8 (n m : Int) (h0 : 0 ≤ n) (h1 : n ≤ 4294967295) (hi : Is 8 n) (_hm : m = 0 ↔ NumZero 4 n) : DecFacts n 8 (rdF 4 n) (rs1F 4 n) m := by
  rw [is_8 n h0 h1] at hi
  have hz : NumZero 4 n ↔ n / 33554432 = 0 ∧ n / 128 % 32 = 0 := by simp [NumZero]
  rw [hz] at _hm
  have hrd : rdF 4 n = 0 := by rfl
  have hrs : rs1F 4 n = n / 32768 % 32 := by rw [← reg_low n 32768 h0 h1 (by decide)]; rfl
  unfold DecFacts Branch0 Jal0 Upper0 Short0 Store0
  rw [hrd, hrs]
  clear hz
  refine ⟨?_, ?_, ?_, ?_, ?_, ?_, ?_, ?_, ?_, ?_⟩ <;> omega
theorem dec_9 (n m : Int) (h0 : 0 ≤ n) (h1 : n ≤ 4294967295) (hi : Is 9 n) (_hm : m = 0 ↔ NumZero 4 n) : DecFacts n 9 (rdF 4 n) (rs1F 4 n) m := by
  rw [is_9 n h0 h1] at hi
  have hz : NumZero 4 n ↔ n / 33554432 = 0 ∧ n / 128 % 32 = 0 := by simp [NumZero]
  rw [hz] at _hm
  have hrd : rdF 4 n = 0 := by rfl
  have hrs : rs1F 4 n = n / 32768 % 32 := by rw [← reg_low n 32768 h0 h1 (by decide)]; rfl
  unfold DecFacts Branch0 Jal0 Upper0 Short0 Store0
  rw [hrd, hrs]
  clear hz
  refine ⟨?_, ?_, ?_, ?_, ?_, ?_, ?_, ?_, ?_, ?_⟩ <;> omega
theorem dec_10 (n m : Int) (h0 : 0 ≤ n) (h1 : n ≤ 4294967295) (hi : Is 10 n) (_hm : m = 0 ↔ NumZero 4 n) : DecFacts n 10 (rdF 4 n) (rs1F 4 n) m := by
  rw [is_10 n h0 h1] at hi
  have hz : NumZero 4 n ↔ n / 33554432 = 0 ∧ n / 128 % 32 = 0 := by simp [NumZero]
  rw [hz] at _hm
  have hrd : rdF 4 n = 0 := by rfl
  have hrs : rs1F 4 n = n / 32768 % 32 := by rw [← reg_low n 32768 h0 h1 (by decide)]; rfl
  unfold DecFacts Branch0 Jal0 Upper0 Short0 Store0
  rw [hrd, hrs]
  clear hz
  refine ⟨?_, ?_, ?_, ?_, ?_, ?_, ?_, ?_, ?_, ?_⟩ <;> omega
theorem dec_11 (n m : Int) (h0 : 0 ≤ n) (h1 : n ≤ 4294967295) (hi : Is 11 n) (_hm : m = 0 ↔ NumZero 3 n) : DecFacts n 11 (rdF 3 n) (rs1F 3 n) m := by
  rw [is_11 n h0 h1] at hi
  have hz : NumZero 3 n ↔ n / 1048576 = 0 := by simp [NumZero]
  rw [hz] at _hm
  have hrd : rdF 3 n = n / 128 % 32 := by rw [← reg_low n 128 h0 h1 (by decide)]; rfl
  have hrs : rs1F 3 n = n / 32768 % 32 := by rw [← reg_low n 32768 h0 h1 (by decide)]; rfl
  unfold DecFacts Branch0 Jal0 Upper0 Short0 Store0
  rw [hrd, hrs]
  clear hz
  refine ⟨?_, ?_, ?_, ?_, ?_, ?_, ?_, ?_, ?_, ?_⟩ <;> omega
theorem dec_12 (n m : Int) (h0 : 0 ≤ n) (h1 : n ≤ 4294967295) (hi : Is 12 n) (_hm : m = 0 ↔ NumZero 5 n) : DecFacts n 12 (rdF 5 n) (rs1F 5 n) m := by
  rw [is_12 n h0 h1] at hi
  have hz : NumZero 5 n ↔ n / 33554432 = 0 ∧ n / 128 % 32 = 0 := by simp [NumZero]
  rw [hz] at _hm
  have hrd : rdF 5 n = 0 := by rfl
  have hrs : rs1F 5 n = n / 32768 % 32 := by rw [← reg_low n 32768 h0 h1 (by decide)]; rfl
  unfold DecFacts Branch0 Jal0 Upper0 Short0 Store0
  rw [hrd, hrs]
  clear hz
  refine ⟨?_, ?_, ?_, ?_, ?_, ?_, ?_, ?_, ?_, ?_⟩ <;> omega
theorem dec_13 (n m : Int) (h0 : 0 ≤ n) (h1 : n ≤ 4294967295) (hi : Is 13 n) (_hm : m = 0 ↔ NumZero 3 n) : DecFacts n 13 (rdF 3 n) (rs1F 3 n) m := by
  rw [is_13 n h0 h1] at hi
  have hz : NumZero 3 n ↔ n / 1048576 = 0 := by simp [NumZero]
  rw [hz] at _hm
  have hrd : rdF 3 n = n / 128 % 32 := by rw [← reg_low n 128 h0 h1 (by decide)]; rfl
  have hrs : rs1F 3 n = n / 32768 % 32 := by rw [← reg_low n 32768 h0 h1 (by decide)]; rfl
  unfold DecFacts Branch0 Jal0 Upper0 Short0 Store0
  rw [hrd, hrs]
  clear hz
  refine ⟨?_, ?_, ?_, ?_, ?_, ?_, ?_, ?_, ?_, ?_⟩ <;> omega
theorem dec_14 (n m : Int) (h0 : 0 ≤ n) (h1 : n ≤ 4294967295) (hi : Is 14 n) (_hm : m = 0 ↔ NumZero 3 n) : DecFacts n 14 (rdF 3 n) (rs1F 3 n) m := by
  rw [is_14 n h0 h1] at hi
  have hz : NumZero 3 n ↔ n / 1048576 = 0 := by simp [NumZero]
  rw [hz] at _hm
  have hrd : rdF 3 n = n / 128 % 32 := by rw [← reg_low n 128 h0 h1 (by decide)]; rfl
  have hrs : rs1F 3 n = n / 32768 % 32 := by rw [← reg_low n 32768 h0 h1 (by decide)]; rfl
  unfold DecFacts Branch0 Jal0 Upper0 Short0 Store0
  rw [hrd, hrs]
  clear hz
  refine ⟨?_, ?_, ?_, ?_, ?_, ?_, ?_, ?_, ?_, ?_⟩ <;> omega
theorem dec_15 (n m : Int) (h0 : 0 ≤ n) (h1 : n ≤ 4294967295) (hi : Is 15 n) (_hm : m = 0 ↔ NumZero 3 n) : DecFacts n 15 (rdF 3 n) (rs1F 3 n) m := by
  rw [is_15 n h0 h1] at hi
  have hz : NumZero 3 n ↔ n / 1048576 = 0 := by simp [NumZero]
  rw [hz] at _hm
  have hrd : rdF 3 n = n / 128 % 32 := by rw [← reg_low n 128 h0 h1 (by decide)]; rfl
  have hrs : rs1F 3 n = n / 32768 % 32 := by rw [← reg_low n 32768 h0 h1 (by decide)]; rfl
  unfold DecFacts Branch0 Jal0 Upper0 Short0 Store0
  rw [hrd, hrs]
  clear hz
  refine ⟨?_, ?_, ?_, ?_, ?_, ?_, ?_, ?_, ?_, ?_⟩ <;> omega
theorem dec_16 (n m : Int) (h0 : 0 ≤ n) (h1 : n ≤ 4294967295) (hi : Is 16 n) (_hm : m = 0 ↔ NumZero 3 n) : DecFacts n 16 (rdF 3 n) (rs1F 3 n) m := by
  rw [is_16 n h0 h1] at hi
  have hz : NumZero 3 n ↔ n / 1048576 = 0 := by simp [NumZero]
  rw [hz] at _hm
  have hrd : rdF 3 n = n / 128 % 32 := by rw [← reg_low n 128 h0 h1 (by decide)]; rfl
  have hrs : rs1F 3 n = n / 32768 % 32 := by rw [← reg_low n 32768 h0 h1 (by decide)]; rfl
  unfold DecFacts Branch0 Jal0 Upper0 Short0 Store0
  rw [hrd, hrs]
  clear hz
  refine ⟨?_, ?_, ?_, ?_, ?_, ?_, ?_, ?_, ?_, ?_⟩ <;> omega
theorem dec_17 (n m : Int) (h0 : 0 ≤ n) (h1 : n ≤ 4294967295) (hi : Is 17 n) (_hm : m = 0 ↔ NumZero 3 n) : DecFacts n 17 (rdF 3 n) (rs1F 3 n) m := by
  rw [is_17 n h0 h1] at hi
  have hz : NumZero 3 n ↔ n / 1048576 = 0 := by simp [NumZero]
  rw [hz] at _hm
  have hrd : rdF 3 n = n / 128 % 32 := by rw [← reg_low n 128 h0 h1 (by decide)]; rfl
  have hrs : rs1F 3 n = n / 32768 % 32 := by rw [← reg_low n 32768 h0 h1 (by decide)]; rfl
  unfold DecFacts Branch0 Jal0 Upper0 Short0 Store0
  rw [hrd, hrs]
  clear hz
  refine ⟨?_, ?_, ?_, ?_, ?_, ?_, ?_, ?_, ?_, ?_⟩ <;> omega
theorem dec_18 (n m : Int) (h0 : 0 ≤ n) (h1 : n ≤ 4294967295) (hi : Is 18 n) (_hm : m = 0 ↔ NumZero 6 n) : DecFacts n 18 (rdF 6 n) (rs1F 6 n) m := by
  rw [is_18 n h0 h1] at hi
  have hz : NumZero 6 n ↔ True := by simp [NumZero]
  rw [hz] at _hm
  have hrd : rdF 6 n = n / 128 % 32 := by rw [← reg_low n 128 h0 h1 (by decide)]; rfl
  have hrs : rs1F 6 n = n / 32768 % 32 := by rw [← reg_low n 32768 h0 h1 (by decide)]; rfl
  unfold DecFacts Branch0 Jal0 Upper0 Short0 Store0
  rw [hrd, hrs]
  simp only [iff_true] at _hm
  refine ⟨?_, ?_, ?_, ?_, ?_, ?_, ?_, ?_, ?_, ?_⟩ <;> omega
theorem dec_19 (n m : Int) (h0 : 0 ≤ n) (h1 : n ≤ 4294967295) (hi : Is 19 n) (_hm : m = 0 ↔ NumZero 6 n) : DecFacts n 19 (rdF 6 n) (rs1F 6 n) m := by
  rw [is_19 n h0 h1] at hi
  have hz : NumZero 6 n ↔ True := by simp [NumZero]
  rw [hz] at _hm
  have hrd : rdF 6 n = n / 128 % 32 := by rw [← reg_low n 128 h0 h1 (by decide)]; rfl
  have hrs : rs1F 6 n = n / 32768 % 32 := by rw [← reg_low n 32768 h0 h1 (by decide)]; rfl
  unfold DecFacts Branch0 Jal0 Upper0 Short0 Store0
  rw [hrd, hrs]
  simp only [iff_true] at _hm
  refine ⟨?_, ?_, ?_, ?_, ?_, ?_, ?_, ?_, ?_, ?_⟩ <;> omega
theorem dec_20 (n m : Int) (h0 : 0 ≤ n) (h1 : n ≤ 4294967295) (hi : Is 20 n) (_hm : m = 0 ↔ NumZero 6 n) : DecFacts n 20 (rdF 6 n) (rs1F 6 n) m := by
  rw [is_20 n h0 h1] at hi
  have hz : NumZero 6 n ↔ True := by simp [NumZero]
  rw [hz] at _hm
  have hrd : rdF 6 n = n / 128 % 32 := by rw [← reg_low n 128 h0 h1 (by decide)]; rfl
  have hrs : rs1F 6 n = n / 32768 % 32 := by rw [← reg_low n 32768 h0 h1 (by decide)]; rfl
  unfold DecFacts Branch0 Jal0 Upper0 Short0 Store0
  rw [hrd, hrs]
  simp only [iff_true] at _hm
  refine ⟨?_, ?_, ?_, ?_, ?_, ?_, ?_, ?_, ?_, ?_⟩ <;> omega
theorem dec_21 (n m : Int) (h0 : 0 ≤ n) (h1 : n ≤ 4294967295) (hi : Is 21 n) (_hm : m = 0 ↔ NumZero 6 n) : DecFacts n 21 (rdF 6 n) (rs1F 6 n) m := by
  rw [is_21 n h0 h1] at hi
  have hz : NumZero 6 n ↔ True := by simp [NumZero]
  rw [hz] at _hm
  have hrd : rdF 6 n = n / 128 % 32 := by rw [← reg_low n 128 h0 h1 (by decide)]; rfl
  have hrs : rs1F 6 n = n / 32768 % 32 := by rw [← reg_low n 32768 h0 h1 (by decide)]; rfl
  unfold DecFacts Branch0 Jal0 Upper0 Short0 Store0
  rw [hrd, hrs]
  simp only [iff_true] at _hm
  refine ⟨?_, ?_, ?_, ?_, ?_, ?_, ?_, ?_, ?_, ?_⟩ <;> omega
theorem dec_22 (n m : Int) (h0 : 0 ≤ n) (h1 : n ≤ 4294967295) (hi : Is 22 n) (_hm : m = 0 ↔ NumZero 6 n) : DecFacts n 22 (rdF 6 n) (rs1F 6 n) m := by
  rw [is_22 n h0 h1] at hi
  have hz : NumZero 6 n ↔ True := by simp [NumZero]
  rw [hz] at _hm
  have hrd : rdF 6 n = n / 128 % 32 := by rw [← reg_low n 128 h0 h1 (by decide)]; rfl
  have hrs : rs1F 6 n = n / 32768 % 32 := by rw [← reg_low n 32768 h0 h1 (by decide)]; rfl
  unfold DecFacts Branch0 Jal0 Upper0 Short0 Store0
  rw [hrd, hrs]
  simp only [iff_true] at _hm
  refine ⟨?_, ?_, ?_, ?_, ?_, ?_, ?_, ?_, ?_, ?_⟩ <;> omega
theorem dec_23 (n m : Int) (h0 : 0 ≤ n) (h1 : n ≤ 4294967295) (hi : Is 23 n) (_hm : m = 0 ↔ NumZero 6 n) : DecFacts n 23 (rdF 6 n) (rs1F 6 n) m := by
  rw [is_23 n h0 h1] at hi
  have hz : NumZero 6 n ↔ True := by simp [NumZero]
  rw [hz] at _hm
  have hrd : rdF 6 n = n / 128 % 32 := by rw [← reg_low n 128 h0 h1 (by decide)]; rfl
  have hrs : rs1F 6 n = n / 32768 % 32 := by rw [← reg_low n 32768 h0 h1 (by decide)]; rfl
  unfold DecFacts Branch0 Jal0 Upper0 Short0 Store0
  rw [hrd, hrs]
  simp only [iff_true] at _hm
  refine ⟨?_, ?_, ?_, ?_, ?_, ?_, ?_, ?_, ?_, ?_⟩ <;> omega
theorem dec_24 (n m : Int) (h0 : 0 ≤ n) (h1 : n ≤ 4294967295) (hi : Is 24 n) (_hm : m = 0 ↔ NumZero 6 n) : DecFacts n 24 (rdF 6 n) (rs1F 6 n) m := by
  rw [is_24 n h0 h1] at hi
  have hz : NumZero 6 n ↔ True := by simp [NumZero]
  rw [hz] at _hm
  have hrd : rdF 6 n = n / 128 % 32 := by rw [← reg_low n 128 h0 h1 (by decide)]; rfl
  have hrs : rs1F 6 n = n / 32768 % 32 := by rw [← reg_low n 32768 h0 h1 (by decide)]; rfl
  unfold DecFacts Branch0 Jal0 Upper0 Short0 Store0
  rw [hrd, hrs]
  simp only [iff_true] at _hm
  refine ⟨?_, ?_, ?_, ?_, ?_, ?_, ?_, ?_, ?_, ?_⟩ <;> omega
theorem dec_25 (n m : Int) (h0 : 0 ≤ n) (h1 : n ≤ 4294967295) (hi : Is 25 n) (_hm : m = 0 ↔ NumZero 7 n) : DecFacts n 25 (rdF 7 n) (rs1F 7 n) m := by
  rw [is_25 n h0 h1] at hi
  have hz : NumZero 7 n ↔ True := by simp [NumZero]
  rw [hz] at _hm
  have hrd : rdF 7 n = 0 := by rfl
  have hrs : rs1F 7 n = 0 := by rfl
  unfold DecFacts Branch0 Jal0 Upper0 Short0 Store0
  rw [hrd, hrs]
  simp only [iff_true] at _hm
  refine ⟨?_, ?_, ?_, ?_, ?_, ?_, ?_, ?_, ?_, ?_⟩ <;> omega

theorem dec_facts (n op rd rs1 m : Int) (h0 : 0 ≤ n) (h1 : n ≤ 4294967295) (h : Dec n op rd rs1 m) : DecFacts n op rd rs1 m := by
  rcases h with ⟨rfl, rfl, rfl, rfl, h⟩ | ⟨k, k1, k2, hi, -, rfl, rfl, rfl, hm⟩
  · exact dec_no n h0 h1 h
  · rcases (show k = 1 ∨ k = 2 ∨ k = 3 ∨ k = 4 ∨ k = 5 ∨ k = 6 ∨ k = 7 ∨ k = 8 ∨ k = 9 ∨ k = 10 ∨ k = 11 ∨ k = 12 ∨ k = 13 ∨ k = 14 ∨ k = 15 ∨ k = 16 ∨ k = 17 ∨ k = 18 ∨ k = 19 ∨ k = 20 ∨ k = 21 ∨ k = 22 ∨ k = 23 ∨ k = 24 ∨ k = 25 from by omega) with rfl | rfl | rfl | rfl | rfl | rfl | rfl | rfl | rfl | rfl | rfl | rfl | rfl | rfl | rfl | rfl | rfl | rfl | rfl | rfl | rfl | rfl | rfl | rfl | rfl
    · exact dec_1 n m h0 h1 hi hm
    · exact dec_2 n m h0 h1 hi hm
    · exact dec_3 n m h0 h1 hi hm
    · exact dec_4 n m h0 h1 hi hm
    · exact dec_5 n m h0 h1 hi hm
    · exact dec_6 n m h0 h1 hi hm
    · exact dec_7 n m h0 h1 hi hm
    · exact dec_8 n m h0 h1 hi hm
    · exact dec_9 n m h0 h1 hi hm
    · exact dec_10 n m h0 h1 hi hm
    · exact dec_11 n m h0 h1 hi hm
    · exact dec_12 n m h0 h1 hi hm
    · exact dec_13 n m h0 h1 hi hm
    · exact dec_14 n m h0 h1 hi hm
    · exact dec_15 n m h0 h1 hi hm
    · exact dec_16 n m h0 h1 hi hm
    · exact dec_17 n m h0 h1 hi hm
    · exact dec_18 n m h0 h1 hi hm
    · exact dec_19 n m h0 h1 hi hm
    · exact dec_20 n m h0 h1 hi hm
    · exact dec_21 n m h0 h1 hi hm
    · exact dec_22 n m h0 h1 hi hm
    · exact dec_23 n m h0 h1 hi hm
    · exact dec_24 n m h0 h1 hi hm
    · exact dec_25 n m h0 h1 hi hm

end Go.Proofs.YtafjgogdeinpcaaDoor
