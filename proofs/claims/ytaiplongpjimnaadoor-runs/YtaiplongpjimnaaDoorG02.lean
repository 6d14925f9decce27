/- Walks over package object's readers: readObject. -/
/- Walks over package object's checks: sizes, borders, words. -/
/- Walks over package object's checks: words, names, sections. -/
/- Walks over package object's checks: symbols. -/
/- Walks over package object's checks: symbols. -/
/- Walks over package object's checks: the list of symbols. -/
/- Walks over package object's checks: parts of a relocation. -/
/- Walks over package object's checks: more parts of a relocation. -/
/- Bits of numbers: the plain side. -/
/- Walks over package instr: the number of a word. -/
/- Walks over package instr: the parts of a word; Decode. -/
/- Walks over package instr: Decode. -/
/- Walks over package instr: what Decode gives, exactly. -/
/- Walks over package instr: Decode, exactly. -/
/- Walks over the document's answer: numbers of a file. -/
import Derived.Test.YtaiplongpjimnaaDoorG01
import Derived.Deep.RegionHeld3
import Derived.Laws.BitsAllLaws
import Derived.WalkKit
namespace Go.Proofs.YtaiplongpjimnaaDoor
open Go.RowKit

theorem toList_bs (l : List UInt8) : (bs l).toList = l := by
  rw [ByteArray.toList_eq]; simp [bs]

theorem own_base {w : World} {base base' : Nat} {e : TypeId} {size : Nat} {v : Value} {n : Nat} {xs : List Value} (h : w.ownsRow base e size v n xs) (hb : base' ≤ base) : w.ownsRow base' e size v n xs := by
  refine ⟨h.1, ?_⟩
  rcases h.2 with h2 | ⟨g, cap, cur, hv, hg, r⟩
  · exact .inl h2
  · exact .inr ⟨g, cap, cur, hv, by omega, r⟩

theorem own_form {w : World} {base : Nat} {e : TypeId} {size : Nat} {v : Value} {n : Nat} {xs : List Value} (h : w.ownsRow base e size v n xs) : ∃ ao cap, v = .slice ao n cap := by
  rcases h.2 with ⟨h1, h2⟩ | ⟨g, cap, cur, hv, _⟩
  · exact ⟨none, 0, by rw [h1, h2]⟩
  · exact ⟨_, cap, hv⟩

/-- a list that is owned -/
structure Row where
  e : TypeId
  size : Nat
  v : Value
  n : Nat
  xs : List Value

def Row.In (r : Row) (W : World) (base : Nat) : Prop := W.ownsRow base r.e r.size r.v r.n r.xs

section
variable {w W W' : World} {b g : Nat} {s : ByteArray} {cs : Array Value} {rows : List Row} {p p' : Nat} {sh sh' : Bool}
end

theorem readNumbers_lit (b : Nat) (s : ByteArray) (p count size : Nat) (mc ms : Int) (hmc : mc = (count : Int)) (hms : ms = (size : Int)) (sh : Bool) (w : World) (h : RdAt w b s p sh)
    (hs : s.size ≤ 1048576) (hp : p ≤ s.size) (hc : count ≤ 65535) (hm : size ≤ 4) :
    Calls Tryd.prog 34 #[.pointer (some ⟨b, 0, none⟩), .int .i64 mc, .int .i64 ms] w fun e w' => ∃ v, e = .returned v ∧
      w'.ownsRow w.heap.size 3 1 v (Lk.rdNums (sl s) size count (p, sh)).1.length ((Lk.rdNums (sl s) size count (p, sh)).1.map (Value.int .i64)) ∧
      RdAt w' b s (Lk.rdNums (sl s) size count (p, sh)).2.1 (Lk.rdNums (sl s) size count (p, sh)).2.2 ∧ w.grownBy w' (some b) := by
  subst hmc hms; exact readNumbers_any b s p count size sh w h hs hp hc hm
end Go.Proofs.YtaiplongpjimnaaDoor

namespace Go.Proofs.YtaiplongpjimnaaDoor
open Go.RowKit

/-- a list of numbers at ao -/
def IntsIn (w : World) (ao : Option Addr) (xs : List Int) : Prop :=
  0 < xs.length → ∃ g off, ao = some ⟨g, off, none⟩ ∧ ∀ i (h : i < xs.length), w.cell? ⟨g, off + i, none⟩ = some (.int .i64 xs[i])

theorem IntsIn.of_own {w : World} {base : Nat} {ao : Option Addr} {n cap : Nat} {xs : List Int} (h : w.ownsRow base 3 1 (.slice ao n cap) n (xs.map (Value.int .i64))) : IntsIn w ao xs := by
  intro h0
  have hn : xs.length = n := by have := h.1; simpa using this
  rcases h.2 with ⟨h1, h2⟩ | ⟨g, cap', cur, hv, _⟩
  · simp at h1; omega
  · simp only [Value.slice.injEq] at hv
    obtain ⟨rfl, _, rfl⟩ := hv
    refine ⟨g, 0, rfl, fun i hi => ?_⟩
    have := h.cellAt i (by omega)
    rw [Nat.zero_add, this]
    simp [hi]

theorem IntsIn.kept {w w' : World} {ao : Option Addr} {xs : List Int} (h : IntsIn w ao xs) (hc : ∀ a v, w.cell? a = some v → w'.cell? a = some v) : IntsIn w' ao xs := by
  intro h0
  obtain ⟨g, off, h1, h2⟩ := h h0
  exact ⟨g, off, h1, fun i hi => hc _ _ (h2 i hi)⟩

/-- all are words -/
def Words (xs : List Int) : Prop := ∀ i (h : i < xs.length), 0 ≤ xs[i] ∧ xs[i] ≤ 4294967295
def Borders (xs : List Int) : Prop := xs.length = 4 ∧ ∀ i (h : i < xs.length), 2 ≤ xs[i] ∧ xs[i] ≤ 4

/-- it returned whether P -/
def Tells (e : Ending) (P : Prop) : Prop := ∃ b, e = .returned (.bool b) ∧ (b = true ↔ P)
theorem Tells.yes {P : Prop} (h : P) : Tells (.returned (.bool true)) P := ⟨true, rfl, by simp [h]⟩
theorem Tells.no {P : Prop} (h : ¬ P) : Tells (.returned (.bool false)) P := ⟨false, rfl, by simp [h]⟩
theorem Tells.of {P : Prop} {b : Bool} (h : b = true ↔ P) : Tells (.returned (.bool b)) P := ⟨b, rfl, h⟩
theorem Tells.split {e : Ending} {P : Prop} (h : Tells e P) : (e = .returned (.bool false) ∧ Hid (¬ P)) ∨ (e = .returned (.bool true) ∧ Hid P) := by
  obtain ⟨b, rfl, h2⟩ := h
  cases b
  · exact .inl ⟨rfl, fun hp => by have := h2.2 hp; simp at this⟩
  · exact .inr ⟨rfl, h2.1 rfl⟩
theorem Tells.iff {e : Ending} {P Q : Prop} (h : Tells e P) (k : P ↔ Q) : Tells e Q := by
  obtain ⟨b, h1, h2⟩ := h
  exact ⟨b, h1, h2.trans k⟩

def Sizes (o : Lk.Obj) : Prop := (o.text.length ≤ 1200 ∧ o.far.length ≤ 1200 ∧ o.data.length ≤ 64) ∧ (0 ≤ o.bss ∧ o.bss ≤ 64) ∧ o.syms.length ≤ 16 ∧ o.rels.length ≤ 32

/-- small enough that no count wraps -/
def Small (o : Lk.Obj) : Prop := o.text.length ≤ 65535 ∧ o.far.length ≤ 65535 ∧ o.data.length ≤ 65535 ∧ o.align.length ≤ 65535 ∧ o.syms.length ≤ 65535 ∧ o.rels.length ≤ 65535

end Go.Proofs.YtaiplongpjimnaaDoor

namespace Go.Proofs.YtaiplongpjimnaaDoor
open Go.RowKit

def AllWords (o : Lk.Obj) : Prop := Words o.text ∧ Words o.far ∧ Words o.data

theorem own_cap {w : World} {base : Nat} {e : TypeId} {size : Nat} {ao : Option Addr} {n cap : Nat} {xs : List Value} (h : w.ownsRow base e size (.slice ao n cap) n xs) : n ≤ cap ∧ cap ≤ maxLen := by
  rcases h.2 with ⟨h1, h2⟩ | ⟨g, cap', cur, hv, _, _, h3, h4, _⟩
  · simp at h1; omega
  · simp only [Value.slice.injEq] at hv
    obtain ⟨_, _, rfl⟩ := hv
    exact ⟨h3, h4⟩

/-- a section's words -/
def wordsOf (o : Lk.Obj) (sect : Int) : List Int := if sect = 1 then o.text else if sect = 2 then o.far else if sect = 3 then o.data else []

end Go.Proofs.YtaiplongpjimnaaDoor

namespace Go.Proofs.YtaiplongpjimnaaDoor
open Go.RowKit

def seclen (o : Lk.Obj) (sect : Int) : Int := if sect = 4 then o.bss else (wordsOf o sect).length

theorem wordsOf_small {o : Lk.Obj} (h : Small o) (sect : Int) : (wordsOf o sect).length ≤ 65535 := by
  obtain ⟨n1, n2, n3, n4, n5, n6⟩ := h
  unfold wordsOf
  split
  · exact n1
  split
  · exact n2
  split
  · exact n3
  · simp

def Chr (c : Int) : Prop := c = 95 ∨ (48 ≤ c ∧ c ≤ 57) ∨ (97 ≤ c ∧ c ≤ 122)
def NameOk (s : ByteArray) : Prop := 1 ≤ s.size ∧ s.size ≤ 6 ∧ (∀ h : 0 < s.size, ¬ (48 ≤ (s[0].toNat : Int) ∧ (s[0].toNat : Int) ≤ 57)) ∧ ∀ i (h : i < s.size), Chr (s[i].toNat : Int)

/-- a list of symbols at ao -/
def SymsIn (w : World) (ao : Option Addr) (ys : List Lk.Sym) : Prop :=
  0 < ys.length → ∃ g, ao = some ⟨g, 0, none⟩ ∧ g < w.heap.size ∧ ∀ i (h : i < ys.length), w.cell? ⟨g, i * 4, none⟩ = some (.string (bs ys[i].name)) ∧ w.cell? ⟨g, i * 4 + 1, none⟩ = some (.int .i64 ys[i].bind) ∧
    w.cell? ⟨g, i * 4 + 2, none⟩ = some (.int .i64 ys[i].sect) ∧ w.cell? ⟨g, i * 4 + 3, none⟩ = some (.int .i64 ys[i].off)

theorem flat_get {α : Type} (f : α → List Value) (size : Nat) (hf : ∀ x, (f x).length = size) (l : List α) (i j : Nat) (hi : i < l.length) (hj : j < size) : (l.flatMap f)[i * size + j]? = (f l[i])[j]? := by
  induction l generalizing i with
  | nil => simp at hi
  | cons x t ih =>
    rw [List.flatMap_cons]
    cases i with
    | zero =>
      rw [List.getElem?_append_left (by rw [hf]; omega)]
      simp
    | succ i =>
      rw [List.getElem?_append_right (by rw [hf, Nat.succ_mul]; omega), hf]
      have : (i + 1) * size + j - size = i * size + j := by rw [Nat.succ_mul]; omega
      rw [this, ih i (by simpa using hi)]
      simp

theorem SymsIn.grown {w w' : World} {ao : Option Addr} {ys : List Lk.Sym} (h : SymsIn w ao ys) (hg : w.grownBy w' none) : SymsIn w' ao ys := by
  intro h0
  obtain ⟨g, h1, h2, h3⟩ := h h0
  refine ⟨g, h1, Nat.lt_of_lt_of_le h2 hg.size, fun i hi => ?_⟩
  obtain ⟨a, b, c, d⟩ := h3 i hi
  exact ⟨hg.cell a (by simp), hg.cell b (by simp), hg.cell c (by simp), hg.cell d (by simp)⟩

end Go.Proofs.YtaiplongpjimnaaDoor

namespace Go.Proofs.YtaiplongpjimnaaDoor
open Go.RowKit

def SymOk (o : Lk.Obj) (y : Lk.Sym) : Prop :=
  NameOk (bs y.name) ∧ (0 ≤ y.bind ∧ y.bind ≤ 2) ∧ (0 ≤ y.sect ∧ y.sect ≤ 4) ∧ ¬ (y.sect = 0 ∧ y.bind = 0) ∧ 0 ≤ y.off ∧ y.off % 4 = 0 ∧ y.off ≤ 4 * seclen o y.sect

end Go.Proofs.YtaiplongpjimnaaDoor

namespace Go.Proofs.YtaiplongpjimnaaDoor
open Go.RowKit

def SymsOk (o : Lk.Obj) : Prop := ∀ i (h : i < o.syms.length), SymOk o o.syms[i] ∧ ¬ ∃ j, ∃ hj : j < o.syms.length, j < i ∧ o.syms[j].name = o.syms[i].name

theorem take_names (ys : List Lk.Sym) (k : Nat) (hk : k < ys.length) (nm : List UInt8) : (∃ i, ∃ h : i < (ys.take k).length, (ys.take k)[i].name = nm) ↔ ∃ j, ∃ hj : j < ys.length, j < k ∧ ys[j].name = nm := by
  constructor
  · rintro ⟨i, h, e⟩
    simp only [List.length_take] at h
    refine ⟨i, by omega, by omega, ?_⟩
    rw [List.getElem_take] at e
    exact e
  · rintro ⟨j, hj, hk', e⟩
    refine ⟨j, by simp; omega, ?_⟩
    rw [List.getElem_take]
    exact e

theorem SymsIn.take {w : World} {ao : Option Addr} {ys : List Lk.Sym} (h : SymsIn w ao ys) (k : Nat) : SymsIn w ao (ys.take k) := by
  intro h0
  simp only [List.length_take] at h0
  obtain ⟨g, h1, h2, h3⟩ := h (by omega)
  refine ⟨g, h1, h2, fun i hi => ?_⟩
  have hi' : i < ys.length := by simp at hi; omega
  have := h3 i hi'
  simpa [List.getElem_take] using this

theorem put_mk (t : Array Value) (ds : List Deferred) (i : Tmp) (v : Value) : Act.put ⟨t, ds⟩ (some i) v = ⟨t.setIfInBounds i v, ds⟩ := rfl
theorem grown_drew {a b : World} {row : Option Nat} (h : a.grownBy b row) : a.grownBy b.drew row := ⟨h.os, h.tape, h.output, h.size, h.block⟩
theorem gcell {w w' : World} {a : Addr} {v : Value} (h : w.cell? a = some v) (hg : w.grownBy w' none) : w'.cell? a = some v := hg.cell h (by simp)

end Go.Proofs.YtaiplongpjimnaaDoor

namespace Go.Proofs.YtaiplongpjimnaaDoor
open Go.RowKit

def KindOk (r : Lk.Rel) : Prop := ((r.sect = 1 ∨ r.sect = 2) ∧ 1 ≤ r.kind ∧ r.kind ≤ 6) ∨ (r.sect = 3 ∧ r.kind = 1)
def AddendOk (r : Lk.Rel) : Prop := if r.kind = 1 ∨ r.kind = 5 then -2048 ≤ r.addend ∧ r.addend ≤ 2047 else if r.kind = 6 then r.addend = 4 ∨ r.addend = 12 else r.addend = 0
def SymIx (o : Lk.Obj) (r : Lk.Rel) : Prop := if r.kind = 6 then r.sym = 0 else 0 ≤ r.sym ∧ r.sym < o.syms.length
def spanI (r : Lk.Rel) : Int := if r.kind = 4 ∨ r.kind = 5 then 2 else if r.kind = 6 then r.addend / 4 else 1
def relA (r : Lk.Rel) : Value := .agg #[.int .i64 r.sect, .int .i64 r.off, .int .i64 r.kind, .int .i64 r.sym, .int .i64 r.addend]

theorem span_range {r : Lk.Rel} (h : AddendOk r) : 1 ≤ spanI r ∧ spanI r ≤ 3 := by
  unfold AddendOk at h
  unfold spanI
  split
  · omega
  · split
    · rename_i h1 h2
      rw [if_neg (by omega), if_pos h2] at h
      omega
    · omega

theorem AddendOk.six {r : Lk.Rel} (h : AddendOk r) (h6 : r.kind = 6) : r.addend = 4 ∨ r.addend = 12 := by
  unfold AddendOk at h
  rw [if_neg (by omega), if_pos h6] at h
  exact h

/-- the number of bytes of which a section begins at a multiple, its border being 2 to 4 -/
def borderI (x : Int) : Int := if x = 2 then 4 else if x = 3 then 8 else 16

end Go.Proofs.YtaiplongpjimnaaDoor

namespace Go.Proofs.YtaiplongpjimnaaDoor
open Go.RowKit

def FollowsP (a r : Lk.Rel) : Prop := if r.sect = a.sect then a.off + 4 * spanI a ≤ r.off else a.sect < r.sect

def AboutOk (o : Lk.Obj) (r : Lk.Rel) : Prop := 0 ≤ r.off ∧ r.off % 4 = 0 ∧ r.off / 4 + spanI r ≤ (wordsOf o r.sect).length
def about (o : Lk.Obj) (r : Lk.Rel) : List Int := ((wordsOf o r.sect).drop (r.off / 4).toNat).take (spanI r).toNat

def WithinP (o : Lk.Obj) (r : Lk.Rel) : Prop := ∃ i, ∃ h : i < o.syms.length, o.syms[i].sect = r.sect ∧ r.off < o.syms[i].off ∧ o.syms[i].off < r.off + 4 * spanI r

end Go.Proofs.YtaiplongpjimnaaDoor

namespace Go.Proofs.YtaiplongpjimnaaDoor
open Go.RowKit

theorem i64_and_nat (a b : Nat) (ha : a < 9223372036854775808) (hb : b < 9223372036854775808) : bits .and .i64 (a : Int) (b : Int) = ((a &&& b : Nat) : Int) := by
  have hx : a &&& b < 2 ^ 63 := Nat.and_lt_two_pow _ (by omega)
  show IntKind.i64.wrap ((BitVec.ofInt 64 (a : Int) &&& BitVec.ofInt 64 (b : Int)).toNat : Int) = _
  rw [BitVec.toNat_and, ofInt_u64 a (by omega), ofInt_u64 b (by omega)]
  exact IntWalk.i64_in _ ⟨by omega, by omega⟩
theorem i64_or_nat (a b : Nat) (ha : a < 9223372036854775808) (hb : b < 9223372036854775808) : bits .or .i64 (a : Int) (b : Int) = ((a ||| b : Nat) : Int) := by
  have hx : a ||| b < 2 ^ 63 := Nat.or_lt_two_pow (by omega) (by omega)
  show IntKind.i64.wrap ((BitVec.ofInt 64 (a : Int) ||| BitVec.ofInt 64 (b : Int)).toNat : Int) = _
  rw [BitVec.toNat_or, ofInt_u64 a (by omega), ofInt_u64 b (by omega)]
  exact IntWalk.i64_in _ ⟨by omega, by omega⟩

/-- the lowest k bits -/
theorem and_low (n : Int) (k : Nat) (hk : k ≤ 40) (m : Int) (hm : m = (2 : Int) ^ k - 1) (h0 : 0 ≤ n) (h1 : n ≤ 4294967295) : bits .and .i64 n m = n % (2 : Int) ^ k := by
  obtain ⟨a, rfl⟩ := Int.eq_ofNat_of_zero_le h0
  have hp : 0 < 2 ^ k := Nat.two_pow_pos k
  have hq : 2 ^ k ≤ 2 ^ 40 := Nat.pow_le_pow_right (by decide) hk
  have e : m = ((2 ^ k - 1 : Nat) : Int) := by
    rw [hm, Int.natCast_sub hp]
    simp
  rw [e, i64_and_nat a _ (by omega) (by omega), Nat.and_two_pow_sub_one_eq_mod]
  simp

theorem or_zero (a b : Int) (ha : 0 ≤ a) (ha' : a < 9223372036854775808) (hb : 0 ≤ b) (hb' : b < 9223372036854775808) : 0 ≤ bits .or .i64 a b ∧ (bits .or .i64 a b = 0 ↔ a = 0 ∧ b = 0) := by
  obtain ⟨x, rfl⟩ := Int.eq_ofNat_of_zero_le ha
  obtain ⟨y, rfl⟩ := Int.eq_ofNat_of_zero_le hb
  rw [i64_or_nat x y (by omega) (by omega)]
  refine ⟨by omega, ?_⟩
  constructor
  · intro h
    have h' : x ||| y = 0 := by omega
    have hx : x ≤ x ||| y := Nat.left_le_or
    have hy : y ≤ x ||| y := Nat.right_le_or
    omega
  · rintro ⟨h1, h2⟩
    have : x = 0 := by omega
    have : y = 0 := by omega
    subst x y
    simp
theorem or_lt (a b : Int) (k : Nat) (hk : k ≤ 60) (ha : 0 ≤ a) (ha' : a < (2 : Int) ^ k) (hb : 0 ≤ b) (hb' : b < (2 : Int) ^ k) : bits .or .i64 a b < (2 : Int) ^ k := by
  obtain ⟨x, rfl⟩ := Int.eq_ofNat_of_zero_le ha
  obtain ⟨y, rfl⟩ := Int.eq_ofNat_of_zero_le hb
  have e : ((2 ^ k : Nat) : Int) = (2 : Int) ^ k := by simp
  rw [← e] at ha' hb' ⊢
  have hq : 2 ^ k ≤ 2 ^ 60 := Nat.pow_le_pow_right (by decide) hk
  have := Nat.or_lt_two_pow (x := x) (y := y) (n := k) (by omega) (by omega)
  rw [i64_or_nat x y (by omega) (by omega)]
  omega

theorem and_bits (a b : Nat) (k : Nat) : a &&& (b <<< k) = ((a >>> k) &&& b) <<< k := by
  apply Nat.eq_of_testBit_eq
  intro i
  simp only [Nat.testBit_and, Nat.testBit_shiftLeft, Nat.testBit_shiftRight]
  by_cases h : k ≤ i
  · simp [h]
  · simp [h]

theorem or_add (a b k : Nat) (h : a < 2 ^ k) : a ||| (b <<< k) = a + b * 2 ^ k := by
  rw [Nat.or_comm, ← Nat.shiftLeft_add_eq_or_of_lt h, Nat.shiftLeft_eq]
  omega

theorem mask3 (n : Int) (h0 : 0 ≤ n) (h1 : n ≤ 4294967295) : bits .and .i64 n 28799 = n % 128 + 4096 * (n / 4096 % 8) := by
  obtain ⟨a, rfl⟩ := Int.eq_ofNat_of_zero_le h0
  have e : (28799 : Int) = ((127 ||| (7 <<< 12) : Nat) : Int) := by decide
  rw [e, i64_and_nat a _ (by omega) (by decide), Nat.and_or_distrib_left, and_bits]
  have e1 : a &&& 127 = a % 128 := Nat.and_two_pow_sub_one_eq_mod a 7
  have e2 : (a >>> 12) &&& 7 = a / 4096 % 8 := by rw [Nat.shiftRight_eq_div_pow]; exact Nat.and_two_pow_sub_one_eq_mod _ 3
  rw [e1, e2, or_add _ _ 12 (by omega)]
  omega

theorem maskR (n : Int) (h0 : 0 ≤ n) (h1 : n ≤ 4294967295) : bits .and .i64 n 4261441663 = n % 128 + 4096 * (n / 4096 % 8) + 33554432 * (n / 33554432) := by
  obtain ⟨a, rfl⟩ := Int.eq_ofNat_of_zero_le h0
  have e : (4261441663 : Int) = (((127 ||| (7 <<< 12)) ||| (127 <<< 25) : Nat) : Int) := by decide
  rw [e, i64_and_nat a _ (by omega) (by decide), Nat.and_or_distrib_left, Nat.and_or_distrib_left, and_bits, and_bits]
  have e1 : a &&& 127 = a % 128 := Nat.and_two_pow_sub_one_eq_mod a 7
  have e2 : (a >>> 12) &&& 7 = a / 4096 % 8 := by rw [Nat.shiftRight_eq_div_pow]; exact Nat.and_two_pow_sub_one_eq_mod _ 3
  have e3 : (a >>> 25) &&& 127 = a / 33554432 % 128 := by rw [Nat.shiftRight_eq_div_pow]; exact Nat.and_two_pow_sub_one_eq_mod _ 7
  rw [e1, e2, e3, or_add _ _ 12 (by omega), or_add _ _ 25 (by omega)]
  omega

theorem mask7 (n : Int) (h0 : 0 ≤ n) (h1 : n ≤ 4294967295) : bits .and .i64 n 127 = n % 128 := and_low n 7 (by decide) 127 rfl h0 h1
theorem maskW (n : Int) (h0 : 0 ≤ n) (h1 : n ≤ 4294967295) : bits .and .i64 n 4294967295 = n := by
  rw [and_low n 32 (by decide) 4294967295 rfl h0 h1]
  simp only [Int.reducePow]
  omega

end Go.Proofs.YtaiplongpjimnaaDoor

namespace Go.Proofs.YtaiplongpjimnaaDoor
open Go.RowKit

/-- it returned a number that is 0 just if P -/
def TellsN (e : Ending) (P : Prop) : Prop := ∃ v, e = .returned (.int .i64 v) ∧ (v = 0 ↔ P)
theorem TellsN.of {P : Prop} {v : Int} (h : v = 0 ↔ P) : TellsN (.returned (.int .i64 v)) P := ⟨v, rfl, h⟩

/-- the number in a word of this form is 0 -/
def NumZero (form n : Int) : Prop :=
  if form = 1 ∨ form = 2 then n / 4096 = 0 else if form = 3 then n / 1048576 = 0 else if form = 4 ∨ form = 5 then n / 33554432 = 0 ∧ n / 128 % 32 = 0 else True

theorem low (n : Int) (k : Nat) (hk : k ≤ 32) (m d : Int) (hm : m = (2 : Int) ^ k - 1) (hd : d = (2 : Int) ^ k) (h0 : 0 ≤ n) (h1 : n ≤ 4294967295) : bits .and .i64 n m = n % d := by
  rw [hd]; exact and_low n k (by omega) m hm h0 h1

theorem t1_spec (n : Int) (h0 : 0 ≤ n) (h1 : n ≤ 4294967295) : bits .and .i64 (n / 4096) 1048575 = 0 ↔ NumZero 1 n := by
  rw [low (n / 4096) 20 (by decide) 1048575 1048576 rfl rfl (by omega) (by omega)]
  unfold NumZero
  rw [if_pos (.inl rfl)]
  omega

def t2 (n : Int) : Int := bits .or .i64 (bits .or .i64 (bits .or .i64 (wrap64 (bits .and .i64 (n / 2147483648) 1 * 1048576)) (wrap64 (bits .and .i64 (n / 4096) 255 * 4096))) (wrap64 (bits .and .i64 (n / 1048576) 1 * 2048))) (wrap64 (bits .and .i64 (n / 2097152) 1023 * 2))
theorem t2_spec (n : Int) (h0 : 0 ≤ n) (h1 : n ≤ 4294967295) : 0 ≤ t2 n ∧ t2 n < 2097152 ∧ (t2 n = 0 ↔ NumZero 2 n) := by
  unfold t2
  rw [low (n / 2147483648) 1 (by decide) 1 2 rfl rfl (by omega) (by omega), low (n / 4096) 8 (by decide) 255 256 rfl rfl (by omega) (by omega), low (n / 1048576) 1 (by decide) 1 2 rfl rfl (by omega) (by omega), low (n / 2097152) 10 (by decide) 1023 1024 rfl rfl (by omega) (by omega)]
  rw [IntWalk.wrap64_in (n / 2147483648 % 2 * 1048576) ⟨by omega, by omega⟩, IntWalk.wrap64_in (n / 4096 % 256 * 4096) ⟨by omega, by omega⟩, IntWalk.wrap64_in (n / 1048576 % 2 * 2048) ⟨by omega, by omega⟩, IntWalk.wrap64_in (n / 2097152 % 1024 * 2) ⟨by omega, by omega⟩]
  have a1 := or_zero (n / 2147483648 % 2 * 1048576) (n / 4096 % 256 * 4096) (by omega) (by omega) (by omega) (by omega)
  have l1 := or_lt (n / 2147483648 % 2 * 1048576) (n / 4096 % 256 * 4096) 21 (by decide) (by omega) (by simp only [Int.reducePow]; omega) (by omega) (by simp only [Int.reducePow]; omega)
  generalize bits .or .i64 (n / 2147483648 % 2 * 1048576) (n / 4096 % 256 * 4096) = x1 at *
  simp only [Int.reducePow] at l1
  have a2 := or_zero x1 (n / 1048576 % 2 * 2048) (by omega) (by omega) (by omega) (by omega)
  have l2 := or_lt x1 (n / 1048576 % 2 * 2048) 21 (by decide) (by omega) (by simp only [Int.reducePow]; omega) (by omega) (by simp only [Int.reducePow]; omega)
  generalize bits .or .i64 x1 (n / 1048576 % 2 * 2048) = x2 at *
  simp only [Int.reducePow] at l2
  have a3 := or_zero x2 (n / 2097152 % 1024 * 2) (by omega) (by omega) (by omega) (by omega)
  have l3 := or_lt x2 (n / 2097152 % 1024 * 2) 21 (by decide) (by omega) (by simp only [Int.reducePow]; omega) (by omega) (by simp only [Int.reducePow]; omega)
  simp only [Int.reducePow] at l3
  refine ⟨a3.1, l3, ?_⟩
  rw [a3.2, a2.2, a1.2]
  unfold NumZero
  rw [if_pos (.inr rfl)]
  omega

def t3 (n : Int) : Int := bits .and .i64 (n / 1048576) 4095
theorem t3_spec (n : Int) (h0 : 0 ≤ n) (h1 : n ≤ 4294967295) : 0 ≤ t3 n ∧ t3 n < 4096 ∧ (t3 n = 0 ↔ NumZero 3 n) := by
  unfold t3
  rw [low (n / 1048576) 12 (by decide) 4095 4096 rfl rfl (by omega) (by omega)]
  unfold NumZero
  rw [if_neg (by decide), if_pos rfl]
  omega

def t4 (n : Int) : Int := bits .or .i64 (bits .or .i64 (bits .or .i64 (wrap64 (bits .and .i64 (n / 2147483648) 1 * 4096)) (wrap64 (bits .and .i64 (n / 128) 1 * 2048))) (wrap64 (bits .and .i64 (n / 33554432) 63 * 32))) (wrap64 (bits .and .i64 (n / 256) 15 * 2))
theorem t4_spec (n : Int) (h0 : 0 ≤ n) (h1 : n ≤ 4294967295) : 0 ≤ t4 n ∧ t4 n < 8192 ∧ (t4 n = 0 ↔ NumZero 4 n) := by
  unfold t4
  rw [low (n / 2147483648) 1 (by decide) 1 2 rfl rfl (by omega) (by omega), low (n / 128) 1 (by decide) 1 2 rfl rfl (by omega) (by omega), low (n / 33554432) 6 (by decide) 63 64 rfl rfl (by omega) (by omega), low (n / 256) 4 (by decide) 15 16 rfl rfl (by omega) (by omega)]
  rw [IntWalk.wrap64_in (n / 2147483648 % 2 * 4096) ⟨by omega, by omega⟩, IntWalk.wrap64_in (n / 128 % 2 * 2048) ⟨by omega, by omega⟩, IntWalk.wrap64_in (n / 33554432 % 64 * 32) ⟨by omega, by omega⟩, IntWalk.wrap64_in (n / 256 % 16 * 2) ⟨by omega, by omega⟩]
  have a1 := or_zero (n / 2147483648 % 2 * 4096) (n / 128 % 2 * 2048) (by omega) (by omega) (by omega) (by omega)
  have l1 := or_lt (n / 2147483648 % 2 * 4096) (n / 128 % 2 * 2048) 13 (by decide) (by omega) (by simp only [Int.reducePow]; omega) (by omega) (by simp only [Int.reducePow]; omega)
  generalize bits .or .i64 (n / 2147483648 % 2 * 4096) (n / 128 % 2 * 2048) = x1 at *
  simp only [Int.reducePow] at l1
  have a2 := or_zero x1 (n / 33554432 % 64 * 32) (by omega) (by omega) (by omega) (by omega)
  have l2 := or_lt x1 (n / 33554432 % 64 * 32) 13 (by decide) (by omega) (by simp only [Int.reducePow]; omega) (by omega) (by simp only [Int.reducePow]; omega)
  generalize bits .or .i64 x1 (n / 33554432 % 64 * 32) = x2 at *
  simp only [Int.reducePow] at l2
  have a3 := or_zero x2 (n / 256 % 16 * 2) (by omega) (by omega) (by omega) (by omega)
  have l3 := or_lt x2 (n / 256 % 16 * 2) 13 (by decide) (by omega) (by simp only [Int.reducePow]; omega) (by omega) (by simp only [Int.reducePow]; omega)
  simp only [Int.reducePow] at l3
  refine ⟨a3.1, l3, ?_⟩
  rw [a3.2, a2.2, a1.2]
  unfold NumZero
  rw [if_neg (by decide), if_neg (by decide), if_pos (.inl rfl)]
  omega

def t5 (n : Int) : Int := bits .or .i64 (wrap64 (bits .and .i64 (n / 33554432) 127 * 32)) (bits .and .i64 (n / 128) 31)
theorem t5_spec (n : Int) (h0 : 0 ≤ n) (h1 : n ≤ 4294967295) : 0 ≤ t5 n ∧ t5 n < 4096 ∧ (t5 n = 0 ↔ NumZero 5 n) := by
  unfold t5
  rw [low (n / 33554432) 7 (by decide) 127 128 rfl rfl (by omega) (by omega), low (n / 128) 5 (by decide) 31 32 rfl rfl (by omega) (by omega)]
  rw [IntWalk.wrap64_in (n / 33554432 % 128 * 32) ⟨by omega, by omega⟩]
  have a1 := or_zero (n / 33554432 % 128 * 32) (n / 128 % 32) (by omega) (by omega) (by omega) (by omega)
  have l1 := or_lt (n / 33554432 % 128 * 32) (n / 128 % 32) 12 (by decide) (by omega) (by simp only [Int.reducePow]; omega) (by omega) (by simp only [Int.reducePow]; omega)
  simp only [Int.reducePow] at l1
  refine ⟨a1.1, l1, ?_⟩
  rw [a1.2]
  unfold NumZero
  rw [if_neg (by decide), if_neg (by decide), if_pos (.inr rfl)]
  omega

theorem minus_zero (t d : Int) (P : Prop) (_h0 : 0 ≤ t) (h1 : t < d) (hd : d ≤ 4294967296) (h : t = 0 ↔ P) (hge : 1 ≤ t) : wrap64 (t - d) = 0 ↔ P := by
  rw [IntWalk.wrap64_in _ ⟨by omega, by omega⟩, ← h]
  omega

set_option maxHeartbeats 1000000 in
theorem takeNumber_any (form n : Int) (w : World) (h0 : 0 ≤ n) (h1 : n ≤ 4294967295) :
    Calls Tryd.prog 61 #[.int .i64 form, .int .i64 n] w fun e w' => TellsN e (NumZero form n) ∧ w' = w := by
  by_cases e1 : form = 1
  · subst e1
    go_enter Tryd.func61, Tryd.ntmps61
    go_wp2
    go_ret
    exact ⟨TellsN.of (t1_spec n h0 h1), rfl⟩
  by_cases e2 : form = 2
  · subst e2
    have T := hid (t2_spec n h0 h1)
    clear e1
    go_enter Tryd.func61, Tryd.ntmps61
    go_wp2
    · go_ret
      exact ⟨TellsN.of T.out.2.2, rfl⟩
    · rename_i hx
      go_ret
      refine ⟨TellsN.of (minus_zero (t2 n) 2097152 _ T.out.1 T.out.2.1 (by decide) T.out.2.2 ?_), rfl⟩
      have : (1048576 : Int) ≤ t2 n := by assumption
      omega
  by_cases e3 : form = 3
  · subst e3
    have T := hid (t3_spec n h0 h1)
    clear e1 e2
    go_enter Tryd.func61, Tryd.ntmps61
    go_wp2
    · go_ret
      exact ⟨TellsN.of T.out.2.2, rfl⟩
    · go_ret
      refine ⟨TellsN.of (minus_zero (t3 n) 4096 _ T.out.1 T.out.2.1 (by decide) T.out.2.2 ?_), rfl⟩
      have : (2048 : Int) ≤ t3 n := by assumption
      omega
  by_cases e4 : form = 4
  · subst e4
    have T := hid (t4_spec n h0 h1)
    clear e1 e2 e3
    go_enter Tryd.func61, Tryd.ntmps61
    go_wp2
    · go_ret
      exact ⟨TellsN.of T.out.2.2, rfl⟩
    · go_ret
      refine ⟨TellsN.of (minus_zero (t4 n) 8192 _ T.out.1 T.out.2.1 (by decide) T.out.2.2 ?_), rfl⟩
      have : (4096 : Int) ≤ t4 n := by assumption
      omega
  by_cases e5 : form = 5
  · subst e5
    have T := hid (t5_spec n h0 h1)
    clear e1 e2 e3 e4
    go_enter Tryd.func61, Tryd.ntmps61
    go_wp2
    · go_ret
      exact ⟨TellsN.of T.out.2.2, rfl⟩
    · go_ret
      refine ⟨TellsN.of (minus_zero (t5 n) 4096 _ T.out.1 T.out.2.1 (by decide) T.out.2.2 ?_), rfl⟩
      have : (2048 : Int) ≤ t5 n := by assumption
      omega
  have T := hid (show NumZero form n from by unfold NumZero; rw [if_neg (by omega), if_neg e3, if_neg (by omega)]; trivial)
  have d1 : (form == 1) = false := beq_eq_false_iff_ne.2 e1
  have d2 : (form == 2) = false := beq_eq_false_iff_ne.2 e2
  have d3 : (form == 3) = false := beq_eq_false_iff_ne.2 e3
  have d4 : (form == 4) = false := beq_eq_false_iff_ne.2 e4
  have d5 : (form == 5) = false := beq_eq_false_iff_ne.2 e5
  clear e1 e2 e3 e4 e5
  go_enter Tryd.func61, Tryd.ntmps61
  go_wp2
  go_ret
  exact ⟨TellsN.of ⟨fun _ => T.out, fun _ => rfl⟩, rfl⟩

end Go.Proofs.YtaiplongpjimnaaDoor

namespace Go.Proofs.YtaiplongpjimnaaDoor
open Go.RowKit

def rdF (form n : Int) : Int := if form = 1 ∨ form = 2 ∨ form = 3 ∨ form = 6 then bits .and .i64 (n / 128) 31 else 0
def rs1F (form n : Int) : Int := if form = 3 ∨ form = 4 ∨ form = 5 ∨ form = 6 then bits .and .i64 (n / 32768) 31 else 0
def rs2F (form n : Int) : Int := if form = 4 ∨ form = 5 ∨ form = 6 then bits .and .i64 (n / 1048576) 31 else 0

def insV (op rd rs1 rs2 m : Int) : Value := .agg #[.int .i64 op, .int .i64 rd, .int .i64 rs1, .int .i64 rs2, .int .i64 m]
def TellsF (e : Ending) (op form n : Int) : Prop := ∃ m, e = .returned (insV op (rdF form n) (rs1F form n) (rs2F form n) m) ∧ (m = 0 ↔ NumZero form n)

set_option maxHeartbeats 2000000 in
theorem fields_any (op form n : Int) (w : World) (h0 : 0 ≤ n) (h1 : n ≤ 4294967295) (hf : 1 ≤ form ∧ form ≤ 7) :
    Calls Tryd.prog 50 #[.int .i64 op, .int .i64 form, .int .i64 n] w fun e w' => TellsF e op form n ∧ w.grownBy w' none := by
  have cT := hid (fun W => takeNumber_any form n W h0 h1)
  have G1 := hid (fun o : Obj => World.grownBy_alloc w o none)
  have G2 := hid (fun o o' : Obj => World.grownBy_alloc (w.alloc o) o' none)
  have Z : Hid (∀ m, (m = 0 ↔ NumZero form n) → ∀ e, e = Ending.returned (insV op (rdF form n) (rs1F form n) (rs2F form n) m) → TellsF e op form n) := fun m hm e he => ⟨m, he, hm⟩
  have S := hid (show ∀ (W : World) (a b : Nat) (cs zs : Array Value), True from fun _ _ _ _ _ => trivial)
  rcases (show form = 1 ∨ form = 2 ∨ form = 3 ∨ form = 4 ∨ form = 5 ∨ form = 6 ∨ form = 7 from by omega) with rfl | rfl | rfl | rfl | rfl | rfl | rfl
  all_goals
    clear hf S
    go_enter Tryd.func50, Tryd.ntmps50
    go_wp2_with fail
    refine (cT.out _).mono ?_
    rintro e w1 ⟨⟨m, rfl, hm⟩, rfl⟩
    have HM := hid hm
    clear hm cT
    go_wp2
    refine bodyPost_ret (v := insV op (rdF _ n) (rs1F _ n) (rs2F _ n) m) ?_ rfl ⟨⟨m, rfl, HM.out⟩, grown_trans (G1.out _) (G2.out _ _)⟩
    simp [results, Tryd.results50, go_sem, insV, rdF, rs1F, rs2F]

/-- the tables of package instr lie where they were laid -/
def formL : List Int := [0, 1, 1, 2, 3, 4, 4, 4, 4, 4, 4, 3, 5, 3, 3, 3, 3, 3, 6, 6, 6, 6, 6, 6, 6, 7]
def fixedL : List Int := [0, 55, 23, 111, 103, 99, 4195, 16483, 20579, 24675, 28771, 8195, 8227, 19, 8211, 16403, 24595, 28691, 51, 1073741875, 8243, 12339, 16435, 24627, 28723, 115]
structure Tabs (w : World) : Prop where
  form : ∀ i, i < 26 → w.cell? ⟨0, i, none⟩ = some (.int .i64 (formL.getD i 0))
  fix : ∀ i, i < 26 → w.cell? ⟨1, i, none⟩ = some (.int .i64 (fixedL.getD i 0))
theorem Tabs.grown {w w' : World} (h : Tabs w) (hg : w.grownBy w' none) : Tabs w' := ⟨fun i hi => gcell (h.form i hi) hg, fun i hi => gcell (h.fix i hi) hg⟩
theorem Tabs.grownAt {w w' : World} (h : Tabs w) {b : Nat} (hg : w.grownBy w' (some b)) (hb : 2 ≤ b) : Tabs w' :=
  ⟨fun i hi => hg.cell (h.form i hi) (by simp; omega), fun i hi => hg.cell (h.fix i hi) (by simp; omega)⟩

def maskF (form : Int) : Int := if form = 1 ∨ form = 2 then 127 else if form = 3 ∨ form = 4 ∨ form = 5 then 28799 else if form = 6 then 4261441663 else 4294967295

set_option maxHeartbeats 1000000 in
theorem fixedMask_any (form : Int) (w : World) (hf : 1 ≤ form ∧ form ≤ 7) :
    Calls Tryd.prog 49 #[.int .i64 form] w fun e w' => e = .returned (.int .i64 (maskF form)) ∧ w' = w := by
  rcases (show form = 1 ∨ form = 2 ∨ form = 3 ∨ form = 4 ∨ form = 5 ∨ form = 6 ∨ form = 7 from by omega) with rfl | rfl | rfl | rfl | rfl | rfl | rfl
  all_goals
    clear hf
    go_enter Tryd.func49, Tryd.ntmps49
    go_wp2
    go_ret
    exact ⟨by simp [maskF], rfl⟩

/-- the word is of instruction k -/
def Is (k : Nat) (n : Int) : Prop := bits .and .i64 n (maskF (formL.getD k 0)) = fixedL.getD k 0

/-- what Decode gives -/
def Dec (n op rd rs1 m : Int) : Prop :=
  (op = 0 ∧ rd = 0 ∧ rs1 = 0 ∧ m = 0 ∧ ∀ k, 1 ≤ k → k ≤ 25 → ¬ Is k n) ∨
  ∃ k : Nat, 1 ≤ k ∧ k ≤ 25 ∧ Is k n ∧ (∀ j, 1 ≤ j → j < k → ¬ Is j n) ∧ op = k ∧ rd = rdF (formL.getD k 0) n ∧ rs1 = rs1F (formL.getD k 0) n ∧ (m = 0 ↔ NumZero (formL.getD k 0) n)
def TellsD (e : Ending) (n : Int) : Prop := ∃ op rd rs1 rs2 m, e = .returned (insV op rd rs1 rs2 m) ∧ Dec n op rd rs1 m

theorem form_range (k : Nat) (h1 : 1 ≤ k) (h2 : k ≤ 25) : 1 ≤ formL.getD k 0 ∧ formL.getD k 0 ≤ 7 := by
  have : ∀ k, k < 26 → 1 ≤ k → 1 ≤ formL.getD k 0 ∧ formL.getD k 0 ≤ 7 := by decide
  exact this k (by omega) h1

end Go.Proofs.YtaiplongpjimnaaDoor

namespace Go.Proofs.YtaiplongpjimnaaDoor
open Go.RowKit

theorem grown_new {w W : World} (h : w.grownBy W none) {b : Nat} (hb : w.heap.size ≤ b) (o : Nat) (v : Value) : w.grownBy (W.setCell ⟨b, o, none⟩ v) none :=
  ⟨h.os, h.tape, h.output, by simpa [World.setCell] using h.size, fun i hi _ => (Below.heap_setCell W ⟨b, o, none⟩ v i (by simp; omega)).trans (h.block i hi (by simp))⟩

theorem put5 {w W : World} {a0 a1 a2 a3 a4 : Value} (h : w.grownBy W none) (hB : BlkAt W w.heap.size #[a0, a1, a2, a3, a4] 86) (b0 b1 b2 b3 b4 : Value) :
    BlkAt (((((W.setCell ⟨w.heap.size, 0, none⟩ b0).setCell ⟨w.heap.size, 1, none⟩ b1).setCell ⟨w.heap.size, 2, none⟩ b2).setCell ⟨w.heap.size, 3, none⟩ b3).setCell ⟨w.heap.size, 4, none⟩ b4) w.heap.size #[b0, b1, b2, b3, b4] 86 ∧
    w.grownBy (((((W.setCell ⟨w.heap.size, 0, none⟩ b0).setCell ⟨w.heap.size, 1, none⟩ b1).setCell ⟨w.heap.size, 2, none⟩ b2).setCell ⟨w.heap.size, 3, none⟩ b3).setCell ⟨w.heap.size, 4, none⟩ b4) none :=
  ⟨((((hB.set 0 b0).set 1 b1).set 2 b2).set 3 b3).set 4 b4, grown_new (grown_new (grown_new (grown_new (grown_new h (Nat.le_refl _) _ _) (Nat.le_refl _) _ _) (Nat.le_refl _) _ _) (Nat.le_refl _) _ _) (Nat.le_refl _) _ _⟩

set_option maxHeartbeats 4000000 in
theorem decode_any (n : Int) (w : World) (ht : Tabs w) (h0 : 0 ≤ n) (h1 : n ≤ 4294967295) :
    Calls Tryd.prog 39 #[.int .i64 n] w fun e w' => TellsD e n ∧ w.grownBy w' none := by
  have HT := hid ht
  clear ht
  have G := hid (fun o : Obj => World.grownBy_alloc w o none)
  go_enter Tryd.func39, Tryd.ntmps39
  go_wp2
  go_loopw [3] (fun i wr => ∃ k : Nat, 1 ≤ k ∧ k ≤ 26 ∧ i = .int .i64 k ∧ (∀ j, 1 ≤ j → j < k → ¬ Is j n) ∧ w.grownBy wr none ∧ BlkAt wr w.heap.size #[.int .i64 0, .int .i64 0, .int .i64 0, .int .i64 0, .int .i64 0] 86) (fun i _ => 26 - (intOf i).toNat)
  case atStart => exact ⟨1, Nat.le_refl _, by omega, rfl, fun j h1 h2 => by omega, G.out _, BlkAt.new _ _ _⟩
  case round =>
    obtain ⟨k, hk1, hk2, rfl, hall, hgr, hbk⟩ := hrel
    have HA := hid hall
    have HG := hid hgr
    have HB := hid hbk
    clear hall hgr hbk
    by_cases hlt : k ≤ 25
    · have T := HT.out.grown HG.out
      have cf := T.form k (by omega)
      have cx := T.fix k (by omega)
      have hfr := form_range k hk1 hlt
      clear T
      have IsE := hid (show Is k n ↔ bits .and .i64 n (maskF (formL.getD k 0)) = fixedL.getD k 0 from Iff.rfl)
      generalize hF : formL.getD k 0 = f at *
      generalize fixedL.getD k 0 = x at *
      have HF := hid hF
      clear hF
      have cM := hid (fun W => fixedMask_any f W hfr)
      have g1 : (1 : Int) ≤ (k : Int) := by omega
      have g2 : (k : Int) ≤ 25 := by omega
      by_cases hI : Is k n
      · have d : (bits .and .i64 n (maskF f) == x) = true := beq_iff_eq.2 (IsE.out.1 hI)
        have HI := hid hI
        have cF := hid (fun W => fields_any k f n W h0 h1 hfr)
        clear hI
        go_wp2
        go_quiet ((go_at_call 49; exact Calls.quiet_of_same (cM.out _)))
        go_wp2_with fail
        refine (cF.out _).mono ?_
        rintro e w2 ⟨⟨m, rfl, hm⟩, hq⟩
        unfold insV
        have B2 := hid ((HB.out.drewN nq).grown hq (by simp))
        have G2 := hid (grown_trans (grown_drewN HG.out nq) hq)
        have HM := hid hm
        have k0 := B2.out.cell 0
        have k1 := B2.out.cell 1
        have k2 := B2.out.cell 2
        have k3 := B2.out.cell 3
        have k4 := B2.out.cell 4
        have f0 := B2.out.free 0
        have f1 := B2.out.free 1
        have f2 := B2.out.free 2
        have f3 := B2.out.free 3
        have f4 := B2.out.free 4
        clear hm hq
        generalize hrd : rdF f n = rd at *
        generalize hr1 : rs1F f n = r1 at *
        have HRD := hid hrd
        have HR1 := hid hr1
        clear hrd hr1
        generalize rs2F f n = r2 at *
        go_wp2
        have F := put5 G2.out B2.out (.int .i64 k) (.int .i64 rd) (.int .i64 r1) (.int .i64 r2) (.int .i64 m)
        have e0 := F.1.cell 0
        have e1 := F.1.cell 1
        have e2 := F.1.cell 2
        have e3 := F.1.cell 3
        have e4 := F.1.cell 4
        refine bodyPost_ret (v := insV k rd r1 r2 m) ?_ rfl ⟨⟨k, rd, r1, r2, m, rfl, .inr ⟨k, hk1, hlt, HI.out, HA.out, rfl, ?_, ?_, ?_⟩⟩, F.2⟩
        · clear F k0 k1 k2 k3 k4 f0 f1 f2 f3 f4 B2 G2
          generalize World.setCell _ _ _ = WF at *
          simp [results, Tryd.results39, go_sem, insV, e0, e1, e2, e3, e4]
        · rw [HF.out, HRD.out]
        · rw [HF.out, HR1.out]
        · rw [HF.out]; exact HM.out
      · have d : (bits .and .i64 n (maskF f) == x) = false := beq_eq_false_iff_ne.2 (fun h => hI (IsE.out.2 h))
        have HI := hid hI
        clear hI
        go_wp2
        go_quiet ((go_at_call 49; exact Calls.quiet_of_same (cM.out _)))
        go_wp2
        go_roundw
        case rel => exact ⟨k + 1, by omega, by omega, by go_num, fun j hj hjk => (Nat.lt_succ_iff_lt_or_eq.1 hjk).elim (fun h => HA.out j hj h) (fun h => by subst h; exact HI.out), grown_drewN HG.out _, HB.out.drewN _⟩
        case measure => simp [intOf]; omega
    · have k0 := HB.out.cell 0
      have k1 := HB.out.cell 1
      have k2 := HB.out.cell 2
      have k3 := HB.out.cell 3
      have k4 := HB.out.cell 4
      have f0 := HB.out.free 0
      have f1 := HB.out.free 1
      have f2 := HB.out.free 2
      have f3 := HB.out.free 3
      have f4 := HB.out.free 4
      go_wp2
      have F := put5 HG.out HB.out (.int .i64 0) (.int .i64 0) (.int .i64 0) (.int .i64 0) (.int .i64 0)
      have e0 := F.1.cell 0
      have e1 := F.1.cell 1
      have e2 := F.1.cell 2
      have e3 := F.1.cell 3
      have e4 := F.1.cell 4
      refine bodyPost_ret (v := insV 0 0 0 0 0) ?_ rfl ⟨⟨0, 0, 0, 0, 0, rfl, .inl ⟨rfl, rfl, rfl, rfl, fun j h1 h2 => HA.out j h1 (by omega)⟩⟩, F.2⟩
      clear F k0 k1 k2 k3 k4 f0 f1 f2 f3 f4
      generalize World.setCell _ _ _ = WF at *
      simp [results, Tryd.results39, go_sem, insV, e0, e1, e2, e3, e4]

end Go.Proofs.YtaiplongpjimnaaDoor

namespace Go.Proofs.YtaiplongpjimnaaDoor
open Go.RowKit

theorem or_sum (a b : Int) (k : Nat) (ha : 0 ≤ a) (ha' : a < 9223372036854775808) (hk : a % (2 : Int) ^ k = 0) (hb : 0 ≤ b) (hb' : b < (2 : Int) ^ k) (hb2 : b < 9223372036854775808) : bits .or .i64 a b = a + b := by
  obtain ⟨x, rfl⟩ := Int.eq_ofNat_of_zero_le ha
  obtain ⟨y, rfl⟩ := Int.eq_ofNat_of_zero_le hb
  have e : ((2 ^ k : Nat) : Int) = (2 : Int) ^ k := by simp
  rw [← e] at hb' hk
  rw [i64_or_nat x y (by omega) (by omega)]
  have hx : x = 2 ^ k * (x / 2 ^ k) := by
    have h1 : x % 2 ^ k = 0 := by omega
    have := Nat.div_add_mod x (2 ^ k)
    omega
  have h := Nat.two_pow_add_eq_or_of_lt (i := k) (b := y) (by omega) (x / 2 ^ k)
  rw [← hx] at h
  omega

namespace Mc
def v2 (n : Int) : Int := n / 2147483648 % 2 * 1048576 + n / 4096 % 256 * 4096 + n / 1048576 % 2 * 2048 + n / 2097152 % 1024 * 2
def v4 (n : Int) : Int := n / 2147483648 % 2 * 4096 + n / 128 % 2 * 2048 + n / 33554432 % 64 * 32 + n / 256 % 16 * 2
def v5 (n : Int) : Int := n / 33554432 % 128 * 32 + n / 128 % 32
/-- the number in a word of this form -/
def numF (form n : Int) : Int :=
  if form = 1 then n / 4096 % 1048576
  else if form = 2 then (if v2 n < 1048576 then v2 n else v2 n - 2097152)
  else if form = 3 then (if n / 1048576 % 4096 < 2048 then n / 1048576 % 4096 else n / 1048576 % 4096 - 4096)
  else if form = 4 then (if v4 n < 4096 then v4 n else v4 n - 8192)
  else if form = 5 then (if v5 n < 2048 then v5 n else v5 n - 4096)
  else 0
end Mc

theorem t2_exact (n : Int) (h0 : 0 ≤ n) (h1 : n ≤ 4294967295) : t2 n = Mc.v2 n := by
  unfold t2 Mc.v2
  rw [low (n / 2147483648) 1 (by decide) 1 2 rfl rfl (by omega) (by omega), low (n / 4096) 8 (by decide) 255 256 rfl rfl (by omega) (by omega), low (n / 1048576) 1 (by decide) 1 2 rfl rfl (by omega) (by omega), low (n / 2097152) 10 (by decide) 1023 1024 rfl rfl (by omega) (by omega)]
  rw [IntWalk.wrap64_in (n / 2147483648 % 2 * 1048576) ⟨by omega, by omega⟩, IntWalk.wrap64_in (n / 4096 % 256 * 4096) ⟨by omega, by omega⟩, IntWalk.wrap64_in (n / 1048576 % 2 * 2048) ⟨by omega, by omega⟩, IntWalk.wrap64_in (n / 2097152 % 1024 * 2) ⟨by omega, by omega⟩]
  rw [or_sum (n / 2147483648 % 2 * 1048576) (n / 4096 % 256 * 4096) 20 (by omega) (by omega) (by simp only [Int.reducePow]; omega) (by omega) (by simp only [Int.reducePow]; omega) (by omega),
    or_sum (n / 2147483648 % 2 * 1048576 + n / 4096 % 256 * 4096) (n / 1048576 % 2 * 2048) 12 (by omega) (by omega) (by simp only [Int.reducePow]; omega) (by omega) (by simp only [Int.reducePow]; omega) (by omega),
    or_sum (n / 2147483648 % 2 * 1048576 + n / 4096 % 256 * 4096 + n / 1048576 % 2 * 2048) (n / 2097152 % 1024 * 2) 11 (by omega) (by omega) (by simp only [Int.reducePow]; omega) (by omega) (by simp only [Int.reducePow]; omega) (by omega)]
theorem t4_exact (n : Int) (h0 : 0 ≤ n) (h1 : n ≤ 4294967295) : t4 n = Mc.v4 n := by
  unfold t4 Mc.v4
  rw [low (n / 2147483648) 1 (by decide) 1 2 rfl rfl (by omega) (by omega), low (n / 128) 1 (by decide) 1 2 rfl rfl (by omega) (by omega), low (n / 33554432) 6 (by decide) 63 64 rfl rfl (by omega) (by omega), low (n / 256) 4 (by decide) 15 16 rfl rfl (by omega) (by omega)]
  rw [IntWalk.wrap64_in (n / 2147483648 % 2 * 4096) ⟨by omega, by omega⟩, IntWalk.wrap64_in (n / 128 % 2 * 2048) ⟨by omega, by omega⟩, IntWalk.wrap64_in (n / 33554432 % 64 * 32) ⟨by omega, by omega⟩, IntWalk.wrap64_in (n / 256 % 16 * 2) ⟨by omega, by omega⟩]
  rw [or_sum (n / 2147483648 % 2 * 4096) (n / 128 % 2 * 2048) 12 (by omega) (by omega) (by simp only [Int.reducePow]; omega) (by omega) (by simp only [Int.reducePow]; omega) (by omega),
    or_sum (n / 2147483648 % 2 * 4096 + n / 128 % 2 * 2048) (n / 33554432 % 64 * 32) 11 (by omega) (by omega) (by simp only [Int.reducePow]; omega) (by omega) (by simp only [Int.reducePow]; omega) (by omega),
    or_sum (n / 2147483648 % 2 * 4096 + n / 128 % 2 * 2048 + n / 33554432 % 64 * 32) (n / 256 % 16 * 2) 5 (by omega) (by omega) (by simp only [Int.reducePow]; omega) (by omega) (by simp only [Int.reducePow]; omega) (by omega)]
theorem t5_exact (n : Int) (h0 : 0 ≤ n) (h1 : n ≤ 4294967295) : t5 n = Mc.v5 n := by
  unfold t5 Mc.v5
  rw [low (n / 33554432) 7 (by decide) 127 128 rfl rfl (by omega) (by omega), low (n / 128) 5 (by decide) 31 32 rfl rfl (by omega) (by omega)]
  rw [IntWalk.wrap64_in (n / 33554432 % 128 * 32) ⟨by omega, by omega⟩]
  rw [or_sum (n / 33554432 % 128 * 32) (n / 128 % 32) 5 (by omega) (by omega) (by simp only [Int.reducePow]; omega) (by omega) (by simp only [Int.reducePow]; omega) (by omega)]
theorem t3_exact (n : Int) (h0 : 0 ≤ n) (h1 : n ≤ 4294967295) : t3 n = n / 1048576 % 4096 := by
  unfold t3
  rw [low (n / 1048576) 12 (by decide) 4095 4096 rfl rfl (by omega) (by omega)]

theorem below_sgn (t v d h : Int) (e : t = v) (hl : t < h) : t = if v < h then v else v - d := by rw [e] at hl ⊢; rw [if_pos hl]
theorem above_sgn (t v d h : Int) (e : t = v) (hl : h ≤ t) (h0 : 0 ≤ t) (hd : 0 ≤ d ∧ d ≤ 4294967296) (h1 : t ≤ 4294967296) : wrap64 (t - d) = if v < h then v else v - d := by
  rw [IntWalk.wrap64_in _ ⟨by omega, by omega⟩, ← e, if_neg (by omega)]

set_option maxHeartbeats 1000000 in
theorem takeNumber_exact (form n : Int) (w : World) (h0 : 0 ≤ n) (h1 : n ≤ 4294967295) :
    Calls Tryd.prog 61 #[.int .i64 form, .int .i64 n] w fun e w' => e = .returned (.int .i64 (Mc.numF form n)) ∧ w' = w := by
  by_cases e1 : form = 1
  · subst e1
    have E := hid (show bits .and .i64 (n / 4096) 1048575 = Mc.numF 1 n by rw [low (n / 4096) 20 (by decide) 1048575 1048576 rfl rfl (by omega) (by omega)]; rfl)
    go_enter Tryd.func61, Tryd.ntmps61
    go_wp2
    go_ret
    exact ⟨ret_int E.out, rfl⟩
  by_cases e2 : form = 2
  · subst e2
    have T := hid (t2_spec n h0 h1)
    have X := hid (t2_exact n h0 h1)
    have NF := hid (show Mc.numF 2 n = if Mc.v2 n < 1048576 then Mc.v2 n else Mc.v2 n - 2097152 from rfl)
    clear e1
    go_enter Tryd.func61, Tryd.ntmps61
    go_wp2
    · go_ret
      refine ⟨ret_int ?_, rfl⟩
      rw [NF.out]
      exact below_sgn (t2 n) _ 2097152 1048576 X.out (by assumption)
    · go_ret
      refine ⟨ret_int ?_, rfl⟩
      rw [NF.out]
      exact above_sgn (t2 n) _ 2097152 1048576 X.out (by assumption) T.out.1 (by decide) (by have := T.out.2.1; omega)
  by_cases e3 : form = 3
  · subst e3
    have T := hid (t3_spec n h0 h1)
    have X := hid (t3_exact n h0 h1)
    have NF := hid (show Mc.numF 3 n = if n / 1048576 % 4096 < 2048 then n / 1048576 % 4096 else n / 1048576 % 4096 - 4096 from rfl)
    clear e1 e2
    go_enter Tryd.func61, Tryd.ntmps61
    go_wp2
    · go_ret
      refine ⟨ret_int ?_, rfl⟩
      rw [NF.out]
      exact below_sgn (t3 n) _ 4096 2048 X.out (by assumption)
    · go_ret
      refine ⟨ret_int ?_, rfl⟩
      rw [NF.out]
      exact above_sgn (t3 n) _ 4096 2048 X.out (by assumption) T.out.1 (by decide) (by have := T.out.2.1; omega)
  by_cases e4 : form = 4
  · subst e4
    have T := hid (t4_spec n h0 h1)
    have X := hid (t4_exact n h0 h1)
    have NF := hid (show Mc.numF 4 n = if Mc.v4 n < 4096 then Mc.v4 n else Mc.v4 n - 8192 from rfl)
    clear e1 e2 e3
    go_enter Tryd.func61, Tryd.ntmps61
    go_wp2
    · go_ret
      refine ⟨ret_int ?_, rfl⟩
      rw [NF.out]
      exact below_sgn (t4 n) _ 8192 4096 X.out (by assumption)
    · go_ret
      refine ⟨ret_int ?_, rfl⟩
      rw [NF.out]
      exact above_sgn (t4 n) _ 8192 4096 X.out (by assumption) T.out.1 (by decide) (by have := T.out.2.1; omega)
  by_cases e5 : form = 5
  · subst e5
    have T := hid (t5_spec n h0 h1)
    have X := hid (t5_exact n h0 h1)
    have NF := hid (show Mc.numF 5 n = if Mc.v5 n < 2048 then Mc.v5 n else Mc.v5 n - 4096 from rfl)
    clear e1 e2 e3 e4
    go_enter Tryd.func61, Tryd.ntmps61
    go_wp2
    · go_ret
      refine ⟨ret_int ?_, rfl⟩
      rw [NF.out]
      exact below_sgn (t5 n) _ 4096 2048 X.out (by assumption)
    · go_ret
      refine ⟨ret_int ?_, rfl⟩
      rw [NF.out]
      exact above_sgn (t5 n) _ 4096 2048 X.out (by assumption) T.out.1 (by decide) (by have := T.out.2.1; omega)
  have NF := hid (show Mc.numF form n = 0 by unfold Mc.numF; rw [if_neg e1, if_neg e2, if_neg e3, if_neg e4, if_neg e5])
  have d1 : (form == 1) = false := by simpa using e1
  have d2 : (form == 2) = false := by simpa using e2
  have d3 : (form == 3) = false := by simpa using e3
  have d4 : (form == 4) = false := by simpa using e4
  have d5 : (form == 5) = false := by simpa using e5
  clear e1 e2 e3 e4 e5
  go_enter Tryd.func61, Tryd.ntmps61
  go_wp2
  go_ret
  exact ⟨ret_int NF.out.symm, rfl⟩

end Go.Proofs.YtaiplongpjimnaaDoor

namespace Go.Proofs.YtaiplongpjimnaaDoor
open Go.RowKit

set_option maxHeartbeats 2000000 in
theorem fields_exact (op form n : Int) (w : World) (h0 : 0 ≤ n) (h1 : n ≤ 4294967295) (hf : 1 ≤ form ∧ form ≤ 7) :
    Calls Tryd.prog 50 #[.int .i64 op, .int .i64 form, .int .i64 n] w fun e w' => e = .returned (insV op (rdF form n) (rs1F form n) (rs2F form n) (Mc.numF form n)) ∧ w.grownBy w' none := by
  have cT := hid (fun W => takeNumber_exact form n W h0 h1)
  generalize Mc.numF form n = m at *
  have G1 := hid (fun o : Obj => World.grownBy_alloc w o none)
  have G2 := hid (fun o o' : Obj => World.grownBy_alloc (w.alloc o) o' none)
  rcases (show form = 1 ∨ form = 2 ∨ form = 3 ∨ form = 4 ∨ form = 5 ∨ form = 6 ∨ form = 7 from by omega) with rfl | rfl | rfl | rfl | rfl | rfl | rfl
  all_goals
    clear hf
    go_enter Tryd.func50, Tryd.ntmps50
    go_wp2_with fail
    refine (cT.out _).mono ?_
    rintro e w1 ⟨rfl, rfl⟩
    clear cT
    go_wp2
    refine bodyPost_ret (v := insV op (rdF _ n) (rs1F _ n) (rs2F _ n) m) ?_ rfl ⟨rfl, grown_trans (G1.out _) (G2.out _ _)⟩
    simp [results, Tryd.results50, go_sem, insV, rdF, rs1F, rs2F]

namespace Mc
instance (k : Nat) (n : Int) : Decidable (Is k n) := by unfold Is; infer_instance
/-- which instruction a word is; 0: none -/
def opOf (n : Int) : Nat := ((List.range 26).find? fun k => decide (1 ≤ k) && decide (Is k n)).getD 0
theorem opOf_at (n : Int) (k : Nat) (h1 : 1 ≤ k) (h2 : k ≤ 25) (hI : Is k n) (hall : ∀ j, 1 ≤ j → j < k → ¬ Is j n) : opOf n = k := by
  unfold opOf
  have h : (List.range 26).find? (fun k => decide (1 ≤ k) && decide (Is k n)) = some k := by
    rw [List.find?_eq_some_iff_append]
    refine ⟨by simp [h1, hI], List.range k, (List.range (25 - k)).map (k + 1 + ·), ?_, ?_⟩
    · have e : 26 = k + (1 + (25 - k)) := by omega
      rw [e, List.range_add, List.range_add]
      simp [Nat.add_assoc]
    · intro j hj
      have hj' := List.mem_range.1 hj
      by_cases hj1 : 1 ≤ j
      · simp [hj1, hall j hj1 hj']
      · simp [hj1]
  rw [h]
  rfl
theorem opOf_none (n : Int) (hall : ∀ j, 1 ≤ j → j ≤ 25 → ¬ Is j n) : opOf n = 0 := by
  unfold opOf
  have h : (List.range 26).find? (fun k => decide (1 ≤ k) && decide (Is k n)) = none := by
    rw [List.find?_eq_none]
    intro j hj
    have hj' := List.mem_range.1 hj
    by_cases hj1 : 1 ≤ j
    · simp [hj1, hall j hj1 (by omega)]
    · simp [hj1]
  rw [h]
  rfl
def formOf (n : Int) : Int := formL.getD (opOf n) 0
end Mc

set_option maxHeartbeats 4000000 in
theorem decode_exact (n : Int) (w : World) (ht : Tabs w) (h0 : 0 ≤ n) (h1 : n ≤ 4294967295) :
    Calls Tryd.prog 39 #[.int .i64 n] w fun e w' => e = .returned (insV (Mc.opOf n) (rdF (Mc.formOf n) n) (rs1F (Mc.formOf n) n) (rs2F (Mc.formOf n) n) (Mc.numF (Mc.formOf n) n)) ∧ w.grownBy w' none := by
  have HT := hid ht
  clear ht
  obtain ⟨R, hR⟩ : ∃ R, R = insV (Mc.opOf n) (rdF (Mc.formOf n) n) (rs1F (Mc.formOf n) n) (rs2F (Mc.formOf n) n) (Mc.numF (Mc.formOf n) n) := ⟨_, rfl⟩
  rw [← hR]
  have HR := hid hR
  clear hR
  have G := hid (fun o : Obj => World.grownBy_alloc w o none)
  go_enter Tryd.func39, Tryd.ntmps39
  go_wp2
  go_loopw [3] (fun i wr => ∃ k : Nat, 1 ≤ k ∧ k ≤ 26 ∧ i = .int .i64 k ∧ (∀ j, 1 ≤ j → j < k → ¬ Is j n) ∧ w.grownBy wr none ∧ BlkAt wr w.heap.size #[.int .i64 0, .int .i64 0, .int .i64 0, .int .i64 0, .int .i64 0] 86) (fun i _ => 26 - (intOf i).toNat)
  case atStart => exact ⟨1, Nat.le_refl _, by omega, rfl, fun j h1 h2 => by omega, G.out _, BlkAt.new _ _ _⟩
  case round =>
    obtain ⟨k, hk1, hk2, rfl, hall, hgr, hbk⟩ := hrel
    have HA := hid hall
    have HG := hid hgr
    have HB := hid hbk
    clear hall hgr hbk
    by_cases hlt : k ≤ 25
    · have T := HT.out.grown HG.out
      have cf := T.form k (by omega)
      have cx := T.fix k (by omega)
      have hfr := form_range k hk1 hlt
      clear T
      have IsE := hid (show Is k n ↔ bits .and .i64 n (maskF (formL.getD k 0)) = fixedL.getD k 0 from Iff.rfl)
      generalize hF : formL.getD k 0 = f at *
      generalize fixedL.getD k 0 = x at *
      have HF := hid hF
      clear hF
      have cM := hid (fun W => fixedMask_any f W hfr)
      have g1 : (1 : Int) ≤ (k : Int) := by omega
      have g2 : (k : Int) ≤ 25 := by omega
      by_cases hI : Is k n
      · have d : (bits .and .i64 n (maskF f) == x) = true := beq_iff_eq.2 (IsE.out.1 hI)
        have HI := hid hI
        have cF := hid (fun W => fields_exact k f n W h0 h1 hfr)
        clear hI
        go_wp2
        go_quiet ((go_at_call 49; exact Calls.quiet_of_same (cM.out _)))
        go_wp2_with fail
        refine (cF.out _).mono ?_
        rintro e w2 ⟨rfl, hq⟩
        have OP := hid (Mc.opOf_at n k hk1 hlt HI.out HA.out)
        have FO := hid (show Mc.formOf n = f by unfold Mc.formOf; rw [OP.out]; exact HF.out)
        unfold insV
        have B2 := hid ((HB.out.drewN nq).grown hq (by simp))
        have G2 := hid (grown_trans (grown_drewN HG.out nq) hq)
        have k0 := B2.out.cell 0
        have k1 := B2.out.cell 1
        have k2 := B2.out.cell 2
        have k3 := B2.out.cell 3
        have k4 := B2.out.cell 4
        have f0 := B2.out.free 0
        have f1 := B2.out.free 1
        have f2 := B2.out.free 2
        have f3 := B2.out.free 3
        have f4 := B2.out.free 4
        clear hq
        have RE := hid (show R = insV k (rdF f n) (rs1F f n) (rs2F f n) (Mc.numF f n) by rw [HR.out, OP.out, FO.out])
        generalize rdF f n = rd at *
        generalize rs1F f n = r1 at *
        generalize rs2F f n = r2 at *
        generalize Mc.numF f n = m at *
        go_wp2
        have F := put5 G2.out B2.out (.int .i64 k) (.int .i64 rd) (.int .i64 r1) (.int .i64 r2) (.int .i64 m)
        have e0 := F.1.cell 0
        have e1 := F.1.cell 1
        have e2 := F.1.cell 2
        have e3 := F.1.cell 3
        have e4 := F.1.cell 4
        refine bodyPost_ret (v := R) ?_ rfl ⟨rfl, F.2⟩
        rw [RE.out]
        clear F k0 k1 k2 k3 k4 f0 f1 f2 f3 f4 B2 G2
        generalize World.setCell _ _ _ = WF at *
        simp [results, Tryd.results39, go_sem, insV, e0, e1, e2, e3, e4]
      · have d : (bits .and .i64 n (maskF f) == x) = false := beq_eq_false_iff_ne.2 (fun h => hI (IsE.out.2 h))
        have HI := hid hI
        clear hI
        go_wp2
        go_quiet ((go_at_call 49; exact Calls.quiet_of_same (cM.out _)))
        go_wp2
        go_roundw
        case rel => exact ⟨k + 1, by omega, by omega, by go_num, fun j hj hjk => (Nat.lt_succ_iff_lt_or_eq.1 hjk).elim (fun h => HA.out j hj h) (fun h => by subst h; exact HI.out), grown_drewN HG.out _, HB.out.drewN _⟩
        case measure => simp [intOf]; omega
    · have k0 := HB.out.cell 0
      have k1 := HB.out.cell 1
      have k2 := HB.out.cell 2
      have k3 := HB.out.cell 3
      have k4 := HB.out.cell 4
      have f0 := HB.out.free 0
      have f1 := HB.out.free 1
      have f2 := HB.out.free 2
      have f3 := HB.out.free 3
      have f4 := HB.out.free 4
      go_wp2
      have F := put5 HG.out HB.out (.int .i64 0) (.int .i64 0) (.int .i64 0) (.int .i64 0) (.int .i64 0)
      have e0 := F.1.cell 0
      have e1 := F.1.cell 1
      have e2 := F.1.cell 2
      have e3 := F.1.cell 3
      have e4 := F.1.cell 4
      have OP := Mc.opOf_none n (fun j h1 h2 => HA.out j h1 (by omega))
      have FO : Mc.formOf n = 0 := by unfold Mc.formOf; rw [OP]; rfl
      have RE : R = insV 0 0 0 0 0 := by rw [HR.out, OP, FO]; rfl
      refine bodyPost_ret (v := R) ?_ rfl ⟨rfl, F.2⟩
      rw [RE]
      clear F k0 k1 k2 k3 k4 f0 f1 f2 f3 f4
      generalize World.setCell _ _ _ = WF at *
      simp [results, Tryd.results39, go_sem, insV, e0, e1, e2, e3, e4]

end Go.Proofs.YtaiplongpjimnaaDoor

namespace Go.Proofs.YtaiplongpjimnaaDoor
open Go.RowKit

/-- the number that n bytes from p on say; noughts stand for what is not there -/
def atL (l : List UInt8) (p : Nat) : Nat → Int
  | 0 => 0
  | n + 1 => ((l.getD p 0).toNat : Int) + 256 * atL l (p + 1) n

theorem atL_range (l : List UInt8) (p n : Nat) : 0 ≤ atL l p n ∧ atL l p n < (256 : Int) ^ n := by
  induction n generalizing p with
  | zero => simp [atL]
  | succ n ih =>
    have h := ih (p + 1)
    have hb : (l.getD p 0).toNat < 256 := (l.getD p 0).toNat_lt
    simp only [atL, Int.pow_succ]
    omega

theorem sl_getD (s : ByteArray) (k : Nat) (h : k < s.size) : ((sl s).getD k 0) = s[k] := by
  have h' : k < (sl s).length := by rw [sl_length]; exact h
  rw [List.getD_eq_getElem?_getD, List.getElem?_eq_getElem h']
  rfl
theorem sl_getD_none (s : ByteArray) (k : Nat) (h : s.size ≤ k) : ((sl s).getD k 0) = 0 := by
  rw [List.getD_eq_getElem?_getD, List.getElem?_eq_none (by rw [sl_length]; exact h)]
  rfl

set_option maxHeartbeats 1000000 in
theorem at_any (s : ByteArray) (p n : Nat) (w : World) (hs : s.size ≤ 1048576) (hp : p ≤ 16777216) (hn : n ≤ 4) :
    Calls Tryd.prog 12 #[.string s, .int .i64 p, .int .i64 n] w fun e w' => e = .returned (.int .i64 (atL (sl s) p n)) ∧ w' = w := by
  go_enter Tryd.func12, Tryd.ntmps12
  go_wp2
  go_loop [7, 8] (fun v i => ∃ k : Nat, k ≤ n ∧ i = .int .i64 ((k : Int) - 1) ∧ v = .int .i64 (atL (sl s) (p + k) (n - k))) (fun _ i => (intOf i + 1).toNat)
  case atStart => exact ⟨n, Nat.le_refl _, rfl, by simp [atL]⟩
  case round =>
    obtain ⟨k, hk, rfl, rfl⟩ := hrel
    have hr := atL_range (sl s) (p + k) (n - k)
    have hpw := pow_le4 (n - k) (by omega)
    cases k with
    | zero =>
      go_wp2
      go_ret
      exact ⟨rfl, rfl⟩
    | succ m =>
      have e1 : ((m + 1 : Nat) : Int) - 1 = (m : Int) := by omega
      rw [e1]
      have hr2 : atL (sl s) (p + (m + 1)) (n - (m + 1)) < 4294967296 := by omega
      have hr0 := hr.1
      have HS := hid (show atL (sl s) (p + m) (n - m) = ((sl s).getD (p + m) 0).toNat + 256 * atL (sl s) (p + (m + 1)) (n - (m + 1)) from by
        have e : n - m = (n - (m + 1)) + 1 := by omega
        rw [e]
        rfl)
      generalize atL (sl s) (p + (m + 1)) (n - (m + 1)) = v at *
      have d0 : decide ((0 : Int) ≤ (p : Int) + (m : Int)) = true := by simp; omega
      clear hr hpw e1
      by_cases hlt : p + m < s.size
      · have g1 : (p : Int) + (m : Int) < (s.size : Int) := by omega
        have HB := hid (sl_getD s (p + m) hlt)
        go_wp2
        go_round
        case rel =>
          refine ⟨m, by omega, rfl, ?_⟩
          have hb : ((s[p + m]'hlt).toNat : Int) < 256 := by have := (s[p + m]'hlt).toNat_lt; omega
          rw [HS.out, HB.out, IntWalk.wrap64_in ((s[p + m]'hlt).toNat : Int) ⟨by omega, by omega⟩, IntWalk.wrap64_in _ ⟨by omega, by omega⟩, Int.add_comm]
        case measure => simp [intOf]
      · have g1 : (s.size : Int) ≤ (p : Int) + (m : Int) := by omega
        have HB := hid (sl_getD_none s (p + m) (by omega))
        go_wp2
        go_round
        case rel => exact ⟨m, by omega, rfl, by rw [HS.out, HB.out]; simp⟩
        case measure => simp [intOf]

theorem at_lit (s : ByteArray) (p n : Nat) (mp mn : Int) (hmp : mp = (p : Int)) (hmn : mn = (n : Int)) (w : World) (hs : s.size ≤ 1048576) (hp : p ≤ 16777216) (hn : n ≤ 4) :
    Calls Tryd.prog 12 #[.string s, .int .i64 mp, .int .i64 mn] w fun e w' => e = .returned (.int .i64 (atL (sl s) p n)) ∧ w' = w := by
  subst hmp hmn; exact at_any s p n w hs hp hn

end Go.Proofs.YtaiplongpjimnaaDoor
