/- Walks over package wire's Reader. -/
/- Walks over package object's readers. -/
/- Walks over package object's readers: symbols, relocations. -/
/- Walks over package object's readers: the lists of symbols and of relocations. -/
import Derived.Test.YtmhbgnlfdiahpaaGreatDoorRows
import Derived.Test.YtmhbgnlfdiahpaaGreatDoorG01
import Derived.WalkKit
import Derived.WalkSpells
import Derived.WalkLawsBesides
import Derived.Deep.QuietTactic
import Derived.BigQuiet
import Derived.Lib.Strings
import Derived.Deep.AppendLies
namespace Go.Proofs.YtmhbgnlfdiahpaaGreatDoor
open Go.RowKit

def sl (s : ByteArray) : List UInt8 := s.data.toList
def bs (l : List UInt8) : ByteArray := ⟨l.toArray⟩

theorem sl_length (s : ByteArray) : (sl s).length = s.size := by unfold sl; rw [Array.length_toList]; rfl
theorem bs_size (l : List UInt8) : (bs l).size = l.length := by simp [bs, ByteArray.size]
theorem sl_bs (l : List UInt8) : sl (bs l) = l := by simp [sl, bs]
theorem bs_sl (s : ByteArray) : bs (sl s) = s := by simp [sl, bs]
theorem extract_bs (s : ByteArray) (a b : Nat) : s.extract a b = bs (((sl s).drop a).take (b - a)) := Lib.extract_eq s a b
theorem ret_int {k : IntKind} {a b : Int} (h : a = b) : Ending.returned (.int k a) = .returned (.int k b) := by rw [h]
theorem ret_str {a b : ByteArray} (h : a = b) : Ending.returned (.string a) = .returned (.string b) := by rw [h]

theorem hid {p : Prop} (h : p) : Hid p := h

/-- grown twice -/
theorem grown_trans {a b c : World} {row : Option Nat} (h : a.grownBy b row) (k : b.grownBy c row) : a.grownBy c row :=
  ⟨k.os.trans h.os, k.tape.trans h.tape, k.output.trans h.output, Nat.le_trans h.size k.size, fun i hi hr => (k.block i (Nat.lt_of_lt_of_le hi h.size) hr).trans (h.block i hi hr)⟩
theorem grown_any {a b : World} {row : Option Nat} (h : a.grownBy b none) : a.grownBy b row := ⟨h.os, h.tape, h.output, h.size, fun i hi _ => h.block i hi (by simp)⟩
theorem grown_drewN {a b : World} {row : Option Nat} (h : a.grownBy b row) (n : Nat) : a.grownBy (b.drewN n) row := by
  induction n with
  | zero => exact h
  | succ n ih => exact ⟨ih.os, ih.tape, ih.output, ih.size, ih.block⟩
theorem grown_below {a b : World} {row : Option Nat} (h : a.grownBy b row) {B : Nat} (hB : B ≤ a.heap.size) (hr : ∀ k, row = some k → B ≤ k) : Below B a b :=
  (Below.refl B a).grown h hB hr
theorem grown_set (w : World) (b o : Nat) (v : Value) : w.grownBy (w.setCell ⟨b, o, none⟩ v) (some b) :=
  ⟨rfl, rfl, rfl, by simp [World.setCell], fun k _ hr => Below.heap_setCell _ _ _ _ (by simpa using hr)⟩
theorem heap_drewN (w : World) (n : Nat) : (w.drewN n).heap = w.heap := by
  induction n with
  | zero => rfl
  | succ n ih => exact ih

/-- a Reader lies in block b: its bytes, where it stands, whether it was short -/
def RdAt (w : World) (b : Nat) (s : ByteArray) (p : Nat) (sh : Bool) : Prop :=
  w.heap[b]? = some (.cells #[.string s, .int .i64 p, .bool sh] 59 (0, 0))

theorem RdAt.lt {w : World} {b : Nat} {s : ByteArray} {p : Nat} {sh : Bool} (h : RdAt w b s p sh) : b < w.heap.size := (Array.getElem?_eq_some_iff.1 h).1
theorem RdAt.c0 {w : World} {b : Nat} {s : ByteArray} {p : Nat} {sh : Bool} (h : RdAt w b s p sh) : w.cell? ⟨b, 0, none⟩ = some (.string s) := by simp [World.cell?, show w.heap[b]? = _ from h]
theorem RdAt.c1 {w : World} {b : Nat} {s : ByteArray} {p : Nat} {sh : Bool} (h : RdAt w b s p sh) : w.cell? ⟨b, 1, none⟩ = some (.int .i64 p) := by simp [World.cell?, show w.heap[b]? = _ from h]
theorem RdAt.c2 {w : World} {b : Nat} {s : ByteArray} {p : Nat} {sh : Bool} (h : RdAt w b s p sh) : w.cell? ⟨b, 2, none⟩ = some (.bool sh) := by simp [World.cell?, show w.heap[b]? = _ from h]
theorem RdAt.free {w : World} {b : Nat} {s : ByteArray} {p : Nat} {sh : Bool} (h : RdAt w b s p sh) (o : Nat) : w.frozen? ⟨b, o, none⟩ = false := by simp [World.frozen?, show w.heap[b]? = _ from h]
theorem RdAt.grown {w w' : World} {b : Nat} {s : ByteArray} {p : Nat} {sh : Bool} (h : RdAt w b s p sh) {row : Option Nat} (hg : w.grownBy w' row) (hne : some b ≠ row) : RdAt w' b s p sh :=
  (hg.block b h.lt hne).trans h
theorem RdAt.drewN {w : World} {b : Nat} {s : ByteArray} {p : Nat} {sh : Bool} (h : RdAt w b s p sh) (n : Nat) : RdAt (w.drewN n) b s p sh := by
  unfold RdAt; rw [heap_drewN]; exact h
theorem heap_set_same {w : World} {b o : Nat} {cs : Array Value} {t : TypeId} (h : w.heap[b]? = some (.cells cs t (0, 0))) (v : Value) :
    (w.setCell ⟨b, o, none⟩ v).heap[b]? = some (.cells (cs.setIfInBounds o v) t (0, 0)) := by
  simp [World.setCell, Array.getElem?_modify, h]
theorem RdAt.set1 {w : World} {b : Nat} {s : ByteArray} {p : Nat} {sh : Bool} (h : RdAt w b s p sh) (q : Nat) : RdAt (w.setCell ⟨b, 1, none⟩ (.int .i64 q)) b s q sh := by
  have := heap_set_same (o := 1) h (.int .i64 q)
  simpa [RdAt] using this
theorem RdAt.set2 {w : World} {b : Nat} {s : ByteArray} {p : Nat} {sh : Bool} (h : RdAt w b s p sh) (q : Bool) : RdAt (w.setCell ⟨b, 2, none⟩ (.bool q)) b s p q := by
  have := heap_set_same (o := 2) h (.bool q)
  simpa [RdAt] using this

set_option maxHeartbeats 400000 in
theorem short_any (b : Nat) (s : ByteArray) (p : Nat) (sh : Bool) (w : World) (h : RdAt w b s p sh) :
    Calls Tryz.prog 64 #[.pointer (some ⟨b, 0, none⟩)] w fun e w' => e = .returned (.bool sh) ∧ w' = w := by
  have h2 := h.c2
  clear h
  go_enter Tryz.func64, Tryz.ntmps64
  go_wp2
  go_ret
  exact ⟨rfl, rfl⟩

set_option maxHeartbeats 400000 in
theorem done_any (b : Nat) (s : ByteArray) (p : Nat) (sh : Bool) (w : World) (h : RdAt w b s p sh) :
    Calls Tryz.prog 23 #[.pointer (some ⟨b, 0, none⟩)] w fun e w' => e = .returned (.bool (!sh && decide (p = s.size))) ∧ ∃ k, w' = w.drewN k := by
  have h0 := h.c0
  have h1 := h.c1
  have h2 := h.c2
  clear h
  cases sh
  · go_enter Tryz.func23, Tryz.ntmps23
    go_wp2
    go_quiet (fail)
    go_wp2
    go_ret
    refine ⟨?_, _, rfl⟩
    have : ((p : Int) == (s.size : Int)) = decide (p = s.size) := by rw [Bool.eq_iff_iff]; simp; omega
    simp [this]
  · go_enter Tryz.func23, Tryz.ntmps23
    go_wp2
    go_quiet (fail)
    go_wp2
    go_ret
    exact ⟨rfl, _, rfl⟩

set_option maxHeartbeats 400000 in
theorem text_yes (b : Nat) (s : ByteArray) (p n : Nat) (sh : Bool) (w : World) (h : RdAt w b s p sh)
    (hs : s.size ≤ 1048576) (hp : p ≤ s.size) (hn : n ≤ s.size - p) :
    Calls Tryz.prog 31 #[.pointer (some ⟨b, 0, none⟩), .int .i64 n] w fun e w' => e = .returned (.string (bs (Lk.rdText (sl s) n (p, sh)).1)) ∧ RdAt w' b s (Lk.rdText (sl s) n (p, sh)).2.1 (Lk.rdText (sl s) n (p, sh)).2.2 ∧ w.grownBy w' (some b) := by
  have e1 : Lk.rdText (sl s) n (p, sh) = (((sl s).drop p).take n, (p + n, sh)) := by
    unfold Lk.rdText; rw [if_pos (by rw [sl_length]; exact hn)]
  rw [e1]
  clear e1
  have h0 := h.c0
  have h1 := h.c1
  have f1 := h.free 1
  have R : Hid (RdAt w b s p sh) := h
  clear h
  have g1 : (0 : Int) ≤ n := by omega
  have g2 : (n : Int) ≤ (s.size : Int) - p := by omega
  have g3 : (p : Int) + n ≤ s.size := by omega
  have hd : decide ((n : Int) < 0) = false := by simp
  go_enter Tryz.func31, Tryz.ntmps31
  go_wp2
  go_quiet (fail)
  go_wp2
  go_quiet (fail)
  go_wp2
  go_ret
  refine ⟨ret_str ?_, ?_, ?_⟩
  · rw [extract_bs, Nat.add_sub_cancel_left]
  · exact ((R.out.drewN _).set1 (p + n)).drewN _
  · exact grown_drewN (grown_trans (grown_drewN (World.grownBy.refl _ _) _) (grown_set _ _ _ _)) _

set_option maxHeartbeats 400000 in
theorem text_no (b : Nat) (s : ByteArray) (p n : Nat) (sh : Bool) (w : World) (h : RdAt w b s p sh)
    (_hs : s.size ≤ 1048576) (_hp : p ≤ s.size) (_hm : n ≤ 1048576) (hn : s.size - p < n) :
    Calls Tryz.prog 31 #[.pointer (some ⟨b, 0, none⟩), .int .i64 n] w fun e w' => e = .returned (.string (bs (Lk.rdText (sl s) n (p, sh)).1)) ∧ RdAt w' b s (Lk.rdText (sl s) n (p, sh)).2.1 (Lk.rdText (sl s) n (p, sh)).2.2 ∧ w.grownBy w' (some b) := by
  have e1 : Lk.rdText (sl s) n (p, sh) = ([], (p, true)) := by
    unfold Lk.rdText; rw [if_neg (by rw [sl_length]; omega)]
  rw [e1]
  clear e1
  have h0 := h.c0
  have h1 := h.c1
  have h2 := h.c2
  have f2 := h.free 2
  have R : Hid (RdAt w b s p sh) := h
  clear h
  have g1 : (0 : Int) ≤ n := by omega
  have g2 : (s.size : Int) - p < n := by omega
  have hd : decide ((n : Int) < 0) = false := by simp
  go_enter Tryz.func31, Tryz.ntmps31
  go_wp2
  go_quiet (fail)
  go_wp2
  go_ret
  refine ⟨rfl, ?_, ?_⟩
  · exact (R.out.drewN _).set2 true
  · exact grown_trans (grown_drewN (World.grownBy.refl _ _) _) (grown_set _ _ _ _)

theorem text_any (b : Nat) (s : ByteArray) (p n : Nat) (sh : Bool) (w : World) (h : RdAt w b s p sh)
    (hs : s.size ≤ 1048576) (hp : p ≤ s.size) (hm : n ≤ 1048576) :
    Calls Tryz.prog 31 #[.pointer (some ⟨b, 0, none⟩), .int .i64 n] w fun e w' => e = .returned (.string (bs (Lk.rdText (sl s) n (p, sh)).1)) ∧ RdAt w' b s (Lk.rdText (sl s) n (p, sh)).2.1 (Lk.rdText (sl s) n (p, sh)).2.2 ∧ w.grownBy w' (some b) := by
  by_cases hn : n ≤ s.size - p
  · exact text_yes b s p n sh w h hs hp hn
  · exact text_no b s p n sh w h hs hp hm (by omega)

theorem num_take_succ (l : List UInt8) (k : Nat) (hk : k < l.length) : Lk.num (l.take (k + 1)) = Lk.num (l.take k) + (l[k].toNat : Int) * (256 : Int) ^ k := by
  rw [List.take_succ_eq_append_getElem hk, Lk.num_append, List.length_take_of_le (by omega)]
  simp [Lk.num, Int.mul_comm]

theorem bs_get (l : List UInt8) (k : Nat) (h : k < (bs l).size) : (bs l)[k] = l[k]'(by rw [bs_size] at h; exact h) := rfl

theorem pow_le4 (k : Nat) (h : k ≤ 4) : 1 ≤ (256 : Int) ^ k ∧ (256 : Int) ^ k ≤ 4294967296 := by
  rcases (show k = 0 ∨ k = 1 ∨ k = 2 ∨ k = 3 ∨ k = 4 from by omega) with rfl | rfl | rfl | rfl | rfl <;> decide

theorem num_step (part : List UInt8) (k : Nat) (hk : k < part.length) (h4 : part.length ≤ 4) (h' : k < (bs part).size) :
    wrap64 (Lk.num (part.take k) + wrap64 (wrap64 (((bs part)[k]'h').toNat : Int) * (256 : Int) ^ k)) = Lk.num (part.take (k + 1)) := by
  have b1 := Lk.num_nonneg (part.take k)
  have b2 := Lk.num_lt (part.take k)
  rw [List.length_take_of_le (by omega)] at b2
  have b3 := pow_le4 k (by omega)
  have hts := num_take_succ part k hk
  have e0 : (((bs part)[k]'h').toNat : Int) = ((part[k]'hk).toNat : Int) := rfl
  have hb : ((part[k]'hk).toNat : Int) < 256 := by have := (part[k]'hk).toNat_lt; omega
  rw [e0]
  generalize hc : ((part[k]'hk).toNat : Int) = c at hb hts
  have hb0 : (0 : Int) ≤ c := by omega
  have m1 : c * (256 : Int) ^ k ≤ 255 * 4294967296 := Int.mul_le_mul (by omega) b3.2 (by omega) (by omega)
  have m0 : (0 : Int) ≤ c * (256 : Int) ^ k := Int.mul_nonneg hb0 (by omega)
  rw [IntWalk.wrap64_in c ⟨by omega, by omega⟩, IntWalk.wrap64_in (c * (256 : Int) ^ k) ⟨by omega, by omega⟩, IntWalk.wrap64_in _ ⟨by omega, by omega⟩, hts]

set_option maxHeartbeats 1000000 in
theorem number_any (b : Nat) (s : ByteArray) (p n : Nat) (sh : Bool) (w : World) (h : RdAt w b s p sh)
    (hs : s.size ≤ 1048576) (hp : p ≤ s.size) (hm : n ≤ 4) :
    Calls Tryz.prog 32 #[.pointer (some ⟨b, 0, none⟩), .int .i64 n] w fun e w' => e = .returned (.int .i64 (Lk.rdNum (sl s) n (p, sh)).1) ∧ RdAt w' b s (Lk.rdNum (sl s) n (p, sh)).2.1 (Lk.rdNum (sl s) n (p, sh)).2.2 ∧ w.grownBy w' (some b) := by
  have c := text_any b s p n sh w h hs hp (by omega)
  unfold Lk.rdNum
  have hl : (Lk.rdText (sl s) n (p, sh)).1.length ≤ 4 := by
    unfold Lk.rdText
    split
    · simp; omega
    · simp
  generalize Lk.rdText (sl s) n (p, sh) = r at c hl
  obtain ⟨part, st⟩ := r
  simp only at c hl ⊢
  clear h
  have C := hid c
  clear c
  go_enter Tryz.func32, Tryz.ntmps32
  go_wp2_with fail
  refine C.out.mono ?_
  rintro e w' ⟨rfl, hr, hg⟩
  have R : Hid (RdAt w' b s st.1 st.2 ∧ w.grownBy w' (some b)) := ⟨hr, hg⟩
  clear hr hg C
  go_wp2_with fail
  have hz := bs_size part
  go_loop [6, 7, 8] (fun t u i => ∃ k : Nat, k ≤ part.length ∧ i = .int .i64 k ∧ u = .int .i64 ((256 : Int) ^ k) ∧ t = .int .i64 (Lk.num (part.take k))) (fun _ _ i => part.length - (intOf i).toNat)
  case atStart => exact ⟨0, Nat.zero_le _, rfl, rfl, rfl⟩
  case round =>
    obtain ⟨k, hk, rfl, rfl, rfl⟩ := hrel
    have b1 := Lk.num_nonneg (part.take k)
    have b2 := Lk.num_lt (part.take k)
    rw [List.length_take_of_le hk] at b2
    have b3 := pow_le4 k (by omega)
    by_cases hlt : k < part.length
    · have hlt' : k < (bs part).size := by omega
      go_wp2
      go_round
      case rel => exact ⟨k + 1, by omega, by go_num, by rw [Int.pow_succ], by rw [num_step part k hlt hl]⟩
      case measure => simp [intOf]; omega
    · go_wp2
      go_ret
      exact ⟨ret_int (by rw [List.take_of_length_le (by omega)]), R.out.1, R.out.2⟩

end Go.Proofs.YtmhbgnlfdiahpaaGreatDoor

namespace Go.Proofs.YtmhbgnlfdiahpaaGreatDoor
open Go.RowKit

theorem Tryz.infoInt : (Tryz.prog.info? 3).map (fun i => (i.zero, i.size, i.bytes)) = some (some (.int .i64 0), 1, 8) := by kernel_rfl
theorem Tryz.infoSym : (Tryz.prog.info? 71).map (fun i => (i.zero, i.size, i.bytes)) = some (some (.agg #[.string ⟨#[]⟩, .int .i64 0, .int .i64 0, .int .i64 0]), 4, 40) := by kernel_rfl
theorem Tryz.infoRel : (Tryz.prog.info? 75).map (fun i => (i.zero, i.size, i.bytes)) = some (some (.agg #[.int .i64 0, .int .i64 0, .int .i64 0, .int .i64 0, .int .i64 0]), 5, 40) := by kernel_rfl

theorem rdText_le (l : List UInt8) (n : Nat) (st : Lk.St) (h : st.1 ≤ l.length) : (Lk.rdText l n st).2.1 ≤ l.length := by
  unfold Lk.rdText; split <;> simp <;> omega
theorem rdNum_le (l : List UInt8) (n : Nat) (st : Lk.St) (h : st.1 ≤ l.length) : (Lk.rdNum l n st).2.1 ≤ l.length := rdText_le l n st h

/-- grown, with what the call itself owns written besides -/
theorem grown_own {w wr w1 : World} {b : Nat} {row : Option Nat} (h : w.grownBy wr (some b)) (k : wr.grownBy w1 row) (hr : ∀ g, row = some g → w.heap.size ≤ g) : w.grownBy w1 (some b) :=
  ⟨k.os.trans h.os, k.tape.trans h.tape, k.output.trans h.output, Nat.le_trans h.size k.size, fun i hi hn =>
    (k.block i (Nat.lt_of_lt_of_le hi h.size) (fun e => by have := hr i e.symm; omega)).trans (h.block i hi hn)⟩

theorem rd_keep {w wr w1 : World} {o : Obj} {b : Nat} {s : ByteArray} {p : Nat} {sh : Bool} {row : Option Nat} (hb : b < w.heap.size) (hg : w.grownBy wr (some b)) (hr : RdAt wr b s p sh) (hk : (wr.alloc o).grownBy w1 row) (hrow : ∀ g, row = some g → w.heap.size ≤ g) :
    RdAt w1 b s p sh ∧ w.grownBy w1 (some b) := by
  have h1 : wr.grownBy (wr.alloc o) none := World.grownBy_alloc wr o none
  refine ⟨(hr.grown h1 (by simp)).grown hk (fun e => by have := hrow b e.symm; omega), ?_⟩
  exact grown_own (grown_own hg h1 (by simp)) hk hrow

theorem own_kept {w w' : World} {base : Nat} {e : TypeId} {size : Nat} {v : Value} {n : Nat} {xs : List Value} {b : Nat} (h : w.ownsRow base e size v n xs) (hb : b < base) (hg : w.grownBy w' (some b)) : w'.ownsRow base e size v n xs :=
  h.kept hg (by
    cases hv : v.ownBlock with
    | none => exact .inl rfl
    | some g => right; have := (h.lt g hv).1; simp; omega)

theorem rdNum_small (l : List UInt8) (n : Nat) (st : Lk.St) (h : n ≤ 4) : 0 ≤ (Lk.rdNum l n st).1 ∧ (Lk.rdNum l n st).1 < 4294967296 := by
  unfold Lk.rdNum
  have h1 := Lk.num_nonneg (Lk.rdText l n st).1
  have h2 := Lk.num_lt (Lk.rdText l n st).1
  have hl : (Lk.rdText l n st).1.length ≤ 4 := by
    unfold Lk.rdText
    split
    · simp; omega
    · simp
  have := pow_le4 _ hl
  exact ⟨h1, by omega⟩

set_option maxHeartbeats 1000000 in
theorem readNumbers_any (b : Nat) (s : ByteArray) (p count size : Nat) (sh : Bool) (w : World) (h : RdAt w b s p sh)
    (hs : s.size ≤ 1048576) (hp : p ≤ s.size) (hc : count ≤ 65535) (hm : size ≤ 4) :
    Calls Tryz.prog 44 #[.pointer (some ⟨b, 0, none⟩), .int .i64 count, .int .i64 size] w fun e w' => ∃ v, e = .returned v ∧
      w'.ownsRow w.heap.size 3 1 v (Lk.rdNums (sl s) size count (p, sh)).1.length ((Lk.rdNums (sl s) size count (p, sh)).1.map (Value.int .i64)) ∧
      RdAt w' b s (Lk.rdNums (sl s) size count (p, sh)).2.1 (Lk.rdNums (sl s) size count (p, sh)).2.2 ∧ w.grownBy w' (some b) := by
  obtain ⟨i0, hi, hz0, hz1, hz2⟩ := info_parts Tryz.infoInt
  have hb := h.lt
  have H := hid h
  clear h
  go_enter Tryz.func44, Tryz.ntmps44
  go_wp2_with fail
  go_loopw [7, 8] (fun v i wr => ∃ (k : Nat) (acc : List Int) (st : Lk.St), k ≤ count ∧ i = .int .i64 k ∧ acc.length = k ∧ st.1 ≤ s.size ∧
      wr.ownsRow w.heap.size 3 1 v acc.length (acc.map (Value.int .i64)) ∧ RdAt wr b s st.1 st.2 ∧ w.grownBy wr (some b) ∧
      Lk.rdNums (sl s) size count (p, sh) = (acc ++ (Lk.rdNums (sl s) size (count - k) st).1, (Lk.rdNums (sl s) size (count - k) st).2)) (fun _ i _ => count - (intOf i).toNat)
  case atStart => exact ⟨0, [], (p, sh), Nat.zero_le _, rfl, rfl, hp, World.ownsRow_nil _ _ _ _, H.out, World.grownBy.refl _ _, by simp⟩
  case round =>
    obtain ⟨k, acc, st, hk, rfl, hacc, hst, hown, hrd, hgr, heq⟩ := hrel
    have HE := hid heq
    have HA := hid hacc
    clear heq
    by_cases hlt : k < count
    · cases hsh : st.2
      · rw [hsh] at hrd
        have hsu : count - k = (count - (k + 1)) + 1 := by omega
        have hnb := rdNum_small (sl s) size (st.1, false) hm
        have hle := rdNum_le (sl s) size (st.1, false) (by rw [sl_length]; exact hst)
        have cN := hid (number_any b s st.1 size false wr hrd hs hst hm)
        have HN := hid (show Lk.rdNums (sl s) size (count - k) st = ((Lk.rdNum (sl s) size (st.1, false)).1 :: (Lk.rdNums (sl s) size (count - (k + 1)) (Lk.rdNum (sl s) size (st.1, false)).2).1, (Lk.rdNums (sl s) size (count - (k + 1)) (Lk.rdNum (sl s) size (st.1, false)).2).2) from by
          rw [hsu]
          have e : st = (st.1, false) := Prod.ext rfl hsh
          rw [e]; rfl)
        rw [sl_length] at hle
        clear hsu hsh
        generalize Lk.rdNum (sl s) size (st.1, false) = r at *
        obtain ⟨x, st'⟩ := r
        simp only at cN HN hnb hle
        have k2 := hrd.c2
        have HR := hid hrd
        clear hrd
        have hacc2 : acc.length ≤ 65535 := by omega
        go_wp2_with fail
        refine cN.out.mono ?_
        rintro e w2 ⟨rfl, hrd2, hgr2⟩
        have hown2 := own_kept hown hb hgr2
        have hgr3 := grown_trans hgr hgr2
        have HR2 := hid hrd2
        have HG2 := hid hgr3
        have hsz := hgr3.size
        clear hrd2 hgr2 hgr3 hown hgr HR k2 cN
        go_wp2_with (at_builtin; refine wpList_append_own _ rfl _ _ 52 rfl w.heap.size 3 i0 (.int .i64 0) 1 8 Tryz.underlying52 hi hz0 hz1 hz2 rfl (by decide) _ _ _ rfl (hown2.alloc _) ⟨w2.heap.size, 0, none⟩ 1 1 [.int .i64 x] rfl rfl (cell_one_new _ _ _) (by intro u hu; simp at hu; subst hu; rfl) (by unfold maxLen; omega) (by omega) (by simp; omega) ?_; intro v' w3 hown' hgrow _)
        have K := rd_keep hb HG2.out HR2.out hgrow (fun g hg => (hown2.lt g hg).1)
        clear hgrow hown2
        go_wp2
        go_roundw
        case rel =>
          refine ⟨k + 1, acc ++ [x], st', by omega, by go_num, by simp [HA.out], hle, ?_, K.1, K.2, ?_⟩
          · simpa using hown'
          · rw [HE.out, HN.out]; simp
        case measure => simp [intOf]; omega
      · rw [hsh] at hrd
        have hfin : Lk.rdNums (sl s) size count (p, sh) = (acc, (st.1, true)) := by
          have hsu : count - k = (count - (k + 1)) + 1 := by omega
          rw [HE.out, hsu]
          have e : st = (st.1, true) := Prod.ext rfl hsh
          rw [e]
          simp [Lk.rdNums]
        have HF := hid hfin
        clear hfin hsh HE
        have k2 := hrd.c2
        have HR := hid hrd
        clear hrd
        go_wp2
        go_ret
        rw [HF.out]
        exact ⟨_, rfl, hown, HR.out, hgr⟩
    · have hfin : Lk.rdNums (sl s) size count (p, sh) = (acc, st) := by
        have hsu : count - k = 0 := by omega
        rw [HE.out, hsu]
        simp [Lk.rdNums]
      have HF := hid hfin
      clear hfin HE
      have HR := hid hrd
      clear hrd
      have hd : decide ((k : Int) < (count : Int)) = false := by simp; omega
      go_wp2
      go_ret
      rw [HF.out]
      exact ⟨_, rfl, hown, HR.out, hgr⟩

end Go.Proofs.YtmhbgnlfdiahpaaGreatDoor

namespace Go.Proofs.YtmhbgnlfdiahpaaGreatDoor
open Go.RowKit

/-- a block of cells, whole -/
def BlkAt (w : World) (g : Nat) (cs : Array Value) (t : TypeId) : Prop := w.heap[g]? = some (.cells cs t (0, 0))
section
variable {w w' : World} {g : Nat} {cs : Array Value} {t : TypeId}
theorem BlkAt.lt (h : BlkAt w g cs t) : g < w.heap.size := (Array.getElem?_eq_some_iff.1 h).1
theorem BlkAt.cell (h : BlkAt w g cs t) (o : Nat) : w.cell? ⟨g, o, none⟩ = cs[o]? := by simp [World.cell?, show w.heap[g]? = _ from h]
theorem BlkAt.free (h : BlkAt w g cs t) (o : Nat) : w.frozen? ⟨g, o, none⟩ = false := by simp [World.frozen?, show w.heap[g]? = _ from h]
theorem BlkAt.set (h : BlkAt w g cs t) (o : Nat) (v : Value) : BlkAt (w.setCell ⟨g, o, none⟩ v) g (cs.setIfInBounds o v) t := heap_set_same h v
theorem BlkAt.grown (h : BlkAt w g cs t) {row : Option Nat} (hg : w.grownBy w' row) (hne : some g ≠ row) : BlkAt w' g cs t := (hg.block g h.lt hne).trans h
theorem BlkAt.below (h : BlkAt w g cs t) {B : Nat} (hg : Below B w w') (hlt : g < B) : BlkAt w' g cs t := (hg.block g hlt).trans h
theorem BlkAt.new (w : World) (cs : Array Value) (t : TypeId) : BlkAt (w.alloc (.cells cs t)) w.heap.size cs t := heap_alloc_new w _
theorem BlkAt.drewN (h : BlkAt w g cs t) (n : Nat) : BlkAt (w.drewN n) g cs t := by unfold BlkAt; rw [heap_drewN]; exact h
end

/-- the world at a call made a letter -/
theorem Calls.at_world {P : Program} {f : Nat} {args : Array Value} {w : World} {K : Ending → World → Prop} (R : World → Prop) (hR : R w) (h : ∀ w, R w → Calls P f args w K) : Calls P f args w K := h w hR

/-- a call that reads into a variable of its own: the Reader in b, the variable in block 'size + 1', the result's place in block 'size' -/
structure St2 (w : World) (b : Nat) (s : ByteArray) (t : TypeId) (zs : Array Value) (p : Nat) (sh : Bool) (cs : Array Value) (W : World) : Prop where
  rd : RdAt W b s p sh
  own : BlkAt W (w.heap.size + 1) cs t
  res : BlkAt W w.heap.size zs t
  gr : w.grownBy W (some b)

section
variable {w W W' : World} {b : Nat} {s : ByteArray} {t : TypeId} {zs cs : Array Value} {p p' : Nat} {sh sh' : Bool}
theorem St2.begin (h : RdAt w b s p sh) : St2 w b s t zs p sh cs ((w.alloc (.cells zs t)).alloc (.cells cs t)) := by
  refine ⟨(h.grown (World.grownBy_alloc w _ none) (by simp)).grown (World.grownBy_alloc _ _ none) (by simp), ?_, ?_, ?_⟩
  · have := BlkAt.new (w.alloc (.cells zs t)) cs t
    simpa using this
  · exact (BlkAt.new w zs t).grown (World.grownBy_alloc _ _ none) (by simp)
  · exact grown_trans (World.grownBy_alloc _ _ _) (World.grownBy_alloc _ _ _)
theorem St2.call (h : St2 w b s t zs p sh cs W) (hb : b < w.heap.size) (hr : RdAt W' b s p' sh') (hg : W.grownBy W' (some b)) : St2 w b s t zs p' sh' cs W' :=
  ⟨hr, h.own.grown hg (by simp; omega), h.res.grown hg (by simp; omega), grown_trans h.gr hg⟩
theorem St2.store (h : St2 w b s t zs p sh cs W) (hb : b < w.heap.size) (o : Nat) (v : Value) : St2 w b s t zs p sh (cs.setIfInBounds o v) (W.setCell ⟨w.heap.size + 1, o, none⟩ v) :=
  ⟨h.rd.grown (grown_set W (w.heap.size + 1) o v) (by simp; omega), h.own.set o v, h.res.grown (grown_set W (w.heap.size + 1) o v) (by simp), grown_own h.gr (grown_set W (w.heap.size + 1) o v) (by simp)⟩
theorem St2.put (h : St2 w b s t zs p sh cs W) (hb : b < w.heap.size) (o : Nat) (v : Value) : St2 w b s t (zs.setIfInBounds o v) p sh cs (W.setCell ⟨w.heap.size, o, none⟩ v) :=
  ⟨h.rd.grown (grown_set W w.heap.size o v) (by simp; omega), h.own.grown (grown_set W w.heap.size o v) (by simp), h.res.set o v, grown_own h.gr (grown_set W w.heap.size o v) (by simp)⟩
end

theorem number_lit (b : Nat) (s : ByteArray) (p n : Nat) (m : Int) (hmn : m = (n : Int)) (sh : Bool) (w : World) (h : RdAt w b s p sh)
    (hs : s.size ≤ 1048576) (hp : p ≤ s.size) (hm : n ≤ 4) :
    Calls Tryz.prog 32 #[.pointer (some ⟨b, 0, none⟩), .int .i64 m] w fun e w' => e = .returned (.int .i64 (Lk.rdNum (sl s) n (p, sh)).1) ∧ RdAt w' b s (Lk.rdNum (sl s) n (p, sh)).2.1 (Lk.rdNum (sl s) n (p, sh)).2.2 ∧ w.grownBy w' (some b) := by
  subst hmn; exact number_any b s p n sh w h hs hp hm

theorem text_lit (b : Nat) (s : ByteArray) (p n : Nat) (m : Int) (hmn : m = (n : Int)) (sh : Bool) (w : World) (h : RdAt w b s p sh)
    (hs : s.size ≤ 1048576) (hp : p ≤ s.size) (hm : n ≤ 1048576) :
    Calls Tryz.prog 31 #[.pointer (some ⟨b, 0, none⟩), .int .i64 m] w fun e w' => e = .returned (.string (bs (Lk.rdText (sl s) n (p, sh)).1)) ∧ RdAt w' b s (Lk.rdText (sl s) n (p, sh)).2.1 (Lk.rdText (sl s) n (p, sh)).2.2 ∧ w.grownBy w' (some b) := by
  subst hmn; exact text_any b s p n sh w h hs hp hm

theorem pow_mono (a d : Nat) : (256 : Int) ^ a ≤ (256 : Int) ^ (a + d) := by
  induction d with
  | zero => simp
  | succ d ih =>
    have h1 := Int.pow_succ (256 : Int) (a + d)
    have hp : (0 : Int) < 256 ^ (a + d) := Int.pow_pos (by decide)
    rw [← Nat.add_assoc, h1]
    omega

theorem rdNum_byte (l : List UInt8) (n : Nat) (st : Lk.St) : 0 ≤ (Lk.rdNum l n st).1 ∧ (Lk.rdNum l n st).1 < (256 : Int) ^ n := by
  unfold Lk.rdNum
  refine ⟨Lk.num_nonneg _, ?_⟩
  have h2 := Lk.num_lt (Lk.rdText l n st).1
  have hl : (Lk.rdText l n st).1.length ≤ n := by
    unfold Lk.rdText
    split
    · simp; omega
    · simp
  have hm := pow_mono (Lk.rdText l n st).1.length (n - (Lk.rdText l n st).1.length)
  rw [Nat.add_sub_cancel' hl] at hm
  omega

set_option maxHeartbeats 1000000 in
theorem readSymbol_any (b : Nat) (s : ByteArray) (p : Nat) (sh : Bool) (w : World) (h : RdAt w b s p sh)
    (hs : s.size ≤ 1048576) (hp : p ≤ s.size) :
    Calls Tryz.prog 65 #[.pointer (some ⟨b, 0, none⟩)] w fun e w' =>
      e = .returned (.agg #[.string (bs (Lk.rdSym (sl s) (p, sh)).1.name), .int .i64 (Lk.rdSym (sl s) (p, sh)).1.bind, .int .i64 (Lk.rdSym (sl s) (p, sh)).1.sect, .int .i64 (Lk.rdSym (sl s) (p, sh)).1.off]) ∧
      RdAt w' b s (Lk.rdSym (sl s) (p, sh)).2.1 (Lk.rdSym (sl s) (p, sh)).2.2 ∧ w.grownBy w' (some b) := by
  have hb := h.lt
  have hlen := sl_length s
  unfold Lk.rdSym
  simp only
  have ba := rdNum_byte (sl s) 1 (p, sh)
  have la := rdNum_le (sl s) 1 (p, sh) (by rw [hlen]; exact hp)
  have c1 := fun W h => number_lit b s p 1 1 rfl sh W h hs hp (by omega)
  generalize Lk.rdNum (sl s) 1 (p, sh) = a at *
  obtain ⟨len, p1, s1⟩ := a
  rw [hlen] at la
  simp only [Int.reducePow] at *
  have lt := rdText_le (sl s) len.toNat (p1, s1) (by rw [hlen]; exact la)
  have c2 := fun W h => text_lit b s p1 len.toNat len (by omega) s1 W h hs la (by omega)
  generalize Lk.rdText (sl s) len.toNat (p1, s1) = t at *
  obtain ⟨name, p2, s2⟩ := t
  rw [hlen] at lt
  simp only at *
  have lb := rdNum_le (sl s) 1 (p2, s2) (by rw [hlen]; exact lt)
  have c3 := fun W h => number_lit b s p2 1 1 rfl s2 W h hs lt (by omega)
  generalize Lk.rdNum (sl s) 1 (p2, s2) = x3 at *
  obtain ⟨bind, p3, s3⟩ := x3
  rw [hlen] at lb
  simp only at *
  have lc := rdNum_le (sl s) 1 (p3, s3) (by rw [hlen]; exact lb)
  have c4 := fun W h => number_lit b s p3 1 1 rfl s3 W h hs lb (by omega)
  generalize Lk.rdNum (sl s) 1 (p3, s3) = x4 at *
  obtain ⟨sect, p4, s4⟩ := x4
  rw [hlen] at lc
  simp only at *
  have c5 := fun W h => number_lit b s p4 2 2 rfl s4 W h hs lc (by omega)
  generalize Lk.rdNum (sl s) 2 (p4, s4) = x5 at *
  obtain ⟨off, p5, s5⟩ := x5
  simp only at *
  replace c1 := hid c1
  replace c2 := hid c2
  replace c3 := hid c3
  replace c4 := hid c4
  replace c5 := hid c5
  have H := hid h
  clear h hlen
  go_enter Tryz.func65, Tryz.ntmps65
  go_wp2_with fail
  refine Calls.at_world (St2 w b s 71 #[.string ⟨#[]⟩, .int .i64 0, .int .i64 0, .int .i64 0] p sh #[.string ⟨#[]⟩, .int .i64 0, .int .i64 0, .int .i64 0]) (St2.begin H.out) ?_
  intro W1 h1
  refine (c1.out W1 h1.rd).mono ?_
  rintro e W2 ⟨rfl, r2, q2⟩
  have S2 := hid (h1.call hb r2 q2)
  clear r2 q2 h1
  go_wp2_with fail
  refine (c2.out W2 S2.out.rd).mono ?_
  rintro e W3 ⟨rfl, r3, q3⟩
  have S3 := hid (S2.out.call hb r3 q3)
  have k3 := S3.out.own.cell 0
  have f3 := S3.out.own.free 0
  clear r3 q3 S2
  go_wp2_with fail
  refine Calls.at_world (St2 w b s 71 #[.string ⟨#[]⟩, .int .i64 0, .int .i64 0, .int .i64 0] p2 s2 #[.string (bs name), .int .i64 0, .int .i64 0, .int .i64 0]) (S3.out.store hb 0 _) ?_
  clear k3 f3 S3 W3
  intro W3 h3
  refine (c3.out W3 h3.rd).mono ?_
  rintro e W4 ⟨rfl, r4, q4⟩
  have S4 := hid (h3.call hb r4 q4)
  have k4 := S4.out.own.cell 1
  have f4 := S4.out.own.free 1
  clear r4 q4 h3
  go_wp2_with fail
  refine Calls.at_world (St2 w b s 71 #[.string ⟨#[]⟩, .int .i64 0, .int .i64 0, .int .i64 0] p3 s3 #[.string (bs name), .int .i64 bind, .int .i64 0, .int .i64 0]) (S4.out.store hb 1 _) ?_
  clear k4 f4 S4 W4
  intro W4 h4
  refine (c4.out W4 h4.rd).mono ?_
  rintro e W5 ⟨rfl, r5, q5⟩
  have S5 := hid (h4.call hb r5 q5)
  have k5 := S5.out.own.cell 2
  have f5 := S5.out.own.free 2
  clear r5 q5 h4
  go_wp2_with fail
  refine Calls.at_world (St2 w b s 71 #[.string ⟨#[]⟩, .int .i64 0, .int .i64 0, .int .i64 0] p4 s4 #[.string (bs name), .int .i64 bind, .int .i64 sect, .int .i64 0]) (S5.out.store hb 2 _) ?_
  clear k5 f5 S5 W5
  intro W5 h5
  refine (c5.out W5 h5.rd).mono ?_
  rintro e W6 ⟨rfl, r6, q6⟩
  have S6 := hid (h5.call hb r6 q6)
  have k60 := S6.out.own.cell 0
  have k61 := S6.out.own.cell 1
  have k62 := S6.out.own.cell 2
  have k63 := S6.out.own.cell 3
  have f63 := S6.out.own.free 3
  have m60 := S6.out.res.cell 0
  have m61 := S6.out.res.cell 1
  have m62 := S6.out.res.cell 2
  have m63 := S6.out.res.cell 3
  have n60 := S6.out.res.free 0
  have n61 := S6.out.res.free 1
  have n62 := S6.out.res.free 2
  have n63 := S6.out.res.free 3
  clear r6 q6 h5
  go_wp2
  have F := ((((S6.out.store hb 3 (.int .i64 off)).put hb 0 (.string (bs name))).put hb 1 (.int .i64 bind)).put hb 2 (.int .i64 sect)).put hb 3 (.int .i64 off)
  refine bodyPost_ret (v := .agg #[.string (bs name), .int .i64 bind, .int .i64 sect, .int .i64 off]) ?_ rfl ⟨rfl, F.rd, F.gr⟩
  have e0 := F.res.cell 0
  have e1 := F.res.cell 1
  have e2 := F.res.cell 2
  have e3 := F.res.cell 3
  clear S6 k60 k61 k62 k63 f63 m60 m61 m62 m63 n60 n61 n62 n63
  generalize World.setCell _ _ _ = WF at *
  simp [results, Tryz.results65, go_sem, e0, e1, e2, e3]


set_option maxHeartbeats 1000000 in
theorem readReloc_any (b : Nat) (s : ByteArray) (p : Nat) (sh : Bool) (w : World) (h : RdAt w b s p sh)
    (hs : s.size ≤ 1048576) (hp : p ≤ s.size) :
    Calls Tryz.prog 66 #[.pointer (some ⟨b, 0, none⟩)] w fun e w' =>
      e = .returned (.agg #[.int .i64 (Lk.rdRel (sl s) (p, sh)).1.sect, .int .i64 (Lk.rdRel (sl s) (p, sh)).1.off, .int .i64 (Lk.rdRel (sl s) (p, sh)).1.kind, .int .i64 (Lk.rdRel (sl s) (p, sh)).1.sym, .int .i64 (Lk.rdRel (sl s) (p, sh)).1.addend]) ∧
      RdAt w' b s (Lk.rdRel (sl s) (p, sh)).2.1 (Lk.rdRel (sl s) (p, sh)).2.2 ∧ w.grownBy w' (some b) := by
  have hb := h.lt
  have hlen := sl_length s
  unfold Lk.rdRel
  simp only
  have l1 := rdNum_le (sl s) 1 (p, sh) (by rw [hlen]; exact hp)
  have b1 := rdNum_byte (sl s) 1 (p, sh)
  have c1 := fun W h => number_lit b s p 1 1 rfl sh W h hs hp (by omega)
  generalize Lk.rdNum (sl s) 1 (p, sh) = x1 at *
  obtain ⟨sect, p1, s1⟩ := x1
  rw [hlen] at l1
  simp only [Int.reducePow] at *
  have l2 := rdNum_le (sl s) 1 (p1, s1) (by rw [hlen]; exact l1)
  have b2 := rdNum_byte (sl s) 1 (p1, s1)
  have c2 := fun W h => number_lit b s p1 1 1 rfl s1 W h hs l1 (by omega)
  generalize Lk.rdNum (sl s) 1 (p1, s1) = x2 at *
  obtain ⟨kind, p2, s2⟩ := x2
  rw [hlen] at l2
  simp only [Int.reducePow] at *
  have l3 := rdNum_le (sl s) 2 (p2, s2) (by rw [hlen]; exact l2)
  have b3 := rdNum_byte (sl s) 2 (p2, s2)
  have c3 := fun W h => number_lit b s p2 2 2 rfl s2 W h hs l2 (by omega)
  generalize Lk.rdNum (sl s) 2 (p2, s2) = x3 at *
  obtain ⟨off, p3, s3⟩ := x3
  rw [hlen] at l3
  simp only [Int.reducePow] at *
  have l4 := rdNum_le (sl s) 1 (p3, s3) (by rw [hlen]; exact l3)
  have b4 := rdNum_byte (sl s) 1 (p3, s3)
  have c4 := fun W h => number_lit b s p3 1 1 rfl s3 W h hs l3 (by omega)
  generalize Lk.rdNum (sl s) 1 (p3, s3) = x4 at *
  obtain ⟨sym, p4, s4⟩ := x4
  rw [hlen] at l4
  simp only [Int.reducePow] at *
  have b5 := rdNum_byte (sl s) 2 (p4, s4)
  have c5 := fun W h => number_lit b s p4 2 2 rfl s4 W h hs l4 (by omega)
  generalize Lk.rdNum (sl s) 2 (p4, s4) = x5 at *
  obtain ⟨add, p5, s5⟩ := x5
  simp only [Int.reducePow] at *
  replace c1 := hid c1
  replace c2 := hid c2
  replace c3 := hid c3
  replace c4 := hid c4
  replace c5 := hid c5
  have H := hid h
  clear h hlen
  go_enter Tryz.func66, Tryz.ntmps66
  go_wp2_with fail
  refine Calls.at_world (St2 w b s 75 #[.int .i64 0, .int .i64 0, .int .i64 0, .int .i64 0, .int .i64 0] p sh #[.int .i64 0, .int .i64 0, .int .i64 0, .int .i64 0, .int .i64 0]) (St2.begin H.out) ?_
  intro W1 h1
  refine (c1.out W1 h1.rd).mono ?_
  rintro e V1 ⟨rfl, r1, q1⟩
  have S1 := hid (h1.call hb r1 q1)
  have k1 := S1.out.own.cell 0
  have f1 := S1.out.own.free 0
  clear r1 q1 h1
  go_wp2_with fail
  refine Calls.at_world (St2 w b s 75 #[.int .i64 0, .int .i64 0, .int .i64 0, .int .i64 0, .int .i64 0] p1 s1 #[.int .i64 sect, .int .i64 0, .int .i64 0, .int .i64 0, .int .i64 0]) (S1.out.store hb 0 _) ?_
  clear k1 f1 S1 V1
  intro W2 h2
  refine (c2.out W2 h2.rd).mono ?_
  rintro e V2 ⟨rfl, r2, q2⟩
  have S2 := hid (h2.call hb r2 q2)
  have k2 := S2.out.own.cell 2
  have f2 := S2.out.own.free 2
  clear r2 q2 h2
  go_wp2_with fail
  refine Calls.at_world (St2 w b s 75 #[.int .i64 0, .int .i64 0, .int .i64 0, .int .i64 0, .int .i64 0] p2 s2 #[.int .i64 sect, .int .i64 0, .int .i64 kind, .int .i64 0, .int .i64 0]) (S2.out.store hb 2 _) ?_
  clear k2 f2 S2 V2
  intro W3 h3
  refine (c3.out W3 h3.rd).mono ?_
  rintro e V3 ⟨rfl, r3, q3⟩
  have S3 := hid (h3.call hb r3 q3)
  have k3 := S3.out.own.cell 1
  have f3 := S3.out.own.free 1
  clear r3 q3 h3
  go_wp2_with fail
  refine Calls.at_world (St2 w b s 75 #[.int .i64 0, .int .i64 0, .int .i64 0, .int .i64 0, .int .i64 0] p3 s3 #[.int .i64 sect, .int .i64 off, .int .i64 kind, .int .i64 0, .int .i64 0]) (S3.out.store hb 1 _) ?_
  clear k3 f3 S3 V3
  intro W4 h4
  refine (c4.out W4 h4.rd).mono ?_
  rintro e V4 ⟨rfl, r4, q4⟩
  have S4 := hid (h4.call hb r4 q4)
  have k4 := S4.out.own.cell 3
  have f4 := S4.out.own.free 3
  clear r4 q4 h4
  go_wp2_with fail
  refine Calls.at_world (St2 w b s 75 #[.int .i64 0, .int .i64 0, .int .i64 0, .int .i64 0, .int .i64 0] p4 s4 #[.int .i64 sect, .int .i64 off, .int .i64 kind, .int .i64 sym, .int .i64 0]) (S4.out.store hb 3 _) ?_
  clear k4 f4 S4 V4
  intro W5 h5
  refine (c5.out W5 h5.rd).mono ?_
  rintro e V5 ⟨rfl, r5, q5⟩
  have S5 := hid (h5.call hb r5 q5)
  clear r5 q5 h5
  have k0 := S5.out.own.cell 0
  have k1 := S5.out.own.cell 1
  have k2 := S5.out.own.cell 2
  have k3 := S5.out.own.cell 3
  have k4 := S5.out.own.cell 4
  have f4 := S5.out.own.free 4
  have m0 := S5.out.res.cell 0
  have n0 := S5.out.res.free 0
  have m1 := S5.out.res.cell 1
  have n1 := S5.out.res.free 1
  have m2 := S5.out.res.cell 2
  have n2 := S5.out.res.free 2
  have m3 := S5.out.res.cell 3
  have n3 := S5.out.res.free 3
  have m4 := S5.out.res.cell 4
  have n4 := S5.out.res.free 4
  by_cases hge : 32768 ≤ add
  · have HG := hid (show Lk.sgn add = (add - 65536) from by unfold Lk.sgn; rw [if_pos hge])
    go_wp2
    have F := ((((((S5.out.store hb 4 (.int .i64 add)).store hb 4 (.int .i64 (add - 65536))).put hb 0 (.int .i64 sect)).put hb 1 (.int .i64 off)).put hb 2 (.int .i64 kind)).put hb 3 (.int .i64 sym)).put hb 4 (.int .i64 (add - 65536))
    refine bodyPost_ret (v := .agg #[.int .i64 sect, .int .i64 off, .int .i64 kind, .int .i64 sym, .int .i64 (add - 65536)]) ?_ rfl ⟨by rw [HG.out], F.rd, F.gr⟩
    have e0 := F.res.cell 0
    have e1 := F.res.cell 1
    have e2 := F.res.cell 2
    have e3 := F.res.cell 3
    have e4 := F.res.cell 4
    clear S5 k0 k1 k2 k3 k4 f4 m0 m1 m2 m3 m4 n0 n1 n2 n3 n4
    generalize World.setCell _ _ _ = WF at *
    simp [results, Tryz.results66, go_sem, e0, e1, e2, e3, e4]
  · have HG := hid (show Lk.sgn add = add from by unfold Lk.sgn; rw [if_neg hge])
    go_wp2
    have F := (((((S5.out.store hb 4 (.int .i64 add)).put hb 0 (.int .i64 sect)).put hb 1 (.int .i64 off)).put hb 2 (.int .i64 kind)).put hb 3 (.int .i64 sym)).put hb 4 (.int .i64 add)
    refine bodyPost_ret (v := .agg #[.int .i64 sect, .int .i64 off, .int .i64 kind, .int .i64 sym, .int .i64 add]) ?_ rfl ⟨by rw [HG.out], F.rd, F.gr⟩
    have e0 := F.res.cell 0
    have e1 := F.res.cell 1
    have e2 := F.res.cell 2
    have e3 := F.res.cell 3
    have e4 := F.res.cell 4
    clear S5 k0 k1 k2 k3 k4 f4 m0 m1 m2 m3 m4 n0 n1 n2 n3 n4
    generalize World.setCell _ _ _ = WF at *
    simp [results, Tryz.results66, go_sem, e0, e1, e2, e3, e4]

end Go.Proofs.YtmhbgnlfdiahpaaGreatDoor

namespace Go.Proofs.YtmhbgnlfdiahpaaGreatDoor
open Go.RowKit

def symV (y : Lk.Sym) : List Value := [.string (bs y.name), .int .i64 y.bind, .int .i64 y.sect, .int .i64 y.off]
def relV (r : Lk.Rel) : List Value := [.int .i64 r.sect, .int .i64 r.off, .int .i64 r.kind, .int .i64 r.sym, .int .i64 r.addend]

theorem news2 (W : World) (o : Obj) (cs : Array Value) (t : TypeId) : ∀ j u, cs.toList[j]? = some u → ((W.alloc o).alloc (.cells cs t)).cell? ((⟨W.heap.size + 1, 0, none⟩ : Addr).add j) = some u := by
  have h : ((W.alloc o).alloc (.cells cs t)).heap[W.heap.size + 1]? = some (.cells cs t (0, 0)) := by
    have := heap_alloc_new (W.alloc o) (.cells cs t)
    simpa using this
  exact World.news_of_block h

theorem rd_keep2 {w wr w1 : World} {o o' : Obj} {b : Nat} {s : ByteArray} {p : Nat} {sh : Bool} {row : Option Nat} (hb : b < w.heap.size) (hg : w.grownBy wr (some b)) (hr : RdAt wr b s p sh) (hk : ((wr.alloc o).alloc o').grownBy w1 row) (hrow : ∀ g, row = some g → w.heap.size ≤ g) :
    RdAt w1 b s p sh ∧ w.grownBy w1 (some b) := by
  have h1 : wr.grownBy (wr.alloc o) none := World.grownBy_alloc wr o none
  exact rd_keep hb (grown_own hg h1 (by simp)) (hr.grown h1 (by simp)) hk hrow

theorem rdMany_le {α : Type} (l : List UInt8) (f : Lk.St → α × Lk.St) (hf : ∀ st, st.1 ≤ l.length → (f st).2.1 ≤ l.length) (c : Nat) (st : Lk.St) (h : st.1 ≤ l.length) : (Lk.rdMany f c st).2.1 ≤ l.length := by
  induction c generalizing st with
  | zero => exact h
  | succ c ih =>
    unfold Lk.rdMany
    split
    · exact h
    · exact ih _ (hf st h)
theorem rdSym_le (l : List UInt8) (st : Lk.St) (h : st.1 ≤ l.length) : (Lk.rdSym l st).2.1 ≤ l.length := by
  unfold Lk.rdSym
  exact rdNum_le _ _ _ (rdNum_le _ _ _ (rdNum_le _ _ _ (rdText_le _ _ _ (rdNum_le _ _ _ h))))
theorem rdRel_le (l : List UInt8) (st : Lk.St) (h : st.1 ≤ l.length) : (Lk.rdRel l st).2.1 ≤ l.length := by
  simp only [Lk.rdRel]
  refine rdNum_le _ _ _ ?_
  refine rdNum_le _ _ _ ?_
  refine rdNum_le _ _ _ ?_
  refine rdNum_le _ _ _ ?_
  exact rdNum_le _ _ _ h
theorem rdNums_le (l : List UInt8) (n c : Nat) (st : Lk.St) (h : st.1 ≤ l.length) : (Lk.rdNums l n c st).2.1 ≤ l.length := by
  rw [Lk.rdNums_many]; exact rdMany_le l _ (fun st h => rdNum_le l n st h) c st h

set_option maxHeartbeats 1000000 in
theorem readSymbols_any (b : Nat) (s : ByteArray) (p count : Nat) (sh : Bool) (w : World) (h : RdAt w b s p sh)
    (hs : s.size ≤ 1048576) (hp : p ≤ s.size) (hc : count ≤ 65535) :
    Calls Tryz.prog 45 #[.pointer (some ⟨b, 0, none⟩), .int .i64 count] w fun e w' => ∃ v, e = .returned v ∧
      w'.ownsRow w.heap.size 71 4 v (Lk.rdMany (Lk.rdSym (sl s)) count (p, sh)).1.length ((Lk.rdMany (Lk.rdSym (sl s)) count (p, sh)).1.flatMap symV) ∧
      RdAt w' b s (Lk.rdMany (Lk.rdSym (sl s)) count (p, sh)).2.1 (Lk.rdMany (Lk.rdSym (sl s)) count (p, sh)).2.2 ∧ w.grownBy w' (some b) := by
  obtain ⟨i0, hi, hz0, hz1, hz2⟩ := info_parts Tryz.infoSym
  have hb := h.lt
  have H := hid h
  clear h
  go_enter Tryz.func45, Tryz.ntmps45
  go_wp2_with fail
  go_loopw [5, 6] (fun v i wr => ∃ (k : Nat) (acc : List Lk.Sym) (st : Lk.St), k ≤ count ∧ i = .int .i64 k ∧ acc.length = k ∧ st.1 ≤ s.size ∧
      wr.ownsRow w.heap.size 71 4 v acc.length (acc.flatMap symV) ∧ RdAt wr b s st.1 st.2 ∧ w.grownBy wr (some b) ∧
      Lk.rdMany (Lk.rdSym (sl s)) count (p, sh) = (acc ++ (Lk.rdMany (Lk.rdSym (sl s)) (count - k) st).1, (Lk.rdMany (Lk.rdSym (sl s)) (count - k) st).2)) (fun _ i _ => count - (intOf i).toNat)
  case atStart => exact ⟨0, [], (p, sh), Nat.zero_le _, rfl, rfl, hp, World.ownsRow_nil _ _ _ _, H.out, World.grownBy.refl _ _, by simp⟩
  case round =>
    obtain ⟨k, acc, st, hk, rfl, hacc, hst, hown, hrd, hgr, heq⟩ := hrel
    have HE := hid heq
    have HA := hid hacc
    clear heq
    by_cases hlt : k < count
    · cases hsh : st.2
      · rw [hsh] at hrd
        have hsu : count - k = (count - (k + 1)) + 1 := by omega
        have hle := rdSym_le (sl s) (st.1, false) (by rw [sl_length]; exact hst)
        have cN := hid (readSymbol_any b s st.1 false wr hrd hs hst)
        have HN := hid (show Lk.rdMany (Lk.rdSym (sl s)) (count - k) st = ((Lk.rdSym (sl s) (st.1, false)).1 :: (Lk.rdMany (Lk.rdSym (sl s)) (count - (k + 1)) (Lk.rdSym (sl s) (st.1, false)).2).1, (Lk.rdMany (Lk.rdSym (sl s)) (count - (k + 1)) (Lk.rdSym (sl s) (st.1, false)).2).2) from by
          rw [hsu]
          have e : st = (st.1, false) := Prod.ext rfl hsh
          rw [e]; rfl)
        rw [sl_length] at hle
        clear hsu hsh
        generalize Lk.rdSym (sl s) (st.1, false) = r at *
        obtain ⟨x, st'⟩ := r
        simp only at cN HN hle
        have cS := hid (short_any b s st.1 false wr hrd)
        have HR := hid hrd
        clear hrd
        have hacc2 : acc.length ≤ 65535 := by omega
        go_wp2_with fail
        refine cS.out.mono ?_
        rintro e w1 ⟨rfl, rfl⟩
        go_wp2_with fail
        refine cN.out.mono ?_
        rintro e w2 ⟨rfl, hrd2, hgr2⟩
        have hown2 := own_kept hown hb hgr2
        have hgr3 := grown_trans hgr hgr2
        have HR2 := hid hrd2
        have HG2 := hid hgr3
        have hsz := hgr3.size
        clear hrd2 hgr2 hgr3 hown hgr HR cS cN
        go_wp2_with (at_builtin; refine wpList_append_own _ rfl _ _ 53 rfl w.heap.size 71 i0 (.agg #[.string ⟨#[]⟩, .int .i64 0, .int .i64 0, .int .i64 0]) 4 40 Tryz.underlying53 hi hz0 hz1 hz2 rfl (by decide) _ _ _ rfl ((hown2.alloc _).alloc _) ⟨w2.heap.size + 1, 0, none⟩ 1 1 (symV x) rfl rfl (news2 _ _ _ _) (by intro u hu; simp [symV] at hu; rcases hu with rfl | rfl | rfl | rfl <;> rfl) (by unfold maxLen; omega) (by omega) (by simp; omega) ?_; intro v' w3 hown' hgrow _)
        have K := rd_keep2 hb HG2.out HR2.out hgrow (fun g hg => (hown2.lt g hg).1)
        clear hgrow hown2
        go_wp2
        go_roundw
        case rel =>
          refine ⟨k + 1, acc ++ [x], st', by omega, by go_num, by simp [HA.out], hle, ?_, K.1, K.2, ?_⟩
          · simpa using hown'
          · rw [HE.out, HN.out]; simp
        case measure => simp [intOf]; omega
      · rw [hsh] at hrd
        have hfin : Lk.rdMany (Lk.rdSym (sl s)) count (p, sh) = (acc, (st.1, true)) := by
          have hsu : count - k = (count - (k + 1)) + 1 := by omega
          rw [HE.out, hsu]
          have e : st = (st.1, true) := Prod.ext rfl hsh
          rw [e]
          simp [Lk.rdMany]
        have HF := hid hfin
        clear hfin hsh HE
        have cS := hid (short_any b s st.1 true wr hrd)
        have HR := hid hrd
        clear hrd
        go_wp2_with fail
        refine cS.out.mono ?_
        rintro e w1 ⟨rfl, rfl⟩
        go_wp2
        go_ret
        rw [HF.out]
        exact ⟨_, rfl, hown, HR.out, hgr⟩
    · have hfin : Lk.rdMany (Lk.rdSym (sl s)) count (p, sh) = (acc, st) := by
        have hsu : count - k = 0 := by omega
        rw [HE.out, hsu]
        simp [Lk.rdMany]
      have HF := hid hfin
      clear hfin HE
      have HR := hid hrd
      clear hrd
      have hd : decide ((k : Int) < (count : Int)) = false := by simp; omega
      go_wp2
      go_ret
      rw [HF.out]
      exact ⟨_, rfl, hown, HR.out, hgr⟩

set_option maxHeartbeats 1000000 in
theorem readRelocs_any (b : Nat) (s : ByteArray) (p count : Nat) (sh : Bool) (w : World) (h : RdAt w b s p sh)
    (hs : s.size ≤ 1048576) (hp : p ≤ s.size) (hc : count ≤ 65535) :
    Calls Tryz.prog 46 #[.pointer (some ⟨b, 0, none⟩), .int .i64 count] w fun e w' => ∃ v, e = .returned v ∧
      w'.ownsRow w.heap.size 75 5 v (Lk.rdMany (Lk.rdRel (sl s)) count (p, sh)).1.length ((Lk.rdMany (Lk.rdRel (sl s)) count (p, sh)).1.flatMap relV) ∧
      RdAt w' b s (Lk.rdMany (Lk.rdRel (sl s)) count (p, sh)).2.1 (Lk.rdMany (Lk.rdRel (sl s)) count (p, sh)).2.2 ∧ w.grownBy w' (some b) := by
  obtain ⟨i0, hi, hz0, hz1, hz2⟩ := info_parts Tryz.infoRel
  have hb := h.lt
  have H := hid h
  clear h
  go_enter Tryz.func46, Tryz.ntmps46
  go_wp2_with fail
  go_loopw [5, 6] (fun v i wr => ∃ (k : Nat) (acc : List Lk.Rel) (st : Lk.St), k ≤ count ∧ i = .int .i64 k ∧ acc.length = k ∧ st.1 ≤ s.size ∧
      wr.ownsRow w.heap.size 75 5 v acc.length (acc.flatMap relV) ∧ RdAt wr b s st.1 st.2 ∧ w.grownBy wr (some b) ∧
      Lk.rdMany (Lk.rdRel (sl s)) count (p, sh) = (acc ++ (Lk.rdMany (Lk.rdRel (sl s)) (count - k) st).1, (Lk.rdMany (Lk.rdRel (sl s)) (count - k) st).2)) (fun _ i _ => count - (intOf i).toNat)
  case atStart => exact ⟨0, [], (p, sh), Nat.zero_le _, rfl, rfl, hp, World.ownsRow_nil _ _ _ _, H.out, World.grownBy.refl _ _, by simp⟩
  case round =>
    obtain ⟨k, acc, st, hk, rfl, hacc, hst, hown, hrd, hgr, heq⟩ := hrel
    have HE := hid heq
    have HA := hid hacc
    clear heq
    by_cases hlt : k < count
    · cases hsh : st.2
      · rw [hsh] at hrd
        have hsu : count - k = (count - (k + 1)) + 1 := by omega
        have hle := rdRel_le (sl s) (st.1, false) (by rw [sl_length]; exact hst)
        have cN := hid (readReloc_any b s st.1 false wr hrd hs hst)
        have HN := hid (show Lk.rdMany (Lk.rdRel (sl s)) (count - k) st = ((Lk.rdRel (sl s) (st.1, false)).1 :: (Lk.rdMany (Lk.rdRel (sl s)) (count - (k + 1)) (Lk.rdRel (sl s) (st.1, false)).2).1, (Lk.rdMany (Lk.rdRel (sl s)) (count - (k + 1)) (Lk.rdRel (sl s) (st.1, false)).2).2) from by
          rw [hsu]
          have e : st = (st.1, false) := Prod.ext rfl hsh
          rw [e]; rfl)
        rw [sl_length] at hle
        clear hsu hsh
        generalize Lk.rdRel (sl s) (st.1, false) = r at *
        obtain ⟨x, st'⟩ := r
        simp only at cN HN hle
        have cS := hid (short_any b s st.1 false wr hrd)
        have HR := hid hrd
        clear hrd
        have hacc2 : acc.length ≤ 65535 := by omega
        go_wp2_with fail
        refine cS.out.mono ?_
        rintro e w1 ⟨rfl, rfl⟩
        go_wp2_with fail
        refine cN.out.mono ?_
        rintro e w2 ⟨rfl, hrd2, hgr2⟩
        have hown2 := own_kept hown hb hgr2
        have hgr3 := grown_trans hgr hgr2
        have HR2 := hid hrd2
        have HG2 := hid hgr3
        have hsz := hgr3.size
        clear hrd2 hgr2 hgr3 hown hgr HR cS cN
        go_wp2_with (at_builtin; refine wpList_append_own _ rfl _ _ 54 rfl w.heap.size 75 i0 (.agg #[.int .i64 0, .int .i64 0, .int .i64 0, .int .i64 0, .int .i64 0]) 5 40 Tryz.underlying54 hi hz0 hz1 hz2 rfl (by decide) _ _ _ rfl ((hown2.alloc _).alloc _) ⟨w2.heap.size + 1, 0, none⟩ 1 1 (relV x) rfl rfl (news2 _ _ _ _) (by intro u hu; simp [relV] at hu; rcases hu with rfl | rfl | rfl | rfl | rfl <;> rfl) (by unfold maxLen; omega) (by omega) (by simp; omega) ?_; intro v' w3 hown' hgrow _)
        have K := rd_keep2 hb HG2.out HR2.out hgrow (fun g hg => (hown2.lt g hg).1)
        clear hgrow hown2
        go_wp2
        go_roundw
        case rel =>
          refine ⟨k + 1, acc ++ [x], st', by omega, by go_num, by simp [HA.out], hle, ?_, K.1, K.2, ?_⟩
          · simpa using hown'
          · rw [HE.out, HN.out]; simp
        case measure => simp [intOf]; omega
      · rw [hsh] at hrd
        have hfin : Lk.rdMany (Lk.rdRel (sl s)) count (p, sh) = (acc, (st.1, true)) := by
          have hsu : count - k = (count - (k + 1)) + 1 := by omega
          rw [HE.out, hsu]
          have e : st = (st.1, true) := Prod.ext rfl hsh
          rw [e]
          simp [Lk.rdMany]
        have HF := hid hfin
        clear hfin hsh HE
        have cS := hid (short_any b s st.1 true wr hrd)
        have HR := hid hrd
        clear hrd
        go_wp2_with fail
        refine cS.out.mono ?_
        rintro e w1 ⟨rfl, rfl⟩
        go_wp2
        go_ret
        rw [HF.out]
        exact ⟨_, rfl, hown, HR.out, hgr⟩
    · have hfin : Lk.rdMany (Lk.rdRel (sl s)) count (p, sh) = (acc, st) := by
        have hsu : count - k = 0 := by omega
        rw [HE.out, hsu]
        simp [Lk.rdMany]
      have HF := hid hfin
      clear hfin HE
      have HR := hid hrd
      clear hrd
      have hd : decide ((k : Int) < (count : Int)) = false := by simp; omega
      go_wp2
      go_ret
      rw [HF.out]
      exact ⟨_, rfl, hown, HR.out, hgr⟩

end Go.Proofs.YtmhbgnlfdiahpaaGreatDoor
