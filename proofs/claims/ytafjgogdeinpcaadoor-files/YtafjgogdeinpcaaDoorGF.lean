/- Walks over package wire's Writer. -/
/- Walks over package wire's Writer: Text, Bytes. -/
/- Walks over package object: the writers. -/
/- Walks over package object: writeReloc; what a Writer leaves as it was. -/
/- Walks over package object: Write. -/
import Derived.Test.YtafjgogdeinpcaaDoorGB
import Derived.Test.YtafjgogdeinpcaaDoorGC
import Derived.Deep.RegionLaw
import Derived.Deep.AppendLies
import Derived.Test.YtafjgogdeinpcaaDoorGE
namespace Go.Proofs.YtafjgogdeinpcaaDoor
open Go.RowKit

theorem Tryd.infoU8 : (Tryd.prog.info? 5).map (fun i => (i.zero, i.size, i.bytes)) = some (some (.int .u8 0), 1, 1) := by kernel_rfl

def byV (l : List UInt8) : List Value := l.map fun c => .int .u8 c.toNat

/-- a Writer lies in block b and has gathered l -/
def WrAt (W : World) (b : Nat) (l : List UInt8) : Prop :=
  ∃ ao cap, BlkAt W b #[.slice ao l.length cap] 59 ∧ W.ownsRow (b + 1) 5 1 (.slice ao l.length cap) l.length (byV l)

theorem wrAt_new (W : World) : WrAt (W.alloc (.cells #[.slice none 0 0] 59)) W.heap.size [] :=
  ⟨none, 0, BlkAt.new W _ _, World.ownsRow_nil _ _ _ _⟩

theorem i64_and255 (n : Int) : bits .and .i64 n 255 = n % 256 := by
  have h255 : (BitVec.ofInt 64 255).toNat = 2 ^ 8 - 1 := by decide
  have key : (BitVec.ofInt 64 n &&& BitVec.ofInt 64 255).toNat = (n % ((2 ^ 64 : Nat) : Int)).toNat % 2 ^ 8 := by
    rw [BitVec.toNat_and, BitVec.toNat_ofInt, h255, Nat.and_two_pow_sub_one_eq_mod]
  show IntKind.i64.wrap ((BitVec.ofInt 64 n &&& BitVec.ofInt 64 255).toNat : Nat) = n % 256
  rw [key, IntKind.wrap_i64]
  omega

def lowB (x : Int) : UInt8 := UInt8.ofNat (x % 256).toNat
theorem lowB_int (x : Int) : ((lowB x).toNat : Int) = bits .and .i64 x 255 % 256 := by
  rw [i64_and255]
  unfold lowB
  rw [UInt8.toNat_ofNat']
  omega

theorem lowB_own {w : World} {base : Nat} {v : Value} {n : Nat} {xs : List Value} {x : Int} (h : w.ownsRow base 5 1 v n (xs ++ [.int .u8 (bits .and .i64 x 255 % 256)])) : w.ownsRow base 5 1 v n (xs ++ [.int .u8 (lowB x).toNat]) := by
  rw [lowB_int]; exact h

/-- but for block b, what holds no bytes is as it was -/
def KeepT (b : Nat) (w w' : World) : Prop := ∀ k cs t, k ≠ b → t ≠ 5 → BlkAt w k cs t → BlkAt w' k cs t
theorem KeepT.refl (b : Nat) (w : World) : KeepT b w w := fun _ _ _ _ _ h => h
theorem KeepT.trans {b : Nat} {x y z : World} (h : KeepT b x y) (k : KeepT b y z) : KeepT b x z := fun i cs t hi ht hb => k i cs t hi ht (h i cs t hi ht hb)

/-- below b all is as it was; and of the rest what holds no bytes -/
def Wk (b : Nat) (w w' : World) : Prop := Below b w w' ∧ KeepT b w w'
theorem Wk.refl (b : Nat) (w : World) : Wk b w w := ⟨Below.refl _ _, KeepT.refl _ _⟩
theorem Wk.trans {b : Nat} {x y z : World} (h : Wk b x y) (k : Wk b y z) : Wk b x z := ⟨h.1.trans k.1, h.2.trans k.2⟩
theorem Wk.alloc {b : Nat} {x y : World} (h : Wk b x y) (hb : b ≤ y.heap.size) (o : Obj) : Wk b x (y.alloc o) :=
  ⟨h.1.alloc hb o, h.2.trans fun _ _ _ _ _ hk => hk.grown (World.grownBy_alloc y o none) (by simp)⟩

theorem keep_put {wr w1 : World} {b : Nat} {o : Obj} {base : Nat} {v0 : Value} {n : Nat} {xs : List Value} (hown : wr.ownsRow base 5 1 v0 n xs) (hg : (wr.alloc o).grownBy w1 v0.ownBlock) (v : Value) : KeepT b wr (w1.setCell ⟨b, 0, none⟩ v) := by
  intro k cs t hk ht hb
  have h1 := hb.grown (World.grownBy_alloc wr o none) (by simp)
  have h2 : BlkAt w1 k cs t := h1.grown hg (by
    rcases hown.2 with ⟨rfl, _⟩ | ⟨g, cap, cur, rfl, _, hh, _⟩
    · simp [Value.ownBlock]
    · intro e
      simp only [Value.ownBlock, Option.some.injEq] at e
      subst e
      unfold BlkAt at hb
      rw [hb] at hh
      simp only [Option.some.injEq, Obj.cells.injEq] at hh
      exact ht hh.2.1)
  exact h2.grown (grown_set w1 b 0 v) (by simpa using hk)

/-- behind an append into the Writer's list, and the store of the list -/
theorem wr_put {w wr w1 : World} {b : Nat} {l : List UInt8} {ao : Option Addr} {cap : Nat} {o : Obj} {v : Value} {c : UInt8} (hb : BlkAt wr b #[.slice ao l.length cap] 59) (hwk : Wk b w wr) (hown0 : wr.ownsRow (b + 1) 5 1 (.slice ao l.length cap) l.length (byV l))
    (hg : (wr.alloc o).grownBy w1 (Value.ownBlock (.slice ao l.length cap))) (hrow : ∀ g, Value.ownBlock (.slice ao l.length cap) = some g → b + 1 ≤ g) (hown : w1.ownsRow (b + 1) 5 1 v (l.length + 1) (byV l ++ [.int .u8 c.toNat])) :
    WrAt (w1.setCell ⟨b, 0, none⟩ v) b (l ++ [c]) ∧ Wk b w (w1.setCell ⟨b, 0, none⟩ v) := by
  have hkt := keep_put (b := b) hown0 hg v
  have hB1 : BlkAt w1 b #[.slice ao l.length cap] 59 := (hb.grown (World.grownBy_alloc wr o none) (by simp)).grown hg (fun e => by have := hrow b e.symm; omega)
  obtain ⟨ao', cap', rfl⟩ := own_form hown
  have hlen : (l ++ [c]).length = l.length + 1 := by simp
  refine ⟨⟨ao', cap', ?_, ?_⟩, ?_⟩
  · rw [hlen]
    exact hB1.set 0 _
  · have e : byV (l ++ [c]) = byV l ++ [.int .u8 c.toNat] := by simp [byV]
    rw [hlen, e]
    exact ownsRow_setCell_below hown (Nat.lt_succ_self b) _
  · refine ⟨?_, hwk.2.trans hkt⟩
    exact ((hwk.1.alloc (Nat.le_of_lt hb.lt) o).grown hg (by have := hb.lt; simp; omega) (fun g hg => by have := hrow g hg; omega)).setCell (Nat.le_refl b) _

theorem wr_cell {wr w1 : World} {b : Nat} {cs : Array Value} {t : TypeId} {o : Obj} {row : Option Nat} (hb : BlkAt wr b cs t) (hg : (wr.alloc o).grownBy w1 row) (hrow : ∀ g, row = some g → b + 1 ≤ g) : BlkAt w1 b cs t :=
  (hb.grown (World.grownBy_alloc wr o none) (by simp)).grown hg (fun e => by have := hrow b e.symm; omega)

set_option maxHeartbeats 1000000 in
theorem wNumber_any (b : Nat) (n : Int) (size : Nat) (l : List UInt8) (w : World) (h : WrAt w b l) (hl : l.length ≤ 16777216) (hs : size ≤ 4) (hn0 : -1099511627776 ≤ n) (hn1 : n ≤ 1099511627776) :
    Calls Tryd.prog 27 #[.pointer (some ⟨b, 0, none⟩), .int .i64 n, .int .i64 size] w fun e w' => e = .returned (.tuple #[]) ∧ WrAt w' b (l ++ Lk.le n size) ∧ Wk b w w' := by
  obtain ⟨i0, hi, hz0, hz1, hz2⟩ := info_parts Tryd.infoU8
  have H := hid h
  clear h
  go_enter Tryd.func27, Tryd.ntmps27
  go_wp2
  go_loopw [1, 6] (fun m i wr => ∃ (k : Nat) (x : Int), k ≤ size ∧ i = .int .i64 k ∧ m = .int .i64 x ∧ -1099511627776 ≤ x ∧ x ≤ 1099511627776 ∧ (∃ acc : List UInt8, acc.length = l.length + k ∧ WrAt wr b acc ∧ l ++ Lk.le n size = acc ++ Lk.le x (size - k)) ∧ Wk b w wr) (fun _ i _ => size - (intOf i).toNat)
  case atStart => exact ⟨0, n, Nat.zero_le _, rfl, rfl, hn0, hn1, ⟨l, rfl, H.out, by simp⟩, Wk.refl _ _⟩
  case round =>
    obtain ⟨k, x, hk, rfl, rfl, hx0, hx1, hdone, hbel⟩ := hrel
    have HD := hid hdone
    have HB := hid hbel
    clear hdone hbel
    by_cases hlt : k < size
    · obtain ⟨acc, hdl, hw, hle⟩ := HD.out
      obtain ⟨ao, cap, hblk, hown⟩ := hw
      have c0 := hblk.cell 0
      have f0 := hblk.free 0
      have hbl := hblk.lt
      have HBK := hid hblk
      have HLE := hid hle
      have HDL := hid hdl
      have hdl2 : acc.length ≤ 16777220 := by omega
      have hrow := hid (show ∀ g, Value.ownBlock (.slice ao acc.length cap) = some g → b + 1 ≤ g from fun g hg => (hown.lt g hg).1)
      clear hblk hle hdl HD
      go_wp2_with (at_builtin; refine wpList_append_own _ rfl _ _ 57 rfl (b + 1) 5 i0 (.int .u8 0) 1 1 Tryd.underlying57 hi hz0 hz1 hz2 rfl (by decide) (.slice ao acc.length cap) acc.length (byV acc) rfl (hown.alloc _) ⟨wr.heap.size, 0, none⟩ 1 1 [.int .u8 (bits .and .i64 x 255 % 256)] rfl rfl (cell_one_new _ _ _) (by intro u hu; simp at hu; subst hu; rfl) (by unfold maxLen; omega) (by omega) (by simp; omega) ?_; intro v' w3 hown' hgrow _; obtain ⟨ao', cap', rfl⟩ := own_form hown'; have m0 := (wr_cell HBK.out hgrow hrow.out).cell 0; have n0 := (wr_cell HBK.out hgrow hrow.out).free 0; have P := hid (wr_put HBK.out HB.out hown hgrow hrow.out (lowB_own hown')); clear hown' hgrow hown c0 f0)
      go_roundw
      case rel =>
        refine ⟨k + 1, x / 256, by omega, by go_num, rfl, by omega, by omega, ⟨acc ++ [lowB x], ?_, P.out.1, ?_⟩, P.out.2⟩
        · have := HDL.out; simp; omega
        · have e : size - k = (size - (k + 1)) + 1 := by omega
          rw [HLE.out, e]
          simp [Lk.le, lowB]
      case measure => simp [intOf]; omega
    · go_wp2
      go_end0
      obtain ⟨acc, hdl, hw, hle⟩ := HD.out
      have e : size - k = 0 := by omega
      rw [e] at hle
      simp only [Lk.le, List.append_nil] at hle
      rw [hle]
      exact ⟨rfl, hw, HB.out⟩

end Go.Proofs.YtafjgogdeinpcaaDoor

namespace Go.Proofs.YtafjgogdeinpcaaDoor
open Go.RowKit

theorem sl_snoc (s : ByteArray) (k : Nat) (h : k < s.size) : (sl s).take (k + 1) = (sl s).take k ++ [s[k]] := by
  have h' : k < s.data.toList.length := by rw [Array.length_toList]; exact h
  unfold sl
  rw [List.take_succ_eq_append_getElem h']
  rfl

set_option maxHeartbeats 2000000 in
theorem wText_any (b : Nat) (s : ByteArray) (l : List UInt8) (w : World) (h : WrAt w b l) (hl : l.length ≤ 16777216) (hs : s.size ≤ 1048576) :
    Calls Tryd.prog 26 #[.pointer (some ⟨b, 0, none⟩), .string s] w fun e w' => e = .returned (.tuple #[]) ∧ WrAt w' b (l ++ sl s) ∧ Wk b w w' := by
  obtain ⟨i0, hi, hz0, hz1, hz2⟩ := info_parts Tryd.infoU8
  have H := hid h
  clear h
  go_enter Tryd.func26, Tryd.ntmps26
  go_wp2
  go_loopw [4] (fun i wr => ∃ (k : Nat), k ≤ s.size ∧ i = .int .i64 k ∧ (∃ acc : List UInt8, acc.length = l.length + k ∧ WrAt wr b acc ∧ l ++ (sl s).take k = acc) ∧ Wk b w wr) (fun i _ => s.size - (intOf i).toNat)
  case atStart => exact ⟨0, Nat.zero_le _, rfl, ⟨l, rfl, H.out, by simp⟩, Wk.refl _ _⟩
  case round =>
    obtain ⟨k, hk, rfl, hdone, hbel⟩ := hrel
    have HD := hid hdone
    have HB := hid hbel
    clear hdone hbel
    by_cases hlt : k < s.size
    · obtain ⟨acc, hdl, hw, hle⟩ := HD.out
      obtain ⟨ao, cap, hblk, hown⟩ := hw
      have c0 := hblk.cell 0
      have f0 := hblk.free 0
      have hbl := hblk.lt
      have HBK := hid hblk
      have HLE := hid hle
      have HDL := hid hdl
      have hdl2 : acc.length ≤ 33554432 := by omega
      have hrow := hid (show ∀ g, Value.ownBlock (.slice ao acc.length cap) = some g → b + 1 ≤ g from fun g hg => (hown.lt g hg).1)
      have HOW := hid hown
      have hne := World.new_ne wr ⟨b, 0, none⟩ (by simpa using c0)
      have g1 : (0 : Int) ≤ (k : Int) := by omega
      have g2 : (k : Int) < (s.size : Int) := by omega
      have hA : Hid ((wr.alloc (.cells #[.int .u8 s[k].toNat] 5)).drew.ownsRow (b + 1) 5 1 (.slice ao acc.length cap) acc.length (byV acc)) := (hown.alloc _).drew
      have hN : Hid (∀ j u, [Value.int .u8 s[k].toNat][j]? = some u → (wr.alloc (.cells #[.int .u8 s[k].toNat] 5)).drew.cell? ((⟨wr.heap.size, 0, none⟩ : Addr).add j) = some u) := World.news_of_block (heap_alloc_new wr (.cells #[.int .u8 s[k].toNat] 5))
      have hOne : Hid (∀ u ∈ [Value.int .u8 (s[k].toNat : Int)], u.oneCell' = true) := by intro u hu; simp at hu; subst hu; rfl
      have h63 : Hid (acc.length + 1 ≤ maxLen) := by show _ ≤ _; unfold maxLen; omega
      have hby : Hid ((acc.length + 1) * 1 ≤ 140737488355328) := by show _ ≤ _; omega
      have hbs : Hid (b + 1 ≤ (wr.alloc (.cells #[.int .u8 s[k].toNat] 5)).drew.heap.size) := by show _ ≤ _; simp; omega
      have hHH : Hid ((wr.alloc (.cells #[.int .u8 s[k].toNat] 5)).drew.heap.size = wr.heap.size + 1) := by show _ = _; simp
      clear hblk hle hdl HD hown
      go_wp2
      refine wp_region_any (by kernel_rfl) ?_
      change wpAny _ Region.Mode.any _ _ _ _ _ wr.drew
      refine wpAny_take (i := 0) (v := ?_) rfl (by kernel_rfl) (by kernel_rfl) (by kernel_rfl) (fun _ _ _ h => h) (Or.inl ⟨by kernel_rfl, ?_⟩) ?_
      rotate_left
      · intro w; go_simp; with_reducible rfl
      refine wpAny_take (i := 1) (v := ?_) rfl (by kernel_rfl) (by kernel_rfl) (by kernel_rfl) (fun _ _ _ h => h) (Or.inl ⟨by kernel_rfl, ?_⟩) ?_
      rotate_left
      · intro w; go_simp; with_reducible rfl
      refine wpAny_take (i := 2) (v := ?_) rfl (by kernel_rfl) (by kernel_rfl) (by kernel_rfl) (fun _ _ _ h => h) (Or.inl ⟨by kernel_rfl, ?_⟩) ?_
      rotate_left
      · intro w; go_simp; with_reducible rfl
      refine wpAny_take (i := 3) (v := ?_) rfl (by kernel_rfl) (by kernel_rfl) (by kernel_rfl) (fun _ _ _ h => h) (Or.inl ⟨by kernel_rfl, ?_⟩) ?_
      rotate_left
      · intro w; go_simp; with_reducible rfl
      refine wpAny_take (i := 5) (v := ?_) rfl (by kernel_rfl) (by kernel_rfl) (by kernel_rfl) (fun _ _ _ h => h) (Or.inl ⟨by kernel_rfl, ?_⟩) ?_
      rotate_left
      · intro w; go_simp; with_reducible rfl
      refine wpAny_take (i := 6) (v := ?_) rfl (by kernel_rfl) (by kernel_rfl) (by kernel_rfl) (fun _ _ _ h => h) (Or.inl ⟨by kernel_rfl, ?_⟩) ?_
      rotate_left
      · intro w; go_simp; with_reducible rfl
      refine wpAny_take (i := 7) (v := ?_) rfl (by kernel_rfl) (by kernel_rfl) (by kernel_rfl) (fun _ _ _ h => h) (Or.inl ⟨by kernel_rfl, ?_⟩) ?_
      rotate_left
      · intro w; go_simp; with_reducible rfl
      refine wpAny_ready (rs := [4, 8]) (by kernel_rfl) (by simp) ?_
      refine AllReady.cons rfl (fun K hK => ?_) (AllReady.cons rfl (fun K hK => ?_) AllReady.nil)
      · go_simp
        refine hK _ _ ?_
        clear hK K
        refine wpAny_ready (rs := [8]) (by kernel_rfl) (by simp) ?_
        refine AllReady.cons rfl (fun K hK => ?_) AllReady.nil
        go_simp
        refine hK _ _ ?_
        clear hK K
        refine wpAny_ready (rs := [9]) (by kernel_rfl) (by simp) ?_
        refine AllReady.cons rfl (fun K hK => ?_) AllReady.nil
        rw [if_pos (by kernel_rfl)]
        refine wp_append_own _ (.tmp 15) (.tmp 19) 57 rfl (b + 1) 5 i0 (.int .u8 0) 1 1 Tryd.underlying57 hi hz0 hz1 hz2 rfl (by decide) (.slice ao acc.length cap) acc.length (byV acc) (by kernel_rfl) hA.out ⟨wr.heap.size, 0, none⟩ 1 1 [.int .u8 s[k].toNat] (by kernel_rfl) rfl hN.out hOne.out h63.out hby.out hbs.out ?_
        intro v' w3 hown' hgrow _
        obtain ⟨ao', cap', rfl⟩ := own_form hown'
        have gd : (wr.alloc (.cells #[.int .u8 s[k].toNat] 5)).grownBy w3 (Value.ownBlock (.slice ao acc.length cap)) := ⟨hgrow.os, hgrow.tape, hgrow.output, hgrow.size, hgrow.block⟩
        have m0 := (wr_cell HBK.out gd hrow.out).cell 0
        have n0 := (wr_cell HBK.out gd hrow.out).free 0
        have P := hid (wr_put HBK.out HB.out HOW.out gd hrow.out hown')
        clear hown' hgrow gd
        refine hK _ _ ?_
        clear hK K
        refine wpAny_take (i := 10) (v := ?_) rfl (by kernel_rfl) (by kernel_rfl) (by kernel_rfl) (fun _ _ _ h => h) (Or.inl ⟨by kernel_rfl, ?_⟩) ?_
        rotate_left
        · intro w; go_simp; with_reducible rfl
        refine wpAny_take (i := 11) (v := ?_) rfl (by kernel_rfl) (by kernel_rfl) (by kernel_rfl) (fun _ _ _ h => h) (Or.inl ⟨by kernel_rfl, ?_⟩) ?_
        rotate_left
        · intro w; go_simp; with_reducible rfl
        refine wpAny_ready (rs := [12]) (by kernel_rfl) (by simp) ?_
        refine AllReady.cons rfl (fun K hK => ?_) AllReady.nil
        go_simp
        refine hK _ _ ?_
        clear hK K
        refine wpAny_done (by kernel_rfl) ?_ _
        clear hA hN hOne h63 hby hbs hHH c0 f0 hne
        go_wp2
        go_roundw
        case rel =>
          refine ⟨k + 1, by omega, by go_num, ⟨acc ++ [s[k]], ?_, P.out.1, ?_⟩, P.out.2⟩
          · have := HDL.out; simp; omega
          · rw [← HLE.out, List.append_assoc, sl_snoc s k hlt]
        case measure => simp [intOf]; omega
      · go_simp
        refine hK _ _ ?_
        clear hK K
        refine wpAny_ready (rs := [4]) (by kernel_rfl) (by simp) ?_
        refine AllReady.cons rfl (fun K hK => ?_) AllReady.nil
        go_simp
        refine hK _ _ ?_
        clear hK K
        refine wpAny_ready (rs := [9]) (by kernel_rfl) (by simp) ?_
        refine AllReady.cons rfl (fun K hK => ?_) AllReady.nil
        rw [if_pos (by kernel_rfl)]
        refine wp_append_own _ (.tmp 15) (.tmp 19) 57 rfl (b + 1) 5 i0 (.int .u8 0) 1 1 Tryd.underlying57 hi hz0 hz1 hz2 rfl (by decide) (.slice ao acc.length cap) acc.length (byV acc) (by kernel_rfl) hA.out ⟨wr.heap.size, 0, none⟩ 1 1 [.int .u8 s[k].toNat] (by kernel_rfl) rfl hN.out hOne.out h63.out hby.out hbs.out ?_
        intro v' w3 hown' hgrow _
        obtain ⟨ao', cap', rfl⟩ := own_form hown'
        have gd : (wr.alloc (.cells #[.int .u8 s[k].toNat] 5)).grownBy w3 (Value.ownBlock (.slice ao acc.length cap)) := ⟨hgrow.os, hgrow.tape, hgrow.output, hgrow.size, hgrow.block⟩
        have m0 := (wr_cell HBK.out gd hrow.out).cell 0
        have n0 := (wr_cell HBK.out gd hrow.out).free 0
        have P := hid (wr_put HBK.out HB.out HOW.out gd hrow.out hown')
        clear hown' hgrow gd
        refine hK _ _ ?_
        clear hK K
        refine wpAny_take (i := 10) (v := ?_) rfl (by kernel_rfl) (by kernel_rfl) (by kernel_rfl) (fun _ _ _ h => h) (Or.inl ⟨by kernel_rfl, ?_⟩) ?_
        rotate_left
        · intro w; go_simp; with_reducible rfl
        refine wpAny_take (i := 11) (v := ?_) rfl (by kernel_rfl) (by kernel_rfl) (by kernel_rfl) (fun _ _ _ h => h) (Or.inl ⟨by kernel_rfl, ?_⟩) ?_
        rotate_left
        · intro w; go_simp; with_reducible rfl
        refine wpAny_ready (rs := [12]) (by kernel_rfl) (by simp) ?_
        refine AllReady.cons rfl (fun K hK => ?_) AllReady.nil
        go_simp
        refine hK _ _ ?_
        clear hK K
        refine wpAny_done (by kernel_rfl) ?_ _
        clear hA hN hOne h63 hby hbs hHH c0 f0 hne
        go_wp2
        go_roundw
        case rel =>
          refine ⟨k + 1, by omega, by go_num, ⟨acc ++ [s[k]], ?_, P.out.1, ?_⟩, P.out.2⟩
          · have := HDL.out; simp; omega
          · rw [← HLE.out, List.append_assoc, sl_snoc s k hlt]
        case measure => simp [intOf]; omega
    · go_wp2
      go_end0
      obtain ⟨acc, hdl, hw, hle⟩ := HD.out
      rw [List.take_of_length_le (by rw [sl_length]; omega)] at hle
      rw [hle]
      exact ⟨rfl, hw, HB.out⟩

theorem str_nums (l : List UInt8) : strOfNums (l.map fun c => (c.toNat : Int)) = bs l := by
  unfold strOfNums bs
  rw [List.map_map, List.map_congr_left (g := id) (fun c _ => by simp), List.map_id]

theorem own_convert {w : World} {base : Nat} {ao : Option Addr} {cap : Nat} {l : List UInt8} (h : w.ownsRow base 5 1 (.slice ao l.length cap) l.length (byV l)) :
    (convert 57 9 (.slice ao l.length cap)).run Tryd.prog w = .ok (.string (bs l)) w := by
  rcases h.2 with ⟨h1, h2⟩ | ⟨g, cap', cur, hv, _⟩
  · simp only [Value.slice.injEq] at h1
    obtain ⟨rfl, h3, rfl⟩ := h1
    have : l = [] := List.length_eq_zero_iff.1 h3
    subst this
    exact run_convert_bytes_nil w 57 5 Tryd.underlying57 Tryd.underlying5 _ _ 9 Tryd.underlying9
  · simp only [Value.slice.injEq] at hv
    obtain ⟨rfl, _, rfl⟩ := hv
    have := run_convert_bytes_arg (P := Tryd.prog) w 57 5 Tryd.underlying57 Tryd.underlying5 g 0 l.length cap (l.map fun c => (c.toNat : Int)) (by simp) (fun i hi => by
      have q := h.cellAt i (by omega)
      rw [Nat.zero_add, q]
      simp [byV, hi]) 9 Tryd.underlying9
    rw [str_nums] at this
    exact this

set_option maxHeartbeats 1000000 in
theorem wBytes_any (b : Nat) (l : List UInt8) (w : World) (h : WrAt w b l) :
    Calls Tryd.prog 31 #[.pointer (some ⟨b, 0, none⟩)] w fun e w' => e = .returned (.string (bs l)) ∧ w' = w := by
  obtain ⟨ao, cap, hblk, hown⟩ := h
  have c0 := hblk.cell 0
  have hr := own_convert hown
  clear hblk hown
  go_enter Tryd.func31, Tryd.ntmps31
  go_wp2
  go_ret
  exact ⟨rfl, rfl⟩

end Go.Proofs.YtafjgogdeinpcaaDoor

namespace Go.Proofs.YtafjgogdeinpcaaDoor
open Go.RowKit

/-- a list of numbers whose array is no Writer's -/
def IntsB (w : World) (b : Nat) (ao : Option Addr) (xs : List Int) : Prop :=
  0 < xs.length → ∃ g cs, ao = some ⟨g, 0, none⟩ ∧ g ≠ b ∧ BlkAt w g cs 3 ∧ ∀ i (h : i < xs.length), cs[i]? = some (.int .i64 xs[i])
theorem IntsB.kept {w w' : World} {b : Nat} {ao : Option Addr} {xs : List Int} (h : IntsB w b ao xs) (hk : Wk b w w') : IntsB w' b ao xs := by
  intro h0
  obtain ⟨g, cs, h1, h2, h3, h4⟩ := h h0
  exact ⟨g, cs, h1, h2, hk.2 g cs _ h2 (by decide) h3, h4⟩
theorem IntsB.of_own {w : World} {base b : Nat} {ao : Option Addr} {n cap : Nat} {xs : List Int} (h : w.ownsRow base 3 1 (.slice ao n cap) n (xs.map (Value.int .i64))) (hb : ∀ g, Value.ownBlock (.slice ao n cap) = some g → g ≠ b) : IntsB w b ao xs := by
  intro h0
  have hn : xs.length = n := by have := h.1; simpa using this
  rcases h.2 with ⟨h1, h2⟩ | ⟨g, cap', cur, hv, _, hh, _, _, hcs, htk⟩
  · simp at h1; omega
  · simp only [Value.slice.injEq] at hv
    obtain ⟨rfl, _, rfl⟩ := hv
    refine ⟨g, cur, rfl, hb g rfl, hh, fun i hi => ?_⟩
    have e : (cur.toList.take (n * 1))[i]? = (xs.map (Value.int .i64))[i]? := by rw [htk]
    rw [List.getElem?_take, if_pos (by omega)] at e
    rw [← Array.getElem?_toList, e]
    simp [hi]

theorem wNumber_lit (b : Nat) (n : Int) (size : Nat) (ms : Int) (hms : ms = (size : Int)) (l : List UInt8) (w : World) (h : WrAt w b l) (hl : l.length ≤ 16777216) (hs : size ≤ 4) (hn0 : -1099511627776 ≤ n) (hn1 : n ≤ 1099511627776) :
    Calls Tryd.prog 27 #[.pointer (some ⟨b, 0, none⟩), .int .i64 n, .int .i64 ms] w fun e w' => e = .returned (.tuple #[]) ∧ WrAt w' b (l ++ Lk.le n size) ∧ Wk b w w' := by
  subst hms; exact wNumber_any b n size l w h hl hs hn0 hn1

theorem nums_snoc (xs : List Int) (k size : Nat) (h : k < xs.length) : Lk.nums (xs.take (k + 1)) size = Lk.nums (xs.take k) size ++ Lk.le xs[k] size := by
  unfold Lk.nums
  rw [List.take_succ_eq_append_getElem h, List.flatMap_append]
  simp
theorem nums_length (xs : List Int) (size : Nat) : (Lk.nums xs size).length = xs.length * size := by
  unfold Lk.nums
  induction xs with
  | nil => simp
  | cons x t ih => simp only [List.flatMap_cons, List.length_append, ih, Lk.le_length, List.length_cons, Nat.succ_mul]; omega

set_option maxHeartbeats 2000000 in
theorem writeNumbers_any (b : Nat) (ao : Option Addr) (cap size : Nat) (ms : Int) (hms : ms = (size : Int)) (xs : List Int) (l : List UInt8) (w : World) (h : WrAt w b l) (hI : IntsB w b ao xs)
    (hl : l.length ≤ 1048576) (hs : size ≤ 4) (hn : xs.length ≤ 65535) (hx : ∀ i (h : i < xs.length), -1099511627776 ≤ xs[i] ∧ xs[i] ≤ 1099511627776) :
    Calls Tryd.prog 28 #[.pointer (some ⟨b, 0, none⟩), .slice ao xs.length cap, .int .i64 ms] w fun e w' => e = .returned (.tuple #[]) ∧ WrAt w' b (l ++ Lk.nums xs size) ∧ Wk b w w' := by
  subst hms
  have H := hid h
  have HI := hid hI
  have HX := hid hx
  clear h hI hx
  go_enter Tryd.func28, Tryd.ntmps28
  go_wp2
  go_loopw [10] (fun i wr => ∃ k : Nat, k ≤ xs.length ∧ i = .int .i64 k ∧ WrAt wr b (l ++ Lk.nums (xs.take k) size) ∧ Wk b w wr) (fun i _ => xs.length - (intOf i).toNat)
  case atStart => exact ⟨0, Nat.zero_le _, rfl, by simpa [Lk.nums] using H.out, Wk.refl _ _⟩
  case round =>
    obtain ⟨k, hk, rfl, hw, hbel⟩ := hrel
    have HW := hid hw
    have HB := hid hbel
    clear hw hbel
    by_cases hlt2 : k < xs.length
    · obtain ⟨g, cs, hao, -, hbk, hc⟩ := HI.out.kept HB.out (by omega)
      subst hao
      have hck := (hbk.cell k).trans (hc k hlt2)
      clear hbk
      have hxk := HX.out k hlt2
      have hlen : (l ++ Lk.nums (xs.take k) size).length ≤ 16777216 := by
        rw [List.length_append, nums_length, List.length_take_of_le (by omega)]
        have : k * size ≤ k * 4 := Nat.mul_le_mul_left k hs
        omega
      have cN := hid (fun W h => wNumber_any b xs[k] size (l ++ Lk.nums (xs.take k) size) W h hlen hs hxk.1 hxk.2)
      clear hc hlen
      go_wp2_with fail
      refine (cN.out _ HW.out).mono ?_
      rintro e w2 ⟨rfl, hw2, hb2⟩
      have HW2 := hid hw2
      have HB2 := hid (HB.out.trans hb2)
      clear hw2 hb2
      go_wp2
      go_roundw
      case rel => exact ⟨k + 1, by omega, by go_num, by rw [nums_snoc xs k size hlt2, ← List.append_assoc]; exact HW2.out, HB2.out⟩
      case measure => simp [intOf]; omega
    · go_wp2
      go_end0
      have e : xs.take k = xs := List.take_of_length_le (by omega)
      have hw := HW.out
      rw [e] at hw
      exact ⟨rfl, hw, HB.out⟩

/-- while a Writer in b gathers: what was gathered, a variable of the call's own in block v -/
structure St3 (w : World) (b v : Nat) (t : TypeId) (cs : Array Value) (l : List UInt8) (W : World) : Prop where
  wr : WrAt W b l
  own : BlkAt W v cs t
  wk : Wk b w W

theorem St3.begin {w : World} {b : Nat} {l : List UInt8} (h : WrAt w b l) (cs : Array Value) (t : TypeId) : St3 w b w.heap.size t cs l (w.alloc (.cells cs t)) := by
  obtain ⟨ao, cap, h1, h2⟩ := h
  exact ⟨⟨ao, cap, h1.grown (World.grownBy_alloc _ _ none) (by simp), h2.alloc _⟩, BlkAt.new _ _ _, (Wk.refl b w).alloc (Nat.le_of_lt h1.lt) _⟩
theorem St3.step {w W W' : World} {b v : Nat} {t : TypeId} {cs : Array Value} {l l' : List UInt8} (h : St3 w b v t cs l W) (hv : v ≠ b) (ht : t ≠ 5) (hw : WrAt W' b l') (hk : Wk b W W') : St3 w b v t cs l' W' :=
  ⟨hw, hk.2 v cs t hv ht h.own, h.wk.trans hk⟩

set_option maxHeartbeats 2000000 in
theorem writeSymbol_any (b : Nat) (y : Lk.Sym) (l : List UInt8) (w : World) (h : WrAt w b l) (hl : l.length ≤ 1048576) (hg : Lk.goodSym y) :
    Calls Tryd.prog 29 #[.pointer (some ⟨b, 0, none⟩), .agg #[.string (bs y.name), .int .i64 y.bind, .int .i64 y.sect, .int .i64 y.off]] w fun e w' => e = .returned (.tuple #[]) ∧ WrAt w' b (l ++ Lk.symB y) ∧ Wk b w w' := by
  obtain ⟨hn, ⟨hb0, hb1⟩, ⟨hs0, hs1⟩, ho0, ho1⟩ := hg
  have hvb : w.heap.size ≠ b := by obtain ⟨_, _, h1, _⟩ := h; have := h1.lt; omega
  have S0 := hid (St3.begin h #[.string (bs y.name), .int .i64 y.bind, .int .i64 y.sect, .int .i64 y.off] 46)
  have hsz : ((bs y.name).size : Int) = (y.name.length : Int) := by rw [bs_size]
  have hsz2 : (bs y.name).size = y.name.length := bs_size _
  have c1 := hid (fun W (h : WrAt W b l) => wNumber_lit b ((bs y.name).size : Int) 1 1 rfl l W h (by omega) (by omega) (by omega) (by omega))
  have c2 := hid (fun W (h : WrAt W b (l ++ Lk.le y.name.length 1)) => wText_any b (bs y.name) (l ++ Lk.le y.name.length 1) W h (by rw [List.length_append, Lk.le_length]; omega) (by omega))
  have c3 := hid (fun W (h : WrAt W b (l ++ Lk.le y.name.length 1 ++ y.name)) => wNumber_lit b y.bind 1 1 rfl (l ++ Lk.le y.name.length 1 ++ y.name) W h (by rw [List.length_append, List.length_append, Lk.le_length]; omega) (by omega) (by omega) (by omega))
  have c4 := hid (fun W (h : WrAt W b (l ++ Lk.le y.name.length 1 ++ y.name ++ Lk.le y.bind 1)) => wNumber_lit b y.sect 1 1 rfl (l ++ Lk.le y.name.length 1 ++ y.name ++ Lk.le y.bind 1) W h (by rw [List.length_append, List.length_append, List.length_append, Lk.le_length, Lk.le_length]; omega) (by omega) (by omega) (by omega))
  have c5 := hid (fun W (h : WrAt W b (l ++ Lk.le y.name.length 1 ++ y.name ++ Lk.le y.bind 1 ++ Lk.le y.sect 1)) => wNumber_lit b y.off 2 2 rfl (l ++ Lk.le y.name.length 1 ++ y.name ++ Lk.le y.bind 1 ++ Lk.le y.sect 1) W h (by rw [List.length_append, List.length_append, List.length_append, List.length_append, Lk.le_length, Lk.le_length, Lk.le_length]; omega) (by omega) (by omega) (by omega))
  have HS := hid hsz
  have HSL := hid (sl_bs y.name)
  clear h hsz hsz2
  go_enter Tryd.func29, Tryd.ntmps29
  go_wp2_with fail
  refine Calls.at_world (St3 w b w.heap.size 46 #[.string (bs y.name), .int .i64 y.bind, .int .i64 y.sect, .int .i64 y.off] l) S0.out ?_
  intro W1 s1
  refine (c1.out W1 s1.wr).mono ?_
  rintro e W2 ⟨rfl, hw, hk⟩
  rw [HS.out] at hw
  have S2 := hid (s1.step hvb (by decide) hw hk)
  have k0 := S2.out.own.cell 0
  clear hw hk s1
  go_wp2_with fail
  refine (c2.out W2 S2.out.wr).mono ?_
  rintro e W3 ⟨rfl, hw, hk⟩
  rw [HSL.out] at hw
  have S3 := hid (S2.out.step hvb (by decide) hw hk)
  have k1 := S3.out.own.cell 1
  clear hw hk k0
  go_wp2_with fail
  refine (c3.out W3 S3.out.wr).mono ?_
  rintro e W4 ⟨rfl, hw, hk⟩
  have S4 := hid (S3.out.step hvb (by decide) hw hk)
  have k2 := S4.out.own.cell 2
  clear hw hk k1
  go_wp2_with fail
  refine (c4.out W4 S4.out.wr).mono ?_
  rintro e W5 ⟨rfl, hw, hk⟩
  have S5 := hid (S4.out.step hvb (by decide) hw hk)
  have k3 := S5.out.own.cell 3
  clear hw hk k2
  go_wp2_with fail
  refine (c5.out W5 S5.out.wr).mono ?_
  rintro e W6 ⟨rfl, hw, hk⟩
  have S6 := hid (S5.out.step hvb (by decide) hw hk)
  clear hw hk k3
  go_wp2
  go_end0
  refine ⟨rfl, ?_, S6.out.wk⟩
  have := S6.out.wr
  simpa [Lk.symB] using this

end Go.Proofs.YtafjgogdeinpcaaDoor

namespace Go.Proofs.YtafjgogdeinpcaaDoor
open Go.RowKit

set_option maxHeartbeats 2000000 in
theorem writeReloc_any (b : Nat) (r : Lk.Rel) (l : List UInt8) (w : World) (h : WrAt w b l) (hl : l.length ≤ 1048576) (hg : Lk.goodRel r) :
    Calls Tryd.prog 30 #[.pointer (some ⟨b, 0, none⟩), .agg #[.int .i64 r.sect, .int .i64 r.off, .int .i64 r.kind, .int .i64 r.sym, .int .i64 r.addend]] w fun e w' => e = .returned (.tuple #[]) ∧ WrAt w' b (l ++ Lk.relB r) ∧ Wk b w w' := by
  obtain ⟨⟨hs0, hs1⟩, ⟨hk0, hk1⟩, ⟨ho0, ho1⟩, ⟨hy0, hy1⟩, ha0, ha1⟩ := hg
  have hvb : w.heap.size ≠ b := by obtain ⟨_, _, h1, _⟩ := h; have := h1.lt; omega
  have S1 := hid (St3.begin h #[.int .i64 r.sect, .int .i64 r.off, .int .i64 r.kind, .int .i64 r.sym, .int .i64 r.addend] 48)
  have c1 := hid (fun W (h : WrAt W b (l)) => wNumber_lit b r.sect 1 1 rfl (l) W h (by omega) (by omega) (by omega) (by omega))
  have c2 := hid (fun W (h : WrAt W b (l ++ Lk.le r.sect 1)) => wNumber_lit b r.kind 1 1 rfl (l ++ Lk.le r.sect 1) W h (by simp only [List.length_append, Lk.le_length]; omega) (by omega) (by omega) (by omega))
  have c3 := hid (fun W (h : WrAt W b (l ++ Lk.le r.sect 1 ++ Lk.le r.kind 1)) => wNumber_lit b r.off 2 2 rfl (l ++ Lk.le r.sect 1 ++ Lk.le r.kind 1) W h (by simp only [List.length_append, Lk.le_length]; omega) (by omega) (by omega) (by omega))
  have c4 := hid (fun W (h : WrAt W b (l ++ Lk.le r.sect 1 ++ Lk.le r.kind 1 ++ Lk.le r.off 2)) => wNumber_lit b r.sym 1 1 rfl (l ++ Lk.le r.sect 1 ++ Lk.le r.kind 1 ++ Lk.le r.off 2) W h (by simp only [List.length_append, Lk.le_length]; omega) (by omega) (by omega) (by omega))
  have c5 := hid (fun W (h : WrAt W b (l ++ Lk.le r.sect 1 ++ Lk.le r.kind 1 ++ Lk.le r.off 2 ++ Lk.le r.sym 1)) => wNumber_lit b r.addend 2 2 rfl (l ++ Lk.le r.sect 1 ++ Lk.le r.kind 1 ++ Lk.le r.off 2 ++ Lk.le r.sym 1) W h (by simp only [List.length_append, Lk.le_length]; omega) (by omega) (by omega) (by omega))
  clear h
  go_enter Tryd.func30, Tryd.ntmps30
  go_wp2_with fail
  refine Calls.at_world (St3 w b w.heap.size 48 #[.int .i64 r.sect, .int .i64 r.off, .int .i64 r.kind, .int .i64 r.sym, .int .i64 r.addend] l) S1.out ?_
  clear S1
  intro W1 s1
  have S1 := hid s1
  clear s1
  refine (c1.out W1 S1.out.wr).mono ?_
  rintro e W2 ⟨rfl, hw, hk⟩
  have S2 := hid (S1.out.step hvb (by decide) hw hk)
  clear hw hk
  have k2 := S2.out.own.cell 2
  go_wp2_with fail
  refine (c2.out W2 S2.out.wr).mono ?_
  rintro e W3 ⟨rfl, hw, hk⟩
  have S3 := hid (S2.out.step hvb (by decide) hw hk)
  clear hw hk k2
  have k3 := S3.out.own.cell 1
  go_wp2_with fail
  refine (c3.out W3 S3.out.wr).mono ?_
  rintro e W4 ⟨rfl, hw, hk⟩
  have S4 := hid (S3.out.step hvb (by decide) hw hk)
  clear hw hk k3
  have k4 := S4.out.own.cell 3
  go_wp2_with fail
  refine (c4.out W4 S4.out.wr).mono ?_
  rintro e W5 ⟨rfl, hw, hk⟩
  have S5 := hid (S4.out.step hvb (by decide) hw hk)
  clear hw hk k4
  have k5 := S5.out.own.cell 4
  go_wp2_with fail
  refine (c5.out W5 S5.out.wr).mono ?_
  rintro e W6 ⟨rfl, hw, hk⟩
  have S6 := hid (S5.out.step hvb (by decide) hw hk)
  clear hw hk k5
  go_wp2
  go_end0
  refine ⟨rfl, ?_, S6.out.wk⟩
  have := S6.out.wr
  simpa [Lk.relB] using this

def SymsB (w : World) (b : Nat) (ao : Option Addr) (ys : List Lk.Sym) : Prop :=
  0 < ys.length → ∃ g cs, ao = some ⟨g, 0, none⟩ ∧ g ≠ b ∧ BlkAt w g cs 46 ∧ ∀ i (h : i < ys.length), cs[i * 4]? = some (.string (bs ys[i].name)) ∧ cs[i * 4 + 1]? = some (.int .i64 ys[i].bind) ∧ cs[i * 4 + 2]? = some (.int .i64 ys[i].sect) ∧ cs[i * 4 + 3]? = some (.int .i64 ys[i].off)
theorem SymsB.kept {w w' : World} {b : Nat} {ao : Option Addr} {xs : List Lk.Sym} (h : SymsB w b ao xs) (hk : Wk b w w') : SymsB w' b ao xs := by
  intro h0
  obtain ⟨g, cs, h1, h2, h3, h4⟩ := h h0
  exact ⟨g, cs, h1, h2, hk.2 g cs _ h2 (by decide) h3, h4⟩
def RelsB (w : World) (b : Nat) (ao : Option Addr) (ys : List Lk.Rel) : Prop :=
  0 < ys.length → ∃ g cs, ao = some ⟨g, 0, none⟩ ∧ g ≠ b ∧ BlkAt w g cs 48 ∧ ∀ i (h : i < ys.length), cs[i * 5]? = some (.int .i64 ys[i].sect) ∧ cs[i * 5 + 1]? = some (.int .i64 ys[i].off) ∧ cs[i * 5 + 2]? = some (.int .i64 ys[i].kind) ∧ cs[i * 5 + 3]? = some (.int .i64 ys[i].sym) ∧ cs[i * 5 + 4]? = some (.int .i64 ys[i].addend)
theorem RelsB.kept {w w' : World} {b : Nat} {ao : Option Addr} {xs : List Lk.Rel} (h : RelsB w b ao xs) (hk : Wk b w w') : RelsB w' b ao xs := by
  intro h0
  obtain ⟨g, cs, h1, h2, h3, h4⟩ := h h0
  exact ⟨g, cs, h1, h2, hk.2 g cs _ h2 (by decide) h3, h4⟩

theorem own_blk {w : World} {base b : Nat} {e : TypeId} {size : Nat} {ao : Option Addr} {n cap : Nat} {xs : List Value} (h : w.ownsRow base e size (.slice ao n cap) n xs) (hn : 0 < n) (hb : ∀ g, Value.ownBlock (.slice ao n cap) = some g → g ≠ b) :
    ∃ g cs, ao = some ⟨g, 0, none⟩ ∧ g ≠ b ∧ BlkAt w g cs e ∧ ∀ j, j < n * size → cs[j]? = xs[j]? := by
  rcases h.2 with ⟨h1, h2⟩ | ⟨g, cap', cur, hv, _, hh, _, _, hcs, htk⟩
  · omega
  · simp only [Value.slice.injEq] at hv
    obtain ⟨rfl, _, rfl⟩ := hv
    refine ⟨g, cur, rfl, hb g rfl, hh, fun j hj => ?_⟩
    have e : (cur.toList.take (n * size))[j]? = xs[j]? := by rw [htk]
    rw [List.getElem?_take, if_pos hj] at e
    rw [← Array.getElem?_toList, e]

theorem flat_len {α : Type} (f : α → List Value) (size : Nat) (hf : ∀ x, (f x).length = size) (l : List α) : (l.flatMap f).length = l.length * size := by
  induction l with
  | nil => simp
  | cons y t ih => rw [List.flatMap_cons, List.length_append, ih, hf, List.length_cons, Nat.succ_mul]; omega

theorem SymsB.of_own {w : World} {base b : Nat} {ao : Option Addr} {n cap : Nat} {ys : List Lk.Sym} (h : w.ownsRow base 46 4 (.slice ao n cap) n (ys.flatMap symV)) (hb : ∀ g, Value.ownBlock (.slice ao n cap) = some g → g ≠ b) : SymsB w b ao ys := by
  intro h0
  have hl := flat_len symV 4 (fun _ => rfl) ys
  have hn : ys.length = n := by have := h.1; omega
  obtain ⟨g, cs, h1, h2, h3, h4⟩ := own_blk h (by omega) hb
  refine ⟨g, cs, h1, h2, h3, fun i hi => ?_⟩
  have q := fun j (hj : j < 4) => (h4 (i * 4 + j) (by omega)).trans (flat_get symV 4 (fun _ => rfl) ys i j hi hj)
  exact ⟨q 0 (by omega), q 1 (by omega), q 2 (by omega), q 3 (by omega)⟩
theorem RelsB.of_own {w : World} {base b : Nat} {ao : Option Addr} {n cap : Nat} {ys : List Lk.Rel} (h : w.ownsRow base 48 5 (.slice ao n cap) n (ys.flatMap relV)) (hb : ∀ g, Value.ownBlock (.slice ao n cap) = some g → g ≠ b) : RelsB w b ao ys := by
  intro h0
  have hl := flat_len relV 5 (fun _ => rfl) ys
  have hn : ys.length = n := by have := h.1; omega
  obtain ⟨g, cs, h1, h2, h3, h4⟩ := own_blk h (by omega) hb
  refine ⟨g, cs, h1, h2, h3, fun i hi => ?_⟩
  have q := fun j (hj : j < 5) => (h4 (i * 5 + j) (by omega)).trans (flat_get relV 5 (fun _ => rfl) ys i j hi hj)
  exact ⟨q 0 (by omega), q 1 (by omega), q 2 (by omega), q 3 (by omega), q 4 (by omega)⟩

end Go.Proofs.YtafjgogdeinpcaaDoor

namespace Go.Proofs.YtafjgogdeinpcaaDoor
open Go.RowKit

/-- an object whose memory is none of a Writer's in block b -/
structure ObjB (W : World) (b g : Nat) (o : Lk.Obj) (at_ : Option Addr) (ct : Nat) (af : Option Addr) (cf : Nat) (ad : Option Addr) (cd : Nat) (aa : Option Addr) (ca : Nat) (as_ : Option Addr) (cs : Nat) (ar : Option Addr) (cr : Nat) : Prop where
  blk : BlkAt W g #[.slice at_ o.text.length ct, .slice af o.far.length cf, .slice ad o.data.length cd, .int .i64 o.bss, .slice aa o.align.length ca, .slice as_ o.syms.length cs, .slice ar o.rels.length cr] 42
  ne : g ≠ b
  text : IntsB W b at_ o.text
  far : IntsB W b af o.far
  data : IntsB W b ad o.data
  align : IntsB W b aa o.align
  syms : SymsB W b as_ o.syms
  rels : RelsB W b ar o.rels

section
variable {W W' : World} {b g : Nat} {o : Lk.Obj} {at_ af ad aa as_ ar : Option Addr} {ct cf cd ca cs cr : Nat}
theorem ObjB.kept (h : ObjB W b g o at_ ct af cf ad cd aa ca as_ cs ar cr) (hk : Wk b W W') : ObjB W' b g o at_ ct af cf ad cd aa ca as_ cs ar cr :=
  ⟨hk.2 g _ _ h.ne (by decide) h.blk, h.ne, h.text.kept hk, h.far.kept hk, h.data.kept hk, h.align.kept hk, h.syms.kept hk, h.rels.kept hk⟩
end

theorem ObjAt.toB {W : World} {g : Nat} {o : Lk.Obj} (h : ObjAt W g o) (ob : Obj) : ∃ at_ ct af cf ad cd aa ca as_ cs ar cr, ObjB (W.alloc ob) W.heap.size g o at_ ct af cf ad cd aa ca as_ cs ar cr := by
  obtain ⟨at_, ct, af, cf, ad, cd, aa, ca, as_, cs, ar, cr, hb, h1, h2, h3, h4, h5, h6⟩ := h.open
  have ne : ∀ {e : TypeId} {size : Nat} {ao : Option Addr} {n cap : Nat} {xs : List Value}, W.ownsRow (g + 1) e size (.slice ao n cap) n xs → ∀ k, Value.ownBlock (.slice ao n cap) = some k → k ≠ W.heap.size := fun h k hk => by have := (h.lt k hk).2; omega
  refine ⟨at_, ct, af, cf, ad, cd, aa, ca, as_, cs, ar, cr, hb.grown (World.grownBy_alloc _ _ none) (by simp), by have := hb.lt; omega, ?_, ?_, ?_, ?_, ?_, ?_⟩
  · exact IntsB.of_own (h1.alloc _) (ne h1)
  · exact IntsB.of_own (h2.alloc _) (ne h2)
  · exact IntsB.of_own (h3.alloc _) (ne h3)
  · exact IntsB.of_own (h4.alloc _) (ne h4)
  · exact SymsB.of_own (h5.alloc _) (ne h5)
  · exact RelsB.of_own (h6.alloc _) (ne h6)

/-- while an object is written -/
structure St4 (w : World) (b g : Nat) (o : Lk.Obj) (at_ : Option Addr) (ct : Nat) (af : Option Addr) (cf : Nat) (ad : Option Addr) (cd : Nat) (aa : Option Addr) (ca : Nat) (as_ : Option Addr) (cs : Nat) (ar : Option Addr) (cr : Nat) (l : List UInt8) (W : World) : Prop where
  wr : WrAt W b l
  ob : ObjB W b g o at_ ct af cf ad cd aa ca as_ cs ar cr
  be : Below b w W

section
variable {w W W' : World} {b g : Nat} {o : Lk.Obj} {at_ af ad aa as_ ar : Option Addr} {ct cf cd ca cs cr : Nat} {l l' : List UInt8}
theorem St4.step (h : St4 w b g o at_ ct af cf ad cd aa ca as_ cs ar cr l W) (hw : WrAt W' b l') (hk : Wk b W W') : St4 w b g o at_ ct af cf ad cd aa ca as_ cs ar cr l' W' :=
  ⟨hw, h.ob.kept hk, h.be.trans hk.1⟩
end

theorem syms_snoc {α : Type} (f : α → List UInt8) (ys : List α) (k : Nat) (h : k < ys.length) : (ys.take (k + 1)).flatMap f = (ys.take k).flatMap f ++ f ys[k] := by
  rw [List.take_succ_eq_append_getElem h, List.flatMap_append]
  simp
theorem flat_le {α : Type} (f : α → List UInt8) (c : Nat) (ys : List α) (hf : ∀ y ∈ ys, (f y).length ≤ c) : (ys.flatMap f).length ≤ ys.length * c := by
  induction ys with
  | nil => simp
  | cons y t ih =>
    have h1 := hf y (by simp)
    have h2 := ih (fun z hz => hf z (by simp [hz]))
    rw [List.flatMap_cons, List.length_append, List.length_cons, Nat.succ_mul]
    omega
theorem flat_take_le {α : Type} (f : α → List UInt8) (c k : Nat) (ys : List α) (hf : ∀ y ∈ ys, (f y).length ≤ c) : ((ys.take k).flatMap f).length ≤ ys.length * c := by
  have h1 := flat_le f c (ys.take k) (fun y hy => hf y (List.mem_of_mem_take hy))
  have h2 : (ys.take k).length * c ≤ ys.length * c := Nat.mul_le_mul_right c (by simp; omega)
  omega
theorem symB_le (y : Lk.Sym) (h : Lk.goodSym y) : (Lk.symB y).length ≤ 260 := by
  have := h.1
  simp only [Lk.symB, List.length_append, Lk.le_length]
  omega
theorem relB_le (r : Lk.Rel) : (Lk.relB r).length ≤ 7 := by
  simp only [Lk.relB, List.length_append, Lk.le_length]
  omega

set_option maxHeartbeats 8000000 in
theorem write_yes (g : Nat) (o : Lk.Obj) (w : World) (ht : Tabs w) (h : ObjAt w g o) (hgood : Lk.goodObj o) (hv : Valid o) :
    Calls Tryd.prog 13 #[.pointer (some ⟨g, 0, none⟩)] w fun e w' => e = .returned (.tuple #[.string (bs (Lk.objB o)), .int .i64 0]) ∧ w.grownBy w' none := by
  have cV := hid (valid_any g o w ht h (good_tame hgood))
  have HV := hid hv
  have HO := hid h
  have HGO := hid hgood
  obtain ⟨z1, z2, z3, z4, z5, z6, z7, z8, z9, z10, z11, z12, z13⟩ := hgood
  obtain ⟨⟨s1, s2, s3⟩, s4, s5, s6⟩ := hv.1
  have HS := hid z9
  have HRL := hid z10
  have HW1 := hid z6
  have HWt := hid z11
  have HWf := hid z12
  have HWd := hid z13
  have z5a : o.align.length ≤ 4 := by omega
  clear ht h hv z9 z10 z6 z11 z12 z13 z5
  go_enter Tryd.func13, Tryd.ntmps13
  go_wp2_with fail
  refine cV.out.mono ?_
  rintro e W1 ⟨tv, q1⟩
  obtain rfl := tells_yes tv HV.out
  have Q1 := hid q1
  have HO1 := hid (HO.out.kept q1)
  clear tv q1 cV
  go_wp2_with fail
  obtain ⟨at_, ct, af, cf, ad, cd, aa, ca, as_, cs, ar, cr, hob⟩ := HO1.out.toB (.cells #[.slice none 0 0] 59)
  have S0 : Hid (St4 W1 W1.heap.size g o at_ ct af cf ad cd aa ca as_ cs ar cr [] (W1.alloc (.cells #[.slice none 0 0] 59))) := ⟨wrAt_new W1, hob, (Below.refl _ _).alloc (Nat.le_refl _) _⟩
  clear hob
  generalize hbb : W1.heap.size = b at *
  have HBB := hid hbb
  clear hbb
  refine Calls.at_world (St4 W1 b g o at_ ct af cf ad cd aa ca as_ cs ar cr []) S0.out ?_
  clear S0
  intro V0 h0
  have S0 := hid h0
  clear h0
  refine (wText_any b ⟨#[76, 75]⟩ [] V0 S0.out.wr (by simp) (by decide)).mono ?_
  rintro e V1 ⟨rfl, hw, hk⟩
  have S1 := hid (S0.out.step hw hk)
  clear S0
  generalize hE1 : [] ++ sl ⟨#[76, 75]⟩ = l1 at *
  have n1 : l1.length ≤ 2 := by rw [← hE1]; decide
  have E1 := hid hE1
  clear hE1 hw hk
  have k0 := S1.out.ob.blk.cell 0
  go_wp2_with fail
  refine (wNumber_lit b (o.text.length : Int) 2 2 rfl l1 V1 S1.out.wr (by omega) (by omega) (by omega) (by omega)).mono ?_
  rintro e V2 ⟨rfl, hw, hk⟩
  have S2 := hid (S1.out.step hw hk)
  clear S1 k0
  generalize hE2 : l1 ++ Lk.le (o.text.length : Int) 2 = l2 at *
  have n2 : l2.length ≤ 4 := by rw [← hE2, List.length_append, Lk.le_length]; omega
  have E2 := hid hE2
  clear hE2 hw hk
  have k0 := S2.out.ob.blk.cell 1
  go_wp2_with fail
  refine (wNumber_lit b (o.far.length : Int) 2 2 rfl l2 V2 S2.out.wr (by omega) (by omega) (by omega) (by omega)).mono ?_
  rintro e V3 ⟨rfl, hw, hk⟩
  have S3 := hid (S2.out.step hw hk)
  clear S2 k0
  generalize hE3 : l2 ++ Lk.le (o.far.length : Int) 2 = l3 at *
  have n3 : l3.length ≤ 6 := by rw [← hE3, List.length_append, Lk.le_length]; omega
  have E3 := hid hE3
  clear hE3 hw hk
  have k0 := S3.out.ob.blk.cell 2
  go_wp2_with fail
  refine (wNumber_lit b (o.data.length : Int) 2 2 rfl l3 V3 S3.out.wr (by omega) (by omega) (by omega) (by omega)).mono ?_
  rintro e V4 ⟨rfl, hw, hk⟩
  have S4 := hid (S3.out.step hw hk)
  clear S3 k0
  generalize hE4 : l3 ++ Lk.le (o.data.length : Int) 2 = l4 at *
  have n4 : l4.length ≤ 8 := by rw [← hE4, List.length_append, Lk.le_length]; omega
  have E4 := hid hE4
  clear hE4 hw hk
  have k0 := S4.out.ob.blk.cell 3
  go_wp2_with fail
  refine (wNumber_lit b o.bss 2 2 rfl l4 V4 S4.out.wr (by omega) (by omega) (by omega) (by omega)).mono ?_
  rintro e V5 ⟨rfl, hw, hk⟩
  have S5 := hid (S4.out.step hw hk)
  clear S4 k0
  generalize hE5 : l4 ++ Lk.le o.bss 2 = l5 at *
  have n5 : l5.length ≤ 10 := by rw [← hE5, List.length_append, Lk.le_length]; omega
  have E5 := hid hE5
  clear hE5 hw hk
  have k0 := S5.out.ob.blk.cell 4
  go_wp2_with fail
  refine (writeNumbers_any b aa ca 1 1 rfl o.align l5 V5 S5.out.wr S5.out.ob.align (by omega) (by omega) (by omega) (fun i hi => by have := HW1.out _ (List.getElem_mem hi); simp only [Int.reducePow] at this; omega)).mono ?_
  rintro e V6 ⟨rfl, hw, hk⟩
  have S6 := hid (S5.out.step hw hk)
  clear S5 k0
  generalize hE6 : l5 ++ Lk.nums o.align 1 = l6 at *
  have n6 : l6.length ≤ 14 := by rw [← hE6, List.length_append, nums_length]; omega
  have E6 := hid hE6
  clear hE6 hw hk
  have k0 := S6.out.ob.blk.cell 5
  go_wp2_with fail
  refine (wNumber_lit b (o.syms.length : Int) 1 1 rfl l6 V6 S6.out.wr (by omega) (by omega) (by omega) (by omega)).mono ?_
  rintro e V7 ⟨rfl, hw, hk⟩
  have S7 := hid (S6.out.step hw hk)
  clear S6 k0
  generalize hE7 : l6 ++ Lk.le (o.syms.length : Int) 1 = l7 at *
  have n7 : l7.length ≤ 15 := by rw [← hE7, List.length_append, Lk.le_length]; omega
  have E7 := hid hE7
  clear hE7 hw hk
  have k0 := S7.out.ob.blk.cell 6
  go_wp2_with fail
  refine (wNumber_lit b (o.rels.length : Int) 1 1 rfl l7 V7 S7.out.wr (by omega) (by omega) (by omega) (by omega)).mono ?_
  rintro e V8 ⟨rfl, hw, hk⟩
  have S8 := hid (S7.out.step hw hk)
  clear S7 k0
  generalize hE8 : l7 ++ Lk.le (o.rels.length : Int) 1 = l8 at *
  have n8 : l8.length ≤ 16 := by rw [← hE8, List.length_append, Lk.le_length]; omega
  have E8 := hid hE8
  clear hE8 hw hk
  have k0 := S8.out.ob.blk.cell 5
  go_wp2
  go_loopw [63] (fun i wr => ∃ n : Nat, n ≤ o.syms.length ∧ i = .int .i64 n ∧ St4 W1 b g o at_ ct af cf ad cd aa ca as_ cs ar cr (l8 ++ (o.syms.take n).flatMap Lk.symB) wr) (fun i _ => o.syms.length - (intOf i).toNat)
  case atStart => exact ⟨0, Nat.zero_le _, rfl, by simpa using S8.out⟩
  case round =>
    obtain ⟨n, hn, rfl, hst⟩ := hrel
    have ST := hid hst
    clear hst
    by_cases hlt : n < o.syms.length
    · obtain ⟨sg, bs0, hao, hne, hbk, hc⟩ := ST.out.ob.syms (by omega)
      subst hao
      obtain ⟨q0, q1, q2, q3⟩ := hc n hlt
      have m0 := (hbk.cell (n * 4)).trans q0
      have m1 := (hbk.cell (n * 4 + 1)).trans q1
      have m2 := (hbk.cell (n * 4 + 2)).trans q2
      have m3 := (hbk.cell (n * 4 + 3)).trans q3
      have hgl := hbk.lt
      have hwb : b < wr.heap.size := by obtain ⟨_, _, x1, _⟩ := ST.out.wr; exact x1.lt
      have hgd := HS.out _ (List.getElem_mem hlt)
      have hlen : (l8 ++ (o.syms.take n).flatMap Lk.symB).length ≤ 1048576 := by
        have := flat_take_le Lk.symB 260 n o.syms (fun y hy => symB_le y (HS.out y hy))
        rw [List.length_append]
        omega
      have STA := hid (St3.begin ST.out.wr #[.string (bs o.syms[n].name), .int .i64 o.syms[n].bind, .int .i64 o.syms[n].sect, .int .i64 o.syms[n].off] 46)
      have cW := hid (fun W hW => writeSymbol_any b o.syms[n] (l8 ++ (o.syms.take n).flatMap Lk.symB) W hW hlen hgd)
      clear hbk hc q0 q1 q2 q3 hgd hlen k0
      go_wp2_with fail
      refine (cW.out _ STA.out.wr).mono ?_
      rintro e W2 ⟨rfl, hw, hk⟩
      have S2 := hid (ST.out.step hw (STA.out.wk.trans hk))
      clear hw hk
      go_wp2
      go_roundw
      case rel => exact ⟨n + 1, by omega, by go_num, by rw [syms_snoc Lk.symB o.syms n hlt, ← List.append_assoc]; exact S2.out⟩
      case measure => simp [intOf]; omega
    · have S9' := ST.out
      rw [List.take_of_length_le (show o.syms.length ≤ n by omega)] at S9'
      have S9 := hid S9'
      clear S9' ST k0 S8
      generalize hE9 : l8 ++ o.syms.flatMap Lk.symB = l9 at *
      have n9 : l9.length ≤ 4176 := by
        have := flat_le Lk.symB 260 o.syms (fun y hy => symB_le y (HS.out y hy))
        rw [← hE9, List.length_append]
        omega
      have E9 := hid hE9
      clear hE9
      have k0 := S9.out.ob.blk.cell 6
      go_wp2
      go_loopw [75] (fun i wr => ∃ n : Nat, n ≤ o.rels.length ∧ i = .int .i64 n ∧ St4 W1 b g o at_ ct af cf ad cd aa ca as_ cs ar cr (l9 ++ (o.rels.take n).flatMap Lk.relB) wr) (fun i _ => o.rels.length - (intOf i).toNat)
      case atStart => exact ⟨0, Nat.zero_le _, rfl, by simpa using S9.out⟩
      case round =>
        obtain ⟨n, hn, rfl, hst⟩ := hrel
        have ST := hid hst
        clear hst
        by_cases hlt : n < o.rels.length
        · obtain ⟨sg, bs0, hao, hne, hbk, hc⟩ := ST.out.ob.rels (by omega)
          subst hao
          obtain ⟨q0, q1, q2, q3, q4⟩ := hc n hlt
          have m0 := (hbk.cell (n * 5)).trans q0
          have m1 := (hbk.cell (n * 5 + 1)).trans q1
          have m2 := (hbk.cell (n * 5 + 2)).trans q2
          have m3 := (hbk.cell (n * 5 + 3)).trans q3
          have m4 := (hbk.cell (n * 5 + 4)).trans q4
          have hgl := hbk.lt
          have hwb : b < wr.heap.size := by obtain ⟨_, _, x1, _⟩ := ST.out.wr; exact x1.lt
          have hgd := HRL.out _ (List.getElem_mem hlt)
          have hlen : (l9 ++ (o.rels.take n).flatMap Lk.relB).length ≤ 1048576 := by
            have := flat_take_le Lk.relB 7 n o.rels (fun y hy => relB_le y)
            rw [List.length_append]
            omega
          have STA := hid (St3.begin ST.out.wr #[.int .i64 o.rels[n].sect, .int .i64 o.rels[n].off, .int .i64 o.rels[n].kind, .int .i64 o.rels[n].sym, .int .i64 o.rels[n].addend] 48)
          have cW := hid (fun W hW => writeReloc_any b o.rels[n] (l9 ++ (o.rels.take n).flatMap Lk.relB) W hW hlen hgd)
          clear hbk hc q0 q1 q2 q3 q4 hgd hlen k0
          go_wp2_with fail
          refine (cW.out _ STA.out.wr).mono ?_
          rintro e W2 ⟨rfl, hw, hk⟩
          have S2 := hid (ST.out.step hw (STA.out.wk.trans hk))
          clear hw hk
          go_wp2
          go_roundw
          case rel => exact ⟨n + 1, by omega, by go_num, by rw [syms_snoc Lk.relB o.rels n hlt, ← List.append_assoc]; exact S2.out⟩
          case measure => simp [intOf]; omega
        · have S10' := ST.out
          rw [List.take_of_length_le (show o.rels.length ≤ n by omega)] at S10'
          have S10 := hid S10'
          clear S10' ST k0 S9
          generalize hE10 : l9 ++ o.rels.flatMap Lk.relB = l10 at *
          have n10 : l10.length ≤ 4400 := by
            have := flat_le Lk.relB 7 o.rels (fun y hy => relB_le y)
            rw [← hE10, List.length_append]
            omega
          have E10 := hid hE10
          clear hE10
          have k0 := S10.out.ob.blk.cell 0
          go_wp2_with fail
          refine (writeNumbers_any b at_ ct 4 4 rfl o.text l10 wr S10.out.wr S10.out.ob.text (by omega) (by omega) (by omega) (fun i hi => by have := HWt.out _ (List.getElem_mem hi); simp only [Int.reducePow] at this; omega)).mono ?_
          rintro e V11 ⟨rfl, hw, hk⟩
          have S11 := hid (S10.out.step hw hk)
          clear S10 k0
          generalize hE11 : l10 ++ Lk.nums o.text 4 = l11 at *
          have n11 : l11.length ≤ 9200 := by rw [← hE11, List.length_append, nums_length]; omega
          have E11 := hid hE11
          clear hE11 hw hk
          have k0 := S11.out.ob.blk.cell 1
          go_wp2_with fail
          refine (writeNumbers_any b af cf 4 4 rfl o.far l11 V11 S11.out.wr S11.out.ob.far (by omega) (by omega) (by omega) (fun i hi => by have := HWf.out _ (List.getElem_mem hi); simp only [Int.reducePow] at this; omega)).mono ?_
          rintro e V12 ⟨rfl, hw, hk⟩
          have S12 := hid (S11.out.step hw hk)
          clear S11 k0
          generalize hE12 : l11 ++ Lk.nums o.far 4 = l12 at *
          have n12 : l12.length ≤ 14000 := by rw [← hE12, List.length_append, nums_length]; omega
          have E12 := hid hE12
          clear hE12 hw hk
          have k0 := S12.out.ob.blk.cell 2
          go_wp2_with fail
          refine (writeNumbers_any b ad cd 4 4 rfl o.data l12 V12 S12.out.wr S12.out.ob.data (by omega) (by omega) (by omega) (fun i hi => by have := HWd.out _ (List.getElem_mem hi); simp only [Int.reducePow] at this; omega)).mono ?_
          rintro e V13 ⟨rfl, hw, hk⟩
          have S13 := hid (S12.out.step hw hk)
          clear S12 k0
          generalize hE13 : l12 ++ Lk.nums o.data 4 = l13 at *
          have n13 : l13.length ≤ 14256 := by rw [← hE13, List.length_append, nums_length]; omega
          have E13 := hid hE13
          clear hE13 hw hk
          go_wp2_with fail
          refine (wBytes_any b l13 V13 S13.out.wr).mono ?_
          rintro e V14 ⟨rfl, hv14⟩
          subst hv14
          go_wp2
          go_ret2
          have hfin : l13 = Lk.objB o := by
            rw [← E13.out, ← E12.out, ← E11.out, ← E10.out, ← E9.out, ← E8.out, ← E7.out, ← E6.out, ← E5.out, ← E4.out, ← E3.out, ← E2.out, ← E1.out]
            simp [Lk.objB, sl]
          refine ⟨by rw [hfin]; rfl, ?_⟩
          have hb := S13.out.be
          exact ⟨hb.os.trans Q1.out.os, hb.tape.trans Q1.out.tape, hb.output.trans Q1.out.output, Nat.le_trans Q1.out.size hb.size, fun i hi _ => (hb.block i (by have := Q1.out.size; have := HBB.out; omega)).trans (Q1.out.block i hi (by simp))⟩

end Go.Proofs.YtafjgogdeinpcaaDoor
