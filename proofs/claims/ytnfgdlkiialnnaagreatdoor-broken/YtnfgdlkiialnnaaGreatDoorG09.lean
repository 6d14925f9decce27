/- Walks over package wire's Writer. -/
/- Walks over package wire's Writer: Text, Bytes. -/
/- Walks over package object: the writers. -/
/- Walks over the document's answer: numbers and parts of a file. -/
/- The plain side: what is valid fits its bytes. -/
/- The plain side: what the document's Parse takes out of bytes, and that it takes an object's parts out of an object's bytes. -/
/- The plain side: what is valid fits its bytes; what the document's Parse answers, and what Read answers. -/
/- The plain side: archives. -/
/- Walks over package archive: Members. -/
import Derived.Test.YtnfgdlkiialnnaaGreatDoorG03
import Derived.Deep.RegionLaw
import Derived.Deep.AppendLies
import Derived.Test.YtnfgdlkiialnnaaGreatDoorG06
import Derived.Test.YtnfgdlkiialnnaaGreatDoorG04
namespace Go.Proofs.YtnfgdlkiialnnaaGreatDoor
open Go.RowKit

theorem Tryz.infoU8 : (Tryz.prog.info? 5).map (fun i => (i.zero, i.size, i.bytes)) = some (some (.int .u8 0), 1, 1) := by kernel_rfl

def byV (l : List UInt8) : List Value := l.map fun c => .int .u8 c.toNat

/-- a Writer lies in block b and has gathered l -/
def WrAt (W : World) (b : Nat) (l : List UInt8) : Prop :=
 ∃ ao cap, BlkAt W b #[.slice ao l.length cap] 57 ∧ W.ownsRow (b + 1) 5 1 (.slice ao l.length cap) l.length (byV l)

theorem wrAt_new (W : World) : WrAt (W.alloc (.cells #[.slice none 0 0] 57)) W.heap.size [] :=
 ⟨none, 0, BlkAt.new W _ _, World.ownsRow_nil _ _ _ _⟩

theorem i64_and255 (n : Int) : bits .and .i64 n 255 = n % 256 := by
 have h255 : (BitVec.ofInt 64 255).toNat = 2 ^ 8 - 1 := by decide
 have key : (BitVec.ofInt 64 n &&& BitVec.ofInt 64 255).toNat = (n % ((2 ^ 64 : Nat) : Int)).toNat % 2 ^ 8 := by
  rw [BitVec.toNat_and, BitVec.toNat_ofInt, h255, Nat.and_two_pow_sub_one_eq_mod]
 show IntKind.i64.wrap ((BitVec.ofInt 64 n &&& BitVec.ofInt 64 255).toNat : Nat) = n % 256
 rw [key, IntKind.wrap_i64]
 omega

def lowB (x : Int) : UInt8 := UInt8.ofNat (x % 256).toNat
theorem lowB_int (x : Int) : ((lowB x).toNat : Int) = bits .and .i64 x 255 % 256 := by
 rw [i64_and255]
 unfold lowB
 rw [UInt8.toNat_ofNat']
 omega

theorem lowB_own {w : World} {base : Nat} {v : Value} {n : Nat} {xs : List Value} {x : Int} (h : w.ownsRow base 5 1 v n (xs ++ [.int .u8 (bits .and .i64 x 255 % 256)])) : w.ownsRow base 5 1 v n (xs ++ [.int .u8 (lowB x).toNat]) := by
 rw [lowB_int]; exact h

/-- but for block b, what holds no bytes is as it was -/
def KeepT (b : Nat) (w w' : World) : Prop := ∀ k cs t, k ≠ b → t ≠ 5 → BlkAt w k cs t → BlkAt w' k cs t
theorem KeepT.refl (b : Nat) (w : World) : KeepT b w w := fun _ _ _ _ _ h => h
theorem KeepT.trans {b : Nat} {x y z : World} (h : KeepT b x y) (k : KeepT b y z) : KeepT b x z := fun i cs t hi ht hb => k i cs t hi ht (h i cs t hi ht hb)

/-- below b all is as it was; and of the rest what holds no bytes -/
def Wk (b : Nat) (w w' : World) : Prop := Below b w w' ∧ KeepT b w w'
theorem Wk.refl (b : Nat) (w : World) : Wk b w w := ⟨Below.refl _ _, KeepT.refl _ _⟩
theorem Wk.trans {b : Nat} {x y z : World} (h : Wk b x y) (k : Wk b y z) : Wk b x z := ⟨h.1.trans k.1, h.2.trans k.2⟩
theorem Wk.alloc {b : Nat} {x y : World} (h : Wk b x y) (hb : b ≤ y.heap.size) (o : Obj) : Wk b x (y.alloc o) :=
 ⟨h.1.alloc hb o, h.2.trans fun _ _ _ _ _ hk => hk.grown (World.grownBy_alloc y o none) (by simp)⟩

theorem keep_put {wr w1 : World} {b : Nat} {o : Obj} {base : Nat} {v0 : Value} {n : Nat} {xs : List Value} (hown : wr.ownsRow base 5 1 v0 n xs) (hg : (wr.alloc o).grownBy w1 v0.ownBlock) (v : Value) : KeepT b wr (w1.setCell ⟨b, 0, none⟩ v) := by
 intro k cs t hk ht hb
 have h1 := hb.grown (World.grownBy_alloc wr o none) (by simp)
 have h2 : BlkAt w1 k cs t := h1.grown hg (by
  rcases hown.2 with ⟨rfl, _⟩ | ⟨g, cap, cur, rfl, _, hh, _⟩
  ·simp [Value.ownBlock]
  ·intro e
   simp only [Value.ownBlock, Option.some.injEq] at e
   subst e
   unfold BlkAt at hb
   rw [hb] at hh
   simp only [Option.some.injEq, Obj.cells.injEq] at hh
   exact ht hh.2.1)
 exact h2.grown (grown_set w1 b 0 v) (by simpa using hk)

/-- behind an append into the Writer's list, and the store of the list -/
theorem wr_put {w wr w1 : World} {b : Nat} {l : List UInt8} {ao : Option Addr} {cap : Nat} {o : Obj} {v : Value} {c : UInt8} (hb : BlkAt wr b #[.slice ao l.length cap] 57) (hwk : Wk b w wr) (hown0 : wr.ownsRow (b + 1) 5 1 (.slice ao l.length cap) l.length (byV l))
  (hg : (wr.alloc o).grownBy w1 (Value.ownBlock (.slice ao l.length cap))) (hrow : ∀ g, Value.ownBlock (.slice ao l.length cap) = some g → b + 1 ≤ g) (hown : w1.ownsRow (b + 1) 5 1 v (l.length + 1) (byV l ++ [.int .u8 c.toNat])) :
  WrAt (w1.setCell ⟨b, 0, none⟩ v) b (l ++ [c]) ∧ Wk b w (w1.setCell ⟨b, 0, none⟩ v) := by
 have hkt := keep_put (b := b) hown0 hg v
 have hB1 : BlkAt w1 b #[.slice ao l.length cap] 57 := (hb.grown (World.grownBy_alloc wr o none) (by simp)).grown hg (fun e => by have := hrow b e.symm; omega)
 obtain ⟨ao', cap', rfl⟩ := own_form hown
 have hlen : (l ++ [c]).length = l.length + 1 := by simp
 refine ⟨⟨ao', cap', ?_, ?_⟩, ?_⟩
 ·rw [hlen]
  exact hB1.set 0 _
 ·have e : byV (l ++ [c]) = byV l ++ [.int .u8 c.toNat] := by simp [byV]
  rw [hlen, e]
  exact ownsRow_setCell_below hown (Nat.lt_succ_self b) _
 ·refine ⟨?_, hwk.2.trans hkt⟩
  exact ((hwk.1.alloc (Nat.le_of_lt hb.lt) o).grown hg (by have := hb.lt; simp; omega) (fun g hg => by have := hrow g hg; omega)).setCell (Nat.le_refl b) _

theorem wr_cell {wr w1 : World} {b : Nat} {cs : Array Value} {t : TypeId} {o : Obj} {row : Option Nat} (hb : BlkAt wr b cs t) (hg : (wr.alloc o).grownBy w1 row) (hrow : ∀ g, row = some g → b + 1 ≤ g) : BlkAt w1 b cs t :=
 (hb.grown (World.grownBy_alloc wr o none) (by simp)).grown hg (fun e => by have := hrow b e.symm; omega)

set_option maxHeartbeats 1000000 in
theorem wNumber_any (b : Nat) (n : Int) (size : Nat) (l : List UInt8) (w : World) (h : WrAt w b l) (hl : l.length ≤ 16777216) (hs : size ≤ 4) (hn0 : -1099511627776 ≤ n) (hn1 : n ≤ 1099511627776) :
  Calls Tryz.prog 32 #[.pointer (some ⟨b, 0, none⟩), .int .i64 n, .int .i64 size] w fun e w' => e = .returned (.tuple #[]) ∧ WrAt w' b (l ++ Lk.le n size) ∧ Wk b w w' := by
 obtain ⟨i0, hi, hz0, hz1, hz2⟩ := info_parts Tryz.infoU8
 have H := hid h
 clear h
 go_enter Tryz.func32, Tryz.ntmps32
 go_wp2
 go_loopw [1, 6] (fun m i wr => ∃ (k : Nat) (x : Int), k ≤ size ∧ i = .int .i64 k ∧ m = .int .i64 x ∧ -1099511627776 ≤ x ∧ x ≤ 1099511627776 ∧ (∃ acc : List UInt8, acc.length = l.length + k ∧ WrAt wr b acc ∧ l ++ Lk.le n size = acc ++ Lk.le x (size - k)) ∧ Wk b w wr) (fun _ i _ => size - (intOf i).toNat)
 case atStart => exact ⟨0, n, Nat.zero_le _, rfl, rfl, hn0, hn1, ⟨l, rfl, H.out, by simp⟩, Wk.refl _ _⟩
 case round =>
  obtain ⟨k, x, hk, rfl, rfl, hx0, hx1, hdone, hbel⟩ := hrel
  have HD := hid hdone
  have HB := hid hbel
  clear hdone hbel
  by_cases hlt : k < size
  ·obtain ⟨acc, hdl, hw, hle⟩ := HD.out
   obtain ⟨ao, cap, hblk, hown⟩ := hw
   have c0 := hblk.cell 0
   have f0 := hblk.free 0
   have hbl := hblk.lt
   have HBK := hid hblk
   have HLE := hid hle
   have HDL := hid hdl
   have hdl2 : acc.length ≤ 16777220 := by omega
   have hrow := hid (show ∀ g, Value.ownBlock (.slice ao acc.length cap) = some g → b + 1 ≤ g from fun g hg => (hown.lt g hg).1)
   clear hblk hle hdl HD
   go_wp2_with (at_builtin; refine wpList_append_own _ rfl _ _ 48 rfl (b + 1) 5 i0 (.int .u8 0) 1 1 Tryz.underlying48 hi hz0 hz1 hz2 rfl (by decide) (.slice ao acc.length cap) acc.length (byV acc) rfl (hown.alloc _) ⟨wr.heap.size, 0, none⟩ 1 1 [.int .u8 (bits .and .i64 x 255 % 256)] rfl rfl (cell_one_new _ _ _) (by intro u hu; simp at hu; subst hu; rfl) (by unfold maxLen; omega) (by omega) (by simp; omega) ?_; intro v' w3 hown' hgrow _; obtain ⟨ao', cap', rfl⟩ := own_form hown'; have m0 := (wr_cell HBK.out hgrow hrow.out).cell 0; have n0 := (wr_cell HBK.out hgrow hrow.out).free 0; have P := hid (wr_put HBK.out HB.out hown hgrow hrow.out (lowB_own hown')); clear hown' hgrow hown c0 f0)
   go_roundw
   case rel =>
    refine ⟨k + 1, x / 256, by omega, by go_num, rfl, by omega, by omega, ⟨acc ++ [lowB x], ?_, P.out.1, ?_⟩, P.out.2⟩
    ·have := HDL.out; simp; omega
    ·have e : size - k = (size - (k + 1)) + 1 := by omega
     rw [HLE.out, e]
     simp [Lk.le, lowB]
   case measure => simp [intOf]; omega
  ·go_wp2
   go_end0
   obtain ⟨acc, hdl, hw, hle⟩ := HD.out
   have e : size - k = 0 := by omega
   rw [e] at hle
   simp only [Lk.le, List.append_nil] at hle
   rw [hle]
   exact ⟨rfl, hw, HB.out⟩

end Go.Proofs.YtnfgdlkiialnnaaGreatDoor

namespace Go.Proofs.YtnfgdlkiialnnaaGreatDoor
open Go.RowKit

theorem sl_snoc (s : ByteArray) (k : Nat) (h : k < s.size) : (sl s).take (k + 1) = (sl s).take k ++ [s[k]] := by
 have h' : k < s.data.toList.length := by rw [Array.length_toList]; exact h
 unfold sl
 rw [List.take_succ_eq_append_getElem h']
 rfl

set_option maxHeartbeats 2000000 in
theorem wText_any (b : Nat) (s : ByteArray) (l : List UInt8) (w : World) (h : WrAt w b l) (hl : l.length ≤ 16777216) (hs : s.size ≤ 1048576) :
  Calls Tryz.prog 31 #[.pointer (some ⟨b, 0, none⟩), .string s] w fun e w' => e = .returned (.tuple #[]) ∧ WrAt w' b (l ++ sl s) ∧ Wk b w w' := by
 obtain ⟨i0, hi, hz0, hz1, hz2⟩ := info_parts Tryz.infoU8
 have H := hid h
 clear h
 go_enter Tryz.func31, Tryz.ntmps31
 go_wp2
 go_loopw [4] (fun i wr => ∃ (k : Nat), k ≤ s.size ∧ i = .int .i64 k ∧ (∃ acc : List UInt8, acc.length = l.length + k ∧ WrAt wr b acc ∧ l ++ (sl s).take k = acc) ∧ Wk b w wr) (fun i _ => s.size - (intOf i).toNat)
 case atStart => exact ⟨0, Nat.zero_le _, rfl, ⟨l, rfl, H.out, by simp⟩, Wk.refl _ _⟩
 case round =>
  obtain ⟨k, hk, rfl, hdone, hbel⟩ := hrel
  have HD := hid hdone
  have HB := hid hbel
  clear hdone hbel
  by_cases hlt : k < s.size
  ·obtain ⟨acc, hdl, hw, hle⟩ := HD.out
   obtain ⟨ao, cap, hblk, hown⟩ := hw
   have c0 := hblk.cell 0
   have f0 := hblk.free 0
   have hbl := hblk.lt
   have HBK := hid hblk
   have HLE := hid hle
   have HDL := hid hdl
   have hdl2 : acc.length ≤ 33554432 := by omega
   have hrow := hid (show ∀ g, Value.ownBlock (.slice ao acc.length cap) = some g → b + 1 ≤ g from fun g hg => (hown.lt g hg).1)
   have HOW := hid hown
   have hne := World.new_ne wr ⟨b, 0, none⟩ (by simpa using c0)
   have g1 : (0 : Int) ≤ (k : Int) := by omega
   have g2 : (k : Int) < (s.size : Int) := by omega
   have hA : Hid ((wr.alloc (.cells #[.int .u8 s[k].toNat] 5)).drew.ownsRow (b + 1) 5 1 (.slice ao acc.length cap) acc.length (byV acc)) := (hown.alloc _).drew
   have hN : Hid (∀ j u, [Value.int .u8 s[k].toNat][j]? = some u → (wr.alloc (.cells #[.int .u8 s[k].toNat] 5)).drew.cell? ((⟨wr.heap.size, 0, none⟩ : Addr).add j) = some u) := World.news_of_block (heap_alloc_new wr (.cells #[.int .u8 s[k].toNat] 5))
   have hOne : Hid (∀ u ∈ [Value.int .u8 (s[k].toNat : Int)], u.oneCell' = true) := by intro u hu; simp at hu; subst hu; rfl
   have h63 : Hid (acc.length + 1 ≤ maxLen) := by show _ ≤ _; unfold maxLen; omega
   have hby : Hid ((acc.length + 1) * 1 ≤ 140737488355328) := by show _ ≤ _; omega
   have hbs : Hid (b + 1 ≤ (wr.alloc (.cells #[.int .u8 s[k].toNat] 5)).drew.heap.size) := by show _ ≤ _; simp; omega
   have hHH : Hid ((wr.alloc (.cells #[.int .u8 s[k].toNat] 5)).drew.heap.size = wr.heap.size + 1) := by show _ = _; simp
   clear hblk hle hdl HD hown
   go_wp2
   refine wp_region_any (by kernel_rfl) ?_
   change wpAny _ Region.Mode.any _ _ _ _ _ wr.drew
   refine wpAny_take (i := 0) (v := ?_) rfl (by kernel_rfl) (by kernel_rfl) (by kernel_rfl) (fun _ _ _ h => h) (Or.inl ⟨by kernel_rfl, ?_⟩) ?_
   rotate_left
   ·intro w; go_simp; with_reducible rfl
   refine wpAny_take (i := 1) (v := ?_) rfl (by kernel_rfl) (by kernel_rfl) (by kernel_rfl) (fun _ _ _ h => h) (Or.inl ⟨by kernel_rfl, ?_⟩) ?_
   rotate_left
   ·intro w; go_simp; with_reducible rfl
   refine wpAny_take (i := 2) (v := ?_) rfl (by kernel_rfl) (by kernel_rfl) (by kernel_rfl) (fun _ _ _ h => h) (Or.inl ⟨by kernel_rfl, ?_⟩) ?_
   rotate_left
   ·intro w; go_simp; with_reducible rfl
   refine wpAny_take (i := 3) (v := ?_) rfl (by kernel_rfl) (by kernel_rfl) (by kernel_rfl) (fun _ _ _ h => h) (Or.inl ⟨by kernel_rfl, ?_⟩) ?_
   rotate_left
   ·intro w; go_simp; with_reducible rfl
   refine wpAny_take (i := 5) (v := ?_) rfl (by kernel_rfl) (by kernel_rfl) (by kernel_rfl) (fun _ _ _ h => h) (Or.inl ⟨by kernel_rfl, ?_⟩) ?_
   rotate_left
   ·intro w; go_simp; with_reducible rfl
   refine wpAny_take (i := 6) (v := ?_) rfl (by kernel_rfl) (by kernel_rfl) (by kernel_rfl) (fun _ _ _ h => h) (Or.inl ⟨by kernel_rfl, ?_⟩) ?_
   rotate_left
   ·intro w; go_simp; with_reducible rfl
   refine wpAny_take (i := 7) (v := ?_) rfl (by kernel_rfl) (by kernel_rfl) (by kernel_rfl) (fun _ _ _ h => h) (Or.inl ⟨by kernel_rfl, ?_⟩) ?_
   rotate_left
   ·intro w; go_simp; with_reducible rfl
   refine wpAny_ready (rs := [4, 8]) (by kernel_rfl) (by simp) ?_
   refine AllReady.cons rfl (fun K hK => ?_) (AllReady.cons rfl (fun K hK => ?_) AllReady.nil)
   ·go_simp
    refine hK _ _ ?_
    clear hK K
    refine wpAny_ready (rs := [8]) (by kernel_rfl) (by simp) ?_
    refine AllReady.cons rfl (fun K hK => ?_) AllReady.nil
    go_simp
    refine hK _ _ ?_
    clear hK K
    refine wpAny_ready (rs := [9]) (by kernel_rfl) (by simp) ?_
    refine AllReady.cons rfl (fun K hK => ?_) AllReady.nil
    rw [if_pos (by kernel_rfl)]
    refine wp_append_own _ (.tmp 15) (.tmp 19) 48 rfl (b + 1) 5 i0 (.int .u8 0) 1 1 Tryz.underlying48 hi hz0 hz1 hz2 rfl (by decide) (.slice ao acc.length cap) acc.length (byV acc) (by kernel_rfl) hA.out ⟨wr.heap.size, 0, none⟩ 1 1 [.int .u8 s[k].toNat] (by kernel_rfl) rfl hN.out hOne.out h63.out hby.out hbs.out ?_
    intro v' w3 hown' hgrow _
    obtain ⟨ao', cap', rfl⟩ := own_form hown'
    have gd : (wr.alloc (.cells #[.int .u8 s[k].toNat] 5)).grownBy w3 (Value.ownBlock (.slice ao acc.length cap)) := ⟨hgrow.os, hgrow.tape, hgrow.output, hgrow.size, hgrow.block⟩
    have m0 := (wr_cell HBK.out gd hrow.out).cell 0
    have n0 := (wr_cell HBK.out gd hrow.out).free 0
    have P := hid (wr_put HBK.out HB.out HOW.out gd hrow.out hown')
    clear hown' hgrow gd
    refine hK _ _ ?_
    clear hK K
    refine wpAny_take (i := 10) (v := ?_) rfl (by kernel_rfl) (by kernel_rfl) (by kernel_rfl) (fun _ _ _ h => h) (Or.inl ⟨by kernel_rfl, ?_⟩) ?_
    rotate_left
    ·intro w; go_simp; with_reducible rfl
    refine wpAny_take (i := 11) (v := ?_) rfl (by kernel_rfl) (by kernel_rfl) (by kernel_rfl) (fun _ _ _ h => h) (Or.inl ⟨by kernel_rfl, ?_⟩) ?_
    rotate_left
    ·intro w; go_simp; with_reducible rfl
    refine wpAny_ready (rs := [12]) (by kernel_rfl) (by simp) ?_
    refine AllReady.cons rfl (fun K hK => ?_) AllReady.nil
    go_simp
    refine hK _ _ ?_
    clear hK K
    refine wpAny_done (by kernel_rfl) ?_ _
    clear hA hN hOne h63 hby hbs hHH c0 f0 hne
    go_wp2
    go_roundw
    case rel =>
     refine ⟨k + 1, by omega, by go_num, ⟨acc ++ [s[k]], ?_, P.out.1, ?_⟩, P.out.2⟩
     ·have := HDL.out; simp; omega
     ·rw [← HLE.out, List.append_assoc, sl_snoc s k hlt]
    case measure => simp [intOf]; omega
   ·go_simp
    refine hK _ _ ?_
    clear hK K
    refine wpAny_ready (rs := [4]) (by kernel_rfl) (by simp) ?_
    refine AllReady.cons rfl (fun K hK => ?_) AllReady.nil
    go_simp
    refine hK _ _ ?_
    clear hK K
    refine wpAny_ready (rs := [9]) (by kernel_rfl) (by simp) ?_
    refine AllReady.cons rfl (fun K hK => ?_) AllReady.nil
    rw [if_pos (by kernel_rfl)]
    refine wp_append_own _ (.tmp 15) (.tmp 19) 48 rfl (b + 1) 5 i0 (.int .u8 0) 1 1 Tryz.underlying48 hi hz0 hz1 hz2 rfl (by decide) (.slice ao acc.length cap) acc.length (byV acc) (by kernel_rfl) hA.out ⟨wr.heap.size, 0, none⟩ 1 1 [.int .u8 s[k].toNat] (by kernel_rfl) rfl hN.out hOne.out h63.out hby.out hbs.out ?_
    intro v' w3 hown' hgrow _
    obtain ⟨ao', cap', rfl⟩ := own_form hown'
    have gd : (wr.alloc (.cells #[.int .u8 s[k].toNat] 5)).grownBy w3 (Value.ownBlock (.slice ao acc.length cap)) := ⟨hgrow.os, hgrow.tape, hgrow.output, hgrow.size, hgrow.block⟩
    have m0 := (wr_cell HBK.out gd hrow.out).cell 0
    have n0 := (wr_cell HBK.out gd hrow.out).free 0
    have P := hid (wr_put HBK.out HB.out HOW.out gd hrow.out hown')
    clear hown' hgrow gd
    refine hK _ _ ?_
    clear hK K
    refine wpAny_take (i := 10) (v := ?_) rfl (by kernel_rfl) (by kernel_rfl) (by kernel_rfl) (fun _ _ _ h => h) (Or.inl ⟨by kernel_rfl, ?_⟩) ?_
    rotate_left
    ·intro w; go_simp; with_reducible rfl
    refine wpAny_take (i := 11) (v := ?_) rfl (by kernel_rfl) (by kernel_rfl) (by kernel_rfl) (fun _ _ _ h => h) (Or.inl ⟨by kernel_rfl, ?_⟩) ?_
    rotate_left
    ·intro w; go_simp; with_reducible rfl
    refine wpAny_ready (rs := [12]) (by kernel_rfl) (by simp) ?_
    refine AllReady.cons rfl (fun K hK => ?_) AllReady.nil
    go_simp
    refine hK _ _ ?_
    clear hK K
    refine wpAny_done (by kernel_rfl) ?_ _
    clear hA hN hOne h63 hby hbs hHH c0 f0 hne
    go_wp2
    go_roundw
    case rel =>
     refine ⟨k + 1, by omega, by go_num, ⟨acc ++ [s[k]], ?_, P.out.1, ?_⟩, P.out.2⟩
     ·have := HDL.out; simp; omega
     ·rw [← HLE.out, List.append_assoc, sl_snoc s k hlt]
    case measure => simp [intOf]; omega
  ·go_wp2
   go_end0
   obtain ⟨acc, hdl, hw, hle⟩ := HD.out
   rw [List.take_of_length_le (by rw [sl_length]; omega)] at hle
   rw [hle]
   exact ⟨rfl, hw, HB.out⟩

theorem str_nums (l : List UInt8) : strOfNums (l.map fun c => (c.toNat : Int)) = bs l := by
 unfold strOfNums bs
 rw [List.map_map, List.map_congr_left (g := id) (fun c _ => by simp), List.map_id]

theorem own_convert {w : World} {base : Nat} {ao : Option Addr} {cap : Nat} {l : List UInt8} (h : w.ownsRow base 5 1 (.slice ao l.length cap) l.length (byV l)) :
  (convert 48 9 (.slice ao l.length cap)).run Tryz.prog w = .ok (.string (bs l)) w := by
 rcases h.2 with ⟨h1, h2⟩ | ⟨g, cap', cur, hv, _⟩
 ·simp only [Value.slice.injEq] at h1
  obtain ⟨rfl, h3, rfl⟩ := h1
  have : l = [] := List.length_eq_zero_iff.1 h3
  subst this
  exact run_convert_bytes_nil w 48 5 Tryz.underlying48 Tryz.underlying5 _ _ 9 Tryz.underlying9
 ·simp only [Value.slice.injEq] at hv
  obtain ⟨rfl, _, rfl⟩ := hv
  have := run_convert_bytes_arg (P := Tryz.prog) w 48 5 Tryz.underlying48 Tryz.underlying5 g 0 l.length cap (l.map fun c => (c.toNat : Int)) (by simp) (fun i hi => by
   have q := h.cellAt i (by omega)
   rw [Nat.zero_add, q]
   simp [byV, hi]) 9 Tryz.underlying9
  rw [str_nums] at this
  exact this

set_option maxHeartbeats 1000000 in
theorem wBytes_any (b : Nat) (l : List UInt8) (w : World) (h : WrAt w b l) :
  Calls Tryz.prog 34 #[.pointer (some ⟨b, 0, none⟩)] w fun e w' => e = .returned (.string (bs l)) ∧ w' = w := by
 obtain ⟨ao, cap, hblk, hown⟩ := h
 have c0 := hblk.cell 0
 have hr := own_convert hown
 clear hblk hown
 go_enter Tryz.func34, Tryz.ntmps34
 go_wp2
 go_ret
 exact ⟨rfl, rfl⟩

end Go.Proofs.YtnfgdlkiialnnaaGreatDoor

namespace Go.Proofs.YtnfgdlkiialnnaaGreatDoor
open Go.RowKit

/-- a list of numbers whose array is no Writer's -/
def IntsB (w : World) (b : Nat) (ao : Option Addr) (xs : List Int) : Prop :=
 0 < xs.length → ∃ g cs, ao = some ⟨g, 0, none⟩ ∧ g ≠ b ∧ BlkAt w g cs 3 ∧ ∀ i (h : i < xs.length), cs[i]? = some (.int .i64 xs[i])
theorem IntsB.kept {w w' : World} {b : Nat} {ao : Option Addr} {xs : List Int} (h : IntsB w b ao xs) (hk : Wk b w w') : IntsB w' b ao xs := by
 intro h0
 obtain ⟨g, cs, h1, h2, h3, h4⟩ := h h0
 exact ⟨g, cs, h1, h2, hk.2 g cs _ h2 (by decide) h3, h4⟩
theorem IntsB.of_own {w : World} {base b : Nat} {ao : Option Addr} {n cap : Nat} {xs : List Int} (h : w.ownsRow base 3 1 (.slice ao n cap) n (xs.map (Value.int .i64))) (hb : ∀ g, Value.ownBlock (.slice ao n cap) = some g → g ≠ b) : IntsB w b ao xs := by
 intro h0
 have hn : xs.length = n := by have := h.1; simpa using this
 rcases h.2 with ⟨h1, h2⟩ | ⟨g, cap', cur, hv, _, hh, _, _, hcs, htk⟩
 ·simp at h1; omega
 ·simp only [Value.slice.injEq] at hv
  obtain ⟨rfl, _, rfl⟩ := hv
  refine ⟨g, cur, rfl, hb g rfl, hh, fun i hi => ?_⟩
  have e : (cur.toList.take (n * 1))[i]? = (xs.map (Value.int .i64))[i]? := by rw [htk]
  rw [List.getElem?_take, if_pos (by omega)] at e
  rw [← Array.getElem?_toList, e]
  simp [hi]

theorem wNumber_lit (b : Nat) (n : Int) (size : Nat) (ms : Int) (hms : ms = (size : Int)) (l : List UInt8) (w : World) (h : WrAt w b l) (hl : l.length ≤ 16777216) (hs : size ≤ 4) (hn0 : -1099511627776 ≤ n) (hn1 : n ≤ 1099511627776) :
  Calls Tryz.prog 32 #[.pointer (some ⟨b, 0, none⟩), .int .i64 n, .int .i64 ms] w fun e w' => e = .returned (.tuple #[]) ∧ WrAt w' b (l ++ Lk.le n size) ∧ Wk b w w' := by
 subst hms; exact wNumber_any b n size l w h hl hs hn0 hn1

theorem nums_snoc (xs : List Int) (k size : Nat) (h : k < xs.length) : Lk.nums (xs.take (k + 1)) size = Lk.nums (xs.take k) size ++ Lk.le xs[k] size := by
 unfold Lk.nums
 rw [List.take_succ_eq_append_getElem h, List.flatMap_append]
 simp
theorem nums_length (xs : List Int) (size : Nat) : (Lk.nums xs size).length = xs.length * size := by
 unfold Lk.nums
 induction xs with
 | nil => simp
 | cons x t ih => simp only [List.flatMap_cons, List.length_append, ih, Lk.le_length, List.length_cons, Nat.succ_mul]; omega

set_option maxHeartbeats 2000000 in
theorem writeNumbers_any (b : Nat) (ao : Option Addr) (cap size : Nat) (ms : Int) (hms : ms = (size : Int)) (xs : List Int) (l : List UInt8) (w : World) (h : WrAt w b l) (hI : IntsB w b ao xs)
  (hl : l.length ≤ 1048576) (hs : size ≤ 4) (hn : xs.length ≤ 65535) (hx : ∀ i (h : i < xs.length), -1099511627776 ≤ xs[i] ∧ xs[i] ≤ 1099511627776) :
  Calls Tryz.prog 72 #[.pointer (some ⟨b, 0, none⟩), .slice ao xs.length cap, .int .i64 ms] w fun e w' => e = .returned (.tuple #[]) ∧ WrAt w' b (l ++ Lk.nums xs size) ∧ Wk b w w' := by
 subst hms
 have H := hid h
 have HI := hid hI
 have HX := hid hx
 clear h hI hx
 go_enter Tryz.func72, Tryz.ntmps72
 go_wp2
 go_loopw [10] (fun i wr => ∃ k : Nat, k ≤ xs.length ∧ i = .int .i64 k ∧ WrAt wr b (l ++ Lk.nums (xs.take k) size) ∧ Wk b w wr) (fun i _ => xs.length - (intOf i).toNat)
 case atStart => exact ⟨0, Nat.zero_le _, rfl, by simpa [Lk.nums] using H.out, Wk.refl _ _⟩
 case round =>
  obtain ⟨k, hk, rfl, hw, hbel⟩ := hrel
  have HW := hid hw
  have HB := hid hbel
  clear hw hbel
  by_cases hlt2 : k < xs.length
  ·obtain ⟨g, cs, hao, -, hbk, hc⟩ := HI.out.kept HB.out (by omega)
   subst hao
   have hck := (hbk.cell k).trans (hc k hlt2)
   clear hbk
   have hxk := HX.out k hlt2
   have hlen : (l ++ Lk.nums (xs.take k) size).length ≤ 16777216 := by
    rw [List.length_append, nums_length, List.length_take_of_le (by omega)]
    have : k * size ≤ k * 4 := Nat.mul_le_mul_left k hs
    omega
   have cN := hid (fun W h => wNumber_any b xs[k] size (l ++ Lk.nums (xs.take k) size) W h hlen hs hxk.1 hxk.2)
   clear hc hlen
   go_wp2_with fail
   refine (cN.out _ HW.out).mono ?_
   rintro e w2 ⟨rfl, hw2, hb2⟩
   have HW2 := hid hw2
   have HB2 := hid (HB.out.trans hb2)
   clear hw2 hb2
   go_wp2
   go_roundw
   case rel => exact ⟨k + 1, by omega, by go_num, by rw [nums_snoc xs k size hlt2, ← List.append_assoc]; exact HW2.out, HB2.out⟩
   case measure => simp [intOf]; omega
  ·go_wp2
   go_end0
   have e : xs.take k = xs := List.take_of_length_le (by omega)
   have hw := HW.out
   rw [e] at hw
   exact ⟨rfl, hw, HB.out⟩

/-- while a Writer in b gathers: what was gathered, a variable of the call's own in block v -/
structure St3 (w : World) (b v : Nat) (t : TypeId) (cs : Array Value) (l : List UInt8) (W : World) : Prop where
 wr : WrAt W b l
 own : BlkAt W v cs t
 wk : Wk b w W

theorem St3.begin {w : World} {b : Nat} {l : List UInt8} (h : WrAt w b l) (cs : Array Value) (t : TypeId) : St3 w b w.heap.size t cs l (w.alloc (.cells cs t)) := by
 obtain ⟨ao, cap, h1, h2⟩ := h
 exact ⟨⟨ao, cap, h1.grown (World.grownBy_alloc _ _ none) (by simp), h2.alloc _⟩, BlkAt.new _ _ _, (Wk.refl b w).alloc (Nat.le_of_lt h1.lt) _⟩
theorem St3.step {w W W' : World} {b v : Nat} {t : TypeId} {cs : Array Value} {l l' : List UInt8} (h : St3 w b v t cs l W) (hv : v ≠ b) (ht : t ≠ 5) (hw : WrAt W' b l') (hk : Wk b W W') : St3 w b v t cs l' W' :=
 ⟨hw, hk.2 v cs t hv ht h.own, h.wk.trans hk⟩

set_option maxHeartbeats 2000000 in
theorem writeSymbol_any (b : Nat) (y : Lk.Sym) (l : List UInt8) (w : World) (h : WrAt w b l) (hl : l.length ≤ 1048576) (hg : Lk.goodSym y) :
  Calls Tryz.prog 81 #[.pointer (some ⟨b, 0, none⟩), .agg #[.string (bs y.name), .int .i64 y.bind, .int .i64 y.sect, .int .i64 y.off]] w fun e w' => e = .returned (.tuple #[]) ∧ WrAt w' b (l ++ Lk.symB y) ∧ Wk b w w' := by
 obtain ⟨hn, ⟨hb0, hb1⟩, ⟨hs0, hs1⟩, ho0, ho1⟩ := hg
 have hvb : w.heap.size ≠ b := by obtain ⟨_, _, h1, _⟩ := h; have := h1.lt; omega
 have S0 := hid (St3.begin h #[.string (bs y.name), .int .i64 y.bind, .int .i64 y.sect, .int .i64 y.off] 124)
 have hsz : ((bs y.name).size : Int) = (y.name.length : Int) := by rw [bs_size]
 have hsz2 : (bs y.name).size = y.name.length := bs_size _
 have c1 := hid (fun W (h : WrAt W b l) => wNumber_lit b ((bs y.name).size : Int) 1 1 rfl l W h (by omega) (by omega) (by omega) (by omega))
 have c2 := hid (fun W (h : WrAt W b (l ++ Lk.le y.name.length 1)) => wText_any b (bs y.name) (l ++ Lk.le y.name.length 1) W h (by rw [List.length_append, Lk.le_length]; omega) (by omega))
 have c3 := hid (fun W (h : WrAt W b (l ++ Lk.le y.name.length 1 ++ y.name)) => wNumber_lit b y.bind 1 1 rfl (l ++ Lk.le y.name.length 1 ++ y.name) W h (by rw [List.length_append, List.length_append, Lk.le_length]; omega) (by omega) (by omega) (by omega))
 have c4 := hid (fun W (h : WrAt W b (l ++ Lk.le y.name.length 1 ++ y.name ++ Lk.le y.bind 1)) => wNumber_lit b y.sect 1 1 rfl (l ++ Lk.le y.name.length 1 ++ y.name ++ Lk.le y.bind 1) W h (by rw [List.length_append, List.length_append, List.length_append, Lk.le_length, Lk.le_length]; omega) (by omega) (by omega) (by omega))
 have c5 := hid (fun W (h : WrAt W b (l ++ Lk.le y.name.length 1 ++ y.name ++ Lk.le y.bind 1 ++ Lk.le y.sect 1)) => wNumber_lit b y.off 2 2 rfl (l ++ Lk.le y.name.length 1 ++ y.name ++ Lk.le y.bind 1 ++ Lk.le y.sect 1) W h (by rw [List.length_append, List.length_append, List.length_append, List.length_append, Lk.le_length, Lk.le_length, Lk.le_length]; omega) (by omega) (by omega) (by omega))
 have HS := hid hsz
 have HSL := hid (sl_bs y.name)
 clear h hsz hsz2
 go_enter Tryz.func81, Tryz.ntmps81
 go_wp2_with fail
 refine Calls.at_world (St3 w b w.heap.size 124 #[.string (bs y.name), .int .i64 y.bind, .int .i64 y.sect, .int .i64 y.off] l) S0.out ?_
 intro W1 s1
 refine (c1.out W1 s1.wr).mono ?_
 rintro e W2 ⟨rfl, hw, hk⟩
 rw [HS.out] at hw
 have S2 := hid (s1.step hvb (by decide) hw hk)
 have k0 := S2.out.own.cell 0
 clear hw hk s1
 go_wp2_with fail
 refine (c2.out W2 S2.out.wr).mono ?_
 rintro e W3 ⟨rfl, hw, hk⟩
 rw [HSL.out] at hw
 have S3 := hid (S2.out.step hvb (by decide) hw hk)
 have k1 := S3.out.own.cell 1
 clear hw hk k0
 go_wp2_with fail
 refine (c3.out W3 S3.out.wr).mono ?_
 rintro e W4 ⟨rfl, hw, hk⟩
 have S4 := hid (S3.out.step hvb (by decide) hw hk)
 have k2 := S4.out.own.cell 2
 clear hw hk k1
 go_wp2_with fail
 refine (c4.out W4 S4.out.wr).mono ?_
 rintro e W5 ⟨rfl, hw, hk⟩
 have S5 := hid (S4.out.step hvb (by decide) hw hk)
 have k3 := S5.out.own.cell 3
 clear hw hk k2
 go_wp2_with fail
 refine (c5.out W5 S5.out.wr).mono ?_
 rintro e W6 ⟨rfl, hw, hk⟩
 have S6 := hid (S5.out.step hvb (by decide) hw hk)
 clear hw hk k3
 go_wp2
 go_end0
 refine ⟨rfl, ?_, S6.out.wk⟩
 have := S6.out.wr
 simpa [Lk.symB] using this

end Go.Proofs.YtnfgdlkiialnnaaGreatDoor

namespace Go.Proofs.YtnfgdlkiialnnaaGreatDoor
open Go.RowKit

/-- the bytes from p on, n of them, as many as there are -/
def cutL (l : List UInt8) (p n : Nat) : List UInt8 := (l.drop p).take n

/-- n words from p on -/
def numsAt (l : List UInt8) (p : Nat) : Nat → List Int
 | 0 => []
 | n + 1 => numsAt l p n ++ [atL l (p + 4 * n) 4]
end Go.Proofs.YtnfgdlkiialnnaaGreatDoor

namespace Go.Proofs.YtnfgdlkiialnnaaGreatDoor
open Go.RowKit

theorem symB_length (y : Lk.Sym) : (Lk.symB y).length = 5 + y.name.length := by
 simp only [Lk.symB, List.length_append, Lk.le_length]
 omega
theorem relB_length (r : Lk.Rel) : (Lk.relB r).length = 7 := by
 simp only [Lk.relB, List.length_append, Lk.le_length]

theorem numsB_length (ys : List Int) (n : Nat) : (Lk.nums ys n).length = n * ys.length := by
 induction ys with
 | nil => rfl
 | cons y t ih => simp only [Lk.nums, List.flatMap_cons, List.length_append, Lk.le_length, List.length_cons, Nat.mul_add] at *; omega

theorem wordsOf_le {o : Lk.Obj} (h : Sizes o) (sect : Int) : (wordsOf o sect).length ≤ 1200 := by
 obtain ⟨⟨n1, n2, n3⟩, -⟩ := h
 unfold wordsOf
 split
 ·exact n1
 split
 ·exact n2
 split
 ·omega
 ·simp

theorem words_good {xs : List Int} (h : Words xs) : Lk.goodWords 4 xs := fun x hx => by
 obtain ⟨i, hi, rfl⟩ := List.getElem_of_mem hx
 have := h i hi
 simp only [Int.reducePow]
 omega

theorem valid_good {o : Lk.Obj} (h : Valid o) : Lk.goodObj o := by
 obtain ⟨hz, hb, hw, hs, hr⟩ := h
 have hz' := hz
 obtain ⟨⟨n1, n2, n3⟩, n4, n5, n6⟩ := hz
 refine ⟨by omega, by omega, by omega, by omega, hb.1, ?_, by omega, by omega, ?_, ?_, words_good hw.1, words_good hw.2.1, words_good hw.2.2⟩
 ·intro x hx
  obtain ⟨i, hi, rfl⟩ := List.getElem_of_mem hx
  have := hb.2 i hi
  simp only [Int.reducePow]
  omega
 ·intro y hy
  obtain ⟨i, hi, rfl⟩ := List.getElem_of_mem hy
  obtain ⟨⟨k1, k2, k3, -, k4, -, k5⟩, -⟩ := hs i hi
  have hl : (bs (o.syms[i]).name).size = (o.syms[i]).name.length := rfl
  have k6 := k1.2.1
  have hw := wordsOf_le hz' (o.syms[i]).sect
  refine ⟨by omega, by omega, by omega, by omega, ?_⟩
  unfold seclen at k5
  split at k5 <;> omega
 ·intro r hr'
  obtain ⟨i, hi, rfl⟩ := List.getElem_of_mem hr'
  obtain ⟨⟨k1, k2, k3, -, k5, -, -⟩, -⟩ := hr i hi
  have hsp := span_range k2
  have hw := wordsOf_le hz' (o.rels[i]).sect
  unfold AboutOk at k5
  unfold KindOk at k1
  unfold SymIx at k3
  unfold AddendOk at k2
  refine ⟨by omega, by omega, by omega, ?_, ?_⟩
  ·split at k3 <;> omega
  ·split at k2
   ·omega
   ·split at k2 <;> omega

theorem flatB_le {α : Type} (f : α → List UInt8) (m : Nat) (xs : List α) (h : ∀ x ∈ xs, (f x).length ≤ m) : (xs.flatMap f).length ≤ m * xs.length := by
 induction xs with
 | nil => simp
 | cons x t ih =>
  have h1 := h x (by simp)
  have h2 := ih (fun y hy => h y (by simp [hy]))
  simp only [List.flatMap_cons, List.length_append, List.length_cons, Nat.mul_add]
  omega

theorem valid_short {o : Lk.Obj} (h : Valid o) : (Lk.objB o).length ≤ 65535 := by
 obtain ⟨hz, hb, hw, hs, hr⟩ := h
 obtain ⟨⟨n1, n2, n3⟩, n4, n5, n6⟩ := hz
 have e1 : (o.syms.flatMap Lk.symB).length ≤ 11 * o.syms.length := flatB_le _ _ _ fun y hy => by
  obtain ⟨i, hi, rfl⟩ := List.getElem_of_mem hy
  have k6 := (hs i hi).1.1.2.1
  have hl : (bs (o.syms[i]).name).size = (o.syms[i]).name.length := rfl
  rw [symB_length]
  omega
 have e2 : (o.rels.flatMap Lk.relB).length ≤ 7 * o.rels.length := flatB_le _ _ _ fun y _ => by rw [relB_length]; omega
 have e3 := numsB_length o.align 1
 have e4 := numsB_length o.text 4
 have e5 := numsB_length o.far 4
 have e6 := numsB_length o.data 4
 have := hb.1
 simp only [Lk.objB, List.length_append, Lk.le_length, List.length_cons, List.length_nil]
 omega

end Go.Proofs.YtnfgdlkiialnnaaGreatDoor

namespace Go.Proofs.YtnfgdlkiialnnaaGreatDoor
open Go.RowKit

theorem drop_on {l a rest : List UInt8} {p : Nat} (h : l.drop p = a ++ rest) : l.drop (p + a.length) = rest := by
 rw [← List.drop_drop, h, List.drop_left]

theorem atL_on {l rest : List UInt8} {v : Int} {p n : Nat} (h : l.drop p = Lk.le v n ++ rest) (h0 : 0 ≤ v) (h1 : v < (256 : Int) ^ n) : atL l p n = v := by
 induction n generalizing p v with
 | zero => simp [atL]; simp at h1; omega
 | succ n ih =>
  simp only [Lk.le, List.cons_append] at h
  have hlt : p < l.length := by
   have := congrArg List.length h
   simp at this
   omega
  have hg : l.getD p 0 = UInt8.ofNat (v % 256).toNat := by
   have h2 : (l.drop p)[0]? = some (UInt8.ofNat (v % 256).toNat) := by rw [h]; rfl
   rw [List.getElem?_drop] at h2
   rw [List.getD_eq_getElem?_getD]
   simp only [Nat.add_zero] at h2
   rw [h2]
   rfl
  have hd : l.drop (p + 1) = Lk.le (v / 256) n ++ rest := by
   rw [← List.drop_drop, h]
   rfl
  rw [Int.pow_succ] at h1
  have hi := ih hd (by omega) (by omega)
  simp only [atL, hi, hg]
  have hm : (UInt8.ofNat (v % 256).toNat).toNat = (v % 256).toNat := by
   rw [UInt8.toNat_ofNat']
   omega
  rw [hm]
  omega

theorem cutL_on {l x rest : List UInt8} {p : Nat} (h : l.drop p = x ++ rest) : cutL l p x.length = x := by
 unfold cutL
 rw [h, List.take_left]

theorem numsAt_on {l rest : List UInt8} {xs : List Int} {p : Nat} (h : l.drop p = Lk.nums xs 4 ++ rest) (hg : Lk.goodWords 4 xs) (k : Nat) (hk : k ≤ xs.length) : numsAt l p k = xs.take k := by
 induction k with
 | zero => rfl
 | succ k ih =>
  have hk' : k < xs.length := by omega
  rw [numsAt, ih (by omega), List.take_succ_eq_append_getElem hk']
  congr 2
  have hlen : ∀ ys : List Int, (Lk.nums ys 4).length = 4 * ys.length := by
   intro ys
   induction ys with
   | nil => rfl
   | cons y t ih => simp only [Lk.nums, List.flatMap_cons, List.length_append, Lk.le_length, List.length_cons] at *; omega
  have e : l.drop p = Lk.nums (xs.take k) 4 ++ (Lk.le xs[k] 4 ++ (Lk.nums (xs.drop (k + 1)) 4 ++ rest)) := by
   have e0 : xs = xs.take k ++ xs[k] :: xs.drop (k + 1) := by rw [← List.drop_eq_getElem_cons hk', List.take_append_drop]
   rw [h]
   refine (congrArg (fun z => Lk.nums z 4 ++ rest) e0).trans ?_
   simp only [Lk.nums, List.flatMap_append, List.flatMap_cons, List.append_assoc]
  have e2 := drop_on e
  rw [hlen, List.length_take, Nat.min_eq_left (by omega)] at e2
  exact atL_on e2 (hg _ (List.getElem_mem hk')).1 (hg _ (List.getElem_mem hk')).2

/-- a symbol that the bytes from p on say -/
def symAt (l : List UInt8) (p : Nat) : Lk.Sym :=
 ⟨cutL l (p + 1) (atL l p 1).toNat, atL l (p + 1 + (atL l p 1).toNat) 1, atL l (p + 2 + (atL l p 1).toNat) 1, atL l (p + 3 + (atL l p 1).toNat) 2⟩
/-- k symbols, and where they end -/
def symsRaw (l : List UInt8) : Nat → List Lk.Sym × Nat
 | 0 => ([], 16)
 | k + 1 => ((symsRaw l k).1 ++ [symAt l (symsRaw l k).2], (symsRaw l k).2 + 5 + (atL l (symsRaw l k).2 1).toNat)
/-- a relocation -/
def relAtL (l : List UInt8) (p : Nat) : Lk.Rel := ⟨atL l p 1, atL l (p + 2) 2, atL l (p + 1) 1, atL l (p + 4) 1, Lk.sgn (atL l (p + 5) 2)⟩
def relsRaw (l : List UInt8) (p : Nat) : Nat → List Lk.Rel
 | 0 => []
 | k + 1 => relsRaw l p k ++ [relAtL l (p + 7 * k)]
def rawObj (l : List UInt8) : Lk.Obj :=
 ⟨numsAt l ((symsRaw l (atL l 14 1).toNat).2 + 7 * (atL l 15 1).toNat) (min (atL l 2 2).toNat 1201),
 numsAt l ((symsRaw l (atL l 14 1).toNat).2 + 7 * (atL l 15 1).toNat + 4 * (atL l 2 2).toNat) (min (atL l 4 2).toNat 1201),
 numsAt l ((symsRaw l (atL l 14 1).toNat).2 + 7 * (atL l 15 1).toNat + 4 * (atL l 2 2).toNat + 4 * (atL l 4 2).toNat) (min (atL l 6 2).toNat 1201),
 atL l 8 2, [atL l 10 1, atL l 11 1, atL l 12 1, atL l 13 1], (symsRaw l (atL l 14 1).toNat).1, relsRaw l (symsRaw l (atL l 14 1).toNat).2 (atL l 15 1).toNat⟩

theorem symAt_on {l rest : List UInt8} {y : Lk.Sym} {p : Nat} (h : l.drop p = Lk.symB y ++ rest) (hy : Lk.goodSym y) : symAt l p = y ∧ (atL l p 1).toNat = y.name.length := by
 obtain ⟨nm, b, s, f⟩ := y
 obtain ⟨h1, h2, h3, h4⟩ := hy
 simp only at h1 h2 h3 h4
 simp only [Lk.symB, List.append_assoc] at h
 have a0 : atL l p 1 = (nm.length : Int) := atL_on h (by omega) (by simp; omega)
 have d1 := drop_on h
 rw [Lk.le_length] at d1
 have d2 := drop_on d1
 have d3 := drop_on d2
 rw [Lk.le_length] at d3
 have d4 := drop_on d3
 rw [Lk.le_length] at d4
 have e0 : (atL l p 1).toNat = nm.length := by rw [a0]; omega
 refine ⟨?_, e0⟩
 unfold symAt
 rw [e0]
 have a1 := cutL_on d1
 have a2 : atL l (p + 1 + nm.length) 1 = b := atL_on d2 h2.1 (by simpa using h2.2)
 have a3 : atL l (p + 2 + nm.length) 1 = s := by
  rw [show p + 2 + nm.length = p + 1 + nm.length + 1 from by omega]
  exact atL_on d3 h3.1 (by simpa using h3.2)
 have a4 : atL l (p + 3 + nm.length) 2 = f := by
  rw [show p + 3 + nm.length = p + 1 + nm.length + 1 + 1 from by omega]
  exact atL_on d4 h4.1 (by simpa using h4.2)
 rw [a1, a2, a3, a4]

theorem symsRaw_on {l rest : List UInt8} {ys : List Lk.Sym} (h : l.drop 16 = ys.flatMap Lk.symB ++ rest) (hg : ∀ y ∈ ys, Lk.goodSym y) (k : Nat) (hk : k ≤ ys.length) :
  symsRaw l k = (ys.take k, 16 + ((ys.take k).flatMap Lk.symB).length) := by
 induction k with
 | zero => rfl
 | succ k ih =>
  have hk' : k < ys.length := by omega
  have e : l.drop 16 = (ys.take k).flatMap Lk.symB ++ (Lk.symB ys[k] ++ ((ys.drop (k + 1)).flatMap Lk.symB ++ rest)) := by
   have e0 : ys = ys.take k ++ ys[k] :: ys.drop (k + 1) := by rw [← List.drop_eq_getElem_cons hk', List.take_append_drop]
   rw [h]
   refine (congrArg (fun z => List.flatMap Lk.symB z ++ rest) e0).trans ?_
   simp only [List.flatMap_append, List.flatMap_cons, List.append_assoc]
  have e2 := drop_on e
  obtain ⟨s1, s2⟩ := symAt_on e2 (hg _ (List.getElem_mem hk'))
  simp only [symsRaw, ih (by omega)]
  rw [s1, s2, List.take_succ_eq_append_getElem hk', List.flatMap_append, List.length_append]
  simp only [List.flatMap_cons, List.flatMap_nil, List.append_nil, symB_length]
  rw [Nat.add_assoc, Nat.add_assoc]

theorem relAtL_on {l rest : List UInt8} {r : Lk.Rel} {p : Nat} (h : l.drop p = Lk.relB r ++ rest) (hr : Lk.goodRel r) : relAtL l p = r := by
 obtain ⟨s, f, d, y, a⟩ := r
 obtain ⟨h1, h2, h3, h4, h5, h6⟩ := hr
 simp only at h1 h2 h3 h4 h5 h6
 simp only [Lk.relB, List.append_assoc] at h
 rw [← Lk.le_uns a] at h
 have d1 := drop_on h
 rw [Lk.le_length] at d1
 have d2 := drop_on d1
 rw [Lk.le_length] at d2
 have d3 := drop_on d2
 rw [Lk.le_length] at d3
 have d4 := drop_on d3
 rw [Lk.le_length] at d4
 have a0 : atL l p 1 = s := atL_on h h1.1 (by simpa using h1.2)
 have a1 : atL l (p + 1) 1 = d := atL_on d1 h2.1 (by simpa using h2.2)
 have a2 : atL l (p + 2) 2 = f := atL_on d2 h3.1 (by simpa using h3.2)
 have a3 : atL l (p + 4) 1 = y := atL_on d3 h4.1 (by simpa using h4.2)
 have a4 : atL l (p + 5) 2 = Lk.uns a := atL_on d4 (by unfold Lk.uns; split <;> omega) (by unfold Lk.uns; simp only [Int.reducePow]; split <;> omega)
 unfold relAtL
 rw [a0, a1, a2, a3, a4]
 congr 1
 unfold Lk.sgn Lk.uns
 split <;> split <;> omega

theorem relsRaw_on {l rest : List UInt8} {rs : List Lk.Rel} {p : Nat} (h : l.drop p = rs.flatMap Lk.relB ++ rest) (hg : ∀ r ∈ rs, Lk.goodRel r) (k : Nat) (hk : k ≤ rs.length) :
  relsRaw l p k = rs.take k := by
 induction k with
 | zero => rfl
 | succ k ih =>
  have hk' : k < rs.length := by omega
  have hlen : ∀ ys : List Lk.Rel, (ys.flatMap Lk.relB).length = 7 * ys.length := by
   intro ys
   induction ys with
   | nil => rfl
   | cons y t ih => simp only [List.flatMap_cons, List.length_append, relB_length, List.length_cons] at *; omega
  have e : l.drop p = (rs.take k).flatMap Lk.relB ++ (Lk.relB rs[k] ++ ((rs.drop (k + 1)).flatMap Lk.relB ++ rest)) := by
   have e0 : rs = rs.take k ++ rs[k] :: rs.drop (k + 1) := by rw [← List.drop_eq_getElem_cons hk', List.take_append_drop]
   rw [h]
   refine (congrArg (fun z => List.flatMap Lk.relB z ++ rest) e0).trans ?_
   simp only [List.flatMap_append, List.flatMap_cons, List.append_assoc]
  have e2 := drop_on e
  rw [hlen, List.length_take, Nat.min_eq_left (by omega)] at e2
  simp only [relsRaw, ih (by omega), List.take_succ_eq_append_getElem hk']
  rw [relAtL_on e2 (hg _ (List.getElem_mem hk'))]

theorem rels_length (rs : List Lk.Rel) : (rs.flatMap Lk.relB).length = 7 * rs.length := by
 induction rs with
 | nil => rfl
 | cons y t ih => simp only [List.flatMap_cons, List.length_append, relB_length, List.length_cons] at *; omega
theorem raw_back {o : Lk.Obj} (hg : Lk.goodObj o) (hz : o.text.length ≤ 1200 ∧ o.far.length ≤ 1200 ∧ o.data.length ≤ 1200) : rawObj (Lk.objB o) = o := by
 obtain ⟨g1, g2, g3, g4, g5, g6, g7, g8, g9, g10, g11, g12, g13⟩ := hg
 obtain ⟨tx, fx, dx, bss, al, ys, rs⟩ := o
 simp only at *
 obtain ⟨a, b, c, d, rfl⟩ : ∃ a b c d, al = [a, b, c, d] := by
  match al, g5 with
  | [a, b, c, d], _ => exact ⟨a, b, c, d, rfl⟩
 generalize hl : Lk.objB ⟨tx, fx, dx, bss, [a, b, c, d], ys, rs⟩ = l
 have h0 : l.drop 0 = [76, 75] ++ Lk.restB ⟨tx, fx, dx, bss, [a, b, c, d], ys, rs⟩ := by rw [← hl]; rfl
 simp only [Lk.restB] at h0
 have h2 := drop_on h0
 have h4 := drop_on h2
 rw [Lk.le_length] at h4
 have h6 := drop_on h4
 rw [Lk.le_length] at h6
 have h8 := drop_on h6
 rw [Lk.le_length] at h8
 have h10 := drop_on h8
 rw [Lk.le_length] at h10
 have hal : Lk.nums [a, b, c, d] 1 = Lk.le a 1 ++ (Lk.le b 1 ++ (Lk.le c 1 ++ Lk.le d 1)) := by simp only [Lk.nums, List.flatMap_cons, List.flatMap_nil, List.append_nil]
 rw [hal] at h10
 simp only [List.append_assoc] at h10
 have h11 := drop_on h10
 rw [Lk.le_length] at h11
 have h12 := drop_on h11
 rw [Lk.le_length] at h12
 have h13 := drop_on h12
 rw [Lk.le_length] at h13
 have h14 := drop_on h13
 rw [Lk.le_length] at h14
 have h15 := drop_on h14
 rw [Lk.le_length] at h15
 have h16 := drop_on h15
 rw [Lk.le_length] at h16
 have hs := drop_on h16
 have hr := drop_on hs
 have ht := drop_on hr
 have hf := drop_on ht
 simp only [List.length_cons, List.length_nil, Nat.zero_add, Nat.reduceAdd] at h2 h4 h6 h8 h10 h11 h12 h13 h14 h15 h16 hs hr ht hf
 have v2 : atL l 2 2 = (tx.length : Int) := atL_on h2 (by omega) (by simp; omega)
 have v4 : atL l 4 2 = (fx.length : Int) := atL_on h4 (by omega) (by simp; omega)
 have v6 : atL l 6 2 = (dx.length : Int) := atL_on h6 (by omega) (by simp; omega)
 have v8 : atL l 8 2 = bss := atL_on h8 g4.1 (by simpa using g4.2)
 have w1 := g6 a (by simp)
 have w2 := g6 b (by simp)
 have w3 := g6 c (by simp)
 have w4 := g6 d (by simp)
 have v10 : atL l 10 1 = a := atL_on h10 w1.1 w1.2
 have v11 : atL l 11 1 = b := atL_on h11 w2.1 w2.2
 have v12 : atL l 12 1 = c := atL_on h12 w3.1 w3.2
 have v13 : atL l 13 1 = d := atL_on h13 w4.1 w4.2
 have v14 : atL l 14 1 = (ys.length : Int) := atL_on h14 (by omega) (by simp; omega)
 have v15 : atL l 15 1 = (rs.length : Int) := atL_on h15 (by omega) (by simp; omega)
 have hlenR := rels_length rs
 have eS := symsRaw_on h16 g9 ys.length (Nat.le_refl _)
 rw [List.take_length] at eS
 unfold rawObj
 rw [v2, v4, v6, v8, v10, v11, v12, v13, v14, v15]
 simp only [Int.toNat_natCast, eS]
 rw [relsRaw_on hs g10 rs.length (Nat.le_refl _), List.take_length]
 rw [hlenR] at hr ht hf
 rw [numsB_length] at ht hf
 rw [numsB_length] at hf
 rw [Nat.min_eq_left (by omega), Nat.min_eq_left (by omega), Nat.min_eq_left (by omega)]
 rw [numsAt_on hr g11 tx.length (Nat.le_refl _), List.take_length, numsAt_on ht g12 fx.length (Nat.le_refl _), List.take_length]
 rw [numsAt_on (rest := []) (by rw [List.append_nil]; exact hf) g13 dx.length (Nat.le_refl _), List.take_length]

end Go.Proofs.YtnfgdlkiialnnaaGreatDoor

namespace Go.Proofs.YtnfgdlkiialnnaaGreatDoor
open Go.RowKit

/-- bytes that are an object's -/
def IsObj (l : List UInt8) : Prop := Valid (rawObj l) ∧ Lk.objB (rawObj l) = l

theorem isObj_of_read {l : List UInt8} {o : Lk.Obj} (h : Lk.readObj l = some o) (hv : Valid o) : IsObj l ∧ rawObj l = o := by
 obtain ⟨hg, rfl⟩ := (Lk.readObj_iff l o).1 h
 have hz := hv.1.1
 have e := raw_back hg ⟨hz.1, hz.2.1, by omega⟩
 unfold IsObj
 rw [e]
 exact ⟨⟨hv, rfl⟩, rfl⟩

theorem read_of_isObj {l : List UInt8} (h : IsObj l) : Lk.readObj l = some (rawObj l) := (Lk.readObj_iff l _).2 ⟨valid_good h.1, h.2.symm⟩

theorem isObj_short {l : List UInt8} (h : IsObj l) : l.length ≤ 65535 := by
 have := valid_short h.1
 rw [h.2] at this
 exact this

theorem not_isObj_of_read {l : List UInt8} (h : ∀ o, Lk.readObj l = some o → ¬ Valid o) : ¬ IsObj l := fun k => h _ (read_of_isObj k) k.1

end Go.Proofs.YtnfgdlkiialnnaaGreatDoor

namespace Go.Proofs.YtnfgdlkiialnnaaGreatDoor
open Go.RowKit

def memB (m : List UInt8) : List UInt8 := Lk.le m.length 2 ++ m
def arB (ms : List (List UInt8)) : List UInt8 := [65, 82] ++ (Lk.le ms.length 1 ++ ms.flatMap memB)
def IsArch (l : List UInt8) (ms : List (List UInt8)) : Prop := (1 ≤ ms.length ∧ ms.length ≤ 6) ∧ (∀ m ∈ ms, IsObj m) ∧ arB ms = l

theorem not_isObj_nil : ¬ IsObj [] := fun h => by
 have := congrArg List.length h.2
 simp [Lk.objB] at this

/-- k members and where they end -/
def memsRaw (l : List UInt8) : Nat → List (List UInt8) × Nat
 | 0 => ([], 3)
 | k + 1 => ((memsRaw l k).1 ++ [cutL l ((memsRaw l k).2 + 2) (atL l (memsRaw l k).2 2).toNat], (memsRaw l k).2 + 2 + (atL l (memsRaw l k).2 2).toNat)
def rawMems (l : List UInt8) : List (List UInt8) := (memsRaw l (min (atL l 2 1).toNat 6)).1

theorem memsRaw_on {l rest : List UInt8} {ms : List (List UInt8)} (h : l.drop 3 = ms.flatMap memB ++ rest) (hg : ∀ m ∈ ms, m.length ≤ 65535) (k : Nat) (hk : k ≤ ms.length) :
  memsRaw l k = (ms.take k, 3 + ((ms.take k).flatMap memB).length) := by
 induction k with
 | zero => rfl
 | succ k ih =>
  have hk' : k < ms.length := by omega
  have e : l.drop 3 = (ms.take k).flatMap memB ++ (memB ms[k] ++ ((ms.drop (k + 1)).flatMap memB ++ rest)) := by
   have e0 : ms = ms.take k ++ ms[k] :: ms.drop (k + 1) := by rw [← List.drop_eq_getElem_cons hk', List.take_append_drop]
   rw [h]
   refine (congrArg (fun z => List.flatMap memB z ++ rest) e0).trans ?_
   simp only [List.flatMap_append, List.flatMap_cons, List.append_assoc]
  have e2 := drop_on e
  have hm := hg _ (List.getElem_mem hk')
  unfold memB at e2
  rw [List.append_assoc] at e2
  have a0 : atL l (3 + ((ms.take k).flatMap memB).length) 2 = (ms[k].length : Int) := atL_on e2 (by omega) (by simp only [Int.reducePow]; omega)
  have e3 := drop_on e2
  rw [Lk.le_length] at e3
  have a1 := cutL_on e3
  simp only [memsRaw, ih (by omega)]
  rw [a0, Int.toNat_natCast]
  refine Prod.ext ?_ ?_
  ·simp only
   rw [List.take_succ_eq_append_getElem hk']
   congr 2
  ·simp only
   rw [List.take_succ_eq_append_getElem hk', List.flatMap_append, List.length_append]
   simp only [List.flatMap_cons, List.flatMap_nil, List.append_nil, memB, List.length_append, Lk.le_length]
   omega

theorem arch_raw {l : List UInt8} {ms : List (List UInt8)} (h : IsArch l ms) : rawMems l = ms := by
 obtain ⟨⟨h1, h2⟩, h3, h4⟩ := h
 have d0 : l.drop 0 = [65, 82] ++ (Lk.le ms.length 1 ++ ms.flatMap memB) := by rw [← h4]; rfl
 have d2 := drop_on d0
 have d3 := drop_on d2
 rw [Lk.le_length] at d3
 simp only [List.length_cons, List.length_nil, Nat.zero_add, Nat.reduceAdd] at d2 d3
 have a : atL l 2 1 = (ms.length : Int) := atL_on d2 (by omega) (by simp only [Int.reducePow]; omega)
 unfold rawMems
 rw [a, Int.toNat_natCast, Nat.min_eq_left h2, memsRaw_on (rest := []) (by rw [List.append_nil]; exact d3) (fun m hm => isObj_short (h3 m hm)) ms.length (Nat.le_refl _), List.take_length]

end Go.Proofs.YtnfgdlkiialnnaaGreatDoor

namespace Go.Proofs.YtnfgdlkiialnnaaGreatDoor
open Go.RowKit

theorem Tryz.infoStr : (Tryz.prog.info? 9).map (fun i => (i.zero, i.size, i.bytes)) = some (some (.string ⟨#[]⟩), 1, 16) := by kernel_rfl

theorem mem_step {l : List UInt8} {p : Nat} (hp : p ≤ l.length) (h : IsObj (Lk.rdText l (Lk.rdNum l 2 (p, false)).1.toNat (Lk.rdNum l 2 (p, false)).2).1) :
  ∃ m, Lk.rdText l (Lk.rdNum l 2 (p, false)).1.toNat (Lk.rdNum l 2 (p, false)).2 = (m, (p + 2 + m.length, false)) ∧ l.drop p = memB m ++ l.drop (p + 2 + m.length) ∧ p + 2 + m.length ≤ l.length := by
 by_cases h1 : 2 ≤ l.length - p
 ·have e1 : Lk.rdNum l 2 (p, false) = (Lk.num ((l.drop p).take 2), (p + 2, false)) := by simp [Lk.rdNum, Lk.rdText, h1]
  rw [e1] at h ⊢
  simp only at h ⊢
  have hn := Lk.num_nonneg ((l.drop p).take 2)
  have hlen : ((l.drop p).take 2).length = 2 := by simp; omega
  have hle := Lk.le_num ((l.drop p).take 2)
  rw [hlen] at hle
  obtain ⟨n, hn'⟩ := Int.eq_ofNat_of_zero_le hn
  rw [hn'] at h hle ⊢
  simp only [Int.toNat_natCast] at h ⊢
  by_cases h2 : n ≤ l.length - (p + 2)
  ·have hml : ((l.drop (p + 2)).take n).length = n := by simp; omega
   have e2 : Lk.rdText l n (p + 2, false) = ((l.drop (p + 2)).take n, (p + 2 + n, false)) := by simp [Lk.rdText, h2]
   refine ⟨(l.drop (p + 2)).take n, by rw [e2, hml], ?_, by rw [hml]; omega⟩
   rw [hml]
   unfold memB
   rw [hml, hle, List.append_assoc, ← List.drop_drop (i := n), List.take_append_drop, ← List.drop_drop (i := 2), List.take_append_drop]
  ·have e2 : (Lk.rdText l n (p + 2, false)).1 = [] := by simp [Lk.rdText, h2]
   rw [e2] at h
   exact absurd h not_isObj_nil
 ·have e1 : Lk.rdNum l 2 (p, false) = (0, (p, true)) := by simp [Lk.rdNum, Lk.rdText, h1, Lk.num]
  rw [e1] at h
  have e2 : (Lk.rdText l (0 : Int).toNat (p, true)).1 = [] := by simp [Lk.rdText]
  rw [e2] at h
  exact absurd h not_isObj_nil

theorem mem_on {l m rest : List UInt8} {p : Nat} (hp : p ≤ l.length) (h : l.drop p = memB m ++ rest) (hm : m.length ≤ 65535) : (Lk.rdText l (Lk.rdNum l 2 (p, false)).1.toNat (Lk.rdNum l 2 (p, false)).2).1 = m := by
 unfold memB at h
 rw [List.append_assoc] at h
 obtain ⟨a1, b1, c1, p1, d1⟩ := (Lk.reads_num l 2).on (st := (p, false)) hp rfl (x := (m.length : Int)) ⟨by omega, by simp only [Int.reducePow]; omega⟩ h
 rw [a1, Int.toNat_natCast]
 exact ((Lk.reads_text l m.length).on p1 b1 (x := m) rfl d1).1

set_option maxHeartbeats 1000000 in
theorem validCount_any (n : Int) (w : World) :
  Calls Tryz.prog 30 #[.int .i64 n] w fun e w' => Tells e (1 ≤ n ∧ n ≤ 6) ∧ w' = w := by
 go_enter Tryz.func30, Tryz.ntmps30
 by_cases h1 : 1 ≤ n
 ·by_cases h2 : n ≤ 6
  ·have d1 : decide (1 ≤ n) = true := by simpa using h1
   have d2 : decide (n ≤ 6) = true := by simpa using h2
   go_wp2
   go_ret
   exact ⟨Tells.yes ⟨h1, h2⟩, rfl⟩
  ·have d1 : decide (1 ≤ n) = true := by simpa using h1
   have d2 : decide (n ≤ 6) = false := by simp; omega
   go_wp2
   go_ret
   exact ⟨Tells.no (fun h => by omega), rfl⟩
 ·have d1 : decide (1 ≤ n) = false := by simp; omega
  go_wp2
  go_ret
  exact ⟨Tells.no (fun h => by omega), rfl⟩

set_option maxHeartbeats 1000000 in
theorem archObject_any (s : ByteArray) (w : World) (ht : Tabs w) (hs : s.size ≤ 1048576) :
  Calls Tryz.prog 33 #[.string s] w fun e w' => Tells e (IsObj (sl s)) ∧ w.grownBy w' none := by
 have cR := hid (read_any s w ht hs)
 go_enter Tryz.func33, Tryz.ntmps33
 go_wp2_with fail
 refine cR.out.mono ?_
 rintro e w1 ⟨⟨o, g, hr, hv, rfl, -, -⟩ | ⟨hno, rfl⟩, hq⟩
 ·have H := hid (isObj_of_read hr hv).1
  have HQ := hid hq
  go_wp2
  go_ret
  exact ⟨Tells.yes H.out, HQ.out⟩
 ·have H := hid (not_isObj_of_read hno)
  have HQ := hid hq
  go_wp2
  go_ret
  exact ⟨Tells.no H.out, HQ.out⟩

end Go.Proofs.YtnfgdlkiialnnaaGreatDoor
