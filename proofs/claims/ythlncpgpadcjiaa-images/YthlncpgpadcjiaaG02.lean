/- Walks over package object's readers. -/
/- Walks over package object's readers: symbols, relocations. -/
/- Walks over package object's readers: the lists of symbols and of relocations. -/
/- Walks over package object's readers: readObject. -/
/- Walks over package object's readers: readObject of other bytes; NewReader. -/
/- Walks over package image: reading. -/
/- Walks over package object's checks: sizes, borders, words. -/
/- Walks over package image: checks, words at addresses. -/
/- Walks over package object's checks: words, names, sections. -/
/- Walks over package image: the word of code at an address. -/
/- Walks over package object's checks: symbols. -/
/- Walks over package object's checks: symbols. -/
/- Walks over package object's checks: the list of symbols. -/
import Derived.Test.YthlncpgpadcjiaaG01
import Derived.Deep.AppendLies
import Derived.Deep.RegionHeld3
namespace Go.Proofs.Ythlncpgpadcjiaa
open Go.RowKit

theorem Try.infoInt : (Try.prog.info? 3).map (fun i => (i.zero, i.size, i.bytes)) = some (some (.int .i64 0), 1, 8) := by kernel_rfl
theorem rdText_le (l : List UInt8) (n : Nat) (st : Lk.St) (h : st.1 ≤ l.length) : (Lk.rdText l n st).2.1 ≤ l.length := by
  unfold Lk.rdText; split <;> simp <;> omega
theorem rdNum_le (l : List UInt8) (n : Nat) (st : Lk.St) (h : st.1 ≤ l.length) : (Lk.rdNum l n st).2.1 ≤ l.length := rdText_le l n st h

/-- grown, with what the call itself owns written besides -/
theorem grown_own {w wr w1 : World} {b : Nat} {row : Option Nat} (h : w.grownBy wr (some b)) (k : wr.grownBy w1 row) (hr : ∀ g, row = some g → w.heap.size ≤ g) : w.grownBy w1 (some b) :=
  ⟨k.os.trans h.os, k.tape.trans h.tape, k.output.trans h.output, Nat.le_trans h.size k.size, fun i hi hn =>
    (k.block i (Nat.lt_of_lt_of_le hi h.size) (fun e => by have := hr i e.symm; omega)).trans (h.block i hi hn)⟩

theorem rd_keep {w wr w1 : World} {o : Obj} {b : Nat} {s : ByteArray} {p : Nat} {sh : Bool} {row : Option Nat} (hb : b < w.heap.size) (hg : w.grownBy wr (some b)) (hr : RdAt wr b s p sh) (hk : (wr.alloc o).grownBy w1 row) (hrow : ∀ g, row = some g → w.heap.size ≤ g) :
    RdAt w1 b s p sh ∧ w.grownBy w1 (some b) := by
  have h1 : wr.grownBy (wr.alloc o) none := World.grownBy_alloc wr o none
  refine ⟨(hr.grown h1 (by simp)).grown hk (fun e => by have := hrow b e.symm; omega), ?_⟩
  exact grown_own (grown_own hg h1 (by simp)) hk hrow

theorem own_kept {w w' : World} {base : Nat} {e : TypeId} {size : Nat} {v : Value} {n : Nat} {xs : List Value} {b : Nat} (h : w.ownsRow base e size v n xs) (hb : b < base) (hg : w.grownBy w' (some b)) : w'.ownsRow base e size v n xs :=
  h.kept hg (by
    cases hv : v.ownBlock with
    | none => exact .inl rfl
    | some g => right; have := (h.lt g hv).1; simp; omega)

theorem rdNum_small (l : List UInt8) (n : Nat) (st : Lk.St) (h : n ≤ 4) : 0 ≤ (Lk.rdNum l n st).1 ∧ (Lk.rdNum l n st).1 < 4294967296 := by
  unfold Lk.rdNum
  have h1 := Lk.num_nonneg (Lk.rdText l n st).1
  have h2 := Lk.num_lt (Lk.rdText l n st).1
  have hl : (Lk.rdText l n st).1.length ≤ 4 := by
    unfold Lk.rdText
    split
    · simp; omega
    · simp
  have := pow_le4 _ hl
  exact ⟨h1, by omega⟩

set_option maxHeartbeats 1000000 in
theorem readNumbers_any (b : Nat) (s : ByteArray) (p count size : Nat) (sh : Bool) (w : World) (h : RdAt w b s p sh)
    (hs : s.size ≤ 1048576) (hp : p ≤ s.size) (hc : count ≤ 65535) (hm : size ≤ 4) :
    Calls Try.prog 19 #[.pointer (some ⟨b, 0, none⟩), .int .i64 count, .int .i64 size] w fun e w' => ∃ v, e = .returned v ∧
      w'.ownsRow w.heap.size 3 1 v (Lk.rdNums (sl s) size count (p, sh)).1.length ((Lk.rdNums (sl s) size count (p, sh)).1.map (Value.int .i64)) ∧
      RdAt w' b s (Lk.rdNums (sl s) size count (p, sh)).2.1 (Lk.rdNums (sl s) size count (p, sh)).2.2 ∧ w.grownBy w' (some b) := by
  obtain ⟨i0, hi, hz0, hz1, hz2⟩ := info_parts Try.infoInt
  have hb := h.lt
  have H := hid h
  clear h
  go_enter Try.func19, Try.ntmps19
  go_wp2_with fail
  go_loopw [7, 8] (fun v i wr => ∃ (k : Nat) (acc : List Int) (st : Lk.St), k ≤ count ∧ i = .int .i64 k ∧ acc.length = k ∧ st.1 ≤ s.size ∧
      wr.ownsRow w.heap.size 3 1 v acc.length (acc.map (Value.int .i64)) ∧ RdAt wr b s st.1 st.2 ∧ w.grownBy wr (some b) ∧
      Lk.rdNums (sl s) size count (p, sh) = (acc ++ (Lk.rdNums (sl s) size (count - k) st).1, (Lk.rdNums (sl s) size (count - k) st).2)) (fun _ i _ => count - (intOf i).toNat)
  case atStart => exact ⟨0, [], (p, sh), Nat.zero_le _, rfl, rfl, hp, World.ownsRow_nil _ _ _ _, H.out, World.grownBy.refl _ _, by simp⟩
  case round =>
    obtain ⟨k, acc, st, hk, rfl, hacc, hst, hown, hrd, hgr, heq⟩ := hrel
    have HE := hid heq
    have HA := hid hacc
    clear heq
    by_cases hlt : k < count
    · cases hsh : st.2
      · rw [hsh] at hrd
        have hsu : count - k = (count - (k + 1)) + 1 := by omega
        have hnb := rdNum_small (sl s) size (st.1, false) hm
        have hle := rdNum_le (sl s) size (st.1, false) (by rw [sl_length]; exact hst)
        have cN := hid (number_any b s st.1 size false wr hrd hs hst hm)
        have HN := hid (show Lk.rdNums (sl s) size (count - k) st = ((Lk.rdNum (sl s) size (st.1, false)).1 :: (Lk.rdNums (sl s) size (count - (k + 1)) (Lk.rdNum (sl s) size (st.1, false)).2).1, (Lk.rdNums (sl s) size (count - (k + 1)) (Lk.rdNum (sl s) size (st.1, false)).2).2) from by
          rw [hsu]
          have e : st = (st.1, false) := Prod.ext rfl hsh
          rw [e]; rfl)
        rw [sl_length] at hle
        clear hsu hsh
        generalize Lk.rdNum (sl s) size (st.1, false) = r at *
        obtain ⟨x, st'⟩ := r
        simp only at cN HN hnb hle
        have k2 := hrd.c2
        have HR := hid hrd
        clear hrd
        have hacc2 : acc.length ≤ 65535 := by omega
        go_wp2_with fail
        refine cN.out.mono ?_
        rintro e w2 ⟨rfl, hrd2, hgr2⟩
        have hown2 := own_kept hown hb hgr2
        have hgr3 := grown_trans hgr hgr2
        have HR2 := hid hrd2
        have HG2 := hid hgr3
        have hsz := hgr3.size
        clear hrd2 hgr2 hgr3 hown hgr HR k2 cN
        go_wp2_with (at_builtin; refine wpList_append_own _ rfl _ _ 40 rfl w.heap.size 3 i0 (.int .i64 0) 1 8 Try.underlying40 hi hz0 hz1 hz2 rfl (by decide) _ _ _ rfl (hown2.alloc _) ⟨w2.heap.size, 0, none⟩ 1 1 [.int .i64 x] rfl rfl (cell_one_new _ _ _) (by intro u hu; simp at hu; subst hu; rfl) (by unfold maxLen; omega) (by omega) (by simp; omega) ?_; intro v' w3 hown' hgrow _)
        have K := rd_keep hb HG2.out HR2.out hgrow (fun g hg => (hown2.lt g hg).1)
        clear hgrow hown2
        go_wp2
        go_roundw
        case rel =>
          refine ⟨k + 1, acc ++ [x], st', by omega, by go_num, by simp [HA.out], hle, ?_, K.1, K.2, ?_⟩
          · simpa using hown'
          · rw [HE.out, HN.out]; simp
        case measure => simp [intOf]; omega
      · rw [hsh] at hrd
        have hfin : Lk.rdNums (sl s) size count (p, sh) = (acc, (st.1, true)) := by
          have hsu : count - k = (count - (k + 1)) + 1 := by omega
          rw [HE.out, hsu]
          have e : st = (st.1, true) := Prod.ext rfl hsh
          rw [e]
          simp [Lk.rdNums]
        have HF := hid hfin
        clear hfin hsh HE
        have k2 := hrd.c2
        have HR := hid hrd
        clear hrd
        go_wp2
        go_ret
        rw [HF.out]
        exact ⟨_, rfl, hown, HR.out, hgr⟩
    · have hfin : Lk.rdNums (sl s) size count (p, sh) = (acc, st) := by
        have hsu : count - k = 0 := by omega
        rw [HE.out, hsu]
        simp [Lk.rdNums]
      have HF := hid hfin
      clear hfin HE
      have HR := hid hrd
      clear hrd
      have hd : decide ((k : Int) < (count : Int)) = false := by simp; omega
      go_wp2
      go_ret
      rw [HF.out]
      exact ⟨_, rfl, hown, HR.out, hgr⟩

end Go.Proofs.Ythlncpgpadcjiaa

namespace Go.Proofs.Ythlncpgpadcjiaa
open Go.RowKit

/-- a block of cells, whole -/
def BlkAt (w : World) (g : Nat) (cs : Array Value) (t : TypeId) : Prop := w.heap[g]? = some (.cells cs t (0, 0))
section
variable {w w' : World} {g : Nat} {cs : Array Value} {t : TypeId}
theorem BlkAt.lt (h : BlkAt w g cs t) : g < w.heap.size := (Array.getElem?_eq_some_iff.1 h).1
theorem BlkAt.cell (h : BlkAt w g cs t) (o : Nat) : w.cell? ⟨g, o, none⟩ = cs[o]? := by simp [World.cell?, show w.heap[g]? = _ from h]
theorem BlkAt.free (h : BlkAt w g cs t) (o : Nat) : w.frozen? ⟨g, o, none⟩ = false := by simp [World.frozen?, show w.heap[g]? = _ from h]
theorem BlkAt.set (h : BlkAt w g cs t) (o : Nat) (v : Value) : BlkAt (w.setCell ⟨g, o, none⟩ v) g (cs.setIfInBounds o v) t := heap_set_same h v
theorem BlkAt.grown (h : BlkAt w g cs t) {row : Option Nat} (hg : w.grownBy w' row) (hne : some g ≠ row) : BlkAt w' g cs t := (hg.block g h.lt hne).trans h
theorem BlkAt.below (h : BlkAt w g cs t) {B : Nat} (hg : Below B w w') (hlt : g < B) : BlkAt w' g cs t := (hg.block g hlt).trans h
theorem BlkAt.new (w : World) (cs : Array Value) (t : TypeId) : BlkAt (w.alloc (.cells cs t)) w.heap.size cs t := heap_alloc_new w _
theorem BlkAt.drewN (h : BlkAt w g cs t) (n : Nat) : BlkAt (w.drewN n) g cs t := by unfold BlkAt; rw [heap_drewN]; exact h
end

/-- the world at a call made a letter -/
theorem Calls.at_world {P : Program} {f : Nat} {args : Array Value} {w : World} {K : Ending → World → Prop} (R : World → Prop) (hR : R w) (h : ∀ w, R w → Calls P f args w K) : Calls P f args w K := h w hR

/-- a call that reads into a variable of its own: the Reader in b, the variable in block 'size + 1', the result's place in block 'size' -/
structure St2 (w : World) (b : Nat) (s : ByteArray) (t : TypeId) (zs : Array Value) (p : Nat) (sh : Bool) (cs : Array Value) (W : World) : Prop where
  rd : RdAt W b s p sh
  own : BlkAt W (w.heap.size + 1) cs t
  res : BlkAt W w.heap.size zs t
  gr : w.grownBy W (some b)

section
variable {w W W' : World} {b : Nat} {s : ByteArray} {t : TypeId} {zs cs : Array Value} {p p' : Nat} {sh sh' : Bool}
theorem St2.begin (h : RdAt w b s p sh) : St2 w b s t zs p sh cs ((w.alloc (.cells zs t)).alloc (.cells cs t)) := by
  refine ⟨(h.grown (World.grownBy_alloc w _ none) (by simp)).grown (World.grownBy_alloc _ _ none) (by simp), ?_, ?_, ?_⟩
  · have := BlkAt.new (w.alloc (.cells zs t)) cs t
    simpa using this
  · exact (BlkAt.new w zs t).grown (World.grownBy_alloc _ _ none) (by simp)
  · exact grown_trans (World.grownBy_alloc _ _ _) (World.grownBy_alloc _ _ _)
theorem St2.call (h : St2 w b s t zs p sh cs W) (hb : b < w.heap.size) (hr : RdAt W' b s p' sh') (hg : W.grownBy W' (some b)) : St2 w b s t zs p' sh' cs W' :=
  ⟨hr, h.own.grown hg (by simp; omega), h.res.grown hg (by simp; omega), grown_trans h.gr hg⟩
theorem St2.store (h : St2 w b s t zs p sh cs W) (hb : b < w.heap.size) (o : Nat) (v : Value) : St2 w b s t zs p sh (cs.setIfInBounds o v) (W.setCell ⟨w.heap.size + 1, o, none⟩ v) :=
  ⟨h.rd.grown (grown_set W (w.heap.size + 1) o v) (by simp; omega), h.own.set o v, h.res.grown (grown_set W (w.heap.size + 1) o v) (by simp), grown_own h.gr (grown_set W (w.heap.size + 1) o v) (by simp)⟩
theorem St2.put (h : St2 w b s t zs p sh cs W) (hb : b < w.heap.size) (o : Nat) (v : Value) : St2 w b s t (zs.setIfInBounds o v) p sh cs (W.setCell ⟨w.heap.size, o, none⟩ v) :=
  ⟨h.rd.grown (grown_set W w.heap.size o v) (by simp; omega), h.own.grown (grown_set W w.heap.size o v) (by simp), h.res.set o v, grown_own h.gr (grown_set W w.heap.size o v) (by simp)⟩
end

theorem number_lit (b : Nat) (s : ByteArray) (p n : Nat) (m : Int) (hmn : m = (n : Int)) (sh : Bool) (w : World) (h : RdAt w b s p sh)
    (hs : s.size ≤ 1048576) (hp : p ≤ s.size) (hm : n ≤ 4) :
    Calls Try.prog 18 #[.pointer (some ⟨b, 0, none⟩), .int .i64 m] w fun e w' => e = .returned (.int .i64 (Lk.rdNum (sl s) n (p, sh)).1) ∧ RdAt w' b s (Lk.rdNum (sl s) n (p, sh)).2.1 (Lk.rdNum (sl s) n (p, sh)).2.2 ∧ w.grownBy w' (some b) := by
  subst hmn; exact number_any b s p n sh w h hs hp hm

theorem text_lit (b : Nat) (s : ByteArray) (p n : Nat) (m : Int) (hmn : m = (n : Int)) (sh : Bool) (w : World) (h : RdAt w b s p sh)
    (hs : s.size ≤ 1048576) (hp : p ≤ s.size) (hm : n ≤ 1048576) :
    Calls Try.prog 17 #[.pointer (some ⟨b, 0, none⟩), .int .i64 m] w fun e w' => e = .returned (.string (bs (Lk.rdText (sl s) n (p, sh)).1)) ∧ RdAt w' b s (Lk.rdText (sl s) n (p, sh)).2.1 (Lk.rdText (sl s) n (p, sh)).2.2 ∧ w.grownBy w' (some b) := by
  subst hmn; exact text_any b s p n sh w h hs hp hm

theorem pow_mono (a d : Nat) : (256 : Int) ^ a ≤ (256 : Int) ^ (a + d) := by
  induction d with
  | zero => simp
  | succ d ih =>
    have h1 := Int.pow_succ (256 : Int) (a + d)
    have hp : (0 : Int) < 256 ^ (a + d) := Int.pow_pos (by decide)
    rw [← Nat.add_assoc, h1]
    omega

theorem rdNum_byte (l : List UInt8) (n : Nat) (st : Lk.St) : 0 ≤ (Lk.rdNum l n st).1 ∧ (Lk.rdNum l n st).1 < (256 : Int) ^ n := by
  unfold Lk.rdNum
  refine ⟨Lk.num_nonneg _, ?_⟩
  have h2 := Lk.num_lt (Lk.rdText l n st).1
  have hl : (Lk.rdText l n st).1.length ≤ n := by
    unfold Lk.rdText
    split
    · simp; omega
    · simp
  have hm := pow_mono (Lk.rdText l n st).1.length (n - (Lk.rdText l n st).1.length)
  rw [Nat.add_sub_cancel' hl] at hm
  omega

end Go.Proofs.Ythlncpgpadcjiaa

namespace Go.Proofs.Ythlncpgpadcjiaa
open Go.RowKit

def symV (y : Lk.Sym) : List Value := [.string (bs y.name), .int .i64 y.bind, .int .i64 y.sect, .int .i64 y.off]
def relV (r : Lk.Rel) : List Value := [.int .i64 r.sect, .int .i64 r.off, .int .i64 r.kind, .int .i64 r.sym, .int .i64 r.addend]

theorem news2 (W : World) (o : Obj) (cs : Array Value) (t : TypeId) : ∀ j u, cs.toList[j]? = some u → ((W.alloc o).alloc (.cells cs t)).cell? ((⟨W.heap.size + 1, 0, none⟩ : Addr).add j) = some u := by
  have h : ((W.alloc o).alloc (.cells cs t)).heap[W.heap.size + 1]? = some (.cells cs t (0, 0)) := by
    have := heap_alloc_new (W.alloc o) (.cells cs t)
    simpa using this
  exact World.news_of_block h

theorem rd_keep2 {w wr w1 : World} {o o' : Obj} {b : Nat} {s : ByteArray} {p : Nat} {sh : Bool} {row : Option Nat} (hb : b < w.heap.size) (hg : w.grownBy wr (some b)) (hr : RdAt wr b s p sh) (hk : ((wr.alloc o).alloc o').grownBy w1 row) (hrow : ∀ g, row = some g → w.heap.size ≤ g) :
    RdAt w1 b s p sh ∧ w.grownBy w1 (some b) := by
  have h1 : wr.grownBy (wr.alloc o) none := World.grownBy_alloc wr o none
  exact rd_keep hb (grown_own hg h1 (by simp)) (hr.grown h1 (by simp)) hk hrow

theorem rdMany_le {α : Type} (l : List UInt8) (f : Lk.St → α × Lk.St) (hf : ∀ st, st.1 ≤ l.length → (f st).2.1 ≤ l.length) (c : Nat) (st : Lk.St) (h : st.1 ≤ l.length) : (Lk.rdMany f c st).2.1 ≤ l.length := by
  induction c generalizing st with
  | zero => exact h
  | succ c ih =>
    unfold Lk.rdMany
    split
    · exact h
    · exact ih _ (hf st h)
theorem rdSym_le (l : List UInt8) (st : Lk.St) (h : st.1 ≤ l.length) : (Lk.rdSym l st).2.1 ≤ l.length := by
  unfold Lk.rdSym
  exact rdNum_le _ _ _ (rdNum_le _ _ _ (rdNum_le _ _ _ (rdText_le _ _ _ (rdNum_le _ _ _ h))))
theorem rdRel_le (l : List UInt8) (st : Lk.St) (h : st.1 ≤ l.length) : (Lk.rdRel l st).2.1 ≤ l.length := by
  simp only [Lk.rdRel]
  refine rdNum_le _ _ _ ?_
  refine rdNum_le _ _ _ ?_
  refine rdNum_le _ _ _ ?_
  refine rdNum_le _ _ _ ?_
  exact rdNum_le _ _ _ h
theorem rdNums_le (l : List UInt8) (n c : Nat) (st : Lk.St) (h : st.1 ≤ l.length) : (Lk.rdNums l n c st).2.1 ≤ l.length := by
  rw [Lk.rdNums_many]; exact rdMany_le l _ (fun st h => rdNum_le l n st h) c st h

end Go.Proofs.Ythlncpgpadcjiaa

namespace Go.Proofs.Ythlncpgpadcjiaa
open Go.RowKit

theorem toList_bs (l : List UInt8) : (bs l).toList = l := by
  rw [ByteArray.toList_eq]; simp [bs]

theorem own_base {w : World} {base base' : Nat} {e : TypeId} {size : Nat} {v : Value} {n : Nat} {xs : List Value} (h : w.ownsRow base e size v n xs) (hb : base' ≤ base) : w.ownsRow base' e size v n xs := by
  refine ⟨h.1, ?_⟩
  rcases h.2 with h2 | ⟨g, cap, cur, hv, hg, r⟩
  · exact .inl h2
  · exact .inr ⟨g, cap, cur, hv, by omega, r⟩

theorem own_form {w : World} {base : Nat} {e : TypeId} {size : Nat} {v : Value} {n : Nat} {xs : List Value} (h : w.ownsRow base e size v n xs) : ∃ ao cap, v = .slice ao n cap := by
  rcases h.2 with ⟨h1, h2⟩ | ⟨g, cap, cur, hv, _⟩
  · exact ⟨none, 0, by rw [h1, h2]⟩
  · exact ⟨_, cap, hv⟩

/-- a list that is owned -/
structure Row where
  e : TypeId
  size : Nat
  v : Value
  n : Nat
  xs : List Value

def Row.In (r : Row) (W : World) (base : Nat) : Prop := W.ownsRow base r.e r.size r.v r.n r.xs

section
variable {w W W' : World} {b g : Nat} {s : ByteArray} {cs : Array Value} {rows : List Row} {p p' : Nat} {sh sh' : Bool}
end

theorem readNumbers_lit (b : Nat) (s : ByteArray) (p count size : Nat) (mc ms : Int) (hmc : mc = (count : Int)) (hms : ms = (size : Int)) (sh : Bool) (w : World) (h : RdAt w b s p sh)
    (hs : s.size ≤ 1048576) (hp : p ≤ s.size) (hc : count ≤ 65535) (hm : size ≤ 4) :
    Calls Try.prog 19 #[.pointer (some ⟨b, 0, none⟩), .int .i64 mc, .int .i64 ms] w fun e w' => ∃ v, e = .returned v ∧
      w'.ownsRow w.heap.size 3 1 v (Lk.rdNums (sl s) size count (p, sh)).1.length ((Lk.rdNums (sl s) size count (p, sh)).1.map (Value.int .i64)) ∧
      RdAt w' b s (Lk.rdNums (sl s) size count (p, sh)).2.1 (Lk.rdNums (sl s) size count (p, sh)).2.2 ∧ w.grownBy w' (some b) := by
  subst hmc hms; exact readNumbers_any b s p count size sh w h hs hp hc hm
end Go.Proofs.Ythlncpgpadcjiaa

namespace Go.Proofs.Ythlncpgpadcjiaa
open Go.RowKit

set_option maxHeartbeats 400000 in
theorem newReader_any (s : ByteArray) (w : World) :
    Calls Try.prog 12 #[.string s] w fun e w' => e = .returned (.agg #[.string s, .int .i64 0, .bool false]) ∧ w.grownBy w' none := by
  go_enter Try.func12, Try.ntmps12
  go_wp2
  have B := BlkAt.new w #[.string s, .int .i64 0, .bool false] 48
  have e0 := B.cell 0
  have e1 := B.cell 1
  have e2 := B.cell 2
  have G := World.grownBy_alloc w (.cells #[.string s, .int .i64 0, .bool false] 48) none
  refine bodyPost_ret (v := .agg #[.string s, .int .i64 0, .bool false]) ?_ rfl ⟨rfl, G⟩
  simp [results, Try.results12, go_sem]

end Go.Proofs.Ythlncpgpadcjiaa

namespace Go.Proofs.Ythlncpgpadcjiaa
open Go.RowKit

/-- while an image is read: the Reader in b, the image in g, what its lists own -/
structure ISt (w : World) (b g : Nat) (s : ByteArray) (p : Nat) (sh : Bool) (cs : Array Value) (rows : List Row) (W : World) : Prop where
  rd : RdAt W b s p sh
  obj : BlkAt W g cs 59
  rows : ∀ r ∈ rows, r.In W (g + 1)
  gr : w.grownBy W (some b)

section
variable {w W W' : World} {b g : Nat} {s : ByteArray} {cs : Array Value} {rows : List Row} {p p' : Nat} {sh sh' : Bool}
theorem ISt.begin (h : RdAt W b s p sh) (hg : w.grownBy W (some b)) (cs : Array Value) : ISt w b W.heap.size s p sh cs [] (W.alloc (.cells cs 59)) :=
  ⟨h.grown (World.grownBy_alloc W _ none) (by simp), BlkAt.new W cs 59, (by simp), grown_own hg (World.grownBy_alloc W _ none) (by simp)⟩
theorem ISt.call (h : ISt w b g s p sh cs rows W) (hb : b < g) (hr : RdAt W' b s p' sh') (hg : W.grownBy W' (some b)) : ISt w b g s p' sh' cs rows W' :=
  ⟨hr, h.obj.grown hg (by simp; omega), fun r hr => own_kept (h.rows r hr) (by omega) hg, grown_trans h.gr hg⟩
theorem ISt.row (h : ISt w b g s p sh cs rows W) (hb : b < g) (hr : RdAt W' b s p' sh') (hg : W.grownBy W' (some b)) (r : Row) (hrow : r.In W' W.heap.size) : ISt w b g s p' sh' cs (r :: rows) W' := by
  have h1 := h.call hb hr hg
  refine ⟨h1.rd, h1.obj, ?_, h1.gr⟩
  intro q hq
  rcases List.mem_cons.1 hq with rfl | hq
  · exact own_base hrow h.obj.lt
  · exact h1.rows q hq
theorem ISt.store (h : ISt w b g s p sh cs rows W) (hb : b < g) (hw : w.heap.size ≤ g) (o : Nat) (v : Value) : ISt w b g s p sh (cs.setIfInBounds o v) rows (W.setCell ⟨g, o, none⟩ v) :=
  ⟨h.rd.grown (grown_set W g o v) (by simp; omega), h.obj.set o v, fun r hr => ownsRow_setCell_below (h.rows r hr) (Nat.lt_succ_self g) v, grown_own h.gr (grown_set W g o v) (by simp; omega)⟩
end

/-- an image lies in block g, its lists behind it -/
def ImgAt (W : World) (g : Nat) (m : Im.Img) : Prop :=
  ∃ vt vf vd, BlkAt W g #[.int .i64 m.start, .int .i64 m.text, .int .i64 m.far, .int .i64 m.data, vt, vf, vd, .int .i64 m.noughts] 59 ∧
    W.ownsRow 0 3 1 vt m.T.length (m.T.map (Value.int .i64)) ∧ W.ownsRow 0 3 1 vf m.F.length (m.F.map (Value.int .i64)) ∧ W.ownsRow 0 3 1 vd m.D.length (m.D.map (Value.int .i64))

set_option maxHeartbeats 4000000 in
theorem readImage_yes (b : Nat) (s : ByteArray) (p : Nat) (sh : Bool) (w : World) (h : RdAt w b s p sh)
    (hs : s.size ≤ 1048576) (hp : p ≤ s.size) (hmark : (Lk.rdText (sl s) 2 (p, sh)).1 = [73, 77]) :
    Calls Try.prog 13 #[.pointer (some ⟨b, 0, none⟩)] w fun e w' => ∃ g, e = .returned (.pointer (some ⟨g, 0, none⟩)) ∧ w.heap.size ≤ g ∧
      ImgAt w' g (Im.rdImg (sl s) (Lk.rdText (sl s) 2 (p, sh)).2).1 ∧
      RdAt w' b s (Im.rdImg (sl s) (Lk.rdText (sl s) 2 (p, sh)).2).2.1 (Im.rdImg (sl s) (Lk.rdText (sl s) 2 (p, sh)).2).2.2 ∧ w.grownBy w' (some b) := by
  have hb := h.lt
  have hlen := sl_length s
  have l0 := rdText_le (sl s) 2 (p, sh) (by rw [hlen]; exact hp)
  have c0 := fun W h => text_lit b s p 2 2 rfl sh W h hs hp (by omega)
  generalize Lk.rdText (sl s) 2 (p, sh) = x0 at *
  obtain ⟨mk, p0, s0⟩ := x0
  simp only at hmark
  subst hmark
  rw [hlen] at l0
  unfold Im.rdImg
  simp only at *
  have b1 := rdNum_byte (sl s) 4 (p0, s0)
  have l1 := rdNum_le (sl s) 4 (p0, s0) (by rw [hlen]; exact l0)
  have c1 := fun W h => number_lit b s p0 4 4 rfl s0 W h hs l0 (by omega)
  generalize Lk.rdNum (sl s) 4 (p0, s0) = x1 at *
  obtain ⟨start, p1, s1⟩ := x1
  rw [hlen] at l1
  simp only [Int.reducePow] at *
  have b2 := rdNum_byte (sl s) 4 (p1, s1)
  have l2 := rdNum_le (sl s) 4 (p1, s1) (by rw [hlen]; exact l1)
  have c2 := fun W h => number_lit b s p1 4 4 rfl s1 W h hs l1 (by omega)
  generalize Lk.rdNum (sl s) 4 (p1, s1) = x2 at *
  obtain ⟨bt, p2, s2⟩ := x2
  rw [hlen] at l2
  simp only [Int.reducePow] at *
  have b3 := rdNum_byte (sl s) 4 (p2, s2)
  have l3 := rdNum_le (sl s) 4 (p2, s2) (by rw [hlen]; exact l2)
  have c3 := fun W h => number_lit b s p2 4 4 rfl s2 W h hs l2 (by omega)
  generalize Lk.rdNum (sl s) 4 (p2, s2) = x3 at *
  obtain ⟨bf, p3, s3⟩ := x3
  rw [hlen] at l3
  simp only [Int.reducePow] at *
  have b4 := rdNum_byte (sl s) 4 (p3, s3)
  have l4 := rdNum_le (sl s) 4 (p3, s3) (by rw [hlen]; exact l3)
  have c4 := fun W h => number_lit b s p3 4 4 rfl s3 W h hs l3 (by omega)
  generalize Lk.rdNum (sl s) 4 (p3, s3) = x4 at *
  obtain ⟨bd, p4, s4⟩ := x4
  rw [hlen] at l4
  simp only [Int.reducePow] at *
  have b5 := rdNum_byte (sl s) 2 (p4, s4)
  have l5 := rdNum_le (sl s) 2 (p4, s4) (by rw [hlen]; exact l4)
  have c5 := fun W h => number_lit b s p4 2 2 rfl s4 W h hs l4 (by omega)
  generalize Lk.rdNum (sl s) 2 (p4, s4) = x5 at *
  obtain ⟨nt, p5, s5⟩ := x5
  rw [hlen] at l5
  simp only [Int.reducePow] at *
  have b6 := rdNum_byte (sl s) 2 (p5, s5)
  have l6 := rdNum_le (sl s) 2 (p5, s5) (by rw [hlen]; exact l5)
  have c6 := fun W h => number_lit b s p5 2 2 rfl s5 W h hs l5 (by omega)
  generalize Lk.rdNum (sl s) 2 (p5, s5) = x6 at *
  obtain ⟨nf, p6, s6⟩ := x6
  rw [hlen] at l6
  simp only [Int.reducePow] at *
  have b7 := rdNum_byte (sl s) 2 (p6, s6)
  have l7 := rdNum_le (sl s) 2 (p6, s6) (by rw [hlen]; exact l6)
  have c7 := fun W h => number_lit b s p6 2 2 rfl s6 W h hs l6 (by omega)
  generalize Lk.rdNum (sl s) 2 (p6, s6) = x7 at *
  obtain ⟨nd, p7, s7⟩ := x7
  rw [hlen] at l7
  simp only [Int.reducePow] at *
  have b8 := rdNum_byte (sl s) 2 (p7, s7)
  have l8 := rdNum_le (sl s) 2 (p7, s7) (by rw [hlen]; exact l7)
  have c8 := fun W h => number_lit b s p7 2 2 rfl s7 W h hs l7 (by omega)
  generalize Lk.rdNum (sl s) 2 (p7, s7) = x8 at *
  obtain ⟨nb, p8, s8⟩ := x8
  rw [hlen] at l8
  simp only [Int.reducePow] at *
  have l9 := rdNums_le (sl s) 4 nt.toNat (p8, s8) (by rw [hlen]; exact l8)
  have c9 := fun W h => readNumbers_lit b s p8 nt.toNat 4 nt 4 (by omega) rfl s8 W h hs l8 (by omega) (by omega)
  generalize Lk.rdNums (sl s) 4 nt.toNat (p8, s8) = x9 at *
  obtain ⟨tx, p9, s9⟩ := x9
  rw [hlen] at l9
  simp only at *
  have l10 := rdNums_le (sl s) 4 nf.toNat (p9, s9) (by rw [hlen]; exact l9)
  have c10 := fun W h => readNumbers_lit b s p9 nf.toNat 4 nf 4 (by omega) rfl s9 W h hs l9 (by omega) (by omega)
  generalize Lk.rdNums (sl s) 4 nf.toNat (p9, s9) = x10 at *
  obtain ⟨fx, p10, s10⟩ := x10
  rw [hlen] at l10
  simp only at *
  have l11 := rdNums_le (sl s) 4 nd.toNat (p10, s10) (by rw [hlen]; exact l10)
  have c11 := fun W h => readNumbers_lit b s p10 nd.toNat 4 nd 4 (by omega) rfl s10 W h hs l10 (by omega) (by omega)
  generalize Lk.rdNums (sl s) 4 nd.toNat (p10, s10) = x11 at *
  obtain ⟨dx, p11, s11⟩ := x11
  rw [hlen] at l11
  simp only at *
  replace c0 := hid c0
  replace c1 := hid c1
  replace c2 := hid c2
  replace c3 := hid c3
  replace c4 := hid c4
  replace c5 := hid c5
  replace c6 := hid c6
  replace c7 := hid c7
  replace c8 := hid c8
  replace c9 := hid c9
  replace c10 := hid c10
  replace c11 := hid c11
  have H := hid h
  clear h hlen
  have ht : ((bs [73, 77]).toList == [73, 77]) = true := by rw [toList_bs]; rfl
  go_enter Try.func13, Try.ntmps13
  go_wp2_with fail
  refine (c0.out w H.out).mono ?_
  rintro e W0 ⟨rfl, r0, q0⟩
  replace r0 := hid r0
  replace q0 := hid q0
  go_wp2_with fail
  have hbg : b < W0.heap.size := r0.out.lt
  have hwg : w.heap.size ≤ W0.heap.size := q0.out.size
  generalize hG : W0.heap.size = g at *
  refine Calls.at_world (ISt w b g s p0 s0 #[.int .i64 0, .int .i64 0, .int .i64 0, .int .i64 0, .slice none 0 0, .slice none 0 0, .slice none 0 0, .int .i64 0] []) (by rw [← hG]; exact ISt.begin r0.out q0.out _) ?_
  clear r0 q0 hG
  intro V0 h0
  refine (c1.out V0 h0.rd).mono ?_
  rintro e U1 ⟨rfl, r, q⟩
  have S1 := hid (h0.call hbg r q)
  clear r q h0
  have k := S1.out.obj.cell 0
  have f := S1.out.obj.free 0
  go_wp2_with fail
  refine Calls.at_world (ISt w b g s p1 s1 #[.int .i64 start, .int .i64 0, .int .i64 0, .int .i64 0, .slice none 0 0, .slice none 0 0, .slice none 0 0, .int .i64 0] []) (S1.out.store hbg hwg 0 _) ?_
  clear k f S1 U1
  intro V1 h1
  refine (c2.out V1 h1.rd).mono ?_
  rintro e U2 ⟨rfl, r, q⟩
  have S2 := hid (h1.call hbg r q)
  clear r q h1
  have k := S2.out.obj.cell 1
  have f := S2.out.obj.free 1
  go_wp2_with fail
  refine Calls.at_world (ISt w b g s p2 s2 #[.int .i64 start, .int .i64 bt, .int .i64 0, .int .i64 0, .slice none 0 0, .slice none 0 0, .slice none 0 0, .int .i64 0] []) (S2.out.store hbg hwg 1 _) ?_
  clear k f S2 U2
  intro V2 h2
  refine (c3.out V2 h2.rd).mono ?_
  rintro e U3 ⟨rfl, r, q⟩
  have S3 := hid (h2.call hbg r q)
  clear r q h2
  have k := S3.out.obj.cell 2
  have f := S3.out.obj.free 2
  go_wp2_with fail
  refine Calls.at_world (ISt w b g s p3 s3 #[.int .i64 start, .int .i64 bt, .int .i64 bf, .int .i64 0, .slice none 0 0, .slice none 0 0, .slice none 0 0, .int .i64 0] []) (S3.out.store hbg hwg 2 _) ?_
  clear k f S3 U3
  intro V3 h3
  refine (c4.out V3 h3.rd).mono ?_
  rintro e U4 ⟨rfl, r, q⟩
  have S4 := hid (h3.call hbg r q)
  clear r q h3
  have k := S4.out.obj.cell 3
  have f := S4.out.obj.free 3
  go_wp2_with fail
  refine Calls.at_world (ISt w b g s p4 s4 #[.int .i64 start, .int .i64 bt, .int .i64 bf, .int .i64 bd, .slice none 0 0, .slice none 0 0, .slice none 0 0, .int .i64 0] []) (S4.out.store hbg hwg 3 _) ?_
  clear k f S4 U4
  intro V4 h4
  refine (c5.out V4 h4.rd).mono ?_
  rintro e U5 ⟨rfl, r, q⟩
  have S5 := hid (h4.call hbg r q)
  clear r q h4
  go_wp2_with fail
  refine Calls.at_world (ISt w b g s p5 s5 #[.int .i64 start, .int .i64 bt, .int .i64 bf, .int .i64 bd, .slice none 0 0, .slice none 0 0, .slice none 0 0, .int .i64 0] []) S5.out ?_
  clear S5 U5
  intro V5 h5
  refine (c6.out V5 h5.rd).mono ?_
  rintro e U6 ⟨rfl, r, q⟩
  have S6 := hid (h5.call hbg r q)
  clear r q h5
  go_wp2_with fail
  refine Calls.at_world (ISt w b g s p6 s6 #[.int .i64 start, .int .i64 bt, .int .i64 bf, .int .i64 bd, .slice none 0 0, .slice none 0 0, .slice none 0 0, .int .i64 0] []) S6.out ?_
  clear S6 U6
  intro V6 h6
  refine (c7.out V6 h6.rd).mono ?_
  rintro e U7 ⟨rfl, r, q⟩
  have S7 := hid (h6.call hbg r q)
  clear r q h6
  go_wp2_with fail
  refine Calls.at_world (ISt w b g s p7 s7 #[.int .i64 start, .int .i64 bt, .int .i64 bf, .int .i64 bd, .slice none 0 0, .slice none 0 0, .slice none 0 0, .int .i64 0] []) S7.out ?_
  clear S7 U7
  intro V7 h7
  refine (c8.out V7 h7.rd).mono ?_
  rintro e U8 ⟨rfl, r, q⟩
  have S8 := hid (h7.call hbg r q)
  clear r q h7
  have k := S8.out.obj.cell 7
  have f := S8.out.obj.free 7
  go_wp2_with fail
  refine Calls.at_world (ISt w b g s p8 s8 #[.int .i64 start, .int .i64 bt, .int .i64 bf, .int .i64 bd, .slice none 0 0, .slice none 0 0, .slice none 0 0, .int .i64 nb] []) (S8.out.store hbg hwg 7 _) ?_
  clear k f S8 U8
  intro V8 h8
  refine (c9.out V8 h8.rd).mono ?_
  rintro e U9 ⟨v, rfl, o, r, q⟩
  obtain ⟨atx, ctx, rfl⟩ := own_form o
  have S9 := hid (h8.row hbg r q ⟨3, 1, (.slice atx tx.length ctx), tx.length, tx.map (Value.int .i64)⟩ o)
  clear r q o h8
  have k := S9.out.obj.cell 4
  have f := S9.out.obj.free 4
  go_wp2_with fail
  refine Calls.at_world (ISt w b g s p9 s9 #[.int .i64 start, .int .i64 bt, .int .i64 bf, .int .i64 bd, (.slice atx tx.length ctx), .slice none 0 0, .slice none 0 0, .int .i64 nb] [⟨3, 1, (.slice atx tx.length ctx), tx.length, tx.map (Value.int .i64)⟩]) (S9.out.store hbg hwg 4 _) ?_
  clear k f S9 U9
  intro V9 h9
  refine (c10.out V9 h9.rd).mono ?_
  rintro e U10 ⟨v, rfl, o, r, q⟩
  obtain ⟨afx, cfx, rfl⟩ := own_form o
  have S10 := hid (h9.row hbg r q ⟨3, 1, (.slice afx fx.length cfx), fx.length, fx.map (Value.int .i64)⟩ o)
  clear r q o h9
  have k := S10.out.obj.cell 5
  have f := S10.out.obj.free 5
  go_wp2_with fail
  refine Calls.at_world (ISt w b g s p10 s10 #[.int .i64 start, .int .i64 bt, .int .i64 bf, .int .i64 bd, (.slice atx tx.length ctx), (.slice afx fx.length cfx), .slice none 0 0, .int .i64 nb] [⟨3, 1, (.slice afx fx.length cfx), fx.length, fx.map (Value.int .i64)⟩, ⟨3, 1, (.slice atx tx.length ctx), tx.length, tx.map (Value.int .i64)⟩]) (S10.out.store hbg hwg 5 _) ?_
  clear k f S10 U10
  intro V10 h10
  refine (c11.out V10 h10.rd).mono ?_
  rintro e U11 ⟨v, rfl, o, r, q⟩
  obtain ⟨adx, cdx, rfl⟩ := own_form o
  have S11 := hid (h10.row hbg r q ⟨3, 1, (.slice adx dx.length cdx), dx.length, dx.map (Value.int .i64)⟩ o)
  clear r q o h10
  have k := S11.out.obj.cell 6
  have f := S11.out.obj.free 6
  go_wp2
  go_ret
  have F := S11.out.store hbg hwg 6 (.slice adx dx.length cdx)
  refine ⟨g, rfl, hwg, ⟨(.slice atx tx.length ctx), (.slice afx fx.length cfx), (.slice adx dx.length cdx), F.obj, ?_, ?_, ?_⟩, F.rd, F.gr⟩
  · exact own_base (F.rows ⟨3, 1, (.slice atx tx.length ctx), tx.length, tx.map (Value.int .i64)⟩ (by simp)) (Nat.zero_le _)
  · exact own_base (F.rows ⟨3, 1, (.slice afx fx.length cfx), fx.length, fx.map (Value.int .i64)⟩ (by simp)) (Nat.zero_le _)
  · exact own_base (F.rows ⟨3, 1, (.slice adx dx.length cdx), dx.length, dx.map (Value.int .i64)⟩ (by simp)) (Nat.zero_le _)

set_option maxHeartbeats 1000000 in
theorem readImage_no (b : Nat) (s : ByteArray) (p : Nat) (sh : Bool) (w : World) (h : RdAt w b s p sh)
    (hs : s.size ≤ 1048576) (hp : p ≤ s.size) (hmark : (Lk.rdText (sl s) 2 (p, sh)).1 ≠ [73, 77]) :
    Calls Try.prog 13 #[.pointer (some ⟨b, 0, none⟩)] w fun e w' => e = .returned (.pointer none) ∧ w.grownBy w' (some b) := by
  have c0 := fun W h => text_lit b s p 2 2 rfl sh W h hs hp (by omega)
  generalize Lk.rdText (sl s) 2 (p, sh) = x0 at *
  obtain ⟨mk, p0, s0⟩ := x0
  simp only at hmark c0
  replace c0 := hid c0
  have H := hid h
  clear h
  have ht : ((bs mk).toList == [73, 77]) = false := by rw [toList_bs]; simpa using hmark
  clear hmark
  go_enter Try.func13, Try.ntmps13
  go_wp2_with fail
  refine (c0.out w H.out).mono ?_
  rintro e W0 ⟨rfl, r0, q0⟩
  replace r0 := hid r0
  replace q0 := hid q0
  go_wp2
  go_ret
  exact ⟨rfl, q0.out⟩

end Go.Proofs.Ythlncpgpadcjiaa

namespace Go.Proofs.Ythlncpgpadcjiaa
open Go.RowKit

/-- a list of numbers at ao -/
def IntsIn (w : World) (ao : Option Addr) (xs : List Int) : Prop :=
  0 < xs.length → ∃ g off, ao = some ⟨g, off, none⟩ ∧ ∀ i (h : i < xs.length), w.cell? ⟨g, off + i, none⟩ = some (.int .i64 xs[i])

theorem IntsIn.of_own {w : World} {base : Nat} {ao : Option Addr} {n cap : Nat} {xs : List Int} (h : w.ownsRow base 3 1 (.slice ao n cap) n (xs.map (Value.int .i64))) : IntsIn w ao xs := by
  intro h0
  have hn : xs.length = n := by have := h.1; simpa using this
  rcases h.2 with ⟨h1, h2⟩ | ⟨g, cap', cur, hv, _⟩
  · simp at h1; omega
  · simp only [Value.slice.injEq] at hv
    obtain ⟨rfl, _, rfl⟩ := hv
    refine ⟨g, 0, rfl, fun i hi => ?_⟩
    have := h.cellAt i (by omega)
    rw [Nat.zero_add, this]
    simp [hi]

theorem IntsIn.kept {w w' : World} {ao : Option Addr} {xs : List Int} (h : IntsIn w ao xs) (hc : ∀ a v, w.cell? a = some v → w'.cell? a = some v) : IntsIn w' ao xs := by
  intro h0
  obtain ⟨g, off, h1, h2⟩ := h h0
  exact ⟨g, off, h1, fun i hi => hc _ _ (h2 i hi)⟩

/-- all are words -/
def Words (xs : List Int) : Prop := ∀ i (h : i < xs.length), 0 ≤ xs[i] ∧ xs[i] ≤ 4294967295
def Borders (xs : List Int) : Prop := xs.length = 4 ∧ ∀ i (h : i < xs.length), 2 ≤ xs[i] ∧ xs[i] ≤ 4

/-- it returned whether P -/
def Tells (e : Ending) (P : Prop) : Prop := ∃ b, e = .returned (.bool b) ∧ (b = true ↔ P)
theorem Tells.yes {P : Prop} (h : P) : Tells (.returned (.bool true)) P := ⟨true, rfl, by simp [h]⟩
theorem Tells.no {P : Prop} (h : ¬ P) : Tells (.returned (.bool false)) P := ⟨false, rfl, by simp [h]⟩
theorem Tells.of {P : Prop} {b : Bool} (h : b = true ↔ P) : Tells (.returned (.bool b)) P := ⟨b, rfl, h⟩
theorem Tells.split {e : Ending} {P : Prop} (h : Tells e P) : (e = .returned (.bool false) ∧ Hid (¬ P)) ∨ (e = .returned (.bool true) ∧ Hid P) := by
  obtain ⟨b, rfl, h2⟩ := h
  cases b
  · exact .inl ⟨rfl, fun hp => by have := h2.2 hp; simp at this⟩
  · exact .inr ⟨rfl, h2.1 rfl⟩
theorem Tells.iff {e : Ending} {P Q : Prop} (h : Tells e P) (k : P ↔ Q) : Tells e Q := by
  obtain ⟨b, h1, h2⟩ := h
  exact ⟨b, h1, h2.trans k⟩

def Sizes (o : Lk.Obj) : Prop := (o.text.length ≤ 1200 ∧ o.far.length ≤ 1200 ∧ o.data.length ≤ 64) ∧ (0 ≤ o.bss ∧ o.bss ≤ 64) ∧ o.syms.length ≤ 16 ∧ o.rels.length ≤ 32

/-- small enough that no count wraps -/
def Small (o : Lk.Obj) : Prop := o.text.length ≤ 65535 ∧ o.far.length ≤ 65535 ∧ o.data.length ≤ 65535 ∧ o.align.length ≤ 65535 ∧ o.syms.length ≤ 65535 ∧ o.rels.length ≤ 65535

end Go.Proofs.Ythlncpgpadcjiaa

namespace Go.Proofs.Ythlncpgpadcjiaa
open Go.RowKit

set_option maxHeartbeats 1000000 in
theorem isBase_any (a : Int) (w : World) (h0 : 0 ≤ a) (h1 : a < 4294967296) :
    Calls Try.prog 20 #[.int .i64 a] w fun e w' => Tells e (Im.Base a) ∧ w' = w := by
  by_cases c1 : 4096 ≤ a
  · by_cases c2 : a < 1073741824
    · by_cases c3 : a % 16 = 0
      · have d1 : decide (4096 ≤ a) = true := by simpa using c1
        have d2 : decide (a < 1073741824) = true := by simpa using c2
        have d3 : (a % 16 == 0) = true := by simpa using c3
        have Q := hid (show Im.Base a from ⟨⟨c1, c2⟩, c3⟩)
        clear c1 c2 c3
        go_enter Try.func20, Try.ntmps20
        go_wp2
        go_ret
        exact ⟨Tells.yes Q.out, rfl⟩
      · have d1 : decide (4096 ≤ a) = true := by simpa using c1
        have d2 : decide (a < 1073741824) = true := by simpa using c2
        have d3 : (a % 16 == 0) = false := by simpa using c3
        have Q := hid (show ¬ Im.Base a from fun h => c3 h.2)
        clear c1 c2 c3
        go_enter Try.func20, Try.ntmps20
        go_wp2
        go_ret
        exact ⟨Tells.no Q.out, rfl⟩
    · have d1 : decide (4096 ≤ a) = true := by simpa using c1
      have d2 : decide (a < 1073741824) = false := by simpa using c2
      have Q := hid (show ¬ Im.Base a from fun h => c2 h.1.2)
      clear c1 c2
      go_enter Try.func20, Try.ntmps20
      go_wp2
      go_ret
      exact ⟨Tells.no Q.out, rfl⟩
  · have d1 : decide (4096 ≤ a) = false := by simpa using c1
    have Q := hid (show ¬ Im.Base a from fun h => c1 h.1.1)
    clear c1
    go_enter Try.func20, Try.ntmps20
    go_wp2
    go_ret
    exact ⟨Tells.no Q.out, rfl⟩

set_option maxHeartbeats 1000000 in
theorem regionOf_any (a : Int) (n : Int) (w : World) (h0 : 0 ≤ a) (h1 : a < 4294967296) (h2 : 0 ≤ n) (h3 : n ≤ 1048576) :
    Calls Try.prog 23 #[.int .i64 a, .int .i64 n] w fun e w' => e = .returned (.agg #[.int .i64 a, .int .i64 (a + 4 * n)]) ∧ w' = w.alloc (.cells #[.int .i64 a, .int .i64 (a + 4 * n)] 64) := by
  have e1 : IntKind.i64.wrap (4 * n) = 4 * n := IntWalk.i64_in _ ⟨by omega, by omega⟩
  have e2 : IntKind.i64.wrap (a + 4 * n) = a + 4 * n := IntWalk.i64_in _ ⟨by omega, by omega⟩
  go_enter Try.func23, Try.ntmps23
  go_wp2
  refine bodyPost_ret (v := .agg #[.int .i64 a, .int .i64 (a + 4 * n)]) ?_ rfl ⟨rfl, rfl⟩
  simp [results, Try.results23, go_sem]

set_option maxHeartbeats 2000000 in
theorem meet_any (a b c d : Int) (w : World) :
    Calls Try.prog 24 #[.agg #[.int .i64 a, .int .i64 b], .agg #[.int .i64 c, .int .i64 d]] w fun e w' => Tells e (Im.Meet a b c d) ∧ w.grownBy w' none := by
  have G := hid (grown_trans (World.grownBy_alloc w (.cells #[.int .i64 a, .int .i64 b] 64) none) (World.grownBy_alloc _ (.cells #[.int .i64 c, .int .i64 d] 64) none))
  by_cases c1 : a = b
  · have Q := hid (show ¬ Im.Meet a b c d from fun h => h.1 c1)
    have d1 : (a == b) = true := by simpa using c1
    clear c1
    go_enter Try.func24, Try.ntmps24
    go_wp2
    go_ret
    exact ⟨Tells.no Q.out, G.out⟩
  · by_cases c2 : c = d
    · have Q := hid (show ¬ Im.Meet a b c d from fun h => h.2.1 c2)
      have d1 : (a == b) = false := by simpa using c1
      have d2 : (c == d) = true := by simpa using c2
      clear c1 c2
      go_enter Try.func24, Try.ntmps24
      go_wp2
      go_ret
      exact ⟨Tells.no Q.out, G.out⟩
    · have d1 : (a == b) = false := by simpa using c1
      have d2 : (c == d) = false := by simpa using c2
      by_cases c3 : a < d
      · have d3 : decide (a < d) = true := by simpa using c3
        have Q := hid (show decide (c < b) = true ↔ Im.Meet a b c d from by rw [decide_eq_true_iff]; exact ⟨fun h => ⟨c1, c2, c3, h⟩, fun h => h.2.2.2⟩)
        clear c1 c2 c3
        go_enter Try.func24, Try.ntmps24
        go_wp2
        go_ret
        exact ⟨Tells.of Q.out, G.out⟩
      · have d3 : decide (a < d) = false := by simpa using c3
        have Q := hid (show ¬ Im.Meet a b c d from fun h => c3 h.2.2.1)
        clear c1 c2 c3
        go_enter Try.func24, Try.ntmps24
        go_wp2
        go_ret
        exact ⟨Tells.no Q.out, G.out⟩

namespace Im
/-- which of n words from base on lies at a; -1: none -/
def place (base : Int) (n : Nat) (a : Int) : Int := if base ≤ a ∧ (a - base) % 4 = 0 ∧ (a - base) / 4 < n then (a - base) / 4 else -1
theorem place_in {base : Int} {n : Nat} {a : Int} (h : In base n a) : place base n a = (a - base) / 4 := if_pos h
theorem place_out {base : Int} {n : Nat} {a : Int} (h : ¬ In base n a) : place base n a = -1 := if_neg h
end Im

set_option maxHeartbeats 2000000 in
theorem place_any (ao : Option Addr) (n cap : Nat) (base a : Int) (w : World) (h0 : 0 ≤ a) (h1 : a < 4294967296) (h2 : 0 ≤ base) (h3 : base < 4294967296) :
    Calls Try.prog 25 #[.slice ao n cap, .int .i64 base, .int .i64 a] w fun e w' => e = .returned (.int .i64 (Im.place base n a)) ∧ w' = w := by
  by_cases c1 : a < base
  · have R := hid (Im.place_out (n := n) (show ¬ Im.In base n a from fun h => by have := h.1; omega))
    have d1 : decide (a < base) = true := by simpa using c1
    clear c1
    go_enter Try.func25, Try.ntmps25
    go_wp2
    go_ret
    rw [R.out]
    exact ⟨rfl, rfl⟩
  · have d1 : decide (a < base) = false := by simpa using c1
    have e1 : IntKind.i64.wrap (a - base) = a - base := IntWalk.i64_in _ ⟨by omega, by omega⟩
    have e2 : (a - base).tmod 4 = (a - base) % 4 := Int.tmod_eq_emod_of_nonneg (by omega)
    have e3 : (a - base).tdiv 4 = (a - base) / 4 := Int.tdiv_eq_ediv_of_nonneg (by omega)
    by_cases c2 : (a - base) % 4 = 0
    · have d2 : ((a - base) % 4 == 0) = true := by simpa using c2
      by_cases c3 : (a - base) / 4 < n
      · have R := hid (Im.place_in (show Im.In base n a from ⟨by omega, c2, c3⟩))
        have d3 : decide ((n : Int) ≤ (a - base) / 4) = false := by simp; omega
        go_enter Try.func25, Try.ntmps25
        go_wp2
        go_ret
        rw [R.out]
        exact ⟨rfl, rfl⟩
      · have R := hid (Im.place_out (show ¬ Im.In base n a from fun h => c3 h.2.2))
        have d3 : decide ((n : Int) ≤ (a - base) / 4) = true := by simp; omega
        go_enter Try.func25, Try.ntmps25
        go_wp2
        go_ret
        rw [R.out]
        exact ⟨rfl, rfl⟩
    · have d2 : ((a - base) % 4 == 0) = false := by simpa using c2
      have R := hid (Im.place_out (n := n) (show ¬ Im.In base n a from fun h => c2 h.2.1))
      go_enter Try.func25, Try.ntmps25
      go_wp2
      go_ret
      rw [R.out]
      exact ⟨rfl, rfl⟩

end Go.Proofs.Ythlncpgpadcjiaa

namespace Go.Proofs.Ythlncpgpadcjiaa
open Go.RowKit

def AllWords (o : Lk.Obj) : Prop := Words o.text ∧ Words o.far ∧ Words o.data

theorem own_cap {w : World} {base : Nat} {e : TypeId} {size : Nat} {ao : Option Addr} {n cap : Nat} {xs : List Value} (h : w.ownsRow base e size (.slice ao n cap) n xs) : n ≤ cap ∧ cap ≤ maxLen := by
  rcases h.2 with ⟨h1, h2⟩ | ⟨g, cap', cur, hv, _, _, h3, h4, _⟩
  · simp at h1; omega
  · simp only [Value.slice.injEq] at hv
    obtain ⟨_, _, rfl⟩ := hv
    exact ⟨h3, h4⟩

/-- a section's words -/
def wordsOf (o : Lk.Obj) (sect : Int) : List Int := if sect = 1 then o.text else if sect = 2 then o.far else if sect = 3 then o.data else []

end Go.Proofs.Ythlncpgpadcjiaa

namespace Go.Proofs.Ythlncpgpadcjiaa
open Go.RowKit

namespace Im
/-- the word of code at an address -/
def code (m : Img) (a : Int) : Option Int :=
  if 0 ≤ place m.text m.T.length a then some (m.T.getD (place m.text m.T.length a).toNat 0)
  else if 0 ≤ place m.far m.F.length a then some (m.F.getD (place m.far m.F.length a).toNat 0) else none
theorem place_range (base : Int) (n : Nat) (a : Int) : place base n a = -1 ∨ (0 ≤ place base n a ∧ place base n a < n) := by
  unfold place
  split
  · right; omega
  · left; rfl
theorem place_iff (base : Int) (n : Nat) (a : Int) : 0 ≤ place base n a ↔ In base n a := by
  unfold place In
  split
  · rename_i h; exact ⟨fun _ => h, fun _ => by omega⟩
  · rename_i h; exact ⟨fun k => by omega, fun k => absurd k h⟩
theorem code_iff (m : Img) (a : Int) : (code m a).isSome = true ↔ In m.text m.T.length a ∨ In m.far m.F.length a := by
  unfold code
  rw [← place_iff, ← place_iff]
  by_cases h : 0 ≤ place m.text m.T.length a
  · simp [h]
  · by_cases k : 0 ≤ place m.far m.F.length a <;> simp [h, k]

/-- numbers such as reading gives -/
structure Tame (m : Img) : Prop where
  start : 0 ≤ m.start ∧ m.start < 4294967296
  text : 0 ≤ m.text ∧ m.text < 4294967296
  far : 0 ≤ m.far ∧ m.far < 4294967296
  data : 0 ≤ m.data ∧ m.data < 4294967296
  lens : m.T.length ≤ 65535 ∧ m.F.length ≤ 65535 ∧ m.D.length ≤ 65535
  noughts : 0 ≤ m.noughts ∧ m.noughts ≤ 65535
end Im

theorem ImgAt.open {W : World} {g : Nat} {m : Im.Img} (h : ImgAt W g m) : ∃ at_ ct af cf ad cd,
    BlkAt W g #[.int .i64 m.start, .int .i64 m.text, .int .i64 m.far, .int .i64 m.data, .slice at_ m.T.length ct, .slice af m.F.length cf, .slice ad m.D.length cd, .int .i64 m.noughts] 59 ∧
    W.ownsRow 0 3 1 (.slice at_ m.T.length ct) m.T.length (m.T.map (Value.int .i64)) ∧ W.ownsRow 0 3 1 (.slice af m.F.length cf) m.F.length (m.F.map (Value.int .i64)) ∧
    W.ownsRow 0 3 1 (.slice ad m.D.length cd) m.D.length (m.D.map (Value.int .i64)) := by
  obtain ⟨vt, vf, vd, hb, h1, h2, h3⟩ := h
  obtain ⟨at_, ct, rfl⟩ := own_form h1
  obtain ⟨af, cf, rfl⟩ := own_form h2
  obtain ⟨ad, cd, rfl⟩ := own_form h3
  exact ⟨at_, ct, af, cf, ad, cd, hb, h1, h2, h3⟩

theorem ImgAt.kept {W W' : World} {g : Nat} {m : Im.Img} (h : ImgAt W g m) (hg : W.grownBy W' none) : ImgAt W' g m := by
  obtain ⟨vt, vf, vd, hb, h1, h2, h3⟩ := h
  have k : ∀ {v : Value} {n : Nat} {xs : List Value}, W.ownsRow 0 3 1 v n xs → W'.ownsRow 0 3 1 v n xs := fun h => h.kept hg (by
    cases h' : Value.ownBlock _ with
    | none => exact .inl rfl
    | some b => right; simp)
  exact ⟨vt, vf, vd, hb.grown hg (by simp), k h1, k h2, k h3⟩

set_option maxHeartbeats 4000000 in
theorem code_any (g : Nat) (m : Im.Img) (a : Int) (w : World) (h : ImgAt w g m) (ht : Im.Tame m) (h0 : 0 ≤ a) (h1 : a < 4294967296) :
    Calls Try.prog 22 #[.pointer (some ⟨g, 0, none⟩), .int .i64 a] w fun e w' => e = .returned (.tuple #[.int .i64 ((Im.code m a).getD 0), .bool (Im.code m a).isSome]) ∧ ∃ n, w' = w.drewN n := by
  obtain ⟨at_, ct, af, cf, ad, cd, hb, q1, q2, -⟩ := h.open
  have hc1 := own_cap q1
  have hc2 := own_cap q2
  have I1 := hid (IntsIn.of_own q1)
  have I2 := hid (IntsIn.of_own q2)
  have k1 := hb.cell 1
  have k2 := hb.cell 2
  have k4 := hb.cell 4
  have k5 := hb.cell 5
  simp only [List.getElem?_toArray, List.getElem?_cons_succ, List.getElem?_cons_zero] at k1 k2 k4 k5
  have cT := hid (fun W => place_any at_ m.T.length ct m.text a W h0 h1 ht.text.1 ht.text.2)
  have cF := hid (fun W => place_any af m.F.length cf m.far a W h0 h1 ht.far.1 ht.far.2)
  obtain ⟨X, hX⟩ : ∃ X, X = Im.code m a := ⟨_, rfl⟩
  rw [← hX]
  unfold Im.code at hX
  have RX := hid hX
  have r1 := Im.place_range m.text m.T.length a
  have r2 := Im.place_range m.far m.F.length a
  have L := hid ht.lens
  clear hX h ht hb q1 q2
  generalize Im.place m.text m.T.length a = i at *
  generalize Im.place m.far m.F.length a = j at *
  have hl1 := L.out.1
  have hl2 := L.out.2.1
  by_cases ci : 0 ≤ i
  · have d1 : decide (0 ≤ i) = true := by simpa using ci
    have hi : i.toNat < m.T.length := by omega
    obtain ⟨sg, off, rfl, hcell⟩ := I1.out (by omega)
    have hck := hcell i.toNat hi
    rw [if_pos ci] at RX
    have GE := hid (show m.T.getD i.toNat 0 = m.T[i.toNat] from by rw [List.getD_eq_getElem?_getD, List.getElem?_eq_getElem hi]; rfl)
    rw [GE.out] at RX
    have g1 : i < (m.T.length : Int) := by omega
    clear hcell r1 r2 cF I1 I2 L GE
    generalize m.T[i.toNat] = v at *
    obtain ⟨n, rfl⟩ : ∃ n : Nat, i = n := ⟨i.toNat, by omega⟩
    rw [Int.toNat_natCast] at hck hi
    go_enter Try.func22, Try.ntmps22
    go_wp2
    go_quiet ((go_at_call 25; exact Calls.quiet_of_same (cT.out _)))
    go_wp2
    go_ret2
    rw [RX.out]
    exact ⟨rfl, _, rfl⟩
  · have d1 : decide (0 ≤ i) = false := by simpa using ci
    rw [if_neg ci] at RX
    obtain rfl : i = -1 := by omega
    clear I1 r1
    by_cases cj : 0 ≤ j
    · have d2 : decide (0 ≤ j) = true := by simpa using cj
      have hj : j.toNat < m.F.length := by omega
      obtain ⟨sg, off, rfl, hcell⟩ := I2.out (by omega)
      have hck := hcell j.toNat hj
      rw [if_pos cj] at RX
      have GE := hid (show m.F.getD j.toNat 0 = m.F[j.toNat] from by rw [List.getD_eq_getElem?_getD, List.getElem?_eq_getElem hj]; rfl)
      rw [GE.out] at RX
      have g1 : j < (m.F.length : Int) := by omega
      clear hcell r2 I2 L GE
      generalize m.F[j.toNat] = v at *
      obtain ⟨n, rfl⟩ : ∃ n : Nat, j = n := ⟨j.toNat, by omega⟩
      rw [Int.toNat_natCast] at hck hj
      go_enter Try.func22, Try.ntmps22
      go_wp2
      go_quiet ((go_at_call 25; exact Calls.quiet_of_same (cT.out _)))
      go_wp2
      have HE := hid (show ∃ n, w.drewN nq = w.drewN n from ⟨_, rfl⟩)
      replace k2 : (w.drewN nq).cell? ⟨g, 2, none⟩ = some (.int .i64 m.far) := k2
      replace k5 : (w.drewN nq).cell? ⟨g, 5, none⟩ = some (.slice (some ⟨sg, off, none⟩) m.F.length cf) := k5
      replace hck : (w.drewN nq).cell? ⟨sg, off + n, none⟩ = some (.int .i64 v) := hck
      generalize w.drewN nq = V at *
      go_quiet ((go_at_call 25; exact Calls.quiet_of_same (cF.out _)))
      go_wp2
      go_ret2
      rw [RX.out]
      exact ⟨rfl, by obtain ⟨q, hq⟩ := HE.out; exact ⟨_, by rw [hq, World.drewN_drewN]⟩⟩
    · have d2 : decide (0 ≤ j) = false := by simpa using cj
      rw [if_neg cj] at RX
      obtain rfl : j = -1 := by omega
      go_enter Try.func22, Try.ntmps22
      go_wp2
      go_quiet ((go_at_call 25; exact Calls.quiet_of_same (cT.out _)))
      go_wp2
      have HE := hid (show ∃ n, w.drewN nq = w.drewN n from ⟨_, rfl⟩)
      replace k2 : (w.drewN nq).cell? ⟨g, 2, none⟩ = some (.int .i64 m.far) := k2
      replace k5 : (w.drewN nq).cell? ⟨g, 5, none⟩ = some (.slice af m.F.length cf) := k5
      generalize w.drewN nq = V at *
      go_quiet ((go_at_call 25; exact Calls.quiet_of_same (cF.out _)))
      go_wp2
      go_ret2
      rw [RX.out]
      exact ⟨rfl, by obtain ⟨q, hq⟩ := HE.out; exact ⟨_, by rw [hq, World.drewN_drewN]⟩⟩

end Go.Proofs.Ythlncpgpadcjiaa

namespace Go.Proofs.Ythlncpgpadcjiaa
open Go.RowKit

def seclen (o : Lk.Obj) (sect : Int) : Int := if sect = 4 then o.bss else (wordsOf o sect).length

theorem wordsOf_small {o : Lk.Obj} (h : Small o) (sect : Int) : (wordsOf o sect).length ≤ 65535 := by
  obtain ⟨n1, n2, n3, n4, n5, n6⟩ := h
  unfold wordsOf
  split
  · exact n1
  split
  · exact n2
  split
  · exact n3
  · simp

def Chr (c : Int) : Prop := c = 95 ∨ (48 ≤ c ∧ c ≤ 57) ∨ (97 ≤ c ∧ c ≤ 122)
def NameOk (s : ByteArray) : Prop := 1 ≤ s.size ∧ s.size ≤ 6 ∧ (∀ h : 0 < s.size, ¬ (48 ≤ (s[0].toNat : Int) ∧ (s[0].toNat : Int) ≤ 57)) ∧ ∀ i (h : i < s.size), Chr (s[i].toNat : Int)

/-- a list of symbols at ao -/
def SymsIn (w : World) (ao : Option Addr) (ys : List Lk.Sym) : Prop :=
  0 < ys.length → ∃ g, ao = some ⟨g, 0, none⟩ ∧ g < w.heap.size ∧ ∀ i (h : i < ys.length), w.cell? ⟨g, i * 4, none⟩ = some (.string (bs ys[i].name)) ∧ w.cell? ⟨g, i * 4 + 1, none⟩ = some (.int .i64 ys[i].bind) ∧
    w.cell? ⟨g, i * 4 + 2, none⟩ = some (.int .i64 ys[i].sect) ∧ w.cell? ⟨g, i * 4 + 3, none⟩ = some (.int .i64 ys[i].off)

theorem flat_get {α : Type} (f : α → List Value) (size : Nat) (hf : ∀ x, (f x).length = size) (l : List α) (i j : Nat) (hi : i < l.length) (hj : j < size) : (l.flatMap f)[i * size + j]? = (f l[i])[j]? := by
  induction l generalizing i with
  | nil => simp at hi
  | cons x t ih =>
    rw [List.flatMap_cons]
    cases i with
    | zero =>
      rw [List.getElem?_append_left (by rw [hf]; omega)]
      simp
    | succ i =>
      rw [List.getElem?_append_right (by rw [hf, Nat.succ_mul]; omega), hf]
      have : (i + 1) * size + j - size = i * size + j := by rw [Nat.succ_mul]; omega
      rw [this, ih i (by simpa using hi)]
      simp

theorem SymsIn.grown {w w' : World} {ao : Option Addr} {ys : List Lk.Sym} (h : SymsIn w ao ys) (hg : w.grownBy w' none) : SymsIn w' ao ys := by
  intro h0
  obtain ⟨g, h1, h2, h3⟩ := h h0
  refine ⟨g, h1, Nat.lt_of_lt_of_le h2 hg.size, fun i hi => ?_⟩
  obtain ⟨a, b, c, d⟩ := h3 i hi
  exact ⟨hg.cell a (by simp), hg.cell b (by simp), hg.cell c (by simp), hg.cell d (by simp)⟩

end Go.Proofs.Ythlncpgpadcjiaa

namespace Go.Proofs.Ythlncpgpadcjiaa
open Go.RowKit

def SymOk (o : Lk.Obj) (y : Lk.Sym) : Prop :=
  NameOk (bs y.name) ∧ (0 ≤ y.bind ∧ y.bind ≤ 2) ∧ (0 ≤ y.sect ∧ y.sect ≤ 4) ∧ ¬ (y.sect = 0 ∧ y.bind = 0) ∧ 0 ≤ y.off ∧ y.off % 4 = 0 ∧ y.off ≤ 4 * seclen o y.sect

end Go.Proofs.Ythlncpgpadcjiaa

namespace Go.Proofs.Ythlncpgpadcjiaa
open Go.RowKit

def SymsOk (o : Lk.Obj) : Prop := ∀ i (h : i < o.syms.length), SymOk o o.syms[i] ∧ ¬ ∃ j, ∃ hj : j < o.syms.length, j < i ∧ o.syms[j].name = o.syms[i].name

theorem take_names (ys : List Lk.Sym) (k : Nat) (hk : k < ys.length) (nm : List UInt8) : (∃ i, ∃ h : i < (ys.take k).length, (ys.take k)[i].name = nm) ↔ ∃ j, ∃ hj : j < ys.length, j < k ∧ ys[j].name = nm := by
  constructor
  · rintro ⟨i, h, e⟩
    simp only [List.length_take] at h
    refine ⟨i, by omega, by omega, ?_⟩
    rw [List.getElem_take] at e
    exact e
  · rintro ⟨j, hj, hk', e⟩
    refine ⟨j, by simp; omega, ?_⟩
    rw [List.getElem_take]
    exact e

theorem SymsIn.take {w : World} {ao : Option Addr} {ys : List Lk.Sym} (h : SymsIn w ao ys) (k : Nat) : SymsIn w ao (ys.take k) := by
  intro h0
  simp only [List.length_take] at h0
  obtain ⟨g, h1, h2, h3⟩ := h (by omega)
  refine ⟨g, h1, h2, fun i hi => ?_⟩
  have hi' : i < ys.length := by simp at hi; omega
  have := h3 i hi'
  simpa [List.getElem_take] using this

theorem put_mk (t : Array Value) (ds : List Deferred) (i : Tmp) (v : Value) : Act.put ⟨t, ds⟩ (some i) v = ⟨t.setIfInBounds i v, ds⟩ := rfl
theorem grown_drew {a b : World} {row : Option Nat} (h : a.grownBy b row) : a.grownBy b.drew row := ⟨h.os, h.tape, h.output, h.size, h.block⟩
theorem gcell {w w' : World} {a : Addr} {v : Value} (h : w.cell? a = some v) (hg : w.grownBy w' none) : w'.cell? a = some v := hg.cell h (by simp)

end Go.Proofs.Ythlncpgpadcjiaa
