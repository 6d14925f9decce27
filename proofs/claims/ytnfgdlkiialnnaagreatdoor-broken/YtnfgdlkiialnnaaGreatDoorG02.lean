/- Walks over package object's readers: the lists of symbols and of relocations. -/
/- Walks over package object's readers: readObject. -/
/- Walks over package object's checks: sizes, borders, words. -/
/- Walks over package object's checks: words, names, sections. -/
/- Walks over package object's checks: symbols. -/
import Derived.Test.YtnfgdlkiialnnaaGreatDoorG01
import Derived.Deep.AppendLies
namespace Go.Proofs.YtnfgdlkiialnnaaGreatDoor
open Go.RowKit

def symV (y : Lk.Sym) : List Value := [.string (bs y.name), .int .i64 y.bind, .int .i64 y.sect, .int .i64 y.off]
def relV (r : Lk.Rel) : List Value := [.int .i64 r.sect, .int .i64 r.off, .int .i64 r.kind, .int .i64 r.sym, .int .i64 r.addend]

theorem news2 (W : World) (o : Obj) (cs : Array Value) (t : TypeId) : ∀ j u, cs.toList[j]? = some u → ((W.alloc o).alloc (.cells cs t)).cell? ((⟨W.heap.size + 1, 0, none⟩ : Addr).add j) = some u := by
 have h : ((W.alloc o).alloc (.cells cs t)).heap[W.heap.size + 1]? = some (.cells cs t (0, 0)) := by
  have := heap_alloc_new (W.alloc o) (.cells cs t)
  simpa using this
 exact World.news_of_block h

theorem rd_keep2 {w wr w1 : World} {o o' : Obj} {b : Nat} {s : ByteArray} {p : Nat} {sh : Bool} {row : Option Nat} (hb : b < w.heap.size) (hg : w.grownBy wr (some b)) (hr : RdAt wr b s p sh) (hk : ((wr.alloc o).alloc o').grownBy w1 row) (hrow : ∀ g, row = some g → w.heap.size ≤ g) :
  RdAt w1 b s p sh ∧ w.grownBy w1 (some b) := by
 have h1 : wr.grownBy (wr.alloc o) none := World.grownBy_alloc wr o none
 exact rd_keep hb (grown_own hg h1 (by simp)) (hr.grown h1 (by simp)) hk hrow

theorem rdMany_le {α : Type} (l : List UInt8) (f : Lk.St → α × Lk.St) (hf : ∀ st, st.1 ≤ l.length → (f st).2.1 ≤ l.length) (c : Nat) (st : Lk.St) (h : st.1 ≤ l.length) : (Lk.rdMany f c st).2.1 ≤ l.length := by
 induction c generalizing st with
 | zero => exact h
 | succ c ih =>
  unfold Lk.rdMany
  split
  ·exact h
  ·exact ih _ (hf st h)
theorem rdSym_le (l : List UInt8) (st : Lk.St) (h : st.1 ≤ l.length) : (Lk.rdSym l st).2.1 ≤ l.length := by
 unfold Lk.rdSym
 exact rdNum_le _ _ _ (rdNum_le _ _ _ (rdNum_le _ _ _ (rdText_le _ _ _ (rdNum_le _ _ _ h))))
theorem rdRel_le (l : List UInt8) (st : Lk.St) (h : st.1 ≤ l.length) : (Lk.rdRel l st).2.1 ≤ l.length := by
 simp only [Lk.rdRel]
 refine rdNum_le _ _ _ ?_
 refine rdNum_le _ _ _ ?_
 refine rdNum_le _ _ _ ?_
 refine rdNum_le _ _ _ ?_
 exact rdNum_le _ _ _ h
theorem rdNums_le (l : List UInt8) (n c : Nat) (st : Lk.St) (h : st.1 ≤ l.length) : (Lk.rdNums l n c st).2.1 ≤ l.length := by
 rw [Lk.rdNums_many]; exact rdMany_le l _ (fun st h => rdNum_le l n st h) c st h

set_option maxHeartbeats 1000000 in
theorem readSymbols_any (b : Nat) (s : ByteArray) (p count : Nat) (sh : Bool) (w : World) (h : RdAt w b s p sh)
  (hs : s.size ≤ 1048576) (hp : p ≤ s.size) (hc : count ≤ 65535) :
  Calls Tryz.prog 119 #[.pointer (some ⟨b, 0, none⟩), .int .i64 count] w fun e w' => ∃ v, e = .returned v ∧
   w'.ownsRow w.heap.size 124 4 v (Lk.rdMany (Lk.rdSym (sl s)) count (p, sh)).1.length ((Lk.rdMany (Lk.rdSym (sl s)) count (p, sh)).1.flatMap symV) ∧
   RdAt w' b s (Lk.rdMany (Lk.rdSym (sl s)) count (p, sh)).2.1 (Lk.rdMany (Lk.rdSym (sl s)) count (p, sh)).2.2 ∧ w.grownBy w' (some b) := by
 obtain ⟨i0, hi, hz0, hz1, hz2⟩ := info_parts Tryz.infoSym
 have hb := h.lt
 have H := hid h
 clear h
 go_enter Tryz.func119, Tryz.ntmps119
 go_wp2_with fail
 go_loopw [5, 6] (fun v i wr => ∃ (k : Nat) (acc : List Lk.Sym) (st : Lk.St), k ≤ count ∧ i = .int .i64 k ∧ acc.length = k ∧ st.1 ≤ s.size ∧
   wr.ownsRow w.heap.size 124 4 v acc.length (acc.flatMap symV) ∧ RdAt wr b s st.1 st.2 ∧ w.grownBy wr (some b) ∧
   Lk.rdMany (Lk.rdSym (sl s)) count (p, sh) = (acc ++ (Lk.rdMany (Lk.rdSym (sl s)) (count - k) st).1, (Lk.rdMany (Lk.rdSym (sl s)) (count - k) st).2)) (fun _ i _ => count - (intOf i).toNat)
 case atStart => exact ⟨0, [], (p, sh), Nat.zero_le _, rfl, rfl, hp, World.ownsRow_nil _ _ _ _, H.out, World.grownBy.refl _ _, by simp⟩
 case round =>
  obtain ⟨k, acc, st, hk, rfl, hacc, hst, hown, hrd, hgr, heq⟩ := hrel
  have HE := hid heq
  have HA := hid hacc
  clear heq
  by_cases hlt : k < count
  ·cases hsh : st.2
   ·rw [hsh] at hrd
    have hsu : count - k = (count - (k + 1)) + 1 := by omega
    have hle := rdSym_le (sl s) (st.1, false) (by rw [sl_length]; exact hst)
    have cN := hid (readSymbol_any b s st.1 false wr hrd hs hst)
    have HN := hid (show Lk.rdMany (Lk.rdSym (sl s)) (count - k) st = ((Lk.rdSym (sl s) (st.1, false)).1 :: (Lk.rdMany (Lk.rdSym (sl s)) (count - (k + 1)) (Lk.rdSym (sl s) (st.1, false)).2).1, (Lk.rdMany (Lk.rdSym (sl s)) (count - (k + 1)) (Lk.rdSym (sl s) (st.1, false)).2).2) from by
     rw [hsu]
     have e : st = (st.1, false) := Prod.ext rfl hsh
     rw [e]; rfl)
    rw [sl_length] at hle
    clear hsu hsh
    generalize Lk.rdSym (sl s) (st.1, false) = r at *
    obtain ⟨x, st'⟩ := r
    simp only at cN HN hle
    have cS := hid (short_any b s st.1 false wr hrd)
    have HR := hid hrd
    clear hrd
    have hacc2 : acc.length ≤ 65535 := by omega
    go_wp2_with fail
    refine cS.out.mono ?_
    rintro e w1 ⟨rfl, rfl⟩
    go_wp2_with fail
    refine cN.out.mono ?_
    rintro e w2 ⟨rfl, hrd2, hgr2⟩
    have hown2 := own_kept hown hb hgr2
    have hgr3 := grown_trans hgr hgr2
    have HR2 := hid hrd2
    have HG2 := hid hgr3
    have hsz := hgr3.size
    clear hrd2 hgr2 hgr3 hown hgr HR cS cN
    go_wp2_with (at_builtin; refine wpList_append_own _ rfl _ _ 87 rfl w.heap.size 124 i0 (.agg #[.string ⟨#[]⟩, .int .i64 0, .int .i64 0, .int .i64 0]) 4 40 Tryz.underlying87 hi hz0 hz1 hz2 rfl (by decide) _ _ _ rfl ((hown2.alloc _).alloc _) ⟨w2.heap.size + 1, 0, none⟩ 1 1 (symV x) rfl rfl (news2 _ _ _ _) (by intro u hu; simp [symV] at hu; rcases hu with rfl | rfl | rfl | rfl <;> rfl) (by unfold maxLen; omega) (by omega) (by simp; omega) ?_; intro v' w3 hown' hgrow _)
    have K := rd_keep2 hb HG2.out HR2.out hgrow (fun g hg => (hown2.lt g hg).1)
    clear hgrow hown2
    go_wp2
    go_roundw
    case rel =>
     refine ⟨k + 1, acc ++ [x], st', by omega, by go_num, by simp [HA.out], hle, ?_, K.1, K.2, ?_⟩
     ·simpa using hown'
     ·rw [HE.out, HN.out]; simp
    case measure => simp [intOf]; omega
   ·rw [hsh] at hrd
    have hfin : Lk.rdMany (Lk.rdSym (sl s)) count (p, sh) = (acc, (st.1, true)) := by
     have hsu : count - k = (count - (k + 1)) + 1 := by omega
     rw [HE.out, hsu]
     have e : st = (st.1, true) := Prod.ext rfl hsh
     rw [e]
     simp [Lk.rdMany]
    have HF := hid hfin
    clear hfin hsh HE
    have cS := hid (short_any b s st.1 true wr hrd)
    have HR := hid hrd
    clear hrd
    go_wp2_with fail
    refine cS.out.mono ?_
    rintro e w1 ⟨rfl, rfl⟩
    go_wp2
    go_ret
    rw [HF.out]
    exact ⟨_, rfl, hown, HR.out, hgr⟩
  ·have hfin : Lk.rdMany (Lk.rdSym (sl s)) count (p, sh) = (acc, st) := by
    have hsu : count - k = 0 := by omega
    rw [HE.out, hsu]
    simp [Lk.rdMany]
   have HF := hid hfin
   clear hfin HE
   have HR := hid hrd
   clear hrd
   have hd : decide ((k : Int) < (count : Int)) = false := by simp; omega
   go_wp2
   go_ret
   rw [HF.out]
   exact ⟨_, rfl, hown, HR.out, hgr⟩

set_option maxHeartbeats 1000000 in
theorem readRelocs_any (b : Nat) (s : ByteArray) (p count : Nat) (sh : Bool) (w : World) (h : RdAt w b s p sh)
  (hs : s.size ≤ 1048576) (hp : p ≤ s.size) (hc : count ≤ 65535) :
  Calls Tryz.prog 120 #[.pointer (some ⟨b, 0, none⟩), .int .i64 count] w fun e w' => ∃ v, e = .returned v ∧
   w'.ownsRow w.heap.size 139 5 v (Lk.rdMany (Lk.rdRel (sl s)) count (p, sh)).1.length ((Lk.rdMany (Lk.rdRel (sl s)) count (p, sh)).1.flatMap relV) ∧
   RdAt w' b s (Lk.rdMany (Lk.rdRel (sl s)) count (p, sh)).2.1 (Lk.rdMany (Lk.rdRel (sl s)) count (p, sh)).2.2 ∧ w.grownBy w' (some b) := by
 obtain ⟨i0, hi, hz0, hz1, hz2⟩ := info_parts Tryz.infoRel
 have hb := h.lt
 have H := hid h
 clear h
 go_enter Tryz.func120, Tryz.ntmps120
 go_wp2_with fail
 go_loopw [5, 6] (fun v i wr => ∃ (k : Nat) (acc : List Lk.Rel) (st : Lk.St), k ≤ count ∧ i = .int .i64 k ∧ acc.length = k ∧ st.1 ≤ s.size ∧
   wr.ownsRow w.heap.size 139 5 v acc.length (acc.flatMap relV) ∧ RdAt wr b s st.1 st.2 ∧ w.grownBy wr (some b) ∧
   Lk.rdMany (Lk.rdRel (sl s)) count (p, sh) = (acc ++ (Lk.rdMany (Lk.rdRel (sl s)) (count - k) st).1, (Lk.rdMany (Lk.rdRel (sl s)) (count - k) st).2)) (fun _ i _ => count - (intOf i).toNat)
 case atStart => exact ⟨0, [], (p, sh), Nat.zero_le _, rfl, rfl, hp, World.ownsRow_nil _ _ _ _, H.out, World.grownBy.refl _ _, by simp⟩
 case round =>
  obtain ⟨k, acc, st, hk, rfl, hacc, hst, hown, hrd, hgr, heq⟩ := hrel
  have HE := hid heq
  have HA := hid hacc
  clear heq
  by_cases hlt : k < count
  ·cases hsh : st.2
   ·rw [hsh] at hrd
    have hsu : count - k = (count - (k + 1)) + 1 := by omega
    have hle := rdRel_le (sl s) (st.1, false) (by rw [sl_length]; exact hst)
    have cN := hid (readReloc_any b s st.1 false wr hrd hs hst)
    have HN := hid (show Lk.rdMany (Lk.rdRel (sl s)) (count - k) st = ((Lk.rdRel (sl s) (st.1, false)).1 :: (Lk.rdMany (Lk.rdRel (sl s)) (count - (k + 1)) (Lk.rdRel (sl s) (st.1, false)).2).1, (Lk.rdMany (Lk.rdRel (sl s)) (count - (k + 1)) (Lk.rdRel (sl s) (st.1, false)).2).2) from by
     rw [hsu]
     have e : st = (st.1, false) := Prod.ext rfl hsh
     rw [e]; rfl)
    rw [sl_length] at hle
    clear hsu hsh
    generalize Lk.rdRel (sl s) (st.1, false) = r at *
    obtain ⟨x, st'⟩ := r
    simp only at cN HN hle
    have cS := hid (short_any b s st.1 false wr hrd)
    have HR := hid hrd
    clear hrd
    have hacc2 : acc.length ≤ 65535 := by omega
    go_wp2_with fail
    refine cS.out.mono ?_
    rintro e w1 ⟨rfl, rfl⟩
    go_wp2_with fail
    refine cN.out.mono ?_
    rintro e w2 ⟨rfl, hrd2, hgr2⟩
    have hown2 := own_kept hown hb hgr2
    have hgr3 := grown_trans hgr hgr2
    have HR2 := hid hrd2
    have HG2 := hid hgr3
    have hsz := hgr3.size
    clear hrd2 hgr2 hgr3 hown hgr HR cS cN
    go_wp2_with (at_builtin; refine wpList_append_own _ rfl _ _ 88 rfl w.heap.size 139 i0 (.agg #[.int .i64 0, .int .i64 0, .int .i64 0, .int .i64 0, .int .i64 0]) 5 40 Tryz.underlying88 hi hz0 hz1 hz2 rfl (by decide) _ _ _ rfl ((hown2.alloc _).alloc _) ⟨w2.heap.size + 1, 0, none⟩ 1 1 (relV x) rfl rfl (news2 _ _ _ _) (by intro u hu; simp [relV] at hu; rcases hu with rfl | rfl | rfl | rfl | rfl <;> rfl) (by unfold maxLen; omega) (by omega) (by simp; omega) ?_; intro v' w3 hown' hgrow _)
    have K := rd_keep2 hb HG2.out HR2.out hgrow (fun g hg => (hown2.lt g hg).1)
    clear hgrow hown2
    go_wp2
    go_roundw
    case rel =>
     refine ⟨k + 1, acc ++ [x], st', by omega, by go_num, by simp [HA.out], hle, ?_, K.1, K.2, ?_⟩
     ·simpa using hown'
     ·rw [HE.out, HN.out]; simp
    case measure => simp [intOf]; omega
   ·rw [hsh] at hrd
    have hfin : Lk.rdMany (Lk.rdRel (sl s)) count (p, sh) = (acc, (st.1, true)) := by
     have hsu : count - k = (count - (k + 1)) + 1 := by omega
     rw [HE.out, hsu]
     have e : st = (st.1, true) := Prod.ext rfl hsh
     rw [e]
     simp [Lk.rdMany]
    have HF := hid hfin
    clear hfin hsh HE
    have cS := hid (short_any b s st.1 true wr hrd)
    have HR := hid hrd
    clear hrd
    go_wp2_with fail
    refine cS.out.mono ?_
    rintro e w1 ⟨rfl, rfl⟩
    go_wp2
    go_ret
    rw [HF.out]
    exact ⟨_, rfl, hown, HR.out, hgr⟩
  ·have hfin : Lk.rdMany (Lk.rdRel (sl s)) count (p, sh) = (acc, st) := by
    have hsu : count - k = 0 := by omega
    rw [HE.out, hsu]
    simp [Lk.rdMany]
   have HF := hid hfin
   clear hfin HE
   have HR := hid hrd
   clear hrd
   have hd : decide ((k : Int) < (count : Int)) = false := by simp; omega
   go_wp2
   go_ret
   rw [HF.out]
   exact ⟨_, rfl, hown, HR.out, hgr⟩

end Go.Proofs.YtnfgdlkiialnnaaGreatDoor

namespace Go.Proofs.YtnfgdlkiialnnaaGreatDoor
open Go.RowKit

theorem toList_bs (l : List UInt8) : (bs l).toList = l := by
 rw [ByteArray.toList_eq]; simp [bs]

theorem own_base {w : World} {base base' : Nat} {e : TypeId} {size : Nat} {v : Value} {n : Nat} {xs : List Value} (h : w.ownsRow base e size v n xs) (hb : base' ≤ base) : w.ownsRow base' e size v n xs := by
 refine ⟨h.1, ?_⟩
 rcases h.2 with h2 | ⟨g, cap, cur, hv, hg, r⟩
 ·exact .inl h2
 ·exact .inr ⟨g, cap, cur, hv, by omega, r⟩

theorem own_form {w : World} {base : Nat} {e : TypeId} {size : Nat} {v : Value} {n : Nat} {xs : List Value} (h : w.ownsRow base e size v n xs) : ∃ ao cap, v = .slice ao n cap := by
 rcases h.2 with ⟨h1, h2⟩ | ⟨g, cap, cur, hv, _⟩
 ·exact ⟨none, 0, by rw [h1, h2]⟩
 ·exact ⟨_, cap, hv⟩

/-- a list that is owned -/
structure Row where
 e : TypeId
 size : Nat
 v : Value
 n : Nat
 xs : List Value

def Row.In (r : Row) (W : World) (base : Nat) : Prop := W.ownsRow base r.e r.size r.v r.n r.xs

/-- while an object is read: the Reader in b, the object in g, what its lists own -/
structure OSt (w : World) (b g : Nat) (s : ByteArray) (p : Nat) (sh : Bool) (cs : Array Value) (rows : List Row) (W : World) : Prop where
 rd : RdAt W b s p sh
 obj : BlkAt W g cs 90
 rows : ∀ r ∈ rows, r.In W (g + 1)
 gr : w.grownBy W (some b)

section
variable {w W W' : World} {b g : Nat} {s : ByteArray} {cs : Array Value} {rows : List Row} {p p' : Nat} {sh sh' : Bool}
theorem OSt.begin (h : RdAt W b s p sh) (hg : w.grownBy W (some b)) (cs : Array Value) : OSt w b W.heap.size s p sh cs [] (W.alloc (.cells cs 90)) :=
 ⟨h.grown (World.grownBy_alloc W _ none) (by simp), BlkAt.new W cs 90, (by simp), grown_own hg (World.grownBy_alloc W _ none) (by simp)⟩
theorem OSt.call (h : OSt w b g s p sh cs rows W) (hb : b < g) (hr : RdAt W' b s p' sh') (hg : W.grownBy W' (some b)) : OSt w b g s p' sh' cs rows W' :=
 ⟨hr, h.obj.grown hg (by simp; omega), fun r hr => own_kept (h.rows r hr) (by omega) hg, grown_trans h.gr hg⟩
theorem OSt.row (h : OSt w b g s p sh cs rows W) (hb : b < g) (hr : RdAt W' b s p' sh') (hg : W.grownBy W' (some b)) (r : Row) (hrow : r.In W' W.heap.size) : OSt w b g s p' sh' cs (r :: rows) W' := by
 have h1 := h.call hb hr hg
 refine ⟨h1.rd, h1.obj, ?_, h1.gr⟩
 intro q hq
 rcases List.mem_cons.1 hq with rfl | hq
 ·exact own_base hrow h.obj.lt
 ·exact h1.rows q hq
theorem OSt.store (h : OSt w b g s p sh cs rows W) (hb : b < g) (hw : w.heap.size ≤ g) (o : Nat) (v : Value) : OSt w b g s p sh (cs.setIfInBounds o v) rows (W.setCell ⟨g, o, none⟩ v) :=
 ⟨h.rd.grown (grown_set W g o v) (by simp; omega), h.obj.set o v, fun r hr => ownsRow_setCell_below (h.rows r hr) (Nat.lt_succ_self g) v, grown_own h.gr (grown_set W g o v) (by simp; omega)⟩
end

/-- an object lies in block g, its lists behind it -/
def ObjAt (W : World) (g : Nat) (o : Lk.Obj) : Prop :=
 ∃ vt vf vd va vs vr, BlkAt W g #[vt, vf, vd, .int .i64 o.bss, va, vs, vr] 90 ∧
  W.ownsRow 0 3 1 vt o.text.length (o.text.map (Value.int .i64)) ∧ W.ownsRow 0 3 1 vf o.far.length (o.far.map (Value.int .i64)) ∧
  W.ownsRow 0 3 1 vd o.data.length (o.data.map (Value.int .i64)) ∧ W.ownsRow 0 3 1 va o.align.length (o.align.map (Value.int .i64)) ∧
  W.ownsRow 0 124 4 vs o.syms.length (o.syms.flatMap symV) ∧ W.ownsRow 0 139 5 vr o.rels.length (o.rels.flatMap relV)

theorem readNumbers_lit (b : Nat) (s : ByteArray) (p count size : Nat) (mc ms : Int) (hmc : mc = (count : Int)) (hms : ms = (size : Int)) (sh : Bool) (w : World) (h : RdAt w b s p sh)
  (hs : s.size ≤ 1048576) (hp : p ≤ s.size) (hc : count ≤ 65535) (hm : size ≤ 4) :
  Calls Tryz.prog 84 #[.pointer (some ⟨b, 0, none⟩), .int .i64 mc, .int .i64 ms] w fun e w' => ∃ v, e = .returned v ∧
   w'.ownsRow w.heap.size 3 1 v (Lk.rdNums (sl s) size count (p, sh)).1.length ((Lk.rdNums (sl s) size count (p, sh)).1.map (Value.int .i64)) ∧
   RdAt w' b s (Lk.rdNums (sl s) size count (p, sh)).2.1 (Lk.rdNums (sl s) size count (p, sh)).2.2 ∧ w.grownBy w' (some b) := by
 subst hmc hms; exact readNumbers_any b s p count size sh w h hs hp hc hm
theorem readSymbols_lit (b : Nat) (s : ByteArray) (p count : Nat) (mc : Int) (hmc : mc = (count : Int)) (sh : Bool) (w : World) (h : RdAt w b s p sh)
  (hs : s.size ≤ 1048576) (hp : p ≤ s.size) (hc : count ≤ 65535) :
  Calls Tryz.prog 119 #[.pointer (some ⟨b, 0, none⟩), .int .i64 mc] w fun e w' => ∃ v, e = .returned v ∧
   w'.ownsRow w.heap.size 124 4 v (Lk.rdMany (Lk.rdSym (sl s)) count (p, sh)).1.length ((Lk.rdMany (Lk.rdSym (sl s)) count (p, sh)).1.flatMap symV) ∧
   RdAt w' b s (Lk.rdMany (Lk.rdSym (sl s)) count (p, sh)).2.1 (Lk.rdMany (Lk.rdSym (sl s)) count (p, sh)).2.2 ∧ w.grownBy w' (some b) := by
 subst hmc; exact readSymbols_any b s p count sh w h hs hp hc
theorem readRelocs_lit (b : Nat) (s : ByteArray) (p count : Nat) (mc : Int) (hmc : mc = (count : Int)) (sh : Bool) (w : World) (h : RdAt w b s p sh)
  (hs : s.size ≤ 1048576) (hp : p ≤ s.size) (hc : count ≤ 65535) :
  Calls Tryz.prog 120 #[.pointer (some ⟨b, 0, none⟩), .int .i64 mc] w fun e w' => ∃ v, e = .returned v ∧
   w'.ownsRow w.heap.size 139 5 v (Lk.rdMany (Lk.rdRel (sl s)) count (p, sh)).1.length ((Lk.rdMany (Lk.rdRel (sl s)) count (p, sh)).1.flatMap relV) ∧
   RdAt w' b s (Lk.rdMany (Lk.rdRel (sl s)) count (p, sh)).2.1 (Lk.rdMany (Lk.rdRel (sl s)) count (p, sh)).2.2 ∧ w.grownBy w' (some b) := by
 subst hmc; exact readRelocs_any b s p count sh w h hs hp hc

set_option maxHeartbeats 4000000 in
theorem readObject_yes (b : Nat) (s : ByteArray) (p : Nat) (sh : Bool) (w : World) (h : RdAt w b s p sh)
  (hs : s.size ≤ 1048576) (hp : p ≤ s.size) (hmark : (Lk.rdText (sl s) 2 (p, sh)).1 = [76, 75]) :
  Calls Tryz.prog 83 #[.pointer (some ⟨b, 0, none⟩)] w fun e w' => ∃ g, e = .returned (.pointer (some ⟨g, 0, none⟩)) ∧ w.heap.size ≤ g ∧
   ObjAt w' g (Lk.rdRest (sl s) (Lk.rdText (sl s) 2 (p, sh)).2).1 ∧
   RdAt w' b s (Lk.rdRest (sl s) (Lk.rdText (sl s) 2 (p, sh)).2).2.1 (Lk.rdRest (sl s) (Lk.rdText (sl s) 2 (p, sh)).2).2.2 ∧ w.grownBy w' (some b) := by
 have hb := h.lt
 have hlen := sl_length s
 have l0 := rdText_le (sl s) 2 (p, sh) (by rw [hlen]; exact hp)
 have c0 := fun W h => text_lit b s p 2 2 rfl sh W h hs hp (by omega)
 generalize Lk.rdText (sl s) 2 (p, sh) = x0 at *
 obtain ⟨mk, p0, s0⟩ := x0
 simp only at hmark
 subst hmark
 rw [hlen] at l0
 unfold Lk.rdRest
 simp only at *
 have b1 := rdNum_byte (sl s) 2 (p0, s0)
 have l1 := rdNum_le (sl s) 2 (p0, s0) (by rw [hlen]; exact l0)
 have c1 := fun W h => number_lit b s p0 2 2 rfl s0 W h hs l0 (by omega)
 generalize Lk.rdNum (sl s) 2 (p0, s0) = x1 at *
 obtain ⟨text, p1, s1⟩ := x1
 rw [hlen] at l1
 simp only [Int.reducePow] at *
 have b2 := rdNum_byte (sl s) 2 (p1, s1)
 have l2 := rdNum_le (sl s) 2 (p1, s1) (by rw [hlen]; exact l1)
 have c2 := fun W h => number_lit b s p1 2 2 rfl s1 W h hs l1 (by omega)
 generalize Lk.rdNum (sl s) 2 (p1, s1) = x2 at *
 obtain ⟨far, p2, s2⟩ := x2
 rw [hlen] at l2
 simp only [Int.reducePow] at *
 have b3 := rdNum_byte (sl s) 2 (p2, s2)
 have l3 := rdNum_le (sl s) 2 (p2, s2) (by rw [hlen]; exact l2)
 have c3 := fun W h => number_lit b s p2 2 2 rfl s2 W h hs l2 (by omega)
 generalize Lk.rdNum (sl s) 2 (p2, s2) = x3 at *
 obtain ⟨data, p3, s3⟩ := x3
 rw [hlen] at l3
 simp only [Int.reducePow] at *
 have b4 := rdNum_byte (sl s) 2 (p3, s3)
 have l4 := rdNum_le (sl s) 2 (p3, s3) (by rw [hlen]; exact l3)
 have c4 := fun W h => number_lit b s p3 2 2 rfl s3 W h hs l3 (by omega)
 generalize Lk.rdNum (sl s) 2 (p3, s3) = x4 at *
 obtain ⟨bss, p4, s4⟩ := x4
 rw [hlen] at l4
 simp only [Int.reducePow] at *
 have l5 := rdNums_le (sl s) 1 4 (p4, s4) (by rw [hlen]; exact l4)
 have c5 := fun W h => readNumbers_lit b s p4 4 1 4 1 rfl rfl s4 W h hs l4 (by omega) (by omega)
 generalize Lk.rdNums (sl s) 1 4 (p4, s4) = x5 at *
 obtain ⟨al, p5, s5⟩ := x5
 rw [hlen] at l5
 simp only at *
 have b6 := rdNum_byte (sl s) 1 (p5, s5)
 have l6 := rdNum_le (sl s) 1 (p5, s5) (by rw [hlen]; exact l5)
 have c6 := fun W h => number_lit b s p5 1 1 rfl s5 W h hs l5 (by omega)
 generalize Lk.rdNum (sl s) 1 (p5, s5) = x6 at *
 obtain ⟨syms, p6, s6⟩ := x6
 rw [hlen] at l6
 simp only [Int.reducePow] at *
 have b7 := rdNum_byte (sl s) 1 (p6, s6)
 have l7 := rdNum_le (sl s) 1 (p6, s6) (by rw [hlen]; exact l6)
 have c7 := fun W h => number_lit b s p6 1 1 rfl s6 W h hs l6 (by omega)
 generalize Lk.rdNum (sl s) 1 (p6, s6) = x7 at *
 obtain ⟨rels, p7, s7⟩ := x7
 rw [hlen] at l7
 simp only [Int.reducePow] at *
 have l8 := rdMany_le (sl s) _ (rdSym_le (sl s)) syms.toNat (p7, s7) (by rw [hlen]; exact l7)
 have c8 := fun W h => readSymbols_lit b s p7 syms.toNat syms (by omega) s7 W h hs l7 (by omega)
 generalize Lk.rdMany (Lk.rdSym (sl s)) syms.toNat (p7, s7) = x8 at *
 obtain ⟨ys, p8, s8⟩ := x8
 rw [hlen] at l8
 simp only at *
 have l9 := rdMany_le (sl s) _ (rdRel_le (sl s)) rels.toNat (p8, s8) (by rw [hlen]; exact l8)
 have c9 := fun W h => readRelocs_lit b s p8 rels.toNat rels (by omega) s8 W h hs l8 (by omega)
 generalize Lk.rdMany (Lk.rdRel (sl s)) rels.toNat (p8, s8) = x9 at *
 obtain ⟨rs, p9, s9⟩ := x9
 rw [hlen] at l9
 simp only at *
 have l10 := rdNums_le (sl s) 4 text.toNat (p9, s9) (by rw [hlen]; exact l9)
 have c10 := fun W h => readNumbers_lit b s p9 text.toNat 4 text 4 (by omega) rfl s9 W h hs l9 (by omega) (by omega)
 generalize Lk.rdNums (sl s) 4 text.toNat (p9, s9) = x10 at *
 obtain ⟨tx, p10, s10⟩ := x10
 rw [hlen] at l10
 simp only at *
 have l11 := rdNums_le (sl s) 4 far.toNat (p10, s10) (by rw [hlen]; exact l10)
 have c11 := fun W h => readNumbers_lit b s p10 far.toNat 4 far 4 (by omega) rfl s10 W h hs l10 (by omega) (by omega)
 generalize Lk.rdNums (sl s) 4 far.toNat (p10, s10) = x11 at *
 obtain ⟨fx, p11, s11⟩ := x11
 rw [hlen] at l11
 simp only at *
 have l12 := rdNums_le (sl s) 4 data.toNat (p11, s11) (by rw [hlen]; exact l11)
 have c12 := fun W h => readNumbers_lit b s p11 data.toNat 4 data 4 (by omega) rfl s11 W h hs l11 (by omega) (by omega)
 generalize Lk.rdNums (sl s) 4 data.toNat (p11, s11) = x12 at *
 obtain ⟨dx, p12, s12⟩ := x12
 rw [hlen] at l12
 simp only at *
 replace c0 := hid c0
 replace c1 := hid c1
 replace c2 := hid c2
 replace c3 := hid c3
 replace c4 := hid c4
 replace c5 := hid c5
 replace c6 := hid c6
 replace c7 := hid c7
 replace c8 := hid c8
 replace c9 := hid c9
 replace c10 := hid c10
 replace c11 := hid c11
 replace c12 := hid c12
 have H := hid h
 clear h hlen
 have ht : ((bs [76, 75]).toList == [76, 75]) = true := by rw [toList_bs]; rfl
 go_enter Tryz.func83, Tryz.ntmps83
 go_wp2_with fail
 refine (c0.out w H.out).mono ?_
 rintro e W0 ⟨rfl, r0, q0⟩
 replace r0 := hid r0
 replace q0 := hid q0
 go_wp2_with fail
 refine (c1.out W0 r0.out).mono ?_
 rintro e W1 ⟨rfl, r1, g1⟩
 have q1 := hid (grown_trans q0.out g1)
 replace r1 := hid r1
 clear g1 r0 q0
 go_wp2_with fail
 refine (c2.out W1 r1.out).mono ?_
 rintro e W2 ⟨rfl, r2, g2⟩
 have q2 := hid (grown_trans q1.out g2)
 replace r2 := hid r2
 clear g2 r1 q1
 go_wp2_with fail
 refine (c3.out W2 r2.out).mono ?_
 rintro e W3 ⟨rfl, r3, g3⟩
 have q3 := hid (grown_trans q2.out g3)
 replace r3 := hid r3
 clear g3 r2 q2
 go_wp2_with fail
 have hbg : b < W3.heap.size := r3.out.lt
 have hwg : w.heap.size ≤ W3.heap.size := q3.out.size
 generalize hG : W3.heap.size = g at *
 refine Calls.at_world (OSt w b g s p3 s3 #[.slice none 0 0, .slice none 0 0, .slice none 0 0, .int .i64 0, .slice none 0 0, .slice none 0 0, .slice none 0 0] []) (by rw [← hG]; exact OSt.begin r3.out q3.out _) ?_
 clear r3 q3 hG
 intro V3 h3
 refine (c4.out V3 h3.rd).mono ?_
 rintro e U4 ⟨rfl, r, q⟩
 have S4 := hid (h3.call hbg r q)
 clear r q h3
 have k := S4.out.obj.cell 3
 have f := S4.out.obj.free 3
 go_wp2_with fail
 refine Calls.at_world (OSt w b g s p4 s4 #[.slice none 0 0, .slice none 0 0, .slice none 0 0, .int .i64 bss, .slice none 0 0, .slice none 0 0, .slice none 0 0] []) (S4.out.store hbg hwg 3 _) ?_
 clear k f S4 U4
 intro V4 h4
 refine (c5.out V4 h4.rd).mono ?_
 rintro e U5 ⟨va, rfl, o, r, q⟩
 obtain ⟨ava, cva, rfl⟩ := own_form o
 have S5 := hid (h4.row hbg r q ⟨3, 1, (.slice ava al.length cva), al.length, al.map (Value.int .i64)⟩ o)
 clear r q o h4
 have k := S5.out.obj.cell 4
 have f := S5.out.obj.free 4
 go_wp2_with fail
 refine Calls.at_world (OSt w b g s p5 s5 #[.slice none 0 0, .slice none 0 0, .slice none 0 0, .int .i64 bss, (.slice ava al.length cva), .slice none 0 0, .slice none 0 0] [⟨3, 1, (.slice ava al.length cva), al.length, al.map (Value.int .i64)⟩]) (S5.out.store hbg hwg 4 _) ?_
 clear k f S5 U5
 intro V5 h5
 refine (c6.out V5 h5.rd).mono ?_
 rintro e U6 ⟨rfl, r, q⟩
 have S6 := hid (h5.call hbg r q)
 clear r q h5
 go_wp2_with fail
 refine Calls.at_world (OSt w b g s p6 s6 #[.slice none 0 0, .slice none 0 0, .slice none 0 0, .int .i64 bss, (.slice ava al.length cva), .slice none 0 0, .slice none 0 0] [⟨3, 1, (.slice ava al.length cva), al.length, al.map (Value.int .i64)⟩]) S6.out ?_
 clear S6 U6
 intro V6 h6
 refine (c7.out V6 h6.rd).mono ?_
 rintro e U7 ⟨rfl, r, q⟩
 have S7 := hid (h6.call hbg r q)
 clear r q h6
 go_wp2_with fail
 refine Calls.at_world (OSt w b g s p7 s7 #[.slice none 0 0, .slice none 0 0, .slice none 0 0, .int .i64 bss, (.slice ava al.length cva), .slice none 0 0, .slice none 0 0] [⟨3, 1, (.slice ava al.length cva), al.length, al.map (Value.int .i64)⟩]) S7.out ?_
 clear S7 U7
 intro V7 h7
 refine (c8.out V7 h7.rd).mono ?_
 rintro e U8 ⟨vs, rfl, o, r, q⟩
 obtain ⟨avs, cvs, rfl⟩ := own_form o
 have S8 := hid (h7.row hbg r q ⟨124, 4, (.slice avs ys.length cvs), ys.length, ys.flatMap symV⟩ o)
 clear r q o h7
 have k := S8.out.obj.cell 5
 have f := S8.out.obj.free 5
 go_wp2_with fail
 refine Calls.at_world (OSt w b g s p8 s8 #[.slice none 0 0, .slice none 0 0, .slice none 0 0, .int .i64 bss, (.slice ava al.length cva), (.slice avs ys.length cvs), .slice none 0 0] [⟨124, 4, (.slice avs ys.length cvs), ys.length, ys.flatMap symV⟩, ⟨3, 1, (.slice ava al.length cva), al.length, al.map (Value.int .i64)⟩]) (S8.out.store hbg hwg 5 _) ?_
 clear k f S8 U8
 intro V8 h8
 refine (c9.out V8 h8.rd).mono ?_
 rintro e U9 ⟨vr, rfl, o, r, q⟩
 obtain ⟨avr, cvr, rfl⟩ := own_form o
 have S9 := hid (h8.row hbg r q ⟨139, 5, (.slice avr rs.length cvr), rs.length, rs.flatMap relV⟩ o)
 clear r q o h8
 have k := S9.out.obj.cell 6
 have f := S9.out.obj.free 6
 go_wp2_with fail
 refine Calls.at_world (OSt w b g s p9 s9 #[.slice none 0 0, .slice none 0 0, .slice none 0 0, .int .i64 bss, (.slice ava al.length cva), (.slice avs ys.length cvs), (.slice avr rs.length cvr)] [⟨139, 5, (.slice avr rs.length cvr), rs.length, rs.flatMap relV⟩, ⟨124, 4, (.slice avs ys.length cvs), ys.length, ys.flatMap symV⟩, ⟨3, 1, (.slice ava al.length cva), al.length, al.map (Value.int .i64)⟩]) (S9.out.store hbg hwg 6 _) ?_
 clear k f S9 U9
 intro V9 h9
 refine (c10.out V9 h9.rd).mono ?_
 rintro e U10 ⟨vt, rfl, o, r, q⟩
 obtain ⟨avt, cvt, rfl⟩ := own_form o
 have S10 := hid (h9.row hbg r q ⟨3, 1, (.slice avt tx.length cvt), tx.length, tx.map (Value.int .i64)⟩ o)
 clear r q o h9
 have k := S10.out.obj.cell 0
 have f := S10.out.obj.free 0
 go_wp2_with fail
 refine Calls.at_world (OSt w b g s p10 s10 #[(.slice avt tx.length cvt), .slice none 0 0, .slice none 0 0, .int .i64 bss, (.slice ava al.length cva), (.slice avs ys.length cvs), (.slice avr rs.length cvr)] [⟨3, 1, (.slice avt tx.length cvt), tx.length, tx.map (Value.int .i64)⟩, ⟨139, 5, (.slice avr rs.length cvr), rs.length, rs.flatMap relV⟩, ⟨124, 4, (.slice avs ys.length cvs), ys.length, ys.flatMap symV⟩, ⟨3, 1, (.slice ava al.length cva), al.length, al.map (Value.int .i64)⟩]) (S10.out.store hbg hwg 0 _) ?_
 clear k f S10 U10
 intro V10 h10
 refine (c11.out V10 h10.rd).mono ?_
 rintro e U11 ⟨vf, rfl, o, r, q⟩
 obtain ⟨avf, cvf, rfl⟩ := own_form o
 have S11 := hid (h10.row hbg r q ⟨3, 1, (.slice avf fx.length cvf), fx.length, fx.map (Value.int .i64)⟩ o)
 clear r q o h10
 have k := S11.out.obj.cell 1
 have f := S11.out.obj.free 1
 go_wp2_with fail
 refine Calls.at_world (OSt w b g s p11 s11 #[(.slice avt tx.length cvt), (.slice avf fx.length cvf), .slice none 0 0, .int .i64 bss, (.slice ava al.length cva), (.slice avs ys.length cvs), (.slice avr rs.length cvr)] [⟨3, 1, (.slice avf fx.length cvf), fx.length, fx.map (Value.int .i64)⟩, ⟨3, 1, (.slice avt tx.length cvt), tx.length, tx.map (Value.int .i64)⟩, ⟨139, 5, (.slice avr rs.length cvr), rs.length, rs.flatMap relV⟩, ⟨124, 4, (.slice avs ys.length cvs), ys.length, ys.flatMap symV⟩, ⟨3, 1, (.slice ava al.length cva), al.length, al.map (Value.int .i64)⟩]) (S11.out.store hbg hwg 1 _) ?_
 clear k f S11 U11
 intro V11 h11
 refine (c12.out V11 h11.rd).mono ?_
 rintro e U12 ⟨vd, rfl, o, r, q⟩
 obtain ⟨avd, cvd, rfl⟩ := own_form o
 have S12 := hid (h11.row hbg r q ⟨3, 1, (.slice avd dx.length cvd), dx.length, dx.map (Value.int .i64)⟩ o)
 clear r q o h11
 have k := S12.out.obj.cell 2
 have f := S12.out.obj.free 2
 go_wp2
 go_ret
 have F := S12.out.store hbg hwg 2 (.slice avd dx.length cvd)
 refine ⟨g, rfl, hwg, ⟨(.slice avt tx.length cvt), (.slice avf fx.length cvf), (.slice avd dx.length cvd), (.slice ava al.length cva), (.slice avs ys.length cvs), (.slice avr rs.length cvr), F.obj, ?_, ?_, ?_, ?_, ?_, ?_⟩, F.rd, F.gr⟩
 ·exact own_base (F.rows ⟨3, 1, (.slice avt tx.length cvt), tx.length, tx.map (Value.int .i64)⟩ (by simp)) (Nat.zero_le _)
 ·exact own_base (F.rows ⟨3, 1, (.slice avf fx.length cvf), fx.length, fx.map (Value.int .i64)⟩ (by simp)) (Nat.zero_le _)
 ·exact own_base (F.rows ⟨3, 1, (.slice avd dx.length cvd), dx.length, dx.map (Value.int .i64)⟩ (by simp)) (Nat.zero_le _)
 ·exact own_base (F.rows ⟨3, 1, (.slice ava al.length cva), al.length, al.map (Value.int .i64)⟩ (by simp)) (Nat.zero_le _)
 ·exact own_base (F.rows ⟨124, 4, (.slice avs ys.length cvs), ys.length, ys.flatMap symV⟩ (by simp)) (Nat.zero_le _)
 ·exact own_base (F.rows ⟨139, 5, (.slice avr rs.length cvr), rs.length, rs.flatMap relV⟩ (by simp)) (Nat.zero_le _)

end Go.Proofs.YtnfgdlkiialnnaaGreatDoor

namespace Go.Proofs.YtnfgdlkiialnnaaGreatDoor
open Go.RowKit

/-- a list of numbers at ao -/
def IntsIn (w : World) (ao : Option Addr) (xs : List Int) : Prop :=
 0 < xs.length → ∃ g off, ao = some ⟨g, off, none⟩ ∧ ∀ i (h : i < xs.length), w.cell? ⟨g, off + i, none⟩ = some (.int .i64 xs[i])

theorem IntsIn.of_own {w : World} {base : Nat} {ao : Option Addr} {n cap : Nat} {xs : List Int} (h : w.ownsRow base 3 1 (.slice ao n cap) n (xs.map (Value.int .i64))) : IntsIn w ao xs := by
 intro h0
 have hn : xs.length = n := by have := h.1; simpa using this
 rcases h.2 with ⟨h1, h2⟩ | ⟨g, cap', cur, hv, _⟩
 ·simp at h1; omega
 ·simp only [Value.slice.injEq] at hv
  obtain ⟨rfl, _, rfl⟩ := hv
  refine ⟨g, 0, rfl, fun i hi => ?_⟩
  have := h.cellAt i (by omega)
  rw [Nat.zero_add, this]
  simp [hi]

theorem IntsIn.kept {w w' : World} {ao : Option Addr} {xs : List Int} (h : IntsIn w ao xs) (hc : ∀ a v, w.cell? a = some v → w'.cell? a = some v) : IntsIn w' ao xs := by
 intro h0
 obtain ⟨g, off, h1, h2⟩ := h h0
 exact ⟨g, off, h1, fun i hi => hc _ _ (h2 i hi)⟩

/-- all are words -/
def Words (xs : List Int) : Prop := ∀ i (h : i < xs.length), 0 ≤ xs[i] ∧ xs[i] ≤ 4294967295
def Borders (xs : List Int) : Prop := xs.length = 4 ∧ ∀ i (h : i < xs.length), 2 ≤ xs[i] ∧ xs[i] ≤ 4

/-- it returned whether P -/
def Tells (e : Ending) (P : Prop) : Prop := ∃ b, e = .returned (.bool b) ∧ (b = true ↔ P)
theorem Tells.yes {P : Prop} (h : P) : Tells (.returned (.bool true)) P := ⟨true, rfl, by simp [h]⟩
theorem Tells.no {P : Prop} (h : ¬ P) : Tells (.returned (.bool false)) P := ⟨false, rfl, by simp [h]⟩
theorem Tells.of {P : Prop} {b : Bool} (h : b = true ↔ P) : Tells (.returned (.bool b)) P := ⟨b, rfl, h⟩
theorem Tells.split {e : Ending} {P : Prop} (h : Tells e P) : (e = .returned (.bool false) ∧ Hid (¬ P)) ∨ (e = .returned (.bool true) ∧ Hid P) := by
 obtain ⟨b, rfl, h2⟩ := h
 cases b
 ·exact .inl ⟨rfl, fun hp => by have := h2.2 hp; simp at this⟩
 ·exact .inr ⟨rfl, h2.1 rfl⟩
theorem Tells.iff {e : Ending} {P Q : Prop} (h : Tells e P) (k : P ↔ Q) : Tells e Q := by
 obtain ⟨b, h1, h2⟩ := h
 exact ⟨b, h1, h2.trans k⟩

set_option maxHeartbeats 400000 in
theorem allWords_any (ao : Option Addr) (cap : Nat) (xs : List Int) (w : World) (h : IntsIn w ao xs) (hn : xs.length ≤ 65535) :
  Calls Tryz.prog 172 #[.slice ao xs.length cap] w fun e w' => Tells e (Words xs) ∧ w' = w := by
 have H := hid h
 clear h
 go_enter Tryz.func172, Tryz.ntmps172
 go_wp2
 go_loop [7] (fun i => ∃ k : Nat, k ≤ xs.length ∧ i = .int .i64 k ∧ ∀ j (hj : j < xs.length), j < k → 0 ≤ xs[j] ∧ xs[j] ≤ 4294967295) (fun i => xs.length - (intOf i).toNat)
 case atStart => exact ⟨0, Nat.zero_le _, rfl, fun j _ hj => absurd hj (Nat.not_lt_zero j)⟩
 case round =>
  obtain ⟨k, hk, rfl, hall⟩ := hrel
  have HA := hid hall
  clear hall
  by_cases hlt : k < xs.length
  ·obtain ⟨g, off, rfl, hc⟩ := H.out (by omega)
   have hck := hc k hlt
   clear hc
   by_cases h1 : 0 ≤ xs[k]
   ·by_cases h2 : xs[k] ≤ 4294967295
    ·go_wp2
     go_round
     case rel => exact ⟨k + 1, by omega, by go_num, fun j hj hjk => (Nat.lt_succ_iff_lt_or_eq.1 hjk).elim (fun h => HA.out j hj h) (fun h => by subst h; exact ⟨h1, h2⟩)⟩
     case measure => simp [intOf]; omega
    ·have h3 : 4294967295 < xs[k] := by omega
     have N := hid (show ¬ Words xs from fun hw => h2 (hw k hlt).2)
     clear h2
     go_wp2
     go_ret
     exact ⟨Tells.no N.out, rfl⟩
   ·have h3 : xs[k] < 0 := by omega
    have N := hid (show ¬ Words xs from fun hw => h1 (hw k hlt).1)
    clear h1
    go_wp2
    go_ret
    exact ⟨Tells.no N.out, rfl⟩
  ·go_wp2
   go_ret
   exact ⟨Tells.yes fun i hi => HA.out i hi (by omega), rfl⟩

set_option maxHeartbeats 400000 in
theorem validBorders_any (ao : Option Addr) (cap : Nat) (xs : List Int) (w : World) (h : IntsIn w ao xs) (hn : xs.length ≤ 65535) :
  Calls Tryz.prog 115 #[.slice ao xs.length cap] w fun e w' => Tells e (Borders xs) ∧ w' = w := by
 have H := hid h
 clear h
 by_cases h4 : xs.length = 4
 ·have H4 := hid h4
  have hb4 : ((xs.length : Int) == 4) = true := by rw [beq_iff_eq]; omega
  clear h4
  go_enter Tryz.func115, Tryz.ntmps115
  go_wp2
  go_loop [10] (fun i => ∃ k : Nat, k ≤ xs.length ∧ i = .int .i64 k ∧ ∀ j (hj : j < xs.length), j < k → 2 ≤ xs[j] ∧ xs[j] ≤ 4) (fun i => xs.length - (intOf i).toNat)
  case atStart => exact ⟨0, Nat.zero_le _, rfl, fun j _ hj => absurd hj (Nat.not_lt_zero j)⟩
  case round =>
   obtain ⟨k, hk, rfl, hall⟩ := hrel
   have HA := hid hall
   clear hall
   by_cases hlt : k < xs.length
   ·obtain ⟨g, off, rfl, hc⟩ := H.out (by omega)
    have hck := hc k hlt
    clear hc
    by_cases h1 : 2 ≤ xs[k]
    ·by_cases h2 : xs[k] ≤ 4
     ·go_wp2
      go_round
      case rel => exact ⟨u2, .int .i64 xs[k], .int .i64 (k + 1), ⟨k + 1, by omega, by go_num, fun j hj hjk => (Nat.lt_succ_iff_lt_or_eq.1 hjk).elim (fun h => HA.out j hj h) (fun h => by subst h; exact ⟨h1, h2⟩)⟩, rfl, rfl, rfl⟩
      case measure => simp [intOf]; omega
     ·have h3 : 4 < xs[k] := by omega
      have N := hid (show ¬ Borders xs from fun hw => h2 (hw.2 k hlt).2)
      clear h2
      go_wp2
      go_ret
      exact ⟨Tells.no N.out, rfl⟩
    ·have h3 : xs[k] < 2 := by omega
     have N := hid (show ¬ Borders xs from fun hw => h1 (hw.2 k hlt).1)
     clear h1
     go_wp2
     go_ret
     exact ⟨Tells.no N.out, rfl⟩
   ·go_wp2
    go_ret
    exact ⟨Tells.yes ⟨H4.out, fun i hi => HA.out i hi (by omega)⟩, rfl⟩
 ·have N := hid (show ¬ Borders xs from fun hw => h4 hw.1)
  have hb4 : ((xs.length : Int) == 4) = false := by rw [beq_eq_false_iff_ne]; omega
  clear h4
  go_enter Tryz.func115, Tryz.ntmps115
  go_wp2
  go_ret
  exact ⟨Tells.no N.out, rfl⟩

theorem ObjAt.kept {W W' : World} {g : Nat} {o : Lk.Obj} (h : ObjAt W g o) (hg : W.grownBy W' none) : ObjAt W' g o := by
 obtain ⟨vt, vf, vd, va, vs, vr, hb, h1, h2, h3, h4, h5, h6⟩ := h
 have k : ∀ {e : TypeId} {size : Nat} {v : Value} {n : Nat} {xs : List Value}, W.ownsRow 0 e size v n xs → W'.ownsRow 0 e size v n xs := by
  intro e size v n xs h
  refine h.kept hg ?_
  cases v.ownBlock <;> simp
 exact ⟨vt, vf, vd, va, vs, vr, hb.grown hg (by simp), k h1, k h2, k h3, k h4, k h5, k h6⟩

/-- an object's cells, its lists' forms -/
theorem ObjAt.open {W : World} {g : Nat} {o : Lk.Obj} (h : ObjAt W g o) : ∃ at_ ct af cf ad cd aa ca as_ cs ar cr,
  BlkAt W g #[.slice at_ o.text.length ct, .slice af o.far.length cf, .slice ad o.data.length cd, .int .i64 o.bss, .slice aa o.align.length ca, .slice as_ o.syms.length cs, .slice ar o.rels.length cr] 90 ∧
  W.ownsRow 0 3 1 (.slice at_ o.text.length ct) o.text.length (o.text.map (Value.int .i64)) ∧ W.ownsRow 0 3 1 (.slice af o.far.length cf) o.far.length (o.far.map (Value.int .i64)) ∧
  W.ownsRow 0 3 1 (.slice ad o.data.length cd) o.data.length (o.data.map (Value.int .i64)) ∧ W.ownsRow 0 3 1 (.slice aa o.align.length ca) o.align.length (o.align.map (Value.int .i64)) ∧
  W.ownsRow 0 124 4 (.slice as_ o.syms.length cs) o.syms.length (o.syms.flatMap symV) ∧ W.ownsRow 0 139 5 (.slice ar o.rels.length cr) o.rels.length (o.rels.flatMap relV) := by
 obtain ⟨vt, vf, vd, va, vs, vr, hb, h1, h2, h3, h4, h5, h6⟩ := h
 obtain ⟨at_, ct, rfl⟩ := own_form h1
 obtain ⟨af, cf, rfl⟩ := own_form h2
 obtain ⟨ad, cd, rfl⟩ := own_form h3
 obtain ⟨aa, ca, rfl⟩ := own_form h4
 obtain ⟨as_, cs, rfl⟩ := own_form h5
 obtain ⟨ar, cr, rfl⟩ := own_form h6
 exact ⟨at_, ct, af, cf, ad, cd, aa, ca, as_, cs, ar, cr, hb, h1, h2, h3, h4, h5, h6⟩

def Sizes (o : Lk.Obj) : Prop := (o.text.length ≤ 1200 ∧ o.far.length ≤ 1200 ∧ o.data.length ≤ 64) ∧ (0 ≤ o.bss ∧ o.bss ≤ 64) ∧ o.syms.length ≤ 16 ∧ o.rels.length ≤ 32

/-- small enough that no count wraps -/
def Small (o : Lk.Obj) : Prop := o.text.length ≤ 65535 ∧ o.far.length ≤ 65535 ∧ o.data.length ≤ 65535 ∧ o.align.length ≤ 65535 ∧ o.syms.length ≤ 65535 ∧ o.rels.length ≤ 65535

set_option maxHeartbeats 1000000 in
theorem validSizes_any (g : Nat) (o : Lk.Obj) (w : World) (h : ObjAt w g o) (hn : Small o) :
  Calls Tryz.prog 114 #[.pointer (some ⟨g, 0, none⟩)] w fun e w' => Tells e (Sizes o) ∧ w' = w := by
 obtain ⟨at_, ct, af, cf, ad, cd, aa, ca, as_, cs, ar, cr, hb, -⟩ := h.open
 have k0 := hb.cell 0
 have k1 := hb.cell 1
 have k2 := hb.cell 2
 have k3 := hb.cell 3
 have k5 := hb.cell 5
 have k6 := hb.cell 6
 obtain ⟨n1, n2, n3, n4, n5, n6⟩ := hn
 clear h hb
 unfold Sizes
 generalize o.text.length = lt at *
 generalize o.far.length = lf at *
 generalize o.data.length = ld at *
 generalize o.syms.length = ls at *
 generalize o.rels.length = lr at *
 generalize o.bss = z at *
 by_cases c1 : lt ≤ 1200
 rotate_left
 ·have D : decide ((1200 : Int) < (lt : Int)) = true := by simp; omega
  go_enter Tryz.func114, Tryz.ntmps114
  go_wp2
  go_ret
  exact ⟨Tells.no (by omega), rfl⟩
 have d1 : decide ((1200 : Int) < (lt : Int)) = false := by simp; omega
 by_cases c2 : lf ≤ 1200
 rotate_left
 ·have D : decide ((1200 : Int) < (lf : Int)) = true := by simp; omega
  go_enter Tryz.func114, Tryz.ntmps114
  go_wp2
  go_ret
  exact ⟨Tells.no (by omega), rfl⟩
 have d2 : decide ((1200 : Int) < (lf : Int)) = false := by simp; omega
 by_cases c3 : ld ≤ 64
 rotate_left
 ·have D : decide ((64 : Int) < (ld : Int)) = true := by simp; omega
  go_enter Tryz.func114, Tryz.ntmps114
  go_wp2
  go_ret
  exact ⟨Tells.no (by omega), rfl⟩
 have d3 : decide ((64 : Int) < (ld : Int)) = false := by simp; omega
 by_cases c4 : 0 ≤ z
 rotate_left
 ·have D : decide (z < 0) = true := by simp; omega
  go_enter Tryz.func114, Tryz.ntmps114
  go_wp2
  go_ret
  exact ⟨Tells.no (by omega), rfl⟩
 have d4 : decide (z < 0) = false := by simp; omega
 by_cases c5 : z ≤ 64
 rotate_left
 ·have D : decide ((64 : Int) < z) = true := by simp; omega
  go_enter Tryz.func114, Tryz.ntmps114
  go_wp2
  go_ret
  exact ⟨Tells.no (by omega), rfl⟩
 have d5 : decide ((64 : Int) < z) = false := by simp; omega
 by_cases c6 : ls ≤ 16
 rotate_left
 ·have D : decide ((ls : Int) ≤ 16) = false := by simp; omega
  go_enter Tryz.func114, Tryz.ntmps114
  go_wp2
  go_ret
  exact ⟨Tells.no (by omega), rfl⟩
 have d6 : decide ((ls : Int) ≤ 16) = true := by simp; omega
 by_cases c7 : lr ≤ 32
 rotate_left
 ·have D : decide ((lr : Int) ≤ 32) = false := by simp; omega
  go_enter Tryz.func114, Tryz.ntmps114
  go_wp2
  go_ret
  exact ⟨Tells.no (by omega), rfl⟩
 have d7 : decide ((lr : Int) ≤ 32) = true := by simp; omega
 go_enter Tryz.func114, Tryz.ntmps114
 go_wp2
 go_ret
 exact ⟨Tells.yes (by omega), rfl⟩

end Go.Proofs.YtnfgdlkiialnnaaGreatDoor

namespace Go.Proofs.YtnfgdlkiialnnaaGreatDoor
open Go.RowKit

def AllWords (o : Lk.Obj) : Prop := Words o.text ∧ Words o.far ∧ Words o.data

set_option maxHeartbeats 1000000 in
theorem validWords_any (g : Nat) (o : Lk.Obj) (w : World) (h : ObjAt w g o) (hn : Small o) :
  Calls Tryz.prog 116 #[.pointer (some ⟨g, 0, none⟩)] w fun e w' => Tells e (AllWords o) ∧ w' = w := by
 obtain ⟨at_, ct, af, cf, ad, cd, aa, ca, as_, cs, ar, cr, hb, h1, h2, h3, -⟩ := h.open
 have k0 := hb.cell 0
 have k1 := hb.cell 1
 have k2 := hb.cell 2
 obtain ⟨n1, n2, n3, n4, n5, n6⟩ := hn
 have c1 := hid (allWords_any at_ ct o.text w (IntsIn.of_own h1) n1)
 have c2 := hid (allWords_any af cf o.far w (IntsIn.of_own h2) n2)
 have c3 := hid (allWords_any ad cd o.data w (IntsIn.of_own h3) n3)
 clear h hb h1 h2 h3
 unfold AllWords
 generalize o.text.length = l1 at *
 generalize o.far.length = l2 at *
 generalize o.data.length = l3 at *
 generalize Words o.text = P1 at *
 generalize Words o.far = P2 at *
 generalize Words o.data = P3 at *
 go_enter Tryz.func116, Tryz.ntmps116
 go_wp2_with fail
 refine c1.out.mono ?_
 rintro e w1 ⟨t1, rfl⟩
 rcases t1.split with ⟨rfl, p1⟩ | ⟨rfl, p1⟩ <;> clear t1 c1
 ·go_wp2
  go_ret
  exact ⟨Tells.no (fun hp => p1.out hp.1), rfl⟩
 go_wp2_with fail
 refine c2.out.mono ?_
 rintro e w2 ⟨t2, rfl⟩
 rcases t2.split with ⟨rfl, p2⟩ | ⟨rfl, p2⟩ <;> clear t2 c2
 ·go_wp2
  go_ret
  exact ⟨Tells.no (fun hp => p2.out hp.2.1), rfl⟩
 go_wp2_with fail
 refine c3.out.mono ?_
 rintro e w3 ⟨t3, rfl⟩
 rcases t3.split with ⟨rfl, p3⟩ | ⟨rfl, p3⟩ <;> clear t3 c3
 ·go_wp2
  go_ret
  exact ⟨Tells.no (fun hp => p3.out hp.2.2), rfl⟩
 go_wp2
 go_ret
 exact ⟨Tells.yes ⟨p1.out, p2.out, p3.out⟩, rfl⟩

set_option maxHeartbeats 400000 in
theorem isDigit_yes (c : Int) (w : World) (h1 : 48 ≤ c) (h2 : c ≤ 57) :
  Calls Tryz.prog 144 #[.int .u8 c] w fun e w' => e = .returned (.bool true) ∧ w' = w := by
 go_enter Tryz.func144, Tryz.ntmps144
 go_wp2
 go_ret
 exact ⟨by simp, rfl⟩

set_option maxHeartbeats 400000 in
theorem isDigit_no (c : Int) (w : World) (h : c < 48 ∨ 57 < c) :
  Calls Tryz.prog 144 #[.int .u8 c] w fun e w' => e = .returned (.bool false) ∧ w' = w := by
 by_cases h1 : 48 ≤ c
 ·have h2 : 57 < c := by omega
  clear h
  go_enter Tryz.func144, Tryz.ntmps144
  go_wp2
  go_ret
  exact ⟨by simp; omega, rfl⟩
 ·have h2 : decide (48 ≤ c) = false := by simp; omega
  clear h
  go_enter Tryz.func144, Tryz.ntmps144
  go_wp2
  go_ret
  exact ⟨rfl, rfl⟩

theorem own_cap {w : World} {base : Nat} {e : TypeId} {size : Nat} {ao : Option Addr} {n cap : Nat} {xs : List Value} (h : w.ownsRow base e size (.slice ao n cap) n xs) : n ≤ cap ∧ cap ≤ maxLen := by
 rcases h.2 with ⟨h1, h2⟩ | ⟨g, cap', cur, hv, _, _, h3, h4, _⟩
 ·simp at h1; omega
 ·simp only [Value.slice.injEq] at hv
  obtain ⟨_, _, rfl⟩ := hv
  exact ⟨h3, h4⟩

/-- a section's words -/
def wordsOf (o : Lk.Obj) (sect : Int) : List Int := if sect = 1 then o.text else if sect = 2 then o.far else if sect = 3 then o.data else []

set_option maxHeartbeats 400000 in
theorem wordsOf_any (g : Nat) (o : Lk.Obj) (sect : Int) (w : World) (h : ObjAt w g o) :
  Calls Tryz.prog 99 #[.pointer (some ⟨g, 0, none⟩), .int .i64 sect] w fun e w' => ∃ ao cap, e = .returned (.slice ao (wordsOf o sect).length cap) ∧ (IntsIn w ao (wordsOf o sect) ∧ (wordsOf o sect).length ≤ cap ∧ cap ≤ maxLen) ∧ w' = w := by
 obtain ⟨at_, ct, af, cf, ad, cd, aa, ca, as_, cs, ar, cr, hb, h1, h2, h3, -⟩ := h.open
 have k0 := hb.cell 0
 have k1 := hb.cell 1
 have k2 := hb.cell 2
 have q1 := hid (IntsIn.of_own h1)
 have q2 := hid (IntsIn.of_own h2)
 have q3 := hid (IntsIn.of_own h3)
 have z1 := hid (own_cap h1)
 have z2 := hid (own_cap h2)
 have z3 := hid (own_cap h3)
 clear h hb h1 h2 h3
 unfold wordsOf
 by_cases e1 : sect = 1
 ·subst e1
  go_enter Tryz.func99, Tryz.ntmps99
  go_wp2
  go_ret
  exact ⟨at_, ct, rfl, ⟨q1.out, z1.out⟩, rfl⟩
 by_cases e2 : sect = 2
 ·subst e2
  go_enter Tryz.func99, Tryz.ntmps99
  go_wp2
  go_ret
  exact ⟨af, cf, rfl, ⟨q2.out, z2.out⟩, rfl⟩
 by_cases e3 : sect = 3
 ·subst e3
  go_enter Tryz.func99, Tryz.ntmps99
  go_wp2
  go_ret
  exact ⟨ad, cd, rfl, ⟨q3.out, z3.out⟩, rfl⟩
 ·rw [if_neg e1, if_neg e2, if_neg e3]
  have d1 : (sect == 1) = false := beq_eq_false_iff_ne.2 e1
  have d2 : (sect == 2) = false := beq_eq_false_iff_ne.2 e2
  have d3 : (sect == 3) = false := beq_eq_false_iff_ne.2 e3
  clear e1 e2 e3
  go_enter Tryz.func99, Tryz.ntmps99
  go_wp2
  go_ret
  exact ⟨none, 0, rfl, ⟨fun h => by simp at h, by simp, by simp⟩, rfl⟩

end Go.Proofs.YtnfgdlkiialnnaaGreatDoor

namespace Go.Proofs.YtnfgdlkiialnnaaGreatDoor
open Go.RowKit

def seclen (o : Lk.Obj) (sect : Int) : Int := if sect = 4 then o.bss else (wordsOf o sect).length

theorem wordsOf_small {o : Lk.Obj} (h : Small o) (sect : Int) : (wordsOf o sect).length ≤ 65535 := by
 obtain ⟨n1, n2, n3, n4, n5, n6⟩ := h
 unfold wordsOf
 split
 ·exact n1
 split
 ·exact n2
 split
 ·exact n3
 ·simp

set_option maxHeartbeats 400000 in
theorem lengthOf_any (g : Nat) (o : Lk.Obj) (sect : Int) (w : World) (h : ObjAt w g o) (hn : Small o) (hz : 0 ≤ o.bss ∧ o.bss ≤ 64) :
  Calls Tryz.prog 96 #[.pointer (some ⟨g, 0, none⟩), .int .i64 sect] w fun e w' => e = .returned (.int .i64 (4 * seclen o sect)) ∧ w' = w := by
 have c := hid (wordsOf_any g o sect w h)
 have hl := wordsOf_small hn sect
 obtain ⟨at_, ct, af, cf, ad, cd, aa, ca, as_, cs, ar, cr, hb, -⟩ := h.open
 have k3 := hb.cell 3
 clear h hb hn
 unfold seclen
 by_cases e1 : sect = 4
 ·subst e1
  obtain ⟨z1, z2⟩ := hz
  go_enter Tryz.func96, Tryz.ntmps96
  go_wp2
  go_ret
  exact ⟨by simp, rfl⟩
 ·rw [if_neg e1]
  have d1 : (sect == 4) = false := beq_eq_false_iff_ne.2 e1
  clear e1
  generalize wordsOf o sect = ws at *
  go_enter Tryz.func96, Tryz.ntmps96
  go_wp2_with fail
  refine c.out.mono ?_
  rintro e w1 ⟨ao, cap, rfl, -, rfl⟩
  go_wp2
  go_ret
  exact ⟨rfl, rfl⟩

def Chr (c : Int) : Prop := c = 95 ∨ (48 ≤ c ∧ c ≤ 57) ∨ (97 ≤ c ∧ c ≤ 122)
def NameOk (s : ByteArray) : Prop := 1 ≤ s.size ∧ s.size ≤ 6 ∧ (∀ h : 0 < s.size, ¬ (48 ≤ (s[0].toNat : Int) ∧ (s[0].toNat : Int) ≤ 57)) ∧ ∀ i (h : i < s.size), Chr (s[i].toNat : Int)

set_option maxHeartbeats 1000000 in
theorem mayHave_any (c : Int) (w : World) (h0 : 0 ≤ c) :
  Calls Tryz.prog 197 #[.int .u8 c] w fun e w' => Tells e (Chr c) ∧ w' = w := by
 rcases (show c ≤ 47 ∨ (48 ≤ c ∧ c ≤ 57) ∨ (58 ≤ c ∧ c ≤ 94) ∨ (95 ≤ c ∧ c ≤ 95) ∨ (96 ≤ c ∧ c ≤ 96) ∨ (97 ≤ c ∧ c ≤ 122) ∨ 123 ≤ c from by omega) with r | ⟨r1, r2⟩ | ⟨r1, r2⟩ | ⟨r1, r2⟩ | ⟨r1, r2⟩ | ⟨r1, r2⟩ | r
 ·have N := hid (show ¬ Chr c from fun h => by unfold Chr at h; omega)
  have d1 : decide (97 ≤ c) = false := by simp; omega
  have d2 : (c == 95) = false := by simp; omega
  have cD := hid (isDigit_no c w (by omega))
  go_enter Tryz.func197, Tryz.ntmps197
  go_wp2_with fail
  refine cD.out.mono ?_
  rintro e w1 ⟨rfl, rfl⟩
  go_wp2
  go_ret
  exact ⟨Tells.no N.out, rfl⟩
 ·have N := hid (show Chr c from by unfold Chr; omega)
  have d1 : decide (97 ≤ c) = false := by simp; omega
  have d2 : (c == 95) = false := by simp; omega
  have cD := hid (isDigit_yes c w r1 r2)
  go_enter Tryz.func197, Tryz.ntmps197
  go_wp2_with fail
  refine cD.out.mono ?_
  rintro e w1 ⟨rfl, rfl⟩
  go_wp2
  go_ret
  exact ⟨Tells.yes N.out, rfl⟩
 ·have N := hid (show ¬ Chr c from fun h => by unfold Chr at h; omega)
  have d1 : decide (97 ≤ c) = false := by simp; omega
  have d2 : (c == 95) = false := by simp; omega
  have cD := hid (isDigit_no c w (by omega))
  go_enter Tryz.func197, Tryz.ntmps197
  go_wp2_with fail
  refine cD.out.mono ?_
  rintro e w1 ⟨rfl, rfl⟩
  go_wp2
  go_ret
  exact ⟨Tells.no N.out, rfl⟩
 ·obtain rfl : c = 95 := by omega
  go_enter Tryz.func197, Tryz.ntmps197
  go_wp2
  go_ret
  exact ⟨Tells.yes (by unfold Chr; omega), rfl⟩
 ·obtain rfl : c = 96 := by omega
  have cD := hid (isDigit_no 96 w (by omega))
  go_enter Tryz.func197, Tryz.ntmps197
  go_wp2_with fail
  refine cD.out.mono ?_
  rintro e w1 ⟨rfl, rfl⟩
  go_wp2
  go_ret
  exact ⟨Tells.no (fun h => by unfold Chr at h; omega), rfl⟩
 ·have N := hid (show Chr c from by unfold Chr; omega)
  have d1 : decide (97 ≤ c) = true := by simp; omega
  have d2 : decide (c ≤ 122) = true := by simp; omega
  go_enter Tryz.func197, Tryz.ntmps197
  go_wp2
  go_ret
  exact ⟨Tells.yes N.out, rfl⟩
 ·have N := hid (show ¬ Chr c from fun h => by unfold Chr at h; omega)
  have d1 : decide (97 ≤ c) = true := by simp; omega
  have d3 : decide (c ≤ 122) = false := by simp; omega
  have d2 : (c == 95) = false := by simp; omega
  have cD := hid (isDigit_no c w (by omega))
  go_enter Tryz.func197, Tryz.ntmps197
  go_wp2_with fail
  refine cD.out.mono ?_
  rintro e w1 ⟨rfl, rfl⟩
  go_wp2
  go_ret
  exact ⟨Tells.no N.out, rfl⟩

set_option maxHeartbeats 1000000 in
theorem isName_any (s : ByteArray) (w : World) (hs : s.size ≤ 1048576) :
  Calls Tryz.prog 212 #[.string s] w fun e w' => Tells e (NameOk s) ∧ w' = w := by
 by_cases c1 : s.size < 1
 ·have N := hid (show ¬ NameOk s from fun h => by have := h.1; omega)
  have D : decide ((s.size : Int) < 1) = true := by simp; omega
  go_enter Tryz.func212, Tryz.ntmps212
  go_wp2
  go_ret
  exact ⟨Tells.no N.out, rfl⟩
 by_cases c2 : 6 < s.size
 ·have N := hid (show ¬ NameOk s from fun h => by have := h.2.1; omega)
  have D1 : decide ((s.size : Int) < 1) = false := by simp; omega
  have D : decide ((6 : Int) < (s.size : Int)) = true := by simp; omega
  go_enter Tryz.func212, Tryz.ntmps212
  go_wp2
  go_ret
  exact ⟨Tells.no N.out, rfl⟩
 have D1 : decide ((s.size : Int) < 1) = false := by simp; omega
 have D2 : decide ((6 : Int) < (s.size : Int)) = false := by simp; omega
 have h0 : 0 < s.size := by omega
 by_cases c3 : 48 ≤ (s[0].toNat : Int) ∧ (s[0].toNat : Int) ≤ 57
 ·have N := hid (show ¬ NameOk s from fun h => h.2.2.1 h0 c3)
  have cD := hid (fun w => isDigit_yes (s[0].toNat : Int) w c3.1 c3.2)
  clear c3
  go_enter Tryz.func212, Tryz.ntmps212
  go_wp2_with fail
  refine (cD.out _).mono ?_
  rintro e w1 ⟨rfl, rfl⟩
  go_wp2
  go_ret
  exact ⟨Tells.no N.out, rfl⟩
 have C3 := hid c3
 have cD := hid (fun w => isDigit_no (s[0].toNat : Int) w (by omega))
 clear c3
 go_enter Tryz.func212, Tryz.ntmps212
 go_wp2_with fail
 refine (cD.out _).mono ?_
 rintro e w1 ⟨rfl, rfl⟩
 go_wp2_with fail
 go_loop [3] (fun i => ∃ k : Nat, k ≤ s.size ∧ i = .int .i64 k ∧ ∀ j (hj : j < s.size), j < k → Chr (s[j].toNat : Int)) (fun i => s.size - (intOf i).toNat)
 case atStart => exact ⟨0, Nat.zero_le _, rfl, fun j _ hj => absurd hj (Nat.not_lt_zero j)⟩
 case round =>
  obtain ⟨k, hk, rfl, hall⟩ := hrel
  have HA := hid hall
  clear hall
  by_cases hlt : k < s.size
  ·have cM := hid (fun w => mayHave_any (s[k].toNat : Int) w (by omega))
   go_wp2_with fail
   refine (cM.out _).mono ?_
   rintro e w1 ⟨t1, rfl⟩
   rcases t1.split with ⟨rfl, p1⟩ | ⟨rfl, p1⟩ <;> clear t1 cM
   ·have N := hid (show ¬ NameOk s from fun h => p1.out (h.2.2.2 k hlt))
    go_wp2
    go_ret
    exact ⟨Tells.no N.out, rfl⟩
   ·go_wp2
    go_round
    case rel => exact ⟨k + 1, by omega, by go_num, fun j hj hjk => (Nat.lt_succ_iff_lt_or_eq.1 hjk).elim (fun h => HA.out j hj h) (fun h => by subst h; exact p1.out)⟩
    case measure => simp [intOf]; omega
  ·go_wp2
   go_ret
   exact ⟨Tells.yes ⟨by omega, by omega, fun _ => C3.out, fun i hi => HA.out i hi (by omega)⟩, rfl⟩

/-- a list of symbols at ao -/
def SymsIn (w : World) (ao : Option Addr) (ys : List Lk.Sym) : Prop :=
 0 < ys.length → ∃ g, ao = some ⟨g, 0, none⟩ ∧ g < w.heap.size ∧ ∀ i (h : i < ys.length), w.cell? ⟨g, i * 4, none⟩ = some (.string (bs ys[i].name)) ∧ w.cell? ⟨g, i * 4 + 1, none⟩ = some (.int .i64 ys[i].bind) ∧
  w.cell? ⟨g, i * 4 + 2, none⟩ = some (.int .i64 ys[i].sect) ∧ w.cell? ⟨g, i * 4 + 3, none⟩ = some (.int .i64 ys[i].off)

theorem flat_get {α : Type} (f : α → List Value) (size : Nat) (hf : ∀ x, (f x).length = size) (l : List α) (i j : Nat) (hi : i < l.length) (hj : j < size) : (l.flatMap f)[i * size + j]? = (f l[i])[j]? := by
 induction l generalizing i with
 | nil => simp at hi
 | cons x t ih =>
  rw [List.flatMap_cons]
  cases i with
  | zero =>
   rw [List.getElem?_append_left (by rw [hf]; omega)]
   simp
  | succ i =>
   rw [List.getElem?_append_right (by rw [hf, Nat.succ_mul]; omega), hf]
   have : (i + 1) * size + j - size = i * size + j := by rw [Nat.succ_mul]; omega
   rw [this, ih i (by simpa using hi)]
   simp

theorem SymsIn.of_own {w : World} {base : Nat} {ao : Option Addr} {n cap : Nat} {ys : List Lk.Sym} (h : w.ownsRow base 124 4 (.slice ao n cap) n (ys.flatMap symV)) : SymsIn w ao ys := by
 intro h0
 have hl : (ys.flatMap symV).length = ys.length * 4 := by
  clear h h0
  induction ys with
  | nil => rfl
  | cons y t ih => rw [List.flatMap_cons, List.length_append, ih]; simp [symV]; omega
 have hn : ys.length = n := by have := h.1; omega
 have hlt := h.lt
 rcases h.2 with ⟨h1, h2⟩ | ⟨g, cap', cur, hv, _⟩
 ·simp at h1; omega
 ·simp only [Value.slice.injEq] at hv
  obtain ⟨rfl, _, rfl⟩ := hv
  refine ⟨g, rfl, (hlt g rfl).2, fun i hi => ?_⟩
  have q := fun j (hj : j < 4) => (h.cellAt (i * 4 + j) (by omega)).trans (flat_get symV 4 (fun _ => rfl) ys i j hi hj)
  exact ⟨q 0 (by omega), q 1 (by omega), q 2 (by omega), q 3 (by omega)⟩

theorem SymsIn.grown {w w' : World} {ao : Option Addr} {ys : List Lk.Sym} (h : SymsIn w ao ys) (hg : w.grownBy w' none) : SymsIn w' ao ys := by
 intro h0
 obtain ⟨g, h1, h2, h3⟩ := h h0
 refine ⟨g, h1, Nat.lt_of_lt_of_le h2 hg.size, fun i hi => ?_⟩
 obtain ⟨a, b, c, d⟩ := h3 i hi
 exact ⟨hg.cell a (by simp), hg.cell b (by simp), hg.cell c (by simp), hg.cell d (by simp)⟩

set_option maxHeartbeats 1000000 in
theorem named_any (ao : Option Addr) (cap : Nat) (ys : List Lk.Sym) (nm : List UInt8) (w : World) (h : SymsIn w ao ys) (hn : ys.length ≤ 65535) :
  Calls Tryz.prog 174 #[.slice ao ys.length cap, .string (bs nm)] w fun e w' => Tells e (∃ i, ∃ h : i < ys.length, ys[i].name = nm) ∧ w.grownBy w' none := by
 have H := hid h
 clear h
 go_enter Tryz.func174, Tryz.ntmps174
 go_wp2
 go_loopw [9] (fun i wr => ∃ k : Nat, k ≤ ys.length ∧ i = .int .i64 k ∧ (∀ j (hj : j < ys.length), j < k → ys[j].name ≠ nm) ∧ w.grownBy wr none) (fun i _ => ys.length - (intOf i).toNat)
 case atStart => exact ⟨0, Nat.zero_le _, rfl, fun j _ hj => absurd hj (Nat.not_lt_zero j), World.grownBy.refl _ _⟩
 case round =>
  obtain ⟨k, hk, rfl, hall, hgr⟩ := hrel
  have HA := hid hall
  have HG := hid hgr
  clear hall hgr
  by_cases hlt : k < ys.length
  ·obtain ⟨g, rfl, hgs, hc⟩ := H.out.grown HG.out (by omega)
   obtain ⟨k0, k1, k2, k3⟩ := hc k hlt
   clear hc
   by_cases e1 : ys[k].name = nm
   ·have E := hid e1
    have b1 : ((bs ys[k].name).toList == (bs nm).toList) = true := by rw [e1]; simp
    clear e1
    go_wp2
    go_ret
    exact ⟨Tells.yes ⟨k, hlt, E.out⟩, grown_trans HG.out (World.grownBy_alloc _ _ _)⟩
   ·have E := hid e1
    have b1 : ((bs ys[k].name).toList == (bs nm).toList) = false := by rw [toList_bs, toList_bs]; simpa using e1
    clear e1
    go_wp2
    go_roundw
    case rel => exact ⟨k + 1, by omega, by go_num, fun j hj hjk => (Nat.lt_succ_iff_lt_or_eq.1 hjk).elim (fun h => HA.out j hj h) (fun h => by subst h; exact E.out), grown_trans HG.out (World.grownBy_alloc _ _ _)⟩
    case measure => simp [intOf]; omega
  ·go_wp2
   go_ret
   exact ⟨Tells.no (fun ⟨i, hi, h⟩ => HA.out i hi (by omega) h), HG.out⟩

end Go.Proofs.YtnfgdlkiialnnaaGreatDoor
